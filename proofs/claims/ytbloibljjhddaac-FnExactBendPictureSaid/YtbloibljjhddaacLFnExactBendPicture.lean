/-
  FnExactBendPicture: for every input this law of the program returns true, and each argument reads as before. No condition.
-/
import Derived.Test.YtbloibljjhddaacRows
import Derived.Test.YtbloibljjhddaacRow
import Derived.Test.YtbloibljjhddaacTi
import Derived.Test.YtbloibljjhddaacOw
import Derived.Test.YtbloibljjhddaacAp
import Derived.ProofKit
import Derived.OpenShut
import Derived.ShutString
import Derived.ChangeOld
import Derived.Below
import Derived.Lib.Hide
import Derived.Outline
import Derived.Deep.RegionHeld3
import Derived.Deep.DeepCutAuto
set_option linter.unusedSimpArgs false
set_option linter.unusedVariables false
set_option exponentiation.threshold 2000
set_option maxRecDepth 20000
set_option maxHeartbeats 4000000
namespace Go.Proofs.Ytbloibljjhddaac.fnExactBendPicture
open Go Go.Proofs.Ytbloibljjhddaac Go.Proofs
open Go.ChangeShapes Go.WideShapes Go.ChangeAt Go.RowKit
open Go.ChangeMaps (open_string shut_string)
/-! ### szPicture -/
theorem c_szF (a : Option Addr) (len cap : Nat) (L : Int) (w : World) (h : (len : Int) ≤ L) (hL : L ≤ 1048576) : Calls Try.prog 120 #[.slice a len cap, .int .i64 L] w (fun e w' => e = .returned (.int .i64 (L - (len : Int))) ∧ w' = w) := by
  have h' : ¬ (L - (len : Int) < 0) := by omega
  go_enter Try.func120, Try.ntmps120
  go_wp2
  go_ret
  exact ⟨rfl, rfl⟩
theorem c_szF_no (a : Option Addr) (len cap : Nat) (L : Int) (w : World) (h : L < len) (hL : 0 ≤ L) (hm : len ≤ 9223372036854775807) : Calls Try.prog 120 #[.slice a len cap, .int .i64 L] w (fun e w' => e = .returned (.int .i64 (-1)) ∧ w' = w) := by
  have h' : L - (len : Int) < 0 := by omega
  go_enter Try.func120, Try.ntmps120
  go_wp2
  go_ret
  exact ⟨rfl, rfl⟩
theorem c_szP (W H : Int) (a : Option Addr) (len cap : Nat) (L : Int) (w : World) (h : (len : Int) ≤ L) (hL : L ≤ 1048576) : Calls Try.prog 43 #[.agg #[.int .i64 W, .int .i64 H, .slice a len cap], .int .i64 L] w (RetB (.int .i64 (L - (len : Int))) w) := by
  have h' : ¬ (L - (len : Int) < 0) := by omega
  go_enter Try.func43, Try.ntmps43
  go_wp2_with (go_at_call 120; refine (c_szF a len cap L _ h hL).mono ?_; rintro _ _ ⟨rfl, rfl⟩)
  go_ret
  exact ⟨rfl, (Below.refl _ _).alloc (Nat.le_refl _) _⟩
theorem c_szP_no (W H : Int) (a : Option Addr) (len cap : Nat) (L : Int) (w : World) (h : L < len) (hL : 0 ≤ L ∧ len ≤ 9223372036854775807) : Calls Try.prog 43 #[.agg #[.int .i64 W, .int .i64 H, .slice a len cap], .int .i64 L] w (RetB (.int .i64 (-1)) w) := by
  go_enter Try.func43, Try.ntmps43
  go_wp2_with (go_at_call 120; refine (c_szF_no a len cap L _ h hL.1 hL.2).mono ?_; rintro _ _ ⟨rfl, rfl⟩)
  go_ret
  exact ⟨rfl, (Below.refl _ _).alloc (Nat.le_refl _) _⟩
/-! ### toOwn -/
theorem infoFo : (Try.prog.info? 31).map (fun i => (i.zero, i.size, i.bytes)) = some (some (.float .f32 0), 1, 4) := by kernel_rfl
theorem c_toO (a : Option Addr) (len cap : Nat) (zs : List Nat) (w : World) (hr : IsRowF .f32 w a len cap zs) (hl : len ≤ 1048576) : Calls Try.prog 51 #[.slice a len cap] w (NewO 31 len zs w) := by
  obtain ⟨i0, hi, hz0, hz1, hz2⟩ := info_parts infoFo
  obtain ⟨h1, h2, h3, h4, h5⟩ := hr
  go_enter Try.func51, Try.ntmps51
  go_wp2_with (at_make; refine wpList_make_full _ rfl _ _ 24 rfl w.heap.size 31 i0 (.float .f32 0) 1 Try.underlying24 hi hz0 hz1 _ _ _ _ len rfl rfl rfl rfl (by rw [hz2]; omega) (by unfold maxLen; omega) (by simp) ?_; intro w1 hown hgrow)
  have hblk := block_of_owns hown
  have e0 : (madeCells (Value.float FloatKind.f32 0).cells (len * 1)).toList = List.replicate len (.float .f32 0) := by rw [Nat.mul_one]; exact made_zeros _ _
  rw [e0] at hblk
  have hbel : Below w.heap.size w w1 := (Below.refl _ _).grown hgrow (Nat.le_refl _) (by simp)
  have HB := Lib.hid hblk
  clear hown hgrow hblk e0 hz0 hz1 hz2
  go_loopw [4] (fun i wr => ∃ j : Nat, j ≤ len ∧ i = .int .i64 j ∧ Below w.heap.size w wr ∧ wr.heap[w.heap.size]? = some (.cells (fl .f32 (zs.take j) ++ List.replicate (zs.length - j) (Value.float .f32 0)).toArray 31 (0, 0))) (fun i _ => len - (intOf i).toNat)
  case atStart => exact ⟨0, Nat.zero_le _, rfl, hbel, by rw [HB.out, h1]; rfl⟩
  case round =>
    obtain ⟨j, hj, rfl, hb, hblk⟩ := hrel
    have Hblk := Lib.hid hblk
    clear hblk
    by_cases hlt : j < len
    · rcases h5 with h5 | ⟨b, off, rfl, hbl, hc⟩
      · omega
      have hcell : wr.cell? ⟨b, off + j, none⟩ = some (.float .f32 (fat zs j)) := by rw [hb.cell (p := ⟨b, off + j, none⟩) hbl]; exact hc j hlt
      have hold : wr.cell? ⟨w.heap.size, j, none⟩ = some (.float .f32 0) := by
        rw [cell_of_block Hblk.out, List.getElem?_append_right (by simp [fl]; omega)]
        have e : (fl FloatKind.f32 (List.take j zs)).length = j := by simp [fl]; omega
        rw [e, Nat.sub_self, List.getElem?_replicate, if_pos (by omega)]
      have hfz : wr.frozen? ⟨w.heap.size, j, none⟩ = false := frozen_of_block Hblk.out j
      have hset := block_set Hblk.out j (.float .f32 (fat zs j))
      rw [set_step zs _ j (by omega)] at hset
      have Hset := Lib.hid hset
      clear hset hc
      go_wp2
      go_roundw
      case rel => exact ⟨j + 1, by omega, by go_num, hb.setCell (Nat.le_refl _) _, Hset.out⟩
      case measure => simp [intOf]; omega
    · obtain rfl : j = len := by omega
      have e1 : fl .f32 (zs.take j) ++ List.replicate (zs.length - j) (Value.float .f32 0) = fl .f32 zs := by rw [h1, Nat.sub_self, List.replicate_zero, List.append_nil, List.take_of_length_le (by omega)]
      have hblk2 := Hblk.out
      rw [e1] at hblk2
      have hown : Own 31 wr w.heap.size (some ⟨w.heap.size, 0, none⟩) j j zs :=
        ⟨h1, ⟨by simp [fl, h1], .inr ⟨w.heap.size, j, _, rfl, Nat.le_refl _, hblk2, Nat.le_refl _, by unfold maxLen; omega, by simp [fl, h1], by rw [List.take_of_length_le (by simp [fl, h1])]⟩⟩, h4⟩
      have HO := Lib.hid hown
      clear hown hblk2 e1
      go_wp2
      go_ret
      exact ⟨w.heap.size, rfl, hb, HO.out⟩
/-! ### toPicture -/
theorem c_toP (W H : Int) (a : Option Addr) (len cap : Nat) (zs : List Nat) (w : World) (hr : IsRowF .f32 w a len cap zs) (hl : len ≤ 1048576) : Calls Try.prog 45 #[.agg #[.int .i64 W, .int .i64 H, .slice a len cap]] w (NewP 31 W H zs w) := by
  have HR := Lib.hid hr
  have HL := Lib.hid hr.1
  clear hr
  go_enter Try.func45, Try.ntmps45
  go_wp2_with fail
  refine (c_toO a len cap zs _ (HR.out.below ((((Below.refl _ _).alloc (Nat.le_refl _) _).alloc (by simp) _).alloc (by simp; omega) _)) hl).mono ?_
  rintro _ w1 ⟨g, rfl, hb, hown⟩
  obtain ⟨hc, hf⟩ := bcell hb
  have hz : w.heap.size + 1 + 1 < w1.heap.size := by have := hb.size; simp at this; omega
  have hg' : w.heap.size + 1 + 1 < g := by have := hown.lt.1; simp at this; omega
  have HB := Lib.hid hb
  have HO := Lib.hid hown
  clear hb hown
  go_wp2_with fail
  refine bodyPost_ret (v := .agg #[.int .i64 W, .int .i64 H, .slice (some ⟨g, 0, none⟩) len len]) (by simp [results, Try.results45, hc, hz, go_sem]) rfl ⟨g, by rw [HL.out], ?_, ?_⟩
  · exact ((((((((Below.refl _ _).alloc (Nat.le_refl _) _).alloc (by simp) _).alloc (by simp; omega) _).trans (HB.out.mono (by simp; omega))).setCell (by simp; omega) _).setCell (by simp) _).setCell (by simp) _).setCell (by simp) _
  · rw [HL.out]
    exact ((((HO.out.setCell (by simp [blk]; omega) _).setCell (by simp [blk]; omega) _).setCell (by simp [blk]; omega) _).setCell (by simp [blk]; omega) _).mono (by simp; omega)
/-! ### sameFloat -/
theorem c_sameFloat (v n m : Nat) (w : World) (j : Nat) : Calls Try.prog 64 #[.float .f64 (pick .f64 v n), .float .f64 (pick .f64 v m)] (w.drewN j) (RetV (.bool true) w) := by
  have hs := self_ne .f64 v
  have ht := self_eq .f64 v
  cases h : isN .f64 v
  · rw [h] at hs ht
    cases h2 : (FloatKind.f64.format.order v 0 == some .eq)
    · go_enter Try.func64, Try.ntmps64
      go_wp2_with (first | (refine wpList_fop rfl _ _ _ _ _ rfl _ _ _ rfl rfl (by decide) _ ?_; intro _ _) | (refine upon_fop _ _ _ _ _ (by decide) ?_; intro _ _))
      go_ret
      exact ⟨_, rfl, rfl⟩
    · go_enter Try.func64, Try.ntmps64
      go_wp2_with (first | (refine wpList_fop rfl _ _ _ _ _ rfl _ _ _ rfl rfl (by decide) _ ?_; intro _ _) | (refine upon_fop _ _ _ _ _ (by decide) ?_; intro _ _))
      go_ret
      exact ⟨_, by simp, rfl⟩
  · rw [h] at hs ht
    go_enter Try.func64, Try.ntmps64
    go_wp2_with (first | (refine wpList_fop rfl _ _ _ _ _ rfl _ _ _ rfl rfl (by decide) _ ?_; intro _ _) | (refine upon_fop _ _ _ _ _ (by decide) ?_; intro _ _))
    go_ret
    exact ⟨_, rfl, rfl⟩

/-! ### eqFloat32S -/
theorem c_eqF (a b : Option Addr) (len c d : Nat) (zs : List Nat) (w : World) (j0 : Nat) (hr : IsRowF .f32 w a len c zs) (hs : IsRowF .f32 w b len d zs) : Calls Try.prog 53 #[.slice a len c, .slice b len d] (w.drewN j0) (RetV (.bool true) w) := by
  obtain ⟨h1, h2, h3, h4, h5⟩ := hr
  obtain ⟨g1, g2, g3, g4, g5⟩ := hs
  unfold maxLen at h3
  go_enter Try.func53, Try.ntmps53
  go_wp2
  go_loopw [5] (fun i wr => ∃ k m : Nat, k ≤ len ∧ i = .int .i64 k ∧ wr = w.drewN m) (fun i _ => len - (intOf i).toNat)
  case atStart => exact ⟨0, j0, Nat.zero_le _, rfl, rfl⟩
  case round =>
    obtain ⟨k, m, hk, rfl, rfl⟩ := hrel
    by_cases hlt : k < len
    · rcases h5 with h5 | ⟨x, off, rfl, hbl, hc⟩
      · omega
      rcases g5 with g5 | ⟨y, off2, rfl, gbl, gc⟩
      · omega
      have hcell : w.cell? ⟨x, off + k, none⟩ = some (.float .f32 (fat zs k)) := hc k hlt
      have gcell : w.cell? ⟨y, off2 + k, none⟩ = some (.float .f32 (fat zs k)) := gc k hlt
      clear hc h4 gc g4
      go_wp2
      refine wp_region_N (fun _ _ u => u = .bool true) (by kernel_rfl) (by kernel_rfl) ?_; (repeat (first | ((with_reducible show wpN _ _ _ _ _ (Oper.mk _ (Op.binOp _ _ _ _ _) _ _ _ none :: _) _); refine wpN_fop rfl _ _ _ _ _ rfl _ _ _ rfl rfl (by decide) ?_; intro _) | ((with_reducible show wpN _ _ _ _ _ (Oper.mk _ (Op.convert _ _ _) _ _ _ none :: _) _); refine wpN_cvU rfl 31 38 _ rfl (Option.isSome_iff_exists.2 ⟨_, Try.underlying31⟩) Try.underlying38 _ rfl ?_; intro _) | ((with_reducible show wpN _ _ _ _ _ (Oper.mk _ _ _ _ _ (some _) :: _) _); (with_reducible refine wpN_off ?_ ?_); focus rfl; (simp only [Act.put, List.setIfInBounds_toArray, List.set_cons_zero, List.set_cons_succ])) | ((with_reducible show wpN _ _ _ _ _ (Oper.mk _ _ _ _ _ (some _) :: _) _); ((with_reducible refine wpN_on ?_ (fun K hK => ?_)); (focus rfl); intro _; go_simp; first | (refine uponN_value (hK _ ?_)) | ((refine uponN_call (callN rfl (c_sameFloat _ _ _ _ _)) ?_; intro u hu; obtain rfl : u = _ := hu); refine hK _ ?_)); clear hK K) | (((with_reducible refine wpN_plain rfl (fun K hK => ?_)); intro _; go_simp; first | (refine uponN_value (hK _ ?_)) | ((refine uponN_call (callN rfl (c_sameFloat _ _ _ _ _)) ?_; intro u hu; obtain rfl : u = _ := hu); refine hK _ ?_)); clear hK K) | ((with_reducible refine wpN_step (fun K hK => ?_)); go_simp; first | (refine hK _ ?_) | (intro _; first | (refine uponN_value (hK _ ?_)) | ((refine uponN_call (callN rfl (c_sameFloat _ _ _ _ _)) ?_; intro u hu; obtain rfl : u = _ := hu); refine hK _ ?_)); clear hK K))); refine wpN_nil ?_; intro _
      go_wp2
      go_roundw
      case rel => exact ⟨k + 1, _, by omega, by go_num, rfl⟩
      case measure => simp [intOf]; omega
    · clear h5 h4 g4 g5
      go_wp2
      go_ret
      exact ⟨_, rfl, rfl⟩
/-! ### eqPicture -/
theorem c_eqF0 (a b : Option Addr) (len c d : Nat) (zs : List Nat) (w : World) (hr : IsRowF .f32 w a len c zs) (hs : IsRowF .f32 w b len d zs) : Calls Try.prog 53 #[.slice a len c, .slice b len d] w (RetV (.bool true) w) := by
  have h := c_eqF a b len c d zs w 0 hr hs
  rwa [w.drewN_zero] at h
theorem c_eqP (W H : Int) (a b : Option Addr) (len c d : Nat) (zs : List Nat) (w : World) (hr : IsRowF .f32 w a len c zs) (hs : IsRowF .f32 w b len d zs) : Calls Try.prog 47 #[.agg #[.int .i64 W, .int .i64 H, .slice a len c], .agg #[.int .i64 W, .int .i64 H, .slice b len d]] w (RetB (.bool true) w) := by
  have HR := Lib.hid hr
  have HS := Lib.hid hs
  clear hr hs
  go_enter Try.func47, Try.ntmps47
  go_wp2_with fail
  refine (c_eqF0 a b len c d zs _ ((HR.out.alloc _).alloc _) ((HS.out.alloc _).alloc _)).mono ?_
  rintro _ _ ⟨m, rfl, rfl⟩
  go_wp2_with fail
  go_ret
  exact ⟨rfl, below_drewN (((Below.refl _ _).alloc (Nat.le_refl _) _).alloc (by simp) _) _⟩
/-! ### markFloat32S -/
theorem c_markF {T : TypeId} (B : Nat) (a : Option Addr) (len cap k : Nat) (zs : List Nat) (w : World) (hr : Own T w B a len cap zs) (hk : k + len ≤ 4611686018427387904) : Calls Try.prog 54 #[.slice a len cap, .int .i64 k] w (fun e w' => e = .returned (.int .i64 ((k + len : Nat) : Int)) ∧ w.grownBy w' (blk a) ∧ Own T w' B a len cap (marks k len)) := by
  rcases hr.parts with ⟨rfl, rfl, rfl, rfl⟩ | ⟨g, cur, rfl, hb, hg, hl, hm, hs, ht⟩
  · clear hr
    go_enter Try.func54, Try.ntmps54
    go_wp2
    refine wp_loop_rounds 1 ?_; rw [rounds_succ]
    go_wp2
    go_ret
    exact ⟨rfl, ⟨rfl, rfl, rfl, Nat.le_refl _, fun _ _ _ => rfl⟩, Own.nil _ _ _⟩
  · have h0 : Marked w g T cap k 0 := ⟨cur, hg, hs, fun i hi => by omega⟩
    have H0 := Lib.hid h0
    unfold maxLen at hm
    clear hr hg hs ht h0
    go_enter Try.func54, Try.ntmps54
    go_wp2
    go_loopw [1, 5] (fun t i wr => ∃ j : Nat, j ≤ len ∧ i = .int .i64 j ∧ t = .int .i64 ((k + j : Nat) : Int) ∧ w.grownBy wr (some g) ∧ Marked wr g T cap k j) (fun _ i _ => len - (intOf i).toNat)
    case atStart => exact ⟨0, Nat.zero_le _, rfl, rfl, ⟨rfl, rfl, rfl, Nat.le_refl _, fun _ _ _ => rfl⟩, H0.out⟩
    case round =>
      obtain ⟨j, hj, rfl, rfl, hgr, hM⟩ := hrel
      by_cases hlt : j < len
      · obtain ⟨v, hcell, hfz⟩ := hM.cell (j := j) (by omega)
        have hM2 := Lib.hid (hM.step (by omega : j < cap))
        have hG2 := Lib.hid hgr
        clear hM hgr
        go_wp2
        go_roundw
        case rel => exact ⟨j + 1, by omega, by go_num, by go_num, ⟨hG2.out.os, hG2.out.tape, hG2.out.output, by have := hG2.out.size; simpa using this, fun k' h1 h2 => by rw [Below.heap_setCell _ _ _ _ (fun e => h2 (by rw [e]))]; exact hG2.out.block k' h1 h2⟩, hM2.out⟩
        case measure => simp [intOf]; omega
      · obtain rfl : j = len := by omega
        have hO := Lib.hid (hM.own (B := B) hb hl (by unfold maxLen; omega))
        have hG2 := Lib.hid hgr
        clear hM hgr
        go_wp2
        go_ret
        exact ⟨rfl, hG2.out, hO.out⟩
/-! ### heldFloat32S -/
theorem c_heldF (a : Option Addr) (len cap k : Nat) (w : World) (hr : IsRowF .f32 w a len cap (marks k len)) (hk : k + len ≤ 4611686018427387904) : Calls Try.prog 126 #[.slice a len cap, .int .i64 k] w (fun e w' => e = .returned (.int .i64 ((k + len : Nat) : Int)) ∧ w' = w) := by
  obtain ⟨h1, h2, h3, h4, h5⟩ := hr
  unfold maxLen at h3
  clear h1 h4
  go_enter Try.func126, Try.ntmps126
  go_wp2
  go_loop [1, 5] (fun t i => ∃ j : Nat, j ≤ len ∧ i = .int .i64 j ∧ t = .int .i64 ((k + j : Nat) : Int)) (fun _ i => len - (intOf i).toNat)
  case atStart => exact ⟨0, Nat.zero_le _, rfl, rfl⟩
  case round =>
    obtain ⟨j, hj, rfl, rfl⟩ := hrel
    by_cases hlt : j < len
    · rcases h5 with h5 | ⟨b, off, rfl, hbl, hc⟩
      · omega
      have hcell : w.cell? ⟨b, off + j, none⟩ = some (.float .f32 (markN k j)) := by rw [← marks_at k len j hlt]; exact hc j hlt
      have hne : (FloatKind.f32.format.order (markN k j) (markN k j) != some .eq) = false := by rw [self_ne]; exact markN_notN k j
      have hE : floatOfInt .f32 ((k : Int) + (j : Int)) = markN k j := by unfold markN; rw [Int.natCast_add]
      have hne2 : (FloatKind.f32.format.order (markN k j) (floatOfInt .f32 ((k : Int) + (j : Int))) != some .eq) = false := (congrArg (fun x => FloatKind.f32.format.order (markN k j) x != some .eq) hE).trans hne
      clear hE
      clear hc
      go_wp2
      go_round
      case rel => exact ⟨j + 1, by omega, by go_num, by go_num⟩
      case measure => simp [intOf]; omega
    · obtain rfl : j = len := by omega
      clear h5
      go_wp2
      go_ret
      exact ⟨rfl, rfl⟩
/-! ### markPicture -/
theorem c_markP (W H : Int) (B : Nat) (a : Option Addr) (len cap k : Nat) (zs : List Nat) (w : World) (hr : Own 31 w B a len cap zs) (hk : k + len ≤ 4611686018427387904) : Calls Try.prog 48 #[.agg #[.int .i64 W, .int .i64 H, .slice a len cap], .int .i64 k] w (fun e w' => e = .returned (.int .i64 ((k + len : Nat) : Int)) ∧ w.grownBy w' (blk a) ∧ Own 31 w' B a len cap (marks k len)) := by
  have HR := Lib.hid hr
  clear hr
  go_enter Try.func48, Try.ntmps48
  go_wp2_with fail
  refine (c_markF B a len cap k zs _ (HR.out.alloc _) hk).mono ?_
  rintro _ w1 ⟨rfl, hg, hO⟩
  have HG := Lib.hid hg
  have HO := Lib.hid hO
  clear hg hO
  go_wp2_with fail
  go_ret
  exact ⟨rfl, ⟨HG.out.os, HG.out.tape, HG.out.output, by have := HG.out.size; simp at this; omega, fun k' h1 h2 => by rw [HG.out.block k' (by simp; omega) h2]; exact Below.heap_alloc _ _ _ h1⟩, HO.out⟩
theorem c_heldP (W H : Int) (a : Option Addr) (len cap k : Nat) (w : World) (hr : IsRowF .f32 w a len cap (marks k len)) (hk : k + len ≤ 4611686018427387904) : Calls Try.prog 49 #[.agg #[.int .i64 W, .int .i64 H, .slice a len cap], .int .i64 k] w (RetB (.int .i64 ((k + len : Nat) : Int)) w) := by
  have HR := Lib.hid hr
  clear hr
  have h0 : 0 ≤ ((k + len : Nat) : Int) := by omega
  go_enter Try.func49, Try.ntmps49
  go_wp2_with fail
  refine (c_heldF a len cap k _ (HR.out.alloc _) hk).mono ?_
  rintro _ w1 ⟨rfl, rfl⟩
  go_wp2_with fail
  go_ret
  exact ⟨rfl, (Below.refl _ _).alloc (Nat.le_refl _) _⟩

/-! ### l02Own -/
theorem infoFw : (Try.prog.info? 31).map (fun i => (i.zero, i.size, i.bytes)) = some (some (.float .f32 0), 1, 4) := by kernel_rfl
theorem c_l02Own (W H : Int) (x : Nat) (a : Option Addr) (cap : Nat) (zs : List Nat) (w : World) (hv : Var w x #[.int .i64 W, .int .i64 H, .slice a zs.length cap]) (hr : IsRowF .f32 w a zs.length cap zs) (h1 : 1 ≤ zs.length) (hl : zs.length ≤ 1048576) :
    Calls Try.prog 129 #[.pointer (some ⟨x, 0, none⟩)] w (fun e w' => ∃ a' c', e = .returned (.agg #[.int .i64 W, .int .i64 H, .slice a' zs.length c']) ∧ Below w.heap.size w w' ∧ Own 31 w' w.heap.size a' zs.length c' zs) := by
  obtain ⟨N, hN⟩ : ∃ N, N = zs.length := ⟨_, rfl⟩
  rw [← hN] at hv hr h1 hl ⊢
  clear hN
  generalize hw0 : w.alloc (Obj.cells #[.int .i64 0, .int .i64 0, .slice none 0 0] 26) = w0
  have X0 : Var w0 w.heap.size #[.int .i64 0, .int .i64 0, .slice none 0 0] := by subst hw0; exact Var.new _ _ _
  have X1 : Free w0 w.heap.size := by subst hw0; exact Free.new _ _ _
  have X2 : Below w.heap.size w w0 := by subst hw0; exact (Below.refl _ _).alloc (Nat.le_refl _) _
  have X3 : w0.heap.size = w.heap.size + 1 := by subst hw0; simp
  have HW := Lib.hid hw0
  have V0 := Lib.hid X0
  have F0 := Lib.hid X1
  have B0 := Lib.hid X2
  have VX := Lib.hid (hv.below X2 hv.lt)
  have RX := Lib.hid (hr.below X2)
  clear hw0 X0 X1 X2 hv hr
  have KS := Lib.hid (fun (w' : World) (hE : Below w0.heap.size w0 w') => (VX.out.keep hE).three)
  obtain ⟨i0, hinf, hz0, hz1, hz2⟩ := info_parts infoFw
  go_enter Try.func129, Try.ntmps129
  go_wp2_with fail
  rw [HW.out]
  refine wp_region_facts 14 (fun a b => Below a.heap.size a b) (fun _ => Below.refl _ _) (fun _ _ _ h h' => h.trans (h'.mono h.size)) (Below.refl _ _).drew (by kernel_rfl) (by kernel_rfl) (by kernel_rfl) (by kernel_rfl) ?_
  simp only [List.take_succ_cons, List.take_zero, List.drop_succ_cons, List.drop_zero]
  (with_reducible apply wpF_val); (focus (intro vs w' hE hk; (obtain ⟨d0, d1, d2⟩ := KS.out w' hE); go_simp; exact ⟨Below.refl _ _, rfl⟩)); (simp only [Act.put, List.setIfInBounds_toArray, List.set_cons_zero, List.set_cons_succ, List.cons_append, List.nil_append])
  (with_reducible apply wpF_val); (focus (intro vs w' hE hk; (obtain ⟨d0, d1, d2⟩ := KS.out w' hE); go_simp; exact ⟨Below.refl _ _, rfl⟩)); (simp only [Act.put, List.setIfInBounds_toArray, List.set_cons_zero, List.set_cons_succ, List.cons_append, List.nil_append])
  (with_reducible apply wpF_val); (focus (intro vs w' hE hk; (obtain ⟨d0, d1, d2⟩ := KS.out w' hE); go_simp; exact ⟨Below.refl _ _, rfl⟩)); (simp only [Act.put, List.setIfInBounds_toArray, List.set_cons_zero, List.set_cons_succ, List.cons_append, List.nil_append])
  (with_reducible apply wpF_val); (focus (intro vs w' hE hk; (obtain ⟨d0, d1, d2⟩ := KS.out w' hE); go_simp; exact ⟨Below.refl _ _, rfl⟩)); (simp only [Act.put, List.setIfInBounds_toArray, List.set_cons_zero, List.set_cons_succ, List.cons_append, List.nil_append])
  (with_reducible apply wpF_val); (focus (intro vs w' hE hk; (obtain ⟨d0, d1, d2⟩ := KS.out w' hE); go_simp; exact ⟨Below.refl _ _, rfl⟩)); (simp only [Act.put, List.setIfInBounds_toArray, List.set_cons_zero, List.set_cons_succ, List.cons_append, List.nil_append])
  (with_reducible apply wpF_val); (focus (intro vs w' hE hk; (obtain ⟨d0, d1, d2⟩ := KS.out w' hE); go_simp; exact ⟨Below.refl _ _, rfl⟩)); (simp only [Act.put, List.setIfInBounds_toArray, List.set_cons_zero, List.set_cons_succ, List.cons_append, List.nil_append])
  (with_reducible apply wpF_val); (focus (intro vs w' hE hk; (obtain ⟨d0, d1, d2⟩ := KS.out w' hE); go_simp; exact ⟨Below.refl _ _, rfl⟩)); (simp only [Act.put, List.setIfInBounds_toArray, List.set_cons_zero, List.set_cons_succ, List.cons_append, List.nil_append])
  (with_reducible apply wpF_val); (focus (intro vs w' hE hk; (obtain ⟨d0, d1, d2⟩ := KS.out w' hE); go_simp; exact ⟨Below.refl _ _, rfl⟩)); (simp only [Act.put, List.setIfInBounds_toArray, List.set_cons_zero, List.set_cons_succ, List.cons_append, List.nil_append])
  refine wpF_fact (fun u _ => ∃ g, u = .slice (some ⟨g, 0, none⟩) 0 0) (fun _ _ _ h _ => h) (fun vs w' hE hk => ?_) ?_; (focus (go_simp; exact ⟨(Below.refl _ _).alloc (Nat.le_refl _) _, _, rfl⟩)); (simp only [Act.put, List.setIfInBounds_toArray, List.set_cons_zero, List.set_cons_succ, List.cons_append, List.nil_append])
  (with_reducible apply wpF_val); (focus (intro vs w' hE hk; (obtain ⟨d0, d1, d2⟩ := KS.out w' hE); go_simp; exact ⟨Below.refl _ _, rfl⟩)); (simp only [Act.put, List.setIfInBounds_toArray, List.set_cons_zero, List.set_cons_succ, List.cons_append, List.nil_append])
  (with_reducible apply wpF_val); (focus (intro vs w' hE hk; (obtain ⟨d0, d1, d2⟩ := KS.out w' hE); go_simp; exact ⟨Below.refl _ _, rfl⟩)); (simp only [Act.put, List.setIfInBounds_toArray, List.set_cons_zero, List.set_cons_succ, List.cons_append, List.nil_append])
  (with_reducible apply wpF_val); (focus (intro vs w' hE hk; (obtain ⟨d0, d1, d2⟩ := KS.out w' hE); go_simp; exact ⟨Below.refl _ _, rfl⟩)); (simp only [Act.put, List.setIfInBounds_toArray, List.set_cons_zero, List.set_cons_succ, List.cons_append, List.nil_append])
  (with_reducible apply wpF_val); (focus (intro vs w' hE hk; (obtain ⟨d0, d1, d2⟩ := KS.out w' hE); go_simp; exact ⟨Below.refl _ _, rfl⟩)); (simp only [Act.put, List.setIfInBounds_toArray, List.set_cons_zero, List.set_cons_succ, List.cons_append, List.nil_append])
  refine wpF_fact (fun u wx => ∃ a' c', u = .slice a' N c' ∧ Own 31 wx (w.heap.size + 1) a' N c' zs) (fun u wa wb h hE => by obtain ⟨a', c', h1, h2⟩ := h; exact ⟨a', c', h1, h2.below hE⟩) (fun vs w' hE hk => ?_) ?_; (focus (obtain ⟨g, hg⟩ := hk 8 (by kernel_rfl); simp only [hg]; rw [if_pos (by rfl)]; refine uponW_append _ _ _ rfl rfl rfl ?_; obtain ⟨v', w9, hrun, hb9, a', c', hv9, ho9⟩ := own_copy _ _ i0 _ Try.underlying24 hinf hz0 hz1 hz2 rfl g (RX.out.below hE) h1 hl; exact ⟨v', w9, hrun, hb9, a', c', hv9, ho9.mono (by have := hE.size; omega)⟩)); (simp only [Act.put, List.setIfInBounds_toArray, List.set_cons_zero, List.set_cons_succ, List.cons_append, List.nil_append])
  refine wpF_nil (fun vs w' hE hk => ?_)
  obtain ⟨a', c', hu, hO⟩ := hk 13
  simp only [hu]
  have V1 := Lib.hid (V0.out.keep hE)
  have F1 := Lib.hid (F0.out.below V0.out.lt hE)
  have BX := Lib.hid (B0.out.trans (hE.mono (by omega)))
  have HO := Lib.hid hO
  clear hE hk hu hO
  obtain ⟨q0, q1, q2⟩ := V1.out.three
  have f0 := F1.out 0
  have f1 := F1.out 1
  have f2 := F1.out 2
  go_wp2_with fail
  have hrow : blk a' ≠ some w.heap.size := fun e => by have := HO.out.in _ e; omega
  refine bodyPost_ret (v := .agg #[.int .i64 W, .int .i64 H, .slice a' N c']) (by simp [results, Try.results129, q0, q1, q2, go_sem]) rfl ⟨a', c', rfl, ((BX.out.setCell (by simp <;> omega) _).setCell (by simp <;> omega) _).setCell (by simp <;> omega) _, (((HO.out.setCell hrow _).setCell hrow _).setCell hrow _).mono (by omega)⟩
/-! ### picDefs -/
def sideB (W H : Int) : Bool := decide (1 ≤ W) && decide (W ≤ 16) && (decide (1 ≤ H) && decide (H ≤ 16))
def finL (zs : List Nat) : Bool := zs.all (finB .f32)
def validB (W H : Int) (zs : List Nat) : Bool := sideB W H && decide ((zs.length : Int) = W * H) && finL zs
theorem sideB_true {W H : Int} (h : sideB W H = true) : (1 ≤ W ∧ W ≤ 16) ∧ 1 ≤ H ∧ H ≤ 16 := by simpa [sideB, and_assoc] using h
theorem side_mul {W H : Int} (h : sideB W H = true) : 1 ≤ W * H ∧ W * H ≤ 256 := by
  obtain ⟨⟨h1, h2⟩, h3, h4⟩ := sideB_true h
  have : W * H ≤ 16 * 16 := Int.mul_le_mul h2 h4 (by omega) (by omega)
  have h5 : 1 * 1 ≤ W * H := Int.mul_le_mul h1 h3 (by omega) (by omega)
  omega
theorem sideB_false {W H : Int} (h : sideB W H = false) : W < 1 ∨ 16 < W ∨ H < 1 ∨ 16 < H := by
  simp [sideB] at h; omega
theorem finL_snoc (zs : List Nat) (k : Nat) (hk : k < zs.length) : finL (zs.take (k + 1)) = (finL (zs.take k) && finB .f32 (fat zs k)) := by
  unfold finL fat
  rw [List.take_succ_eq_append_getElem hk, List.all_append, List.getD, List.getElem?_eq_getElem hk]; simp
theorem finL_of (zs : List Nat) (k : Nat) (hk : k < zs.length) (h : finB .f32 (fat zs k) = false) : finL zs = false := by
  unfold finL
  rw [List.all_eq_false]
  refine ⟨zs[k], List.getElem_mem hk, ?_⟩
  unfold fat at h
  rw [List.getD, List.getElem?_eq_getElem hk] at h
  simpa using h
theorem pick0 (k : FloatKind) (v : Nat) (hv : v < 2 ^ k.format.width) : ∃ n, v = pick k v n := pick_onto k v hv
/-! ### l02Share -/
def one32 : Nat := 1065353216
def shareB (v : Nat) : Bool := (FloatKind.f32.format.order v 0 == some .gt || FloatKind.f32.format.order v 0 == some .eq) && (FloatKind.f32.format.order v one32 == some .lt || FloatKind.f32.format.order v one32 == some .eq)
theorem c_l02Share (v n : Nat) (w : World) (j : Nat) : Calls Try.prog 170 #[.float .f32 (pick .f32 v n)] (w.drewN j) (RetV (.bool (shareB v)) w) := by
  unfold shareB one32
  cases h : (FloatKind.f32.format.order v 0 == some .gt || FloatKind.f32.format.order v 0 == some .eq)
  all_goals
    have HH := Lib.hid h
    go_enter Try.func170, Try.ntmps170
    go_wp2
    go_ret
    exact ⟨_, by simp [HH.out], rfl⟩
/-! ### levDefs -/
def levL (zs : List Nat) : Bool := zs.all shareB
def shotB (W H : Int) (zs : List Nat) : Bool := validB W H zs && levL zs
theorem levL_snoc (zs : List Nat) (k : Nat) (hk : k < zs.length) : levL (zs.take (k + 1)) = (levL (zs.take k) && shareB (fat zs k)) := by
  unfold levL fat
  rw [List.take_succ_eq_append_getElem hk, List.all_append, List.getD, List.getElem?_eq_getElem hk]; simp
theorem levL_of (zs : List Nat) (k : Nat) (hk : k < zs.length) (h : shareB (fat zs k) = false) : levL zs = false := by
  unfold levL
  rw [List.all_eq_false]
  refine ⟨zs[k], List.getElem_mem hk, ?_⟩
  unfold fat at h
  rw [List.getD, List.getElem?_eq_getElem hk] at h
  simpa using h
/-! ### l00In -/
theorem c_l00In (x lo hi : Int) (w : World) (j : Nat) : Calls Try.prog 122 #[.int .i64 x, .int .i64 lo, .int .i64 hi] (w.drewN j) (RetV (.bool (decide (lo ≤ x) && decide (x ≤ hi))) w) := by
  by_cases h1 : lo ≤ x
  · by_cases h2 : x ≤ hi
    · have d1 : decide (lo ≤ x) = true := decide_eq_true h1
      have d2 : decide (x ≤ hi) = true := decide_eq_true h2
      go_enter Try.func122, Try.ntmps122
      go_wp2
      go_ret
      exact ⟨_, by simp [*], rfl⟩
    · have d1 : decide (lo ≤ x) = true := decide_eq_true h1
      have d2 : decide (x ≤ hi) = false := decide_eq_false h2
      go_enter Try.func122, Try.ntmps122
      go_wp2
      go_ret
      exact ⟨_, by simp [*], rfl⟩
  · have d1 : decide (lo ≤ x) = false := decide_eq_false h1
    go_enter Try.func122, Try.ntmps122
    go_wp2
    go_ret
    exact ⟨_, by simp [*], rfl⟩
/-! ### l02Sides -/
theorem c_l02Sides (W H : Int) (w : World) (j : Nat) : Calls Try.prog 84 #[.int .i64 W, .int .i64 H] (w.drewN j) (RetV (.bool (sideB W H)) w) := by
  unfold sideB
  cases hw : (decide (1 ≤ W) && decide (W ≤ 16))
  all_goals
    have HW := Lib.hid hw
    go_enter Try.func84, Try.ntmps84
    go_wp2_with (go_at_call 122; refine (c_l00In _ _ _ _ _).mono ?_; rintro _ _ ⟨_, rfl, rfl⟩)
    go_ret
    exact ⟨_, by simp [HW.out], rfl⟩
/-! ### l01Finite -/
theorem c_l01Finite (v n : Nat) (w : World) (j : Nat) : Calls Try.prog 139 #[.float .f32 (pick .f32 v n)] (w.drewN j) (RetV (.bool (finB .f32 v)) w) := by
  go_enter Try.func139, Try.ntmps139
  go_wp2_with (first | (refine wpList_fop rfl _ _ _ _ _ rfl _ _ _ rfl rfl (by decide) _ ?_; intro _ _) | (refine upon_fop _ _ _ _ _ (by decide) ?_; intro _ _))
  go_ret
  rw [← sub_self_zero]
  exact ⟨_, rfl, rfl⟩
/-! ### l02Finite -/
theorem c_l02Finite (a : Option Addr) (len cap : Nat) (zs : List Nat) (w : World) (j0 : Nat) (hr : IsRowF .f32 w a len cap zs) : Calls Try.prog 167 #[.slice a len cap] (w.drewN j0) (RetV (.bool (finL zs)) w) := by
  obtain ⟨h1, h2, h3, h4, h5⟩ := hr
  unfold maxLen at h3
  have H1 := Lib.hid h1
  clear h1
  go_enter Try.func167, Try.ntmps167
  go_wp2
  go_loopw [3] (fun i wr => ∃ k m : Nat, k ≤ len ∧ i = .int .i64 k ∧ wr = w.drewN m ∧ finL (zs.take k) = true) (fun i _ => len - (intOf i).toNat)
  case atStart => exact ⟨0, j0, Nat.zero_le _, rfl, rfl, rfl⟩
  case round =>
    obtain ⟨k, m, hk, rfl, rfl, hfin⟩ := hrel
    have HFin := Lib.hid hfin
    clear hfin
    by_cases hlt : k < len
    · rcases h5 with h5 | ⟨b, off, rfl, hbl, hc⟩
      · omega
      have hcell : w.cell? ⟨b, off + k, none⟩ = some (.float .f32 (fat zs k)) := hc k hlt
      obtain ⟨n, hn⟩ := pick0 .f32 (fat zs k) (lt_of_wf (h4 _ (by unfold fat; rw [List.getD, List.getElem?_eq_getElem (by have := H1.out; omega)]; exact List.getElem_mem _)))
      rw [hn] at hcell
      have HN := Lib.hid hn
      have HS := Lib.hid (finL_snoc zs k (by have := H1.out; omega))
      cases hf : finB .f32 (fat zs k)
      · have HO := Lib.hid (finL_of zs k (by have := H1.out; omega) hf)
        clear hc h4 hn
        go_wp2_with ((go_at_call 139; refine (c_l01Finite _ _ _ _).mono ?_; rintro _ _ ⟨_, rfl, rfl⟩))
        go_ret
        exact ⟨_, by rw [HO.out]; rfl, rfl⟩
      · have HF := Lib.hid hf
        clear hc h4 hn
        go_wp2_with ((go_at_call 139; refine (c_l01Finite _ _ _ _).mono ?_; rintro _ _ ⟨_, rfl, rfl⟩))
        go_roundw
        case rel => exact ⟨k + 1, _, by omega, by go_num, rfl, by rw [HS.out, HFin.out, HF.out]; rfl⟩
        case measure => simp [intOf]; omega
    · have e : zs.take k = zs := List.take_of_length_le (by have := H1.out; omega)
      have HE := Lib.hid e
      clear h5 h4 e
      go_wp2
      go_ret
      exact ⟨_, by have h := HFin.out; rw [HE.out] at h; rw [h]; rfl, rfl⟩
/-! ### l02Is -/
theorem c_l02Is (W H : Int) (b : Nat) (a : Option Addr) (len cap : Nat) (zs : List Nat) (w : World) (j0 : Nat) (hv : Var w b #[.int .i64 W, .int .i64 H, .slice a len cap]) (hr : IsRowF .f32 w a len cap zs) :
    Calls Try.prog 121 #[.pointer (some ⟨b, 0, none⟩)] (w.drewN j0) (RetV (.bool (validB W H zs)) w) := by
  obtain ⟨p0, p1, p2⟩ := hv.three
  have H1 := Lib.hid hr.1
  have HR := Lib.hid hr
  clear hr hv
  cases hs : sideB W H
  · have e : validB W H zs = false := by simp [validB, hs]
    have E := Lib.hid e
    have C1 := Lib.hid (fun n => (by have h := c_l02Sides W H w n; rwa [hs] at h : Calls Try.prog 84 #[.int .i64 W, .int .i64 H] (w.drewN n) (RetV (.bool false) w)))
    clear e hs
    go_enter Try.func121, Try.ntmps121
    go_wp2
    refine wp_region_N (fun f _ u => (f = 84 → u = .bool false)) (by kernel_rfl) (by kernel_rfl) ?_; (repeat (first | ((with_reducible show wpN _ _ _ _ _ (Oper.mk _ (Op.binOp _ _ _ _ _) _ _ _ none :: _) _); refine wpN_fop rfl _ _ _ _ _ rfl _ _ _ rfl rfl (by decide) ?_; intro _) | ((with_reducible show wpN _ _ _ _ _ (Oper.mk _ (Op.convert _ _ _) _ _ _ none :: _) _); refine wpN_cvU rfl 31 38 _ rfl (Option.isSome_iff_exists.2 ⟨_, Try.underlying31⟩) Try.underlying38 _ rfl ?_; intro _) | ((with_reducible show wpN _ _ _ _ _ (Oper.mk _ _ _ _ _ (some _) :: _) _); (with_reducible refine wpN_off ?_ ?_); focus rfl; (simp only [Act.put, List.setIfInBounds_toArray, List.set_cons_zero, List.set_cons_succ])) | ((with_reducible show wpN _ _ _ _ _ (Oper.mk _ _ _ _ _ (some _) :: _) _); ((with_reducible refine wpN_on ?_ (fun K hK => ?_)); (focus rfl); intro _; go_simp; first | (refine uponN_value (hK _ ?_)) | ((refine uponN_call (callN (v := .bool false) (fun _ => rfl) (C1.out _)) ?_; intro u hu; obtain rfl : u = _ := hu rfl; clear hu); refine hK _ ?_)); clear hK K) | (((with_reducible refine wpN_plain rfl (fun K hK => ?_)); intro _; go_simp; first | (refine uponN_value (hK _ ?_)) | ((refine uponN_call (callN (v := .bool false) (fun _ => rfl) (C1.out _)) ?_; intro u hu; obtain rfl : u = _ := hu rfl; clear hu); refine hK _ ?_)); clear hK K) | ((with_reducible refine wpN_step (fun K hK => ?_)); go_simp; first | (refine hK _ ?_) | (intro _; first | (refine uponN_value (hK _ ?_)) | ((refine uponN_call (callN (v := .bool false) (fun _ => rfl) (C1.out _)) ?_; intro u hu; obtain rfl : u = _ := hu rfl; clear hu); refine hK _ ?_)); clear hK K))); refine wpN_nil ?_; intro _
    go_wp2
    go_ret
    exact ⟨_, by rw [E.out]; rfl, rfl⟩
  · obtain ⟨m1, m2⟩ := side_mul hs
    have mw : IntKind.i64.wrap (W * H) = W * H := IntWalk.i64_in _ (by omega)
    have C1 := Lib.hid (fun n => (by have h := c_l02Sides W H w n; rwa [hs] at h : Calls Try.prog 84 #[.int .i64 W, .int .i64 H] (w.drewN n) (RetV (.bool true) w)))
    have C2 := Lib.hid (fun n => c_l02Finite a len cap zs w n HR.out)
    by_cases hl : (len : Int) = W * H
    · have hd : ((len : Int) == W * H) = true := by simpa using hl
      have e : validB W H zs = finL zs := by simp [validB, hs, H1.out, hl]
      have E := Lib.hid e
      have HL := Lib.hid hl
      clear e hs hl
      go_enter Try.func121, Try.ntmps121
      go_wp2
      refine wp_region_N (fun f _ u => (f = 84 → u = .bool true) ∧ (f = 167 → u = .bool (finL zs))) (by kernel_rfl) (by kernel_rfl) ?_; (repeat (first | ((with_reducible show wpN _ _ _ _ _ (Oper.mk _ (Op.binOp _ _ _ _ _) _ _ _ none :: _) _); refine wpN_fop rfl _ _ _ _ _ rfl _ _ _ rfl rfl (by decide) ?_; intro _) | ((with_reducible show wpN _ _ _ _ _ (Oper.mk _ (Op.convert _ _ _) _ _ _ none :: _) _); refine wpN_cvU rfl 31 38 _ rfl (Option.isSome_iff_exists.2 ⟨_, Try.underlying31⟩) Try.underlying38 _ rfl ?_; intro _) | ((with_reducible show wpN _ _ _ _ _ (Oper.mk _ _ _ _ _ (some _) :: _) _); (with_reducible refine wpN_off ?_ ?_); focus rfl; (simp only [Act.put, List.setIfInBounds_toArray, List.set_cons_zero, List.set_cons_succ])) | ((with_reducible show wpN _ _ _ _ _ (Oper.mk _ _ _ _ _ (some _) :: _) _); ((with_reducible refine wpN_on ?_ (fun K hK => ?_)); (focus rfl); intro _; go_simp; first | (refine uponN_value (hK _ ?_)) | ((first | (refine uponN_call (callN (v := .bool true) ⟨fun _ => rfl, fun h => absurd h (by decide)⟩ (C1.out _)) ?_; intro u hu; obtain rfl : u = _ := hu.1 rfl; clear hu) | (refine uponN_call (callN (v := .bool (finL zs)) ⟨fun h => absurd h (by decide), fun _ => rfl⟩ (C2.out _)) ?_; intro u hu; obtain rfl : u = _ := hu.2 rfl; clear hu)); refine hK _ ?_)); clear hK K) | (((with_reducible refine wpN_plain rfl (fun K hK => ?_)); intro _; go_simp; first | (refine uponN_value (hK _ ?_)) | ((first | (refine uponN_call (callN (v := .bool true) ⟨fun _ => rfl, fun h => absurd h (by decide)⟩ (C1.out _)) ?_; intro u hu; obtain rfl : u = _ := hu.1 rfl; clear hu) | (refine uponN_call (callN (v := .bool (finL zs)) ⟨fun h => absurd h (by decide), fun _ => rfl⟩ (C2.out _)) ?_; intro u hu; obtain rfl : u = _ := hu.2 rfl; clear hu)); refine hK _ ?_)); clear hK K) | ((with_reducible refine wpN_step (fun K hK => ?_)); go_simp; first | (refine hK _ ?_) | (intro _; first | (refine uponN_value (hK _ ?_)) | ((first | (refine uponN_call (callN (v := .bool true) ⟨fun _ => rfl, fun h => absurd h (by decide)⟩ (C1.out _)) ?_; intro u hu; obtain rfl : u = _ := hu.1 rfl; clear hu) | (refine uponN_call (callN (v := .bool (finL zs)) ⟨fun h => absurd h (by decide), fun _ => rfl⟩ (C2.out _)) ?_; intro u hu; obtain rfl : u = _ := hu.2 rfl; clear hu)); refine hK _ ?_)); clear hK K))); refine wpN_nil ?_; intro _
      go_wp2
      go_ret
      exact ⟨_, by rw [E.out]; rfl, rfl⟩
    · have hd : ((len : Int) == W * H) = false := by simpa using hl
      have e : validB W H zs = false := by simp [validB, hs, H1.out, hl]
      have E := Lib.hid e
      clear e hs hl
      go_enter Try.func121, Try.ntmps121
      go_wp2
      refine wp_region_N (fun f _ u => (f = 84 → u = .bool true)) (by kernel_rfl) (by kernel_rfl) ?_; (repeat (first | ((with_reducible show wpN _ _ _ _ _ (Oper.mk _ (Op.binOp _ _ _ _ _) _ _ _ none :: _) _); refine wpN_fop rfl _ _ _ _ _ rfl _ _ _ rfl rfl (by decide) ?_; intro _) | ((with_reducible show wpN _ _ _ _ _ (Oper.mk _ (Op.convert _ _ _) _ _ _ none :: _) _); refine wpN_cvU rfl 31 38 _ rfl (Option.isSome_iff_exists.2 ⟨_, Try.underlying31⟩) Try.underlying38 _ rfl ?_; intro _) | ((with_reducible show wpN _ _ _ _ _ (Oper.mk _ _ _ _ _ (some _) :: _) _); (with_reducible refine wpN_off ?_ ?_); focus rfl; (simp only [Act.put, List.setIfInBounds_toArray, List.set_cons_zero, List.set_cons_succ])) | ((with_reducible show wpN _ _ _ _ _ (Oper.mk _ _ _ _ _ (some _) :: _) _); ((with_reducible refine wpN_on ?_ (fun K hK => ?_)); (focus rfl); intro _; go_simp; first | (refine uponN_value (hK _ ?_)) | ((refine uponN_call (callN (v := .bool true) (fun _ => rfl) (C1.out _)) ?_; intro u hu; obtain rfl : u = _ := hu rfl; clear hu); refine hK _ ?_)); clear hK K) | (((with_reducible refine wpN_plain rfl (fun K hK => ?_)); intro _; go_simp; first | (refine uponN_value (hK _ ?_)) | ((refine uponN_call (callN (v := .bool true) (fun _ => rfl) (C1.out _)) ?_; intro u hu; obtain rfl : u = _ := hu rfl; clear hu); refine hK _ ?_)); clear hK K) | ((with_reducible refine wpN_step (fun K hK => ?_)); go_simp; first | (refine hK _ ?_) | (intro _; first | (refine uponN_value (hK _ ?_)) | ((refine uponN_call (callN (v := .bool true) (fun _ => rfl) (C1.out _)) ?_; intro u hu; obtain rfl : u = _ := hu rfl; clear hu); refine hK _ ?_)); clear hK K))); refine wpN_nil ?_; intro _
      go_wp2
      go_ret
      exact ⟨_, by rw [E.out]; rfl, rfl⟩
/-! ### l03Shot -/
theorem c_l03Shot (W H : Int) (b : Nat) (a : Option Addr) (len cap : Nat) (zs : List Nat) (w : World) (j0 : Nat) (hv : Var w b #[.int .i64 W, .int .i64 H, .slice a len cap]) (hr : IsRowF .f32 w a len cap zs) :
    Calls Try.prog 127 #[.pointer (some ⟨b, 0, none⟩)] (w.drewN j0) (RetV (.bool (shotB W H zs)) w) := by
  obtain ⟨p0, p1, p2⟩ := hv.three
  have CI := Lib.hid (fun j => c_l02Is W H b a len cap zs w j hv hr)
  cases hs : validB W H zs
  · have E := Lib.hid (show shotB W H zs = false by unfold shotB; rw [hs]; rfl)
    have C1 := Lib.hid (fun j => (by have h := CI.out j; rwa [hs] at h : Calls Try.prog 121 #[.pointer (some ⟨b, 0, none⟩)] (w.drewN j) (RetV (.bool false) w)))
    clear hr hv hs CI
    go_enter Try.func127, Try.ntmps127
    go_wp2_with ((go_at_call 121; refine (C1.out _).mono ?_; rintro _ _ ⟨_, rfl, rfl⟩))
    go_ret
    exact ⟨_, by rw [E.out]; rfl, rfl⟩
  have E := Lib.hid (show shotB W H zs = levL zs by unfold shotB; rw [hs]; rfl)
  have C1 := Lib.hid (fun j => (by have h := CI.out j; rwa [hs] at h : Calls Try.prog 121 #[.pointer (some ⟨b, 0, none⟩)] (w.drewN j) (RetV (.bool true) w)))
  obtain ⟨h1, h2, h3, h4, h5⟩ := hr
  unfold maxLen at h3
  have H1 := Lib.hid h1
  clear hv hs CI h1
  go_enter Try.func127, Try.ntmps127
  go_wp2_with ((go_at_call 121; refine (C1.out _).mono ?_; rintro _ _ ⟨_, rfl, rfl⟩))
  go_loopw [3, 12] (fun _ i wr => ∃ k m : Nat, k ≤ len ∧ i = .int .i64 k ∧ wr = w.drewN m ∧ levL (zs.take k) = true) (fun _ i _ => len - (intOf i).toNat)
  case atStart => exact ⟨0, _, Nat.zero_le _, rfl, rfl, rfl⟩
  case round =>
    obtain ⟨k, m, hk, rfl, rfl, hfin⟩ := hrel
    have HFin := Lib.hid hfin
    clear hfin
    by_cases hlt : k < len
    · rcases h5 with h5 | ⟨b5, off, rfl, hbl, hc⟩
      · omega
      have hcell : w.cell? ⟨b5, off + k, none⟩ = some (.float .f32 (fat zs k)) := hc k hlt
      obtain ⟨n, hn⟩ := pick0 .f32 (fat zs k) (lt_of_wf (h4 _ (by unfold fat; rw [List.getD, List.getElem?_eq_getElem (by have := H1.out; omega)]; exact List.getElem_mem _)))
      rw [hn] at hcell
      have HN := Lib.hid hn
      have HS := Lib.hid (levL_snoc zs k (by have := H1.out; omega))
      cases hf : shareB (fat zs k)
      · have HO := Lib.hid (levL_of zs k (by have := H1.out; omega) hf)
        have HF := Lib.hid (fun n j => (by have h := c_l02Share (fat zs k) n w j; rwa [hf] at h : Calls Try.prog 170 #[.float .f32 (pick .f32 (fat zs k) n)] (w.drewN j) (RetV (.bool false) w)))
        clear hc h4 hn hf
        go_wp2_with ((go_at_call 170; refine (HF.out _ _).mono ?_; rintro _ _ ⟨_, rfl, rfl⟩))
        go_ret
        exact ⟨_, by rw [E.out, HO.out]; rfl, rfl⟩
      · have HT := Lib.hid hf
        have HF := Lib.hid (fun n j => (by have h := c_l02Share (fat zs k) n w j; rwa [hf] at h : Calls Try.prog 170 #[.float .f32 (pick .f32 (fat zs k) n)] (w.drewN j) (RetV (.bool true) w)))
        clear hc h4 hn hf
        go_wp2_with ((go_at_call 170; refine (HF.out _ _).mono ?_; rintro _ _ ⟨_, rfl, rfl⟩))
        go_roundw
        case rel => exact ⟨k + 1, _, by omega, by go_num, rfl, by rw [HS.out, HFin.out, HT.out]; rfl⟩
        case measure => simp [intOf]; omega
    · have e : zs.take k = zs := List.take_of_length_le (by have := H1.out; omega)
      have HE := Lib.hid (by have h := HFin.out; rwa [e] at h : levL zs = true)
      clear h5 h4 e
      go_wp2
      go_ret
      exact ⟨_, by rw [E.out, HE.out]; rfl, rfl⟩
/-! ### ordDefs -/
theorem cmp_bools (a b : Int) : ((some (compare a b) == some Ordering.lt) = decide (a < b)) ∧ ((some (compare a b) == some Ordering.gt) = decide (b < a)) ∧ ((some (compare a b) == some Ordering.eq) = decide (a = b)) := by
  rcases Int.lt_trichotomy a b with h | h | h
  · rw [cmp_of_lt h, decide_eq_true h, decide_eq_false (by omega), decide_eq_false (by omega)]; exact ⟨rfl, rfl, rfl⟩
  · subst h; rw [Int.compare_eq_eq.2 rfl, decide_eq_false (by omega), decide_eq_true rfl]; exact ⟨rfl, rfl, rfl⟩
  · rw [cmp_of_gt h, decide_eq_false (by omega), decide_eq_true h, decide_eq_false (by omega)]; exact ⟨rfl, rfl, rfl⟩
theorem o_lt {v c : Nat} (h : isN .f32 v = false) (hc : isN .f32 c = false) : (FloatKind.f32.format.order v c == some .lt) = decide (srung FloatKind.f32.format v < srung FloatKind.f32.format c) := by
  rw [order_rungs .f32 v c h hc]; exact (cmp_bools _ _).1
theorem o_gt {v c : Nat} (h : isN .f32 v = false) (hc : isN .f32 c = false) : (FloatKind.f32.format.order v c == some .gt) = decide (srung FloatKind.f32.format c < srung FloatKind.f32.format v) := by
  rw [order_rungs .f32 v c h hc]; exact (cmp_bools _ _).2.1
theorem o_eq {v c : Nat} (h : isN .f32 v = false) (hc : isN .f32 c = false) : (FloatKind.f32.format.order v c == some .eq) = decide (srung FloatKind.f32.format v = srung FloatKind.f32.format c) := by
  rw [order_rungs .f32 v c h hc]; exact (cmp_bools _ _).2.2
theorem o_le {v c : Nat} (h : isN .f32 v = false) (hc : isN .f32 c = false) : (FloatKind.f32.format.order v c == some .lt || FloatKind.f32.format.order v c == some .eq) = decide (srung FloatKind.f32.format v ≤ srung FloatKind.f32.format c) := by
  rw [o_lt h hc, o_eq h hc, ← Bool.decide_or]; exact decide_eq_decide.2 (by omega)
theorem o_ge {v c : Nat} (h : isN .f32 v = false) (hc : isN .f32 c = false) : (FloatKind.f32.format.order v c == some .gt || FloatKind.f32.format.order v c == some .eq) = decide (srung FloatKind.f32.format c ≤ srung FloatKind.f32.format v) := by
  rw [o_gt h hc, o_eq h hc, ← Bool.decide_or]; exact decide_eq_decide.2 (by omega)
theorem s_zero : srung FloatKind.f32.format 0 = 0 := by decide +kernel
theorem s_half : srung FloatKind.f32.format 1056964608 = 1056964608 := by decide +kernel
theorem s_one : srung FloatKind.f32.format 1065353216 = 1065353216 := by decide +kernel
theorem n_zero : isN .f32 0 = false := by decide +kernel
theorem n_half : isN .f32 1056964608 = false := by decide +kernel
theorem n_one : isN .f32 1065353216 = false := by decide +kernel
theorem pick_zero (n : Nat) : pick .f32 0 n = 0 := pick_not n_zero n
/-! ### bendDefs -/
def leB (x y : Nat) : Bool := FloatKind.f32.format.order x y == some .lt || FloatKind.f32.format.order x y == some .eq
def riseK (zs : List Nat) : Nat → Bool
  | 0 => true
  | 1 => true
  | k + 2 => riseK zs (k + 1) && !leB (fat zs (k + 1)) (fat zs k)
theorem riseK_succ {zs : List Nat} {k : Nat} (h : 1 ≤ k) : riseK zs (k + 1) = (riseK zs k && !leB (fat zs k) (fat zs (k - 1))) := by
  obtain ⟨j, rfl⟩ : ∃ j, k = j + 1 := ⟨k - 1, by omega⟩
  rfl
theorem riseK_false {zs : List Nat} {k : Nat} (h : riseK zs k = false) : ∀ n, k ≤ n → riseK zs n = false := by
  intro n hn
  induction n with
  | zero => obtain rfl : k = 0 := by omega
            exact h
  | succ m ih =>
    by_cases hk : k = m + 1
    · rw [← hk]; exact h
    · have h2 := ih (by omega)
      by_cases hm : 1 ≤ m
      · rw [riseK_succ hm, h2]; rfl
      · obtain rfl : m = 0 := by omega
        obtain rfl : k = 0 := by omega
        cases h
def bendB (zs : List Nat) : Bool := decide (2 ≤ zs.length) && decide (zs.length ≤ 17) && (finL zs && riseK zs zs.length)
/-! ### l03Curve -/
theorem bendB_short {zs : List Nat} (h : zs.length < 2) : bendB zs = false := by unfold bendB; rw [decide_eq_false (by omega)]; rfl
theorem bendB_long {zs : List Nat} (h : 17 < zs.length) : bendB zs = false := by unfold bendB; rw [decide_eq_false (p := zs.length ≤ 17) (by omega), Bool.and_false]; rfl
theorem bendB_mid {zs : List Nat} (h1 : ¬ zs.length < 2) (h2 : ¬ 17 < zs.length) : bendB zs = (finL zs && riseK zs zs.length) := by unfold bendB; rw [decide_eq_true (p := zs.length ≤ 17) (by omega), decide_eq_true (by omega)]; rfl
theorem c_l03Curve (zs : List Nat) (a : Option Addr) (c : Nat) (w : World) (j0 : Nat) (hr : IsRowF .f32 w a zs.length c zs) : Calls Try.prog 128 #[.slice a zs.length c] (w.drewN j0) (RetV (.bool (bendB zs)) w) := by
  have mA : zs.length ≤ maxLen := Nat.le_trans hr.2.1 hr.2.2.1
  unfold maxLen at mA
  have RA := Lib.hid hr
  clear hr
  by_cases h1 : zs.length < 2
  · rw [bendB_short h1]
    go_enter Try.func128, Try.ntmps128
    go_wp2_with fail
    go_ret
    exact ⟨_, rfl, rfl⟩
  by_cases h2 : 17 < zs.length
  · rw [bendB_long h2]
    go_enter Try.func128, Try.ntmps128
    go_wp2_with fail
    go_ret
    exact ⟨_, rfl, rfl⟩
  rw [bendB_mid h1 h2]
  have CF := Lib.hid (fun j => c_l02Finite a zs.length c zs w j RA.out)
  cases hf : finL zs
  · have C1 := Lib.hid (fun j => (by have h := CF.out j; rwa [hf] at h : Calls Try.prog 167 #[.slice a zs.length c] (w.drewN j) (RetV (.bool false) w)))
    clear hf CF
    go_enter Try.func128, Try.ntmps128
    go_wp2_with ((go_at_call 167; refine (C1.out _).mono ?_; rintro _ _ ⟨_, rfl, rfl⟩))
    go_ret
    exact ⟨_, rfl, rfl⟩
  · have C1 := Lib.hid (fun j => (by have h := CF.out j; rwa [hf] at h : Calls Try.prog 167 #[.slice a zs.length c] (w.drewN j) (RetV (.bool true) w)))
    clear hf CF
    rw [Bool.true_and]
    go_enter Try.func128, Try.ntmps128
    go_wp2_with ((go_at_call 167; refine (C1.out _).mono ?_; rintro _ _ ⟨_, rfl, rfl⟩))
    go_loopw [4] (fun i wr => ∃ k m : Nat, k + 1 ≤ zs.length ∧ i = .int .i64 ((k + 1 : Nat) : Int) ∧ wr = w.drewN m ∧ riseK zs (k + 1) = true) (fun i _ => zs.length - (intOf i).toNat)
    case atStart => exact ⟨0, _, by omega, rfl, rfl, rfl⟩
    case round =>
      obtain ⟨k, m, hk, rfl, rfl, hR⟩ := hrel
      have HR := Lib.hid hR
      clear hR
      by_cases hlt : k + 1 < zs.length
      · obtain ⟨bA, oA, nA, rfl, hbA, eA⟩ := RA.out.at hlt
        obtain ⟨bB, oB, nB, hab, hbB, eB⟩ := RA.out.at (k := k) (by omega)
        cases hab
        clear hbA hbB
        cases hle : leB (fat zs (k + 1)) (fat zs k)
        all_goals
          have HL := Lib.hid hle
          unfold leB at hle
          go_wp2_with fail
          have g0 : (0 : Int) ≤ (k : Int) := by omega
          have g1 : (k : Int) < (zs.length : Int) := by omega
          have g2 : (k : Int) + 1 < (zs.length : Int) := by omega
          have g3 : k < zs.length := by omega
          have mw : IntKind.i64.wrap (k : Int) = (k : Int) := IntWalk.i64_in _ (by omega)
          refine wp_region_N (fun _ _ _ => True) (by kernel_rfl) (by kernel_rfl) ?_; (repeat (first | ((with_reducible show wpN _ _ _ _ _ (Oper.mk _ (Op.binOp _ _ _ _ _) _ _ _ none :: _) _); refine wpN_fop rfl _ _ _ _ _ rfl _ _ _ rfl rfl (by decide) ?_; intro _) | ((with_reducible show wpN _ _ _ _ _ (Oper.mk _ (Op.convert _ _ _) _ _ _ none :: _) _); refine wpN_cvU rfl 31 38 _ rfl (Option.isSome_iff_exists.2 ⟨_, Try.underlying31⟩) Try.underlying38 _ rfl ?_; intro _) | ((with_reducible show wpN _ _ _ _ _ (Oper.mk _ _ _ _ _ (some _) :: _) _); (with_reducible refine wpN_off ?_ ?_); focus rfl; (simp only [Act.put, List.setIfInBounds_toArray, List.set_cons_zero, List.set_cons_succ])) | ((with_reducible show wpN _ _ _ _ _ (Oper.mk _ _ _ _ _ (some _) :: _) _); ((with_reducible refine wpN_on ?_ (fun K hK => ?_)); (focus rfl); intro _; go_simp; first | (refine uponN_value (hK _ ?_)) | (fail; refine hK _ ?_)); clear hK K) | (((with_reducible refine wpN_plain rfl (fun K hK => ?_)); intro _; go_simp; first | (refine uponN_value (hK _ ?_)) | (fail; refine hK _ ?_)); clear hK K) | ((with_reducible refine wpN_step (fun K hK => ?_)); go_simp; first | (refine hK _ ?_) | (intro _; first | (refine uponN_value (hK _ ?_)) | (fail; refine hK _ ?_)); clear hK K))); refine wpN_nil ?_; intro _
          clear g0 g1 g2 g3 mw
          go_wp2_with fail
        · go_roundw
          case rel => exact ⟨k + 1, _, by omega, by go_num, rfl, by show (riseK zs (k + 1) && !leB (fat zs (k + 1)) (fat zs k)) = true; rw [HR.out, HL.out]; rfl⟩
          case measure => simp [intOf]; omega
        · go_ret
          exact ⟨_, by rw [riseK_false (k := k + 2) (show (riseK zs (k + 1) && !leB (fat zs (k + 1)) (fat zs k)) = false by rw [HL.out, Bool.not_true, Bool.and_false]) zs.length (by omega)]; rfl, rfl⟩
      · have e : zs.length = k + 1 := by omega
        have HE := Lib.hid e
        clear e
        go_wp2_with fail
        go_ret
        exact ⟨_, by rw [HE.out, HR.out]; rfl, rfl⟩
/-! ### meanDefs -/
def meanV (zs : List Nat) : Nat := fop .quo .f32 (sumF .add .f32 0 zs) (floatOfInt .f32 (zs.length : Int))
def numR (v : Nat) : Nat × Bool := if finB .f32 v = true then (v, true) else (0, false)
def meanR (W H : Int) (zs : List Nat) : Nat × Bool := if validB W H zs = true then numR (meanV zs) else (0, false)
theorem mean_len {W H : Int} {zs : List Nat} (h : validB W H zs = true) : zs.length ≤ 256 := by
  simp only [validB, Bool.and_eq_true, decide_eq_true_eq] at h
  obtain ⟨⟨h1, h2⟩, h3⟩ := h
  have := side_mul h1
  omega
theorem pick00 : pick .f32 0 0 = 0 := pick_not (show isN .f32 0 = false from by decide +kernel) 0
/-! ### bendAtDefs -/
def bendI (N u : Nat) : Nat := if N < whole32 u then N else whole32 u
def bendV (zs : List Nat) (x N : Nat) : Nat := fop .add .f32 (fat zs (bendI N (fop .mul .f32 x (floatOfInt .f32 ((N : Int) + 2 - 1))))) (fop .mul .f32 (fop .sub .f32 (fop .mul .f32 x (floatOfInt .f32 ((N : Int) + 2 - 1))) (floatOfInt .f32 (bendI N (fop .mul .f32 x (floatOfInt .f32 ((N : Int) + 2 - 1))) : Int))) (fop .sub .f32 (fat zs (bendI N (fop .mul .f32 x (floatOfInt .f32 ((N : Int) + 2 - 1))) + 1)) (fat zs (bendI N (fop .mul .f32 x (floatOfInt .f32 ((N : Int) + 2 - 1)))))))
def bendAtR (zs : List Nat) (x : Nat) : Nat × Bool := if (bendB zs && shareB x) = true then numR (bendV zs x (zs.length - 2)) else (0, false)
theorem share_facts {x : Nat} (h : shareB x = true) : isN .f32 x = false ∧ 0 ≤ srung Ieee.single x ∧ srung Ieee.single x ≤ 1065353216 := by
  unfold shareB one32 at h
  cases hn : isN .f32 x
  · rw [o_ge hn n_zero, o_le hn n_one, s_zero, s_one] at h
    simp only [Bool.and_eq_true, decide_eq_true_eq] at h
    exact ⟨rfl, h.1, h.2⟩
  · rw [order_nan_l _ hn] at h; cases h
theorem num_pick (v n : Nat) : pick .f32 (numR v).1 n = (numR v).1 := by
  unfold numR
  cases h : finB .f32 v
  · exact pick_zero n
  · exact pick_not (fin_notN h) n
theorem bend_len {zs : List Nat} (h : bendB zs = true) : 2 ≤ zs.length ∧ zs.length ≤ 17 := by
  unfold bendB at h
  simp only [Bool.and_eq_true, decide_eq_true_eq] at h
  exact h.1
theorem u_facts {x N : Nat} (hs : shareB x = true) (hN : N ≤ 15) : (∀ n, pick .f32 (fop .mul .f32 x (floatOfInt .f32 ((N : Int) + 2 - 1))) n = (fop .mul .f32 x (floatOfInt .f32 ((N : Int) + 2 - 1)))) ∧ (∀ n, pick .f64 (cvU (fop .mul .f32 x (floatOfInt .f32 ((N : Int) + 2 - 1)))) n = cvU (fop .mul .f32 x (floatOfInt .f32 ((N : Int) + 2 - 1)))) ∧ isN .f64 (cvU (fop .mul .f32 x (floatOfInt .f32 ((N : Int) + 2 - 1)))) = false ∧ floatToIntVal .f32 (fop .mul .f32 x (floatOfInt .f32 ((N : Int) + 2 - 1))) .i64 = some (whole32 (fop .mul .f32 x (floatOfInt .f32 ((N : Int) + 2 - 1))) : Int) ∧ floatToIntVal .f64 (floorF (cvU (fop .mul .f32 x (floatOfInt .f32 ((N : Int) + 2 - 1))))) .i64 = some (whole32 (fop .mul .f32 x (floatOfInt .f32 ((N : Int) + 2 - 1))) : Int) := by
  obtain ⟨h1, h2, h3⟩ := share_facts hs
  have e : ((N : Int) + 2 - 1) = ((N + 1 : Nat) : Int) := by omega
  rw [e]
  obtain ⟨a1, a2, a3⟩ := share_mul h1 h2 h3 (show N + 1 ≤ 16 by omega)
  obtain ⟨b1, b2, b3, b4⟩ := both_whole a1 a2 a3
  exact ⟨fun n => pick_not (notN_fin (k := .f32) a1) n, fun n => pick_not b2 n, b2, b1, b4⟩
/-! ### Floor -/
theorem run_floor (x : Nat) (w : World) (hx : isN .f64 x = false) : (callFunc 188 #[.float .f64 x]).run Try.prog w = .ok (.value (.float .f64 (floorF x))) w := by
  have e : (callFunc 188 #[.float .f64 x]).run Try.prog w = ((Extern.MathFloor.toIntegral "math.archFloor" .down #[.float .f64 x]).bind fun v => Sem.pure (Next.value v)).run Try.prog w := by kernel_rfl
  rw [e]
  have e2 : Extern.MathFloor.toIntegral "math.archFloor" .down #[.float .f64 x] = pure (.float .f64 (floorF x)) := by
    have hd : ∀ s t, FloatKind.f64.decode x ≠ .nan s t := by
      intro s t h
      have h2 : FloatKind.f64.format.read x = .nan s t := h
      unfold isN at hx
      rw [h2] at hx; cases hx
    show (match FloatKind.f64.decode x with | .nan s t => _ | d => _) = _
    cases hh : FloatKind.f64.decode x with
    | nan s t => exact absurd hh (hd s t)
    | number s m i =>
      have h2 : Ieee.double.read x = .number s m i := hh
      unfold floorF; rw [h2]; rfl
    | infinity s =>
      have h2 : Ieee.double.read x = .infinity s := hh
      unfold floorF; rw [h2]; rfl
  rw [e2]; rfl
theorem c_Floor (x : Nat) (w : World) (j : Nat) (hx : isN .f64 x = false) : Calls Try.prog 171 #[.float .f64 x] (w.drewN j) (RetV (.float .f64 (floorF x)) w) := by
  have hr := run_floor x (w.drewN j) hx
  go_enter Try.func171, Try.ntmps171
  go_wp2
  go_ret
  exact ⟨_, rfl, rfl⟩
/-! ### l03At -/
theorem c_l03At (zs : List Nat) (N : Nat) (a : Option Addr) (c x n : Nat) (w : World) (j : Nat) (hN : zs.length = N + 2) (hN2 : N ≤ 15) (hr : IsRowF .f32 w a (N + 2) c zs) (hs : shareB x = true) : Calls Try.prog 130 #[.slice a (N + 2) c, .float .f32 (pick .f32 x n)] (w.drewN j) (RetF .f32 (bendV zs x N) w) := by
  obtain ⟨hp1, hp2, hfl, hi1, hi2⟩ := u_facts (N := N) hs hN2
  have HP1 := Lib.hid hp1
  have HP2 := Lib.hid hp2
  have HFl := Lib.hid hfl
  have R2 := Lib.hid hr
  clear hN hr hs hp1 hp2 hfl
  by_cases hc : N < whole32 (fop .mul .f32 x (floatOfInt .f32 ((N : Int) + 2 - 1)))
  · have HI1 := Lib.hid hi1
    have HI2 := Lib.hid hi2
    have hc2 : (N : Int) < (whole32 (fop .mul .f32 x (floatOfInt .f32 ((N : Int) + 2 - 1))) : Int) := by omega
    have hc3 : ¬ (whole32 (fop .mul .f32 x (floatOfInt .f32 ((N : Int) + 2 - 1))) : Int) ≤ (N : Int) := by omega
    clear hi1 hi2
    have hI : bendI N (fop .mul .f32 x (floatOfInt .f32 ((N : Int) + 2 - 1))) = N := by unfold bendI; rw [if_pos hc]
    have e : bendV zs x N = fop .add .f32 (fat zs N) (fop .mul .f32 (fop .sub .f32 (fop .mul .f32 x (floatOfInt .f32 ((N : Int) + 2 - 1))) (floatOfInt .f32 (N : Int))) (fop .sub .f32 (fat zs (N + 1)) (fat zs N))) := by unfold bendV; rw [hI]
    rw [e]
    clear e hI
    obtain ⟨b0, o0, n0, rfl, hb0, e0⟩ := R2.out.at (k := N) (by omega)
    obtain ⟨b1, o1, n1, hab, hb1, e1⟩ := R2.out.at (k := N + 1) (by omega)
    cases hab
    clear hb0 hb1
    have hp1 := HP1.out
    have hp2 := HP2.out
    go_enter Try.func130, Try.ntmps130
    go_wp2_with (first | (first | (refine wpList_fop rfl _ _ _ _ _ rfl _ _ _ rfl rfl (by decide) _ ?_; intro _ _) | (refine upon_fop _ _ _ _ _ (by decide) ?_; intro _ _)) | (refine wpList_cvU rfl 31 38 _ rfl (Option.isSome_iff_exists.2 ⟨_, Try.underlying31⟩) Try.underlying38 _ rfl _ ?_; intro _ _) | (refine wpList_ftoi rfl 38 3 _ rfl (Option.isSome_iff_exists.2 ⟨_, Try.underlying38⟩) .i64 Try.underlying3 _ _ rfl (by exact HI2.out) ?_) | (go_at_call 171; refine (c_Floor _ _ _ HFl.out).mono ?_; rintro _ _ ⟨_, rfl, rfl⟩))
    have g1 : N < N + 2 := by omega
    have g2 : N + 1 < N + 2 := by omega
    have g3 : (N : Int) < (N : Int) + 2 := by omega
    have g4 : (N : Int) + 1 < (N : Int) + 2 := by omega
    have mw : IntKind.i64.wrap ((N : Int) + 1) = (N : Int) + 1 := IntWalk.i64_in _ (by omega)
    have g5 : (0 : Int) ≤ (N : Int) + 1 := by omega
    have g6 : ((N : Int) + 1).toNat = N + 1 := by omega
    refine wp_region_N (fun _ _ _ => True) (by kernel_rfl) (by kernel_rfl) ?_; (repeat (first | ((with_reducible show wpN _ _ _ _ _ (Oper.mk _ (Op.binOp _ _ _ _ _) _ _ _ none :: _) _); refine wpN_fop rfl _ _ _ _ _ rfl _ _ _ rfl rfl (by decide) ?_; intro _) | ((with_reducible show wpN _ _ _ _ _ (Oper.mk _ (Op.convert _ _ _) _ _ _ none :: _) _); refine wpN_cvU rfl 31 38 _ rfl (Option.isSome_iff_exists.2 ⟨_, Try.underlying31⟩) Try.underlying38 _ rfl ?_; intro _) | ((with_reducible show wpN _ _ _ _ _ (Oper.mk _ _ _ _ _ (some _) :: _) _); (with_reducible refine wpN_off ?_ ?_); focus rfl; (simp only [Act.put, List.setIfInBounds_toArray, List.set_cons_zero, List.set_cons_succ])) | ((with_reducible show wpN _ _ _ _ _ (Oper.mk _ _ _ _ _ (some _) :: _) _); ((with_reducible refine wpN_on ?_ (fun K hK => ?_)); (focus rfl); intro _; go_simp; first | (refine uponN_value (hK _ ?_)) | (fail; refine hK _ ?_)); clear hK K) | (((with_reducible refine wpN_plain rfl (fun K hK => ?_)); intro _; go_simp; first | (refine uponN_value (hK _ ?_)) | (fail; refine hK _ ?_)); clear hK K) | ((with_reducible refine wpN_step (fun K hK => ?_)); go_simp; first | (refine hK _ ?_) | (intro _; first | (refine uponN_value (hK _ ?_)) | (fail; refine hK _ ?_)); clear hK K))); refine wpN_nil ?_; intro _
    clear g1 g2 g3 g4 g5 g6 mw e0 e1 hp1 hp2
    go_wp2_with fail
    go_ret
    exact ⟨_, _, rfl, rfl⟩
  · obtain ⟨t, ht⟩ : ∃ t, t = whole32 (fop .mul .f32 x (floatOfInt .f32 ((N : Int) + 2 - 1))) := ⟨_, rfl⟩
    have htN : t ≤ N := by omega
    rw [← ht] at hi1 hi2
    have HI1 := Lib.hid hi1
    have HI2 := Lib.hid hi2
    have hc2 : ¬ (N : Int) < (t : Int) := by omega
    have hc3 : (t : Int) ≤ (N : Int) := by omega
    clear hi1 hi2
    have hI : bendI N (fop .mul .f32 x (floatOfInt .f32 ((N : Int) + 2 - 1))) = t := by unfold bendI; rw [if_neg hc, ht]
    have e : bendV zs x N = fop .add .f32 (fat zs t) (fop .mul .f32 (fop .sub .f32 (fop .mul .f32 x (floatOfInt .f32 ((N : Int) + 2 - 1))) (floatOfInt .f32 (t : Int))) (fop .sub .f32 (fat zs (t + 1)) (fat zs t))) := by unfold bendV; rw [hI]
    rw [e]
    clear e hI ht hc
    obtain ⟨b0, o0, n0, rfl, hb0, e0⟩ := R2.out.at (k := t) (by omega)
    obtain ⟨b1, o1, n1, hab, hb1, e1⟩ := R2.out.at (k := t + 1) (by omega)
    cases hab
    clear hb0 hb1
    have hp1 := HP1.out
    have hp2 := HP2.out
    go_enter Try.func130, Try.ntmps130
    go_wp2_with (first | (first | (refine wpList_fop rfl _ _ _ _ _ rfl _ _ _ rfl rfl (by decide) _ ?_; intro _ _) | (refine upon_fop _ _ _ _ _ (by decide) ?_; intro _ _)) | (refine wpList_cvU rfl 31 38 _ rfl (Option.isSome_iff_exists.2 ⟨_, Try.underlying31⟩) Try.underlying38 _ rfl _ ?_; intro _ _) | (refine wpList_ftoi rfl 38 3 _ rfl (Option.isSome_iff_exists.2 ⟨_, Try.underlying38⟩) .i64 Try.underlying3 _ _ rfl (by exact HI2.out) ?_) | (go_at_call 171; refine (c_Floor _ _ _ HFl.out).mono ?_; rintro _ _ ⟨_, rfl, rfl⟩))
    have g1 : t < N + 2 := by omega
    have g2 : t + 1 < N + 2 := by omega
    have g3 : (t : Int) < (N : Int) + 2 := by omega
    have g4 : (t : Int) + 1 < (N : Int) + 2 := by omega
    have mw : IntKind.i64.wrap ((t : Int) + 1) = (t : Int) + 1 := IntWalk.i64_in _ (by omega)
    have g5 : (0 : Int) ≤ (t : Int) + 1 := by omega
    have g6 : ((t : Int) + 1).toNat = t + 1 := by omega
    refine wp_region_N (fun _ _ _ => True) (by kernel_rfl) (by kernel_rfl) ?_; (repeat (first | ((with_reducible show wpN _ _ _ _ _ (Oper.mk _ (Op.binOp _ _ _ _ _) _ _ _ none :: _) _); refine wpN_fop rfl _ _ _ _ _ rfl _ _ _ rfl rfl (by decide) ?_; intro _) | ((with_reducible show wpN _ _ _ _ _ (Oper.mk _ (Op.convert _ _ _) _ _ _ none :: _) _); refine wpN_cvU rfl 31 38 _ rfl (Option.isSome_iff_exists.2 ⟨_, Try.underlying31⟩) Try.underlying38 _ rfl ?_; intro _) | ((with_reducible show wpN _ _ _ _ _ (Oper.mk _ _ _ _ _ (some _) :: _) _); (with_reducible refine wpN_off ?_ ?_); focus rfl; (simp only [Act.put, List.setIfInBounds_toArray, List.set_cons_zero, List.set_cons_succ])) | ((with_reducible show wpN _ _ _ _ _ (Oper.mk _ _ _ _ _ (some _) :: _) _); ((with_reducible refine wpN_on ?_ (fun K hK => ?_)); (focus rfl); intro _; go_simp; first | (refine uponN_value (hK _ ?_)) | (fail; refine hK _ ?_)); clear hK K) | (((with_reducible refine wpN_plain rfl (fun K hK => ?_)); intro _; go_simp; first | (refine uponN_value (hK _ ?_)) | (fail; refine hK _ ?_)); clear hK K) | ((with_reducible refine wpN_step (fun K hK => ?_)); go_simp; first | (refine hK _ ?_) | (intro _; first | (refine uponN_value (hK _ ?_)) | (fail; refine hK _ ?_)); clear hK K))); refine wpN_nil ?_; intro _
    clear g1 g2 g3 g4 g5 g6 mw e0 e1 hp1 hp2
    go_wp2_with fail
    go_ret
    exact ⟨_, _, rfl, rfl⟩
/-! ### give -/
def giveP (W H : Int) (zs : List Nat) : PRes := if validB W H zs = true then ⟨W, H, zs, true⟩ else PRes.no
theorem near_valid {W H : Int} {zs' zs : List Nat} (h : near zs' zs) : validB W H zs' = validB W H zs := by
  unfold validB finL; rw [near_fin h, h.1]
theorem valid_fin {W H : Int} {zs : List Nat} (h : validB W H zs = true) : zs.all (finB .f32) = true := by
  simp [validB, finL] at h ⊢; exact h.2
theorem valid_len {W H : Int} {zs : List Nat} (h : validB W H zs = true) : (zs.length : Int) = W * H ∧ zs.length ≤ 256 ∧ 1 ≤ zs.length := by
  simp only [validB, Bool.and_eq_true, decide_eq_true_eq] at h
  obtain ⟨⟨h1, h2⟩, h3⟩ := h
  have := side_mul h1
  exact ⟨h2, by omega, by omega⟩
/-! ### sidesOf -/
theorem c_sidesOf (W H : Int) (s : Value) (w : World) : Calls Try.prog 77 #[.agg #[.int .i64 W, .int .i64 H, s]] w (RetB (.agg #[.int .i64 W, .int .i64 H]) w) := by
  go_enter Try.func77, Try.ntmps77
  go_wp2
  exact bodyPost_ret (v := .agg #[.int .i64 W, .int .i64 H]) (by simp [results, Try.results77, go_sem]) rfl ⟨rfl, ((Below.refl _ _).alloc (Nat.le_refl _) _).alloc (by simp) _⟩
/-! ### allowed -/
theorem c_allowed (W H : Int) (w : World) : Calls Try.prog 149 #[.agg #[.int .i64 W, .int .i64 H]] w (RetB (.bool (sideB W H)) w) := by
  unfold sideB
  by_cases h1 : 1 ≤ W
  · by_cases h2 : W ≤ 16
    · by_cases h3 : 1 ≤ H
      · by_cases h4 : H ≤ 16
        all_goals
          go_enter Try.func149, Try.ntmps149
          go_wp2
          go_ret
          exact ⟨by simp [*] <;> (intros; omega), (Below.refl _ _).alloc (Nat.le_refl _) _⟩
      · go_enter Try.func149, Try.ntmps149
        go_wp2
        go_ret
        exact ⟨by simp [*] <;> (intros; omega), (Below.refl _ _).alloc (Nat.le_refl _) _⟩
    · go_enter Try.func149, Try.ntmps149
      go_wp2
      go_ret
      exact ⟨by simp [*] <;> (intros; omega), (Below.refl _ _).alloc (Nat.le_refl _) _⟩
  · go_enter Try.func149, Try.ntmps149
    go_wp2
    go_ret
    exact ⟨by simp [*] <;> (intros; omega), (Below.refl _ _).alloc (Nat.le_refl _) _⟩
/-! ### IsNaN -/
theorem c_IsNaN (v n : Nat) (w : World) (j : Nat) : Calls Try.prog 175 #[.float .f64 (pick .f64 v n)] (w.drewN j) (RetV (.bool (isN .f64 v)) w) := by
  go_enter Try.func175, Try.ntmps175
  go_wp2
  go_ret
  exact ⟨_, rfl, rfl⟩
/-! ### f64bits -/
@[go_sem] theorem e_f64bits (b : Nat) (w : World) : (callFunc 193 #[.float .f64 b]).run Try.prog w = .ok (.value (.int .u64 b)) w := by kernel_rfl
/-! ### f64from -/
@[go_sem] theorem e_f64from (n : Int) (w : World) : (callFunc 177 #[.int .u64 n]).run Try.prog w = .ok (.value (.float .f64 n.toNat)) w := by kernel_rfl
/-! ### Abs -/
theorem c_Abs (v n : Nat) (w : World) (j : Nat) (hv : v < 2 ^ FloatKind.f64.format.width) : Calls Try.prog 182 #[.float .f64 (pick .f64 v n)] (w.drewN j) (RetF .f64 (fabs .f64 v) w) := by
  have hb := abs_bits hv n
  go_enter Try.func182, Try.ntmps182
  go_wp2
  go_ret
  exact ⟨_, _, rfl, rfl⟩
/-! ### IsInf0 -/
theorem c_IsInf0 (v n : Nat) (w : World) (j : Nat) (hv : v < 2 ^ FloatKind.f64.format.width) : Calls Try.prog 176 #[.float .f64 (pick .f64 v n), .int .i64 0] (w.drewN j) (RetV (.bool (FloatKind.f64.format.order (fabs .f64 v) 9218868437227405311 == some .gt)) w) := by
  go_enter Try.func176, Try.ntmps176
  go_wp2_with ((go_at_call 182; refine (c_Abs _ _ _ _ hv).mono ?_; rintro _ _ ⟨_, _, rfl, rfl⟩))
  go_ret
  exact ⟨_, rfl, rfl⟩
/-! ### isFinite64 -/
theorem c_isFinite64 (v n : Nat) (w : World) (j : Nat) (hv : v < 2 ^ FloatKind.f64.format.width) : Calls Try.prog 146 #[.float .f64 (pick .f64 v n)] (w.drewN j) (RetV (.bool (finB .f64 v)) w) := by
  go_enter Try.func146, Try.ntmps146
  go_wp2_with (first | (go_at_call 175; refine (c_IsNaN _ _ _ _).mono ?_; rintro _ _ ⟨_, rfl, rfl⟩) | (go_at_call 176; refine (c_IsInf0 _ _ _ _ hv).mono ?_; rintro _ _ ⟨_, rfl, rfl⟩))
  all_goals
    go_ret
    refine ⟨_, ?_, rfl⟩
    rw [← abs_gt_max]
    simp [*]
/-! ### iIsFinite -/
theorem c_iIsFinite (v n : Nat) (w : World) (j : Nat) : Calls Try.prog 73 #[.float .f32 (pick .f32 v n)] (w.drewN j) (RetV (.bool (finB .f32 v)) w) := by
  go_enter Try.func73, Try.ntmps73
  go_wp2_with (first | (refine wpList_cvU rfl 31 38 _ rfl (Option.isSome_iff_exists.2 ⟨_, Try.underlying31⟩) Try.underlying38 _ rfl _ ?_; intro _ _) | (go_at_call 146; refine (c_isFinite64 _ _ _ _ (cvU_lt _)).mono ?_; rintro _ _ ⟨_, rfl, rfl⟩))
  go_ret
  rw [← finB_cvU]
  exact ⟨_, rfl, rfl⟩
/-! ### areFinite -/
theorem c_areFinite (a : Option Addr) (len cap : Nat) (zs : List Nat) (w : World) (j0 : Nat) (hr : IsRowF .f32 w a len cap zs) : Calls Try.prog 91 #[.slice a len cap] (w.drewN j0) (RetV (.bool (finL zs)) w) := by
  obtain ⟨h1, h2, h3, h4, h5⟩ := hr
  unfold maxLen at h3
  have H1 := Lib.hid h1
  clear h1
  go_enter Try.func91, Try.ntmps91
  go_wp2
  go_loopw [4, 7] (fun _ i wr => ∃ k m : Nat, k ≤ len ∧ i = .int .i64 k ∧ wr = w.drewN m ∧ finL (zs.take k) = true) (fun _ i _ => len - (intOf i).toNat)
  case atStart => exact ⟨0, j0, Nat.zero_le _, rfl, rfl, rfl⟩
  case round =>
    obtain ⟨k, m, hk, rfl, rfl, hfin⟩ := hrel
    have HFin := Lib.hid hfin
    clear hfin
    by_cases hlt : k < len
    · rcases h5 with h5 | ⟨b, off, rfl, hbl, hc⟩
      · omega
      have hcell : w.cell? ⟨b, off + k, none⟩ = some (.float .f32 (fat zs k)) := hc k hlt
      obtain ⟨n, hn⟩ := pick0 .f32 (fat zs k) (lt_of_wf (h4 _ (by unfold fat; rw [List.getD, List.getElem?_eq_getElem (by have := H1.out; omega)]; exact List.getElem_mem _)))
      rw [hn] at hcell
      have HS := Lib.hid (finL_snoc zs k (by have := H1.out; omega))
      cases hf : finB .f32 (fat zs k)
      · have HO := Lib.hid (finL_of zs k (by have := H1.out; omega) hf)
        clear hc h4 hn
        go_wp2_with ((go_at_call 73; refine (c_iIsFinite _ _ _ _).mono ?_; rintro _ _ ⟨_, rfl, rfl⟩))
        go_ret
        exact ⟨_, by rw [HO.out]; rfl, rfl⟩
      · have HF := Lib.hid hf
        clear hc h4 hn
        go_wp2_with ((go_at_call 73; refine (c_iIsFinite _ _ _ _).mono ?_; rintro _ _ ⟨_, rfl, rfl⟩))
        go_roundw
        case rel => exact ⟨k + 1, _, by omega, by go_num, rfl, by rw [HS.out, HFin.out, HF.out]; rfl⟩
        case measure => simp [intOf]; omega
    · have e : zs.take k = zs := List.take_of_length_le (by have := H1.out; omega)
      have HE := Lib.hid e
      clear h5 h4 e
      go_wp2
      go_ret
      exact ⟨_, by have h := HFin.out; rw [HE.out] at h; rw [h]; rfl, rfl⟩
/-! ### iValid -/
theorem c_areFinite0 (a : Option Addr) (len cap : Nat) (zs : List Nat) (w : World) (hr : IsRowF .f32 w a len cap zs) : Calls Try.prog 91 #[.slice a len cap] w (RetV (.bool (finL zs)) w) := by
  have h := c_areFinite a len cap zs w 0 hr
  rwa [w.drewN_zero] at h
theorem c_iValid (W H : Int) (a : Option Addr) (len cap : Nat) (zs : List Nat) (w : World) (hr : IsRowF .f32 w a len cap zs) :
    Calls Try.prog 75 #[.agg #[.int .i64 W, .int .i64 H, .slice a len cap]] w (RetB (.bool (validB W H zs)) w) := by
  have H1 := Lib.hid hr.1
  have HR := Lib.hid hr
  clear hr
  have two : ∀ s : Bool, sideB W H = s → (s = true → ∀ t : Bool, ((len : Int) == W * H) = t → (Calls Try.prog 75 #[.agg #[.int .i64 W, .int .i64 H, .slice a len cap]] w (RetB (.bool (validB W H zs)) w))) → (s = false → Calls Try.prog 75 #[.agg #[.int .i64 W, .int .i64 H, .slice a len cap]] w (RetB (.bool (validB W H zs)) w)) → Calls Try.prog 75 #[.agg #[.int .i64 W, .int .i64 H, .slice a len cap]] w (RetB (.bool (validB W H zs)) w) := by
    intro s hs h1 h2
    cases s
    · exact h2 rfl
    · exact h1 rfl _ rfl
  refine two _ rfl ?_ ?_
  · intro hs t ht
    obtain ⟨m1, m2⟩ := side_mul hs
    have mw : IntKind.i64.wrap (W * H) = W * H := IntWalk.i64_in _ (by omega)
    clear two
    cases t
    · have e : validB W H zs = false := by simp at ht; simp [validB, hs, H1.out, ht]
      have E := Lib.hid e
      have HT := Lib.hid hs
      clear e
      go_enter Try.func75, Try.ntmps75
      go_wp2_with fail
      refine (c_sidesOf W H _ _).mono ?_
      rintro _ w1 ⟨rfl, b1⟩
      obtain ⟨p0, p1, p2⟩ := ((Var.new _ _ _).keep b1).three
      have z1 : w.heap.size < w1.heap.size := by have := b1.size; simp at this; omega
      have B1 := Lib.hid (((Below.refl w.heap.size w).alloc (Nat.le_refl _) _).trans (b1.mono (by simp)))
      clear b1
      go_wp2_with fail
      refine (c_allowed W H _).mono ?_
      rintro _ w2 ⟨rfl, b2⟩
      rw [HT.out]
      have q0 := (b2.cell (p := ⟨w.heap.size, 0, none⟩) z1).trans p0
      have q1 := (b2.cell (p := ⟨w.heap.size, 1, none⟩) z1).trans p1
      have q2 := (b2.cell (p := ⟨w.heap.size, 2, none⟩) z1).trans p2
      have B2 := Lib.hid (B1.out.trans (b2.mono (by omega)))
      clear p0 p1 p2 b2 hs
      go_wp2_with fail
      go_ret
      exact ⟨by rw [E.out]; rfl, B2.out⟩
    · have e : validB W H zs = finL zs := by simp at ht; simp [validB, hs, H1.out, ht]
      have E := Lib.hid e
      have HT := Lib.hid hs
      clear e
      go_enter Try.func75, Try.ntmps75
      go_wp2_with fail
      refine (c_sidesOf W H _ _).mono ?_
      rintro _ w1 ⟨rfl, b1⟩
      obtain ⟨p0, p1, p2⟩ := ((Var.new _ _ _).keep b1).three
      have z1 : w.heap.size < w1.heap.size := by have := b1.size; simp at this; omega
      have B1 := Lib.hid (((Below.refl w.heap.size w).alloc (Nat.le_refl _) _).trans (b1.mono (by simp)))
      clear b1
      go_wp2_with fail
      refine (c_allowed W H _).mono ?_
      rintro _ w2 ⟨rfl, b2⟩
      rw [HT.out]
      have q0 := (b2.cell (p := ⟨w.heap.size, 0, none⟩) z1).trans p0
      have q1 := (b2.cell (p := ⟨w.heap.size, 1, none⟩) z1).trans p1
      have q2 := (b2.cell (p := ⟨w.heap.size, 2, none⟩) z1).trans p2
      have B2 := Lib.hid (B1.out.trans (b2.mono (by omega)))
      clear p0 p1 p2 b2 hs
      go_wp2_with fail
      refine (c_areFinite0 a len cap zs _ (HR.out.below B2.out)).mono ?_
      rintro _ w3 ⟨m, rfl, rfl⟩
      rw [← E.out]
      go_wp2_with fail
      go_ret
      exact ⟨rfl, below_drewN B2.out _⟩
  · intro hs
    have e : validB W H zs = false := by simp [validB, hs]
    have E := Lib.hid e
    have HT := Lib.hid hs
    clear e two
    go_enter Try.func75, Try.ntmps75
    go_wp2_with fail
    refine (c_sidesOf W H _ _).mono ?_
    rintro _ w1 ⟨rfl, b1⟩
    have B1 := Lib.hid (((Below.refl w.heap.size w).alloc (Nat.le_refl _) _).trans (b1.mono (by simp)))
    have z1 : w.heap.size < w1.heap.size := by have := b1.size; simp at this; omega
    clear b1
    go_wp2_with fail
    refine (c_allowed W H _).mono ?_
    rintro _ w2 ⟨rfl, b2⟩
    rw [HT.out]
    have B2 := Lib.hid (B1.out.trans (b2.mono (by omega)))
    clear b2 hs
    go_wp2_with fail
    go_ret
    exact ⟨by rw [E.out]; rfl, B2.out⟩
/-! ### isLevel -/
theorem c_isLevel (v n : Nat) (w : World) (j : Nat) : Calls Try.prog 190 #[.float .f32 (pick .f32 v n)] (w.drewN j) (RetV (.bool (shareB v)) w) := by
  unfold shareB one32
  cases h : (FloatKind.f32.format.order v 0 == some .gt || FloatKind.f32.format.order v 0 == some .eq)
  all_goals
    have HH := Lib.hid h
    go_enter Try.func190, Try.ntmps190
    go_wp2
    go_ret
    exact ⟨_, by simp [HH.out], rfl⟩
/-! ### isShot -/
theorem c_isShot (W H : Int) (a : Option Addr) (len cap : Nat) (zs : List Nat) (w : World) (hr : IsRowF .f32 w a len cap zs) :
    Calls Try.prog 172 #[.agg #[.int .i64 W, .int .i64 H, .slice a len cap]] w (RetB (.bool (shotB W H zs)) w) := by
  generalize hw0 : w.alloc (Obj.cells #[.int .i64 W, .int .i64 H, .slice a len cap] 26) = w0
  have X0 : Var w0 w.heap.size #[.int .i64 W, .int .i64 H, .slice a len cap] := by subst hw0; exact Var.new _ _ _
  have X2 : Below w.heap.size w w0 := by subst hw0; exact (Below.refl _ _).alloc (Nat.le_refl _) _
  have X3 : w0.heap.size = w.heap.size + 1 := by subst hw0; simp
  have HW := Lib.hid hw0
  have B0 := Lib.hid X2
  obtain ⟨p0, p1, p2⟩ := X0.three
  have R0 := hr.below X2
  have CI := Lib.hid (fun j => c_iValid W H a len cap zs (w0.drewN j) (R0.drewN j))
  obtain ⟨h1, h2, h3, h4, h5⟩ := R0
  unfold maxLen at h3
  have H1 := Lib.hid h1
  clear hw0 X0 X2 hr h1
  go_enter Try.func172, Try.ntmps172
  go_wp2
  rw [HW.out]
  rw [← w0.drewN_zero]
  go_wp2
  go_loopw [4, 8] (fun _ i wr => ∃ k m : Nat, k ≤ len ∧ i = .int .i64 k ∧ wr = w0.drewN m ∧ levL (zs.take k) = true) (fun _ i _ => len - (intOf i).toNat)
  case atStart => exact ⟨0, _, Nat.zero_le _, rfl, rfl, rfl⟩
  case round =>
    obtain ⟨k, m, hk, rfl, rfl, hfin⟩ := hrel
    have HFin := Lib.hid hfin
    clear hfin
    by_cases hlt : k < len
    · rcases h5 with h5 | ⟨b5, off, rfl, hbl, hc⟩
      · omega
      have hcell : w0.cell? ⟨b5, off + k, none⟩ = some (.float .f32 (fat zs k)) := hc k hlt
      obtain ⟨n, hn⟩ := pick0 .f32 (fat zs k) (lt_of_wf (h4 _ (by unfold fat; rw [List.getD, List.getElem?_eq_getElem (by have := H1.out; omega)]; exact List.getElem_mem _)))
      rw [hn] at hcell
      have HN := Lib.hid hn
      have HS := Lib.hid (levL_snoc zs k (by have := H1.out; omega))
      cases hf : shareB (fat zs k)
      · have HO := Lib.hid (levL_of zs k (by have := H1.out; omega) hf)
        have HF := Lib.hid (fun n j => (by have h := c_isLevel (fat zs k) n w0 j; rwa [hf] at h : Calls Try.prog 190 #[.float .f32 (pick .f32 (fat zs k) n)] (w0.drewN j) (RetV (.bool false) w0)))
        clear hc h4 hn hf
        go_wp2_with ((go_at_call 190; refine (HF.out _ _).mono ?_; rintro _ _ ⟨_, rfl, rfl⟩))
        go_ret
        exact ⟨by rw [show shotB W H zs = false by unfold shotB; rw [HO.out, Bool.and_false]]; rfl, below_drewN B0.out _⟩
      · have HT := Lib.hid hf
        have HF := Lib.hid (fun n j => (by have h := c_isLevel (fat zs k) n w0 j; rwa [hf] at h : Calls Try.prog 190 #[.float .f32 (pick .f32 (fat zs k) n)] (w0.drewN j) (RetV (.bool true) w0)))
        clear hc h4 hn hf
        go_wp2_with ((go_at_call 190; refine (HF.out _ _).mono ?_; rintro _ _ ⟨_, rfl, rfl⟩))
        go_roundw
        case rel => exact ⟨k + 1, _, by omega, by go_num, rfl, by rw [HS.out, HFin.out, HT.out]; rfl⟩
        case measure => simp [intOf]; omega
    · have e : zs.take k = zs := List.take_of_length_le (by have := H1.out; omega)
      have HE := Lib.hid (by have h := HFin.out; rwa [e] at h : levL zs = true)
      clear h5 h4 e
      have HSh := Lib.hid (show shotB W H zs = validB W H zs by unfold shotB; rw [HE.out, Bool.and_true])
      go_wp2_with fail
      refine (CI.out _).mono ?_
      rintro _ w2 ⟨rfl, b2⟩
      have B2 := Lib.hid ((below_drewN B0.out m).trans (b2.mono (by simp; omega)))
      go_wp2_with fail
      go_ret
      exact ⟨by rw [HSh.out]; rfl, B2.out⟩
/-! ### changeShot -/
theorem c_changeShotNo (WA HA : Int) (zA : List Nat) (aA : Option Addr) (cA : Nat) (f : Value) (w : World) (rA : IsRowF .f32 w aA zA.length cA zA) (hs : shotB WA HA zA = false) : Calls Try.prog 132 #[.agg #[.int .i64 WA, .int .i64 HA, .slice aA zA.length cA], f] w (RetP 31 PRes.no w) := by
  have HSh := Lib.hid hs
  have RA := Lib.hid rA
  clear hs rA
  generalize hw2 : (w.alloc (Obj.cells #[.int .i64 WA, .int .i64 HA, .slice aA zA.length cA] 26)).alloc (Obj.cells #[.int .i64 0, .int .i64 0, .slice none 0 0] 26) = w2
  have B0 : Below w.heap.size w w2 := by subst hw2; exact ((Below.refl _ _).alloc (Nat.le_refl _) _).alloc (by simp) _
  have VA' : Var w2 w.heap.size #[.int .i64 WA, .int .i64 HA, .slice aA zA.length cA] := by subst hw2; exact (Var.new _ _ _).alloc _
  have VR := Lib.hid (show Var w2 (w.heap.size + 1) #[.int .i64 0, .int .i64 0, .slice none 0 0] from by subst hw2; exact Var.new' _ _ _ _ (by simp))
  have FR := Lib.hid (show Free w2 (w.heap.size + 1) from by subst hw2; exact Free.new' _ _ _ _ (by simp))
  have BW := Lib.hid B0
  have HW2 := Lib.hid hw2
  have SZ : w2.heap.size = w.heap.size + 1 + 1 := by subst hw2; simp
  have KS := Lib.hid (fun (w' : World) (hE : Below w2.heap.size w2 w') => (VA'.keep hE).three)
  clear B0 VA' hw2
  go_enter Try.func132, Try.ntmps132
  go_wp2_with fail
  rw [HW2.out]
  obtain ⟨k0, k1, k2⟩ := KS.out w2 (Below.refl _ _)
  go_wp2_with fail
  refine (c_isShot WA HA aA _ cA zA _ (RA.out.below BW.out)).mono ?_
  rintro _ w3 ⟨rfl, hE⟩
  rw [HSh.out]
  have BX := Lib.hid (BW.out.trans (hE.mono (by omega)))
  have VX := Lib.hid (VR.out.keep hE)
  have FX := Lib.hid (FR.out.below (by omega) hE)
  have S2 : w.heap.size + 1 < w3.heap.size := by have := hE.size; omega
  obtain ⟨d0, d1, d2⟩ := KS.out w3 hE
  clear hE k0 k1 k2
  obtain ⟨q0, q1, q2⟩ := VX.out.three
  have f0 := FX.out 0
  have f1 := FX.out 1
  have f2 := FX.out 2
  go_wp2_with fail
  refine bodyPost_ret (v := .tuple #[.agg #[.int .i64 0, .int .i64 0, .slice none 0 0], .bool false]) (by simp [results, Try.results132, q0, q1, q2, go_sem]) rfl (show RetP _ PRes.no _ _ _ from ⟨none, 0, rfl, Nat.zero_le _, ((BX.out.setCell (by simp <;> omega) _).setCell (by simp <;> omega) _).setCell (by simp <;> omega) _, Own.nil _ _ _⟩)
theorem c_changeShotYes (WA HA : Int) (zA : List Nat) (aA : Option Addr) (cA : Nat) (f : Value) (r : PRes) (w : World) (rA : IsRowF .f32 w aA zA.length cA zA) (hs : shotB WA HA zA = true) (hf : ∀ w1, Below w.heap.size w w1 → Calls Try.prog 89 #[.agg #[.int .i64 WA, .int .i64 HA, .slice aA zA.length cA], f] w1 (RetP 31 r w1)) : Calls Try.prog 132 #[.agg #[.int .i64 WA, .int .i64 HA, .slice aA zA.length cA], f] w (RetP 31 r w) := by
  have HSh := Lib.hid hs
  have RA := Lib.hid rA
  have HFl := Lib.hid hf
  clear hs rA hf
  generalize hw2 : (w.alloc (Obj.cells #[.int .i64 WA, .int .i64 HA, .slice aA zA.length cA] 26)).alloc (Obj.cells #[.int .i64 0, .int .i64 0, .slice none 0 0] 26) = w2
  have B0 : Below w.heap.size w w2 := by subst hw2; exact ((Below.refl _ _).alloc (Nat.le_refl _) _).alloc (by simp) _
  have VA' : Var w2 w.heap.size #[.int .i64 WA, .int .i64 HA, .slice aA zA.length cA] := by subst hw2; exact (Var.new _ _ _).alloc _
  have VR := Lib.hid (show Var w2 (w.heap.size + 1) #[.int .i64 0, .int .i64 0, .slice none 0 0] from by subst hw2; exact Var.new' _ _ _ _ (by simp))
  have FR := Lib.hid (show Free w2 (w.heap.size + 1) from by subst hw2; exact Free.new' _ _ _ _ (by simp))
  have BW := Lib.hid B0
  have HW2 := Lib.hid hw2
  have SZ : w2.heap.size = w.heap.size + 1 + 1 := by subst hw2; simp
  have KS := Lib.hid (fun (w' : World) (hE : Below w2.heap.size w2 w') => (VA'.keep hE).three)
  clear B0 VA' hw2
  go_enter Try.func132, Try.ntmps132
  go_wp2_with fail
  rw [HW2.out]
  obtain ⟨k0, k1, k2⟩ := KS.out w2 (Below.refl _ _)
  go_wp2_with fail
  refine (c_isShot WA HA aA _ cA zA _ (RA.out.below BW.out)).mono ?_
  rintro _ w3 ⟨rfl, hE⟩
  rw [HSh.out]
  have BX := Lib.hid (BW.out.trans (hE.mono (by omega)))
  have VX := Lib.hid (VR.out.keep hE)
  have FX := Lib.hid (FR.out.below (by omega) hE)
  have S2 : w.heap.size + 1 < w3.heap.size := by have := hE.size; omega
  obtain ⟨d0, d1, d2⟩ := KS.out w3 hE
  clear hE k0 k1 k2
  go_wp2_with fail
  refine (HFl.out w3 BX.out).mono ?_
  rintro _ w4 ⟨a, cap, rfl, hl, b, ow⟩
  have V2 := Lib.hid (VX.out.keep b)
  have Fr := Lib.hid (FX.out.below S2 b)
  have z1 : w.heap.size + 1 < w4.heap.size := by have := b.size; omega
  have B1 := Lib.hid (BX.out.trans (b.mono (by omega)))
  have O1 := Lib.hid ow
  have HL := Lib.hid hl
  clear b ow hl d0 d1 d2
  obtain ⟨q0, q1, q2⟩ := V2.out.three
  have f0 := Fr.out 0
  have f1 := Fr.out 1
  have f2 := Fr.out 2
  go_wp2_with fail
  have hrow : blk a ≠ some (w.heap.size + 1) := fun e => by have := O1.out.in _ e; omega
  refine bodyPost_ret (v := .tuple #[.agg #[.int .i64 r.W, .int .i64 r.H, .slice a r.zs.length cap], .bool r.ok]) (by simp [results, Try.results132, q0, q1, q2, go_sem]) rfl ⟨a, cap, rfl, HL.out, ((B1.out.setCell (by simp <;> omega) _).setCell (by simp <;> omega) _).setCell (by simp <;> omega) _, (((O1.out.setCell hrow _).setCell hrow _).setCell hrow _).mono (by omega)⟩
/-! ### bendPicDefs -/
def bendL (zC : List Nat) (N : Nat) (zA : List Nat) : List Nat := zA.map (fun x => bendV zC x N)
theorem bendL_len {zC : List Nat} {N : Nat} {zA : List Nat} : (bendL zC N zA).length = zA.length := by simp [bendL]
theorem bendL_at {zC : List Nat} {N : Nat} {zA : List Nat} {k : Nat} (hk : k < zA.length) : fat (bendL zC N zA) k = bendV zC (fat zA k) N := by simp [fat, bendL, hk]
theorem bendV_lt (zC : List Nat) (x N : Nat) : bendV zC x N < 2 ^ FloatKind.f32.format.width := fop_lt _ _ _ _
theorem lev_at2 {zA : List Nat} (h : levL zA = true) {k : Nat} (hk : k < zA.length) : shareB (fat zA k) = true := by
  cases hf : shareB (fat zA k)
  · rw [levL_of zA k hk hf] at h; cases h
  · rfl
/-! ### between -/
theorem c_between (x nx y ny s ns : Nat) (w : World) (j : Nat) : Calls Try.prog 158 #[.float .f32 (pick .f32 x nx), .float .f32 (pick .f32 y ny), .float .f32 (pick .f32 s ns)] (w.drewN j) (RetF .f32 (fop .add .f32 x (fop .mul .f32 s (fop .sub .f32 y x))) w) := by
  go_enter Try.func158, Try.ntmps158
  go_wp2_with (first | (refine wpList_fop rfl _ _ _ _ _ rfl _ _ _ rfl rfl (by decide) _ ?_; intro _ _) | (refine upon_fop _ _ _ _ _ (by decide) ?_; intro _ _))
  go_ret
  exact ⟨_, _, rfl, rfl⟩
theorem c_between0 (x nx y ny s ns : Nat) (w : World) : Calls Try.prog 158 #[.float .f32 (pick .f32 x nx), .float .f32 (pick .f32 y ny), .float .f32 (pick .f32 s ns)] w (RetF .f32 (fop .add .f32 x (fop .mul .f32 s (fop .sub .f32 y x))) w) := by
  have h := c_between x nx y ny s ns w 0
  rwa [w.drewN_zero] at h
/-! ### bendAt -/
theorem c_bendAt (zs : List Nat) (N : Nat) (a : Option Addr) (c x n : Nat) (w : World) (j : Nat) (hN : zs.length = N + 2) (hN2 : N ≤ 15) (hr : IsRowF .f32 w a (N + 2) c zs) (hs : shareB x = true) : Calls Try.prog 134 #[.slice a (N + 2) c, .float .f32 (pick .f32 x n)] (w.drewN j) (RetF .f32 (bendV zs x N) w) := by
  obtain ⟨hp1, hp2, hfl, hi1, hi2⟩ := u_facts (N := N) hs hN2
  have HP1 := Lib.hid hp1
  have HP2 := Lib.hid hp2
  have HFl := Lib.hid hfl
  have R2 := Lib.hid hr
  clear hN hr hs hp1 hp2 hfl
  by_cases hc : N < whole32 (fop .mul .f32 x (floatOfInt .f32 ((N : Int) + 2 - 1)))
  · have HI1 := Lib.hid hi1
    have HI2 := Lib.hid hi2
    have hc2 : (N : Int) < (whole32 (fop .mul .f32 x (floatOfInt .f32 ((N : Int) + 2 - 1))) : Int) := by omega
    have hc3 : ¬ (whole32 (fop .mul .f32 x (floatOfInt .f32 ((N : Int) + 2 - 1))) : Int) ≤ (N : Int) := by omega
    clear hi1 hi2
    have hI : bendI N (fop .mul .f32 x (floatOfInt .f32 ((N : Int) + 2 - 1))) = N := by unfold bendI; rw [if_pos hc]
    have e : bendV zs x N = fop .add .f32 (fat zs N) (fop .mul .f32 (fop .sub .f32 (fop .mul .f32 x (floatOfInt .f32 ((N : Int) + 2 - 1))) (floatOfInt .f32 (N : Int))) (fop .sub .f32 (fat zs (N + 1)) (fat zs N))) := by unfold bendV; rw [hI]
    rw [e]
    clear e hI
    obtain ⟨b0, o0, n0, rfl, hb0, e0⟩ := R2.out.at (k := N) (by omega)
    obtain ⟨b1, o1, n1, hab, hb1, e1⟩ := R2.out.at (k := N + 1) (by omega)
    cases hab
    clear hb0 hb1
    have hp1 := HP1.out
    have hp2 := HP2.out
    go_enter Try.func134, Try.ntmps134
    go_wp2_with (first | (first | (refine wpList_fop rfl _ _ _ _ _ rfl _ _ _ rfl rfl (by decide) _ ?_; intro _ _) | (refine upon_fop _ _ _ _ _ (by decide) ?_; intro _ _)) | (refine wpList_ftoi32 rfl 31 3 _ rfl (Option.isSome_iff_exists.2 ⟨_, Try.underlying31⟩) .i64 Try.underlying3 _ _ rfl (by exact HI1.out) ?_))
    have g1 : N < N + 2 := by omega
    have g2 : N + 1 < N + 2 := by omega
    have g3 : (N : Int) < (N : Int) + 2 := by omega
    have g4 : (N : Int) + 1 < (N : Int) + 2 := by omega
    have mw : IntKind.i64.wrap ((N : Int) + 1) = (N : Int) + 1 := IntWalk.i64_in _ (by omega)
    have g5 : (0 : Int) ≤ (N : Int) + 1 := by omega
    have g6 : ((N : Int) + 1).toNat = N + 1 := by omega
    refine wp_region_facts 14 (fun a b => ∃ n, b = a.drewN n) (fun a => ⟨0, (World.drewN_zero a).symm⟩) (fun a b c h h' => by obtain ⟨n, rfl⟩ := h; obtain ⟨m, rfl⟩ := h'; exact ⟨_, World.drewN_drewN _ _ _⟩) ⟨1, rfl⟩ (by kernel_rfl) (by kernel_rfl) (by kernel_rfl) (by kernel_rfl) ?_
    simp only [List.take_succ_cons, List.take_zero, List.drop_succ_cons, List.drop_zero]
    (with_reducible apply wpF_val); (focus (intro vs w1 hE hk; obtain ⟨q, rfl⟩ := hE; go_simp; exact ⟨⟨0, (World.drewN_zero _).symm⟩, rfl⟩)); (simp only [Act.put, List.setIfInBounds_toArray, List.set_cons_zero, List.set_cons_succ, List.cons_append, List.nil_append])
    (with_reducible apply wpF_val); (focus (intro vs w1 hE hk; obtain ⟨q, rfl⟩ := hE; go_simp; exact ⟨⟨0, (World.drewN_zero _).symm⟩, rfl⟩)); (simp only [Act.put, List.setIfInBounds_toArray, List.set_cons_zero, List.set_cons_succ, List.cons_append, List.nil_append])
    (with_reducible apply wpF_val); (focus (intro vs w1 hE hk; obtain ⟨q, rfl⟩ := hE; go_simp; exact ⟨⟨0, (World.drewN_zero _).symm⟩, rfl⟩)); (simp only [Act.put, List.setIfInBounds_toArray, List.set_cons_zero, List.set_cons_succ, List.cons_append, List.nil_append])
    (with_reducible apply wpF_val); (focus (intro vs w1 hE hk; obtain ⟨q, rfl⟩ := hE; go_simp; exact ⟨⟨0, (World.drewN_zero _).symm⟩, rfl⟩)); (simp only [Act.put, List.setIfInBounds_toArray, List.set_cons_zero, List.set_cons_succ, List.cons_append, List.nil_append])
    (with_reducible apply wpF_val); (focus (intro vs w1 hE hk; obtain ⟨q, rfl⟩ := hE; go_simp; exact ⟨⟨0, (World.drewN_zero _).symm⟩, rfl⟩)); (simp only [Act.put, List.setIfInBounds_toArray, List.set_cons_zero, List.set_cons_succ, List.cons_append, List.nil_append])
    (with_reducible apply wpF_val); (focus (intro vs w1 hE hk; obtain ⟨q, rfl⟩ := hE; go_simp; exact ⟨⟨0, (World.drewN_zero _).symm⟩, rfl⟩)); (simp only [Act.put, List.setIfInBounds_toArray, List.set_cons_zero, List.set_cons_succ, List.cons_append, List.nil_append])
    (with_reducible apply wpF_val); (focus (intro vs w1 hE hk; obtain ⟨q, rfl⟩ := hE; go_simp; exact ⟨⟨0, (World.drewN_zero _).symm⟩, rfl⟩)); (simp only [Act.put, List.setIfInBounds_toArray, List.set_cons_zero, List.set_cons_succ, List.cons_append, List.nil_append])
    (with_reducible apply wpF_val); (focus (intro vs w1 hE hk; obtain ⟨q, rfl⟩ := hE; go_simp; exact ⟨⟨0, (World.drewN_zero _).symm⟩, rfl⟩)); (simp only [Act.put, List.setIfInBounds_toArray, List.set_cons_zero, List.set_cons_succ, List.cons_append, List.nil_append])
    (with_reducible apply wpF_val); (focus (intro vs w1 hE hk; obtain ⟨q, rfl⟩ := hE; go_simp; exact ⟨⟨0, (World.drewN_zero _).symm⟩, rfl⟩)); (simp only [Act.put, List.setIfInBounds_toArray, List.set_cons_zero, List.set_cons_succ, List.cons_append, List.nil_append])
    (with_reducible apply wpF_val); (focus (intro vs w1 hE hk; obtain ⟨q, rfl⟩ := hE; go_simp; exact ⟨⟨0, (World.drewN_zero _).symm⟩, rfl⟩)); (simp only [Act.put, List.setIfInBounds_toArray, List.set_cons_zero, List.set_cons_succ, List.cons_append, List.nil_append])
    (with_reducible apply wpF_val); (focus (intro vs w1 hE hk; obtain ⟨q, rfl⟩ := hE; go_simp; exact ⟨⟨0, (World.drewN_zero _).symm⟩, rfl⟩)); (simp only [Act.put, List.setIfInBounds_toArray, List.set_cons_zero, List.set_cons_succ, List.cons_append, List.nil_append])
    (with_reducible apply wpF_val); (focus (intro vs w1 hE hk; obtain ⟨q, rfl⟩ := hE; go_simp; exact ⟨⟨0, (World.drewN_zero _).symm⟩, rfl⟩)); (simp only [Act.put, List.setIfInBounds_toArray, List.set_cons_zero, List.set_cons_succ, List.cons_append, List.nil_append])
    refine wpF_fact (fun u _ => ∃ m, u = .float .f32 (pick .f32 (fop .sub .f32 (fop .mul .f32 x (floatOfInt .f32 ((N : Int) + 2 - 1))) (floatOfInt .f32 (N : Int))) m)) (fun _ _ _ h _ => h) (fun vs w1 hE hk => ?_) ?_; (focus (rw [if_pos (by rfl)]; refine uponW_fop _ _ _ _ _ rfl .f32 _ _ rfl rfl (by decide) (fun n' m' => ⟨⟨_, rfl⟩, n', by first | rfl | simp only [fop_pick_l, fop_pick_r]⟩))); (simp only [Act.put, List.setIfInBounds_toArray, List.set_cons_zero, List.set_cons_succ, List.cons_append, List.nil_append])
    refine wpF_fact (fun u _ => ∃ m, u = .float .f32 (pick .f32 (fop .add .f32 (fat zs N) (fop .mul .f32 (fop .sub .f32 (fop .mul .f32 x (floatOfInt .f32 ((N : Int) + 2 - 1))) (floatOfInt .f32 (N : Int))) (fop .sub .f32 (fat zs (N + 1)) (fat zs N)))) m)) (fun _ _ _ h _ => h) (fun vs w1 hE hk => ?_) ?_; (focus (obtain ⟨n1, hn1⟩ := hk 12 (by kernel_rfl); simp only [hn1]; go_simp; refine (c_between0 _ _ _ _ _ _ _).mono ?_; rintro _ _ ⟨m1, m2, rfl, rfl⟩; exact ⟨_, rfl, ⟨_, rfl⟩, m1, rfl⟩)); (simp only [Act.put, List.setIfInBounds_toArray, List.set_cons_zero, List.set_cons_succ, List.cons_append, List.nil_append])
    refine wpF_nil (fun vs w1 hE hk => ?_)
    obtain ⟨m5, h5⟩ := hk 13
    obtain ⟨q, rfl⟩ := hE
    simp only [h5]
    clear hk h5
    go_wp2_with fail
    go_ret
    exact ⟨_, _, rfl, World.drewN_drewN _ _ _⟩
  · obtain ⟨t, ht⟩ : ∃ t, t = whole32 (fop .mul .f32 x (floatOfInt .f32 ((N : Int) + 2 - 1))) := ⟨_, rfl⟩
    have htN : t ≤ N := by omega
    rw [← ht] at hi1 hi2
    have HI1 := Lib.hid hi1
    have HI2 := Lib.hid hi2
    have hc2 : ¬ (N : Int) < (t : Int) := by omega
    have hc3 : (t : Int) ≤ (N : Int) := by omega
    clear hi1 hi2
    have hI : bendI N (fop .mul .f32 x (floatOfInt .f32 ((N : Int) + 2 - 1))) = t := by unfold bendI; rw [if_neg hc, ht]
    have e : bendV zs x N = fop .add .f32 (fat zs t) (fop .mul .f32 (fop .sub .f32 (fop .mul .f32 x (floatOfInt .f32 ((N : Int) + 2 - 1))) (floatOfInt .f32 (t : Int))) (fop .sub .f32 (fat zs (t + 1)) (fat zs t))) := by unfold bendV; rw [hI]
    rw [e]
    clear e hI ht hc
    obtain ⟨b0, o0, n0, rfl, hb0, e0⟩ := R2.out.at (k := t) (by omega)
    obtain ⟨b1, o1, n1, hab, hb1, e1⟩ := R2.out.at (k := t + 1) (by omega)
    cases hab
    clear hb0 hb1
    have hp1 := HP1.out
    have hp2 := HP2.out
    go_enter Try.func134, Try.ntmps134
    go_wp2_with (first | (first | (refine wpList_fop rfl _ _ _ _ _ rfl _ _ _ rfl rfl (by decide) _ ?_; intro _ _) | (refine upon_fop _ _ _ _ _ (by decide) ?_; intro _ _)) | (refine wpList_ftoi32 rfl 31 3 _ rfl (Option.isSome_iff_exists.2 ⟨_, Try.underlying31⟩) .i64 Try.underlying3 _ _ rfl (by exact HI1.out) ?_))
    have g1 : t < N + 2 := by omega
    have g2 : t + 1 < N + 2 := by omega
    have g3 : (t : Int) < (N : Int) + 2 := by omega
    have g4 : (t : Int) + 1 < (N : Int) + 2 := by omega
    have mw : IntKind.i64.wrap ((t : Int) + 1) = (t : Int) + 1 := IntWalk.i64_in _ (by omega)
    have g5 : (0 : Int) ≤ (t : Int) + 1 := by omega
    have g6 : ((t : Int) + 1).toNat = t + 1 := by omega
    refine wp_region_facts 14 (fun a b => ∃ n, b = a.drewN n) (fun a => ⟨0, (World.drewN_zero a).symm⟩) (fun a b c h h' => by obtain ⟨n, rfl⟩ := h; obtain ⟨m, rfl⟩ := h'; exact ⟨_, World.drewN_drewN _ _ _⟩) ⟨1, rfl⟩ (by kernel_rfl) (by kernel_rfl) (by kernel_rfl) (by kernel_rfl) ?_
    simp only [List.take_succ_cons, List.take_zero, List.drop_succ_cons, List.drop_zero]
    (with_reducible apply wpF_val); (focus (intro vs w1 hE hk; obtain ⟨q, rfl⟩ := hE; go_simp; exact ⟨⟨0, (World.drewN_zero _).symm⟩, rfl⟩)); (simp only [Act.put, List.setIfInBounds_toArray, List.set_cons_zero, List.set_cons_succ, List.cons_append, List.nil_append])
    (with_reducible apply wpF_val); (focus (intro vs w1 hE hk; obtain ⟨q, rfl⟩ := hE; go_simp; exact ⟨⟨0, (World.drewN_zero _).symm⟩, rfl⟩)); (simp only [Act.put, List.setIfInBounds_toArray, List.set_cons_zero, List.set_cons_succ, List.cons_append, List.nil_append])
    (with_reducible apply wpF_val); (focus (intro vs w1 hE hk; obtain ⟨q, rfl⟩ := hE; go_simp; exact ⟨⟨0, (World.drewN_zero _).symm⟩, rfl⟩)); (simp only [Act.put, List.setIfInBounds_toArray, List.set_cons_zero, List.set_cons_succ, List.cons_append, List.nil_append])
    (with_reducible apply wpF_val); (focus (intro vs w1 hE hk; obtain ⟨q, rfl⟩ := hE; go_simp; exact ⟨⟨0, (World.drewN_zero _).symm⟩, rfl⟩)); (simp only [Act.put, List.setIfInBounds_toArray, List.set_cons_zero, List.set_cons_succ, List.cons_append, List.nil_append])
    (with_reducible apply wpF_val); (focus (intro vs w1 hE hk; obtain ⟨q, rfl⟩ := hE; go_simp; exact ⟨⟨0, (World.drewN_zero _).symm⟩, rfl⟩)); (simp only [Act.put, List.setIfInBounds_toArray, List.set_cons_zero, List.set_cons_succ, List.cons_append, List.nil_append])
    (with_reducible apply wpF_val); (focus (intro vs w1 hE hk; obtain ⟨q, rfl⟩ := hE; go_simp; exact ⟨⟨0, (World.drewN_zero _).symm⟩, rfl⟩)); (simp only [Act.put, List.setIfInBounds_toArray, List.set_cons_zero, List.set_cons_succ, List.cons_append, List.nil_append])
    (with_reducible apply wpF_val); (focus (intro vs w1 hE hk; obtain ⟨q, rfl⟩ := hE; go_simp; exact ⟨⟨0, (World.drewN_zero _).symm⟩, rfl⟩)); (simp only [Act.put, List.setIfInBounds_toArray, List.set_cons_zero, List.set_cons_succ, List.cons_append, List.nil_append])
    (with_reducible apply wpF_val); (focus (intro vs w1 hE hk; obtain ⟨q, rfl⟩ := hE; go_simp; exact ⟨⟨0, (World.drewN_zero _).symm⟩, rfl⟩)); (simp only [Act.put, List.setIfInBounds_toArray, List.set_cons_zero, List.set_cons_succ, List.cons_append, List.nil_append])
    (with_reducible apply wpF_val); (focus (intro vs w1 hE hk; obtain ⟨q, rfl⟩ := hE; go_simp; exact ⟨⟨0, (World.drewN_zero _).symm⟩, rfl⟩)); (simp only [Act.put, List.setIfInBounds_toArray, List.set_cons_zero, List.set_cons_succ, List.cons_append, List.nil_append])
    (with_reducible apply wpF_val); (focus (intro vs w1 hE hk; obtain ⟨q, rfl⟩ := hE; go_simp; exact ⟨⟨0, (World.drewN_zero _).symm⟩, rfl⟩)); (simp only [Act.put, List.setIfInBounds_toArray, List.set_cons_zero, List.set_cons_succ, List.cons_append, List.nil_append])
    (with_reducible apply wpF_val); (focus (intro vs w1 hE hk; obtain ⟨q, rfl⟩ := hE; go_simp; exact ⟨⟨0, (World.drewN_zero _).symm⟩, rfl⟩)); (simp only [Act.put, List.setIfInBounds_toArray, List.set_cons_zero, List.set_cons_succ, List.cons_append, List.nil_append])
    (with_reducible apply wpF_val); (focus (intro vs w1 hE hk; obtain ⟨q, rfl⟩ := hE; go_simp; exact ⟨⟨0, (World.drewN_zero _).symm⟩, rfl⟩)); (simp only [Act.put, List.setIfInBounds_toArray, List.set_cons_zero, List.set_cons_succ, List.cons_append, List.nil_append])
    refine wpF_fact (fun u _ => ∃ m, u = .float .f32 (pick .f32 (fop .sub .f32 (fop .mul .f32 x (floatOfInt .f32 ((N : Int) + 2 - 1))) (floatOfInt .f32 (t : Int))) m)) (fun _ _ _ h _ => h) (fun vs w1 hE hk => ?_) ?_; (focus (rw [if_pos (by rfl)]; refine uponW_fop _ _ _ _ _ rfl .f32 _ _ rfl rfl (by decide) (fun n' m' => ⟨⟨_, rfl⟩, n', by first | rfl | simp only [fop_pick_l, fop_pick_r]⟩))); (simp only [Act.put, List.setIfInBounds_toArray, List.set_cons_zero, List.set_cons_succ, List.cons_append, List.nil_append])
    refine wpF_fact (fun u _ => ∃ m, u = .float .f32 (pick .f32 (fop .add .f32 (fat zs t) (fop .mul .f32 (fop .sub .f32 (fop .mul .f32 x (floatOfInt .f32 ((N : Int) + 2 - 1))) (floatOfInt .f32 (t : Int))) (fop .sub .f32 (fat zs (t + 1)) (fat zs t)))) m)) (fun _ _ _ h _ => h) (fun vs w1 hE hk => ?_) ?_; (focus (obtain ⟨n1, hn1⟩ := hk 12 (by kernel_rfl); simp only [hn1]; go_simp; refine (c_between0 _ _ _ _ _ _ _).mono ?_; rintro _ _ ⟨m1, m2, rfl, rfl⟩; exact ⟨_, rfl, ⟨_, rfl⟩, m1, rfl⟩)); (simp only [Act.put, List.setIfInBounds_toArray, List.set_cons_zero, List.set_cons_succ, List.cons_append, List.nil_append])
    refine wpF_nil (fun vs w1 hE hk => ?_)
    obtain ⟨m5, h5⟩ := hk 13
    obtain ⟨q, rfl⟩ := hE
    simp only [h5]
    clear hk h5
    go_wp2_with fail
    go_ret
    exact ⟨_, _, rfl, World.drewN_drewN _ _ _⟩
/-! ### bend1 -/
theorem c_bend1 (zs : List Nat) (N : Nat) (a : Option Addr) (c x n b : Nat) (w : World) (j : Nat) (hb : w.cell? ⟨b, 0, none⟩ = some (.slice a (N + 2) c)) (hN : zs.length = N + 2) (hN2 : N ≤ 15) (hr : IsRowF .f32 w a (N + 2) c zs) (hs : shareB x = true) : Calls Try.prog 133 #[.float .f32 (pick .f32 x n), .pointer (some ⟨b, 0, none⟩)] (w.drewN j) (RetF .f32 (bendV zs x N) w) := by
  have CA := Lib.hid (fun n j => c_bendAt zs N a c x n w j hN hN2 hr hs)
  clear hN hr hs
  go_enter Try.func133, Try.ntmps133
  go_wp2_with ((go_at_call 134; refine (CA.out _ _).mono ?_; rintro _ _ ⟨_, _, rfl, rfl⟩))
  go_ret
  exact ⟨_, _, rfl, rfl⟩
/-! ### ifValid -/
theorem c_ifValid_yes (W H : Int) (a : Option Addr) (len cap : Nat) (zs : List Nat) (w : World) (hr : IsRowF .f32 w a len cap zs) (hv : validB W H zs = true) : Calls Try.prog 150 #[.agg #[.int .i64 W, .int .i64 H, .slice a len cap]] w (RetB (.tuple #[.agg #[.int .i64 W, .int .i64 H, .slice a len cap], .bool true]) w) := by
  have HR := Lib.hid hr
  have HV := Lib.hid hv
  clear hr hv
  go_enter Try.func150, Try.ntmps150
  go_wp2_with fail
  refine (c_iValid W H a len cap zs _ ((HR.out.alloc _).alloc _)).mono ?_
  rintro _ w1 ⟨rfl, b⟩
  rw [HV.out]
  have V1 := Lib.hid ((((Var.new' _ _ _ (w.heap.size) rfl).alloc _)).keep b)
  have V2 := Lib.hid ((Var.new' _ _ _ (w.heap.size + 1) (by simp)).keep b)
  have z1 : w.heap.size + 1 < w1.heap.size := by have := b.size; simp at this; omega
  have B1 := Lib.hid ((((Below.refl w.heap.size w).alloc (Nat.le_refl _) _).alloc (by simp) _).trans (b.mono (by simp; omega)))
  have Fr := Lib.hid ((Free.new' _ _ _ (w.heap.size + 1) (by simp)).below (by simp <;> omega) b)
  clear b
  obtain ⟨p0, p1, p2⟩ := V1.out.three
  obtain ⟨q0, q1, q2⟩ := V2.out.three
  have f0 := Fr.out 0
  have f1 := Fr.out 1
  have f2 := Fr.out 2
  go_wp2_with fail
  refine bodyPost_ret (v := .tuple #[.agg #[.int .i64 W, .int .i64 H, .slice a len cap], .bool true]) (by simp [results, Try.results150, q0, q1, q2, go_sem]) rfl ⟨rfl, ?_⟩
  exact ((B1.out.setCell (by simp <;> omega) _).setCell (by simp <;> omega) _).setCell (by simp <;> omega) _
theorem c_ifValid_no (W H : Int) (a : Option Addr) (len cap : Nat) (zs : List Nat) (w : World) (hr : IsRowF .f32 w a len cap zs) (hv : validB W H zs = false) : Calls Try.prog 150 #[.agg #[.int .i64 W, .int .i64 H, .slice a len cap]] w (RetB (.tuple #[.agg #[.int .i64 0, .int .i64 0, .slice none 0 0], .bool false]) w) := by
  have HR := Lib.hid hr
  have HV := Lib.hid hv
  clear hr hv
  go_enter Try.func150, Try.ntmps150
  go_wp2_with fail
  refine (c_iValid W H a len cap zs _ ((HR.out.alloc _).alloc _)).mono ?_
  rintro _ w1 ⟨rfl, b⟩
  rw [HV.out]
  have V2 := Lib.hid ((Var.new' _ _ _ (w.heap.size + 1) (by simp)).keep b)
  have z1 : w.heap.size + 1 < w1.heap.size := by have := b.size; simp at this; omega
  have B1 := Lib.hid ((((Below.refl w.heap.size w).alloc (Nat.le_refl _) _).alloc (by simp) _).trans (b.mono (by simp; omega)))
  have Fr := Lib.hid ((Free.new' _ _ _ (w.heap.size + 1) (by simp)).below (by simp <;> omega) b)
  clear b
  obtain ⟨q0, q1, q2⟩ := V2.out.three
  have f0 := Fr.out 0
  have f1 := Fr.out 1
  have f2 := Fr.out 2
  go_wp2_with fail
  refine bodyPost_ret (v := .tuple #[.agg #[.int .i64 0, .int .i64 0, .slice none 0 0], .bool false]) (by simp [results, Try.results150, q0, q1, q2, go_sem]) rfl ⟨rfl, ?_⟩
  exact ((B1.out.setCell (by simp <;> omega) _).setCell (by simp <;> omega) _).setCell (by simp <;> omega) _

/-! ### setSnoc -/
theorem set_snoc (zs : List Nat) (n k v : Nat) (hz : zs.length = k) (hk : k < n) : (fl .f32 zs ++ List.replicate (n - k) (Value.float .f32 0)).set k (.float .f32 v) = fl .f32 (zs ++ [v]) ++ List.replicate (n - (k + 1)) (Value.float .f32 0) := by
  obtain ⟨r, hr⟩ : ∃ r, n - k = r + 1 := ⟨n - k - 1, by omega⟩
  have hr2 : n - (k + 1) = r := by omega
  have hl : (fl .f32 zs).length = k := by simp [fl, hz]
  rw [hr, hr2, List.set_append_right _ _ (by omega), hl, Nat.sub_self, List.replicate_succ, List.set_cons_zero]
  simp [fl]
/-! ### changeBend -/
theorem c_changeBend (WA HA : Int) (zA : List Nat) (aA : Option Addr) (cA : Nat) (zC : List Nat) (N : Nat) (cu : Option Addr) (cc x : Nat) (hNC : Hid (zC.length = N + 2)) (hN2 : N ≤ 15) (hlev : Hid (levL zA = true)) (w : World) (rA : IsRowF .f32 w aA zA.length cA zA) (hx0 : x < w.heap.size) (hc0 : w.cell? ⟨x, 0, none⟩ = some (.slice cu (N + 2) cc)) (hcu : IsRowF .f32 w cu (N + 2) cc zC) (hb : validB WA HA zA = true) : Calls Try.prog 89 #[.agg #[.int .i64 WA, .int .i64 HA, .slice aA zA.length cA], .func (.func 133) #[] #[.pointer (some ⟨x, 0, none⟩)]] w (RetP 31 (giveP WA HA (bendL zC N zA)) w) := by
  have HVA := Lib.hid hb
  have HCU := Lib.hid hcu
  clear hcu
  have hl256 := (valid_len hb).2.1
  have hl1 := (valid_len hb).2.2
  obtain ⟨i0, hinf, hz0, hz1, hz2⟩ := info_parts infoFo
  have HC0 := Lib.hid hc0
  clear hb hc0
  have RA := Lib.hid rA
  clear rA
  generalize hw2 : (w.alloc (Obj.cells #[.int .i64 WA, .int .i64 HA, .slice aA zA.length cA] 26)).alloc (Obj.cells #[.int .i64 0, .int .i64 0, .slice none 0 0] 26) = w2
  have B0 : Below w.heap.size w w2 := by subst hw2; exact ((Below.refl _ _).alloc (Nat.le_refl _) _).alloc (by simp) _
  have VA' : Var w2 w.heap.size #[.int .i64 WA, .int .i64 HA, .slice aA zA.length cA] := by subst hw2; exact (Var.new _ _ _).alloc _
  have VR := Lib.hid (show Var w2 (w.heap.size + 1) #[.int .i64 0, .int .i64 0, .slice none 0 0] from by subst hw2; exact Var.new' _ _ _ _ (by simp))
  have FR := Lib.hid (show Free w2 (w.heap.size + 1) from by subst hw2; exact Free.new' _ _ _ _ (by simp))
  have BW := Lib.hid B0
  have HW2 := Lib.hid hw2
  have SZ : w2.heap.size = w.heap.size + 1 + 1 := by subst hw2; simp
  have KS := Lib.hid (fun (w' : World) (hE : Below w2.heap.size w2 w') => (⟨(hE.cell (p := ⟨w.heap.size, 0, none⟩) (by show w.heap.size < _; omega)).trans VA'.three.1, (hE.cell (p := ⟨w.heap.size, 1, none⟩) (by show w.heap.size < _; omega)).trans VA'.three.2.1, (hE.cell (p := ⟨w.heap.size, 2, none⟩) (by show w.heap.size < _; omega)).trans VA'.three.2.2⟩ : w'.cell? ⟨w.heap.size, 0, none⟩ = some (.int .i64 WA) ∧ w'.cell? ⟨w.heap.size, 1, none⟩ = some (.int .i64 HA) ∧ w'.cell? ⟨w.heap.size, 2, none⟩ = some (.slice aA zA.length cA)))
  clear B0 VA' hw2
  go_enter Try.func89, Try.ntmps89
  go_wp2_with fail
  rw [HW2.out]
  refine (c_iValid WA HA aA _ cA zA _ (RA.out.below BW.out)).mono ?_
  rintro _ w3 ⟨rfl, hE⟩
  rw [HVA.out]
  have BX := Lib.hid (BW.out.trans (hE.mono (by omega)))
  have VX := Lib.hid (VR.out.keep hE)
  have FX := Lib.hid (FR.out.below (by omega) hE)
  have S2 : w.heap.size + 1 < w3.heap.size := by have := hE.size; omega
  have RA3 := Lib.hid (RA.out.below BX.out)
  have K3 := Lib.hid (KS.out w3 hE)
  have HX30 := Lib.hid ((BX.out.cell (p := ⟨x, 0, none⟩) hx0).trans HC0.out)
  have SX0 : x < w3.heap.size := by omega
  clear hE KS VR FR BW
  have KX := Lib.hid (fun (wr : World) (hB : Below w3.heap.size w3 wr) => (by obtain ⟨d0, d1, d2⟩ := K3.out; exact ⟨(hB.cell (p := ⟨w.heap.size, 0, none⟩) (by show w.heap.size < _; omega)).trans d0, (hB.cell (p := ⟨w.heap.size, 1, none⟩) (by show w.heap.size < _; omega)).trans d1, (hB.cell (p := ⟨w.heap.size, 2, none⟩) (by show w.heap.size < _; omega)).trans d2, (hB.cell (p := ⟨x, 0, none⟩) (by show x < _; omega)).trans HX30.out⟩ : wr.cell? ⟨w.heap.size, 0, none⟩ = some (.int .i64 WA) ∧ wr.cell? ⟨w.heap.size, 1, none⟩ = some (.int .i64 HA) ∧ wr.cell? ⟨w.heap.size, 2, none⟩ = some (.slice aA zA.length cA) ∧ wr.cell? ⟨x, 0, none⟩ = some (.slice cu (N + 2) cc)))
  obtain ⟨d0, d1, d2⟩ := K3.out
  go_wp2_with (at_make; refine wpList_make_full _ rfl _ _ 24 rfl w3.heap.size 31 i0 (.float .f32 0) 1 Try.underlying24 hinf hz0 hz1 _ _ _ _ zA.length rfl rfl rfl rfl (by rw [hz2]; omega) (by unfold maxLen; omega) (by simp) ?_; intro w4 hown hgrow; have B4 : Below w3.heap.size w3 w4 := (Below.refl _ _).grown hgrow (Nat.le_refl _) (by simp); obtain ⟨g0, g1, g2, g3⟩ := KX.out w4 B4)
  have hblk := block_of_owns hown
  have ez : (madeCells (Value.float FloatKind.f32 0).cells (zA.length * 1)).toList = List.replicate zA.length (.float .f32 0) := by rw [Nat.mul_one]; exact made_zeros _ _
  rw [ez] at hblk
  have hz4 : w3.heap.size < w4.heap.size := block_lt hblk
  have HB4 := Lib.hid hblk
  have HG := Lib.hid B4
  clear hown hgrow hblk ez hz0 hz1 hz2 d0 d1 d2 g0 g1 g2 g3 B4
  go_loopw [7, 8, 20] (fun _ _ i wr => ∃ (k : Nat) (zs : List Nat), k ≤ zA.length ∧ i = .int .i64 k ∧ Below w3.heap.size w3 wr ∧ near zs ((bendL zC N zA).take k) ∧ zs.length = k ∧ (∀ b ∈ zs, (Lit.float .f32 b).wf = true) ∧ w3.heap.size < wr.heap.size ∧ wr.heap[w3.heap.size]? = some (.cells (fl .f32 zs ++ List.replicate (zA.length - k) (Value.float .f32 0)).toArray 31 (0, 0))) (fun _ _ i _ => zA.length - (intOf i).toNat)
  case atStart => exact ⟨0, [], Nat.zero_le _, rfl, HG.out, by simpa using near_nil, rfl, by simp, hz4, by rw [HB4.out]; rfl⟩
  case round =>
    obtain ⟨k, zs, hk, rfl, hB, hnear, hzl, hwf, hzr, hblk⟩ := hrel
    have HB := Lib.hid hB
    have HN := Lib.hid hnear
    have HZ := Lib.hid hzl
    have HW := Lib.hid hwf
    have Hblk := Lib.hid hblk
    clear hB hnear hzl hwf hblk
    obtain ⟨d0, d1, d2, dx0⟩ := KX.out wr HB.out
    by_cases hlt : k < zA.length
    · obtain ⟨bA, oA, nA, rfl, hbA, eA⟩ := (RA3.out.below HB.out).at hlt
      have hold : ∀ m, (wr.drewN m).cell? ⟨w3.heap.size, k, none⟩ = some (.float .f32 0) := fun m => by
        show wr.cell? _ = _
        rw [cell_of_block Hblk.out, List.getElem?_append_right (by simp [fl, HZ.out])]
        have e : (fl FloatKind.f32 zs).length = k := by simp [fl, HZ.out]
        rw [e, Nat.sub_self, List.getElem?_replicate, if_pos (by omega)]
      have hold0 := hold 0
      rw [wr.drewN_zero] at hold0
      have hfz : wr.frozen? ⟨w3.heap.size, k, none⟩ = false := frozen_of_block Hblk.out k
      have HSet := Lib.hid (fun (u m : Nat) => (by have h := block_set (w := wr.drewN m) (show (wr.drewN m).heap[w3.heap.size]? = _ from Hblk.out) k (.float .f32 u); rwa [set_snoc zs _ k u HZ.out hlt] at h : ((wr.drewN m).setCell ⟨w3.heap.size, k, none⟩ (.float .f32 u)).heap[w3.heap.size]? = some (.cells (fl .f32 (zs ++ [u]) ++ List.replicate (zA.length - (k + 1)) (Value.float .f32 0)).toArray 31 (0, 0))))
      have HLat := Lib.hid (bendL_at (zC := zC) (N := N) hlt)
      clear hold hbA
      go_wp2_with fail
      rw [← wr.drewN_zero]
      refine (c_bend1 zC N cu cc (fat zA k) nA x wr 0 dx0 hNC.out hN2 (HCU.out.below (BX.out.trans (HB.out.mono (by omega)))) (lev_at2 hlev.out hlt)).mono ?_
      rintro _ _ ⟨n5, m5, rfl, rfl⟩
      go_wp2_with fail
      go_roundw
      case rel => exact ⟨k + 1, zs ++ [pick .f32 (bendV zC (fat zA k) N) n5], by omega, by go_num, (below_drewN HB.out _).setCell (Nat.le_refl _) _, by rw [← HLat.out]; exact near_snoc HN.out (by rw [bendL_len]; exact hlt) n5, by simp [HZ.out], (fun b hb => by
        rcases List.mem_append.1 hb with h | h
        · exact HW.out b h
        · simp at h; subst h; exact pick_wf ((bendV_lt _ _ _)) n5), by simpa using hzr, HSet.out _ _⟩
      case measure => simp [intOf]; omega
    · obtain rfl : k = zA.length := by omega
      have hz : near zs (bendL zC N zA) := by have h := HN.out; rwa [List.take_of_length_le (by rw [bendL_len]; exact Nat.le_refl _)] at h
      have hblk2 := Hblk.out
      rw [Nat.sub_self, List.replicate_zero, List.append_nil] at hblk2
      have hown : Own 31 wr w3.heap.size (some ⟨w3.heap.size, 0, none⟩) zA.length zA.length zs :=
        ⟨HZ.out, ⟨by simp [fl, HZ.out], .inr ⟨w3.heap.size, zA.length, _, rfl, Nat.le_refl _, hblk2, Nat.le_refl _, by unfold maxLen; omega, by simp [fl, HZ.out], by rw [List.take_of_length_le (by simp [fl, HZ.out])]⟩⟩, HW.out⟩
      have HO := Lib.hid hown
      have HZN := Lib.hid hz
      have HML := Lib.hid (show (bendL zC N zA).length = zA.length from by rw [bendL_len])
      have VR := Lib.hid (VX.out.keep HB.out)
      have FR := Lib.hid (FX.out.below (by omega) HB.out)
      have BW := Lib.hid (BX.out.trans (HB.out.mono (by omega)))
      have SW : w3.heap.size ≤ wr.heap.size := HB.out.size
      have HVZ := Lib.hid (near_valid (W := WA) (H := HA) hz)
      clear hz hown hblk2
      go_wp2_with fail
      cases hv2 : validB WA HA (bendL zC N zA)
      · have HG2 := Lib.hid (show giveP WA HA (bendL zC N zA) = PRes.no from by unfold giveP; rw [hv2]; rfl)
        have HV2 := Lib.hid hv2
        clear hv2
        refine (c_ifValid_no WA HA _ _ _ zs wr HO.out.row (by rw [HVZ.out]; exact HV2.out)).mono ?_
        rintro _ wz ⟨rfl, b⟩
        obtain ⟨cr0, cr1, cr2⟩ := (VR.out.keep b).three
        have fr := FR.out.below (by omega) b
        have f0 := fr 0
        have f1 := fr 1
        have f2 := fr 2
        have hsz := b.size
        have HB2 := Lib.hid (BW.out.trans (b.mono (by omega)))
        clear fr b
        go_wp2_with fail
        refine bodyPost_ret (v := .tuple #[.agg #[.int .i64 0, .int .i64 0, .slice none 0 0], .bool false]) (by simp [results, Try.results89, cr0, cr1, cr2, go_sem]) rfl (by rw [HG2.out]; exact ⟨none, 0, rfl, Nat.zero_le _, ((HB2.out.setCell (by simp <;> omega) _).setCell (by simp <;> omega) _).setCell (by simp <;> omega) _, Own.nil _ _ _⟩)
      · have HG2 := Lib.hid (show giveP WA HA (bendL zC N zA) = ⟨WA, HA, bendL zC N zA, true⟩ from by unfold giveP; rw [hv2]; rfl)
        have hfin := valid_fin hv2
        obtain rfl := near_eq HZN.out hfin
        clear hfin
        have HV2 := Lib.hid hv2
        clear hv2
        refine (c_ifValid_yes WA HA _ _ _ _ wr HO.out.row HV2.out).mono ?_
        rintro _ wz ⟨rfl, b⟩
        obtain ⟨cr0, cr1, cr2⟩ := (VR.out.keep b).three
        have fr := FR.out.below (by omega) b
        have f0 := fr 0
        have f1 := fr 1
        have f2 := fr 2
        have hsz := b.size
        have HB2 := Lib.hid (BW.out.trans (b.mono (by omega)))
        have HO2 := Lib.hid (HO.out.below b)
        clear fr b
        go_wp2_with fail
        have hrow : blk (some ⟨w3.heap.size, 0, none⟩) ≠ some (w.heap.size + 1) := fun e => by simp [blk] at e; omega
        refine bodyPost_ret (v := .tuple #[.agg #[.int .i64 WA, .int .i64 HA, .slice (some ⟨w3.heap.size, 0, none⟩) zA.length zA.length], .bool true]) (by simp [results, Try.results89, cr0, cr1, cr2, go_sem]) rfl (by rw [HG2.out]; exact ⟨_, _, by rw [HML.out], by (show (bendL zC N zA).length ≤ 1048576); rw [HML.out]; omega, ((HB2.out.setCell (by simp <;> omega) _).setCell (by simp <;> omega) _).setCell (by simp <;> omega) _, (((Own.re HML.out.symm HO2.out).setCell hrow _).setCell hrow _).setCell hrow _ |>.mono (by omega)⟩)
/-! ### areRising -/
theorem c_areRising (zs : List Nat) (a : Option Addr) (c : Nat) (w : World) (j0 : Nat) (hr : IsRowF .f32 w a zs.length c zs) : Calls Try.prog 136 #[.slice a zs.length c] (w.drewN j0) (RetV (.bool (riseK zs zs.length && finL zs)) w) := by
  have mA : zs.length ≤ maxLen := Nat.le_trans hr.2.1 hr.2.2.1
  unfold maxLen at mA
  have RA := Lib.hid hr
  clear hr
  go_enter Try.func136, Try.ntmps136
  go_wp2_with fail
  go_loopw [3, 4, 7] (fun _ _ i wr => ∃ k m : Nat, k ≤ zs.length ∧ i = .int .i64 k ∧ wr = w.drewN m ∧ riseK zs k = true) (fun _ _ i _ => zs.length - (intOf i).toNat)
  case atStart => exact ⟨0, _, by omega, rfl, rfl, rfl⟩
  case round =>
    obtain ⟨k, m, hk, rfl, rfl, hR⟩ := hrel
    have HR := Lib.hid hR
    clear hR
    by_cases hlt : k < zs.length
    · obtain ⟨bA, oA, nA, rfl, hbA, eA⟩ := RA.out.at hlt
      clear hbA
      cases k with
      | zero =>
        rw [Nat.add_zero] at eA
        go_wp2_with fail
        go_roundw
        case rel => exact ⟨1, _, by omega, by go_num, rfl, rfl⟩
        case measure => simp [intOf]; omega
      | succ k =>
        obtain ⟨bB, oB, nB, hab, hbB, eB⟩ := RA.out.at (k := k) (by omega)
        cases hab
        clear hbB
        cases hle : leB (fat zs (k + 1)) (fat zs k)
        all_goals
          have HL := Lib.hid hle
          unfold leB at hle
          go_wp2_with fail
        · go_roundw
          case rel => exact ⟨k + 2, _, by omega, by go_num, rfl, by show (riseK zs (k + 1) && !leB (fat zs (k + 1)) (fat zs k)) = true; rw [HR.out, HL.out]; rfl⟩
          case measure => simp [intOf]; omega
        · go_ret
          exact ⟨_, by rw [riseK_false (k := k + 2) (show (riseK zs (k + 1) && !leB (fat zs (k + 1)) (fat zs k)) = false by rw [HL.out, Bool.not_true, Bool.and_false]) zs.length (by omega)]; rfl, rfl⟩
    · obtain rfl : k = zs.length := by omega
      go_wp2_with ((go_at_call 91; refine (c_areFinite a zs.length c zs w _ RA.out).mono ?_; rintro _ _ ⟨_, rfl, rfl⟩))
      go_ret
      exact ⟨_, by rw [HR.out]; rfl, rfl⟩
/-! ### iIsBend -/
theorem bendC_short {zs : List Nat} (h : zs.length < 2) : bendB zs = false := by unfold bendB; rw [decide_eq_false (by omega)]; rfl
theorem bendC_long {zs : List Nat} (h : 17 < zs.length) : bendB zs = false := by unfold bendB; rw [decide_eq_false (p := zs.length ≤ 17) (by omega), Bool.and_false]; rfl
theorem bendB_mid2 {zs : List Nat} (h1 : ¬ zs.length < 2) (h2 : ¬ 17 < zs.length) : bendB zs = (riseK zs zs.length && finL zs) := by unfold bendB; rw [decide_eq_true (p := zs.length ≤ 17) (by omega), decide_eq_true (by omega), Bool.and_comm (finL zs)]; rfl
theorem c_iIsBend0 (zs : List Nat) (a : Option Addr) (c : Nat) (w : World) (j0 : Nat) (hr : IsRowF .f32 w a zs.length c zs) : Calls Try.prog 131 #[.slice a zs.length c] (w.drewN j0) (RetV (.bool (bendB zs)) w) := by
  have mA : zs.length ≤ maxLen := Nat.le_trans hr.2.1 hr.2.2.1
  unfold maxLen at mA
  have RA := Lib.hid hr
  clear hr
  by_cases h1 : zs.length < 2
  · rw [bendC_short h1]
    have g : ¬ (2 : Int) ≤ (zs.length : Int) := by omega
    go_enter Try.func131, Try.ntmps131
    go_wp2_with fail
    go_ret
    exact ⟨_, by simp, rfl⟩
  by_cases h2 : 17 < zs.length
  · rw [bendC_long h2]
    go_enter Try.func131, Try.ntmps131
    go_wp2_with fail
    go_ret
    exact ⟨_, by simp, rfl⟩
  rw [bendB_mid2 h1 h2]
  have C := Lib.hid (fun j => c_areRising zs a c w j RA.out)
  generalize (riseK zs zs.length && finL zs) = r at *
  go_enter Try.func131, Try.ntmps131
  go_wp2_with ((go_at_call 136; refine (C.out _).mono ?_; rintro _ _ ⟨_, rfl, rfl⟩))
  go_ret
  exact ⟨_, by simp, rfl⟩
/-! ### iBendPicture -/
def resBend (WA HA : Int) (zA zC : List Nat) : PRes := if (shotB WA HA zA && bendB zC) = true then giveP WA HA (bendL zC (zC.length - 2) zA) else PRes.no
theorem c_iBendPicture (WA HA : Int) (zA : List Nat) (aA : Option Addr) (cA : Nat) (zC : List Nat) (nC : Nat) (hC : zC.length = nC) (cu : Option Addr) (cc : Nat) (w : World) (rA : IsRowF .f32 w aA zA.length cA zA) (rC : IsRowF .f32 w cu nC cc zC) : Calls Try.prog 52 #[.agg #[.int .i64 WA, .int .i64 HA, .slice aA zA.length cA], .slice cu nC cc] w (RetP 31 (resBend WA HA zA zC) w) := by
  have CB := Lib.hid (fun (w : World) (j : Nat) (rC : IsRowF .f32 w cu nC cc zC) => (by have h := c_iIsBend0 zC cu cc w j (by rw [hC]; exact rC); rwa [hC] at h : Calls Try.prog 131 #[.slice cu nC cc] (w.drewN j) (RetV (.bool (bendB zC)) w)))
  generalize hw5 : ((w.alloc (Obj.cells #[.int .i64 WA, .int .i64 HA, .slice aA zA.length cA] 26)).alloc (Obj.cells #[.slice cu nC cc] 24)).alloc (Obj.cells #[.int .i64 0, .int .i64 0, .slice none 0 0] 26) = w2
  have X0 : Var w2 w.heap.size #[.int .i64 WA, .int .i64 HA, .slice aA zA.length cA] := by subst hw5; exact ((Var.new _ _ _).alloc _).alloc _
  have X1 : Var w2 (w.heap.size + 1) #[.slice cu nC cc] := by subst hw5; exact (Var.new' _ _ _ _ (by simp)).alloc _
  have X3 : Var w2 (w.heap.size + 1 + 1) #[.int .i64 0, .int .i64 0, .slice none 0 0] := by subst hw5; exact Var.new' _ _ _ _ (by simp)
  have X4 : Free w2 (w.heap.size + 1 + 1) := by subst hw5; exact Free.new' _ _ _ _ (by simp)
  have X5 : Below w.heap.size w w2 := by subst hw5; exact (((Below.refl w.heap.size w).alloc (Nat.le_refl _) _).alloc (by simp) _).alloc (by simp; omega) _
  have X6 := rA.below X5
  have X7 := rC.below X5
  have z2 := X3.lt
  have L1 := Lib.hid (X1.2 0 (by simp))
  have l1 : w2.cell? ⟨w.heap.size + 1, 0, none⟩ = some (.slice cu nC cc) := L1.out
  have Y0 := Lib.hid X0
  have Y1 := Lib.hid X1.lt
  have Y3 := Lib.hid X3
  have Y4 := Lib.hid X4
  have Y5 := Lib.hid X5
  have Y6 := Lib.hid X6
  have Y7 := Lib.hid X7
  have HW := Lib.hid hw5
  clear X0 X1 X3 X4 X5 X6 X7 hw5 rA rC
  cases hb : bendB zC
  · have e : resBend WA HA zA zC = PRes.no := by unfold resBend; rw [hb, Bool.and_false]; rfl
    rw [e]
    have C1 := Lib.hid (fun j => (by have h := CB.out w2 j Y7.out; rwa [hb] at h : Calls Try.prog 131 #[.slice cu nC cc] (w2.drewN j) (RetV (.bool false) w2)))
    clear e hb CB hC
    go_enter Try.func52, Try.ntmps52
    go_wp2_with fail
    rw [HW.out]
    rw [← w2.drewN_zero]
    obtain ⟨q0, q1, q2⟩ := Y3.out.three
    have f0 := Y4.out 0
    have f1 := Y4.out 1
    have f2 := Y4.out 2
    go_wp2_with ((go_at_call 131; refine (C1.out _).mono ?_; rintro _ _ ⟨_, rfl, rfl⟩))
    refine bodyPost_ret (v := .tuple #[.agg #[.int .i64 0, .int .i64 0, .slice none 0 0], .bool false]) (by simp [results, Try.results52, q0, q1, q2, go_sem]) rfl (show RetP _ PRes.no _ _ _ from ⟨none, 0, rfl, Nat.zero_le _, ?_, Own.nil _ _ _⟩)
    repeat (first | exact Y5.out | exact Nat.le_refl _ | (refine Below.setCell ?_ ?_ _) | (refine below_drewN ?_ _) | (refine Below.alloc ?_ ?_ _) | (simp <;> omega))
  have C1 := Lib.hid (fun j => (by have h := CB.out w2 j Y7.out; rwa [hb] at h : Calls Try.prog 131 #[.slice cu nC cc] (w2.drewN j) (RetV (.bool true) w2)))
  have hl : 2 ≤ zC.length ∧ zC.length ≤ 17 := by
    have h := hb
    unfold bendB at h
    simp only [Bool.and_eq_true, decide_eq_true_eq] at h
    exact h.1
  obtain ⟨N, rfl⟩ : ∃ N, nC = N + 2 := ⟨nC - 2, by omega⟩
  have hN2 : N ≤ 15 := by omega
  have C := Lib.hid (fun (x : Nat) (w : World) (rA : IsRowF .f32 w aA zA.length cA zA) (rC : IsRowF .f32 w cu (N + 2) cc zC) (hx : x < w.heap.size) (hc : w.cell? ⟨x, 0, none⟩ = some (.slice cu (N + 2) cc)) => (by
      cases hs : shotB WA HA zA
      · have e : resBend WA HA zA zC = PRes.no := by unfold resBend; rw [hs]; rfl
        rw [e]
        exact c_changeShotNo WA HA zA aA cA _ w rA hs
      · have e : resBend WA HA zA zC = giveP WA HA (bendL zC N zA) := by
          unfold resBend
          rw [hs, hb, hC]
          rfl
        have h2 : validB WA HA zA = true ∧ levL zA = true := by unfold shotB at hs; simpa using hs
        rw [e]
        exact c_changeShotYes WA HA zA aA cA _ _ w rA hs (fun w1 hB => c_changeBend WA HA zA aA cA zC N cu cc x (Lib.hid hC) hN2 (Lib.hid h2.2) w1 (rA.below hB) (Nat.lt_of_lt_of_le hx hB.size) ((hB.cell (p := ⟨x, 0, none⟩) hx).trans hc) (rC.below hB) h2.1) : Calls Try.prog 132 #[.agg #[.int .i64 WA, .int .i64 HA, .slice aA zA.length cA], .func (.func 133) #[] #[.pointer (some ⟨x, 0, none⟩)]] w (RetP 31 (resBend WA HA zA zC) w)))
  generalize resBend WA HA zA zC = r at *
  clear hb hl hC CB
  go_enter Try.func52, Try.ntmps52
  go_wp2_with fail
  rw [HW.out]
  rw [← w2.drewN_zero]
  obtain ⟨p0, p1, p2⟩ := Y0.out.three
  go_wp2_with ((go_at_call 131; refine (C1.out _).mono ?_; rintro _ _ ⟨_, rfl, rfl⟩))
  have D : ∀ j, Below w2.heap.size w2 (w2.drewN j) := fun j => below_drewN (Below.refl _ _) j
  refine (C.out (w.heap.size + 1) _ (Y6.out.below (D _)) (Y7.out.below (D _)) Y1.out (((D _).cell (p := ⟨w.heap.size + 1, 0, none⟩) Y1.out).trans L1.out)).mono ?_
  rintro _ w1 ⟨a, cap, rfl, hl, b, o⟩
  have BB := Lib.hid ((D _).trans (b.mono (by simp)))
  have V2 := Lib.hid (Y3.out.keep BB.out)
  have Fr := Lib.hid (Y4.out.below z2 BB.out)
  have z1 : w.heap.size + 1 + 1 < w1.heap.size := by have := BB.out.size; omega
  have B1 := Lib.hid (Y5.out.trans (BB.out.mono Y5.out.size))
  have O1 := Lib.hid (o.mono (B' := w2.heap.size) (by simp))
  have HL := Lib.hid hl
  have zz : w.heap.size ≤ w2.heap.size := Y5.out.size
  clear b o hl l1 p0 p1 p2 D
  obtain ⟨q0, q1, q2⟩ := V2.out.three
  have f0 := Fr.out 0
  have f1 := Fr.out 1
  have f2 := Fr.out 2
  go_wp2_with fail
  have hrow : blk a ≠ some (w.heap.size + 1 + 1) := fun e => by have := O1.out.in _ e; omega
  refine bodyPost_ret (v := .tuple #[.agg #[.int .i64 r.W, .int .i64 r.H, .slice a r.zs.length cap], .bool r.ok]) (by simp [results, Try.results52, q0, q1, q2, go_sem]) rfl ⟨a, cap, rfl, HL.out, ((B1.out.setCell (by simp <;> omega) _).setCell (by simp <;> omega) _).setCell (by simp <;> omega) _, (((O1.out.setCell hrow _).setCell hrow _).setCell hrow _).mono (by omega)⟩
/-! ### l02Is0 -/
theorem c_l02Is0 (W H : Int) (b : Nat) (a : Option Addr) (len cap : Nat) (zs : List Nat) (w : World) (hv : Var w b #[.int .i64 W, .int .i64 H, .slice a len cap]) (hr : IsRowF .f32 w a len cap zs) :
    Calls Try.prog 121 #[.pointer (some ⟨b, 0, none⟩)] w (RetV (.bool (validB W H zs)) w) := by
  have h := c_l02Is W H b a len cap zs w 0 hv hr
  rwa [w.drewN_zero] at h
/-! ### l02Give -/
theorem c_l02Give_yes (W H : Int) (a : Option Addr) (len cap : Nat) (zs : List Nat) (w : World) (hr : IsRowF .f32 w a len cap zs) (hv : validB W H zs = true) : Calls Try.prog 85 #[.agg #[.int .i64 W, .int .i64 H, .slice a len cap]] w (RetB (.tuple #[.agg #[.int .i64 W, .int .i64 H, .slice a len cap], .bool true]) w) := by
  have HR := Lib.hid hr
  have HV := Lib.hid hv
  clear hr hv
  go_enter Try.func85, Try.ntmps85
  go_wp2_with fail
  refine (c_l02Is0 W H w.heap.size a len cap zs _ ((Var.new _ _ _).alloc _) ((HR.out.alloc _).alloc _)).mono ?_
  rintro _ w1 ⟨m, rfl, rfl⟩
  rw [HV.out]
  go_wp2_with fail
  refine bodyPost_ret (v := .tuple #[.agg #[.int .i64 W, .int .i64 H, .slice a len cap], .bool true]) (by simp [results, Try.results85, go_sem]) rfl ⟨rfl, ?_⟩
  exact (((below_drewN (((Below.refl _ _).alloc (Nat.le_refl _) _).alloc (by simp) _) _).setCell (by simp) _).setCell (by simp) _).setCell (by simp) _
theorem c_l02Give_no (W H : Int) (a : Option Addr) (len cap : Nat) (zs : List Nat) (w : World) (hr : IsRowF .f32 w a len cap zs) (hv : validB W H zs = false) : Calls Try.prog 85 #[.agg #[.int .i64 W, .int .i64 H, .slice a len cap]] w (RetB (.tuple #[.agg #[.int .i64 0, .int .i64 0, .slice none 0 0], .bool false]) w) := by
  have HR := Lib.hid hr
  have HV := Lib.hid hv
  clear hr hv
  go_enter Try.func85, Try.ntmps85
  go_wp2_with fail
  refine (c_l02Is0 W H w.heap.size a len cap zs _ ((Var.new _ _ _).alloc _) ((HR.out.alloc _).alloc _)).mono ?_
  rintro _ w1 ⟨m, rfl, rfl⟩
  rw [HV.out]
  go_wp2_with fail
  refine bodyPost_ret (v := .tuple #[.agg #[.int .i64 0, .int .i64 0, .slice none 0 0], .bool false]) (by simp [results, Try.results85, go_sem]) rfl ⟨rfl, ?_⟩
  exact (((below_drewN (((Below.refl _ _).alloc (Nat.le_refl _) _).alloc (by simp) _) _).setCell (by simp) _).setCell (by simp) _).setCell (by simp) _
/-! ### sBendPicture -/
theorem c_sBendPicture (WA HA : Int) (zA : List Nat) (aA : Option Addr) (cA : Nat) (zC : List Nat) (nC : Nat) (hC : zC.length = nC) (cu : Option Addr) (cc : Nat) (w : World) (rA : IsRowF .f32 w aA zA.length cA zA) (rC : IsRowF .f32 w cu nC cc zC) : Calls Try.prog 50 #[.agg #[.int .i64 WA, .int .i64 HA, .slice aA zA.length cA], .slice cu nC cc] w (RetP 31 (resBend WA HA zA zC) w) := by
  generalize hw0 : (w.alloc (Obj.cells #[.int .i64 WA, .int .i64 HA, .slice aA zA.length cA] 26)).alloc (Obj.cells #[.int .i64 0, .int .i64 0, .slice none 0 0] 26) = w0
  have X0 : Var w0 w.heap.size #[.int .i64 WA, .int .i64 HA, .slice aA zA.length cA] := by subst hw0; exact (Var.new _ _ _).alloc _
  have X1 : Var w0 (w.heap.size + 1) #[.int .i64 0, .int .i64 0, .slice none 0 0] := by subst hw0; exact Var.new' _ _ _ _ (by simp)
  have X2 : Free w0 (w.heap.size + 1) := by subst hw0; exact Free.new' _ _ _ _ (by simp)
  have X3 : Below w.heap.size w w0 := by subst hw0; exact ((Below.refl _ _).alloc (Nat.le_refl _) _).alloc (by simp) _
  have X4 : w0.heap.size = w.heap.size + 1 + 1 := by subst hw0; simp
  have HW := Lib.hid hw0
  have VX := Lib.hid X0
  have V0 := Lib.hid X1
  have F0 := Lib.hid X2
  have B0 := Lib.hid X3
  have RX := Lib.hid (rA.below X3)
  have RCX := Lib.hid (rC.below X3)
  clear hw0 X0 X1 X2 X3 rA rC
  have CB := Lib.hid (fun j => (by have h := c_l03Curve zC cu cc w0 j (by rw [hC]; exact RCX.out); rwa [hC] at h : Calls Try.prog 128 #[.slice cu nC cc] (w0.drewN j) (RetV (.bool (bendB zC)) w0)))
  have CI := Lib.hid (fun j => c_l03Shot WA HA w.heap.size aA _ cA zA w0 j VX.out RX.out)
  cases hs : shotB WA HA zA
  · have e : resBend WA HA zA zC = PRes.no := by unfold resBend; rw [hs]; rfl
    rw [e]
    have C1 := Lib.hid (fun j => (by have h := CI.out j; rwa [hs] at h : Calls Try.prog 127 #[.pointer (some ⟨w.heap.size, 0, none⟩)] (w0.drewN j) (RetV (.bool false) w0)))
    clear e hs CI CB hC
    go_enter Try.func50, Try.ntmps50
    go_wp2_with fail
    rw [HW.out]
    rw [← w0.drewN_zero]
    obtain ⟨q0, q1, q2⟩ := V0.out.three
    have f0 := F0.out 0
    have f1 := F0.out 1
    have f2 := F0.out 2
    go_wp2_with ((go_at_call 127; refine (C1.out _).mono ?_; rintro _ _ ⟨_, rfl, rfl⟩))
    refine bodyPost_ret (v := .tuple #[.agg #[.int .i64 0, .int .i64 0, .slice none 0 0], .bool false]) (by simp [results, Try.results50, q0, q1, q2, go_sem]) rfl (show RetP _ PRes.no _ _ _ from ⟨none, 0, rfl, Nat.zero_le _, ?_, Own.nil _ _ _⟩)
    repeat (first | exact B0.out | exact Nat.le_refl _ | (refine Below.setCell ?_ ?_ _) | (refine below_drewN ?_ _) | (refine Below.alloc ?_ ?_ _) | (simp <;> omega))
  cases hl : bendB zC
  · have e : resBend WA HA zA zC = PRes.no := by unfold resBend; rw [hl, Bool.and_false]; rfl
    rw [e]
    have C1 := Lib.hid (fun j => (by have h := CI.out j; rwa [hs] at h : Calls Try.prog 127 #[.pointer (some ⟨w.heap.size, 0, none⟩)] (w0.drewN j) (RetV (.bool true) w0)))
    have C2 := Lib.hid (fun j => (by have h := CB.out j; rwa [hl] at h : Calls Try.prog 128 #[.slice cu nC cc] (w0.drewN j) (RetV (.bool false) w0)))
    clear e hs hl CI CB hC
    go_enter Try.func50, Try.ntmps50
    go_wp2_with fail
    rw [HW.out]
    rw [← w0.drewN_zero]
    obtain ⟨q0, q1, q2⟩ := V0.out.three
    have f0 := F0.out 0
    have f1 := F0.out 1
    have f2 := F0.out 2
    go_wp2_with (first | (go_at_call 127; refine (C1.out _).mono ?_; rintro _ _ ⟨_, rfl, rfl⟩) | (go_at_call 128; refine (C2.out _).mono ?_; rintro _ _ ⟨_, rfl, rfl⟩))
    refine bodyPost_ret (v := .tuple #[.agg #[.int .i64 0, .int .i64 0, .slice none 0 0], .bool false]) (by simp [results, Try.results50, q0, q1, q2, go_sem]) rfl (show RetP _ PRes.no _ _ _ from ⟨none, 0, rfl, Nat.zero_le _, ?_, Own.nil _ _ _⟩)
    repeat (first | exact B0.out | exact Nat.le_refl _ | (refine Below.setCell ?_ ?_ _) | (refine below_drewN ?_ _) | (refine Below.alloc ?_ ?_ _) | (simp <;> omega))
  have hlim : 2 ≤ zC.length ∧ zC.length ≤ 17 := by
    have h := hl
    unfold bendB at h
    simp only [Bool.and_eq_true, decide_eq_true_eq] at h
    exact h.1
  obtain ⟨N, rfl⟩ : ∃ N, nC = N + 2 := ⟨nC - 2, by omega⟩
  have hN2 : N ≤ 15 := by omega
  have hb : validB WA HA zA = true ∧ levL zA = true := by unfold shotB at hs; simpa using hs
  have hres : resBend WA HA zA zC = giveP WA HA (bendL zC N zA) := by
    unfold resBend
    rw [hs, hl, hC]
    rfl
  rw [hres]
  have hl256 := (valid_len hb.1).2.1
  have hl1 := (valid_len hb.1).2.2
  have C1 := Lib.hid (fun j => (by have h := CI.out j; rwa [hs] at h : Calls Try.prog 127 #[.pointer (some ⟨w.heap.size, 0, none⟩)] (w0.drewN j) (RetV (.bool true) w0)))
  have C2 := Lib.hid (fun j => (by have h := CB.out j; rwa [hl] at h : Calls Try.prog 128 #[.slice cu (N + 2) cc] (w0.drewN j) (RetV (.bool true) w0)))
  have HB2 := Lib.hid hb.2
  have HNC := Lib.hid hC
  clear hs hl hres CI CB hlim hb hC
  have E : ∀ j, Below w0.heap.size w0 (w0.drewN j) := fun j => below_drewN (Below.refl _ _) j
  go_enter Try.func50, Try.ntmps50
  go_wp2_with fail
  rw [HW.out]
  rw [← w0.drewN_zero]
  go_wp2_with (first | (go_at_call 127; refine (C1.out _).mono ?_; rintro _ _ ⟨_, rfl, rfl⟩) | (go_at_call 128; refine (C2.out _).mono ?_; rintro _ _ ⟨_, rfl, rfl⟩))
  refine (c_l02Own WA HA w.heap.size aA cA zA _ (VX.out.keep (E _)) (RX.out.below (E _)) hl1 (by omega)).mono ?_
  rintro _ w1 ⟨a1, ca1, rfl, b, o⟩
  have HBb := Lib.hid ((E _).trans (b.mono (by simp)))
  have V1 := Lib.hid (V0.out.keep HBb.out)
  have F1 := Lib.hid (F0.out.below V0.out.lt HBb.out)
  have B1 := Lib.hid (B0.out.trans (HBb.out.mono (by omega)))
  have O1 := Lib.hid (o.mono (B' := w.heap.size + 1 + 1) (by simp; omega))
  have S1 : w.heap.size + 1 + 1 ≤ w1.heap.size := by have := HBb.out.size; omega
  obtain ⟨g, hg⟩ := O1.out.at0 hl1
  subst hg
  have G1 : w.heap.size + 1 + 1 ≤ g ∧ g < w1.heap.size := O1.out.lt
  clear b o E C1 C2
  go_wp2_with fail
  go_loopw [7, 20] (fun _ i wr => ∃ (k : Nat) (zs : List Nat), k ≤ zA.length ∧ i = .int .i64 k ∧ Var wr w1.heap.size #[.int .i64 WA, .int .i64 HA, .slice (some ⟨g, 0, none⟩) zA.length ca1] ∧ Own 31 wr (w.heap.size + 1 + 1) (some ⟨g, 0, none⟩) zA.length ca1 zs ∧ near (zs.take k) ((bendL zC N zA).take k) ∧ Below (w.heap.size + 1 + 1) w1 wr) (fun _ i _ => zA.length - (intOf i).toNat)
  case atStart => exact ⟨0, zA, Nat.zero_le _, rfl, Var.new _ _ _, O1.out.alloc _, by simpa using near_nil, (Below.refl _ _).alloc (by omega) _⟩
  case round =>
    obtain ⟨k, zs, hk, rfl, hV, hO, hnear, hB⟩ := hrel
    have HV := Lib.hid hV
    have HO := Lib.hid hO
    have HN := Lib.hid hnear
    have HB := Lib.hid hB
    clear hV hO hnear hB
    have BWR : Below w0.heap.size w0 wr := HBb.out.trans (HB.out.mono (by omega))
    have BW := Lib.hid BWR
    have z2 : w1.heap.size < wr.heap.size := HV.out.lt
    clear BWR
    by_cases hlt : k < zA.length
    · obtain ⟨bA, oA, nA, rfl, hbA, eA⟩ := (RX.out.below BW.out).at hlt
      have hold := HO.out.cellAt hlt
      have hfz := HO.out.frozen k
      have KS := Lib.hid (fun (w' : World) (hE : Below wr.heap.size wr w') => (⟨(HV.out.keep hE).three.1, (HV.out.keep hE).three.2.1, (HV.out.keep hE).three.2.2, ((VX.out.keep BW.out).keep hE).three.1, ((VX.out.keep BW.out).keep hE).three.2.1, ((VX.out.keep BW.out).keep hE).three.2.2, (hE.cell (p := ⟨bA, oA + k, none⟩) hbA).trans eA, (hE.cell (p := ⟨g, k, none⟩) (by show g < _; omega)).trans hold, (hE.frozen (p := ⟨g, k, none⟩) (by show g < _; omega)).trans hfz⟩ : _ ∧ _ ∧ _ ∧ _ ∧ _ ∧ _ ∧ _ ∧ _ ∧ _))
      have HLat := Lib.hid (bendL_at (zC := zC) (N := N) hlt)
      have hsh := lev_at2 HB2.out hlt
      have KC := Lib.hid (fun (w' : World) (hE : Below wr.heap.size wr w') (n : Nat) => (by have h := c_l03At zC N cu cc (fat zA k) n w' 0 HNC.out hN2 (RCX.out.below (BW.out.trans (hE.mono BW.out.size))) hsh; rwa [w'.drewN_zero] at h : Calls Try.prog 130 #[.slice cu (N + 2) cc, .float .f32 (pick .f32 (fat zA k) n)] w' (RetF .f32 (bendV zC (fat zA k) N) w')))
      clear hold hfz eA hbA hsh
      go_wp2_with fail
      refine wp_region_facts 11 (fun a b => Below a.heap.size a b) (fun _ => Below.refl _ _) (fun _ _ _ h h' => h.trans (h'.mono h.size)) (Below.refl _ _).drew (by kernel_rfl) (by kernel_rfl) (by kernel_rfl) (by kernel_rfl) ?_
      simp only [List.take_succ_cons, List.take_zero, List.drop_succ_cons, List.drop_zero]
      (with_reducible apply wpF_val); (focus (intro vs w' hE hk; (obtain ⟨d0, d1, d2, e0, e1, e2, ea, eg, ef⟩ := KS.out w' hE); go_simp; exact ⟨Below.refl _ _, rfl⟩)); (simp only [Act.put, List.setIfInBounds_toArray, List.set_cons_zero, List.set_cons_succ, List.cons_append, List.nil_append])
      (with_reducible apply wpF_val); (focus (intro vs w' hE hk; (obtain ⟨d0, d1, d2, e0, e1, e2, ea, eg, ef⟩ := KS.out w' hE); go_simp; exact ⟨Below.refl _ _, rfl⟩)); (simp only [Act.put, List.setIfInBounds_toArray, List.set_cons_zero, List.set_cons_succ, List.cons_append, List.nil_append])
      (with_reducible apply wpF_val); (focus (intro vs w' hE hk; (obtain ⟨d0, d1, d2, e0, e1, e2, ea, eg, ef⟩ := KS.out w' hE); go_simp; exact ⟨Below.refl _ _, rfl⟩)); (simp only [Act.put, List.setIfInBounds_toArray, List.set_cons_zero, List.set_cons_succ, List.cons_append, List.nil_append])
      (with_reducible apply wpF_val); (focus (intro vs w' hE hk; (obtain ⟨d0, d1, d2, e0, e1, e2, ea, eg, ef⟩ := KS.out w' hE); go_simp; exact ⟨Below.refl _ _, rfl⟩)); (simp only [Act.put, List.setIfInBounds_toArray, List.set_cons_zero, List.set_cons_succ, List.cons_append, List.nil_append])
      (with_reducible apply wpF_val); (focus (intro vs w' hE hk; (obtain ⟨d0, d1, d2, e0, e1, e2, ea, eg, ef⟩ := KS.out w' hE); go_simp; exact ⟨Below.refl _ _, rfl⟩)); (simp only [Act.put, List.setIfInBounds_toArray, List.set_cons_zero, List.set_cons_succ, List.cons_append, List.nil_append])
      (with_reducible apply wpF_val); (focus (intro vs w' hE hk; (obtain ⟨d0, d1, d2, e0, e1, e2, ea, eg, ef⟩ := KS.out w' hE); go_simp; exact ⟨Below.refl _ _, rfl⟩)); (simp only [Act.put, List.setIfInBounds_toArray, List.set_cons_zero, List.set_cons_succ, List.cons_append, List.nil_append])
      (with_reducible apply wpF_val); (focus (intro vs w' hE hk; (obtain ⟨d0, d1, d2, e0, e1, e2, ea, eg, ef⟩ := KS.out w' hE); go_simp; exact ⟨Below.refl _ _, rfl⟩)); (simp only [Act.put, List.setIfInBounds_toArray, List.set_cons_zero, List.set_cons_succ, List.cons_append, List.nil_append])
      (with_reducible apply wpF_val); (focus (intro vs w' hE hk; (obtain ⟨d0, d1, d2, e0, e1, e2, ea, eg, ef⟩ := KS.out w' hE); go_simp; exact ⟨Below.refl _ _, rfl⟩)); (simp only [Act.put, List.setIfInBounds_toArray, List.set_cons_zero, List.set_cons_succ, List.cons_append, List.nil_append])
      (with_reducible apply wpF_val); (focus (intro vs w' hE hk; (obtain ⟨d0, d1, d2, e0, e1, e2, ea, eg, ef⟩ := KS.out w' hE); go_simp; exact ⟨Below.refl _ _, rfl⟩)); (simp only [Act.put, List.setIfInBounds_toArray, List.set_cons_zero, List.set_cons_succ, List.cons_append, List.nil_append])
      refine wpF_fact (fun u _ => ∃ m, u = .float .f32 (pick .f32 (bendV zC (fat zA k) N) m)) (fun _ _ _ h _ => h) (fun vs w' hE hk => ?_) ?_; (focus ((obtain ⟨d0, d1, d2, e0, e1, e2, ea, eg, ef⟩ := KS.out w' hE); go_simp; refine (KC.out w' hE _).mono ?_; rintro _ _ ⟨m1, m2, rfl, rfl⟩; exact ⟨_, rfl, below_drewN (Below.refl _ _) _, m1, rfl⟩)); (simp only [Act.put, List.setIfInBounds_toArray, List.set_cons_zero, List.set_cons_succ, List.cons_append, List.nil_append])
      (with_reducible apply wpF_val); (focus (intro vs w' hE hk; (obtain ⟨d0, d1, d2, e0, e1, e2, ea, eg, ef⟩ := KS.out w' hE); go_simp; exact ⟨Below.refl _ _, rfl⟩)); (simp only [Act.put, List.setIfInBounds_toArray, List.set_cons_zero, List.set_cons_succ, List.cons_append, List.nil_append])
      refine wpF_nil (fun vs w' hE hk => ?_)
      obtain ⟨m5, h5⟩ := hk 9
      obtain ⟨d0, d1, d2, e0, e1, e2, ea, eg, ef⟩ := KS.out w' hE
      have O2 := Lib.hid ((HO.out.below hE).set hlt (pick .f32 (bendV zC (fat zA k) N) m5) (pick_wf (bendV_lt _ _ _) m5))
      have V2 := Lib.hid ((HV.out.keep hE).setOther (p := ⟨g, k, none⟩) (by show g ≠ _; omega) (.float .f32 (pick .f32 (bendV zC (fat zA k) N) m5)))
      have B2 := Lib.hid ((HB.out.trans (hE.mono (by omega))).setCell (p := ⟨g, k, none⟩) (by show _ ≤ g; omega) (.float .f32 (pick .f32 (bendV zC (fat zA k) N) m5)))
      simp only [h5]
      clear hE hk h5
      go_wp2_with fail
      go_roundw
      case rel => exact ⟨k + 1, _, by omega, by go_num, V2.out, O2.out, by rw [← HLat.out]; exact near_set HN.out (by rw [bendL_len]; exact hlt) (by have := HO.out.1; omega) m5, B2.out⟩
      case measure => simp [intOf]; omega
    · obtain rfl : k = zA.length := by omega
      have hz : near zs (bendL zC N zA) := by
        have h := HN.out
        rw [List.take_of_length_le (show zs.length ≤ zA.length by have := HO.out.1; omega), List.take_of_length_le (show (bendL zC N zA).length ≤ zA.length by rw [bendL_len]; exact Nat.le_refl _)] at h
        exact h
      have HZ := Lib.hid hz
      have HML := Lib.hid (show (bendL zC N zA).length = zA.length from bendL_len)
      have HVZ := Lib.hid (near_valid (W := WA) (H := HA) hz)
      have VR := Lib.hid (V1.out.below HB.out (by omega))
      have FR := Lib.hid (F1.out.keep HB.out (by omega))
      have BQ := Lib.hid (B1.out.trans (HB.out.mono (by omega)))
      have sq : w.heap.size + 1 + 1 ≤ wr.heap.size := by omega
      clear hz HN
      obtain ⟨co0, co1, co2⟩ := HV.out.three
      go_wp2_with fail
      clear co0 co1 co2
      cases hv2 : validB WA HA (bendL zC N zA)
      · have HG := Lib.hid (show giveP WA HA (bendL zC N zA) = PRes.no from by unfold giveP; rw [hv2]; rfl)
        have HV2 := Lib.hid hv2
        clear hv2
        refine (c_l02Give_no WA HA _ _ ca1 _ wr HO.out.row (by rw [HVZ.out]; exact HV2.out)).mono ?_
        rintro _ wz ⟨rfl, b⟩
        obtain ⟨cr0, cr1, cr2⟩ := (VR.out.keep b).three
        have fr := FR.out.below (by omega) b
        have f0 := fr 0
        have f1 := fr 1
        have f2 := fr 2
        have HB2 := Lib.hid (BQ.out.trans (b.mono (by omega)))
        clear fr b
        go_wp2_with fail
        refine bodyPost_ret (v := .tuple #[.agg #[.int .i64 0, .int .i64 0, .slice none 0 0], .bool false]) (by simp [results, Try.results50, cr0, cr1, cr2, go_sem]) rfl (by rw [HG.out]; exact ⟨none, 0, rfl, Nat.zero_le _, ((HB2.out.setCell (by simp <;> omega) _).setCell (by simp <;> omega) _).setCell (by simp <;> omega) _, Own.nil _ _ _⟩)
      · have HG := Lib.hid (show giveP WA HA (bendL zC N zA) = ⟨WA, HA, bendL zC N zA, true⟩ from by unfold giveP; rw [hv2]; rfl)
        have hfin := valid_fin hv2
        obtain rfl := near_eq HZ.out hfin
        clear hfin
        have HV2 := Lib.hid hv2
        clear hv2
        refine (c_l02Give_yes WA HA _ _ ca1 _ wr HO.out.row HV2.out).mono ?_
        rintro _ wz ⟨rfl, b⟩
        obtain ⟨cr0, cr1, cr2⟩ := (VR.out.keep b).three
        have fr := FR.out.below (by omega) b
        have f0 := fr 0
        have f1 := fr 1
        have f2 := fr 2
        have HB2 := Lib.hid (BQ.out.trans (b.mono (by omega)))
        have HO2 := Lib.hid (HO.out.below b)
        clear fr b
        go_wp2_with fail
        have hrow : blk (some ⟨g, 0, none⟩) ≠ some (w.heap.size + 1) := fun e => by simp [blk] at e; omega
        refine bodyPost_ret (v := .tuple #[.agg #[.int .i64 WA, .int .i64 HA, .slice (some ⟨g, 0, none⟩) zA.length ca1], .bool true]) (by simp [results, Try.results50, cr0, cr1, cr2, go_sem]) rfl (by rw [HG.out]; exact ⟨_, ca1, by rw [HML.out], by (show (bendL zC N zA).length ≤ 1048576); rw [HML.out]; omega, ((HB2.out.setCell (by simp <;> omega) _).setCell (by simp <;> omega) _).setCell (by simp <;> omega) _, (((Own.re HML.out.symm HO2.out).setCell hrow _).setCell hrow _).setCell hrow _ |>.mono (by omega)⟩)

/-! ### FnExactBendPicture -/
set_option maxHeartbeats 8000000 in
theorem walkG (WP HP : Int) (zP : List Nat) (aP : Option Addr) (cP : Nat) (zC : List Nat) (aC : Option Addr) (cC : Nat) (w : World) (r : PRes) (cS : ∀ (aP : Option Addr) (cP : Nat) (aC : Option Addr) (cC : Nat) (w : World), IsRowF .f32 w aP zP.length cP zP → IsRowF .f32 w aC zC.length cC zC → Calls Try.prog 50 #[.agg #[.int .i64 WP, .int .i64 HP, .slice aP zP.length cP], .slice aC zC.length cC] w (RetP 31 r w)) (cI : ∀ (aP : Option Addr) (cP : Nat) (aC : Option Addr) (cC : Nat) (w : World), IsRowF .f32 w aP zP.length cP zP → IsRowF .f32 w aC zC.length cC zC → Calls Try.prog 52 #[.agg #[.int .i64 WP, .int .i64 HP, .slice aP zP.length cP], .slice aC zC.length cC] w (RetP 31 r w)) (rP : IsRowF .f32 w aP zP.length cP zP) (rC : IsRowF .f32 w aC zC.length cC zC) (hlC : zC.length ≤ 1048576) (hl : zP.length ≤ 1048576) : Calls Try.prog 8 #[.agg #[.int .i64 WP, .int .i64 HP, .slice aP zP.length cP], .slice aC zC.length cC] w fun e w' => e = .returned (.bool true) ∧ Below w.heap.size w w' := by
  have CS := Lib.hid cS
  have CI := Lib.hid cI
  clear cS cI
  have RP := Lib.hid rP
  have RC := Lib.hid rC
  clear rP rC
  go_enter Try.func8, Try.ntmps8
  go_wp2_with fail
  refine (c_szP WP HP aP zP.length cP (1048576 : Int) _ (by omega) (by omega)).mono ?_
  rintro _ w1 ⟨rfl, b⟩
  have VpP_1 := Lib.hid ((Var.new' _ _ _ (w.heap.size) (by first | rfl | simp)).keep b)
  have B_1 := Lib.hid (((Below.refl w.heap.size w).alloc (Nat.le_refl _) _).trans (b.mono (by simp)))
  have S_1 : w.heap.size + 1 ≤ w1.heap.size := by have := b.size; simp at this; omega
  have zpP_1 : w.heap.size < w1.heap.size := by omega
  clear b
  have hzP : ¬ (((1048576 : Int) - (zP.length : Int)) < 0) := by omega
  obtain ⟨cpP0, cpP1, cpP2⟩ := VpP_1.out.three
  go_wp2_with fail
  clear cpP0 cpP1 cpP2
  refine (c_toP WP HP aP zP.length cP zP _ (RP.out.below B_1.out) (by omega)).mono ?_
  rintro _ w2 ⟨gt, rfl, b, o⟩
  have Lt := Lib.hid o.in
  have Ot_2 := Lib.hid o
  clear o
  have VpP_2 := Lib.hid (VpP_1.out.keep b)
  have B_2 := Lib.hid (B_1.out.trans (b.mono (by omega)))
  have S_2 : w1.heap.size + 0 ≤ w2.heap.size := by have := b.size; omega
  have zpP_2 : w.heap.size < w2.heap.size := by omega
  clear b
  clear VpP_1 zpP_1 B_1
  go_wp2_with fail
  refine (c_toO aC zC.length cC zC _ (RC.out.below B_2.out) (by omega)).mono ?_
  rintro _ w3 ⟨gtc, rfl, b, o⟩
  have Ltc := Lib.hid o.in
  have Otc_3 := Lib.hid o
  clear o
  have VpP_3 := Lib.hid (VpP_2.out.keep b)
  have Ot_3 := Lib.hid (Ot_2.out.below b)
  have B_3 := Lib.hid (B_2.out.trans (b.mono (by omega)))
  have S_3 : w2.heap.size + 0 ≤ w3.heap.size := by have := b.size; omega
  have zpP_3 : w.heap.size < w3.heap.size := by omega
  clear b
  clear VpP_2 zpP_2 Ot_2 B_2
  go_wp2_with fail
  refine (CS.out _ _ _ _ _ Ot_3.out.row Otc_3.out.row).mono ?_
  rintro _ w4 ⟨au, cu, rfl, hrl, b, o⟩
  have Lu := Lib.hid o.in
  have Ou_4 := Lib.hid o
  clear o
  have VpP_4 := Lib.hid (VpP_3.out.keep b)
  have Ot_4 := Lib.hid (Ot_3.out.below b)
  have Otc_4 := Lib.hid (Otc_3.out.below b)
  have B_4 := Lib.hid (B_3.out.trans (b.mono (by omega)))
  have S_4 : w3.heap.size + 0 ≤ w4.heap.size := by have := b.size; omega
  have zpP_4 : w.heap.size < w4.heap.size := by omega
  clear b
  clear VpP_3 zpP_3 Ot_3 Otc_3 B_3
  clear Ot_4 Lt
  clear Otc_4 Ltc
  obtain ⟨cpP0, cpP1, cpP2⟩ := VpP_4.out.three
  go_wp2_with fail
  clear cpP0 cpP1 cpP2
  refine (c_toP WP HP aP zP.length cP zP _ ((RP.out.below B_4.out).alloc _) (by omega)).mono ?_
  rintro _ w5 ⟨gxP, rfl, b, o⟩
  have LxP := Lib.hid o.in
  have LxP := Lib.hid (by have h := LxP.out; simp only [World.size_alloc] at h; exact h)
  have OxP_5 := Lib.hid o
  clear o
  have VpP_5 := Lib.hid ((VpP_4.out.alloc _).keep b)
  have Vu_5 := Lib.hid ((Var.new' _ _ _ (w4.heap.size) (by first | rfl | simp)).keep b)
  have Ou_5 := Lib.hid ((Ou_4.out.alloc _).below b)
  have B_5 := Lib.hid ((B_4.out.alloc (by omega) _).trans (b.mono (by simp; omega)))
  have S_5 : w4.heap.size + 1 ≤ w5.heap.size := by have := b.size; simp at this; omega
  have zpP_5 : w.heap.size < w5.heap.size := by omega
  have zu_5 : w4.heap.size < w5.heap.size := by omega
  clear b
  clear VpP_4 zpP_4 Ou_4 B_4
  go_wp2_with fail
  refine (c_toO aC zC.length cC zC _ ((RC.out.below B_5.out).alloc _) (by omega)).mono ?_
  rintro _ w6 ⟨gxC, rfl, b, o⟩
  have LxC := Lib.hid o.in
  have LxC := Lib.hid (by have h := LxC.out; simp only [World.size_alloc] at h; exact h)
  have OxC_6 := Lib.hid o
  clear o
  have VpP_6 := Lib.hid ((VpP_5.out.alloc _).keep b)
  have Vu_6 := Lib.hid ((Vu_5.out.alloc _).keep b)
  have VxP_6 := Lib.hid ((Var.new' _ _ _ (w5.heap.size) (by first | rfl | simp)).keep b)
  have Ou_6 := Lib.hid ((Ou_5.out.alloc _).below b)
  have OxP_6 := Lib.hid ((OxP_5.out.alloc _).below b)
  have B_6 := Lib.hid ((B_5.out.alloc (by omega) _).trans (b.mono (by simp; omega)))
  have S_6 : w5.heap.size + 1 ≤ w6.heap.size := by have := b.size; simp at this; omega
  have zpP_6 : w.heap.size < w6.heap.size := by omega
  have zu_6 : w4.heap.size < w6.heap.size := by omega
  have zxP_6 : w5.heap.size < w6.heap.size := by omega
  clear b
  clear VpP_5 zpP_5 Vu_5 zu_5 Ou_5 OxP_5 B_5
  obtain ⟨cxP0, cxP1, cxP2⟩ := VxP_6.out.three
  go_wp2_with fail
  clear cxP0 cxP1 cxP2
  refine (CI.out _ _ _ _ _ OxP_6.out.row OxC_6.out.row).mono ?_
  rintro _ w7 ⟨ag, cg, rfl, hrl, b, o⟩
  clear hrl
  have Lg := Lib.hid o.in
  have Og_7 := Lib.hid o
  clear o
  have VpP_7 := Lib.hid (VpP_6.out.keep b)
  have Vu_7 := Lib.hid (Vu_6.out.keep b)
  have VxP_7 := Lib.hid (VxP_6.out.keep b)
  have Ou_7 := Lib.hid (Ou_6.out.below b)
  have OxP_7 := Lib.hid (OxP_6.out.below b)
  have OxC_7 := Lib.hid (OxC_6.out.below b)
  have B_7 := Lib.hid (B_6.out.trans (b.mono (by omega)))
  have S_7 : w6.heap.size + 0 ≤ w7.heap.size := by have := b.size; omega
  have zpP_7 : w.heap.size < w7.heap.size := by omega
  have zu_7 : w4.heap.size < w7.heap.size := by omega
  have zxP_7 : w5.heap.size < w7.heap.size := by omega
  clear b
  clear VpP_6 zpP_6 Vu_6 zu_6 VxP_6 zxP_6 Ou_6 OxP_6 OxC_6 B_6
  obtain ⟨cu0, cu1, cu2⟩ := Vu_7.out.three
  go_wp2_with fail
  clear cu0 cu1 cu2
  refine (c_eqP _ _ _ _ _ _ _ _ _ (Og_7.out.alloc _).row (Ou_7.out.alloc _).row).mono ?_
  rintro _ w8 ⟨rfl, b⟩
  have VpP_8 := Lib.hid ((VpP_7.out.alloc _).keep b)
  have Vu_8 := Lib.hid ((Vu_7.out.alloc _).keep b)
  have VxP_8 := Lib.hid ((VxP_7.out.alloc _).keep b)
  have Vg_8 := Lib.hid ((Var.new' _ _ _ (w7.heap.size) (by first | rfl | simp)).keep b)
  have Ou_8 := Lib.hid ((Ou_7.out.alloc _).below b)
  have OxP_8 := Lib.hid ((OxP_7.out.alloc _).below b)
  have OxC_8 := Lib.hid ((OxC_7.out.alloc _).below b)
  have Og_8 := Lib.hid ((Og_7.out.alloc _).below b)
  have B_8 := Lib.hid ((B_7.out.alloc (by omega) _).trans (b.mono (by simp; omega)))
  have S_8 : w7.heap.size + 1 ≤ w8.heap.size := by have := b.size; simp at this; omega
  have zpP_8 : w.heap.size < w8.heap.size := by omega
  have zu_8 : w4.heap.size < w8.heap.size := by omega
  have zxP_8 : w5.heap.size < w8.heap.size := by omega
  have zg_8 : w7.heap.size < w8.heap.size := by omega
  clear b
  clear VpP_7 zpP_7 Vu_7 zu_7 VxP_7 zxP_7 Ou_7 OxP_7 OxC_7 Og_7 B_7
  obtain ⟨cpP0, cpP1, cpP2⟩ := VpP_8.out.three
  obtain ⟨cxP0, cxP1, cxP2⟩ := VxP_8.out.three
  go_wp2_with fail
  have D : Below w8.heap.size w8 w8.drew := (Below.refl _ _).drew
  have RD := Lib.hid ((RP.out.below B_8.out).below D)
  have XD := Lib.hid (OxP_8.out.below D)
  have HD := Lib.hid D
  clear D
  go_region_held3 (fun w' => w'.cell? ⟨w.heap.size, 0, none⟩ = some (.int .i64 WP) ∧ w'.cell? ⟨w.heap.size, 1, none⟩ = some (.int .i64 HP) ∧ w'.cell? ⟨w.heap.size, 2, none⟩ = some (.slice aP zP.length cP) ∧ w'.cell? ⟨w5.heap.size, 0, none⟩ = some (.int .i64 WP) ∧ w'.cell? ⟨w5.heap.size, 1, none⟩ = some (.int .i64 HP) ∧ w'.cell? ⟨w5.heap.size, 2, none⟩ = some (.slice (some ⟨gxP, 0, none⟩) zP.length zP.length)) (first | exact ⟨cpP0, cpP1, cpP2, cxP0, cxP1, cxP2⟩ | (have e1 := ((VpP_8.out.keep HD.out).keep b7).three; have e2 := ((VxP_8.out.keep HD.out).keep b7).three; exact ⟨e1.1, e1.2.1, e1.2.2, e2.1, e2.2.1, e2.2.2⟩) | (have e1 := (((VpP_8.out.keep HD.out).keep b7).keep b8).three; have e2 := (((VxP_8.out.keep HD.out).keep b7).keep b8).three; exact ⟨e1.1, e1.2.1, e1.2.2, e2.1, e2.2.1, e2.2.2⟩)) (first | (go_at_call 45; refine (c_toP WP HP aP zP.length cP zP _ RD.out (by omega)).mono ?_; rintro _ wt ⟨g7, rfl, b7, o7⟩) | (go_at_call 47; refine (c_eqP _ _ _ _ _ _ _ _ _ (XD.out.below b7).row o7.row).mono ?_; rintro _ w9 ⟨rfl, b8⟩))
  have b := HD.out.trans (b7.trans (b8.mono b7.size))
  clear RD XD HD b7 b8 o7
  clear cpP0 cpP1 cpP2 cxP0 cxP1 cxP2
  have VpP_9 := Lib.hid (VpP_8.out.keep b)
  have Vu_9 := Lib.hid (Vu_8.out.keep b)
  have VxP_9 := Lib.hid (VxP_8.out.keep b)
  have Vg_9 := Lib.hid (Vg_8.out.keep b)
  have Ou_9 := Lib.hid (Ou_8.out.below b)
  have OxP_9 := Lib.hid (OxP_8.out.below b)
  have OxC_9 := Lib.hid (OxC_8.out.below b)
  have Og_9 := Lib.hid (Og_8.out.below b)
  have B_9 := Lib.hid (B_8.out.trans (b.mono (by omega)))
  have S_9 : w8.heap.size + 0 ≤ w9.heap.size := by have := b.size; omega
  have zpP_9 : w.heap.size < w9.heap.size := by omega
  have zu_9 : w4.heap.size < w9.heap.size := by omega
  have zxP_9 : w5.heap.size < w9.heap.size := by omega
  have zg_9 : w7.heap.size < w9.heap.size := by omega
  clear b
  clear VpP_8 zpP_8 Vu_8 zu_8 VxP_8 zxP_8 Vg_8 zg_8 Ou_8 OxP_8 OxC_8 Og_8 B_8
  go_wp2_with fail
  refine (c_toO aC zC.length cC zC _ (RC.out.below B_9.out) (by omega)).mono ?_
  rintro _ w10 ⟨gtc, rfl, b, o⟩
  have Ltc := Lib.hid o.in
  have Otc_10 := Lib.hid o
  clear o
  have VpP_10 := Lib.hid (VpP_9.out.keep b)
  have Vu_10 := Lib.hid (Vu_9.out.keep b)
  have VxP_10 := Lib.hid (VxP_9.out.keep b)
  have Vg_10 := Lib.hid (Vg_9.out.keep b)
  have Ou_10 := Lib.hid (Ou_9.out.below b)
  have OxP_10 := Lib.hid (OxP_9.out.below b)
  have OxC_10 := Lib.hid (OxC_9.out.below b)
  have Og_10 := Lib.hid (Og_9.out.below b)
  have B_10 := Lib.hid (B_9.out.trans (b.mono (by omega)))
  have S_10 : w9.heap.size + 0 ≤ w10.heap.size := by have := b.size; omega
  have zpP_10 : w.heap.size < w10.heap.size := by omega
  have zu_10 : w4.heap.size < w10.heap.size := by omega
  have zxP_10 : w5.heap.size < w10.heap.size := by omega
  have zg_10 : w7.heap.size < w10.heap.size := by omega
  clear b
  clear VpP_9 zpP_9 Vu_9 zu_9 VxP_9 zxP_9 Vg_9 zg_9 Ou_9 OxP_9 OxC_9 Og_9 B_9
  go_wp2_with fail
  refine (c_eqF0 _ _ _ _ _ _ _ OxC_10.out.row Otc_10.out.row).mono ?_
  rintro _ _ ⟨jx, rfl, rfl⟩
  have b : Below w10.heap.size w10 (w10.drewN jx) := below_drewN (Below.refl _ _) _
  generalize w10.drewN jx = w11 at *
  have VpP_11 := Lib.hid (VpP_10.out.keep b)
  have Vu_11 := Lib.hid (Vu_10.out.keep b)
  have VxP_11 := Lib.hid (VxP_10.out.keep b)
  have Vg_11 := Lib.hid (Vg_10.out.keep b)
  have Ou_11 := Lib.hid (Ou_10.out.below b)
  have OxP_11 := Lib.hid (OxP_10.out.below b)
  have OxC_11 := Lib.hid (OxC_10.out.below b)
  have Og_11 := Lib.hid (Og_10.out.below b)
  have Otc_11 := Lib.hid (Otc_10.out.below b)
  have B_11 := Lib.hid (B_10.out.trans (b.mono (by omega)))
  have S_11 : w10.heap.size + 0 ≤ w11.heap.size := by have := b.size; omega
  have zpP_11 : w.heap.size < w11.heap.size := by omega
  have zu_11 : w4.heap.size < w11.heap.size := by omega
  have zxP_11 : w5.heap.size < w11.heap.size := by omega
  have zg_11 : w7.heap.size < w11.heap.size := by omega
  clear b
  clear VpP_10 zpP_10 Vu_10 zu_10 VxP_10 zxP_10 Vg_10 zg_10 Ou_10 OxP_10 OxC_10 Og_10 Otc_10 B_10
  clear Otc_11 Ltc
  obtain ⟨cxP0, cxP1, cxP2⟩ := VxP_11.out.three
  go_wp2_with fail
  clear cxP0 cxP1 cxP2
  refine (c_markP _ _ _ _ _ _ 1 _ _ OxP_11.out (by omega)).mono ?_
  rintro _ w12 ⟨rfl, b, o⟩
  have On := Lib.hid o
  clear o
  have VpP_12 := Lib.hid (VpP_11.out.kept b (by intro e; have := LxP.out _ e.symm; omega))
  have Vu_12 := Lib.hid (Vu_11.out.kept b (by intro e; have := LxP.out _ e.symm; omega))
  have VxP_12 := Lib.hid (VxP_11.out.kept b (by intro e; have := LxP.out _ e.symm; omega))
  have Vg_12 := Lib.hid (Vg_11.out.kept b (by intro e; have := LxP.out _ e.symm; omega))
  have Ou_12 := Lib.hid (Ou_11.out.kept b (blk_apart Lu.out LxP.out (by omega)))
  have OxC_12 := Lib.hid (OxC_11.out.kept b (blk_apart LxC.out LxP.out (by omega)))
  have Og_12 := Lib.hid (Og_11.out.kept b (blk_apart Lg.out LxP.out (by omega)))
  have B_12 := Lib.hid (B_11.out.grown b (by omega) (fun k e => by have := LxP.out k e; omega))
  have S_12 : w11.heap.size ≤ w12.heap.size := b.size
  have zpP_12 : w.heap.size < w12.heap.size := by omega
  have zu_12 : w4.heap.size < w12.heap.size := by omega
  have zxP_12 : w5.heap.size < w12.heap.size := by omega
  have zg_12 : w7.heap.size < w12.heap.size := by omega
  clear b
  clear VpP_11 zpP_11 Vu_11 zu_11 VxP_11 zxP_11 Vg_11 zg_11 Ou_11 OxP_11 OxC_11 Og_11 B_11
  have OxP_12 := Lib.hid On.out
  clear On
  go_wp2_with fail
  refine (c_markF _ _ _ _ (1 + zP.length) _ _ OxC_12.out (by omega)).mono ?_
  rintro _ w13 ⟨rfl, b, o⟩
  have On := Lib.hid o
  clear o
  have VpP_13 := Lib.hid (VpP_12.out.kept b (by intro e; have := LxC.out _ e.symm; omega))
  have Vu_13 := Lib.hid (Vu_12.out.kept b (by intro e; have := LxC.out _ e.symm; omega))
  have VxP_13 := Lib.hid (VxP_12.out.kept b (by intro e; have := LxC.out _ e.symm; omega))
  have Vg_13 := Lib.hid (Vg_12.out.kept b (by intro e; have := LxC.out _ e.symm; omega))
  have Ou_13 := Lib.hid (Ou_12.out.kept b (blk_apart Lu.out LxC.out (by omega)))
  have OxP_13 := Lib.hid (OxP_12.out.kept b (blk_apart LxP.out LxC.out (by omega)))
  have Og_13 := Lib.hid (Og_12.out.kept b (blk_apart Lg.out LxC.out (by omega)))
  have B_13 := Lib.hid (B_12.out.grown b (by omega) (fun k e => by have := LxC.out k e; omega))
  have S_13 : w12.heap.size ≤ w13.heap.size := b.size
  have zpP_13 : w.heap.size < w13.heap.size := by omega
  have zu_13 : w4.heap.size < w13.heap.size := by omega
  have zxP_13 : w5.heap.size < w13.heap.size := by omega
  have zg_13 : w7.heap.size < w13.heap.size := by omega
  clear b
  clear VpP_12 zpP_12 Vu_12 zu_12 VxP_12 zxP_12 Vg_12 zg_12 Ou_12 OxP_12 OxC_12 Og_12 B_12
  have OxC_13 := Lib.hid On.out
  clear On
  have hk : ¬ (((((1 + zP.length) + zC.length) : Nat) : Int) < 0) := by omega
  clear OxP_13 LxP
  clear OxC_13 LxC
  obtain ⟨cg0, cg1, cg2⟩ := Vg_13.out.three
  obtain ⟨cu0, cu1, cu2⟩ := Vu_13.out.three
  go_wp2_with fail
  clear cg0 cg1 cg2 cu0 cu1 cu2
  refine (c_eqP _ _ _ _ _ _ _ _ _ Og_13.out.row Ou_13.out.row).mono ?_
  rintro _ w14 ⟨rfl, b⟩
  have VpP_14 := Lib.hid (VpP_13.out.keep b)
  have Vu_14 := Lib.hid (Vu_13.out.keep b)
  have VxP_14 := Lib.hid (VxP_13.out.keep b)
  have Vg_14 := Lib.hid (Vg_13.out.keep b)
  have Ou_14 := Lib.hid (Ou_13.out.below b)
  have Og_14 := Lib.hid (Og_13.out.below b)
  have B_14 := Lib.hid (B_13.out.trans (b.mono (by omega)))
  have S_14 : w13.heap.size + 0 ≤ w14.heap.size := by have := b.size; omega
  have zpP_14 : w.heap.size < w14.heap.size := by omega
  have zu_14 : w4.heap.size < w14.heap.size := by omega
  have zxP_14 : w5.heap.size < w14.heap.size := by omega
  have zg_14 : w7.heap.size < w14.heap.size := by omega
  clear b
  clear VpP_13 zpP_13 Vu_13 zu_13 VxP_13 zxP_13 Vg_13 zg_13 Ou_13 Og_13 B_13
  obtain ⟨cg0, cg1, cg2⟩ := Vg_14.out.three
  go_wp2_with fail
  clear cg0 cg1 cg2
  refine (c_markP _ _ _ _ _ _ 1 _ _ Og_14.out (by omega)).mono ?_
  rintro _ w15 ⟨rfl, b, o⟩
  have On := Lib.hid o
  clear o
  have VpP_15 := Lib.hid (VpP_14.out.kept b (by intro e; have := Lg.out _ e.symm; omega))
  have Vu_15 := Lib.hid (Vu_14.out.kept b (by intro e; have := Lg.out _ e.symm; omega))
  have VxP_15 := Lib.hid (VxP_14.out.kept b (by intro e; have := Lg.out _ e.symm; omega))
  have Vg_15 := Lib.hid (Vg_14.out.kept b (by intro e; have := Lg.out _ e.symm; omega))
  have Ou_15 := Lib.hid (Ou_14.out.kept b (blk_apart Lu.out Lg.out (by omega)))
  have B_15 := Lib.hid (B_14.out.grown b (by omega) (fun k e => by have := Lg.out k e; omega))
  have S_15 : w14.heap.size ≤ w15.heap.size := b.size
  have zpP_15 : w.heap.size < w15.heap.size := by omega
  have zu_15 : w4.heap.size < w15.heap.size := by omega
  have zxP_15 : w5.heap.size < w15.heap.size := by omega
  have zg_15 : w7.heap.size < w15.heap.size := by omega
  clear b
  clear VpP_14 zpP_14 Vu_14 zu_14 VxP_14 zxP_14 Vg_14 zg_14 Ou_14 Og_14 B_14
  have Og_15 := Lib.hid On.out
  clear On
  obtain ⟨cg0, cg1, cg2⟩ := Vg_15.out.three
  go_wp2_with fail
  clear cg0 cg1 cg2
  refine (c_heldP _ _ _ _ _ 1 _ Og_15.out.row (by omega)).mono ?_
  rintro _ w16 ⟨rfl, b⟩
  have VpP_16 := Lib.hid (VpP_15.out.keep b)
  have Vu_16 := Lib.hid (Vu_15.out.keep b)
  have VxP_16 := Lib.hid (VxP_15.out.keep b)
  have Vg_16 := Lib.hid (Vg_15.out.keep b)
  have Ou_16 := Lib.hid (Ou_15.out.below b)
  have Og_16 := Lib.hid (Og_15.out.below b)
  have B_16 := Lib.hid (B_15.out.trans (b.mono (by omega)))
  have S_16 : w15.heap.size + 0 ≤ w16.heap.size := by have := b.size; omega
  have zpP_16 : w.heap.size < w16.heap.size := by omega
  have zu_16 : w4.heap.size < w16.heap.size := by omega
  have zxP_16 : w5.heap.size < w16.heap.size := by omega
  have zg_16 : w7.heap.size < w16.heap.size := by omega
  clear b
  clear VpP_15 zpP_15 Vu_15 zu_15 VxP_15 zxP_15 Vg_15 zg_15 Ou_15 Og_15 B_15
  have hq : ¬ (((1 + r.zs.length : Nat) : Int) < 0) := by omega
  obtain ⟨cpP0, cpP1, cpP2⟩ := VpP_16.out.three
  go_wp2_with fail
  clear cpP0 cpP1 cpP2
  refine (c_toP WP HP aP zP.length cP zP _ (RP.out.below B_16.out) (by omega)).mono ?_
  rintro _ w17 ⟨gt, rfl, b, o⟩
  have Lt := Lib.hid o.in
  have Ot_17 := Lib.hid o
  clear o
  have VpP_17 := Lib.hid (VpP_16.out.keep b)
  have Vu_17 := Lib.hid (Vu_16.out.keep b)
  have VxP_17 := Lib.hid (VxP_16.out.keep b)
  have Vg_17 := Lib.hid (Vg_16.out.keep b)
  have Ou_17 := Lib.hid (Ou_16.out.below b)
  have Og_17 := Lib.hid (Og_16.out.below b)
  have B_17 := Lib.hid (B_16.out.trans (b.mono (by omega)))
  have S_17 : w16.heap.size + 0 ≤ w17.heap.size := by have := b.size; omega
  have zpP_17 : w.heap.size < w17.heap.size := by omega
  have zu_17 : w4.heap.size < w17.heap.size := by omega
  have zxP_17 : w5.heap.size < w17.heap.size := by omega
  have zg_17 : w7.heap.size < w17.heap.size := by omega
  clear b
  clear VpP_16 zpP_16 Vu_16 zu_16 VxP_16 zxP_16 Vg_16 zg_16 Ou_16 Og_16 B_16
  go_wp2_with fail
  refine (c_toO aC zC.length cC zC _ (RC.out.below B_17.out) (by omega)).mono ?_
  rintro _ w18 ⟨gtc, rfl, b, o⟩
  have Ltc := Lib.hid o.in
  have Otc_18 := Lib.hid o
  clear o
  have VpP_18 := Lib.hid (VpP_17.out.keep b)
  have Vu_18 := Lib.hid (Vu_17.out.keep b)
  have VxP_18 := Lib.hid (VxP_17.out.keep b)
  have Vg_18 := Lib.hid (Vg_17.out.keep b)
  have Ou_18 := Lib.hid (Ou_17.out.below b)
  have Og_18 := Lib.hid (Og_17.out.below b)
  have Ot_18 := Lib.hid (Ot_17.out.below b)
  have B_18 := Lib.hid (B_17.out.trans (b.mono (by omega)))
  have S_18 : w17.heap.size + 0 ≤ w18.heap.size := by have := b.size; omega
  have zpP_18 : w.heap.size < w18.heap.size := by omega
  have zu_18 : w4.heap.size < w18.heap.size := by omega
  have zxP_18 : w5.heap.size < w18.heap.size := by omega
  have zg_18 : w7.heap.size < w18.heap.size := by omega
  clear b
  clear VpP_17 zpP_17 Vu_17 zu_17 VxP_17 zxP_17 Vg_17 zg_17 Ou_17 Og_17 Ot_17 B_17
  go_wp2_with fail
  refine (CI.out _ _ _ _ _ Ot_18.out.row Otc_18.out.row).mono ?_
  rintro _ w19 ⟨ah, ch, rfl, hrl, b, o⟩
  clear hrl
  have Lh := Lib.hid o.in
  have Oh_19 := Lib.hid o
  clear o
  have VpP_19 := Lib.hid (VpP_18.out.keep b)
  have Vu_19 := Lib.hid (Vu_18.out.keep b)
  have VxP_19 := Lib.hid (VxP_18.out.keep b)
  have Vg_19 := Lib.hid (Vg_18.out.keep b)
  have Ou_19 := Lib.hid (Ou_18.out.below b)
  have Og_19 := Lib.hid (Og_18.out.below b)
  have Ot_19 := Lib.hid (Ot_18.out.below b)
  have Otc_19 := Lib.hid (Otc_18.out.below b)
  have B_19 := Lib.hid (B_18.out.trans (b.mono (by omega)))
  have S_19 : w18.heap.size + 0 ≤ w19.heap.size := by have := b.size; omega
  have zpP_19 : w.heap.size < w19.heap.size := by omega
  have zu_19 : w4.heap.size < w19.heap.size := by omega
  have zxP_19 : w5.heap.size < w19.heap.size := by omega
  have zg_19 : w7.heap.size < w19.heap.size := by omega
  clear b
  clear VpP_18 zpP_18 Vu_18 zu_18 VxP_18 zxP_18 Vg_18 zg_18 Ou_18 Og_18 Ot_18 Otc_18 B_18
  clear Ot_19 Lt
  clear Otc_19 Ltc
  obtain ⟨cu0, cu1, cu2⟩ := Vu_19.out.three
  go_wp2_with fail
  clear cu0 cu1 cu2
  refine (c_eqP _ _ _ _ _ _ _ _ _ (Oh_19.out.alloc _).row (Ou_19.out.alloc _).row).mono ?_
  rintro _ w20 ⟨rfl, b⟩
  have VpP_20 := Lib.hid ((VpP_19.out.alloc _).keep b)
  have Vu_20 := Lib.hid ((Vu_19.out.alloc _).keep b)
  have VxP_20 := Lib.hid ((VxP_19.out.alloc _).keep b)
  have Vg_20 := Lib.hid ((Vg_19.out.alloc _).keep b)
  have Vh_20 := Lib.hid ((Var.new' _ _ _ (w19.heap.size) (by first | rfl | simp)).keep b)
  have Ou_20 := Lib.hid ((Ou_19.out.alloc _).below b)
  have Og_20 := Lib.hid ((Og_19.out.alloc _).below b)
  have Oh_20 := Lib.hid ((Oh_19.out.alloc _).below b)
  have B_20 := Lib.hid ((B_19.out.alloc (by omega) _).trans (b.mono (by simp; omega)))
  have S_20 : w19.heap.size + 1 ≤ w20.heap.size := by have := b.size; simp at this; omega
  have zpP_20 : w.heap.size < w20.heap.size := by omega
  have zu_20 : w4.heap.size < w20.heap.size := by omega
  have zxP_20 : w5.heap.size < w20.heap.size := by omega
  have zg_20 : w7.heap.size < w20.heap.size := by omega
  have zh_20 : w19.heap.size < w20.heap.size := by omega
  clear b
  clear VpP_19 zpP_19 Vu_19 zu_19 VxP_19 zxP_19 Vg_19 zg_19 Ou_19 Og_19 Oh_19 B_19
  obtain ⟨cg0, cg1, cg2⟩ := Vg_20.out.three
  go_wp2_with fail
  clear cg0 cg1 cg2
  refine (c_heldP _ _ _ _ _ 1 _ Og_20.out.row (by omega)).mono ?_
  rintro _ w21 ⟨rfl, b⟩
  have VpP_21 := Lib.hid (VpP_20.out.keep b)
  have Vu_21 := Lib.hid (Vu_20.out.keep b)
  have VxP_21 := Lib.hid (VxP_20.out.keep b)
  have Vg_21 := Lib.hid (Vg_20.out.keep b)
  have Vh_21 := Lib.hid (Vh_20.out.keep b)
  have Ou_21 := Lib.hid (Ou_20.out.below b)
  have Og_21 := Lib.hid (Og_20.out.below b)
  have Oh_21 := Lib.hid (Oh_20.out.below b)
  have B_21 := Lib.hid (B_20.out.trans (b.mono (by omega)))
  have S_21 : w20.heap.size + 0 ≤ w21.heap.size := by have := b.size; omega
  have zpP_21 : w.heap.size < w21.heap.size := by omega
  have zu_21 : w4.heap.size < w21.heap.size := by omega
  have zxP_21 : w5.heap.size < w21.heap.size := by omega
  have zg_21 : w7.heap.size < w21.heap.size := by omega
  have zh_21 : w19.heap.size < w21.heap.size := by omega
  clear b
  clear VpP_20 zpP_20 Vu_20 zu_20 VxP_20 zxP_20 Vg_20 zg_20 Vh_20 zh_20 Ou_20 Og_20 Oh_20 B_20
  go_wp2_with fail
  go_ret
  exact ⟨rfl, B_21.out⟩
theorem walkL0 (WP HP : Int) (zP : List Nat) (aP : Option Addr) (cP : Nat) (zC : List Nat) (aC : Option Addr) (cC : Nat) (w : World) (rP : IsRowF .f32 w aP zP.length cP zP) (rC : IsRowF .f32 w aC zC.length cC zC) (hlC : zC.length ≤ 1048576)  (hm : zP.length ≤ maxLen) (hl : 1048576 < zP.length) : Calls Try.prog 8 #[.agg #[.int .i64 WP, .int .i64 HP, .slice aP zP.length cP], .slice aC zC.length cC] w fun e w' => e = .returned (.bool true) ∧ Below w.heap.size w w' := by
  unfold maxLen at hm
  have RP := Lib.hid rP
  have RC := Lib.hid rC
  clear rP rC
  go_enter Try.func8, Try.ntmps8
  go_wp2_with fail
  refine (c_szP_no WP HP aP zP.length cP (1048576 : Int) _ (by omega) (by omega)).mono ?_
  rintro _ w1 ⟨rfl, b⟩
  have VpP_1 := Lib.hid ((Var.new' _ _ _ (w.heap.size) (by first | rfl | simp)).keep b)
  have B_1 := Lib.hid (((Below.refl w.heap.size w).alloc (Nat.le_refl _) _).trans (b.mono (by simp)))
  have S_1 : w.heap.size + 1 ≤ w1.heap.size := by have := b.size; simp at this; omega
  have zpP_1 : w.heap.size < w1.heap.size := by omega
  clear b
  go_wp2_with fail
  go_ret
  exact ⟨rfl, B_1.out⟩
theorem walkR (WP HP : Int) (zP : List Nat) (aP : Option Addr) (cP : Nat) (zC : List Nat) (aC : Option Addr) (cC : Nat) (w : World) (rP : IsRowF .f32 w aP zP.length cP zP) (rC : IsRowF .f32 w aC zC.length cC zC) (gC : 1048576 < zC.length) : Calls Try.prog 8 #[.agg #[.int .i64 WP, .int .i64 HP, .slice aP zP.length cP], .slice aC zC.length cC] w fun e w' => e = .returned (.bool true) ∧ Below w.heap.size w w' := by
  go_enter Try.func8, Try.ntmps8
  go_wp2_with fail
  go_ret
  exact ⟨rfl, (Below.refl _ _).alloc (Nat.le_refl _) _⟩
theorem walk (WP HP : Int) (zP : List Nat) (aP : Option Addr) (cP : Nat) (aC : Option Addr) (lenC cC : Nat) (zC : List Nat) (w : World) (rP : IsRowF .f32 w aP zP.length cP zP) (rC : IsRowF .f32 w aC lenC cC zC) : Calls Try.prog 8 #[.agg #[.int .i64 WP, .int .i64 HP, .slice aP zP.length cP], .slice aC lenC cC] w fun e w' => e = .returned (.bool true) ∧ Below w.heap.size w w' := by
  obtain rfl := rC.1
  by_cases gC : 1048576 < zC.length
  · exact walkR WP HP zP aP cP zC aC cC w rP rC gC
  have mP : zP.length ≤ maxLen := Nat.le_trans rP.2.1 rP.2.2.1
  by_cases g0 : 1048576 < zP.length
  · exact walkL0 WP HP zP aP cP zC aC cC w rP rC (by omega)  mP g0
  exact walkG WP HP zP aP cP zC aC cC w (resBend WP HP zP zC) (fun aP cP aC cC w rP rC => c_sBendPicture WP HP zP aP cP zC zC.length rfl aC cC w rP rC ) (fun aP cP aC cC w rP rC => c_iBendPicture WP HP zP aP cP zC zC.length rfl aC cC w rP rC ) rP rC (by omega) (by omega)

theorem own : ownKnob Try.prog.godebug = none := by kernel_rfl
theorem laidOut : laidOutB Try.prog = true := by kernel_rfl
set_option maxRecDepth 100000 in
theorem lifted (os : Os) (started : os.Started) (H : Type) (enc : TypeId × Value → H) :
    ReturnsInHanded {} Try.checked os 8 .any (Rows.fnExactBendPictureSpec.pre6 enc Try.prog Try.f8 Rows.fnExactBendPictureRow.domain false) (Rows.fnExactBendPictureSpec.post enc Try.prog Try.f8 false true false false) := by
  refine returnsInHanded_of_change (C := Try.checked) own started (by kernel_rfl) Try.func8
    (ChangeSpec.witness6 (enc := enc) (C := Try.checked) false ⟨#[], #[.agg #[.int .i64 0, .int .i64 0, .slice none 0 0], .slice none 0 0], []⟩ 8 (by kernel_rfl) (by kernel_rfl) (by kernel_rfl) (by kernel_rfl)) ?_
  intro W base args ds gs before hval0 hW hcnd _
  have hval : ∀ (j : Nat) t v, Try.f8.params[j]? = some t → args[j]? = some v → Value.okWide Try.prog W .any base t v := hval0
  have hW' := hW
  obtain ⟨p, q, hA0, hV, rfl, hfz, hnd⟩ := hW
  have hA : DataW.TrodAll enc Try.prog W 0 (fun _ => true) true Try.f8.params.toList args.toList ds p := hA0
  rw [Try.params8] at hA hval
  obtain ⟨v0, vs0, d0, ds0, p0, q0, hargs, rfl, rfl, h0, r0⟩ := trodAll_cons hA
  obtain ⟨v1, vs1, d1, ds1, p1, q1, rfl, rfl, rfl, h1, r1⟩ := trodAll_cons r0
  obtain ⟨rfl, rfl, rfl⟩ := trodAll_nil r1
  obtain rfl : args = #[v0, v1] := by cases args; simp_all
  obtain ⟨rfl, rfl⟩ := trodVars_none hV
  have k0 := h0
  have lt0 : ∀ x ∈ p0, x.block < W.heap.size := by obtain ⟨m, hm⟩ := k0; exact DataW.trod_lt m _ _ _ hm
  obtain ⟨W0, H0, z0, a0, c0, rfl, wW0, wH0, w0⟩ := open_pic Try.underlying60 (by kernel_rfl) (by kernel_rfl) Try.underlying2 Try.underlying2 Try.underlying24 Try.underlying31 (by kernel_rfl) (hval 0 60 v0 rfl rfl) h0
  obtain ⟨a1, len1, cap1, rfl⟩ := okWide_slice Try.underlying24 (hval 1 24 v1 rfl rfl)
  have k1 := h1
  have lt1 : ∀ x ∈ p1, x.block < W.heap.size := by obtain ⟨m, hm⟩ := k1; exact DataW.trod_lt m _ _ _ hm
  obtain ⟨z1, w1⟩ := rowF_of Try.underlying24 Try.underlying31 (by kernel_rfl) h1
  clear hA0 hval0
  have hw0 : Calls Try.prog 8 #[.agg #[.int .i64 W0, .int .i64 H0, .slice a0 z0.length c0], .slice a1 len1 cap1] W fun e w' => e = .returned (.bool true) ∧ Below W.heap.size W w' := by
    exact walk W0 H0 z0 a0 c0 a1 len1 cap1 z1 W w0 w1
  refine hw0.mono fun e W' ⟨he, bel⟩ => ?_
  subst he
  exact ⟨_, rfl, _, _, _, [], _, [], hW', trodAll_mk1 (shut_bool Try.underlying4 _), (trodAll_cons_mk (Below.trod laidOut (by kernel_rfl) (of_decide_eq_true (by kernel_rfl)) k0 bel lt0) (trodAll_cons_mk (Below.trod laidOut (by kernel_rfl) (of_decide_eq_true (by kernel_rfl)) k1 bel lt1) trodAll_mk0)), rfl, bel.frame _, fun h => by cases h⟩

theorem over : Rows.fnExactBendPictureRow.holds Try.pinned (OpenSpec.ofChange Rows.fnExactBendPictureSpec) :=
  OpenClaim.holds_of_wide 8 Try.f8 rfl rfl rfl rfl rfl rfl rfl ⟨rfl, rfl, rfl, rfl, rfl⟩ rfl rfl rfl rfl rfl (by kernel_rfl) Try.func8 (by kernel_rfl)
    (of_decide_eq_true (by kernel_rfl)) (by unfold Func.isWrapper; first | (rw [if_pos (by decide +kernel)]; kernel_rfl) | (rw [if_neg (by decide +kernel)]; exact ⟨rfl, rfl⟩))
    (fun os started H enc _ => lifted os started H enc)

theorem proved : Rows.FnExactBendPictureSaid := over
#print axioms proved

end Go.Proofs.Ytbloibljjhddaac.fnExactBendPicture

/-
  FnExactCropPicture: for every input this law of the program returns true, and each argument reads as before. No condition.
-/
import Derived.Test.YtnnldhfgnmcfiaaRows
import Derived.Test.YtnnldhfgnmcfiaaRow
import Derived.Test.YtnnldhfgnmcfiaaOw
import Derived.Test.YtnnldhfgnmcfiaaAp
import Derived.ProofKit
import Derived.OpenShut
import Derived.ShutString
import Derived.ChangeOld
import Derived.Below
import Derived.Lib.Hide
import Derived.Outline
import Derived.Deep.RegionHeld3
import Derived.Deep.DeepCutAuto
set_option linter.unusedSimpArgs false
set_option linter.unusedVariables false
set_option exponentiation.threshold 2000
set_option maxRecDepth 20000
set_option maxHeartbeats 4000000
namespace Go.Proofs.Ytnnldhfgnmcfiaa.fnExactCropPicture
open Go Go.Proofs.Ytnnldhfgnmcfiaa Go.Proofs
open Go.ChangeShapes Go.WideShapes Go.ChangeAt Go.RowKit
open Go.ChangeMaps (open_string shut_string)
/-! ### szPicture -/
theorem c_szF (a : Option Addr) (len cap : Nat) (L : Int) (w : World) (h : (len : Int) ≤ L) (hL : L ≤ 1048576) : Calls Try.prog 45 #[.slice a len cap, .int .i64 L] w (fun e w' => e = .returned (.int .i64 (L - (len : Int))) ∧ w' = w) := by
  have h' : ¬ (L - (len : Int) < 0) := by omega
  go_enter Try.func45, Try.ntmps45
  go_wp2
  go_ret
  exact ⟨rfl, rfl⟩
theorem c_szF_no (a : Option Addr) (len cap : Nat) (L : Int) (w : World) (h : L < len) (hL : 0 ≤ L) (hm : len ≤ 9223372036854775807) : Calls Try.prog 45 #[.slice a len cap, .int .i64 L] w (fun e w' => e = .returned (.int .i64 (-1)) ∧ w' = w) := by
  have h' : L - (len : Int) < 0 := by omega
  go_enter Try.func45, Try.ntmps45
  go_wp2
  go_ret
  exact ⟨rfl, rfl⟩
theorem c_szP (W H : Int) (a : Option Addr) (len cap : Nat) (L : Int) (w : World) (h : (len : Int) ≤ L) (hL : L ≤ 1048576) : Calls Try.prog 15 #[.agg #[.int .i64 W, .int .i64 H, .slice a len cap], .int .i64 L] w (RetB (.int .i64 (L - (len : Int))) w) := by
  have h' : ¬ (L - (len : Int) < 0) := by omega
  go_enter Try.func15, Try.ntmps15
  go_wp2_with (go_at_call 45; refine (c_szF a len cap L _ h hL).mono ?_; rintro _ _ ⟨rfl, rfl⟩)
  go_ret
  exact ⟨rfl, (Below.refl _ _).alloc (Nat.le_refl _) _⟩
theorem c_szP_no (W H : Int) (a : Option Addr) (len cap : Nat) (L : Int) (w : World) (h : L < len) (hL : 0 ≤ L ∧ len ≤ 9223372036854775807) : Calls Try.prog 15 #[.agg #[.int .i64 W, .int .i64 H, .slice a len cap], .int .i64 L] w (RetB (.int .i64 (-1)) w) := by
  go_enter Try.func15, Try.ntmps15
  go_wp2_with (go_at_call 45; refine (c_szF_no a len cap L _ h hL.1 hL.2).mono ?_; rintro _ _ ⟨rfl, rfl⟩)
  go_ret
  exact ⟨rfl, (Below.refl _ _).alloc (Nat.le_refl _) _⟩
/-! ### toOwn -/
theorem infoFo : (Try.prog.info? 25).map (fun i => (i.zero, i.size, i.bytes)) = some (some (.float .f32 0), 1, 4) := by kernel_rfl
theorem c_toO (a : Option Addr) (len cap : Nat) (zs : List Nat) (w : World) (hr : IsRowF .f32 w a len cap zs) (hl : len ≤ 1048576) : Calls Try.prog 50 #[.slice a len cap] w (NewO 25 len zs w) := by
  obtain ⟨i0, hi, hz0, hz1, hz2⟩ := info_parts infoFo
  obtain ⟨h1, h2, h3, h4, h5⟩ := hr
  go_enter Try.func50, Try.ntmps50
  go_wp2_with (at_make; refine wpList_make_full _ rfl _ _ 22 rfl w.heap.size 25 i0 (.float .f32 0) 1 Try.underlying22 hi hz0 hz1 _ _ _ _ len rfl rfl rfl rfl (by rw [hz2]; omega) (by unfold maxLen; omega) (by simp) ?_; intro w1 hown hgrow)
  have hblk := block_of_owns hown
  have e0 : (madeCells (Value.float FloatKind.f32 0).cells (len * 1)).toList = List.replicate len (.float .f32 0) := by rw [Nat.mul_one]; exact made_zeros _ _
  rw [e0] at hblk
  have hbel : Below w.heap.size w w1 := (Below.refl _ _).grown hgrow (Nat.le_refl _) (by simp)
  have HB := Lib.hid hblk
  clear hown hgrow hblk e0 hz0 hz1 hz2
  go_loopw [4] (fun i wr => ∃ j : Nat, j ≤ len ∧ i = .int .i64 j ∧ Below w.heap.size w wr ∧ wr.heap[w.heap.size]? = some (.cells (fl .f32 (zs.take j) ++ List.replicate (zs.length - j) (Value.float .f32 0)).toArray 25 (0, 0))) (fun i _ => len - (intOf i).toNat)
  case atStart => exact ⟨0, Nat.zero_le _, rfl, hbel, by rw [HB.out, h1]; rfl⟩
  case round =>
    obtain ⟨j, hj, rfl, hb, hblk⟩ := hrel
    have Hblk := Lib.hid hblk
    clear hblk
    by_cases hlt : j < len
    · rcases h5 with h5 | ⟨b, off, rfl, hbl, hc⟩
      · omega
      have hcell : wr.cell? ⟨b, off + j, none⟩ = some (.float .f32 (fat zs j)) := by rw [hb.cell (p := ⟨b, off + j, none⟩) hbl]; exact hc j hlt
      have hold : wr.cell? ⟨w.heap.size, j, none⟩ = some (.float .f32 0) := by
        rw [cell_of_block Hblk.out, List.getElem?_append_right (by simp [fl]; omega)]
        have e : (fl FloatKind.f32 (List.take j zs)).length = j := by simp [fl]; omega
        rw [e, Nat.sub_self, List.getElem?_replicate, if_pos (by omega)]
      have hfz : wr.frozen? ⟨w.heap.size, j, none⟩ = false := frozen_of_block Hblk.out j
      have hset := block_set Hblk.out j (.float .f32 (fat zs j))
      rw [set_step zs _ j (by omega)] at hset
      have Hset := Lib.hid hset
      clear hset hc
      go_wp2
      go_roundw
      case rel => exact ⟨j + 1, by omega, by go_num, hb.setCell (Nat.le_refl _) _, Hset.out⟩
      case measure => simp [intOf]; omega
    · obtain rfl : j = len := by omega
      have e1 : fl .f32 (zs.take j) ++ List.replicate (zs.length - j) (Value.float .f32 0) = fl .f32 zs := by rw [h1, Nat.sub_self, List.replicate_zero, List.append_nil, List.take_of_length_le (by omega)]
      have hblk2 := Hblk.out
      rw [e1] at hblk2
      have hown : Own 25 wr w.heap.size (some ⟨w.heap.size, 0, none⟩) j j zs :=
        ⟨h1, ⟨by simp [fl, h1], .inr ⟨w.heap.size, j, _, rfl, Nat.le_refl _, hblk2, Nat.le_refl _, by unfold maxLen; omega, by simp [fl, h1], by rw [List.take_of_length_le (by simp [fl, h1])]⟩⟩, h4⟩
      have HO := Lib.hid hown
      clear hown hblk2 e1
      go_wp2
      go_ret
      exact ⟨w.heap.size, rfl, hb, HO.out⟩
/-! ### toPicture -/
theorem c_toP (W H : Int) (a : Option Addr) (len cap : Nat) (zs : List Nat) (w : World) (hr : IsRowF .f32 w a len cap zs) (hl : len ≤ 1048576) : Calls Try.prog 17 #[.agg #[.int .i64 W, .int .i64 H, .slice a len cap]] w (NewP 25 W H zs w) := by
  have HR := Lib.hid hr
  have HL := Lib.hid hr.1
  clear hr
  go_enter Try.func17, Try.ntmps17
  go_wp2_with fail
  refine (c_toO a len cap zs _ (HR.out.below ((((Below.refl _ _).alloc (Nat.le_refl _) _).alloc (by simp) _).alloc (by simp; omega) _)) hl).mono ?_
  rintro _ w1 ⟨g, rfl, hb, hown⟩
  obtain ⟨hc, hf⟩ := bcell hb
  have hz : w.heap.size + 1 + 1 < w1.heap.size := by have := hb.size; simp at this; omega
  have hg' : w.heap.size + 1 + 1 < g := by have := hown.lt.1; simp at this; omega
  have HB := Lib.hid hb
  have HO := Lib.hid hown
  clear hb hown
  go_wp2_with fail
  refine bodyPost_ret (v := .agg #[.int .i64 W, .int .i64 H, .slice (some ⟨g, 0, none⟩) len len]) (by simp [results, Try.results17, hc, hz, go_sem]) rfl ⟨g, by rw [HL.out], ?_, ?_⟩
  · exact ((((((((Below.refl _ _).alloc (Nat.le_refl _) _).alloc (by simp) _).alloc (by simp; omega) _).trans (HB.out.mono (by simp; omega))).setCell (by simp; omega) _).setCell (by simp) _).setCell (by simp) _).setCell (by simp) _
  · rw [HL.out]
    exact ((((HO.out.setCell (by simp [blk]; omega) _).setCell (by simp [blk]; omega) _).setCell (by simp [blk]; omega) _).setCell (by simp [blk]; omega) _).mono (by simp; omega)
/-! ### sameFloat -/
theorem c_sameFloat (v n m : Nat) (w : World) (j : Nat) : Calls Try.prog 28 #[.float .f64 (pick .f64 v n), .float .f64 (pick .f64 v m)] (w.drewN j) (RetV (.bool true) w) := by
  have hs := self_ne .f64 v
  have ht := self_eq .f64 v
  cases h : isN .f64 v
  · rw [h] at hs ht
    cases h2 : (FloatKind.f64.format.order v 0 == some .eq)
    · go_enter Try.func28, Try.ntmps28
      go_wp2_with (first | (refine wpList_fop rfl _ _ _ _ _ rfl _ _ _ rfl rfl (by decide) _ ?_; intro _ _) | (refine upon_fop _ _ _ _ _ (by decide) ?_; intro _ _))
      go_ret
      exact ⟨_, rfl, rfl⟩
    · go_enter Try.func28, Try.ntmps28
      go_wp2_with (first | (refine wpList_fop rfl _ _ _ _ _ rfl _ _ _ rfl rfl (by decide) _ ?_; intro _ _) | (refine upon_fop _ _ _ _ _ (by decide) ?_; intro _ _))
      go_ret
      exact ⟨_, by simp, rfl⟩
  · rw [h] at hs ht
    go_enter Try.func28, Try.ntmps28
    go_wp2_with (first | (refine wpList_fop rfl _ _ _ _ _ rfl _ _ _ rfl rfl (by decide) _ ?_; intro _ _) | (refine upon_fop _ _ _ _ _ (by decide) ?_; intro _ _))
    go_ret
    exact ⟨_, rfl, rfl⟩

/-! ### eqFloat32S -/
theorem c_eqF (a b : Option Addr) (len c d : Nat) (zs : List Nat) (w : World) (j0 : Nat) (hr : IsRowF .f32 w a len c zs) (hs : IsRowF .f32 w b len d zs) : Calls Try.prog 53 #[.slice a len c, .slice b len d] (w.drewN j0) (RetV (.bool true) w) := by
  obtain ⟨h1, h2, h3, h4, h5⟩ := hr
  obtain ⟨g1, g2, g3, g4, g5⟩ := hs
  unfold maxLen at h3
  go_enter Try.func53, Try.ntmps53
  go_wp2
  go_loopw [5] (fun i wr => ∃ k m : Nat, k ≤ len ∧ i = .int .i64 k ∧ wr = w.drewN m) (fun i _ => len - (intOf i).toNat)
  case atStart => exact ⟨0, j0, Nat.zero_le _, rfl, rfl⟩
  case round =>
    obtain ⟨k, m, hk, rfl, rfl⟩ := hrel
    by_cases hlt : k < len
    · rcases h5 with h5 | ⟨x, off, rfl, hbl, hc⟩
      · omega
      rcases g5 with g5 | ⟨y, off2, rfl, gbl, gc⟩
      · omega
      have hcell : w.cell? ⟨x, off + k, none⟩ = some (.float .f32 (fat zs k)) := hc k hlt
      have gcell : w.cell? ⟨y, off2 + k, none⟩ = some (.float .f32 (fat zs k)) := gc k hlt
      clear hc h4 gc g4
      go_wp2
      refine wp_region_N (fun _ _ u => u = .bool true) (by kernel_rfl) (by kernel_rfl) ?_; (repeat (first | ((with_reducible show wpN _ _ _ _ _ (Oper.mk _ (Op.binOp _ _ _ _ _) _ _ _ none :: _) _); refine wpN_fop rfl _ _ _ _ _ rfl _ _ _ rfl rfl (by decide) ?_; intro _) | ((with_reducible show wpN _ _ _ _ _ (Oper.mk _ (Op.convert _ _ _) _ _ _ none :: _) _); refine wpN_cvU rfl 25 41 _ rfl (Option.isSome_iff_exists.2 ⟨_, Try.underlying25⟩) Try.underlying41 _ rfl ?_; intro _) | ((with_reducible show wpN _ _ _ _ _ (Oper.mk _ _ _ _ _ (some _) :: _) _); (with_reducible refine wpN_off ?_ ?_); focus rfl; (simp only [Act.put, List.setIfInBounds_toArray, List.set_cons_zero, List.set_cons_succ])) | ((with_reducible show wpN _ _ _ _ _ (Oper.mk _ _ _ _ _ (some _) :: _) _); ((with_reducible refine wpN_on ?_ (fun K hK => ?_)); (focus rfl); intro _; go_simp; first | (refine uponN_value (hK _ ?_)) | ((refine uponN_call (callN rfl (c_sameFloat _ _ _ _ _)) ?_; intro u hu; obtain rfl : u = _ := hu); refine hK _ ?_)); clear hK K) | (((with_reducible refine wpN_plain rfl (fun K hK => ?_)); intro _; go_simp; first | (refine uponN_value (hK _ ?_)) | ((refine uponN_call (callN rfl (c_sameFloat _ _ _ _ _)) ?_; intro u hu; obtain rfl : u = _ := hu); refine hK _ ?_)); clear hK K) | ((with_reducible refine wpN_step (fun K hK => ?_)); go_simp; first | (refine hK _ ?_) | (intro _; first | (refine uponN_value (hK _ ?_)) | ((refine uponN_call (callN rfl (c_sameFloat _ _ _ _ _)) ?_; intro u hu; obtain rfl : u = _ := hu); refine hK _ ?_)); clear hK K))); refine wpN_nil ?_; intro _
      go_wp2
      go_roundw
      case rel => exact ⟨k + 1, _, by omega, by go_num, rfl⟩
      case measure => simp [intOf]; omega
    · clear h5 h4 g4 g5
      go_wp2
      go_ret
      exact ⟨_, rfl, rfl⟩
/-! ### eqPicture -/
theorem c_eqF0 (a b : Option Addr) (len c d : Nat) (zs : List Nat) (w : World) (hr : IsRowF .f32 w a len c zs) (hs : IsRowF .f32 w b len d zs) : Calls Try.prog 53 #[.slice a len c, .slice b len d] w (RetV (.bool true) w) := by
  have h := c_eqF a b len c d zs w 0 hr hs
  rwa [w.drewN_zero] at h
theorem c_eqP (W H : Int) (a b : Option Addr) (len c d : Nat) (zs : List Nat) (w : World) (hr : IsRowF .f32 w a len c zs) (hs : IsRowF .f32 w b len d zs) : Calls Try.prog 19 #[.agg #[.int .i64 W, .int .i64 H, .slice a len c], .agg #[.int .i64 W, .int .i64 H, .slice b len d]] w (RetB (.bool true) w) := by
  have HR := Lib.hid hr
  have HS := Lib.hid hs
  clear hr hs
  go_enter Try.func19, Try.ntmps19
  go_wp2_with fail
  refine (c_eqF0 a b len c d zs _ ((HR.out.alloc _).alloc _) ((HS.out.alloc _).alloc _)).mono ?_
  rintro _ _ ⟨m, rfl, rfl⟩
  go_wp2_with fail
  go_ret
  exact ⟨rfl, below_drewN (((Below.refl _ _).alloc (Nat.le_refl _) _).alloc (by simp) _) _⟩
/-! ### markFloat32S -/
theorem c_markF (B : Nat) (a : Option Addr) (len cap k : Nat) (zs : List Nat) (w : World) (hr : Own 25 w B a len cap zs) (hk : k + len ≤ 4611686018427387904) : Calls Try.prog 54 #[.slice a len cap, .int .i64 k] w (fun e w' => e = .returned (.int .i64 ((k + len : Nat) : Int)) ∧ w.grownBy w' (blk a) ∧ Own 25 w' B a len cap (marks k len)) := by
  rcases hr.parts with ⟨rfl, rfl, rfl, rfl⟩ | ⟨g, cur, rfl, hb, hg, hl, hm, hs, ht⟩
  · clear hr
    go_enter Try.func54, Try.ntmps54
    go_wp2
    refine wp_loop_rounds 1 ?_; rw [rounds_succ]
    go_wp2
    go_ret
    exact ⟨rfl, ⟨rfl, rfl, rfl, Nat.le_refl _, fun _ _ _ => rfl⟩, Own.nil _ _ _⟩
  · have h0 : Marked w g 25 cap k 0 := ⟨cur, hg, hs, fun i hi => by omega⟩
    have H0 := Lib.hid h0
    unfold maxLen at hm
    clear hr hg hs ht h0
    go_enter Try.func54, Try.ntmps54
    go_wp2
    go_loopw [1, 5] (fun t i wr => ∃ j : Nat, j ≤ len ∧ i = .int .i64 j ∧ t = .int .i64 ((k + j : Nat) : Int) ∧ w.grownBy wr (some g) ∧ Marked wr g 25 cap k j) (fun _ i _ => len - (intOf i).toNat)
    case atStart => exact ⟨0, Nat.zero_le _, rfl, rfl, ⟨rfl, rfl, rfl, Nat.le_refl _, fun _ _ _ => rfl⟩, H0.out⟩
    case round =>
      obtain ⟨j, hj, rfl, rfl, hgr, hM⟩ := hrel
      by_cases hlt : j < len
      · obtain ⟨v, hcell, hfz⟩ := hM.cell (j := j) (by omega)
        have hM2 := Lib.hid (hM.step (by omega : j < cap))
        have hG2 := Lib.hid hgr
        clear hM hgr
        go_wp2
        go_roundw
        case rel => exact ⟨j + 1, by omega, by go_num, by go_num, ⟨hG2.out.os, hG2.out.tape, hG2.out.output, by have := hG2.out.size; simpa using this, fun k' h1 h2 => by rw [Below.heap_setCell _ _ _ _ (fun e => h2 (by rw [e]))]; exact hG2.out.block k' h1 h2⟩, hM2.out⟩
        case measure => simp [intOf]; omega
      · obtain rfl : j = len := by omega
        have hO := Lib.hid (hM.own (B := B) hb hl (by unfold maxLen; omega))
        have hG2 := Lib.hid hgr
        clear hM hgr
        go_wp2
        go_ret
        exact ⟨rfl, hG2.out, hO.out⟩
/-! ### heldFloat32S -/
theorem c_heldF (a : Option Addr) (len cap k : Nat) (w : World) (hr : IsRowF .f32 w a len cap (marks k len)) (hk : k + len ≤ 4611686018427387904) : Calls Try.prog 55 #[.slice a len cap, .int .i64 k] w (fun e w' => e = .returned (.int .i64 ((k + len : Nat) : Int)) ∧ w' = w) := by
  obtain ⟨h1, h2, h3, h4, h5⟩ := hr
  unfold maxLen at h3
  clear h1 h4
  go_enter Try.func55, Try.ntmps55
  go_wp2
  go_loop [1, 5] (fun t i => ∃ j : Nat, j ≤ len ∧ i = .int .i64 j ∧ t = .int .i64 ((k + j : Nat) : Int)) (fun _ i => len - (intOf i).toNat)
  case atStart => exact ⟨0, Nat.zero_le _, rfl, rfl⟩
  case round =>
    obtain ⟨j, hj, rfl, rfl⟩ := hrel
    by_cases hlt : j < len
    · rcases h5 with h5 | ⟨b, off, rfl, hbl, hc⟩
      · omega
      have hcell : w.cell? ⟨b, off + j, none⟩ = some (.float .f32 (markN k j)) := by rw [← marks_at k len j hlt]; exact hc j hlt
      have hne : (FloatKind.f32.format.order (markN k j) (markN k j) != some .eq) = false := by rw [self_ne]; exact markN_notN k j
      have hE : floatOfInt .f32 ((k : Int) + (j : Int)) = markN k j := by unfold markN; rw [Int.natCast_add]
      have hne2 : (FloatKind.f32.format.order (markN k j) (floatOfInt .f32 ((k : Int) + (j : Int))) != some .eq) = false := (congrArg (fun x => FloatKind.f32.format.order (markN k j) x != some .eq) hE).trans hne
      clear hE
      clear hc
      go_wp2
      go_round
      case rel => exact ⟨j + 1, by omega, by go_num, by go_num⟩
      case measure => simp [intOf]; omega
    · obtain rfl : j = len := by omega
      clear h5
      go_wp2
      go_ret
      exact ⟨rfl, rfl⟩
/-! ### markPicture -/
theorem c_markP (W H : Int) (B : Nat) (a : Option Addr) (len cap k : Nat) (zs : List Nat) (w : World) (hr : Own 25 w B a len cap zs) (hk : k + len ≤ 4611686018427387904) : Calls Try.prog 20 #[.agg #[.int .i64 W, .int .i64 H, .slice a len cap], .int .i64 k] w (fun e w' => e = .returned (.int .i64 ((k + len : Nat) : Int)) ∧ w.grownBy w' (blk a) ∧ Own 25 w' B a len cap (marks k len)) := by
  have HR := Lib.hid hr
  clear hr
  go_enter Try.func20, Try.ntmps20
  go_wp2_with fail
  refine (c_markF B a len cap k zs _ (HR.out.alloc _) hk).mono ?_
  rintro _ w1 ⟨rfl, hg, hO⟩
  have HG := Lib.hid hg
  have HO := Lib.hid hO
  clear hg hO
  go_wp2_with fail
  go_ret
  exact ⟨rfl, ⟨HG.out.os, HG.out.tape, HG.out.output, by have := HG.out.size; simp at this; omega, fun k' h1 h2 => by rw [HG.out.block k' (by simp; omega) h2]; exact Below.heap_alloc _ _ _ h1⟩, HO.out⟩
theorem c_heldP (W H : Int) (a : Option Addr) (len cap k : Nat) (w : World) (hr : IsRowF .f32 w a len cap (marks k len)) (hk : k + len ≤ 4611686018427387904) : Calls Try.prog 21 #[.agg #[.int .i64 W, .int .i64 H, .slice a len cap], .int .i64 k] w (RetB (.int .i64 ((k + len : Nat) : Int)) w) := by
  have HR := Lib.hid hr
  clear hr
  have h0 : 0 ≤ ((k + len : Nat) : Int) := by omega
  go_enter Try.func21, Try.ntmps21
  go_wp2_with fail
  refine (c_heldF a len cap k _ (HR.out.alloc _) hk).mono ?_
  rintro _ w1 ⟨rfl, rfl⟩
  go_wp2_with fail
  go_ret
  exact ⟨rfl, (Below.refl _ _).alloc (Nat.le_refl _) _⟩

/-! ### picDefs -/
def sideB (W H : Int) : Bool := decide (1 ≤ W) && decide (W ≤ 16) && (decide (1 ≤ H) && decide (H ≤ 16))
def finL (zs : List Nat) : Bool := zs.all (finB .f32)
def validB (W H : Int) (zs : List Nat) : Bool := sideB W H && decide ((zs.length : Int) = W * H) && finL zs
theorem sideB_true {W H : Int} (h : sideB W H = true) : (1 ≤ W ∧ W ≤ 16) ∧ 1 ≤ H ∧ H ≤ 16 := by simpa [sideB, and_assoc] using h
theorem side_mul {W H : Int} (h : sideB W H = true) : 1 ≤ W * H ∧ W * H ≤ 256 := by
  obtain ⟨⟨h1, h2⟩, h3, h4⟩ := sideB_true h
  have : W * H ≤ 16 * 16 := Int.mul_le_mul h2 h4 (by omega) (by omega)
  have h5 : 1 * 1 ≤ W * H := Int.mul_le_mul h1 h3 (by omega) (by omega)
  omega
theorem sideB_false {W H : Int} (h : sideB W H = false) : W < 1 ∨ 16 < W ∨ H < 1 ∨ 16 < H := by
  simp [sideB] at h; omega
theorem finL_snoc (zs : List Nat) (k : Nat) (hk : k < zs.length) : finL (zs.take (k + 1)) = (finL (zs.take k) && finB .f32 (fat zs k)) := by
  unfold finL fat
  rw [List.take_succ_eq_append_getElem hk, List.all_append, List.getD, List.getElem?_eq_getElem hk]; simp
theorem finL_of (zs : List Nat) (k : Nat) (hk : k < zs.length) (h : finB .f32 (fat zs k) = false) : finL zs = false := by
  unfold finL
  rw [List.all_eq_false]
  refine ⟨zs[k], List.getElem_mem hk, ?_⟩
  unfold fat at h
  rw [List.getD, List.getElem?_eq_getElem hk] at h
  simpa using h
theorem pick0 (k : FloatKind) (v : Nat) (hv : v < 2 ^ k.format.width) : ∃ n, v = pick k v n := pick_onto k v hv
/-! ### give -/
def giveP (W H : Int) (zs : List Nat) : PRes := if validB W H zs = true then ⟨W, H, zs, true⟩ else PRes.no
theorem near_valid {W H : Int} {zs' zs : List Nat} (h : near zs' zs) : validB W H zs' = validB W H zs := by
  unfold validB finL; rw [near_fin h, h.1]
theorem valid_fin {W H : Int} {zs : List Nat} (h : validB W H zs = true) : zs.all (finB .f32) = true := by
  simp [validB, finL] at h ⊢; exact h.2
theorem valid_len {W H : Int} {zs : List Nat} (h : validB W H zs = true) : (zs.length : Int) = W * H ∧ zs.length ≤ 256 ∧ 1 ≤ zs.length := by
  simp only [validB, Bool.and_eq_true, decide_eq_true_eq] at h
  obtain ⟨⟨h1, h2⟩, h3⟩ := h
  have := side_mul h1
  exact ⟨h2, by omega, by omega⟩
/-! ### makeDefs -/
def makeL (F : Nat → Nat → Nat) (Wn Hn : Nat) : List Nat := (List.range (Wn * Hn)).map fun i => F (i % Wn) (i / Wn)
theorem makeL_len {F : Nat → Nat → Nat} {Wn Hn : Nat} : (makeL F Wn Hn).length = Wn * Hn := by simp [makeL]
theorem makeL_at {F : Nat → Nat → Nat} {Wn Hn x y k : Nat} (hk : k = y * Wn + x) (hx : x < Wn) (hy : y < Hn) : fat (makeL F Wn Hn) k = F x y := by
  have h1 : k < Wn * Hn := by
    have : (y + 1) * Wn ≤ Hn * Wn := Nat.mul_le_mul_right _ (by omega)
    rw [Nat.succ_mul] at this
    rw [Nat.mul_comm Wn Hn]; omega
  have h2 : k % Wn = x := by rw [hk, Nat.mul_comm y Wn, Nat.mul_add_mod, Nat.mod_eq_of_lt hx]
  have h3 : k / Wn = y := by rw [hk, Nat.mul_comm y Wn, Nat.mul_add_div (by omega), Nat.div_eq_of_lt hx, Nat.add_zero]
  simp [fat, makeL, h1, h2, h3]
theorem make_lt {Wn Hn x y k : Nat} (hk : k = y * Wn + x) (hx : x < Wn) (hy : y < Hn) : k + 1 ≤ Wn * Hn := by
  have : (y + 1) * Wn ≤ Hn * Wn := Nat.mul_le_mul_right _ (by omega)
  rw [Nat.succ_mul] at this
  rw [Nat.mul_comm Wn Hn]; omega
def resMake (F : Nat → Nat → Nat) (W H : Int) : PRes := if sideB W H = true then giveP W H (makeL F W.toNat H.toNat) else PRes.no
/-! ### atDefs -/
def minI (a b : Int) : Int := if a < b then a else b
def maxI (a b : Int) : Int := if b < a then a else b
theorem clamp_in (n : Nat) (h : 1 ≤ n) (i : Int) : ∃ c : Nat, maxI 0 (minI ((n : Int) - 1) i) = (c : Int) ∧ c < n := by
  refine ⟨(maxI 0 (minI ((n : Int) - 1) i)).toNat, ?_, ?_⟩
  · unfold maxI minI; split <;> split <;> omega
  · unfold maxI minI; split <;> split <;> omega
theorem clamp_is {n c : Nat} (h : c < n) : maxI 0 (minI ((n : Int) - 1) (c : Int)) = (c : Int) := by
  unfold maxI minI; split <;> split <;> omega
theorem mul_bound {cy Wn Hn : Nat} (hy : cy < Hn) (hW : Wn ≤ 16) (hH : Hn ≤ 16) : cy * Wn + Wn ≤ Wn * Hn ∧ cy * Wn ≤ 256 := by
  have h1 : (cy + 1) * Wn ≤ Hn * Wn := Nat.mul_le_mul_right _ (by omega)
  rw [Nat.succ_mul, Nat.mul_comm Hn Wn] at h1
  have h2 : Wn * Hn ≤ 16 * 16 := Nat.mul_le_mul hW hH
  exact ⟨h1, by omega⟩
/-! ### cropDefs -/
def cropK (Wn xn yn wn k : Nat) : Nat := (yn + k / wn) * Wn + (xn + k % wn)
def cropL (zA : List Nat) (Wn xn yn wn hn : Nat) : List Nat := (List.range (wn * hn)).map fun k => fat zA (cropK Wn xn yn wn k)
theorem cropL_len {zA : List Nat} {Wn xn yn wn hn : Nat} : (cropL zA Wn xn yn wn hn).length = wn * hn := by simp [cropL]
theorem cropL_at {zA : List Nat} {Wn xn yn wn hn k : Nat} (hk : k < wn * hn) : fat (cropL zA Wn xn yn wn hn) k = fat zA (cropK Wn xn yn wn k) := by simp [fat, cropL, hk]
theorem crop_div {wn hn k : Nat} (hk : k < wn * hn) (hw : 1 ≤ wn) : k % wn < wn ∧ k / wn < hn := ⟨Nat.mod_lt _ hw, Nat.div_lt_of_lt_mul hk⟩
theorem crop_idx {Wn Hn xn yn wn hn i j : Nat} (hx : xn + wn ≤ Wn) (hy : yn + hn ≤ Hn) (hi : i < wn) (hj : j < hn) : (yn + j) * Wn + (xn + i) < Wn * Hn := by
  have h1 : (yn + j + 1) * Wn ≤ Hn * Wn := Nat.mul_le_mul_right _ (by omega)
  rw [Nat.succ_mul, Nat.mul_comm Hn Wn] at h1
  omega
theorem crop_mem {zA : List Nat} {Wn Hn xn yn wn hn k : Nat} (hl : zA.length = Wn * Hn) (hx : xn + wn ≤ Wn) (hy : yn + hn ≤ Hn) (hw : 1 ≤ wn) (hk : k < wn * hn) : fat zA (cropK Wn xn yn wn k) ∈ zA := by
  obtain ⟨h1, h2⟩ := crop_div hk hw
  exact fat_mem (by rw [hl]; exact crop_idx hx hy h1 h2)
theorem crop_mem2 {zA : List Nat} {Wn Hn xn yn wn hn : Nat} (hl : zA.length = Wn * Hn) (hx : xn + wn ≤ Wn) (hy : yn + hn ≤ Hn) (hw : 1 ≤ wn) : ∀ y ∈ cropL zA Wn xn yn wn hn, y ∈ zA := by
  intro y h
  obtain ⟨i, hi, rfl⟩ := mem_fat h
  rw [cropL_len] at hi
  rw [cropL_at hi]
  exact crop_mem hl hx hy hw hi
theorem crop_fin {zA : List Nat} {Wn Hn xn yn wn hn : Nat} (hl : zA.length = Wn * Hn) (hx : xn + wn ≤ Wn) (hy : yn + hn ≤ Hn) (hw : 1 ≤ wn) (hf : zA.all (finB .f32) = true) : (cropL zA Wn xn yn wn hn).all (finB .f32) = true := by
  rw [List.all_eq_true] at hf ⊢
  exact fun y h => hf _ (crop_mem2 hl hx hy hw y h)
theorem crop_valid {zA : List Nat} {Wn Hn xn yn wn hn : Nat} (hl : zA.length = Wn * Hn) (hx : xn + wn ≤ Wn) (hy : yn + hn ≤ Hn) (hw : 1 ≤ wn) (hh : 1 ≤ hn) (hW : Wn ≤ 16) (hH : Hn ≤ 16) (hf : zA.all (finB .f32) = true) : validB (wn : Int) (hn : Int) (cropL zA Wn xn yn wn hn) = true := by
  have h3 := crop_fin hl hx hy hw hf
  simp only [validB, finL, Bool.and_eq_true, sideB, decide_eq_true_eq]
  exact ⟨⟨⟨⟨by omega, by omega⟩, by omega, by omega⟩, by rw [cropL_len, Int.natCast_mul]⟩, h3⟩
def fitsB (a l r : Int) : Bool := decide (0 ≤ a) && decide (1 ≤ l) && decide (l ≤ r) && decide (a ≤ r - l)
def resCrop (WA HA : Int) (zA : List Nat) (x y wd hg : Int) : PRes := if (validB WA HA zA && (fitsB x wd WA && fitsB y hg HA)) = true then ⟨wd, hg, cropL zA WA.toNat x.toNat y.toNat wd.toNat hg.toNat, true⟩ else PRes.no
theorem IsRowF.appE {T : TypeId} {w w' : World} {row : Option Nat} {k F : Nat} {a : Option Addr} {len cap : Nat} {zs : List Nat} (h : IsRowF .f32 w a len cap zs) (hE : AppE T row k F w w') (hne : ∀ b off, a = some ⟨b, off, none⟩ → row ≠ some b) : IsRowF .f32 w' a len cap zs := by
  obtain ⟨h1, h2, h3, h4, h5⟩ := h
  refine ⟨h1, h2, h3, h4, ?_⟩
  rcases h5 with h5 | ⟨b, off, e, hb, hc⟩
  · exact .inl h5
  · exact .inr ⟨b, off, e, Nat.lt_of_lt_of_le hb hE.1.size, fun i hi => hE.cell (hc i hi) (hne b off e)⟩
theorem row_lt {w : World} {a : Option Addr} {len cap : Nat} {zs : List Nat} (h : IsRowF .f32 w a len cap zs) (h1 : 1 ≤ len) {b off : Nat} (e : a = some ⟨b, off, none⟩) : b < w.heap.size := by
  rcases h.2.2.2.2 with h' | ⟨b', off', e', hb', _⟩
  · omega
  · rw [e] at e'; cases e'; exact hb'
theorem crop_nats {WA HA : Int} {zA : List Nat} {x y wd hg : Int} (hb : validB WA HA zA = true) (hx : fitsB x wd WA = true) (hy : fitsB y hg HA = true) : ∃ Wn Hn xn yn wn hn : Nat, WA = Wn ∧ HA = Hn ∧ x = xn ∧ y = yn ∧ wd = wn ∧ hg = hn ∧ zA.length = Wn * Hn ∧ Wn ≤ 16 ∧ Hn ≤ 16 ∧ 1 ≤ wn ∧ 1 ≤ hn ∧ xn + wn ≤ Wn ∧ yn + hn ≤ Hn := by
  have hlen := (valid_len hb).1
  have hsb : sideB WA HA = true := by have h := hb; simp only [validB, Bool.and_eq_true] at h; exact h.1.1
  obtain ⟨⟨s1, s2⟩, s3, s4⟩ := sideB_true hsb
  simp only [fitsB, Bool.and_eq_true, decide_eq_true_eq] at hx hy
  refine ⟨WA.toNat, HA.toNat, x.toNat, y.toNat, wd.toNat, hg.toNat, by omega, by omega, by omega, by omega, by omega, by omega, ?_, by omega, by omega, by omega, by omega, by omega, by omega⟩
  have : (zA.length : Int) = ((WA.toNat * HA.toNat : Nat) : Int) := by rw [hlen, Int.natCast_mul, Int.toNat_of_nonneg (by omega), Int.toNat_of_nonneg (by omega)]
  omega
/-! ### l00MinMax -/
theorem c_l00Min (x y : Int) (w : World) (j : Nat) : Calls Try.prog 104 #[.int .i64 x, .int .i64 y] (w.drewN j) (RetV (.int .i64 (minI x y)) w) := by
  unfold minI
  by_cases h : x < y
  · rw [if_pos h]
    go_enter Try.func104, Try.ntmps104
    go_wp2
    go_ret
    exact ⟨_, rfl, rfl⟩
  · rw [if_neg h]
    go_enter Try.func104, Try.ntmps104
    go_wp2
    go_ret
    exact ⟨_, rfl, rfl⟩
theorem c_l00Max (x y : Int) (w : World) (j : Nat) : Calls Try.prog 103 #[.int .i64 x, .int .i64 y] (w.drewN j) (RetV (.int .i64 (maxI x y)) w) := by
  unfold maxI
  by_cases h : y < x
  · rw [if_pos h]
    go_enter Try.func103, Try.ntmps103
    go_wp2
    go_ret
    exact ⟨_, rfl, rfl⟩
  · rw [if_neg h]
    go_enter Try.func103, Try.ntmps103
    go_wp2
    go_ret
    exact ⟨_, rfl, rfl⟩
/-! ### l02At -/
theorem c_l02At (Wn Hn : Nat) (x : Nat) (a : Option Addr) (cap : Nat) (zs : List Nat) (i j : Int) (cx cy : Nat) (w : World) (hv : Var w x #[.int .i64 (Wn : Int), .int .i64 (Hn : Int), .slice a zs.length cap]) (hr : IsRowF .f32 w a zs.length cap zs)
    (hW1 : 1 ≤ Wn) (hW2 : Wn ≤ 16) (hH1 : 1 ≤ Hn) (hH2 : Hn ≤ 16) (hl : zs.length = Wn * Hn) (hcx : maxI 0 (minI ((Wn : Int) - 1) i) = (cx : Int)) (hcx2 : cx < Wn) (hcy : maxI 0 (minI ((Hn : Int) - 1) j) = (cy : Int)) (hcy2 : cy < Hn) :
    Calls Try.prog 81 #[.pointer (some ⟨x, 0, none⟩), .int .i64 i, .int .i64 j] w (RetF .f32 (fat zs (cy * Wn + cx)) w) := by
  obtain ⟨hb1, hb2⟩ := mul_bound hcy2 hW2 hH2
  have hm := congrArg (fun n : Nat => (n : Int)) (rfl : cy * Wn = cy * Wn)
  obtain ⟨N, hN⟩ : ∃ N, N = zs.length := ⟨_, rfl⟩
  have hP0 : ∃ P : Nat, P = cy * Wn := ⟨_, rfl⟩
  obtain ⟨P, hP⟩ := hP0
  have hPi : (cy : Int) * (Wn : Int) = (P : Int) := by rw [hP, Int.natCast_mul]
  rw [← hP] at hb1 hb2 ⊢
  rw [← hl, ← hN] at hb1
  rw [← hN] at hv hr
  have hlt : P + cx < N := by omega
  have mw1 : IntKind.i64.wrap ((cy : Int) * (Wn : Int)) = (P : Int) := by rw [hPi]; exact IntWalk.i64_in _ (by omega)
  have mw2 : IntKind.i64.wrap ((P : Int) + (cx : Int)) = (P : Int) + (cx : Int) := IntWalk.i64_in _ (by omega)
  have t1 : ((P : Int) + (cx : Int)).toNat = P + cx := by omega
  have t2 : (0 : Int) ≤ (P : Int) + (cx : Int) := by omega
  have t3 : (P : Int) + (cx : Int) < (N : Int) := by omega
  have CX := Lib.hid (fun n => (by have h := c_l00Max 0 (minI ((Wn : Int) - 1) i) w n; rwa [hcx] at h : Calls Try.prog 103 #[.int .i64 0, .int .i64 (minI ((Wn : Int) - 1) i)] (w.drewN n) (RetV (.int .i64 (cx : Int)) w)))
  have CY := Lib.hid (fun n => (by have h := c_l00Max 0 (minI ((Hn : Int) - 1) j) w n; rwa [hcy] at h : Calls Try.prog 103 #[.int .i64 0, .int .i64 (minI ((Hn : Int) - 1) j)] (w.drewN n) (RetV (.int .i64 (cy : Int)) w)))
  obtain ⟨b, off, n0, rfl, hb, e0⟩ := hr.at hlt
  obtain ⟨v0, v1, v2⟩ := hv.three
  have M1 := Lib.hid mw1
  have M2 := Lib.hid mw2
  have T1 := Lib.hid t1
  have T2 := Lib.hid t2
  have T3 := Lib.hid t3
  clear hcx hcy hm hN hP hPi hl hr hb hb1 hb2 mw1 mw2 t1 t2 t3 hv
  rw [← w.drewN_zero]
  go_enter Try.func81, Try.ntmps81
  go_wp2_with (first | (go_at_call 104; refine (c_l00Min _ _ _ _).mono ?_; rintro _ _ ⟨_, rfl, rfl⟩) | (go_at_call 103; first | ((with_reducible refine (CX.out _).mono ?_); rintro _ _ ⟨_, rfl, rfl⟩) | ((with_reducible refine (CY.out _).mono ?_); rintro _ _ ⟨_, rfl, rfl⟩)))
  have mw1 := M1.out
  have mw2 := M2.out
  have t1 := T1.out
  have t2 := T2.out
  have t3 := T3.out
  refine wp_region_N (fun _ _ _ => True) (by kernel_rfl) (by kernel_rfl) ?_; (repeat (first | ((with_reducible show wpN _ _ _ _ _ (Oper.mk _ (Op.binOp _ _ _ _ _) _ _ _ none :: _) _); refine wpN_fop rfl _ _ _ _ _ rfl _ _ _ rfl rfl (by decide) ?_; intro _) | ((with_reducible show wpN _ _ _ _ _ (Oper.mk _ (Op.convert _ _ _) _ _ _ none :: _) _); refine wpN_cvU rfl 25 41 _ rfl (Option.isSome_iff_exists.2 ⟨_, Try.underlying25⟩) Try.underlying41 _ rfl ?_; intro _) | ((with_reducible show wpN _ _ _ _ _ (Oper.mk _ _ _ _ _ (some _) :: _) _); (with_reducible refine wpN_off ?_ ?_); focus rfl; (simp only [Act.put, List.setIfInBounds_toArray, List.set_cons_zero, List.set_cons_succ])) | ((with_reducible show wpN _ _ _ _ _ (Oper.mk _ _ _ _ _ (some _) :: _) _); ((with_reducible refine wpN_on ?_ (fun K hK => ?_)); (focus rfl); intro _; go_simp; first | (refine uponN_value (hK _ ?_)) | (fail; refine hK _ ?_)); clear hK K) | (((with_reducible refine wpN_plain rfl (fun K hK => ?_)); intro _; go_simp; first | (refine uponN_value (hK _ ?_)) | (fail; refine hK _ ?_)); clear hK K) | ((with_reducible refine wpN_step (fun K hK => ?_)); go_simp; first | (refine hK _ ?_) | (intro _; first | (refine uponN_value (hK _ ?_)) | (fail; refine hK _ ?_)); clear hK K))); refine wpN_nil ?_; intro _
  clear mw1 mw2 t1 t2 t3
  go_wp2_with fail
  go_ret
  exact ⟨_, _, rfl, rfl⟩
/-! ### l02Blank -/
theorem c_l02Blank (W H : Int) (w : World) : Calls Try.prog 48 #[.int .i64 W, .int .i64 H] w (fun e w' => ∃ g, e = .returned (.agg #[.int .i64 W, .int .i64 H, .slice (some ⟨g, 0, none⟩) 0 0]) ∧ Below w.heap.size w w' ∧ Own 25 w' w.heap.size (some ⟨g, 0, none⟩) 0 0 []) := by
  go_enter Try.func48, Try.ntmps48
  go_wp2
  refine bodyPost_ret (v := .agg #[.int .i64 W, .int .i64 H, .slice (some ⟨w.heap.size + 1, 0, none⟩) 0 0]) (by simp [results, Try.results48, go_sem]) rfl ⟨w.heap.size + 1, rfl, ?_, ?_⟩
  · exact ((Below.refl _ _).alloc (Nat.le_refl _) _).alloc (by simp) _
  · refine ⟨rfl, ⟨rfl, .inr ⟨w.heap.size + 1, 0, #[], rfl, by omega, ?_, Nat.le_refl _, Nat.zero_le _, rfl, rfl⟩⟩, by simp⟩
    have h := heap_alloc_new (w.alloc (Obj.cells #[Value.int IntKind.i64 W, Value.int IntKind.i64 H, Value.slice (some ⟨w.heap.size + 1, 0, none⟩) 0 0] 27)) (Obj.cells #[] 25)
    simpa using h
/-! ### l00In -/
theorem c_l00In (x lo hi : Int) (w : World) (j : Nat) : Calls Try.prog 68 #[.int .i64 x, .int .i64 lo, .int .i64 hi] (w.drewN j) (RetV (.bool (decide (lo ≤ x) && decide (x ≤ hi))) w) := by
  by_cases h1 : lo ≤ x
  · by_cases h2 : x ≤ hi
    · have d1 : decide (lo ≤ x) = true := decide_eq_true h1
      have d2 : decide (x ≤ hi) = true := decide_eq_true h2
      go_enter Try.func68, Try.ntmps68
      go_wp2
      go_ret
      exact ⟨_, by simp [*], rfl⟩
    · have d1 : decide (lo ≤ x) = true := decide_eq_true h1
      have d2 : decide (x ≤ hi) = false := decide_eq_false h2
      go_enter Try.func68, Try.ntmps68
      go_wp2
      go_ret
      exact ⟨_, by simp [*], rfl⟩
  · have d1 : decide (lo ≤ x) = false := decide_eq_false h1
    go_enter Try.func68, Try.ntmps68
    go_wp2
    go_ret
    exact ⟨_, by simp [*], rfl⟩
/-! ### l02Sides -/
theorem c_l02Sides (W H : Int) (w : World) (j : Nat) : Calls Try.prog 76 #[.int .i64 W, .int .i64 H] (w.drewN j) (RetV (.bool (sideB W H)) w) := by
  unfold sideB
  cases hw : (decide (1 ≤ W) && decide (W ≤ 16))
  all_goals
    have HW := Lib.hid hw
    go_enter Try.func76, Try.ntmps76
    go_wp2_with (go_at_call 68; refine (c_l00In _ _ _ _ _).mono ?_; rintro _ _ ⟨_, rfl, rfl⟩)
    go_ret
    exact ⟨_, by simp [HW.out], rfl⟩
/-! ### l01Finite -/
theorem c_l01Finite (v n : Nat) (w : World) (j : Nat) : Calls Try.prog 57 #[.float .f32 (pick .f32 v n)] (w.drewN j) (RetV (.bool (finB .f32 v)) w) := by
  go_enter Try.func57, Try.ntmps57
  go_wp2_with (first | (refine wpList_fop rfl _ _ _ _ _ rfl _ _ _ rfl rfl (by decide) _ ?_; intro _ _) | (refine upon_fop _ _ _ _ _ (by decide) ?_; intro _ _))
  go_ret
  rw [← sub_self_zero]
  exact ⟨_, rfl, rfl⟩
/-! ### l02Finite -/
theorem c_l02Finite (a : Option Addr) (len cap : Nat) (zs : List Nat) (w : World) (j0 : Nat) (hr : IsRowF .f32 w a len cap zs) : Calls Try.prog 92 #[.slice a len cap] (w.drewN j0) (RetV (.bool (finL zs)) w) := by
  obtain ⟨h1, h2, h3, h4, h5⟩ := hr
  unfold maxLen at h3
  have H1 := Lib.hid h1
  clear h1
  go_enter Try.func92, Try.ntmps92
  go_wp2
  go_loopw [3] (fun i wr => ∃ k m : Nat, k ≤ len ∧ i = .int .i64 k ∧ wr = w.drewN m ∧ finL (zs.take k) = true) (fun i _ => len - (intOf i).toNat)
  case atStart => exact ⟨0, j0, Nat.zero_le _, rfl, rfl, rfl⟩
  case round =>
    obtain ⟨k, m, hk, rfl, rfl, hfin⟩ := hrel
    have HFin := Lib.hid hfin
    clear hfin
    by_cases hlt : k < len
    · rcases h5 with h5 | ⟨b, off, rfl, hbl, hc⟩
      · omega
      have hcell : w.cell? ⟨b, off + k, none⟩ = some (.float .f32 (fat zs k)) := hc k hlt
      obtain ⟨n, hn⟩ := pick0 .f32 (fat zs k) (lt_of_wf (h4 _ (by unfold fat; rw [List.getD, List.getElem?_eq_getElem (by have := H1.out; omega)]; exact List.getElem_mem _)))
      rw [hn] at hcell
      have HN := Lib.hid hn
      have HS := Lib.hid (finL_snoc zs k (by have := H1.out; omega))
      cases hf : finB .f32 (fat zs k)
      · have HO := Lib.hid (finL_of zs k (by have := H1.out; omega) hf)
        clear hc h4 hn
        go_wp2_with ((go_at_call 57; refine (c_l01Finite _ _ _ _).mono ?_; rintro _ _ ⟨_, rfl, rfl⟩))
        go_ret
        exact ⟨_, by rw [HO.out]; rfl, rfl⟩
      · have HF := Lib.hid hf
        clear hc h4 hn
        go_wp2_with ((go_at_call 57; refine (c_l01Finite _ _ _ _).mono ?_; rintro _ _ ⟨_, rfl, rfl⟩))
        go_roundw
        case rel => exact ⟨k + 1, _, by omega, by go_num, rfl, by rw [HS.out, HFin.out, HF.out]; rfl⟩
        case measure => simp [intOf]; omega
    · have e : zs.take k = zs := List.take_of_length_le (by have := H1.out; omega)
      have HE := Lib.hid e
      clear h5 h4 e
      go_wp2
      go_ret
      exact ⟨_, by have h := HFin.out; rw [HE.out] at h; rw [h]; rfl, rfl⟩
/-! ### l02Is -/
theorem c_l02Is (W H : Int) (b : Nat) (a : Option Addr) (len cap : Nat) (zs : List Nat) (w : World) (j0 : Nat) (hv : Var w b #[.int .i64 W, .int .i64 H, .slice a len cap]) (hr : IsRowF .f32 w a len cap zs) :
    Calls Try.prog 56 #[.pointer (some ⟨b, 0, none⟩)] (w.drewN j0) (RetV (.bool (validB W H zs)) w) := by
  obtain ⟨p0, p1, p2⟩ := hv.three
  have H1 := Lib.hid hr.1
  have HR := Lib.hid hr
  clear hr hv
  cases hs : sideB W H
  · have e : validB W H zs = false := by simp [validB, hs]
    have E := Lib.hid e
    have C1 := Lib.hid (fun n => (by have h := c_l02Sides W H w n; rwa [hs] at h : Calls Try.prog 76 #[.int .i64 W, .int .i64 H] (w.drewN n) (RetV (.bool false) w)))
    clear e hs
    go_enter Try.func56, Try.ntmps56
    go_wp2
    refine wp_region_N (fun f _ u => (f = 76 → u = .bool false)) (by kernel_rfl) (by kernel_rfl) ?_; (repeat (first | ((with_reducible show wpN _ _ _ _ _ (Oper.mk _ (Op.binOp _ _ _ _ _) _ _ _ none :: _) _); refine wpN_fop rfl _ _ _ _ _ rfl _ _ _ rfl rfl (by decide) ?_; intro _) | ((with_reducible show wpN _ _ _ _ _ (Oper.mk _ (Op.convert _ _ _) _ _ _ none :: _) _); refine wpN_cvU rfl 25 41 _ rfl (Option.isSome_iff_exists.2 ⟨_, Try.underlying25⟩) Try.underlying41 _ rfl ?_; intro _) | ((with_reducible show wpN _ _ _ _ _ (Oper.mk _ _ _ _ _ (some _) :: _) _); (with_reducible refine wpN_off ?_ ?_); focus rfl; (simp only [Act.put, List.setIfInBounds_toArray, List.set_cons_zero, List.set_cons_succ])) | ((with_reducible show wpN _ _ _ _ _ (Oper.mk _ _ _ _ _ (some _) :: _) _); ((with_reducible refine wpN_on ?_ (fun K hK => ?_)); (focus rfl); intro _; go_simp; first | (refine uponN_value (hK _ ?_)) | ((refine uponN_call (callN (v := .bool false) (fun _ => rfl) (C1.out _)) ?_; intro u hu; obtain rfl : u = _ := hu rfl; clear hu); refine hK _ ?_)); clear hK K) | (((with_reducible refine wpN_plain rfl (fun K hK => ?_)); intro _; go_simp; first | (refine uponN_value (hK _ ?_)) | ((refine uponN_call (callN (v := .bool false) (fun _ => rfl) (C1.out _)) ?_; intro u hu; obtain rfl : u = _ := hu rfl; clear hu); refine hK _ ?_)); clear hK K) | ((with_reducible refine wpN_step (fun K hK => ?_)); go_simp; first | (refine hK _ ?_) | (intro _; first | (refine uponN_value (hK _ ?_)) | ((refine uponN_call (callN (v := .bool false) (fun _ => rfl) (C1.out _)) ?_; intro u hu; obtain rfl : u = _ := hu rfl; clear hu); refine hK _ ?_)); clear hK K))); refine wpN_nil ?_; intro _
    go_wp2
    go_ret
    exact ⟨_, by rw [E.out]; rfl, rfl⟩
  · obtain ⟨m1, m2⟩ := side_mul hs
    have mw : IntKind.i64.wrap (W * H) = W * H := IntWalk.i64_in _ (by omega)
    have C1 := Lib.hid (fun n => (by have h := c_l02Sides W H w n; rwa [hs] at h : Calls Try.prog 76 #[.int .i64 W, .int .i64 H] (w.drewN n) (RetV (.bool true) w)))
    have C2 := Lib.hid (fun n => c_l02Finite a len cap zs w n HR.out)
    by_cases hl : (len : Int) = W * H
    · have hd : ((len : Int) == W * H) = true := by simpa using hl
      have e : validB W H zs = finL zs := by simp [validB, hs, H1.out, hl]
      have E := Lib.hid e
      have HL := Lib.hid hl
      clear e hs hl
      go_enter Try.func56, Try.ntmps56
      go_wp2
      refine wp_region_N (fun f _ u => (f = 76 → u = .bool true) ∧ (f = 92 → u = .bool (finL zs))) (by kernel_rfl) (by kernel_rfl) ?_; (repeat (first | ((with_reducible show wpN _ _ _ _ _ (Oper.mk _ (Op.binOp _ _ _ _ _) _ _ _ none :: _) _); refine wpN_fop rfl _ _ _ _ _ rfl _ _ _ rfl rfl (by decide) ?_; intro _) | ((with_reducible show wpN _ _ _ _ _ (Oper.mk _ (Op.convert _ _ _) _ _ _ none :: _) _); refine wpN_cvU rfl 25 41 _ rfl (Option.isSome_iff_exists.2 ⟨_, Try.underlying25⟩) Try.underlying41 _ rfl ?_; intro _) | ((with_reducible show wpN _ _ _ _ _ (Oper.mk _ _ _ _ _ (some _) :: _) _); (with_reducible refine wpN_off ?_ ?_); focus rfl; (simp only [Act.put, List.setIfInBounds_toArray, List.set_cons_zero, List.set_cons_succ])) | ((with_reducible show wpN _ _ _ _ _ (Oper.mk _ _ _ _ _ (some _) :: _) _); ((with_reducible refine wpN_on ?_ (fun K hK => ?_)); (focus rfl); intro _; go_simp; first | (refine uponN_value (hK _ ?_)) | ((first | (refine uponN_call (callN (v := .bool true) ⟨fun _ => rfl, fun h => absurd h (by decide)⟩ (C1.out _)) ?_; intro u hu; obtain rfl : u = _ := hu.1 rfl; clear hu) | (refine uponN_call (callN (v := .bool (finL zs)) ⟨fun h => absurd h (by decide), fun _ => rfl⟩ (C2.out _)) ?_; intro u hu; obtain rfl : u = _ := hu.2 rfl; clear hu)); refine hK _ ?_)); clear hK K) | (((with_reducible refine wpN_plain rfl (fun K hK => ?_)); intro _; go_simp; first | (refine uponN_value (hK _ ?_)) | ((first | (refine uponN_call (callN (v := .bool true) ⟨fun _ => rfl, fun h => absurd h (by decide)⟩ (C1.out _)) ?_; intro u hu; obtain rfl : u = _ := hu.1 rfl; clear hu) | (refine uponN_call (callN (v := .bool (finL zs)) ⟨fun h => absurd h (by decide), fun _ => rfl⟩ (C2.out _)) ?_; intro u hu; obtain rfl : u = _ := hu.2 rfl; clear hu)); refine hK _ ?_)); clear hK K) | ((with_reducible refine wpN_step (fun K hK => ?_)); go_simp; first | (refine hK _ ?_) | (intro _; first | (refine uponN_value (hK _ ?_)) | ((first | (refine uponN_call (callN (v := .bool true) ⟨fun _ => rfl, fun h => absurd h (by decide)⟩ (C1.out _)) ?_; intro u hu; obtain rfl : u = _ := hu.1 rfl; clear hu) | (refine uponN_call (callN (v := .bool (finL zs)) ⟨fun h => absurd h (by decide), fun _ => rfl⟩ (C2.out _)) ?_; intro u hu; obtain rfl : u = _ := hu.2 rfl; clear hu)); refine hK _ ?_)); clear hK K))); refine wpN_nil ?_; intro _
      go_wp2
      go_ret
      exact ⟨_, by rw [E.out]; rfl, rfl⟩
    · have hd : ((len : Int) == W * H) = false := by simpa using hl
      have e : validB W H zs = false := by simp [validB, hs, H1.out, hl]
      have E := Lib.hid e
      clear e hs hl
      go_enter Try.func56, Try.ntmps56
      go_wp2
      refine wp_region_N (fun f _ u => (f = 76 → u = .bool true)) (by kernel_rfl) (by kernel_rfl) ?_; (repeat (first | ((with_reducible show wpN _ _ _ _ _ (Oper.mk _ (Op.binOp _ _ _ _ _) _ _ _ none :: _) _); refine wpN_fop rfl _ _ _ _ _ rfl _ _ _ rfl rfl (by decide) ?_; intro _) | ((with_reducible show wpN _ _ _ _ _ (Oper.mk _ (Op.convert _ _ _) _ _ _ none :: _) _); refine wpN_cvU rfl 25 41 _ rfl (Option.isSome_iff_exists.2 ⟨_, Try.underlying25⟩) Try.underlying41 _ rfl ?_; intro _) | ((with_reducible show wpN _ _ _ _ _ (Oper.mk _ _ _ _ _ (some _) :: _) _); (with_reducible refine wpN_off ?_ ?_); focus rfl; (simp only [Act.put, List.setIfInBounds_toArray, List.set_cons_zero, List.set_cons_succ])) | ((with_reducible show wpN _ _ _ _ _ (Oper.mk _ _ _ _ _ (some _) :: _) _); ((with_reducible refine wpN_on ?_ (fun K hK => ?_)); (focus rfl); intro _; go_simp; first | (refine uponN_value (hK _ ?_)) | ((refine uponN_call (callN (v := .bool true) (fun _ => rfl) (C1.out _)) ?_; intro u hu; obtain rfl : u = _ := hu rfl; clear hu); refine hK _ ?_)); clear hK K) | (((with_reducible refine wpN_plain rfl (fun K hK => ?_)); intro _; go_simp; first | (refine uponN_value (hK _ ?_)) | ((refine uponN_call (callN (v := .bool true) (fun _ => rfl) (C1.out _)) ?_; intro u hu; obtain rfl : u = _ := hu rfl; clear hu); refine hK _ ?_)); clear hK K) | ((with_reducible refine wpN_step (fun K hK => ?_)); go_simp; first | (refine hK _ ?_) | (intro _; first | (refine uponN_value (hK _ ?_)) | ((refine uponN_call (callN (v := .bool true) (fun _ => rfl) (C1.out _)) ?_; intro u hu; obtain rfl : u = _ := hu rfl; clear hu); refine hK _ ?_)); clear hK K))); refine wpN_nil ?_; intro _
      go_wp2
      go_ret
      exact ⟨_, by rw [E.out]; rfl, rfl⟩
/-! ### l02Is0 -/
theorem c_l02Is0 (W H : Int) (b : Nat) (a : Option Addr) (len cap : Nat) (zs : List Nat) (w : World) (hv : Var w b #[.int .i64 W, .int .i64 H, .slice a len cap]) (hr : IsRowF .f32 w a len cap zs) :
    Calls Try.prog 56 #[.pointer (some ⟨b, 0, none⟩)] w (RetV (.bool (validB W H zs)) w) := by
  have h := c_l02Is W H b a len cap zs w 0 hv hr
  rwa [w.drewN_zero] at h
/-! ### infoF2 -/
theorem infoF2 : (Try.prog.info? 25).map (fun i => (i.zero, i.size, i.bytes)) = some (some (.float .f32 0), 1, 4) := by kernel_rfl
/-! ### sCrop -/
theorem c_l02Sides0 (W H : Int) (w : World) : Calls Try.prog 76 #[.int .i64 W, .int .i64 H] w (RetV (.bool (sideB W H)) w) := by
  have h := c_l02Sides W H w 0
  rwa [w.drewN_zero] at h
theorem c_l00In0 (x lo hi : Int) (w : World) : Calls Try.prog 68 #[.int .i64 x, .int .i64 lo, .int .i64 hi] w (RetV (.bool (decide (lo ≤ x) && decide (x ≤ hi))) w) := by
  have h := c_l00In x lo hi w 0
  rwa [w.drewN_zero] at h
theorem cc1 {Wn wn xn k : Nat} (h : xn + k % wn < Wn) : maxI 0 (minI ((Wn : Int) - 1) ((xn : Int) + (k : Int) % (wn : Int))) = ((xn + k % wn : Nat) : Int) := by
  rw [← Int.natCast_emod, ← Int.natCast_add]; exact clamp_is h
theorem cc2 {Hn wn yn k : Nat} (h : yn + k / wn < Hn) : maxI 0 (minI ((Hn : Int) - 1) ((yn : Int) + (k : Int) / (wn : Int))) = ((yn + k / wn : Nat) : Int) := by
  rw [← Int.natCast_ediv, ← Int.natCast_add]; exact clamp_is h
theorem c_l02AtC (Wn Hn : Nat) (x : Nat) (a : Option Addr) (cap : Nat) (zs : List Nat) (i j : Int) (cx cy : Nat) (w : World) (hv : Var w x #[.int .i64 (Wn : Int), .int .i64 (Hn : Int), .slice a zs.length cap]) (hr : IsRowF .f32 w a zs.length cap zs)
    (hW1 : 1 ≤ Wn) (hW2 : Wn ≤ 16) (hH1 : 1 ≤ Hn) (hH2 : Hn ≤ 16) (hl : zs.length = Wn * Hn) (V : Nat) (hV : V = fat zs (cy * Wn + cx)) (hcx : maxI 0 (minI ((Wn : Int) - 1) i) = (cx : Int)) (hcx2 : cx < Wn) (hcy : maxI 0 (minI ((Hn : Int) - 1) j) = (cy : Int)) (hcy2 : cy < Hn) :
    Calls Try.prog 81 #[.pointer (some ⟨x, 0, none⟩), .int .i64 i, .int .i64 j] w (RetF .f32 V w) := by
  subst hV
  exact c_l02At Wn Hn x a cap zs i j cx cy w hv hr hW1 hW2 hH1 hH2 hl hcx hcx2 hcy hcy2
theorem c_sCrop_yes (WA HA : Int) (zA : List Nat) (aA : Option Addr) (cA : Nat) (x y wd hg : Int) (w : World) (rA : IsRowF .f32 w aA zA.length cA zA) (hb : validB WA HA zA = true) (hfx : fitsB x wd WA = true) (hfy : fitsB y hg HA = true) : Calls Try.prog 37 #[.agg #[.int .i64 WA, .int .i64 HA, .slice aA zA.length cA], .int .i64 x, .int .i64 y, .int .i64 wd, .int .i64 hg] w (RetP 25 ⟨wd, hg, cropL zA WA.toNat x.toNat y.toNat wd.toNat hg.toNat, true⟩ w) := by
  have HBo := Lib.hid hb
  have hs2 : sideB wd hg = true := by have h := hb; simp only [validB, Bool.and_eq_true] at h; have h2 := sideB_true h.1.1; simp only [fitsB, Bool.and_eq_true, decide_eq_true_eq] at hfx hfy; simp only [sideB, Bool.and_eq_true, decide_eq_true_eq]; omega
  have hx2 : (decide (0 ≤ x) && decide (x ≤ WA - wd)) = true := by simp only [fitsB, Bool.and_eq_true, decide_eq_true_eq] at hfx ⊢; omega
  have hy2 : (decide (0 ≤ y) && decide (y ≤ HA - hg)) = true := by simp only [fitsB, Bool.and_eq_true, decide_eq_true_eq] at hfy ⊢; omega
  obtain ⟨Wn, Hn, xn, yn, wn, hn, rfl, rfl, rfl, rfl, rfl, rfl, hln, hW16, hH16, hw1, hh1, hxw, hyh⟩ := crop_nats hb hfx hfy
  rw [Int.toNat_natCast, Int.toNat_natCast, Int.toNat_natCast, Int.toNat_natCast, Int.toNat_natCast]
  have hl1 := (valid_len hb).2.2
  have hfinz := valid_fin hb
  have RAw := rA.2.2.2.1
  obtain ⟨N, hNN⟩ : ∃ N, N = wn * hn := ⟨_, rfl⟩
  have hN2 : N ≤ 256 := by rw [hNN]; exact Nat.le_trans (Nat.mul_le_mul (show wn ≤ 16 by omega) (show hn ≤ 16 by omega)) (by decide)
  have mw : IntKind.i64.wrap ((wn : Int) * (hn : Int)) = (N : Int) := by rw [hNN]; rw [show ((wn : Int) * (hn : Int)) = ((wn * hn : Nat) : Int) by rw [Int.natCast_mul]]; exact IntWalk.i64_in _ (by omega)
  obtain ⟨L, hL⟩ : ∃ L, L = cropL zA Wn xn yn wn hn := ⟨_, rfl⟩
  have HAt := Lib.hid (fun (k : Nat) (hk : k < N) => (by rw [hL]; exact cropL_at (by rw [← hNN]; exact hk) : fat L k = fat zA (cropK Wn xn yn wn k)))
  have HLn := Lib.hid (show L.length = N by rw [hL, cropL_len, hNN])
  have HFi := Lib.hid (show L.all (finB .f32) = true by rw [hL]; exact crop_fin hln hxw hyh hw1 hfinz)
  have HLw := Lib.hid (show ∀ b ∈ L, (Lit.float .f32 b).wf = true by rw [hL]; exact fun b h => RAw _ (crop_mem2 hln hxw hyh hw1 b h))
  have HLT := Lib.hid (fun (k : Nat) (hk : k < N) => lt_of_wf (RAw _ (crop_mem (k := k) hln hxw hyh hw1 (by rw [← hNN]; exact hk))))
  have HDv := Lib.hid (fun (k : Nat) (hk : k < N) => crop_div (wn := wn) (hn := hn) (k := k) (by rw [← hNN]; exact hk) hw1)
  have HLL := Lib.hid hln
  have HS2 := Lib.hid hs2
  have HX2 := Lib.hid hx2
  have HY2 := Lib.hid hy2
  have RA := Lib.hid rA
  rw [← hL]
  clear hL hb rA hln RAw hfinz hNN hs2 hx2 hy2 hfx hfy
  have hz : ¬ (wn = 0) := by omega
  have wA1 : IntKind.i64.wrap ((Wn : Int) - (wn : Int)) = (Wn : Int) - (wn : Int) := IntWalk.i64_in _ (by omega)
  have wA2 : IntKind.i64.wrap ((Hn : Int) - (hn : Int)) = (Hn : Int) - (hn : Int) := IntWalk.i64_in _ (by omega)
  go_enter Try.func37, Try.ntmps37
  go_wp2_with fail
  refine ((c_l02Is0 (Wn : Int) (Hn : Int) _ aA _ cA zA _ (((Var.new' _ _ _ (w.heap.size) rfl).alloc _)) ((RA.out.alloc _).alloc _)).mono (fun _ _ h => RetV.toB h)).mono ?_
  rintro _ w1 ⟨rfl, b⟩
  rw [HBo.out]
  have Va_1 := Lib.hid (((Var.new' _ _ _ (w.heap.size) (by first | rfl | simp)).alloc _).keep b)
  have Vr_1 := Lib.hid ((Var.new' _ _ _ (w.heap.size + 1) (by first | rfl | simp)).keep b)
  have Fr_1 := Lib.hid ((Free.new' _ _ _ (w.heap.size + 1) (by first | rfl | simp)).below (by simp <;> omega) b)
  have B_1 := Lib.hid ((((Below.refl w.heap.size w).alloc (Nat.le_refl _) _).alloc (by simp) _).trans (b.mono (by simp; omega)))
  have S_1 : w.heap.size + 2 ≤ w1.heap.size := by have := b.size; simp at this; omega
  have za_1 : w.heap.size < w1.heap.size := by omega
  have zr_1 : w.heap.size + 1 < w1.heap.size := by omega
  clear b
  obtain ⟨ca0, ca1, ca2⟩ := Va_1.out.three
  go_wp2_with fail
  clear ca0 ca1 ca2
  refine ((c_l02Sides0 _ _ _).mono (fun _ _ h => RetV.toB h)).mono ?_
  rintro _ w2 ⟨rfl, b⟩
  rw [HS2.out]
  have Va_2 := Lib.hid (Va_1.out.keep b)
  have Vr_2 := Lib.hid (Vr_1.out.keep b)
  have Fr_2 := Lib.hid (Fr_1.out.below (by first | omega | (simp <;> omega)) b)
  have B_2 := Lib.hid (B_1.out.trans (b.mono (by omega)))
  have S_2 : w1.heap.size + 0 ≤ w2.heap.size := by have := b.size; omega
  have za_2 : w.heap.size < w2.heap.size := by omega
  have zr_2 : w.heap.size + 1 < w2.heap.size := by omega
  clear b
  clear Va_1 za_1 Vr_1 zr_1 Fr_1 B_1
  obtain ⟨ca0, ca1, ca2⟩ := Va_2.out.three
  go_wp2_with fail
  clear ca0 ca1 ca2
  refine ((c_l00In0 _ _ _ _).mono (fun _ _ h => RetV.toB h)).mono ?_
  rintro _ w3 ⟨rfl, b⟩
  rw [HX2.out]
  have Va_3 := Lib.hid (Va_2.out.keep b)
  have Vr_3 := Lib.hid (Vr_2.out.keep b)
  have Fr_3 := Lib.hid (Fr_2.out.below (by first | omega | (simp <;> omega)) b)
  have B_3 := Lib.hid (B_2.out.trans (b.mono (by omega)))
  have S_3 : w2.heap.size + 0 ≤ w3.heap.size := by have := b.size; omega
  have za_3 : w.heap.size < w3.heap.size := by omega
  have zr_3 : w.heap.size + 1 < w3.heap.size := by omega
  clear b
  clear Va_2 za_2 Vr_2 zr_2 Fr_2 B_2
  obtain ⟨ca0, ca1, ca2⟩ := Va_3.out.three
  go_wp2_with fail
  clear ca0 ca1 ca2
  refine ((c_l00In0 _ _ _ _).mono (fun _ _ h => RetV.toB h)).mono ?_
  rintro _ w4 ⟨rfl, b⟩
  rw [HY2.out]
  have Va_4 := Lib.hid (Va_3.out.keep b)
  have Vr_4 := Lib.hid (Vr_3.out.keep b)
  have Fr_4 := Lib.hid (Fr_3.out.below (by first | omega | (simp <;> omega)) b)
  have B_4 := Lib.hid (B_3.out.trans (b.mono (by omega)))
  have S_4 : w3.heap.size + 0 ≤ w4.heap.size := by have := b.size; omega
  have za_4 : w.heap.size < w4.heap.size := by omega
  have zr_4 : w.heap.size + 1 < w4.heap.size := by omega
  clear b
  clear Va_3 za_3 Vr_3 zr_3 Fr_3 B_3
  obtain ⟨ca0, ca1, ca2⟩ := Va_4.out.three
  go_wp2_with fail
  clear ca0 ca1 ca2
  refine (c_l02Blank _ _ _).mono ?_
  rintro _ w5 ⟨gu, rfl, b, o⟩
  have BU := Lib.hid b
  have Lu := Lib.hid o.in
  have Ou_5 := Lib.hid o
  clear o
  have Va_5 := Lib.hid (Va_4.out.keep b)
  have Vr_5 := Lib.hid (Vr_4.out.keep b)
  have Fr_5 := Lib.hid (Fr_4.out.below (by first | omega | (simp <;> omega)) b)
  have B_5 := Lib.hid (B_4.out.trans (b.mono (by omega)))
  have S_5 : w4.heap.size + 0 ≤ w5.heap.size := by have := b.size; omega
  have za_5 : w.heap.size < w5.heap.size := by omega
  have zr_5 : w.heap.size + 1 < w5.heap.size := by omega
  clear b
  clear Va_4 za_4 Vr_4 zr_4 Fr_4 B_4
  go_wp2_with fail
  have hgo : w4.heap.size ≤ gu ∧ gu < w5.heap.size := Lu.out gu rfl
  go_loopw [13] (fun i wr => ∃ (k : Nat) (a : Option Addr) (c : Nat) (zs : List Nat), k ≤ N ∧ i = .int .i64 k ∧ Var wr w5.heap.size #[.int .i64 (wn : Int), .int .i64 (hn : Int), .slice a k c] ∧ Own 25 wr w4.heap.size a k c zs ∧ near zs ((L).take k) ∧ Below w4.heap.size w5 wr ∧ Free wr w5.heap.size ∧ blk a ≠ some w5.heap.size ∧ w5.heap.size < wr.heap.size) (fun i _ => N - (intOf i).toNat)
  case atStart => exact ⟨0, _, 0, [], Nat.zero_le _, rfl, Var.new _ _ _, Ou_5.out.alloc _, by simpa using near_nil, (Below.refl _ _).alloc (by omega) _, Free.new _ _ _, (by simp [blk]; omega), by simp⟩
  case round =>
    obtain ⟨k, a, c, zs, hk, rfl, hV, hO, hnear, hBl, hfree, hne, hsz⟩ := hrel
    have HV := Lib.hid hV
    have HO := Lib.hid hO
    have HN := Lib.hid hnear
    have HB := Lib.hid hBl
    have HF := Lib.hid hfree
    have HNe := Lib.hid hne
    clear hV hO hnear hBl hfree hne
    have Xa := Lib.hid (Va_5.out.below HB.out (by omega))
    obtain ⟨ca0, ca1, ca2⟩ := Xa.out.three
    obtain ⟨co0, co1, co2⟩ := HV.out.three
    have BW := Lib.hid (B_5.out.trans (HB.out.mono (by omega)))
    by_cases hlt : k < N
    · have hrow : ∀ b, b < w4.heap.size ∨ b = w5.heap.size → rowOf a k c ≠ some b := by
        intro b hb e
        have h1 := rowOf_in HO.out b e
        rcases hb with hb | hb
        · omega
        · subst hb; unfold rowOf at e; split at e
          · exact HNe.out e
          · cases e
      have mq : IntKind.i64.wrap ((k : Int) / (wn : Int)) = (k : Int) / (wn : Int) := by rw [← Int.natCast_ediv]; have h9 := (HDv.out k hlt).2; generalize k / wn = q at h9 ⊢; exact IntWalk.i64_in _ (by omega)
      have mt : (k : Int).tmod (wn : Int) = (k : Int) % (wn : Int) := Int.tmod_eq_emod_of_nonneg (by omega)
      have m1 : IntKind.i64.wrap ((xn : Int) + (k : Int) % (wn : Int)) = (xn : Int) + (k : Int) % (wn : Int) := by have h9 := (HDv.out k hlt).1; rw [← Int.natCast_emod]; generalize k % wn = q at h9 ⊢; exact IntWalk.i64_in _ (by omega)
      have m2 : IntKind.i64.wrap ((yn : Int) + (k : Int) / (wn : Int)) = (yn : Int) + (k : Int) / (wn : Int) := by have h9 := (HDv.out k hlt).2; rw [← Int.natCast_ediv]; generalize k / wn = q at h9 ⊢; exact IntWalk.i64_in _ (by omega)
      have RQ := Lib.hid (RA.out.below BW.out)
      have HRQ := Lib.hid (fun b off (e : aA = some ⟨b, off, none⟩) => hrow b (.inl (by have := row_lt RA.out hl1 e; omega)))
      have KS := Lib.hid (fun (w' : World) (hE : AppE 25 (rowOf a k c) k (fat zA (cropK Wn xn yn wn k)) wr w') => (⟨hE.cell ca0 (hrow _ (by omega)), hE.cell ca1 (hrow _ (by omega)), hE.cell ca2 (hrow _ (by omega)), hE.cell co0 (hrow _ (by omega)), hE.cell co1 (hrow _ (by omega)), hE.cell co2 (hrow _ (by omega))⟩ : _ ∧ _ ∧ _ ∧ _ ∧ _ ∧ _))
      have HRow := Lib.hid hrow
      clear hrow co0 co1 co2
      go_wp2_with fail
      clear ca0 ca1 ca2
      refine wp_region_facts 16 (AppE 25 (rowOf a k c) k (fat zA (cropK Wn xn yn wn k))) AppE.refl AppE.trans (AppE.drew _) (by kernel_rfl) (by kernel_rfl) (by kernel_rfl) (by kernel_rfl) ?_
      simp only [List.take_succ_cons, List.take_zero, List.drop_succ_cons, List.drop_zero]
      (with_reducible apply wpF_val); (focus (intro vs w' hE hk; (obtain ⟨dca0, dca1, dca2, dco0, dco1, dco2⟩ := KS.out w' hE); go_simp; exact ⟨AppE.refl _, rfl⟩)); (simp only [Act.put, List.setIfInBounds_toArray, List.set_cons_zero, List.set_cons_succ, List.cons_append, List.nil_append])
      (with_reducible apply wpF_val); (focus (intro vs w' hE hk; (obtain ⟨dca0, dca1, dca2, dco0, dco1, dco2⟩ := KS.out w' hE); go_simp; exact ⟨AppE.refl _, rfl⟩)); (simp only [Act.put, List.setIfInBounds_toArray, List.set_cons_zero, List.set_cons_succ, List.cons_append, List.nil_append])
      (with_reducible apply wpF_val); (focus (intro vs w' hE hk; (obtain ⟨dca0, dca1, dca2, dco0, dco1, dco2⟩ := KS.out w' hE); go_simp; exact ⟨AppE.refl _, rfl⟩)); (simp only [Act.put, List.setIfInBounds_toArray, List.set_cons_zero, List.set_cons_succ, List.cons_append, List.nil_append])
      (with_reducible apply wpF_val); (focus (intro vs w' hE hk; (obtain ⟨dca0, dca1, dca2, dco0, dco1, dco2⟩ := KS.out w' hE); go_simp; exact ⟨AppE.refl _, rfl⟩)); (simp only [Act.put, List.setIfInBounds_toArray, List.set_cons_zero, List.set_cons_succ, List.cons_append, List.nil_append])
      (with_reducible apply wpF_val); (focus (intro vs w' hE hk; (obtain ⟨dca0, dca1, dca2, dco0, dco1, dco2⟩ := KS.out w' hE); go_simp; exact ⟨AppE.refl _, rfl⟩)); (simp only [Act.put, List.setIfInBounds_toArray, List.set_cons_zero, List.set_cons_succ, List.cons_append, List.nil_append])
      (with_reducible apply wpF_val); (focus (intro vs w' hE hk; (obtain ⟨dca0, dca1, dca2, dco0, dco1, dco2⟩ := KS.out w' hE); go_simp; exact ⟨AppE.refl _, rfl⟩)); (simp only [Act.put, List.setIfInBounds_toArray, List.set_cons_zero, List.set_cons_succ, List.cons_append, List.nil_append])
      (with_reducible apply wpF_val); (focus (intro vs w' hE hk; (obtain ⟨dca0, dca1, dca2, dco0, dco1, dco2⟩ := KS.out w' hE); go_simp; exact ⟨AppE.refl _, rfl⟩)); (simp only [Act.put, List.setIfInBounds_toArray, List.set_cons_zero, List.set_cons_succ, List.cons_append, List.nil_append])
      (with_reducible apply wpF_val); (focus (intro vs w' hE hk; (obtain ⟨dca0, dca1, dca2, dco0, dco1, dco2⟩ := KS.out w' hE); go_simp; exact ⟨AppE.refl _, rfl⟩)); (simp only [Act.put, List.setIfInBounds_toArray, List.set_cons_zero, List.set_cons_succ, List.cons_append, List.nil_append])
      (with_reducible apply wpF_val); (focus (intro vs w' hE hk; (obtain ⟨dca0, dca1, dca2, dco0, dco1, dco2⟩ := KS.out w' hE); go_simp; exact ⟨AppE.refl _, rfl⟩)); (simp only [Act.put, List.setIfInBounds_toArray, List.set_cons_zero, List.set_cons_succ, List.cons_append, List.nil_append])
      (with_reducible apply wpF_val); (focus (intro vs w' hE hk; (obtain ⟨dca0, dca1, dca2, dco0, dco1, dco2⟩ := KS.out w' hE); go_simp; exact ⟨AppE.refl _, rfl⟩)); (simp only [Act.put, List.setIfInBounds_toArray, List.set_cons_zero, List.set_cons_succ, List.cons_append, List.nil_append])
      (with_reducible apply wpF_val); (focus (intro vs w' hE hk; (obtain ⟨dca0, dca1, dca2, dco0, dco1, dco2⟩ := KS.out w' hE); go_simp; exact ⟨AppE.refl _, rfl⟩)); (simp only [Act.put, List.setIfInBounds_toArray, List.set_cons_zero, List.set_cons_succ, List.cons_append, List.nil_append])
      (with_reducible apply wpF_val); (focus (intro vs w' hE hk; (obtain ⟨dca0, dca1, dca2, dco0, dco1, dco2⟩ := KS.out w' hE); go_simp; exact ⟨AppE.refl _, rfl⟩)); (simp only [Act.put, List.setIfInBounds_toArray, List.set_cons_zero, List.set_cons_succ, List.cons_append, List.nil_append])
      refine wpF_fact (fun u _ => ∃ m, u = .float .f32 (pick .f32 (fat zA (cropK Wn xn yn wn k)) m)) (fun _ _ _ h _ => h) (fun vs w' hE hk => ?_) ?_; (focus ((obtain ⟨dca0, dca1, dca2, dco0, dco1, dco2⟩ := KS.out w' hE); go_simp; refine (c_l02AtC Wn Hn _ aA cA zA _ _ (xn + k % wn) (yn + k / wn) _ (hE.keepV Xa.out (HRow.out _ (by omega))) (IsRowF.appE RQ.out hE HRQ.out) (by omega) (by omega) (by omega) (by omega) HLL.out (fat zA (cropK Wn xn yn wn k)) rfl (cc1 (by have := (HDv.out k hlt).1; omega)) (by have := (HDv.out k hlt).1; omega) (cc2 (by have := (HDv.out k hlt).2; omega)) (by have := (HDv.out k hlt).2; omega)).mono ?_; rintro _ _ ⟨m1, m2, rfl, rfl⟩; exact ⟨_, rfl, AppE.drewN _ _, m1, rfl⟩)); (simp only [Act.put, List.setIfInBounds_toArray, List.set_cons_zero, List.set_cons_succ, List.cons_append, List.nil_append])
      refine wpF_fact (Boxd 25 (rowOf a k c) (fat zA (cropK Wn xn yn wn k))) Boxd.keep (fun vs w' hE hk => ?_) ?_
      · obtain ⟨n1, hn1⟩ := hk 12 (by kernel_rfl); simp only [hn1]; go_simp; exact ⟨AppE.of_below ((Below.refl _ _).alloc (Nat.le_refl _) _), Boxd.new w' n1 (fun e => by have := rowOf_in HO.out _ e; have := hE.1.size; omega)⟩
      (simp only [Act.put, List.setIfInBounds_toArray, List.set_cons_zero, List.set_cons_succ, List.cons_append, List.nil_append])
      refine wpF_fact (Appd 25 w4.heap.size wr.heap.size k (fat zA (cropK Wn xn yn wn k)) a c zs) (Appd.keep (HLT.out k hlt)) (fun vs w' hE hk => ?_) ?_
      · obtain ⟨g, m, hu, _, _, hg4⟩ := hk 13 (by kernel_rfl)
        obtain ⟨i0, hi, hz0, hz1, hz2⟩ := info_parts infoF2
        simp only [hu]
        rw [if_pos (by rfl)]
        refine uponW_append _ _ _ rfl rfl rfl ?_
        exact append_step _ _ i0 _ Try.underlying22 hi hz0 hz1 hz2 rfl (HO.out.appE hE) (by have := hE.1.size; omega) _ hE.1.size (HLT.out k hlt) g 1 m _ hg4 (by omega)
      (simp only [Act.put, List.setIfInBounds_toArray, List.set_cons_zero, List.set_cons_succ, List.cons_append, List.nil_append])
      (with_reducible apply wpF_val); (focus (intro vs w' hE hk; (obtain ⟨dca0, dca1, dca2, dco0, dco1, dco2⟩ := KS.out w' hE); go_simp; exact ⟨AppE.refl _, rfl⟩)); (simp only [Act.put, List.setIfInBounds_toArray, List.set_cons_zero, List.set_cons_succ, List.cons_append, List.nil_append])
      refine wpF_nil (fun vs w' hE hk => ?_)
      obtain ⟨a', c', n', hu, hV2, hO2, hne2, hB2, hF2, hz2⟩ := app_round hE HV.out HO.out (hk 14) HB.out (by omega) (by omega) HF.out HNe.out
      obtain ⟨dca0, dca1, dca2, dco0, dco1, dco2⟩ := KS.out w' hE
      have hfr := hE.free HF.out (by omega) (HRow.out _ (by omega)) 2
      simp only [hu]
      have HV2 := Lib.hid hV2
      have HO2 := Lib.hid hO2
      have HN2 := Lib.hid hne2
      have HB2 := Lib.hid hB2
      have HF2 := Lib.hid hF2
      clear hV2 hO2 hne2 hB2 hF2
      go_wp2_with fail
      go_roundw
      case rel => exact ⟨k + 1, a', c', _, by omega, by go_num, HV2.out, HO2.out, by rw [← HAt.out k hlt]; exact near_snoc HN.out (by rw [HLn.out]; exact hlt) n', HB2.out, HF2.out, HN2.out, by omega⟩
      case measure => simp [intOf]; omega
    · obtain rfl : k = N := by omega
      have hz : near zs (L) := by have h := HN.out; rwa [List.take_of_length_le (by rw [HLn.out]; exact Nat.le_refl _)] at h
      have hzl : zs.length = k := by rw [hz.1, HLn.out]
      have HZ := Lib.hid hz
      have HML := Lib.hid (show (L).length = k from by rw [HLn.out])
      have VR := Lib.hid (Vr_5.out.below HB.out (by omega))
      have FR := Lib.hid (Fr_5.out.keep HB.out (by omega))
      have hfin := HFi.out
      obtain rfl := near_eq hz hfin
      clear hfin hz
      obtain ⟨wz, rfl⟩ : ∃ x : World, x = wr := ⟨_, rfl⟩
      have b := Below.refl wz.heap.size wz
      obtain ⟨cr0, cr1, cr2⟩ := (VR.out.keep b).three
      have fr := FR.out.below (by omega) b
      have f0 := fr 0
      have f1 := fr 1
      have f2 := fr 2
      have HB2 := Lib.hid (BW.out.trans (b.mono (by omega)))
      have HO2 := Lib.hid (HO.out.below b)
      clear fr b
      go_wp2_with fail
      have hrow : blk a ≠ some (w.heap.size + 1) := fun e => by have := HO2.out.in _ e; omega
      refine bodyPost_ret (v := .tuple #[.agg #[.int .i64 (wn : Int), .int .i64 (hn : Int), .slice a k c], .bool true]) (by simp [results, Try.results37, cr0, cr1, cr2, go_sem]) rfl (by exact ⟨a, c, by rw [HML.out], by (show (zs).length ≤ 1048576); rw [HML.out]; omega, ((HB2.out.setCell (by simp <;> omega) _).setCell (by simp <;> omega) _).setCell (by simp <;> omega) _, (((Own.re HML.out.symm HO2.out).setCell hrow _).setCell hrow _).setCell hrow _ |>.mono (by omega)⟩)

/-! ### sCropNo -/
theorem c_sCrop_no1 (WA HA : Int) (zA : List Nat) (aA : Option Addr) (cA : Nat) (x y wd hg : Int) (w : World) (rA : IsRowF .f32 w aA zA.length cA zA) (hb : validB WA HA zA = false) : Calls Try.prog 37 #[.agg #[.int .i64 WA, .int .i64 HA, .slice aA zA.length cA], .int .i64 x, .int .i64 y, .int .i64 wd, .int .i64 hg] w (RetP 25 PRes.no w) := by
  have RA := Lib.hid rA
  have HBo := Lib.hid hb
  clear rA hb
  go_enter Try.func37, Try.ntmps37
  go_wp2_with fail
  refine ((c_l02Is0 WA HA _ aA _ cA zA _ (((Var.new' _ _ _ (w.heap.size) rfl).alloc _)) ((RA.out.alloc _).alloc _)).mono (fun _ _ h => RetV.toB h)).mono ?_
  rintro _ w1 ⟨rfl, b⟩
  rw [HBo.out]
  have Va_1 := Lib.hid (((Var.new' _ _ _ (w.heap.size) (by first | rfl | simp)).alloc _).keep b)
  have Vr_1 := Lib.hid ((Var.new' _ _ _ (w.heap.size + 1) (by first | rfl | simp)).keep b)
  have Fr_1 := Lib.hid ((Free.new' _ _ _ (w.heap.size + 1) (by first | rfl | simp)).below (by simp <;> omega) b)
  have B_1 := Lib.hid ((((Below.refl w.heap.size w).alloc (Nat.le_refl _) _).alloc (by simp) _).trans (b.mono (by simp; omega)))
  have S_1 : w.heap.size + 2 ≤ w1.heap.size := by have := b.size; simp at this; omega
  have za_1 : w.heap.size < w1.heap.size := by omega
  have zr_1 : w.heap.size + 1 < w1.heap.size := by omega
  clear b
  obtain ⟨cr0, cr1, cr2⟩ := Vr_1.out.three
  have f0 := Fr_1.out 0
  have f1 := Fr_1.out 1
  have f2 := Fr_1.out 2
  go_wp2_with fail
  refine bodyPost_ret (v := .tuple #[.agg #[.int .i64 0, .int .i64 0, .slice none 0 0], .bool false]) (by simp [results, Try.results37, cr0, cr1, cr2, go_sem]) rfl (show RetP _ PRes.no _ _ _ from ⟨none, 0, rfl, Nat.zero_le _, ((B_1.out.setCell (by simp <;> omega) _).setCell (by simp <;> omega) _).setCell (by simp <;> omega) _, Own.nil _ _ _⟩)
theorem c_sCrop_no2 (WA HA : Int) (zA : List Nat) (aA : Option Addr) (cA : Nat) (x y wd hg : Int) (w : World) (rA : IsRowF .f32 w aA zA.length cA zA) (hb : validB WA HA zA = true) (hs2 : sideB wd hg = false) : Calls Try.prog 37 #[.agg #[.int .i64 WA, .int .i64 HA, .slice aA zA.length cA], .int .i64 x, .int .i64 y, .int .i64 wd, .int .i64 hg] w (RetP 25 PRes.no w) := by
  have RA := Lib.hid rA
  have HBo := Lib.hid hb
  have HS2 := Lib.hid hs2
  clear rA hb hs2
  go_enter Try.func37, Try.ntmps37
  go_wp2_with fail
  refine ((c_l02Is0 WA HA _ aA _ cA zA _ (((Var.new' _ _ _ (w.heap.size) rfl).alloc _)) ((RA.out.alloc _).alloc _)).mono (fun _ _ h => RetV.toB h)).mono ?_
  rintro _ w1 ⟨rfl, b⟩
  rw [HBo.out]
  have Va_1 := Lib.hid (((Var.new' _ _ _ (w.heap.size) (by first | rfl | simp)).alloc _).keep b)
  have Vr_1 := Lib.hid ((Var.new' _ _ _ (w.heap.size + 1) (by first | rfl | simp)).keep b)
  have Fr_1 := Lib.hid ((Free.new' _ _ _ (w.heap.size + 1) (by first | rfl | simp)).below (by simp <;> omega) b)
  have B_1 := Lib.hid ((((Below.refl w.heap.size w).alloc (Nat.le_refl _) _).alloc (by simp) _).trans (b.mono (by simp; omega)))
  have S_1 : w.heap.size + 2 ≤ w1.heap.size := by have := b.size; simp at this; omega
  have za_1 : w.heap.size < w1.heap.size := by omega
  have zr_1 : w.heap.size + 1 < w1.heap.size := by omega
  clear b
  obtain ⟨ca0, ca1, ca2⟩ := Va_1.out.three
  go_wp2_with fail
  clear ca0 ca1 ca2
  refine ((c_l02Sides0 _ _ _).mono (fun _ _ h => RetV.toB h)).mono ?_
  rintro _ w2 ⟨rfl, b⟩
  rw [HS2.out]
  have Va_2 := Lib.hid (Va_1.out.keep b)
  have Vr_2 := Lib.hid (Vr_1.out.keep b)
  have Fr_2 := Lib.hid (Fr_1.out.below (by first | omega | (simp <;> omega)) b)
  have B_2 := Lib.hid (B_1.out.trans (b.mono (by omega)))
  have S_2 : w1.heap.size + 0 ≤ w2.heap.size := by have := b.size; omega
  have za_2 : w.heap.size < w2.heap.size := by omega
  have zr_2 : w.heap.size + 1 < w2.heap.size := by omega
  clear b
  obtain ⟨cr0, cr1, cr2⟩ := Vr_2.out.three
  have f0 := Fr_2.out 0
  have f1 := Fr_2.out 1
  have f2 := Fr_2.out 2
  go_wp2_with fail
  refine bodyPost_ret (v := .tuple #[.agg #[.int .i64 0, .int .i64 0, .slice none 0 0], .bool false]) (by simp [results, Try.results37, cr0, cr1, cr2, go_sem]) rfl (show RetP _ PRes.no _ _ _ from ⟨none, 0, rfl, Nat.zero_le _, ((B_2.out.setCell (by simp <;> omega) _).setCell (by simp <;> omega) _).setCell (by simp <;> omega) _, Own.nil _ _ _⟩)
theorem c_sCrop_no3 (WA HA : Int) (zA : List Nat) (aA : Option Addr) (cA : Nat) (x y wd hg : Int) (w : World) (rA : IsRowF .f32 w aA zA.length cA zA) (hb : validB WA HA zA = true) (hs2 : sideB wd hg = true) (hx2 : (decide (0 ≤ x) && decide (x ≤ WA - wd)) = false) : Calls Try.prog 37 #[.agg #[.int .i64 WA, .int .i64 HA, .slice aA zA.length cA], .int .i64 x, .int .i64 y, .int .i64 wd, .int .i64 hg] w (RetP 25 PRes.no w) := by
  have wA1 : IntKind.i64.wrap (WA - wd) = WA - wd := by have h1 := sideB_true hs2; have h := hb; simp only [validB, Bool.and_eq_true] at h; have h2 := sideB_true h.1.1; exact IntWalk.i64_in _ (by omega)
  have wA2 : IntKind.i64.wrap (HA - hg) = HA - hg := by have h1 := sideB_true hs2; have h := hb; simp only [validB, Bool.and_eq_true] at h; have h2 := sideB_true h.1.1; exact IntWalk.i64_in _ (by omega)
  have RA := Lib.hid rA
  have HBo := Lib.hid hb
  have HS2 := Lib.hid hs2
  have HX2 := Lib.hid hx2
  clear rA hb hs2 hx2
  go_enter Try.func37, Try.ntmps37
  go_wp2_with fail
  refine ((c_l02Is0 WA HA _ aA _ cA zA _ (((Var.new' _ _ _ (w.heap.size) rfl).alloc _)) ((RA.out.alloc _).alloc _)).mono (fun _ _ h => RetV.toB h)).mono ?_
  rintro _ w1 ⟨rfl, b⟩
  rw [HBo.out]
  have Va_1 := Lib.hid (((Var.new' _ _ _ (w.heap.size) (by first | rfl | simp)).alloc _).keep b)
  have Vr_1 := Lib.hid ((Var.new' _ _ _ (w.heap.size + 1) (by first | rfl | simp)).keep b)
  have Fr_1 := Lib.hid ((Free.new' _ _ _ (w.heap.size + 1) (by first | rfl | simp)).below (by simp <;> omega) b)
  have B_1 := Lib.hid ((((Below.refl w.heap.size w).alloc (Nat.le_refl _) _).alloc (by simp) _).trans (b.mono (by simp; omega)))
  have S_1 : w.heap.size + 2 ≤ w1.heap.size := by have := b.size; simp at this; omega
  have za_1 : w.heap.size < w1.heap.size := by omega
  have zr_1 : w.heap.size + 1 < w1.heap.size := by omega
  clear b
  obtain ⟨ca0, ca1, ca2⟩ := Va_1.out.three
  go_wp2_with fail
  clear ca0 ca1 ca2
  refine ((c_l02Sides0 _ _ _).mono (fun _ _ h => RetV.toB h)).mono ?_
  rintro _ w2 ⟨rfl, b⟩
  rw [HS2.out]
  have Va_2 := Lib.hid (Va_1.out.keep b)
  have Vr_2 := Lib.hid (Vr_1.out.keep b)
  have Fr_2 := Lib.hid (Fr_1.out.below (by first | omega | (simp <;> omega)) b)
  have B_2 := Lib.hid (B_1.out.trans (b.mono (by omega)))
  have S_2 : w1.heap.size + 0 ≤ w2.heap.size := by have := b.size; omega
  have za_2 : w.heap.size < w2.heap.size := by omega
  have zr_2 : w.heap.size + 1 < w2.heap.size := by omega
  clear b
  clear Va_1 za_1 Vr_1 zr_1 Fr_1 B_1
  obtain ⟨ca0, ca1, ca2⟩ := Va_2.out.three
  go_wp2_with fail
  clear ca0 ca1 ca2
  refine ((c_l00In0 _ _ _ _).mono (fun _ _ h => RetV.toB h)).mono ?_
  rintro _ w3 ⟨rfl, b⟩
  rw [HX2.out]
  have Va_3 := Lib.hid (Va_2.out.keep b)
  have Vr_3 := Lib.hid (Vr_2.out.keep b)
  have Fr_3 := Lib.hid (Fr_2.out.below (by first | omega | (simp <;> omega)) b)
  have B_3 := Lib.hid (B_2.out.trans (b.mono (by omega)))
  have S_3 : w2.heap.size + 0 ≤ w3.heap.size := by have := b.size; omega
  have za_3 : w.heap.size < w3.heap.size := by omega
  have zr_3 : w.heap.size + 1 < w3.heap.size := by omega
  clear b
  obtain ⟨cr0, cr1, cr2⟩ := Vr_3.out.three
  have f0 := Fr_3.out 0
  have f1 := Fr_3.out 1
  have f2 := Fr_3.out 2
  go_wp2_with fail
  refine bodyPost_ret (v := .tuple #[.agg #[.int .i64 0, .int .i64 0, .slice none 0 0], .bool false]) (by simp [results, Try.results37, cr0, cr1, cr2, go_sem]) rfl (show RetP _ PRes.no _ _ _ from ⟨none, 0, rfl, Nat.zero_le _, ((B_3.out.setCell (by simp <;> omega) _).setCell (by simp <;> omega) _).setCell (by simp <;> omega) _, Own.nil _ _ _⟩)
theorem c_sCrop_no4 (WA HA : Int) (zA : List Nat) (aA : Option Addr) (cA : Nat) (x y wd hg : Int) (w : World) (rA : IsRowF .f32 w aA zA.length cA zA) (hb : validB WA HA zA = true) (hs2 : sideB wd hg = true) (hx2 : (decide (0 ≤ x) && decide (x ≤ WA - wd)) = true) (hy2 : (decide (0 ≤ y) && decide (y ≤ HA - hg)) = false) : Calls Try.prog 37 #[.agg #[.int .i64 WA, .int .i64 HA, .slice aA zA.length cA], .int .i64 x, .int .i64 y, .int .i64 wd, .int .i64 hg] w (RetP 25 PRes.no w) := by
  have wA1 : IntKind.i64.wrap (WA - wd) = WA - wd := by have h1 := sideB_true hs2; have h := hb; simp only [validB, Bool.and_eq_true] at h; have h2 := sideB_true h.1.1; exact IntWalk.i64_in _ (by omega)
  have wA2 : IntKind.i64.wrap (HA - hg) = HA - hg := by have h1 := sideB_true hs2; have h := hb; simp only [validB, Bool.and_eq_true] at h; have h2 := sideB_true h.1.1; exact IntWalk.i64_in _ (by omega)
  have RA := Lib.hid rA
  have HBo := Lib.hid hb
  have HS2 := Lib.hid hs2
  have HX2 := Lib.hid hx2
  have HY2 := Lib.hid hy2
  clear rA hb hs2 hx2 hy2
  go_enter Try.func37, Try.ntmps37
  go_wp2_with fail
  refine ((c_l02Is0 WA HA _ aA _ cA zA _ (((Var.new' _ _ _ (w.heap.size) rfl).alloc _)) ((RA.out.alloc _).alloc _)).mono (fun _ _ h => RetV.toB h)).mono ?_
  rintro _ w1 ⟨rfl, b⟩
  rw [HBo.out]
  have Va_1 := Lib.hid (((Var.new' _ _ _ (w.heap.size) (by first | rfl | simp)).alloc _).keep b)
  have Vr_1 := Lib.hid ((Var.new' _ _ _ (w.heap.size + 1) (by first | rfl | simp)).keep b)
  have Fr_1 := Lib.hid ((Free.new' _ _ _ (w.heap.size + 1) (by first | rfl | simp)).below (by simp <;> omega) b)
  have B_1 := Lib.hid ((((Below.refl w.heap.size w).alloc (Nat.le_refl _) _).alloc (by simp) _).trans (b.mono (by simp; omega)))
  have S_1 : w.heap.size + 2 ≤ w1.heap.size := by have := b.size; simp at this; omega
  have za_1 : w.heap.size < w1.heap.size := by omega
  have zr_1 : w.heap.size + 1 < w1.heap.size := by omega
  clear b
  obtain ⟨ca0, ca1, ca2⟩ := Va_1.out.three
  go_wp2_with fail
  clear ca0 ca1 ca2
  refine ((c_l02Sides0 _ _ _).mono (fun _ _ h => RetV.toB h)).mono ?_
  rintro _ w2 ⟨rfl, b⟩
  rw [HS2.out]
  have Va_2 := Lib.hid (Va_1.out.keep b)
  have Vr_2 := Lib.hid (Vr_1.out.keep b)
  have Fr_2 := Lib.hid (Fr_1.out.below (by first | omega | (simp <;> omega)) b)
  have B_2 := Lib.hid (B_1.out.trans (b.mono (by omega)))
  have S_2 : w1.heap.size + 0 ≤ w2.heap.size := by have := b.size; omega
  have za_2 : w.heap.size < w2.heap.size := by omega
  have zr_2 : w.heap.size + 1 < w2.heap.size := by omega
  clear b
  clear Va_1 za_1 Vr_1 zr_1 Fr_1 B_1
  obtain ⟨ca0, ca1, ca2⟩ := Va_2.out.three
  go_wp2_with fail
  clear ca0 ca1 ca2
  refine ((c_l00In0 _ _ _ _).mono (fun _ _ h => RetV.toB h)).mono ?_
  rintro _ w3 ⟨rfl, b⟩
  rw [HX2.out]
  have Va_3 := Lib.hid (Va_2.out.keep b)
  have Vr_3 := Lib.hid (Vr_2.out.keep b)
  have Fr_3 := Lib.hid (Fr_2.out.below (by first | omega | (simp <;> omega)) b)
  have B_3 := Lib.hid (B_2.out.trans (b.mono (by omega)))
  have S_3 : w2.heap.size + 0 ≤ w3.heap.size := by have := b.size; omega
  have za_3 : w.heap.size < w3.heap.size := by omega
  have zr_3 : w.heap.size + 1 < w3.heap.size := by omega
  clear b
  clear Va_2 za_2 Vr_2 zr_2 Fr_2 B_2
  obtain ⟨ca0, ca1, ca2⟩ := Va_3.out.three
  go_wp2_with fail
  clear ca0 ca1 ca2
  refine ((c_l00In0 _ _ _ _).mono (fun _ _ h => RetV.toB h)).mono ?_
  rintro _ w4 ⟨rfl, b⟩
  rw [HY2.out]
  have Va_4 := Lib.hid (Va_3.out.keep b)
  have Vr_4 := Lib.hid (Vr_3.out.keep b)
  have Fr_4 := Lib.hid (Fr_3.out.below (by first | omega | (simp <;> omega)) b)
  have B_4 := Lib.hid (B_3.out.trans (b.mono (by omega)))
  have S_4 : w3.heap.size + 0 ≤ w4.heap.size := by have := b.size; omega
  have za_4 : w.heap.size < w4.heap.size := by omega
  have zr_4 : w.heap.size + 1 < w4.heap.size := by omega
  clear b
  obtain ⟨cr0, cr1, cr2⟩ := Vr_4.out.three
  have f0 := Fr_4.out 0
  have f1 := Fr_4.out 1
  have f2 := Fr_4.out 2
  go_wp2_with fail
  refine bodyPost_ret (v := .tuple #[.agg #[.int .i64 0, .int .i64 0, .slice none 0 0], .bool false]) (by simp [results, Try.results37, cr0, cr1, cr2, go_sem]) rfl (show RetP _ PRes.no _ _ _ from ⟨none, 0, rfl, Nat.zero_le _, ((B_4.out.setCell (by simp <;> omega) _).setCell (by simp <;> omega) _).setCell (by simp <;> omega) _, Own.nil _ _ _⟩)
/-! ### sidesOf -/
theorem c_sidesOf (W H : Int) (s : Value) (w : World) : Calls Try.prog 91 #[.agg #[.int .i64 W, .int .i64 H, s]] w (RetB (.agg #[.int .i64 W, .int .i64 H]) w) := by
  go_enter Try.func91, Try.ntmps91
  go_wp2
  exact bodyPost_ret (v := .agg #[.int .i64 W, .int .i64 H]) (by simp [results, Try.results91, go_sem]) rfl ⟨rfl, ((Below.refl _ _).alloc (Nat.le_refl _) _).alloc (by simp) _⟩
/-! ### allowed -/
theorem c_allowed (W H : Int) (w : World) : Calls Try.prog 102 #[.agg #[.int .i64 W, .int .i64 H]] w (RetB (.bool (sideB W H)) w) := by
  unfold sideB
  by_cases h1 : 1 ≤ W
  · by_cases h2 : W ≤ 16
    · by_cases h3 : 1 ≤ H
      · by_cases h4 : H ≤ 16
        all_goals
          go_enter Try.func102, Try.ntmps102
          go_wp2
          go_ret
          exact ⟨by simp [*] <;> (intros; omega), (Below.refl _ _).alloc (Nat.le_refl _) _⟩
      · go_enter Try.func102, Try.ntmps102
        go_wp2
        go_ret
        exact ⟨by simp [*] <;> (intros; omega), (Below.refl _ _).alloc (Nat.le_refl _) _⟩
    · go_enter Try.func102, Try.ntmps102
      go_wp2
      go_ret
      exact ⟨by simp [*] <;> (intros; omega), (Below.refl _ _).alloc (Nat.le_refl _) _⟩
  · go_enter Try.func102, Try.ntmps102
    go_wp2
    go_ret
    exact ⟨by simp [*] <;> (intros; omega), (Below.refl _ _).alloc (Nat.le_refl _) _⟩
/-! ### IsNaN -/
theorem c_IsNaN (v n : Nat) (w : World) (j : Nat) : Calls Try.prog 63 #[.float .f64 (pick .f64 v n)] (w.drewN j) (RetV (.bool (isN .f64 v)) w) := by
  go_enter Try.func63, Try.ntmps63
  go_wp2
  go_ret
  exact ⟨_, rfl, rfl⟩
/-! ### f64bits -/
@[go_sem] theorem e_f64bits (b : Nat) (w : World) : (callFunc 108 #[.float .f64 b]).run Try.prog w = .ok (.value (.int .u64 b)) w := by kernel_rfl
/-! ### f64from -/
@[go_sem] theorem e_f64from (n : Int) (w : World) : (callFunc 109 #[.int .u64 n]).run Try.prog w = .ok (.value (.float .f64 n.toNat)) w := by kernel_rfl
/-! ### Abs -/
theorem c_Abs (v n : Nat) (w : World) (j : Nat) (hv : v < 2 ^ FloatKind.f64.format.width) : Calls Try.prog 95 #[.float .f64 (pick .f64 v n)] (w.drewN j) (RetF .f64 (fabs .f64 v) w) := by
  have hb := abs_bits hv n
  go_enter Try.func95, Try.ntmps95
  go_wp2
  go_ret
  exact ⟨_, _, rfl, rfl⟩
/-! ### IsInf0 -/
theorem c_IsInf0 (v n : Nat) (w : World) (j : Nat) (hv : v < 2 ^ FloatKind.f64.format.width) : Calls Try.prog 111 #[.float .f64 (pick .f64 v n), .int .i64 0] (w.drewN j) (RetV (.bool (FloatKind.f64.format.order (fabs .f64 v) 9218868437227405311 == some .gt)) w) := by
  go_enter Try.func111, Try.ntmps111
  go_wp2_with ((go_at_call 95; refine (c_Abs _ _ _ _ hv).mono ?_; rintro _ _ ⟨_, _, rfl, rfl⟩))
  go_ret
  exact ⟨_, rfl, rfl⟩
/-! ### isFinite64 -/
theorem c_isFinite64 (v n : Nat) (w : World) (j : Nat) (hv : v < 2 ^ FloatKind.f64.format.width) : Calls Try.prog 107 #[.float .f64 (pick .f64 v n)] (w.drewN j) (RetV (.bool (finB .f64 v)) w) := by
  go_enter Try.func107, Try.ntmps107
  go_wp2_with (first | (go_at_call 63; refine (c_IsNaN _ _ _ _).mono ?_; rintro _ _ ⟨_, rfl, rfl⟩) | (go_at_call 111; refine (c_IsInf0 _ _ _ _ hv).mono ?_; rintro _ _ ⟨_, rfl, rfl⟩))
  all_goals
    go_ret
    refine ⟨_, ?_, rfl⟩
    rw [← abs_gt_max]
    simp [*]
/-! ### iIsFinite -/
theorem c_iIsFinite (v n : Nat) (w : World) (j : Nat) : Calls Try.prog 93 #[.float .f32 (pick .f32 v n)] (w.drewN j) (RetV (.bool (finB .f32 v)) w) := by
  go_enter Try.func93, Try.ntmps93
  go_wp2_with (first | (refine wpList_cvU rfl 25 41 _ rfl (Option.isSome_iff_exists.2 ⟨_, Try.underlying25⟩) Try.underlying41 _ rfl _ ?_; intro _ _) | (go_at_call 107; refine (c_isFinite64 _ _ _ _ (cvU_lt _)).mono ?_; rintro _ _ ⟨_, rfl, rfl⟩))
  go_ret
  rw [← finB_cvU]
  exact ⟨_, rfl, rfl⟩
/-! ### areFinite -/
theorem c_areFinite (a : Option Addr) (len cap : Nat) (zs : List Nat) (w : World) (j0 : Nat) (hr : IsRowF .f32 w a len cap zs) : Calls Try.prog 59 #[.slice a len cap] (w.drewN j0) (RetV (.bool (finL zs)) w) := by
  obtain ⟨h1, h2, h3, h4, h5⟩ := hr
  unfold maxLen at h3
  have H1 := Lib.hid h1
  clear h1
  go_enter Try.func59, Try.ntmps59
  go_wp2
  go_loopw [4, 7] (fun _ i wr => ∃ k m : Nat, k ≤ len ∧ i = .int .i64 k ∧ wr = w.drewN m ∧ finL (zs.take k) = true) (fun _ i _ => len - (intOf i).toNat)
  case atStart => exact ⟨0, j0, Nat.zero_le _, rfl, rfl, rfl⟩
  case round =>
    obtain ⟨k, m, hk, rfl, rfl, hfin⟩ := hrel
    have HFin := Lib.hid hfin
    clear hfin
    by_cases hlt : k < len
    · rcases h5 with h5 | ⟨b, off, rfl, hbl, hc⟩
      · omega
      have hcell : w.cell? ⟨b, off + k, none⟩ = some (.float .f32 (fat zs k)) := hc k hlt
      obtain ⟨n, hn⟩ := pick0 .f32 (fat zs k) (lt_of_wf (h4 _ (by unfold fat; rw [List.getD, List.getElem?_eq_getElem (by have := H1.out; omega)]; exact List.getElem_mem _)))
      rw [hn] at hcell
      have HS := Lib.hid (finL_snoc zs k (by have := H1.out; omega))
      cases hf : finB .f32 (fat zs k)
      · have HO := Lib.hid (finL_of zs k (by have := H1.out; omega) hf)
        clear hc h4 hn
        go_wp2_with ((go_at_call 93; refine (c_iIsFinite _ _ _ _).mono ?_; rintro _ _ ⟨_, rfl, rfl⟩))
        go_ret
        exact ⟨_, by rw [HO.out]; rfl, rfl⟩
      · have HF := Lib.hid hf
        clear hc h4 hn
        go_wp2_with ((go_at_call 93; refine (c_iIsFinite _ _ _ _).mono ?_; rintro _ _ ⟨_, rfl, rfl⟩))
        go_roundw
        case rel => exact ⟨k + 1, _, by omega, by go_num, rfl, by rw [HS.out, HFin.out, HF.out]; rfl⟩
        case measure => simp [intOf]; omega
    · have e : zs.take k = zs := List.take_of_length_le (by have := H1.out; omega)
      have HE := Lib.hid e
      clear h5 h4 e
      go_wp2
      go_ret
      exact ⟨_, by have h := HFin.out; rw [HE.out] at h; rw [h]; rfl, rfl⟩
/-! ### iValid -/
theorem c_areFinite0 (a : Option Addr) (len cap : Nat) (zs : List Nat) (w : World) (hr : IsRowF .f32 w a len cap zs) : Calls Try.prog 59 #[.slice a len cap] w (RetV (.bool (finL zs)) w) := by
  have h := c_areFinite a len cap zs w 0 hr
  rwa [w.drewN_zero] at h
theorem c_iValid (W H : Int) (a : Option Addr) (len cap : Nat) (zs : List Nat) (w : World) (hr : IsRowF .f32 w a len cap zs) :
    Calls Try.prog 82 #[.agg #[.int .i64 W, .int .i64 H, .slice a len cap]] w (RetB (.bool (validB W H zs)) w) := by
  have H1 := Lib.hid hr.1
  have HR := Lib.hid hr
  clear hr
  have two : ∀ s : Bool, sideB W H = s → (s = true → ∀ t : Bool, ((len : Int) == W * H) = t → (Calls Try.prog 82 #[.agg #[.int .i64 W, .int .i64 H, .slice a len cap]] w (RetB (.bool (validB W H zs)) w))) → (s = false → Calls Try.prog 82 #[.agg #[.int .i64 W, .int .i64 H, .slice a len cap]] w (RetB (.bool (validB W H zs)) w)) → Calls Try.prog 82 #[.agg #[.int .i64 W, .int .i64 H, .slice a len cap]] w (RetB (.bool (validB W H zs)) w) := by
    intro s hs h1 h2
    cases s
    · exact h2 rfl
    · exact h1 rfl _ rfl
  refine two _ rfl ?_ ?_
  · intro hs t ht
    obtain ⟨m1, m2⟩ := side_mul hs
    have mw : IntKind.i64.wrap (W * H) = W * H := IntWalk.i64_in _ (by omega)
    clear two
    cases t
    · have e : validB W H zs = false := by simp at ht; simp [validB, hs, H1.out, ht]
      have E := Lib.hid e
      have HT := Lib.hid hs
      clear e
      go_enter Try.func82, Try.ntmps82
      go_wp2_with fail
      refine (c_sidesOf W H _ _).mono ?_
      rintro _ w1 ⟨rfl, b1⟩
      obtain ⟨p0, p1, p2⟩ := ((Var.new _ _ _).keep b1).three
      have z1 : w.heap.size < w1.heap.size := by have := b1.size; simp at this; omega
      have B1 := Lib.hid (((Below.refl w.heap.size w).alloc (Nat.le_refl _) _).trans (b1.mono (by simp)))
      clear b1
      go_wp2_with fail
      refine (c_allowed W H _).mono ?_
      rintro _ w2 ⟨rfl, b2⟩
      rw [HT.out]
      have q0 := (b2.cell (p := ⟨w.heap.size, 0, none⟩) z1).trans p0
      have q1 := (b2.cell (p := ⟨w.heap.size, 1, none⟩) z1).trans p1
      have q2 := (b2.cell (p := ⟨w.heap.size, 2, none⟩) z1).trans p2
      have B2 := Lib.hid (B1.out.trans (b2.mono (by omega)))
      clear p0 p1 p2 b2 hs
      go_wp2_with fail
      go_ret
      exact ⟨by rw [E.out]; rfl, B2.out⟩
    · have e : validB W H zs = finL zs := by simp at ht; simp [validB, hs, H1.out, ht]
      have E := Lib.hid e
      have HT := Lib.hid hs
      clear e
      go_enter Try.func82, Try.ntmps82
      go_wp2_with fail
      refine (c_sidesOf W H _ _).mono ?_
      rintro _ w1 ⟨rfl, b1⟩
      obtain ⟨p0, p1, p2⟩ := ((Var.new _ _ _).keep b1).three
      have z1 : w.heap.size < w1.heap.size := by have := b1.size; simp at this; omega
      have B1 := Lib.hid (((Below.refl w.heap.size w).alloc (Nat.le_refl _) _).trans (b1.mono (by simp)))
      clear b1
      go_wp2_with fail
      refine (c_allowed W H _).mono ?_
      rintro _ w2 ⟨rfl, b2⟩
      rw [HT.out]
      have q0 := (b2.cell (p := ⟨w.heap.size, 0, none⟩) z1).trans p0
      have q1 := (b2.cell (p := ⟨w.heap.size, 1, none⟩) z1).trans p1
      have q2 := (b2.cell (p := ⟨w.heap.size, 2, none⟩) z1).trans p2
      have B2 := Lib.hid (B1.out.trans (b2.mono (by omega)))
      clear p0 p1 p2 b2 hs
      go_wp2_with fail
      refine (c_areFinite0 a len cap zs _ (HR.out.below B2.out)).mono ?_
      rintro _ w3 ⟨m, rfl, rfl⟩
      rw [← E.out]
      go_wp2_with fail
      go_ret
      exact ⟨rfl, below_drewN B2.out _⟩
  · intro hs
    have e : validB W H zs = false := by simp [validB, hs]
    have E := Lib.hid e
    have HT := Lib.hid hs
    clear e two
    go_enter Try.func82, Try.ntmps82
    go_wp2_with fail
    refine (c_sidesOf W H _ _).mono ?_
    rintro _ w1 ⟨rfl, b1⟩
    have B1 := Lib.hid (((Below.refl w.heap.size w).alloc (Nat.le_refl _) _).trans (b1.mono (by simp)))
    have z1 : w.heap.size < w1.heap.size := by have := b1.size; simp at this; omega
    clear b1
    go_wp2_with fail
    refine (c_allowed W H _).mono ?_
    rintro _ w2 ⟨rfl, b2⟩
    rw [HT.out]
    have B2 := Lib.hid (B1.out.trans (b2.mono (by omega)))
    clear b2 hs
    go_wp2_with fail
    go_ret
    exact ⟨by rw [E.out]; rfl, B2.out⟩
/-! ### ifValid -/
theorem c_ifValid_yes (W H : Int) (a : Option Addr) (len cap : Nat) (zs : List Nat) (w : World) (hr : IsRowF .f32 w a len cap zs) (hv : validB W H zs = true) : Calls Try.prog 85 #[.agg #[.int .i64 W, .int .i64 H, .slice a len cap]] w (RetB (.tuple #[.agg #[.int .i64 W, .int .i64 H, .slice a len cap], .bool true]) w) := by
  have HR := Lib.hid hr
  have HV := Lib.hid hv
  clear hr hv
  go_enter Try.func85, Try.ntmps85
  go_wp2_with fail
  refine (c_iValid W H a len cap zs _ ((HR.out.alloc _).alloc _)).mono ?_
  rintro _ w1 ⟨rfl, b⟩
  rw [HV.out]
  have V1 := Lib.hid ((((Var.new' _ _ _ (w.heap.size) rfl).alloc _)).keep b)
  have V2 := Lib.hid ((Var.new' _ _ _ (w.heap.size + 1) (by simp)).keep b)
  have z1 : w.heap.size + 1 < w1.heap.size := by have := b.size; simp at this; omega
  have B1 := Lib.hid ((((Below.refl w.heap.size w).alloc (Nat.le_refl _) _).alloc (by simp) _).trans (b.mono (by simp; omega)))
  have Fr := Lib.hid ((Free.new' _ _ _ (w.heap.size + 1) (by simp)).below (by simp <;> omega) b)
  clear b
  obtain ⟨p0, p1, p2⟩ := V1.out.three
  obtain ⟨q0, q1, q2⟩ := V2.out.three
  have f0 := Fr.out 0
  have f1 := Fr.out 1
  have f2 := Fr.out 2
  go_wp2_with fail
  refine bodyPost_ret (v := .tuple #[.agg #[.int .i64 W, .int .i64 H, .slice a len cap], .bool true]) (by simp [results, Try.results85, q0, q1, q2, go_sem]) rfl ⟨rfl, ?_⟩
  exact ((B1.out.setCell (by simp <;> omega) _).setCell (by simp <;> omega) _).setCell (by simp <;> omega) _
theorem c_ifValid_no (W H : Int) (a : Option Addr) (len cap : Nat) (zs : List Nat) (w : World) (hr : IsRowF .f32 w a len cap zs) (hv : validB W H zs = false) : Calls Try.prog 85 #[.agg #[.int .i64 W, .int .i64 H, .slice a len cap]] w (RetB (.tuple #[.agg #[.int .i64 0, .int .i64 0, .slice none 0 0], .bool false]) w) := by
  have HR := Lib.hid hr
  have HV := Lib.hid hv
  clear hr hv
  go_enter Try.func85, Try.ntmps85
  go_wp2_with fail
  refine (c_iValid W H a len cap zs _ ((HR.out.alloc _).alloc _)).mono ?_
  rintro _ w1 ⟨rfl, b⟩
  rw [HV.out]
  have V2 := Lib.hid ((Var.new' _ _ _ (w.heap.size + 1) (by simp)).keep b)
  have z1 : w.heap.size + 1 < w1.heap.size := by have := b.size; simp at this; omega
  have B1 := Lib.hid ((((Below.refl w.heap.size w).alloc (Nat.le_refl _) _).alloc (by simp) _).trans (b.mono (by simp; omega)))
  have Fr := Lib.hid ((Free.new' _ _ _ (w.heap.size + 1) (by simp)).below (by simp <;> omega) b)
  clear b
  obtain ⟨q0, q1, q2⟩ := V2.out.three
  have f0 := Fr.out 0
  have f1 := Fr.out 1
  have f2 := Fr.out 2
  go_wp2_with fail
  refine bodyPost_ret (v := .tuple #[.agg #[.int .i64 0, .int .i64 0, .slice none 0 0], .bool false]) (by simp [results, Try.results85, q0, q1, q2, go_sem]) rfl ⟨rfl, ?_⟩
  exact ((B1.out.setCell (by simp <;> omega) _).setCell (by simp <;> omega) _).setCell (by simp <;> omega) _

/-! ### rowOf -/
theorem c_rowOf (Wn Hn : Nat) (a : Option Addr) (cap : Nat) (zs : List Nat) (y : Nat) (w : World) (hr : IsRowF .f32 w a zs.length cap zs) (hW1 : 1 ≤ Wn) (hW2 : Wn ≤ 16) (hH2 : Hn ≤ 16) (hl : zs.length = Wn * Hn) (hy : y < Hn) :
    Calls Try.prog 84 #[.agg #[.int .i64 (Wn : Int), .int .i64 (Hn : Int), .slice a zs.length cap], .int .i64 (y : Int)] w (fun e w' => ∃ b off, a = some ⟨b, off, none⟩ ∧ e = .returned (.slice (some ⟨b, off + y * Wn, none⟩) Wn Wn) ∧ Below w.heap.size w w') := by
  obtain ⟨hb1, hb2⟩ := mul_bound hy hW2 hH2
  obtain ⟨N, hN⟩ : ∃ N, N = zs.length := ⟨_, rfl⟩
  obtain ⟨P, hP⟩ : ∃ P : Nat, P = y * Wn := ⟨_, rfl⟩
  have hPi : (y : Int) * (Wn : Int) = (P : Int) := by rw [hP, Int.natCast_mul]
  have hPi2 : ((y : Int) + 1) * (Wn : Int) = (P : Int) + (Wn : Int) := by rw [Int.add_mul, hPi, Int.one_mul]
  rw [← hP] at hb1 hb2 ⊢
  rw [← hl, ← hN] at hb1
  rw [← hN] at hr ⊢
  have hcap : N ≤ cap := hr.2.1
  have hcm : cap ≤ maxLen := hr.2.2.1
  unfold maxLen at hcm
  obtain ⟨b, off, n0, rfl, hb, e0⟩ := hr.at (k := 0) (by omega)
  have M1 := Lib.hid (show IntKind.i64.wrap ((y : Int) * (Wn : Int)) = (P : Int) by rw [hPi]; exact IntWalk.i64_in _ (by omega))
  have M2 := Lib.hid (show IntKind.i64.wrap (((y : Int) + 1) * (Wn : Int)) = (P : Int) + (Wn : Int) by rw [hPi2]; exact IntWalk.i64_in _ (by omega))
  have M3 := Lib.hid (show IntKind.i64.wrap ((y : Int) + 1) = (y : Int) + 1 from IntWalk.i64_in _ (by omega))
  have hc2 : P + Wn ≤ cap := by omega
  clear hN hP hPi hPi2 hl hr hb e0 n0
  generalize hw0 : w.alloc (Obj.cells #[.int .i64 (Wn : Int), .int .i64 (Hn : Int), .slice (some ⟨b, off, none⟩) N cap] 27) = w0
  have X0 : Var w0 w.heap.size #[.int .i64 (Wn : Int), .int .i64 (Hn : Int), .slice (some ⟨b, off, none⟩) N cap] := by subst hw0; exact Var.new _ _ _
  have X3 : Below w.heap.size w w0 := by subst hw0; exact (Below.refl _ _).alloc (Nat.le_refl _) _
  have HW := Lib.hid hw0
  have B0 := Lib.hid X3
  obtain ⟨v0, v1, v2⟩ := X0.three
  clear hw0 X0 X3
  go_enter Try.func84, Try.ntmps84
  go_wp2_with fail
  rw [HW.out]
  rw [← w0.drewN_zero]
  have m1 := M1.out
  have m2 := M2.out
  have m3 := M3.out
  refine wp_region_N (fun _ _ _ => True) (by kernel_rfl) (by kernel_rfl) ?_; (repeat (first | ((with_reducible show wpN _ _ _ _ _ (Oper.mk _ (Op.binOp _ _ _ _ _) _ _ _ none :: _) _); refine wpN_fop rfl _ _ _ _ _ rfl _ _ _ rfl rfl (by decide) ?_; intro _) | ((with_reducible show wpN _ _ _ _ _ (Oper.mk _ (Op.convert _ _ _) _ _ _ none :: _) _); refine wpN_cvU rfl 25 41 _ rfl (Option.isSome_iff_exists.2 ⟨_, Try.underlying25⟩) Try.underlying41 _ rfl ?_; intro _) | ((with_reducible show wpN _ _ _ _ _ (Oper.mk _ _ _ _ _ (some _) :: _) _); (with_reducible refine wpN_off ?_ ?_); focus rfl; (simp only [Act.put, List.setIfInBounds_toArray, List.set_cons_zero, List.set_cons_succ])) | ((with_reducible show wpN _ _ _ _ _ (Oper.mk _ _ _ _ _ (some _) :: _) _); ((with_reducible refine wpN_on ?_ (fun K hK => ?_)); (focus rfl); intro _; go_simp; first | (refine uponN_value (hK _ ?_)) | (fail; refine hK _ ?_)); clear hK K) | (((with_reducible refine wpN_plain rfl (fun K hK => ?_)); intro _; go_simp; first | (refine uponN_value (hK _ ?_)) | (fail; refine hK _ ?_)); clear hK K) | ((with_reducible refine wpN_step (fun K hK => ?_)); go_simp; first | (refine hK _ ?_) | (intro _; first | (refine uponN_value (hK _ ?_)) | (fail; refine hK _ ?_)); clear hK K))); refine wpN_nil ?_; intro _
  clear m1 m2 m3
  go_wp2_with fail
  go_ret
  exact ⟨b, off, rfl, by simp, below_drewN B0.out _⟩

/-! ### iCrop -/
theorem c_fits (a l r : Int) (w : World) (j : Nat) (h2 : 1 ≤ r ∧ r ≤ 16) : Calls Try.prog 83 #[.int .i64 a, .int .i64 l, .int .i64 r] (w.drewN j) (RetV (.bool (fitsB a l r)) w) := by
  unfold fitsB
  by_cases g1 : 0 ≤ a
  · by_cases g2 : 1 ≤ l
    · by_cases g3 : l ≤ r
      · have mw : IntKind.i64.wrap (r - l) = r - l := IntWalk.i64_in _ (by omega)
        by_cases g4 : a ≤ r - l
        all_goals
          go_enter Try.func83, Try.ntmps83
          go_wp2
          go_ret
          exact ⟨_, by simp [*] <;> (intros; omega), rfl⟩
      · go_enter Try.func83, Try.ntmps83
        go_wp2
        go_ret
        exact ⟨_, by simp [*] <;> (intros; omega), rfl⟩
    · go_enter Try.func83, Try.ntmps83
      go_wp2
      go_ret
      exact ⟨_, by simp [*] <;> (intros; omega), rfl⟩
  · go_enter Try.func83, Try.ntmps83
    go_wp2
    go_ret
    exact ⟨_, by simp [*] <;> (intros; omega), rfl⟩
theorem crop_no' {WA HA : Int} {zA : List Nat} {x y wd hg : Int} (h : validB WA HA zA = false ∨ fitsB x wd WA = false ∨ fitsB y hg HA = false) : resCrop WA HA zA x y wd hg = PRes.no := by
  unfold resCrop
  rcases h with h | h | h <;> simp [h]
theorem c_iCropPicture (WA HA : Int) (zA : List Nat) (aA : Option Addr) (cA : Nat) (x y wd hg : Int) (w : World) (rA : IsRowF .f32 w aA zA.length cA zA) (hwx : (Lit.int .i64 x).wf = true) (hwy : (Lit.int .i64 y).wf = true) (hww : (Lit.int .i64 wd).wf = true) (hwh : (Lit.int .i64 hg).wf = true) : Calls Try.prog 38 #[.agg #[.int .i64 WA, .int .i64 HA, .slice aA zA.length cA], .int .i64 x, .int .i64 y, .int .i64 wd, .int .i64 hg] w (RetP 25 (resCrop WA HA zA x y wd hg) w) := by
  clear hwx hwy hww hwh
  generalize hw0 : (w.alloc (Obj.cells #[.int .i64 WA, .int .i64 HA, .slice aA zA.length cA] 27)).alloc (Obj.cells #[.int .i64 0, .int .i64 0, .slice none 0 0] 27) = w0
  have X0 : Var w0 w.heap.size #[.int .i64 WA, .int .i64 HA, .slice aA zA.length cA] := by subst hw0; exact (Var.new _ _ _).alloc _
  have X1 : Var w0 (w.heap.size + 1) #[.int .i64 0, .int .i64 0, .slice none 0 0] := by subst hw0; exact Var.new' _ _ _ _ (by simp)
  have X2 : Free w0 (w.heap.size + 1) := by subst hw0; exact Free.new' _ _ _ _ (by simp)
  have X3 : Below w.heap.size w w0 := by subst hw0; exact ((Below.refl _ _).alloc (Nat.le_refl _) _).alloc (by simp) _
  have X4 : w0.heap.size = w.heap.size + 1 + 1 := by subst hw0; simp
  have HW := Lib.hid hw0
  have V0 := Lib.hid X0
  have V1 := Lib.hid X1
  have F1 := Lib.hid X2
  have B0 := Lib.hid X3
  have RX := Lib.hid (rA.below X3)
  have CV := Lib.hid (c_iValid WA HA aA _ cA zA w0 (rA.below X3))
  clear hw0 X0 X1 X2 X3
  cases hv : validB WA HA zA
  · rw [crop_no' (.inl hv)]
    have HS := Lib.hid hv
    clear hv rA
    go_enter Try.func38, Try.ntmps38
    go_wp2_with fail
    rw [HW.out]
    refine CV.out.mono ?_
    rintro _ w1 ⟨rfl, b⟩
    rw [HS.out]
    have UU := Lib.hid (V0.out.keep b)
    have VV := Lib.hid (V1.out.keep b)
    have FF := Lib.hid (F1.out.below V1.out.lt b)
    have BB := Lib.hid (B0.out.trans (b.mono (by omega)))
    have RR := Lib.hid (RX.out.below b)
    have zz : w.heap.size + 1 < w1.heap.size := VV.out.lt
    clear b
    obtain ⟨u0, u1, u2⟩ := UU.out.three
    obtain ⟨q0, q1, q2⟩ := VV.out.three
    have f0 := FF.out 0
    have f1 := FF.out 1
    have f2 := FF.out 2
    rw [← w1.drewN_zero]
    go_wp2_with fail
    refine bodyPost_ret (v := .tuple #[.agg #[.int .i64 0, .int .i64 0, .slice none 0 0], .bool false]) (by simp [results, Try.results38, q0, q1, q2, go_sem]) rfl (show RetP _ PRes.no _ _ _ from ⟨none, 0, rfl, Nat.zero_le _, ?_, Own.nil _ _ _⟩)
    repeat (first | exact BB.out | exact Nat.le_refl _ | (refine Below.setCell ?_ ?_ _) | (refine below_drewN ?_ _) | (refine Below.alloc ?_ ?_ _) | (simp <;> omega))
  have hsb : sideB WA HA = true := by have h := hv; simp only [validB, Bool.and_eq_true] at h; exact h.1.1
  obtain ⟨⟨s1, s2⟩, s3, s4⟩ := sideB_true hsb
  clear hsb
  have FX := Lib.hid (fun (w1 : World) (j : Nat) => c_fits x wd WA w1 j ⟨s1, s2⟩)
  have FY := Lib.hid (fun (w1 : World) (j : Nat) => c_fits y hg HA w1 j ⟨s3, s4⟩)
  cases h1 : fitsB x wd WA
  · rw [crop_no' (.inr (.inl h1))]
    have HS := Lib.hid hv
    clear hv rA
    go_enter Try.func38, Try.ntmps38
    go_wp2_with fail
    rw [HW.out]
    refine CV.out.mono ?_
    rintro _ w1 ⟨rfl, b⟩
    rw [HS.out]
    have UU := Lib.hid (V0.out.keep b)
    have VV := Lib.hid (V1.out.keep b)
    have FF := Lib.hid (F1.out.below V1.out.lt b)
    have BB := Lib.hid (B0.out.trans (b.mono (by omega)))
    have RR := Lib.hid (RX.out.below b)
    have zz : w.heap.size + 1 < w1.heap.size := VV.out.lt
    clear b
    obtain ⟨u0, u1, u2⟩ := UU.out.three
    obtain ⟨q0, q1, q2⟩ := VV.out.three
    have f0 := FF.out 0
    have f1 := FF.out 1
    have f2 := FF.out 2
    rw [← w1.drewN_zero]
    go_wp2_with (go_at_call 83; first | ((with_reducible refine (FX.out _ _).mono ?_); rintro _ _ ⟨_, rfl, rfl⟩) | ((with_reducible refine (FY.out _ _).mono ?_); rintro _ _ ⟨_, rfl, rfl⟩))
    refine bodyPost_ret (v := .tuple #[.agg #[.int .i64 0, .int .i64 0, .slice none 0 0], .bool false]) (by simp [results, Try.results38, q0, q1, q2, go_sem]) rfl (show RetP _ PRes.no _ _ _ from ⟨none, 0, rfl, Nat.zero_le _, ?_, Own.nil _ _ _⟩)
    repeat (first | exact BB.out | exact Nat.le_refl _ | (refine Below.setCell ?_ ?_ _) | (refine below_drewN ?_ _) | (refine Below.alloc ?_ ?_ _) | (simp <;> omega))
  cases h2 : fitsB y hg HA
  · rw [crop_no' (.inr (.inr h2))]
    have HS := Lib.hid hv
    clear hv rA
    go_enter Try.func38, Try.ntmps38
    go_wp2_with fail
    rw [HW.out]
    refine CV.out.mono ?_
    rintro _ w1 ⟨rfl, b⟩
    rw [HS.out]
    have UU := Lib.hid (V0.out.keep b)
    have VV := Lib.hid (V1.out.keep b)
    have FF := Lib.hid (F1.out.below V1.out.lt b)
    have BB := Lib.hid (B0.out.trans (b.mono (by omega)))
    have RR := Lib.hid (RX.out.below b)
    have zz : w.heap.size + 1 < w1.heap.size := VV.out.lt
    clear b
    obtain ⟨u0, u1, u2⟩ := UU.out.three
    obtain ⟨q0, q1, q2⟩ := VV.out.three
    have f0 := FF.out 0
    have f1 := FF.out 1
    have f2 := FF.out 2
    rw [← w1.drewN_zero]
    go_wp2_with (go_at_call 83; first | ((with_reducible refine (FX.out _ _).mono ?_); rintro _ _ ⟨_, rfl, rfl⟩) | ((with_reducible refine (FY.out _ _).mono ?_); rintro _ _ ⟨_, rfl, rfl⟩))
    refine bodyPost_ret (v := .tuple #[.agg #[.int .i64 0, .int .i64 0, .slice none 0 0], .bool false]) (by simp [results, Try.results38, q0, q1, q2, go_sem]) rfl (show RetP _ PRes.no _ _ _ from ⟨none, 0, rfl, Nat.zero_le _, ?_, Own.nil _ _ _⟩)
    repeat (first | exact BB.out | exact Nat.le_refl _ | (refine Below.setCell ?_ ?_ _) | (refine below_drewN ?_ _) | (refine Below.alloc ?_ ?_ _) | (simp <;> omega))
  have hres : resCrop WA HA zA x y wd hg = ⟨wd, hg, cropL zA WA.toNat x.toNat y.toNat wd.toNat hg.toNat, true⟩ := by unfold resCrop; rw [hv, h1, h2]; rfl
  rw [hres]
  clear hres
  have HS := Lib.hid hv
  have H1 := Lib.hid h1
  have H2 := Lib.hid h2
  have hb := hv
  have hfx := h1
  have hfy := h2
  clear hv h1 h2
  obtain ⟨Wn, Hn, xn, yn, wn, hn, rfl, rfl, rfl, rfl, rfl, rfl, hln, hW16, hH16, hw1, hh1, hxw, hyh⟩ := crop_nats hb hfx hfy
  rw [Int.toNat_natCast, Int.toNat_natCast, Int.toNat_natCast, Int.toNat_natCast, Int.toNat_natCast]
  have hl1 := (valid_len hb).2.2
  have hfinz := valid_fin hb
  have RAw := rA.2.2.2.1
  obtain ⟨N, hNN⟩ : ∃ N, N = wn * hn := ⟨_, rfl⟩
  have hN2 : N ≤ 256 := by rw [hNN]; exact Nat.le_trans (Nat.mul_le_mul (show wn ≤ 16 by omega) (show hn ≤ 16 by omega)) (by decide)
  have mw : IntKind.i64.wrap ((wn : Int) * (hn : Int)) = (N : Int) := by rw [hNN]; rw [show ((wn : Int) * (hn : Int)) = ((wn * hn : Nat) : Int) by rw [Int.natCast_mul]]; exact IntWalk.i64_in _ (by omega)
  obtain ⟨L, hL⟩ : ∃ L, L = cropL zA Wn xn yn wn hn := ⟨_, rfl⟩
  have HAt := Lib.hid (fun (k : Nat) (hk : k < N) => (by rw [hL]; exact cropL_at (by rw [← hNN]; exact hk) : fat L k = fat zA (cropK Wn xn yn wn k)))
  have HLn := Lib.hid (show L.length = N by rw [hL, cropL_len, hNN])
  have HFi := Lib.hid (show L.all (finB .f32) = true by rw [hL]; exact crop_fin hln hxw hyh hw1 hfinz)
  have HLw := Lib.hid (show ∀ b ∈ L, (Lit.float .f32 b).wf = true by rw [hL]; exact fun b h => RAw _ (crop_mem2 hln hxw hyh hw1 b h))
  have HLT := Lib.hid (fun (k : Nat) (hk : k < N) => lt_of_wf (RAw _ (crop_mem (k := k) hln hxw hyh hw1 (by rw [← hNN]; exact hk))))
  have HDv := Lib.hid (fun (k : Nat) (hk : k < N) => crop_div (wn := wn) (hn := hn) (k := k) (by rw [← hNN]; exact hk) hw1)
  have HLL := Lib.hid hln
  have HVal := Lib.hid (show validB (wn : Int) (hn : Int) L = true by rw [hL]; exact crop_valid hln hxw hyh hw1 hh1 hW16 hH16 hfinz)
  have HNN := Lib.hid hNN
  have hW1 : 1 ≤ Wn := by omega
  rw [← hL]
  have HSeg := Lib.hid (fun (j t : Nat) (hj : j < hn) (ht : t < wn) => (by
    have hk : j * wn + t < wn * hn := by
      have h9 : (j + 1) * wn ≤ hn * wn := Nat.mul_le_mul_right _ (by omega)
      rw [Nat.succ_mul, Nat.mul_comm hn wn] at h9; omega
    rw [hL, cropL_at hk]
    unfold cropK
    rw [Nat.mul_comm j wn, Nat.mul_add_div (by omega), Nat.div_eq_of_lt ht, Nat.add_zero, Nat.mul_add_mod, Nat.mod_eq_of_lt ht] : fat L (j * wn + t) = fat zA ((yn + j) * Wn + (xn + t))))
  clear hL hb hfx hfy hfinz RAw rA hNN
  have CR := Lib.hid (fun (j : Nat) (hj : j < hn) (w' : World) (hr : IsRowF .f32 w' aA zA.length cA zA) => @id (Calls Try.prog 84 #[.agg #[.int .i64 (Wn : Int), .int .i64 (Hn : Int), .slice aA zA.length cA], .int .i64 ((yn : Int) + (j : Int))] w' (fun e w'' => ∃ b off, aA = some ⟨b, off, none⟩ ∧ e = .returned (.slice (some ⟨b, off + (yn + j) * Wn, none⟩) Wn Wn) ∧ Below w'.heap.size w' w'')) (by
    have h := c_rowOf Wn Hn aA cA zA (yn + j) w' hr hW1 hW16 hH16 hln (by omega)
    rwa [Int.natCast_add] at h))
  clear hln
  obtain ⟨i0, hinf, hz0, hz1, hz2⟩ := info_parts infoFo
  have h1 := H1.out
  have h2 := H2.out
  go_enter Try.func38, Try.ntmps38
  go_wp2_with fail
  rw [HW.out]
  refine CV.out.mono ?_
  rintro _ w1 ⟨rfl, b⟩
  rw [HS.out]
  have UU := Lib.hid (V0.out.keep b)
  have VV := Lib.hid (V1.out.keep b)
  have FF := Lib.hid (F1.out.below V1.out.lt b)
  have BB := Lib.hid (B0.out.trans (b.mono (by omega)))
  have RR := Lib.hid (RX.out.below b)
  have zz : w.heap.size + 1 < w1.heap.size := VV.out.lt
  clear b
  obtain ⟨u0, u1, u2⟩ := UU.out.three
  obtain ⟨q0, q1, q2⟩ := VV.out.three
  have f0 := FF.out 0
  have f1 := FF.out 1
  have f2 := FF.out 2
  rw [← w1.drewN_zero]
  have KX := Lib.hid (fun (wr : World) (hB : Below w1.heap.size w1 wr) => (UU.out.keep hB).three)
  clear f0 f1 f2 q0 q1 q2
  go_wp2_with (first | (go_at_call 83; first | ((with_reducible refine (FX.out _ _).mono ?_); rintro _ _ ⟨_, rfl, rfl⟩) | ((with_reducible refine (FY.out _ _).mono ?_); rintro _ _ ⟨_, rfl, rfl⟩)) | (at_make; refine wpList_make_own _ rfl _ _ 22 rfl w1.heap.size 25 i0 (.float .f32 0) 1 Try.underlying22 hinf hz0 hz1 _ _ _ N rfl rfl rfl (by rw [hz2]; omega) (by unfold maxLen; omega) (by simp) ?_; intro w4 hown hgrow; have B4 : Below w1.heap.size w1 w4 := (below_drewN (Below.refl _ _) _).grown hgrow (by simp) (by simp); obtain ⟨g0, g1, g2⟩ := KX.out w4 B4))
  have OW : Own 25 w4 w1.heap.size (some ⟨w1.heap.size, 0, none⟩) 0 N [] := ⟨rfl, hown, by simp⟩
  have HO4 := Lib.hid OW
  have HB4 := Lib.hid B4
  clear hown hgrow B4 OW u0 u1 u2 g0 g1 g2 mw h1 h2
  go_loopw [12, 13, 14, 40] (fun l _ _ i wr => ∃ (j k : Nat) (a : Option Addr) (c : Nat), j ≤ hn ∧ k = j * wn ∧ i = .int .i64 j ∧ l = .slice a k c ∧ Own 25 wr w1.heap.size a k c (L.take k) ∧ Below w1.heap.size w1 wr) (fun _ _ _ i _ => hn - (intOf i).toNat)
  case atStart => exact ⟨0, 0, _, _, Nat.zero_le _, by simp, rfl, rfl, HO4.out, HB4.out⟩
  case round =>
    obtain ⟨j, k, a, c, hj, hk, rfl, rfl, hO, hB⟩ := hrel
    have HO := Lib.hid hO
    have HB := Lib.hid hB
    have HK := Lib.hid hk
    clear hO hB hk
    obtain ⟨d0, d1, d2⟩ := KX.out wr HB.out
    by_cases hlj : j < hn
    · have hkN : k + wn ≤ N := by
        rw [HNN.out, HK.out]
        have h9 : (j + 1) * wn ≤ hn * wn := Nat.mul_le_mul_right _ (by omega)
        rw [Nat.succ_mul, Nat.mul_comm hn wn] at h9; exact h9
      go_wp2_with fail
      refine (CR.out j hlj _ (RR.out.below HB.out)).mono ?_
      rintro _ w5 ⟨b0, off, rfl, rfl, b5⟩
      have HO5 := Lib.hid (HO.out.below b5)
      have HB5 := Lib.hid (HB.out.trans (b5.mono HB.out.size))
      have z5 : w1.heap.size ≤ w5.heap.size := HB5.out.size
      have R5 := Lib.hid ((RR.out.below HB.out).below b5)
      clear b5 d0 d1 d2
      obtain ⟨P, hP⟩ : ∃ P, P = (yn + j) * Wn := ⟨_, rfl⟩
      rw [← hP]
      have HP := Lib.hid hP
      clear hP
      have HSL := Lib.hid (show ((L.drop k).take wn).length = wn by rw [List.length_take, List.length_drop, HLn.out]; omega)
      go_wp2_with (at_builtin; (refine wpList_append_own _ rfl _ _ 22 rfl w1.heap.size 25 i0 (.float .f32 0) 1 4 Try.underlying22 hinf hz0 hz1 hz2 rfl (by decide) _ _ _ rfl (HO5.out.2.1) ⟨b0, off + P + xn, none⟩ (xn + wn - xn) (xn + wn - xn) (fl .f32 ((L.drop k).take wn)) rfl ?c1 ?c2 ?c3 ?c4 ?c5 ?c6 ?_))
      case c1 => first | (unfold fl; rw [List.length_map, HSL.out]; omega) | (simp [fl]; have := HLn.out; omega)
      case c2 =>
        intro t u hu
        have ht : t < wn := by
          have h7 := (List.getElem?_eq_some_iff.1 hu).1
          unfold fl at h7
          rw [List.length_map, HSL.out] at h7
          exact h7
        have e1 : (fl FloatKind.f32 ((L.drop k).take wn))[t]? = some (.float .f32 (fat L (k + t))) := by
          have hkt : k + t < L.length := by rw [HLn.out]; omega
          simp [fl, fat, ht, hkt]
        rw [e1] at hu
        cases hu
        have e2 := HSeg.out j t hlj ht
        rw [← HK.out, ← HP.out] at e2
        have hidx := crop_idx hxw hyh ht hlj
        rw [← HLL.out, ← HP.out] at hidx
        have hcell := (by
          have h := R5.out.2.2.2.2
          rcases h with h | ⟨b', off', he, hb', hc'⟩
          · omega
          · cases he; exact hc' _ hidx : w5.cell? ⟨b0, off + (P + (xn + t)), none⟩ = some (.float .f32 (fat zA (P + (xn + t)))))
        have e3 : ((⟨b0, off + P + xn, none⟩ : Addr).add t) = ⟨b0, off + (P + (xn + t)), none⟩ := by
          have e4 : ((⟨b0, off + P + xn, none⟩ : Addr).add t) = ⟨b0, off + P + xn + t, none⟩ := by simp [Addr.add]
          rw [e4, show off + P + xn + t = off + (P + (xn + t)) by omega]
        rw [e3, hcell, e2]
      case c3 => intro u hu; unfold fl at hu; obtain ⟨q, _, rfl⟩ := List.mem_map.1 hu; rfl
      case c4 => unfold maxLen; omega
      case c5 => omega
      case c6 => exact z5
      intro v' w6 hown' hgrow _
      try rw [Nat.add_sub_cancel_left] at hown'
      have hB6 : Below w1.heap.size w1 w6 := HB5.out.grown hgrow z5 (fun g e => by have := HO5.out.in g (by rw [← own_blk _ k c]; exact e); exact this.1)
      have hT : L.take k ++ (L.drop k).take wn = L.take (k + wn) := (List.take_add).symm
      obtain ⟨a', c', rfl, hO6⟩ := own_apps hown' HO5.out.1 HSL.out hw1 (by rw [hT]; exact fun b h => HLw.out b (List.mem_of_mem_take h))
      rw [hT] at hO6
      have GO := Lib.hid hO6
      have GB := Lib.hid hB6
      clear hown' hgrow hB6 hO6 hT
      go_wp2_with fail
      go_roundw
      case rel => exact ⟨j + 1, k + wn, a', c', by omega, by rw [HK.out, Nat.succ_mul], by go_num, rfl, GO.out, GB.out⟩
      case measure => simp [intOf]; omega
    · obtain rfl : j = hn := by omega
      have hkN : k = N := by rw [HK.out, HNN.out, Nat.mul_comm]
      subst hkN
      have hO2 : Own 25 wr w1.heap.size a k c L := by have h := HO.out; rwa [List.take_of_length_le (by rw [HLn.out]; exact Nat.le_refl _)] at h
      have O2 := Lib.hid hO2
      clear hO2
      have VR := Lib.hid (VV.out.keep HB.out)
      have FR := Lib.hid (FF.out.below zz HB.out)
      have BW := Lib.hid (BB.out.trans (HB.out.mono (by omega)))
      have SW : w1.heap.size ≤ wr.heap.size := HB.out.size
      go_wp2_with fail
      refine (c_ifValid_yes _ _ _ _ _ _ wr O2.out.row HVal.out).mono ?_
      rintro _ wz ⟨rfl, b⟩
      obtain ⟨cr0, cr1, cr2⟩ := (VR.out.keep b).three
      have fr := FR.out.below (by omega) b
      have f0 := fr 0
      have f1 := fr 1
      have f2 := fr 2
      have hsz := b.size
      have HB2 := Lib.hid (BW.out.trans (b.mono (by omega)))
      have HO2 := Lib.hid (O2.out.below b)
      clear fr b
      go_wp2_with fail
      have hrow : blk a ≠ some (w.heap.size + 1) := fun e => by have := HO2.out.in _ e; omega
      refine bodyPost_ret (v := .tuple #[.agg #[.int .i64 (wn : Int), .int .i64 (j : Int), .slice a k c], .bool true]) (by simp [results, Try.results38, cr0, cr1, cr2, go_sem]) rfl ⟨_, _, by rw [HLn.out], by (show L.length ≤ 1048576); rw [HLn.out]; omega, ((HB2.out.setCell (by simp <;> omega) _).setCell (by simp <;> omega) _).setCell (by simp <;> omega) _, (((Own.re HLn.out.symm HO2.out).setCell hrow _).setCell hrow _).setCell hrow _ |>.mono (by omega)⟩
/-! ### lawCrop -/
theorem c_sCropPicture (WA HA : Int) (zA : List Nat) (aA : Option Addr) (cA : Nat) (x y wd hg : Int) (w : World) (rA : IsRowF .f32 w aA zA.length cA zA) (hwx : (Lit.int .i64 x).wf = true) (hwy : (Lit.int .i64 y).wf = true) (hww : (Lit.int .i64 wd).wf = true) (hwh : (Lit.int .i64 hg).wf = true) : Calls Try.prog 37 #[.agg #[.int .i64 WA, .int .i64 HA, .slice aA zA.length cA], .int .i64 x, .int .i64 y, .int .i64 wd, .int .i64 hg] w (RetP 25 (resCrop WA HA zA x y wd hg) w) := by
  cases hv : validB WA HA zA
  · rw [crop_no' (.inl hv)]; exact c_sCrop_no1 WA HA zA aA cA x y wd hg w rA hv
  have hsb : sideB WA HA = true := by have h := hv; simp only [validB, Bool.and_eq_true] at h; exact h.1.1
  have hd := sideB_true hsb
  cases hs2 : sideB wd hg
  · have hn : fitsB x wd WA = false ∨ fitsB y hg HA = false := by
      have := sideB_false hs2
      cases e1 : fitsB x wd WA
      · exact .inl rfl
      · cases e2 : fitsB y hg HA
        · exact .inr rfl
        · simp only [fitsB, Bool.and_eq_true, decide_eq_true_eq] at e1 e2; omega
    rw [crop_no' (.inr hn)]; exact c_sCrop_no2 WA HA zA aA cA x y wd hg w rA hv hs2
  have hd2 := sideB_true hs2
  cases hx2 : (decide (0 ≤ x) && decide (x ≤ WA - wd))
  · have hn : fitsB x wd WA = false := by
      cases e1 : fitsB x wd WA
      · rfl
      · simp only [fitsB, Bool.and_eq_true, decide_eq_true_eq] at e1
        simp only [Bool.and_eq_false_iff, decide_eq_false_iff_not] at hx2
        omega
    rw [crop_no' (.inr (.inl hn))]; exact c_sCrop_no3 WA HA zA aA cA x y wd hg w rA hv hs2 hx2
  cases hy2 : (decide (0 ≤ y) && decide (y ≤ HA - hg))
  · have hn : fitsB y hg HA = false := by
      cases e1 : fitsB y hg HA
      · rfl
      · simp only [fitsB, Bool.and_eq_true, decide_eq_true_eq] at e1
        simp only [Bool.and_eq_false_iff, decide_eq_false_iff_not] at hy2
        omega
    rw [crop_no' (.inr (.inr hn))]; exact c_sCrop_no4 WA HA zA aA cA x y wd hg w rA hv hs2 hx2 hy2
  simp only [Bool.and_eq_true, decide_eq_true_eq] at hx2 hy2
  have e1 : fitsB x wd WA = true := by simp only [fitsB, Bool.and_eq_true, decide_eq_true_eq]; omega
  have e2 : fitsB y hg HA = true := by simp only [fitsB, Bool.and_eq_true, decide_eq_true_eq]; omega
  have hres : resCrop WA HA zA x y wd hg = ⟨wd, hg, cropL zA WA.toNat x.toNat y.toNat wd.toNat hg.toNat, true⟩ := by unfold resCrop; rw [hv, e1, e2]; rfl
  rw [hres]
  exact c_sCrop_yes WA HA zA aA cA x y wd hg w rA hv e1 e2

/-! ### FnExactCropPicture -/
set_option maxHeartbeats 8000000 in
theorem walkG (WP HP : Int) (zP : List Nat) (aP : Option Addr) (cP : Nat) (xX : Int) (xY : Int) (xW : Int) (xH : Int) (w : World) (r : PRes) (cS : ∀ (aP : Option Addr) (cP : Nat) (w : World), IsRowF .f32 w aP zP.length cP zP → Calls Try.prog 37 #[.agg #[.int .i64 WP, .int .i64 HP, .slice aP zP.length cP], .int .i64 xX, .int .i64 xY, .int .i64 xW, .int .i64 xH] w (RetP 25 r w)) (cI : ∀ (aP : Option Addr) (cP : Nat) (w : World), IsRowF .f32 w aP zP.length cP zP → Calls Try.prog 38 #[.agg #[.int .i64 WP, .int .i64 HP, .slice aP zP.length cP], .int .i64 xX, .int .i64 xY, .int .i64 xW, .int .i64 xH] w (RetP 25 r w)) (rP : IsRowF .f32 w aP zP.length cP zP) (hl : zP.length ≤ 1048576) : Calls Try.prog 11 #[.agg #[.int .i64 WP, .int .i64 HP, .slice aP zP.length cP], .int .i64 xX, .int .i64 xY, .int .i64 xW, .int .i64 xH] w fun e w' => e = .returned (.bool true) ∧ Below w.heap.size w w' := by
  have CS := Lib.hid cS
  have CI := Lib.hid cI
  clear cS cI
  have RP := Lib.hid rP
  clear rP
  go_enter Try.func11, Try.ntmps11
  go_wp2_with fail
  refine (c_szP WP HP aP zP.length cP (1048576 : Int) _ (by omega) (by omega)).mono ?_
  rintro _ w1 ⟨rfl, b⟩
  have VpP_1 := Lib.hid ((Var.new' _ _ _ (w.heap.size) (by first | rfl | simp)).keep b)
  have B_1 := Lib.hid (((Below.refl w.heap.size w).alloc (Nat.le_refl _) _).trans (b.mono (by simp)))
  have S_1 : w.heap.size + 1 ≤ w1.heap.size := by have := b.size; simp at this; omega
  have zpP_1 : w.heap.size < w1.heap.size := by omega
  clear b
  have hzP : ¬ (((1048576 : Int) - (zP.length : Int)) < 0) := by omega
  obtain ⟨cpP0, cpP1, cpP2⟩ := VpP_1.out.three
  go_wp2_with fail
  clear cpP0 cpP1 cpP2
  refine (c_toP WP HP aP zP.length cP zP _ (RP.out.below B_1.out) (by omega)).mono ?_
  rintro _ w2 ⟨gt, rfl, b, o⟩
  have Lt := Lib.hid o.in
  have Ot_2 := Lib.hid o
  clear o
  have VpP_2 := Lib.hid (VpP_1.out.keep b)
  have B_2 := Lib.hid (B_1.out.trans (b.mono (by omega)))
  have S_2 : w1.heap.size + 0 ≤ w2.heap.size := by have := b.size; omega
  have zpP_2 : w.heap.size < w2.heap.size := by omega
  clear b
  clear VpP_1 zpP_1 B_1
  go_wp2_with fail
  refine (CS.out _ _ _ Ot_2.out.row).mono ?_
  rintro _ w3 ⟨au, cu, rfl, hrl, b, o⟩
  have Lu := Lib.hid o.in
  have Ou_3 := Lib.hid o
  clear o
  have VpP_3 := Lib.hid (VpP_2.out.keep b)
  have Ot_3 := Lib.hid (Ot_2.out.below b)
  have B_3 := Lib.hid (B_2.out.trans (b.mono (by omega)))
  have S_3 : w2.heap.size + 0 ≤ w3.heap.size := by have := b.size; omega
  have zpP_3 : w.heap.size < w3.heap.size := by omega
  clear b
  clear VpP_2 zpP_2 Ot_2 B_2
  clear Ot_3 Lt
  obtain ⟨cpP0, cpP1, cpP2⟩ := VpP_3.out.three
  go_wp2_with fail
  clear cpP0 cpP1 cpP2
  refine (c_toP WP HP aP zP.length cP zP _ ((RP.out.below B_3.out).alloc _) (by omega)).mono ?_
  rintro _ w4 ⟨gxP, rfl, b, o⟩
  have LxP := Lib.hid o.in
  have LxP := Lib.hid (by have h := LxP.out; simp only [World.size_alloc] at h; exact h)
  have OxP_4 := Lib.hid o
  clear o
  have VpP_4 := Lib.hid ((VpP_3.out.alloc _).keep b)
  have Vu_4 := Lib.hid ((Var.new' _ _ _ (w3.heap.size) (by first | rfl | simp)).keep b)
  have Ou_4 := Lib.hid ((Ou_3.out.alloc _).below b)
  have B_4 := Lib.hid ((B_3.out.alloc (by omega) _).trans (b.mono (by simp; omega)))
  have S_4 : w3.heap.size + 1 ≤ w4.heap.size := by have := b.size; simp at this; omega
  have zpP_4 : w.heap.size < w4.heap.size := by omega
  have zu_4 : w3.heap.size < w4.heap.size := by omega
  clear b
  clear VpP_3 zpP_3 Ou_3 B_3
  go_wp2_with fail
  refine (CI.out _ _ _ (OxP_4.out.alloc _).row).mono ?_
  rintro _ w5 ⟨ag, cg, rfl, hrl, b, o⟩
  clear hrl
  have Lg := Lib.hid o.in
  have Lg := Lib.hid (by have h := Lg.out; simp only [World.size_alloc] at h; exact h)
  have Og_5 := Lib.hid o
  clear o
  have VpP_5 := Lib.hid ((VpP_4.out.alloc _).keep b)
  have Vu_5 := Lib.hid ((Vu_4.out.alloc _).keep b)
  have VxP_5 := Lib.hid ((Var.new' _ _ _ (w4.heap.size) (by first | rfl | simp)).keep b)
  have Ou_5 := Lib.hid ((Ou_4.out.alloc _).below b)
  have OxP_5 := Lib.hid ((OxP_4.out.alloc _).below b)
  have B_5 := Lib.hid ((B_4.out.alloc (by omega) _).trans (b.mono (by simp; omega)))
  have S_5 : w4.heap.size + 1 ≤ w5.heap.size := by have := b.size; simp at this; omega
  have zpP_5 : w.heap.size < w5.heap.size := by omega
  have zu_5 : w3.heap.size < w5.heap.size := by omega
  have zxP_5 : w4.heap.size < w5.heap.size := by omega
  clear b
  clear VpP_4 zpP_4 Vu_4 zu_4 Ou_4 OxP_4 B_4
  obtain ⟨cu0, cu1, cu2⟩ := Vu_5.out.three
  go_wp2_with fail
  clear cu0 cu1 cu2
  refine (c_eqP _ _ _ _ _ _ _ _ _ (Og_5.out.alloc _).row (Ou_5.out.alloc _).row).mono ?_
  rintro _ w6 ⟨rfl, b⟩
  have VpP_6 := Lib.hid ((VpP_5.out.alloc _).keep b)
  have Vu_6 := Lib.hid ((Vu_5.out.alloc _).keep b)
  have VxP_6 := Lib.hid ((VxP_5.out.alloc _).keep b)
  have Vg_6 := Lib.hid ((Var.new' _ _ _ (w5.heap.size) (by first | rfl | simp)).keep b)
  have Ou_6 := Lib.hid ((Ou_5.out.alloc _).below b)
  have OxP_6 := Lib.hid ((OxP_5.out.alloc _).below b)
  have Og_6 := Lib.hid ((Og_5.out.alloc _).below b)
  have B_6 := Lib.hid ((B_5.out.alloc (by omega) _).trans (b.mono (by simp; omega)))
  have S_6 : w5.heap.size + 1 ≤ w6.heap.size := by have := b.size; simp at this; omega
  have zpP_6 : w.heap.size < w6.heap.size := by omega
  have zu_6 : w3.heap.size < w6.heap.size := by omega
  have zxP_6 : w4.heap.size < w6.heap.size := by omega
  have zg_6 : w5.heap.size < w6.heap.size := by omega
  clear b
  clear VpP_5 zpP_5 Vu_5 zu_5 VxP_5 zxP_5 Ou_5 OxP_5 Og_5 B_5
  obtain ⟨cpP0, cpP1, cpP2⟩ := VpP_6.out.three
  obtain ⟨cxP0, cxP1, cxP2⟩ := VxP_6.out.three
  go_wp2_with fail
  have D : Below w6.heap.size w6 w6.drew := (Below.refl _ _).drew
  have RD := Lib.hid ((RP.out.below B_6.out).below D)
  have XD := Lib.hid (OxP_6.out.below D)
  have HD := Lib.hid D
  clear D
  go_region_held3 (fun w' => w'.cell? ⟨w.heap.size, 0, none⟩ = some (.int .i64 WP) ∧ w'.cell? ⟨w.heap.size, 1, none⟩ = some (.int .i64 HP) ∧ w'.cell? ⟨w.heap.size, 2, none⟩ = some (.slice aP zP.length cP) ∧ w'.cell? ⟨w4.heap.size, 0, none⟩ = some (.int .i64 WP) ∧ w'.cell? ⟨w4.heap.size, 1, none⟩ = some (.int .i64 HP) ∧ w'.cell? ⟨w4.heap.size, 2, none⟩ = some (.slice (some ⟨gxP, 0, none⟩) zP.length zP.length)) (first | exact ⟨cpP0, cpP1, cpP2, cxP0, cxP1, cxP2⟩ | (have e1 := ((VpP_6.out.keep HD.out).keep b7).three; have e2 := ((VxP_6.out.keep HD.out).keep b7).three; exact ⟨e1.1, e1.2.1, e1.2.2, e2.1, e2.2.1, e2.2.2⟩) | (have e1 := (((VpP_6.out.keep HD.out).keep b7).keep b8).three; have e2 := (((VxP_6.out.keep HD.out).keep b7).keep b8).three; exact ⟨e1.1, e1.2.1, e1.2.2, e2.1, e2.2.1, e2.2.2⟩)) (first | (go_at_call 17; refine (c_toP WP HP aP zP.length cP zP _ RD.out (by omega)).mono ?_; rintro _ wt ⟨g7, rfl, b7, o7⟩) | (go_at_call 19; refine (c_eqP _ _ _ _ _ _ _ _ _ (XD.out.below b7).row o7.row).mono ?_; rintro _ w7 ⟨rfl, b8⟩))
  have b := HD.out.trans (b7.trans (b8.mono b7.size))
  clear RD XD HD b7 b8 o7
  clear cpP0 cpP1 cpP2 cxP0 cxP1 cxP2
  have VpP_7 := Lib.hid (VpP_6.out.keep b)
  have Vu_7 := Lib.hid (Vu_6.out.keep b)
  have VxP_7 := Lib.hid (VxP_6.out.keep b)
  have Vg_7 := Lib.hid (Vg_6.out.keep b)
  have Ou_7 := Lib.hid (Ou_6.out.below b)
  have OxP_7 := Lib.hid (OxP_6.out.below b)
  have Og_7 := Lib.hid (Og_6.out.below b)
  have B_7 := Lib.hid (B_6.out.trans (b.mono (by omega)))
  have S_7 : w6.heap.size + 0 ≤ w7.heap.size := by have := b.size; omega
  have zpP_7 : w.heap.size < w7.heap.size := by omega
  have zu_7 : w3.heap.size < w7.heap.size := by omega
  have zxP_7 : w4.heap.size < w7.heap.size := by omega
  have zg_7 : w5.heap.size < w7.heap.size := by omega
  clear b
  clear VpP_6 zpP_6 Vu_6 zu_6 VxP_6 zxP_6 Vg_6 zg_6 Ou_6 OxP_6 Og_6 B_6
  obtain ⟨cxP0, cxP1, cxP2⟩ := VxP_7.out.three
  go_wp2_with fail
  clear cxP0 cxP1 cxP2
  refine (c_markP _ _ _ _ _ _ 1 _ _ OxP_7.out (by omega)).mono ?_
  rintro _ w8 ⟨rfl, b, o⟩
  have On := Lib.hid o
  clear o
  have VpP_8 := Lib.hid (VpP_7.out.kept b (by intro e; have := LxP.out _ e.symm; omega))
  have Vu_8 := Lib.hid (Vu_7.out.kept b (by intro e; have := LxP.out _ e.symm; omega))
  have VxP_8 := Lib.hid (VxP_7.out.kept b (by intro e; have := LxP.out _ e.symm; omega))
  have Vg_8 := Lib.hid (Vg_7.out.kept b (by intro e; have := LxP.out _ e.symm; omega))
  have Ou_8 := Lib.hid (Ou_7.out.kept b (blk_apart Lu.out LxP.out (by omega)))
  have Og_8 := Lib.hid (Og_7.out.kept b (blk_apart Lg.out LxP.out (by omega)))
  have B_8 := Lib.hid (B_7.out.grown b (by omega) (fun k e => by have := LxP.out k e; omega))
  have S_8 : w7.heap.size ≤ w8.heap.size := b.size
  have zpP_8 : w.heap.size < w8.heap.size := by omega
  have zu_8 : w3.heap.size < w8.heap.size := by omega
  have zxP_8 : w4.heap.size < w8.heap.size := by omega
  have zg_8 : w5.heap.size < w8.heap.size := by omega
  clear b
  clear VpP_7 zpP_7 Vu_7 zu_7 VxP_7 zxP_7 Vg_7 zg_7 Ou_7 OxP_7 Og_7 B_7
  have OxP_8 := Lib.hid On.out
  clear On
  have hk : ¬ ((((1 + zP.length) : Nat) : Int) < 0) := by omega
  clear OxP_8 LxP
  obtain ⟨cg0, cg1, cg2⟩ := Vg_8.out.three
  obtain ⟨cu0, cu1, cu2⟩ := Vu_8.out.three
  go_wp2_with fail
  clear cg0 cg1 cg2 cu0 cu1 cu2
  refine (c_eqP _ _ _ _ _ _ _ _ _ Og_8.out.row Ou_8.out.row).mono ?_
  rintro _ w9 ⟨rfl, b⟩
  have VpP_9 := Lib.hid (VpP_8.out.keep b)
  have Vu_9 := Lib.hid (Vu_8.out.keep b)
  have VxP_9 := Lib.hid (VxP_8.out.keep b)
  have Vg_9 := Lib.hid (Vg_8.out.keep b)
  have Ou_9 := Lib.hid (Ou_8.out.below b)
  have Og_9 := Lib.hid (Og_8.out.below b)
  have B_9 := Lib.hid (B_8.out.trans (b.mono (by omega)))
  have S_9 : w8.heap.size + 0 ≤ w9.heap.size := by have := b.size; omega
  have zpP_9 : w.heap.size < w9.heap.size := by omega
  have zu_9 : w3.heap.size < w9.heap.size := by omega
  have zxP_9 : w4.heap.size < w9.heap.size := by omega
  have zg_9 : w5.heap.size < w9.heap.size := by omega
  clear b
  clear VpP_8 zpP_8 Vu_8 zu_8 VxP_8 zxP_8 Vg_8 zg_8 Ou_8 Og_8 B_8
  obtain ⟨cg0, cg1, cg2⟩ := Vg_9.out.three
  go_wp2_with fail
  clear cg0 cg1 cg2
  refine (c_markP _ _ _ _ _ _ 1 _ _ Og_9.out (by omega)).mono ?_
  rintro _ w10 ⟨rfl, b, o⟩
  have On := Lib.hid o
  clear o
  have VpP_10 := Lib.hid (VpP_9.out.kept b (by intro e; have := Lg.out _ e.symm; omega))
  have Vu_10 := Lib.hid (Vu_9.out.kept b (by intro e; have := Lg.out _ e.symm; omega))
  have VxP_10 := Lib.hid (VxP_9.out.kept b (by intro e; have := Lg.out _ e.symm; omega))
  have Vg_10 := Lib.hid (Vg_9.out.kept b (by intro e; have := Lg.out _ e.symm; omega))
  have Ou_10 := Lib.hid (Ou_9.out.kept b (blk_apart Lu.out Lg.out (by omega)))
  have B_10 := Lib.hid (B_9.out.grown b (by omega) (fun k e => by have := Lg.out k e; omega))
  have S_10 : w9.heap.size ≤ w10.heap.size := b.size
  have zpP_10 : w.heap.size < w10.heap.size := by omega
  have zu_10 : w3.heap.size < w10.heap.size := by omega
  have zxP_10 : w4.heap.size < w10.heap.size := by omega
  have zg_10 : w5.heap.size < w10.heap.size := by omega
  clear b
  clear VpP_9 zpP_9 Vu_9 zu_9 VxP_9 zxP_9 Vg_9 zg_9 Ou_9 Og_9 B_9
  have Og_10 := Lib.hid On.out
  clear On
  obtain ⟨cg0, cg1, cg2⟩ := Vg_10.out.three
  go_wp2_with fail
  clear cg0 cg1 cg2
  refine (c_heldP _ _ _ _ _ 1 _ Og_10.out.row (by omega)).mono ?_
  rintro _ w11 ⟨rfl, b⟩
  have VpP_11 := Lib.hid (VpP_10.out.keep b)
  have Vu_11 := Lib.hid (Vu_10.out.keep b)
  have VxP_11 := Lib.hid (VxP_10.out.keep b)
  have Vg_11 := Lib.hid (Vg_10.out.keep b)
  have Ou_11 := Lib.hid (Ou_10.out.below b)
  have Og_11 := Lib.hid (Og_10.out.below b)
  have B_11 := Lib.hid (B_10.out.trans (b.mono (by omega)))
  have S_11 : w10.heap.size + 0 ≤ w11.heap.size := by have := b.size; omega
  have zpP_11 : w.heap.size < w11.heap.size := by omega
  have zu_11 : w3.heap.size < w11.heap.size := by omega
  have zxP_11 : w4.heap.size < w11.heap.size := by omega
  have zg_11 : w5.heap.size < w11.heap.size := by omega
  clear b
  clear VpP_10 zpP_10 Vu_10 zu_10 VxP_10 zxP_10 Vg_10 zg_10 Ou_10 Og_10 B_10
  have hq : ¬ (((1 + r.zs.length : Nat) : Int) < 0) := by omega
  obtain ⟨cpP0, cpP1, cpP2⟩ := VpP_11.out.three
  go_wp2_with fail
  clear cpP0 cpP1 cpP2
  refine (c_toP WP HP aP zP.length cP zP _ (RP.out.below B_11.out) (by omega)).mono ?_
  rintro _ w12 ⟨gt, rfl, b, o⟩
  have Lt := Lib.hid o.in
  have Ot_12 := Lib.hid o
  clear o
  have VpP_12 := Lib.hid (VpP_11.out.keep b)
  have Vu_12 := Lib.hid (Vu_11.out.keep b)
  have VxP_12 := Lib.hid (VxP_11.out.keep b)
  have Vg_12 := Lib.hid (Vg_11.out.keep b)
  have Ou_12 := Lib.hid (Ou_11.out.below b)
  have Og_12 := Lib.hid (Og_11.out.below b)
  have B_12 := Lib.hid (B_11.out.trans (b.mono (by omega)))
  have S_12 : w11.heap.size + 0 ≤ w12.heap.size := by have := b.size; omega
  have zpP_12 : w.heap.size < w12.heap.size := by omega
  have zu_12 : w3.heap.size < w12.heap.size := by omega
  have zxP_12 : w4.heap.size < w12.heap.size := by omega
  have zg_12 : w5.heap.size < w12.heap.size := by omega
  clear b
  clear VpP_11 zpP_11 Vu_11 zu_11 VxP_11 zxP_11 Vg_11 zg_11 Ou_11 Og_11 B_11
  go_wp2_with fail
  refine (CI.out _ _ _ Ot_12.out.row).mono ?_
  rintro _ w13 ⟨ah, ch, rfl, hrl, b, o⟩
  clear hrl
  have Lh := Lib.hid o.in
  have Oh_13 := Lib.hid o
  clear o
  have VpP_13 := Lib.hid (VpP_12.out.keep b)
  have Vu_13 := Lib.hid (Vu_12.out.keep b)
  have VxP_13 := Lib.hid (VxP_12.out.keep b)
  have Vg_13 := Lib.hid (Vg_12.out.keep b)
  have Ou_13 := Lib.hid (Ou_12.out.below b)
  have Og_13 := Lib.hid (Og_12.out.below b)
  have Ot_13 := Lib.hid (Ot_12.out.below b)
  have B_13 := Lib.hid (B_12.out.trans (b.mono (by omega)))
  have S_13 : w12.heap.size + 0 ≤ w13.heap.size := by have := b.size; omega
  have zpP_13 : w.heap.size < w13.heap.size := by omega
  have zu_13 : w3.heap.size < w13.heap.size := by omega
  have zxP_13 : w4.heap.size < w13.heap.size := by omega
  have zg_13 : w5.heap.size < w13.heap.size := by omega
  clear b
  clear VpP_12 zpP_12 Vu_12 zu_12 VxP_12 zxP_12 Vg_12 zg_12 Ou_12 Og_12 Ot_12 B_12
  clear Ot_13 Lt
  obtain ⟨cu0, cu1, cu2⟩ := Vu_13.out.three
  go_wp2_with fail
  clear cu0 cu1 cu2
  refine (c_eqP _ _ _ _ _ _ _ _ _ (Oh_13.out.alloc _).row (Ou_13.out.alloc _).row).mono ?_
  rintro _ w14 ⟨rfl, b⟩
  have VpP_14 := Lib.hid ((VpP_13.out.alloc _).keep b)
  have Vu_14 := Lib.hid ((Vu_13.out.alloc _).keep b)
  have VxP_14 := Lib.hid ((VxP_13.out.alloc _).keep b)
  have Vg_14 := Lib.hid ((Vg_13.out.alloc _).keep b)
  have Vh_14 := Lib.hid ((Var.new' _ _ _ (w13.heap.size) (by first | rfl | simp)).keep b)
  have Ou_14 := Lib.hid ((Ou_13.out.alloc _).below b)
  have Og_14 := Lib.hid ((Og_13.out.alloc _).below b)
  have Oh_14 := Lib.hid ((Oh_13.out.alloc _).below b)
  have B_14 := Lib.hid ((B_13.out.alloc (by omega) _).trans (b.mono (by simp; omega)))
  have S_14 : w13.heap.size + 1 ≤ w14.heap.size := by have := b.size; simp at this; omega
  have zpP_14 : w.heap.size < w14.heap.size := by omega
  have zu_14 : w3.heap.size < w14.heap.size := by omega
  have zxP_14 : w4.heap.size < w14.heap.size := by omega
  have zg_14 : w5.heap.size < w14.heap.size := by omega
  have zh_14 : w13.heap.size < w14.heap.size := by omega
  clear b
  clear VpP_13 zpP_13 Vu_13 zu_13 VxP_13 zxP_13 Vg_13 zg_13 Ou_13 Og_13 Oh_13 B_13
  obtain ⟨cg0, cg1, cg2⟩ := Vg_14.out.three
  go_wp2_with fail
  clear cg0 cg1 cg2
  refine (c_heldP _ _ _ _ _ 1 _ Og_14.out.row (by omega)).mono ?_
  rintro _ w15 ⟨rfl, b⟩
  have VpP_15 := Lib.hid (VpP_14.out.keep b)
  have Vu_15 := Lib.hid (Vu_14.out.keep b)
  have VxP_15 := Lib.hid (VxP_14.out.keep b)
  have Vg_15 := Lib.hid (Vg_14.out.keep b)
  have Vh_15 := Lib.hid (Vh_14.out.keep b)
  have Ou_15 := Lib.hid (Ou_14.out.below b)
  have Og_15 := Lib.hid (Og_14.out.below b)
  have Oh_15 := Lib.hid (Oh_14.out.below b)
  have B_15 := Lib.hid (B_14.out.trans (b.mono (by omega)))
  have S_15 : w14.heap.size + 0 ≤ w15.heap.size := by have := b.size; omega
  have zpP_15 : w.heap.size < w15.heap.size := by omega
  have zu_15 : w3.heap.size < w15.heap.size := by omega
  have zxP_15 : w4.heap.size < w15.heap.size := by omega
  have zg_15 : w5.heap.size < w15.heap.size := by omega
  have zh_15 : w13.heap.size < w15.heap.size := by omega
  clear b
  clear VpP_14 zpP_14 Vu_14 zu_14 VxP_14 zxP_14 Vg_14 zg_14 Vh_14 zh_14 Ou_14 Og_14 Oh_14 B_14
  go_wp2_with fail
  go_ret
  exact ⟨rfl, B_15.out⟩
theorem walkL0 (WP HP : Int) (zP : List Nat) (aP : Option Addr) (cP : Nat) (xX : Int) (xY : Int) (xW : Int) (xH : Int) (w : World) (rP : IsRowF .f32 w aP zP.length cP zP)  (hm : zP.length ≤ maxLen) (hl : 1048576 < zP.length) : Calls Try.prog 11 #[.agg #[.int .i64 WP, .int .i64 HP, .slice aP zP.length cP], .int .i64 xX, .int .i64 xY, .int .i64 xW, .int .i64 xH] w fun e w' => e = .returned (.bool true) ∧ Below w.heap.size w w' := by
  unfold maxLen at hm
  have RP := Lib.hid rP
  clear rP
  go_enter Try.func11, Try.ntmps11
  go_wp2_with fail
  refine (c_szP_no WP HP aP zP.length cP (1048576 : Int) _ (by omega) (by omega)).mono ?_
  rintro _ w1 ⟨rfl, b⟩
  have VpP_1 := Lib.hid ((Var.new' _ _ _ (w.heap.size) (by first | rfl | simp)).keep b)
  have B_1 := Lib.hid (((Below.refl w.heap.size w).alloc (Nat.le_refl _) _).trans (b.mono (by simp)))
  have S_1 : w.heap.size + 1 ≤ w1.heap.size := by have := b.size; simp at this; omega
  have zpP_1 : w.heap.size < w1.heap.size := by omega
  clear b
  go_wp2_with fail
  go_ret
  exact ⟨rfl, B_1.out⟩
theorem walk (WP HP : Int) (zP : List Nat) (aP : Option Addr) (cP : Nat) (xX : Int) (xY : Int) (xW : Int) (xH : Int) (w : World) (rP : IsRowF .f32 w aP zP.length cP zP) (hX : (Lit.int .i64 xX).wf = true) (hY : (Lit.int .i64 xY).wf = true) (hW : (Lit.int .i64 xW).wf = true) (hH : (Lit.int .i64 xH).wf = true) : Calls Try.prog 11 #[.agg #[.int .i64 WP, .int .i64 HP, .slice aP zP.length cP], .int .i64 xX, .int .i64 xY, .int .i64 xW, .int .i64 xH] w fun e w' => e = .returned (.bool true) ∧ Below w.heap.size w w' := by
  have mP : zP.length ≤ maxLen := Nat.le_trans rP.2.1 rP.2.2.1
  by_cases g0 : 1048576 < zP.length
  · exact walkL0 WP HP zP aP cP xX xY xW xH w rP  mP g0
  exact walkG WP HP zP aP cP xX xY xW xH w (resCrop WP HP zP xX xY xW xH) (fun aP cP w rP => c_sCropPicture WP HP zP aP cP xX xY xW xH w rP hX hY hW hH) (fun aP cP w rP => c_iCropPicture WP HP zP aP cP xX xY xW xH w rP hX hY hW hH) rP (by omega)
theorem own : ownKnob Try.prog.godebug = none := by kernel_rfl
theorem laidOut : laidOutB Try.prog = true := by kernel_rfl
set_option maxRecDepth 100000 in
theorem lifted (os : Os) (started : os.Started) (H : Type) (enc : TypeId × Value → H) :
    ReturnsInHanded {} Try.checked os 11 .any (Rows.fnExactCropPictureSpec.pre6 enc Try.prog Try.f11 Rows.fnExactCropPictureRow.domain false) (Rows.fnExactCropPictureSpec.post enc Try.prog Try.f11 false true false false) := by
  refine returnsInHanded_of_change (C := Try.checked) own started (by kernel_rfl) Try.func11
    (ChangeSpec.witness6 (enc := enc) (C := Try.checked) false ⟨#[], #[.agg #[.int .i64 0, .int .i64 0, .slice none 0 0], .int .i64 0, .int .i64 0, .int .i64 0, .int .i64 0], []⟩ 8 (by kernel_rfl) (by kernel_rfl) (by kernel_rfl) (by kernel_rfl)) ?_
  intro W base args ds gs before hval0 hW hcnd _
  have hval : ∀ (j : Nat) t v, Try.f11.params[j]? = some t → args[j]? = some v → Value.okWide Try.prog W .any base t v := hval0
  have hW' := hW
  obtain ⟨p, q, hA0, hV, rfl, hfz, hnd⟩ := hW
  have hA : DataW.TrodAll enc Try.prog W 0 (fun _ => true) true Try.f11.params.toList args.toList ds p := hA0
  rw [Try.params11] at hA hval
  obtain ⟨v0, vs0, d0, ds0, p0, q0, hargs, rfl, rfl, h0, r0⟩ := trodAll_cons hA
  obtain ⟨v1, vs1, d1, ds1, p1, q1, rfl, rfl, rfl, h1, r1⟩ := trodAll_cons r0
  obtain ⟨v2, vs2, d2, ds2, p2, q2, rfl, rfl, rfl, h2, r2⟩ := trodAll_cons r1
  obtain ⟨v3, vs3, d3, ds3, p3, q3, rfl, rfl, rfl, h3, r3⟩ := trodAll_cons r2
  obtain ⟨v4, vs4, d4, ds4, p4, q4, rfl, rfl, rfl, h4, r4⟩ := trodAll_cons r3
  obtain ⟨rfl, rfl, rfl⟩ := trodAll_nil r4
  obtain rfl : args = #[v0, v1, v2, v3, v4] := by cases args; simp_all
  obtain ⟨rfl, rfl⟩ := trodVars_none hV
  have k0 := h0
  have lt0 : ∀ x ∈ p0, x.block < W.heap.size := by obtain ⟨m, hm⟩ := k0; exact DataW.trod_lt m _ _ _ hm
  obtain ⟨W0, H0, z0, a0, c0, rfl, wW0, wH0, w0⟩ := open_pic Try.underlying24 (by kernel_rfl) (by kernel_rfl) Try.underlying2 Try.underlying2 Try.underlying22 Try.underlying25 (by kernel_rfl) (hval 0 24 v0 rfl rfl) h0
  obtain ⟨a1, rfl, rfl, rfl, w1⟩ := open_int Try.underlying2 (hval 1 2 v1 rfl rfl) h1
  obtain ⟨a2, rfl, rfl, rfl, w2⟩ := open_int Try.underlying2 (hval 2 2 v2 rfl rfl) h2
  obtain ⟨a3, rfl, rfl, rfl, w3⟩ := open_int Try.underlying2 (hval 3 2 v3 rfl rfl) h3
  obtain ⟨a4, rfl, rfl, rfl, w4⟩ := open_int Try.underlying2 (hval 4 2 v4 rfl rfl) h4
  clear hA0 hval0
  have hw0 : Calls Try.prog 11 #[.agg #[.int .i64 W0, .int .i64 H0, .slice a0 z0.length c0], .int .i64 a1, .int .i64 a2, .int .i64 a3, .int .i64 a4] W fun e w' => e = .returned (.bool true) ∧ Below W.heap.size W w' := by
    exact walk W0 H0 z0 a0 c0 a1 a2 a3 a4 W w0 w1 w2 w3 w4
  refine hw0.mono fun e W' ⟨he, bel⟩ => ?_
  subst he
  exact ⟨_, rfl, _, _, _, [], _, [], hW', trodAll_mk1 (shut_bool Try.underlying4 _), (trodAll_cons_mk (Below.trod laidOut (by kernel_rfl) (of_decide_eq_true (by kernel_rfl)) k0 bel lt0) (trodAll_cons_mk (shut_int Try.underlying2 w1) (trodAll_cons_mk (shut_int Try.underlying2 w2) (trodAll_cons_mk (shut_int Try.underlying2 w3) (trodAll_cons_mk (shut_int Try.underlying2 w4) trodAll_mk0))))), rfl, bel.frame _, fun h => by cases h⟩

theorem over : Rows.fnExactCropPictureRow.holds Try.pinned (OpenSpec.ofChange Rows.fnExactCropPictureSpec) :=
  OpenClaim.holds_of_wide 11 Try.f11 rfl rfl rfl rfl rfl rfl rfl ⟨rfl, rfl, rfl, rfl, rfl⟩ rfl rfl rfl rfl rfl (by kernel_rfl) Try.func11 (by kernel_rfl)
    (of_decide_eq_true (by kernel_rfl)) (by unfold Func.isWrapper; first | (rw [if_pos (by decide +kernel)]; kernel_rfl) | (rw [if_neg (by decide +kernel)]; exact ⟨rfl, rfl⟩))
    (fun os started H enc _ => lifted os started H enc)

theorem proved : Rows.FnExactCropPictureSaid := over
#print axioms proved

end Go.Proofs.Ytnnldhfgnmcfiaa.fnExactCropPicture

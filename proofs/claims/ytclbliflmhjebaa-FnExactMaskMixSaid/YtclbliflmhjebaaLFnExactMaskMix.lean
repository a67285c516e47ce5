/-
  FnExactMaskMix: for every input this law of the program returns true, and each argument reads as before. No condition.
-/
import Derived.Test.YtclbliflmhjebaaRows
import Derived.Test.YtclbliflmhjebaaRow
import Derived.Test.YtclbliflmhjebaaOw
import Derived.Test.YtclbliflmhjebaaAp
import Derived.ProofKit
import Derived.OpenShut
import Derived.ShutString
import Derived.ChangeOld
import Derived.Below
import Derived.Lib.Hide
import Derived.Outline
import Derived.Deep.RegionHeld3
import Derived.Deep.DeepCutAuto
set_option linter.unusedSimpArgs false
set_option linter.unusedVariables false
set_option exponentiation.threshold 2000
set_option maxRecDepth 20000
set_option maxHeartbeats 4000000
namespace Go.Proofs.Ytclbliflmhjebaa.fnExactMaskMix
open Go Go.Proofs.Ytclbliflmhjebaa Go.Proofs
open Go.ChangeShapes Go.WideShapes Go.ChangeAt Go.RowKit
open Go.ChangeMaps (open_string shut_string)
/-! ### szPicture -/
theorem c_szF (a : Option Addr) (len cap : Nat) (L : Int) (w : World) (h : (len : Int) ≤ L) (hL : L ≤ 1048576) : Calls Try.prog 60 #[.slice a len cap, .int .i64 L] w (fun e w' => e = .returned (.int .i64 (L - (len : Int))) ∧ w' = w) := by
  have h' : ¬ (L - (len : Int) < 0) := by omega
  go_enter Try.func60, Try.ntmps60
  go_wp2
  go_ret
  exact ⟨rfl, rfl⟩
theorem c_szF_no (a : Option Addr) (len cap : Nat) (L : Int) (w : World) (h : L < len) (hL : 0 ≤ L) (hm : len ≤ 9223372036854775807) : Calls Try.prog 60 #[.slice a len cap, .int .i64 L] w (fun e w' => e = .returned (.int .i64 (-1)) ∧ w' = w) := by
  have h' : L - (len : Int) < 0 := by omega
  go_enter Try.func60, Try.ntmps60
  go_wp2
  go_ret
  exact ⟨rfl, rfl⟩
theorem c_szP (W H : Int) (a : Option Addr) (len cap : Nat) (L : Int) (w : World) (h : (len : Int) ≤ L) (hL : L ≤ 1048576) : Calls Try.prog 15 #[.agg #[.int .i64 W, .int .i64 H, .slice a len cap], .int .i64 L] w (RetB (.int .i64 (L - (len : Int))) w) := by
  have h' : ¬ (L - (len : Int) < 0) := by omega
  go_enter Try.func15, Try.ntmps15
  go_wp2_with (go_at_call 60; refine (c_szF a len cap L _ h hL).mono ?_; rintro _ _ ⟨rfl, rfl⟩)
  go_ret
  exact ⟨rfl, (Below.refl _ _).alloc (Nat.le_refl _) _⟩
theorem c_szP_no (W H : Int) (a : Option Addr) (len cap : Nat) (L : Int) (w : World) (h : L < len) (hL : 0 ≤ L ∧ len ≤ 9223372036854775807) : Calls Try.prog 15 #[.agg #[.int .i64 W, .int .i64 H, .slice a len cap], .int .i64 L] w (RetB (.int .i64 (-1)) w) := by
  go_enter Try.func15, Try.ntmps15
  go_wp2_with (go_at_call 60; refine (c_szF_no a len cap L _ h hL.1 hL.2).mono ?_; rintro _ _ ⟨rfl, rfl⟩)
  go_ret
  exact ⟨rfl, (Below.refl _ _).alloc (Nat.le_refl _) _⟩
/-! ### toOwn -/
theorem infoFo : (Try.prog.info? 38).map (fun i => (i.zero, i.size, i.bytes)) = some (some (.float .f32 0), 1, 4) := by kernel_rfl
theorem c_toO (a : Option Addr) (len cap : Nat) (zs : List Nat) (w : World) (hr : IsRowF .f32 w a len cap zs) (hl : len ≤ 1048576) : Calls Try.prog 44 #[.slice a len cap] w (NewO 38 len zs w) := by
  obtain ⟨i0, hi, hz0, hz1, hz2⟩ := info_parts infoFo
  obtain ⟨h1, h2, h3, h4, h5⟩ := hr
  go_enter Try.func44, Try.ntmps44
  go_wp2_with (at_make; refine wpList_make_full _ rfl _ _ 22 rfl w.heap.size 38 i0 (.float .f32 0) 1 Try.underlying22 hi hz0 hz1 _ _ _ _ len rfl rfl rfl rfl (by rw [hz2]; omega) (by unfold maxLen; omega) (by simp) ?_; intro w1 hown hgrow)
  have hblk := block_of_owns hown
  have e0 : (madeCells (Value.float FloatKind.f32 0).cells (len * 1)).toList = List.replicate len (.float .f32 0) := by rw [Nat.mul_one]; exact made_zeros _ _
  rw [e0] at hblk
  have hbel : Below w.heap.size w w1 := (Below.refl _ _).grown hgrow (Nat.le_refl _) (by simp)
  have HB := Lib.hid hblk
  clear hown hgrow hblk e0 hz0 hz1 hz2
  go_loopw [4] (fun i wr => ∃ j : Nat, j ≤ len ∧ i = .int .i64 j ∧ Below w.heap.size w wr ∧ wr.heap[w.heap.size]? = some (.cells (fl .f32 (zs.take j) ++ List.replicate (zs.length - j) (Value.float .f32 0)).toArray 38 (0, 0))) (fun i _ => len - (intOf i).toNat)
  case atStart => exact ⟨0, Nat.zero_le _, rfl, hbel, by rw [HB.out, h1]; rfl⟩
  case round =>
    obtain ⟨j, hj, rfl, hb, hblk⟩ := hrel
    have Hblk := Lib.hid hblk
    clear hblk
    by_cases hlt : j < len
    · rcases h5 with h5 | ⟨b, off, rfl, hbl, hc⟩
      · omega
      have hcell : wr.cell? ⟨b, off + j, none⟩ = some (.float .f32 (fat zs j)) := by rw [hb.cell (p := ⟨b, off + j, none⟩) hbl]; exact hc j hlt
      have hold : wr.cell? ⟨w.heap.size, j, none⟩ = some (.float .f32 0) := by
        rw [cell_of_block Hblk.out, List.getElem?_append_right (by simp [fl]; omega)]
        have e : (fl FloatKind.f32 (List.take j zs)).length = j := by simp [fl]; omega
        rw [e, Nat.sub_self, List.getElem?_replicate, if_pos (by omega)]
      have hfz : wr.frozen? ⟨w.heap.size, j, none⟩ = false := frozen_of_block Hblk.out j
      have hset := block_set Hblk.out j (.float .f32 (fat zs j))
      rw [set_step zs _ j (by omega)] at hset
      have Hset := Lib.hid hset
      clear hset hc
      go_wp2
      go_roundw
      case rel => exact ⟨j + 1, by omega, by go_num, hb.setCell (Nat.le_refl _) _, Hset.out⟩
      case measure => simp [intOf]; omega
    · obtain rfl : j = len := by omega
      have e1 : fl .f32 (zs.take j) ++ List.replicate (zs.length - j) (Value.float .f32 0) = fl .f32 zs := by rw [h1, Nat.sub_self, List.replicate_zero, List.append_nil, List.take_of_length_le (by omega)]
      have hblk2 := Hblk.out
      rw [e1] at hblk2
      have hown : Own 38 wr w.heap.size (some ⟨w.heap.size, 0, none⟩) j j zs :=
        ⟨h1, ⟨by simp [fl, h1], .inr ⟨w.heap.size, j, _, rfl, Nat.le_refl _, hblk2, Nat.le_refl _, by unfold maxLen; omega, by simp [fl, h1], by rw [List.take_of_length_le (by simp [fl, h1])]⟩⟩, h4⟩
      have HO := Lib.hid hown
      clear hown hblk2 e1
      go_wp2
      go_ret
      exact ⟨w.heap.size, rfl, hb, HO.out⟩
/-! ### toPicture -/
theorem c_toP (W H : Int) (a : Option Addr) (len cap : Nat) (zs : List Nat) (w : World) (hr : IsRowF .f32 w a len cap zs) (hl : len ≤ 1048576) : Calls Try.prog 17 #[.agg #[.int .i64 W, .int .i64 H, .slice a len cap]] w (NewP 38 W H zs w) := by
  have HR := Lib.hid hr
  have HL := Lib.hid hr.1
  clear hr
  go_enter Try.func17, Try.ntmps17
  go_wp2_with fail
  refine (c_toO a len cap zs _ (HR.out.below ((((Below.refl _ _).alloc (Nat.le_refl _) _).alloc (by simp) _).alloc (by simp; omega) _)) hl).mono ?_
  rintro _ w1 ⟨g, rfl, hb, hown⟩
  obtain ⟨hc, hf⟩ := bcell hb
  have hz : w.heap.size + 1 + 1 < w1.heap.size := by have := hb.size; simp at this; omega
  have hg' : w.heap.size + 1 + 1 < g := by have := hown.lt.1; simp at this; omega
  have HB := Lib.hid hb
  have HO := Lib.hid hown
  clear hb hown
  go_wp2_with fail
  refine bodyPost_ret (v := .agg #[.int .i64 W, .int .i64 H, .slice (some ⟨g, 0, none⟩) len len]) (by simp [results, Try.results17, hc, hz, go_sem]) rfl ⟨g, by rw [HL.out], ?_, ?_⟩
  · exact ((((((((Below.refl _ _).alloc (Nat.le_refl _) _).alloc (by simp) _).alloc (by simp; omega) _).trans (HB.out.mono (by simp; omega))).setCell (by simp; omega) _).setCell (by simp) _).setCell (by simp) _).setCell (by simp) _
  · rw [HL.out]
    exact ((((HO.out.setCell (by simp [blk]; omega) _).setCell (by simp [blk]; omega) _).setCell (by simp [blk]; omega) _).setCell (by simp [blk]; omega) _).mono (by simp; omega)
/-! ### sameFloat -/
theorem c_sameFloat (v n m : Nat) (w : World) (j : Nat) : Calls Try.prog 28 #[.float .f64 (pick .f64 v n), .float .f64 (pick .f64 v m)] (w.drewN j) (RetV (.bool true) w) := by
  have hs := self_ne .f64 v
  have ht := self_eq .f64 v
  cases h : isN .f64 v
  · rw [h] at hs ht
    cases h2 : (FloatKind.f64.format.order v 0 == some .eq)
    · go_enter Try.func28, Try.ntmps28
      go_wp2_with (first | (refine wpList_fop rfl _ _ _ _ _ rfl _ _ _ rfl rfl (by decide) _ ?_; intro _ _) | (refine upon_fop _ _ _ _ _ (by decide) ?_; intro _ _))
      go_ret
      exact ⟨_, rfl, rfl⟩
    · go_enter Try.func28, Try.ntmps28
      go_wp2_with (first | (refine wpList_fop rfl _ _ _ _ _ rfl _ _ _ rfl rfl (by decide) _ ?_; intro _ _) | (refine upon_fop _ _ _ _ _ (by decide) ?_; intro _ _))
      go_ret
      exact ⟨_, by simp, rfl⟩
  · rw [h] at hs ht
    go_enter Try.func28, Try.ntmps28
    go_wp2_with (first | (refine wpList_fop rfl _ _ _ _ _ rfl _ _ _ rfl rfl (by decide) _ ?_; intro _ _) | (refine upon_fop _ _ _ _ _ (by decide) ?_; intro _ _))
    go_ret
    exact ⟨_, rfl, rfl⟩

/-! ### eqFloat32S -/
theorem c_eqF (a b : Option Addr) (len c d : Nat) (zs : List Nat) (w : World) (j0 : Nat) (hr : IsRowF .f32 w a len c zs) (hs : IsRowF .f32 w b len d zs) : Calls Try.prog 46 #[.slice a len c, .slice b len d] (w.drewN j0) (RetV (.bool true) w) := by
  obtain ⟨h1, h2, h3, h4, h5⟩ := hr
  obtain ⟨g1, g2, g3, g4, g5⟩ := hs
  unfold maxLen at h3
  go_enter Try.func46, Try.ntmps46
  go_wp2
  go_loopw [5] (fun i wr => ∃ k m : Nat, k ≤ len ∧ i = .int .i64 k ∧ wr = w.drewN m) (fun i _ => len - (intOf i).toNat)
  case atStart => exact ⟨0, j0, Nat.zero_le _, rfl, rfl⟩
  case round =>
    obtain ⟨k, m, hk, rfl, rfl⟩ := hrel
    by_cases hlt : k < len
    · rcases h5 with h5 | ⟨x, off, rfl, hbl, hc⟩
      · omega
      rcases g5 with g5 | ⟨y, off2, rfl, gbl, gc⟩
      · omega
      have hcell : w.cell? ⟨x, off + k, none⟩ = some (.float .f32 (fat zs k)) := hc k hlt
      have gcell : w.cell? ⟨y, off2 + k, none⟩ = some (.float .f32 (fat zs k)) := gc k hlt
      clear hc h4 gc g4
      go_wp2
      refine wp_region_N (fun _ _ u => u = .bool true) (by kernel_rfl) (by kernel_rfl) ?_; (repeat (first | ((with_reducible show wpN _ _ _ _ _ (Oper.mk _ (Op.binOp _ _ _ _ _) _ _ _ none :: _) _); refine wpN_fop rfl _ _ _ _ _ rfl _ _ _ rfl rfl (by decide) ?_; intro _) | ((with_reducible show wpN _ _ _ _ _ (Oper.mk _ (Op.convert _ _ _) _ _ _ none :: _) _); refine wpN_cvU rfl 38 42 _ rfl (Option.isSome_iff_exists.2 ⟨_, Try.underlying38⟩) Try.underlying42 _ rfl ?_; intro _) | ((with_reducible show wpN _ _ _ _ _ (Oper.mk _ _ _ _ _ (some _) :: _) _); (with_reducible refine wpN_off ?_ ?_); focus rfl; (simp only [Act.put, List.setIfInBounds_toArray, List.set_cons_zero, List.set_cons_succ])) | ((with_reducible show wpN _ _ _ _ _ (Oper.mk _ _ _ _ _ (some _) :: _) _); ((with_reducible refine wpN_on ?_ (fun K hK => ?_)); (focus rfl); intro _; go_simp; first | (refine uponN_value (hK _ ?_)) | ((refine uponN_call (callN rfl (c_sameFloat _ _ _ _ _)) ?_; intro u hu; obtain rfl : u = _ := hu); refine hK _ ?_)); clear hK K) | (((with_reducible refine wpN_plain rfl (fun K hK => ?_)); intro _; go_simp; first | (refine uponN_value (hK _ ?_)) | ((refine uponN_call (callN rfl (c_sameFloat _ _ _ _ _)) ?_; intro u hu; obtain rfl : u = _ := hu); refine hK _ ?_)); clear hK K) | ((with_reducible refine wpN_step (fun K hK => ?_)); go_simp; first | (refine hK _ ?_) | (intro _; first | (refine uponN_value (hK _ ?_)) | ((refine uponN_call (callN rfl (c_sameFloat _ _ _ _ _)) ?_; intro u hu; obtain rfl : u = _ := hu); refine hK _ ?_)); clear hK K))); refine wpN_nil ?_; intro _
      go_wp2
      go_roundw
      case rel => exact ⟨k + 1, _, by omega, by go_num, rfl⟩
      case measure => simp [intOf]; omega
    · clear h5 h4 g4 g5
      go_wp2
      go_ret
      exact ⟨_, rfl, rfl⟩
/-! ### eqPicture -/
theorem c_eqF0 (a b : Option Addr) (len c d : Nat) (zs : List Nat) (w : World) (hr : IsRowF .f32 w a len c zs) (hs : IsRowF .f32 w b len d zs) : Calls Try.prog 46 #[.slice a len c, .slice b len d] w (RetV (.bool true) w) := by
  have h := c_eqF a b len c d zs w 0 hr hs
  rwa [w.drewN_zero] at h
theorem c_eqP (W H : Int) (a b : Option Addr) (len c d : Nat) (zs : List Nat) (w : World) (hr : IsRowF .f32 w a len c zs) (hs : IsRowF .f32 w b len d zs) : Calls Try.prog 19 #[.agg #[.int .i64 W, .int .i64 H, .slice a len c], .agg #[.int .i64 W, .int .i64 H, .slice b len d]] w (RetB (.bool true) w) := by
  have HR := Lib.hid hr
  have HS := Lib.hid hs
  clear hr hs
  go_enter Try.func19, Try.ntmps19
  go_wp2_with fail
  refine (c_eqF0 a b len c d zs _ ((HR.out.alloc _).alloc _) ((HS.out.alloc _).alloc _)).mono ?_
  rintro _ _ ⟨m, rfl, rfl⟩
  go_wp2_with fail
  go_ret
  exact ⟨rfl, below_drewN (((Below.refl _ _).alloc (Nat.le_refl _) _).alloc (by simp) _) _⟩
/-! ### markFloat32S -/
theorem c_markF {T : TypeId} (B : Nat) (a : Option Addr) (len cap k : Nat) (zs : List Nat) (w : World) (hr : Own T w B a len cap zs) (hk : k + len ≤ 4611686018427387904) : Calls Try.prog 47 #[.slice a len cap, .int .i64 k] w (fun e w' => e = .returned (.int .i64 ((k + len : Nat) : Int)) ∧ w.grownBy w' (blk a) ∧ Own T w' B a len cap (marks k len)) := by
  rcases hr.parts with ⟨rfl, rfl, rfl, rfl⟩ | ⟨g, cur, rfl, hb, hg, hl, hm, hs, ht⟩
  · clear hr
    go_enter Try.func47, Try.ntmps47
    go_wp2
    refine wp_loop_rounds 1 ?_; rw [rounds_succ]
    go_wp2
    go_ret
    exact ⟨rfl, ⟨rfl, rfl, rfl, Nat.le_refl _, fun _ _ _ => rfl⟩, Own.nil _ _ _⟩
  · have h0 : Marked w g T cap k 0 := ⟨cur, hg, hs, fun i hi => by omega⟩
    have H0 := Lib.hid h0
    unfold maxLen at hm
    clear hr hg hs ht h0
    go_enter Try.func47, Try.ntmps47
    go_wp2
    go_loopw [1, 5] (fun t i wr => ∃ j : Nat, j ≤ len ∧ i = .int .i64 j ∧ t = .int .i64 ((k + j : Nat) : Int) ∧ w.grownBy wr (some g) ∧ Marked wr g T cap k j) (fun _ i _ => len - (intOf i).toNat)
    case atStart => exact ⟨0, Nat.zero_le _, rfl, rfl, ⟨rfl, rfl, rfl, Nat.le_refl _, fun _ _ _ => rfl⟩, H0.out⟩
    case round =>
      obtain ⟨j, hj, rfl, rfl, hgr, hM⟩ := hrel
      by_cases hlt : j < len
      · obtain ⟨v, hcell, hfz⟩ := hM.cell (j := j) (by omega)
        have hM2 := Lib.hid (hM.step (by omega : j < cap))
        have hG2 := Lib.hid hgr
        clear hM hgr
        go_wp2
        go_roundw
        case rel => exact ⟨j + 1, by omega, by go_num, by go_num, ⟨hG2.out.os, hG2.out.tape, hG2.out.output, by have := hG2.out.size; simpa using this, fun k' h1 h2 => by rw [Below.heap_setCell _ _ _ _ (fun e => h2 (by rw [e]))]; exact hG2.out.block k' h1 h2⟩, hM2.out⟩
        case measure => simp [intOf]; omega
      · obtain rfl : j = len := by omega
        have hO := Lib.hid (hM.own (B := B) hb hl (by unfold maxLen; omega))
        have hG2 := Lib.hid hgr
        clear hM hgr
        go_wp2
        go_ret
        exact ⟨rfl, hG2.out, hO.out⟩
/-! ### heldFloat32S -/
theorem c_heldF (a : Option Addr) (len cap k : Nat) (w : World) (hr : IsRowF .f32 w a len cap (marks k len)) (hk : k + len ≤ 4611686018427387904) : Calls Try.prog 48 #[.slice a len cap, .int .i64 k] w (fun e w' => e = .returned (.int .i64 ((k + len : Nat) : Int)) ∧ w' = w) := by
  obtain ⟨h1, h2, h3, h4, h5⟩ := hr
  unfold maxLen at h3
  clear h1 h4
  go_enter Try.func48, Try.ntmps48
  go_wp2
  go_loop [1, 5] (fun t i => ∃ j : Nat, j ≤ len ∧ i = .int .i64 j ∧ t = .int .i64 ((k + j : Nat) : Int)) (fun _ i => len - (intOf i).toNat)
  case atStart => exact ⟨0, Nat.zero_le _, rfl, rfl⟩
  case round =>
    obtain ⟨j, hj, rfl, rfl⟩ := hrel
    by_cases hlt : j < len
    · rcases h5 with h5 | ⟨b, off, rfl, hbl, hc⟩
      · omega
      have hcell : w.cell? ⟨b, off + j, none⟩ = some (.float .f32 (markN k j)) := by rw [← marks_at k len j hlt]; exact hc j hlt
      have hne : (FloatKind.f32.format.order (markN k j) (markN k j) != some .eq) = false := by rw [self_ne]; exact markN_notN k j
      have hE : floatOfInt .f32 ((k : Int) + (j : Int)) = markN k j := by unfold markN; rw [Int.natCast_add]
      have hne2 : (FloatKind.f32.format.order (markN k j) (floatOfInt .f32 ((k : Int) + (j : Int))) != some .eq) = false := (congrArg (fun x => FloatKind.f32.format.order (markN k j) x != some .eq) hE).trans hne
      clear hE
      clear hc
      go_wp2
      go_round
      case rel => exact ⟨j + 1, by omega, by go_num, by go_num⟩
      case measure => simp [intOf]; omega
    · obtain rfl : j = len := by omega
      clear h5
      go_wp2
      go_ret
      exact ⟨rfl, rfl⟩
/-! ### markPicture -/
theorem c_markP (W H : Int) (B : Nat) (a : Option Addr) (len cap k : Nat) (zs : List Nat) (w : World) (hr : Own 38 w B a len cap zs) (hk : k + len ≤ 4611686018427387904) : Calls Try.prog 20 #[.agg #[.int .i64 W, .int .i64 H, .slice a len cap], .int .i64 k] w (fun e w' => e = .returned (.int .i64 ((k + len : Nat) : Int)) ∧ w.grownBy w' (blk a) ∧ Own 38 w' B a len cap (marks k len)) := by
  have HR := Lib.hid hr
  clear hr
  go_enter Try.func20, Try.ntmps20
  go_wp2_with fail
  refine (c_markF B a len cap k zs _ (HR.out.alloc _) hk).mono ?_
  rintro _ w1 ⟨rfl, hg, hO⟩
  have HG := Lib.hid hg
  have HO := Lib.hid hO
  clear hg hO
  go_wp2_with fail
  go_ret
  exact ⟨rfl, ⟨HG.out.os, HG.out.tape, HG.out.output, by have := HG.out.size; simp at this; omega, fun k' h1 h2 => by rw [HG.out.block k' (by simp; omega) h2]; exact Below.heap_alloc _ _ _ h1⟩, HO.out⟩
theorem c_heldP (W H : Int) (a : Option Addr) (len cap k : Nat) (w : World) (hr : IsRowF .f32 w a len cap (marks k len)) (hk : k + len ≤ 4611686018427387904) : Calls Try.prog 21 #[.agg #[.int .i64 W, .int .i64 H, .slice a len cap], .int .i64 k] w (RetB (.int .i64 ((k + len : Nat) : Int)) w) := by
  have HR := Lib.hid hr
  clear hr
  have h0 : 0 ≤ ((k + len : Nat) : Int) := by omega
  go_enter Try.func21, Try.ntmps21
  go_wp2_with fail
  refine (c_heldF a len cap k _ (HR.out.alloc _) hk).mono ?_
  rintro _ w1 ⟨rfl, rfl⟩
  go_wp2_with fail
  go_ret
  exact ⟨rfl, (Below.refl _ _).alloc (Nat.le_refl _) _⟩

/-! ### picDefs -/
def sideB (W H : Int) : Bool := decide (1 ≤ W) && decide (W ≤ 16) && (decide (1 ≤ H) && decide (H ≤ 16))
def finL (zs : List Nat) : Bool := zs.all (finB .f32)
def validB (W H : Int) (zs : List Nat) : Bool := sideB W H && decide ((zs.length : Int) = W * H) && finL zs
theorem sideB_true {W H : Int} (h : sideB W H = true) : (1 ≤ W ∧ W ≤ 16) ∧ 1 ≤ H ∧ H ≤ 16 := by simpa [sideB, and_assoc] using h
theorem side_mul {W H : Int} (h : sideB W H = true) : 1 ≤ W * H ∧ W * H ≤ 256 := by
  obtain ⟨⟨h1, h2⟩, h3, h4⟩ := sideB_true h
  have : W * H ≤ 16 * 16 := Int.mul_le_mul h2 h4 (by omega) (by omega)
  have h5 : 1 * 1 ≤ W * H := Int.mul_le_mul h1 h3 (by omega) (by omega)
  omega
theorem sideB_false {W H : Int} (h : sideB W H = false) : W < 1 ∨ 16 < W ∨ H < 1 ∨ 16 < H := by
  simp [sideB] at h; omega
theorem finL_snoc (zs : List Nat) (k : Nat) (hk : k < zs.length) : finL (zs.take (k + 1)) = (finL (zs.take k) && finB .f32 (fat zs k)) := by
  unfold finL fat
  rw [List.take_succ_eq_append_getElem hk, List.all_append, List.getD, List.getElem?_eq_getElem hk]; simp
theorem finL_of (zs : List Nat) (k : Nat) (hk : k < zs.length) (h : finB .f32 (fat zs k) = false) : finL zs = false := by
  unfold finL
  rw [List.all_eq_false]
  refine ⟨zs[k], List.getElem_mem hk, ?_⟩
  unfold fat at h
  rw [List.getD, List.getElem?_eq_getElem hk] at h
  simpa using h
theorem pick0 (k : FloatKind) (v : Nat) (hv : v < 2 ^ k.format.width) : ∃ n, v = pick k v n := pick_onto k v hv
/-! ### give -/
def giveP (W H : Int) (zs : List Nat) : PRes := if validB W H zs = true then ⟨W, H, zs, true⟩ else PRes.no
theorem near_valid {W H : Int} {zs' zs : List Nat} (h : near zs' zs) : validB W H zs' = validB W H zs := by
  unfold validB finL; rw [near_fin h, h.1]
theorem valid_fin {W H : Int} {zs : List Nat} (h : validB W H zs = true) : zs.all (finB .f32) = true := by
  simp [validB, finL] at h ⊢; exact h.2
theorem valid_len {W H : Int} {zs : List Nat} (h : validB W H zs = true) : (zs.length : Int) = W * H ∧ zs.length ≤ 256 ∧ 1 ≤ zs.length := by
  simp only [validB, Bool.and_eq_true, decide_eq_true_eq] at h
  obtain ⟨⟨h1, h2⟩, h3⟩ := h
  have := side_mul h1
  exact ⟨h2, by omega, by omega⟩
/-! ### makeDefs -/
def makeL (F : Nat → Nat → Nat) (Wn Hn : Nat) : List Nat := (List.range (Wn * Hn)).map fun i => F (i % Wn) (i / Wn)
theorem makeL_len {F : Nat → Nat → Nat} {Wn Hn : Nat} : (makeL F Wn Hn).length = Wn * Hn := by simp [makeL]
theorem makeL_at {F : Nat → Nat → Nat} {Wn Hn x y k : Nat} (hk : k = y * Wn + x) (hx : x < Wn) (hy : y < Hn) : fat (makeL F Wn Hn) k = F x y := by
  have h1 : k < Wn * Hn := by
    have : (y + 1) * Wn ≤ Hn * Wn := Nat.mul_le_mul_right _ (by omega)
    rw [Nat.succ_mul] at this
    rw [Nat.mul_comm Wn Hn]; omega
  have h2 : k % Wn = x := by rw [hk, Nat.mul_comm y Wn, Nat.mul_add_mod, Nat.mod_eq_of_lt hx]
  have h3 : k / Wn = y := by rw [hk, Nat.mul_comm y Wn, Nat.mul_add_div (by omega), Nat.div_eq_of_lt hx, Nat.add_zero]
  simp [fat, makeL, h1, h2, h3]
theorem make_lt {Wn Hn x y k : Nat} (hk : k = y * Wn + x) (hx : x < Wn) (hy : y < Hn) : k + 1 ≤ Wn * Hn := by
  have : (y + 1) * Wn ≤ Hn * Wn := Nat.mul_le_mul_right _ (by omega)
  rw [Nat.succ_mul] at this
  rw [Nat.mul_comm Wn Hn]; omega
def resMake (F : Nat → Nat → Nat) (W H : Int) : PRes := if sideB W H = true then giveP W H (makeL F W.toNat H.toNat) else PRes.no
/-! ### l00In -/
theorem c_l00In (x lo hi : Int) (w : World) (j : Nat) : Calls Try.prog 84 #[.int .i64 x, .int .i64 lo, .int .i64 hi] (w.drewN j) (RetV (.bool (decide (lo ≤ x) && decide (x ≤ hi))) w) := by
  by_cases h1 : lo ≤ x
  · by_cases h2 : x ≤ hi
    · have d1 : decide (lo ≤ x) = true := decide_eq_true h1
      have d2 : decide (x ≤ hi) = true := decide_eq_true h2
      go_enter Try.func84, Try.ntmps84
      go_wp2
      go_ret
      exact ⟨_, by simp [*], rfl⟩
    · have d1 : decide (lo ≤ x) = true := decide_eq_true h1
      have d2 : decide (x ≤ hi) = false := decide_eq_false h2
      go_enter Try.func84, Try.ntmps84
      go_wp2
      go_ret
      exact ⟨_, by simp [*], rfl⟩
  · have d1 : decide (lo ≤ x) = false := decide_eq_false h1
    go_enter Try.func84, Try.ntmps84
    go_wp2
    go_ret
    exact ⟨_, by simp [*], rfl⟩
/-! ### l02Sides -/
theorem c_l02Sides (W H : Int) (w : World) (j : Nat) : Calls Try.prog 109 #[.int .i64 W, .int .i64 H] (w.drewN j) (RetV (.bool (sideB W H)) w) := by
  unfold sideB
  cases hw : (decide (1 ≤ W) && decide (W ≤ 16))
  all_goals
    have HW := Lib.hid hw
    go_enter Try.func109, Try.ntmps109
    go_wp2_with (go_at_call 84; refine (c_l00In _ _ _ _ _).mono ?_; rintro _ _ ⟨_, rfl, rfl⟩)
    go_ret
    exact ⟨_, by simp [HW.out], rfl⟩
/-! ### l01Finite -/
theorem c_l01Finite (v n : Nat) (w : World) (j : Nat) : Calls Try.prog 114 #[.float .f32 (pick .f32 v n)] (w.drewN j) (RetV (.bool (finB .f32 v)) w) := by
  go_enter Try.func114, Try.ntmps114
  go_wp2_with (first | (refine wpList_fop rfl _ _ _ _ _ rfl _ _ _ rfl rfl (by decide) _ ?_; intro _ _) | (refine upon_fop _ _ _ _ _ (by decide) ?_; intro _ _))
  go_ret
  rw [← sub_self_zero]
  exact ⟨_, rfl, rfl⟩
/-! ### l02Finite -/
theorem c_l02Finite (a : Option Addr) (len cap : Nat) (zs : List Nat) (w : World) (j0 : Nat) (hr : IsRowF .f32 w a len cap zs) : Calls Try.prog 110 #[.slice a len cap] (w.drewN j0) (RetV (.bool (finL zs)) w) := by
  obtain ⟨h1, h2, h3, h4, h5⟩ := hr
  unfold maxLen at h3
  have H1 := Lib.hid h1
  clear h1
  go_enter Try.func110, Try.ntmps110
  go_wp2
  go_loopw [3] (fun i wr => ∃ k m : Nat, k ≤ len ∧ i = .int .i64 k ∧ wr = w.drewN m ∧ finL (zs.take k) = true) (fun i _ => len - (intOf i).toNat)
  case atStart => exact ⟨0, j0, Nat.zero_le _, rfl, rfl, rfl⟩
  case round =>
    obtain ⟨k, m, hk, rfl, rfl, hfin⟩ := hrel
    have HFin := Lib.hid hfin
    clear hfin
    by_cases hlt : k < len
    · rcases h5 with h5 | ⟨b, off, rfl, hbl, hc⟩
      · omega
      have hcell : w.cell? ⟨b, off + k, none⟩ = some (.float .f32 (fat zs k)) := hc k hlt
      obtain ⟨n, hn⟩ := pick0 .f32 (fat zs k) (lt_of_wf (h4 _ (by unfold fat; rw [List.getD, List.getElem?_eq_getElem (by have := H1.out; omega)]; exact List.getElem_mem _)))
      rw [hn] at hcell
      have HN := Lib.hid hn
      have HS := Lib.hid (finL_snoc zs k (by have := H1.out; omega))
      cases hf : finB .f32 (fat zs k)
      · have HO := Lib.hid (finL_of zs k (by have := H1.out; omega) hf)
        clear hc h4 hn
        go_wp2_with ((go_at_call 114; refine (c_l01Finite _ _ _ _).mono ?_; rintro _ _ ⟨_, rfl, rfl⟩))
        go_ret
        exact ⟨_, by rw [HO.out]; rfl, rfl⟩
      · have HF := Lib.hid hf
        clear hc h4 hn
        go_wp2_with ((go_at_call 114; refine (c_l01Finite _ _ _ _).mono ?_; rintro _ _ ⟨_, rfl, rfl⟩))
        go_roundw
        case rel => exact ⟨k + 1, _, by omega, by go_num, rfl, by rw [HS.out, HFin.out, HF.out]; rfl⟩
        case measure => simp [intOf]; omega
    · have e : zs.take k = zs := List.take_of_length_le (by have := H1.out; omega)
      have HE := Lib.hid e
      clear h5 h4 e
      go_wp2
      go_ret
      exact ⟨_, by have h := HFin.out; rw [HE.out] at h; rw [h]; rfl, rfl⟩
/-! ### l02Is -/
theorem c_l02Is (W H : Int) (b : Nat) (a : Option Addr) (len cap : Nat) (zs : List Nat) (w : World) (j0 : Nat) (hv : Var w b #[.int .i64 W, .int .i64 H, .slice a len cap]) (hr : IsRowF .f32 w a len cap zs) :
    Calls Try.prog 61 #[.pointer (some ⟨b, 0, none⟩)] (w.drewN j0) (RetV (.bool (validB W H zs)) w) := by
  obtain ⟨p0, p1, p2⟩ := hv.three
  have H1 := Lib.hid hr.1
  have HR := Lib.hid hr
  clear hr hv
  cases hs : sideB W H
  · have e : validB W H zs = false := by simp [validB, hs]
    have E := Lib.hid e
    have C1 := Lib.hid (fun n => (by have h := c_l02Sides W H w n; rwa [hs] at h : Calls Try.prog 109 #[.int .i64 W, .int .i64 H] (w.drewN n) (RetV (.bool false) w)))
    clear e hs
    go_enter Try.func61, Try.ntmps61
    go_wp2
    refine wp_region_N (fun f _ u => (f = 109 → u = .bool false)) (by kernel_rfl) (by kernel_rfl) ?_; (repeat (first | ((with_reducible show wpN _ _ _ _ _ (Oper.mk _ (Op.binOp _ _ _ _ _) _ _ _ none :: _) _); refine wpN_fop rfl _ _ _ _ _ rfl _ _ _ rfl rfl (by decide) ?_; intro _) | ((with_reducible show wpN _ _ _ _ _ (Oper.mk _ (Op.convert _ _ _) _ _ _ none :: _) _); refine wpN_cvU rfl 38 42 _ rfl (Option.isSome_iff_exists.2 ⟨_, Try.underlying38⟩) Try.underlying42 _ rfl ?_; intro _) | ((with_reducible show wpN _ _ _ _ _ (Oper.mk _ _ _ _ _ (some _) :: _) _); (with_reducible refine wpN_off ?_ ?_); focus rfl; (simp only [Act.put, List.setIfInBounds_toArray, List.set_cons_zero, List.set_cons_succ])) | ((with_reducible show wpN _ _ _ _ _ (Oper.mk _ _ _ _ _ (some _) :: _) _); ((with_reducible refine wpN_on ?_ (fun K hK => ?_)); (focus rfl); intro _; go_simp; first | (refine uponN_value (hK _ ?_)) | ((refine uponN_call (callN (v := .bool false) (fun _ => rfl) (C1.out _)) ?_; intro u hu; obtain rfl : u = _ := hu rfl; clear hu); refine hK _ ?_)); clear hK K) | (((with_reducible refine wpN_plain rfl (fun K hK => ?_)); intro _; go_simp; first | (refine uponN_value (hK _ ?_)) | ((refine uponN_call (callN (v := .bool false) (fun _ => rfl) (C1.out _)) ?_; intro u hu; obtain rfl : u = _ := hu rfl; clear hu); refine hK _ ?_)); clear hK K) | ((with_reducible refine wpN_step (fun K hK => ?_)); go_simp; first | (refine hK _ ?_) | (intro _; first | (refine uponN_value (hK _ ?_)) | ((refine uponN_call (callN (v := .bool false) (fun _ => rfl) (C1.out _)) ?_; intro u hu; obtain rfl : u = _ := hu rfl; clear hu); refine hK _ ?_)); clear hK K))); refine wpN_nil ?_; intro _
    go_wp2
    go_ret
    exact ⟨_, by rw [E.out]; rfl, rfl⟩
  · obtain ⟨m1, m2⟩ := side_mul hs
    have mw : IntKind.i64.wrap (W * H) = W * H := IntWalk.i64_in _ (by omega)
    have C1 := Lib.hid (fun n => (by have h := c_l02Sides W H w n; rwa [hs] at h : Calls Try.prog 109 #[.int .i64 W, .int .i64 H] (w.drewN n) (RetV (.bool true) w)))
    have C2 := Lib.hid (fun n => c_l02Finite a len cap zs w n HR.out)
    by_cases hl : (len : Int) = W * H
    · have hd : ((len : Int) == W * H) = true := by simpa using hl
      have e : validB W H zs = finL zs := by simp [validB, hs, H1.out, hl]
      have E := Lib.hid e
      have HL := Lib.hid hl
      clear e hs hl
      go_enter Try.func61, Try.ntmps61
      go_wp2
      refine wp_region_N (fun f _ u => (f = 109 → u = .bool true) ∧ (f = 110 → u = .bool (finL zs))) (by kernel_rfl) (by kernel_rfl) ?_; (repeat (first | ((with_reducible show wpN _ _ _ _ _ (Oper.mk _ (Op.binOp _ _ _ _ _) _ _ _ none :: _) _); refine wpN_fop rfl _ _ _ _ _ rfl _ _ _ rfl rfl (by decide) ?_; intro _) | ((with_reducible show wpN _ _ _ _ _ (Oper.mk _ (Op.convert _ _ _) _ _ _ none :: _) _); refine wpN_cvU rfl 38 42 _ rfl (Option.isSome_iff_exists.2 ⟨_, Try.underlying38⟩) Try.underlying42 _ rfl ?_; intro _) | ((with_reducible show wpN _ _ _ _ _ (Oper.mk _ _ _ _ _ (some _) :: _) _); (with_reducible refine wpN_off ?_ ?_); focus rfl; (simp only [Act.put, List.setIfInBounds_toArray, List.set_cons_zero, List.set_cons_succ])) | ((with_reducible show wpN _ _ _ _ _ (Oper.mk _ _ _ _ _ (some _) :: _) _); ((with_reducible refine wpN_on ?_ (fun K hK => ?_)); (focus rfl); intro _; go_simp; first | (refine uponN_value (hK _ ?_)) | ((first | (refine uponN_call (callN (v := .bool true) ⟨fun _ => rfl, fun h => absurd h (by decide)⟩ (C1.out _)) ?_; intro u hu; obtain rfl : u = _ := hu.1 rfl; clear hu) | (refine uponN_call (callN (v := .bool (finL zs)) ⟨fun h => absurd h (by decide), fun _ => rfl⟩ (C2.out _)) ?_; intro u hu; obtain rfl : u = _ := hu.2 rfl; clear hu)); refine hK _ ?_)); clear hK K) | (((with_reducible refine wpN_plain rfl (fun K hK => ?_)); intro _; go_simp; first | (refine uponN_value (hK _ ?_)) | ((first | (refine uponN_call (callN (v := .bool true) ⟨fun _ => rfl, fun h => absurd h (by decide)⟩ (C1.out _)) ?_; intro u hu; obtain rfl : u = _ := hu.1 rfl; clear hu) | (refine uponN_call (callN (v := .bool (finL zs)) ⟨fun h => absurd h (by decide), fun _ => rfl⟩ (C2.out _)) ?_; intro u hu; obtain rfl : u = _ := hu.2 rfl; clear hu)); refine hK _ ?_)); clear hK K) | ((with_reducible refine wpN_step (fun K hK => ?_)); go_simp; first | (refine hK _ ?_) | (intro _; first | (refine uponN_value (hK _ ?_)) | ((first | (refine uponN_call (callN (v := .bool true) ⟨fun _ => rfl, fun h => absurd h (by decide)⟩ (C1.out _)) ?_; intro u hu; obtain rfl : u = _ := hu.1 rfl; clear hu) | (refine uponN_call (callN (v := .bool (finL zs)) ⟨fun h => absurd h (by decide), fun _ => rfl⟩ (C2.out _)) ?_; intro u hu; obtain rfl : u = _ := hu.2 rfl; clear hu)); refine hK _ ?_)); clear hK K))); refine wpN_nil ?_; intro _
      go_wp2
      go_ret
      exact ⟨_, by rw [E.out]; rfl, rfl⟩
    · have hd : ((len : Int) == W * H) = false := by simpa using hl
      have e : validB W H zs = false := by simp [validB, hs, H1.out, hl]
      have E := Lib.hid e
      clear e hs hl
      go_enter Try.func61, Try.ntmps61
      go_wp2
      refine wp_region_N (fun f _ u => (f = 109 → u = .bool true)) (by kernel_rfl) (by kernel_rfl) ?_; (repeat (first | ((with_reducible show wpN _ _ _ _ _ (Oper.mk _ (Op.binOp _ _ _ _ _) _ _ _ none :: _) _); refine wpN_fop rfl _ _ _ _ _ rfl _ _ _ rfl rfl (by decide) ?_; intro _) | ((with_reducible show wpN _ _ _ _ _ (Oper.mk _ (Op.convert _ _ _) _ _ _ none :: _) _); refine wpN_cvU rfl 38 42 _ rfl (Option.isSome_iff_exists.2 ⟨_, Try.underlying38⟩) Try.underlying42 _ rfl ?_; intro _) | ((with_reducible show wpN _ _ _ _ _ (Oper.mk _ _ _ _ _ (some _) :: _) _); (with_reducible refine wpN_off ?_ ?_); focus rfl; (simp only [Act.put, List.setIfInBounds_toArray, List.set_cons_zero, List.set_cons_succ])) | ((with_reducible show wpN _ _ _ _ _ (Oper.mk _ _ _ _ _ (some _) :: _) _); ((with_reducible refine wpN_on ?_ (fun K hK => ?_)); (focus rfl); intro _; go_simp; first | (refine uponN_value (hK _ ?_)) | ((refine uponN_call (callN (v := .bool true) (fun _ => rfl) (C1.out _)) ?_; intro u hu; obtain rfl : u = _ := hu rfl; clear hu); refine hK _ ?_)); clear hK K) | (((with_reducible refine wpN_plain rfl (fun K hK => ?_)); intro _; go_simp; first | (refine uponN_value (hK _ ?_)) | ((refine uponN_call (callN (v := .bool true) (fun _ => rfl) (C1.out _)) ?_; intro u hu; obtain rfl : u = _ := hu rfl; clear hu); refine hK _ ?_)); clear hK K) | ((with_reducible refine wpN_step (fun K hK => ?_)); go_simp; first | (refine hK _ ?_) | (intro _; first | (refine uponN_value (hK _ ?_)) | ((refine uponN_call (callN (v := .bool true) (fun _ => rfl) (C1.out _)) ?_; intro u hu; obtain rfl : u = _ := hu rfl; clear hu); refine hK _ ?_)); clear hK K))); refine wpN_nil ?_; intro _
      go_wp2
      go_ret
      exact ⟨_, by rw [E.out]; rfl, rfl⟩
/-! ### l02Both -/
def bothB (WA HA : Int) (zA : List Nat) (WB HB : Int) (zB : List Nat) : Bool := validB WA HA zA && validB WB HB zB && WA == WB && HA == HB
theorem c_l02Both (WA HA : Int) (zA : List Nat) (aA : Option Addr) (cA : Nat) (WB HB : Int) (zB : List Nat) (aB : Option Addr) (cB : Nat) (x y : Nat) (w : World) (j : Nat) (vx : Var w x #[.int .i64 WA, .int .i64 HA, .slice aA zA.length cA]) (vy : Var w y #[.int .i64 WB, .int .i64 HB, .slice aB zB.length cB])
    (rA : IsRowF .f32 w aA zA.length cA zA) (rB : IsRowF .f32 w aB zB.length cB zB) (hxy : x ≠ y) : Calls Try.prog 77 #[.pointer (some ⟨x, 0, none⟩), .pointer (some ⟨y, 0, none⟩)] (w.drewN j) (RetV (.bool (bothB WA HA zA WB HB zB)) w) := by
  obtain ⟨p0, p1, p2⟩ := vx.three
  obtain ⟨q0, q1, q2⟩ := vy.three
  have CA := Lib.hid (fun n => c_l02Is WA HA x aA zA.length cA zA w n vx rA)
  have CB := Lib.hid (fun n => c_l02Is WB HB y aB zB.length cB zB w n vy rB)
  clear vx vy rA rB
  unfold bothB
  have hx : ∀ u, (#[Value.pointer (some ⟨x, 0, none⟩)] : Array Value) = #[.pointer (some ⟨y, 0, none⟩)] → u := fun u h => absurd h (by simp <;> omega)
  have hy : ∀ u, (#[Value.pointer (some ⟨y, 0, none⟩)] : Array Value) = #[.pointer (some ⟨x, 0, none⟩)] → u := fun u h => absurd h (by simp <;> omega)
  have HX := Lib.hid hx
  have HY := Lib.hid hy
  clear hx hy
  cases hA : validB WA HA zA
  · have C1 := Lib.hid (fun n => (by have h := CA.out n; rwa [hA] at h : Calls Try.prog 61 #[.pointer (some ⟨x, 0, none⟩)] (w.drewN n) (RetV (.bool false) w)))
    clear CA CB hA
    go_enter Try.func77, Try.ntmps77
    go_wp2
    refine wp_region_N (fun f args u => args = #[.pointer (some ⟨x, 0, none⟩)] → u = .bool false) (by kernel_rfl) (by kernel_rfl) ?_; (repeat (first | ((with_reducible show wpN _ _ _ _ _ (Oper.mk _ (Op.binOp _ _ _ _ _) _ _ _ none :: _) _); refine wpN_fop rfl _ _ _ _ _ rfl _ _ _ rfl rfl (by decide) ?_; intro _) | ((with_reducible show wpN _ _ _ _ _ (Oper.mk _ (Op.convert _ _ _) _ _ _ none :: _) _); refine wpN_cvU rfl 38 42 _ rfl (Option.isSome_iff_exists.2 ⟨_, Try.underlying38⟩) Try.underlying42 _ rfl ?_; intro _) | ((with_reducible show wpN _ _ _ _ _ (Oper.mk _ _ _ _ _ (some _) :: _) _); (with_reducible refine wpN_off ?_ ?_); focus rfl; (simp only [Act.put, List.setIfInBounds_toArray, List.set_cons_zero, List.set_cons_succ])) | ((with_reducible show wpN _ _ _ _ _ (Oper.mk _ _ _ _ _ (some _) :: _) _); ((with_reducible refine wpN_on ?_ (fun K hK => ?_)); (focus rfl); intro _; go_simp; first | (refine uponN_value (hK _ ?_)) | ((refine uponN_call (callN (v := .bool false) (fun _ => rfl) (C1.out _)) ?_; intro u hu; obtain rfl : u = _ := hu rfl; clear hu); refine hK _ ?_)); clear hK K) | (((with_reducible refine wpN_plain rfl (fun K hK => ?_)); intro _; go_simp; first | (refine uponN_value (hK _ ?_)) | ((refine uponN_call (callN (v := .bool false) (fun _ => rfl) (C1.out _)) ?_; intro u hu; obtain rfl : u = _ := hu rfl; clear hu); refine hK _ ?_)); clear hK K) | ((with_reducible refine wpN_step (fun K hK => ?_)); go_simp; first | (refine hK _ ?_) | (intro _; first | (refine uponN_value (hK _ ?_)) | ((refine uponN_call (callN (v := .bool false) (fun _ => rfl) (C1.out _)) ?_; intro u hu; obtain rfl : u = _ := hu rfl; clear hu); refine hK _ ?_)); clear hK K))); refine wpN_nil ?_; intro _
    go_wp2
    go_ret
    exact ⟨_, by simp, rfl⟩
  · have C1 := Lib.hid (fun n => (by have h := CA.out n; rwa [hA] at h : Calls Try.prog 61 #[.pointer (some ⟨x, 0, none⟩)] (w.drewN n) (RetV (.bool true) w)))
    cases hB : validB WB HB zB
    · have C2 := Lib.hid (fun n => (by have h := CB.out n; rwa [hB] at h : Calls Try.prog 61 #[.pointer (some ⟨y, 0, none⟩)] (w.drewN n) (RetV (.bool false) w)))
      clear CA CB hA hB
      go_enter Try.func77, Try.ntmps77
      go_wp2
      refine wp_region_N (fun f args u => (args = #[.pointer (some ⟨x, 0, none⟩)] → u = .bool true) ∧ (args = #[.pointer (some ⟨y, 0, none⟩)] → u = .bool false)) (by kernel_rfl) (by kernel_rfl) ?_; (repeat (first | ((with_reducible show wpN _ _ _ _ _ (Oper.mk _ (Op.binOp _ _ _ _ _) _ _ _ none :: _) _); refine wpN_fop rfl _ _ _ _ _ rfl _ _ _ rfl rfl (by decide) ?_; intro _) | ((with_reducible show wpN _ _ _ _ _ (Oper.mk _ (Op.convert _ _ _) _ _ _ none :: _) _); refine wpN_cvU rfl 38 42 _ rfl (Option.isSome_iff_exists.2 ⟨_, Try.underlying38⟩) Try.underlying42 _ rfl ?_; intro _) | ((with_reducible show wpN _ _ _ _ _ (Oper.mk _ _ _ _ _ (some _) :: _) _); (with_reducible refine wpN_off ?_ ?_); focus rfl; (simp only [Act.put, List.setIfInBounds_toArray, List.set_cons_zero, List.set_cons_succ])) | ((with_reducible show wpN _ _ _ _ _ (Oper.mk _ _ _ _ _ (some _) :: _) _); ((with_reducible refine wpN_on ?_ (fun K hK => ?_)); (focus rfl); intro _; go_simp; first | (refine uponN_value (hK _ ?_)) | ((first | ((with_reducible show uponN _ _ _ _ (Result.ok (Next.enter _ #[Value.pointer (some ⟨x, 0, none⟩)]) _)); refine uponN_call (callN (v := .bool true) ⟨fun _ => rfl, HX.out _⟩ (C1.out _)) ?_; intro u hu; obtain rfl : u = _ := hu.1 rfl; clear hu) | ((with_reducible show uponN _ _ _ _ (Result.ok (Next.enter _ #[Value.pointer (some ⟨y, 0, none⟩)]) _)); refine uponN_call (callN (v := .bool false) ⟨HY.out _, fun _ => rfl⟩ (C2.out _)) ?_; intro u hu; obtain rfl : u = _ := hu.2 rfl; clear hu)); refine hK _ ?_)); clear hK K) | (((with_reducible refine wpN_plain rfl (fun K hK => ?_)); intro _; go_simp; first | (refine uponN_value (hK _ ?_)) | ((first | ((with_reducible show uponN _ _ _ _ (Result.ok (Next.enter _ #[Value.pointer (some ⟨x, 0, none⟩)]) _)); refine uponN_call (callN (v := .bool true) ⟨fun _ => rfl, HX.out _⟩ (C1.out _)) ?_; intro u hu; obtain rfl : u = _ := hu.1 rfl; clear hu) | ((with_reducible show uponN _ _ _ _ (Result.ok (Next.enter _ #[Value.pointer (some ⟨y, 0, none⟩)]) _)); refine uponN_call (callN (v := .bool false) ⟨HY.out _, fun _ => rfl⟩ (C2.out _)) ?_; intro u hu; obtain rfl : u = _ := hu.2 rfl; clear hu)); refine hK _ ?_)); clear hK K) | ((with_reducible refine wpN_step (fun K hK => ?_)); go_simp; first | (refine hK _ ?_) | (intro _; first | (refine uponN_value (hK _ ?_)) | ((first | ((with_reducible show uponN _ _ _ _ (Result.ok (Next.enter _ #[Value.pointer (some ⟨x, 0, none⟩)]) _)); refine uponN_call (callN (v := .bool true) ⟨fun _ => rfl, HX.out _⟩ (C1.out _)) ?_; intro u hu; obtain rfl : u = _ := hu.1 rfl; clear hu) | ((with_reducible show uponN _ _ _ _ (Result.ok (Next.enter _ #[Value.pointer (some ⟨y, 0, none⟩)]) _)); refine uponN_call (callN (v := .bool false) ⟨HY.out _, fun _ => rfl⟩ (C2.out _)) ?_; intro u hu; obtain rfl : u = _ := hu.2 rfl; clear hu)); refine hK _ ?_)); clear hK K))); refine wpN_nil ?_; intro _
      go_wp2
      go_ret
      exact ⟨_, by simp, rfl⟩
    · have C2 := Lib.hid (fun n => (by have h := CB.out n; rwa [hB] at h : Calls Try.prog 61 #[.pointer (some ⟨y, 0, none⟩)] (w.drewN n) (RetV (.bool true) w)))
      clear CA CB hA hB
      cases hW : (WA == WB) <;> cases hH : (HA == HB)
      all_goals
        go_enter Try.func77, Try.ntmps77
        go_wp2
        refine wp_region_N (fun f args u => (args = #[.pointer (some ⟨x, 0, none⟩)] → u = .bool true) ∧ (args = #[.pointer (some ⟨y, 0, none⟩)] → u = .bool true)) (by kernel_rfl) (by kernel_rfl) ?_; (repeat (first | ((with_reducible show wpN _ _ _ _ _ (Oper.mk _ (Op.binOp _ _ _ _ _) _ _ _ none :: _) _); refine wpN_fop rfl _ _ _ _ _ rfl _ _ _ rfl rfl (by decide) ?_; intro _) | ((with_reducible show wpN _ _ _ _ _ (Oper.mk _ (Op.convert _ _ _) _ _ _ none :: _) _); refine wpN_cvU rfl 38 42 _ rfl (Option.isSome_iff_exists.2 ⟨_, Try.underlying38⟩) Try.underlying42 _ rfl ?_; intro _) | ((with_reducible show wpN _ _ _ _ _ (Oper.mk _ _ _ _ _ (some _) :: _) _); (with_reducible refine wpN_off ?_ ?_); focus rfl; (simp only [Act.put, List.setIfInBounds_toArray, List.set_cons_zero, List.set_cons_succ])) | ((with_reducible show wpN _ _ _ _ _ (Oper.mk _ _ _ _ _ (some _) :: _) _); ((with_reducible refine wpN_on ?_ (fun K hK => ?_)); (focus rfl); intro _; go_simp; first | (refine uponN_value (hK _ ?_)) | ((first | ((with_reducible show uponN _ _ _ _ (Result.ok (Next.enter _ #[Value.pointer (some ⟨x, 0, none⟩)]) _)); refine uponN_call (callN (v := .bool true) ⟨fun _ => rfl, HX.out _⟩ (C1.out _)) ?_; intro u hu; obtain rfl : u = _ := hu.1 rfl; clear hu) | ((with_reducible show uponN _ _ _ _ (Result.ok (Next.enter _ #[Value.pointer (some ⟨y, 0, none⟩)]) _)); refine uponN_call (callN (v := .bool true) ⟨HY.out _, fun _ => rfl⟩ (C2.out _)) ?_; intro u hu; obtain rfl : u = _ := hu.2 rfl; clear hu)); refine hK _ ?_)); clear hK K) | (((with_reducible refine wpN_plain rfl (fun K hK => ?_)); intro _; go_simp; first | (refine uponN_value (hK _ ?_)) | ((first | ((with_reducible show uponN _ _ _ _ (Result.ok (Next.enter _ #[Value.pointer (some ⟨x, 0, none⟩)]) _)); refine uponN_call (callN (v := .bool true) ⟨fun _ => rfl, HX.out _⟩ (C1.out _)) ?_; intro u hu; obtain rfl : u = _ := hu.1 rfl; clear hu) | ((with_reducible show uponN _ _ _ _ (Result.ok (Next.enter _ #[Value.pointer (some ⟨y, 0, none⟩)]) _)); refine uponN_call (callN (v := .bool true) ⟨HY.out _, fun _ => rfl⟩ (C2.out _)) ?_; intro u hu; obtain rfl : u = _ := hu.2 rfl; clear hu)); refine hK _ ?_)); clear hK K) | ((with_reducible refine wpN_step (fun K hK => ?_)); go_simp; first | (refine hK _ ?_) | (intro _; first | (refine uponN_value (hK _ ?_)) | ((first | ((with_reducible show uponN _ _ _ _ (Result.ok (Next.enter _ #[Value.pointer (some ⟨x, 0, none⟩)]) _)); refine uponN_call (callN (v := .bool true) ⟨fun _ => rfl, HX.out _⟩ (C1.out _)) ?_; intro u hu; obtain rfl : u = _ := hu.1 rfl; clear hu) | ((with_reducible show uponN _ _ _ _ (Result.ok (Next.enter _ #[Value.pointer (some ⟨y, 0, none⟩)]) _)); refine uponN_call (callN (v := .bool true) ⟨HY.out _, fun _ => rfl⟩ (C2.out _)) ?_; intro u hu; obtain rfl : u = _ := hu.2 rfl; clear hu)); refine hK _ ?_)); clear hK K))); refine wpN_nil ?_; intro _
        go_wp2
        go_ret
        exact ⟨_, by simp, rfl⟩
/-! ### bothDefs -/
theorem bothB_spec {WA HA : Int} {zA : List Nat} {WB HB : Int} {zB : List Nat} (h : bothB WA HA zA WB HB zB = true) : validB WA HA zA = true ∧ validB WB HB zB = true ∧ WA = WB ∧ HA = HB ∧ zA.length = zB.length := by
  simp only [bothB, Bool.and_eq_true, beq_iff_eq] at h
  obtain ⟨⟨⟨h1, h2⟩, rfl⟩, rfl⟩ := h
  have a := (valid_len h1).1
  have b := (valid_len h2).1
  exact ⟨h1, h2, rfl, rfl, by omega⟩
/-! ### l02Share -/
def one32 : Nat := 1065353216
def shareB (v : Nat) : Bool := (FloatKind.f32.format.order v 0 == some .gt || FloatKind.f32.format.order v 0 == some .eq) && (FloatKind.f32.format.order v one32 == some .lt || FloatKind.f32.format.order v one32 == some .eq)
theorem c_l02Share (v n : Nat) (w : World) (j : Nat) : Calls Try.prog 116 #[.float .f32 (pick .f32 v n)] (w.drewN j) (RetV (.bool (shareB v)) w) := by
  unfold shareB one32
  cases h : (FloatKind.f32.format.order v 0 == some .gt || FloatKind.f32.format.order v 0 == some .eq)
  all_goals
    have HH := Lib.hid h
    go_enter Try.func116, Try.ntmps116
    go_wp2
    go_ret
    exact ⟨_, by simp [HH.out], rfl⟩
/-! ### levDefs -/
def levL (zs : List Nat) : Bool := zs.all shareB
def shotB (W H : Int) (zs : List Nat) : Bool := validB W H zs && levL zs
theorem levL_snoc (zs : List Nat) (k : Nat) (hk : k < zs.length) : levL (zs.take (k + 1)) = (levL (zs.take k) && shareB (fat zs k)) := by
  unfold levL fat
  rw [List.take_succ_eq_append_getElem hk, List.all_append, List.getD, List.getElem?_eq_getElem hk]; simp
theorem levL_of (zs : List Nat) (k : Nat) (hk : k < zs.length) (h : shareB (fat zs k) = false) : levL zs = false := by
  unfold levL
  rw [List.all_eq_false]
  refine ⟨zs[k], List.getElem_mem hk, ?_⟩
  unfold fat at h
  rw [List.getD, List.getElem?_eq_getElem hk] at h
  simpa using h
/-! ### maskDefs -/
def maskV (a b m : Nat) : Nat := fop .add .f32 a (fop .mul .f32 m (fop .sub .f32 b a))
def maskI (zA zB zM : List Nat) (k : Nat) : Nat := maskV (fat zA k) (fat zB k) (fat zM k)
def maskL (zA zB zM : List Nat) : List Nat := (List.range zA.length).map (maskI zA zB zM)
theorem maskL_len {zA zB zM : List Nat} : (maskL zA zB zM).length = zA.length := by simp [maskL]
theorem maskL_at {zA zB zM : List Nat} {k : Nat} (hk : k < zA.length) : fat (maskL zA zB zM) k = maskI zA zB zM k := by simp [fat, maskL, hk]
theorem maskI_lt (zA zB zM : List Nat) (k : Nat) : maskI zA zB zM k < 2 ^ FloatKind.f32.format.width := fop_lt _ _ _ _
def resMask (WA HA : Int) (zA : List Nat) (WB HB : Int) (zB : List Nat) (WM HM : Int) (zM : List Nat) : PRes := if (bothB WA HA zA WB HB zB && (bothB WA HA zA WM HM zM && shotB WM HM zM)) = true then giveP WA HA (maskL zA zB zM) else PRes.no
theorem both_swap {WA HA : Int} {zA : List Nat} {WB HB : Int} {zB : List Nat} {WM HM : Int} {zM : List Nat} (h : bothB WA HA zA WB HB zB = true) : bothB WB HB zB WM HM zM = bothB WA HA zA WM HM zM := by
  obtain ⟨h1, h2, rfl, rfl, _⟩ := bothB_spec h
  unfold bothB
  rw [h1, h2]
theorem mask_same {Wn Hn : Nat} {zA zB zM : List Nat} (hl : zA.length = Wn * Hn) : makeL (fun i j => maskI zA zB zM (j * Wn + i)) Wn Hn = maskL zA zB zM := by
  refine fat_ext (by rw [makeL_len, maskL_len, hl]) (fun k hk => ?_)
  rw [maskL_len] at hk
  rw [maskL_at hk]
  rw [hl] at hk
  have e : k / Wn * Wn + k % Wn = k := by rw [Nat.mul_comm]; exact Nat.div_add_mod k Wn
  have e1 : fat (makeL (fun i j => maskI zA zB zM (j * Wn + i)) Wn Hn) k = maskI zA zB zM (k / Wn * Wn + k % Wn) := by simp [fat, makeL, hk]
  rw [e1, e]
theorem mask_make {Wn Hn : Nat} {zA zB zM : List Nat} (hv : validB (Wn : Int) (Hn : Int) zA = true) (hl : zA.length = Wn * Hn) : resMake (fun i j => maskI zA zB zM (j * Wn + i)) (Wn : Int) (Hn : Int) = giveP (Wn : Int) (Hn : Int) (maskL zA zB zM) := by
  have hsb : sideB (Wn : Int) (Hn : Int) = true := by have h := hv; simp only [validB, Bool.and_eq_true] at h; exact h.1.1
  unfold resMake
  rw [hsb, if_pos rfl, Int.toNat_natCast, Int.toNat_natCast, mask_same hl]
theorem mask_no {WA HA : Int} {zA : List Nat} {WB HB : Int} {zB : List Nat} {WM HM : Int} {zM : List Nat} (h : bothB WA HA zA WB HB zB = false ∨ bothB WA HA zA WM HM zM = false ∨ shotB WM HM zM = false) : resMask WA HA zA WB HB zB WM HM zM = PRes.no := by
  unfold resMask
  rcases h with h | h | h <;> simp [h]
/-! ### l03Shot -/
theorem c_l03Shot (W H : Int) (b : Nat) (a : Option Addr) (len cap : Nat) (zs : List Nat) (w : World) (j0 : Nat) (hv : Var w b #[.int .i64 W, .int .i64 H, .slice a len cap]) (hr : IsRowF .f32 w a len cap zs) :
    Calls Try.prog 78 #[.pointer (some ⟨b, 0, none⟩)] (w.drewN j0) (RetV (.bool (shotB W H zs)) w) := by
  obtain ⟨p0, p1, p2⟩ := hv.three
  have CI := Lib.hid (fun j => c_l02Is W H b a len cap zs w j hv hr)
  cases hs : validB W H zs
  · have E := Lib.hid (show shotB W H zs = false by unfold shotB; rw [hs]; rfl)
    have C1 := Lib.hid (fun j => (by have h := CI.out j; rwa [hs] at h : Calls Try.prog 61 #[.pointer (some ⟨b, 0, none⟩)] (w.drewN j) (RetV (.bool false) w)))
    clear hr hv hs CI
    go_enter Try.func78, Try.ntmps78
    go_wp2_with ((go_at_call 61; refine (C1.out _).mono ?_; rintro _ _ ⟨_, rfl, rfl⟩))
    go_ret
    exact ⟨_, by rw [E.out]; rfl, rfl⟩
  have E := Lib.hid (show shotB W H zs = levL zs by unfold shotB; rw [hs]; rfl)
  have C1 := Lib.hid (fun j => (by have h := CI.out j; rwa [hs] at h : Calls Try.prog 61 #[.pointer (some ⟨b, 0, none⟩)] (w.drewN j) (RetV (.bool true) w)))
  obtain ⟨h1, h2, h3, h4, h5⟩ := hr
  unfold maxLen at h3
  have H1 := Lib.hid h1
  clear hv hs CI h1
  go_enter Try.func78, Try.ntmps78
  go_wp2_with ((go_at_call 61; refine (C1.out _).mono ?_; rintro _ _ ⟨_, rfl, rfl⟩))
  go_loopw [3, 12] (fun _ i wr => ∃ k m : Nat, k ≤ len ∧ i = .int .i64 k ∧ wr = w.drewN m ∧ levL (zs.take k) = true) (fun _ i _ => len - (intOf i).toNat)
  case atStart => exact ⟨0, _, Nat.zero_le _, rfl, rfl, rfl⟩
  case round =>
    obtain ⟨k, m, hk, rfl, rfl, hfin⟩ := hrel
    have HFin := Lib.hid hfin
    clear hfin
    by_cases hlt : k < len
    · rcases h5 with h5 | ⟨b5, off, rfl, hbl, hc⟩
      · omega
      have hcell : w.cell? ⟨b5, off + k, none⟩ = some (.float .f32 (fat zs k)) := hc k hlt
      obtain ⟨n, hn⟩ := pick0 .f32 (fat zs k) (lt_of_wf (h4 _ (by unfold fat; rw [List.getD, List.getElem?_eq_getElem (by have := H1.out; omega)]; exact List.getElem_mem _)))
      rw [hn] at hcell
      have HN := Lib.hid hn
      have HS := Lib.hid (levL_snoc zs k (by have := H1.out; omega))
      cases hf : shareB (fat zs k)
      · have HO := Lib.hid (levL_of zs k (by have := H1.out; omega) hf)
        have HF := Lib.hid (fun n j => (by have h := c_l02Share (fat zs k) n w j; rwa [hf] at h : Calls Try.prog 116 #[.float .f32 (pick .f32 (fat zs k) n)] (w.drewN j) (RetV (.bool false) w)))
        clear hc h4 hn hf
        go_wp2_with ((go_at_call 116; refine (HF.out _ _).mono ?_; rintro _ _ ⟨_, rfl, rfl⟩))
        go_ret
        exact ⟨_, by rw [E.out, HO.out]; rfl, rfl⟩
      · have HT := Lib.hid hf
        have HF := Lib.hid (fun n j => (by have h := c_l02Share (fat zs k) n w j; rwa [hf] at h : Calls Try.prog 116 #[.float .f32 (pick .f32 (fat zs k) n)] (w.drewN j) (RetV (.bool true) w)))
        clear hc h4 hn hf
        go_wp2_with ((go_at_call 116; refine (HF.out _ _).mono ?_; rintro _ _ ⟨_, rfl, rfl⟩))
        go_roundw
        case rel => exact ⟨k + 1, _, by omega, by go_num, rfl, by rw [HS.out, HFin.out, HT.out]; rfl⟩
        case measure => simp [intOf]; omega
    · have e : zs.take k = zs := List.take_of_length_le (by have := H1.out; omega)
      have HE := Lib.hid (by have h := HFin.out; rwa [e] at h : levL zs = true)
      clear h5 h4 e
      go_wp2
      go_ret
      exact ⟨_, by rw [E.out, HE.out]; rfl, rfl⟩
/-! ### l02Own -/
theorem infoFw : (Try.prog.info? 38).map (fun i => (i.zero, i.size, i.bytes)) = some (some (.float .f32 0), 1, 4) := by kernel_rfl
theorem c_l02Own (W H : Int) (x : Nat) (a : Option Addr) (cap : Nat) (zs : List Nat) (w : World) (hv : Var w x #[.int .i64 W, .int .i64 H, .slice a zs.length cap]) (hr : IsRowF .f32 w a zs.length cap zs) (h1 : 1 ≤ zs.length) (hl : zs.length ≤ 1048576) :
    Calls Try.prog 79 #[.pointer (some ⟨x, 0, none⟩)] w (fun e w' => ∃ a' c', e = .returned (.agg #[.int .i64 W, .int .i64 H, .slice a' zs.length c']) ∧ Below w.heap.size w w' ∧ Own 38 w' w.heap.size a' zs.length c' zs) := by
  obtain ⟨N, hN⟩ : ∃ N, N = zs.length := ⟨_, rfl⟩
  rw [← hN] at hv hr h1 hl ⊢
  clear hN
  generalize hw0 : w.alloc (Obj.cells #[.int .i64 0, .int .i64 0, .slice none 0 0] 26) = w0
  have X0 : Var w0 w.heap.size #[.int .i64 0, .int .i64 0, .slice none 0 0] := by subst hw0; exact Var.new _ _ _
  have X1 : Free w0 w.heap.size := by subst hw0; exact Free.new _ _ _
  have X2 : Below w.heap.size w w0 := by subst hw0; exact (Below.refl _ _).alloc (Nat.le_refl _) _
  have X3 : w0.heap.size = w.heap.size + 1 := by subst hw0; simp
  have HW := Lib.hid hw0
  have V0 := Lib.hid X0
  have F0 := Lib.hid X1
  have B0 := Lib.hid X2
  have VX := Lib.hid (hv.below X2 hv.lt)
  have RX := Lib.hid (hr.below X2)
  clear hw0 X0 X1 X2 hv hr
  have KS := Lib.hid (fun (w' : World) (hE : Below w0.heap.size w0 w') => (VX.out.keep hE).three)
  obtain ⟨i0, hinf, hz0, hz1, hz2⟩ := info_parts infoFw
  go_enter Try.func79, Try.ntmps79
  go_wp2_with fail
  rw [HW.out]
  refine wp_region_facts 14 (fun a b => Below a.heap.size a b) (fun _ => Below.refl _ _) (fun _ _ _ h h' => h.trans (h'.mono h.size)) (Below.refl _ _).drew (by kernel_rfl) (by kernel_rfl) (by kernel_rfl) (by kernel_rfl) ?_
  simp only [List.take_succ_cons, List.take_zero, List.drop_succ_cons, List.drop_zero]
  (with_reducible apply wpF_val); (focus (intro vs w' hE hk; (obtain ⟨d0, d1, d2⟩ := KS.out w' hE); go_simp; exact ⟨Below.refl _ _, rfl⟩)); (simp only [Act.put, List.setIfInBounds_toArray, List.set_cons_zero, List.set_cons_succ, List.cons_append, List.nil_append])
  (with_reducible apply wpF_val); (focus (intro vs w' hE hk; (obtain ⟨d0, d1, d2⟩ := KS.out w' hE); go_simp; exact ⟨Below.refl _ _, rfl⟩)); (simp only [Act.put, List.setIfInBounds_toArray, List.set_cons_zero, List.set_cons_succ, List.cons_append, List.nil_append])
  (with_reducible apply wpF_val); (focus (intro vs w' hE hk; (obtain ⟨d0, d1, d2⟩ := KS.out w' hE); go_simp; exact ⟨Below.refl _ _, rfl⟩)); (simp only [Act.put, List.setIfInBounds_toArray, List.set_cons_zero, List.set_cons_succ, List.cons_append, List.nil_append])
  (with_reducible apply wpF_val); (focus (intro vs w' hE hk; (obtain ⟨d0, d1, d2⟩ := KS.out w' hE); go_simp; exact ⟨Below.refl _ _, rfl⟩)); (simp only [Act.put, List.setIfInBounds_toArray, List.set_cons_zero, List.set_cons_succ, List.cons_append, List.nil_append])
  (with_reducible apply wpF_val); (focus (intro vs w' hE hk; (obtain ⟨d0, d1, d2⟩ := KS.out w' hE); go_simp; exact ⟨Below.refl _ _, rfl⟩)); (simp only [Act.put, List.setIfInBounds_toArray, List.set_cons_zero, List.set_cons_succ, List.cons_append, List.nil_append])
  (with_reducible apply wpF_val); (focus (intro vs w' hE hk; (obtain ⟨d0, d1, d2⟩ := KS.out w' hE); go_simp; exact ⟨Below.refl _ _, rfl⟩)); (simp only [Act.put, List.setIfInBounds_toArray, List.set_cons_zero, List.set_cons_succ, List.cons_append, List.nil_append])
  (with_reducible apply wpF_val); (focus (intro vs w' hE hk; (obtain ⟨d0, d1, d2⟩ := KS.out w' hE); go_simp; exact ⟨Below.refl _ _, rfl⟩)); (simp only [Act.put, List.setIfInBounds_toArray, List.set_cons_zero, List.set_cons_succ, List.cons_append, List.nil_append])
  (with_reducible apply wpF_val); (focus (intro vs w' hE hk; (obtain ⟨d0, d1, d2⟩ := KS.out w' hE); go_simp; exact ⟨Below.refl _ _, rfl⟩)); (simp only [Act.put, List.setIfInBounds_toArray, List.set_cons_zero, List.set_cons_succ, List.cons_append, List.nil_append])
  refine wpF_fact (fun u _ => ∃ g, u = .slice (some ⟨g, 0, none⟩) 0 0) (fun _ _ _ h _ => h) (fun vs w' hE hk => ?_) ?_; (focus (go_simp; exact ⟨(Below.refl _ _).alloc (Nat.le_refl _) _, _, rfl⟩)); (simp only [Act.put, List.setIfInBounds_toArray, List.set_cons_zero, List.set_cons_succ, List.cons_append, List.nil_append])
  (with_reducible apply wpF_val); (focus (intro vs w' hE hk; (obtain ⟨d0, d1, d2⟩ := KS.out w' hE); go_simp; exact ⟨Below.refl _ _, rfl⟩)); (simp only [Act.put, List.setIfInBounds_toArray, List.set_cons_zero, List.set_cons_succ, List.cons_append, List.nil_append])
  (with_reducible apply wpF_val); (focus (intro vs w' hE hk; (obtain ⟨d0, d1, d2⟩ := KS.out w' hE); go_simp; exact ⟨Below.refl _ _, rfl⟩)); (simp only [Act.put, List.setIfInBounds_toArray, List.set_cons_zero, List.set_cons_succ, List.cons_append, List.nil_append])
  (with_reducible apply wpF_val); (focus (intro vs w' hE hk; (obtain ⟨d0, d1, d2⟩ := KS.out w' hE); go_simp; exact ⟨Below.refl _ _, rfl⟩)); (simp only [Act.put, List.setIfInBounds_toArray, List.set_cons_zero, List.set_cons_succ, List.cons_append, List.nil_append])
  (with_reducible apply wpF_val); (focus (intro vs w' hE hk; (obtain ⟨d0, d1, d2⟩ := KS.out w' hE); go_simp; exact ⟨Below.refl _ _, rfl⟩)); (simp only [Act.put, List.setIfInBounds_toArray, List.set_cons_zero, List.set_cons_succ, List.cons_append, List.nil_append])
  refine wpF_fact (fun u wx => ∃ a' c', u = .slice a' N c' ∧ Own 38 wx (w.heap.size + 1) a' N c' zs) (fun u wa wb h hE => by obtain ⟨a', c', h1, h2⟩ := h; exact ⟨a', c', h1, h2.below hE⟩) (fun vs w' hE hk => ?_) ?_; (focus (obtain ⟨g, hg⟩ := hk 8 (by kernel_rfl); simp only [hg]; rw [if_pos (by rfl)]; refine uponW_append _ _ _ rfl rfl rfl ?_; obtain ⟨v', w9, hrun, hb9, a', c', hv9, ho9⟩ := own_copy _ _ i0 _ Try.underlying22 hinf hz0 hz1 hz2 rfl g (RX.out.below hE) h1 hl; exact ⟨v', w9, hrun, hb9, a', c', hv9, ho9.mono (by have := hE.size; omega)⟩)); (simp only [Act.put, List.setIfInBounds_toArray, List.set_cons_zero, List.set_cons_succ, List.cons_append, List.nil_append])
  refine wpF_nil (fun vs w' hE hk => ?_)
  obtain ⟨a', c', hu, hO⟩ := hk 13
  simp only [hu]
  have V1 := Lib.hid (V0.out.keep hE)
  have F1 := Lib.hid (F0.out.below V0.out.lt hE)
  have BX := Lib.hid (B0.out.trans (hE.mono (by omega)))
  have HO := Lib.hid hO
  clear hE hk hu hO
  obtain ⟨q0, q1, q2⟩ := V1.out.three
  have f0 := F1.out 0
  have f1 := F1.out 1
  have f2 := F1.out 2
  go_wp2_with fail
  have hrow : blk a' ≠ some w.heap.size := fun e => by have := HO.out.in _ e; omega
  refine bodyPost_ret (v := .agg #[.int .i64 W, .int .i64 H, .slice a' N c']) (by simp [results, Try.results79, q0, q1, q2, go_sem]) rfl ⟨a', c', rfl, ((BX.out.setCell (by simp <;> omega) _).setCell (by simp <;> omega) _).setCell (by simp <;> omega) _, (((HO.out.setCell hrow _).setCell hrow _).setCell hrow _).mono (by omega)⟩
/-! ### l02Is0 -/
theorem c_l02Is0 (W H : Int) (b : Nat) (a : Option Addr) (len cap : Nat) (zs : List Nat) (w : World) (hv : Var w b #[.int .i64 W, .int .i64 H, .slice a len cap]) (hr : IsRowF .f32 w a len cap zs) :
    Calls Try.prog 61 #[.pointer (some ⟨b, 0, none⟩)] w (RetV (.bool (validB W H zs)) w) := by
  have h := c_l02Is W H b a len cap zs w 0 hv hr
  rwa [w.drewN_zero] at h
/-! ### l02Give -/
theorem c_l02Give_yes (W H : Int) (a : Option Addr) (len cap : Nat) (zs : List Nat) (w : World) (hr : IsRowF .f32 w a len cap zs) (hv : validB W H zs = true) : Calls Try.prog 62 #[.agg #[.int .i64 W, .int .i64 H, .slice a len cap]] w (RetB (.tuple #[.agg #[.int .i64 W, .int .i64 H, .slice a len cap], .bool true]) w) := by
  have HR := Lib.hid hr
  have HV := Lib.hid hv
  clear hr hv
  go_enter Try.func62, Try.ntmps62
  go_wp2_with fail
  refine (c_l02Is0 W H w.heap.size a len cap zs _ ((Var.new _ _ _).alloc _) ((HR.out.alloc _).alloc _)).mono ?_
  rintro _ w1 ⟨m, rfl, rfl⟩
  rw [HV.out]
  go_wp2_with fail
  refine bodyPost_ret (v := .tuple #[.agg #[.int .i64 W, .int .i64 H, .slice a len cap], .bool true]) (by simp [results, Try.results62, go_sem]) rfl ⟨rfl, ?_⟩
  exact (((below_drewN (((Below.refl _ _).alloc (Nat.le_refl _) _).alloc (by simp) _) _).setCell (by simp) _).setCell (by simp) _).setCell (by simp) _
theorem c_l02Give_no (W H : Int) (a : Option Addr) (len cap : Nat) (zs : List Nat) (w : World) (hr : IsRowF .f32 w a len cap zs) (hv : validB W H zs = false) : Calls Try.prog 62 #[.agg #[.int .i64 W, .int .i64 H, .slice a len cap]] w (RetB (.tuple #[.agg #[.int .i64 0, .int .i64 0, .slice none 0 0], .bool false]) w) := by
  have HR := Lib.hid hr
  have HV := Lib.hid hv
  clear hr hv
  go_enter Try.func62, Try.ntmps62
  go_wp2_with fail
  refine (c_l02Is0 W H w.heap.size a len cap zs _ ((Var.new _ _ _).alloc _) ((HR.out.alloc _).alloc _)).mono ?_
  rintro _ w1 ⟨m, rfl, rfl⟩
  rw [HV.out]
  go_wp2_with fail
  refine bodyPost_ret (v := .tuple #[.agg #[.int .i64 0, .int .i64 0, .slice none 0 0], .bool false]) (by simp [results, Try.results62, go_sem]) rfl ⟨rfl, ?_⟩
  exact (((below_drewN (((Below.refl _ _).alloc (Nat.le_refl _) _).alloc (by simp) _) _).setCell (by simp) _).setCell (by simp) _).setCell (by simp) _
/-! ### giveAny -/
theorem c_give (W H : Int) (a : Option Addr) (n c : Nat) (zs L : List Nat) (B : Nat) (w : World) (o : Own 38 w B a n c zs) (hz : near zs L) (hl : n ≤ 1048576) :
    Calls Try.prog 62 #[.agg #[.int .i64 W, .int .i64 H, .slice a n c]] w (fun e w' => ∃ a' c', e = .returned (.tuple #[.agg #[.int .i64 (giveP W H L).W, .int .i64 (giveP W H L).H, .slice a' (giveP W H L).zs.length c'], .bool (giveP W H L).ok]) ∧ (giveP W H L).zs.length ≤ 1048576 ∧ Below w.heap.size w w' ∧ Own 38 w' B a' (giveP W H L).zs.length c' (giveP W H L).zs) := by
  have hv := near_valid (W := W) (H := H) hz
  have hn : zs.length = n := o.1
  unfold giveP
  cases h : validB W H L
  · rw [if_neg (by decide)]
    refine (c_l02Give_no W H a n c zs w o.row (by rw [hv, h])).mono ?_
    rintro _ w' ⟨rfl, b⟩
    exact ⟨none, 0, rfl, Nat.zero_le _, b, Own.nil _ _ _⟩
  · rw [if_pos rfl]
    obtain rfl := near_eq hz (valid_fin h)
    refine (c_l02Give_yes W H a n c zs w o.row h).mono ?_
    rintro _ w' ⟨rfl, b⟩
    exact ⟨a, c, by rw [hn], by rw [hn]; exact hl, b, by rw [hn]; exact o.below b⟩
/-! ### sMask -/
theorem c_sMaskMix (WA HA : Int) (zA : List Nat) (aA : Option Addr) (cA : Nat) (WB HB : Int) (zB : List Nat) (aB : Option Addr) (cB : Nat) (WM HM : Int) (zM : List Nat) (aM : Option Addr) (cM : Nat) (w : World) (rA : IsRowF .f32 w aA zA.length cA zA) (rB : IsRowF .f32 w aB zB.length cB zB) (rM : IsRowF .f32 w aM zM.length cM zM) : Calls Try.prog 32 #[.agg #[.int .i64 WA, .int .i64 HA, .slice aA zA.length cA], .agg #[.int .i64 WB, .int .i64 HB, .slice aB zB.length cB], .agg #[.int .i64 WM, .int .i64 HM, .slice aM zM.length cM]] w (RetP 38 (resMask WA HA zA WB HB zB WM HM zM) w) := by
  generalize hw0 : (((w.alloc (Obj.cells #[.int .i64 WA, .int .i64 HA, .slice aA zA.length cA] 26)).alloc (Obj.cells #[.int .i64 WB, .int .i64 HB, .slice aB zB.length cB] 26)).alloc (Obj.cells #[.int .i64 WM, .int .i64 HM, .slice aM zM.length cM] 26)).alloc (Obj.cells #[.int .i64 0, .int .i64 0, .slice none 0 0] 26) = w0
  have X0 : Var w0 w.heap.size #[.int .i64 WA, .int .i64 HA, .slice aA zA.length cA] := by subst hw0; exact (((Var.new _ _ _).alloc _).alloc _).alloc _
  have X1 : Var w0 (w.heap.size + 1) #[.int .i64 WB, .int .i64 HB, .slice aB zB.length cB] := by subst hw0; exact ((Var.new' _ _ _ _ (by simp)).alloc _).alloc _
  have X2 : Var w0 (w.heap.size + 1 + 1) #[.int .i64 WM, .int .i64 HM, .slice aM zM.length cM] := by subst hw0; exact (Var.new' _ _ _ _ (by simp)).alloc _
  have X3 : Var w0 (w.heap.size + 1 + 1 + 1) #[.int .i64 0, .int .i64 0, .slice none 0 0] := by subst hw0; exact Var.new' _ _ _ _ (by simp)
  have X4 : Free w0 (w.heap.size + 1 + 1 + 1) := by subst hw0; exact Free.new' _ _ _ _ (by simp)
  have X5 : Below w.heap.size w w0 := by subst hw0; exact ((((Below.refl _ _).alloc (Nat.le_refl _) _).alloc (by simp) _).alloc (by simp; omega) _).alloc (by simp; omega) _
  have HW := Lib.hid hw0
  have VA0 := Lib.hid X0
  have VB0 := Lib.hid X1
  have VM0 := Lib.hid X2
  have VR0 := Lib.hid X3
  have FR0 := Lib.hid X4
  have BW0 := Lib.hid X5
  have RA0 := Lib.hid (rA.below X5)
  have RB0 := Lib.hid (rB.below X5)
  have RM0 := Lib.hid (rM.below X5)
  have SZ0 : w.heap.size + 1 + 1 + 1 < w0.heap.size := X3.lt
  clear hw0 X0 X1 X2 X3 X4 X5 rA rB rM
  have C1 := Lib.hid (fun j => c_l02Both WA HA zA aA cA WB HB zB aB cB _ _ w0 j VA0.out VB0.out RA0.out RB0.out (by omega))
  have C2 := Lib.hid (fun j => c_l02Both WA HA zA aA cA WM HM zM aM cM _ _ w0 j VA0.out VM0.out RA0.out RM0.out (by omega))
  have C3 := Lib.hid (fun j => c_l03Shot WM HM _ aM _ cM zM w0 j VM0.out RM0.out)
  cases h1 : bothB WA HA zA WB HB zB
  · rw [mask_no (.inl h1)]
    rw [h1] at C1
    clear h1
    obtain ⟨q0, q1, q2⟩ := VR0.out.three
    have f0 := FR0.out 0
    have f1 := FR0.out 1
    have f2 := FR0.out 2
    go_enter Try.func32, Try.ntmps32
    go_upto_region 1 with fail
    rw [HW.out, ← w0.drewN_zero]
    go_wp2_with (first | (go_at_call 77; first | ((with_reducible refine (C1.out _).mono ?_); rintro _ _ ⟨_, rfl, rfl⟩) | ((with_reducible refine (C2.out _).mono ?_); rintro _ _ ⟨_, rfl, rfl⟩)) | (go_at_call 78; ((with_reducible refine (C3.out _).mono ?_); rintro _ _ ⟨_, rfl, rfl⟩)))
    refine bodyPost_ret (v := .tuple #[.agg #[.int .i64 0, .int .i64 0, .slice none 0 0], .bool false]) (by simp [results, Try.results32, q0, q1, q2, go_sem]) rfl (show RetP _ PRes.no _ _ _ from ⟨none, 0, rfl, Nat.zero_le _, ?_, Own.nil _ _ _⟩)
    repeat (first | exact BW0.out | exact Nat.le_refl _ | (refine Below.setCell ?_ ?_ _) | (refine below_drewN ?_ _) | (refine Below.alloc ?_ ?_ _) | (simp <;> omega))
  cases h2 : bothB WA HA zA WM HM zM
  · rw [mask_no (.inr (.inl h2))]
    rw [h1] at C1
    rw [h2] at C2
    clear h1 h2
    obtain ⟨q0, q1, q2⟩ := VR0.out.three
    have f0 := FR0.out 0
    have f1 := FR0.out 1
    have f2 := FR0.out 2
    go_enter Try.func32, Try.ntmps32
    go_upto_region 1 with fail
    rw [HW.out, ← w0.drewN_zero]
    go_wp2_with (first | (go_at_call 77; first | ((with_reducible refine (C1.out _).mono ?_); rintro _ _ ⟨_, rfl, rfl⟩) | ((with_reducible refine (C2.out _).mono ?_); rintro _ _ ⟨_, rfl, rfl⟩)) | (go_at_call 78; ((with_reducible refine (C3.out _).mono ?_); rintro _ _ ⟨_, rfl, rfl⟩)))
    refine bodyPost_ret (v := .tuple #[.agg #[.int .i64 0, .int .i64 0, .slice none 0 0], .bool false]) (by simp [results, Try.results32, q0, q1, q2, go_sem]) rfl (show RetP _ PRes.no _ _ _ from ⟨none, 0, rfl, Nat.zero_le _, ?_, Own.nil _ _ _⟩)
    repeat (first | exact BW0.out | exact Nat.le_refl _ | (refine Below.setCell ?_ ?_ _) | (refine below_drewN ?_ _) | (refine Below.alloc ?_ ?_ _) | (simp <;> omega))
  cases h3 : shotB WM HM zM
  · rw [mask_no (.inr (.inr h3))]
    rw [h1] at C1
    rw [h2] at C2
    rw [h3] at C3
    clear h1 h2 h3
    obtain ⟨q0, q1, q2⟩ := VR0.out.three
    have f0 := FR0.out 0
    have f1 := FR0.out 1
    have f2 := FR0.out 2
    go_enter Try.func32, Try.ntmps32
    go_upto_region 1 with fail
    rw [HW.out, ← w0.drewN_zero]
    go_wp2_with (first | (go_at_call 77; first | ((with_reducible refine (C1.out _).mono ?_); rintro _ _ ⟨_, rfl, rfl⟩) | ((with_reducible refine (C2.out _).mono ?_); rintro _ _ ⟨_, rfl, rfl⟩)) | (go_at_call 78; ((with_reducible refine (C3.out _).mono ?_); rintro _ _ ⟨_, rfl, rfl⟩)))
    refine bodyPost_ret (v := .tuple #[.agg #[.int .i64 0, .int .i64 0, .slice none 0 0], .bool false]) (by simp [results, Try.results32, q0, q1, q2, go_sem]) rfl (show RetP _ PRes.no _ _ _ from ⟨none, 0, rfl, Nat.zero_le _, ?_, Own.nil _ _ _⟩)
    repeat (first | exact BW0.out | exact Nat.le_refl _ | (refine Below.setCell ?_ ?_ _) | (refine below_drewN ?_ _) | (refine Below.alloc ?_ ?_ _) | (simp <;> omega))
  have hr : resMask WA HA zA WB HB zB WM HM zM = giveP WA HA (maskL zA zB zM) := by unfold resMask; rw [h1, h2, h3]; rfl
  rw [hr]
  obtain ⟨hvA, _, e1, e2, hlB⟩ := bothB_spec h1
  obtain ⟨_, _, e3, e4, hlM⟩ := bothB_spec h2
  rw [h1] at C1
  rw [h2] at C2
  rw [h3] at C3
  subst e1 e2 e3 e4
  have hl256 := (valid_len hvA).2.1
  have hl1 := (valid_len hvA).2.2
  clear hr h1 h2 h3 hvA
  have HNm : zA.length ≤ 1048576 := by omega
  have HAt := Lib.hid (fun (k : Nat) (hk : k < zA.length) => maskL_at (zB := zB) (zM := zM) hk)
  have HLen := Lib.hid (maskL_len (zA := zA) (zB := zB) (zM := zM))
  have HLB := Lib.hid hlB
  have HLM := Lib.hid hlM
  clear hlB hlM
  generalize hL : maskL zA zB zM = L at *
  clear hL
  have CG := Lib.hid (fun (a : Option Addr) (c : Nat) (zs : List Nat) (B : Nat) (w : World) (o : Own 38 w B a zA.length c zs) (hz : near zs L) => c_give WA HA a zA.length c zs L B w o hz HNm)
  generalize giveP WA HA L = res at *
  go_enter Try.func32, Try.ntmps32
  go_upto_region 1 with fail
  rw [HW.out, ← w0.drewN_zero]
  go_upto_region 3 with (first | (go_at_call 77; first | ((with_reducible refine (C1.out _).mono ?_); rintro _ _ ⟨_, rfl, rfl⟩) | ((with_reducible refine (C2.out _).mono ?_); rintro _ _ ⟨_, rfl, rfl⟩)) | (go_at_call 78; ((with_reducible refine (C3.out _).mono ?_); rintro _ _ ⟨_, rfl, rfl⟩)))
  generalize hw1 : World.drewN w0 _ = w1
  have D : Below w0.heap.size w0 w1 := by subst hw1; exact below_drewN (Below.refl _ _) _
  clear hw1
  have VA1 := Lib.hid (VA0.out.keep D)
  have VB1 := Lib.hid (VB0.out.keep D)
  have VM1 := Lib.hid (VM0.out.keep D)
  have VR1 := Lib.hid (VR0.out.keep D)
  have FR1 := Lib.hid (FR0.out.below VR0.out.lt D)
  have BW1 := Lib.hid (BW0.out.trans (D.mono BW0.out.size))
  have RA1 := Lib.hid (RA0.out.below D)
  have RB1 := Lib.hid (RB0.out.below D)
  have RM1 := Lib.hid (RM0.out.below D)
  have SZ1 : w.heap.size + 1 + 1 + 1 < w1.heap.size := VR1.out.lt
  clear VA0 VB0 VM0 VR0 FR0 BW0 RA0 RB0 RM0
  clear D C1 C2 C3
  go_wp2_with fail
  refine (c_l02Own WA HA _ aA cA zA w1 VA1.out RA1.out hl1 HNm).mono ?_
  rintro _ w2 ⟨a2, ca2, rfl, b, o⟩
  obtain ⟨g, hg⟩ := o.at0 hl1
  subst hg
  have G1 : w1.heap.size ≤ g ∧ g < w2.heap.size := o.lt
  have O2 := Lib.hid o
  have HBb := Lib.hid b
  have RAo := Lib.hid RA1.out
  have RBo := Lib.hid RB1.out
  have RMo := Lib.hid RM1.out
  have VA2 := Lib.hid (VA1.out.keep b)
  have VB2 := Lib.hid (VB1.out.keep b)
  have VM2 := Lib.hid (VM1.out.keep b)
  have VR2 := Lib.hid (VR1.out.keep b)
  have FR2 := Lib.hid (FR1.out.below VR1.out.lt b)
  have BW2 := Lib.hid (BW1.out.trans (b.mono BW1.out.size))
  have RA2 := Lib.hid (RA1.out.below b)
  have RB2 := Lib.hid (RB1.out.below b)
  have RM2 := Lib.hid (RM1.out.below b)
  have SZ2 : w.heap.size + 1 + 1 + 1 < w2.heap.size := VR2.out.lt
  clear o b VA1 VB1 VM1 VR1 FR1 BW1 RA1 RB1 RM1
  have z12 : w1.heap.size ≤ w2.heap.size := by omega
  go_wp2_with fail
  go_loopw [9, 25] (fun _ i wr => ∃ (k : Nat) (zs : List Nat), k ≤ zA.length ∧ i = .int .i64 k ∧ Var wr w2.heap.size #[.int .i64 WA, .int .i64 HA, .slice (some ⟨g, 0, none⟩) zA.length ca2] ∧ Own 38 wr w1.heap.size (some ⟨g, 0, none⟩) zA.length ca2 zs ∧ near (zs.take k) (L.take k) ∧ Below w1.heap.size w2 wr) (fun _ i _ => zA.length - (intOf i).toNat)
  case atStart => exact ⟨0, zA, Nat.zero_le _, rfl, Var.new _ _ _, O2.out.alloc _, by simpa using near_nil, (Below.refl _ _).alloc (by omega) _⟩
  case round =>
    obtain ⟨k, zs, hk, rfl, hV, hO, hnear, hB⟩ := hrel
    have HV := Lib.hid hV
    have HO := Lib.hid hO
    have HN := Lib.hid hnear
    have HB := Lib.hid hB
    have z2 : w2.heap.size < wr.heap.size := HV.out.lt
    clear hV hO hnear hB
    have VA1 := Lib.hid (VA2.out.below HB.out (by omega))
    have VB1 := Lib.hid (VB2.out.below HB.out (by omega))
    have VM1 := Lib.hid (VM2.out.below HB.out (by omega))
    have RAr := Lib.hid (RAo.out.below (HBb.out.trans HB.out))
    have RBr := Lib.hid (RBo.out.below (HBb.out.trans HB.out))
    have RMr := Lib.hid (RMo.out.below (HBb.out.trans HB.out))
    by_cases hlt : k < zA.length
    · obtain ⟨bA, oA, nA, haA, gA, eA⟩ := RAr.out.at hlt
      obtain ⟨bB, oB, nB, haB, gB, eB⟩ := RBr.out.at (k := k) (by rw [← HLB.out]; exact hlt)
      obtain ⟨bM, oM, nM, haM, gM, eM⟩ := RMr.out.at (k := k) (by rw [← HLM.out]; exact hlt)
      subst haA haB haM
      have hold := HO.out.cellAt hlt
      have hfz := HO.out.frozen k
      have KS := Lib.hid (fun (w' : World) (hE : Below wr.heap.size wr w') => (⟨(HV.out.keep hE).three.1, (HV.out.keep hE).three.2.1, (HV.out.keep hE).three.2.2, (VA1.out.keep hE).three.1, (VA1.out.keep hE).three.2.1, (VA1.out.keep hE).three.2.2, (hE.cell (p := ⟨bA, oA + k, none⟩) gA).trans eA, (VB1.out.keep hE).three.1, (VB1.out.keep hE).three.2.1, (VB1.out.keep hE).three.2.2, (hE.cell (p := ⟨bB, oB + k, none⟩) gB).trans eB, (VM1.out.keep hE).three.1, (VM1.out.keep hE).three.2.1, (VM1.out.keep hE).three.2.2, (hE.cell (p := ⟨bM, oM + k, none⟩) gM).trans eM, (hE.cell (p := ⟨g, k, none⟩) (by show g < _; omega)).trans hold, (hE.frozen (p := ⟨g, k, none⟩) (by show g < _; omega)).trans hfz⟩ : _ ∧ _ ∧ _ ∧ _ ∧ _ ∧ _ ∧ _ ∧ _ ∧ _ ∧ _ ∧ _ ∧ _ ∧ _ ∧ _ ∧ _ ∧ _ ∧ _))
      have HLat := Lib.hid (HAt.out k hlt)
      have kB : (k : Int) < (zB.length : Int) := by have := HLB.out; omega
      have kM : (k : Int) < (zM.length : Int) := by have := HLM.out; omega
      clear hold hfz eA eB eM
      go_upto_region 7 with fail
      refine wp_region_facts 27 (fun a b => Below a.heap.size a b) (fun _ => Below.refl _ _) (fun _ _ _ h h' => h.trans (h'.mono h.size)) (Below.refl _ _).drew (by kernel_rfl) (by kernel_rfl) (by kernel_rfl) (by kernel_rfl) ?_
      simp only [List.take_succ_cons, List.take_zero, List.drop_succ_cons, List.drop_zero]
      (with_reducible apply wpF_val); (focus (intro vs w' hE hk; (obtain ⟨d0, d1, d2, xa0, xa1, xa2, xa3, xb0, xb1, xb2, xb3, xm0, xm1, xm2, xm3, eg, ef⟩ := KS.out w' hE); go_simp; exact ⟨Below.refl _ _, rfl⟩)); (simp only [Act.put, List.setIfInBounds_toArray, List.set_cons_zero, List.set_cons_succ, List.cons_append, List.nil_append])
      (with_reducible apply wpF_val); (focus (intro vs w' hE hk; (obtain ⟨d0, d1, d2, xa0, xa1, xa2, xa3, xb0, xb1, xb2, xb3, xm0, xm1, xm2, xm3, eg, ef⟩ := KS.out w' hE); go_simp; exact ⟨Below.refl _ _, rfl⟩)); (simp only [Act.put, List.setIfInBounds_toArray, List.set_cons_zero, List.set_cons_succ, List.cons_append, List.nil_append])
      (with_reducible apply wpF_val); (focus (intro vs w' hE hk; (obtain ⟨d0, d1, d2, xa0, xa1, xa2, xa3, xb0, xb1, xb2, xb3, xm0, xm1, xm2, xm3, eg, ef⟩ := KS.out w' hE); go_simp; exact ⟨Below.refl _ _, rfl⟩)); (simp only [Act.put, List.setIfInBounds_toArray, List.set_cons_zero, List.set_cons_succ, List.cons_append, List.nil_append])
      (with_reducible apply wpF_val); (focus (intro vs w' hE hk; (obtain ⟨d0, d1, d2, xa0, xa1, xa2, xa3, xb0, xb1, xb2, xb3, xm0, xm1, xm2, xm3, eg, ef⟩ := KS.out w' hE); go_simp; exact ⟨Below.refl _ _, rfl⟩)); (simp only [Act.put, List.setIfInBounds_toArray, List.set_cons_zero, List.set_cons_succ, List.cons_append, List.nil_append])
      (with_reducible apply wpF_val); (focus (intro vs w' hE hk; (obtain ⟨d0, d1, d2, xa0, xa1, xa2, xa3, xb0, xb1, xb2, xb3, xm0, xm1, xm2, xm3, eg, ef⟩ := KS.out w' hE); go_simp; exact ⟨Below.refl _ _, rfl⟩)); (simp only [Act.put, List.setIfInBounds_toArray, List.set_cons_zero, List.set_cons_succ, List.cons_append, List.nil_append])
      (with_reducible apply wpF_val); (focus (intro vs w' hE hk; (obtain ⟨d0, d1, d2, xa0, xa1, xa2, xa3, xb0, xb1, xb2, xb3, xm0, xm1, xm2, xm3, eg, ef⟩ := KS.out w' hE); go_simp; exact ⟨Below.refl _ _, rfl⟩)); (simp only [Act.put, List.setIfInBounds_toArray, List.set_cons_zero, List.set_cons_succ, List.cons_append, List.nil_append])
      (with_reducible apply wpF_val); (focus (intro vs w' hE hk; (obtain ⟨d0, d1, d2, xa0, xa1, xa2, xa3, xb0, xb1, xb2, xb3, xm0, xm1, xm2, xm3, eg, ef⟩ := KS.out w' hE); go_simp; exact ⟨Below.refl _ _, rfl⟩)); (simp only [Act.put, List.setIfInBounds_toArray, List.set_cons_zero, List.set_cons_succ, List.cons_append, List.nil_append])
      (with_reducible apply wpF_val); (focus (intro vs w' hE hk; (obtain ⟨d0, d1, d2, xa0, xa1, xa2, xa3, xb0, xb1, xb2, xb3, xm0, xm1, xm2, xm3, eg, ef⟩ := KS.out w' hE); go_simp; exact ⟨Below.refl _ _, rfl⟩)); (simp only [Act.put, List.setIfInBounds_toArray, List.set_cons_zero, List.set_cons_succ, List.cons_append, List.nil_append])
      (with_reducible apply wpF_val); (focus (intro vs w' hE hk; (obtain ⟨d0, d1, d2, xa0, xa1, xa2, xa3, xb0, xb1, xb2, xb3, xm0, xm1, xm2, xm3, eg, ef⟩ := KS.out w' hE); go_simp; exact ⟨Below.refl _ _, rfl⟩)); (simp only [Act.put, List.setIfInBounds_toArray, List.set_cons_zero, List.set_cons_succ, List.cons_append, List.nil_append])
      (with_reducible apply wpF_val); (focus (intro vs w' hE hk; (obtain ⟨d0, d1, d2, xa0, xa1, xa2, xa3, xb0, xb1, xb2, xb3, xm0, xm1, xm2, xm3, eg, ef⟩ := KS.out w' hE); go_simp; exact ⟨Below.refl _ _, rfl⟩)); (simp only [Act.put, List.setIfInBounds_toArray, List.set_cons_zero, List.set_cons_succ, List.cons_append, List.nil_append])
      (with_reducible apply wpF_val); (focus (intro vs w' hE hk; (obtain ⟨d0, d1, d2, xa0, xa1, xa2, xa3, xb0, xb1, xb2, xb3, xm0, xm1, xm2, xm3, eg, ef⟩ := KS.out w' hE); go_simp; exact ⟨Below.refl _ _, rfl⟩)); (simp only [Act.put, List.setIfInBounds_toArray, List.set_cons_zero, List.set_cons_succ, List.cons_append, List.nil_append])
      (with_reducible apply wpF_val); (focus (intro vs w' hE hk; (obtain ⟨d0, d1, d2, xa0, xa1, xa2, xa3, xb0, xb1, xb2, xb3, xm0, xm1, xm2, xm3, eg, ef⟩ := KS.out w' hE); go_simp; exact ⟨Below.refl _ _, rfl⟩)); (simp only [Act.put, List.setIfInBounds_toArray, List.set_cons_zero, List.set_cons_succ, List.cons_append, List.nil_append])
      (with_reducible apply wpF_val); (focus (intro vs w' hE hk; (obtain ⟨d0, d1, d2, xa0, xa1, xa2, xa3, xb0, xb1, xb2, xb3, xm0, xm1, xm2, xm3, eg, ef⟩ := KS.out w' hE); go_simp; exact ⟨Below.refl _ _, rfl⟩)); (simp only [Act.put, List.setIfInBounds_toArray, List.set_cons_zero, List.set_cons_succ, List.cons_append, List.nil_append])
      (with_reducible apply wpF_val); (focus (intro vs w' hE hk; (obtain ⟨d0, d1, d2, xa0, xa1, xa2, xa3, xb0, xb1, xb2, xb3, xm0, xm1, xm2, xm3, eg, ef⟩ := KS.out w' hE); go_simp; exact ⟨Below.refl _ _, rfl⟩)); (simp only [Act.put, List.setIfInBounds_toArray, List.set_cons_zero, List.set_cons_succ, List.cons_append, List.nil_append])
      (with_reducible apply wpF_val); (focus (intro vs w' hE hk; (obtain ⟨d0, d1, d2, xa0, xa1, xa2, xa3, xb0, xb1, xb2, xb3, xm0, xm1, xm2, xm3, eg, ef⟩ := KS.out w' hE); go_simp; exact ⟨Below.refl _ _, rfl⟩)); (simp only [Act.put, List.setIfInBounds_toArray, List.set_cons_zero, List.set_cons_succ, List.cons_append, List.nil_append])
      (with_reducible apply wpF_val); (focus (intro vs w' hE hk; (obtain ⟨d0, d1, d2, xa0, xa1, xa2, xa3, xb0, xb1, xb2, xb3, xm0, xm1, xm2, xm3, eg, ef⟩ := KS.out w' hE); go_simp; exact ⟨Below.refl _ _, rfl⟩)); (simp only [Act.put, List.setIfInBounds_toArray, List.set_cons_zero, List.set_cons_succ, List.cons_append, List.nil_append])
      (with_reducible apply wpF_val); (focus (intro vs w' hE hk; (obtain ⟨d0, d1, d2, xa0, xa1, xa2, xa3, xb0, xb1, xb2, xb3, xm0, xm1, xm2, xm3, eg, ef⟩ := KS.out w' hE); go_simp; exact ⟨Below.refl _ _, rfl⟩)); (simp only [Act.put, List.setIfInBounds_toArray, List.set_cons_zero, List.set_cons_succ, List.cons_append, List.nil_append])
      (with_reducible apply wpF_val); (focus (intro vs w' hE hk; (obtain ⟨d0, d1, d2, xa0, xa1, xa2, xa3, xb0, xb1, xb2, xb3, xm0, xm1, xm2, xm3, eg, ef⟩ := KS.out w' hE); go_simp; exact ⟨Below.refl _ _, rfl⟩)); (simp only [Act.put, List.setIfInBounds_toArray, List.set_cons_zero, List.set_cons_succ, List.cons_append, List.nil_append])
      (with_reducible apply wpF_val); (focus (intro vs w' hE hk; (obtain ⟨d0, d1, d2, xa0, xa1, xa2, xa3, xb0, xb1, xb2, xb3, xm0, xm1, xm2, xm3, eg, ef⟩ := KS.out w' hE); go_simp; exact ⟨Below.refl _ _, rfl⟩)); (simp only [Act.put, List.setIfInBounds_toArray, List.set_cons_zero, List.set_cons_succ, List.cons_append, List.nil_append])
      (with_reducible apply wpF_val); (focus (intro vs w' hE hk; (obtain ⟨d0, d1, d2, xa0, xa1, xa2, xa3, xb0, xb1, xb2, xb3, xm0, xm1, xm2, xm3, eg, ef⟩ := KS.out w' hE); go_simp; exact ⟨Below.refl _ _, rfl⟩)); (simp only [Act.put, List.setIfInBounds_toArray, List.set_cons_zero, List.set_cons_succ, List.cons_append, List.nil_append])
      (with_reducible apply wpF_val); (focus (intro vs w' hE hk; (obtain ⟨d0, d1, d2, xa0, xa1, xa2, xa3, xb0, xb1, xb2, xb3, xm0, xm1, xm2, xm3, eg, ef⟩ := KS.out w' hE); go_simp; exact ⟨Below.refl _ _, rfl⟩)); (simp only [Act.put, List.setIfInBounds_toArray, List.set_cons_zero, List.set_cons_succ, List.cons_append, List.nil_append])
      (with_reducible apply wpF_val); (focus (intro vs w' hE hk; (obtain ⟨d0, d1, d2, xa0, xa1, xa2, xa3, xb0, xb1, xb2, xb3, xm0, xm1, xm2, xm3, eg, ef⟩ := KS.out w' hE); go_simp; exact ⟨Below.refl _ _, rfl⟩)); (simp only [Act.put, List.setIfInBounds_toArray, List.set_cons_zero, List.set_cons_succ, List.cons_append, List.nil_append])
      (with_reducible apply wpF_val); (focus (intro vs w' hE hk; (obtain ⟨d0, d1, d2, xa0, xa1, xa2, xa3, xb0, xb1, xb2, xb3, xm0, xm1, xm2, xm3, eg, ef⟩ := KS.out w' hE); go_simp; exact ⟨Below.refl _ _, rfl⟩)); (simp only [Act.put, List.setIfInBounds_toArray, List.set_cons_zero, List.set_cons_succ, List.cons_append, List.nil_append])
      refine wpF_fact (fun u _ => ∃ m, u = .float .f32 (pick .f32 (fop .sub .f32 (fat zB k) (fat zA k)) m)) (fun _ _ _ h _ => h) (fun vs w' hE hk => ?_) ?_; (focus (rw [if_pos (by rfl)]; refine uponW_fop _ _ _ _ _ rfl .f32 _ _ rfl rfl (by decide) (fun n' m' => ⟨below_drewN (Below.refl _ _) _, n', by simp only [fop_pick_l, fop_pick_r]⟩))); (simp only [Act.put, List.setIfInBounds_toArray, List.set_cons_zero, List.set_cons_succ, List.cons_append, List.nil_append])
      refine wpF_fact (fun u _ => ∃ m, u = .float .f32 (pick .f32 (fop .mul .f32 (fat zM k) (fop .sub .f32 (fat zB k) (fat zA k))) m)) (fun _ _ _ h _ => h) (fun vs w' hE hk => ?_) ?_; (focus (obtain ⟨n1, hn1⟩ := hk 23 (by kernel_rfl); simp only [hn1]; rw [if_pos (by rfl)]; refine uponW_fop _ _ _ _ _ rfl .f32 _ _ rfl rfl (by decide) (fun n' m' => ⟨below_drewN (Below.refl _ _) _, n', by simp only [fop_pick_l, fop_pick_r]⟩))); (simp only [Act.put, List.setIfInBounds_toArray, List.set_cons_zero, List.set_cons_succ, List.cons_append, List.nil_append])
      refine wpF_fact (fun u _ => ∃ m, u = .float .f32 (pick .f32 (fop .add .f32 (fat zA k) (fop .mul .f32 (fat zM k) (fop .sub .f32 (fat zB k) (fat zA k)))) m)) (fun _ _ _ h _ => h) (fun vs w' hE hk => ?_) ?_; (focus (obtain ⟨n2, hn2⟩ := hk 24 (by kernel_rfl); simp only [hn2]; rw [if_pos (by rfl)]; refine uponW_fop _ _ _ _ _ rfl .f32 _ _ rfl rfl (by decide) (fun n' m' => ⟨below_drewN (Below.refl _ _) _, n', by simp only [fop_pick_l, fop_pick_r]⟩))); (simp only [Act.put, List.setIfInBounds_toArray, List.set_cons_zero, List.set_cons_succ, List.cons_append, List.nil_append])
      (with_reducible apply wpF_val); (focus (intro vs w' hE hk; (obtain ⟨d0, d1, d2, xa0, xa1, xa2, xa3, xb0, xb1, xb2, xb3, xm0, xm1, xm2, xm3, eg, ef⟩ := KS.out w' hE); go_simp; exact ⟨Below.refl _ _, rfl⟩)); (simp only [Act.put, List.setIfInBounds_toArray, List.set_cons_zero, List.set_cons_succ, List.cons_append, List.nil_append])
      refine wpF_nil (fun vs w' hE hk => ?_)
      obtain ⟨m5, h5⟩ := hk 25
      obtain ⟨d0, d1, d2, xa0, xa1, xa2, xa3, xb0, xb1, xb2, xb3, xm0, xm1, xm2, xm3, eg, ef⟩ := KS.out w' hE
      have O2 := Lib.hid ((HO.out.below hE).set hlt (pick .f32 (maskI zA zB zM k) m5) (pick_wf (maskI_lt zA zB zM k) m5))
      have V2 := Lib.hid ((HV.out.keep hE).setOther (p := ⟨g, k, none⟩) (by show g ≠ _; omega) (.float .f32 (pick .f32 (maskI zA zB zM k) m5)))
      have B2 := Lib.hid ((HB.out.trans (hE.mono (by omega))).setCell (p := ⟨g, k, none⟩) (by show _ ≤ g; omega) (.float .f32 (pick .f32 (maskI zA zB zM k) m5)))
      simp only [h5]
      clear hE hk h5
      go_wp2_with fail
      go_roundw
      case rel => exact ⟨k + 1, _, by omega, by go_num, V2.out, O2.out, by have h := near_set HN.out (k := k) (by rw [HLen.out]; exact hlt) (by have := HO.out.1; omega) m5; rw [HLat.out] at h; exact h, B2.out⟩
      case measure => simp [intOf]; omega
    · obtain rfl : k = zA.length := by omega
      have hz : near zs L := by
        have h := HN.out
        rw [List.take_of_length_le (show zs.length ≤ zA.length by have := HO.out.1; omega), List.take_of_length_le (show L.length ≤ zA.length by rw [HLen.out]; exact Nat.le_refl _)] at h
        exact h
      have HZ := Lib.hid hz
      clear hz
      have VR3 := Lib.hid (VR2.out.below HB.out (by omega))
      have FR3 := Lib.hid (FR2.out.keep HB.out (by omega))
      have BW3 := Lib.hid (BW2.out.trans (HB.out.mono (by omega)))
      obtain ⟨co0, co1, co2⟩ := HV.out.three
      go_wp2_with fail
      refine (CG.out _ ca2 zs _ wr HO.out HZ.out).mono ?_
      rintro _ w9 ⟨a9, cap9, rfl, hl9, b9, o9⟩
      have V9 := Lib.hid (VR3.out.keep b9)
      have F9 := Lib.hid (FR3.out.below (by omega) b9)
      have B9 := Lib.hid (BW3.out.trans (b9.mono (by omega)))
      have z9 : wr.heap.size ≤ w9.heap.size := b9.size
      have O9 := Lib.hid o9
      have HL9 := Lib.hid hl9
      clear b9 o9 hl9 co0 co1 co2
      obtain ⟨q0, q1, q2⟩ := V9.out.three
      have f0 := F9.out 0
      have f1 := F9.out 1
      have f2 := F9.out 2
      go_wp2_with fail
      have hrow : blk a9 ≠ some (w.heap.size + 1 + 1 + 1) := fun e => by have := O9.out.in _ e; omega
      refine bodyPost_ret (v := .tuple #[.agg #[.int .i64 res.W, .int .i64 res.H, .slice a9 res.zs.length cap9], .bool res.ok]) (by simp [results, Try.results32, q0, q1, q2, go_sem]) rfl ⟨a9, cap9, rfl, HL9.out, ((B9.out.setCell (by simp <;> omega) _).setCell (by simp <;> omega) _).setCell (by simp <;> omega) _, (((O9.out.setCell hrow _).setCell hrow _).setCell hrow _).mono (by omega)⟩
/-! ### atDefs -/
def minI (a b : Int) : Int := if a < b then a else b
def maxI (a b : Int) : Int := if b < a then a else b
theorem clamp_in (n : Nat) (h : 1 ≤ n) (i : Int) : ∃ c : Nat, maxI 0 (minI ((n : Int) - 1) i) = (c : Int) ∧ c < n := by
  refine ⟨(maxI 0 (minI ((n : Int) - 1) i)).toNat, ?_, ?_⟩
  · unfold maxI minI; split <;> split <;> omega
  · unfold maxI minI; split <;> split <;> omega
theorem clamp_is {n c : Nat} (h : c < n) : maxI 0 (minI ((n : Int) - 1) (c : Int)) = (c : Int) := by
  unfold maxI minI; split <;> split <;> omega
theorem mul_bound {cy Wn Hn : Nat} (hy : cy < Hn) (hW : Wn ≤ 16) (hH : Hn ≤ 16) : cy * Wn + Wn ≤ Wn * Hn ∧ cy * Wn ≤ 256 := by
  have h1 : (cy + 1) * Wn ≤ Hn * Wn := Nat.mul_le_mul_right _ (by omega)
  rw [Nat.succ_mul, Nat.mul_comm Hn Wn] at h1
  have h2 : Wn * Hn ≤ 16 * 16 := Nat.mul_le_mul hW hH
  exact ⟨h1, by omega⟩
/-! ### rowOf -/
theorem c_rowOf (Wn Hn : Nat) (a : Option Addr) (cap : Nat) (zs : List Nat) (y : Nat) (w : World) (hr : IsRowF .f32 w a zs.length cap zs) (hW1 : 1 ≤ Wn) (hW2 : Wn ≤ 16) (hH2 : Hn ≤ 16) (hl : zs.length = Wn * Hn) (hy : y < Hn) :
    Calls Try.prog 72 #[.agg #[.int .i64 (Wn : Int), .int .i64 (Hn : Int), .slice a zs.length cap], .int .i64 (y : Int)] w (fun e w' => ∃ b off, a = some ⟨b, off, none⟩ ∧ e = .returned (.slice (some ⟨b, off + y * Wn, none⟩) Wn Wn) ∧ Below w.heap.size w w') := by
  obtain ⟨hb1, hb2⟩ := mul_bound hy hW2 hH2
  obtain ⟨N, hN⟩ : ∃ N, N = zs.length := ⟨_, rfl⟩
  obtain ⟨P, hP⟩ : ∃ P : Nat, P = y * Wn := ⟨_, rfl⟩
  have hPi : (y : Int) * (Wn : Int) = (P : Int) := by rw [hP, Int.natCast_mul]
  have hPi2 : ((y : Int) + 1) * (Wn : Int) = (P : Int) + (Wn : Int) := by rw [Int.add_mul, hPi, Int.one_mul]
  rw [← hP] at hb1 hb2 ⊢
  rw [← hl, ← hN] at hb1
  rw [← hN] at hr ⊢
  have hcap : N ≤ cap := hr.2.1
  have hcm : cap ≤ maxLen := hr.2.2.1
  unfold maxLen at hcm
  obtain ⟨b, off, n0, rfl, hb, e0⟩ := hr.at (k := 0) (by omega)
  have M1 := Lib.hid (show IntKind.i64.wrap ((y : Int) * (Wn : Int)) = (P : Int) by rw [hPi]; exact IntWalk.i64_in _ (by omega))
  have M2 := Lib.hid (show IntKind.i64.wrap (((y : Int) + 1) * (Wn : Int)) = (P : Int) + (Wn : Int) by rw [hPi2]; exact IntWalk.i64_in _ (by omega))
  have M3 := Lib.hid (show IntKind.i64.wrap ((y : Int) + 1) = (y : Int) + 1 from IntWalk.i64_in _ (by omega))
  have hc2 : P + Wn ≤ cap := by omega
  clear hN hP hPi hPi2 hl hr hb e0 n0
  generalize hw0 : w.alloc (Obj.cells #[.int .i64 (Wn : Int), .int .i64 (Hn : Int), .slice (some ⟨b, off, none⟩) N cap] 26) = w0
  have X0 : Var w0 w.heap.size #[.int .i64 (Wn : Int), .int .i64 (Hn : Int), .slice (some ⟨b, off, none⟩) N cap] := by subst hw0; exact Var.new _ _ _
  have X3 : Below w.heap.size w w0 := by subst hw0; exact (Below.refl _ _).alloc (Nat.le_refl _) _
  have HW := Lib.hid hw0
  have B0 := Lib.hid X3
  obtain ⟨v0, v1, v2⟩ := X0.three
  clear hw0 X0 X3
  go_enter Try.func72, Try.ntmps72
  go_wp2_with fail
  rw [HW.out]
  rw [← w0.drewN_zero]
  have m1 := M1.out
  have m2 := M2.out
  have m3 := M3.out
  refine wp_region_N (fun _ _ _ => True) (by kernel_rfl) (by kernel_rfl) ?_; (repeat (first | ((with_reducible show wpN _ _ _ _ _ (Oper.mk _ (Op.binOp _ _ _ _ _) _ _ _ none :: _) _); refine wpN_fop rfl _ _ _ _ _ rfl _ _ _ rfl rfl (by decide) ?_; intro _) | ((with_reducible show wpN _ _ _ _ _ (Oper.mk _ (Op.convert _ _ _) _ _ _ none :: _) _); refine wpN_cvU rfl 38 42 _ rfl (Option.isSome_iff_exists.2 ⟨_, Try.underlying38⟩) Try.underlying42 _ rfl ?_; intro _) | ((with_reducible show wpN _ _ _ _ _ (Oper.mk _ _ _ _ _ (some _) :: _) _); (with_reducible refine wpN_off ?_ ?_); focus rfl; (simp only [Act.put, List.setIfInBounds_toArray, List.set_cons_zero, List.set_cons_succ])) | ((with_reducible show wpN _ _ _ _ _ (Oper.mk _ _ _ _ _ (some _) :: _) _); ((with_reducible refine wpN_on ?_ (fun K hK => ?_)); (focus rfl); intro _; go_simp; first | (refine uponN_value (hK _ ?_)) | (fail; refine hK _ ?_)); clear hK K) | (((with_reducible refine wpN_plain rfl (fun K hK => ?_)); intro _; go_simp; first | (refine uponN_value (hK _ ?_)) | (fail; refine hK _ ?_)); clear hK K) | ((with_reducible refine wpN_step (fun K hK => ?_)); go_simp; first | (refine hK _ ?_) | (intro _; first | (refine uponN_value (hK _ ?_)) | (fail; refine hK _ ?_)); clear hK K))); refine wpN_nil ?_; intro _
  clear m1 m2 m3
  go_wp2_with fail
  go_ret
  exact ⟨b, off, rfl, by simp, below_drewN B0.out _⟩

/-! ### between -/
theorem c_between (x nx y ny s ns : Nat) (w : World) (j : Nat) : Calls Try.prog 83 #[.float .f32 (pick .f32 x nx), .float .f32 (pick .f32 y ny), .float .f32 (pick .f32 s ns)] (w.drewN j) (RetF .f32 (fop .add .f32 x (fop .mul .f32 s (fop .sub .f32 y x))) w) := by
  go_enter Try.func83, Try.ntmps83
  go_wp2_with (first | (refine wpList_fop rfl _ _ _ _ _ rfl _ _ _ rfl rfl (by decide) _ ?_; intro _ _) | (refine upon_fop _ _ _ _ _ (by decide) ?_; intro _ _))
  go_ret
  exact ⟨_, _, rfl, rfl⟩
theorem c_between0 (x nx y ny s ns : Nat) (w : World) : Calls Try.prog 83 #[.float .f32 (pick .f32 x nx), .float .f32 (pick .f32 y ny), .float .f32 (pick .f32 s ns)] w (RetF .f32 (fop .add .f32 x (fop .mul .f32 s (fop .sub .f32 y x))) w) := by
  have h := c_between x nx y ny s ns w 0
  rwa [w.drewN_zero] at h
/-! ### mask1 -/
theorem c_mask1 (Wn Hn i j : Nat) (zA : List Nat) (aA : Option Addr) (cA : Nat) (zB : List Nat) (aB : Option Addr) (cB : Nat) (zM : List Nat) (aM : Option Addr) (cM : Nat) (pA pB pM : Nat) (w : World) (vA : Var w pA #[.int .i64 (Wn : Int), .int .i64 (Hn : Int), .slice aA zA.length cA]) (vB : Var w pB #[.int .i64 (Wn : Int), .int .i64 (Hn : Int), .slice aB zB.length cB]) (vM : Var w pM #[.int .i64 (Wn : Int), .int .i64 (Hn : Int), .slice aM zM.length cM]) (rA : IsRowF .f32 w aA zA.length cA zA) (rB : IsRowF .f32 w aB zB.length cB zB) (rM : IsRowF .f32 w aM zM.length cM zM)
    (hW1 : 1 ≤ Wn) (hW2 : Wn ≤ 16) (hH2 : Hn ≤ 16) (lA : zA.length = Wn * Hn) (lB : zB.length = Wn * Hn) (lM : zM.length = Wn * Hn) (hi : i < Wn) (hj : j < Hn) :
    Calls Try.prog 82 #[.int .i64 (i : Int), .int .i64 (j : Int), .pointer (some ⟨pA, 0, none⟩), .pointer (some ⟨pB, 0, none⟩), .pointer (some ⟨pM, 0, none⟩)] w (fun e w' => ∃ n, e = .returned (.float .f32 (pick .f32 (maskI zA zB zM (j * Wn + i)) n)) ∧ Below w.heap.size w w') := by
  unfold maskI
  have hidx : j * Wn + i < Wn * Hn := by have := (mul_bound hj hW2 hH2).1; omega
  obtain ⟨bA, oA, nA, rfl, gA, eA⟩ := rA.at (k := j * Wn + i) (by rw [lA]; exact hidx)
  have CA := Lib.hid (fun (w1 : World) (hE : Below w.heap.size w w1) => ((c_rowOf Wn Hn _ cA zA j w1 (rA.below hE) hW1 hW2 hH2 lA hj).mono (fun _ _ h => by obtain ⟨b1, off1, hab, rfl, hb1⟩ := h; cases hab; exact ⟨rfl, hb1⟩) : Calls Try.prog 72 #[.agg #[.int .i64 (Wn : Int), .int .i64 (Hn : Int), .slice (some ⟨bA, oA, none⟩) zA.length cA], .int .i64 (j : Int)] w1 (RetB (.slice (some ⟨bA, oA + j * Wn, none⟩) Wn Wn) w1)))
  obtain ⟨bB, oB, nB, rfl, gB, eB⟩ := rB.at (k := j * Wn + i) (by rw [lB]; exact hidx)
  have CB := Lib.hid (fun (w1 : World) (hE : Below w.heap.size w w1) => ((c_rowOf Wn Hn _ cB zB j w1 (rB.below hE) hW1 hW2 hH2 lB hj).mono (fun _ _ h => by obtain ⟨b1, off1, hab, rfl, hb1⟩ := h; cases hab; exact ⟨rfl, hb1⟩) : Calls Try.prog 72 #[.agg #[.int .i64 (Wn : Int), .int .i64 (Hn : Int), .slice (some ⟨bB, oB, none⟩) zB.length cB], .int .i64 (j : Int)] w1 (RetB (.slice (some ⟨bB, oB + j * Wn, none⟩) Wn Wn) w1)))
  obtain ⟨bM, oM, nM, rfl, gM, eM⟩ := rM.at (k := j * Wn + i) (by rw [lM]; exact hidx)
  have CM := Lib.hid (fun (w1 : World) (hE : Below w.heap.size w w1) => ((c_rowOf Wn Hn _ cM zM j w1 (rM.below hE) hW1 hW2 hH2 lM hj).mono (fun _ _ h => by obtain ⟨b1, off1, hab, rfl, hb1⟩ := h; cases hab; exact ⟨rfl, hb1⟩) : Calls Try.prog 72 #[.agg #[.int .i64 (Wn : Int), .int .i64 (Hn : Int), .slice (some ⟨bM, oM, none⟩) zM.length cM], .int .i64 (j : Int)] w1 (RetB (.slice (some ⟨bM, oM + j * Wn, none⟩) Wn Wn) w1)))
  obtain ⟨K, hK⟩ : ∃ K, K = j * Wn + i := ⟨_, rfl⟩
  obtain ⟨Q, hQ⟩ : ∃ Q, Q = j * Wn := ⟨_, rfl⟩
  rw [← hQ] at hK eA eB eM CA CB CM
  rw [← hQ, ← hK]
  rw [← Nat.add_assoc] at eA eB eM
  rw [← hK] at eA eB eM
  have KS := Lib.hid (fun (w' : World) (hE : Below w.heap.size w w') => (⟨(vA.keep hE).three.1, (vA.keep hE).three.2.1, (vA.keep hE).three.2.2, (hE.cell (p := ⟨bA, oA + Q + i, none⟩) gA).trans eA, (vB.keep hE).three.1, (vB.keep hE).three.2.1, (vB.keep hE).three.2.2, (hE.cell (p := ⟨bB, oB + Q + i, none⟩) gB).trans eB, (vM.keep hE).three.1, (vM.keep hE).three.2.1, (vM.keep hE).three.2.2, (hE.cell (p := ⟨bM, oM + Q + i, none⟩) gM).trans eM⟩ : _ ∧ _ ∧ _ ∧ _ ∧ _ ∧ _ ∧ _ ∧ _ ∧ _ ∧ _ ∧ _ ∧ _))
  clear eA eB eM rA rB rM vA vB vM lA lB lM hidx hK hQ
  unfold maskV
  go_enter Try.func82, Try.ntmps82
  go_upto_region 1 with fail
  refine wp_region_facts 20 (fun a b => Below a.heap.size a b) (fun _ => Below.refl _ _) (fun _ _ _ h h' => h.trans (h'.mono h.size)) (Below.refl _ _).drew (by kernel_rfl) (by kernel_rfl) (by kernel_rfl) (by kernel_rfl) ?_
  simp only [List.take_succ_cons, List.take_zero, List.drop_succ_cons, List.drop_zero]
  (with_reducible apply wpF_val); (focus (intro vs w' hE hk; (obtain ⟨pa0, pa1, pa2, pa3, pb0, pb1, pb2, pb3, pm0, pm1, pm2, pm3⟩ := KS.out w' hE); go_simp; exact ⟨Below.refl _ _, rfl⟩)); (simp only [Act.put, List.setIfInBounds_toArray, List.set_cons_zero, List.set_cons_succ, List.cons_append, List.nil_append])
  (with_reducible apply wpF_val); (focus (intro vs w' hE hk; (obtain ⟨pa0, pa1, pa2, pa3, pb0, pb1, pb2, pb3, pm0, pm1, pm2, pm3⟩ := KS.out w' hE); go_simp; exact ⟨Below.refl _ _, rfl⟩)); (simp only [Act.put, List.setIfInBounds_toArray, List.set_cons_zero, List.set_cons_succ, List.cons_append, List.nil_append])
  (with_reducible apply wpF_val); (focus (intro vs w' hE hk; (obtain ⟨pa0, pa1, pa2, pa3, pb0, pb1, pb2, pb3, pm0, pm1, pm2, pm3⟩ := KS.out w' hE); go_simp; refine (CA.out w' hE).mono ?_; rintro _ w9 ⟨rfl, b⟩; exact ⟨_, rfl, b, rfl⟩)); (simp only [Act.put, List.setIfInBounds_toArray, List.set_cons_zero, List.set_cons_succ, List.cons_append, List.nil_append])
  (with_reducible apply wpF_val); (focus (intro vs w' hE hk; (obtain ⟨pa0, pa1, pa2, pa3, pb0, pb1, pb2, pb3, pm0, pm1, pm2, pm3⟩ := KS.out w' hE); go_simp; exact ⟨Below.refl _ _, rfl⟩)); (simp only [Act.put, List.setIfInBounds_toArray, List.set_cons_zero, List.set_cons_succ, List.cons_append, List.nil_append])
  (with_reducible apply wpF_val); (focus (intro vs w' hE hk; (obtain ⟨pa0, pa1, pa2, pa3, pb0, pb1, pb2, pb3, pm0, pm1, pm2, pm3⟩ := KS.out w' hE); go_simp; exact ⟨Below.refl _ _, rfl⟩)); (simp only [Act.put, List.setIfInBounds_toArray, List.set_cons_zero, List.set_cons_succ, List.cons_append, List.nil_append])
  (with_reducible apply wpF_val); (focus (intro vs w' hE hk; (obtain ⟨pa0, pa1, pa2, pa3, pb0, pb1, pb2, pb3, pm0, pm1, pm2, pm3⟩ := KS.out w' hE); go_simp; exact ⟨Below.refl _ _, rfl⟩)); (simp only [Act.put, List.setIfInBounds_toArray, List.set_cons_zero, List.set_cons_succ, List.cons_append, List.nil_append])
  (with_reducible apply wpF_val); (focus (intro vs w' hE hk; (obtain ⟨pa0, pa1, pa2, pa3, pb0, pb1, pb2, pb3, pm0, pm1, pm2, pm3⟩ := KS.out w' hE); go_simp; exact ⟨Below.refl _ _, rfl⟩)); (simp only [Act.put, List.setIfInBounds_toArray, List.set_cons_zero, List.set_cons_succ, List.cons_append, List.nil_append])
  (with_reducible apply wpF_val); (focus (intro vs w' hE hk; (obtain ⟨pa0, pa1, pa2, pa3, pb0, pb1, pb2, pb3, pm0, pm1, pm2, pm3⟩ := KS.out w' hE); go_simp; exact ⟨Below.refl _ _, rfl⟩)); (simp only [Act.put, List.setIfInBounds_toArray, List.set_cons_zero, List.set_cons_succ, List.cons_append, List.nil_append])
  (with_reducible apply wpF_val); (focus (intro vs w' hE hk; (obtain ⟨pa0, pa1, pa2, pa3, pb0, pb1, pb2, pb3, pm0, pm1, pm2, pm3⟩ := KS.out w' hE); go_simp; refine (CB.out w' hE).mono ?_; rintro _ w9 ⟨rfl, b⟩; exact ⟨_, rfl, b, rfl⟩)); (simp only [Act.put, List.setIfInBounds_toArray, List.set_cons_zero, List.set_cons_succ, List.cons_append, List.nil_append])
  (with_reducible apply wpF_val); (focus (intro vs w' hE hk; (obtain ⟨pa0, pa1, pa2, pa3, pb0, pb1, pb2, pb3, pm0, pm1, pm2, pm3⟩ := KS.out w' hE); go_simp; exact ⟨Below.refl _ _, rfl⟩)); (simp only [Act.put, List.setIfInBounds_toArray, List.set_cons_zero, List.set_cons_succ, List.cons_append, List.nil_append])
  (with_reducible apply wpF_val); (focus (intro vs w' hE hk; (obtain ⟨pa0, pa1, pa2, pa3, pb0, pb1, pb2, pb3, pm0, pm1, pm2, pm3⟩ := KS.out w' hE); go_simp; exact ⟨Below.refl _ _, rfl⟩)); (simp only [Act.put, List.setIfInBounds_toArray, List.set_cons_zero, List.set_cons_succ, List.cons_append, List.nil_append])
  (with_reducible apply wpF_val); (focus (intro vs w' hE hk; (obtain ⟨pa0, pa1, pa2, pa3, pb0, pb1, pb2, pb3, pm0, pm1, pm2, pm3⟩ := KS.out w' hE); go_simp; exact ⟨Below.refl _ _, rfl⟩)); (simp only [Act.put, List.setIfInBounds_toArray, List.set_cons_zero, List.set_cons_succ, List.cons_append, List.nil_append])
  (with_reducible apply wpF_val); (focus (intro vs w' hE hk; (obtain ⟨pa0, pa1, pa2, pa3, pb0, pb1, pb2, pb3, pm0, pm1, pm2, pm3⟩ := KS.out w' hE); go_simp; exact ⟨Below.refl _ _, rfl⟩)); (simp only [Act.put, List.setIfInBounds_toArray, List.set_cons_zero, List.set_cons_succ, List.cons_append, List.nil_append])
  (with_reducible apply wpF_val); (focus (intro vs w' hE hk; (obtain ⟨pa0, pa1, pa2, pa3, pb0, pb1, pb2, pb3, pm0, pm1, pm2, pm3⟩ := KS.out w' hE); go_simp; exact ⟨Below.refl _ _, rfl⟩)); (simp only [Act.put, List.setIfInBounds_toArray, List.set_cons_zero, List.set_cons_succ, List.cons_append, List.nil_append])
  (with_reducible apply wpF_val); (focus (intro vs w' hE hk; (obtain ⟨pa0, pa1, pa2, pa3, pb0, pb1, pb2, pb3, pm0, pm1, pm2, pm3⟩ := KS.out w' hE); go_simp; refine (CM.out w' hE).mono ?_; rintro _ w9 ⟨rfl, b⟩; exact ⟨_, rfl, b, rfl⟩)); (simp only [Act.put, List.setIfInBounds_toArray, List.set_cons_zero, List.set_cons_succ, List.cons_append, List.nil_append])
  (with_reducible apply wpF_val); (focus (intro vs w' hE hk; (obtain ⟨pa0, pa1, pa2, pa3, pb0, pb1, pb2, pb3, pm0, pm1, pm2, pm3⟩ := KS.out w' hE); go_simp; exact ⟨Below.refl _ _, rfl⟩)); (simp only [Act.put, List.setIfInBounds_toArray, List.set_cons_zero, List.set_cons_succ, List.cons_append, List.nil_append])
  (with_reducible apply wpF_val); (focus (intro vs w' hE hk; (obtain ⟨pa0, pa1, pa2, pa3, pb0, pb1, pb2, pb3, pm0, pm1, pm2, pm3⟩ := KS.out w' hE); go_simp; exact ⟨Below.refl _ _, rfl⟩)); (simp only [Act.put, List.setIfInBounds_toArray, List.set_cons_zero, List.set_cons_succ, List.cons_append, List.nil_append])
  (with_reducible apply wpF_val); (focus (intro vs w' hE hk; (obtain ⟨pa0, pa1, pa2, pa3, pb0, pb1, pb2, pb3, pm0, pm1, pm2, pm3⟩ := KS.out w' hE); go_simp; exact ⟨Below.refl _ _, rfl⟩)); (simp only [Act.put, List.setIfInBounds_toArray, List.set_cons_zero, List.set_cons_succ, List.cons_append, List.nil_append])
  refine wpF_fact (fun u _ => ∃ m, u = .float .f32 (pick .f32 (fop .add .f32 (fat zA K) (fop .mul .f32 (fat zM K) (fop .sub .f32 (fat zB K) (fat zA K)))) m)) (fun _ _ _ h _ => h) (fun vs w' hE hk => ?_) ?_; (focus ((obtain ⟨pa0, pa1, pa2, pa3, pb0, pb1, pb2, pb3, pm0, pm1, pm2, pm3⟩ := KS.out w' hE); go_simp; rw [← w'.drewN_zero]; refine (c_between _ _ _ _ _ _ w' 0).mono ?_; rintro _ _ ⟨m1, m2, rfl, rfl⟩; exact ⟨_, rfl, by rw [w'.drewN_zero]; exact below_drewN (Below.refl _ _) _, m1, rfl⟩)); (simp only [Act.put, List.setIfInBounds_toArray, List.set_cons_zero, List.set_cons_succ, List.cons_append, List.nil_append])
  refine wpF_fact (fun u _ => ∃ m, u = .float .f32 (pick .f32 (fop .add .f32 (fat zA K) (fop .mul .f32 (fat zM K) (fop .sub .f32 (fat zB K) (fat zA K)))) m)) (fun _ _ _ h _ => h) (fun vs w' hE hk => ?_) ?_; (focus (obtain ⟨n9, hn9⟩ := hk 18 (by kernel_rfl); simp only [hn9]; go_simp; exact ⟨Below.refl _ _, n9, rfl⟩)); (simp only [Act.put, List.setIfInBounds_toArray, List.set_cons_zero, List.set_cons_succ, List.cons_append, List.nil_append])
  refine wpF_nil (fun vs w1 hE hk => ?_)
  obtain ⟨_, h18⟩ := hk 18
  obtain ⟨q9, h19⟩ := hk 19
  simp only [h18, h19]
  have B1 := Lib.hid hE
  clear hE hk h18 h19
  go_wp2_with fail
  go_ret
  exact ⟨_, rfl, B1.out⟩
/-! ### sidesOf -/
theorem c_sidesOf (W H : Int) (s : Value) (w : World) : Calls Try.prog 66 #[.agg #[.int .i64 W, .int .i64 H, s]] w (RetB (.agg #[.int .i64 W, .int .i64 H]) w) := by
  go_enter Try.func66, Try.ntmps66
  go_wp2
  exact bodyPost_ret (v := .agg #[.int .i64 W, .int .i64 H]) (by simp [results, Try.results66, go_sem]) rfl ⟨rfl, ((Below.refl _ _).alloc (Nat.le_refl _) _).alloc (by simp) _⟩
/-! ### allowed -/
theorem c_allowed (W H : Int) (w : World) : Calls Try.prog 112 #[.agg #[.int .i64 W, .int .i64 H]] w (RetB (.bool (sideB W H)) w) := by
  unfold sideB
  by_cases h1 : 1 ≤ W
  · by_cases h2 : W ≤ 16
    · by_cases h3 : 1 ≤ H
      · by_cases h4 : H ≤ 16
        all_goals
          go_enter Try.func112, Try.ntmps112
          go_wp2
          go_ret
          exact ⟨by simp [*] <;> (intros; omega), (Below.refl _ _).alloc (Nat.le_refl _) _⟩
      · go_enter Try.func112, Try.ntmps112
        go_wp2
        go_ret
        exact ⟨by simp [*] <;> (intros; omega), (Below.refl _ _).alloc (Nat.le_refl _) _⟩
    · go_enter Try.func112, Try.ntmps112
      go_wp2
      go_ret
      exact ⟨by simp [*] <;> (intros; omega), (Below.refl _ _).alloc (Nat.le_refl _) _⟩
  · go_enter Try.func112, Try.ntmps112
    go_wp2
    go_ret
    exact ⟨by simp [*] <;> (intros; omega), (Below.refl _ _).alloc (Nat.le_refl _) _⟩
/-! ### IsNaN -/
theorem c_IsNaN (v n : Nat) (w : World) (j : Nat) : Calls Try.prog 131 #[.float .f64 (pick .f64 v n)] (w.drewN j) (RetV (.bool (isN .f64 v)) w) := by
  go_enter Try.func131, Try.ntmps131
  go_wp2
  go_ret
  exact ⟨_, rfl, rfl⟩
/-! ### f64bits -/
@[go_sem] theorem e_f64bits (b : Nat) (w : World) : (callFunc 135 #[.float .f64 b]).run Try.prog w = .ok (.value (.int .u64 b)) w := by kernel_rfl
/-! ### f64from -/
@[go_sem] theorem e_f64from (n : Int) (w : World) : (callFunc 134 #[.int .u64 n]).run Try.prog w = .ok (.value (.float .f64 n.toNat)) w := by kernel_rfl
/-! ### Abs -/
theorem c_Abs (v n : Nat) (w : World) (j : Nat) (hv : v < 2 ^ FloatKind.f64.format.width) : Calls Try.prog 133 #[.float .f64 (pick .f64 v n)] (w.drewN j) (RetF .f64 (fabs .f64 v) w) := by
  have hb := abs_bits hv n
  go_enter Try.func133, Try.ntmps133
  go_wp2
  go_ret
  exact ⟨_, _, rfl, rfl⟩
/-! ### IsInf0 -/
theorem c_IsInf0 (v n : Nat) (w : World) (j : Nat) (hv : v < 2 ^ FloatKind.f64.format.width) : Calls Try.prog 132 #[.float .f64 (pick .f64 v n), .int .i64 0] (w.drewN j) (RetV (.bool (FloatKind.f64.format.order (fabs .f64 v) 9218868437227405311 == some .gt)) w) := by
  go_enter Try.func132, Try.ntmps132
  go_wp2_with ((go_at_call 133; refine (c_Abs _ _ _ _ hv).mono ?_; rintro _ _ ⟨_, _, rfl, rfl⟩))
  go_ret
  exact ⟨_, rfl, rfl⟩
/-! ### isFinite64 -/
theorem c_isFinite64 (v n : Nat) (w : World) (j : Nat) (hv : v < 2 ^ FloatKind.f64.format.width) : Calls Try.prog 129 #[.float .f64 (pick .f64 v n)] (w.drewN j) (RetV (.bool (finB .f64 v)) w) := by
  go_enter Try.func129, Try.ntmps129
  go_wp2_with (first | (go_at_call 131; refine (c_IsNaN _ _ _ _).mono ?_; rintro _ _ ⟨_, rfl, rfl⟩) | (go_at_call 132; refine (c_IsInf0 _ _ _ _ hv).mono ?_; rintro _ _ ⟨_, rfl, rfl⟩))
  all_goals
    go_ret
    refine ⟨_, ?_, rfl⟩
    rw [← abs_gt_max]
    simp [*]
/-! ### iIsFinite -/
theorem c_iIsFinite (v n : Nat) (w : World) (j : Nat) : Calls Try.prog 115 #[.float .f32 (pick .f32 v n)] (w.drewN j) (RetV (.bool (finB .f32 v)) w) := by
  go_enter Try.func115, Try.ntmps115
  go_wp2_with (first | (refine wpList_cvU rfl 38 42 _ rfl (Option.isSome_iff_exists.2 ⟨_, Try.underlying38⟩) Try.underlying42 _ rfl _ ?_; intro _ _) | (go_at_call 129; refine (c_isFinite64 _ _ _ _ (cvU_lt _)).mono ?_; rintro _ _ ⟨_, rfl, rfl⟩))
  go_ret
  rw [← finB_cvU]
  exact ⟨_, rfl, rfl⟩
/-! ### areFinite -/
theorem c_areFinite (a : Option Addr) (len cap : Nat) (zs : List Nat) (w : World) (j0 : Nat) (hr : IsRowF .f32 w a len cap zs) : Calls Try.prog 98 #[.slice a len cap] (w.drewN j0) (RetV (.bool (finL zs)) w) := by
  obtain ⟨h1, h2, h3, h4, h5⟩ := hr
  unfold maxLen at h3
  have H1 := Lib.hid h1
  clear h1
  go_enter Try.func98, Try.ntmps98
  go_wp2
  go_loopw [4, 7] (fun _ i wr => ∃ k m : Nat, k ≤ len ∧ i = .int .i64 k ∧ wr = w.drewN m ∧ finL (zs.take k) = true) (fun _ i _ => len - (intOf i).toNat)
  case atStart => exact ⟨0, j0, Nat.zero_le _, rfl, rfl, rfl⟩
  case round =>
    obtain ⟨k, m, hk, rfl, rfl, hfin⟩ := hrel
    have HFin := Lib.hid hfin
    clear hfin
    by_cases hlt : k < len
    · rcases h5 with h5 | ⟨b, off, rfl, hbl, hc⟩
      · omega
      have hcell : w.cell? ⟨b, off + k, none⟩ = some (.float .f32 (fat zs k)) := hc k hlt
      obtain ⟨n, hn⟩ := pick0 .f32 (fat zs k) (lt_of_wf (h4 _ (by unfold fat; rw [List.getD, List.getElem?_eq_getElem (by have := H1.out; omega)]; exact List.getElem_mem _)))
      rw [hn] at hcell
      have HS := Lib.hid (finL_snoc zs k (by have := H1.out; omega))
      cases hf : finB .f32 (fat zs k)
      · have HO := Lib.hid (finL_of zs k (by have := H1.out; omega) hf)
        clear hc h4 hn
        go_wp2_with ((go_at_call 115; refine (c_iIsFinite _ _ _ _).mono ?_; rintro _ _ ⟨_, rfl, rfl⟩))
        go_ret
        exact ⟨_, by rw [HO.out]; rfl, rfl⟩
      · have HF := Lib.hid hf
        clear hc h4 hn
        go_wp2_with ((go_at_call 115; refine (c_iIsFinite _ _ _ _).mono ?_; rintro _ _ ⟨_, rfl, rfl⟩))
        go_roundw
        case rel => exact ⟨k + 1, _, by omega, by go_num, rfl, by rw [HS.out, HFin.out, HF.out]; rfl⟩
        case measure => simp [intOf]; omega
    · have e : zs.take k = zs := List.take_of_length_le (by have := H1.out; omega)
      have HE := Lib.hid e
      clear h5 h4 e
      go_wp2
      go_ret
      exact ⟨_, by have h := HFin.out; rw [HE.out] at h; rw [h]; rfl, rfl⟩
/-! ### iValid -/
theorem c_areFinite0 (a : Option Addr) (len cap : Nat) (zs : List Nat) (w : World) (hr : IsRowF .f32 w a len cap zs) : Calls Try.prog 98 #[.slice a len cap] w (RetV (.bool (finL zs)) w) := by
  have h := c_areFinite a len cap zs w 0 hr
  rwa [w.drewN_zero] at h
theorem c_iValid (W H : Int) (a : Option Addr) (len cap : Nat) (zs : List Nat) (w : World) (hr : IsRowF .f32 w a len cap zs) :
    Calls Try.prog 64 #[.agg #[.int .i64 W, .int .i64 H, .slice a len cap]] w (RetB (.bool (validB W H zs)) w) := by
  have H1 := Lib.hid hr.1
  have HR := Lib.hid hr
  clear hr
  have two : ∀ s : Bool, sideB W H = s → (s = true → ∀ t : Bool, ((len : Int) == W * H) = t → (Calls Try.prog 64 #[.agg #[.int .i64 W, .int .i64 H, .slice a len cap]] w (RetB (.bool (validB W H zs)) w))) → (s = false → Calls Try.prog 64 #[.agg #[.int .i64 W, .int .i64 H, .slice a len cap]] w (RetB (.bool (validB W H zs)) w)) → Calls Try.prog 64 #[.agg #[.int .i64 W, .int .i64 H, .slice a len cap]] w (RetB (.bool (validB W H zs)) w) := by
    intro s hs h1 h2
    cases s
    · exact h2 rfl
    · exact h1 rfl _ rfl
  refine two _ rfl ?_ ?_
  · intro hs t ht
    obtain ⟨m1, m2⟩ := side_mul hs
    have mw : IntKind.i64.wrap (W * H) = W * H := IntWalk.i64_in _ (by omega)
    clear two
    cases t
    · have e : validB W H zs = false := by simp at ht; simp [validB, hs, H1.out, ht]
      have E := Lib.hid e
      have HT := Lib.hid hs
      clear e
      go_enter Try.func64, Try.ntmps64
      go_wp2_with fail
      refine (c_sidesOf W H _ _).mono ?_
      rintro _ w1 ⟨rfl, b1⟩
      obtain ⟨p0, p1, p2⟩ := ((Var.new _ _ _).keep b1).three
      have z1 : w.heap.size < w1.heap.size := by have := b1.size; simp at this; omega
      have B1 := Lib.hid (((Below.refl w.heap.size w).alloc (Nat.le_refl _) _).trans (b1.mono (by simp)))
      clear b1
      go_wp2_with fail
      refine (c_allowed W H _).mono ?_
      rintro _ w2 ⟨rfl, b2⟩
      rw [HT.out]
      have q0 := (b2.cell (p := ⟨w.heap.size, 0, none⟩) z1).trans p0
      have q1 := (b2.cell (p := ⟨w.heap.size, 1, none⟩) z1).trans p1
      have q2 := (b2.cell (p := ⟨w.heap.size, 2, none⟩) z1).trans p2
      have B2 := Lib.hid (B1.out.trans (b2.mono (by omega)))
      clear p0 p1 p2 b2 hs
      go_wp2_with fail
      go_ret
      exact ⟨by rw [E.out]; rfl, B2.out⟩
    · have e : validB W H zs = finL zs := by simp at ht; simp [validB, hs, H1.out, ht]
      have E := Lib.hid e
      have HT := Lib.hid hs
      clear e
      go_enter Try.func64, Try.ntmps64
      go_wp2_with fail
      refine (c_sidesOf W H _ _).mono ?_
      rintro _ w1 ⟨rfl, b1⟩
      obtain ⟨p0, p1, p2⟩ := ((Var.new _ _ _).keep b1).three
      have z1 : w.heap.size < w1.heap.size := by have := b1.size; simp at this; omega
      have B1 := Lib.hid (((Below.refl w.heap.size w).alloc (Nat.le_refl _) _).trans (b1.mono (by simp)))
      clear b1
      go_wp2_with fail
      refine (c_allowed W H _).mono ?_
      rintro _ w2 ⟨rfl, b2⟩
      rw [HT.out]
      have q0 := (b2.cell (p := ⟨w.heap.size, 0, none⟩) z1).trans p0
      have q1 := (b2.cell (p := ⟨w.heap.size, 1, none⟩) z1).trans p1
      have q2 := (b2.cell (p := ⟨w.heap.size, 2, none⟩) z1).trans p2
      have B2 := Lib.hid (B1.out.trans (b2.mono (by omega)))
      clear p0 p1 p2 b2 hs
      go_wp2_with fail
      refine (c_areFinite0 a len cap zs _ (HR.out.below B2.out)).mono ?_
      rintro _ w3 ⟨m, rfl, rfl⟩
      rw [← E.out]
      go_wp2_with fail
      go_ret
      exact ⟨rfl, below_drewN B2.out _⟩
  · intro hs
    have e : validB W H zs = false := by simp [validB, hs]
    have E := Lib.hid e
    have HT := Lib.hid hs
    clear e two
    go_enter Try.func64, Try.ntmps64
    go_wp2_with fail
    refine (c_sidesOf W H _ _).mono ?_
    rintro _ w1 ⟨rfl, b1⟩
    have B1 := Lib.hid (((Below.refl w.heap.size w).alloc (Nat.le_refl _) _).trans (b1.mono (by simp)))
    have z1 : w.heap.size < w1.heap.size := by have := b1.size; simp at this; omega
    clear b1
    go_wp2_with fail
    refine (c_allowed W H _).mono ?_
    rintro _ w2 ⟨rfl, b2⟩
    rw [HT.out]
    have B2 := Lib.hid (B1.out.trans (b2.mono (by omega)))
    clear b2 hs
    go_wp2_with fail
    go_ret
    exact ⟨by rw [E.out]; rfl, B2.out⟩
/-! ### areAlike -/
theorem c_areAlike (WA HA : Int) (zA : List Nat) (aA : Option Addr) (cA : Nat) (WB HB : Int) (zB : List Nat) (aB : Option Addr) (cB : Nat) (w : World) (rA : IsRowF .f32 w aA zA.length cA zA) (rB : IsRowF .f32 w aB zB.length cB zB) : Calls Try.prog 80 #[.agg #[.int .i64 WA, .int .i64 HA, .slice aA zA.length cA], .agg #[.int .i64 WB, .int .i64 HB, .slice aB zB.length cB]] w (RetB (.bool (bothB WA HA zA WB HB zB)) w) := by
  have RA := Lib.hid rA
  have RB := Lib.hid rB
  clear rA rB
  generalize hw2 : (w.alloc (Obj.cells #[.int .i64 WA, .int .i64 HA, .slice aA zA.length cA] 26)).alloc (Obj.cells #[.int .i64 WB, .int .i64 HB, .slice aB zB.length cB] 26) = w2
  have B0 : Below w.heap.size w w2 := by subst hw2; exact ((Below.refl _ _).alloc (Nat.le_refl _) _).alloc (by simp) _
  have VA' : Var w2 w.heap.size #[.int .i64 WA, .int .i64 HA, .slice aA zA.length cA] := by subst hw2; exact (Var.new _ _ _).alloc _
  have VB' : Var w2 (w.heap.size + 1) #[.int .i64 WB, .int .i64 HB, .slice aB zB.length cB] := by subst hw2; exact Var.new' _ _ _ _ (by simp)
  have BW := Lib.hid B0
  have HW2 := Lib.hid hw2
  have SZ : w2.heap.size = w.heap.size + 1 + 1 := by subst hw2; simp
  have KS := Lib.hid (fun (w' : World) (hE : Below w2.heap.size w2 w') => (⟨(VA'.keep hE).three.1, (VA'.keep hE).three.2.1, (VA'.keep hE).three.2.2, (VB'.keep hE).three.1, (VB'.keep hE).three.2.1, (VB'.keep hE).three.2.2⟩ : w'.cell? ⟨w.heap.size, 0, none⟩ = some (.int .i64 WA) ∧ w'.cell? ⟨w.heap.size, 1, none⟩ = some (.int .i64 HA) ∧ w'.cell? ⟨w.heap.size, 2, none⟩ = some (.slice aA zA.length cA) ∧ w'.cell? ⟨w.heap.size + 1, 0, none⟩ = some (.int .i64 WB) ∧ w'.cell? ⟨w.heap.size + 1, 1, none⟩ = some (.int .i64 HB) ∧ w'.cell? ⟨w.heap.size + 1, 2, none⟩ = some (.slice aB zB.length cB)))
  clear B0 VA' VB' hw2
  unfold bothB
  cases hA : validB WA HA zA
  · have HVA := Lib.hid hA
    clear hA
    go_enter Try.func80, Try.ntmps80
    go_wp2_with fail
    rw [HW2.out]
    refine wp_region_facts 13 (Below w2.heap.size) (Below.refl _) (fun _ _ _ => Below.trans) (below_drewN (Below.refl _ _) 1) (by kernel_rfl) (by kernel_rfl) (by kernel_rfl) (by kernel_rfl) ?_
    simp only [List.take_succ_cons, List.take_zero, List.drop_succ_cons, List.drop_zero]
    (with_reducible apply wpF_val); (focus (intro vs w' hE hk; (obtain ⟨d0, d1, d2, e0, e1, e2⟩ := KS.out w' hE); go_simp; exact ⟨Below.refl _ _, rfl⟩)); (simp only [Act.put, List.setIfInBounds_toArray, List.set_cons_zero, List.set_cons_succ, List.cons_append, List.nil_append])
    (with_reducible apply wpF_val); (focus (intro vs w' hE hk; (obtain ⟨d0, d1, d2, e0, e1, e2⟩ := KS.out w' hE); go_simp; refine (c_iValid WA HA aA _ cA zA _ (RA.out.below (BW.out.trans (hE.mono (by omega))))).mono ?_; rintro _ w9 ⟨rfl, b⟩; rw [HVA.out]; exact ⟨_, rfl, b.mono (by have := hE.size; omega), rfl⟩)); (simp only [Act.put, List.setIfInBounds_toArray, List.set_cons_zero, List.set_cons_succ, List.cons_append, List.nil_append])
    (with_reducible apply wpF_val); (focus (intro vs w' hE hk; (obtain ⟨d0, d1, d2, e0, e1, e2⟩ := KS.out w' hE); go_simp; exact ⟨Below.refl _ _, rfl⟩)); (simp only [Act.put, List.setIfInBounds_toArray, List.set_cons_zero, List.set_cons_succ, List.cons_append, List.nil_append])
    (with_reducible apply wpF_val); (focus (intro vs w' hE hk; (obtain ⟨d0, d1, d2, e0, e1, e2⟩ := KS.out w' hE); go_simp; rfl)); (simp only [Act.put, List.setIfInBounds_toArray, List.set_cons_zero, List.set_cons_succ, List.cons_append, List.nil_append])
    (with_reducible apply wpF_val); (focus (intro vs w' hE hk; (obtain ⟨d0, d1, d2, e0, e1, e2⟩ := KS.out w' hE); go_simp; rfl)); (simp only [Act.put, List.setIfInBounds_toArray, List.set_cons_zero, List.set_cons_succ, List.cons_append, List.nil_append])
    (with_reducible apply wpF_val); (focus (intro vs w' hE hk; (obtain ⟨d0, d1, d2, e0, e1, e2⟩ := KS.out w' hE); go_simp; exact ⟨Below.refl _ _, rfl⟩)); (simp only [Act.put, List.setIfInBounds_toArray, List.set_cons_zero, List.set_cons_succ, List.cons_append, List.nil_append])
    (with_reducible apply wpF_val); (focus (intro vs w' hE hk; (obtain ⟨d0, d1, d2, e0, e1, e2⟩ := KS.out w' hE); go_simp; exact ⟨Below.refl _ _, rfl⟩)); (simp only [Act.put, List.setIfInBounds_toArray, List.set_cons_zero, List.set_cons_succ, List.cons_append, List.nil_append])
    (with_reducible apply wpF_val); (focus (intro vs w' hE hk; (obtain ⟨d0, d1, d2, e0, e1, e2⟩ := KS.out w' hE); go_simp; rfl)); (simp only [Act.put, List.setIfInBounds_toArray, List.set_cons_zero, List.set_cons_succ, List.cons_append, List.nil_append])
    (with_reducible apply wpF_val); (focus (intro vs w' hE hk; (obtain ⟨d0, d1, d2, e0, e1, e2⟩ := KS.out w' hE); go_simp; rfl)); (simp only [Act.put, List.setIfInBounds_toArray, List.set_cons_zero, List.set_cons_succ, List.cons_append, List.nil_append])
    (with_reducible apply wpF_val); (focus (intro vs w' hE hk; (obtain ⟨d0, d1, d2, e0, e1, e2⟩ := KS.out w' hE); go_simp; rfl)); (simp only [Act.put, List.setIfInBounds_toArray, List.set_cons_zero, List.set_cons_succ, List.cons_append, List.nil_append])
    (with_reducible apply wpF_val); (focus (intro vs w' hE hk; (obtain ⟨d0, d1, d2, e0, e1, e2⟩ := KS.out w' hE); go_simp; rfl)); (simp only [Act.put, List.setIfInBounds_toArray, List.set_cons_zero, List.set_cons_succ, List.cons_append, List.nil_append])
    (with_reducible apply wpF_val); (focus (intro vs w' hE hk; (obtain ⟨d0, d1, d2, e0, e1, e2⟩ := KS.out w' hE); go_simp; rfl)); (simp only [Act.put, List.setIfInBounds_toArray, List.set_cons_zero, List.set_cons_succ, List.cons_append, List.nil_append])
    (with_reducible apply wpF_val); (focus (intro vs w' hE hk; (obtain ⟨d0, d1, d2, e0, e1, e2⟩ := KS.out w' hE); go_simp; exact ⟨Below.refl _ _, rfl⟩)); (simp only [Act.put, List.setIfInBounds_toArray, List.set_cons_zero, List.set_cons_succ, List.cons_append, List.nil_append])
    refine wpF_nil (fun vs w' hE hk => ?_)
    have BX := Lib.hid (BW.out.trans (hE.mono (by omega)))
    clear hE hk
    go_wp2_with fail
    go_ret
    exact ⟨by simp only [Bool.false_and]; rfl, BX.out⟩
  cases hB : validB WB HB zB
  · have HVA := Lib.hid hA
    have HVB := Lib.hid hB
    clear hA hB
    go_enter Try.func80, Try.ntmps80
    go_wp2_with fail
    rw [HW2.out]
    refine wp_region_facts 13 (Below w2.heap.size) (Below.refl _) (fun _ _ _ => Below.trans) (below_drewN (Below.refl _ _) 1) (by kernel_rfl) (by kernel_rfl) (by kernel_rfl) (by kernel_rfl) ?_
    simp only [List.take_succ_cons, List.take_zero, List.drop_succ_cons, List.drop_zero]
    (with_reducible apply wpF_val); (focus (intro vs w' hE hk; (obtain ⟨d0, d1, d2, e0, e1, e2⟩ := KS.out w' hE); go_simp; exact ⟨Below.refl _ _, rfl⟩)); (simp only [Act.put, List.setIfInBounds_toArray, List.set_cons_zero, List.set_cons_succ, List.cons_append, List.nil_append])
    (with_reducible apply wpF_val); (focus (intro vs w' hE hk; (obtain ⟨d0, d1, d2, e0, e1, e2⟩ := KS.out w' hE); go_simp; refine (c_iValid WA HA aA _ cA zA _ (RA.out.below (BW.out.trans (hE.mono (by omega))))).mono ?_; rintro _ w9 ⟨rfl, b⟩; rw [HVA.out]; exact ⟨_, rfl, b.mono (by have := hE.size; omega), rfl⟩)); (simp only [Act.put, List.setIfInBounds_toArray, List.set_cons_zero, List.set_cons_succ, List.cons_append, List.nil_append])
    (with_reducible apply wpF_val); (focus (intro vs w' hE hk; (obtain ⟨d0, d1, d2, e0, e1, e2⟩ := KS.out w' hE); go_simp; exact ⟨Below.refl _ _, rfl⟩)); (simp only [Act.put, List.setIfInBounds_toArray, List.set_cons_zero, List.set_cons_succ, List.cons_append, List.nil_append])
    (with_reducible apply wpF_val); (focus (intro vs w' hE hk; (obtain ⟨d0, d1, d2, e0, e1, e2⟩ := KS.out w' hE); go_simp; exact ⟨Below.refl _ _, rfl⟩)); (simp only [Act.put, List.setIfInBounds_toArray, List.set_cons_zero, List.set_cons_succ, List.cons_append, List.nil_append])
    (with_reducible apply wpF_val); (focus (intro vs w' hE hk; (obtain ⟨d0, d1, d2, e0, e1, e2⟩ := KS.out w' hE); go_simp; refine (c_iValid WB HB aB _ cB zB _ (RB.out.below (BW.out.trans (hE.mono (by omega))))).mono ?_; rintro _ w9 ⟨rfl, b⟩; rw [HVB.out]; exact ⟨_, rfl, b.mono (by have := hE.size; omega), rfl⟩)); (simp only [Act.put, List.setIfInBounds_toArray, List.set_cons_zero, List.set_cons_succ, List.cons_append, List.nil_append])
    (with_reducible apply wpF_val); (focus (intro vs w' hE hk; (obtain ⟨d0, d1, d2, e0, e1, e2⟩ := KS.out w' hE); go_simp; exact ⟨Below.refl _ _, rfl⟩)); (simp only [Act.put, List.setIfInBounds_toArray, List.set_cons_zero, List.set_cons_succ, List.cons_append, List.nil_append])
    (with_reducible apply wpF_val); (focus (intro vs w' hE hk; (obtain ⟨d0, d1, d2, e0, e1, e2⟩ := KS.out w' hE); go_simp; exact ⟨Below.refl _ _, rfl⟩)); (simp only [Act.put, List.setIfInBounds_toArray, List.set_cons_zero, List.set_cons_succ, List.cons_append, List.nil_append])
    (with_reducible apply wpF_val); (focus (intro vs w' hE hk; (obtain ⟨d0, d1, d2, e0, e1, e2⟩ := KS.out w' hE); go_simp; rfl)); (simp only [Act.put, List.setIfInBounds_toArray, List.set_cons_zero, List.set_cons_succ, List.cons_append, List.nil_append])
    (with_reducible apply wpF_val); (focus (intro vs w' hE hk; (obtain ⟨d0, d1, d2, e0, e1, e2⟩ := KS.out w' hE); go_simp; rfl)); (simp only [Act.put, List.setIfInBounds_toArray, List.set_cons_zero, List.set_cons_succ, List.cons_append, List.nil_append])
    (with_reducible apply wpF_val); (focus (intro vs w' hE hk; (obtain ⟨d0, d1, d2, e0, e1, e2⟩ := KS.out w' hE); go_simp; rfl)); (simp only [Act.put, List.setIfInBounds_toArray, List.set_cons_zero, List.set_cons_succ, List.cons_append, List.nil_append])
    (with_reducible apply wpF_val); (focus (intro vs w' hE hk; (obtain ⟨d0, d1, d2, e0, e1, e2⟩ := KS.out w' hE); go_simp; rfl)); (simp only [Act.put, List.setIfInBounds_toArray, List.set_cons_zero, List.set_cons_succ, List.cons_append, List.nil_append])
    (with_reducible apply wpF_val); (focus (intro vs w' hE hk; (obtain ⟨d0, d1, d2, e0, e1, e2⟩ := KS.out w' hE); go_simp; rfl)); (simp only [Act.put, List.setIfInBounds_toArray, List.set_cons_zero, List.set_cons_succ, List.cons_append, List.nil_append])
    (with_reducible apply wpF_val); (focus (intro vs w' hE hk; (obtain ⟨d0, d1, d2, e0, e1, e2⟩ := KS.out w' hE); go_simp; exact ⟨Below.refl _ _, rfl⟩)); (simp only [Act.put, List.setIfInBounds_toArray, List.set_cons_zero, List.set_cons_succ, List.cons_append, List.nil_append])
    refine wpF_nil (fun vs w' hE hk => ?_)
    have BX := Lib.hid (BW.out.trans (hE.mono (by omega)))
    clear hE hk
    go_wp2_with fail
    go_ret
    exact ⟨by simp only [Bool.true_and, Bool.false_and]; rfl, BX.out⟩
  have HVA := Lib.hid hA
  have HVB := Lib.hid hB
  clear hA hB
  cases hW : (WA == WB) <;> cases hH : (HA == HB)
  all_goals
    go_enter Try.func80, Try.ntmps80
    go_wp2_with fail
    rw [HW2.out]
    refine wp_region_facts 13 (Below w2.heap.size) (Below.refl _) (fun _ _ _ => Below.trans) (below_drewN (Below.refl _ _) 1) (by kernel_rfl) (by kernel_rfl) (by kernel_rfl) (by kernel_rfl) ?_
    simp only [List.take_succ_cons, List.take_zero, List.drop_succ_cons, List.drop_zero]
    (with_reducible apply wpF_val); (focus (intro vs w' hE hk; (obtain ⟨d0, d1, d2, e0, e1, e2⟩ := KS.out w' hE); go_simp; exact ⟨Below.refl _ _, rfl⟩)); (simp only [Act.put, List.setIfInBounds_toArray, List.set_cons_zero, List.set_cons_succ, List.cons_append, List.nil_append])
    (with_reducible apply wpF_val); (focus (intro vs w' hE hk; (obtain ⟨d0, d1, d2, e0, e1, e2⟩ := KS.out w' hE); go_simp; refine (c_iValid WA HA aA _ cA zA _ (RA.out.below (BW.out.trans (hE.mono (by omega))))).mono ?_; rintro _ w9 ⟨rfl, b⟩; rw [HVA.out]; exact ⟨_, rfl, b.mono (by have := hE.size; omega), rfl⟩)); (simp only [Act.put, List.setIfInBounds_toArray, List.set_cons_zero, List.set_cons_succ, List.cons_append, List.nil_append])
    (with_reducible apply wpF_val); (focus (intro vs w' hE hk; (obtain ⟨d0, d1, d2, e0, e1, e2⟩ := KS.out w' hE); go_simp; exact ⟨Below.refl _ _, rfl⟩)); (simp only [Act.put, List.setIfInBounds_toArray, List.set_cons_zero, List.set_cons_succ, List.cons_append, List.nil_append])
    (with_reducible apply wpF_val); (focus (intro vs w' hE hk; (obtain ⟨d0, d1, d2, e0, e1, e2⟩ := KS.out w' hE); go_simp; exact ⟨Below.refl _ _, rfl⟩)); (simp only [Act.put, List.setIfInBounds_toArray, List.set_cons_zero, List.set_cons_succ, List.cons_append, List.nil_append])
    (with_reducible apply wpF_val); (focus (intro vs w' hE hk; (obtain ⟨d0, d1, d2, e0, e1, e2⟩ := KS.out w' hE); go_simp; refine (c_iValid WB HB aB _ cB zB _ (RB.out.below (BW.out.trans (hE.mono (by omega))))).mono ?_; rintro _ w9 ⟨rfl, b⟩; rw [HVB.out]; exact ⟨_, rfl, b.mono (by have := hE.size; omega), rfl⟩)); (simp only [Act.put, List.setIfInBounds_toArray, List.set_cons_zero, List.set_cons_succ, List.cons_append, List.nil_append])
    (with_reducible apply wpF_val); (focus (intro vs w' hE hk; (obtain ⟨d0, d1, d2, e0, e1, e2⟩ := KS.out w' hE); go_simp; exact ⟨Below.refl _ _, rfl⟩)); (simp only [Act.put, List.setIfInBounds_toArray, List.set_cons_zero, List.set_cons_succ, List.cons_append, List.nil_append])
    (with_reducible apply wpF_val); (focus (intro vs w' hE hk; (obtain ⟨d0, d1, d2, e0, e1, e2⟩ := KS.out w' hE); go_simp; exact ⟨Below.refl _ _, rfl⟩)); (simp only [Act.put, List.setIfInBounds_toArray, List.set_cons_zero, List.set_cons_succ, List.cons_append, List.nil_append])
    (with_reducible apply wpF_val); (focus (intro vs w' hE hk; (obtain ⟨d0, d1, d2, e0, e1, e2⟩ := KS.out w' hE); go_simp; exact ⟨Below.refl _ _, rfl⟩)); (simp only [Act.put, List.setIfInBounds_toArray, List.set_cons_zero, List.set_cons_succ, List.cons_append, List.nil_append])
    (with_reducible apply wpF_val); (focus (intro vs w' hE hk; (obtain ⟨d0, d1, d2, e0, e1, e2⟩ := KS.out w' hE); go_simp; refine (c_sidesOf WA HA _ _).mono ?_; rintro _ w9 ⟨rfl, b⟩; exact ⟨_, rfl, b.mono (by have := hE.size; omega), rfl⟩)); (simp only [Act.put, List.setIfInBounds_toArray, List.set_cons_zero, List.set_cons_succ, List.cons_append, List.nil_append])
    (with_reducible apply wpF_val); (focus (intro vs w' hE hk; (obtain ⟨d0, d1, d2, e0, e1, e2⟩ := KS.out w' hE); go_simp; exact ⟨Below.refl _ _, rfl⟩)); (simp only [Act.put, List.setIfInBounds_toArray, List.set_cons_zero, List.set_cons_succ, List.cons_append, List.nil_append])
    (with_reducible apply wpF_val); (focus (intro vs w' hE hk; (obtain ⟨d0, d1, d2, e0, e1, e2⟩ := KS.out w' hE); go_simp; refine (c_sidesOf WB HB _ _).mono ?_; rintro _ w9 ⟨rfl, b⟩; exact ⟨_, rfl, b.mono (by have := hE.size; omega), rfl⟩)); (simp only [Act.put, List.setIfInBounds_toArray, List.set_cons_zero, List.set_cons_succ, List.cons_append, List.nil_append])
    (with_reducible apply wpF_val); (focus (intro vs w' hE hk; (obtain ⟨d0, d1, d2, e0, e1, e2⟩ := KS.out w' hE); go_simp; exact ⟨Below.refl _ _, rfl⟩)); (simp only [Act.put, List.setIfInBounds_toArray, List.set_cons_zero, List.set_cons_succ, List.cons_append, List.nil_append])
    (with_reducible apply wpF_val); (focus (intro vs w' hE hk; (obtain ⟨d0, d1, d2, e0, e1, e2⟩ := KS.out w' hE); go_simp; exact ⟨Below.refl _ _, rfl⟩)); (simp only [Act.put, List.setIfInBounds_toArray, List.set_cons_zero, List.set_cons_succ, List.cons_append, List.nil_append])
    refine wpF_nil (fun vs w' hE hk => ?_)
    have BX := Lib.hid (BW.out.trans (hE.mono (by omega)))
    clear hE hk
    go_wp2_with fail
    go_ret
    exact ⟨by simp only [Bool.true_and, Bool.and_true, Bool.and_false]; rfl, BX.out⟩
/-! ### isLevel -/
theorem c_isLevel (v n : Nat) (w : World) (j : Nat) : Calls Try.prog 117 #[.float .f32 (pick .f32 v n)] (w.drewN j) (RetV (.bool (shareB v)) w) := by
  unfold shareB one32
  cases h : (FloatKind.f32.format.order v 0 == some .gt || FloatKind.f32.format.order v 0 == some .eq)
  all_goals
    have HH := Lib.hid h
    go_enter Try.func117, Try.ntmps117
    go_wp2
    go_ret
    exact ⟨_, by simp [HH.out], rfl⟩
/-! ### isShot -/
theorem c_isShot (W H : Int) (a : Option Addr) (len cap : Nat) (zs : List Nat) (w : World) (hr : IsRowF .f32 w a len cap zs) :
    Calls Try.prog 81 #[.agg #[.int .i64 W, .int .i64 H, .slice a len cap]] w (RetB (.bool (shotB W H zs)) w) := by
  generalize hw0 : w.alloc (Obj.cells #[.int .i64 W, .int .i64 H, .slice a len cap] 26) = w0
  have X0 : Var w0 w.heap.size #[.int .i64 W, .int .i64 H, .slice a len cap] := by subst hw0; exact Var.new _ _ _
  have X2 : Below w.heap.size w w0 := by subst hw0; exact (Below.refl _ _).alloc (Nat.le_refl _) _
  have X3 : w0.heap.size = w.heap.size + 1 := by subst hw0; simp
  have HW := Lib.hid hw0
  have B0 := Lib.hid X2
  obtain ⟨p0, p1, p2⟩ := X0.three
  have R0 := hr.below X2
  have CI := Lib.hid (fun j => c_iValid W H a len cap zs (w0.drewN j) (R0.drewN j))
  obtain ⟨h1, h2, h3, h4, h5⟩ := R0
  unfold maxLen at h3
  have H1 := Lib.hid h1
  clear hw0 X0 X2 hr h1
  go_enter Try.func81, Try.ntmps81
  go_wp2
  rw [HW.out]
  rw [← w0.drewN_zero]
  go_wp2
  go_loopw [4, 8] (fun _ i wr => ∃ k m : Nat, k ≤ len ∧ i = .int .i64 k ∧ wr = w0.drewN m ∧ levL (zs.take k) = true) (fun _ i _ => len - (intOf i).toNat)
  case atStart => exact ⟨0, _, Nat.zero_le _, rfl, rfl, rfl⟩
  case round =>
    obtain ⟨k, m, hk, rfl, rfl, hfin⟩ := hrel
    have HFin := Lib.hid hfin
    clear hfin
    by_cases hlt : k < len
    · rcases h5 with h5 | ⟨b5, off, rfl, hbl, hc⟩
      · omega
      have hcell : w0.cell? ⟨b5, off + k, none⟩ = some (.float .f32 (fat zs k)) := hc k hlt
      obtain ⟨n, hn⟩ := pick0 .f32 (fat zs k) (lt_of_wf (h4 _ (by unfold fat; rw [List.getD, List.getElem?_eq_getElem (by have := H1.out; omega)]; exact List.getElem_mem _)))
      rw [hn] at hcell
      have HN := Lib.hid hn
      have HS := Lib.hid (levL_snoc zs k (by have := H1.out; omega))
      cases hf : shareB (fat zs k)
      · have HO := Lib.hid (levL_of zs k (by have := H1.out; omega) hf)
        have HF := Lib.hid (fun n j => (by have h := c_isLevel (fat zs k) n w0 j; rwa [hf] at h : Calls Try.prog 117 #[.float .f32 (pick .f32 (fat zs k) n)] (w0.drewN j) (RetV (.bool false) w0)))
        clear hc h4 hn hf
        go_wp2_with ((go_at_call 117; refine (HF.out _ _).mono ?_; rintro _ _ ⟨_, rfl, rfl⟩))
        go_ret
        exact ⟨by rw [show shotB W H zs = false by unfold shotB; rw [HO.out, Bool.and_false]]; rfl, below_drewN B0.out _⟩
      · have HT := Lib.hid hf
        have HF := Lib.hid (fun n j => (by have h := c_isLevel (fat zs k) n w0 j; rwa [hf] at h : Calls Try.prog 117 #[.float .f32 (pick .f32 (fat zs k) n)] (w0.drewN j) (RetV (.bool true) w0)))
        clear hc h4 hn hf
        go_wp2_with ((go_at_call 117; refine (HF.out _ _).mono ?_; rintro _ _ ⟨_, rfl, rfl⟩))
        go_roundw
        case rel => exact ⟨k + 1, _, by omega, by go_num, rfl, by rw [HS.out, HFin.out, HT.out]; rfl⟩
        case measure => simp [intOf]; omega
    · have e : zs.take k = zs := List.take_of_length_le (by have := H1.out; omega)
      have HE := Lib.hid (by have h := HFin.out; rwa [e] at h : levL zs = true)
      clear h5 h4 e
      have HSh := Lib.hid (show shotB W H zs = validB W H zs by unfold shotB; rw [HE.out, Bool.and_true])
      go_wp2_with fail
      refine (CI.out _).mono ?_
      rintro _ w2 ⟨rfl, b2⟩
      have B2 := Lib.hid ((below_drewN B0.out m).trans (b2.mono (by simp; omega)))
      go_wp2_with fail
      go_ret
      exact ⟨by rw [HSh.out]; rfl, B2.out⟩
/-! ### ifValid -/
theorem c_ifValid_yes (W H : Int) (a : Option Addr) (len cap : Nat) (zs : List Nat) (w : World) (hr : IsRowF .f32 w a len cap zs) (hv : validB W H zs = true) : Calls Try.prog 103 #[.agg #[.int .i64 W, .int .i64 H, .slice a len cap]] w (RetB (.tuple #[.agg #[.int .i64 W, .int .i64 H, .slice a len cap], .bool true]) w) := by
  have HR := Lib.hid hr
  have HV := Lib.hid hv
  clear hr hv
  go_enter Try.func103, Try.ntmps103
  go_wp2_with fail
  refine (c_iValid W H a len cap zs _ ((HR.out.alloc _).alloc _)).mono ?_
  rintro _ w1 ⟨rfl, b⟩
  rw [HV.out]
  have V1 := Lib.hid ((((Var.new' _ _ _ (w.heap.size) rfl).alloc _)).keep b)
  have V2 := Lib.hid ((Var.new' _ _ _ (w.heap.size + 1) (by simp)).keep b)
  have z1 : w.heap.size + 1 < w1.heap.size := by have := b.size; simp at this; omega
  have B1 := Lib.hid ((((Below.refl w.heap.size w).alloc (Nat.le_refl _) _).alloc (by simp) _).trans (b.mono (by simp; omega)))
  have Fr := Lib.hid ((Free.new' _ _ _ (w.heap.size + 1) (by simp)).below (by simp <;> omega) b)
  clear b
  obtain ⟨p0, p1, p2⟩ := V1.out.three
  obtain ⟨q0, q1, q2⟩ := V2.out.three
  have f0 := Fr.out 0
  have f1 := Fr.out 1
  have f2 := Fr.out 2
  go_wp2_with fail
  refine bodyPost_ret (v := .tuple #[.agg #[.int .i64 W, .int .i64 H, .slice a len cap], .bool true]) (by simp [results, Try.results103, q0, q1, q2, go_sem]) rfl ⟨rfl, ?_⟩
  exact ((B1.out.setCell (by simp <;> omega) _).setCell (by simp <;> omega) _).setCell (by simp <;> omega) _
theorem c_ifValid_no (W H : Int) (a : Option Addr) (len cap : Nat) (zs : List Nat) (w : World) (hr : IsRowF .f32 w a len cap zs) (hv : validB W H zs = false) : Calls Try.prog 103 #[.agg #[.int .i64 W, .int .i64 H, .slice a len cap]] w (RetB (.tuple #[.agg #[.int .i64 0, .int .i64 0, .slice none 0 0], .bool false]) w) := by
  have HR := Lib.hid hr
  have HV := Lib.hid hv
  clear hr hv
  go_enter Try.func103, Try.ntmps103
  go_wp2_with fail
  refine (c_iValid W H a len cap zs _ ((HR.out.alloc _).alloc _)).mono ?_
  rintro _ w1 ⟨rfl, b⟩
  rw [HV.out]
  have V2 := Lib.hid ((Var.new' _ _ _ (w.heap.size + 1) (by simp)).keep b)
  have z1 : w.heap.size + 1 < w1.heap.size := by have := b.size; simp at this; omega
  have B1 := Lib.hid ((((Below.refl w.heap.size w).alloc (Nat.le_refl _) _).alloc (by simp) _).trans (b.mono (by simp; omega)))
  have Fr := Lib.hid ((Free.new' _ _ _ (w.heap.size + 1) (by simp)).below (by simp <;> omega) b)
  clear b
  obtain ⟨q0, q1, q2⟩ := V2.out.three
  have f0 := Fr.out 0
  have f1 := Fr.out 1
  have f2 := Fr.out 2
  go_wp2_with fail
  refine bodyPost_ret (v := .tuple #[.agg #[.int .i64 0, .int .i64 0, .slice none 0 0], .bool false]) (by simp [results, Try.results103, q0, q1, q2, go_sem]) rfl ⟨rfl, ?_⟩
  exact ((B1.out.setCell (by simp <;> omega) _).setCell (by simp <;> omega) _).setCell (by simp <;> omega) _

/-! ### makeMask -/
theorem c_makeMask (W H : Int) (cv0 cv1 cv2 : Value) (F : Nat → Nat → Nat) (w : World) (hlt : ∀ x y, F x y < 2 ^ FloatKind.f32.format.width)
    (hF : ∀ (x y : Nat) (wr : World), (x : Int) < W → (y : Int) < H → W ≤ 16 → H ≤ 16 → Below w.heap.size w wr → Calls Try.prog 82 #[.int .i64 x, .int .i64 y, cv0, cv1, cv2] wr (fun e w' => ∃ n, e = .returned (.float .f32 (pick .f32 (F x y) n)) ∧ Below wr.heap.size wr w')) :
    Calls Try.prog 65 #[.agg #[.int .i64 W, .int .i64 H], .func (.func 82) #[] #[cv0, cv1, cv2]] w (RetP 38 (resMake F W H) w) := by
  generalize hw2 : (w.alloc (Obj.cells #[.int .i64 W, .int .i64 H] 84)).alloc (Obj.cells #[.int .i64 0, .int .i64 0, .slice none 0 0] 26) = w2
  have B0 : Below w.heap.size w w2 := by subst hw2; exact ((Below.refl _ _).alloc (Nat.le_refl _) _).alloc (by simp) _
  have VA' : Var w2 w.heap.size #[.int .i64 W, .int .i64 H] := by subst hw2; exact (Var.new _ _ _).alloc _
  have VR := Lib.hid (show Var w2 (w.heap.size + 1) #[.int .i64 0, .int .i64 0, .slice none 0 0] from by subst hw2; exact Var.new' _ _ _ _ (by simp))
  have FR := Lib.hid (show Free w2 (w.heap.size + 1) from by subst hw2; exact Free.new' _ _ _ _ (by simp))
  have BW := Lib.hid B0
  have HW2 := Lib.hid hw2
  have SZ : w2.heap.size = w.heap.size + 1 + 1 := by subst hw2; simp
  have KS := Lib.hid (fun (w' : World) (hE : Below w2.heap.size w2 w') => (⟨(hE.cell (p := ⟨w.heap.size, 0, none⟩) (by show w.heap.size < _; omega)).trans (VA'.2 0 (by simp)), (hE.cell (p := ⟨w.heap.size, 1, none⟩) (by show w.heap.size < _; omega)).trans (VA'.2 1 (by simp))⟩ : w'.cell? ⟨w.heap.size, 0, none⟩ = some (.int .i64 W) ∧ w'.cell? ⟨w.heap.size, 1, none⟩ = some (.int .i64 H)))
  clear B0 VA' hw2
  have HFF := Lib.hid hF
  have HLT := Lib.hid hlt
  clear hF hlt
  unfold resMake
  cases hs : sideB W H
  · rw [if_neg (by decide)]
    have HS := Lib.hid hs
    clear hs
    obtain ⟨d0, d1⟩ := KS.out w2 (Below.refl _ _)
    go_enter Try.func65, Try.ntmps65
    go_wp2_with fail
    rw [HW2.out]
    refine (c_allowed W H _).mono ?_
    rintro _ w3 ⟨rfl, hE⟩
    rw [HS.out]
    have BX := Lib.hid (BW.out.trans (hE.mono (by omega)))
    have VX := Lib.hid (VR.out.keep hE)
    have FX := Lib.hid (FR.out.below (by omega) hE)
    have S2 : w.heap.size + 1 < w3.heap.size := by have := hE.size; omega
    clear hE d0 d1
    obtain ⟨q0, q1, q2⟩ := VX.out.three
    have f0 := FX.out 0
    have f1 := FX.out 1
    have f2 := FX.out 2
    go_wp2_with fail
    refine bodyPost_ret (v := .tuple #[.agg #[.int .i64 0, .int .i64 0, .slice none 0 0], .bool false]) (by simp [results, Try.results65, q0, q1, q2, go_sem]) rfl (show RetP _ PRes.no _ _ _ from ⟨none, 0, rfl, Nat.zero_le _, ((BX.out.setCell (by simp <;> omega) _).setCell (by simp <;> omega) _).setCell (by simp <;> omega) _, Own.nil _ _ _⟩)
  · rw [if_pos rfl]
    obtain ⟨⟨s1, s2⟩, s3, s4⟩ := sideB_true hs
    have HS := Lib.hid hs
    clear hs
    obtain ⟨Wn, rfl⟩ : ∃ n : Nat, W = n := ⟨W.toNat, by omega⟩
    obtain ⟨Hn, rfl⟩ : ∃ n : Nat, H = n := ⟨H.toNat, by omega⟩
    rw [Int.toNat_natCast, Int.toNat_natCast]
    have hN : Wn * Hn ≤ 16 * 16 := Nat.mul_le_mul (by omega) (by omega)
    obtain ⟨N, hNN⟩ : ∃ N, N = Wn * Hn := ⟨_, rfl⟩
    have HN := Lib.hid hNN
    have hN2 : N ≤ 256 := by rw [hNN]; exact hN
    have mw : IntKind.i64.wrap ((Wn : Int) * (Hn : Int)) = (N : Int) := by rw [hNN]; rw [show ((Wn : Int) * (Hn : Int)) = ((Wn * Hn : Nat) : Int) by rw [Int.natCast_mul]]; exact IntWalk.i64_in _ (by omega)
    obtain ⟨L, hL⟩ : ∃ L, L = makeL F Wn Hn := ⟨_, rfl⟩
    have HAt := Lib.hid (fun (x y k : Nat) (hk : k = y * Wn + x) (hx : x < Wn) (hy : y < Hn) => (by rw [hL]; exact makeL_at hk hx hy : fat L k = F x y))
    have HLen := Lib.hid (show L.length = N by rw [hL, makeL_len, hNN])
    rw [← hL]
    clear hNN hN hL
    obtain ⟨i0, hinf, hz0, hz1, hz2⟩ := info_parts infoFo
    obtain ⟨d0, d1⟩ := KS.out w2 (Below.refl _ _)
    go_enter Try.func65, Try.ntmps65
    go_wp2_with fail
    rw [HW2.out]
    refine (c_allowed _ _ _).mono ?_
    rintro _ w3 ⟨rfl, hE⟩
    rw [HS.out]
    have BX := Lib.hid (BW.out.trans (hE.mono (by omega)))
    have VX := Lib.hid (VR.out.keep hE)
    have FX := Lib.hid (FR.out.below (by omega) hE)
    have S2 : w.heap.size + 1 < w3.heap.size := by have := hE.size; omega
    have K3 := Lib.hid (KS.out w3 hE)
    clear hE d0 d1 KS VR FR BW
    have KX := Lib.hid (fun (wr : World) (hB : Below w3.heap.size w3 wr) => (by obtain ⟨d0, d1⟩ := K3.out; exact ⟨(hB.cell (p := ⟨w.heap.size, 0, none⟩) (by show w.heap.size < _; omega)).trans d0, (hB.cell (p := ⟨w.heap.size, 1, none⟩) (by show w.heap.size < _; omega)).trans d1⟩ : wr.cell? ⟨w.heap.size, 0, none⟩ = some (.int .i64 (Wn : Int)) ∧ wr.cell? ⟨w.heap.size, 1, none⟩ = some (.int .i64 (Hn : Int))))
    obtain ⟨d0, d1⟩ := K3.out
    go_wp2_with (at_make; refine wpList_make_own _ rfl _ _ 22 rfl w3.heap.size 38 i0 (.float .f32 0) 1 Try.underlying22 hinf hz0 hz1 _ _ _ N rfl rfl rfl (by rw [hz2]; omega) (by unfold maxLen; omega) (by simp) ?_; intro w4 hown hgrow; have B4 : Below w3.heap.size w3 w4 := (Below.refl _ _).grown hgrow (Nat.le_refl _) (by simp); obtain ⟨g0, g1⟩ := KX.out w4 B4)
    have OW : Own 38 w4 w3.heap.size (some ⟨w3.heap.size, 0, none⟩) 0 N [] := ⟨rfl, hown, by simp⟩
    have HO4 := Lib.hid OW
    have HB4 := Lib.hid B4
    clear hown hgrow B4 OW d0 d1 g0 g1 mw
    go_loopw [6, 7, 8, 21] (fun l _ _ i wr => ∃ (y k : Nat) (a : Option Addr) (c : Nat) (zs : List Nat), y ≤ Hn ∧ k = y * Wn ∧ i = .int .i64 y ∧ l = .slice a k c ∧ Own 38 wr w3.heap.size a k c zs ∧ near zs (L.take k) ∧ Below w3.heap.size w3 wr) (fun _ _ _ i _ => Hn - (intOf i).toNat)
    case atStart => exact ⟨0, 0, _, _, [], Nat.zero_le _, by simp, rfl, rfl, HO4.out, by simpa using near_nil, HB4.out⟩
    case round =>
      obtain ⟨y, k, a, c, zs, hy, hk, rfl, rfl, hO, hnear, hB⟩ := hrel
      have HO := Lib.hid hO
      have HNr := Lib.hid hnear
      have HB := Lib.hid hB
      have HK := Lib.hid hk
      clear hO hnear hB hk
      obtain ⟨d0, d1⟩ := KX.out wr HB.out
      by_cases hly : y < Hn
      · go_wp2_with fail
        clear d0 d1
        go_loopw [6, 8, 26] (fun l _ i wr => ∃ (x k : Nat) (a : Option Addr) (c : Nat) (zs : List Nat), x ≤ Wn ∧ k = y * Wn + x ∧ i = .int .i64 x ∧ l = .slice a k c ∧ Own 38 wr w3.heap.size a k c zs ∧ near zs (L.take k) ∧ Below w3.heap.size w3 wr) (fun _ _ i _ => Wn - (intOf i).toNat)
        case atStart => exact ⟨0, k, a, c, zs, Nat.zero_le _, HK.out, rfl, rfl, HO.out, HNr.out, HB.out⟩
        case round =>
          obtain ⟨x, k2, a2, c2, zs2, hx, hk2, rfl, rfl, hO2, hnear2, hB2⟩ := hrel
          have HO2 := Lib.hid hO2
          have HN2 := Lib.hid hnear2
          have HB2 := Lib.hid hB2
          have HK2 := Lib.hid hk2
          clear hO2 hnear2 hB2 hk2
          by_cases hlx : x < Wn
          · have hk1 : k2 + 1 ≤ N := by rw [HN.out]; exact make_lt HK2.out hlx hly
            go_wp2_with fail
            refine (HFF.out x y _ (by omega) (by omega) (by omega) (by omega) (BX.out.trans (HB2.out.mono (by omega)))).mono ?_
            rintro _ w5 ⟨n5, rfl, b5⟩
            have HO5 := Lib.hid (HO2.out.below b5)
            have HB5 := Lib.hid (HB2.out.trans (b5.mono HB2.out.size))
            have z5 : w3.heap.size ≤ w5.heap.size := HB5.out.size
            clear b5
            go_wp2_with (at_builtin; refine wpList_append_own _ rfl _ _ 22 rfl w3.heap.size 38 i0 (.float .f32 0) 1 4 Try.underlying22 hinf hz0 hz1 hz2 rfl (by decide) _ _ _ rfl ((HO5.out.alloc _).2.1) ⟨w5.heap.size, 0, none⟩ 1 1 [.float .f32 (pick .f32 (F x y) n5)] rfl rfl ?c1 ?c2 ?c3 ?c4 ?c5 ?_)
            case c1 =>
              intro j u hj
              match j, hj with
              | 0, hj => simp at hj; subst hj; simp [Addr.add]
            case c2 => intro u hu; simp at hu; subst hu; rfl
            case c3 => unfold maxLen; omega
            case c4 => omega
            case c5 => simp; omega
            intro v' w6 hown' hgrow _
            have hB6 : Below w3.heap.size w3 w6 := (HB5.out.alloc z5 _).grown hgrow (by simp; omega) (fun g e => by have := HO5.out.in g (by rw [← own_blk _ k2 c2]; exact e); exact this.1)
            obtain ⟨a', c', rfl, hO6⟩ := own_app hown' HO5.out.1 HO5.out.2.2 (pick_wf (HLT.out x y) n5)
            have HO6 := Lib.hid hO6
            have HB6 := Lib.hid hB6
            clear hown' hgrow hB6 hO6
            go_wp2_with fail
            go_roundw
            case rel => exact ⟨x + 1, k2 + 1, a', c', _, by omega, by rw [HK2.out]; omega, by go_num, rfl, HO6.out, by rw [← HAt.out x y k2 HK2.out hlx hly]; exact near_snoc HN2.out (by rw [HLen.out]; omega) n5, HB6.out⟩
            case measure => simp [intOf]; omega
          · obtain rfl : x = Wn := by omega
            go_wp2_with fail
            go_roundw
            case rel => exact ⟨y + 1, k2, a2, c2, zs2, by omega, by rw [HK2.out, Nat.succ_mul], by go_num, rfl, HO2.out, HN2.out, HB2.out⟩
            case measure => simp [intOf]; omega
      · obtain rfl : y = Hn := by omega
        have hkN : k = N := by rw [HK.out, HN.out, Nat.mul_comm]
        subst hkN
        have hz : near zs L := by have h := HNr.out; rwa [List.take_of_length_le (by rw [HLen.out]; exact Nat.le_refl _)] at h
        have HZN := Lib.hid hz
        have VR := Lib.hid (VX.out.keep HB.out)
        have FR := Lib.hid (FX.out.below (by omega) HB.out)
        have BW := Lib.hid (BX.out.trans (HB.out.mono (by omega)))
        have SW : w3.heap.size ≤ wr.heap.size := HB.out.size
        have HVZ := Lib.hid (near_valid (W := (Wn : Int)) (H := (y : Int)) hz)
        have hl0 : zs.length = k := HO.out.1
        have HL0 := Lib.hid hl0
        clear hz hl0
        go_wp2_with fail
        cases hv2 : validB (Wn : Int) (y : Int) L
        · have HG2 := Lib.hid (show giveP (Wn : Int) (y : Int) L = PRes.no from by unfold giveP; rw [hv2]; rfl)
          have HV2 := Lib.hid hv2
          clear hv2
          refine (c_ifValid_no _ _ _ _ _ zs wr HO.out.row (by rw [HVZ.out]; exact HV2.out)).mono ?_
          rintro _ wz ⟨rfl, b⟩
          obtain ⟨cr0, cr1, cr2⟩ := (VR.out.keep b).three
          have fr := FR.out.below (by omega) b
          have f0 := fr 0
          have f1 := fr 1
          have f2 := fr 2
          have hsz := b.size
          have HB2 := Lib.hid (BW.out.trans (b.mono (by omega)))
          clear fr b
          go_wp2_with fail
          refine bodyPost_ret (v := .tuple #[.agg #[.int .i64 0, .int .i64 0, .slice none 0 0], .bool false]) (by simp [results, Try.results65, cr0, cr1, cr2, go_sem]) rfl (by rw [HG2.out]; exact ⟨none, 0, rfl, Nat.zero_le _, ((HB2.out.setCell (by simp <;> omega) _).setCell (by simp <;> omega) _).setCell (by simp <;> omega) _, Own.nil _ _ _⟩)
        · have HG2 := Lib.hid (show giveP (Wn : Int) (y : Int) L = ⟨Wn, y, L, true⟩ from by unfold giveP; rw [hv2]; rfl)
          have hfin := valid_fin hv2
          obtain rfl := near_eq HZN.out hfin
          clear hfin
          have HV2 := Lib.hid hv2
          clear hv2
          refine (c_ifValid_yes _ _ _ _ _ _ wr HO.out.row HV2.out).mono ?_
          rintro _ wz ⟨rfl, b⟩
          obtain ⟨cr0, cr1, cr2⟩ := (VR.out.keep b).three
          have fr := FR.out.below (by omega) b
          have f0 := fr 0
          have f1 := fr 1
          have f2 := fr 2
          have hsz := b.size
          have HB2 := Lib.hid (BW.out.trans (b.mono (by omega)))
          have HO2 := Lib.hid (HO.out.below b)
          clear fr b
          go_wp2_with fail
          have hrow : blk a ≠ some (w.heap.size + 1) := fun e => by have := HO2.out.in _ e; omega
          refine bodyPost_ret (v := .tuple #[.agg #[.int .i64 (Wn : Int), .int .i64 (y : Int), .slice a k c], .bool true]) (by simp [results, Try.results65, cr0, cr1, cr2, go_sem]) rfl (by rw [HG2.out]; exact ⟨_, _, by rw [HL0.out], by (show zs.length ≤ 1048576); rw [HL0.out]; omega, ((HB2.out.setCell (by simp <;> omega) _).setCell (by simp <;> omega) _).setCell (by simp <;> omega) _, (((Own.re HL0.out.symm HO2.out).setCell hrow _).setCell hrow _).setCell hrow _ |>.mono (by omega)⟩)

/-! ### iMask -/
theorem c_iMaskMix (WA HA : Int) (zA : List Nat) (aA : Option Addr) (cA : Nat) (WB HB : Int) (zB : List Nat) (aB : Option Addr) (cB : Nat) (WM HM : Int) (zM : List Nat) (aM : Option Addr) (cM : Nat) (w : World) (rA : IsRowF .f32 w aA zA.length cA zA) (rB : IsRowF .f32 w aB zB.length cB zB) (rM : IsRowF .f32 w aM zM.length cM zM) : Calls Try.prog 33 #[.agg #[.int .i64 WA, .int .i64 HA, .slice aA zA.length cA], .agg #[.int .i64 WB, .int .i64 HB, .slice aB zB.length cB], .agg #[.int .i64 WM, .int .i64 HM, .slice aM zM.length cM]] w (RetP 38 (resMask WA HA zA WB HB zB WM HM zM) w) := by
  generalize hw0 : (((w.alloc (Obj.cells #[.int .i64 WA, .int .i64 HA, .slice aA zA.length cA] 26)).alloc (Obj.cells #[.int .i64 WB, .int .i64 HB, .slice aB zB.length cB] 26)).alloc (Obj.cells #[.int .i64 WM, .int .i64 HM, .slice aM zM.length cM] 26)).alloc (Obj.cells #[.int .i64 0, .int .i64 0, .slice none 0 0] 26) = w0
  have X0 : Var w0 w.heap.size #[.int .i64 WA, .int .i64 HA, .slice aA zA.length cA] := by subst hw0; exact (((Var.new _ _ _).alloc _).alloc _).alloc _
  have X1 : Var w0 (w.heap.size + 1) #[.int .i64 WB, .int .i64 HB, .slice aB zB.length cB] := by subst hw0; exact ((Var.new' _ _ _ _ (by simp)).alloc _).alloc _
  have X2 : Var w0 (w.heap.size + 1 + 1) #[.int .i64 WM, .int .i64 HM, .slice aM zM.length cM] := by subst hw0; exact (Var.new' _ _ _ _ (by simp)).alloc _
  have X3 : Var w0 (w.heap.size + 1 + 1 + 1) #[.int .i64 0, .int .i64 0, .slice none 0 0] := by subst hw0; exact Var.new' _ _ _ _ (by simp)
  have X4 : Free w0 (w.heap.size + 1 + 1 + 1) := by subst hw0; exact Free.new' _ _ _ _ (by simp)
  have X5 : Below w.heap.size w w0 := by subst hw0; exact ((((Below.refl _ _).alloc (Nat.le_refl _) _).alloc (by simp) _).alloc (by simp; omega) _).alloc (by simp; omega) _
  have HW := Lib.hid hw0
  have VA0 := Lib.hid X0
  have VB0 := Lib.hid X1
  have VM0 := Lib.hid X2
  have VR0 := Lib.hid X3
  have FR0 := Lib.hid X4
  have BW0 := Lib.hid X5
  have RA0 := Lib.hid (rA.below X5)
  have RB0 := Lib.hid (rB.below X5)
  have RM0 := Lib.hid (rM.below X5)
  have SZ0 : w.heap.size + 1 + 1 + 1 < w0.heap.size := X3.lt
  clear hw0 X0 X1 X2 X3 X4 X5 rA rB rM
  cases h1 : bothB WA HA zA WB HB zB
  · rw [mask_no (.inl h1)]
    have H1 := Lib.hid h1
    clear h1
    obtain ⟨cA0, cA1, cA2⟩ := VA0.out.three
    obtain ⟨cB0, cB1, cB2⟩ := VB0.out.three
    go_enter Try.func33, Try.ntmps33
    go_wp2_with fail
    rw [HW.out]
    refine (c_areAlike WA HA zA aA cA WB HB zB aB cB w0 RA0.out RB0.out).mono ?_
    rintro _ w1 ⟨rfl, b⟩
    rw [H1.out]
    clear cA0 cA1 cA2 cB0 cB1 cB2
    have VA1 := Lib.hid (VA0.out.keep b)
    have VB1 := Lib.hid (VB0.out.keep b)
    have VM1 := Lib.hid (VM0.out.keep b)
    have VR1 := Lib.hid (VR0.out.keep b)
    have FR1 := Lib.hid (FR0.out.below VR0.out.lt b)
    have BW1 := Lib.hid (BW0.out.trans (b.mono BW0.out.size))
    have RA1 := Lib.hid (RA0.out.below b)
    have RB1 := Lib.hid (RB0.out.below b)
    have RM1 := Lib.hid (RM0.out.below b)
    have SZ1 : w.heap.size + 1 + 1 + 1 < w1.heap.size := VR1.out.lt
    clear VA0 VB0 VM0 VR0 FR0 BW0 RA0 RB0 RM0
    clear b
    obtain ⟨q0, q1, q2⟩ := VR1.out.three
    have f0 := FR1.out 0
    have f1 := FR1.out 1
    have f2 := FR1.out 2
    go_wp2_with fail
    refine bodyPost_ret (v := .tuple #[.agg #[.int .i64 0, .int .i64 0, .slice none 0 0], .bool false]) (by simp [results, Try.results33, q0, q1, q2, go_sem]) rfl (show RetP _ PRes.no _ _ _ from ⟨none, 0, rfl, Nat.zero_le _, ((BW1.out.setCell (by simp <;> omega) _).setCell (by simp <;> omega) _).setCell (by simp <;> omega) _, Own.nil _ _ _⟩)
  have h12 := both_swap (WM := WM) (HM := HM) (zM := zM) h1
  cases h2 : bothB WA HA zA WM HM zM
  · rw [mask_no (.inr (.inl h2))]
    rw [h2] at h12
    have H1 := Lib.hid h1
    have H2 := Lib.hid h12
    clear h1 h12 h2
    obtain ⟨cA0, cA1, cA2⟩ := VA0.out.three
    obtain ⟨cB0, cB1, cB2⟩ := VB0.out.three
    go_enter Try.func33, Try.ntmps33
    go_wp2_with fail
    rw [HW.out]
    refine (c_areAlike WA HA zA aA cA WB HB zB aB cB w0 RA0.out RB0.out).mono ?_
    rintro _ w1 ⟨rfl, b⟩
    rw [H1.out]
    clear cA0 cA1 cA2 cB0 cB1 cB2
    have VA1 := Lib.hid (VA0.out.keep b)
    have VB1 := Lib.hid (VB0.out.keep b)
    have VM1 := Lib.hid (VM0.out.keep b)
    have VR1 := Lib.hid (VR0.out.keep b)
    have FR1 := Lib.hid (FR0.out.below VR0.out.lt b)
    have BW1 := Lib.hid (BW0.out.trans (b.mono BW0.out.size))
    have RA1 := Lib.hid (RA0.out.below b)
    have RB1 := Lib.hid (RB0.out.below b)
    have RM1 := Lib.hid (RM0.out.below b)
    have SZ1 : w.heap.size + 1 + 1 + 1 < w1.heap.size := VR1.out.lt
    clear VA0 VB0 VM0 VR0 FR0 BW0 RA0 RB0 RM0
    clear b
    obtain ⟨cB0, cB1, cB2⟩ := VB1.out.three
    obtain ⟨cM0, cM1, cM2⟩ := VM1.out.three
    go_wp2_with fail
    refine (c_areAlike WB HB zB aB cB WM HM zM aM cM w1 RB1.out RM1.out).mono ?_
    rintro _ w2 ⟨rfl, b⟩
    rw [H2.out]
    clear cB0 cB1 cB2 cM0 cM1 cM2
    have VA2 := Lib.hid (VA1.out.keep b)
    have VB2 := Lib.hid (VB1.out.keep b)
    have VM2 := Lib.hid (VM1.out.keep b)
    have VR2 := Lib.hid (VR1.out.keep b)
    have FR2 := Lib.hid (FR1.out.below VR1.out.lt b)
    have BW2 := Lib.hid (BW1.out.trans (b.mono BW1.out.size))
    have RA2 := Lib.hid (RA1.out.below b)
    have RB2 := Lib.hid (RB1.out.below b)
    have RM2 := Lib.hid (RM1.out.below b)
    have SZ2 : w.heap.size + 1 + 1 + 1 < w2.heap.size := VR2.out.lt
    clear VA1 VB1 VM1 VR1 FR1 BW1 RA1 RB1 RM1
    clear b
    obtain ⟨q0, q1, q2⟩ := VR2.out.three
    have f0 := FR2.out 0
    have f1 := FR2.out 1
    have f2 := FR2.out 2
    go_wp2_with fail
    refine bodyPost_ret (v := .tuple #[.agg #[.int .i64 0, .int .i64 0, .slice none 0 0], .bool false]) (by simp [results, Try.results33, q0, q1, q2, go_sem]) rfl (show RetP _ PRes.no _ _ _ from ⟨none, 0, rfl, Nat.zero_le _, ((BW2.out.setCell (by simp <;> omega) _).setCell (by simp <;> omega) _).setCell (by simp <;> omega) _, Own.nil _ _ _⟩)
  rw [h2] at h12
  cases h3 : shotB WM HM zM
  · rw [mask_no (.inr (.inr h3))]
    have H1 := Lib.hid h1
    have H2 := Lib.hid h12
    have H3 := Lib.hid h3
    clear h1 h12 h2 h3
    obtain ⟨cA0, cA1, cA2⟩ := VA0.out.three
    obtain ⟨cB0, cB1, cB2⟩ := VB0.out.three
    go_enter Try.func33, Try.ntmps33
    go_wp2_with fail
    rw [HW.out]
    refine (c_areAlike WA HA zA aA cA WB HB zB aB cB w0 RA0.out RB0.out).mono ?_
    rintro _ w1 ⟨rfl, b⟩
    rw [H1.out]
    clear cA0 cA1 cA2 cB0 cB1 cB2
    have VA1 := Lib.hid (VA0.out.keep b)
    have VB1 := Lib.hid (VB0.out.keep b)
    have VM1 := Lib.hid (VM0.out.keep b)
    have VR1 := Lib.hid (VR0.out.keep b)
    have FR1 := Lib.hid (FR0.out.below VR0.out.lt b)
    have BW1 := Lib.hid (BW0.out.trans (b.mono BW0.out.size))
    have RA1 := Lib.hid (RA0.out.below b)
    have RB1 := Lib.hid (RB0.out.below b)
    have RM1 := Lib.hid (RM0.out.below b)
    have SZ1 : w.heap.size + 1 + 1 + 1 < w1.heap.size := VR1.out.lt
    clear VA0 VB0 VM0 VR0 FR0 BW0 RA0 RB0 RM0
    clear b
    obtain ⟨cB0, cB1, cB2⟩ := VB1.out.three
    obtain ⟨cM0, cM1, cM2⟩ := VM1.out.three
    go_wp2_with fail
    refine (c_areAlike WB HB zB aB cB WM HM zM aM cM w1 RB1.out RM1.out).mono ?_
    rintro _ w2 ⟨rfl, b⟩
    rw [H2.out]
    clear cB0 cB1 cB2 cM0 cM1 cM2
    have VA2 := Lib.hid (VA1.out.keep b)
    have VB2 := Lib.hid (VB1.out.keep b)
    have VM2 := Lib.hid (VM1.out.keep b)
    have VR2 := Lib.hid (VR1.out.keep b)
    have FR2 := Lib.hid (FR1.out.below VR1.out.lt b)
    have BW2 := Lib.hid (BW1.out.trans (b.mono BW1.out.size))
    have RA2 := Lib.hid (RA1.out.below b)
    have RB2 := Lib.hid (RB1.out.below b)
    have RM2 := Lib.hid (RM1.out.below b)
    have SZ2 : w.heap.size + 1 + 1 + 1 < w2.heap.size := VR2.out.lt
    clear VA1 VB1 VM1 VR1 FR1 BW1 RA1 RB1 RM1
    clear b
    obtain ⟨cM0, cM1, cM2⟩ := VM2.out.three
    go_wp2_with fail
    refine (c_isShot WM HM aM _ cM zM w2 RM2.out).mono ?_
    rintro _ w3 ⟨rfl, b⟩
    rw [H3.out]
    clear cM0 cM1 cM2
    have VA3 := Lib.hid (VA2.out.keep b)
    have VB3 := Lib.hid (VB2.out.keep b)
    have VM3 := Lib.hid (VM2.out.keep b)
    have VR3 := Lib.hid (VR2.out.keep b)
    have FR3 := Lib.hid (FR2.out.below VR2.out.lt b)
    have BW3 := Lib.hid (BW2.out.trans (b.mono BW2.out.size))
    have RA3 := Lib.hid (RA2.out.below b)
    have RB3 := Lib.hid (RB2.out.below b)
    have RM3 := Lib.hid (RM2.out.below b)
    have SZ3 : w.heap.size + 1 + 1 + 1 < w3.heap.size := VR3.out.lt
    clear VA2 VB2 VM2 VR2 FR2 BW2 RA2 RB2 RM2
    clear b
    obtain ⟨q0, q1, q2⟩ := VR3.out.three
    have f0 := FR3.out 0
    have f1 := FR3.out 1
    have f2 := FR3.out 2
    go_wp2_with fail
    refine bodyPost_ret (v := .tuple #[.agg #[.int .i64 0, .int .i64 0, .slice none 0 0], .bool false]) (by simp [results, Try.results33, q0, q1, q2, go_sem]) rfl (show RetP _ PRes.no _ _ _ from ⟨none, 0, rfl, Nat.zero_le _, ((BW3.out.setCell (by simp <;> omega) _).setCell (by simp <;> omega) _).setCell (by simp <;> omega) _, Own.nil _ _ _⟩)
  have hr : resMask WA HA zA WB HB zB WM HM zM = giveP WA HA (maskL zA zB zM) := by unfold resMask; rw [h1, h2, h3]; rfl
  rw [hr]
  obtain ⟨hvA, _, e1, e2, hlB⟩ := bothB_spec h1
  obtain ⟨_, _, e3, e4, hlM⟩ := bothB_spec h2
  subst e1 e2 e3 e4
  have H1 := Lib.hid h1
  have H2 := Lib.hid h12
  have H3 := Lib.hid h3
  clear hr h1 h2 h3 h12
  have hlen := (valid_len hvA).1
  have hsb : sideB WA HA = true := by have h := hvA; simp only [validB, Bool.and_eq_true] at h; exact h.1.1
  obtain ⟨⟨s1, s2⟩, s3, s4⟩ := sideB_true hsb
  obtain ⟨Wn, rfl⟩ : ∃ n : Nat, WA = n := ⟨WA.toNat, by omega⟩
  obtain ⟨Hn, rfl⟩ : ∃ n : Nat, HA = n := ⟨HA.toNat, by omega⟩
  have lA : zA.length = Wn * Hn := by rw [← Int.natCast_mul] at hlen; omega
  have lB : zB.length = Wn * Hn := by rw [← hlB]; exact lA
  have lM : zM.length = Wn * Hn := by rw [← hlM]; exact lA
  rw [← mask_make hvA lA]
  have CM := Lib.hid (fun (w1 : World) (vA : Var w1 w.heap.size #[.int .i64 (Wn : Int), .int .i64 (Hn : Int), .slice aA zA.length cA]) (vB : Var w1 (w.heap.size + 1) #[.int .i64 (Wn : Int), .int .i64 (Hn : Int), .slice aB zB.length cB]) (vM : Var w1 (w.heap.size + 1 + 1) #[.int .i64 (Wn : Int), .int .i64 (Hn : Int), .slice aM zM.length cM]) (rA : IsRowF .f32 w1 aA zA.length cA zA) (rB : IsRowF .f32 w1 aB zB.length cB zB) (rM : IsRowF .f32 w1 aM zM.length cM zM) => c_makeMask (Wn : Int) (Hn : Int) (.pointer (some ⟨w.heap.size, 0, none⟩)) (.pointer (some ⟨w.heap.size + 1, 0, none⟩)) (.pointer (some ⟨w.heap.size + 1 + 1, 0, none⟩)) (fun i j => maskI zA zB zM (j * Wn + i)) w1 (fun x y => maskI_lt _ _ _ _) (fun x y wr hx hy hW hH hB => c_mask1 Wn Hn x y zA aA cA zB aB cB zM aM cM _ _ _ wr (vA.keep hB) (vB.keep hB) (vM.keep hB) (rA.below hB) (rB.below hB) (rM.below hB) (by omega) (by omega) (by omega) lA lB lM (by omega) (by omega)))
  clear hlen hlB hlM hvA hsb lA lB lM
  generalize resMake (fun i j => maskI zA zB zM (j * Wn + i)) (Wn : Int) (Hn : Int) = r at *
  obtain ⟨cA0, cA1, cA2⟩ := VA0.out.three
  obtain ⟨cB0, cB1, cB2⟩ := VB0.out.three
  go_enter Try.func33, Try.ntmps33
  go_wp2_with fail
  rw [HW.out]
  refine (c_areAlike _ _ zA aA cA _ _ zB aB cB w0 RA0.out RB0.out).mono ?_
  rintro _ w1 ⟨rfl, b⟩
  rw [H1.out]
  clear cA0 cA1 cA2 cB0 cB1 cB2
  have VA1 := Lib.hid (VA0.out.keep b)
  have VB1 := Lib.hid (VB0.out.keep b)
  have VM1 := Lib.hid (VM0.out.keep b)
  have VR1 := Lib.hid (VR0.out.keep b)
  have FR1 := Lib.hid (FR0.out.below VR0.out.lt b)
  have BW1 := Lib.hid (BW0.out.trans (b.mono BW0.out.size))
  have RA1 := Lib.hid (RA0.out.below b)
  have RB1 := Lib.hid (RB0.out.below b)
  have RM1 := Lib.hid (RM0.out.below b)
  have SZ1 : w.heap.size + 1 + 1 + 1 < w1.heap.size := VR1.out.lt
  clear VA0 VB0 VM0 VR0 FR0 BW0 RA0 RB0 RM0
  clear b
  obtain ⟨cB0, cB1, cB2⟩ := VB1.out.three
  obtain ⟨cM0, cM1, cM2⟩ := VM1.out.three
  go_wp2_with fail
  refine (c_areAlike _ _ zB aB cB _ _ zM aM cM w1 RB1.out RM1.out).mono ?_
  rintro _ w2 ⟨rfl, b⟩
  rw [H2.out]
  clear cB0 cB1 cB2 cM0 cM1 cM2
  have VA2 := Lib.hid (VA1.out.keep b)
  have VB2 := Lib.hid (VB1.out.keep b)
  have VM2 := Lib.hid (VM1.out.keep b)
  have VR2 := Lib.hid (VR1.out.keep b)
  have FR2 := Lib.hid (FR1.out.below VR1.out.lt b)
  have BW2 := Lib.hid (BW1.out.trans (b.mono BW1.out.size))
  have RA2 := Lib.hid (RA1.out.below b)
  have RB2 := Lib.hid (RB1.out.below b)
  have RM2 := Lib.hid (RM1.out.below b)
  have SZ2 : w.heap.size + 1 + 1 + 1 < w2.heap.size := VR2.out.lt
  clear VA1 VB1 VM1 VR1 FR1 BW1 RA1 RB1 RM1
  clear b
  obtain ⟨cM0, cM1, cM2⟩ := VM2.out.three
  go_wp2_with fail
  refine (c_isShot _ _ aM _ cM zM w2 RM2.out).mono ?_
  rintro _ w3 ⟨rfl, b⟩
  rw [H3.out]
  clear cM0 cM1 cM2
  have VA3 := Lib.hid (VA2.out.keep b)
  have VB3 := Lib.hid (VB2.out.keep b)
  have VM3 := Lib.hid (VM2.out.keep b)
  have VR3 := Lib.hid (VR2.out.keep b)
  have FR3 := Lib.hid (FR2.out.below VR2.out.lt b)
  have BW3 := Lib.hid (BW2.out.trans (b.mono BW2.out.size))
  have RA3 := Lib.hid (RA2.out.below b)
  have RB3 := Lib.hid (RB2.out.below b)
  have RM3 := Lib.hid (RM2.out.below b)
  have SZ3 : w.heap.size + 1 + 1 + 1 < w3.heap.size := VR3.out.lt
  clear VA2 VB2 VM2 VR2 FR2 BW2 RA2 RB2 RM2
  clear b
  obtain ⟨cA0, cA1, cA2⟩ := VA3.out.three
  go_wp2_with fail
  refine (c_sidesOf _ _ _ _).mono ?_
  rintro _ w4 ⟨rfl, b⟩
  clear cA0 cA1 cA2
  have VA4 := Lib.hid (VA3.out.keep b)
  have VB4 := Lib.hid (VB3.out.keep b)
  have VM4 := Lib.hid (VM3.out.keep b)
  have VR4 := Lib.hid (VR3.out.keep b)
  have FR4 := Lib.hid (FR3.out.below VR3.out.lt b)
  have BW4 := Lib.hid (BW3.out.trans (b.mono BW3.out.size))
  have RA4 := Lib.hid (RA3.out.below b)
  have RB4 := Lib.hid (RB3.out.below b)
  have RM4 := Lib.hid (RM3.out.below b)
  have SZ4 : w.heap.size + 1 + 1 + 1 < w4.heap.size := VR4.out.lt
  clear VA3 VB3 VM3 VR3 FR3 BW3 RA3 RB3 RM3
  clear b
  go_wp2_with fail
  refine (CM.out w4 VA4.out VB4.out VM4.out RA4.out RB4.out RM4.out).mono ?_
  rintro _ w5 ⟨a, cap, rfl, hl, b, o⟩
  have V5 := Lib.hid (VR4.out.keep b)
  have F5 := Lib.hid (FR4.out.below SZ4 b)
  have B5 := Lib.hid (BW4.out.trans (b.mono BW4.out.size))
  have z5 : w4.heap.size ≤ w5.heap.size := b.size
  have O5 := Lib.hid o
  have HL := Lib.hid hl
  clear b o hl
  obtain ⟨q0, q1, q2⟩ := V5.out.three
  have f0 := F5.out 0
  have f1 := F5.out 1
  have f2 := F5.out 2
  go_wp2_with fail
  have hrow : blk a ≠ some (w.heap.size + 1 + 1 + 1) := fun e => by have := O5.out.in _ e; omega
  refine bodyPost_ret (v := .tuple #[.agg #[.int .i64 r.W, .int .i64 r.H, .slice a r.zs.length cap], .bool r.ok]) (by simp [results, Try.results33, q0, q1, q2, go_sem]) rfl ⟨a, cap, rfl, HL.out, ((B5.out.setCell (by simp <;> omega) _).setCell (by simp <;> omega) _).setCell (by simp <;> omega) _, (((O5.out.setCell hrow _).setCell hrow _).setCell hrow _).mono (by omega)⟩
/-! ### lawMask -/

/-! ### FnExactMaskMix -/
set_option maxHeartbeats 8000000 in
theorem walkG (WA HA : Int) (zA : List Nat) (aA : Option Addr) (cA : Nat) (WB HB : Int) (zB : List Nat) (aB : Option Addr) (cB : Nat) (WM HM : Int) (zM : List Nat) (aM : Option Addr) (cM : Nat) (w : World) (r : PRes) (cS : ∀ (aA : Option Addr) (cA : Nat) (aB : Option Addr) (cB : Nat) (aM : Option Addr) (cM : Nat) (w : World), IsRowF .f32 w aA zA.length cA zA → IsRowF .f32 w aB zB.length cB zB → IsRowF .f32 w aM zM.length cM zM → Calls Try.prog 32 #[.agg #[.int .i64 WA, .int .i64 HA, .slice aA zA.length cA], .agg #[.int .i64 WB, .int .i64 HB, .slice aB zB.length cB], .agg #[.int .i64 WM, .int .i64 HM, .slice aM zM.length cM]] w (RetP 38 r w)) (cI : ∀ (aA : Option Addr) (cA : Nat) (aB : Option Addr) (cB : Nat) (aM : Option Addr) (cM : Nat) (w : World), IsRowF .f32 w aA zA.length cA zA → IsRowF .f32 w aB zB.length cB zB → IsRowF .f32 w aM zM.length cM zM → Calls Try.prog 33 #[.agg #[.int .i64 WA, .int .i64 HA, .slice aA zA.length cA], .agg #[.int .i64 WB, .int .i64 HB, .slice aB zB.length cB], .agg #[.int .i64 WM, .int .i64 HM, .slice aM zM.length cM]] w (RetP 38 r w)) (rA : IsRowF .f32 w aA zA.length cA zA) (rB : IsRowF .f32 w aB zB.length cB zB) (rM : IsRowF .f32 w aM zM.length cM zM) (hl : zA.length + zB.length + zM.length ≤ 1048576) : Calls Try.prog 7 #[.agg #[.int .i64 WA, .int .i64 HA, .slice aA zA.length cA], .agg #[.int .i64 WB, .int .i64 HB, .slice aB zB.length cB], .agg #[.int .i64 WM, .int .i64 HM, .slice aM zM.length cM]] w fun e w' => e = .returned (.bool true) ∧ Below w.heap.size w w' := by
  have CS := Lib.hid cS
  have CI := Lib.hid cI
  clear cS cI
  have RA := Lib.hid rA
  have RB := Lib.hid rB
  have RM := Lib.hid rM
  clear rA rB rM
  go_enter Try.func7, Try.ntmps7
  go_wp2_with fail
  refine (c_szP WA HA aA zA.length cA (1048576 : Int) _ (by omega) (by omega)).mono ?_
  rintro _ w1 ⟨rfl, b⟩
  have VpA_1 := Lib.hid ((((Var.new' _ _ _ (w.heap.size) (by first | rfl | simp)).alloc _).alloc _).keep b)
  have VpB_1 := Lib.hid (((Var.new' _ _ _ (w.heap.size + 1) (by first | rfl | simp)).alloc _).keep b)
  have VpM_1 := Lib.hid ((Var.new' _ _ _ (w.heap.size + 2) (by first | rfl | simp)).keep b)
  have B_1 := Lib.hid (((((Below.refl w.heap.size w).alloc (Nat.le_refl _) _).alloc (by simp) _).alloc (by simp; omega) _).trans (b.mono (by simp; omega)))
  have S_1 : w.heap.size + 3 ≤ w1.heap.size := by have := b.size; simp at this; omega
  have zpA_1 : w.heap.size < w1.heap.size := by omega
  have zpB_1 : w.heap.size + 1 < w1.heap.size := by omega
  have zpM_1 : w.heap.size + 2 < w1.heap.size := by omega
  clear b
  have hzA : ¬ (((1048576 : Int) - (zA.length : Int)) < 0) := by omega
  obtain ⟨cpB0, cpB1, cpB2⟩ := VpB_1.out.three
  go_wp2_with fail
  clear cpB0 cpB1 cpB2
  refine (c_szP WB HB aB zB.length cB ((1048576 : Int) - (zA.length : Int)) _ (by omega) (by omega)).mono ?_
  rintro _ w2 ⟨rfl, b⟩
  have VpA_2 := Lib.hid (VpA_1.out.keep b)
  have VpB_2 := Lib.hid (VpB_1.out.keep b)
  have VpM_2 := Lib.hid (VpM_1.out.keep b)
  have B_2 := Lib.hid (B_1.out.trans (b.mono (by omega)))
  have S_2 : w1.heap.size + 0 ≤ w2.heap.size := by have := b.size; omega
  have zpA_2 : w.heap.size < w2.heap.size := by omega
  have zpB_2 : w.heap.size + 1 < w2.heap.size := by omega
  have zpM_2 : w.heap.size + 2 < w2.heap.size := by omega
  clear b
  clear VpA_1 zpA_1 VpB_1 zpB_1 VpM_1 zpM_1 B_1
  have hzB : ¬ ((((1048576 : Int) - (zA.length : Int)) - (zB.length : Int)) < 0) := by omega
  obtain ⟨cpM0, cpM1, cpM2⟩ := VpM_2.out.three
  go_wp2_with fail
  clear cpM0 cpM1 cpM2
  refine (c_szP WM HM aM zM.length cM (((1048576 : Int) - (zA.length : Int)) - (zB.length : Int)) _ (by omega) (by omega)).mono ?_
  rintro _ w3 ⟨rfl, b⟩
  have VpA_3 := Lib.hid (VpA_2.out.keep b)
  have VpB_3 := Lib.hid (VpB_2.out.keep b)
  have VpM_3 := Lib.hid (VpM_2.out.keep b)
  have B_3 := Lib.hid (B_2.out.trans (b.mono (by omega)))
  have S_3 : w2.heap.size + 0 ≤ w3.heap.size := by have := b.size; omega
  have zpA_3 : w.heap.size < w3.heap.size := by omega
  have zpB_3 : w.heap.size + 1 < w3.heap.size := by omega
  have zpM_3 : w.heap.size + 2 < w3.heap.size := by omega
  clear b
  clear VpA_2 zpA_2 VpB_2 zpB_2 VpM_2 zpM_2 B_2
  have hzM : ¬ (((((1048576 : Int) - (zA.length : Int)) - (zB.length : Int)) - (zM.length : Int)) < 0) := by omega
  obtain ⟨cpA0, cpA1, cpA2⟩ := VpA_3.out.three
  obtain ⟨cpB0, cpB1, cpB2⟩ := VpB_3.out.three
  obtain ⟨cpM0, cpM1, cpM2⟩ := VpM_3.out.three
  go_wp2_with fail
  have QA := Lib.hid (RA.out.below B_3.out)
  have QB := Lib.hid (RB.out.below B_3.out)
  have QM := Lib.hid (RM.out.below B_3.out)
  go_cut [8, 9] (fun s6 s7 wx => ∃ b a c, s6 = .pointer (some ⟨b, 0, none⟩) ∧ s7 = .bool r.ok ∧ Var wx b #[.int .i64 r.W, .int .i64 r.H, .slice a r.zs.length c] ∧ Own 38 wx w3.heap.size a r.zs.length c r.zs ∧ Below w3.heap.size w3 wx ∧ w3.heap.size ≤ b ∧ r.zs.length ≤ 1048576)
  case first =>
    have KS : ∀ w' : World, Below w3.heap.size w3 w' → (Below w3.heap.size w3 w' ∧ w'.cell? ⟨w.heap.size, 0, none⟩ = some (.int .i64 WA) ∧ w'.cell? ⟨w.heap.size, 1, none⟩ = some (.int .i64 HA) ∧ w'.cell? ⟨w.heap.size, 2, none⟩ = some (.slice aA zA.length cA) ∧ w'.cell? ⟨w.heap.size + 1, 0, none⟩ = some (.int .i64 WB) ∧ w'.cell? ⟨w.heap.size + 1, 1, none⟩ = some (.int .i64 HB) ∧ w'.cell? ⟨w.heap.size + 1, 2, none⟩ = some (.slice aB zB.length cB) ∧ w'.cell? ⟨w.heap.size + 2, 0, none⟩ = some (.int .i64 WM) ∧ w'.cell? ⟨w.heap.size + 2, 1, none⟩ = some (.int .i64 HM) ∧ w'.cell? ⟨w.heap.size + 2, 2, none⟩ = some (.slice aM zM.length cM)) := fun w' hB => ⟨hB, (VpA_3.out.keep hB).three.1, (VpA_3.out.keep hB).three.2.1, (VpA_3.out.keep hB).three.2.2, (VpB_3.out.keep hB).three.1, (VpB_3.out.keep hB).three.2.1, (VpB_3.out.keep hB).three.2.2, (VpM_3.out.keep hB).three.1, (VpM_3.out.keep hB).three.2.1, (VpM_3.out.keep hB).three.2.2⟩
    have KD := Lib.hid (KS _ (Below.refl _ _).drew)
    have KH := Lib.hid KS
    clear KS
    have eD : Below w3.heap.size w3 w3.drew := (Below.refl _ _).drew
    go_region_held3 (fun w' => Below w3.heap.size w3 w' ∧ w'.cell? ⟨w.heap.size, 0, none⟩ = some (.int .i64 WA) ∧ w'.cell? ⟨w.heap.size, 1, none⟩ = some (.int .i64 HA) ∧ w'.cell? ⟨w.heap.size, 2, none⟩ = some (.slice aA zA.length cA) ∧ w'.cell? ⟨w.heap.size + 1, 0, none⟩ = some (.int .i64 WB) ∧ w'.cell? ⟨w.heap.size + 1, 1, none⟩ = some (.int .i64 HB) ∧ w'.cell? ⟨w.heap.size + 1, 2, none⟩ = some (.slice aB zB.length cB) ∧ w'.cell? ⟨w.heap.size + 2, 0, none⟩ = some (.int .i64 WM) ∧ w'.cell? ⟨w.heap.size + 2, 1, none⟩ = some (.int .i64 HM) ∧ w'.cell? ⟨w.heap.size + 2, 2, none⟩ = some (.slice aM zM.length cM)) (first | exact KD.out | exact KH.out _ eD | exact KH.out _ (eD.alloc eD.size _) | exact KH.out _ eA | exact KH.out _ (eA.alloc eA.size _) | exact KH.out _ eB | exact KH.out _ (eB.alloc eB.size _) | exact KH.out _ eM | exact KH.out _ (eM.alloc eM.size _) | exact KH.out _ ef | exact KH.out _ (ef.alloc ef.size _) | exact KH.out _ (((ef.setCell (by first | omega | (simp <;> omega)) _).setCell (by first | omega | (simp <;> omega)) _).setCell (by first | omega | (simp <;> omega)) _)) (first | (go_at_call 17; ((with_reducible refine (c_toP WA HA aA zA.length cA zA _ (QA.out.below (And.left (by assumption))) (by omega)).mono ?_); rintro _ wwA ⟨gA, rfl, bA, oA⟩; obtain ⟨hcA, hfA⟩ := bcell bA; have eA : Below w3.heap.size w3 wwA := (Below.trans (And.left (by assumption)) (Below.mono bA (Below.size (And.left (by assumption))))); have qA := bA.size; (try (simp at qA)); (try (have tDA : w3.heap.size < wwA.heap.size := by omega)); (try (have tBA : wwB.heap.size < wwA.heap.size := by omega)); (try (have tMA : wwM.heap.size < wwA.heap.size := by omega)))) | (go_at_call 17; ((with_reducible refine (c_toP WB HB aB zB.length cB zB _ (QB.out.below (And.left (by assumption))) (by omega)).mono ?_); rintro _ wwB ⟨gB, rfl, bB, oB⟩; obtain ⟨hcB, hfB⟩ := bcell bB; have eB : Below w3.heap.size w3 wwB := (Below.trans (And.left (by assumption)) (Below.mono bB (Below.size (And.left (by assumption))))); have qB := bB.size; (try (simp at qB)); (try (have tDB : w3.heap.size < wwB.heap.size := by omega)); (try (have tAB : wwA.heap.size < wwB.heap.size := by omega)); (try (have tMB : wwM.heap.size < wwB.heap.size := by omega)))) | (go_at_call 17; ((with_reducible refine (c_toP WM HM aM zM.length cM zM _ (QM.out.below (And.left (by assumption))) (by omega)).mono ?_); rintro _ wwM ⟨gM, rfl, bM, oM⟩; obtain ⟨hcM, hfM⟩ := bcell bM; have eM : Below w3.heap.size w3 wwM := (Below.trans (And.left (by assumption)) (Below.mono bM (Below.size (And.left (by assumption))))); have qM := bM.size; (try (simp at qM)); (try (have tDM : w3.heap.size < wwM.heap.size := by omega)); (try (have tAM : wwA.heap.size < wwM.heap.size := by omega)); (try (have tBM : wwB.heap.size < wwM.heap.size := by omega)))) | (go_at_call 32; (refine (CS.out _ _ _ _ _ _ _ (oA.below (by repeat (first | exact Below.refl _ _ | (refine Below.trans ?_ (Below.mono bB ?_)) | (refine Below.trans ?_ (Below.mono bM ?_)) | (refine Below.alloc ?_ ?_ _) | omega | (simp <;> omega)))).row (oB.below (by repeat (first | exact Below.refl _ _ | (refine Below.trans ?_ (Below.mono bA ?_)) | (refine Below.trans ?_ (Below.mono bM ?_)) | (refine Below.alloc ?_ ?_ _) | omega | (simp <;> omega)))).row (oM.below (by repeat (first | exact Below.refl _ _ | (refine Below.trans ?_ (Below.mono bA ?_)) | (refine Below.trans ?_ (Below.mono bB ?_)) | (refine Below.alloc ?_ ?_ _) | omega | (simp <;> omega)))).row).mono ?_); rintro _ wf ⟨af, cf, rfl, hrl, bf, of⟩; obtain ⟨hcf, hff⟩ := bcell bf; have ef : Below w3.heap.size w3 wf := (Below.trans (And.left (by assumption)) (Below.mono bf (Below.size (And.left (by assumption))))); have qf := bf.size; (try (simp at qf)); (try (have tDf : w3.heap.size < wf.heap.size := by omega)); (try (have tAf : wwA.heap.size < wf.heap.size := by omega)); (try (have tBf : wwB.heap.size < wf.heap.size := by omega)); (try (have tMf : wwM.heap.size < wf.heap.size := by omega))))
    all_goals (go_wp2_with fail; go_meet; first | (refine ⟨_, _, _, rfl, rfl, Var.new' _ _ _ _ (by first | rfl | simp), ((of.mono (by have zzA := eA.size; have zzB := eB.size; have zzM := eM.size; have zzf := ef.size; first | omega | (simp <;> omega))).alloc _), ef.alloc ef.size _, (by have zzA := eA.size; have zzB := eB.size; have zzM := eM.size; have zzf := ef.size; first | omega | (simp <;> omega)), hrl⟩) | (refine ⟨_, _, _, rfl, rfl, Var.mk3 (by simp <;> omega) (by go_simp) (by go_simp) (by go_simp), ((((of.mono (by have zzA := eA.size; have zzB := eB.size; have zzM := eM.size; have zzf := ef.size; first | omega | (simp <;> omega))).setCell (fun e => by have := of.in _ e; simp at this; omega) _).setCell (fun e => by have := of.in _ e; simp at this; omega) _).setCell (fun e => by have := of.in _ e; simp at this; omega) _), (((ef.setCell (by first | omega | (simp <;> omega)) _).setCell (by first | omega | (simp <;> omega)) _).setCell (by first | omega | (simp <;> omega)) _), (by have zzA := eA.size; have zzB := eB.size; have zzM := eM.size; have zzf := ef.size; first | omega | (simp <;> omega)), hrl⟩))
  obtain ⟨bu, au, cu, rfl, rfl, Vx, o, b, hbu, hrl⟩ := hcut
  obtain ⟨w4, rfl⟩ : ∃ x : World, x = wc := ⟨_, rfl⟩
  clear QA QB QM
  clear cpA0 cpA1 cpA2 cpB0 cpB1 cpB2 cpM0 cpM1 cpM2
  have Vy := Lib.hid Vx
  clear Vx
  have Lu := Lib.hid o.in
  have Ou_4 := Lib.hid o
  clear o
  have VpA_4 := Lib.hid (VpA_3.out.keep b)
  have VpB_4 := Lib.hid (VpB_3.out.keep b)
  have VpM_4 := Lib.hid (VpM_3.out.keep b)
  have B_4 := Lib.hid (B_3.out.trans (b.mono (by omega)))
  have S_4 : w3.heap.size + 0 ≤ w4.heap.size := by have := b.size; omega
  have zpA_4 : w.heap.size < w4.heap.size := by omega
  have zpB_4 : w.heap.size + 1 < w4.heap.size := by omega
  have zpM_4 : w.heap.size + 2 < w4.heap.size := by omega
  clear b
  clear VpA_3 zpA_3 VpB_3 zpB_3 VpM_3 zpM_3 B_3
  have Vu_4 := Lib.hid Vy.out
  have huu : bu < w4.heap.size := Vy.out.lt
  have zu_4 : bu < w4.heap.size := Vy.out.lt
  clear Vy
  obtain ⟨cpA0, cpA1, cpA2⟩ := VpA_4.out.three
  go_wp2_with fail
  clear cpA0 cpA1 cpA2
  refine (c_toP WA HA aA zA.length cA zA _ (RA.out.below B_4.out) (by omega)).mono ?_
  rintro _ w5 ⟨gxA, rfl, b, o⟩
  have LxA := Lib.hid o.in
  have OxA_5 := Lib.hid o
  clear o
  have VpA_5 := Lib.hid (VpA_4.out.keep b)
  have VpB_5 := Lib.hid (VpB_4.out.keep b)
  have VpM_5 := Lib.hid (VpM_4.out.keep b)
  have Vu_5 := Lib.hid (Vu_4.out.keep b)
  have Ou_5 := Lib.hid (Ou_4.out.below b)
  have B_5 := Lib.hid (B_4.out.trans (b.mono (by omega)))
  have S_5 : w4.heap.size + 0 ≤ w5.heap.size := by have := b.size; omega
  have zpA_5 : w.heap.size < w5.heap.size := by omega
  have zpB_5 : w.heap.size + 1 < w5.heap.size := by omega
  have zpM_5 : w.heap.size + 2 < w5.heap.size := by omega
  have zu_5 : bu < w5.heap.size := by omega
  clear b
  clear VpA_4 zpA_4 VpB_4 zpB_4 VpM_4 zpM_4 Vu_4 zu_4 Ou_4 B_4
  obtain ⟨cpB0, cpB1, cpB2⟩ := VpB_5.out.three
  go_wp2_with fail
  clear cpB0 cpB1 cpB2
  refine (c_toP WB HB aB zB.length cB zB _ ((RB.out.below B_5.out).alloc _) (by omega)).mono ?_
  rintro _ w6 ⟨gxB, rfl, b, o⟩
  have LxB := Lib.hid o.in
  have LxB := Lib.hid (by have h := LxB.out; simp only [World.size_alloc] at h; exact h)
  have OxB_6 := Lib.hid o
  clear o
  have VpA_6 := Lib.hid ((VpA_5.out.alloc _).keep b)
  have VpB_6 := Lib.hid ((VpB_5.out.alloc _).keep b)
  have VpM_6 := Lib.hid ((VpM_5.out.alloc _).keep b)
  have Vu_6 := Lib.hid ((Vu_5.out.alloc _).keep b)
  have VxA_6 := Lib.hid ((Var.new' _ _ _ (w5.heap.size) (by first | rfl | simp)).keep b)
  have Ou_6 := Lib.hid ((Ou_5.out.alloc _).below b)
  have OxA_6 := Lib.hid ((OxA_5.out.alloc _).below b)
  have B_6 := Lib.hid ((B_5.out.alloc (by omega) _).trans (b.mono (by simp; omega)))
  have S_6 : w5.heap.size + 1 ≤ w6.heap.size := by have := b.size; simp at this; omega
  have zpA_6 : w.heap.size < w6.heap.size := by omega
  have zpB_6 : w.heap.size + 1 < w6.heap.size := by omega
  have zpM_6 : w.heap.size + 2 < w6.heap.size := by omega
  have zu_6 : bu < w6.heap.size := by omega
  have zxA_6 : w5.heap.size < w6.heap.size := by omega
  clear b
  clear VpA_5 zpA_5 VpB_5 zpB_5 VpM_5 zpM_5 Vu_5 zu_5 Ou_5 OxA_5 B_5
  obtain ⟨cpM0, cpM1, cpM2⟩ := VpM_6.out.three
  go_wp2_with fail
  clear cpM0 cpM1 cpM2
  refine (c_toP WM HM aM zM.length cM zM _ ((RM.out.below B_6.out).alloc _) (by omega)).mono ?_
  rintro _ w7 ⟨gxM, rfl, b, o⟩
  have LxM := Lib.hid o.in
  have LxM := Lib.hid (by have h := LxM.out; simp only [World.size_alloc] at h; exact h)
  have OxM_7 := Lib.hid o
  clear o
  have VpA_7 := Lib.hid ((VpA_6.out.alloc _).keep b)
  have VpB_7 := Lib.hid ((VpB_6.out.alloc _).keep b)
  have VpM_7 := Lib.hid ((VpM_6.out.alloc _).keep b)
  have Vu_7 := Lib.hid ((Vu_6.out.alloc _).keep b)
  have VxA_7 := Lib.hid ((VxA_6.out.alloc _).keep b)
  have VxB_7 := Lib.hid ((Var.new' _ _ _ (w6.heap.size) (by first | rfl | simp)).keep b)
  have Ou_7 := Lib.hid ((Ou_6.out.alloc _).below b)
  have OxA_7 := Lib.hid ((OxA_6.out.alloc _).below b)
  have OxB_7 := Lib.hid ((OxB_6.out.alloc _).below b)
  have B_7 := Lib.hid ((B_6.out.alloc (by omega) _).trans (b.mono (by simp; omega)))
  have S_7 : w6.heap.size + 1 ≤ w7.heap.size := by have := b.size; simp at this; omega
  have zpA_7 : w.heap.size < w7.heap.size := by omega
  have zpB_7 : w.heap.size + 1 < w7.heap.size := by omega
  have zpM_7 : w.heap.size + 2 < w7.heap.size := by omega
  have zu_7 : bu < w7.heap.size := by omega
  have zxA_7 : w5.heap.size < w7.heap.size := by omega
  have zxB_7 : w6.heap.size < w7.heap.size := by omega
  clear b
  clear VpA_6 zpA_6 VpB_6 zpB_6 VpM_6 zpM_6 Vu_6 zu_6 VxA_6 zxA_6 Ou_6 OxA_6 OxB_6 B_6
  obtain ⟨cxA0, cxA1, cxA2⟩ := VxA_7.out.three
  obtain ⟨cxB0, cxB1, cxB2⟩ := VxB_7.out.three
  go_wp2_with fail
  clear cxA0 cxA1 cxA2 cxB0 cxB1 cxB2
  refine (CI.out _ _ _ _ _ _ _ (OxA_7.out.alloc _).row (OxB_7.out.alloc _).row (OxM_7.out.alloc _).row).mono ?_
  rintro _ w8 ⟨ag, cg, rfl, hrl, b, o⟩
  clear hrl
  have Lg := Lib.hid o.in
  have Lg := Lib.hid (by have h := Lg.out; simp only [World.size_alloc] at h; exact h)
  have Og_8 := Lib.hid o
  clear o
  have VpA_8 := Lib.hid ((VpA_7.out.alloc _).keep b)
  have VpB_8 := Lib.hid ((VpB_7.out.alloc _).keep b)
  have VpM_8 := Lib.hid ((VpM_7.out.alloc _).keep b)
  have Vu_8 := Lib.hid ((Vu_7.out.alloc _).keep b)
  have VxA_8 := Lib.hid ((VxA_7.out.alloc _).keep b)
  have VxB_8 := Lib.hid ((VxB_7.out.alloc _).keep b)
  have VxM_8 := Lib.hid ((Var.new' _ _ _ (w7.heap.size) (by first | rfl | simp)).keep b)
  have Ou_8 := Lib.hid ((Ou_7.out.alloc _).below b)
  have OxA_8 := Lib.hid ((OxA_7.out.alloc _).below b)
  have OxB_8 := Lib.hid ((OxB_7.out.alloc _).below b)
  have OxM_8 := Lib.hid ((OxM_7.out.alloc _).below b)
  have B_8 := Lib.hid ((B_7.out.alloc (by omega) _).trans (b.mono (by simp; omega)))
  have S_8 : w7.heap.size + 1 ≤ w8.heap.size := by have := b.size; simp at this; omega
  have zpA_8 : w.heap.size < w8.heap.size := by omega
  have zpB_8 : w.heap.size + 1 < w8.heap.size := by omega
  have zpM_8 : w.heap.size + 2 < w8.heap.size := by omega
  have zu_8 : bu < w8.heap.size := by omega
  have zxA_8 : w5.heap.size < w8.heap.size := by omega
  have zxB_8 : w6.heap.size < w8.heap.size := by omega
  have zxM_8 : w7.heap.size < w8.heap.size := by omega
  clear b
  clear VpA_7 zpA_7 VpB_7 zpB_7 VpM_7 zpM_7 Vu_7 zu_7 VxA_7 zxA_7 VxB_7 zxB_7 Ou_7 OxA_7 OxB_7 OxM_7 B_7
  obtain ⟨cu0, cu1, cu2⟩ := Vu_8.out.three
  go_wp2_with fail
  clear cu0 cu1 cu2
  refine (c_eqP _ _ _ _ _ _ _ _ _ (Og_8.out.alloc _).row (Ou_8.out.alloc _).row).mono ?_
  rintro _ w9 ⟨rfl, b⟩
  have VpA_9 := Lib.hid ((VpA_8.out.alloc _).keep b)
  have VpB_9 := Lib.hid ((VpB_8.out.alloc _).keep b)
  have VpM_9 := Lib.hid ((VpM_8.out.alloc _).keep b)
  have Vu_9 := Lib.hid ((Vu_8.out.alloc _).keep b)
  have VxA_9 := Lib.hid ((VxA_8.out.alloc _).keep b)
  have VxB_9 := Lib.hid ((VxB_8.out.alloc _).keep b)
  have VxM_9 := Lib.hid ((VxM_8.out.alloc _).keep b)
  have Vg_9 := Lib.hid ((Var.new' _ _ _ (w8.heap.size) (by first | rfl | simp)).keep b)
  have Ou_9 := Lib.hid ((Ou_8.out.alloc _).below b)
  have OxA_9 := Lib.hid ((OxA_8.out.alloc _).below b)
  have OxB_9 := Lib.hid ((OxB_8.out.alloc _).below b)
  have OxM_9 := Lib.hid ((OxM_8.out.alloc _).below b)
  have Og_9 := Lib.hid ((Og_8.out.alloc _).below b)
  have B_9 := Lib.hid ((B_8.out.alloc (by omega) _).trans (b.mono (by simp; omega)))
  have S_9 : w8.heap.size + 1 ≤ w9.heap.size := by have := b.size; simp at this; omega
  have zpA_9 : w.heap.size < w9.heap.size := by omega
  have zpB_9 : w.heap.size + 1 < w9.heap.size := by omega
  have zpM_9 : w.heap.size + 2 < w9.heap.size := by omega
  have zu_9 : bu < w9.heap.size := by omega
  have zxA_9 : w5.heap.size < w9.heap.size := by omega
  have zxB_9 : w6.heap.size < w9.heap.size := by omega
  have zxM_9 : w7.heap.size < w9.heap.size := by omega
  have zg_9 : w8.heap.size < w9.heap.size := by omega
  clear b
  clear VpA_8 zpA_8 VpB_8 zpB_8 VpM_8 zpM_8 Vu_8 zu_8 VxA_8 zxA_8 VxB_8 zxB_8 VxM_8 zxM_8 Ou_8 OxA_8 OxB_8 OxM_8 Og_8 B_8
  obtain ⟨cpA0, cpA1, cpA2⟩ := VpA_9.out.three
  obtain ⟨cxA0, cxA1, cxA2⟩ := VxA_9.out.three
  go_wp2_with fail
  have D : Below w9.heap.size w9 w9.drew := (Below.refl _ _).drew
  have RD := Lib.hid ((RA.out.below B_9.out).below D)
  have XD := Lib.hid (OxA_9.out.below D)
  have HD := Lib.hid D
  clear D
  go_region_held3 (fun w' => w'.cell? ⟨w.heap.size, 0, none⟩ = some (.int .i64 WA) ∧ w'.cell? ⟨w.heap.size, 1, none⟩ = some (.int .i64 HA) ∧ w'.cell? ⟨w.heap.size, 2, none⟩ = some (.slice aA zA.length cA) ∧ w'.cell? ⟨w5.heap.size, 0, none⟩ = some (.int .i64 WA) ∧ w'.cell? ⟨w5.heap.size, 1, none⟩ = some (.int .i64 HA) ∧ w'.cell? ⟨w5.heap.size, 2, none⟩ = some (.slice (some ⟨gxA, 0, none⟩) zA.length zA.length)) (first | exact ⟨cpA0, cpA1, cpA2, cxA0, cxA1, cxA2⟩ | (have e1 := ((VpA_9.out.keep HD.out).keep b7).three; have e2 := ((VxA_9.out.keep HD.out).keep b7).three; exact ⟨e1.1, e1.2.1, e1.2.2, e2.1, e2.2.1, e2.2.2⟩) | (have e1 := (((VpA_9.out.keep HD.out).keep b7).keep b8).three; have e2 := (((VxA_9.out.keep HD.out).keep b7).keep b8).three; exact ⟨e1.1, e1.2.1, e1.2.2, e2.1, e2.2.1, e2.2.2⟩)) (first | (go_at_call 17; refine (c_toP WA HA aA zA.length cA zA _ RD.out (by omega)).mono ?_; rintro _ wt ⟨g7, rfl, b7, o7⟩) | (go_at_call 19; refine (c_eqP _ _ _ _ _ _ _ _ _ (XD.out.below b7).row o7.row).mono ?_; rintro _ w10 ⟨rfl, b8⟩))
  have b := HD.out.trans (b7.trans (b8.mono b7.size))
  clear RD XD HD b7 b8 o7
  clear cpA0 cpA1 cpA2 cxA0 cxA1 cxA2
  have VpA_10 := Lib.hid (VpA_9.out.keep b)
  have VpB_10 := Lib.hid (VpB_9.out.keep b)
  have VpM_10 := Lib.hid (VpM_9.out.keep b)
  have Vu_10 := Lib.hid (Vu_9.out.keep b)
  have VxA_10 := Lib.hid (VxA_9.out.keep b)
  have VxB_10 := Lib.hid (VxB_9.out.keep b)
  have VxM_10 := Lib.hid (VxM_9.out.keep b)
  have Vg_10 := Lib.hid (Vg_9.out.keep b)
  have Ou_10 := Lib.hid (Ou_9.out.below b)
  have OxA_10 := Lib.hid (OxA_9.out.below b)
  have OxB_10 := Lib.hid (OxB_9.out.below b)
  have OxM_10 := Lib.hid (OxM_9.out.below b)
  have Og_10 := Lib.hid (Og_9.out.below b)
  have B_10 := Lib.hid (B_9.out.trans (b.mono (by omega)))
  have S_10 : w9.heap.size + 0 ≤ w10.heap.size := by have := b.size; omega
  have zpA_10 : w.heap.size < w10.heap.size := by omega
  have zpB_10 : w.heap.size + 1 < w10.heap.size := by omega
  have zpM_10 : w.heap.size + 2 < w10.heap.size := by omega
  have zu_10 : bu < w10.heap.size := by omega
  have zxA_10 : w5.heap.size < w10.heap.size := by omega
  have zxB_10 : w6.heap.size < w10.heap.size := by omega
  have zxM_10 : w7.heap.size < w10.heap.size := by omega
  have zg_10 : w8.heap.size < w10.heap.size := by omega
  clear b
  clear VpA_9 zpA_9 VpB_9 zpB_9 VpM_9 zpM_9 Vu_9 zu_9 VxA_9 zxA_9 VxB_9 zxB_9 VxM_9 zxM_9 Vg_9 zg_9 Ou_9 OxA_9 OxB_9 OxM_9 Og_9 B_9
  obtain ⟨cpB0, cpB1, cpB2⟩ := VpB_10.out.three
  obtain ⟨cxB0, cxB1, cxB2⟩ := VxB_10.out.three
  go_wp2_with fail
  have D : Below w10.heap.size w10 w10.drew := (Below.refl _ _).drew
  have RD := Lib.hid ((RB.out.below B_10.out).below D)
  have XD := Lib.hid (OxB_10.out.below D)
  have HD := Lib.hid D
  clear D
  go_region_held3 (fun w' => w'.cell? ⟨w.heap.size + 1, 0, none⟩ = some (.int .i64 WB) ∧ w'.cell? ⟨w.heap.size + 1, 1, none⟩ = some (.int .i64 HB) ∧ w'.cell? ⟨w.heap.size + 1, 2, none⟩ = some (.slice aB zB.length cB) ∧ w'.cell? ⟨w6.heap.size, 0, none⟩ = some (.int .i64 WB) ∧ w'.cell? ⟨w6.heap.size, 1, none⟩ = some (.int .i64 HB) ∧ w'.cell? ⟨w6.heap.size, 2, none⟩ = some (.slice (some ⟨gxB, 0, none⟩) zB.length zB.length)) (first | exact ⟨cpB0, cpB1, cpB2, cxB0, cxB1, cxB2⟩ | (have e1 := ((VpB_10.out.keep HD.out).keep b7).three; have e2 := ((VxB_10.out.keep HD.out).keep b7).three; exact ⟨e1.1, e1.2.1, e1.2.2, e2.1, e2.2.1, e2.2.2⟩) | (have e1 := (((VpB_10.out.keep HD.out).keep b7).keep b8).three; have e2 := (((VxB_10.out.keep HD.out).keep b7).keep b8).three; exact ⟨e1.1, e1.2.1, e1.2.2, e2.1, e2.2.1, e2.2.2⟩)) (first | (go_at_call 17; refine (c_toP WB HB aB zB.length cB zB _ RD.out (by omega)).mono ?_; rintro _ wt ⟨g7, rfl, b7, o7⟩) | (go_at_call 19; refine (c_eqP _ _ _ _ _ _ _ _ _ (XD.out.below b7).row o7.row).mono ?_; rintro _ w11 ⟨rfl, b8⟩))
  have b := HD.out.trans (b7.trans (b8.mono b7.size))
  clear RD XD HD b7 b8 o7
  clear cpB0 cpB1 cpB2 cxB0 cxB1 cxB2
  have VpA_11 := Lib.hid (VpA_10.out.keep b)
  have VpB_11 := Lib.hid (VpB_10.out.keep b)
  have VpM_11 := Lib.hid (VpM_10.out.keep b)
  have Vu_11 := Lib.hid (Vu_10.out.keep b)
  have VxA_11 := Lib.hid (VxA_10.out.keep b)
  have VxB_11 := Lib.hid (VxB_10.out.keep b)
  have VxM_11 := Lib.hid (VxM_10.out.keep b)
  have Vg_11 := Lib.hid (Vg_10.out.keep b)
  have Ou_11 := Lib.hid (Ou_10.out.below b)
  have OxA_11 := Lib.hid (OxA_10.out.below b)
  have OxB_11 := Lib.hid (OxB_10.out.below b)
  have OxM_11 := Lib.hid (OxM_10.out.below b)
  have Og_11 := Lib.hid (Og_10.out.below b)
  have B_11 := Lib.hid (B_10.out.trans (b.mono (by omega)))
  have S_11 : w10.heap.size + 0 ≤ w11.heap.size := by have := b.size; omega
  have zpA_11 : w.heap.size < w11.heap.size := by omega
  have zpB_11 : w.heap.size + 1 < w11.heap.size := by omega
  have zpM_11 : w.heap.size + 2 < w11.heap.size := by omega
  have zu_11 : bu < w11.heap.size := by omega
  have zxA_11 : w5.heap.size < w11.heap.size := by omega
  have zxB_11 : w6.heap.size < w11.heap.size := by omega
  have zxM_11 : w7.heap.size < w11.heap.size := by omega
  have zg_11 : w8.heap.size < w11.heap.size := by omega
  clear b
  clear VpA_10 zpA_10 VpB_10 zpB_10 VpM_10 zpM_10 Vu_10 zu_10 VxA_10 zxA_10 VxB_10 zxB_10 VxM_10 zxM_10 Vg_10 zg_10 Ou_10 OxA_10 OxB_10 OxM_10 Og_10 B_10
  obtain ⟨cpM0, cpM1, cpM2⟩ := VpM_11.out.three
  obtain ⟨cxM0, cxM1, cxM2⟩ := VxM_11.out.three
  go_wp2_with fail
  have D : Below w11.heap.size w11 w11.drew := (Below.refl _ _).drew
  have RD := Lib.hid ((RM.out.below B_11.out).below D)
  have XD := Lib.hid (OxM_11.out.below D)
  have HD := Lib.hid D
  clear D
  go_region_held3 (fun w' => w'.cell? ⟨w.heap.size + 2, 0, none⟩ = some (.int .i64 WM) ∧ w'.cell? ⟨w.heap.size + 2, 1, none⟩ = some (.int .i64 HM) ∧ w'.cell? ⟨w.heap.size + 2, 2, none⟩ = some (.slice aM zM.length cM) ∧ w'.cell? ⟨w7.heap.size, 0, none⟩ = some (.int .i64 WM) ∧ w'.cell? ⟨w7.heap.size, 1, none⟩ = some (.int .i64 HM) ∧ w'.cell? ⟨w7.heap.size, 2, none⟩ = some (.slice (some ⟨gxM, 0, none⟩) zM.length zM.length)) (first | exact ⟨cpM0, cpM1, cpM2, cxM0, cxM1, cxM2⟩ | (have e1 := ((VpM_11.out.keep HD.out).keep b7).three; have e2 := ((VxM_11.out.keep HD.out).keep b7).three; exact ⟨e1.1, e1.2.1, e1.2.2, e2.1, e2.2.1, e2.2.2⟩) | (have e1 := (((VpM_11.out.keep HD.out).keep b7).keep b8).three; have e2 := (((VxM_11.out.keep HD.out).keep b7).keep b8).three; exact ⟨e1.1, e1.2.1, e1.2.2, e2.1, e2.2.1, e2.2.2⟩)) (first | (go_at_call 17; refine (c_toP WM HM aM zM.length cM zM _ RD.out (by omega)).mono ?_; rintro _ wt ⟨g7, rfl, b7, o7⟩) | (go_at_call 19; refine (c_eqP _ _ _ _ _ _ _ _ _ (XD.out.below b7).row o7.row).mono ?_; rintro _ w12 ⟨rfl, b8⟩))
  have b := HD.out.trans (b7.trans (b8.mono b7.size))
  clear RD XD HD b7 b8 o7
  clear cpM0 cpM1 cpM2 cxM0 cxM1 cxM2
  have VpA_12 := Lib.hid (VpA_11.out.keep b)
  have VpB_12 := Lib.hid (VpB_11.out.keep b)
  have VpM_12 := Lib.hid (VpM_11.out.keep b)
  have Vu_12 := Lib.hid (Vu_11.out.keep b)
  have VxA_12 := Lib.hid (VxA_11.out.keep b)
  have VxB_12 := Lib.hid (VxB_11.out.keep b)
  have VxM_12 := Lib.hid (VxM_11.out.keep b)
  have Vg_12 := Lib.hid (Vg_11.out.keep b)
  have Ou_12 := Lib.hid (Ou_11.out.below b)
  have OxA_12 := Lib.hid (OxA_11.out.below b)
  have OxB_12 := Lib.hid (OxB_11.out.below b)
  have OxM_12 := Lib.hid (OxM_11.out.below b)
  have Og_12 := Lib.hid (Og_11.out.below b)
  have B_12 := Lib.hid (B_11.out.trans (b.mono (by omega)))
  have S_12 : w11.heap.size + 0 ≤ w12.heap.size := by have := b.size; omega
  have zpA_12 : w.heap.size < w12.heap.size := by omega
  have zpB_12 : w.heap.size + 1 < w12.heap.size := by omega
  have zpM_12 : w.heap.size + 2 < w12.heap.size := by omega
  have zu_12 : bu < w12.heap.size := by omega
  have zxA_12 : w5.heap.size < w12.heap.size := by omega
  have zxB_12 : w6.heap.size < w12.heap.size := by omega
  have zxM_12 : w7.heap.size < w12.heap.size := by omega
  have zg_12 : w8.heap.size < w12.heap.size := by omega
  clear b
  clear VpA_11 zpA_11 VpB_11 zpB_11 VpM_11 zpM_11 Vu_11 zu_11 VxA_11 zxA_11 VxB_11 zxB_11 VxM_11 zxM_11 Vg_11 zg_11 Ou_11 OxA_11 OxB_11 OxM_11 Og_11 B_11
  obtain ⟨cxA0, cxA1, cxA2⟩ := VxA_12.out.three
  go_wp2_with fail
  clear cxA0 cxA1 cxA2
  refine (c_markP _ _ _ _ _ _ 1 _ _ OxA_12.out (by omega)).mono ?_
  rintro _ w13 ⟨rfl, b, o⟩
  have On := Lib.hid o
  clear o
  have VpA_13 := Lib.hid (VpA_12.out.kept b (by intro e; have := LxA.out _ e.symm; omega))
  have VpB_13 := Lib.hid (VpB_12.out.kept b (by intro e; have := LxA.out _ e.symm; omega))
  have VpM_13 := Lib.hid (VpM_12.out.kept b (by intro e; have := LxA.out _ e.symm; omega))
  have Vu_13 := Lib.hid (Vu_12.out.kept b (by intro e; have := LxA.out _ e.symm; omega))
  have VxA_13 := Lib.hid (VxA_12.out.kept b (by intro e; have := LxA.out _ e.symm; omega))
  have VxB_13 := Lib.hid (VxB_12.out.kept b (by intro e; have := LxA.out _ e.symm; omega))
  have VxM_13 := Lib.hid (VxM_12.out.kept b (by intro e; have := LxA.out _ e.symm; omega))
  have Vg_13 := Lib.hid (Vg_12.out.kept b (by intro e; have := LxA.out _ e.symm; omega))
  have Ou_13 := Lib.hid (Ou_12.out.kept b (blk_apart Lu.out LxA.out (by omega)))
  have OxB_13 := Lib.hid (OxB_12.out.kept b (blk_apart LxB.out LxA.out (by omega)))
  have OxM_13 := Lib.hid (OxM_12.out.kept b (blk_apart LxM.out LxA.out (by omega)))
  have Og_13 := Lib.hid (Og_12.out.kept b (blk_apart Lg.out LxA.out (by omega)))
  have B_13 := Lib.hid (B_12.out.grown b (by omega) (fun k e => by have := LxA.out k e; omega))
  have S_13 : w12.heap.size ≤ w13.heap.size := b.size
  have zpA_13 : w.heap.size < w13.heap.size := by omega
  have zpB_13 : w.heap.size + 1 < w13.heap.size := by omega
  have zpM_13 : w.heap.size + 2 < w13.heap.size := by omega
  have zu_13 : bu < w13.heap.size := by omega
  have zxA_13 : w5.heap.size < w13.heap.size := by omega
  have zxB_13 : w6.heap.size < w13.heap.size := by omega
  have zxM_13 : w7.heap.size < w13.heap.size := by omega
  have zg_13 : w8.heap.size < w13.heap.size := by omega
  clear b
  clear VpA_12 zpA_12 VpB_12 zpB_12 VpM_12 zpM_12 Vu_12 zu_12 VxA_12 zxA_12 VxB_12 zxB_12 VxM_12 zxM_12 Vg_12 zg_12 Ou_12 OxA_12 OxB_12 OxM_12 Og_12 B_12
  have OxA_13 := Lib.hid On.out
  clear On
  obtain ⟨cxB0, cxB1, cxB2⟩ := VxB_13.out.three
  go_wp2_with fail
  clear cxB0 cxB1 cxB2
  refine (c_markP _ _ _ _ _ _ (1 + zA.length) _ _ OxB_13.out (by omega)).mono ?_
  rintro _ w14 ⟨rfl, b, o⟩
  have On := Lib.hid o
  clear o
  have VpA_14 := Lib.hid (VpA_13.out.kept b (by intro e; have := LxB.out _ e.symm; omega))
  have VpB_14 := Lib.hid (VpB_13.out.kept b (by intro e; have := LxB.out _ e.symm; omega))
  have VpM_14 := Lib.hid (VpM_13.out.kept b (by intro e; have := LxB.out _ e.symm; omega))
  have Vu_14 := Lib.hid (Vu_13.out.kept b (by intro e; have := LxB.out _ e.symm; omega))
  have VxA_14 := Lib.hid (VxA_13.out.kept b (by intro e; have := LxB.out _ e.symm; omega))
  have VxB_14 := Lib.hid (VxB_13.out.kept b (by intro e; have := LxB.out _ e.symm; omega))
  have VxM_14 := Lib.hid (VxM_13.out.kept b (by intro e; have := LxB.out _ e.symm; omega))
  have Vg_14 := Lib.hid (Vg_13.out.kept b (by intro e; have := LxB.out _ e.symm; omega))
  have Ou_14 := Lib.hid (Ou_13.out.kept b (blk_apart Lu.out LxB.out (by omega)))
  have OxA_14 := Lib.hid (OxA_13.out.kept b (blk_apart LxA.out LxB.out (by omega)))
  have OxM_14 := Lib.hid (OxM_13.out.kept b (blk_apart LxM.out LxB.out (by omega)))
  have Og_14 := Lib.hid (Og_13.out.kept b (blk_apart Lg.out LxB.out (by omega)))
  have B_14 := Lib.hid (B_13.out.grown b (by omega) (fun k e => by have := LxB.out k e; omega))
  have S_14 : w13.heap.size ≤ w14.heap.size := b.size
  have zpA_14 : w.heap.size < w14.heap.size := by omega
  have zpB_14 : w.heap.size + 1 < w14.heap.size := by omega
  have zpM_14 : w.heap.size + 2 < w14.heap.size := by omega
  have zu_14 : bu < w14.heap.size := by omega
  have zxA_14 : w5.heap.size < w14.heap.size := by omega
  have zxB_14 : w6.heap.size < w14.heap.size := by omega
  have zxM_14 : w7.heap.size < w14.heap.size := by omega
  have zg_14 : w8.heap.size < w14.heap.size := by omega
  clear b
  clear VpA_13 zpA_13 VpB_13 zpB_13 VpM_13 zpM_13 Vu_13 zu_13 VxA_13 zxA_13 VxB_13 zxB_13 VxM_13 zxM_13 Vg_13 zg_13 Ou_13 OxA_13 OxB_13 OxM_13 Og_13 B_13
  have OxB_14 := Lib.hid On.out
  clear On
  obtain ⟨cxM0, cxM1, cxM2⟩ := VxM_14.out.three
  go_wp2_with fail
  clear cxM0 cxM1 cxM2
  refine (c_markP _ _ _ _ _ _ ((1 + zA.length) + zB.length) _ _ OxM_14.out (by omega)).mono ?_
  rintro _ w15 ⟨rfl, b, o⟩
  have On := Lib.hid o
  clear o
  have VpA_15 := Lib.hid (VpA_14.out.kept b (by intro e; have := LxM.out _ e.symm; omega))
  have VpB_15 := Lib.hid (VpB_14.out.kept b (by intro e; have := LxM.out _ e.symm; omega))
  have VpM_15 := Lib.hid (VpM_14.out.kept b (by intro e; have := LxM.out _ e.symm; omega))
  have Vu_15 := Lib.hid (Vu_14.out.kept b (by intro e; have := LxM.out _ e.symm; omega))
  have VxA_15 := Lib.hid (VxA_14.out.kept b (by intro e; have := LxM.out _ e.symm; omega))
  have VxB_15 := Lib.hid (VxB_14.out.kept b (by intro e; have := LxM.out _ e.symm; omega))
  have VxM_15 := Lib.hid (VxM_14.out.kept b (by intro e; have := LxM.out _ e.symm; omega))
  have Vg_15 := Lib.hid (Vg_14.out.kept b (by intro e; have := LxM.out _ e.symm; omega))
  have Ou_15 := Lib.hid (Ou_14.out.kept b (blk_apart Lu.out LxM.out (by omega)))
  have OxA_15 := Lib.hid (OxA_14.out.kept b (blk_apart LxA.out LxM.out (by omega)))
  have OxB_15 := Lib.hid (OxB_14.out.kept b (blk_apart LxB.out LxM.out (by omega)))
  have Og_15 := Lib.hid (Og_14.out.kept b (blk_apart Lg.out LxM.out (by omega)))
  have B_15 := Lib.hid (B_14.out.grown b (by omega) (fun k e => by have := LxM.out k e; omega))
  have S_15 : w14.heap.size ≤ w15.heap.size := b.size
  have zpA_15 : w.heap.size < w15.heap.size := by omega
  have zpB_15 : w.heap.size + 1 < w15.heap.size := by omega
  have zpM_15 : w.heap.size + 2 < w15.heap.size := by omega
  have zu_15 : bu < w15.heap.size := by omega
  have zxA_15 : w5.heap.size < w15.heap.size := by omega
  have zxB_15 : w6.heap.size < w15.heap.size := by omega
  have zxM_15 : w7.heap.size < w15.heap.size := by omega
  have zg_15 : w8.heap.size < w15.heap.size := by omega
  clear b
  clear VpA_14 zpA_14 VpB_14 zpB_14 VpM_14 zpM_14 Vu_14 zu_14 VxA_14 zxA_14 VxB_14 zxB_14 VxM_14 zxM_14 Vg_14 zg_14 Ou_14 OxA_14 OxB_14 OxM_14 Og_14 B_14
  have OxM_15 := Lib.hid On.out
  clear On
  have hk : ¬ ((((((1 + zA.length) + zB.length) + zM.length) : Nat) : Int) < 0) := by omega
  clear OxA_15 LxA
  clear OxB_15 LxB
  clear OxM_15 LxM
  obtain ⟨cg0, cg1, cg2⟩ := Vg_15.out.three
  obtain ⟨cu0, cu1, cu2⟩ := Vu_15.out.three
  go_wp2_with fail
  clear cg0 cg1 cg2 cu0 cu1 cu2
  refine (c_eqP _ _ _ _ _ _ _ _ _ Og_15.out.row Ou_15.out.row).mono ?_
  rintro _ w16 ⟨rfl, b⟩
  have VpA_16 := Lib.hid (VpA_15.out.keep b)
  have VpB_16 := Lib.hid (VpB_15.out.keep b)
  have VpM_16 := Lib.hid (VpM_15.out.keep b)
  have Vu_16 := Lib.hid (Vu_15.out.keep b)
  have VxA_16 := Lib.hid (VxA_15.out.keep b)
  have VxB_16 := Lib.hid (VxB_15.out.keep b)
  have VxM_16 := Lib.hid (VxM_15.out.keep b)
  have Vg_16 := Lib.hid (Vg_15.out.keep b)
  have Ou_16 := Lib.hid (Ou_15.out.below b)
  have Og_16 := Lib.hid (Og_15.out.below b)
  have B_16 := Lib.hid (B_15.out.trans (b.mono (by omega)))
  have S_16 : w15.heap.size + 0 ≤ w16.heap.size := by have := b.size; omega
  have zpA_16 : w.heap.size < w16.heap.size := by omega
  have zpB_16 : w.heap.size + 1 < w16.heap.size := by omega
  have zpM_16 : w.heap.size + 2 < w16.heap.size := by omega
  have zu_16 : bu < w16.heap.size := by omega
  have zxA_16 : w5.heap.size < w16.heap.size := by omega
  have zxB_16 : w6.heap.size < w16.heap.size := by omega
  have zxM_16 : w7.heap.size < w16.heap.size := by omega
  have zg_16 : w8.heap.size < w16.heap.size := by omega
  clear b
  clear VpA_15 zpA_15 VpB_15 zpB_15 VpM_15 zpM_15 Vu_15 zu_15 VxA_15 zxA_15 VxB_15 zxB_15 VxM_15 zxM_15 Vg_15 zg_15 Ou_15 Og_15 B_15
  obtain ⟨cg0, cg1, cg2⟩ := Vg_16.out.three
  go_wp2_with fail
  clear cg0 cg1 cg2
  refine (c_markP _ _ _ _ _ _ 1 _ _ Og_16.out (by omega)).mono ?_
  rintro _ w17 ⟨rfl, b, o⟩
  have On := Lib.hid o
  clear o
  have VpA_17 := Lib.hid (VpA_16.out.kept b (by intro e; have := Lg.out _ e.symm; omega))
  have VpB_17 := Lib.hid (VpB_16.out.kept b (by intro e; have := Lg.out _ e.symm; omega))
  have VpM_17 := Lib.hid (VpM_16.out.kept b (by intro e; have := Lg.out _ e.symm; omega))
  have Vu_17 := Lib.hid (Vu_16.out.kept b (by intro e; have := Lg.out _ e.symm; omega))
  have VxA_17 := Lib.hid (VxA_16.out.kept b (by intro e; have := Lg.out _ e.symm; omega))
  have VxB_17 := Lib.hid (VxB_16.out.kept b (by intro e; have := Lg.out _ e.symm; omega))
  have VxM_17 := Lib.hid (VxM_16.out.kept b (by intro e; have := Lg.out _ e.symm; omega))
  have Vg_17 := Lib.hid (Vg_16.out.kept b (by intro e; have := Lg.out _ e.symm; omega))
  have Ou_17 := Lib.hid (Ou_16.out.kept b (blk_apart Lu.out Lg.out (by omega)))
  have B_17 := Lib.hid (B_16.out.grown b (by omega) (fun k e => by have := Lg.out k e; omega))
  have S_17 : w16.heap.size ≤ w17.heap.size := b.size
  have zpA_17 : w.heap.size < w17.heap.size := by omega
  have zpB_17 : w.heap.size + 1 < w17.heap.size := by omega
  have zpM_17 : w.heap.size + 2 < w17.heap.size := by omega
  have zu_17 : bu < w17.heap.size := by omega
  have zxA_17 : w5.heap.size < w17.heap.size := by omega
  have zxB_17 : w6.heap.size < w17.heap.size := by omega
  have zxM_17 : w7.heap.size < w17.heap.size := by omega
  have zg_17 : w8.heap.size < w17.heap.size := by omega
  clear b
  clear VpA_16 zpA_16 VpB_16 zpB_16 VpM_16 zpM_16 Vu_16 zu_16 VxA_16 zxA_16 VxB_16 zxB_16 VxM_16 zxM_16 Vg_16 zg_16 Ou_16 Og_16 B_16
  have Og_17 := Lib.hid On.out
  clear On
  obtain ⟨cg0, cg1, cg2⟩ := Vg_17.out.three
  go_wp2_with fail
  clear cg0 cg1 cg2
  refine (c_heldP _ _ _ _ _ 1 _ Og_17.out.row (by omega)).mono ?_
  rintro _ w18 ⟨rfl, b⟩
  have VpA_18 := Lib.hid (VpA_17.out.keep b)
  have VpB_18 := Lib.hid (VpB_17.out.keep b)
  have VpM_18 := Lib.hid (VpM_17.out.keep b)
  have Vu_18 := Lib.hid (Vu_17.out.keep b)
  have VxA_18 := Lib.hid (VxA_17.out.keep b)
  have VxB_18 := Lib.hid (VxB_17.out.keep b)
  have VxM_18 := Lib.hid (VxM_17.out.keep b)
  have Vg_18 := Lib.hid (Vg_17.out.keep b)
  have Ou_18 := Lib.hid (Ou_17.out.below b)
  have Og_18 := Lib.hid (Og_17.out.below b)
  have B_18 := Lib.hid (B_17.out.trans (b.mono (by omega)))
  have S_18 : w17.heap.size + 0 ≤ w18.heap.size := by have := b.size; omega
  have zpA_18 : w.heap.size < w18.heap.size := by omega
  have zpB_18 : w.heap.size + 1 < w18.heap.size := by omega
  have zpM_18 : w.heap.size + 2 < w18.heap.size := by omega
  have zu_18 : bu < w18.heap.size := by omega
  have zxA_18 : w5.heap.size < w18.heap.size := by omega
  have zxB_18 : w6.heap.size < w18.heap.size := by omega
  have zxM_18 : w7.heap.size < w18.heap.size := by omega
  have zg_18 : w8.heap.size < w18.heap.size := by omega
  clear b
  clear VpA_17 zpA_17 VpB_17 zpB_17 VpM_17 zpM_17 Vu_17 zu_17 VxA_17 zxA_17 VxB_17 zxB_17 VxM_17 zxM_17 Vg_17 zg_17 Ou_17 Og_17 B_17
  have hq : ¬ (((1 + r.zs.length : Nat) : Int) < 0) := by omega
  obtain ⟨cpA0, cpA1, cpA2⟩ := VpA_18.out.three
  obtain ⟨cpB0, cpB1, cpB2⟩ := VpB_18.out.three
  obtain ⟨cpM0, cpM1, cpM2⟩ := VpM_18.out.three
  go_wp2_with fail
  have QA := Lib.hid (RA.out.below B_18.out)
  have QB := Lib.hid (RB.out.below B_18.out)
  have QM := Lib.hid (RM.out.below B_18.out)
  go_cut [18, 19] (fun s6 s7 wx => ∃ b a c, s6 = .pointer (some ⟨b, 0, none⟩) ∧ s7 = .bool r.ok ∧ Var wx b #[.int .i64 r.W, .int .i64 r.H, .slice a r.zs.length c] ∧ Own 38 wx w18.heap.size a r.zs.length c r.zs ∧ Below w18.heap.size w18 wx ∧ w18.heap.size ≤ b ∧ r.zs.length ≤ 1048576)
  case first =>
    have KS : ∀ w' : World, Below w18.heap.size w18 w' → (Below w18.heap.size w18 w' ∧ w'.cell? ⟨w.heap.size, 0, none⟩ = some (.int .i64 WA) ∧ w'.cell? ⟨w.heap.size, 1, none⟩ = some (.int .i64 HA) ∧ w'.cell? ⟨w.heap.size, 2, none⟩ = some (.slice aA zA.length cA) ∧ w'.cell? ⟨w.heap.size + 1, 0, none⟩ = some (.int .i64 WB) ∧ w'.cell? ⟨w.heap.size + 1, 1, none⟩ = some (.int .i64 HB) ∧ w'.cell? ⟨w.heap.size + 1, 2, none⟩ = some (.slice aB zB.length cB) ∧ w'.cell? ⟨w.heap.size + 2, 0, none⟩ = some (.int .i64 WM) ∧ w'.cell? ⟨w.heap.size + 2, 1, none⟩ = some (.int .i64 HM) ∧ w'.cell? ⟨w.heap.size + 2, 2, none⟩ = some (.slice aM zM.length cM)) := fun w' hB => ⟨hB, (VpA_18.out.keep hB).three.1, (VpA_18.out.keep hB).three.2.1, (VpA_18.out.keep hB).three.2.2, (VpB_18.out.keep hB).three.1, (VpB_18.out.keep hB).three.2.1, (VpB_18.out.keep hB).three.2.2, (VpM_18.out.keep hB).three.1, (VpM_18.out.keep hB).three.2.1, (VpM_18.out.keep hB).three.2.2⟩
    have KD := Lib.hid (KS _ (Below.refl _ _).drew)
    have KH := Lib.hid KS
    clear KS
    have eD : Below w18.heap.size w18 w18.drew := (Below.refl _ _).drew
    go_region_held3 (fun w' => Below w18.heap.size w18 w' ∧ w'.cell? ⟨w.heap.size, 0, none⟩ = some (.int .i64 WA) ∧ w'.cell? ⟨w.heap.size, 1, none⟩ = some (.int .i64 HA) ∧ w'.cell? ⟨w.heap.size, 2, none⟩ = some (.slice aA zA.length cA) ∧ w'.cell? ⟨w.heap.size + 1, 0, none⟩ = some (.int .i64 WB) ∧ w'.cell? ⟨w.heap.size + 1, 1, none⟩ = some (.int .i64 HB) ∧ w'.cell? ⟨w.heap.size + 1, 2, none⟩ = some (.slice aB zB.length cB) ∧ w'.cell? ⟨w.heap.size + 2, 0, none⟩ = some (.int .i64 WM) ∧ w'.cell? ⟨w.heap.size + 2, 1, none⟩ = some (.int .i64 HM) ∧ w'.cell? ⟨w.heap.size + 2, 2, none⟩ = some (.slice aM zM.length cM)) (first | exact KD.out | exact KH.out _ eD | exact KH.out _ (eD.alloc eD.size _) | exact KH.out _ eA | exact KH.out _ (eA.alloc eA.size _) | exact KH.out _ eB | exact KH.out _ (eB.alloc eB.size _) | exact KH.out _ eM | exact KH.out _ (eM.alloc eM.size _) | exact KH.out _ ef | exact KH.out _ (ef.alloc ef.size _) | exact KH.out _ (((ef.setCell (by first | omega | (simp <;> omega)) _).setCell (by first | omega | (simp <;> omega)) _).setCell (by first | omega | (simp <;> omega)) _)) (first | (go_at_call 17; ((with_reducible refine (c_toP WA HA aA zA.length cA zA _ (QA.out.below (And.left (by assumption))) (by omega)).mono ?_); rintro _ wwA ⟨gA, rfl, bA, oA⟩; obtain ⟨hcA, hfA⟩ := bcell bA; have eA : Below w18.heap.size w18 wwA := (Below.trans (And.left (by assumption)) (Below.mono bA (Below.size (And.left (by assumption))))); have qA := bA.size; (try (simp at qA)); (try (have tDA : w18.heap.size < wwA.heap.size := by omega)); (try (have tBA : wwB.heap.size < wwA.heap.size := by omega)); (try (have tMA : wwM.heap.size < wwA.heap.size := by omega)))) | (go_at_call 17; ((with_reducible refine (c_toP WB HB aB zB.length cB zB _ (QB.out.below (And.left (by assumption))) (by omega)).mono ?_); rintro _ wwB ⟨gB, rfl, bB, oB⟩; obtain ⟨hcB, hfB⟩ := bcell bB; have eB : Below w18.heap.size w18 wwB := (Below.trans (And.left (by assumption)) (Below.mono bB (Below.size (And.left (by assumption))))); have qB := bB.size; (try (simp at qB)); (try (have tDB : w18.heap.size < wwB.heap.size := by omega)); (try (have tAB : wwA.heap.size < wwB.heap.size := by omega)); (try (have tMB : wwM.heap.size < wwB.heap.size := by omega)))) | (go_at_call 17; ((with_reducible refine (c_toP WM HM aM zM.length cM zM _ (QM.out.below (And.left (by assumption))) (by omega)).mono ?_); rintro _ wwM ⟨gM, rfl, bM, oM⟩; obtain ⟨hcM, hfM⟩ := bcell bM; have eM : Below w18.heap.size w18 wwM := (Below.trans (And.left (by assumption)) (Below.mono bM (Below.size (And.left (by assumption))))); have qM := bM.size; (try (simp at qM)); (try (have tDM : w18.heap.size < wwM.heap.size := by omega)); (try (have tAM : wwA.heap.size < wwM.heap.size := by omega)); (try (have tBM : wwB.heap.size < wwM.heap.size := by omega)))) | (go_at_call 33; (refine (CI.out _ _ _ _ _ _ _ (oA.below (by repeat (first | exact Below.refl _ _ | (refine Below.trans ?_ (Below.mono bB ?_)) | (refine Below.trans ?_ (Below.mono bM ?_)) | (refine Below.alloc ?_ ?_ _) | omega | (simp <;> omega)))).row (oB.below (by repeat (first | exact Below.refl _ _ | (refine Below.trans ?_ (Below.mono bA ?_)) | (refine Below.trans ?_ (Below.mono bM ?_)) | (refine Below.alloc ?_ ?_ _) | omega | (simp <;> omega)))).row (oM.below (by repeat (first | exact Below.refl _ _ | (refine Below.trans ?_ (Below.mono bA ?_)) | (refine Below.trans ?_ (Below.mono bB ?_)) | (refine Below.alloc ?_ ?_ _) | omega | (simp <;> omega)))).row).mono ?_); rintro _ wf ⟨af, cf, rfl, hrl, bf, of⟩; obtain ⟨hcf, hff⟩ := bcell bf; have ef : Below w18.heap.size w18 wf := (Below.trans (And.left (by assumption)) (Below.mono bf (Below.size (And.left (by assumption))))); have qf := bf.size; (try (simp at qf)); (try (have tDf : w18.heap.size < wf.heap.size := by omega)); (try (have tAf : wwA.heap.size < wf.heap.size := by omega)); (try (have tBf : wwB.heap.size < wf.heap.size := by omega)); (try (have tMf : wwM.heap.size < wf.heap.size := by omega))))
    all_goals (go_wp2_with fail; go_meet; first | (refine ⟨_, _, _, rfl, rfl, Var.new' _ _ _ _ (by first | rfl | simp), ((of.mono (by have zzA := eA.size; have zzB := eB.size; have zzM := eM.size; have zzf := ef.size; first | omega | (simp <;> omega))).alloc _), ef.alloc ef.size _, (by have zzA := eA.size; have zzB := eB.size; have zzM := eM.size; have zzf := ef.size; first | omega | (simp <;> omega)), hrl⟩) | (refine ⟨_, _, _, rfl, rfl, Var.mk3 (by simp <;> omega) (by go_simp) (by go_simp) (by go_simp), ((((of.mono (by have zzA := eA.size; have zzB := eB.size; have zzM := eM.size; have zzf := ef.size; first | omega | (simp <;> omega))).setCell (fun e => by have := of.in _ e; simp at this; omega) _).setCell (fun e => by have := of.in _ e; simp at this; omega) _).setCell (fun e => by have := of.in _ e; simp at this; omega) _), (((ef.setCell (by first | omega | (simp <;> omega)) _).setCell (by first | omega | (simp <;> omega)) _).setCell (by first | omega | (simp <;> omega)) _), (by have zzA := eA.size; have zzB := eB.size; have zzM := eM.size; have zzf := ef.size; first | omega | (simp <;> omega)), hrl⟩))
  obtain ⟨bh, ah, ch, rfl, rfl, Vx, o, b, hbh, hrl⟩ := hcut
  clear hrl
  obtain ⟨w19, rfl⟩ : ∃ x : World, x = wc := ⟨_, rfl⟩
  clear QA QB QM
  clear cpA0 cpA1 cpA2 cpB0 cpB1 cpB2 cpM0 cpM1 cpM2
  have Vy := Lib.hid Vx
  clear Vx
  have Lh := Lib.hid o.in
  have Oh_19 := Lib.hid o
  clear o
  have VpA_19 := Lib.hid (VpA_18.out.keep b)
  have VpB_19 := Lib.hid (VpB_18.out.keep b)
  have VpM_19 := Lib.hid (VpM_18.out.keep b)
  have Vu_19 := Lib.hid (Vu_18.out.keep b)
  have VxA_19 := Lib.hid (VxA_18.out.keep b)
  have VxB_19 := Lib.hid (VxB_18.out.keep b)
  have VxM_19 := Lib.hid (VxM_18.out.keep b)
  have Vg_19 := Lib.hid (Vg_18.out.keep b)
  have Ou_19 := Lib.hid (Ou_18.out.below b)
  have Og_19 := Lib.hid (Og_18.out.below b)
  have B_19 := Lib.hid (B_18.out.trans (b.mono (by omega)))
  have S_19 : w18.heap.size + 0 ≤ w19.heap.size := by have := b.size; omega
  have zpA_19 : w.heap.size < w19.heap.size := by omega
  have zpB_19 : w.heap.size + 1 < w19.heap.size := by omega
  have zpM_19 : w.heap.size + 2 < w19.heap.size := by omega
  have zu_19 : bu < w19.heap.size := by omega
  have zxA_19 : w5.heap.size < w19.heap.size := by omega
  have zxB_19 : w6.heap.size < w19.heap.size := by omega
  have zxM_19 : w7.heap.size < w19.heap.size := by omega
  have zg_19 : w8.heap.size < w19.heap.size := by omega
  clear b
  clear VpA_18 zpA_18 VpB_18 zpB_18 VpM_18 zpM_18 Vu_18 zu_18 VxA_18 zxA_18 VxB_18 zxB_18 VxM_18 zxM_18 Vg_18 zg_18 Ou_18 Og_18 B_18
  have Vh_19 := Lib.hid Vy.out
  have huh : bh < w19.heap.size := Vy.out.lt
  have zh_19 : bh < w19.heap.size := Vy.out.lt
  clear Vy
  obtain ⟨ch0, ch1, ch2⟩ := Vh_19.out.three
  obtain ⟨cu0, cu1, cu2⟩ := Vu_19.out.three
  go_wp2_with fail
  clear ch0 ch1 ch2 cu0 cu1 cu2
  refine (c_eqP _ _ _ _ _ _ _ _ _ Oh_19.out.row Ou_19.out.row).mono ?_
  rintro _ w20 ⟨rfl, b⟩
  have VpA_20 := Lib.hid (VpA_19.out.keep b)
  have VpB_20 := Lib.hid (VpB_19.out.keep b)
  have VpM_20 := Lib.hid (VpM_19.out.keep b)
  have Vu_20 := Lib.hid (Vu_19.out.keep b)
  have VxA_20 := Lib.hid (VxA_19.out.keep b)
  have VxB_20 := Lib.hid (VxB_19.out.keep b)
  have VxM_20 := Lib.hid (VxM_19.out.keep b)
  have Vg_20 := Lib.hid (Vg_19.out.keep b)
  have Vh_20 := Lib.hid (Vh_19.out.keep b)
  have Ou_20 := Lib.hid (Ou_19.out.below b)
  have Og_20 := Lib.hid (Og_19.out.below b)
  have Oh_20 := Lib.hid (Oh_19.out.below b)
  have B_20 := Lib.hid (B_19.out.trans (b.mono (by omega)))
  have S_20 : w19.heap.size + 0 ≤ w20.heap.size := by have := b.size; omega
  have zpA_20 : w.heap.size < w20.heap.size := by omega
  have zpB_20 : w.heap.size + 1 < w20.heap.size := by omega
  have zpM_20 : w.heap.size + 2 < w20.heap.size := by omega
  have zu_20 : bu < w20.heap.size := by omega
  have zxA_20 : w5.heap.size < w20.heap.size := by omega
  have zxB_20 : w6.heap.size < w20.heap.size := by omega
  have zxM_20 : w7.heap.size < w20.heap.size := by omega
  have zg_20 : w8.heap.size < w20.heap.size := by omega
  have zh_20 : bh < w20.heap.size := by omega
  clear b
  clear VpA_19 zpA_19 VpB_19 zpB_19 VpM_19 zpM_19 Vu_19 zu_19 VxA_19 zxA_19 VxB_19 zxB_19 VxM_19 zxM_19 Vg_19 zg_19 Vh_19 zh_19 Ou_19 Og_19 Oh_19 B_19
  obtain ⟨cg0, cg1, cg2⟩ := Vg_20.out.three
  go_wp2_with fail
  clear cg0 cg1 cg2
  refine (c_heldP _ _ _ _ _ 1 _ Og_20.out.row (by omega)).mono ?_
  rintro _ w21 ⟨rfl, b⟩
  have VpA_21 := Lib.hid (VpA_20.out.keep b)
  have VpB_21 := Lib.hid (VpB_20.out.keep b)
  have VpM_21 := Lib.hid (VpM_20.out.keep b)
  have Vu_21 := Lib.hid (Vu_20.out.keep b)
  have VxA_21 := Lib.hid (VxA_20.out.keep b)
  have VxB_21 := Lib.hid (VxB_20.out.keep b)
  have VxM_21 := Lib.hid (VxM_20.out.keep b)
  have Vg_21 := Lib.hid (Vg_20.out.keep b)
  have Vh_21 := Lib.hid (Vh_20.out.keep b)
  have Ou_21 := Lib.hid (Ou_20.out.below b)
  have Og_21 := Lib.hid (Og_20.out.below b)
  have Oh_21 := Lib.hid (Oh_20.out.below b)
  have B_21 := Lib.hid (B_20.out.trans (b.mono (by omega)))
  have S_21 : w20.heap.size + 0 ≤ w21.heap.size := by have := b.size; omega
  have zpA_21 : w.heap.size < w21.heap.size := by omega
  have zpB_21 : w.heap.size + 1 < w21.heap.size := by omega
  have zpM_21 : w.heap.size + 2 < w21.heap.size := by omega
  have zu_21 : bu < w21.heap.size := by omega
  have zxA_21 : w5.heap.size < w21.heap.size := by omega
  have zxB_21 : w6.heap.size < w21.heap.size := by omega
  have zxM_21 : w7.heap.size < w21.heap.size := by omega
  have zg_21 : w8.heap.size < w21.heap.size := by omega
  have zh_21 : bh < w21.heap.size := by omega
  clear b
  clear VpA_20 zpA_20 VpB_20 zpB_20 VpM_20 zpM_20 Vu_20 zu_20 VxA_20 zxA_20 VxB_20 zxB_20 VxM_20 zxM_20 Vg_20 zg_20 Vh_20 zh_20 Ou_20 Og_20 Oh_20 B_20
  go_wp2_with fail
  go_ret
  exact ⟨rfl, B_21.out⟩
theorem walkL0 (WA HA : Int) (zA : List Nat) (aA : Option Addr) (cA : Nat) (WB HB : Int) (zB : List Nat) (aB : Option Addr) (cB : Nat) (WM HM : Int) (zM : List Nat) (aM : Option Addr) (cM : Nat) (w : World) (rA : IsRowF .f32 w aA zA.length cA zA) (rB : IsRowF .f32 w aB zB.length cB zB) (rM : IsRowF .f32 w aM zM.length cM zM)  (hm : zA.length ≤ maxLen) (hl : 1048576 < zA.length) : Calls Try.prog 7 #[.agg #[.int .i64 WA, .int .i64 HA, .slice aA zA.length cA], .agg #[.int .i64 WB, .int .i64 HB, .slice aB zB.length cB], .agg #[.int .i64 WM, .int .i64 HM, .slice aM zM.length cM]] w fun e w' => e = .returned (.bool true) ∧ Below w.heap.size w w' := by
  unfold maxLen at hm
  have RA := Lib.hid rA
  have RB := Lib.hid rB
  have RM := Lib.hid rM
  clear rA rB rM
  go_enter Try.func7, Try.ntmps7
  go_wp2_with fail
  refine (c_szP_no WA HA aA zA.length cA (1048576 : Int) _ (by omega) (by omega)).mono ?_
  rintro _ w1 ⟨rfl, b⟩
  have VpA_1 := Lib.hid ((((Var.new' _ _ _ (w.heap.size) (by first | rfl | simp)).alloc _).alloc _).keep b)
  have VpB_1 := Lib.hid (((Var.new' _ _ _ (w.heap.size + 1) (by first | rfl | simp)).alloc _).keep b)
  have VpM_1 := Lib.hid ((Var.new' _ _ _ (w.heap.size + 2) (by first | rfl | simp)).keep b)
  have B_1 := Lib.hid (((((Below.refl w.heap.size w).alloc (Nat.le_refl _) _).alloc (by simp) _).alloc (by simp; omega) _).trans (b.mono (by simp; omega)))
  have S_1 : w.heap.size + 3 ≤ w1.heap.size := by have := b.size; simp at this; omega
  have zpA_1 : w.heap.size < w1.heap.size := by omega
  have zpB_1 : w.heap.size + 1 < w1.heap.size := by omega
  have zpM_1 : w.heap.size + 2 < w1.heap.size := by omega
  clear b
  go_wp2_with fail
  go_ret
  exact ⟨rfl, B_1.out⟩
theorem walkL1 (WA HA : Int) (zA : List Nat) (aA : Option Addr) (cA : Nat) (WB HB : Int) (zB : List Nat) (aB : Option Addr) (cB : Nat) (WM HM : Int) (zM : List Nat) (aM : Option Addr) (cM : Nat) (w : World) (rA : IsRowF .f32 w aA zA.length cA zA) (rB : IsRowF .f32 w aB zB.length cB zB) (rM : IsRowF .f32 w aM zM.length cM zM) (hp : zA.length ≤ 1048576) (hm : zB.length ≤ maxLen) (hl : 1048576 < zA.length + zB.length) : Calls Try.prog 7 #[.agg #[.int .i64 WA, .int .i64 HA, .slice aA zA.length cA], .agg #[.int .i64 WB, .int .i64 HB, .slice aB zB.length cB], .agg #[.int .i64 WM, .int .i64 HM, .slice aM zM.length cM]] w fun e w' => e = .returned (.bool true) ∧ Below w.heap.size w w' := by
  unfold maxLen at hm
  have RA := Lib.hid rA
  have RB := Lib.hid rB
  have RM := Lib.hid rM
  clear rA rB rM
  go_enter Try.func7, Try.ntmps7
  go_wp2_with fail
  refine (c_szP WA HA aA zA.length cA (1048576 : Int) _ (by omega) (by omega)).mono ?_
  rintro _ w1 ⟨rfl, b⟩
  have VpA_1 := Lib.hid ((((Var.new' _ _ _ (w.heap.size) (by first | rfl | simp)).alloc _).alloc _).keep b)
  have VpB_1 := Lib.hid (((Var.new' _ _ _ (w.heap.size + 1) (by first | rfl | simp)).alloc _).keep b)
  have VpM_1 := Lib.hid ((Var.new' _ _ _ (w.heap.size + 2) (by first | rfl | simp)).keep b)
  have B_1 := Lib.hid (((((Below.refl w.heap.size w).alloc (Nat.le_refl _) _).alloc (by simp) _).alloc (by simp; omega) _).trans (b.mono (by simp; omega)))
  have S_1 : w.heap.size + 3 ≤ w1.heap.size := by have := b.size; simp at this; omega
  have zpA_1 : w.heap.size < w1.heap.size := by omega
  have zpB_1 : w.heap.size + 1 < w1.heap.size := by omega
  have zpM_1 : w.heap.size + 2 < w1.heap.size := by omega
  clear b
  have hzA : ¬ (((1048576 : Int) - (zA.length : Int)) < 0) := by omega
  obtain ⟨cpB0, cpB1, cpB2⟩ := VpB_1.out.three
  go_wp2_with fail
  clear cpB0 cpB1 cpB2
  refine (c_szP_no WB HB aB zB.length cB ((1048576 : Int) - (zA.length : Int)) _ (by omega) (by omega)).mono ?_
  rintro _ w2 ⟨rfl, b⟩
  have VpA_2 := Lib.hid (VpA_1.out.keep b)
  have VpB_2 := Lib.hid (VpB_1.out.keep b)
  have VpM_2 := Lib.hid (VpM_1.out.keep b)
  have B_2 := Lib.hid (B_1.out.trans (b.mono (by omega)))
  have S_2 : w1.heap.size + 0 ≤ w2.heap.size := by have := b.size; omega
  have zpA_2 : w.heap.size < w2.heap.size := by omega
  have zpB_2 : w.heap.size + 1 < w2.heap.size := by omega
  have zpM_2 : w.heap.size + 2 < w2.heap.size := by omega
  clear b
  clear VpA_1 zpA_1 VpB_1 zpB_1 VpM_1 zpM_1 B_1
  go_wp2_with fail
  go_ret
  exact ⟨rfl, B_2.out⟩
theorem walkL2 (WA HA : Int) (zA : List Nat) (aA : Option Addr) (cA : Nat) (WB HB : Int) (zB : List Nat) (aB : Option Addr) (cB : Nat) (WM HM : Int) (zM : List Nat) (aM : Option Addr) (cM : Nat) (w : World) (rA : IsRowF .f32 w aA zA.length cA zA) (rB : IsRowF .f32 w aB zB.length cB zB) (rM : IsRowF .f32 w aM zM.length cM zM) (hp : zA.length + zB.length ≤ 1048576) (hm : zM.length ≤ maxLen) (hl : 1048576 < zA.length + zB.length + zM.length) : Calls Try.prog 7 #[.agg #[.int .i64 WA, .int .i64 HA, .slice aA zA.length cA], .agg #[.int .i64 WB, .int .i64 HB, .slice aB zB.length cB], .agg #[.int .i64 WM, .int .i64 HM, .slice aM zM.length cM]] w fun e w' => e = .returned (.bool true) ∧ Below w.heap.size w w' := by
  unfold maxLen at hm
  have RA := Lib.hid rA
  have RB := Lib.hid rB
  have RM := Lib.hid rM
  clear rA rB rM
  go_enter Try.func7, Try.ntmps7
  go_wp2_with fail
  refine (c_szP WA HA aA zA.length cA (1048576 : Int) _ (by omega) (by omega)).mono ?_
  rintro _ w1 ⟨rfl, b⟩
  have VpA_1 := Lib.hid ((((Var.new' _ _ _ (w.heap.size) (by first | rfl | simp)).alloc _).alloc _).keep b)
  have VpB_1 := Lib.hid (((Var.new' _ _ _ (w.heap.size + 1) (by first | rfl | simp)).alloc _).keep b)
  have VpM_1 := Lib.hid ((Var.new' _ _ _ (w.heap.size + 2) (by first | rfl | simp)).keep b)
  have B_1 := Lib.hid (((((Below.refl w.heap.size w).alloc (Nat.le_refl _) _).alloc (by simp) _).alloc (by simp; omega) _).trans (b.mono (by simp; omega)))
  have S_1 : w.heap.size + 3 ≤ w1.heap.size := by have := b.size; simp at this; omega
  have zpA_1 : w.heap.size < w1.heap.size := by omega
  have zpB_1 : w.heap.size + 1 < w1.heap.size := by omega
  have zpM_1 : w.heap.size + 2 < w1.heap.size := by omega
  clear b
  have hzA : ¬ (((1048576 : Int) - (zA.length : Int)) < 0) := by omega
  obtain ⟨cpB0, cpB1, cpB2⟩ := VpB_1.out.three
  go_wp2_with fail
  clear cpB0 cpB1 cpB2
  refine (c_szP WB HB aB zB.length cB ((1048576 : Int) - (zA.length : Int)) _ (by omega) (by omega)).mono ?_
  rintro _ w2 ⟨rfl, b⟩
  have VpA_2 := Lib.hid (VpA_1.out.keep b)
  have VpB_2 := Lib.hid (VpB_1.out.keep b)
  have VpM_2 := Lib.hid (VpM_1.out.keep b)
  have B_2 := Lib.hid (B_1.out.trans (b.mono (by omega)))
  have S_2 : w1.heap.size + 0 ≤ w2.heap.size := by have := b.size; omega
  have zpA_2 : w.heap.size < w2.heap.size := by omega
  have zpB_2 : w.heap.size + 1 < w2.heap.size := by omega
  have zpM_2 : w.heap.size + 2 < w2.heap.size := by omega
  clear b
  clear VpA_1 zpA_1 VpB_1 zpB_1 VpM_1 zpM_1 B_1
  have hzB : ¬ ((((1048576 : Int) - (zA.length : Int)) - (zB.length : Int)) < 0) := by omega
  obtain ⟨cpM0, cpM1, cpM2⟩ := VpM_2.out.three
  go_wp2_with fail
  clear cpM0 cpM1 cpM2
  refine (c_szP_no WM HM aM zM.length cM (((1048576 : Int) - (zA.length : Int)) - (zB.length : Int)) _ (by omega) (by omega)).mono ?_
  rintro _ w3 ⟨rfl, b⟩
  have VpA_3 := Lib.hid (VpA_2.out.keep b)
  have VpB_3 := Lib.hid (VpB_2.out.keep b)
  have VpM_3 := Lib.hid (VpM_2.out.keep b)
  have B_3 := Lib.hid (B_2.out.trans (b.mono (by omega)))
  have S_3 : w2.heap.size + 0 ≤ w3.heap.size := by have := b.size; omega
  have zpA_3 : w.heap.size < w3.heap.size := by omega
  have zpB_3 : w.heap.size + 1 < w3.heap.size := by omega
  have zpM_3 : w.heap.size + 2 < w3.heap.size := by omega
  clear b
  clear VpA_2 zpA_2 VpB_2 zpB_2 VpM_2 zpM_2 B_2
  go_wp2_with fail
  go_ret
  exact ⟨rfl, B_3.out⟩
theorem walk (WA HA : Int) (zA : List Nat) (aA : Option Addr) (cA : Nat) (WB HB : Int) (zB : List Nat) (aB : Option Addr) (cB : Nat) (WM HM : Int) (zM : List Nat) (aM : Option Addr) (cM : Nat) (w : World) (rA : IsRowF .f32 w aA zA.length cA zA) (rB : IsRowF .f32 w aB zB.length cB zB) (rM : IsRowF .f32 w aM zM.length cM zM) : Calls Try.prog 7 #[.agg #[.int .i64 WA, .int .i64 HA, .slice aA zA.length cA], .agg #[.int .i64 WB, .int .i64 HB, .slice aB zB.length cB], .agg #[.int .i64 WM, .int .i64 HM, .slice aM zM.length cM]] w fun e w' => e = .returned (.bool true) ∧ Below w.heap.size w w' := by
  have mA : zA.length ≤ maxLen := Nat.le_trans rA.2.1 rA.2.2.1
  have mB : zB.length ≤ maxLen := Nat.le_trans rB.2.1 rB.2.2.1
  have mM : zM.length ≤ maxLen := Nat.le_trans rM.2.1 rM.2.2.1
  by_cases g0 : 1048576 < zA.length
  · exact walkL0 WA HA zA aA cA WB HB zB aB cB WM HM zM aM cM w rA rB rM  mA g0
  by_cases g1 : 1048576 < zA.length + zB.length
  · exact walkL1 WA HA zA aA cA WB HB zB aB cB WM HM zM aM cM w rA rB rM (by omega) mB g1
  by_cases g2 : 1048576 < zA.length + zB.length + zM.length
  · exact walkL2 WA HA zA aA cA WB HB zB aB cB WM HM zM aM cM w rA rB rM (by omega) mM g2
  exact walkG WA HA zA aA cA WB HB zB aB cB WM HM zM aM cM w (resMask WA HA zA WB HB zB WM HM zM) (fun aA cA aB cB aM cM w rA rB rM => c_sMaskMix WA HA zA aA cA WB HB zB aB cB WM HM zM aM cM w rA rB rM ) (fun aA cA aB cB aM cM w rA rB rM => c_iMaskMix WA HA zA aA cA WB HB zB aB cB WM HM zM aM cM w rA rB rM ) rA rB rM (by omega)
theorem own : ownKnob Try.prog.godebug = none := by kernel_rfl
theorem laidOut : laidOutB Try.prog = true := by kernel_rfl
set_option maxRecDepth 100000 in
theorem lifted (os : Os) (started : os.Started) (H : Type) (enc : TypeId × Value → H) :
    ReturnsInHanded {} Try.checked os 7 .any (Rows.fnExactMaskMixSpec.pre6 enc Try.prog Try.f7 Rows.fnExactMaskMixRow.domain false) (Rows.fnExactMaskMixSpec.post enc Try.prog Try.f7 false true false false) := by
  refine returnsInHanded_of_change (C := Try.checked) own started (by kernel_rfl) Try.func7
    (ChangeSpec.witness6 (enc := enc) (C := Try.checked) false ⟨#[], #[.agg #[.int .i64 0, .int .i64 0, .slice none 0 0], .agg #[.int .i64 0, .int .i64 0, .slice none 0 0], .agg #[.int .i64 0, .int .i64 0, .slice none 0 0]], []⟩ 8 (by kernel_rfl) (by kernel_rfl) (by kernel_rfl) (by kernel_rfl)) ?_
  intro W base args ds gs before hval0 hW hcnd _
  have hval : ∀ (j : Nat) t v, Try.f7.params[j]? = some t → args[j]? = some v → Value.okWide Try.prog W .any base t v := hval0
  have hW' := hW
  obtain ⟨p, q, hA0, hV, rfl, hfz, hnd⟩ := hW
  have hA : DataW.TrodAll enc Try.prog W 0 (fun _ => true) true Try.f7.params.toList args.toList ds p := hA0
  rw [Try.params7] at hA hval
  obtain ⟨v0, vs0, d0, ds0, p0, q0, hargs, rfl, rfl, h0, r0⟩ := trodAll_cons hA
  obtain ⟨v1, vs1, d1, ds1, p1, q1, rfl, rfl, rfl, h1, r1⟩ := trodAll_cons r0
  obtain ⟨v2, vs2, d2, ds2, p2, q2, rfl, rfl, rfl, h2, r2⟩ := trodAll_cons r1
  obtain ⟨rfl, rfl, rfl⟩ := trodAll_nil r2
  obtain rfl : args = #[v0, v1, v2] := by cases args; simp_all
  obtain ⟨rfl, rfl⟩ := trodVars_none hV
  have k0 := h0
  have lt0 : ∀ x ∈ p0, x.block < W.heap.size := by obtain ⟨m, hm⟩ := k0; exact DataW.trod_lt m _ _ _ hm
  obtain ⟨W0, H0, z0, a0, c0, rfl, wW0, wH0, w0⟩ := open_pic Try.underlying24 (by kernel_rfl) (by kernel_rfl) Try.underlying2 Try.underlying2 Try.underlying22 Try.underlying38 (by kernel_rfl) (hval 0 24 v0 rfl rfl) h0
  have k1 := h1
  have lt1 : ∀ x ∈ p1, x.block < W.heap.size := by obtain ⟨m, hm⟩ := k1; exact DataW.trod_lt m _ _ _ hm
  obtain ⟨W1, H1, z1, a1, c1, rfl, wW1, wH1, w1⟩ := open_pic Try.underlying24 (by kernel_rfl) (by kernel_rfl) Try.underlying2 Try.underlying2 Try.underlying22 Try.underlying38 (by kernel_rfl) (hval 1 24 v1 rfl rfl) h1
  have k2 := h2
  have lt2 : ∀ x ∈ p2, x.block < W.heap.size := by obtain ⟨m, hm⟩ := k2; exact DataW.trod_lt m _ _ _ hm
  obtain ⟨W2, H2, z2, a2, c2, rfl, wW2, wH2, w2⟩ := open_pic Try.underlying24 (by kernel_rfl) (by kernel_rfl) Try.underlying2 Try.underlying2 Try.underlying22 Try.underlying38 (by kernel_rfl) (hval 2 24 v2 rfl rfl) h2
  clear hA0 hval0
  have hw0 : Calls Try.prog 7 #[.agg #[.int .i64 W0, .int .i64 H0, .slice a0 z0.length c0], .agg #[.int .i64 W1, .int .i64 H1, .slice a1 z1.length c1], .agg #[.int .i64 W2, .int .i64 H2, .slice a2 z2.length c2]] W fun e w' => e = .returned (.bool true) ∧ Below W.heap.size W w' := by
    exact walk W0 H0 z0 a0 c0 W1 H1 z1 a1 c1 W2 H2 z2 a2 c2 W w0 w1 w2
  refine hw0.mono fun e W' ⟨he, bel⟩ => ?_
  subst he
  exact ⟨_, rfl, _, _, _, [], _, [], hW', trodAll_mk1 (shut_bool Try.underlying4 _), (trodAll_cons_mk (Below.trod laidOut (by kernel_rfl) (of_decide_eq_true (by kernel_rfl)) k0 bel lt0) (trodAll_cons_mk (Below.trod laidOut (by kernel_rfl) (of_decide_eq_true (by kernel_rfl)) k1 bel lt1) (trodAll_cons_mk (Below.trod laidOut (by kernel_rfl) (of_decide_eq_true (by kernel_rfl)) k2 bel lt2) trodAll_mk0))), rfl, bel.frame _, fun h => by cases h⟩

theorem over : Rows.fnExactMaskMixRow.holds Try.pinned (OpenSpec.ofChange Rows.fnExactMaskMixSpec) :=
  OpenClaim.holds_of_wide 7 Try.f7 rfl rfl rfl rfl rfl rfl rfl ⟨rfl, rfl, rfl, rfl, rfl⟩ rfl rfl rfl rfl rfl (by kernel_rfl) Try.func7 (by kernel_rfl)
    (of_decide_eq_true (by kernel_rfl)) (by unfold Func.isWrapper; first | (rw [if_pos (by decide +kernel)]; kernel_rfl) | (rw [if_neg (by decide +kernel)]; exact ⟨rfl, rfl⟩))
    (fun os started H enc _ => lifted os started H enc)

theorem proved : Rows.FnExactMaskMixSaid := over
#print axioms proved

end Go.Proofs.Ytclbliflmhjebaa.fnExactMaskMix

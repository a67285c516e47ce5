/-
  FnExactIsSeam: for every input this law of the program returns true, and each argument reads as before. No condition.
-/
import Derived.Test.YtclbliflmhjebaaRows
import Derived.Test.YtclbliflmhjebaaRow
import Derived.Test.YtclbliflmhjebaaBy
import Derived.Test.YtclbliflmhjebaaOg
import Derived.ProofKit
import Derived.OpenShut
import Derived.ShutString
import Derived.ChangeOld
import Derived.Below
import Derived.Lib.Hide
import Derived.Outline
import Derived.Deep.RegionHeld3
import Derived.Deep.DeepCutAuto
set_option linter.unusedSimpArgs false
set_option linter.unusedVariables false
set_option exponentiation.threshold 2000
set_option maxRecDepth 20000
set_option maxHeartbeats 4000000
namespace Go.Proofs.Ytclbliflmhjebaa.fnExactIsSeam
open Go Go.Proofs.Ytclbliflmhjebaa Go.Proofs
open Go.ChangeShapes Go.WideShapes Go.ChangeAt Go.RowKit
open Go.ChangeMaps (open_string shut_string)
/-! ### szPicture -/
theorem c_szF (a : Option Addr) (len cap : Nat) (L : Int) (w : World) (h : (len : Int) ≤ L) (hL : L ≤ 1048576) : Calls Try.prog 60 #[.slice a len cap, .int .i64 L] w (fun e w' => e = .returned (.int .i64 (L - (len : Int))) ∧ w' = w) := by
  have h' : ¬ (L - (len : Int) < 0) := by omega
  go_enter Try.func60, Try.ntmps60
  go_wp2
  go_ret
  exact ⟨rfl, rfl⟩
theorem c_szF_no (a : Option Addr) (len cap : Nat) (L : Int) (w : World) (h : L < len) (hL : 0 ≤ L) (hm : len ≤ 9223372036854775807) : Calls Try.prog 60 #[.slice a len cap, .int .i64 L] w (fun e w' => e = .returned (.int .i64 (-1)) ∧ w' = w) := by
  have h' : L - (len : Int) < 0 := by omega
  go_enter Try.func60, Try.ntmps60
  go_wp2
  go_ret
  exact ⟨rfl, rfl⟩
theorem c_szP (W H : Int) (a : Option Addr) (len cap : Nat) (L : Int) (w : World) (h : (len : Int) ≤ L) (hL : L ≤ 1048576) : Calls Try.prog 15 #[.agg #[.int .i64 W, .int .i64 H, .slice a len cap], .int .i64 L] w (RetB (.int .i64 (L - (len : Int))) w) := by
  have h' : ¬ (L - (len : Int) < 0) := by omega
  go_enter Try.func15, Try.ntmps15
  go_wp2_with (go_at_call 60; refine (c_szF a len cap L _ h hL).mono ?_; rintro _ _ ⟨rfl, rfl⟩)
  go_ret
  exact ⟨rfl, (Below.refl _ _).alloc (Nat.le_refl _) _⟩
theorem c_szP_no (W H : Int) (a : Option Addr) (len cap : Nat) (L : Int) (w : World) (h : L < len) (hL : 0 ≤ L ∧ len ≤ 9223372036854775807) : Calls Try.prog 15 #[.agg #[.int .i64 W, .int .i64 H, .slice a len cap], .int .i64 L] w (RetB (.int .i64 (-1)) w) := by
  go_enter Try.func15, Try.ntmps15
  go_wp2_with (go_at_call 60; refine (c_szF_no a len cap L _ h hL.1 hL.2).mono ?_; rintro _ _ ⟨rfl, rfl⟩)
  go_ret
  exact ⟨rfl, (Below.refl _ _).alloc (Nat.le_refl _) _⟩
/-! ### toOwn -/
theorem infoFo : (Try.prog.info? 38).map (fun i => (i.zero, i.size, i.bytes)) = some (some (.float .f32 0), 1, 4) := by kernel_rfl
theorem c_toO (a : Option Addr) (len cap : Nat) (zs : List Nat) (w : World) (hr : IsRowF .f32 w a len cap zs) (hl : len ≤ 1048576) : Calls Try.prog 44 #[.slice a len cap] w (NewO 38 len zs w) := by
  obtain ⟨i0, hi, hz0, hz1, hz2⟩ := info_parts infoFo
  obtain ⟨h1, h2, h3, h4, h5⟩ := hr
  go_enter Try.func44, Try.ntmps44
  go_wp2_with (at_make; refine wpList_make_full _ rfl _ _ 22 rfl w.heap.size 38 i0 (.float .f32 0) 1 Try.underlying22 hi hz0 hz1 _ _ _ _ len rfl rfl rfl rfl (by rw [hz2]; omega) (by unfold maxLen; omega) (by simp) ?_; intro w1 hown hgrow)
  have hblk := block_of_owns hown
  have e0 : (madeCells (Value.float FloatKind.f32 0).cells (len * 1)).toList = List.replicate len (.float .f32 0) := by rw [Nat.mul_one]; exact made_zeros _ _
  rw [e0] at hblk
  have hbel : Below w.heap.size w w1 := (Below.refl _ _).grown hgrow (Nat.le_refl _) (by simp)
  have HB := Lib.hid hblk
  clear hown hgrow hblk e0 hz0 hz1 hz2
  go_loopw [4] (fun i wr => ∃ j : Nat, j ≤ len ∧ i = .int .i64 j ∧ Below w.heap.size w wr ∧ wr.heap[w.heap.size]? = some (.cells (fl .f32 (zs.take j) ++ List.replicate (zs.length - j) (Value.float .f32 0)).toArray 38 (0, 0))) (fun i _ => len - (intOf i).toNat)
  case atStart => exact ⟨0, Nat.zero_le _, rfl, hbel, by rw [HB.out, h1]; rfl⟩
  case round =>
    obtain ⟨j, hj, rfl, hb, hblk⟩ := hrel
    have Hblk := Lib.hid hblk
    clear hblk
    by_cases hlt : j < len
    · rcases h5 with h5 | ⟨b, off, rfl, hbl, hc⟩
      · omega
      have hcell : wr.cell? ⟨b, off + j, none⟩ = some (.float .f32 (fat zs j)) := by rw [hb.cell (p := ⟨b, off + j, none⟩) hbl]; exact hc j hlt
      have hold : wr.cell? ⟨w.heap.size, j, none⟩ = some (.float .f32 0) := by
        rw [cell_of_block Hblk.out, List.getElem?_append_right (by simp [fl]; omega)]
        have e : (fl FloatKind.f32 (List.take j zs)).length = j := by simp [fl]; omega
        rw [e, Nat.sub_self, List.getElem?_replicate, if_pos (by omega)]
      have hfz : wr.frozen? ⟨w.heap.size, j, none⟩ = false := frozen_of_block Hblk.out j
      have hset := block_set Hblk.out j (.float .f32 (fat zs j))
      rw [set_step zs _ j (by omega)] at hset
      have Hset := Lib.hid hset
      clear hset hc
      go_wp2
      go_roundw
      case rel => exact ⟨j + 1, by omega, by go_num, hb.setCell (Nat.le_refl _) _, Hset.out⟩
      case measure => simp [intOf]; omega
    · obtain rfl : j = len := by omega
      have e1 : fl .f32 (zs.take j) ++ List.replicate (zs.length - j) (Value.float .f32 0) = fl .f32 zs := by rw [h1, Nat.sub_self, List.replicate_zero, List.append_nil, List.take_of_length_le (by omega)]
      have hblk2 := Hblk.out
      rw [e1] at hblk2
      have hown : Own 38 wr w.heap.size (some ⟨w.heap.size, 0, none⟩) j j zs :=
        ⟨h1, ⟨by simp [fl, h1], .inr ⟨w.heap.size, j, _, rfl, Nat.le_refl _, hblk2, Nat.le_refl _, by unfold maxLen; omega, by simp [fl, h1], by rw [List.take_of_length_le (by simp [fl, h1])]⟩⟩, h4⟩
      have HO := Lib.hid hown
      clear hown hblk2 e1
      go_wp2
      go_ret
      exact ⟨w.heap.size, rfl, hb, HO.out⟩
/-! ### toPicture -/
theorem c_toP (W H : Int) (a : Option Addr) (len cap : Nat) (zs : List Nat) (w : World) (hr : IsRowF .f32 w a len cap zs) (hl : len ≤ 1048576) : Calls Try.prog 17 #[.agg #[.int .i64 W, .int .i64 H, .slice a len cap]] w (NewP 38 W H zs w) := by
  have HR := Lib.hid hr
  have HL := Lib.hid hr.1
  clear hr
  go_enter Try.func17, Try.ntmps17
  go_wp2_with fail
  refine (c_toO a len cap zs _ (HR.out.below ((((Below.refl _ _).alloc (Nat.le_refl _) _).alloc (by simp) _).alloc (by simp; omega) _)) hl).mono ?_
  rintro _ w1 ⟨g, rfl, hb, hown⟩
  obtain ⟨hc, hf⟩ := bcell hb
  have hz : w.heap.size + 1 + 1 < w1.heap.size := by have := hb.size; simp at this; omega
  have hg' : w.heap.size + 1 + 1 < g := by have := hown.lt.1; simp at this; omega
  have HB := Lib.hid hb
  have HO := Lib.hid hown
  clear hb hown
  go_wp2_with fail
  refine bodyPost_ret (v := .agg #[.int .i64 W, .int .i64 H, .slice (some ⟨g, 0, none⟩) len len]) (by simp [results, Try.results17, hc, hz, go_sem]) rfl ⟨g, by rw [HL.out], ?_, ?_⟩
  · exact ((((((((Below.refl _ _).alloc (Nat.le_refl _) _).alloc (by simp) _).alloc (by simp; omega) _).trans (HB.out.mono (by simp; omega))).setCell (by simp; omega) _).setCell (by simp) _).setCell (by simp) _).setCell (by simp) _
  · rw [HL.out]
    exact ((((HO.out.setCell (by simp [blk]; omega) _).setCell (by simp [blk]; omega) _).setCell (by simp [blk]; omega) _).setCell (by simp [blk]; omega) _).mono (by simp; omega)
/-! ### sameFloat -/
theorem c_sameFloat (v n m : Nat) (w : World) (j : Nat) : Calls Try.prog 28 #[.float .f64 (pick .f64 v n), .float .f64 (pick .f64 v m)] (w.drewN j) (RetV (.bool true) w) := by
  have hs := self_ne .f64 v
  have ht := self_eq .f64 v
  cases h : isN .f64 v
  · rw [h] at hs ht
    cases h2 : (FloatKind.f64.format.order v 0 == some .eq)
    · go_enter Try.func28, Try.ntmps28
      go_wp2_with (first | (refine wpList_fop rfl _ _ _ _ _ rfl _ _ _ rfl rfl (by decide) _ ?_; intro _ _) | (refine upon_fop _ _ _ _ _ (by decide) ?_; intro _ _))
      go_ret
      exact ⟨_, rfl, rfl⟩
    · go_enter Try.func28, Try.ntmps28
      go_wp2_with (first | (refine wpList_fop rfl _ _ _ _ _ rfl _ _ _ rfl rfl (by decide) _ ?_; intro _ _) | (refine upon_fop _ _ _ _ _ (by decide) ?_; intro _ _))
      go_ret
      exact ⟨_, by simp, rfl⟩
  · rw [h] at hs ht
    go_enter Try.func28, Try.ntmps28
    go_wp2_with (first | (refine wpList_fop rfl _ _ _ _ _ rfl _ _ _ rfl rfl (by decide) _ ?_; intro _ _) | (refine upon_fop _ _ _ _ _ (by decide) ?_; intro _ _))
    go_ret
    exact ⟨_, rfl, rfl⟩

/-! ### eqFloat32S -/
theorem c_eqF (a b : Option Addr) (len c d : Nat) (zs : List Nat) (w : World) (j0 : Nat) (hr : IsRowF .f32 w a len c zs) (hs : IsRowF .f32 w b len d zs) : Calls Try.prog 46 #[.slice a len c, .slice b len d] (w.drewN j0) (RetV (.bool true) w) := by
  obtain ⟨h1, h2, h3, h4, h5⟩ := hr
  obtain ⟨g1, g2, g3, g4, g5⟩ := hs
  unfold maxLen at h3
  go_enter Try.func46, Try.ntmps46
  go_wp2
  go_loopw [5] (fun i wr => ∃ k m : Nat, k ≤ len ∧ i = .int .i64 k ∧ wr = w.drewN m) (fun i _ => len - (intOf i).toNat)
  case atStart => exact ⟨0, j0, Nat.zero_le _, rfl, rfl⟩
  case round =>
    obtain ⟨k, m, hk, rfl, rfl⟩ := hrel
    by_cases hlt : k < len
    · rcases h5 with h5 | ⟨x, off, rfl, hbl, hc⟩
      · omega
      rcases g5 with g5 | ⟨y, off2, rfl, gbl, gc⟩
      · omega
      have hcell : w.cell? ⟨x, off + k, none⟩ = some (.float .f32 (fat zs k)) := hc k hlt
      have gcell : w.cell? ⟨y, off2 + k, none⟩ = some (.float .f32 (fat zs k)) := gc k hlt
      clear hc h4 gc g4
      go_wp2
      refine wp_region_N (fun _ _ u => u = .bool true) (by kernel_rfl) (by kernel_rfl) ?_; (repeat (first | ((with_reducible show wpN _ _ _ _ _ (Oper.mk _ (Op.binOp _ _ _ _ _) _ _ _ none :: _) _); refine wpN_fop rfl _ _ _ _ _ rfl _ _ _ rfl rfl (by decide) ?_; intro _) | ((with_reducible show wpN _ _ _ _ _ (Oper.mk _ (Op.convert _ _ _) _ _ _ none :: _) _); refine wpN_cvU rfl 38 42 _ rfl (Option.isSome_iff_exists.2 ⟨_, Try.underlying38⟩) Try.underlying42 _ rfl ?_; intro _) | ((with_reducible show wpN _ _ _ _ _ (Oper.mk _ _ _ _ _ (some _) :: _) _); (with_reducible refine wpN_off ?_ ?_); focus rfl; (simp only [Act.put, List.setIfInBounds_toArray, List.set_cons_zero, List.set_cons_succ])) | ((with_reducible show wpN _ _ _ _ _ (Oper.mk _ _ _ _ _ (some _) :: _) _); ((with_reducible refine wpN_on ?_ (fun K hK => ?_)); (focus rfl); intro _; go_simp; first | (refine uponN_value (hK _ ?_)) | ((refine uponN_call (callN rfl (c_sameFloat _ _ _ _ _)) ?_; intro u hu; obtain rfl : u = _ := hu); refine hK _ ?_)); clear hK K) | (((with_reducible refine wpN_plain rfl (fun K hK => ?_)); intro _; go_simp; first | (refine uponN_value (hK _ ?_)) | ((refine uponN_call (callN rfl (c_sameFloat _ _ _ _ _)) ?_; intro u hu; obtain rfl : u = _ := hu); refine hK _ ?_)); clear hK K) | ((with_reducible refine wpN_step (fun K hK => ?_)); go_simp; first | (refine hK _ ?_) | (intro _; first | (refine uponN_value (hK _ ?_)) | ((refine uponN_call (callN rfl (c_sameFloat _ _ _ _ _)) ?_; intro u hu; obtain rfl : u = _ := hu); refine hK _ ?_)); clear hK K))); refine wpN_nil ?_; intro _
      go_wp2
      go_roundw
      case rel => exact ⟨k + 1, _, by omega, by go_num, rfl⟩
      case measure => simp [intOf]; omega
    · clear h5 h4 g4 g5
      go_wp2
      go_ret
      exact ⟨_, rfl, rfl⟩
/-! ### eqF0 -/
theorem c_eqF0 (a b : Option Addr) (len c d : Nat) (zs : List Nat) (w : World) (hr : IsRowF .f32 w a len c zs) (hs : IsRowF .f32 w b len d zs) : Calls Try.prog 46 #[.slice a len c, .slice b len d] w (RetV (.bool true) w) := by
  have h := c_eqF a b len c d zs w 0 hr hs
  rwa [w.drewN_zero] at h
/-! ### eqPicture -/
theorem c_eqP (W H : Int) (a b : Option Addr) (len c d : Nat) (zs : List Nat) (w : World) (hr : IsRowF .f32 w a len c zs) (hs : IsRowF .f32 w b len d zs) : Calls Try.prog 19 #[.agg #[.int .i64 W, .int .i64 H, .slice a len c], .agg #[.int .i64 W, .int .i64 H, .slice b len d]] w (RetB (.bool true) w) := by
  have HR := Lib.hid hr
  have HS := Lib.hid hs
  clear hr hs
  go_enter Try.func19, Try.ntmps19
  go_wp2_with fail
  refine (c_eqF0 a b len c d zs _ ((HR.out.alloc _).alloc _) ((HS.out.alloc _).alloc _)).mono ?_
  rintro _ _ ⟨m, rfl, rfl⟩
  go_wp2_with fail
  go_ret
  exact ⟨rfl, below_drewN (((Below.refl _ _).alloc (Nat.le_refl _) _).alloc (by simp) _) _⟩
/-! ### toInt64S -/
theorem infoI : (Try.prog.info? 2).map (fun i => (i.zero, i.size, i.bytes)) = some (some (.int .i64 0), 1, 8) := by kernel_rfl
theorem c_toI (a : Option Addr) (len cap : Nat) (zs : List Int) (w : World) (hr : IsRow .i64 w a len cap zs) (hl : len ≤ 1048576) : Calls Try.prog 23 #[.slice a len cap] w (NewI zs len w) := by
  obtain ⟨i0, hi, hz0, hz1, hz2⟩ := info_parts infoI
  obtain ⟨h1, h2, h3, h4, h5⟩ := hr
  go_enter Try.func23, Try.ntmps23
  go_wp2_with (at_make; refine wpList_make_full _ rfl _ _ 33 rfl w.heap.size 2 i0 (.int .i64 0) 1 Try.underlying33 hi hz0 hz1 _ _ _ _ len rfl rfl rfl rfl (by rw [hz2]; omega) (by unfold maxLen; omega) (by simp) ?_; intro w1 hown hgrow)
  have hblk := block_of_owns hown
  have e0 : (madeCells (Value.int IntKind.i64 0).cells (len * 1)).toList = List.replicate len (.int .i64 0) := by rw [Nat.mul_one]; exact made_zeros _ _
  rw [e0] at hblk
  have hbel : Below w.heap.size w w1 := (Below.refl _ _).grown hgrow (Nat.le_refl _) (by simp)
  have HB := Lib.hid hblk
  clear hown hgrow hblk e0 hz0 hz1 hz2
  go_loopw [4] (fun i wr => ∃ j : Nat, j ≤ len ∧ i = .int .i64 j ∧ Below w.heap.size w wr ∧ wr.heap[w.heap.size]? = some (.cells (il (zs.take j) ++ List.replicate (zs.length - j) (Value.int .i64 0)).toArray 2 (0, 0))) (fun i _ => len - (intOf i).toNat)
  case atStart => exact ⟨0, Nat.zero_le _, rfl, hbel, by rw [HB.out, h1]; rfl⟩
  case round =>
    obtain ⟨j, hj, rfl, hb, hblk⟩ := hrel
    have Hblk := Lib.hid hblk
    clear hblk
    by_cases hlt : j < len
    · rcases h5 with h5 | ⟨b, off, rfl, hbl, hc⟩
      · omega
      have hcell : wr.cell? ⟨b, off + j, none⟩ = some (.int .i64 (zs.getD j 0)) := by rw [hb.cell (p := ⟨b, off + j, none⟩) hbl]; exact hc j hlt
      have hold : wr.cell? ⟨w.heap.size, j, none⟩ = some (.int .i64 0) := by
        rw [cell_of_block Hblk.out, List.getElem?_append_right (by simp [il]; omega)]
        have e : (il (List.take j zs)).length = j := by simp [il]; omega
        rw [e, Nat.sub_self, List.getElem?_replicate, if_pos (by omega)]
      have hfz : wr.frozen? ⟨w.heap.size, j, none⟩ = false := frozen_of_block Hblk.out j
      have hset := block_set Hblk.out j (.int .i64 (zs.getD j 0))
      rw [set_stepI zs _ j (by omega)] at hset
      have Hset := Lib.hid hset
      clear hset hc
      generalize zs.getD j 0 = q at *
      go_wp2
      go_roundw
      case rel => exact ⟨j + 1, by omega, by go_num, hb.setCell (Nat.le_refl _) _, Hset.out⟩
      case measure => simp [intOf]; omega
    · obtain rfl : j = len := by omega
      have e1 : il (zs.take j) ++ List.replicate (zs.length - j) (Value.int .i64 0) = il zs := by rw [h1, Nat.sub_self, List.replicate_zero, List.append_nil, List.take_of_length_le (by omega)]
      have hblk2 := Hblk.out
      rw [e1] at hblk2
      have hrow := rowI_of_block hblk2 (by unfold maxLen at *; omega) h4
      have HR := Lib.hid hrow
      clear hrow hblk2 e1
      go_wp2
      go_ret
      exact ⟨w.heap.size, rfl, hb, by have := HR.out; rwa [h1] at this⟩
/-! ### eqInt64S -/
theorem c_eqI (a b : Option Addr) (len c d : Nat) (zs : List Int) (w : World) (hr : IsRow .i64 w a len c zs) (hs : IsRow .i64 w b len d zs) : Calls Try.prog 25 #[.slice a len c, .slice b len d] w (RetV (.bool true) w) := by
  obtain ⟨h1, h2, h3, h4, h5⟩ := hr
  obtain ⟨g1, g2, g3, g4, g5⟩ := hs
  unfold maxLen at h3
  go_enter Try.func25, Try.ntmps25
  go_wp2
  rw [← w.drewN_zero]
  go_loopw [5] (fun i wr => ∃ k m : Nat, k ≤ len ∧ i = .int .i64 k ∧ wr = w.drewN m) (fun i _ => len - (intOf i).toNat)
  case atStart => exact ⟨0, 0, Nat.zero_le _, rfl, rfl⟩
  case round =>
    obtain ⟨k, m, hk, rfl, rfl⟩ := hrel
    by_cases hlt : k < len
    · rcases h5 with h5 | ⟨x, off, rfl, hbl, hc⟩
      · omega
      rcases g5 with g5 | ⟨y, off2, rfl, gbl, gc⟩
      · omega
      have hcell : w.cell? ⟨x, off + k, none⟩ = some (.int .i64 (zs.getD k 0)) := hc k hlt
      have gcell : w.cell? ⟨y, off2 + k, none⟩ = some (.int .i64 (zs.getD k 0)) := gc k hlt
      clear hc h4 gc g4
      generalize zs.getD k 0 = q at *
      go_wp2
      refine wp_region_N (fun _ _ _ => False) (by kernel_rfl) (by kernel_rfl) ?_; (repeat (first | ((with_reducible show wpN _ _ _ _ _ (Oper.mk _ (Op.binOp _ _ _ _ _) _ _ _ none :: _) _); refine wpN_fop rfl _ _ _ _ _ rfl _ _ _ rfl rfl (by decide) ?_; intro _) | ((with_reducible show wpN _ _ _ _ _ (Oper.mk _ (Op.convert _ _ _) _ _ _ none :: _) _); refine wpN_cvU rfl 38 42 _ rfl (Option.isSome_iff_exists.2 ⟨_, Try.underlying38⟩) Try.underlying42 _ rfl ?_; intro _) | ((with_reducible show wpN _ _ _ _ _ (Oper.mk _ _ _ _ _ (some _) :: _) _); (with_reducible refine wpN_off ?_ ?_); focus rfl; (simp only [Act.put, List.setIfInBounds_toArray, List.set_cons_zero, List.set_cons_succ])) | ((with_reducible show wpN _ _ _ _ _ (Oper.mk _ _ _ _ _ (some _) :: _) _); ((with_reducible refine wpN_on ?_ (fun K hK => ?_)); (focus rfl); intro _; go_simp; first | (refine uponN_value (hK _ ?_)) | (fail; refine hK _ ?_)); clear hK K) | (((with_reducible refine wpN_plain rfl (fun K hK => ?_)); intro _; go_simp; first | (refine uponN_value (hK _ ?_)) | (fail; refine hK _ ?_)); clear hK K) | ((with_reducible refine wpN_step (fun K hK => ?_)); go_simp; first | (refine hK _ ?_) | (intro _; first | (refine uponN_value (hK _ ?_)) | (fail; refine hK _ ?_)); clear hK K))); refine wpN_nil ?_; intro _
      go_wp2
      go_roundw
      case rel => exact ⟨k + 1, _, by omega, by go_num, rfl⟩
      case measure => simp [intOf]; omega
    · clear h5 h4 g4 g5
      go_wp2
      go_ret
      exact ⟨_, rfl, rfl⟩

/-! ### picDefs -/
def sideB (W H : Int) : Bool := decide (1 ≤ W) && decide (W ≤ 16) && (decide (1 ≤ H) && decide (H ≤ 16))
def finL (zs : List Nat) : Bool := zs.all (finB .f32)
def validB (W H : Int) (zs : List Nat) : Bool := sideB W H && decide ((zs.length : Int) = W * H) && finL zs
theorem sideB_true {W H : Int} (h : sideB W H = true) : (1 ≤ W ∧ W ≤ 16) ∧ 1 ≤ H ∧ H ≤ 16 := by simpa [sideB, and_assoc] using h
theorem side_mul {W H : Int} (h : sideB W H = true) : 1 ≤ W * H ∧ W * H ≤ 256 := by
  obtain ⟨⟨h1, h2⟩, h3, h4⟩ := sideB_true h
  have : W * H ≤ 16 * 16 := Int.mul_le_mul h2 h4 (by omega) (by omega)
  have h5 : 1 * 1 ≤ W * H := Int.mul_le_mul h1 h3 (by omega) (by omega)
  omega
theorem sideB_false {W H : Int} (h : sideB W H = false) : W < 1 ∨ 16 < W ∨ H < 1 ∨ 16 < H := by
  simp [sideB] at h; omega
theorem finL_snoc (zs : List Nat) (k : Nat) (hk : k < zs.length) : finL (zs.take (k + 1)) = (finL (zs.take k) && finB .f32 (fat zs k)) := by
  unfold finL fat
  rw [List.take_succ_eq_append_getElem hk, List.all_append, List.getD, List.getElem?_eq_getElem hk]; simp
theorem finL_of (zs : List Nat) (k : Nat) (hk : k < zs.length) (h : finB .f32 (fat zs k) = false) : finL zs = false := by
  unfold finL
  rw [List.all_eq_false]
  refine ⟨zs[k], List.getElem_mem hk, ?_⟩
  unfold fat at h
  rw [List.getD, List.getElem?_eq_getElem hk] at h
  simpa using h
theorem pick0 (k : FloatKind) (v : Nat) (hv : v < 2 ^ k.format.width) : ∃ n, v = pick k v n := pick_onto k v hv
/-! ### give -/
def giveP (W H : Int) (zs : List Nat) : PRes := if validB W H zs = true then ⟨W, H, zs, true⟩ else PRes.no
theorem near_valid {W H : Int} {zs' zs : List Nat} (h : near zs' zs) : validB W H zs' = validB W H zs := by
  unfold validB finL; rw [near_fin h, h.1]
theorem valid_fin {W H : Int} {zs : List Nat} (h : validB W H zs = true) : zs.all (finB .f32) = true := by
  simp [validB, finL] at h ⊢; exact h.2
theorem valid_len {W H : Int} {zs : List Nat} (h : validB W H zs = true) : (zs.length : Int) = W * H ∧ zs.length ≤ 256 ∧ 1 ≤ zs.length := by
  simp only [validB, Bool.and_eq_true, decide_eq_true_eq] at h
  obtain ⟨⟨h1, h2⟩, h3⟩ := h
  have := side_mul h1
  exact ⟨h2, by omega, by omega⟩
/-! ### seamDefs -/
def sg (zs : List Int) (k : Nat) : Int := zs.getD k 0
def stepOk (W : Int) (zs : List Int) (k : Nat) : Bool := (decide (0 ≤ sg zs k) && decide (sg zs k ≤ W - 1)) && (decide (k = 0) || (decide (sg zs (k - 1) - 1 ≤ sg zs k) && decide (sg zs k ≤ sg zs (k - 1) + 1)))
def seamK (W : Int) (zs : List Int) : Nat → Bool
  | 0 => true
  | k + 1 => seamK W zs k && stepOk W zs k
theorem seamK_succ (W : Int) (zs : List Int) (k : Nat) : seamK W zs (k + 1) = (seamK W zs k && stepOk W zs k) := rfl
theorem seamK_no {W : Int} {zs : List Int} {k n : Nat} (h : stepOk W zs k = false) (hk : k < n) : seamK W zs n = false := by
  induction n with
  | zero => omega
  | succ n ih =>
    rw [seamK_succ]
    by_cases e : k = n
    · subst e; rw [h, Bool.and_false]
    · rw [ih (by omega), Bool.false_and]
theorem seamK_at {W : Int} {zs : List Int} {k n : Nat} (h : seamK W zs n = true) (hk : k < n) : stepOk W zs k = true := by
  cases hs : stepOk W zs k
  · rw [seamK_no hs hk] at h; cases h
  · rfl
theorem step_in {W : Int} {zs : List Int} {k : Nat} (h : stepOk W zs k = true) : 0 ≤ sg zs k ∧ sg zs k ≤ W - 1 := by
  simp only [stepOk, Bool.and_eq_true, decide_eq_true_eq] at h
  exact h.1
def seamB (W H : Int) (zP : List Nat) (zS : List Int) : Bool := validB W H zP && decide ((zS.length : Int) = H) && seamK W zS zS.length
/-! ### l00In -/
theorem c_l00In (x lo hi : Int) (w : World) (j : Nat) : Calls Try.prog 84 #[.int .i64 x, .int .i64 lo, .int .i64 hi] (w.drewN j) (RetV (.bool (decide (lo ≤ x) && decide (x ≤ hi))) w) := by
  by_cases h1 : lo ≤ x
  · by_cases h2 : x ≤ hi
    · have d1 : decide (lo ≤ x) = true := decide_eq_true h1
      have d2 : decide (x ≤ hi) = true := decide_eq_true h2
      go_enter Try.func84, Try.ntmps84
      go_wp2
      go_ret
      exact ⟨_, by simp [*], rfl⟩
    · have d1 : decide (lo ≤ x) = true := decide_eq_true h1
      have d2 : decide (x ≤ hi) = false := decide_eq_false h2
      go_enter Try.func84, Try.ntmps84
      go_wp2
      go_ret
      exact ⟨_, by simp [*], rfl⟩
  · have d1 : decide (lo ≤ x) = false := decide_eq_false h1
    go_enter Try.func84, Try.ntmps84
    go_wp2
    go_ret
    exact ⟨_, by simp [*], rfl⟩
/-! ### l02Sides -/
theorem c_l02Sides (W H : Int) (w : World) (j : Nat) : Calls Try.prog 109 #[.int .i64 W, .int .i64 H] (w.drewN j) (RetV (.bool (sideB W H)) w) := by
  unfold sideB
  cases hw : (decide (1 ≤ W) && decide (W ≤ 16))
  all_goals
    have HW := Lib.hid hw
    go_enter Try.func109, Try.ntmps109
    go_wp2_with (go_at_call 84; refine (c_l00In _ _ _ _ _).mono ?_; rintro _ _ ⟨_, rfl, rfl⟩)
    go_ret
    exact ⟨_, by simp [HW.out], rfl⟩
/-! ### l01Finite -/
theorem c_l01Finite (v n : Nat) (w : World) (j : Nat) : Calls Try.prog 114 #[.float .f32 (pick .f32 v n)] (w.drewN j) (RetV (.bool (finB .f32 v)) w) := by
  go_enter Try.func114, Try.ntmps114
  go_wp2_with (first | (refine wpList_fop rfl _ _ _ _ _ rfl _ _ _ rfl rfl (by decide) _ ?_; intro _ _) | (refine upon_fop _ _ _ _ _ (by decide) ?_; intro _ _))
  go_ret
  rw [← sub_self_zero]
  exact ⟨_, rfl, rfl⟩
/-! ### l02Finite -/
theorem c_l02Finite (a : Option Addr) (len cap : Nat) (zs : List Nat) (w : World) (j0 : Nat) (hr : IsRowF .f32 w a len cap zs) : Calls Try.prog 110 #[.slice a len cap] (w.drewN j0) (RetV (.bool (finL zs)) w) := by
  obtain ⟨h1, h2, h3, h4, h5⟩ := hr
  unfold maxLen at h3
  have H1 := Lib.hid h1
  clear h1
  go_enter Try.func110, Try.ntmps110
  go_wp2
  go_loopw [3] (fun i wr => ∃ k m : Nat, k ≤ len ∧ i = .int .i64 k ∧ wr = w.drewN m ∧ finL (zs.take k) = true) (fun i _ => len - (intOf i).toNat)
  case atStart => exact ⟨0, j0, Nat.zero_le _, rfl, rfl, rfl⟩
  case round =>
    obtain ⟨k, m, hk, rfl, rfl, hfin⟩ := hrel
    have HFin := Lib.hid hfin
    clear hfin
    by_cases hlt : k < len
    · rcases h5 with h5 | ⟨b, off, rfl, hbl, hc⟩
      · omega
      have hcell : w.cell? ⟨b, off + k, none⟩ = some (.float .f32 (fat zs k)) := hc k hlt
      obtain ⟨n, hn⟩ := pick0 .f32 (fat zs k) (lt_of_wf (h4 _ (by unfold fat; rw [List.getD, List.getElem?_eq_getElem (by have := H1.out; omega)]; exact List.getElem_mem _)))
      rw [hn] at hcell
      have HN := Lib.hid hn
      have HS := Lib.hid (finL_snoc zs k (by have := H1.out; omega))
      cases hf : finB .f32 (fat zs k)
      · have HO := Lib.hid (finL_of zs k (by have := H1.out; omega) hf)
        clear hc h4 hn
        go_wp2_with ((go_at_call 114; refine (c_l01Finite _ _ _ _).mono ?_; rintro _ _ ⟨_, rfl, rfl⟩))
        go_ret
        exact ⟨_, by rw [HO.out]; rfl, rfl⟩
      · have HF := Lib.hid hf
        clear hc h4 hn
        go_wp2_with ((go_at_call 114; refine (c_l01Finite _ _ _ _).mono ?_; rintro _ _ ⟨_, rfl, rfl⟩))
        go_roundw
        case rel => exact ⟨k + 1, _, by omega, by go_num, rfl, by rw [HS.out, HFin.out, HF.out]; rfl⟩
        case measure => simp [intOf]; omega
    · have e : zs.take k = zs := List.take_of_length_le (by have := H1.out; omega)
      have HE := Lib.hid e
      clear h5 h4 e
      go_wp2
      go_ret
      exact ⟨_, by have h := HFin.out; rw [HE.out] at h; rw [h]; rfl, rfl⟩
/-! ### l02Is -/
theorem c_l02Is (W H : Int) (b : Nat) (a : Option Addr) (len cap : Nat) (zs : List Nat) (w : World) (j0 : Nat) (hv : Var w b #[.int .i64 W, .int .i64 H, .slice a len cap]) (hr : IsRowF .f32 w a len cap zs) :
    Calls Try.prog 61 #[.pointer (some ⟨b, 0, none⟩)] (w.drewN j0) (RetV (.bool (validB W H zs)) w) := by
  obtain ⟨p0, p1, p2⟩ := hv.three
  have H1 := Lib.hid hr.1
  have HR := Lib.hid hr
  clear hr hv
  cases hs : sideB W H
  · have e : validB W H zs = false := by simp [validB, hs]
    have E := Lib.hid e
    have C1 := Lib.hid (fun n => (by have h := c_l02Sides W H w n; rwa [hs] at h : Calls Try.prog 109 #[.int .i64 W, .int .i64 H] (w.drewN n) (RetV (.bool false) w)))
    clear e hs
    go_enter Try.func61, Try.ntmps61
    go_wp2
    refine wp_region_N (fun f _ u => (f = 109 → u = .bool false)) (by kernel_rfl) (by kernel_rfl) ?_; (repeat (first | ((with_reducible show wpN _ _ _ _ _ (Oper.mk _ (Op.binOp _ _ _ _ _) _ _ _ none :: _) _); refine wpN_fop rfl _ _ _ _ _ rfl _ _ _ rfl rfl (by decide) ?_; intro _) | ((with_reducible show wpN _ _ _ _ _ (Oper.mk _ (Op.convert _ _ _) _ _ _ none :: _) _); refine wpN_cvU rfl 38 42 _ rfl (Option.isSome_iff_exists.2 ⟨_, Try.underlying38⟩) Try.underlying42 _ rfl ?_; intro _) | ((with_reducible show wpN _ _ _ _ _ (Oper.mk _ _ _ _ _ (some _) :: _) _); (with_reducible refine wpN_off ?_ ?_); focus rfl; (simp only [Act.put, List.setIfInBounds_toArray, List.set_cons_zero, List.set_cons_succ])) | ((with_reducible show wpN _ _ _ _ _ (Oper.mk _ _ _ _ _ (some _) :: _) _); ((with_reducible refine wpN_on ?_ (fun K hK => ?_)); (focus rfl); intro _; go_simp; first | (refine uponN_value (hK _ ?_)) | ((refine uponN_call (callN (v := .bool false) (fun _ => rfl) (C1.out _)) ?_; intro u hu; obtain rfl : u = _ := hu rfl; clear hu); refine hK _ ?_)); clear hK K) | (((with_reducible refine wpN_plain rfl (fun K hK => ?_)); intro _; go_simp; first | (refine uponN_value (hK _ ?_)) | ((refine uponN_call (callN (v := .bool false) (fun _ => rfl) (C1.out _)) ?_; intro u hu; obtain rfl : u = _ := hu rfl; clear hu); refine hK _ ?_)); clear hK K) | ((with_reducible refine wpN_step (fun K hK => ?_)); go_simp; first | (refine hK _ ?_) | (intro _; first | (refine uponN_value (hK _ ?_)) | ((refine uponN_call (callN (v := .bool false) (fun _ => rfl) (C1.out _)) ?_; intro u hu; obtain rfl : u = _ := hu rfl; clear hu); refine hK _ ?_)); clear hK K))); refine wpN_nil ?_; intro _
    go_wp2
    go_ret
    exact ⟨_, by rw [E.out]; rfl, rfl⟩
  · obtain ⟨m1, m2⟩ := side_mul hs
    have mw : IntKind.i64.wrap (W * H) = W * H := IntWalk.i64_in _ (by omega)
    have C1 := Lib.hid (fun n => (by have h := c_l02Sides W H w n; rwa [hs] at h : Calls Try.prog 109 #[.int .i64 W, .int .i64 H] (w.drewN n) (RetV (.bool true) w)))
    have C2 := Lib.hid (fun n => c_l02Finite a len cap zs w n HR.out)
    by_cases hl : (len : Int) = W * H
    · have hd : ((len : Int) == W * H) = true := by simpa using hl
      have e : validB W H zs = finL zs := by simp [validB, hs, H1.out, hl]
      have E := Lib.hid e
      have HL := Lib.hid hl
      clear e hs hl
      go_enter Try.func61, Try.ntmps61
      go_wp2
      refine wp_region_N (fun f _ u => (f = 109 → u = .bool true) ∧ (f = 110 → u = .bool (finL zs))) (by kernel_rfl) (by kernel_rfl) ?_; (repeat (first | ((with_reducible show wpN _ _ _ _ _ (Oper.mk _ (Op.binOp _ _ _ _ _) _ _ _ none :: _) _); refine wpN_fop rfl _ _ _ _ _ rfl _ _ _ rfl rfl (by decide) ?_; intro _) | ((with_reducible show wpN _ _ _ _ _ (Oper.mk _ (Op.convert _ _ _) _ _ _ none :: _) _); refine wpN_cvU rfl 38 42 _ rfl (Option.isSome_iff_exists.2 ⟨_, Try.underlying38⟩) Try.underlying42 _ rfl ?_; intro _) | ((with_reducible show wpN _ _ _ _ _ (Oper.mk _ _ _ _ _ (some _) :: _) _); (with_reducible refine wpN_off ?_ ?_); focus rfl; (simp only [Act.put, List.setIfInBounds_toArray, List.set_cons_zero, List.set_cons_succ])) | ((with_reducible show wpN _ _ _ _ _ (Oper.mk _ _ _ _ _ (some _) :: _) _); ((with_reducible refine wpN_on ?_ (fun K hK => ?_)); (focus rfl); intro _; go_simp; first | (refine uponN_value (hK _ ?_)) | ((first | (refine uponN_call (callN (v := .bool true) ⟨fun _ => rfl, fun h => absurd h (by decide)⟩ (C1.out _)) ?_; intro u hu; obtain rfl : u = _ := hu.1 rfl; clear hu) | (refine uponN_call (callN (v := .bool (finL zs)) ⟨fun h => absurd h (by decide), fun _ => rfl⟩ (C2.out _)) ?_; intro u hu; obtain rfl : u = _ := hu.2 rfl; clear hu)); refine hK _ ?_)); clear hK K) | (((with_reducible refine wpN_plain rfl (fun K hK => ?_)); intro _; go_simp; first | (refine uponN_value (hK _ ?_)) | ((first | (refine uponN_call (callN (v := .bool true) ⟨fun _ => rfl, fun h => absurd h (by decide)⟩ (C1.out _)) ?_; intro u hu; obtain rfl : u = _ := hu.1 rfl; clear hu) | (refine uponN_call (callN (v := .bool (finL zs)) ⟨fun h => absurd h (by decide), fun _ => rfl⟩ (C2.out _)) ?_; intro u hu; obtain rfl : u = _ := hu.2 rfl; clear hu)); refine hK _ ?_)); clear hK K) | ((with_reducible refine wpN_step (fun K hK => ?_)); go_simp; first | (refine hK _ ?_) | (intro _; first | (refine uponN_value (hK _ ?_)) | ((first | (refine uponN_call (callN (v := .bool true) ⟨fun _ => rfl, fun h => absurd h (by decide)⟩ (C1.out _)) ?_; intro u hu; obtain rfl : u = _ := hu.1 rfl; clear hu) | (refine uponN_call (callN (v := .bool (finL zs)) ⟨fun h => absurd h (by decide), fun _ => rfl⟩ (C2.out _)) ?_; intro u hu; obtain rfl : u = _ := hu.2 rfl; clear hu)); refine hK _ ?_)); clear hK K))); refine wpN_nil ?_; intro _
      go_wp2
      go_ret
      exact ⟨_, by rw [E.out]; rfl, rfl⟩
    · have hd : ((len : Int) == W * H) = false := by simpa using hl
      have e : validB W H zs = false := by simp [validB, hs, H1.out, hl]
      have E := Lib.hid e
      clear e hs hl
      go_enter Try.func61, Try.ntmps61
      go_wp2
      refine wp_region_N (fun f _ u => (f = 109 → u = .bool true)) (by kernel_rfl) (by kernel_rfl) ?_; (repeat (first | ((with_reducible show wpN _ _ _ _ _ (Oper.mk _ (Op.binOp _ _ _ _ _) _ _ _ none :: _) _); refine wpN_fop rfl _ _ _ _ _ rfl _ _ _ rfl rfl (by decide) ?_; intro _) | ((with_reducible show wpN _ _ _ _ _ (Oper.mk _ (Op.convert _ _ _) _ _ _ none :: _) _); refine wpN_cvU rfl 38 42 _ rfl (Option.isSome_iff_exists.2 ⟨_, Try.underlying38⟩) Try.underlying42 _ rfl ?_; intro _) | ((with_reducible show wpN _ _ _ _ _ (Oper.mk _ _ _ _ _ (some _) :: _) _); (with_reducible refine wpN_off ?_ ?_); focus rfl; (simp only [Act.put, List.setIfInBounds_toArray, List.set_cons_zero, List.set_cons_succ])) | ((with_reducible show wpN _ _ _ _ _ (Oper.mk _ _ _ _ _ (some _) :: _) _); ((with_reducible refine wpN_on ?_ (fun K hK => ?_)); (focus rfl); intro _; go_simp; first | (refine uponN_value (hK _ ?_)) | ((refine uponN_call (callN (v := .bool true) (fun _ => rfl) (C1.out _)) ?_; intro u hu; obtain rfl : u = _ := hu rfl; clear hu); refine hK _ ?_)); clear hK K) | (((with_reducible refine wpN_plain rfl (fun K hK => ?_)); intro _; go_simp; first | (refine uponN_value (hK _ ?_)) | ((refine uponN_call (callN (v := .bool true) (fun _ => rfl) (C1.out _)) ?_; intro u hu; obtain rfl : u = _ := hu rfl; clear hu); refine hK _ ?_)); clear hK K) | ((with_reducible refine wpN_step (fun K hK => ?_)); go_simp; first | (refine hK _ ?_) | (intro _; first | (refine uponN_value (hK _ ?_)) | ((refine uponN_call (callN (v := .bool true) (fun _ => rfl) (C1.out _)) ?_; intro u hu; obtain rfl : u = _ := hu rfl; clear hu); refine hK _ ?_)); clear hK K))); refine wpN_nil ?_; intro _
      go_wp2
      go_ret
      exact ⟨_, by rw [E.out]; rfl, rfl⟩
/-! ### l07IsSeam -/
theorem c_l07Is (W H : Int) (zP : List Nat) (x : Nat) (aP : Option Addr) (cP : Nat) (zS : List Int) (N : Nat) (hN : zS.length = N) (aS : Option Addr) (cS : Nat) (w : World) (vx : Var w x #[.int .i64 W, .int .i64 H, .slice aP zP.length cP]) (rP : IsRowF .f32 w aP zP.length cP zP) (rS : IsRow .i64 w aS N cS zS) : Calls Try.prog 70 #[.pointer (some ⟨x, 0, none⟩), .slice aS N cS] w (RetB (.bool (seamB W H zP zS)) w) := by
  have CI := Lib.hid (fun j => c_l02Is W H x aP _ cP zP w j vx rP)
  have VX := Lib.hid vx
  have RS := Lib.hid rS
  have HNs := Lib.hid hN
  have hcm : N ≤ maxLen := Nat.le_trans rS.2.1 rS.2.2.1
  unfold maxLen at hcm
  obtain ⟨p0, p1, p2⟩ := vx.three
  unfold seamB
  rw [hN]
  clear hN vx rP rS
  cases hv : validB W H zP
  · rw [hv] at CI
    clear hv
    rw [Bool.false_and, Bool.false_and]
    rw [← w.drewN_zero]
    go_enter Try.func70, Try.ntmps70
    go_wp2_with (go_at_call 61; refine (CI.out _).mono ?_; rintro _ _ ⟨_, rfl, rfl⟩)
    go_ret
    exact ⟨rfl, below_drewN (Below.refl _ _) _⟩
  rw [hv] at CI
  have hsb : sideB W H = true := by have h := hv; simp only [validB, Bool.and_eq_true] at h; exact h.1.1
  obtain ⟨⟨s1, s2⟩, s3, s4⟩ := sideB_true hsb
  clear hv hsb
  by_cases hH : (N : Int) = H
  · rw [decide_eq_true hH, Bool.true_and, Bool.true_and]
    subst hH
    obtain ⟨res, hres⟩ : ∃ r, r = seamK W zS N := ⟨_, rfl⟩
    have HRes := Lib.hid hres
    rw [← hres]
    clear hres
    have mW : IntKind.i64.wrap (W - 1) = W - 1 := IntWalk.i64_in _ (by omega)
    rw [← w.drewN_zero]
    go_enter Try.func70, Try.ntmps70
    go_upto_region 3 with (go_at_call 61; refine (CI.out _).mono ?_; rintro _ _ ⟨_, rfl, rfl⟩)
    rw [w.drewN_zero]
    generalize hw1 : World.drewN w _ = w1
    have B1 : Below w.heap.size w w1 := by subst hw1; exact below_drewN (Below.refl _ _) _
    have HB1 := Lib.hid B1
    have V1 := Lib.hid (VX.out.keep B1)
    have R1 := Lib.hid (RS.out.below B1)
    clear hw1 B1 p0 p1 p2
    go_wp2_with fail
    go_loopw [5, 20] (fun _ i wr => ∃ k : Nat, k ≤ N ∧ i = .int .i64 k ∧ seamK W zS k = true ∧ Below w1.heap.size w1 wr) (fun _ i _ => N - (intOf i).toNat)
    case atStart => exact ⟨0, Nat.zero_le _, rfl, rfl, Below.refl _ _⟩
    case round =>
      obtain ⟨k, hk, rfl, hsk, hB⟩ := hrel
      have HB := Lib.hid hB
      have HSK := Lib.hid hsk
      have BW := Lib.hid (HB1.out.trans (hB.mono HB1.out.size))
      clear hB hsk
      by_cases hlt : k < N
      · obtain ⟨bS, oS, haS, gS, eS⟩ := (R1.out.below HB.out).at hlt
        subst haS
        have VXr := Lib.hid (V1.out.keep HB.out)
        have RSr := Lib.hid (R1.out.below HB.out)
        obtain ⟨s, hs⟩ : ∃ s, s = sg zS k := ⟨_, rfl⟩
        replace eS : wr.cell? ⟨bS, oS + k, none⟩ = some (.int .i64 s) := by rw [hs]; exact eS
        have CN := fun (w' : World) => (by have h := c_l00In s 0 (W - 1) w' 0; rwa [w'.drewN_zero] at h : Calls Try.prog 84 #[.int .i64 s, .int .i64 0, .int .i64 (W - 1)] w' (RetV (.bool (decide (0 ≤ s) && decide (s ≤ W - 1))) w'))
        cases hin : (decide (0 ≤ s) && decide (s ≤ W - 1))
        · have HNo := Lib.hid (show res = false by rw [HRes.out]; exact seamK_no (k := k) (by unfold stepOk; rw [← hs, hin, Bool.false_and]) hlt)
          rw [hin] at CN
          have CN := Lib.hid CN
          have KS := Lib.hid (fun (w' : World) (hE : Below wr.heap.size wr w') => (⟨(VXr.out.keep hE).three.1, (VXr.out.keep hE).three.2.1, (VXr.out.keep hE).three.2.2, (hE.cell (p := ⟨bS, oS + k, none⟩) gS).trans eS⟩ : _ ∧ _ ∧ _ ∧ _))
          clear hin hs eS
          go_upto_region 6 with fail
          refine wp_region_facts 41 (fun a b => Below a.heap.size a b) (fun _ => Below.refl _ _) (fun _ _ _ h h' => h.trans (h'.mono h.size)) (Below.refl _ _).drew (by kernel_rfl) (by kernel_rfl) (by kernel_rfl) (by kernel_rfl) ?_
          simp only [List.take_succ_cons, List.take_zero, List.drop_succ_cons, List.drop_zero]
          (with_reducible apply wpF_val); (focus (intro vs w' hE hk; (obtain ⟨d0, d1, d2, es⟩ := KS.out w' hE); go_simp; exact ⟨Below.refl _ _, rfl⟩)); (simp only [Act.put, List.setIfInBounds_toArray, List.set_cons_zero, List.set_cons_succ, List.cons_append, List.nil_append])
          (with_reducible apply wpF_val); (focus (intro vs w' hE hk; (obtain ⟨d0, d1, d2, es⟩ := KS.out w' hE); go_simp; exact ⟨Below.refl _ _, rfl⟩)); (simp only [Act.put, List.setIfInBounds_toArray, List.set_cons_zero, List.set_cons_succ, List.cons_append, List.nil_append])
          (with_reducible apply wpF_val); (focus (intro vs w' hE hk; (obtain ⟨d0, d1, d2, es⟩ := KS.out w' hE); go_simp; exact ⟨Below.refl _ _, rfl⟩)); (simp only [Act.put, List.setIfInBounds_toArray, List.set_cons_zero, List.set_cons_succ, List.cons_append, List.nil_append])
          (with_reducible apply wpF_val); (focus (intro vs w' hE hk; (obtain ⟨d0, d1, d2, es⟩ := KS.out w' hE); go_simp; exact ⟨Below.refl _ _, rfl⟩)); (simp only [Act.put, List.setIfInBounds_toArray, List.set_cons_zero, List.set_cons_succ, List.cons_append, List.nil_append])
          (with_reducible apply wpF_val); (focus (intro vs w' hE hk; (obtain ⟨d0, d1, d2, es⟩ := KS.out w' hE); go_simp; exact ⟨Below.refl _ _, rfl⟩)); (simp only [Act.put, List.setIfInBounds_toArray, List.set_cons_zero, List.set_cons_succ, List.cons_append, List.nil_append])
          (with_reducible apply wpF_val); (focus (intro vs w' hE hk; (obtain ⟨d0, d1, d2, es⟩ := KS.out w' hE); go_simp; exact ⟨Below.refl _ _, rfl⟩)); (simp only [Act.put, List.setIfInBounds_toArray, List.set_cons_zero, List.set_cons_succ, List.cons_append, List.nil_append])
          (with_reducible apply wpF_val); (focus (intro vs w' hE hk; (obtain ⟨d0, d1, d2, es⟩ := KS.out w' hE); go_simp; exact ⟨Below.refl _ _, rfl⟩)); (simp only [Act.put, List.setIfInBounds_toArray, List.set_cons_zero, List.set_cons_succ, List.cons_append, List.nil_append])
          (with_reducible apply wpF_val); (focus (intro vs w' hE hk; (obtain ⟨d0, d1, d2, es⟩ := KS.out w' hE); go_simp; exact ⟨Below.refl _ _, rfl⟩)); (simp only [Act.put, List.setIfInBounds_toArray, List.set_cons_zero, List.set_cons_succ, List.cons_append, List.nil_append])
          (with_reducible apply wpF_val); (focus (intro vs w' hE hk; (obtain ⟨d0, d1, d2, es⟩ := KS.out w' hE); go_simp; exact ⟨Below.refl _ _, rfl⟩)); (simp only [Act.put, List.setIfInBounds_toArray, List.set_cons_zero, List.set_cons_succ, List.cons_append, List.nil_append])
          (with_reducible apply wpF_val); (focus (intro vs w' hE hk; (obtain ⟨d0, d1, d2, es⟩ := KS.out w' hE); go_simp; refine ((CN.out w').mono (fun _ _ h => RetV.toB h)).mono ?_; rintro _ w9 ⟨rfl, b⟩; exact ⟨_, rfl, b, rfl⟩)); (simp only [Act.put, List.setIfInBounds_toArray, List.set_cons_zero, List.set_cons_succ, List.cons_append, List.nil_append])
          (with_reducible apply wpF_val); (focus (intro vs w' hE hk; (obtain ⟨d0, d1, d2, es⟩ := KS.out w' hE); go_simp; exact ⟨Below.refl _ _, rfl⟩)); (simp only [Act.put, List.setIfInBounds_toArray, List.set_cons_zero, List.set_cons_succ, List.cons_append, List.nil_append])
          (with_reducible apply wpF_val); (focus (intro vs w' hE hk; (obtain ⟨d0, d1, d2, es⟩ := KS.out w' hE); go_simp; exact ⟨Below.refl _ _, rfl⟩)); (simp only [Act.put, List.setIfInBounds_toArray, List.set_cons_zero, List.set_cons_succ, List.cons_append, List.nil_append])
          (with_reducible apply wpF_val); (focus (intro vs w' hE hk; (obtain ⟨d0, d1, d2, es⟩ := KS.out w' hE); go_simp; rfl)); (simp only [Act.put, List.setIfInBounds_toArray, List.set_cons_zero, List.set_cons_succ, List.cons_append, List.nil_append])
          (with_reducible apply wpF_val); (focus (intro vs w' hE hk; (obtain ⟨d0, d1, d2, es⟩ := KS.out w' hE); go_simp; rfl)); (simp only [Act.put, List.setIfInBounds_toArray, List.set_cons_zero, List.set_cons_succ, List.cons_append, List.nil_append])
          (with_reducible apply wpF_val); (focus (intro vs w' hE hk; (obtain ⟨d0, d1, d2, es⟩ := KS.out w' hE); go_simp; rfl)); (simp only [Act.put, List.setIfInBounds_toArray, List.set_cons_zero, List.set_cons_succ, List.cons_append, List.nil_append])
          (with_reducible apply wpF_val); (focus (intro vs w' hE hk; (obtain ⟨d0, d1, d2, es⟩ := KS.out w' hE); go_simp; rfl)); (simp only [Act.put, List.setIfInBounds_toArray, List.set_cons_zero, List.set_cons_succ, List.cons_append, List.nil_append])
          (with_reducible apply wpF_val); (focus (intro vs w' hE hk; (obtain ⟨d0, d1, d2, es⟩ := KS.out w' hE); go_simp; rfl)); (simp only [Act.put, List.setIfInBounds_toArray, List.set_cons_zero, List.set_cons_succ, List.cons_append, List.nil_append])
          (with_reducible apply wpF_val); (focus (intro vs w' hE hk; (obtain ⟨d0, d1, d2, es⟩ := KS.out w' hE); go_simp; rfl)); (simp only [Act.put, List.setIfInBounds_toArray, List.set_cons_zero, List.set_cons_succ, List.cons_append, List.nil_append])
          (with_reducible apply wpF_val); (focus (intro vs w' hE hk; (obtain ⟨d0, d1, d2, es⟩ := KS.out w' hE); go_simp; rfl)); (simp only [Act.put, List.setIfInBounds_toArray, List.set_cons_zero, List.set_cons_succ, List.cons_append, List.nil_append])
          (with_reducible apply wpF_val); (focus (intro vs w' hE hk; (obtain ⟨d0, d1, d2, es⟩ := KS.out w' hE); go_simp; rfl)); (simp only [Act.put, List.setIfInBounds_toArray, List.set_cons_zero, List.set_cons_succ, List.cons_append, List.nil_append])
          (with_reducible apply wpF_val); (focus (intro vs w' hE hk; (obtain ⟨d0, d1, d2, es⟩ := KS.out w' hE); go_simp; rfl)); (simp only [Act.put, List.setIfInBounds_toArray, List.set_cons_zero, List.set_cons_succ, List.cons_append, List.nil_append])
          (with_reducible apply wpF_val); (focus (intro vs w' hE hk; (obtain ⟨d0, d1, d2, es⟩ := KS.out w' hE); go_simp; rfl)); (simp only [Act.put, List.setIfInBounds_toArray, List.set_cons_zero, List.set_cons_succ, List.cons_append, List.nil_append])
          (with_reducible apply wpF_val); (focus (intro vs w' hE hk; (obtain ⟨d0, d1, d2, es⟩ := KS.out w' hE); go_simp; rfl)); (simp only [Act.put, List.setIfInBounds_toArray, List.set_cons_zero, List.set_cons_succ, List.cons_append, List.nil_append])
          (with_reducible apply wpF_val); (focus (intro vs w' hE hk; (obtain ⟨d0, d1, d2, es⟩ := KS.out w' hE); go_simp; rfl)); (simp only [Act.put, List.setIfInBounds_toArray, List.set_cons_zero, List.set_cons_succ, List.cons_append, List.nil_append])
          (with_reducible apply wpF_val); (focus (intro vs w' hE hk; (obtain ⟨d0, d1, d2, es⟩ := KS.out w' hE); go_simp; rfl)); (simp only [Act.put, List.setIfInBounds_toArray, List.set_cons_zero, List.set_cons_succ, List.cons_append, List.nil_append])
          (with_reducible apply wpF_val); (focus (intro vs w' hE hk; (obtain ⟨d0, d1, d2, es⟩ := KS.out w' hE); go_simp; rfl)); (simp only [Act.put, List.setIfInBounds_toArray, List.set_cons_zero, List.set_cons_succ, List.cons_append, List.nil_append])
          (with_reducible apply wpF_val); (focus (intro vs w' hE hk; (obtain ⟨d0, d1, d2, es⟩ := KS.out w' hE); go_simp; rfl)); (simp only [Act.put, List.setIfInBounds_toArray, List.set_cons_zero, List.set_cons_succ, List.cons_append, List.nil_append])
          (with_reducible apply wpF_val); (focus (intro vs w' hE hk; (obtain ⟨d0, d1, d2, es⟩ := KS.out w' hE); go_simp; rfl)); (simp only [Act.put, List.setIfInBounds_toArray, List.set_cons_zero, List.set_cons_succ, List.cons_append, List.nil_append])
          (with_reducible apply wpF_val); (focus (intro vs w' hE hk; (obtain ⟨d0, d1, d2, es⟩ := KS.out w' hE); go_simp; rfl)); (simp only [Act.put, List.setIfInBounds_toArray, List.set_cons_zero, List.set_cons_succ, List.cons_append, List.nil_append])
          (with_reducible apply wpF_val); (focus (intro vs w' hE hk; (obtain ⟨d0, d1, d2, es⟩ := KS.out w' hE); go_simp; rfl)); (simp only [Act.put, List.setIfInBounds_toArray, List.set_cons_zero, List.set_cons_succ, List.cons_append, List.nil_append])
          (with_reducible apply wpF_val); (focus (intro vs w' hE hk; (obtain ⟨d0, d1, d2, es⟩ := KS.out w' hE); go_simp; rfl)); (simp only [Act.put, List.setIfInBounds_toArray, List.set_cons_zero, List.set_cons_succ, List.cons_append, List.nil_append])
          (with_reducible apply wpF_val); (focus (intro vs w' hE hk; (obtain ⟨d0, d1, d2, es⟩ := KS.out w' hE); go_simp; rfl)); (simp only [Act.put, List.setIfInBounds_toArray, List.set_cons_zero, List.set_cons_succ, List.cons_append, List.nil_append])
          (with_reducible apply wpF_val); (focus (intro vs w' hE hk; (obtain ⟨d0, d1, d2, es⟩ := KS.out w' hE); go_simp; rfl)); (simp only [Act.put, List.setIfInBounds_toArray, List.set_cons_zero, List.set_cons_succ, List.cons_append, List.nil_append])
          (with_reducible apply wpF_val); (focus (intro vs w' hE hk; (obtain ⟨d0, d1, d2, es⟩ := KS.out w' hE); go_simp; rfl)); (simp only [Act.put, List.setIfInBounds_toArray, List.set_cons_zero, List.set_cons_succ, List.cons_append, List.nil_append])
          (with_reducible apply wpF_val); (focus (intro vs w' hE hk; (obtain ⟨d0, d1, d2, es⟩ := KS.out w' hE); go_simp; rfl)); (simp only [Act.put, List.setIfInBounds_toArray, List.set_cons_zero, List.set_cons_succ, List.cons_append, List.nil_append])
          (with_reducible apply wpF_val); (focus (intro vs w' hE hk; (obtain ⟨d0, d1, d2, es⟩ := KS.out w' hE); go_simp; rfl)); (simp only [Act.put, List.setIfInBounds_toArray, List.set_cons_zero, List.set_cons_succ, List.cons_append, List.nil_append])
          (with_reducible apply wpF_val); (focus (intro vs w' hE hk; (obtain ⟨d0, d1, d2, es⟩ := KS.out w' hE); go_simp; rfl)); (simp only [Act.put, List.setIfInBounds_toArray, List.set_cons_zero, List.set_cons_succ, List.cons_append, List.nil_append])
          (with_reducible apply wpF_val); (focus (intro vs w' hE hk; (obtain ⟨d0, d1, d2, es⟩ := KS.out w' hE); go_simp; rfl)); (simp only [Act.put, List.setIfInBounds_toArray, List.set_cons_zero, List.set_cons_succ, List.cons_append, List.nil_append])
          (with_reducible apply wpF_val); (focus (intro vs w' hE hk; (obtain ⟨d0, d1, d2, es⟩ := KS.out w' hE); go_simp; rfl)); (simp only [Act.put, List.setIfInBounds_toArray, List.set_cons_zero, List.set_cons_succ, List.cons_append, List.nil_append])
          (with_reducible apply wpF_val); (focus (intro vs w' hE hk; (obtain ⟨d0, d1, d2, es⟩ := KS.out w' hE); go_simp; rfl)); (simp only [Act.put, List.setIfInBounds_toArray, List.set_cons_zero, List.set_cons_succ, List.cons_append, List.nil_append])
          (with_reducible apply wpF_val); (focus (intro vs w' hE hk; (obtain ⟨d0, d1, d2, es⟩ := KS.out w' hE); go_simp; exact ⟨Below.refl _ _, rfl⟩)); (simp only [Act.put, List.setIfInBounds_toArray, List.set_cons_zero, List.set_cons_succ, List.cons_append, List.nil_append])
          refine wpF_nil (fun vs w5 hE hk => ?_)
          have B5 := Lib.hid (BW.out.trans (hE.mono BW.out.size))
          have B6 := Lib.hid (HB.out.trans (hE.mono HB.out.size))
          clear hE hk KS
          go_wp2_with fail
          go_ret
          exact ⟨by rw [HNo.out] <;> rfl, B5.out⟩
        · have h1 : 0 ≤ s := by simp only [Bool.and_eq_true, decide_eq_true_eq] at hin; exact hin.1
          have h2 : s ≤ W - 1 := by simp only [Bool.and_eq_true, decide_eq_true_eq] at hin; exact hin.2
          rw [hin] at CN
          have CN := Lib.hid CN
          by_cases hk0 : k = 0
          · subst hk0
            have HSt := Lib.hid (show stepOk W zS 0 = true by unfold stepOk; rw [← hs, hin]; simp)
            rw [Nat.add_zero] at eS
            have KS := Lib.hid (fun (w' : World) (hE : Below wr.heap.size wr w') => (⟨(VXr.out.keep hE).three.1, (VXr.out.keep hE).three.2.1, (VXr.out.keep hE).three.2.2, (hE.cell (p := ⟨bS, oS, none⟩) gS).trans eS⟩ : _ ∧ _ ∧ _ ∧ _))
            clear hin hs eS
            go_upto_region 6 with fail
            refine wp_region_facts 41 (fun a b => Below a.heap.size a b) (fun _ => Below.refl _ _) (fun _ _ _ h h' => h.trans (h'.mono h.size)) (Below.refl _ _).drew (by kernel_rfl) (by kernel_rfl) (by kernel_rfl) (by kernel_rfl) ?_
            simp only [List.take_succ_cons, List.take_zero, List.drop_succ_cons, List.drop_zero]
            (with_reducible apply wpF_val); (focus (intro vs w' hE hk; (obtain ⟨d0, d1, d2, es⟩ := KS.out w' hE); go_simp; exact ⟨Below.refl _ _, rfl⟩)); (simp only [Act.put, List.setIfInBounds_toArray, List.set_cons_zero, List.set_cons_succ, List.cons_append, List.nil_append])
            (with_reducible apply wpF_val); (focus (intro vs w' hE hk; (obtain ⟨d0, d1, d2, es⟩ := KS.out w' hE); go_simp; exact ⟨Below.refl _ _, rfl⟩)); (simp only [Act.put, List.setIfInBounds_toArray, List.set_cons_zero, List.set_cons_succ, List.cons_append, List.nil_append])
            (with_reducible apply wpF_val); (focus (intro vs w' hE hk; (obtain ⟨d0, d1, d2, es⟩ := KS.out w' hE); go_simp; exact ⟨Below.refl _ _, rfl⟩)); (simp only [Act.put, List.setIfInBounds_toArray, List.set_cons_zero, List.set_cons_succ, List.cons_append, List.nil_append])
            (with_reducible apply wpF_val); (focus (intro vs w' hE hk; (obtain ⟨d0, d1, d2, es⟩ := KS.out w' hE); go_simp; exact ⟨Below.refl _ _, rfl⟩)); (simp only [Act.put, List.setIfInBounds_toArray, List.set_cons_zero, List.set_cons_succ, List.cons_append, List.nil_append])
            (with_reducible apply wpF_val); (focus (intro vs w' hE hk; (obtain ⟨d0, d1, d2, es⟩ := KS.out w' hE); go_simp; exact ⟨Below.refl _ _, rfl⟩)); (simp only [Act.put, List.setIfInBounds_toArray, List.set_cons_zero, List.set_cons_succ, List.cons_append, List.nil_append])
            (with_reducible apply wpF_val); (focus (intro vs w' hE hk; (obtain ⟨d0, d1, d2, es⟩ := KS.out w' hE); go_simp; exact ⟨Below.refl _ _, rfl⟩)); (simp only [Act.put, List.setIfInBounds_toArray, List.set_cons_zero, List.set_cons_succ, List.cons_append, List.nil_append])
            (with_reducible apply wpF_val); (focus (intro vs w' hE hk; (obtain ⟨d0, d1, d2, es⟩ := KS.out w' hE); go_simp; exact ⟨Below.refl _ _, rfl⟩)); (simp only [Act.put, List.setIfInBounds_toArray, List.set_cons_zero, List.set_cons_succ, List.cons_append, List.nil_append])
            (with_reducible apply wpF_val); (focus (intro vs w' hE hk; (obtain ⟨d0, d1, d2, es⟩ := KS.out w' hE); go_simp; exact ⟨Below.refl _ _, rfl⟩)); (simp only [Act.put, List.setIfInBounds_toArray, List.set_cons_zero, List.set_cons_succ, List.cons_append, List.nil_append])
            (with_reducible apply wpF_val); (focus (intro vs w' hE hk; (obtain ⟨d0, d1, d2, es⟩ := KS.out w' hE); go_simp; exact ⟨Below.refl _ _, rfl⟩)); (simp only [Act.put, List.setIfInBounds_toArray, List.set_cons_zero, List.set_cons_succ, List.cons_append, List.nil_append])
            (with_reducible apply wpF_val); (focus (intro vs w' hE hk; (obtain ⟨d0, d1, d2, es⟩ := KS.out w' hE); go_simp; refine ((CN.out w').mono (fun _ _ h => RetV.toB h)).mono ?_; rintro _ w9 ⟨rfl, b⟩; exact ⟨_, rfl, b, rfl⟩)); (simp only [Act.put, List.setIfInBounds_toArray, List.set_cons_zero, List.set_cons_succ, List.cons_append, List.nil_append])
            (with_reducible apply wpF_val); (focus (intro vs w' hE hk; (obtain ⟨d0, d1, d2, es⟩ := KS.out w' hE); go_simp; exact ⟨Below.refl _ _, rfl⟩)); (simp only [Act.put, List.setIfInBounds_toArray, List.set_cons_zero, List.set_cons_succ, List.cons_append, List.nil_append])
            (with_reducible apply wpF_val); (focus (intro vs w' hE hk; (obtain ⟨d0, d1, d2, es⟩ := KS.out w' hE); go_simp; exact ⟨Below.refl _ _, rfl⟩)); (simp only [Act.put, List.setIfInBounds_toArray, List.set_cons_zero, List.set_cons_succ, List.cons_append, List.nil_append])
            (with_reducible apply wpF_val); (focus (intro vs w' hE hk; (obtain ⟨d0, d1, d2, es⟩ := KS.out w' hE); go_simp; exact ⟨Below.refl _ _, rfl⟩)); (simp only [Act.put, List.setIfInBounds_toArray, List.set_cons_zero, List.set_cons_succ, List.cons_append, List.nil_append])
            (with_reducible apply wpF_val); (focus (intro vs w' hE hk; (obtain ⟨d0, d1, d2, es⟩ := KS.out w' hE); go_simp; exact ⟨Below.refl _ _, rfl⟩)); (simp only [Act.put, List.setIfInBounds_toArray, List.set_cons_zero, List.set_cons_succ, List.cons_append, List.nil_append])
            (with_reducible apply wpF_val); (focus (intro vs w' hE hk; (obtain ⟨d0, d1, d2, es⟩ := KS.out w' hE); go_simp; exact ⟨Below.refl _ _, rfl⟩)); (simp only [Act.put, List.setIfInBounds_toArray, List.set_cons_zero, List.set_cons_succ, List.cons_append, List.nil_append])
            (with_reducible apply wpF_val); (focus (intro vs w' hE hk; (obtain ⟨d0, d1, d2, es⟩ := KS.out w' hE); go_simp; rfl)); (simp only [Act.put, List.setIfInBounds_toArray, List.set_cons_zero, List.set_cons_succ, List.cons_append, List.nil_append])
            (with_reducible apply wpF_val); (focus (intro vs w' hE hk; (obtain ⟨d0, d1, d2, es⟩ := KS.out w' hE); go_simp; rfl)); (simp only [Act.put, List.setIfInBounds_toArray, List.set_cons_zero, List.set_cons_succ, List.cons_append, List.nil_append])
            (with_reducible apply wpF_val); (focus (intro vs w' hE hk; (obtain ⟨d0, d1, d2, es⟩ := KS.out w' hE); go_simp; rfl)); (simp only [Act.put, List.setIfInBounds_toArray, List.set_cons_zero, List.set_cons_succ, List.cons_append, List.nil_append])
            (with_reducible apply wpF_val); (focus (intro vs w' hE hk; (obtain ⟨d0, d1, d2, es⟩ := KS.out w' hE); go_simp; rfl)); (simp only [Act.put, List.setIfInBounds_toArray, List.set_cons_zero, List.set_cons_succ, List.cons_append, List.nil_append])
            (with_reducible apply wpF_val); (focus (intro vs w' hE hk; (obtain ⟨d0, d1, d2, es⟩ := KS.out w' hE); go_simp; rfl)); (simp only [Act.put, List.setIfInBounds_toArray, List.set_cons_zero, List.set_cons_succ, List.cons_append, List.nil_append])
            (with_reducible apply wpF_val); (focus (intro vs w' hE hk; (obtain ⟨d0, d1, d2, es⟩ := KS.out w' hE); go_simp; rfl)); (simp only [Act.put, List.setIfInBounds_toArray, List.set_cons_zero, List.set_cons_succ, List.cons_append, List.nil_append])
            (with_reducible apply wpF_val); (focus (intro vs w' hE hk; (obtain ⟨d0, d1, d2, es⟩ := KS.out w' hE); go_simp; rfl)); (simp only [Act.put, List.setIfInBounds_toArray, List.set_cons_zero, List.set_cons_succ, List.cons_append, List.nil_append])
            (with_reducible apply wpF_val); (focus (intro vs w' hE hk; (obtain ⟨d0, d1, d2, es⟩ := KS.out w' hE); go_simp; rfl)); (simp only [Act.put, List.setIfInBounds_toArray, List.set_cons_zero, List.set_cons_succ, List.cons_append, List.nil_append])
            (with_reducible apply wpF_val); (focus (intro vs w' hE hk; (obtain ⟨d0, d1, d2, es⟩ := KS.out w' hE); go_simp; rfl)); (simp only [Act.put, List.setIfInBounds_toArray, List.set_cons_zero, List.set_cons_succ, List.cons_append, List.nil_append])
            (with_reducible apply wpF_val); (focus (intro vs w' hE hk; (obtain ⟨d0, d1, d2, es⟩ := KS.out w' hE); go_simp; rfl)); (simp only [Act.put, List.setIfInBounds_toArray, List.set_cons_zero, List.set_cons_succ, List.cons_append, List.nil_append])
            (with_reducible apply wpF_val); (focus (intro vs w' hE hk; (obtain ⟨d0, d1, d2, es⟩ := KS.out w' hE); go_simp; rfl)); (simp only [Act.put, List.setIfInBounds_toArray, List.set_cons_zero, List.set_cons_succ, List.cons_append, List.nil_append])
            (with_reducible apply wpF_val); (focus (intro vs w' hE hk; (obtain ⟨d0, d1, d2, es⟩ := KS.out w' hE); go_simp; rfl)); (simp only [Act.put, List.setIfInBounds_toArray, List.set_cons_zero, List.set_cons_succ, List.cons_append, List.nil_append])
            (with_reducible apply wpF_val); (focus (intro vs w' hE hk; (obtain ⟨d0, d1, d2, es⟩ := KS.out w' hE); go_simp; rfl)); (simp only [Act.put, List.setIfInBounds_toArray, List.set_cons_zero, List.set_cons_succ, List.cons_append, List.nil_append])
            (with_reducible apply wpF_val); (focus (intro vs w' hE hk; (obtain ⟨d0, d1, d2, es⟩ := KS.out w' hE); go_simp; rfl)); (simp only [Act.put, List.setIfInBounds_toArray, List.set_cons_zero, List.set_cons_succ, List.cons_append, List.nil_append])
            (with_reducible apply wpF_val); (focus (intro vs w' hE hk; (obtain ⟨d0, d1, d2, es⟩ := KS.out w' hE); go_simp; rfl)); (simp only [Act.put, List.setIfInBounds_toArray, List.set_cons_zero, List.set_cons_succ, List.cons_append, List.nil_append])
            (with_reducible apply wpF_val); (focus (intro vs w' hE hk; (obtain ⟨d0, d1, d2, es⟩ := KS.out w' hE); go_simp; rfl)); (simp only [Act.put, List.setIfInBounds_toArray, List.set_cons_zero, List.set_cons_succ, List.cons_append, List.nil_append])
            (with_reducible apply wpF_val); (focus (intro vs w' hE hk; (obtain ⟨d0, d1, d2, es⟩ := KS.out w' hE); go_simp; rfl)); (simp only [Act.put, List.setIfInBounds_toArray, List.set_cons_zero, List.set_cons_succ, List.cons_append, List.nil_append])
            (with_reducible apply wpF_val); (focus (intro vs w' hE hk; (obtain ⟨d0, d1, d2, es⟩ := KS.out w' hE); go_simp; rfl)); (simp only [Act.put, List.setIfInBounds_toArray, List.set_cons_zero, List.set_cons_succ, List.cons_append, List.nil_append])
            (with_reducible apply wpF_val); (focus (intro vs w' hE hk; (obtain ⟨d0, d1, d2, es⟩ := KS.out w' hE); go_simp; rfl)); (simp only [Act.put, List.setIfInBounds_toArray, List.set_cons_zero, List.set_cons_succ, List.cons_append, List.nil_append])
            (with_reducible apply wpF_val); (focus (intro vs w' hE hk; (obtain ⟨d0, d1, d2, es⟩ := KS.out w' hE); go_simp; rfl)); (simp only [Act.put, List.setIfInBounds_toArray, List.set_cons_zero, List.set_cons_succ, List.cons_append, List.nil_append])
            (with_reducible apply wpF_val); (focus (intro vs w' hE hk; (obtain ⟨d0, d1, d2, es⟩ := KS.out w' hE); go_simp; rfl)); (simp only [Act.put, List.setIfInBounds_toArray, List.set_cons_zero, List.set_cons_succ, List.cons_append, List.nil_append])
            (with_reducible apply wpF_val); (focus (intro vs w' hE hk; (obtain ⟨d0, d1, d2, es⟩ := KS.out w' hE); go_simp; rfl)); (simp only [Act.put, List.setIfInBounds_toArray, List.set_cons_zero, List.set_cons_succ, List.cons_append, List.nil_append])
            (with_reducible apply wpF_val); (focus (intro vs w' hE hk; (obtain ⟨d0, d1, d2, es⟩ := KS.out w' hE); go_simp; rfl)); (simp only [Act.put, List.setIfInBounds_toArray, List.set_cons_zero, List.set_cons_succ, List.cons_append, List.nil_append])
            (with_reducible apply wpF_val); (focus (intro vs w' hE hk; (obtain ⟨d0, d1, d2, es⟩ := KS.out w' hE); go_simp; rfl)); (simp only [Act.put, List.setIfInBounds_toArray, List.set_cons_zero, List.set_cons_succ, List.cons_append, List.nil_append])
            (with_reducible apply wpF_val); (focus (intro vs w' hE hk; (obtain ⟨d0, d1, d2, es⟩ := KS.out w' hE); go_simp; exact ⟨Below.refl _ _, rfl⟩)); (simp only [Act.put, List.setIfInBounds_toArray, List.set_cons_zero, List.set_cons_succ, List.cons_append, List.nil_append])
            (with_reducible apply wpF_val); (focus (intro vs w' hE hk; (obtain ⟨d0, d1, d2, es⟩ := KS.out w' hE); go_simp; exact ⟨Below.refl _ _, rfl⟩)); (simp only [Act.put, List.setIfInBounds_toArray, List.set_cons_zero, List.set_cons_succ, List.cons_append, List.nil_append])
            refine wpF_nil (fun vs w5 hE hk => ?_)
            have B5 := Lib.hid (BW.out.trans (hE.mono BW.out.size))
            have B6 := Lib.hid (HB.out.trans (hE.mono HB.out.size))
            clear hE hk KS
            go_wp2_with fail
            go_roundw
            case rel => exact ⟨0 + 1, by omega, by go_num, by rw [seamK_succ, HSK.out, HSt.out]; rfl, B6.out⟩
            case measure => simp [intOf]; omega
          · obtain ⟨q, hq⟩ : ∃ q, k = q + 1 := ⟨k - 1, by omega⟩
            obtain ⟨p, hp⟩ : ∃ p, p = sg zS q := ⟨_, rfl⟩
            have hpi := step_in (seamK_at HSK.out (show q < k by omega))
            rw [← hp] at hpi
            obtain ⟨hp1, hp2⟩ := hpi
            obtain ⟨bS', oS', haS', _, eQ⟩ := RSr.out.at (i := q) (by omega)
            cases haS'
            replace eQ : wr.cell? ⟨bS, oS + q, none⟩ = some (.int .i64 p) := by rw [hp]; exact eQ
            have hst : stepOk W zS k = (decide (p - 1 ≤ s) && decide (s ≤ p + 1)) := by
              unfold stepOk
              rw [← hs, hin, decide_eq_false hk0, show k - 1 = q by omega, ← hp, Bool.true_and, Bool.false_or]
            have HST := Lib.hid hst
            have mk : IntKind.i64.wrap ((k : Int) - 1) = (q : Int) := by rw [IntWalk.i64_in _ (by omega)]; omega
            have mp : IntKind.i64.wrap (p + 1) = p + 1 := IntWalk.i64_in _ (by omega)
            have mm : IntKind.i64.wrap (p - 1) = p - 1 := IntWalk.i64_in _ (by omega)
            have hk1 : (0 : Int) < (k : Int) := by omega
            have hk2 : 0 < k := by omega
            have hql : (q : Int) < (N : Int) := by omega
            have KS := Lib.hid (fun (w' : World) (hE : Below wr.heap.size wr w') => (⟨(VXr.out.keep hE).three.1, (VXr.out.keep hE).three.2.1, (VXr.out.keep hE).three.2.2, (hE.cell (p := ⟨bS, oS + k, none⟩) gS).trans eS, (hE.cell (p := ⟨bS, oS + q, none⟩) gS).trans eQ⟩ : _ ∧ _ ∧ _ ∧ _ ∧ _))
            clear hin hs eS eQ hp hst hq
            by_cases hgt : p + 1 < s
            · have HNo := Lib.hid (show res = false by rw [HRes.out]; exact seamK_no (k := k) (by rw [HST.out, decide_eq_false (show ¬ (s ≤ p + 1) by omega), Bool.and_false]) hlt)
              go_upto_region 6 with fail
              refine wp_region_facts 41 (fun a b => Below a.heap.size a b) (fun _ => Below.refl _ _) (fun _ _ _ h h' => h.trans (h'.mono h.size)) (Below.refl _ _).drew (by kernel_rfl) (by kernel_rfl) (by kernel_rfl) (by kernel_rfl) ?_
              simp only [List.take_succ_cons, List.take_zero, List.drop_succ_cons, List.drop_zero]
              (with_reducible apply wpF_val); (focus (intro vs w' hE hk; (obtain ⟨d0, d1, d2, es, eq⟩ := KS.out w' hE); go_simp; exact ⟨Below.refl _ _, rfl⟩)); (simp only [Act.put, List.setIfInBounds_toArray, List.set_cons_zero, List.set_cons_succ, List.cons_append, List.nil_append])
              (with_reducible apply wpF_val); (focus (intro vs w' hE hk; (obtain ⟨d0, d1, d2, es, eq⟩ := KS.out w' hE); go_simp; exact ⟨Below.refl _ _, rfl⟩)); (simp only [Act.put, List.setIfInBounds_toArray, List.set_cons_zero, List.set_cons_succ, List.cons_append, List.nil_append])
              (with_reducible apply wpF_val); (focus (intro vs w' hE hk; (obtain ⟨d0, d1, d2, es, eq⟩ := KS.out w' hE); go_simp; exact ⟨Below.refl _ _, rfl⟩)); (simp only [Act.put, List.setIfInBounds_toArray, List.set_cons_zero, List.set_cons_succ, List.cons_append, List.nil_append])
              (with_reducible apply wpF_val); (focus (intro vs w' hE hk; (obtain ⟨d0, d1, d2, es, eq⟩ := KS.out w' hE); go_simp; exact ⟨Below.refl _ _, rfl⟩)); (simp only [Act.put, List.setIfInBounds_toArray, List.set_cons_zero, List.set_cons_succ, List.cons_append, List.nil_append])
              (with_reducible apply wpF_val); (focus (intro vs w' hE hk; (obtain ⟨d0, d1, d2, es, eq⟩ := KS.out w' hE); go_simp; exact ⟨Below.refl _ _, rfl⟩)); (simp only [Act.put, List.setIfInBounds_toArray, List.set_cons_zero, List.set_cons_succ, List.cons_append, List.nil_append])
              (with_reducible apply wpF_val); (focus (intro vs w' hE hk; (obtain ⟨d0, d1, d2, es, eq⟩ := KS.out w' hE); go_simp; exact ⟨Below.refl _ _, rfl⟩)); (simp only [Act.put, List.setIfInBounds_toArray, List.set_cons_zero, List.set_cons_succ, List.cons_append, List.nil_append])
              (with_reducible apply wpF_val); (focus (intro vs w' hE hk; (obtain ⟨d0, d1, d2, es, eq⟩ := KS.out w' hE); go_simp; exact ⟨Below.refl _ _, rfl⟩)); (simp only [Act.put, List.setIfInBounds_toArray, List.set_cons_zero, List.set_cons_succ, List.cons_append, List.nil_append])
              (with_reducible apply wpF_val); (focus (intro vs w' hE hk; (obtain ⟨d0, d1, d2, es, eq⟩ := KS.out w' hE); go_simp; exact ⟨Below.refl _ _, rfl⟩)); (simp only [Act.put, List.setIfInBounds_toArray, List.set_cons_zero, List.set_cons_succ, List.cons_append, List.nil_append])
              (with_reducible apply wpF_val); (focus (intro vs w' hE hk; (obtain ⟨d0, d1, d2, es, eq⟩ := KS.out w' hE); go_simp; exact ⟨Below.refl _ _, rfl⟩)); (simp only [Act.put, List.setIfInBounds_toArray, List.set_cons_zero, List.set_cons_succ, List.cons_append, List.nil_append])
              (with_reducible apply wpF_val); (focus (intro vs w' hE hk; (obtain ⟨d0, d1, d2, es, eq⟩ := KS.out w' hE); go_simp; refine ((CN.out w').mono (fun _ _ h => RetV.toB h)).mono ?_; rintro _ w9 ⟨rfl, b⟩; exact ⟨_, rfl, b, rfl⟩)); (simp only [Act.put, List.setIfInBounds_toArray, List.set_cons_zero, List.set_cons_succ, List.cons_append, List.nil_append])
              (with_reducible apply wpF_val); (focus (intro vs w' hE hk; (obtain ⟨d0, d1, d2, es, eq⟩ := KS.out w' hE); go_simp; exact ⟨Below.refl _ _, rfl⟩)); (simp only [Act.put, List.setIfInBounds_toArray, List.set_cons_zero, List.set_cons_succ, List.cons_append, List.nil_append])
              (with_reducible apply wpF_val); (focus (intro vs w' hE hk; (obtain ⟨d0, d1, d2, es, eq⟩ := KS.out w' hE); go_simp; exact ⟨Below.refl _ _, rfl⟩)); (simp only [Act.put, List.setIfInBounds_toArray, List.set_cons_zero, List.set_cons_succ, List.cons_append, List.nil_append])
              (with_reducible apply wpF_val); (focus (intro vs w' hE hk; (obtain ⟨d0, d1, d2, es, eq⟩ := KS.out w' hE); go_simp; exact ⟨Below.refl _ _, rfl⟩)); (simp only [Act.put, List.setIfInBounds_toArray, List.set_cons_zero, List.set_cons_succ, List.cons_append, List.nil_append])
              (with_reducible apply wpF_val); (focus (intro vs w' hE hk; (obtain ⟨d0, d1, d2, es, eq⟩ := KS.out w' hE); go_simp; exact ⟨Below.refl _ _, rfl⟩)); (simp only [Act.put, List.setIfInBounds_toArray, List.set_cons_zero, List.set_cons_succ, List.cons_append, List.nil_append])
              (with_reducible apply wpF_val); (focus (intro vs w' hE hk; (obtain ⟨d0, d1, d2, es, eq⟩ := KS.out w' hE); go_simp; exact ⟨Below.refl _ _, rfl⟩)); (simp only [Act.put, List.setIfInBounds_toArray, List.set_cons_zero, List.set_cons_succ, List.cons_append, List.nil_append])
              (with_reducible apply wpF_val); (focus (intro vs w' hE hk; (obtain ⟨d0, d1, d2, es, eq⟩ := KS.out w' hE); go_simp; exact ⟨Below.refl _ _, rfl⟩)); (simp only [Act.put, List.setIfInBounds_toArray, List.set_cons_zero, List.set_cons_succ, List.cons_append, List.nil_append])
              (with_reducible apply wpF_val); (focus (intro vs w' hE hk; (obtain ⟨d0, d1, d2, es, eq⟩ := KS.out w' hE); go_simp; exact ⟨Below.refl _ _, rfl⟩)); (simp only [Act.put, List.setIfInBounds_toArray, List.set_cons_zero, List.set_cons_succ, List.cons_append, List.nil_append])
              (with_reducible apply wpF_val); (focus (intro vs w' hE hk; (obtain ⟨d0, d1, d2, es, eq⟩ := KS.out w' hE); go_simp; exact ⟨Below.refl _ _, rfl⟩)); (simp only [Act.put, List.setIfInBounds_toArray, List.set_cons_zero, List.set_cons_succ, List.cons_append, List.nil_append])
              (with_reducible apply wpF_val); (focus (intro vs w' hE hk; (obtain ⟨d0, d1, d2, es, eq⟩ := KS.out w' hE); go_simp; exact ⟨Below.refl _ _, rfl⟩)); (simp only [Act.put, List.setIfInBounds_toArray, List.set_cons_zero, List.set_cons_succ, List.cons_append, List.nil_append])
              (with_reducible apply wpF_val); (focus (intro vs w' hE hk; (obtain ⟨d0, d1, d2, es, eq⟩ := KS.out w' hE); go_simp; exact ⟨Below.refl _ _, rfl⟩)); (simp only [Act.put, List.setIfInBounds_toArray, List.set_cons_zero, List.set_cons_succ, List.cons_append, List.nil_append])
              (with_reducible apply wpF_val); (focus (intro vs w' hE hk; (obtain ⟨d0, d1, d2, es, eq⟩ := KS.out w' hE); go_simp; exact ⟨Below.refl _ _, rfl⟩)); (simp only [Act.put, List.setIfInBounds_toArray, List.set_cons_zero, List.set_cons_succ, List.cons_append, List.nil_append])
              (with_reducible apply wpF_val); (focus (intro vs w' hE hk; (obtain ⟨d0, d1, d2, es, eq⟩ := KS.out w' hE); go_simp; exact ⟨Below.refl _ _, rfl⟩)); (simp only [Act.put, List.setIfInBounds_toArray, List.set_cons_zero, List.set_cons_succ, List.cons_append, List.nil_append])
              (with_reducible apply wpF_val); (focus (intro vs w' hE hk; (obtain ⟨d0, d1, d2, es, eq⟩ := KS.out w' hE); go_simp; exact ⟨Below.refl _ _, rfl⟩)); (simp only [Act.put, List.setIfInBounds_toArray, List.set_cons_zero, List.set_cons_succ, List.cons_append, List.nil_append])
              (with_reducible apply wpF_val); (focus (intro vs w' hE hk; (obtain ⟨d0, d1, d2, es, eq⟩ := KS.out w' hE); go_simp; exact ⟨Below.refl _ _, rfl⟩)); (simp only [Act.put, List.setIfInBounds_toArray, List.set_cons_zero, List.set_cons_succ, List.cons_append, List.nil_append])
              (with_reducible apply wpF_val); (focus (intro vs w' hE hk; (obtain ⟨d0, d1, d2, es, eq⟩ := KS.out w' hE); go_simp; exact ⟨Below.refl _ _, rfl⟩)); (simp only [Act.put, List.setIfInBounds_toArray, List.set_cons_zero, List.set_cons_succ, List.cons_append, List.nil_append])
              (with_reducible apply wpF_val); (focus (intro vs w' hE hk; (obtain ⟨d0, d1, d2, es, eq⟩ := KS.out w' hE); go_simp; exact ⟨Below.refl _ _, rfl⟩)); (simp only [Act.put, List.setIfInBounds_toArray, List.set_cons_zero, List.set_cons_succ, List.cons_append, List.nil_append])
              (with_reducible apply wpF_val); (focus (intro vs w' hE hk; (obtain ⟨d0, d1, d2, es, eq⟩ := KS.out w' hE); go_simp; exact ⟨Below.refl _ _, rfl⟩)); (simp only [Act.put, List.setIfInBounds_toArray, List.set_cons_zero, List.set_cons_succ, List.cons_append, List.nil_append])
              (with_reducible apply wpF_val); (focus (intro vs w' hE hk; (obtain ⟨d0, d1, d2, es, eq⟩ := KS.out w' hE); go_simp; rfl)); (simp only [Act.put, List.setIfInBounds_toArray, List.set_cons_zero, List.set_cons_succ, List.cons_append, List.nil_append])
              (with_reducible apply wpF_val); (focus (intro vs w' hE hk; (obtain ⟨d0, d1, d2, es, eq⟩ := KS.out w' hE); go_simp; rfl)); (simp only [Act.put, List.setIfInBounds_toArray, List.set_cons_zero, List.set_cons_succ, List.cons_append, List.nil_append])
              (with_reducible apply wpF_val); (focus (intro vs w' hE hk; (obtain ⟨d0, d1, d2, es, eq⟩ := KS.out w' hE); go_simp; rfl)); (simp only [Act.put, List.setIfInBounds_toArray, List.set_cons_zero, List.set_cons_succ, List.cons_append, List.nil_append])
              (with_reducible apply wpF_val); (focus (intro vs w' hE hk; (obtain ⟨d0, d1, d2, es, eq⟩ := KS.out w' hE); go_simp; rfl)); (simp only [Act.put, List.setIfInBounds_toArray, List.set_cons_zero, List.set_cons_succ, List.cons_append, List.nil_append])
              (with_reducible apply wpF_val); (focus (intro vs w' hE hk; (obtain ⟨d0, d1, d2, es, eq⟩ := KS.out w' hE); go_simp; rfl)); (simp only [Act.put, List.setIfInBounds_toArray, List.set_cons_zero, List.set_cons_succ, List.cons_append, List.nil_append])
              (with_reducible apply wpF_val); (focus (intro vs w' hE hk; (obtain ⟨d0, d1, d2, es, eq⟩ := KS.out w' hE); go_simp; rfl)); (simp only [Act.put, List.setIfInBounds_toArray, List.set_cons_zero, List.set_cons_succ, List.cons_append, List.nil_append])
              (with_reducible apply wpF_val); (focus (intro vs w' hE hk; (obtain ⟨d0, d1, d2, es, eq⟩ := KS.out w' hE); go_simp; rfl)); (simp only [Act.put, List.setIfInBounds_toArray, List.set_cons_zero, List.set_cons_succ, List.cons_append, List.nil_append])
              (with_reducible apply wpF_val); (focus (intro vs w' hE hk; (obtain ⟨d0, d1, d2, es, eq⟩ := KS.out w' hE); go_simp; rfl)); (simp only [Act.put, List.setIfInBounds_toArray, List.set_cons_zero, List.set_cons_succ, List.cons_append, List.nil_append])
              (with_reducible apply wpF_val); (focus (intro vs w' hE hk; (obtain ⟨d0, d1, d2, es, eq⟩ := KS.out w' hE); go_simp; rfl)); (simp only [Act.put, List.setIfInBounds_toArray, List.set_cons_zero, List.set_cons_succ, List.cons_append, List.nil_append])
              (with_reducible apply wpF_val); (focus (intro vs w' hE hk; (obtain ⟨d0, d1, d2, es, eq⟩ := KS.out w' hE); go_simp; rfl)); (simp only [Act.put, List.setIfInBounds_toArray, List.set_cons_zero, List.set_cons_succ, List.cons_append, List.nil_append])
              (with_reducible apply wpF_val); (focus (intro vs w' hE hk; (obtain ⟨d0, d1, d2, es, eq⟩ := KS.out w' hE); go_simp; rfl)); (simp only [Act.put, List.setIfInBounds_toArray, List.set_cons_zero, List.set_cons_succ, List.cons_append, List.nil_append])
              (with_reducible apply wpF_val); (focus (intro vs w' hE hk; (obtain ⟨d0, d1, d2, es, eq⟩ := KS.out w' hE); go_simp; exact ⟨Below.refl _ _, rfl⟩)); (simp only [Act.put, List.setIfInBounds_toArray, List.set_cons_zero, List.set_cons_succ, List.cons_append, List.nil_append])
              (with_reducible apply wpF_val); (focus (intro vs w' hE hk; (obtain ⟨d0, d1, d2, es, eq⟩ := KS.out w' hE); go_simp; exact ⟨Below.refl _ _, rfl⟩)); (simp only [Act.put, List.setIfInBounds_toArray, List.set_cons_zero, List.set_cons_succ, List.cons_append, List.nil_append])
              (with_reducible apply wpF_val); (focus (intro vs w' hE hk; (obtain ⟨d0, d1, d2, es, eq⟩ := KS.out w' hE); go_simp; exact ⟨Below.refl _ _, rfl⟩)); (simp only [Act.put, List.setIfInBounds_toArray, List.set_cons_zero, List.set_cons_succ, List.cons_append, List.nil_append])
              refine wpF_nil (fun vs w5 hE hk => ?_)
              have B5 := Lib.hid (BW.out.trans (hE.mono BW.out.size))
              have B6 := Lib.hid (HB.out.trans (hE.mono HB.out.size))
              clear hE hk KS
              go_wp2_with fail
              go_ret
              exact ⟨by rw [HNo.out] <;> rfl, B5.out⟩
            · by_cases hlo : s < p - 1
              · have HNo := Lib.hid (show res = false by rw [HRes.out]; exact seamK_no (k := k) (by rw [HST.out, decide_eq_false (show ¬ (p - 1 ≤ s) by omega), Bool.false_and]) hlt)
                go_upto_region 6 with fail
                refine wp_region_facts 41 (fun a b => Below a.heap.size a b) (fun _ => Below.refl _ _) (fun _ _ _ h h' => h.trans (h'.mono h.size)) (Below.refl _ _).drew (by kernel_rfl) (by kernel_rfl) (by kernel_rfl) (by kernel_rfl) ?_
                simp only [List.take_succ_cons, List.take_zero, List.drop_succ_cons, List.drop_zero]
                (with_reducible apply wpF_val); (focus (intro vs w' hE hk; (obtain ⟨d0, d1, d2, es, eq⟩ := KS.out w' hE); go_simp; exact ⟨Below.refl _ _, rfl⟩)); (simp only [Act.put, List.setIfInBounds_toArray, List.set_cons_zero, List.set_cons_succ, List.cons_append, List.nil_append])
                (with_reducible apply wpF_val); (focus (intro vs w' hE hk; (obtain ⟨d0, d1, d2, es, eq⟩ := KS.out w' hE); go_simp; exact ⟨Below.refl _ _, rfl⟩)); (simp only [Act.put, List.setIfInBounds_toArray, List.set_cons_zero, List.set_cons_succ, List.cons_append, List.nil_append])
                (with_reducible apply wpF_val); (focus (intro vs w' hE hk; (obtain ⟨d0, d1, d2, es, eq⟩ := KS.out w' hE); go_simp; exact ⟨Below.refl _ _, rfl⟩)); (simp only [Act.put, List.setIfInBounds_toArray, List.set_cons_zero, List.set_cons_succ, List.cons_append, List.nil_append])
                (with_reducible apply wpF_val); (focus (intro vs w' hE hk; (obtain ⟨d0, d1, d2, es, eq⟩ := KS.out w' hE); go_simp; exact ⟨Below.refl _ _, rfl⟩)); (simp only [Act.put, List.setIfInBounds_toArray, List.set_cons_zero, List.set_cons_succ, List.cons_append, List.nil_append])
                (with_reducible apply wpF_val); (focus (intro vs w' hE hk; (obtain ⟨d0, d1, d2, es, eq⟩ := KS.out w' hE); go_simp; exact ⟨Below.refl _ _, rfl⟩)); (simp only [Act.put, List.setIfInBounds_toArray, List.set_cons_zero, List.set_cons_succ, List.cons_append, List.nil_append])
                (with_reducible apply wpF_val); (focus (intro vs w' hE hk; (obtain ⟨d0, d1, d2, es, eq⟩ := KS.out w' hE); go_simp; exact ⟨Below.refl _ _, rfl⟩)); (simp only [Act.put, List.setIfInBounds_toArray, List.set_cons_zero, List.set_cons_succ, List.cons_append, List.nil_append])
                (with_reducible apply wpF_val); (focus (intro vs w' hE hk; (obtain ⟨d0, d1, d2, es, eq⟩ := KS.out w' hE); go_simp; exact ⟨Below.refl _ _, rfl⟩)); (simp only [Act.put, List.setIfInBounds_toArray, List.set_cons_zero, List.set_cons_succ, List.cons_append, List.nil_append])
                (with_reducible apply wpF_val); (focus (intro vs w' hE hk; (obtain ⟨d0, d1, d2, es, eq⟩ := KS.out w' hE); go_simp; exact ⟨Below.refl _ _, rfl⟩)); (simp only [Act.put, List.setIfInBounds_toArray, List.set_cons_zero, List.set_cons_succ, List.cons_append, List.nil_append])
                (with_reducible apply wpF_val); (focus (intro vs w' hE hk; (obtain ⟨d0, d1, d2, es, eq⟩ := KS.out w' hE); go_simp; exact ⟨Below.refl _ _, rfl⟩)); (simp only [Act.put, List.setIfInBounds_toArray, List.set_cons_zero, List.set_cons_succ, List.cons_append, List.nil_append])
                (with_reducible apply wpF_val); (focus (intro vs w' hE hk; (obtain ⟨d0, d1, d2, es, eq⟩ := KS.out w' hE); go_simp; refine ((CN.out w').mono (fun _ _ h => RetV.toB h)).mono ?_; rintro _ w9 ⟨rfl, b⟩; exact ⟨_, rfl, b, rfl⟩)); (simp only [Act.put, List.setIfInBounds_toArray, List.set_cons_zero, List.set_cons_succ, List.cons_append, List.nil_append])
                (with_reducible apply wpF_val); (focus (intro vs w' hE hk; (obtain ⟨d0, d1, d2, es, eq⟩ := KS.out w' hE); go_simp; exact ⟨Below.refl _ _, rfl⟩)); (simp only [Act.put, List.setIfInBounds_toArray, List.set_cons_zero, List.set_cons_succ, List.cons_append, List.nil_append])
                (with_reducible apply wpF_val); (focus (intro vs w' hE hk; (obtain ⟨d0, d1, d2, es, eq⟩ := KS.out w' hE); go_simp; exact ⟨Below.refl _ _, rfl⟩)); (simp only [Act.put, List.setIfInBounds_toArray, List.set_cons_zero, List.set_cons_succ, List.cons_append, List.nil_append])
                (with_reducible apply wpF_val); (focus (intro vs w' hE hk; (obtain ⟨d0, d1, d2, es, eq⟩ := KS.out w' hE); go_simp; exact ⟨Below.refl _ _, rfl⟩)); (simp only [Act.put, List.setIfInBounds_toArray, List.set_cons_zero, List.set_cons_succ, List.cons_append, List.nil_append])
                (with_reducible apply wpF_val); (focus (intro vs w' hE hk; (obtain ⟨d0, d1, d2, es, eq⟩ := KS.out w' hE); go_simp; exact ⟨Below.refl _ _, rfl⟩)); (simp only [Act.put, List.setIfInBounds_toArray, List.set_cons_zero, List.set_cons_succ, List.cons_append, List.nil_append])
                (with_reducible apply wpF_val); (focus (intro vs w' hE hk; (obtain ⟨d0, d1, d2, es, eq⟩ := KS.out w' hE); go_simp; exact ⟨Below.refl _ _, rfl⟩)); (simp only [Act.put, List.setIfInBounds_toArray, List.set_cons_zero, List.set_cons_succ, List.cons_append, List.nil_append])
                (with_reducible apply wpF_val); (focus (intro vs w' hE hk; (obtain ⟨d0, d1, d2, es, eq⟩ := KS.out w' hE); go_simp; exact ⟨Below.refl _ _, rfl⟩)); (simp only [Act.put, List.setIfInBounds_toArray, List.set_cons_zero, List.set_cons_succ, List.cons_append, List.nil_append])
                (with_reducible apply wpF_val); (focus (intro vs w' hE hk; (obtain ⟨d0, d1, d2, es, eq⟩ := KS.out w' hE); go_simp; exact ⟨Below.refl _ _, rfl⟩)); (simp only [Act.put, List.setIfInBounds_toArray, List.set_cons_zero, List.set_cons_succ, List.cons_append, List.nil_append])
                (with_reducible apply wpF_val); (focus (intro vs w' hE hk; (obtain ⟨d0, d1, d2, es, eq⟩ := KS.out w' hE); go_simp; exact ⟨Below.refl _ _, rfl⟩)); (simp only [Act.put, List.setIfInBounds_toArray, List.set_cons_zero, List.set_cons_succ, List.cons_append, List.nil_append])
                (with_reducible apply wpF_val); (focus (intro vs w' hE hk; (obtain ⟨d0, d1, d2, es, eq⟩ := KS.out w' hE); go_simp; exact ⟨Below.refl _ _, rfl⟩)); (simp only [Act.put, List.setIfInBounds_toArray, List.set_cons_zero, List.set_cons_succ, List.cons_append, List.nil_append])
                (with_reducible apply wpF_val); (focus (intro vs w' hE hk; (obtain ⟨d0, d1, d2, es, eq⟩ := KS.out w' hE); go_simp; exact ⟨Below.refl _ _, rfl⟩)); (simp only [Act.put, List.setIfInBounds_toArray, List.set_cons_zero, List.set_cons_succ, List.cons_append, List.nil_append])
                (with_reducible apply wpF_val); (focus (intro vs w' hE hk; (obtain ⟨d0, d1, d2, es, eq⟩ := KS.out w' hE); go_simp; exact ⟨Below.refl _ _, rfl⟩)); (simp only [Act.put, List.setIfInBounds_toArray, List.set_cons_zero, List.set_cons_succ, List.cons_append, List.nil_append])
                (with_reducible apply wpF_val); (focus (intro vs w' hE hk; (obtain ⟨d0, d1, d2, es, eq⟩ := KS.out w' hE); go_simp; exact ⟨Below.refl _ _, rfl⟩)); (simp only [Act.put, List.setIfInBounds_toArray, List.set_cons_zero, List.set_cons_succ, List.cons_append, List.nil_append])
                (with_reducible apply wpF_val); (focus (intro vs w' hE hk; (obtain ⟨d0, d1, d2, es, eq⟩ := KS.out w' hE); go_simp; exact ⟨Below.refl _ _, rfl⟩)); (simp only [Act.put, List.setIfInBounds_toArray, List.set_cons_zero, List.set_cons_succ, List.cons_append, List.nil_append])
                (with_reducible apply wpF_val); (focus (intro vs w' hE hk; (obtain ⟨d0, d1, d2, es, eq⟩ := KS.out w' hE); go_simp; exact ⟨Below.refl _ _, rfl⟩)); (simp only [Act.put, List.setIfInBounds_toArray, List.set_cons_zero, List.set_cons_succ, List.cons_append, List.nil_append])
                (with_reducible apply wpF_val); (focus (intro vs w' hE hk; (obtain ⟨d0, d1, d2, es, eq⟩ := KS.out w' hE); go_simp; exact ⟨Below.refl _ _, rfl⟩)); (simp only [Act.put, List.setIfInBounds_toArray, List.set_cons_zero, List.set_cons_succ, List.cons_append, List.nil_append])
                (with_reducible apply wpF_val); (focus (intro vs w' hE hk; (obtain ⟨d0, d1, d2, es, eq⟩ := KS.out w' hE); go_simp; exact ⟨Below.refl _ _, rfl⟩)); (simp only [Act.put, List.setIfInBounds_toArray, List.set_cons_zero, List.set_cons_succ, List.cons_append, List.nil_append])
                (with_reducible apply wpF_val); (focus (intro vs w' hE hk; (obtain ⟨d0, d1, d2, es, eq⟩ := KS.out w' hE); go_simp; exact ⟨Below.refl _ _, rfl⟩)); (simp only [Act.put, List.setIfInBounds_toArray, List.set_cons_zero, List.set_cons_succ, List.cons_append, List.nil_append])
                (with_reducible apply wpF_val); (focus (intro vs w' hE hk; (obtain ⟨d0, d1, d2, es, eq⟩ := KS.out w' hE); go_simp; exact ⟨Below.refl _ _, rfl⟩)); (simp only [Act.put, List.setIfInBounds_toArray, List.set_cons_zero, List.set_cons_succ, List.cons_append, List.nil_append])
                (with_reducible apply wpF_val); (focus (intro vs w' hE hk; (obtain ⟨d0, d1, d2, es, eq⟩ := KS.out w' hE); go_simp; exact ⟨Below.refl _ _, rfl⟩)); (simp only [Act.put, List.setIfInBounds_toArray, List.set_cons_zero, List.set_cons_succ, List.cons_append, List.nil_append])
                (with_reducible apply wpF_val); (focus (intro vs w' hE hk; (obtain ⟨d0, d1, d2, es, eq⟩ := KS.out w' hE); go_simp; exact ⟨Below.refl _ _, rfl⟩)); (simp only [Act.put, List.setIfInBounds_toArray, List.set_cons_zero, List.set_cons_succ, List.cons_append, List.nil_append])
                (with_reducible apply wpF_val); (focus (intro vs w' hE hk; (obtain ⟨d0, d1, d2, es, eq⟩ := KS.out w' hE); go_simp; exact ⟨Below.refl _ _, rfl⟩)); (simp only [Act.put, List.setIfInBounds_toArray, List.set_cons_zero, List.set_cons_succ, List.cons_append, List.nil_append])
                (with_reducible apply wpF_val); (focus (intro vs w' hE hk; (obtain ⟨d0, d1, d2, es, eq⟩ := KS.out w' hE); go_simp; exact ⟨Below.refl _ _, rfl⟩)); (simp only [Act.put, List.setIfInBounds_toArray, List.set_cons_zero, List.set_cons_succ, List.cons_append, List.nil_append])
                (with_reducible apply wpF_val); (focus (intro vs w' hE hk; (obtain ⟨d0, d1, d2, es, eq⟩ := KS.out w' hE); go_simp; exact ⟨Below.refl _ _, rfl⟩)); (simp only [Act.put, List.setIfInBounds_toArray, List.set_cons_zero, List.set_cons_succ, List.cons_append, List.nil_append])
                (with_reducible apply wpF_val); (focus (intro vs w' hE hk; (obtain ⟨d0, d1, d2, es, eq⟩ := KS.out w' hE); go_simp; exact ⟨Below.refl _ _, rfl⟩)); (simp only [Act.put, List.setIfInBounds_toArray, List.set_cons_zero, List.set_cons_succ, List.cons_append, List.nil_append])
                (with_reducible apply wpF_val); (focus (intro vs w' hE hk; (obtain ⟨d0, d1, d2, es, eq⟩ := KS.out w' hE); go_simp; exact ⟨Below.refl _ _, rfl⟩)); (simp only [Act.put, List.setIfInBounds_toArray, List.set_cons_zero, List.set_cons_succ, List.cons_append, List.nil_append])
                (with_reducible apply wpF_val); (focus (intro vs w' hE hk; (obtain ⟨d0, d1, d2, es, eq⟩ := KS.out w' hE); go_simp; exact ⟨Below.refl _ _, rfl⟩)); (simp only [Act.put, List.setIfInBounds_toArray, List.set_cons_zero, List.set_cons_succ, List.cons_append, List.nil_append])
                (with_reducible apply wpF_val); (focus (intro vs w' hE hk; (obtain ⟨d0, d1, d2, es, eq⟩ := KS.out w' hE); go_simp; exact ⟨Below.refl _ _, rfl⟩)); (simp only [Act.put, List.setIfInBounds_toArray, List.set_cons_zero, List.set_cons_succ, List.cons_append, List.nil_append])
                (with_reducible apply wpF_val); (focus (intro vs w' hE hk; (obtain ⟨d0, d1, d2, es, eq⟩ := KS.out w' hE); go_simp; exact ⟨Below.refl _ _, rfl⟩)); (simp only [Act.put, List.setIfInBounds_toArray, List.set_cons_zero, List.set_cons_succ, List.cons_append, List.nil_append])
                (with_reducible apply wpF_val); (focus (intro vs w' hE hk; (obtain ⟨d0, d1, d2, es, eq⟩ := KS.out w' hE); go_simp; exact ⟨Below.refl _ _, rfl⟩)); (simp only [Act.put, List.setIfInBounds_toArray, List.set_cons_zero, List.set_cons_succ, List.cons_append, List.nil_append])
                (with_reducible apply wpF_val); (focus (intro vs w' hE hk; (obtain ⟨d0, d1, d2, es, eq⟩ := KS.out w' hE); go_simp; exact ⟨Below.refl _ _, rfl⟩)); (simp only [Act.put, List.setIfInBounds_toArray, List.set_cons_zero, List.set_cons_succ, List.cons_append, List.nil_append])
                (with_reducible apply wpF_val); (focus (intro vs w' hE hk; (obtain ⟨d0, d1, d2, es, eq⟩ := KS.out w' hE); go_simp; exact ⟨Below.refl _ _, rfl⟩)); (simp only [Act.put, List.setIfInBounds_toArray, List.set_cons_zero, List.set_cons_succ, List.cons_append, List.nil_append])
                refine wpF_nil (fun vs w5 hE hk => ?_)
                have B5 := Lib.hid (BW.out.trans (hE.mono BW.out.size))
                have B6 := Lib.hid (HB.out.trans (hE.mono HB.out.size))
                clear hE hk KS
                go_wp2_with fail
                go_ret
                exact ⟨by rw [HNo.out] <;> rfl, B5.out⟩
              · have HSt := Lib.hid (show stepOk W zS k = true by rw [HST.out, decide_eq_true (show p - 1 ≤ s by omega), decide_eq_true (show s ≤ p + 1 by omega)]; rfl)
                go_upto_region 6 with fail
                refine wp_region_facts 41 (fun a b => Below a.heap.size a b) (fun _ => Below.refl _ _) (fun _ _ _ h h' => h.trans (h'.mono h.size)) (Below.refl _ _).drew (by kernel_rfl) (by kernel_rfl) (by kernel_rfl) (by kernel_rfl) ?_
                simp only [List.take_succ_cons, List.take_zero, List.drop_succ_cons, List.drop_zero]
                (with_reducible apply wpF_val); (focus (intro vs w' hE hk; (obtain ⟨d0, d1, d2, es, eq⟩ := KS.out w' hE); go_simp; exact ⟨Below.refl _ _, rfl⟩)); (simp only [Act.put, List.setIfInBounds_toArray, List.set_cons_zero, List.set_cons_succ, List.cons_append, List.nil_append])
                (with_reducible apply wpF_val); (focus (intro vs w' hE hk; (obtain ⟨d0, d1, d2, es, eq⟩ := KS.out w' hE); go_simp; exact ⟨Below.refl _ _, rfl⟩)); (simp only [Act.put, List.setIfInBounds_toArray, List.set_cons_zero, List.set_cons_succ, List.cons_append, List.nil_append])
                (with_reducible apply wpF_val); (focus (intro vs w' hE hk; (obtain ⟨d0, d1, d2, es, eq⟩ := KS.out w' hE); go_simp; exact ⟨Below.refl _ _, rfl⟩)); (simp only [Act.put, List.setIfInBounds_toArray, List.set_cons_zero, List.set_cons_succ, List.cons_append, List.nil_append])
                (with_reducible apply wpF_val); (focus (intro vs w' hE hk; (obtain ⟨d0, d1, d2, es, eq⟩ := KS.out w' hE); go_simp; exact ⟨Below.refl _ _, rfl⟩)); (simp only [Act.put, List.setIfInBounds_toArray, List.set_cons_zero, List.set_cons_succ, List.cons_append, List.nil_append])
                (with_reducible apply wpF_val); (focus (intro vs w' hE hk; (obtain ⟨d0, d1, d2, es, eq⟩ := KS.out w' hE); go_simp; exact ⟨Below.refl _ _, rfl⟩)); (simp only [Act.put, List.setIfInBounds_toArray, List.set_cons_zero, List.set_cons_succ, List.cons_append, List.nil_append])
                (with_reducible apply wpF_val); (focus (intro vs w' hE hk; (obtain ⟨d0, d1, d2, es, eq⟩ := KS.out w' hE); go_simp; exact ⟨Below.refl _ _, rfl⟩)); (simp only [Act.put, List.setIfInBounds_toArray, List.set_cons_zero, List.set_cons_succ, List.cons_append, List.nil_append])
                (with_reducible apply wpF_val); (focus (intro vs w' hE hk; (obtain ⟨d0, d1, d2, es, eq⟩ := KS.out w' hE); go_simp; exact ⟨Below.refl _ _, rfl⟩)); (simp only [Act.put, List.setIfInBounds_toArray, List.set_cons_zero, List.set_cons_succ, List.cons_append, List.nil_append])
                (with_reducible apply wpF_val); (focus (intro vs w' hE hk; (obtain ⟨d0, d1, d2, es, eq⟩ := KS.out w' hE); go_simp; exact ⟨Below.refl _ _, rfl⟩)); (simp only [Act.put, List.setIfInBounds_toArray, List.set_cons_zero, List.set_cons_succ, List.cons_append, List.nil_append])
                (with_reducible apply wpF_val); (focus (intro vs w' hE hk; (obtain ⟨d0, d1, d2, es, eq⟩ := KS.out w' hE); go_simp; exact ⟨Below.refl _ _, rfl⟩)); (simp only [Act.put, List.setIfInBounds_toArray, List.set_cons_zero, List.set_cons_succ, List.cons_append, List.nil_append])
                (with_reducible apply wpF_val); (focus (intro vs w' hE hk; (obtain ⟨d0, d1, d2, es, eq⟩ := KS.out w' hE); go_simp; refine ((CN.out w').mono (fun _ _ h => RetV.toB h)).mono ?_; rintro _ w9 ⟨rfl, b⟩; exact ⟨_, rfl, b, rfl⟩)); (simp only [Act.put, List.setIfInBounds_toArray, List.set_cons_zero, List.set_cons_succ, List.cons_append, List.nil_append])
                (with_reducible apply wpF_val); (focus (intro vs w' hE hk; (obtain ⟨d0, d1, d2, es, eq⟩ := KS.out w' hE); go_simp; exact ⟨Below.refl _ _, rfl⟩)); (simp only [Act.put, List.setIfInBounds_toArray, List.set_cons_zero, List.set_cons_succ, List.cons_append, List.nil_append])
                (with_reducible apply wpF_val); (focus (intro vs w' hE hk; (obtain ⟨d0, d1, d2, es, eq⟩ := KS.out w' hE); go_simp; exact ⟨Below.refl _ _, rfl⟩)); (simp only [Act.put, List.setIfInBounds_toArray, List.set_cons_zero, List.set_cons_succ, List.cons_append, List.nil_append])
                (with_reducible apply wpF_val); (focus (intro vs w' hE hk; (obtain ⟨d0, d1, d2, es, eq⟩ := KS.out w' hE); go_simp; exact ⟨Below.refl _ _, rfl⟩)); (simp only [Act.put, List.setIfInBounds_toArray, List.set_cons_zero, List.set_cons_succ, List.cons_append, List.nil_append])
                (with_reducible apply wpF_val); (focus (intro vs w' hE hk; (obtain ⟨d0, d1, d2, es, eq⟩ := KS.out w' hE); go_simp; exact ⟨Below.refl _ _, rfl⟩)); (simp only [Act.put, List.setIfInBounds_toArray, List.set_cons_zero, List.set_cons_succ, List.cons_append, List.nil_append])
                (with_reducible apply wpF_val); (focus (intro vs w' hE hk; (obtain ⟨d0, d1, d2, es, eq⟩ := KS.out w' hE); go_simp; exact ⟨Below.refl _ _, rfl⟩)); (simp only [Act.put, List.setIfInBounds_toArray, List.set_cons_zero, List.set_cons_succ, List.cons_append, List.nil_append])
                (with_reducible apply wpF_val); (focus (intro vs w' hE hk; (obtain ⟨d0, d1, d2, es, eq⟩ := KS.out w' hE); go_simp; exact ⟨Below.refl _ _, rfl⟩)); (simp only [Act.put, List.setIfInBounds_toArray, List.set_cons_zero, List.set_cons_succ, List.cons_append, List.nil_append])
                (with_reducible apply wpF_val); (focus (intro vs w' hE hk; (obtain ⟨d0, d1, d2, es, eq⟩ := KS.out w' hE); go_simp; exact ⟨Below.refl _ _, rfl⟩)); (simp only [Act.put, List.setIfInBounds_toArray, List.set_cons_zero, List.set_cons_succ, List.cons_append, List.nil_append])
                (with_reducible apply wpF_val); (focus (intro vs w' hE hk; (obtain ⟨d0, d1, d2, es, eq⟩ := KS.out w' hE); go_simp; exact ⟨Below.refl _ _, rfl⟩)); (simp only [Act.put, List.setIfInBounds_toArray, List.set_cons_zero, List.set_cons_succ, List.cons_append, List.nil_append])
                (with_reducible apply wpF_val); (focus (intro vs w' hE hk; (obtain ⟨d0, d1, d2, es, eq⟩ := KS.out w' hE); go_simp; exact ⟨Below.refl _ _, rfl⟩)); (simp only [Act.put, List.setIfInBounds_toArray, List.set_cons_zero, List.set_cons_succ, List.cons_append, List.nil_append])
                (with_reducible apply wpF_val); (focus (intro vs w' hE hk; (obtain ⟨d0, d1, d2, es, eq⟩ := KS.out w' hE); go_simp; exact ⟨Below.refl _ _, rfl⟩)); (simp only [Act.put, List.setIfInBounds_toArray, List.set_cons_zero, List.set_cons_succ, List.cons_append, List.nil_append])
                (with_reducible apply wpF_val); (focus (intro vs w' hE hk; (obtain ⟨d0, d1, d2, es, eq⟩ := KS.out w' hE); go_simp; exact ⟨Below.refl _ _, rfl⟩)); (simp only [Act.put, List.setIfInBounds_toArray, List.set_cons_zero, List.set_cons_succ, List.cons_append, List.nil_append])
                (with_reducible apply wpF_val); (focus (intro vs w' hE hk; (obtain ⟨d0, d1, d2, es, eq⟩ := KS.out w' hE); go_simp; exact ⟨Below.refl _ _, rfl⟩)); (simp only [Act.put, List.setIfInBounds_toArray, List.set_cons_zero, List.set_cons_succ, List.cons_append, List.nil_append])
                (with_reducible apply wpF_val); (focus (intro vs w' hE hk; (obtain ⟨d0, d1, d2, es, eq⟩ := KS.out w' hE); go_simp; exact ⟨Below.refl _ _, rfl⟩)); (simp only [Act.put, List.setIfInBounds_toArray, List.set_cons_zero, List.set_cons_succ, List.cons_append, List.nil_append])
                (with_reducible apply wpF_val); (focus (intro vs w' hE hk; (obtain ⟨d0, d1, d2, es, eq⟩ := KS.out w' hE); go_simp; exact ⟨Below.refl _ _, rfl⟩)); (simp only [Act.put, List.setIfInBounds_toArray, List.set_cons_zero, List.set_cons_succ, List.cons_append, List.nil_append])
                (with_reducible apply wpF_val); (focus (intro vs w' hE hk; (obtain ⟨d0, d1, d2, es, eq⟩ := KS.out w' hE); go_simp; exact ⟨Below.refl _ _, rfl⟩)); (simp only [Act.put, List.setIfInBounds_toArray, List.set_cons_zero, List.set_cons_succ, List.cons_append, List.nil_append])
                (with_reducible apply wpF_val); (focus (intro vs w' hE hk; (obtain ⟨d0, d1, d2, es, eq⟩ := KS.out w' hE); go_simp; exact ⟨Below.refl _ _, rfl⟩)); (simp only [Act.put, List.setIfInBounds_toArray, List.set_cons_zero, List.set_cons_succ, List.cons_append, List.nil_append])
                (with_reducible apply wpF_val); (focus (intro vs w' hE hk; (obtain ⟨d0, d1, d2, es, eq⟩ := KS.out w' hE); go_simp; exact ⟨Below.refl _ _, rfl⟩)); (simp only [Act.put, List.setIfInBounds_toArray, List.set_cons_zero, List.set_cons_succ, List.cons_append, List.nil_append])
                (with_reducible apply wpF_val); (focus (intro vs w' hE hk; (obtain ⟨d0, d1, d2, es, eq⟩ := KS.out w' hE); go_simp; exact ⟨Below.refl _ _, rfl⟩)); (simp only [Act.put, List.setIfInBounds_toArray, List.set_cons_zero, List.set_cons_succ, List.cons_append, List.nil_append])
                (with_reducible apply wpF_val); (focus (intro vs w' hE hk; (obtain ⟨d0, d1, d2, es, eq⟩ := KS.out w' hE); go_simp; exact ⟨Below.refl _ _, rfl⟩)); (simp only [Act.put, List.setIfInBounds_toArray, List.set_cons_zero, List.set_cons_succ, List.cons_append, List.nil_append])
                (with_reducible apply wpF_val); (focus (intro vs w' hE hk; (obtain ⟨d0, d1, d2, es, eq⟩ := KS.out w' hE); go_simp; exact ⟨Below.refl _ _, rfl⟩)); (simp only [Act.put, List.setIfInBounds_toArray, List.set_cons_zero, List.set_cons_succ, List.cons_append, List.nil_append])
                (with_reducible apply wpF_val); (focus (intro vs w' hE hk; (obtain ⟨d0, d1, d2, es, eq⟩ := KS.out w' hE); go_simp; exact ⟨Below.refl _ _, rfl⟩)); (simp only [Act.put, List.setIfInBounds_toArray, List.set_cons_zero, List.set_cons_succ, List.cons_append, List.nil_append])
                (with_reducible apply wpF_val); (focus (intro vs w' hE hk; (obtain ⟨d0, d1, d2, es, eq⟩ := KS.out w' hE); go_simp; exact ⟨Below.refl _ _, rfl⟩)); (simp only [Act.put, List.setIfInBounds_toArray, List.set_cons_zero, List.set_cons_succ, List.cons_append, List.nil_append])
                (with_reducible apply wpF_val); (focus (intro vs w' hE hk; (obtain ⟨d0, d1, d2, es, eq⟩ := KS.out w' hE); go_simp; exact ⟨Below.refl _ _, rfl⟩)); (simp only [Act.put, List.setIfInBounds_toArray, List.set_cons_zero, List.set_cons_succ, List.cons_append, List.nil_append])
                (with_reducible apply wpF_val); (focus (intro vs w' hE hk; (obtain ⟨d0, d1, d2, es, eq⟩ := KS.out w' hE); go_simp; exact ⟨Below.refl _ _, rfl⟩)); (simp only [Act.put, List.setIfInBounds_toArray, List.set_cons_zero, List.set_cons_succ, List.cons_append, List.nil_append])
                (with_reducible apply wpF_val); (focus (intro vs w' hE hk; (obtain ⟨d0, d1, d2, es, eq⟩ := KS.out w' hE); go_simp; exact ⟨Below.refl _ _, rfl⟩)); (simp only [Act.put, List.setIfInBounds_toArray, List.set_cons_zero, List.set_cons_succ, List.cons_append, List.nil_append])
                (with_reducible apply wpF_val); (focus (intro vs w' hE hk; (obtain ⟨d0, d1, d2, es, eq⟩ := KS.out w' hE); go_simp; exact ⟨Below.refl _ _, rfl⟩)); (simp only [Act.put, List.setIfInBounds_toArray, List.set_cons_zero, List.set_cons_succ, List.cons_append, List.nil_append])
                (with_reducible apply wpF_val); (focus (intro vs w' hE hk; (obtain ⟨d0, d1, d2, es, eq⟩ := KS.out w' hE); go_simp; exact ⟨Below.refl _ _, rfl⟩)); (simp only [Act.put, List.setIfInBounds_toArray, List.set_cons_zero, List.set_cons_succ, List.cons_append, List.nil_append])
                (with_reducible apply wpF_val); (focus (intro vs w' hE hk; (obtain ⟨d0, d1, d2, es, eq⟩ := KS.out w' hE); go_simp; exact ⟨Below.refl _ _, rfl⟩)); (simp only [Act.put, List.setIfInBounds_toArray, List.set_cons_zero, List.set_cons_succ, List.cons_append, List.nil_append])
                (with_reducible apply wpF_val); (focus (intro vs w' hE hk; (obtain ⟨d0, d1, d2, es, eq⟩ := KS.out w' hE); go_simp; exact ⟨Below.refl _ _, rfl⟩)); (simp only [Act.put, List.setIfInBounds_toArray, List.set_cons_zero, List.set_cons_succ, List.cons_append, List.nil_append])
                (with_reducible apply wpF_val); (focus (intro vs w' hE hk; (obtain ⟨d0, d1, d2, es, eq⟩ := KS.out w' hE); go_simp; exact ⟨Below.refl _ _, rfl⟩)); (simp only [Act.put, List.setIfInBounds_toArray, List.set_cons_zero, List.set_cons_succ, List.cons_append, List.nil_append])
                (with_reducible apply wpF_val); (focus (intro vs w' hE hk; (obtain ⟨d0, d1, d2, es, eq⟩ := KS.out w' hE); go_simp; exact ⟨Below.refl _ _, rfl⟩)); (simp only [Act.put, List.setIfInBounds_toArray, List.set_cons_zero, List.set_cons_succ, List.cons_append, List.nil_append])
                refine wpF_nil (fun vs w5 hE hk => ?_)
                have B5 := Lib.hid (BW.out.trans (hE.mono BW.out.size))
                have B6 := Lib.hid (HB.out.trans (hE.mono HB.out.size))
                clear hE hk KS
                go_wp2_with fail
                go_roundw
                case rel => exact ⟨k + 1, by omega, by go_num, by rw [seamK_succ, HSK.out, HSt.out]; rfl, B6.out⟩
                case measure => simp [intOf]; omega
      · obtain rfl : k = N := by omega
        have HYes := Lib.hid (show res = true by rw [HRes.out]; exact HSK.out)
        go_wp2_with fail
        go_ret
        exact ⟨by rw [HYes.out] <;> rfl, BW.out⟩
  · rw [decide_eq_false hH, Bool.and_false, Bool.false_and]
    rw [← w.drewN_zero]
    go_enter Try.func70, Try.ntmps70
    go_wp2_with (go_at_call 61; refine (CI.out _).mono ?_; rintro _ _ ⟨_, rfl, rfl⟩)
    go_ret
    exact ⟨rfl, below_drewN (Below.refl _ _) _⟩
/-! ### sIsSeam -/
theorem c_sIsSeam (W H : Int) (zP : List Nat) (aP : Option Addr) (cP : Nat) (zS : List Int) (N : Nat) (hN : zS.length = N) (aS : Option Addr) (cS : Nat) (w : World) (rP : IsRowF .f32 w aP zP.length cP zP) (rS : IsRow .i64 w aS N cS zS) : Calls Try.prog 22 #[.agg #[.int .i64 W, .int .i64 H, .slice aP zP.length cP], .slice aS N cS] w (RetB (.bool (seamB W H zP zS)) w) := by
  generalize hw0 : w.alloc (Obj.cells #[.int .i64 W, .int .i64 H, .slice aP zP.length cP] 26) = w0
  have X0 : Var w0 w.heap.size #[.int .i64 W, .int .i64 H, .slice aP zP.length cP] := by subst hw0; exact Var.new _ _ _
  have X5 : Below w.heap.size w w0 := by subst hw0; exact (Below.refl _ _).alloc (Nat.le_refl _) _
  have HW := Lib.hid hw0
  have BW := Lib.hid X5
  have CL := Lib.hid (c_l07Is W H zP _ aP cP zS N hN aS cS w0 X0 (rP.below X5) (rS.below X5))
  clear hw0 X0 X5 rP rS hN
  go_enter Try.func22, Try.ntmps22
  go_wp2_with fail
  rw [HW.out]
  refine CL.out.mono ?_
  rintro _ w1 ⟨rfl, b⟩
  have B1 := Lib.hid (BW.out.trans (b.mono BW.out.size))
  clear b
  go_wp2_with fail
  go_ret
  exact ⟨rfl, B1.out⟩
/-! ### sidesOf -/
theorem c_sidesOf (W H : Int) (s : Value) (w : World) : Calls Try.prog 66 #[.agg #[.int .i64 W, .int .i64 H, s]] w (RetB (.agg #[.int .i64 W, .int .i64 H]) w) := by
  go_enter Try.func66, Try.ntmps66
  go_wp2
  exact bodyPost_ret (v := .agg #[.int .i64 W, .int .i64 H]) (by simp [results, Try.results66, go_sem]) rfl ⟨rfl, ((Below.refl _ _).alloc (Nat.le_refl _) _).alloc (by simp) _⟩
/-! ### allowed -/
theorem c_allowed (W H : Int) (w : World) : Calls Try.prog 112 #[.agg #[.int .i64 W, .int .i64 H]] w (RetB (.bool (sideB W H)) w) := by
  unfold sideB
  by_cases h1 : 1 ≤ W
  · by_cases h2 : W ≤ 16
    · by_cases h3 : 1 ≤ H
      · by_cases h4 : H ≤ 16
        all_goals
          go_enter Try.func112, Try.ntmps112
          go_wp2
          go_ret
          exact ⟨by simp [*] <;> (intros; omega), (Below.refl _ _).alloc (Nat.le_refl _) _⟩
      · go_enter Try.func112, Try.ntmps112
        go_wp2
        go_ret
        exact ⟨by simp [*] <;> (intros; omega), (Below.refl _ _).alloc (Nat.le_refl _) _⟩
    · go_enter Try.func112, Try.ntmps112
      go_wp2
      go_ret
      exact ⟨by simp [*] <;> (intros; omega), (Below.refl _ _).alloc (Nat.le_refl _) _⟩
  · go_enter Try.func112, Try.ntmps112
    go_wp2
    go_ret
    exact ⟨by simp [*] <;> (intros; omega), (Below.refl _ _).alloc (Nat.le_refl _) _⟩
/-! ### IsNaN -/
theorem c_IsNaN (v n : Nat) (w : World) (j : Nat) : Calls Try.prog 131 #[.float .f64 (pick .f64 v n)] (w.drewN j) (RetV (.bool (isN .f64 v)) w) := by
  go_enter Try.func131, Try.ntmps131
  go_wp2
  go_ret
  exact ⟨_, rfl, rfl⟩
/-! ### f64bits -/
@[go_sem] theorem e_f64bits (b : Nat) (w : World) : (callFunc 135 #[.float .f64 b]).run Try.prog w = .ok (.value (.int .u64 b)) w := by kernel_rfl
/-! ### f64from -/
@[go_sem] theorem e_f64from (n : Int) (w : World) : (callFunc 134 #[.int .u64 n]).run Try.prog w = .ok (.value (.float .f64 n.toNat)) w := by kernel_rfl
/-! ### Abs -/
theorem c_Abs (v n : Nat) (w : World) (j : Nat) (hv : v < 2 ^ FloatKind.f64.format.width) : Calls Try.prog 133 #[.float .f64 (pick .f64 v n)] (w.drewN j) (RetF .f64 (fabs .f64 v) w) := by
  have hb := abs_bits hv n
  go_enter Try.func133, Try.ntmps133
  go_wp2
  go_ret
  exact ⟨_, _, rfl, rfl⟩
/-! ### IsInf0 -/
theorem c_IsInf0 (v n : Nat) (w : World) (j : Nat) (hv : v < 2 ^ FloatKind.f64.format.width) : Calls Try.prog 132 #[.float .f64 (pick .f64 v n), .int .i64 0] (w.drewN j) (RetV (.bool (FloatKind.f64.format.order (fabs .f64 v) 9218868437227405311 == some .gt)) w) := by
  go_enter Try.func132, Try.ntmps132
  go_wp2_with ((go_at_call 133; refine (c_Abs _ _ _ _ hv).mono ?_; rintro _ _ ⟨_, _, rfl, rfl⟩))
  go_ret
  exact ⟨_, rfl, rfl⟩
/-! ### isFinite64 -/
theorem c_isFinite64 (v n : Nat) (w : World) (j : Nat) (hv : v < 2 ^ FloatKind.f64.format.width) : Calls Try.prog 129 #[.float .f64 (pick .f64 v n)] (w.drewN j) (RetV (.bool (finB .f64 v)) w) := by
  go_enter Try.func129, Try.ntmps129
  go_wp2_with (first | (go_at_call 131; refine (c_IsNaN _ _ _ _).mono ?_; rintro _ _ ⟨_, rfl, rfl⟩) | (go_at_call 132; refine (c_IsInf0 _ _ _ _ hv).mono ?_; rintro _ _ ⟨_, rfl, rfl⟩))
  all_goals
    go_ret
    refine ⟨_, ?_, rfl⟩
    rw [← abs_gt_max]
    simp [*]
/-! ### iIsFinite -/
theorem c_iIsFinite (v n : Nat) (w : World) (j : Nat) : Calls Try.prog 115 #[.float .f32 (pick .f32 v n)] (w.drewN j) (RetV (.bool (finB .f32 v)) w) := by
  go_enter Try.func115, Try.ntmps115
  go_wp2_with (first | (refine wpList_cvU rfl 38 42 _ rfl (Option.isSome_iff_exists.2 ⟨_, Try.underlying38⟩) Try.underlying42 _ rfl _ ?_; intro _ _) | (go_at_call 129; refine (c_isFinite64 _ _ _ _ (cvU_lt _)).mono ?_; rintro _ _ ⟨_, rfl, rfl⟩))
  go_ret
  rw [← finB_cvU]
  exact ⟨_, rfl, rfl⟩
/-! ### areFinite -/
theorem c_areFinite (a : Option Addr) (len cap : Nat) (zs : List Nat) (w : World) (j0 : Nat) (hr : IsRowF .f32 w a len cap zs) : Calls Try.prog 98 #[.slice a len cap] (w.drewN j0) (RetV (.bool (finL zs)) w) := by
  obtain ⟨h1, h2, h3, h4, h5⟩ := hr
  unfold maxLen at h3
  have H1 := Lib.hid h1
  clear h1
  go_enter Try.func98, Try.ntmps98
  go_wp2
  go_loopw [4, 7] (fun _ i wr => ∃ k m : Nat, k ≤ len ∧ i = .int .i64 k ∧ wr = w.drewN m ∧ finL (zs.take k) = true) (fun _ i _ => len - (intOf i).toNat)
  case atStart => exact ⟨0, j0, Nat.zero_le _, rfl, rfl, rfl⟩
  case round =>
    obtain ⟨k, m, hk, rfl, rfl, hfin⟩ := hrel
    have HFin := Lib.hid hfin
    clear hfin
    by_cases hlt : k < len
    · rcases h5 with h5 | ⟨b, off, rfl, hbl, hc⟩
      · omega
      have hcell : w.cell? ⟨b, off + k, none⟩ = some (.float .f32 (fat zs k)) := hc k hlt
      obtain ⟨n, hn⟩ := pick0 .f32 (fat zs k) (lt_of_wf (h4 _ (by unfold fat; rw [List.getD, List.getElem?_eq_getElem (by have := H1.out; omega)]; exact List.getElem_mem _)))
      rw [hn] at hcell
      have HS := Lib.hid (finL_snoc zs k (by have := H1.out; omega))
      cases hf : finB .f32 (fat zs k)
      · have HO := Lib.hid (finL_of zs k (by have := H1.out; omega) hf)
        clear hc h4 hn
        go_wp2_with ((go_at_call 115; refine (c_iIsFinite _ _ _ _).mono ?_; rintro _ _ ⟨_, rfl, rfl⟩))
        go_ret
        exact ⟨_, by rw [HO.out]; rfl, rfl⟩
      · have HF := Lib.hid hf
        clear hc h4 hn
        go_wp2_with ((go_at_call 115; refine (c_iIsFinite _ _ _ _).mono ?_; rintro _ _ ⟨_, rfl, rfl⟩))
        go_roundw
        case rel => exact ⟨k + 1, _, by omega, by go_num, rfl, by rw [HS.out, HFin.out, HF.out]; rfl⟩
        case measure => simp [intOf]; omega
    · have e : zs.take k = zs := List.take_of_length_le (by have := H1.out; omega)
      have HE := Lib.hid e
      clear h5 h4 e
      go_wp2
      go_ret
      exact ⟨_, by have h := HFin.out; rw [HE.out] at h; rw [h]; rfl, rfl⟩
/-! ### iValid -/
theorem c_areFinite0 (a : Option Addr) (len cap : Nat) (zs : List Nat) (w : World) (hr : IsRowF .f32 w a len cap zs) : Calls Try.prog 98 #[.slice a len cap] w (RetV (.bool (finL zs)) w) := by
  have h := c_areFinite a len cap zs w 0 hr
  rwa [w.drewN_zero] at h
theorem c_iValid (W H : Int) (a : Option Addr) (len cap : Nat) (zs : List Nat) (w : World) (hr : IsRowF .f32 w a len cap zs) :
    Calls Try.prog 64 #[.agg #[.int .i64 W, .int .i64 H, .slice a len cap]] w (RetB (.bool (validB W H zs)) w) := by
  have H1 := Lib.hid hr.1
  have HR := Lib.hid hr
  clear hr
  have two : ∀ s : Bool, sideB W H = s → (s = true → ∀ t : Bool, ((len : Int) == W * H) = t → (Calls Try.prog 64 #[.agg #[.int .i64 W, .int .i64 H, .slice a len cap]] w (RetB (.bool (validB W H zs)) w))) → (s = false → Calls Try.prog 64 #[.agg #[.int .i64 W, .int .i64 H, .slice a len cap]] w (RetB (.bool (validB W H zs)) w)) → Calls Try.prog 64 #[.agg #[.int .i64 W, .int .i64 H, .slice a len cap]] w (RetB (.bool (validB W H zs)) w) := by
    intro s hs h1 h2
    cases s
    · exact h2 rfl
    · exact h1 rfl _ rfl
  refine two _ rfl ?_ ?_
  · intro hs t ht
    obtain ⟨m1, m2⟩ := side_mul hs
    have mw : IntKind.i64.wrap (W * H) = W * H := IntWalk.i64_in _ (by omega)
    clear two
    cases t
    · have e : validB W H zs = false := by simp at ht; simp [validB, hs, H1.out, ht]
      have E := Lib.hid e
      have HT := Lib.hid hs
      clear e
      go_enter Try.func64, Try.ntmps64
      go_wp2_with fail
      refine (c_sidesOf W H _ _).mono ?_
      rintro _ w1 ⟨rfl, b1⟩
      obtain ⟨p0, p1, p2⟩ := ((Var.new _ _ _).keep b1).three
      have z1 : w.heap.size < w1.heap.size := by have := b1.size; simp at this; omega
      have B1 := Lib.hid (((Below.refl w.heap.size w).alloc (Nat.le_refl _) _).trans (b1.mono (by simp)))
      clear b1
      go_wp2_with fail
      refine (c_allowed W H _).mono ?_
      rintro _ w2 ⟨rfl, b2⟩
      rw [HT.out]
      have q0 := (b2.cell (p := ⟨w.heap.size, 0, none⟩) z1).trans p0
      have q1 := (b2.cell (p := ⟨w.heap.size, 1, none⟩) z1).trans p1
      have q2 := (b2.cell (p := ⟨w.heap.size, 2, none⟩) z1).trans p2
      have B2 := Lib.hid (B1.out.trans (b2.mono (by omega)))
      clear p0 p1 p2 b2 hs
      go_wp2_with fail
      go_ret
      exact ⟨by rw [E.out]; rfl, B2.out⟩
    · have e : validB W H zs = finL zs := by simp at ht; simp [validB, hs, H1.out, ht]
      have E := Lib.hid e
      have HT := Lib.hid hs
      clear e
      go_enter Try.func64, Try.ntmps64
      go_wp2_with fail
      refine (c_sidesOf W H _ _).mono ?_
      rintro _ w1 ⟨rfl, b1⟩
      obtain ⟨p0, p1, p2⟩ := ((Var.new _ _ _).keep b1).three
      have z1 : w.heap.size < w1.heap.size := by have := b1.size; simp at this; omega
      have B1 := Lib.hid (((Below.refl w.heap.size w).alloc (Nat.le_refl _) _).trans (b1.mono (by simp)))
      clear b1
      go_wp2_with fail
      refine (c_allowed W H _).mono ?_
      rintro _ w2 ⟨rfl, b2⟩
      rw [HT.out]
      have q0 := (b2.cell (p := ⟨w.heap.size, 0, none⟩) z1).trans p0
      have q1 := (b2.cell (p := ⟨w.heap.size, 1, none⟩) z1).trans p1
      have q2 := (b2.cell (p := ⟨w.heap.size, 2, none⟩) z1).trans p2
      have B2 := Lib.hid (B1.out.trans (b2.mono (by omega)))
      clear p0 p1 p2 b2 hs
      go_wp2_with fail
      refine (c_areFinite0 a len cap zs _ (HR.out.below B2.out)).mono ?_
      rintro _ w3 ⟨m, rfl, rfl⟩
      rw [← E.out]
      go_wp2_with fail
      go_ret
      exact ⟨rfl, below_drewN B2.out _⟩
  · intro hs
    have e : validB W H zs = false := by simp [validB, hs]
    have E := Lib.hid e
    have HT := Lib.hid hs
    clear e two
    go_enter Try.func64, Try.ntmps64
    go_wp2_with fail
    refine (c_sidesOf W H _ _).mono ?_
    rintro _ w1 ⟨rfl, b1⟩
    have B1 := Lib.hid (((Below.refl w.heap.size w).alloc (Nat.le_refl _) _).trans (b1.mono (by simp)))
    have z1 : w.heap.size < w1.heap.size := by have := b1.size; simp at this; omega
    clear b1
    go_wp2_with fail
    refine (c_allowed W H _).mono ?_
    rintro _ w2 ⟨rfl, b2⟩
    rw [HT.out]
    have B2 := Lib.hid (B1.out.trans (b2.mono (by omega)))
    clear b2 hs
    go_wp2_with fail
    go_ret
    exact ⟨by rw [E.out]; rfl, B2.out⟩
/-! ### iIsSeam -/
theorem c_iIsSeam (W H : Int) (zP : List Nat) (aP : Option Addr) (cP : Nat) (zS : List Int) (N : Nat) (hN : zS.length = N) (aS : Option Addr) (cS : Nat) (w : World) (rP : IsRowF .f32 w aP zP.length cP zP) (rS : IsRow .i64 w aS N cS zS) : Calls Try.prog 24 #[.agg #[.int .i64 W, .int .i64 H, .slice aP zP.length cP], .slice aS N cS] w (RetB (.bool (seamB W H zP zS)) w) := by
  generalize hw0 : w.alloc (Obj.cells #[.int .i64 W, .int .i64 H, .slice aP zP.length cP] 26) = w0
  have X0 : Var w0 w.heap.size #[.int .i64 W, .int .i64 H, .slice aP zP.length cP] := by subst hw0; exact Var.new _ _ _
  have X5 : Below w.heap.size w w0 := by subst hw0; exact (Below.refl _ _).alloc (Nat.le_refl _) _
  have HW := Lib.hid hw0
  have BW := Lib.hid X5
  have V0 := Lib.hid X0
  have R0 := Lib.hid (rS.below X5)
  have CV := Lib.hid (c_iValid W H aP _ cP zP w0 (rP.below X5))
  have hcm : N ≤ maxLen := Nat.le_trans rS.2.1 rS.2.2.1
  unfold maxLen at hcm
  clear hw0 X0 X5 rP rS
  unfold seamB
  rw [hN]
  clear hN
  cases hv : validB W H zP
  · rw [hv] at CV
    clear hv
    rw [Bool.false_and, Bool.false_and]
    obtain ⟨p0, p1, p2⟩ := V0.out.three
    go_enter Try.func24, Try.ntmps24
    go_wp2_with fail
    rw [HW.out]
    go_wp2_with fail
    refine CV.out.mono ?_
    rintro _ w1 ⟨rfl, b⟩
    have B1 := Lib.hid (BW.out.trans (b.mono BW.out.size))
    clear b p0 p1 p2
    go_wp2_with fail
    go_ret
    exact ⟨rfl, B1.out⟩
  rw [hv] at CV
  have hsb : sideB W H = true := by have h := hv; simp only [validB, Bool.and_eq_true] at h; exact h.1.1
  obtain ⟨⟨s1, s2⟩, s3, s4⟩ := sideB_true hsb
  clear hv hsb
  by_cases hH : (N : Int) = H
  · rw [decide_eq_true hH, Bool.true_and, Bool.true_and]
    subst hH
    obtain ⟨res, hres⟩ : ∃ r, r = seamK W zS N := ⟨_, rfl⟩
    have HRes := Lib.hid hres
    rw [← hres]
    clear hres
    obtain ⟨p0, p1, p2⟩ := V0.out.three
    go_enter Try.func24, Try.ntmps24
    go_wp2_with fail
    rw [HW.out]
    go_wp2_with fail
    refine CV.out.mono ?_
    rintro _ w1 ⟨rfl, b⟩
    have B1 := Lib.hid (BW.out.trans (b.mono BW.out.size))
    have V1 := Lib.hid (V0.out.keep b)
    have R1 := Lib.hid (R0.out.below b)
    clear b p0 p1 p2
    obtain ⟨p0, p1, p2⟩ := V1.out.three
    go_wp2_with fail
    clear p0 p1 p2
    go_loopw [5, 6, 19] (fun _ _ i wr => ∃ k : Nat, k ≤ N ∧ i = .int .i64 k ∧ seamK W zS k = true ∧ Below w1.heap.size w1 wr) (fun _ _ i _ => N - (intOf i).toNat)
    case atStart => exact ⟨0, Nat.zero_le _, rfl, rfl, Below.refl _ _⟩
    case round =>
      obtain ⟨k, hk, rfl, hsk, hB⟩ := hrel
      have HB := Lib.hid hB
      have HSK := Lib.hid hsk
      have B2 := Lib.hid (B1.out.trans (hB.mono B1.out.size))
      obtain ⟨p0, p1, p2⟩ := (V1.out.keep hB).three
      have RSr := Lib.hid (R1.out.below hB)
      clear hB hsk
      by_cases hlt : k < N
      · obtain ⟨bS, oS, haS, gS, eS⟩ := RSr.out.at hlt
        subst haS
        obtain ⟨s, hs⟩ : ∃ s, s = sg zS k := ⟨_, rfl⟩
        replace eS : wr.cell? ⟨bS, oS + k, none⟩ = some (.int .i64 s) := by rw [hs]; exact eS
        by_cases h1 : s < 0
        · have HNo := Lib.hid (show res = false by rw [HRes.out]; exact seamK_no (k := k) (by unfold stepOk; rw [← hs, decide_eq_false (show ¬ (0 ≤ s) by omega), Bool.false_and, Bool.false_and]) hlt)
          clear hs gS
          go_wp2_with fail
          go_ret
          exact ⟨by rw [HNo.out] <;> rfl, B2.out⟩
        by_cases h2 : W ≤ s
        · have HNo := Lib.hid (show res = false by rw [HRes.out]; exact seamK_no (k := k) (by unfold stepOk; rw [← hs, decide_eq_false (show ¬ (s ≤ W - 1) by omega), Bool.and_false, Bool.false_and]) hlt)
          clear hs gS
          go_wp2_with fail
          go_ret
          exact ⟨by rw [HNo.out] <;> rfl, B2.out⟩
        have hin : (decide (0 ≤ s) && decide (s ≤ W - 1)) = true := by simp; omega
        by_cases hk0 : k = 0
        · subst hk0
          have HSt := Lib.hid (show stepOk W zS 0 = true by unfold stepOk; rw [← hs, hin]; simp)
          rw [Nat.add_zero] at eS
          clear hin hs gS
          go_wp2_with fail
          go_roundw
          case rel => exact ⟨0 + 1, by omega, by go_num, by rw [seamK_succ, HSK.out, HSt.out]; rfl, HB.out⟩
          case measure => simp [intOf]; omega
        · obtain ⟨q, hq⟩ : ∃ q, k = q + 1 := ⟨k - 1, by omega⟩
          obtain ⟨p, hp⟩ : ∃ p, p = sg zS q := ⟨_, rfl⟩
          have hpi := step_in (seamK_at HSK.out (show q < k by omega))
          rw [← hp] at hpi
          obtain ⟨hp1, hp2⟩ := hpi
          obtain ⟨bS', oS', haS', _, eQ⟩ := RSr.out.at (i := q) (by omega)
          cases haS'
          replace eQ : wr.cell? ⟨bS, oS + q, none⟩ = some (.int .i64 p) := by rw [hp]; exact eQ
          have hst : stepOk W zS k = (decide (p - 1 ≤ s) && decide (s ≤ p + 1)) := by
            unfold stepOk
            rw [← hs, hin, decide_eq_false hk0, show k - 1 = q by omega, ← hp, Bool.true_and, Bool.false_or]
          have HST := Lib.hid hst
          have mk : IntKind.i64.wrap ((k : Int) - 1) = (q : Int) := by rw [IntWalk.i64_in _ (by omega)]; omega
          have mp : IntKind.i64.wrap (p + 1) = p + 1 := IntWalk.i64_in _ (by omega)
          have mm : IntKind.i64.wrap (p - 1) = p - 1 := IntWalk.i64_in _ (by omega)
          have hk1 : (0 : Int) < (k : Int) := by omega
          have hql : (q : Int) < (N : Int) := by omega
          clear hin hs hp hst hq gS
          by_cases hlo : s < p - 1
          · have HNo := Lib.hid (show res = false by rw [HRes.out]; exact seamK_no (k := k) (by rw [HST.out, decide_eq_false (show ¬ (p - 1 ≤ s) by omega), Bool.false_and]) hlt)
            go_wp2_with fail
            go_ret
            exact ⟨by rw [HNo.out] <;> rfl, B2.out⟩
          · by_cases hgt : p + 1 < s
            · have HNo := Lib.hid (show res = false by rw [HRes.out]; exact seamK_no (k := k) (by rw [HST.out, decide_eq_false (show ¬ (s ≤ p + 1) by omega), Bool.and_false]) hlt)
              go_wp2_with fail
              go_ret
              exact ⟨by rw [HNo.out] <;> rfl, B2.out⟩
            · have HSt := Lib.hid (show stepOk W zS k = true by rw [HST.out, decide_eq_true (show p - 1 ≤ s by omega), decide_eq_true (show s ≤ p + 1 by omega)]; rfl)
              go_wp2_with fail
              go_roundw
              case rel => exact ⟨k + 1, by omega, by go_num, by rw [seamK_succ, HSK.out, HSt.out]; rfl, HB.out⟩
              case measure => simp [intOf]; omega
      · obtain rfl : k = N := by omega
        have HYes := Lib.hid (show res = true by rw [HRes.out]; exact HSK.out)
        go_wp2_with fail
        go_ret
        exact ⟨by rw [HYes.out] <;> rfl, B2.out⟩
  · rw [decide_eq_false hH, Bool.and_false, Bool.false_and]
    obtain ⟨p0, p1, p2⟩ := V0.out.three
    go_enter Try.func24, Try.ntmps24
    go_wp2_with fail
    rw [HW.out]
    go_wp2_with fail
    refine CV.out.mono ?_
    rintro _ w1 ⟨rfl, b⟩
    have B1 := Lib.hid (BW.out.trans (b.mono BW.out.size))
    have V1 := Lib.hid (V0.out.keep b)
    clear b p0 p1 p2
    obtain ⟨p0, p1, p2⟩ := V1.out.three
    go_wp2_with fail
    go_ret
    exact ⟨rfl, B1.out⟩

/-! ### FnExactIsSeam -/
set_option maxHeartbeats 8000000 in
theorem walkG (WP HP : Int) (zP : List Nat) (aP : Option Addr) (cP : Nat) (zK : List Int) (aK : Option Addr) (cK : Nat) (w : World) (r : Bool) (cS : ∀ (aP : Option Addr) (cP : Nat) (aK : Option Addr) (cK : Nat) (w : World), IsRowF .f32 w aP zP.length cP zP → IsRow .i64 w aK zK.length cK zK → Calls Try.prog 22 #[.agg #[.int .i64 WP, .int .i64 HP, .slice aP zP.length cP], .slice aK zK.length cK] w (RetB (.bool r) w)) (cI : ∀ (aP : Option Addr) (cP : Nat) (aK : Option Addr) (cK : Nat) (w : World), IsRowF .f32 w aP zP.length cP zP → IsRow .i64 w aK zK.length cK zK → Calls Try.prog 24 #[.agg #[.int .i64 WP, .int .i64 HP, .slice aP zP.length cP], .slice aK zK.length cK] w (RetB (.bool r) w)) (rP : IsRowF .f32 w aP zP.length cP zP) (rK : IsRow .i64 w aK zK.length cK zK) (hlC : zK.length ≤ 1048576) (hl : zP.length ≤ 1048576) : Calls Try.prog 4 #[.agg #[.int .i64 WP, .int .i64 HP, .slice aP zP.length cP], .slice aK zK.length cK] w fun e w' => e = .returned (.bool true) ∧ Below w.heap.size w w' := by
  have CS := Lib.hid cS
  have CI := Lib.hid cI
  clear cS cI
  have RP := Lib.hid rP
  have RK := Lib.hid rK
  clear rP rK
  go_enter Try.func4, Try.ntmps4
  go_wp2_with fail
  refine (c_szP WP HP aP zP.length cP (1048576 : Int) _ (by omega) (by omega)).mono ?_
  rintro _ w1 ⟨rfl, b⟩
  have VpP_1 := Lib.hid ((Var.new' _ _ _ (w.heap.size) (by first | rfl | simp)).keep b)
  have B_1 := Lib.hid (((Below.refl w.heap.size w).alloc (Nat.le_refl _) _).trans (b.mono (by simp)))
  have S_1 : w.heap.size + 1 ≤ w1.heap.size := by have := b.size; simp at this; omega
  have zpP_1 : w.heap.size < w1.heap.size := by omega
  clear b
  have hzP : ¬ (((1048576 : Int) - (zP.length : Int)) < 0) := by omega
  obtain ⟨cpP0, cpP1, cpP2⟩ := VpP_1.out.three
  go_wp2_with fail
  clear cpP0 cpP1 cpP2
  refine (c_toP WP HP aP zP.length cP zP _ (RP.out.below B_1.out) (by omega)).mono ?_
  rintro _ w2 ⟨gt, rfl, b, o⟩
  have Lt := Lib.hid o.in
  have Ot_2 := Lib.hid o
  clear o
  have VpP_2 := Lib.hid (VpP_1.out.keep b)
  have B_2 := Lib.hid (B_1.out.trans (b.mono (by omega)))
  have S_2 : w1.heap.size + 0 ≤ w2.heap.size := by have := b.size; omega
  have zpP_2 : w.heap.size < w2.heap.size := by omega
  clear b
  clear VpP_1 zpP_1 B_1
  go_wp2_with fail
  refine (c_toI aK zK.length cK zK _ (RK.out.below B_2.out) (by omega)).mono ?_
  rintro _ w3 ⟨gtc, rfl, b, o⟩
  have Otc_3 := Lib.hid o
  clear o
  have VpP_3 := Lib.hid (VpP_2.out.keep b)
  have Ot_3 := Lib.hid (Ot_2.out.below b)
  have B_3 := Lib.hid (B_2.out.trans (b.mono (by omega)))
  have S_3 : w2.heap.size + 0 ≤ w3.heap.size := by have := b.size; omega
  have zpP_3 : w.heap.size < w3.heap.size := by omega
  clear b
  clear VpP_2 zpP_2 Ot_2 B_2
  go_wp2_with fail
  refine (CS.out _ _ _ _ _ Ot_3.out.row Otc_3.out.row).mono ?_
  rintro _ w4 ⟨rfl, b⟩
  have VpP_4 := Lib.hid (VpP_3.out.keep b)
  have Ot_4 := Lib.hid (Ot_3.out.below b)
  have Otc_4 := Lib.hid (Otc_3.out.below b)
  have B_4 := Lib.hid (B_3.out.trans (b.mono (by omega)))
  have S_4 : w3.heap.size + 0 ≤ w4.heap.size := by have := b.size; omega
  have zpP_4 : w.heap.size < w4.heap.size := by omega
  clear b
  clear VpP_3 zpP_3 Ot_3 Otc_3 B_3
  clear Ot_4 Lt
  clear Otc_4
  obtain ⟨cpP0, cpP1, cpP2⟩ := VpP_4.out.three
  go_wp2_with fail
  clear cpP0 cpP1 cpP2
  refine (c_toP WP HP aP zP.length cP zP _ (RP.out.below B_4.out) (by omega)).mono ?_
  rintro _ w5 ⟨gxP, rfl, b, o⟩
  have LxP := Lib.hid o.in
  have OxP_5 := Lib.hid o
  clear o
  have VpP_5 := Lib.hid (VpP_4.out.keep b)
  have B_5 := Lib.hid (B_4.out.trans (b.mono (by omega)))
  have S_5 : w4.heap.size + 0 ≤ w5.heap.size := by have := b.size; omega
  have zpP_5 : w.heap.size < w5.heap.size := by omega
  clear b
  clear VpP_4 zpP_4 B_4
  go_wp2_with fail
  refine (c_toI aK zK.length cK zK _ ((RK.out.below B_5.out).alloc _) (by omega)).mono ?_
  rintro _ w6 ⟨gxK, rfl, b, o⟩
  have OxK_6 := Lib.hid o
  clear o
  have VpP_6 := Lib.hid ((VpP_5.out.alloc _).keep b)
  have VxP_6 := Lib.hid ((Var.new' _ _ _ (w5.heap.size) (by first | rfl | simp)).keep b)
  have OxP_6 := Lib.hid ((OxP_5.out.alloc _).below b)
  have B_6 := Lib.hid ((B_5.out.alloc (by omega) _).trans (b.mono (by simp; omega)))
  have S_6 : w5.heap.size + 1 ≤ w6.heap.size := by have := b.size; simp at this; omega
  have zpP_6 : w.heap.size < w6.heap.size := by omega
  have zxP_6 : w5.heap.size < w6.heap.size := by omega
  clear b
  clear VpP_5 zpP_5 OxP_5 B_5
  obtain ⟨cxP0, cxP1, cxP2⟩ := VxP_6.out.three
  go_wp2_with fail
  clear cxP0 cxP1 cxP2
  refine (CI.out _ _ _ _ _ OxP_6.out.row OxK_6.out.row).mono ?_
  rintro _ w7 ⟨rfl, b⟩
  have VpP_7 := Lib.hid (VpP_6.out.keep b)
  have VxP_7 := Lib.hid (VxP_6.out.keep b)
  have OxP_7 := Lib.hid (OxP_6.out.below b)
  have OxK_7 := Lib.hid (OxK_6.out.below b)
  have B_7 := Lib.hid (B_6.out.trans (b.mono (by omega)))
  have S_7 : w6.heap.size + 0 ≤ w7.heap.size := by have := b.size; omega
  have zpP_7 : w.heap.size < w7.heap.size := by omega
  have zxP_7 : w5.heap.size < w7.heap.size := by omega
  clear b
  clear VpP_6 zpP_6 VxP_6 zxP_6 OxP_6 OxK_6 B_6
  obtain ⟨cpP0, cpP1, cpP2⟩ := VpP_7.out.three
  obtain ⟨cxP0, cxP1, cxP2⟩ := VxP_7.out.three
  go_wp2_with fail
  have D : Below w7.heap.size w7 w7.drew := (Below.refl _ _).drew
  have RD := Lib.hid ((RP.out.below B_7.out).below D)
  have XD := Lib.hid (OxP_7.out.below D)
  have HD := Lib.hid D
  clear D
  go_region_held3 (fun w' => w'.cell? ⟨w.heap.size, 0, none⟩ = some (.int .i64 WP) ∧ w'.cell? ⟨w.heap.size, 1, none⟩ = some (.int .i64 HP) ∧ w'.cell? ⟨w.heap.size, 2, none⟩ = some (.slice aP zP.length cP) ∧ w'.cell? ⟨w5.heap.size, 0, none⟩ = some (.int .i64 WP) ∧ w'.cell? ⟨w5.heap.size, 1, none⟩ = some (.int .i64 HP) ∧ w'.cell? ⟨w5.heap.size, 2, none⟩ = some (.slice (some ⟨gxP, 0, none⟩) zP.length zP.length)) (first | exact ⟨cpP0, cpP1, cpP2, cxP0, cxP1, cxP2⟩ | (have e1 := ((VpP_7.out.keep HD.out).keep b7).three; have e2 := ((VxP_7.out.keep HD.out).keep b7).three; exact ⟨e1.1, e1.2.1, e1.2.2, e2.1, e2.2.1, e2.2.2⟩) | (have e1 := (((VpP_7.out.keep HD.out).keep b7).keep b8).three; have e2 := (((VxP_7.out.keep HD.out).keep b7).keep b8).three; exact ⟨e1.1, e1.2.1, e1.2.2, e2.1, e2.2.1, e2.2.2⟩)) (first | (go_at_call 17; refine (c_toP WP HP aP zP.length cP zP _ RD.out (by omega)).mono ?_; rintro _ wt ⟨g7, rfl, b7, o7⟩) | (go_at_call 19; refine (c_eqP _ _ _ _ _ _ _ _ _ (XD.out.below b7).row o7.row).mono ?_; rintro _ w8 ⟨rfl, b8⟩))
  have b := HD.out.trans (b7.trans (b8.mono b7.size))
  clear RD XD HD b7 b8 o7
  clear cpP0 cpP1 cpP2 cxP0 cxP1 cxP2
  have VpP_8 := Lib.hid (VpP_7.out.keep b)
  have VxP_8 := Lib.hid (VxP_7.out.keep b)
  have OxP_8 := Lib.hid (OxP_7.out.below b)
  have OxK_8 := Lib.hid (OxK_7.out.below b)
  have B_8 := Lib.hid (B_7.out.trans (b.mono (by omega)))
  have S_8 : w7.heap.size + 0 ≤ w8.heap.size := by have := b.size; omega
  have zpP_8 : w.heap.size < w8.heap.size := by omega
  have zxP_8 : w5.heap.size < w8.heap.size := by omega
  clear b
  clear VpP_7 zpP_7 VxP_7 zxP_7 OxP_7 OxK_7 B_7
  go_wp2_with fail
  refine (c_toI aK zK.length cK zK _ (RK.out.below B_8.out) (by omega)).mono ?_
  rintro _ w9 ⟨gtc, rfl, b, o⟩
  have Otc_9 := Lib.hid o
  clear o
  have VpP_9 := Lib.hid (VpP_8.out.keep b)
  have VxP_9 := Lib.hid (VxP_8.out.keep b)
  have OxP_9 := Lib.hid (OxP_8.out.below b)
  have OxK_9 := Lib.hid (OxK_8.out.below b)
  have B_9 := Lib.hid (B_8.out.trans (b.mono (by omega)))
  have S_9 : w8.heap.size + 0 ≤ w9.heap.size := by have := b.size; omega
  have zpP_9 : w.heap.size < w9.heap.size := by omega
  have zxP_9 : w5.heap.size < w9.heap.size := by omega
  clear b
  clear VpP_8 zpP_8 VxP_8 zxP_8 OxP_8 OxK_8 B_8
  go_wp2_with fail
  refine (c_eqI _ _ _ _ _ _ _ OxK_9.out.row Otc_9.out.row).mono ?_
  rintro _ _ ⟨jx, rfl, rfl⟩
  have b : Below w9.heap.size w9 (w9.drewN jx) := below_drewN (Below.refl _ _) _
  generalize w9.drewN jx = w10 at *
  have VpP_10 := Lib.hid (VpP_9.out.keep b)
  have VxP_10 := Lib.hid (VxP_9.out.keep b)
  have OxP_10 := Lib.hid (OxP_9.out.below b)
  have OxK_10 := Lib.hid (OxK_9.out.below b)
  have Otc_10 := Lib.hid (Otc_9.out.below b)
  have B_10 := Lib.hid (B_9.out.trans (b.mono (by omega)))
  have S_10 : w9.heap.size + 0 ≤ w10.heap.size := by have := b.size; omega
  have zpP_10 : w.heap.size < w10.heap.size := by omega
  have zxP_10 : w5.heap.size < w10.heap.size := by omega
  clear b
  clear VpP_9 zpP_9 VxP_9 zxP_9 OxP_9 OxK_9 Otc_9 B_9
  clear Otc_10
  go_wp2_with fail
  go_ret
  exact ⟨rfl, B_10.out⟩
theorem walkL0 (WP HP : Int) (zP : List Nat) (aP : Option Addr) (cP : Nat) (zK : List Int) (aK : Option Addr) (cK : Nat) (w : World) (rP : IsRowF .f32 w aP zP.length cP zP) (rK : IsRow .i64 w aK zK.length cK zK) (hlC : zK.length ≤ 1048576)  (hm : zP.length ≤ maxLen) (hl : 1048576 < zP.length) : Calls Try.prog 4 #[.agg #[.int .i64 WP, .int .i64 HP, .slice aP zP.length cP], .slice aK zK.length cK] w fun e w' => e = .returned (.bool true) ∧ Below w.heap.size w w' := by
  unfold maxLen at hm
  have RP := Lib.hid rP
  have RK := Lib.hid rK
  clear rP rK
  go_enter Try.func4, Try.ntmps4
  go_wp2_with fail
  refine (c_szP_no WP HP aP zP.length cP (1048576 : Int) _ (by omega) (by omega)).mono ?_
  rintro _ w1 ⟨rfl, b⟩
  have VpP_1 := Lib.hid ((Var.new' _ _ _ (w.heap.size) (by first | rfl | simp)).keep b)
  have B_1 := Lib.hid (((Below.refl w.heap.size w).alloc (Nat.le_refl _) _).trans (b.mono (by simp)))
  have S_1 : w.heap.size + 1 ≤ w1.heap.size := by have := b.size; simp at this; omega
  have zpP_1 : w.heap.size < w1.heap.size := by omega
  clear b
  go_wp2_with fail
  go_ret
  exact ⟨rfl, B_1.out⟩
theorem walkR (WP HP : Int) (zP : List Nat) (aP : Option Addr) (cP : Nat) (zK : List Int) (aK : Option Addr) (cK : Nat) (w : World) (rP : IsRowF .f32 w aP zP.length cP zP) (rK : IsRow .i64 w aK zK.length cK zK) (gC : 1048576 < zK.length) : Calls Try.prog 4 #[.agg #[.int .i64 WP, .int .i64 HP, .slice aP zP.length cP], .slice aK zK.length cK] w fun e w' => e = .returned (.bool true) ∧ Below w.heap.size w w' := by
  go_enter Try.func4, Try.ntmps4
  go_wp2_with fail
  go_ret
  exact ⟨rfl, (Below.refl _ _).alloc (Nat.le_refl _) _⟩
theorem walk (WP HP : Int) (zP : List Nat) (aP : Option Addr) (cP : Nat) (aK : Option Addr) (lenK cK : Nat) (zK : List Int) (w : World) (rP : IsRowF .f32 w aP zP.length cP zP) (rK : IsRow .i64 w aK lenK cK zK) : Calls Try.prog 4 #[.agg #[.int .i64 WP, .int .i64 HP, .slice aP zP.length cP], .slice aK lenK cK] w fun e w' => e = .returned (.bool true) ∧ Below w.heap.size w w' := by
  obtain rfl := rK.1
  by_cases gC : 1048576 < zK.length
  · exact walkR WP HP zP aP cP zK aK cK w rP rK gC
  have mP : zP.length ≤ maxLen := Nat.le_trans rP.2.1 rP.2.2.1
  by_cases g0 : 1048576 < zP.length
  · exact walkL0 WP HP zP aP cP zK aK cK w rP rK (by omega)  mP g0
  exact walkG WP HP zP aP cP zK aK cK w (seamB WP HP zP zK) (fun aP cP aK cK w rP rK => c_sIsSeam WP HP zP aP cP zK zK.length rfl aK cK w rP rK ) (fun aP cP aK cK w rP rK => c_iIsSeam WP HP zP aP cP zK zK.length rfl aK cK w rP rK ) rP rK (by omega) (by omega)

theorem own : ownKnob Try.prog.godebug = none := by kernel_rfl
theorem laidOut : laidOutB Try.prog = true := by kernel_rfl
set_option maxRecDepth 100000 in
theorem lifted (os : Os) (started : os.Started) (H : Type) (enc : TypeId × Value → H) :
    ReturnsInHanded {} Try.checked os 4 .any (Rows.fnExactIsSeamSpec.pre6 enc Try.prog Try.f4 Rows.fnExactIsSeamRow.domain false) (Rows.fnExactIsSeamSpec.post enc Try.prog Try.f4 false true false false) := by
  refine returnsInHanded_of_change (C := Try.checked) own started (by kernel_rfl) Try.func4
    (ChangeSpec.witness6 (enc := enc) (C := Try.checked) false ⟨#[], #[.agg #[.int .i64 0, .int .i64 0, .slice none 0 0], .slice none 0 0], []⟩ 8 (by kernel_rfl) (by kernel_rfl) (by kernel_rfl) (by kernel_rfl)) ?_
  intro W base args ds gs before hval0 hW hcnd _
  have hval : ∀ (j : Nat) t v, Try.f4.params[j]? = some t → args[j]? = some v → Value.okWide Try.prog W .any base t v := hval0
  have hW' := hW
  obtain ⟨p, q, hA0, hV, rfl, hfz, hnd⟩ := hW
  have hA : DataW.TrodAll enc Try.prog W 0 (fun _ => true) true Try.f4.params.toList args.toList ds p := hA0
  rw [Try.params4] at hA hval
  obtain ⟨v0, vs0, d0, ds0, p0, q0, hargs, rfl, rfl, h0, r0⟩ := trodAll_cons hA
  obtain ⟨v1, vs1, d1, ds1, p1, q1, rfl, rfl, rfl, h1, r1⟩ := trodAll_cons r0
  obtain ⟨rfl, rfl, rfl⟩ := trodAll_nil r1
  obtain rfl : args = #[v0, v1] := by cases args; simp_all
  obtain ⟨rfl, rfl⟩ := trodVars_none hV
  have k0 := h0
  have lt0 : ∀ x ∈ p0, x.block < W.heap.size := by obtain ⟨m, hm⟩ := k0; exact DataW.trod_lt m _ _ _ hm
  obtain ⟨W0, H0, z0, a0, c0, rfl, wW0, wH0, w0⟩ := open_pic Try.underlying24 (by kernel_rfl) (by kernel_rfl) Try.underlying2 Try.underlying2 Try.underlying22 Try.underlying38 (by kernel_rfl) (hval 0 24 v0 rfl rfl) h0
  obtain ⟨a1, len1, cap1, rfl⟩ := okWide_slice Try.underlying33 (hval 1 33 v1 rfl rfl)
  have k1 := h1
  have lt1 : ∀ x ∈ p1, x.block < W.heap.size := by obtain ⟨m, hm⟩ := k1; exact DataW.trod_lt m _ _ _ hm
  obtain ⟨z1, w1⟩ := rowI_of Try.underlying33 Try.underlying2 (by kernel_rfl) h1
  clear hA0 hval0
  have hw0 : Calls Try.prog 4 #[.agg #[.int .i64 W0, .int .i64 H0, .slice a0 z0.length c0], .slice a1 len1 cap1] W fun e w' => e = .returned (.bool true) ∧ Below W.heap.size W w' := by
    exact walk W0 H0 z0 a0 c0 a1 len1 cap1 z1 W w0 w1
  refine hw0.mono fun e W' ⟨he, bel⟩ => ?_
  subst he
  exact ⟨_, rfl, _, _, _, [], _, [], hW', trodAll_mk1 (shut_bool Try.underlying4 _), (trodAll_cons_mk (Below.trod laidOut (by kernel_rfl) (of_decide_eq_true (by kernel_rfl)) k0 bel lt0) (trodAll_cons_mk (Below.trod laidOut (by kernel_rfl) (of_decide_eq_true (by kernel_rfl)) k1 bel lt1) trodAll_mk0)), rfl, bel.frame _, fun h => by cases h⟩

theorem over : Rows.fnExactIsSeamRow.holds Try.pinned (OpenSpec.ofChange Rows.fnExactIsSeamSpec) :=
  OpenClaim.holds_of_wide 4 Try.f4 rfl rfl rfl rfl rfl rfl rfl ⟨rfl, rfl, rfl, rfl, rfl⟩ rfl rfl rfl rfl rfl (by kernel_rfl) Try.func4 (by kernel_rfl)
    (of_decide_eq_true (by kernel_rfl)) (by unfold Func.isWrapper; first | (rw [if_pos (by decide +kernel)]; kernel_rfl) | (rw [if_neg (by decide +kernel)]; exact ⟨rfl, rfl⟩))
    (fun os started H enc _ => lifted os started H enc)

theorem proved : Rows.FnExactIsSeamSaid := over
#print axioms proved

end Go.Proofs.Ytclbliflmhjebaa.fnExactIsSeam

/-
  The first part of what FnExactTiltSphere needs.
-/
import Derived.Test.YtmngedfibmnohabRows
import Derived.Test.YtmngedfibmnohabRow
import Derived.Test.YtmngedfibmnohabLg
import Derived.Test.YtmngedfibmnohabCx
import Derived.Test.YtmngedfibmnohabTi
import Derived.Test.YtmngedfibmnohabMn
import Derived.Test.YtmngedfibmnohabLv
import Derived.Test.YtmngedfibmnohabOw
import Derived.Test.YtmngedfibmnohabAp
import Derived.ProofKit
import Derived.OpenShut
import Derived.ShutString
import Derived.ChangeOld
import Derived.Below
import Derived.Lib.Hide
import Derived.Outline
import Derived.Deep.RegionHeld3
import Derived.Deep.DeepCutAuto
set_option linter.unusedSimpArgs false
set_option linter.unusedVariables false
set_option exponentiation.threshold 2000
set_option maxRecDepth 20000
set_option maxHeartbeats 4000000
namespace Go.Proofs.Ytmngedfibmnohab.fnExactTiltSphere
open Go Go.Proofs.Ytmngedfibmnohab Go.Proofs
open Go.ChangeShapes Go.WideShapes Go.ChangeAt Go.RowKit
open Go.ChangeMaps (open_string shut_string)
/-! ### szPicture -/
theorem c_szF (a : Option Addr) (len cap : Nat) (L : Int) (w : World) (h : (len : Int) ≤ L) (hL : L ≤ 1048576) : Calls Try.prog 51 #[.slice a len cap, .int .i64 L] w (fun e w' => e = .returned (.int .i64 (L - (len : Int))) ∧ w' = w) := by
  have h' : ¬ (L - (len : Int) < 0) := by omega
  go_enter Try.func51, Try.ntmps51
  go_wp2
  go_ret
  exact ⟨rfl, rfl⟩
theorem c_szF_no (a : Option Addr) (len cap : Nat) (L : Int) (w : World) (h : L < len) (hL : 0 ≤ L) (hm : len ≤ 9223372036854775807) : Calls Try.prog 51 #[.slice a len cap, .int .i64 L] w (fun e w' => e = .returned (.int .i64 (-1)) ∧ w' = w) := by
  have h' : L - (len : Int) < 0 := by omega
  go_enter Try.func51, Try.ntmps51
  go_wp2
  go_ret
  exact ⟨rfl, rfl⟩
theorem c_szP (W H : Int) (a : Option Addr) (len cap : Nat) (L : Int) (w : World) (h : (len : Int) ≤ L) (hL : L ≤ 1048576) : Calls Try.prog 15 #[.agg #[.int .i64 W, .int .i64 H, .slice a len cap], .int .i64 L] w (RetB (.int .i64 (L - (len : Int))) w) := by
  have h' : ¬ (L - (len : Int) < 0) := by omega
  go_enter Try.func15, Try.ntmps15
  go_wp2_with (go_at_call 51; refine (c_szF a len cap L _ h hL).mono ?_; rintro _ _ ⟨rfl, rfl⟩)
  go_ret
  exact ⟨rfl, (Below.refl _ _).alloc (Nat.le_refl _) _⟩
theorem c_szP_no (W H : Int) (a : Option Addr) (len cap : Nat) (L : Int) (w : World) (h : L < len) (hL : 0 ≤ L ∧ len ≤ 9223372036854775807) : Calls Try.prog 15 #[.agg #[.int .i64 W, .int .i64 H, .slice a len cap], .int .i64 L] w (RetB (.int .i64 (-1)) w) := by
  go_enter Try.func15, Try.ntmps15
  go_wp2_with (go_at_call 51; refine (c_szF_no a len cap L _ h hL.1 hL.2).mono ?_; rintro _ _ ⟨rfl, rfl⟩)
  go_ret
  exact ⟨rfl, (Below.refl _ _).alloc (Nat.le_refl _) _⟩
/-! ### toOwn -/
theorem infoFo : (Try.prog.info? 26).map (fun i => (i.zero, i.size, i.bytes)) = some (some (.float .f32 0), 1, 4) := by kernel_rfl
theorem c_toO (a : Option Addr) (len cap : Nat) (zs : List Nat) (w : World) (hr : IsRowF .f32 w a len cap zs) (hl : len ≤ 1048576) : Calls Try.prog 39 #[.slice a len cap] w (NewO 26 len zs w) := by
  obtain ⟨i0, hi, hz0, hz1, hz2⟩ := info_parts infoFo
  obtain ⟨h1, h2, h3, h4, h5⟩ := hr
  go_enter Try.func39, Try.ntmps39
  go_wp2_with (at_make; refine wpList_make_full _ rfl _ _ 22 rfl w.heap.size 26 i0 (.float .f32 0) 1 Try.underlying22 hi hz0 hz1 _ _ _ _ len rfl rfl rfl rfl (by rw [hz2]; omega) (by unfold maxLen; omega) (by simp) ?_; intro w1 hown hgrow)
  have hblk := block_of_owns hown
  have e0 : (madeCells (Value.float FloatKind.f32 0).cells (len * 1)).toList = List.replicate len (.float .f32 0) := by rw [Nat.mul_one]; exact made_zeros _ _
  rw [e0] at hblk
  have hbel : Below w.heap.size w w1 := (Below.refl _ _).grown hgrow (Nat.le_refl _) (by simp)
  have HB := Lib.hid hblk
  clear hown hgrow hblk e0 hz0 hz1 hz2
  go_loopw [4] (fun i wr => ∃ j : Nat, j ≤ len ∧ i = .int .i64 j ∧ Below w.heap.size w wr ∧ wr.heap[w.heap.size]? = some (.cells (fl .f32 (zs.take j) ++ List.replicate (zs.length - j) (Value.float .f32 0)).toArray 26 (0, 0))) (fun i _ => len - (intOf i).toNat)
  case atStart => exact ⟨0, Nat.zero_le _, rfl, hbel, by rw [HB.out, h1]; rfl⟩
  case round =>
    obtain ⟨j, hj, rfl, hb, hblk⟩ := hrel
    have Hblk := Lib.hid hblk
    clear hblk
    by_cases hlt : j < len
    · rcases h5 with h5 | ⟨b, off, rfl, hbl, hc⟩
      · omega
      have hcell : wr.cell? ⟨b, off + j, none⟩ = some (.float .f32 (fat zs j)) := by rw [hb.cell (p := ⟨b, off + j, none⟩) hbl]; exact hc j hlt
      have hold : wr.cell? ⟨w.heap.size, j, none⟩ = some (.float .f32 0) := by
        rw [cell_of_block Hblk.out, List.getElem?_append_right (by simp [fl]; omega)]
        have e : (fl FloatKind.f32 (List.take j zs)).length = j := by simp [fl]; omega
        rw [e, Nat.sub_self, List.getElem?_replicate, if_pos (by omega)]
      have hfz : wr.frozen? ⟨w.heap.size, j, none⟩ = false := frozen_of_block Hblk.out j
      have hset := block_set Hblk.out j (.float .f32 (fat zs j))
      rw [set_step zs _ j (by omega)] at hset
      have Hset := Lib.hid hset
      clear hset hc
      go_wp2
      go_roundw
      case rel => exact ⟨j + 1, by omega, by go_num, hb.setCell (Nat.le_refl _) _, Hset.out⟩
      case measure => simp [intOf]; omega
    · obtain rfl : j = len := by omega
      have e1 : fl .f32 (zs.take j) ++ List.replicate (zs.length - j) (Value.float .f32 0) = fl .f32 zs := by rw [h1, Nat.sub_self, List.replicate_zero, List.append_nil, List.take_of_length_le (by omega)]
      have hblk2 := Hblk.out
      rw [e1] at hblk2
      have hown : Own 26 wr w.heap.size (some ⟨w.heap.size, 0, none⟩) j j zs :=
        ⟨h1, ⟨by simp [fl, h1], .inr ⟨w.heap.size, j, _, rfl, Nat.le_refl _, hblk2, Nat.le_refl _, by unfold maxLen; omega, by simp [fl, h1], by rw [List.take_of_length_le (by simp [fl, h1])]⟩⟩, h4⟩
      have HO := Lib.hid hown
      clear hown hblk2 e1
      go_wp2
      go_ret
      exact ⟨w.heap.size, rfl, hb, HO.out⟩
/-! ### toPicture -/
theorem c_toP (W H : Int) (a : Option Addr) (len cap : Nat) (zs : List Nat) (w : World) (hr : IsRowF .f32 w a len cap zs) (hl : len ≤ 1048576) : Calls Try.prog 17 #[.agg #[.int .i64 W, .int .i64 H, .slice a len cap]] w (NewP 26 W H zs w) := by
  have HR := Lib.hid hr
  have HL := Lib.hid hr.1
  clear hr
  go_enter Try.func17, Try.ntmps17
  go_wp2_with fail
  refine (c_toO a len cap zs _ (HR.out.below ((((Below.refl _ _).alloc (Nat.le_refl _) _).alloc (by simp) _).alloc (by simp; omega) _)) hl).mono ?_
  rintro _ w1 ⟨g, rfl, hb, hown⟩
  obtain ⟨hc, hf⟩ := bcell hb
  have hz : w.heap.size + 1 + 1 < w1.heap.size := by have := hb.size; simp at this; omega
  have hg' : w.heap.size + 1 + 1 < g := by have := hown.lt.1; simp at this; omega
  have HB := Lib.hid hb
  have HO := Lib.hid hown
  clear hb hown
  go_wp2_with fail
  refine bodyPost_ret (v := .agg #[.int .i64 W, .int .i64 H, .slice (some ⟨g, 0, none⟩) len len]) (by simp [results, Try.results17, hc, hz, go_sem]) rfl ⟨g, by rw [HL.out], ?_, ?_⟩
  · exact ((((((((Below.refl _ _).alloc (Nat.le_refl _) _).alloc (by simp) _).alloc (by simp; omega) _).trans (HB.out.mono (by simp; omega))).setCell (by simp; omega) _).setCell (by simp) _).setCell (by simp) _).setCell (by simp) _
  · rw [HL.out]
    exact ((((HO.out.setCell (by simp [blk]; omega) _).setCell (by simp [blk]; omega) _).setCell (by simp [blk]; omega) _).setCell (by simp [blk]; omega) _).mono (by simp; omega)
/-! ### sameFloat -/
theorem c_sameFloat (v n m : Nat) (w : World) (j : Nat) : Calls Try.prog 19 #[.float .f64 (pick .f64 v n), .float .f64 (pick .f64 v m)] (w.drewN j) (RetV (.bool true) w) := by
  have hs := self_ne .f64 v
  have ht := self_eq .f64 v
  cases h : isN .f64 v
  · rw [h] at hs ht
    cases h2 : (FloatKind.f64.format.order v 0 == some .eq)
    · go_enter Try.func19, Try.ntmps19
      go_wp2_with (first | (refine wpList_fop rfl _ _ _ _ _ rfl _ _ _ rfl rfl (by decide) _ ?_; intro _ _) | (refine upon_fop _ _ _ _ _ (by decide) ?_; intro _ _))
      go_ret
      exact ⟨_, rfl, rfl⟩
    · go_enter Try.func19, Try.ntmps19
      go_wp2_with (first | (refine wpList_fop rfl _ _ _ _ _ rfl _ _ _ rfl rfl (by decide) _ ?_; intro _ _) | (refine upon_fop _ _ _ _ _ (by decide) ?_; intro _ _))
      go_ret
      exact ⟨_, by simp, rfl⟩
  · rw [h] at hs ht
    go_enter Try.func19, Try.ntmps19
    go_wp2_with (first | (refine wpList_fop rfl _ _ _ _ _ rfl _ _ _ rfl rfl (by decide) _ ?_; intro _ _) | (refine upon_fop _ _ _ _ _ (by decide) ?_; intro _ _))
    go_ret
    exact ⟨_, rfl, rfl⟩

/-! ### eqFloat32S -/
theorem c_eqF (a b : Option Addr) (len c d : Nat) (zs : List Nat) (w : World) (j0 : Nat) (hr : IsRowF .f32 w a len c zs) (hs : IsRowF .f32 w b len d zs) : Calls Try.prog 33 #[.slice a len c, .slice b len d] (w.drewN j0) (RetV (.bool true) w) := by
  obtain ⟨h1, h2, h3, h4, h5⟩ := hr
  obtain ⟨g1, g2, g3, g4, g5⟩ := hs
  unfold maxLen at h3
  go_enter Try.func33, Try.ntmps33
  go_wp2
  go_loopw [5] (fun i wr => ∃ k m : Nat, k ≤ len ∧ i = .int .i64 k ∧ wr = w.drewN m) (fun i _ => len - (intOf i).toNat)
  case atStart => exact ⟨0, j0, Nat.zero_le _, rfl, rfl⟩
  case round =>
    obtain ⟨k, m, hk, rfl, rfl⟩ := hrel
    by_cases hlt : k < len
    · rcases h5 with h5 | ⟨x, off, rfl, hbl, hc⟩
      · omega
      rcases g5 with g5 | ⟨y, off2, rfl, gbl, gc⟩
      · omega
      have hcell : w.cell? ⟨x, off + k, none⟩ = some (.float .f32 (fat zs k)) := hc k hlt
      have gcell : w.cell? ⟨y, off2 + k, none⟩ = some (.float .f32 (fat zs k)) := gc k hlt
      clear hc h4 gc g4
      go_wp2
      refine wp_region_N (fun _ _ u => u = .bool true) (by kernel_rfl) (by kernel_rfl) ?_; (repeat (first | ((with_reducible show wpN _ _ _ _ _ (Oper.mk _ (Op.binOp _ _ _ _ _) _ _ _ none :: _) _); refine wpN_fop rfl _ _ _ _ _ rfl _ _ _ rfl rfl (by decide) ?_; intro _) | ((with_reducible show wpN _ _ _ _ _ (Oper.mk _ (Op.convert _ _ _) _ _ _ none :: _) _); refine wpN_cvU rfl 26 32 _ rfl (Option.isSome_iff_exists.2 ⟨_, Try.underlying26⟩) Try.underlying32 _ rfl ?_; intro _) | ((with_reducible show wpN _ _ _ _ _ (Oper.mk _ _ _ _ _ (some _) :: _) _); (with_reducible refine wpN_off ?_ ?_); focus rfl; (simp only [Act.put, List.setIfInBounds_toArray, List.set_cons_zero, List.set_cons_succ])) | ((with_reducible show wpN _ _ _ _ _ (Oper.mk _ _ _ _ _ (some _) :: _) _); ((with_reducible refine wpN_on ?_ (fun K hK => ?_)); (focus rfl); intro _; go_simp; first | (refine uponN_value (hK _ ?_)) | ((refine uponN_call (callN rfl (c_sameFloat _ _ _ _ _)) ?_; intro u hu; obtain rfl : u = _ := hu); refine hK _ ?_)); clear hK K) | (((with_reducible refine wpN_plain rfl (fun K hK => ?_)); intro _; go_simp; first | (refine uponN_value (hK _ ?_)) | ((refine uponN_call (callN rfl (c_sameFloat _ _ _ _ _)) ?_; intro u hu; obtain rfl : u = _ := hu); refine hK _ ?_)); clear hK K) | ((with_reducible refine wpN_step (fun K hK => ?_)); go_simp; first | (refine hK _ ?_) | (intro _; first | (refine uponN_value (hK _ ?_)) | ((refine uponN_call (callN rfl (c_sameFloat _ _ _ _ _)) ?_; intro u hu; obtain rfl : u = _ := hu); refine hK _ ?_)); clear hK K))); refine wpN_nil ?_; intro _
      go_wp2
      go_roundw
      case rel => exact ⟨k + 1, _, by omega, by go_num, rfl⟩
      case measure => simp [intOf]; omega
    · clear h5 h4 g4 g5
      go_wp2
      go_ret
      exact ⟨_, rfl, rfl⟩
/-! ### eqPicture -/
theorem c_eqF0 (a b : Option Addr) (len c d : Nat) (zs : List Nat) (w : World) (hr : IsRowF .f32 w a len c zs) (hs : IsRowF .f32 w b len d zs) : Calls Try.prog 33 #[.slice a len c, .slice b len d] w (RetV (.bool true) w) := by
  have h := c_eqF a b len c d zs w 0 hr hs
  rwa [w.drewN_zero] at h
theorem c_eqP (W H : Int) (a b : Option Addr) (len c d : Nat) (zs : List Nat) (w : World) (hr : IsRowF .f32 w a len c zs) (hs : IsRowF .f32 w b len d zs) : Calls Try.prog 20 #[.agg #[.int .i64 W, .int .i64 H, .slice a len c], .agg #[.int .i64 W, .int .i64 H, .slice b len d]] w (RetB (.bool true) w) := by
  have HR := Lib.hid hr
  have HS := Lib.hid hs
  clear hr hs
  go_enter Try.func20, Try.ntmps20
  go_wp2_with fail
  refine (c_eqF0 a b len c d zs _ ((HR.out.alloc _).alloc _) ((HS.out.alloc _).alloc _)).mono ?_
  rintro _ _ ⟨m, rfl, rfl⟩
  go_wp2_with fail
  go_ret
  exact ⟨rfl, below_drewN (((Below.refl _ _).alloc (Nat.le_refl _) _).alloc (by simp) _) _⟩
/-! ### markFloat32S -/
theorem c_markF {T : TypeId} (B : Nat) (a : Option Addr) (len cap k : Nat) (zs : List Nat) (w : World) (hr : Own T w B a len cap zs) (hk : k + len ≤ 4611686018427387904) : Calls Try.prog 34 #[.slice a len cap, .int .i64 k] w (fun e w' => e = .returned (.int .i64 ((k + len : Nat) : Int)) ∧ w.grownBy w' (blk a) ∧ Own T w' B a len cap (marks k len)) := by
  rcases hr.parts with ⟨rfl, rfl, rfl, rfl⟩ | ⟨g, cur, rfl, hb, hg, hl, hm, hs, ht⟩
  · clear hr
    go_enter Try.func34, Try.ntmps34
    go_wp2
    refine wp_loop_rounds 1 ?_; rw [rounds_succ]
    go_wp2
    go_ret
    exact ⟨rfl, ⟨rfl, rfl, rfl, Nat.le_refl _, fun _ _ _ => rfl⟩, Own.nil _ _ _⟩
  · have h0 : Marked w g T cap k 0 := ⟨cur, hg, hs, fun i hi => by omega⟩
    have H0 := Lib.hid h0
    unfold maxLen at hm
    clear hr hg hs ht h0
    go_enter Try.func34, Try.ntmps34
    go_wp2
    go_loopw [1, 5] (fun t i wr => ∃ j : Nat, j ≤ len ∧ i = .int .i64 j ∧ t = .int .i64 ((k + j : Nat) : Int) ∧ w.grownBy wr (some g) ∧ Marked wr g T cap k j) (fun _ i _ => len - (intOf i).toNat)
    case atStart => exact ⟨0, Nat.zero_le _, rfl, rfl, ⟨rfl, rfl, rfl, Nat.le_refl _, fun _ _ _ => rfl⟩, H0.out⟩
    case round =>
      obtain ⟨j, hj, rfl, rfl, hgr, hM⟩ := hrel
      by_cases hlt : j < len
      · obtain ⟨v, hcell, hfz⟩ := hM.cell (j := j) (by omega)
        have hM2 := Lib.hid (hM.step (by omega : j < cap))
        have hG2 := Lib.hid hgr
        clear hM hgr
        go_wp2
        go_roundw
        case rel => exact ⟨j + 1, by omega, by go_num, by go_num, ⟨hG2.out.os, hG2.out.tape, hG2.out.output, by have := hG2.out.size; simpa using this, fun k' h1 h2 => by rw [Below.heap_setCell _ _ _ _ (fun e => h2 (by rw [e]))]; exact hG2.out.block k' h1 h2⟩, hM2.out⟩
        case measure => simp [intOf]; omega
      · obtain rfl : j = len := by omega
        have hO := Lib.hid (hM.own (B := B) hb hl (by unfold maxLen; omega))
        have hG2 := Lib.hid hgr
        clear hM hgr
        go_wp2
        go_ret
        exact ⟨rfl, hG2.out, hO.out⟩
/-! ### heldFloat32S -/
theorem c_heldF (a : Option Addr) (len cap k : Nat) (w : World) (hr : IsRowF .f32 w a len cap (marks k len)) (hk : k + len ≤ 4611686018427387904) : Calls Try.prog 35 #[.slice a len cap, .int .i64 k] w (fun e w' => e = .returned (.int .i64 ((k + len : Nat) : Int)) ∧ w' = w) := by
  obtain ⟨h1, h2, h3, h4, h5⟩ := hr
  unfold maxLen at h3
  clear h1 h4
  go_enter Try.func35, Try.ntmps35
  go_wp2
  go_loop [1, 5] (fun t i => ∃ j : Nat, j ≤ len ∧ i = .int .i64 j ∧ t = .int .i64 ((k + j : Nat) : Int)) (fun _ i => len - (intOf i).toNat)
  case atStart => exact ⟨0, Nat.zero_le _, rfl, rfl⟩
  case round =>
    obtain ⟨j, hj, rfl, rfl⟩ := hrel
    by_cases hlt : j < len
    · rcases h5 with h5 | ⟨b, off, rfl, hbl, hc⟩
      · omega
      have hcell : w.cell? ⟨b, off + j, none⟩ = some (.float .f32 (markN k j)) := by rw [← marks_at k len j hlt]; exact hc j hlt
      have hne : (FloatKind.f32.format.order (markN k j) (markN k j) != some .eq) = false := by rw [self_ne]; exact markN_notN k j
      have hE : floatOfInt .f32 ((k : Int) + (j : Int)) = markN k j := by unfold markN; rw [Int.natCast_add]
      have hne2 : (FloatKind.f32.format.order (markN k j) (floatOfInt .f32 ((k : Int) + (j : Int))) != some .eq) = false := (congrArg (fun x => FloatKind.f32.format.order (markN k j) x != some .eq) hE).trans hne
      clear hE
      clear hc
      go_wp2
      go_round
      case rel => exact ⟨j + 1, by omega, by go_num, by go_num⟩
      case measure => simp [intOf]; omega
    · obtain rfl : j = len := by omega
      clear h5
      go_wp2
      go_ret
      exact ⟨rfl, rfl⟩
/-! ### markPicture -/
theorem c_markP (W H : Int) (B : Nat) (a : Option Addr) (len cap k : Nat) (zs : List Nat) (w : World) (hr : Own 26 w B a len cap zs) (hk : k + len ≤ 4611686018427387904) : Calls Try.prog 26 #[.agg #[.int .i64 W, .int .i64 H, .slice a len cap], .int .i64 k] w (fun e w' => e = .returned (.int .i64 ((k + len : Nat) : Int)) ∧ w.grownBy w' (blk a) ∧ Own 26 w' B a len cap (marks k len)) := by
  have HR := Lib.hid hr
  clear hr
  go_enter Try.func26, Try.ntmps26
  go_wp2_with fail
  refine (c_markF B a len cap k zs _ (HR.out.alloc _) hk).mono ?_
  rintro _ w1 ⟨rfl, hg, hO⟩
  have HG := Lib.hid hg
  have HO := Lib.hid hO
  clear hg hO
  go_wp2_with fail
  go_ret
  exact ⟨rfl, ⟨HG.out.os, HG.out.tape, HG.out.output, by have := HG.out.size; simp at this; omega, fun k' h1 h2 => by rw [HG.out.block k' (by simp; omega) h2]; exact Below.heap_alloc _ _ _ h1⟩, HO.out⟩
theorem c_heldP (W H : Int) (a : Option Addr) (len cap k : Nat) (w : World) (hr : IsRowF .f32 w a len cap (marks k len)) (hk : k + len ≤ 4611686018427387904) : Calls Try.prog 27 #[.agg #[.int .i64 W, .int .i64 H, .slice a len cap], .int .i64 k] w (RetB (.int .i64 ((k + len : Nat) : Int)) w) := by
  have HR := Lib.hid hr
  clear hr
  have h0 : 0 ≤ ((k + len : Nat) : Int) := by omega
  go_enter Try.func27, Try.ntmps27
  go_wp2_with fail
  refine (c_heldF a len cap k _ (HR.out.alloc _) hk).mono ?_
  rintro _ w1 ⟨rfl, rfl⟩
  go_wp2_with fail
  go_ret
  exact ⟨rfl, (Below.refl _ _).alloc (Nat.le_refl _) _⟩

/-! ### varSet -/
theorem var_setAt {w : World} {b i : Nat} {cs : Array Value} (h : Var w b cs) (hi : i < cs.size) (v : Value) : Var (w.setCell ⟨b, i, none⟩ v) b (cs.set i v hi) := by
  refine ⟨by simpa using h.1, fun j hj => ?_⟩
  have hj' : j < cs.size := by simpa using hj
  by_cases e : i = j
  · subst e
    rw [Array.getElem_set_self]
    exact World.cell?_setCell_same w _ _ (h.2 i hi)
  · rw [Array.getElem_set_ne _ _ e]
    rw [World.cell?_setCell_other w ⟨b, i, none⟩ ⟨b, j, none⟩ v (fun h2 => e (by have := congrArg Addr.off h2; simpa using this))]
    exact h.2 j hj'
/-! ### picDefs -/
def sideB (W H : Int) : Bool := decide (1 ≤ W) && decide (W ≤ 16) && (decide (1 ≤ H) && decide (H ≤ 16))
def finL (zs : List Nat) : Bool := zs.all (finB .f32)
def validB (W H : Int) (zs : List Nat) : Bool := sideB W H && decide ((zs.length : Int) = W * H) && finL zs
theorem sideB_true {W H : Int} (h : sideB W H = true) : (1 ≤ W ∧ W ≤ 16) ∧ 1 ≤ H ∧ H ≤ 16 := by simpa [sideB, and_assoc] using h
theorem side_mul {W H : Int} (h : sideB W H = true) : 1 ≤ W * H ∧ W * H ≤ 256 := by
  obtain ⟨⟨h1, h2⟩, h3, h4⟩ := sideB_true h
  have : W * H ≤ 16 * 16 := Int.mul_le_mul h2 h4 (by omega) (by omega)
  have h5 : 1 * 1 ≤ W * H := Int.mul_le_mul h1 h3 (by omega) (by omega)
  omega
theorem sideB_false {W H : Int} (h : sideB W H = false) : W < 1 ∨ 16 < W ∨ H < 1 ∨ 16 < H := by
  simp [sideB] at h; omega
theorem finL_snoc (zs : List Nat) (k : Nat) (hk : k < zs.length) : finL (zs.take (k + 1)) = (finL (zs.take k) && finB .f32 (fat zs k)) := by
  unfold finL fat
  rw [List.take_succ_eq_append_getElem hk, List.all_append, List.getD, List.getElem?_eq_getElem hk]; simp
theorem finL_of (zs : List Nat) (k : Nat) (hk : k < zs.length) (h : finB .f32 (fat zs k) = false) : finL zs = false := by
  unfold finL
  rw [List.all_eq_false]
  refine ⟨zs[k], List.getElem_mem hk, ?_⟩
  unfold fat at h
  rw [List.getD, List.getElem?_eq_getElem hk] at h
  simpa using h
theorem pick0 (k : FloatKind) (v : Nat) (hv : v < 2 ^ k.format.width) : ∃ n, v = pick k v n := pick_onto k v hv
/-! ### meanDefs -/
def meanV (zs : List Nat) : Nat := fop .quo .f32 (sumF .add .f32 0 zs) (floatOfInt .f32 (zs.length : Int))
def numR (v : Nat) : Nat × Bool := if finB .f32 v = true then (v, true) else (0, false)
def meanR (W H : Int) (zs : List Nat) : Nat × Bool := if validB W H zs = true then numR (meanV zs) else (0, false)
theorem mean_len {W H : Int} {zs : List Nat} (h : validB W H zs = true) : zs.length ≤ 256 := by
  simp only [validB, Bool.and_eq_true, decide_eq_true_eq] at h
  obtain ⟨⟨h1, h2⟩, h3⟩ := h
  have := side_mul h1
  omega
theorem pick00 : pick .f32 0 0 = 0 := pick_not (show isN .f32 0 = false from by decide +kernel) 0
/-! ### colDefs -/
def colB (r g b : Nat) : Bool := finB .f32 r && (finB .f32 g && finB .f32 b)
def greyV (r g b : Nat) : Nat := fop .add .f32 (fop .add .f32 (fop .mul .f32 1046066128 r) (fop .mul .f32 1060575065 g)) (fop .mul .f32 1033100696 b)
def greyR (r g b : Nat) : Nat × Bool := if colB r g b = true then numR (greyV r g b) else (0, false)
theorem retF1no {w : World} {e : Ending} {w' : World} (h : e = .returned (.tuple #[.float .f32 0, .bool false])) (hw : Below w.heap.size w w') : RetF1 (0, false) w e w' := ⟨0, by rw [h]; simp only [pick00], hw⟩
theorem fin3 (a b c n m l : Nat) : finL [pick .f32 a n, pick .f32 b m, pick .f32 c l] = colB a b c := by simp [finL, finB_pick, colB]
/-! ### wayDefs -/
def nzB (v : Nat) : Bool := FloatKind.f32.format.order v 0 != some .eq
def wayB (r g b : Nat) : Bool := colB r g b && (nzB r || (nzB g || nzB b))
/-! ### mulInf -/
theorem inf_notfin (s : Bool) : finB .f32 (FloatKind.f32.format.write (.infinity s)) = false := by cases s <;> decide +kernel
theorem rung_split {v : Nat} (h : finB .f32 v = false) (hn : isN .f32 v = false) : FloatKind.f32.format.read v = .infinity (sgn FloatKind.f32.format v) := by
  have h1 : ¬ rung FloatKind.f32.format v < FloatKind.f32.format.infRung := of_decide_eq_false h
  have h2 := isN_rung' .f32 v
  rw [hn] at h2
  have h3 := of_decide_eq_false h2.symm
  exact read_inf .f32 v (by omega)
/-- A product with a factor that isn't finite isn't finite. -/
theorem mul_notfin (x : Nat) {v : Nat} (hv : finB .f32 v = false) : finB .f32 (fop .mul .f32 x v) = false := by
  cases h : isN .f32 v
  · have h3 := rung_split hv h
    cases hx : isN .f32 x
    · cases hf : finB .f32 x
      · have h4 := rung_split hf hx
        have e : fop .mul .f32 x v = FloatKind.f32.format.write (.infinity (sgn FloatKind.f32.format x ^^ sgn FloatKind.f32.format v)) := by
          unfold fop floatBits Ieee.Format.mul
          simp only [h3, h4, Ieee.Datum.product]
          rfl
        rw [e]; exact inf_notfin _
      · obtain ⟨m, e, h4, _, _⟩ := read_fin FloatKind.f32.format x (of_decide_eq_true hf)
        by_cases hm : m = 0
        · have e : fop .mul .f32 x v = qn .f32 := by
            unfold fop floatBits Ieee.Format.mul
            simp only [h3, h4, Ieee.Datum.product, hm, if_true]
            rfl
          rw [e]; exact finB_nan (isN_qn .f32)
        · have e : fop .mul .f32 x v = FloatKind.f32.format.write (.infinity (sgn FloatKind.f32.format v ^^ sgn FloatKind.f32.format x)) := by
            unfold fop floatBits Ieee.Format.mul
            simp only [h3, h4, Ieee.Datum.product, hm, if_false]
            rfl
          rw [e]; exact inf_notfin _
    · exact finB_nan (isN_fop_l v hx)
  · exact finB_nan (isN_fop_r x h)

/-! ### wayFacts -/
theorem quo_inf {x v : Nat} (hx : finB .f32 x = true) (hv : finB .f32 v = false) (hn : isN .f32 v = false) : nzB (fop .quo .f32 x v) = false := by
  have h3 := rung_split hv hn
  obtain ⟨m, e, h4, _, _⟩ := read_fin FloatKind.f32.format x (of_decide_eq_true hx)
  have e : fop .quo .f32 x v = FloatKind.f32.format.write (.number (sgn FloatKind.f32.format x ^^ sgn FloatKind.f32.format v) 0 0) := by
    unfold fop floatBits Ieee.Format.div
    simp only [h3, h4, Ieee.Datum.quotient]
    rfl
  rw [e]
  generalize (sgn FloatKind.f32.format x ^^ sgn FloatKind.f32.format v) = s
  cases s <;> decide +kernel
def rootV (v : Nat) : Nat := cvN (fsqrt (cvU v))
theorem root_notfin {v : Nat} (h : finB .f32 v = false) : finB .f32 (rootV v) = false := by
  unfold rootV
  cases hn : isN .f32 v
  · have h1 : ¬ rung FloatKind.f32.format v < FloatKind.f32.format.infRung := of_decide_eq_false h
    have h2 := isN_rung' .f32 v
    rw [hn] at h2
    have h3 := of_decide_eq_false h2.symm
    have h4 : rung Ieee.single v = Ieee.single.infRung := by
      have : rung FloatKind.f32.format v = FloatKind.f32.format.infRung := by omega
      exact this
    have h5 : cvU v = Ieee.double.word (sgn Ieee.single v) Ieee.double.infRung := by unfold cvU; rw [cvU_inf h4]; rfl
    rw [h5]
    generalize sgn Ieee.single v = s
    cases s <;> decide +kernel
  · rw [cvU_qn hn]; decide +kernel
def t0 : (Nat × Nat × Nat) × Bool := ((0, 0, 0), false)
def giveW (t : Nat × Nat × Nat) : (Nat × Nat × Nat) × Bool := if wayB t.1 t.2.1 t.2.2 = true then (t, true) else t0
theorem unit_no {x y z r : Nat} (hx : finB .f32 x = true) (hy : finB .f32 y = true) (hz : finB .f32 z = true) (hr : finB .f32 r = false) : wayB (fop .quo .f32 x r) (fop .quo .f32 y r) (fop .quo .f32 z r) = false := by
  unfold wayB
  cases hn : isN .f32 r
  · rw [quo_inf hx hr hn, quo_inf hy hr hn, quo_inf hz hr hn]; simp
  · have : colB (fop .quo .f32 x r) (fop .quo .f32 y r) (fop .quo .f32 z r) = false := by
      unfold colB; rw [finB_nan (isN_fop_r x hn)]; rfl
    rw [this]; rfl
def innV (x y z a b c : Nat) : Nat := fop .add .f32 (fop .add .f32 (fop .mul .f32 x a) (fop .mul .f32 y b)) (fop .mul .f32 z c)
def unitT (x y z r : Nat) : Nat × Nat × Nat := (fop .quo .f32 x r, fop .quo .f32 y r, fop .quo .f32 z r)
def unitW (x y z : Nat) : (Nat × Nat × Nat) × Bool := if wayB x y z = true then giveW (unitT x y z (rootV (innV x y z x y z))) else t0
theorem unitW_no {x y z : Nat} (h : wayB x y z = false ∨ finB .f32 (innV x y z x y z) = false) : unitW x y z = t0 := by
  unfold unitW
  cases hw : wayB x y z
  · rfl
  · rcases h with h | h
    · rw [h] at hw; cases hw
    · rw [if_pos rfl]
      have hc : colB x y z = true := by unfold wayB at hw; rw [Bool.and_eq_true] at hw; exact hw.1
      unfold colB at hc
      simp only [Bool.and_eq_true] at hc
      have := unit_no hc.1 hc.2.1 hc.2.2 (root_notfin h)
      unfold giveW unitT
      rw [this]; rfl
def innR (x y z a b c : Nat) : Nat × Bool := if (wayB x y z && wayB a b c) = true then numR (innV x y z a b c) else (0, false)
/-! ### way2Defs -/
def WayB2 (t : (Nat × Nat × Nat) × Bool) (w : World) (e : Ending) (w' : World) : Prop := ∃ n m k, e = .returned (.tuple #[.agg #[.float .f32 (pick .f32 t.1.1 n), .float .f32 (pick .f32 t.1.2.1 m), .float .f32 (pick .f32 t.1.2.2 k)], .bool t.2]) ∧ Below w.heap.size w w'
def WayR (t : Nat × Nat × Nat) (w : World) (e : Ending) (w' : World) : Prop := ∃ n m k, e = .returned (.agg #[.float .f32 (pick .f32 t.1 n), .float .f32 (pick .f32 t.2.1 m), .float .f32 (pick .f32 t.2.2 k)]) ∧ Below w.heap.size w w'
theorem WayB2.no {w : World} {e : Ending} {w' : World} (h : e = .returned (.tuple #[.agg #[.float .f32 0, .float .f32 0, .float .f32 0], .bool false])) (b : Below w.heap.size w w') : WayB2 t0 w e w' := ⟨0, 0, 0, by rw [h]; simp only [t0, pick00], b⟩
def RetN (v : Nat) (w : World) (e : Ending) (w' : World) : Prop := ∃ n, e = .returned (.float .f32 (pick .f32 v n)) ∧ Below w.heap.size w w'
theorem giveW_lt_no {r g b : Nat} (h : wayB r g b = false) : giveW (r, g, b) = t0 := by unfold giveW; rw [h]; rfl
theorem giveW_yes {r g b : Nat} (h : wayB r g b = true) : giveW (r, g, b) = ((r, g, b), true) := by unfold giveW; rw [h]; rfl
/-! ### zeDefs -/
theorem grown_set (w : World) (a : Addr) (v : Value) : w.grownBy (w.setCell a v) (some a.block) :=
  ⟨by simp [World.setCell], by simp [World.setCell], by simp [World.setCell], by simp, fun k _ hk => Below.heap_setCell w a v k (fun e => hk (by rw [e]))⟩
theorem grown_trans {a b c : World} {row : Option Nat} (h : a.grownBy b row) (h' : b.grownBy c row) : a.grownBy c row :=
  ⟨h'.os.trans h.os, h'.tape.trans h.tape, h'.output.trans h.output, Nat.le_trans h.size h'.size, fun i hi hn => (h'.block i (Nat.lt_of_lt_of_le hi h.size) hn).trans (h.block i hi hn)⟩
def HasZ (z : Nat) (a : World) : Prop := ∃ x y u, Var a z #[x, y, u]
def Writ (z : Nat) (t : Nat × Nat × Nat) (a : World) : Prop := ∃ n m k, Var a z #[.float .f32 (pick .f32 t.1 n), .float .f32 (pick .f32 t.2.1 m), .float .f32 (pick .f32 t.2.2 k)]
/-- Nothing old is changed but the block z, and what is written there, once, stays. -/
structure ZE (z : Nat) (t : Nat × Nat × Nat) (a b : World) : Prop where
  g : a.grownBy b (some z)
  f : Free a z → Free b z
  h : HasZ z a → HasZ z b
  k : Writ z t a → Writ z t b
theorem ZE.of_below {z : Nat} {t : Nat × Nat × Nat} {a b : World} (hz : z < a.heap.size) (h : Below a.heap.size a b) : ZE z t a b :=
  ⟨⟨h.os, h.tape, h.output, h.size, fun i hi _ => h.block i hi⟩, fun f => f.below hz h, fun ⟨x, y, u, v⟩ => ⟨x, y, u, v.keep h⟩, fun ⟨n, m, k, v⟩ => ⟨n, m, k, v.keep h⟩⟩
theorem ZE.refl {z : Nat} {t : Nat × Nat × Nat} (a : World) : ZE z t a a :=
  ⟨⟨rfl, rfl, rfl, Nat.le_refl _, fun _ _ _ => rfl⟩, fun f => f, fun h => h, fun h => h⟩
theorem ZE.trans {z : Nat} {t : Nat × Nat × Nat} (a b c : World) (h : ZE z t a b) (h' : ZE z t b c) : ZE z t a c :=
  ⟨⟨h'.g.os.trans h.g.os, h'.g.tape.trans h.g.tape, h'.g.output.trans h.g.output, Nat.le_trans h.g.size h'.g.size, fun i hi hn => (h'.g.block i (Nat.lt_of_lt_of_le hi h.g.size) hn).trans (h.g.block i hi hn)⟩, fun f => h'.f (h.f f), fun q => h'.h (h.h q), fun q => h'.k (h.k q)⟩
theorem ZE.store {z n m k : Nat} {t : Nat × Nat × Nat} {a : World} (hz : HasZ z a) : ZE z t a (((a.setCell ⟨z, 0, none⟩ (.float .f32 (pick .f32 t.1 n))).setCell ⟨z, 1, none⟩ (.float .f32 (pick .f32 t.2.1 m))).setCell ⟨z, 2, none⟩ (.float .f32 (pick .f32 t.2.2 k))) ∧ Writ z t (((a.setCell ⟨z, 0, none⟩ (.float .f32 (pick .f32 t.1 n))).setCell ⟨z, 1, none⟩ (.float .f32 (pick .f32 t.2.1 m))).setCell ⟨z, 2, none⟩ (.float .f32 (pick .f32 t.2.2 k))) := by
  obtain ⟨x, y, u, V⟩ := hz
  have W := var_setAt (var_setAt (var_setAt V (i := 0) (by simp) (.float .f32 (pick .f32 t.1 n))) (i := 1) (by simp) (.float .f32 (pick .f32 t.2.1 m))) (i := 2) (by simp) (.float .f32 (pick .f32 t.2.2 k))
  have hw : Writ z t (((a.setCell ⟨z, 0, none⟩ (.float .f32 (pick .f32 t.1 n))).setCell ⟨z, 1, none⟩ (.float .f32 (pick .f32 t.2.1 m))).setCell ⟨z, 2, none⟩ (.float .f32 (pick .f32 t.2.2 k))) := ⟨n, m, k, W⟩
  have g1 := grown_set a ⟨z, 0, none⟩ (.float .f32 (pick .f32 t.1 n))
  have g2 := grown_set (a.setCell ⟨z, 0, none⟩ (.float .f32 (pick .f32 t.1 n))) ⟨z, 1, none⟩ (.float .f32 (pick .f32 t.2.1 m))
  have g3 := grown_set ((a.setCell ⟨z, 0, none⟩ (.float .f32 (pick .f32 t.1 n))).setCell ⟨z, 1, none⟩ (.float .f32 (pick .f32 t.2.1 m))) ⟨z, 2, none⟩ (.float .f32 (pick .f32 t.2.2 k))
  exact ⟨⟨grown_trans (grown_trans g1 g2) g3, fun f => ((f.setCell _ _).setCell _ _).setCell _ _, fun _ => ⟨_, _, _, W⟩, fun _ => hw⟩, hw⟩
/-! ### fbFacts -/
theorem nearest_sgn' (f : Ieee.Format) (neg : Bool) (m : Nat) (e : Int) : sgn f (f.write (.number neg m e)) = neg := nearest_sgn f neg m e
theorem mul_self_sgn {t : Nat} (ht : rung Ieee.double t < Ieee.double.infRung) : sgn Ieee.double (fop .mul .f64 t t) = false := by
  obtain ⟨m, e, r1, _, _⟩ := read_fin Ieee.double t ht
  have hf : FloatKind.f64.format = Ieee.double := rfl
  have h : fop .mul .f64 t t = Ieee.double.write (.number (sgn Ieee.double t ^^ sgn Ieee.double t) (m * m) (e + e)) := by
    unfold fop floatBits
    rw [hf]
    simp only [Ieee.Format.mul, r1, Ieee.Datum.product, Option.map_some, Option.getD_some]
  rw [h, nearest_sgn', Bool.xor_self]
theorem one_read : ∃ M : Nat, M = 2 ^ 52 ∧ Ieee.double.read one64 = .number false M (-52) := ⟨4503599627370496, by decide, by decide +kernel⟩
theorem one_add_sgn {p : Nat} (hp : rung Ieee.double p < Ieee.double.infRung) (hs : sgn Ieee.double p = false) : sgn Ieee.double (fop .add .f64 one64 p) = false := by
  obtain ⟨m, e, r1, _, _⟩ := read_fin Ieee.double p hp
  obtain ⟨M, hM, r2⟩ := one_read
  rw [hs] at r1
  have hf : FloatKind.f64.format = Ieee.double := rfl
  have h : ∃ t : Nat, fop .add .f64 one64 p = Ieee.double.write (.number (if (t : Int) = 0 then false && false else decide ((t : Int) < 0)) (t : Int).natAbs (min (-52) e)) := by
    refine ⟨M <<< (-52 - min (-52) e).toNat + m <<< (e - min (-52) e).toNat, ?_⟩
    unfold fop floatBits
    rw [hf]
    simp only [Ieee.Format.add, r1, r2, Ieee.Datum.sum, Ieee.signed, Option.map_some, Option.getD_some, Bool.false_eq_true, if_false, Int.natCast_add]
  obtain ⟨t, h⟩ := h
  rw [h, nearest_sgn']
  split
  · rfl
  · exact decide_eq_false (by omega)
theorem sqrt_num {x : Nat} (hx : rung Ieee.double x < Ieee.double.infRung) (hs : sgn Ieee.double x = false) : isN .f64 (fsqrt x) = false := by
  obtain ⟨m, e, r1, _, _⟩ := read_fin Ieee.double x hx
  rw [hs] at r1
  have h : ∃ r, Ieee.double.sqrt x = some r := by
    unfold Ieee.Format.sqrt
    rw [r1]
    unfold Ieee.Datum.root
    dsimp only
    by_cases hm : m = 0
    · rw [if_pos hm]; exact ⟨_, rfl⟩
    · rw [if_neg hm, if_neg (by decide)]; exact ⟨_, rfl⟩
  obtain ⟨r, hr⟩ := h
  unfold fsqrt
  rw [hr]
  exact sqrt_notNaN hr
theorem stepT_fb {t : Nat} (h : Fb 1074 t) : Fb 1074 (stepT t) := by
  have h1 := mulF (c := 1074) h h (by omega) (by omega)
  have s1 := mul_self_sgn h.1
  have h2 : Fb 1075 (fop .add .f64 one64 (fop .mul .f64 t t)) := addF (a := 1074) (Fb_const (by decide +kernel)) h1 (by omega) (by omega) (by omega)
  have s2 := one_add_sgn h1.1 s1
  have h3 : Fb 1075 (fsqrt (fop .add .f64 one64 (fop .mul .f64 t t))) := Fb_of (sqrtD (c := 1075) h2.bd (by omega) (by omega)) (sqrt_num h2.1 s2)
  have h4 := sqrt_sign h2.1
  unfold stepT
  rcases one_add h3.bd h4 (by omega) (by omega) with h5 | h5
  · rw [fop_fin_notN (.inl rfl) (Fb_const (c := 1074) (x := one64) (by decide +kernel)).1 h3.1] at h5; cases h5
  · exact quoF h h5 (by omega) (by omega)
theorem iterT_fb {t : Nat} (h : Fb 1074 t) : ∀ i, Fb 1074 (iterT t i)
  | 0 => h
  | i + 1 => stepT_fb (iterT_fb h i)
theorem aser_fb {u : Nat} (hu : Fb 1074 u) : ∀ i, i ≤ 8 → Fb (1074 + i) (aser u i)
  | 0, _ => Fb_const (c := 1074) (x := 0) (by decide +kernel)
  | i + 1, hi => by
    have h1 := mulF (c := 1074 + i) hu (aser_fb hu i (by omega)) (by omega) (by omega)
    have h2 := quoF (a := 1074) (c := 1074) (x := one64) (Fb_const (by decide +kernel)) (odd_lb i (by omega)) (by omega) (by omega)
    exact subF h2 h1 (by omega) (by omega) (by omega)
theorem flatA_fb {t : Nat} (h : Fb 1074 t) : Fb 1085 (flatA t) := by
  have h3 := iterT_fb h 3
  have hu := mulF (c := 1074) h3 h3 (by omega) (by omega)
  have hp := aser_fb hu 8 (by omega)
  have h4 := mulF (c := 1082) h3 hp (by omega) (by omega)
  have h5 := mulF (a := 1077) (c := 1085) (x := eight64) (Fb_const (by decide +kernel)) h4 (by omega) (by omega)
  exact quoF (b := 1074) h5 (Lb_const (by decide +kernel)) (by omega) (by omega)
theorem angW_fb {y x : Nat} (hy : rung Ieee.double y < Ieee.double.infRung) (hx : rung Ieee.double x < Ieee.double.infRung) (h0 : ¬ (rung Ieee.double y = 0 ∧ rung Ieee.double x = 0)) : Fb 1087 (angW y x) := by
  have hyn : isN .f64 y = false := notN_fin (k := .f64) hy
  have hxn : isN .f64 x = false := notN_fin (k := .f64) hx
  have hq : ∀ p q : Nat, rung Ieee.double p < Ieee.double.infRung → rung Ieee.double q < Ieee.double.infRung → rung Ieee.double p ≤ rung Ieee.double q → rung Ieee.double q ≠ 0 → Fb 1074 (fop .quo .f64 (fabs .f64 p) (fabs .f64 q)) := by
    intro p q hp hqq hle hne
    have e1 := fin_abs p hp
    have e2 := fin_abs q hqq
    have hm0 : mg Ieee.double (rung Ieee.double (fabs .f64 q)) ≠ 0 := by
      rw [e2]
      have := mg_lt Ieee.double (r := 0) (s := rung Ieee.double q) (by omega)
      omega
    have hlb : Lb .f64 0 (fabs .f64 q) := ⟨by show rung Ieee.double _ < _; rw [e2]; exact hqq, by show 2 ^ 0 ≤ mg Ieee.double (rung Ieee.double _); omega⟩
    refine Fb_of (Bd_quo' (k := .f64) (by show rung Ieee.double _ < _; rw [e1]; exact hp) (by show rung Ieee.double _ < _; rw [e2]; exact hqq) hm0 ?_ (pr_ok (by omega))) (quo_fin_notN (by rw [e1]; exact hp) hlb)
    show mg Ieee.double (rung Ieee.double _) * _ ≤ mg Ieee.double (rung Ieee.double _) * _
    rw [e1, e2, LL64]
    refine Nat.mul_le_mul_right _ ?_
    rcases Nat.lt_or_eq_of_le hle with h | h
    · exact Nat.le_of_lt (mg_lt _ h)
    · rw [h]; exact Nat.le_refl _
  have hov := overB_rungs hyn hxn
  have r1 : Fb 1086 (if overB y x = true then fop .sub .f64 quarter64 (flatA (fop .quo .f64 (fabs .f64 x) (fabs .f64 y))) else flatA (fop .quo .f64 (fabs .f64 y) (fabs .f64 x))) := by
    split
    · rename_i h
      rw [hov] at h
      have h := of_decide_eq_true h
      exact subF (a := 1074) (Fb_const (by decide +kernel)) (flatA_fb (hq x y hx hy (by omega) (by omega))) (by omega) (by omega) (by omega)
    · rename_i h
      rw [hov, decide_eq_true_eq] at h
      exact Fb_mono (flatA_fb (hq y x hy hx (by omega) (by omega))) (by omega)
  have r2 : Fb 1087 (if ltz x = true then fop .sub .f64 half64 (if overB y x = true then fop .sub .f64 quarter64 (flatA (fop .quo .f64 (fabs .f64 x) (fabs .f64 y))) else flatA (fop .quo .f64 (fabs .f64 y) (fabs .f64 x))) else (if overB y x = true then fop .sub .f64 quarter64 (flatA (fop .quo .f64 (fabs .f64 x) (fabs .f64 y))) else flatA (fop .quo .f64 (fabs .f64 y) (fabs .f64 x)))) := by
    split
    · exact subF (a := 1074) (Fb_const (by decide +kernel)) r1 (by omega) (by omega) (by omega)
    · exact Fb_mono r1 (by omega)
  unfold angW
  dsimp only
  split
  · exact Fb_of (Bd_neg r2.bd) (by rw [isN_fneg]; exact r2.notN)
  · exact r2
/-! ### ftFacts -/
/-- A float32 that is a number, of at most 2^(c-149). -/
def Ft (c v : Nat) : Prop := isN .f32 v = false ∧ Bd .f32 c v
theorem Ft.fin {c v : Nat} (h : Ft c v) : rung Ieee.single v < Ieee.single.infRung := by
  rcases h.2 with h2 | h2
  · rw [h.1] at h2; cases h2
  · exact h2.1
theorem Ft.mg {c v : Nat} (h : Ft c v) : mg Ieee.single (rung Ieee.single v) ≤ 2 ^ c := by
  rcases h.2 with h2 | h2
  · rw [h.1] at h2; cases h2
  · exact h2.2
theorem cvN_bd {x : Nat} (h : Bd .f64 1087 x) : Bd .f32 162 (cvN x) := by
  rcases h with h | ⟨h1, h2⟩
  · left; rw [cvN_qn h]; exact isN_qn .f32
  obtain ⟨m, e, r1, r2, r3⟩ := read_fin FloatKind.f64.format x h1
  rw [← r3] at h2
  have d1 : FloatKind.f64.format.leastPlace = -1074 := by decide +kernel
  have d2 : Ieee.single.leastPlace = -149 := by decide +kernel
  have d3 : pr Ieee.single 162 < Ieee.single.infRung := by decide +kernel
  rw [d1] at h2 r2
  have hle : leRung Ieee.single m e (pr Ieee.single 162) := by
    unfold leRung
    rw [mg_pr, d2]
    have hpow : (2 : Nat) ^ 1087 = 2 ^ 162 * 2 ^ 925 := by rw [← Nat.pow_add]
    rw [hpow] at h2
    by_cases hp : -149 ≤ e
    · have e1 : (e - -1074).toNat = (e - -149).toNat + 925 := by omega
      have e2 : (-149 - e).toNat = 0 := by omega
      rw [e1, Nat.pow_add, ← Nat.mul_assoc] at h2
      rw [e2, Nat.pow_zero, Nat.mul_one]
      exact Nat.le_of_mul_le_mul_right h2 (Nat.two_pow_pos _)
    · have e1 : (e - -149).toNat = 0 := by omega
      have e2 : 925 = (-149 - e).toNat + (e - -1074).toNat := by omega
      have e3 : (2 : Nat) ^ 925 = 2 ^ (-149 - e).toNat * 2 ^ (e - -1074).toNat := by
        rw [← Nat.pow_add]; exact congrArg _ e2
      rw [e3, ← Nat.mul_assoc] at h2
      rw [e1, Nat.pow_zero, Nat.mul_one]
      exact Nat.le_of_mul_le_mul_right h2 (Nat.two_pow_pos _)
  have hF : Fits x := Fits_of_Bd (.inr ⟨h1, by rw [← r3, d1]; exact Nat.le_trans h2 (Nat.pow_le_pow_right (by decide) (by decide))⟩)
  have hN : isN .f64 x = false := notN_fin h1
  have hb := narrow_bits hN hF
  have hc : cvN x = Ieee.single.nearest (sgn FloatKind.f64.format x) m e := by
    have hb2 := hb
    unfold floatToFloatBits at hb2
    rw [if_neg (by decide)] at hb2
    have e' : FloatKind.f64.decode x = .number (sgn FloatKind.f64.format x) m e := r1
    rw [e'] at hb2
    dsimp only at hb2
    split at hb2
    · cases hb2
    · exact (Option.some.inj hb2).symm
  rw [hc]
  exact Bd_nearest (k := .f32) d3 _ _ _ hle
theorem fop_fin_notN32 {op : BinOp} {x y : Nat} (hop : op = .add ∨ op = .mul) (hx : rung Ieee.single x < Ieee.single.infRung) (hy : rung Ieee.single y < Ieee.single.infRung) : isN .f32 (fop op .f32 x y) = false := by
  obtain ⟨m, i, r1, _, _⟩ := read_fin Ieee.single x hx
  obtain ⟨n, j, s1, _, _⟩ := read_fin Ieee.single y hy
  have hf : FloatKind.f32.format = Ieee.single := rfl
  have hs : ∃ r, floatBits op .f32 x y = some r := by
    rcases hop with rfl | rfl
    · unfold floatBits
      rw [hf]
      simp only [Ieee.Format.add, r1, s1, Ieee.Datum.sum]; exact ⟨_, rfl⟩
    · unfold floatBits
      rw [hf]
      simp only [Ieee.Format.mul, r1, s1, Ieee.Datum.product]; exact ⟨_, rfl⟩
  obtain ⟨r, hr⟩ := hs
  unfold fop; rw [hr]; exact bits_notNaN hr
theorem angT_ft {y x : Nat} (hy : finB .f32 y = true) (hx : finB .f32 x = true) : Ft 162 (angT y x) := by
  unfold angT
  rw [hy, hx, if_pos (show (true && true) = true from rfl)]
  split
  · exact ⟨by decide +kernel, .inr (by decide +kernel)⟩
  · rename_i hz
    have hz := Bool.eq_false_iff.2 hz
    have hy1 : rung Ieee.single y < Ieee.single.infRung := of_decide_eq_true hy
    have hx1 : rung Ieee.single x < Ieee.single.infRung := of_decide_eq_true hx
    have hy2 := (cvU_spec (notN_fin (k := .f32) hy1)).2.2.2.1.2 hy1
    have hx2 := (cvU_spec (notN_fin (k := .f32) hx1)).2.2.2.1.2 hx1
    have hF := angW_fb hy2 hx2 (by
      rintro ⟨h1, h2⟩
      rw [rung_zero_eq (cvU_rung0 hy1 h1), rung_zero_eq (cvU_rung0 hx1 h2)] at hz
      cases hz)
    refine ⟨?_, cvN_bd hF.bd⟩
    exact cvN_notNaN (narrow_bits hF.notN (ang_fits hy hx hz))
def one32 : Nat := 1065353216
def turnFix (t : Nat) : Nat := if (FloatKind.f32.format.order t 0 == some .lt) = true then fop .add .f32 t 1065353216 else t
theorem turnFix_ft {t : Nat} (h : Ft 162 t) : Ft 163 (turnFix t) := by
  unfold turnFix
  split
  · exact ⟨fop_fin_notN32 (.inl rfl) h.fin (by decide +kernel), Bd_add (a := 162) h.2 (.inr (by decide +kernel)) (by decide +kernel)⟩
  · exact ⟨h.1, Bd_mono h.2 (by omega)⟩
theorem int16_ok {n : Nat} (hn : n ≤ 16) : rung Ieee.single (floatOfInt .f32 (n : Int)) < Ieee.single.infRung ∧ mg Ieee.single (rung Ieee.single (floatOfInt .f32 (n : Int))) ≤ 2 ^ 153 := by
  have h := consts_ok
  rw [List.all_eq_true] at h
  have := of_decide_eq_true (h n (by simp; omega))
  exact ⟨this.1, this.2.1⟩
theorem place_ft {t n : Nat} (h : Ft 163 t) (hn : n ≤ 16) : Ft 168 (fop .mul .f32 t (floatOfInt .f32 (n : Int))) :=
  ⟨fop_fin_notN32 (.inr rfl) h.fin (int16_ok hn).1, Bd_mul (a := 163) (b := 153) h.2 (.inr (int16_ok hn)) (by decide +kernel) (by decide +kernel)⟩
theorem twice_ft {t : Nat} (h : Ft 162 t) : Ft 163 (fop .mul .f32 1073741824 t) :=
  ⟨fop_fin_notN32 (.inr rfl) (by decide +kernel) h.fin, Bd_mul (a := 150) (b := 162) (.inr (by decide +kernel)) h.2 (by decide +kernel) (by decide +kernel)⟩
/-! ### give -/
def giveP (W H : Int) (zs : List Nat) : PRes := if validB W H zs = true then ⟨W, H, zs, true⟩ else PRes.no
theorem near_valid {W H : Int} {zs' zs : List Nat} (h : near zs' zs) : validB W H zs' = validB W H zs := by
  unfold validB finL; rw [near_fin h, h.1]
theorem valid_fin {W H : Int} {zs : List Nat} (h : validB W H zs = true) : zs.all (finB .f32) = true := by
  simp [validB, finL] at h ⊢; exact h.2
theorem valid_len {W H : Int} {zs : List Nat} (h : validB W H zs = true) : (zs.length : Int) = W * H ∧ zs.length ≤ 256 ∧ 1 ≤ zs.length := by
  simp only [validB, Bool.and_eq_true, decide_eq_true_eq] at h
  obtain ⟨⟨h1, h2⟩, h3⟩ := h
  have := side_mul h1
  exact ⟨h2, by omega, by omega⟩
/-! ### atDefs -/
def minI (a b : Int) : Int := if a < b then a else b
def maxI (a b : Int) : Int := if b < a then a else b
theorem clamp_in (n : Nat) (h : 1 ≤ n) (i : Int) : ∃ c : Nat, maxI 0 (minI ((n : Int) - 1) i) = (c : Int) ∧ c < n := by
  refine ⟨(maxI 0 (minI ((n : Int) - 1) i)).toNat, ?_, ?_⟩
  · unfold maxI minI; split <;> split <;> omega
  · unfold maxI minI; split <;> split <;> omega
theorem clamp_is {n c : Nat} (h : c < n) : maxI 0 (minI ((n : Int) - 1) (c : Int)) = (c : Int) := by
  unfold maxI minI; split <;> split <;> omega
theorem mul_bound {cy Wn Hn : Nat} (hy : cy < Hn) (hW : Wn ≤ 16) (hH : Hn ≤ 16) : cy * Wn + Wn ≤ Wn * Hn ∧ cy * Wn ≤ 256 := by
  have h1 : (cy + 1) * Wn ≤ Hn * Wn := Nat.mul_le_mul_right _ (by omega)
  rw [Nat.succ_mul, Nat.mul_comm Hn Wn] at h1
  have h2 : Wn * Hn ≤ 16 * 16 := Nat.mul_le_mul hW hH
  exact ⟨h1, by omega⟩
/-! ### ordDefs -/
theorem cmp_bools (a b : Int) : ((some (compare a b) == some Ordering.lt) = decide (a < b)) ∧ ((some (compare a b) == some Ordering.gt) = decide (b < a)) ∧ ((some (compare a b) == some Ordering.eq) = decide (a = b)) := by
  rcases Int.lt_trichotomy a b with h | h | h
  · rw [cmp_of_lt h, decide_eq_true h, decide_eq_false (by omega), decide_eq_false (by omega)]; exact ⟨rfl, rfl, rfl⟩
  · subst h; rw [Int.compare_eq_eq.2 rfl, decide_eq_false (by omega), decide_eq_true rfl]; exact ⟨rfl, rfl, rfl⟩
  · rw [cmp_of_gt h, decide_eq_false (by omega), decide_eq_true h, decide_eq_false (by omega)]; exact ⟨rfl, rfl, rfl⟩
theorem o_lt {v c : Nat} (h : isN .f32 v = false) (hc : isN .f32 c = false) : (FloatKind.f32.format.order v c == some .lt) = decide (srung FloatKind.f32.format v < srung FloatKind.f32.format c) := by
  rw [order_rungs .f32 v c h hc]; exact (cmp_bools _ _).1
theorem o_gt {v c : Nat} (h : isN .f32 v = false) (hc : isN .f32 c = false) : (FloatKind.f32.format.order v c == some .gt) = decide (srung FloatKind.f32.format c < srung FloatKind.f32.format v) := by
  rw [order_rungs .f32 v c h hc]; exact (cmp_bools _ _).2.1
theorem o_eq {v c : Nat} (h : isN .f32 v = false) (hc : isN .f32 c = false) : (FloatKind.f32.format.order v c == some .eq) = decide (srung FloatKind.f32.format v = srung FloatKind.f32.format c) := by
  rw [order_rungs .f32 v c h hc]; exact (cmp_bools _ _).2.2
theorem o_le {v c : Nat} (h : isN .f32 v = false) (hc : isN .f32 c = false) : (FloatKind.f32.format.order v c == some .lt || FloatKind.f32.format.order v c == some .eq) = decide (srung FloatKind.f32.format v ≤ srung FloatKind.f32.format c) := by
  rw [o_lt h hc, o_eq h hc, ← Bool.decide_or]; exact decide_eq_decide.2 (by omega)
theorem o_ge {v c : Nat} (h : isN .f32 v = false) (hc : isN .f32 c = false) : (FloatKind.f32.format.order v c == some .gt || FloatKind.f32.format.order v c == some .eq) = decide (srung FloatKind.f32.format c ≤ srung FloatKind.f32.format v) := by
  rw [o_gt h hc, o_eq h hc, ← Bool.decide_or]; exact decide_eq_decide.2 (by omega)
theorem s_zero : srung FloatKind.f32.format 0 = 0 := by decide +kernel
theorem s_half : srung FloatKind.f32.format 1056964608 = 1056964608 := by decide +kernel
theorem s_one : srung FloatKind.f32.format 1065353216 = 1065353216 := by decide +kernel
theorem n_zero : isN .f32 0 = false := by decide +kernel
theorem n_half : isN .f32 1056964608 = false := by decide +kernel
theorem n_one : isN .f32 1065353216 = false := by decide +kernel
theorem pick_zero (n : Nat) : pick .f32 0 n = 0 := pick_not n_zero n
/-! ### downFacts -/
theorem quiet_bit (t : Nat) : 0 < (t ||| 2 ^ 51) % 2 ^ 52 := by
  rcases Nat.eq_zero_or_pos ((t ||| 2 ^ 51) % 2 ^ 52) with h | h
  · exfalso
    have h1 : ((t ||| 2 ^ 51) % 2 ^ 52).testBit 51 = true := by
      rw [Nat.testBit_mod_two_pow, Nat.testBit_or, Nat.testBit_two_pow_self]; simp
    rw [h, Nat.zero_testBit] at h1; cases h1
  · exact h
theorem isN_quiet (s : Bool) (t : Nat) : isN .f64 (FloatKind.f64.encode (.nan s (FloatKind.f64.format.quiet t))) = true := by
  have e : FloatKind.f64.encode (.nan s (FloatKind.f64.format.quiet t)) = Ieee.double.word s (Ieee.double.infRung + (t ||| 2 ^ 51) % 2 ^ 52) := rfl
  rw [e, isN_rung']
  have h1 : (t ||| 2 ^ 51) % 2 ^ 52 < 2 ^ 52 := Nat.mod_lt _ (Nat.two_pow_pos _)
  have h2 := quiet_bit t
  have hsw : Ieee.double.infRung + 2 ^ 52 = Ieee.double.signWeight := by decide +kernel
  have hf : FloatKind.f64.format = Ieee.double := rfl
  rw [hf, (word_signs Ieee.double s _ (by omega)).2]
  exact decide_eq_true (by omega)
def downN (x last : Nat) : Nat := if isN .f32 x = true then 0 else (maxI 0 (minI (last : Int) (ti32 x))).toNat
theorem downN_nan {x last : Nat} (h : isN .f32 x = true) : downN x last = 0 := by unfold downN; rw [h]; rfl
theorem maxmin (a : Int) (n : Nat) : 0 ≤ maxI 0 (minI (n : Int) a) ∧ maxI 0 (minI (n : Int) a) ≤ n := by unfold maxI minI; split <;> split <;> omega
theorem downN_num {x last : Nat} (h : isN .f32 x = false) : ((downN x last : Nat) : Int) = maxI 0 (minI (last : Int) (ti32 x)) ∧ downN x last ≤ last := by
  have := maxmin (ti32 x) last
  unfold downN; rw [h, if_neg (by decide)]; omega
theorem downN_le (x last : Nat) : downN x last ≤ last := by
  cases h : isN .f32 x
  · exact (downN_num h).2
  · rw [downN_nan h]; omega
theorem whole_ft {x : Nat} (h : Ft 168 x) : whole32 x < 2 ^ 53 := by
  unfold whole32
  have h1 : mg Ieee.single (rung Ieee.single x) / 2 ^ 149 ≤ 2 ^ 168 / 2 ^ 149 := Nat.div_le_div_right h.mg
  have h2 : (2 : Nat) ^ 168 / 2 ^ 149 = 2 ^ 19 := by decide +kernel
  rw [h2] at h1
  exact Nat.lt_of_le_of_lt h1 (by decide)
theorem ofInt_gt (a b : Nat) (ha : a < 2 ^ 53) (hb : b < 2 ^ 53) : (FloatKind.f64.format.order (floatOfInt .f64 (a : Int)) (floatOfInt .f64 (b : Int)) == some .gt) = decide (b < a) ∧ (FloatKind.f64.format.order (floatOfInt .f64 (a : Int)) (floatOfInt .f64 (b : Int)) == some .gt || FloatKind.f64.format.order (floatOfInt .f64 (a : Int)) (floatOfInt .f64 (b : Int)) == some .eq) = decide (b ≤ a) := by
  obtain ⟨a1, a2, a3⟩ := ofInt_read (t := (a : Int)) (by omega)
  obtain ⟨b1, b2, b3⟩ := ofInt_read (t := (b : Int)) (by omega)
  have na : isN .f64 (floatOfInt .f64 (a : Int)) = false := notN_fin (k := .f64) a1
  have nb : isN .f64 (floatOfInt .f64 (b : Int)) = false := notN_fin (k := .f64) b1
  have hf : FloatKind.f64.format = Ieee.double := rfl
  rw [order_rungs .f64 _ _ na nb, hf]
  have sa : srung Ieee.double (floatOfInt .f64 (a : Int)) = rung Ieee.double (floatOfInt .f64 (a : Int)) := by
    unfold srung; rw [show sgn Ieee.double (floatOfInt .f64 (a : Int)) = false from by rw [a3]; exact decide_eq_false (by omega)]; simp
  have sb : srung Ieee.double (floatOfInt .f64 (b : Int)) = rung Ieee.double (floatOfInt .f64 (b : Int)) := by
    unfold srung; rw [show sgn Ieee.double (floatOfInt .f64 (b : Int)) = false from by rw [b3]; exact decide_eq_false (by omega)]; simp
  rw [sa, sb]
  have hc := mg_cmp Ieee.double (rung Ieee.double (floatOfInt .f64 (a : Int))) (rung Ieee.double (floatOfInt .f64 (b : Int)))
  rw [a2, b2, Int.natAbs_natCast, Int.natAbs_natCast] at hc
  generalize rung Ieee.double (floatOfInt .f64 (a : Int)) = ra at *
  generalize rung Ieee.double (floatOfInt .f64 (b : Int)) = rb at *
  have hlt : ∀ p q : Nat, (p * 2 ^ 1074 < q * 2 ^ 1074) ↔ p < q := fun p q => Nat.mul_lt_mul_right (Nat.two_pow_pos _)
  rcases Nat.lt_trichotomy a b with h | h | h
  · rw [Nat.compare_eq_lt.2 ((hlt a b).2 h)] at hc
    have := Nat.compare_eq_lt.1 hc.symm
    rw [cmp_of_lt (by omega), decide_eq_false (by omega), decide_eq_false (by omega)]; exact ⟨rfl, rfl⟩
  · subst h
    rw [Nat.compare_eq_eq.2 rfl] at hc
    have := Nat.compare_eq_eq.1 hc.symm
    subst this
    rw [Int.compare_eq_eq.2 rfl, decide_eq_false (by omega), decide_eq_true (by omega)]; exact ⟨rfl, rfl⟩
  · rw [Nat.compare_eq_gt.2 ((hlt b a).2 h)] at hc
    have := Nat.compare_eq_gt.1 hc.symm
    rw [cmp_of_gt (by omega), decide_eq_true (by omega), decide_eq_true (by omega)]; exact ⟨rfl, rfl⟩
theorem floor_sgn {v : Nat} (h : rung Ieee.double v < Ieee.double.infRung) : sgn Ieee.double (floorF v) = sgn Ieee.double v ∧ isN .f64 (floorF v) = false := by
  obtain ⟨m, e, r1, _, _⟩ := read_fin Ieee.double v h
  have hk : ∃ m' : Nat, floorF v = Ieee.double.write (.number (sgn Ieee.double v) m' 0) := by
    unfold floorF; rw [r1]; exact ⟨_, rfl⟩
  obtain ⟨m', hk⟩ := hk
  rw [hk]
  exact ⟨nearest_sgn' _ _ _ _, write_notNaN _ _ rfl⟩
theorem floor_eq {v : Nat} (h : rung Ieee.double v < Ieee.double.infRung) (hs : sgn Ieee.double v = false) : floorF v = floatOfInt .f64 (whole v : Int) := by
  obtain ⟨m, e, r1, r2, r3⟩ := read_fin Ieee.double v h
  have d1 : Ieee.double.leastPlace = -1074 := by decide +kernel
  rw [d1] at r2 r3
  rw [hs] at r1
  unfold floorF
  rw [r1]
  show Ieee.double.nearest false (Ieee.Toward.down.cut false (m <<< e.toNat) (-e).toNat) 0 = _
  rw [cut_down_way, whole_cut r2 r3]
  have ef : floatOfInt .f64 (whole v : Int) = Ieee.double.nearest (decide ((whole v : Int) < 0)) (whole v : Int).natAbs 0 := rfl
  rw [ef, decide_eq_false (by omega), Int.natAbs_natCast]
theorem whole_cvU {x : Nat} (h : mg Ieee.double (rung Ieee.double (cvU x)) = mg Ieee.single (rung Ieee.single x) * 2 ^ 925) : whole (cvU x) = whole32 x := by
  unfold whole whole32
  rw [h]
  have e : (2 : Nat) ^ 1074 = 2 ^ 149 * 2 ^ 925 := by rw [← Nat.pow_add]
  rw [e, Nat.mul_div_mul_right _ _ (Nat.two_pow_pos _)]
theorem zero64 : floatOfInt .f64 ((0 : Nat) : Int) = 0 := by decide +kernel
/-- The reference's floor, with its tests, and the program's cut: the same pixel. -/
theorem down_cases {x last : Nat} (h : Ft 168 x) (hl : last ≤ 15) :
    ((FloatKind.f64.format.order (floorF (cvU x)) 0 == some .gt) = false ∧ downN x last = 0) ∨
    ((FloatKind.f64.format.order (floorF (cvU x)) 0 == some .gt) = true ∧ (FloatKind.f64.format.order (floorF (cvU x)) (floatOfInt .f64 (last : Int)) == some .gt || FloatKind.f64.format.order (floorF (cvU x)) (floatOfInt .f64 (last : Int)) == some .eq) = true ∧ downN x last = last) ∨
    ((FloatKind.f64.format.order (floorF (cvU x)) 0 == some .gt) = true ∧ (FloatKind.f64.format.order (floorF (cvU x)) (floatOfInt .f64 (last : Int)) == some .gt || FloatKind.f64.format.order (floorF (cvU x)) (floatOfInt .f64 (last : Int)) == some .eq) = false ∧ floatToIntVal .f64 (floorF (cvU x)) .i64 = some ((downN x last : Nat) : Int)) := by
  have hfin := h.fin
  obtain ⟨hd, _⟩ := downN_num (last := last) h.1
  obtain ⟨_, c2, c3, c4, c5, _⟩ := cvU_spec h.1
  have hU := c4.2 hfin
  have hff : FloatKind.f64.format = Ieee.double := rfl
  by_cases hs : sgn Ieee.single x = false
  · obtain ⟨b1, b2, b3, b4⟩ := both_whole hfin (.inl hs) (Nat.le_trans h.mg (Nat.pow_le_pow_right (by decide) (by decide)))
    have hw := whole_ft h
    have ht : ti32 x = (whole32 x : Int) := by
      have := toInt32 hfin hw
      rw [this] at b1; exact Option.some.inj b1
    have e1 : floorF (cvU x) = floatOfInt .f64 (whole32 x : Int) := by rw [floor_eq hU (by rw [c3]; exact hs), whole_cvU (c5 hfin)]
    rw [e1] at b4 ⊢
    rw [ht] at hd
    have g0 := (ofInt_gt (whole32 x) 0 hw (by decide)).1
    rw [zero64] at g0
    have g1 := (ofInt_gt (whole32 x) last hw (by omega)).2
    rw [g0, g1]
    by_cases k0 : 0 < whole32 x
    · rw [decide_eq_true k0]
      by_cases k1 : last ≤ whole32 x
      · right; left
        refine ⟨rfl, decide_eq_true k1, ?_⟩
        unfold maxI minI at hd; split at hd <;> split at hd <;> omega
      · right; right
        refine ⟨rfl, decide_eq_false k1, ?_⟩
        rw [b4]
        congr 1
        rw [hd]; unfold maxI minI; split <;> split <;> omega
    · left
      refine ⟨decide_eq_false k0, ?_⟩
      unfold maxI minI at hd; split at hd <;> split at hd <;> omega
  · left
    have hs1 : sgn Ieee.single x = true := by cases hq : sgn Ieee.single x <;> simp_all
    obtain ⟨f1, f2⟩ := floor_sgn hU
    have f3 : sgn Ieee.double (floorF (cvU x)) = true := by rw [f1, c3]; exact hs1
    refine ⟨?_, ?_⟩
    · rw [order_rungs .f64 _ _ f2 (by decide +kernel), hff]
      have z : srung Ieee.double 0 = 0 := by decide +kernel
      have : srung Ieee.double (floorF (cvU x)) ≤ 0 := by unfold srung; rw [f3]; simp
      rw [z]
      rcases Int.lt_or_eq_of_le this with h3 | h3
      · rw [cmp_of_lt h3]; rfl
      · rw [h3, Int.compare_eq_eq.2 rfl]; rfl
    · have ht : ti32 x ≤ 0 := by unfold ti32; rw [hs1]; simp
      unfold maxI minI at hd; split at hd <;> split at hd <;> omega
/-! ### matDefs -/
def fin9 (z : List Nat) : Bool := finB .f32 (fat z 0) && finB .f32 (fat z 1) && finB .f32 (fat z 2) && finB .f32 (fat z 3) && finB .f32 (fat z 4) && finB .f32 (fat z 5) && finB .f32 (fat z 6) && finB .f32 (fat z 7) && finB .f32 (fat z 8)
def matB (zs : List Nat) : Bool := decide (zs.length = 9) && finL zs
theorem fin9_eq {zs : List Nat} (h : zs.length = 9) : fin9 zs = finL zs := by
  obtain ⟨a0, a1, a2, a3, a4, a5, a6, a7, a8, rfl⟩ : ∃ a0 a1 a2 a3 a4 a5 a6 a7 a8, zs = [a0, a1, a2, a3, a4, a5, a6, a7, a8] := by
    match zs, h with
    | [a0, a1, a2, a3, a4, a5, a6, a7, a8], _ => exact ⟨a0, a1, a2, a3, a4, a5, a6, a7, a8, rfl⟩
  simp [fin9, finL, fat, Bool.and_assoc]
/-! ### listDefs -/
/-- Of a new list of floats and a bool. -/
def RetL (T : TypeId) (r : List Nat × Bool) (w : World) (e : Ending) (w' : World) : Prop :=
  ∃ a cap, e = .returned (.tuple #[.slice a r.1.length cap, .bool r.2]) ∧ r.1.length ≤ 1048576 ∧ Below w.heap.size w w' ∧ Own T w' w.heap.size a r.1.length cap r.1
def TupL (T : TypeId) (B : Nat) (r : List Nat × Bool) (u : Value) (w : World) : Prop := ∃ a c, u = .tuple #[.slice a r.1.length c, .bool r.2] ∧ r.1.length ≤ 1048576 ∧ Own T w B a r.1.length c r.1
def SlcL (T : TypeId) (B : Nat) (r : List Nat × Bool) (u : Value) (w : World) : Prop := ∃ a c, u = .slice a r.1.length c ∧ r.1.length ≤ 1048576 ∧ Own T w B a r.1.length c r.1
def BooL (r : List Nat × Bool) (u : Value) : Prop := ∃ x : Bool, u = .bool x ∧ x = r.2
theorem RetL.no {T : TypeId} {w : World} {e : Ending} {w' : World} (h : e = .returned (.tuple #[.slice none 0 0, .bool false])) (b : Below w.heap.size w w') : RetL T ([], false) w e w' :=
  ⟨none, 0, h, Nat.zero_le _, b, Own.nil _ _ _⟩
/-! ### backDefs -/
def listR (l : List Nat) : List Nat × Bool := if finL l = true then (l, true) else ([], false)
def lessV (a b c d : Nat) : Nat := fop .sub .f32 (fop .mul .f32 a b) (fop .mul .f32 c d)
def backS (p q r a b c : Nat) : Nat := fop .add .f32 (fop .add .f32 (fop .mul .f32 a p) (fop .mul .f32 b q)) (fop .mul .f32 c r)
theorem own_new9 {T : TypeId} {w : World} {B g : Nat} {zs : List Nat} (hg : g = w.heap.size) (hB : B ≤ g) (hl : zs.length ≤ 1000) (hw : ∀ b ∈ zs, (Lit.float .f32 b).wf = true) : Own T (w.alloc (.cells (fl .f32 zs).toArray T)) B (some ⟨g, 0, none⟩) zs.length zs.length zs := by
  subst hg
  refine ⟨rfl, ⟨by simp [fl], .inr ⟨_, _, (fl .f32 zs).toArray, rfl, hB, heap_alloc_new w _, Nat.le_refl _, by unfold maxLen; omega, by simp [fl], by simp [fl, List.take_of_length_le]⟩⟩, hw⟩
theorem wf_lt {v : Nat} (h : v < 2 ^ FloatKind.f32.format.width) : (Lit.float .f32 v).wf = true := by
  have := pick_wf h 0
  cases hn : isN .f32 v
  · rwa [pick_not hn] at this
  · have hw : (2 : Nat) ^ FloatKind.f32.format.width = 4294967296 := by decide +kernel
    rw [hw] at h
    simp [Lit.wf, h]
/-! ### sineFacts -/
theorem fin_small {v : Nat} (h : finB .f32 v = true) (hb : decide (4841369599423283200 ≤ rung Ieee.double (cvU v)) = false) :
    isN .f64 (cvU v) = false ∧ floatToIntVal .f64 (cvU v) .i64 = some (ti (cvU v)) ∧ Bd .f64 1184 (sinF (cvU v)) := by
  have h1 : rung Ieee.single v < Ieee.single.infRung := of_decide_eq_true h
  have h2 : isN .f32 v = false := notN_fin (k := .f32) h1
  obtain ⟨_, c2, _, c4, _, _⟩ := cvU_spec h2
  have h3 := c4.2 h1
  have h4 := whole_small (v := cvU v) (by have := of_decide_eq_false hb; omega)
  exact ⟨c2, toInt64 h3 h4, sinF_bd (partF_bd h3 h4)⟩
theorem Fits_sin {v : Nat} (h : Bd .f64 1184 v) : Fits v := Fits_of_Bd (Bd_mono h (by decide))
theorem raw_nan {b : Nat} (h1 : isN .f64 b = true) (h2 : b < 2 ^ FloatKind.f64.format.width) : ∃ n, b = pick .f64 (qn .f64) n := by
  obtain ⟨n, e⟩ := nanOf_onto .f64 b h2 h1
  exact ⟨n, by rw [e]; simp [pick, isN_qn]⟩
def sineT (v : Nat) : Nat := if finB .f32 v = true then (if decide (4841369599423283200 ≤ rung Ieee.double (cvU v)) = true then 0 else cvN (sinF (cvU v))) else qn .f32
/-! ### turnDefs6 -/
def cosT (v : Nat) : Nat := sineT (fop .add .f32 v 1048576000)
def sumV (s x c y : Nat) : Nat := fop .add .f32 (fop .mul .f32 s x) (fop .mul .f32 c y)
def turT (x y z c s : Nat) : Nat × Nat × Nat := (lessV c x s y, sumV s x c y, z)
def tilT (x y z c s : Nat) : Nat × Nat × Nat := (x, lessV c y s z, sumV s y c z)
def turnW (x y z t : Nat) : (Nat × Nat × Nat) × Bool := if (wayB x y z && finB .f32 t) = true then giveW (turT x y z (cosT t) (sineT t)) else t0
def tiltW (x y z t : Nat) : (Nat × Nat × Nat) × Bool := if (wayB x y z && finB .f32 t) = true then giveW (tilT x y z (cosT t) (sineT t)) else t0
theorem turnW_no {x y z t : Nat} (h : wayB x y z = false ∨ finB .f32 t = false) : turnW x y z t = t0 ∧ tiltW x y z t = t0 := by
  unfold turnW tiltW
  rcases h with h | h <;> rw [h] <;> simp
/-! ### pixDefs -/
def HF : Nat := 1056964608
def atT (x wide : Int) : Nat := fop .quo .f32 (fop .add .f32 (floatOfInt .f32 x) 1056964608) (floatOfInt .f32 wide)
def wayT (t u : Nat) : Nat × Nat × Nat := (fop .mul .f32 (sineT u) (cosT t), fop .mul .f32 (sineT u) (sineT t), cosT u)
def wayV (W H x y : Int) : Nat × Nat × Nat := wayT (atT x W) (atT y (2 * H))
def hiV (H y : Int) : Nat := cosT (fop .quo .f32 (floatOfInt .f32 y) (floatOfInt .f32 (2 * H)))
def solV (W H y : Int) : Nat := fop .quo .f32 (fop .mul .f32 1086918619 (fop .sub .f32 (hiV H y) (hiV H (y + 1)))) (floatOfInt .f32 W)
/-! ### wayOfDefs -/
def inB (x H : Int) : Bool := decide (0 ≤ x) && decide (x ≤ H - 1)
def solidR (W H : Int) (z : List Nat) (y : Int) : Nat × Bool := if (validB W H z && inB y H) = true then (solV W H y, true) else (0, false)
def wayR (W H : Int) (z : List Nat) (x y : Int) : (Nat × Nat × Nat) × Bool := if (validB W H z && (inB x W && inB y H)) = true then (wayV W H x y, true) else t0
theorem valid_nat {W H : Int} {z : List Nat} (h : validB W H z = true) : ∃ Wn Hn : Nat, W = (Wn : Int) ∧ H = (Hn : Int) ∧ 1 ≤ Wn ∧ Wn ≤ 16 ∧ 1 ≤ Hn ∧ Hn ≤ 16 := by
  simp only [validB, sideB, Bool.and_eq_true, decide_eq_true_eq] at h
  obtain ⟨⟨⟨⟨h1, h2⟩, h3, h4⟩, _⟩, _⟩ := h
  exact ⟨W.toNat, H.toNat, by omega, by omega, by omega, by omega, by omega, by omega⟩
theorem inB_nat {x : Int} {Wn : Nat} (h : inB x (Wn : Int) = true) : ∃ n : Nat, x = (n : Int) ∧ n < Wn := by
  simp only [inB, Bool.and_eq_true, decide_eq_true_eq] at h
  exact ⟨x.toNat, by omega, by omega⟩
/-! ### pixelDefs -/
def flatV (x y : Nat) : Nat := rootV (fop .add .f32 (fop .mul .f32 x x) (fop .mul .f32 y y))
def colP (W x y : Nat) : Nat := fop .mul .f32 (turnFix (angT y x)) (floatOfInt .f32 (W : Int))
def rowP (H x y z : Nat) : Nat := fop .mul .f32 (fop .mul .f32 1073741824 (angT (flatV x y) z)) (floatOfInt .f32 (H : Int))
def colN (W x y : Nat) : Nat := downN (colP W x y) (W - 1)
def rowN (H x y z : Nat) : Nat := downN (rowP H x y z) (H - 1)
theorem colP_ok {W x y : Nat} (hx : finB .f32 x = true) (hy : finB .f32 y = true) (hW : W ≤ 16) : Ft 168 (colP W x y) := place_ft (turnFix_ft (angT_ft hy hx)) hW
theorem rowP_ok {H x y z : Nat} (hz : finB .f32 z = true) (hH : H ≤ 16) (hf : finB .f32 (flatV x y) = true) : Ft 163 (fop .mul .f32 1073741824 (angT (flatV x y) z)) := twice_ft (angT_ft hf hz)
theorem rowP_any {H x y z : Nat} (hz : finB .f32 z = true) (hH : H ≤ 16) : isN .f32 (rowP H x y z) = true ∨ Ft 168 (rowP H x y z) := by
  cases hf : finB .f32 (flatV x y)
  · left
    unfold rowP angT
    rw [hf]
    exact isN_fop_l _ (isN_fop_r _ (isN_qn .f32))
  · right; exact place_ft (rowP_ok (H := H) hz hH hf) hH
/-! ### pixelRes -/
def pixR (W H x y z : Nat) : Nat × Nat × Bool := if (wayB x y z && finB .f32 (flatV x y)) = true then (colN W x y, rowN H x y z, true) else (0, 0, false)
def RetIIB (r : Nat × Nat × Bool) (w : World) (e : Ending) (w' : World) : Prop := e = .returned (.tuple #[.int .i64 ((r.1 : Nat) : Int), .int .i64 ((r.2.1 : Nat) : Int), .bool r.2.2]) ∧ Below w.heap.size w w'
theorem wayB_col {x y z : Nat} (h : wayB x y z = true) : colB x y z = true := by unfold wayB at h; rw [Bool.and_eq_true] at h; exact h.1
/-! ### pixelOfDefs -/
def pixelR (W H : Int) (zs : List Nat) (x y z : Nat) : Nat × Nat × Bool := if validB W H zs = true then pixR W.toNat H.toNat x y z else (0, 0, false)
theorem pixR_no {W H x y z : Nat} (h : wayB x y z = false ∨ finB .f32 (flatV x y) = false) : pixR W H x y z = (0, 0, false) := by
  unfold pixR; rcases h with h | h <;> rw [h] <;> simp
theorem pixR_yes {W H x y z : Nat} (h : wayB x y z = true) (h2 : finB .f32 (flatV x y) = true) : pixR W H x y z = (colN W x y, rowN H x y z, true) := by
  unfold pixR; rw [h, h2]; rfl
theorem colN_lt {W x y : Nat} (h : 1 ≤ W) : colN W x y < W := Nat.lt_of_le_of_lt (downN_le _ _) (by omega)
theorem rowN_lt {H x y z : Nat} (h : 1 ≤ H) : rowN H x y z < H := Nat.lt_of_le_of_lt (downN_le _ _) (by omega)
/-! ### lightAtDefs -/
def lightK (W H : Nat) (zs : List Nat) (x y z : Nat) : Nat × Bool := if finB .f32 (flatV x y) = true then (fat zs (rowN H x y z * W + colN W x y), true) else (0, false)
def lightR (W H : Int) (zs : List Nat) (x y z : Nat) : Nat × Bool := if validB W H zs = true then (if wayB x y z = true then lightK W.toNat H.toNat zs x y z else (0, false)) else (0, false)
def towardV (W H : Nat) (zs : List Nat) (x y z : Nat) : Nat := if (wayB x y z && finB .f32 (flatV x y)) = true then fat zs (rowN H x y z * W + colN W x y) else qn .f32
theorem idx_lt {W H x y z : Nat} (hW : 1 ≤ W) (hH : 1 ≤ H) : rowN H x y z * W + colN W x y < W * H := by
  have h1 := colN_lt (x := x) (y := y) hW
  have h2 := rowN_lt (x := x) (y := y) (z := z) hH
  have h3 : (rowN H x y z + 1) * W ≤ H * W := Nat.mul_le_mul_right W h2
  rw [Nat.succ_mul, Nat.mul_comm H W] at h3
  omega
theorem numR_qn : numR (qn .f32) = (0, false) := by decide +kernel
theorem valid_at {W H : Int} {zs : List Nat} (h : validB W H zs = true) {k : Nat} (hk : k < zs.length) : finB .f32 (fat zs k) = true := by
  unfold validB at h
  rw [Bool.and_eq_true] at h
  have h2 := h.2
  unfold finL at h2
  rw [List.all_eq_true] at h2
  exact h2 _ (fat_mem hk)
theorem valid_nlen {Wn Hn : Nat} {zs : List Nat} (h : validB (Wn : Int) (Hn : Int) zs = true) : zs.length = Wn * Hn := by
  simp only [validB, Bool.and_eq_true, decide_eq_true_eq] at h
  have h2 := h.1.2
  rw [← Int.natCast_mul] at h2
  omega
theorem toward_light {Wn Hn x y z : Nat} {zs : List Nat} (h : validB (Wn : Int) (Hn : Int) zs = true) (hW : 1 ≤ Wn) (hH : 1 ≤ Hn) : numR (towardV Wn Hn zs x y z) = lightR (Wn : Int) (Hn : Int) zs x y z := by
  unfold lightR towardV lightK
  rw [h, if_pos rfl, Int.toNat_natCast, Int.toNat_natCast]
  cases wayB x y z
  · simp [numR_qn]
  · cases finB .f32 (flatV x y)
    · simp [numR_qn]
    · have hk : rowN Hn x y z * Wn + colN Wn x y < zs.length := by rw [valid_nlen h]; exact idx_lt hW hH
      simp only [Bool.and_self, if_true]
      unfold numR
      rw [valid_at h hk]; rfl

/-! ### makeDefs -/
def makeL (F : Nat → Nat → Nat) (Wn Hn : Nat) : List Nat := (List.range (Wn * Hn)).map fun i => F (i % Wn) (i / Wn)
theorem makeL_len {F : Nat → Nat → Nat} {Wn Hn : Nat} : (makeL F Wn Hn).length = Wn * Hn := by simp [makeL]
theorem makeL_at {F : Nat → Nat → Nat} {Wn Hn x y k : Nat} (hk : k = y * Wn + x) (hx : x < Wn) (hy : y < Hn) : fat (makeL F Wn Hn) k = F x y := by
  have h1 : k < Wn * Hn := by
    have : (y + 1) * Wn ≤ Hn * Wn := Nat.mul_le_mul_right _ (by omega)
    rw [Nat.succ_mul] at this
    rw [Nat.mul_comm Wn Hn]; omega
  have h2 : k % Wn = x := by rw [hk, Nat.mul_comm y Wn, Nat.mul_add_mod, Nat.mod_eq_of_lt hx]
  have h3 : k / Wn = y := by rw [hk, Nat.mul_comm y Wn, Nat.mul_add_div (by omega), Nat.div_eq_of_lt hx, Nat.add_zero]
  simp [fat, makeL, h1, h2, h3]
theorem make_lt {Wn Hn x y k : Nat} (hk : k = y * Wn + x) (hx : x < Wn) (hy : y < Hn) : k + 1 ≤ Wn * Hn := by
  have : (y + 1) * Wn ≤ Hn * Wn := Nat.mul_le_mul_right _ (by omega)
  rw [Nat.succ_mul] at this
  rw [Nat.mul_comm Wn Hn]; omega
def resMake (F : Nat → Nat → Nat) (W H : Int) : PRes := if sideB W H = true then giveP W H (makeL F W.toNat H.toNat) else PRes.no
/-! ### sphDefs -/
@[go_sem] theorem run_store_complex {P : Program} {w : World} {a : Addr} (k : FloatKind) (x y : Nat) (m : Mode) : (store a (.complex k x y) m).run P w = stored P w a (.complex k x y) m := run_store P w a _ m rfl
theorem sineT_lt (v : Nat) : sineT v < 2 ^ FloatKind.f32.format.width := by
  unfold sineT
  split
  · split
    · exact Nat.two_pow_pos _
    · exact cvN_lt _
  · exact qn_lt .f32
def sphF (tt : Nat → Nat → Nat → Nat → Nat → Nat × Nat × Nat) (zs : List Nat) (Wn Hn c s : Nat) (x y : Nat) : Nat :=
  towardV Wn Hn zs (tt (wayV Wn Hn x y).1 (wayV Wn Hn x y).2.1 (wayV Wn Hn x y).2.2 c s).1 (tt (wayV Wn Hn x y).1 (wayV Wn Hn x y).2.1 (wayV Wn Hn x y).2.2 c s).2.1 (tt (wayV Wn Hn x y).1 (wayV Wn Hn x y).2.1 (wayV Wn Hn x y).2.2 c s).2.2
def resSph (tt : Nat → Nat → Nat → Nat → Nat → Nat × Nat × Nat) (W H : Int) (zs : List Nat) (t : Nat) : PRes := if (validB W H zs && finB .f32 t) = true then giveP W H (makeL (sphF tt zs W.toNat H.toNat (cosT t) (sineT t)) W.toNat H.toNat) else PRes.no
theorem resSph_no {tt : Nat → Nat → Nat → Nat → Nat → Nat × Nat × Nat} {W H : Int} {zs : List Nat} {t : Nat} (h : validB W H zs = false ∨ finB .f32 t = false) : resSph tt W H zs t = PRes.no := by
  unfold resSph; rcases h with h | h <;> rw [h] <;> simp
theorem resSph_yes {tt : Nat → Nat → Nat → Nat → Nat → Nat × Nat × Nat} {Wn Hn : Nat} {zs : List Nat} {t : Nat} (h : validB (Wn : Int) (Hn : Int) zs = true) (h2 : finB .f32 t = true) : resSph tt (Wn : Int) (Hn : Int) zs t = giveP Wn Hn (makeL (sphF tt zs Wn Hn (cosT t) (sineT t)) Wn Hn) := by
  unfold resSph; rw [h, h2, if_pos (by rfl), Int.toNat_natCast, Int.toNat_natCast]
theorem resSph_make {tt : Nat → Nat → Nat → Nat → Nat → Nat × Nat × Nat} {Wn Hn : Nat} {zs : List Nat} {t : Nat} (h : validB (Wn : Int) (Hn : Int) zs = true) (h2 : finB .f32 t = true) : resMake (sphF tt zs Wn Hn (cosT t) (sineT t)) (Wn : Int) (Hn : Int) = resSph tt (Wn : Int) (Hn : Int) zs t := by
  rw [resSph_yes h h2]
  unfold resMake
  have hs : sideB (Wn : Int) (Hn : Int) = true := by unfold validB at h; simp only [Bool.and_eq_true] at h; exact h.1.1
  rw [hs, if_pos rfl, Int.toNat_natCast, Int.toNat_natCast]
theorem toward_lt {Wn Hn x y z : Nat} {zs : List Nat} (hz : ∀ k, fat zs k < 2 ^ FloatKind.f32.format.width) : towardV Wn Hn zs x y z < 2 ^ FloatKind.f32.format.width := by
  unfold towardV; split
  · exact hz _
  · exact qn_lt .f32
theorem fat_lt {w : World} {a : Option Addr} {len cap : Nat} {zs : List Nat} (h : IsRowF .f32 w a len cap zs) (k : Nat) : fat zs k < 2 ^ FloatKind.f32.format.width := by
  by_cases hk : k < zs.length
  · obtain ⟨h1, h2, h3, h4, h5⟩ := h
    exact lt_of_wf (h4 _ (fat_mem hk))
  · have : fat zs k = 0 := by unfold fat; rw [List.getD, List.getElem?_eq_none (by omega)]; rfl
    rw [this]; exact Nat.two_pow_pos _
/-! ### notFin -/
theorem notfin_cases {v : Nat} (h : finB .f32 v = false) : isN .f32 v = true ∨ FloatKind.f32.format.read v = .infinity (sgn FloatKind.f32.format v) := by
  cases hn : isN .f32 v
  · exact .inr (rung_split h hn)
  · exact .inl rfl
theorem fin_read {v : Nat} (h : finB .f32 v = true) : ∃ m e, FloatKind.f32.format.read v = .number (sgn FloatKind.f32.format v) m e := by
  obtain ⟨m, e, h4, _, _⟩ := read_fin FloatKind.f32.format v (of_decide_eq_true h)
  exact ⟨m, e, h4⟩
theorem add_notfin_r (x : Nat) {v : Nat} (hv : finB .f32 v = false) : finB .f32 (fop .add .f32 x v) = false := by
  rcases notfin_cases hv with h | h
  · exact finB_nan (isN_fop_r x h)
  · cases hx : finB .f32 x
    · rcases notfin_cases hx with h2 | h2
      · exact finB_nan (isN_fop_l v h2)
      · unfold fop floatBits Ieee.Format.add
        simp only [h, h2, Ieee.Datum.sum]
        split
        · exact inf_notfin _
        · exact finB_nan (isN_qn .f32)
    · obtain ⟨m, e, h2⟩ := fin_read hx
      unfold fop floatBits Ieee.Format.add
      simp only [h, h2, Ieee.Datum.sum]
      exact inf_notfin _
theorem add_notfin_l {x : Nat} (v : Nat) (hx : finB .f32 x = false) : finB .f32 (fop .add .f32 x v) = false := by
  cases hv : finB .f32 v
  · exact add_notfin_r x hv
  · rcases notfin_cases hx with h | h
    · exact finB_nan (isN_fop_l v h)
    · obtain ⟨m, e, h2⟩ := fin_read hv
      unfold fop floatBits Ieee.Format.add
      simp only [h, h2, Ieee.Datum.sum]
      exact inf_notfin _
theorem sub_notfin_r (x : Nat) {v : Nat} (hv : finB .f32 v = false) : finB .f32 (fop .sub .f32 x v) = false := by
  rcases notfin_cases hv with h | h
  · exact finB_nan (isN_fop_r x h)
  · cases hx : finB .f32 x
    · rcases notfin_cases hx with h2 | h2
      · exact finB_nan (isN_fop_l v h2)
      · unfold fop floatBits Ieee.Format.sub
        simp only [h, h2, Ieee.Datum.opposite, Ieee.Datum.sum]
        split
        · exact inf_notfin _
        · exact finB_nan (isN_qn .f32)
    · obtain ⟨m, e, h2⟩ := fin_read hx
      unfold fop floatBits Ieee.Format.sub
      simp only [h, h2, Ieee.Datum.opposite, Ieee.Datum.sum]
      exact inf_notfin _
theorem quo_notfin_l {x v : Nat} (hx : finB .f32 x = false) (hv : finB .f32 v = true) : finB .f32 (fop .quo .f32 x v) = false := by
  rcases notfin_cases hx with h | h
  · exact finB_nan (isN_fop_l v h)
  · obtain ⟨m, e, h2⟩ := fin_read hv
    unfold fop floatBits Ieee.Format.div
    simp only [h, h2, Ieee.Datum.quotient]
    exact inf_notfin _
theorem ofInt_fin {n : Nat} (h : n ≤ 256) : finB .f32 (floatOfInt .f32 (n : Int)) = true := by
  have : (List.range 257).all (fun n => finB .f32 (floatOfInt .f32 (n : Int))) = true := by decide +kernel
  rw [List.all_eq_true] at this
  exact this n (List.mem_range.2 (by omega))
/-! ### sphFacts -/
theorem write_zero (s : Bool) (e : Int) : nzB (FloatKind.f32.format.write (.number s 0 e)) = false := by
  have h : FloatKind.f32.format.write (.number s 0 e) = FloatKind.f32.format.write (.number s 0 0) := by
    unfold Ieee.Format.write Ieee.Format.nearest; simp
  rw [h]; cases s <;> decide +kernel
theorem zero_read {v : Nat} (hf : finB .f32 v = true) (hz : nzB v = false) : ∃ e, FloatKind.f32.format.read v = .number (sgn FloatKind.f32.format v) 0 e := by
  unfold nzB bne at hz
  rw [o_eq (fin_notN hf) n_zero, s_zero] at hz
  simp only [Bool.not_eq_false', decide_eq_true_eq] at hz
  have h0 : rung FloatKind.f32.format v = 0 := by unfold srung at hz; split at hz <;> omega
  obtain ⟨m, e, h1, h2, h3⟩ := read_fin FloatKind.f32.format v (of_decide_eq_true hf)
  rw [h0] at h3
  have h4 : mg FloatKind.f32.format 0 = 0 := by decide +kernel
  rw [h4] at h3
  have h5 : m = 0 := by
    rcases Nat.mul_eq_zero.1 h3 with h | h
    · exact h
    · exact absurd h (Nat.ne_of_gt (Nat.two_pow_pos _))
  subst h5
  exact ⟨e, h1⟩
theorem mul_zero {x v : Nat} (hf : finB .f32 v = true) (hz : nzB v = false) : finB .f32 (fop .mul .f32 x v) = false ∨ nzB (fop .mul .f32 x v) = false := by
  obtain ⟨e, h1⟩ := zero_read hf hz
  cases hx : finB .f32 x
  · rcases notfin_cases hx with h2 | h2
    · exact .inl (finB_nan (isN_fop_l v h2))
    · have e : fop .mul .f32 x v = qn .f32 := by
        unfold fop floatBits Ieee.Format.mul
        simp only [h1, h2, Ieee.Datum.product, if_true]
        rfl
      rw [e]; exact .inl (finB_nan (isN_qn .f32))
  · obtain ⟨m, e2, h2⟩ := fin_read hx
    refine .inr ?_
    unfold fop floatBits Ieee.Format.mul
    simp only [h1, h2, Ieee.Datum.product, Nat.mul_zero]
    exact write_zero _ _
theorem signed0 (b : Bool) (n : Nat) : Ieee.signed b 0 n = 0 := by cases b <;> simp [Ieee.signed]
theorem add_zero' {x v : Nat} (hf : finB .f32 v = true) (hz : nzB v = false) (hf2 : finB .f32 x = true) (hz2 : nzB x = false) : nzB (fop .add .f32 x v) = false := by
  obtain ⟨e, h1⟩ := zero_read hf hz
  obtain ⟨e2, h2⟩ := zero_read hf2 hz2
  unfold fop floatBits Ieee.Format.add
  simp only [h1, h2, Ieee.Datum.sum]
  simp [signed0, write_zero]
theorem sub_zero' {x v : Nat} (hf : finB .f32 v = true) (hz : nzB v = false) (hf2 : finB .f32 x = true) (hz2 : nzB x = false) : nzB (fop .sub .f32 x v) = false := by
  obtain ⟨e, h1⟩ := zero_read hf hz
  obtain ⟨e2, h2⟩ := zero_read hf2 hz2
  unfold fop floatBits Ieee.Format.sub
  simp only [h1, h2, Ieee.Datum.opposite, Ieee.Datum.sum]
  simp [signed0, write_zero]
theorem pair_zero {c s x y : Nat} (hx : finB .f32 x = true) (zx : nzB x = false) (hy : finB .f32 y = true) (zy : nzB y = false) : (finB .f32 (lessV c x s y) = false ∨ nzB (lessV c x s y) = false) ∧ (finB .f32 (sumV s x c y) = false ∨ nzB (sumV s x c y) = false) := by
  have sub_l : ∀ {a b : Nat}, finB .f32 a = false → finB .f32 (fop .sub .f32 a b) = false := by
    intro a b ha
    rcases notfin_cases ha with h | h
    · exact finB_nan (isN_fop_l b h)
    · cases hb : finB .f32 b
      · exact sub_notfin_r a hb
      · obtain ⟨m, e, h2⟩ := fin_read hb
        unfold fop floatBits Ieee.Format.sub
        simp only [h, h2, Ieee.Datum.opposite, Ieee.Datum.sum]
        exact inf_notfin _
  unfold lessV sumV
  constructor
  · cases f1 : finB .f32 (fop .mul .f32 c x)
    · exact .inl (sub_l f1)
    · cases f2 : finB .f32 (fop .mul .f32 s y)
      · exact .inl (sub_notfin_r _ f2)
      · have z1 := (mul_zero (x := c) hx zx).resolve_left (by rw [f1]; simp)
        have z2 := (mul_zero (x := s) hy zy).resolve_left (by rw [f2]; simp)
        exact .inr (sub_zero' f2 z2 f1 z1)
  · cases f1 : finB .f32 (fop .mul .f32 s x)
    · exact .inl (add_notfin_l _ f1)
    · cases f2 : finB .f32 (fop .mul .f32 c y)
      · exact .inl (add_notfin_r _ f2)
      · have z1 := (mul_zero (x := s) hx zx).resolve_left (by rw [f1]; simp)
        have z2 := (mul_zero (x := c) hy zy).resolve_left (by rw [f2]; simp)
        exact .inr (add_zero' f2 z2 f1 z1)
theorem sum_notfin {c s x y : Nat} (h : finB .f32 x = false ∨ finB .f32 y = false) : finB .f32 (sumV s x c y) = false := by
  unfold sumV
  rcases h with h | h
  · exact add_notfin_l _ (mul_notfin _ h)
  · exact add_notfin_r _ (mul_notfin _ h)
theorem turT_way {x y z c s : Nat} (h : wayB (turT x y z c s).1 (turT x y z c s).2.1 (turT x y z c s).2.2 = true) : wayB x y z = true := by
  unfold wayB colB turT at *
  dsimp only at h
  simp only [Bool.and_eq_true, Bool.or_eq_true] at h ⊢
  obtain ⟨⟨h1, h2, h3⟩, h4⟩ := h
  have fx : finB .f32 x = true := by
    cases hx : finB .f32 x
    · rw [sum_notfin (.inl hx)] at h2; cases h2
    · rfl
  have fy : finB .f32 y = true := by
    cases hy : finB .f32 y
    · rw [sum_notfin (.inr hy)] at h2; cases h2
    · rfl
  refine ⟨⟨fx, fy, h3⟩, ?_⟩
  cases zx : nzB x
  · cases zy : nzB y
    · obtain ⟨p1, p2⟩ := pair_zero (c := c) (s := s) fx zx fy zy
      rw [h1] at p1
      rw [h2] at p2
      simp only [Bool.true_eq_false, false_or] at p1 p2
      rw [p1, p2] at h4
      simpa using h4
    · simp
  · simp
theorem tilT_way {x y z c s : Nat} (h : wayB (tilT x y z c s).1 (tilT x y z c s).2.1 (tilT x y z c s).2.2 = true) : wayB x y z = true := by
  unfold wayB colB tilT at *
  dsimp only at h
  simp only [Bool.and_eq_true, Bool.or_eq_true] at h ⊢
  obtain ⟨⟨h1, h2, h3⟩, h4⟩ := h
  have fy : finB .f32 y = true := by
    cases hx : finB .f32 y
    · rw [sum_notfin (.inl hx)] at h3; cases h3
    · rfl
  have fz : finB .f32 z = true := by
    cases hy : finB .f32 z
    · rw [sum_notfin (.inr hy)] at h3; cases h3
    · rfl
  refine ⟨⟨h1, fy, fz⟩, ?_⟩
  cases zx : nzB y
  · cases zy : nzB z
    · obtain ⟨p1, p2⟩ := pair_zero (c := c) (s := s) fy zx fz zy
      rw [h2] at p1
      rw [h3] at p2
      simp only [Bool.true_eq_false, false_or] at p1 p2
      rw [p1, p2] at h4
      simpa using h4
    · simp
  · simp
theorem giveW_col {t : Nat × Nat × Nat} : colB (giveW t).1.1 (giveW t).1.2.1 (giveW t).1.2.2 = true := by
  unfold giveW
  cases h : wayB t.1 t.2.1 t.2.2
  · exact (by decide +kernel : colB 0 0 0 = true)
  · rw [if_pos rfl]; unfold wayB at h; rw [Bool.and_eq_true] at h; exact h.1
theorem no_no {F : Nat → Nat → Nat} {Wn Hn k : Nat} (hk : k < Wn * Hn) (h : finB .f32 (fat (makeL F Wn Hn) k) = false) : giveP (Wn : Int) (Hn : Int) (makeL F Wn Hn) = PRes.no := by
  have h2 := finL_of (makeL F Wn Hn) k (by rw [makeL_len]; exact hk) h
  unfold giveP validB
  rw [h2, Bool.and_false]; rfl
theorem turnW_col {x y z t : Nat} : colB (turnW x y z t).1.1 (turnW x y z t).1.2.1 (turnW x y z t).1.2.2 = true := by
  unfold turnW
  split
  · exact giveW_col
  · exact (by decide +kernel : colB 0 0 0 = true)
theorem turnW_round {Wn Hn x y t : Nat} {zs : List Nat} {wv : Nat × Nat × Nat} {r : (Nat × Nat × Nat) × Bool} {l : Nat × Bool} (hwv : wv = wayV (Wn : Int) (Hn : Int) (x : Int) (y : Int)) (hr : r = turnW wv.1 wv.2.1 wv.2.2 t) (hl : l = lightK Wn Hn zs r.1.1 r.1.2.1 r.1.2.2) (hf : finB .f32 t = true) : ((r.2 && l.2) = true → l.1 = sphF turT zs Wn Hn (cosT t) (sineT t) x y) ∧ ((r.2 && l.2) = false → finB .f32 (sphF turT zs Wn Hn (cosT t) (sineT t) x y) = false) := by
  unfold sphF towardV
  rw [← hwv]
  unfold turnW at hr
  rw [hf, Bool.and_true] at hr
  have hq : finB .f32 (qn .f32) = false := finB_nan (isN_qn .f32)
  generalize hT : turT wv.1 wv.2.1 wv.2.2 (cosT t) (sineT t) = T at *
  have hway : wayB T.1 T.2.1 T.2.2 = true → wayB wv.1 wv.2.1 wv.2.2 = true := by rw [← hT]; exact turT_way
  cases h2 : wayB T.1 T.2.1 T.2.2
  · have hr2 : r.2 = false := by
      rw [hr]
      split
      · unfold giveW; rw [h2]; rfl
      · rfl
    rw [hr2, Bool.false_and, Bool.false_and]
    refine ⟨fun h => (by cases h), fun _ => ?_⟩
    exact hq
  · rw [hway h2, if_pos rfl, giveW_yes h2] at hr
    subst hr
    subst hl
    unfold lightK
    dsimp only
    rw [Bool.true_and, Bool.true_and]
    cases h3 : finB .f32 (flatV T.1 T.2.1)
    · refine ⟨fun h => (by cases h), fun _ => hq⟩
    · refine ⟨fun _ => rfl, fun h => (by cases h)⟩
theorem tiltW_col {x y z t : Nat} : colB (tiltW x y z t).1.1 (tiltW x y z t).1.2.1 (tiltW x y z t).1.2.2 = true := by
  unfold tiltW
  split
  · exact giveW_col
  · exact (by decide +kernel : colB 0 0 0 = true)
theorem tiltW_round {Wn Hn x y t : Nat} {zs : List Nat} {wv : Nat × Nat × Nat} {r : (Nat × Nat × Nat) × Bool} {l : Nat × Bool} (hwv : wv = wayV (Wn : Int) (Hn : Int) (x : Int) (y : Int)) (hr : r = tiltW wv.1 wv.2.1 wv.2.2 t) (hl : l = lightK Wn Hn zs r.1.1 r.1.2.1 r.1.2.2) (hf : finB .f32 t = true) : ((r.2 && l.2) = true → l.1 = sphF tilT zs Wn Hn (cosT t) (sineT t) x y) ∧ ((r.2 && l.2) = false → finB .f32 (sphF tilT zs Wn Hn (cosT t) (sineT t) x y) = false) := by
  unfold sphF towardV
  rw [← hwv]
  unfold tiltW at hr
  rw [hf, Bool.and_true] at hr
  have hq : finB .f32 (qn .f32) = false := finB_nan (isN_qn .f32)
  generalize hT : tilT wv.1 wv.2.1 wv.2.2 (cosT t) (sineT t) = T at *
  have hway : wayB T.1 T.2.1 T.2.2 = true → wayB wv.1 wv.2.1 wv.2.2 = true := by rw [← hT]; exact tilT_way
  cases h2 : wayB T.1 T.2.1 T.2.2
  · have hr2 : r.2 = false := by
      rw [hr]
      split
      · unfold giveW; rw [h2]; rfl
      · rfl
    rw [hr2, Bool.false_and, Bool.false_and]
    refine ⟨fun h => (by cases h), fun _ => ?_⟩
    exact hq
  · rw [hway h2, if_pos rfl, giveW_yes h2] at hr
    subst hr
    subst hl
    unfold lightK
    dsimp only
    rw [Bool.true_and, Bool.true_and]
    cases h3 : finB .f32 (flatV T.1 T.2.1)
    · refine ⟨fun h => (by cases h), fun _ => hq⟩
    · refine ⟨fun _ => rfl, fun h => (by cases h)⟩
theorem yes_yes {F : Nat → Nat → Nat} {Wn Hn : Nat} {zs : List Nat} (hv : validB (Wn : Int) (Hn : Int) zs = true) (h : ∀ k, k < Wn * Hn → finB .f32 (fat (makeL F Wn Hn) k) = true) : (makeL F Wn Hn).all (finB .f32) = true ∧ giveP (Wn : Int) (Hn : Int) (makeL F Wn Hn) = ⟨(Wn : Int), (Hn : Int), makeL F Wn Hn, true⟩ := by
  have hall : (makeL F Wn Hn).all (finB .f32) = true := by
    rw [List.all_eq_true]
    intro x hx
    obtain ⟨k, hk, rfl⟩ := List.mem_iff_getElem.1 hx
    have h2 := h k (by rw [← makeL_len (F := F)]; exact hk)
    unfold fat at h2
    rwa [List.getD, List.getElem?_eq_getElem hk] at h2
  refine ⟨hall, ?_⟩
  have hs : sideB (Wn : Int) (Hn : Int) = true := by unfold validB at hv; simp only [Bool.and_eq_true] at hv; exact hv.1.1
  unfold giveP validB finL
  rw [hs, hall, makeL_len]
  simp

/-! ### l01SineWide -/
theorem c_l01SineWide_fff (v f : Nat) (w : World) (j : Nat) (Hti : Hid (floatToIntVal .f64 v .i64 = some (ti v))) (Hf : Hid (partF v = f))
    (hs : (FloatKind.f64.format.order (fop .sub .f64 v v) 0 != some .eq) = false)
    (h1 : (FloatKind.f64.format.order v 4841369599423283200 == some .gt || FloatKind.f64.format.order v 4841369599423283200 == some .eq) = false)
    (h2 : (FloatKind.f64.format.order v 14064741636278059008 == some .lt || FloatKind.f64.format.order v 14064741636278059008 == some .eq) = false)
    {j2 : Nat} (hnan : isN .f64 v = false) (hf : fop .sub .f64 v (floatOfInt .f64 (ti v)) = f) (hlt : (FloatKind.f64.format.order f 0 == some .lt) = false)
    (hb : (FloatKind.f64.format.order f 4602678819172646912 == some .gt || FloatKind.f64.format.order f 4602678819172646912 == some .eq) = false)
    (hq : (FloatKind.f64.format.order f 4598175219545276416 == some .gt) = false) : Calls Try.prog 121 #[.float .f64 (pick .f64 v j2)] (w.drewN j) (RetF .f64 (sinF v) w) := by
  have HF : Hid (sinF v = (sinZ (fop .mul .f64 f 4618760256179416344))) := by
    unfold Hid sinF lowB fold2 half64 quarter64 twopi64; rw [Hf.out, hb]; simp only [if_true, if_false, Bool.false_eq_true, hq]
  rw [pick_not hnan]
  go_enter Try.func121, Try.ntmps121
  go_wp2_with (first | (first | (refine wpList_fop rfl _ _ _ _ _ rfl _ _ _ rfl rfl (by decide) _ ?_; intro _ _) | (refine upon_fop _ _ _ _ _ (by decide) ?_; intro _ _)) | (refine wpList_ftoi rfl 32 2 _ rfl (Option.isSome_iff_exists.2 ⟨_, Try.underlying32⟩) .i64 Try.underlying2 _ _ rfl (by exact Hti.out) ?_) | go_in)
  generalize hu : fop .mul .f64 (fop .mul .f64 f 4618760256179416344) (fop .mul .f64 f 4618760256179416344) = u
  have Hu := Lib.hid hu
  clear hu
  go_loopw [7, 8] (fun p k wr => ∃ (i n m : Nat) (kI : Int), i ≤ 8 ∧ Hid (kI = 8 - (i : Int)) ∧ p = .float .f64 (pick .f64 (ser u i) n) ∧ k = .int .i64 kI ∧ wr = w.drewN m) (fun _ k _ => (intOf k).toNat)
  case atStart => exact ⟨0, 0, _, 8, by omega, rfl, by rw [pick_not (show isN .f64 (ser u 0) = false from (by decide +kernel : isN .f64 one64 = false))]; rfl, rfl, rfl⟩
  case round =>
    obtain ⟨i, n, m, kI, hi, HK, rfl, rfl, rfl⟩ := hrel
    by_cases hlt8 : i < 8
    · have b1 : 1 ≤ kI := by have := HK.out; omega
      have b2 : kI ≤ 8 := by have := HK.out; omega
      have b3 : 0 ≤ 2 * kI * (2 * kI + 1) := Int.mul_nonneg (by omega) (by omega)
      have b4 : 2 * kI * (2 * kI + 1) ≤ 272 := Int.le_trans (Int.mul_le_mul (show 2 * kI ≤ 16 by omega) (show 2 * kI + 1 ≤ 17 by omega) (by omega) (by omega)) (by decide)
      have HD : Hid (den i = floatOfInt .f64 (2 * kI * (2 * kI + 1))) := by unfold Hid; rw [HK.out]; exact den_int i hlt8
      go_wp2_with (first | (refine wpList_fop rfl _ _ _ _ _ rfl _ _ _ rfl rfl (by decide) _ ?_; intro _ _) | (refine upon_fop _ _ _ _ _ (by decide) ?_; intro _ _))
      go_roundw
      case rel => exact ⟨i + 1, _, _, kI - 1, by omega, by have := HK.out; unfold Hid; omega, by rw [ser_step, HD.out]; rfl, rfl, rfl⟩
      case measure => simp [intOf]; omega
    · obtain rfl : i = 8 := by omega
      have b1 : kI < 1 := by have := HK.out; omega
      have b2 : 0 ≤ kI := by have := HK.out; omega
      go_wp2_with (first | (refine wpList_fop rfl _ _ _ _ _ rfl _ _ _ rfl rfl (by decide) _ ?_; intro _ _) | (refine upon_fop _ _ _ _ _ (by decide) ?_; intro _ _))
      go_ret
      rw [HF.out]
      unfold sinZ
      rw [Hu.out]
      exact ⟨_, _, rfl, rfl⟩
theorem c_l01SineWide_fft (v f : Nat) (w : World) (j : Nat) (Hti : Hid (floatToIntVal .f64 v .i64 = some (ti v))) (Hf : Hid (partF v = f))
    (hs : (FloatKind.f64.format.order (fop .sub .f64 v v) 0 != some .eq) = false)
    (h1 : (FloatKind.f64.format.order v 4841369599423283200 == some .gt || FloatKind.f64.format.order v 4841369599423283200 == some .eq) = false)
    (h2 : (FloatKind.f64.format.order v 14064741636278059008 == some .lt || FloatKind.f64.format.order v 14064741636278059008 == some .eq) = false)
    {j2 : Nat} (hnan : isN .f64 v = false) (hf : fop .sub .f64 v (floatOfInt .f64 (ti v)) = f) (hlt : (FloatKind.f64.format.order f 0 == some .lt) = false)
    (hb : (FloatKind.f64.format.order f 4602678819172646912 == some .gt || FloatKind.f64.format.order f 4602678819172646912 == some .eq) = false)
    (hq : (FloatKind.f64.format.order f 4598175219545276416 == some .gt) = true) : Calls Try.prog 121 #[.float .f64 (pick .f64 v j2)] (w.drewN j) (RetF .f64 (sinF v) w) := by
  have HF : Hid (sinF v = (sinZ (fop .mul .f64 (fop .sub .f64 4602678819172646912 f) 4618760256179416344))) := by
    unfold Hid sinF lowB fold2 half64 quarter64 twopi64; rw [Hf.out, hb]; simp only [if_true, if_false, Bool.false_eq_true, hq]
  rw [pick_not hnan]
  go_enter Try.func121, Try.ntmps121
  go_wp2_with (first | (first | (refine wpList_fop rfl _ _ _ _ _ rfl _ _ _ rfl rfl (by decide) _ ?_; intro _ _) | (refine upon_fop _ _ _ _ _ (by decide) ?_; intro _ _)) | (refine wpList_ftoi rfl 32 2 _ rfl (Option.isSome_iff_exists.2 ⟨_, Try.underlying32⟩) .i64 Try.underlying2 _ _ rfl (by exact Hti.out) ?_) | go_in)
  generalize hu : fop .mul .f64 (fop .mul .f64 (fop .sub .f64 4602678819172646912 f) 4618760256179416344) (fop .mul .f64 (fop .sub .f64 4602678819172646912 f) 4618760256179416344) = u
  have Hu := Lib.hid hu
  clear hu
  go_loopw [7, 8] (fun p k wr => ∃ (i n m : Nat) (kI : Int), i ≤ 8 ∧ Hid (kI = 8 - (i : Int)) ∧ p = .float .f64 (pick .f64 (ser u i) n) ∧ k = .int .i64 kI ∧ wr = w.drewN m) (fun _ k _ => (intOf k).toNat)
  case atStart => exact ⟨0, 0, _, 8, by omega, rfl, by rw [pick_not (show isN .f64 (ser u 0) = false from (by decide +kernel : isN .f64 one64 = false))]; rfl, rfl, rfl⟩
  case round =>
    obtain ⟨i, n, m, kI, hi, HK, rfl, rfl, rfl⟩ := hrel
    by_cases hlt8 : i < 8
    · have b1 : 1 ≤ kI := by have := HK.out; omega
      have b2 : kI ≤ 8 := by have := HK.out; omega
      have b3 : 0 ≤ 2 * kI * (2 * kI + 1) := Int.mul_nonneg (by omega) (by omega)
      have b4 : 2 * kI * (2 * kI + 1) ≤ 272 := Int.le_trans (Int.mul_le_mul (show 2 * kI ≤ 16 by omega) (show 2 * kI + 1 ≤ 17 by omega) (by omega) (by omega)) (by decide)
      have HD : Hid (den i = floatOfInt .f64 (2 * kI * (2 * kI + 1))) := by unfold Hid; rw [HK.out]; exact den_int i hlt8
      go_wp2_with (first | (refine wpList_fop rfl _ _ _ _ _ rfl _ _ _ rfl rfl (by decide) _ ?_; intro _ _) | (refine upon_fop _ _ _ _ _ (by decide) ?_; intro _ _))
      go_roundw
      case rel => exact ⟨i + 1, _, _, kI - 1, by omega, by have := HK.out; unfold Hid; omega, by rw [ser_step, HD.out]; rfl, rfl, rfl⟩
      case measure => simp [intOf]; omega
    · obtain rfl : i = 8 := by omega
      have b1 : kI < 1 := by have := HK.out; omega
      have b2 : 0 ≤ kI := by have := HK.out; omega
      go_wp2_with (first | (refine wpList_fop rfl _ _ _ _ _ rfl _ _ _ rfl rfl (by decide) _ ?_; intro _ _) | (refine upon_fop _ _ _ _ _ (by decide) ?_; intro _ _))
      go_ret
      rw [HF.out]
      unfold sinZ
      rw [Hu.out]
      exact ⟨_, _, rfl, rfl⟩
theorem c_l01SineWide_ftf (v f : Nat) (w : World) (j : Nat) (Hti : Hid (floatToIntVal .f64 v .i64 = some (ti v))) (Hf : Hid (partF v = f))
    (hs : (FloatKind.f64.format.order (fop .sub .f64 v v) 0 != some .eq) = false)
    (h1 : (FloatKind.f64.format.order v 4841369599423283200 == some .gt || FloatKind.f64.format.order v 4841369599423283200 == some .eq) = false)
    (h2 : (FloatKind.f64.format.order v 14064741636278059008 == some .lt || FloatKind.f64.format.order v 14064741636278059008 == some .eq) = false)
    {j2 : Nat} (hnan : isN .f64 v = false) (hf : fop .sub .f64 v (floatOfInt .f64 (ti v)) = f) (hlt : (FloatKind.f64.format.order f 0 == some .lt) = false)
    (hb : (FloatKind.f64.format.order f 4602678819172646912 == some .gt || FloatKind.f64.format.order f 4602678819172646912 == some .eq) = true)
    (hq : (FloatKind.f64.format.order (fop .sub .f64 f 4602678819172646912) 4598175219545276416 == some .gt) = false) : Calls Try.prog 121 #[.float .f64 (pick .f64 v j2)] (w.drewN j) (RetF .f64 (sinF v) w) := by
  have HF : Hid (sinF v = fneg .f64 (sinZ (fop .mul .f64 (fop .sub .f64 f 4602678819172646912) 4618760256179416344))) := by
    unfold Hid sinF lowB fold2 half64 quarter64 twopi64; rw [Hf.out, hb]; simp only [if_true, if_false, Bool.false_eq_true, hq]
  rw [pick_not hnan]
  go_enter Try.func121, Try.ntmps121
  go_wp2_with (first | (first | (refine wpList_fop rfl _ _ _ _ _ rfl _ _ _ rfl rfl (by decide) _ ?_; intro _ _) | (refine upon_fop _ _ _ _ _ (by decide) ?_; intro _ _)) | (refine wpList_ftoi rfl 32 2 _ rfl (Option.isSome_iff_exists.2 ⟨_, Try.underlying32⟩) .i64 Try.underlying2 _ _ rfl (by exact Hti.out) ?_) | go_in)
  generalize hu : fop .mul .f64 (fop .mul .f64 (fop .sub .f64 f 4602678819172646912) 4618760256179416344) (fop .mul .f64 (fop .sub .f64 f 4602678819172646912) 4618760256179416344) = u
  have Hu := Lib.hid hu
  clear hu
  go_loopw [7, 8] (fun p k wr => ∃ (i n m : Nat) (kI : Int), i ≤ 8 ∧ Hid (kI = 8 - (i : Int)) ∧ p = .float .f64 (pick .f64 (ser u i) n) ∧ k = .int .i64 kI ∧ wr = w.drewN m) (fun _ k _ => (intOf k).toNat)
  case atStart => exact ⟨0, 0, _, 8, by omega, rfl, by rw [pick_not (show isN .f64 (ser u 0) = false from (by decide +kernel : isN .f64 one64 = false))]; rfl, rfl, rfl⟩
  case round =>
    obtain ⟨i, n, m, kI, hi, HK, rfl, rfl, rfl⟩ := hrel
    by_cases hlt8 : i < 8
    · have b1 : 1 ≤ kI := by have := HK.out; omega
      have b2 : kI ≤ 8 := by have := HK.out; omega
      have b3 : 0 ≤ 2 * kI * (2 * kI + 1) := Int.mul_nonneg (by omega) (by omega)
      have b4 : 2 * kI * (2 * kI + 1) ≤ 272 := Int.le_trans (Int.mul_le_mul (show 2 * kI ≤ 16 by omega) (show 2 * kI + 1 ≤ 17 by omega) (by omega) (by omega)) (by decide)
      have HD : Hid (den i = floatOfInt .f64 (2 * kI * (2 * kI + 1))) := by unfold Hid; rw [HK.out]; exact den_int i hlt8
      go_wp2_with (first | (refine wpList_fop rfl _ _ _ _ _ rfl _ _ _ rfl rfl (by decide) _ ?_; intro _ _) | (refine upon_fop _ _ _ _ _ (by decide) ?_; intro _ _))
      go_roundw
      case rel => exact ⟨i + 1, _, _, kI - 1, by omega, by have := HK.out; unfold Hid; omega, by rw [ser_step, HD.out]; rfl, rfl, rfl⟩
      case measure => simp [intOf]; omega
    · obtain rfl : i = 8 := by omega
      have b1 : kI < 1 := by have := HK.out; omega
      have b2 : 0 ≤ kI := by have := HK.out; omega
      go_wp2_with (first | (refine wpList_fop rfl _ _ _ _ _ rfl _ _ _ rfl rfl (by decide) _ ?_; intro _ _) | (refine upon_fop _ _ _ _ _ (by decide) ?_; intro _ _))
      go_ret
      rw [HF.out]
      unfold sinZ
      rw [Hu.out]
      exact ⟨_, _, rfl, rfl⟩
theorem c_l01SineWide_ftt (v f : Nat) (w : World) (j : Nat) (Hti : Hid (floatToIntVal .f64 v .i64 = some (ti v))) (Hf : Hid (partF v = f))
    (hs : (FloatKind.f64.format.order (fop .sub .f64 v v) 0 != some .eq) = false)
    (h1 : (FloatKind.f64.format.order v 4841369599423283200 == some .gt || FloatKind.f64.format.order v 4841369599423283200 == some .eq) = false)
    (h2 : (FloatKind.f64.format.order v 14064741636278059008 == some .lt || FloatKind.f64.format.order v 14064741636278059008 == some .eq) = false)
    {j2 : Nat} (hnan : isN .f64 v = false) (hf : fop .sub .f64 v (floatOfInt .f64 (ti v)) = f) (hlt : (FloatKind.f64.format.order f 0 == some .lt) = false)
    (hb : (FloatKind.f64.format.order f 4602678819172646912 == some .gt || FloatKind.f64.format.order f 4602678819172646912 == some .eq) = true)
    (hq : (FloatKind.f64.format.order (fop .sub .f64 f 4602678819172646912) 4598175219545276416 == some .gt) = true) : Calls Try.prog 121 #[.float .f64 (pick .f64 v j2)] (w.drewN j) (RetF .f64 (sinF v) w) := by
  have HF : Hid (sinF v = fneg .f64 (sinZ (fop .mul .f64 (fop .sub .f64 4602678819172646912 (fop .sub .f64 f 4602678819172646912)) 4618760256179416344))) := by
    unfold Hid sinF lowB fold2 half64 quarter64 twopi64; rw [Hf.out, hb]; simp only [if_true, if_false, Bool.false_eq_true, hq]
  rw [pick_not hnan]
  go_enter Try.func121, Try.ntmps121
  go_wp2_with (first | (first | (refine wpList_fop rfl _ _ _ _ _ rfl _ _ _ rfl rfl (by decide) _ ?_; intro _ _) | (refine upon_fop _ _ _ _ _ (by decide) ?_; intro _ _)) | (refine wpList_ftoi rfl 32 2 _ rfl (Option.isSome_iff_exists.2 ⟨_, Try.underlying32⟩) .i64 Try.underlying2 _ _ rfl (by exact Hti.out) ?_) | go_in)
  generalize hu : fop .mul .f64 (fop .mul .f64 (fop .sub .f64 4602678819172646912 (fop .sub .f64 f 4602678819172646912)) 4618760256179416344) (fop .mul .f64 (fop .sub .f64 4602678819172646912 (fop .sub .f64 f 4602678819172646912)) 4618760256179416344) = u
  have Hu := Lib.hid hu
  clear hu
  go_loopw [7, 8] (fun p k wr => ∃ (i n m : Nat) (kI : Int), i ≤ 8 ∧ Hid (kI = 8 - (i : Int)) ∧ p = .float .f64 (pick .f64 (ser u i) n) ∧ k = .int .i64 kI ∧ wr = w.drewN m) (fun _ k _ => (intOf k).toNat)
  case atStart => exact ⟨0, 0, _, 8, by omega, rfl, by rw [pick_not (show isN .f64 (ser u 0) = false from (by decide +kernel : isN .f64 one64 = false))]; rfl, rfl, rfl⟩
  case round =>
    obtain ⟨i, n, m, kI, hi, HK, rfl, rfl, rfl⟩ := hrel
    by_cases hlt8 : i < 8
    · have b1 : 1 ≤ kI := by have := HK.out; omega
      have b2 : kI ≤ 8 := by have := HK.out; omega
      have b3 : 0 ≤ 2 * kI * (2 * kI + 1) := Int.mul_nonneg (by omega) (by omega)
      have b4 : 2 * kI * (2 * kI + 1) ≤ 272 := Int.le_trans (Int.mul_le_mul (show 2 * kI ≤ 16 by omega) (show 2 * kI + 1 ≤ 17 by omega) (by omega) (by omega)) (by decide)
      have HD : Hid (den i = floatOfInt .f64 (2 * kI * (2 * kI + 1))) := by unfold Hid; rw [HK.out]; exact den_int i hlt8
      go_wp2_with (first | (refine wpList_fop rfl _ _ _ _ _ rfl _ _ _ rfl rfl (by decide) _ ?_; intro _ _) | (refine upon_fop _ _ _ _ _ (by decide) ?_; intro _ _))
      go_roundw
      case rel => exact ⟨i + 1, _, _, kI - 1, by omega, by have := HK.out; unfold Hid; omega, by rw [ser_step, HD.out]; rfl, rfl, rfl⟩
      case measure => simp [intOf]; omega
    · obtain rfl : i = 8 := by omega
      have b1 : kI < 1 := by have := HK.out; omega
      have b2 : 0 ≤ kI := by have := HK.out; omega
      go_wp2_with (first | (refine wpList_fop rfl _ _ _ _ _ rfl _ _ _ rfl rfl (by decide) _ ?_; intro _ _) | (refine upon_fop _ _ _ _ _ (by decide) ?_; intro _ _))
      go_ret
      rw [HF.out]
      unfold sinZ
      rw [Hu.out]
      exact ⟨_, _, rfl, rfl⟩
theorem c_l01SineWide_tff (v f : Nat) (w : World) (j : Nat) (Hti : Hid (floatToIntVal .f64 v .i64 = some (ti v))) (Hf : Hid (partF v = f))
    (hs : (FloatKind.f64.format.order (fop .sub .f64 v v) 0 != some .eq) = false)
    (h1 : (FloatKind.f64.format.order v 4841369599423283200 == some .gt || FloatKind.f64.format.order v 4841369599423283200 == some .eq) = false)
    (h2 : (FloatKind.f64.format.order v 14064741636278059008 == some .lt || FloatKind.f64.format.order v 14064741636278059008 == some .eq) = false)
    {j2 : Nat} (hnan : isN .f64 v = false) (hf : fop .add .f64 (fop .sub .f64 v (floatOfInt .f64 (ti v))) 4607182418800017408 = f) (hlt : (FloatKind.f64.format.order (fop .sub .f64 v (floatOfInt .f64 (ti v))) 0 == some .lt) = true)
    (hb : (FloatKind.f64.format.order f 4602678819172646912 == some .gt || FloatKind.f64.format.order f 4602678819172646912 == some .eq) = false)
    (hq : (FloatKind.f64.format.order f 4598175219545276416 == some .gt) = false) : Calls Try.prog 121 #[.float .f64 (pick .f64 v j2)] (w.drewN j) (RetF .f64 (sinF v) w) := by
  have HF : Hid (sinF v = (sinZ (fop .mul .f64 f 4618760256179416344))) := by
    unfold Hid sinF lowB fold2 half64 quarter64 twopi64; rw [Hf.out, hb]; simp only [if_true, if_false, Bool.false_eq_true, hq]
  rw [pick_not hnan]
  go_enter Try.func121, Try.ntmps121
  go_wp2_with (first | (first | (refine wpList_fop rfl _ _ _ _ _ rfl _ _ _ rfl rfl (by decide) _ ?_; intro _ _) | (refine upon_fop _ _ _ _ _ (by decide) ?_; intro _ _)) | (refine wpList_ftoi rfl 32 2 _ rfl (Option.isSome_iff_exists.2 ⟨_, Try.underlying32⟩) .i64 Try.underlying2 _ _ rfl (by exact Hti.out) ?_) | go_in)
  generalize hu : fop .mul .f64 (fop .mul .f64 f 4618760256179416344) (fop .mul .f64 f 4618760256179416344) = u
  have Hu := Lib.hid hu
  clear hu
  go_loopw [7, 8] (fun p k wr => ∃ (i n m : Nat) (kI : Int), i ≤ 8 ∧ Hid (kI = 8 - (i : Int)) ∧ p = .float .f64 (pick .f64 (ser u i) n) ∧ k = .int .i64 kI ∧ wr = w.drewN m) (fun _ k _ => (intOf k).toNat)
  case atStart => exact ⟨0, 0, _, 8, by omega, rfl, by rw [pick_not (show isN .f64 (ser u 0) = false from (by decide +kernel : isN .f64 one64 = false))]; rfl, rfl, rfl⟩
  case round =>
    obtain ⟨i, n, m, kI, hi, HK, rfl, rfl, rfl⟩ := hrel
    by_cases hlt8 : i < 8
    · have b1 : 1 ≤ kI := by have := HK.out; omega
      have b2 : kI ≤ 8 := by have := HK.out; omega
      have b3 : 0 ≤ 2 * kI * (2 * kI + 1) := Int.mul_nonneg (by omega) (by omega)
      have b4 : 2 * kI * (2 * kI + 1) ≤ 272 := Int.le_trans (Int.mul_le_mul (show 2 * kI ≤ 16 by omega) (show 2 * kI + 1 ≤ 17 by omega) (by omega) (by omega)) (by decide)
      have HD : Hid (den i = floatOfInt .f64 (2 * kI * (2 * kI + 1))) := by unfold Hid; rw [HK.out]; exact den_int i hlt8
      go_wp2_with (first | (refine wpList_fop rfl _ _ _ _ _ rfl _ _ _ rfl rfl (by decide) _ ?_; intro _ _) | (refine upon_fop _ _ _ _ _ (by decide) ?_; intro _ _))
      go_roundw
      case rel => exact ⟨i + 1, _, _, kI - 1, by omega, by have := HK.out; unfold Hid; omega, by rw [ser_step, HD.out]; rfl, rfl, rfl⟩
      case measure => simp [intOf]; omega
    · obtain rfl : i = 8 := by omega
      have b1 : kI < 1 := by have := HK.out; omega
      have b2 : 0 ≤ kI := by have := HK.out; omega
      go_wp2_with (first | (refine wpList_fop rfl _ _ _ _ _ rfl _ _ _ rfl rfl (by decide) _ ?_; intro _ _) | (refine upon_fop _ _ _ _ _ (by decide) ?_; intro _ _))
      go_ret
      rw [HF.out]
      unfold sinZ
      rw [Hu.out]
      exact ⟨_, _, rfl, rfl⟩
theorem c_l01SineWide_tft (v f : Nat) (w : World) (j : Nat) (Hti : Hid (floatToIntVal .f64 v .i64 = some (ti v))) (Hf : Hid (partF v = f))
    (hs : (FloatKind.f64.format.order (fop .sub .f64 v v) 0 != some .eq) = false)
    (h1 : (FloatKind.f64.format.order v 4841369599423283200 == some .gt || FloatKind.f64.format.order v 4841369599423283200 == some .eq) = false)
    (h2 : (FloatKind.f64.format.order v 14064741636278059008 == some .lt || FloatKind.f64.format.order v 14064741636278059008 == some .eq) = false)
    {j2 : Nat} (hnan : isN .f64 v = false) (hf : fop .add .f64 (fop .sub .f64 v (floatOfInt .f64 (ti v))) 4607182418800017408 = f) (hlt : (FloatKind.f64.format.order (fop .sub .f64 v (floatOfInt .f64 (ti v))) 0 == some .lt) = true)
    (hb : (FloatKind.f64.format.order f 4602678819172646912 == some .gt || FloatKind.f64.format.order f 4602678819172646912 == some .eq) = false)
    (hq : (FloatKind.f64.format.order f 4598175219545276416 == some .gt) = true) : Calls Try.prog 121 #[.float .f64 (pick .f64 v j2)] (w.drewN j) (RetF .f64 (sinF v) w) := by
  have HF : Hid (sinF v = (sinZ (fop .mul .f64 (fop .sub .f64 4602678819172646912 f) 4618760256179416344))) := by
    unfold Hid sinF lowB fold2 half64 quarter64 twopi64; rw [Hf.out, hb]; simp only [if_true, if_false, Bool.false_eq_true, hq]
  rw [pick_not hnan]
  go_enter Try.func121, Try.ntmps121
  go_wp2_with (first | (first | (refine wpList_fop rfl _ _ _ _ _ rfl _ _ _ rfl rfl (by decide) _ ?_; intro _ _) | (refine upon_fop _ _ _ _ _ (by decide) ?_; intro _ _)) | (refine wpList_ftoi rfl 32 2 _ rfl (Option.isSome_iff_exists.2 ⟨_, Try.underlying32⟩) .i64 Try.underlying2 _ _ rfl (by exact Hti.out) ?_) | go_in)
  generalize hu : fop .mul .f64 (fop .mul .f64 (fop .sub .f64 4602678819172646912 f) 4618760256179416344) (fop .mul .f64 (fop .sub .f64 4602678819172646912 f) 4618760256179416344) = u
  have Hu := Lib.hid hu
  clear hu
  go_loopw [7, 8] (fun p k wr => ∃ (i n m : Nat) (kI : Int), i ≤ 8 ∧ Hid (kI = 8 - (i : Int)) ∧ p = .float .f64 (pick .f64 (ser u i) n) ∧ k = .int .i64 kI ∧ wr = w.drewN m) (fun _ k _ => (intOf k).toNat)
  case atStart => exact ⟨0, 0, _, 8, by omega, rfl, by rw [pick_not (show isN .f64 (ser u 0) = false from (by decide +kernel : isN .f64 one64 = false))]; rfl, rfl, rfl⟩
  case round =>
    obtain ⟨i, n, m, kI, hi, HK, rfl, rfl, rfl⟩ := hrel
    by_cases hlt8 : i < 8
    · have b1 : 1 ≤ kI := by have := HK.out; omega
      have b2 : kI ≤ 8 := by have := HK.out; omega
      have b3 : 0 ≤ 2 * kI * (2 * kI + 1) := Int.mul_nonneg (by omega) (by omega)
      have b4 : 2 * kI * (2 * kI + 1) ≤ 272 := Int.le_trans (Int.mul_le_mul (show 2 * kI ≤ 16 by omega) (show 2 * kI + 1 ≤ 17 by omega) (by omega) (by omega)) (by decide)
      have HD : Hid (den i = floatOfInt .f64 (2 * kI * (2 * kI + 1))) := by unfold Hid; rw [HK.out]; exact den_int i hlt8
      go_wp2_with (first | (refine wpList_fop rfl _ _ _ _ _ rfl _ _ _ rfl rfl (by decide) _ ?_; intro _ _) | (refine upon_fop _ _ _ _ _ (by decide) ?_; intro _ _))
      go_roundw
      case rel => exact ⟨i + 1, _, _, kI - 1, by omega, by have := HK.out; unfold Hid; omega, by rw [ser_step, HD.out]; rfl, rfl, rfl⟩
      case measure => simp [intOf]; omega
    · obtain rfl : i = 8 := by omega
      have b1 : kI < 1 := by have := HK.out; omega
      have b2 : 0 ≤ kI := by have := HK.out; omega
      go_wp2_with (first | (refine wpList_fop rfl _ _ _ _ _ rfl _ _ _ rfl rfl (by decide) _ ?_; intro _ _) | (refine upon_fop _ _ _ _ _ (by decide) ?_; intro _ _))
      go_ret
      rw [HF.out]
      unfold sinZ
      rw [Hu.out]
      exact ⟨_, _, rfl, rfl⟩
theorem c_l01SineWide_ttf (v f : Nat) (w : World) (j : Nat) (Hti : Hid (floatToIntVal .f64 v .i64 = some (ti v))) (Hf : Hid (partF v = f))
    (hs : (FloatKind.f64.format.order (fop .sub .f64 v v) 0 != some .eq) = false)
    (h1 : (FloatKind.f64.format.order v 4841369599423283200 == some .gt || FloatKind.f64.format.order v 4841369599423283200 == some .eq) = false)
    (h2 : (FloatKind.f64.format.order v 14064741636278059008 == some .lt || FloatKind.f64.format.order v 14064741636278059008 == some .eq) = false)
    {j2 : Nat} (hnan : isN .f64 v = false) (hf : fop .add .f64 (fop .sub .f64 v (floatOfInt .f64 (ti v))) 4607182418800017408 = f) (hlt : (FloatKind.f64.format.order (fop .sub .f64 v (floatOfInt .f64 (ti v))) 0 == some .lt) = true)
    (hb : (FloatKind.f64.format.order f 4602678819172646912 == some .gt || FloatKind.f64.format.order f 4602678819172646912 == some .eq) = true)
    (hq : (FloatKind.f64.format.order (fop .sub .f64 f 4602678819172646912) 4598175219545276416 == some .gt) = false) : Calls Try.prog 121 #[.float .f64 (pick .f64 v j2)] (w.drewN j) (RetF .f64 (sinF v) w) := by
  have HF : Hid (sinF v = fneg .f64 (sinZ (fop .mul .f64 (fop .sub .f64 f 4602678819172646912) 4618760256179416344))) := by
    unfold Hid sinF lowB fold2 half64 quarter64 twopi64; rw [Hf.out, hb]; simp only [if_true, if_false, Bool.false_eq_true, hq]
  rw [pick_not hnan]
  go_enter Try.func121, Try.ntmps121
  go_wp2_with (first | (first | (refine wpList_fop rfl _ _ _ _ _ rfl _ _ _ rfl rfl (by decide) _ ?_; intro _ _) | (refine upon_fop _ _ _ _ _ (by decide) ?_; intro _ _)) | (refine wpList_ftoi rfl 32 2 _ rfl (Option.isSome_iff_exists.2 ⟨_, Try.underlying32⟩) .i64 Try.underlying2 _ _ rfl (by exact Hti.out) ?_) | go_in)
  generalize hu : fop .mul .f64 (fop .mul .f64 (fop .sub .f64 f 4602678819172646912) 4618760256179416344) (fop .mul .f64 (fop .sub .f64 f 4602678819172646912) 4618760256179416344) = u
  have Hu := Lib.hid hu
  clear hu
  go_loopw [7, 8] (fun p k wr => ∃ (i n m : Nat) (kI : Int), i ≤ 8 ∧ Hid (kI = 8 - (i : Int)) ∧ p = .float .f64 (pick .f64 (ser u i) n) ∧ k = .int .i64 kI ∧ wr = w.drewN m) (fun _ k _ => (intOf k).toNat)
  case atStart => exact ⟨0, 0, _, 8, by omega, rfl, by rw [pick_not (show isN .f64 (ser u 0) = false from (by decide +kernel : isN .f64 one64 = false))]; rfl, rfl, rfl⟩
  case round =>
    obtain ⟨i, n, m, kI, hi, HK, rfl, rfl, rfl⟩ := hrel
    by_cases hlt8 : i < 8
    · have b1 : 1 ≤ kI := by have := HK.out; omega
      have b2 : kI ≤ 8 := by have := HK.out; omega
      have b3 : 0 ≤ 2 * kI * (2 * kI + 1) := Int.mul_nonneg (by omega) (by omega)
      have b4 : 2 * kI * (2 * kI + 1) ≤ 272 := Int.le_trans (Int.mul_le_mul (show 2 * kI ≤ 16 by omega) (show 2 * kI + 1 ≤ 17 by omega) (by omega) (by omega)) (by decide)
      have HD : Hid (den i = floatOfInt .f64 (2 * kI * (2 * kI + 1))) := by unfold Hid; rw [HK.out]; exact den_int i hlt8
      go_wp2_with (first | (refine wpList_fop rfl _ _ _ _ _ rfl _ _ _ rfl rfl (by decide) _ ?_; intro _ _) | (refine upon_fop _ _ _ _ _ (by decide) ?_; intro _ _))
      go_roundw
      case rel => exact ⟨i + 1, _, _, kI - 1, by omega, by have := HK.out; unfold Hid; omega, by rw [ser_step, HD.out]; rfl, rfl, rfl⟩
      case measure => simp [intOf]; omega
    · obtain rfl : i = 8 := by omega
      have b1 : kI < 1 := by have := HK.out; omega
      have b2 : 0 ≤ kI := by have := HK.out; omega
      go_wp2_with (first | (refine wpList_fop rfl _ _ _ _ _ rfl _ _ _ rfl rfl (by decide) _ ?_; intro _ _) | (refine upon_fop _ _ _ _ _ (by decide) ?_; intro _ _))
      go_ret
      rw [HF.out]
      unfold sinZ
      rw [Hu.out]
      exact ⟨_, _, rfl, rfl⟩
theorem c_l01SineWide_ttt (v f : Nat) (w : World) (j : Nat) (Hti : Hid (floatToIntVal .f64 v .i64 = some (ti v))) (Hf : Hid (partF v = f))
    (hs : (FloatKind.f64.format.order (fop .sub .f64 v v) 0 != some .eq) = false)
    (h1 : (FloatKind.f64.format.order v 4841369599423283200 == some .gt || FloatKind.f64.format.order v 4841369599423283200 == some .eq) = false)
    (h2 : (FloatKind.f64.format.order v 14064741636278059008 == some .lt || FloatKind.f64.format.order v 14064741636278059008 == some .eq) = false)
    {j2 : Nat} (hnan : isN .f64 v = false) (hf : fop .add .f64 (fop .sub .f64 v (floatOfInt .f64 (ti v))) 4607182418800017408 = f) (hlt : (FloatKind.f64.format.order (fop .sub .f64 v (floatOfInt .f64 (ti v))) 0 == some .lt) = true)
    (hb : (FloatKind.f64.format.order f 4602678819172646912 == some .gt || FloatKind.f64.format.order f 4602678819172646912 == some .eq) = true)
    (hq : (FloatKind.f64.format.order (fop .sub .f64 f 4602678819172646912) 4598175219545276416 == some .gt) = true) : Calls Try.prog 121 #[.float .f64 (pick .f64 v j2)] (w.drewN j) (RetF .f64 (sinF v) w) := by
  have HF : Hid (sinF v = fneg .f64 (sinZ (fop .mul .f64 (fop .sub .f64 4602678819172646912 (fop .sub .f64 f 4602678819172646912)) 4618760256179416344))) := by
    unfold Hid sinF lowB fold2 half64 quarter64 twopi64; rw [Hf.out, hb]; simp only [if_true, if_false, Bool.false_eq_true, hq]
  rw [pick_not hnan]
  go_enter Try.func121, Try.ntmps121
  go_wp2_with (first | (first | (refine wpList_fop rfl _ _ _ _ _ rfl _ _ _ rfl rfl (by decide) _ ?_; intro _ _) | (refine upon_fop _ _ _ _ _ (by decide) ?_; intro _ _)) | (refine wpList_ftoi rfl 32 2 _ rfl (Option.isSome_iff_exists.2 ⟨_, Try.underlying32⟩) .i64 Try.underlying2 _ _ rfl (by exact Hti.out) ?_) | go_in)
  generalize hu : fop .mul .f64 (fop .mul .f64 (fop .sub .f64 4602678819172646912 (fop .sub .f64 f 4602678819172646912)) 4618760256179416344) (fop .mul .f64 (fop .sub .f64 4602678819172646912 (fop .sub .f64 f 4602678819172646912)) 4618760256179416344) = u
  have Hu := Lib.hid hu
  clear hu
  go_loopw [7, 8] (fun p k wr => ∃ (i n m : Nat) (kI : Int), i ≤ 8 ∧ Hid (kI = 8 - (i : Int)) ∧ p = .float .f64 (pick .f64 (ser u i) n) ∧ k = .int .i64 kI ∧ wr = w.drewN m) (fun _ k _ => (intOf k).toNat)
  case atStart => exact ⟨0, 0, _, 8, by omega, rfl, by rw [pick_not (show isN .f64 (ser u 0) = false from (by decide +kernel : isN .f64 one64 = false))]; rfl, rfl, rfl⟩
  case round =>
    obtain ⟨i, n, m, kI, hi, HK, rfl, rfl, rfl⟩ := hrel
    by_cases hlt8 : i < 8
    · have b1 : 1 ≤ kI := by have := HK.out; omega
      have b2 : kI ≤ 8 := by have := HK.out; omega
      have b3 : 0 ≤ 2 * kI * (2 * kI + 1) := Int.mul_nonneg (by omega) (by omega)
      have b4 : 2 * kI * (2 * kI + 1) ≤ 272 := Int.le_trans (Int.mul_le_mul (show 2 * kI ≤ 16 by omega) (show 2 * kI + 1 ≤ 17 by omega) (by omega) (by omega)) (by decide)
      have HD : Hid (den i = floatOfInt .f64 (2 * kI * (2 * kI + 1))) := by unfold Hid; rw [HK.out]; exact den_int i hlt8
      go_wp2_with (first | (refine wpList_fop rfl _ _ _ _ _ rfl _ _ _ rfl rfl (by decide) _ ?_; intro _ _) | (refine upon_fop _ _ _ _ _ (by decide) ?_; intro _ _))
      go_roundw
      case rel => exact ⟨i + 1, _, _, kI - 1, by omega, by have := HK.out; unfold Hid; omega, by rw [ser_step, HD.out]; rfl, rfl, rfl⟩
      case measure => simp [intOf]; omega
    · obtain rfl : i = 8 := by omega
      have b1 : kI < 1 := by have := HK.out; omega
      have b2 : 0 ≤ kI := by have := HK.out; omega
      go_wp2_with (first | (refine wpList_fop rfl _ _ _ _ _ rfl _ _ _ rfl rfl (by decide) _ ?_; intro _ _) | (refine upon_fop _ _ _ _ _ (by decide) ?_; intro _ _))
      go_ret
      rw [HF.out]
      unfold sinZ
      rw [Hu.out]
      exact ⟨_, _, rfl, rfl⟩
/-! ### l01SineAll -/
theorem c_l01Sine_ok (v : Nat) {j2 : Nat} (w : World) (j : Nat) (hti : floatToIntVal .f64 v .i64 = some (ti v)) (hnan : isN .f64 v = false)
    (hs : (FloatKind.f64.format.order (fop .sub .f64 v v) 0 != some .eq) = false)
    (h1 : (FloatKind.f64.format.order v 4841369599423283200 == some .gt || FloatKind.f64.format.order v 4841369599423283200 == some .eq) = false)
    (h2 : (FloatKind.f64.format.order v 14064741636278059008 == some .lt || FloatKind.f64.format.order v 14064741636278059008 == some .eq) = false) :
    Calls Try.prog 121 #[.float .f64 (pick .f64 v j2)] (w.drewN j) (RetF .f64 (sinF v) w) := by
  cases hl : (FloatKind.f64.format.order (fop .sub .f64 v (floatOfInt .f64 (ti v))) 0 == some .lt)
  · have e : fop .sub .f64 v (floatOfInt .f64 (ti v)) = partF v := by unfold partF; rw [hl, if_neg (by decide)]
    have hl' := hl
    rw [e] at hl'
    cases hb : (FloatKind.f64.format.order (partF v) 4602678819172646912 == some .gt || FloatKind.f64.format.order (partF v) 4602678819172646912 == some .eq)
    · cases hq : (FloatKind.f64.format.order (partF v) 4598175219545276416 == some .gt)
      · exact c_l01SineWide_fff v _ w j hti rfl hs h1 h2 hnan e hl' hb hq
      · exact c_l01SineWide_fft v _ w j hti rfl hs h1 h2 hnan e hl' hb hq
    · cases hq : (FloatKind.f64.format.order (fop .sub .f64 (partF v) 4602678819172646912) 4598175219545276416 == some .gt)
      · exact c_l01SineWide_ftf v _ w j hti rfl hs h1 h2 hnan e hl' hb hq
      · exact c_l01SineWide_ftt v _ w j hti rfl hs h1 h2 hnan e hl' hb hq
  · have e : fop .add .f64 (fop .sub .f64 v (floatOfInt .f64 (ti v))) 4607182418800017408 = partF v := by unfold partF; rw [hl, if_pos rfl]; rfl
    cases hb : (FloatKind.f64.format.order (partF v) 4602678819172646912 == some .gt || FloatKind.f64.format.order (partF v) 4602678819172646912 == some .eq)
    · cases hq : (FloatKind.f64.format.order (partF v) 4598175219545276416 == some .gt)
      · exact c_l01SineWide_tff v _ w j hti rfl hs h1 h2 hnan e hl hb hq
      · exact c_l01SineWide_tft v _ w j hti rfl hs h1 h2 hnan e hl hb hq
    · cases hq : (FloatKind.f64.format.order (fop .sub .f64 (partF v) 4602678819172646912) 4598175219545276416 == some .gt)
      · exact c_l01SineWide_ttf v _ w j hti rfl hs h1 h2 hnan e hl hb hq
      · exact c_l01SineWide_ttt v _ w j hti rfl hs h1 h2 hnan e hl hb hq

/-! ### f64from -/
@[go_sem] theorem e_f64from (n : Int) (w : World) : (callFunc 144 #[.int .u64 n]).run Try.prog w = .ok (.value (.float .f64 n.toNat)) w := by kernel_rfl
/-! ### mathNaN -/
theorem c_NaN (w : World) (j : Nat) : Calls Try.prog 139 #[] (w.drewN j) (RetF .f64 (qn .f64) w) := by
  obtain ⟨n, hn⟩ := raw_nan (b := 9221120237041090561) (by decide +kernel) (by decide +kernel)
  go_enter Try.func139, Try.ntmps139
  go_wp2
  go_ret
  exact ⟨n, _, by rw [← hn]; rfl, rfl⟩
/-! ### sSine -/
theorem c_l01Sine_nan (v j2 : Nat) (w : World) (j : Nat) (hs : (FloatKind.f64.format.order (fop .sub .f64 v v) 0 != some .eq) = true) : Calls Try.prog 121 #[.float .f64 (pick .f64 v j2)] (w.drewN j) (RetF .f64 (qn .f64) w) := by
  go_enter Try.func121, Try.ntmps121
  go_wp2_with (first | (first | (refine wpList_fop rfl _ _ _ _ _ rfl _ _ _ rfl rfl (by decide) _ ?_; intro _ _) | (refine upon_fop _ _ _ _ _ (by decide) ?_; intro _ _)) | (go_at_call 139; refine (c_NaN _ _).mono ?_; rintro _ _ ⟨_, _, rfl, rfl⟩))
  go_ret
  exact ⟨_, _, rfl, rfl⟩
theorem c_l01Sine_big (v j2 : Nat) (w : World) (j : Nat) (hs : (FloatKind.f64.format.order (fop .sub .f64 v v) 0 != some .eq) = false)
    (h : ((FloatKind.f64.format.order v 4841369599423283200 == some .gt || FloatKind.f64.format.order v 4841369599423283200 == some .eq) ||
     (FloatKind.f64.format.order v 14064741636278059008 == some .lt || FloatKind.f64.format.order v 14064741636278059008 == some .eq)) = true) : Calls Try.prog 121 #[.float .f64 (pick .f64 v j2)] (w.drewN j) (RetV (.float .f64 0) w) := by
  cases h1 : (FloatKind.f64.format.order v 4841369599423283200 == some .gt || FloatKind.f64.format.order v 4841369599423283200 == some .eq)
  · rw [h1, Bool.false_or] at h
    go_enter Try.func121, Try.ntmps121
    go_wp2_with (first | (first | (refine wpList_fop rfl _ _ _ _ _ rfl _ _ _ rfl rfl (by decide) _ ?_; intro _ _) | (refine upon_fop _ _ _ _ _ (by decide) ?_; intro _ _)))
    go_ret
    exact ⟨_, rfl, rfl⟩
  · clear h
    go_enter Try.func121, Try.ntmps121
    go_wp2_with (first | (first | (refine wpList_fop rfl _ _ _ _ _ rfl _ _ _ rfl rfl (by decide) _ ?_; intro _ _) | (refine upon_fop _ _ _ _ _ (by decide) ?_; intro _ _)))
    go_ret
    exact ⟨_, rfl, rfl⟩
theorem c_l01Sine (v n : Nat) (w : World) (j : Nat) (hv : v < 2 ^ FloatKind.f32.format.width) : Calls Try.prog 83 #[.float .f32 (pick .f32 v n)] (w.drewN j) (RetF .f32 (sineT v) w) := by
  have hss := sub_self_zero .f64 (cvU v)
  rw [finB_cvU] at hss
  cases hf : finB .f32 v
  · have e : sineT v = cvN (qn .f64) := by unfold sineT; rw [hf, if_neg (by decide)]; exact (cvN_qn (isN_qn .f64)).symm
    rw [e]
    have hs : (FloatKind.f64.format.order (fop .sub .f64 (cvU v) (cvU v)) 0 != some .eq) = true := by rw [bne, hss, hf]; rfl
    have HS := Lib.hid hs
    clear hss hs
    go_enter Try.func83, Try.ntmps83
    go_wp2_with (first | (refine wpList_cvU rfl 26 32 _ rfl (Option.isSome_iff_exists.2 ⟨_, Try.underlying26⟩) Try.underlying32 _ rfl _ ?_; intro _ _) | (refine wpList_cvN rfl 32 26 _ rfl (Option.isSome_iff_exists.2 ⟨_, Try.underlying32⟩) Try.underlying26 _ rfl _ (by exact .inl (by rw [isN_pick]; exact isN_qn _)) ?_; intro _ _) | (go_at_call 121; refine (c_l01Sine_nan _ _ _ _ HS.out).mono ?_; rintro _ _ ⟨_, _, rfl, rfl⟩) | go_in)
    go_ret
    exact ⟨_, _, rfl, rfl⟩
  · have hs : (FloatKind.f64.format.order (fop .sub .f64 (cvU v) (cvU v)) 0 != some .eq) = false := by rw [bne, hss, hf]; rfl
    have hn : isN .f64 (cvU v) = false := by rw [isN_cvU]; exact notN_fin (k := .f32) (of_decide_eq_true hf)
    obtain ⟨g1, g2⟩ := big_abs (cvU v) hn
    cases hb : decide (4841369599423283200 ≤ rung Ieee.double (cvU v))
    · obtain ⟨k1, k2, k3⟩ := fin_small hf hb
      have e : sineT v = cvN (sinF (cvU v)) := by unfold sineT; rw [hf, if_pos rfl, hb, if_neg (by decide)]
      rw [e]
      rw [g2, hb] at g1
      have h12 := Bool.or_eq_false_iff.1 g1.symm
      have H := Lib.hid (And.intro hs (And.intro h12.1 (And.intro h12.2 (And.intro k2 (And.intro k1 k3)))))
      clear hss hs g1 g2 k1 k2 k3 h12 hn
      go_enter Try.func83, Try.ntmps83
      go_wp2_with (first | (refine wpList_cvU rfl 26 32 _ rfl (Option.isSome_iff_exists.2 ⟨_, Try.underlying26⟩) Try.underlying32 _ rfl _ ?_; intro _ _) | (refine wpList_cvN rfl 32 26 _ rfl (Option.isSome_iff_exists.2 ⟨_, Try.underlying32⟩) Try.underlying26 _ rfl _ (by rw [Fits_pick]; exact Fits_sin H.out.2.2.2.2.2) ?_; intro _ _) | (go_at_call 121; refine (c_l01Sine_ok _ _ _ H.out.2.2.2.1 H.out.2.2.2.2.1 H.out.1 H.out.2.1 H.out.2.2.1).mono ?_; rintro _ _ ⟨_, _, rfl, rfl⟩) | go_in)
      go_ret
      exact ⟨_, _, rfl, rfl⟩
    · have e : sineT v = 0 := by unfold sineT; rw [hf, if_pos rfl, hb, if_pos rfl]
      rw [e]
      rw [g2, hb] at g1
      have H := Lib.hid (And.intro hs g1.symm)
      have hz : cvN 0 = 0 := by decide +kernel
      clear hss hs g1 g2 hn
      go_enter Try.func83, Try.ntmps83
      go_wp2_with (first | (refine wpList_cvU rfl 26 32 _ rfl (Option.isSome_iff_exists.2 ⟨_, Try.underlying26⟩) Try.underlying32 _ rfl _ ?_; intro _ _) | (refine wpList_cvN rfl 32 26 _ rfl (Option.isSome_iff_exists.2 ⟨_, Try.underlying32⟩) Try.underlying26 _ rfl _ (by exact Fits_of_Bd (Bd_const (by decide +kernel))) ?_; intro _ _) | (go_at_call 121; refine (c_l01Sine_big _ _ _ _ H.out.1 H.out.2).mono ?_; rintro _ _ ⟨_, rfl, rfl⟩) | go_in)
      go_ret
      exact ⟨_, _, rfl, rfl⟩
/-! ### l06Cosine -/
theorem c_l06Cosine (v n : Nat) (w : World) (j : Nat) : Calls Try.prog 82 #[.float .f32 (pick .f32 v n)] (w.drewN j) (RetF .f32 (cosT v) w) := by
  unfold cosT
  go_enter Try.func82, Try.ntmps82
  go_wp2_with (first | (first | (refine wpList_fop rfl _ _ _ _ _ rfl _ _ _ rfl rfl (by decide) _ ?_; intro _ _) | (refine upon_fop _ _ _ _ _ (by decide) ?_; intro _ _)) | (go_at_call 83; refine (c_l01Sine _ _ _ _ (fop_lt _ _ _ _)).mono ?_; rintro _ _ ⟨_, _, rfl, rfl⟩))
  go_ret
  exact ⟨_, _, rfl, rfl⟩
theorem c_l06Cosine0 (v n : Nat) (w : World) : Calls Try.prog 82 #[.float .f32 (pick .f32 v n)] w (RetF .f32 (cosT v) w) := by
  have h := c_l06Cosine v n w 0
  rwa [w.drewN_zero] at h
theorem c_l01Sine0 (v n : Nat) (w : World) (hv : v < 2 ^ FloatKind.f32.format.width) : Calls Try.prog 83 #[.float .f32 (pick .f32 v n)] w (RetF .f32 (sineT v) w) := by
  have h := c_l01Sine v n w 0 hv
  rwa [w.drewN_zero] at h
/-! ### l06Way -/
theorem c_l06Way (Wn Hn x y : Nat) (w : World) (hx : x < Wn) (hW : Wn ≤ 16) (hy : y < Hn) (hH : Hn ≤ 16) : Calls Try.prog 59 #[.int .i64 (Wn : Int), .int .i64 (Hn : Int), .int .i64 ((y * Wn + x : Nat) : Int)] w (WayR (wayV (Wn : Int) (Hn : Int) (x : Int) (y : Int)) w) := by
  have ex : (y * Wn + x) % Wn = x := by rw [Nat.add_comm, Nat.add_mul_mod_self_right]; exact Nat.mod_eq_of_lt hx
  have ey : (y * Wn + x) / Wn = y := by rw [Nat.add_comm, Nat.add_mul_div_right _ _ (by omega), Nat.div_eq_of_lt hx]; omega
  generalize hk : y * Wn + x = k at *
  have mt : (k : Int).tmod (Wn : Int) = (x : Int) := by rw [Int.tmod_eq_emod_of_nonneg (by omega), ← Int.natCast_emod, ex]
  have mt2 : (k : Int) % (Wn : Int) = (x : Int) := by rw [← Int.natCast_emod, ex]
  have mq0 : (k : Int).tdiv (Wn : Int) = (y : Int) := by rw [Int.tdiv_eq_ediv_of_nonneg (by omega), ← Int.natCast_ediv, ey]
  have mq2 : (k : Int) / (Wn : Int) = (y : Int) := by rw [← Int.natCast_ediv, ey]
  have mq : IntKind.i64.wrap (y : Int) = (y : Int) := IntWalk.i64_in _ (by omega)
  have mx : IntKind.i64.wrap (x : Int) = (x : Int) := IntWalk.i64_in _ (by omega)
  have m2 : IntKind.i64.wrap (2 * (Hn : Int)) = 2 * (Hn : Int) := IntWalk.i64_in _ (by omega)
  have hzW : ¬ ((Wn : Int) = 0) := by omega
  clear hk ex ey
  unfold wayV wayT atT
  generalize hw0 : w.alloc (Obj.cells #[.float .f32 0, .float .f32 0, .float .f32 0] 36) = w0
  have V0 := Lib.hid (show Var w0 w.heap.size #[.float .f32 0, .float .f32 0, .float .f32 0] from by subst hw0; exact Var.new _ _ _)
  have F0 := Lib.hid (show Free w0 w.heap.size from by subst hw0; exact Free.new _ _ _)
  have B0 := Lib.hid (show Below w.heap.size w w0 from by subst hw0; exact (Below.refl _ _).alloc (Nat.le_refl _) _)
  have HW := Lib.hid hw0
  clear hw0
  obtain ⟨c0, c1, c2⟩ := V0.out.three
  have f0 := F0.out 0
  have f1 := F0.out 1
  have f2 := F0.out 2
  go_enter Try.func59, Try.ntmps59
  go_wp2_with fail
  rw [HW.out]
  refine upon_fop0 _ _ _ _ _ (by decide) ?_
  intro _ _
  go_wp2_with (first | (first | (refine wpList_fop rfl _ _ _ _ _ rfl _ _ _ rfl rfl (by decide) _ ?_; intro _ _) | (refine upon_fop _ _ _ _ _ (by decide) ?_; intro _ _)) | (go_at_call 82; refine (c_l06Cosine _ _ _ _).mono ?_; rintro _ _ ⟨_, _, rfl, rfl⟩) | (go_at_call 83; refine (c_l01Sine _ _ _ _ (fop_lt _ _ _ _)).mono ?_; rintro _ _ ⟨_, _, rfl, rfl⟩))
  refine bodyPost_ret (by simp [results, Try.results59, c0, c1, c2, go_sem]; exact ⟨rfl, rfl, rfl⟩) rfl ⟨_, _, _, rfl, ?_⟩
  repeat (first | exact B0.out | exact Nat.le_refl _ | (refine Below.setCell ?_ ?_ _) | (refine below_drewN ?_ _) | (refine Below.alloc ?_ ?_ _) | (simp <;> omega))
/-! ### Floor -/
theorem run_floor (x : Nat) (w : World) (hx : isN .f64 x = false) : (callFunc 152 #[.float .f64 x]).run Try.prog w = .ok (.value (.float .f64 (floorF x))) w := by
  have e : (callFunc 152 #[.float .f64 x]).run Try.prog w = ((Extern.MathFloor.toIntegral "math.archFloor" .down #[.float .f64 x]).bind fun v => Sem.pure (Next.value v)).run Try.prog w := by kernel_rfl
  rw [e]
  have e2 : Extern.MathFloor.toIntegral "math.archFloor" .down #[.float .f64 x] = pure (.float .f64 (floorF x)) := by
    have hd : ∀ s t, FloatKind.f64.decode x ≠ .nan s t := by
      intro s t h
      have h2 : FloatKind.f64.format.read x = .nan s t := h
      unfold isN at hx
      rw [h2] at hx; cases hx
    show (match FloatKind.f64.decode x with | .nan s t => _ | d => _) = _
    cases hh : FloatKind.f64.decode x with
    | nan s t => exact absurd hh (hd s t)
    | number s m i =>
      have h2 : Ieee.double.read x = .number s m i := hh
      unfold floorF; rw [h2]; rfl
    | infinity s =>
      have h2 : Ieee.double.read x = .infinity s := hh
      unfold floorF; rw [h2]; rfl
  rw [e2]; rfl
theorem c_Floor (x : Nat) (w : World) (j : Nat) (hx : isN .f64 x = false) : Calls Try.prog 149 #[.float .f64 x] (w.drewN j) (RetV (.float .f64 (floorF x)) w) := by
  have hr := run_floor x (w.drewN j) hx
  go_enter Try.func149, Try.ntmps149
  go_wp2
  go_ret
  exact ⟨_, rfl, rfl⟩
/-! ### l06Down -/
theorem run_floor_nan (x : Nat) (w : World) (hx : isN .f64 x = true) : ∃ b m, isN .f64 b = true ∧ (callFunc 152 #[.float .f64 x]).run Try.prog w = .ok (.value (.float .f64 b)) (w.drewN m) := by
  have e : (callFunc 152 #[.float .f64 x]).run Try.prog w = ((Extern.MathFloor.toIntegral "math.archFloor" .down #[.float .f64 x]).bind fun v => Sem.pure (Next.value v)).run Try.prog w := by kernel_rfl
  rw [e]
  obtain ⟨s, t, hd⟩ := read_nan hx
  have hd' : FloatKind.f64.decode x = .nan s t := hd
  by_cases hq : FloatKind.f64.format.quiet t = t
  · have e2 : Extern.MathFloor.toIntegral "math.archFloor" .down #[.float .f64 x] = pure (.float .f64 x) := by
      show (match FloatKind.f64.decode x with | .nan s t => _ | d => _) = _
      rw [hd']
      show (if FloatKind.f64.format.quiet t = t then _ else _) = _
      rw [if_pos hq]
    rw [e2]
    exact ⟨x, 0, hx, rfl⟩
  · have e2 : Extern.MathFloor.toIntegral "math.archFloor" .down #[.float .f64 x] = (do
        let kept ← choose (.extern "math.Floor,Ceil,Trunc,RoundToEven.signallingNaN kept" 2)
        pure (.float .f64 (if kept == 1 then x else FloatKind.f64.encode (.nan s (FloatKind.f64.format.quiet t))))) := by
      show (match FloatKind.f64.decode x with | .nan s t => _ | d => _) = _
      rw [hd']
      show (if FloatKind.f64.format.quiet t = t then _ else _) = _
      rw [if_neg hq]
    rw [e2]
    have hq2 := isN_quiet s t
    refine ⟨_, 1, ?_, rfl⟩
    split
    · exact hx
    · exact hq2
theorem c_FloorN (x : Nat) (w : World) (j : Nat) (hx : isN .f64 x = true) : Calls Try.prog 149 #[.float .f64 x] (w.drewN j) (fun e w' => ∃ b m, e = .returned (.float .f64 b) ∧ isN .f64 b = true ∧ w' = w.drewN m) := by
  obtain ⟨b, m, hb, hr⟩ := run_floor_nan x (w.drewN j) hx
  go_enter Try.func149, Try.ntmps149
  go_wp2
  go_ret
  exact ⟨b, _, rfl, hb, rfl⟩
theorem c_l06Down (x n last : Nat) (w : World) (j : Nat) (h : isN .f32 x = true ∨ Ft 168 x) (hl : last ≤ 15) : Calls Try.prog 137 #[.float .f32 (pick .f32 x n), .int .i64 (last : Int)] (w.drewN j) (RetV (.int .i64 ((downN x last : Nat) : Int)) w) := by
  rcases h with h | h
  · rw [downN_nan h]
    have hN : ∀ n, isN .f64 (pick .f64 (cvU x) n) = true := fun n => by rw [isN_pick, isN_cvU]; exact h
    have HN := Lib.hid hN
    clear hN
    go_enter Try.func137, Try.ntmps137
    go_wp2_with (first | (refine wpList_cvU rfl 26 32 _ rfl (Option.isSome_iff_exists.2 ⟨_, Try.underlying26⟩) Try.underlying32 _ rfl _ ?_; intro _ _) | (go_at_call 149; refine (c_FloorN _ _ _ (HN.out _)).mono ?_; rintro _ _ ⟨b, m, rfl, hb, rfl⟩; have hb0 := order_nan_l 0 hb; clear hb))
    go_ret
    exact ⟨_, rfl, rfl⟩
  · have hn : isN .f64 (cvU x) = false := by rw [isN_cvU]; exact h.1
    have hp : ∀ n, pick .f64 (cvU x) n = cvU x := fun n => pick_not hn n
    have HN := Lib.hid hn
    rcases down_cases h hl with ⟨k0, kd⟩ | ⟨k0, k1, kd⟩ | ⟨k0, k1, kc⟩
    · rw [kd]
      clear kd hn
      go_enter Try.func137, Try.ntmps137
      go_wp2_with (first | (refine wpList_cvU rfl 26 32 _ rfl (Option.isSome_iff_exists.2 ⟨_, Try.underlying26⟩) Try.underlying32 _ rfl _ ?_; intro _ _) | (go_at_call 149; refine (c_Floor _ _ _ HN.out).mono ?_; rintro _ _ ⟨_, rfl, rfl⟩))
      go_ret
      exact ⟨_, rfl, rfl⟩
    · rw [kd]
      clear kd hn
      go_enter Try.func137, Try.ntmps137
      go_wp2_with (first | (refine wpList_cvU rfl 26 32 _ rfl (Option.isSome_iff_exists.2 ⟨_, Try.underlying26⟩) Try.underlying32 _ rfl _ ?_; intro _ _) | (go_at_call 149; refine (c_Floor _ _ _ HN.out).mono ?_; rintro _ _ ⟨_, rfl, rfl⟩))
      go_ret
      exact ⟨_, rfl, rfl⟩
    · have KC := Lib.hid kc
      clear kc hn
      go_enter Try.func137, Try.ntmps137
      go_wp2_with (first | (refine wpList_cvU rfl 26 32 _ rfl (Option.isSome_iff_exists.2 ⟨_, Try.underlying26⟩) Try.underlying32 _ rfl _ ?_; intro _ _) | (go_at_call 149; refine (c_Floor _ _ _ HN.out).mono ?_; rintro _ _ ⟨_, rfl, rfl⟩) | (refine wpList_ftoi rfl 32 2 _ rfl (Option.isSome_iff_exists.2 ⟨_, Try.underlying32⟩) .i64 Try.underlying2 _ _ rfl (by exact KC.out) ?_))
      go_ret
      exact ⟨_, rfl, rfl⟩
/-! ### l06Down0 -/
theorem c_l06Down0 (x n last : Nat) (w : World) (h : isN .f32 x = true ∨ Ft 168 x) (hl : last ≤ 15) : Calls Try.prog 137 #[.float .f32 (pick .f32 x n), .int .i64 (last : Int)] w (RetV (.int .i64 ((downN x last : Nat) : Int)) w) := by
  have q := c_l06Down x n last w 0 h hl
  rwa [w.drewN_zero] at q
/-! ### f64bits -/
@[go_sem] theorem e_f64bits (b : Nat) (w : World) : (callFunc 145 #[.float .f64 b]).run Try.prog w = .ok (.value (.int .u64 b)) w := by kernel_rfl
/-! ### Abs -/
theorem c_Abs (v n : Nat) (w : World) (j : Nat) (hv : v < 2 ^ FloatKind.f64.format.width) : Calls Try.prog 132 #[.float .f64 (pick .f64 v n)] (w.drewN j) (RetF .f64 (fabs .f64 v) w) := by
  have hb := abs_bits hv n
  go_enter Try.func132, Try.ntmps132
  go_wp2
  go_ret
  exact ⟨_, _, rfl, rfl⟩
/-! ### msqrt -/
theorem run_msqrt (b : Nat) (w : World) : ∃ n m, (callFunc 142 #[.float .f64 b]).run Try.prog w = .ok (.value (.float .f64 (pick .f64 (fsqrt b) n))) (w.drewN m) := by
  have e : (callFunc 142 #[.float .f64 b]).run Try.prog w = ((Extern.MathSqrt.sqrt #[.float .f64 b]).bind fun v => Sem.pure (Next.value v)).run Try.prog w := by kernel_rfl
  rw [e]
  cases h : Ieee.double.sqrt b with
  | some r =>
    refine ⟨0, 0, ?_⟩
    have e2 : Extern.MathSqrt.sqrt #[.float .f64 b] = pure (.float .f64 r) := by
      show (match Ieee.double.sqrt b with | some r => _ | none => _) = _
      rw [h]
    have e3 : fsqrt b = r := by unfold fsqrt; rw [h]; rfl
    rw [e2, e3, pick_not (sqrt_notNaN h)]; rfl
  | none =>
    have e3 : fsqrt b = qn .f64 := by unfold fsqrt; rw [h]; rfl
    refine ⟨w.tape w.drawn (.nanBits .f64 b b), 1, ?_⟩
    have e2 : Extern.MathSqrt.sqrt #[.float .f64 b] = (do pure (.float .f64 (← choose (.nanBits .f64 b b)))) := by
      show (match Ieee.double.sqrt b with | some r => _ | none => _) = _
      rw [h]
    rw [e2, e3]
    have e4 : pick .f64 (qn .f64) (w.tape w.drawn (.nanBits .f64 b b)) = (Question.nanBits .f64 b b).cut (w.tape w.drawn (.nanBits .f64 b b)) := by
      simp only [pick, isN_qn, if_true]; rfl
    rw [e4]
    rfl
/-! ### Sqrt -/
theorem c_Sqrt (v k : Nat) (w : World) (j : Nat) : Calls Try.prog 128 #[.float .f64 (pick .f64 v k)] (w.drewN j) (RetF .f64 (fsqrt v) w) := by
  obtain ⟨n, m, hr⟩ := run_msqrt (pick .f64 v k) (w.drewN j)
  rw [fsqrt_pick] at hr
  go_enter Try.func128, Try.ntmps128
  go_wp2
  go_ret
  exact ⟨_, _, rfl, rfl⟩

/-! ### wideAngle -/
theorem c_wide_fff (y x ny nx : Nat) (w : World) (j : Nat) (hy : y < 2 ^ FloatKind.f64.format.width) (hx : x < 2 ^ FloatKind.f64.format.width)
    (ho : (FloatKind.f64.format.order (fabs .f64 y) (fabs .f64 x) == some .gt) = false) (hlx : (FloatKind.f64.format.order x 0 == some .lt) = false) (hly : (FloatKind.f64.format.order y 0 == some .lt) = false)
    (sy : (FloatKind.f64.format.order (fop .sub .f64 y y) 0 != some .eq) = false) (sx : (FloatKind.f64.format.order (fop .sub .f64 x x) 0 != some .eq) = false)
    (hz : ((FloatKind.f64.format.order x 0 == some .eq) && (FloatKind.f64.format.order y 0 == some .eq)) = false) : Calls Try.prog 148 #[.float .f64 (pick .f64 y ny), .float .f64 (pick .f64 x nx)] (w.drewN j) (RetF .f64 (angW y x) w) := by
  have HW : Hid (angW y x = flatA (fop .quo .f64 (fabs .f64 y) (fabs .f64 x))) := by
    unfold Hid angW overB ltz quarter64 half64; simp only [ho, hlx, hly, if_true, if_false, Bool.false_eq_true]
  rcases Bool.and_eq_false_iff.1 hz with hz1 | hz1
  all_goals
    clear hz
    have hz2 : Hid True := trivial
  all_goals try (cases hz3 : (FloatKind.f64.format.order x 0 == some .eq))
  all_goals try (rw [hz3] at hz1; cases hz1; done)
  all_goals
    go_enter Try.func148, Try.ntmps148
    go_wp2_with (first | (first | (refine wpList_fop rfl _ _ _ _ _ rfl _ _ _ rfl rfl (by decide) _ ?_; intro _ _) | (refine upon_fop _ _ _ _ _ (by decide) ?_; intro _ _)) | (go_at_call 132; refine (c_Abs _ _ _ _ (by assumption)).mono ?_; rintro _ _ ⟨_, _, rfl, rfl⟩))
    obtain ⟨T, hT⟩ : ∃ T, T = (fop .quo .f64 (fabs .f64 y) (fabs .f64 x)) := ⟨_, rfl⟩
    have HT : Hid (T = (fop .quo .f64 (fabs .f64 y) (fabs .f64 x))) := hT
    rw [← hT]
    clear hT
    go_loopw [8, 9] (fun t k wr => ∃ i n m : Nat, i ≤ 3 ∧ t = .float .f64 (pick .f64 (iterT T i) n) ∧ k = .int .i64 i ∧ wr = w.drewN m) (fun _ k _ => 3 - (intOf k).toNat)
    case atStart => exact ⟨0, _, _, by omega, rfl, rfl, rfl⟩
    case round =>
      obtain ⟨i, n, m, hi, rfl, rfl, rfl⟩ := hrel
      by_cases hlt : i < 3
      · go_wp2_with (first | (first | (refine wpList_fop rfl _ _ _ _ _ rfl _ _ _ rfl rfl (by decide) _ ?_; intro _ _) | (refine upon_fop _ _ _ _ _ (by decide) ?_; intro _ _)) | (go_at_call 128; refine (c_Sqrt _ _ _ _).mono ?_; rintro _ _ ⟨_, _, rfl, rfl⟩))
        go_roundw
        case rel => exact ⟨i + 1, _, _, by omega, by rw [iterT_step]; rfl, by go_num, rfl⟩
        case measure => simp [intOf]; omega
      · obtain rfl : i = 3 := by omega
        clear hlt
        go_wp2_with (first | (refine wpList_fop rfl _ _ _ _ _ rfl _ _ _ rfl rfl (by decide) _ ?_; intro _ _) | (refine upon_fop _ _ _ _ _ (by decide) ?_; intro _ _))
        generalize hu : fop .mul .f64 (iterT T 3) (iterT T 3) = u
        have Hu := Lib.hid hu
        clear hu
        go_loopw [11, 12] (fun p k wr => ∃ (i n m : Nat) (kI : Int), i ≤ 8 ∧ Hid (kI = 15 - 2 * (i : Int)) ∧ p = .float .f64 (pick .f64 (aser u i) n) ∧ k = .int .i64 kI ∧ wr = w.drewN m) (fun _ k _ => (intOf k + 2).toNat)
        case atStart => exact ⟨0, 0, _, 15, by omega, rfl, by rw [pick_not (show isN .f64 (aser u 0) = false from (by decide +kernel : isN .f64 0 = false))]; rfl, rfl, rfl⟩
        case round =>
          obtain ⟨i, n, m, kI, hi, HK, rfl, rfl, rfl⟩ := hrel
          by_cases hlt : i < 8
          · have b1 : 1 ≤ kI := by have := HK.out; omega
            have b2 : kI ≤ 15 := by have := HK.out; omega
            have HD : Hid (odd i = floatOfInt .f64 kI) := by unfold Hid odd; rw [HK.out]
            go_wp2_with (first | (refine wpList_fop rfl _ _ _ _ _ rfl _ _ _ rfl rfl (by decide) _ ?_; intro _ _) | (refine upon_fop _ _ _ _ _ (by decide) ?_; intro _ _))
            go_roundw
            case rel => exact ⟨i + 1, _, _, kI - 2, by omega, by have := HK.out; unfold Hid; omega, by rw [aser_step, HD.out]; rfl, rfl, rfl⟩
            case measure => simp [intOf]; omega
          · obtain rfl : i = 8 := by omega
            have b1 : kI < 1 := by have := HK.out; omega
            have b2 : -1 ≤ kI := by have := HK.out; omega
            clear hlt
            go_wp2_with (first | (first | (refine wpList_fop rfl _ _ _ _ _ rfl _ _ _ rfl rfl (by decide) _ ?_; intro _ _) | (refine upon_fop _ _ _ _ _ (by decide) ?_; intro _ _)) | go_in)
            go_ret
            rw [HW.out, ← HT.out]
            unfold flatA
            rw [Hu.out]
            exact ⟨_, _, rfl, rfl⟩
theorem c_wide_fft (y x ny nx : Nat) (w : World) (j : Nat) (hy : y < 2 ^ FloatKind.f64.format.width) (hx : x < 2 ^ FloatKind.f64.format.width)
    (ho : (FloatKind.f64.format.order (fabs .f64 y) (fabs .f64 x) == some .gt) = false) (hlx : (FloatKind.f64.format.order x 0 == some .lt) = false) (hly : (FloatKind.f64.format.order y 0 == some .lt) = true)
    (sy : (FloatKind.f64.format.order (fop .sub .f64 y y) 0 != some .eq) = false) (sx : (FloatKind.f64.format.order (fop .sub .f64 x x) 0 != some .eq) = false)
    (hz : ((FloatKind.f64.format.order x 0 == some .eq) && (FloatKind.f64.format.order y 0 == some .eq)) = false) : Calls Try.prog 148 #[.float .f64 (pick .f64 y ny), .float .f64 (pick .f64 x nx)] (w.drewN j) (RetF .f64 (angW y x) w) := by
  have HW : Hid (angW y x = fneg .f64 (flatA (fop .quo .f64 (fabs .f64 y) (fabs .f64 x)))) := by
    unfold Hid angW overB ltz quarter64 half64; simp only [ho, hlx, hly, if_true, if_false, Bool.false_eq_true]
  rcases Bool.and_eq_false_iff.1 hz with hz1 | hz1
  all_goals
    clear hz
    have hz2 : Hid True := trivial
  all_goals try (cases hz3 : (FloatKind.f64.format.order x 0 == some .eq))
  all_goals try (rw [hz3] at hz1; cases hz1; done)
  all_goals
    go_enter Try.func148, Try.ntmps148
    go_wp2_with (first | (first | (refine wpList_fop rfl _ _ _ _ _ rfl _ _ _ rfl rfl (by decide) _ ?_; intro _ _) | (refine upon_fop _ _ _ _ _ (by decide) ?_; intro _ _)) | (go_at_call 132; refine (c_Abs _ _ _ _ (by assumption)).mono ?_; rintro _ _ ⟨_, _, rfl, rfl⟩))
    obtain ⟨T, hT⟩ : ∃ T, T = (fop .quo .f64 (fabs .f64 y) (fabs .f64 x)) := ⟨_, rfl⟩
    have HT : Hid (T = (fop .quo .f64 (fabs .f64 y) (fabs .f64 x))) := hT
    rw [← hT]
    clear hT
    go_loopw [8, 9] (fun t k wr => ∃ i n m : Nat, i ≤ 3 ∧ t = .float .f64 (pick .f64 (iterT T i) n) ∧ k = .int .i64 i ∧ wr = w.drewN m) (fun _ k _ => 3 - (intOf k).toNat)
    case atStart => exact ⟨0, _, _, by omega, rfl, rfl, rfl⟩
    case round =>
      obtain ⟨i, n, m, hi, rfl, rfl, rfl⟩ := hrel
      by_cases hlt : i < 3
      · go_wp2_with (first | (first | (refine wpList_fop rfl _ _ _ _ _ rfl _ _ _ rfl rfl (by decide) _ ?_; intro _ _) | (refine upon_fop _ _ _ _ _ (by decide) ?_; intro _ _)) | (go_at_call 128; refine (c_Sqrt _ _ _ _).mono ?_; rintro _ _ ⟨_, _, rfl, rfl⟩))
        go_roundw
        case rel => exact ⟨i + 1, _, _, by omega, by rw [iterT_step]; rfl, by go_num, rfl⟩
        case measure => simp [intOf]; omega
      · obtain rfl : i = 3 := by omega
        clear hlt
        go_wp2_with (first | (refine wpList_fop rfl _ _ _ _ _ rfl _ _ _ rfl rfl (by decide) _ ?_; intro _ _) | (refine upon_fop _ _ _ _ _ (by decide) ?_; intro _ _))
        generalize hu : fop .mul .f64 (iterT T 3) (iterT T 3) = u
        have Hu := Lib.hid hu
        clear hu
        go_loopw [11, 12] (fun p k wr => ∃ (i n m : Nat) (kI : Int), i ≤ 8 ∧ Hid (kI = 15 - 2 * (i : Int)) ∧ p = .float .f64 (pick .f64 (aser u i) n) ∧ k = .int .i64 kI ∧ wr = w.drewN m) (fun _ k _ => (intOf k + 2).toNat)
        case atStart => exact ⟨0, 0, _, 15, by omega, rfl, by rw [pick_not (show isN .f64 (aser u 0) = false from (by decide +kernel : isN .f64 0 = false))]; rfl, rfl, rfl⟩
        case round =>
          obtain ⟨i, n, m, kI, hi, HK, rfl, rfl, rfl⟩ := hrel
          by_cases hlt : i < 8
          · have b1 : 1 ≤ kI := by have := HK.out; omega
            have b2 : kI ≤ 15 := by have := HK.out; omega
            have HD : Hid (odd i = floatOfInt .f64 kI) := by unfold Hid odd; rw [HK.out]
            go_wp2_with (first | (refine wpList_fop rfl _ _ _ _ _ rfl _ _ _ rfl rfl (by decide) _ ?_; intro _ _) | (refine upon_fop _ _ _ _ _ (by decide) ?_; intro _ _))
            go_roundw
            case rel => exact ⟨i + 1, _, _, kI - 2, by omega, by have := HK.out; unfold Hid; omega, by rw [aser_step, HD.out]; rfl, rfl, rfl⟩
            case measure => simp [intOf]; omega
          · obtain rfl : i = 8 := by omega
            have b1 : kI < 1 := by have := HK.out; omega
            have b2 : -1 ≤ kI := by have := HK.out; omega
            clear hlt
            go_wp2_with (first | (first | (refine wpList_fop rfl _ _ _ _ _ rfl _ _ _ rfl rfl (by decide) _ ?_; intro _ _) | (refine upon_fop _ _ _ _ _ (by decide) ?_; intro _ _)) | go_in)
            go_ret
            rw [HW.out, ← HT.out]
            unfold flatA
            rw [Hu.out]
            exact ⟨_, _, rfl, rfl⟩
theorem c_wide_ftf (y x ny nx : Nat) (w : World) (j : Nat) (hy : y < 2 ^ FloatKind.f64.format.width) (hx : x < 2 ^ FloatKind.f64.format.width)
    (ho : (FloatKind.f64.format.order (fabs .f64 y) (fabs .f64 x) == some .gt) = false) (hlx : (FloatKind.f64.format.order x 0 == some .lt) = true) (hly : (FloatKind.f64.format.order y 0 == some .lt) = false)
    (sy : (FloatKind.f64.format.order (fop .sub .f64 y y) 0 != some .eq) = false) (sx : (FloatKind.f64.format.order (fop .sub .f64 x x) 0 != some .eq) = false)
    (hz : ((FloatKind.f64.format.order x 0 == some .eq) && (FloatKind.f64.format.order y 0 == some .eq)) = false) : Calls Try.prog 148 #[.float .f64 (pick .f64 y ny), .float .f64 (pick .f64 x nx)] (w.drewN j) (RetF .f64 (angW y x) w) := by
  have HW : Hid (angW y x = fop .sub .f64 4602678819172646912 (flatA (fop .quo .f64 (fabs .f64 y) (fabs .f64 x)))) := by
    unfold Hid angW overB ltz quarter64 half64; simp only [ho, hlx, hly, if_true, if_false, Bool.false_eq_true]
  rcases Bool.and_eq_false_iff.1 hz with hz1 | hz1
  all_goals
    clear hz
    have hz2 : Hid True := trivial
  all_goals try (cases hz3 : (FloatKind.f64.format.order x 0 == some .eq))
  all_goals try (rw [hz3] at hz1; cases hz1; done)
  all_goals
    go_enter Try.func148, Try.ntmps148
    go_wp2_with (first | (first | (refine wpList_fop rfl _ _ _ _ _ rfl _ _ _ rfl rfl (by decide) _ ?_; intro _ _) | (refine upon_fop _ _ _ _ _ (by decide) ?_; intro _ _)) | (go_at_call 132; refine (c_Abs _ _ _ _ (by assumption)).mono ?_; rintro _ _ ⟨_, _, rfl, rfl⟩))
    obtain ⟨T, hT⟩ : ∃ T, T = (fop .quo .f64 (fabs .f64 y) (fabs .f64 x)) := ⟨_, rfl⟩
    have HT : Hid (T = (fop .quo .f64 (fabs .f64 y) (fabs .f64 x))) := hT
    rw [← hT]
    clear hT
    go_loopw [8, 9] (fun t k wr => ∃ i n m : Nat, i ≤ 3 ∧ t = .float .f64 (pick .f64 (iterT T i) n) ∧ k = .int .i64 i ∧ wr = w.drewN m) (fun _ k _ => 3 - (intOf k).toNat)
    case atStart => exact ⟨0, _, _, by omega, rfl, rfl, rfl⟩
    case round =>
      obtain ⟨i, n, m, hi, rfl, rfl, rfl⟩ := hrel
      by_cases hlt : i < 3
      · go_wp2_with (first | (first | (refine wpList_fop rfl _ _ _ _ _ rfl _ _ _ rfl rfl (by decide) _ ?_; intro _ _) | (refine upon_fop _ _ _ _ _ (by decide) ?_; intro _ _)) | (go_at_call 128; refine (c_Sqrt _ _ _ _).mono ?_; rintro _ _ ⟨_, _, rfl, rfl⟩))
        go_roundw
        case rel => exact ⟨i + 1, _, _, by omega, by rw [iterT_step]; rfl, by go_num, rfl⟩
        case measure => simp [intOf]; omega
      · obtain rfl : i = 3 := by omega
        clear hlt
        go_wp2_with (first | (refine wpList_fop rfl _ _ _ _ _ rfl _ _ _ rfl rfl (by decide) _ ?_; intro _ _) | (refine upon_fop _ _ _ _ _ (by decide) ?_; intro _ _))
        generalize hu : fop .mul .f64 (iterT T 3) (iterT T 3) = u
        have Hu := Lib.hid hu
        clear hu
        go_loopw [11, 12] (fun p k wr => ∃ (i n m : Nat) (kI : Int), i ≤ 8 ∧ Hid (kI = 15 - 2 * (i : Int)) ∧ p = .float .f64 (pick .f64 (aser u i) n) ∧ k = .int .i64 kI ∧ wr = w.drewN m) (fun _ k _ => (intOf k + 2).toNat)
        case atStart => exact ⟨0, 0, _, 15, by omega, rfl, by rw [pick_not (show isN .f64 (aser u 0) = false from (by decide +kernel : isN .f64 0 = false))]; rfl, rfl, rfl⟩
        case round =>
          obtain ⟨i, n, m, kI, hi, HK, rfl, rfl, rfl⟩ := hrel
          by_cases hlt : i < 8
          · have b1 : 1 ≤ kI := by have := HK.out; omega
            have b2 : kI ≤ 15 := by have := HK.out; omega
            have HD : Hid (odd i = floatOfInt .f64 kI) := by unfold Hid odd; rw [HK.out]
            go_wp2_with (first | (refine wpList_fop rfl _ _ _ _ _ rfl _ _ _ rfl rfl (by decide) _ ?_; intro _ _) | (refine upon_fop _ _ _ _ _ (by decide) ?_; intro _ _))
            go_roundw
            case rel => exact ⟨i + 1, _, _, kI - 2, by omega, by have := HK.out; unfold Hid; omega, by rw [aser_step, HD.out]; rfl, rfl, rfl⟩
            case measure => simp [intOf]; omega
          · obtain rfl : i = 8 := by omega
            have b1 : kI < 1 := by have := HK.out; omega
            have b2 : -1 ≤ kI := by have := HK.out; omega
            clear hlt
            go_wp2_with (first | (first | (refine wpList_fop rfl _ _ _ _ _ rfl _ _ _ rfl rfl (by decide) _ ?_; intro _ _) | (refine upon_fop _ _ _ _ _ (by decide) ?_; intro _ _)) | go_in)
            go_ret
            rw [HW.out, ← HT.out]
            unfold flatA
            rw [Hu.out]
            exact ⟨_, _, rfl, rfl⟩
theorem c_wide_ftt (y x ny nx : Nat) (w : World) (j : Nat) (hy : y < 2 ^ FloatKind.f64.format.width) (hx : x < 2 ^ FloatKind.f64.format.width)
    (ho : (FloatKind.f64.format.order (fabs .f64 y) (fabs .f64 x) == some .gt) = false) (hlx : (FloatKind.f64.format.order x 0 == some .lt) = true) (hly : (FloatKind.f64.format.order y 0 == some .lt) = true)
    (sy : (FloatKind.f64.format.order (fop .sub .f64 y y) 0 != some .eq) = false) (sx : (FloatKind.f64.format.order (fop .sub .f64 x x) 0 != some .eq) = false)
    (hz : ((FloatKind.f64.format.order x 0 == some .eq) && (FloatKind.f64.format.order y 0 == some .eq)) = false) : Calls Try.prog 148 #[.float .f64 (pick .f64 y ny), .float .f64 (pick .f64 x nx)] (w.drewN j) (RetF .f64 (angW y x) w) := by
  have HW : Hid (angW y x = fneg .f64 (fop .sub .f64 4602678819172646912 (flatA (fop .quo .f64 (fabs .f64 y) (fabs .f64 x))))) := by
    unfold Hid angW overB ltz quarter64 half64; simp only [ho, hlx, hly, if_true, if_false, Bool.false_eq_true]
  rcases Bool.and_eq_false_iff.1 hz with hz1 | hz1
  all_goals
    clear hz
    have hz2 : Hid True := trivial
  all_goals try (cases hz3 : (FloatKind.f64.format.order x 0 == some .eq))
  all_goals try (rw [hz3] at hz1; cases hz1; done)
  all_goals
    go_enter Try.func148, Try.ntmps148
    go_wp2_with (first | (first | (refine wpList_fop rfl _ _ _ _ _ rfl _ _ _ rfl rfl (by decide) _ ?_; intro _ _) | (refine upon_fop _ _ _ _ _ (by decide) ?_; intro _ _)) | (go_at_call 132; refine (c_Abs _ _ _ _ (by assumption)).mono ?_; rintro _ _ ⟨_, _, rfl, rfl⟩))
    obtain ⟨T, hT⟩ : ∃ T, T = (fop .quo .f64 (fabs .f64 y) (fabs .f64 x)) := ⟨_, rfl⟩
    have HT : Hid (T = (fop .quo .f64 (fabs .f64 y) (fabs .f64 x))) := hT
    rw [← hT]
    clear hT
    go_loopw [8, 9] (fun t k wr => ∃ i n m : Nat, i ≤ 3 ∧ t = .float .f64 (pick .f64 (iterT T i) n) ∧ k = .int .i64 i ∧ wr = w.drewN m) (fun _ k _ => 3 - (intOf k).toNat)
    case atStart => exact ⟨0, _, _, by omega, rfl, rfl, rfl⟩
    case round =>
      obtain ⟨i, n, m, hi, rfl, rfl, rfl⟩ := hrel
      by_cases hlt : i < 3
      · go_wp2_with (first | (first | (refine wpList_fop rfl _ _ _ _ _ rfl _ _ _ rfl rfl (by decide) _ ?_; intro _ _) | (refine upon_fop _ _ _ _ _ (by decide) ?_; intro _ _)) | (go_at_call 128; refine (c_Sqrt _ _ _ _).mono ?_; rintro _ _ ⟨_, _, rfl, rfl⟩))
        go_roundw
        case rel => exact ⟨i + 1, _, _, by omega, by rw [iterT_step]; rfl, by go_num, rfl⟩
        case measure => simp [intOf]; omega
      · obtain rfl : i = 3 := by omega
        clear hlt
        go_wp2_with (first | (refine wpList_fop rfl _ _ _ _ _ rfl _ _ _ rfl rfl (by decide) _ ?_; intro _ _) | (refine upon_fop _ _ _ _ _ (by decide) ?_; intro _ _))
        generalize hu : fop .mul .f64 (iterT T 3) (iterT T 3) = u
        have Hu := Lib.hid hu
        clear hu
        go_loopw [11, 12] (fun p k wr => ∃ (i n m : Nat) (kI : Int), i ≤ 8 ∧ Hid (kI = 15 - 2 * (i : Int)) ∧ p = .float .f64 (pick .f64 (aser u i) n) ∧ k = .int .i64 kI ∧ wr = w.drewN m) (fun _ k _ => (intOf k + 2).toNat)
        case atStart => exact ⟨0, 0, _, 15, by omega, rfl, by rw [pick_not (show isN .f64 (aser u 0) = false from (by decide +kernel : isN .f64 0 = false))]; rfl, rfl, rfl⟩
        case round =>
          obtain ⟨i, n, m, kI, hi, HK, rfl, rfl, rfl⟩ := hrel
          by_cases hlt : i < 8
          · have b1 : 1 ≤ kI := by have := HK.out; omega
            have b2 : kI ≤ 15 := by have := HK.out; omega
            have HD : Hid (odd i = floatOfInt .f64 kI) := by unfold Hid odd; rw [HK.out]
            go_wp2_with (first | (refine wpList_fop rfl _ _ _ _ _ rfl _ _ _ rfl rfl (by decide) _ ?_; intro _ _) | (refine upon_fop _ _ _ _ _ (by decide) ?_; intro _ _))
            go_roundw
            case rel => exact ⟨i + 1, _, _, kI - 2, by omega, by have := HK.out; unfold Hid; omega, by rw [aser_step, HD.out]; rfl, rfl, rfl⟩
            case measure => simp [intOf]; omega
          · obtain rfl : i = 8 := by omega
            have b1 : kI < 1 := by have := HK.out; omega
            have b2 : -1 ≤ kI := by have := HK.out; omega
            clear hlt
            go_wp2_with (first | (first | (refine wpList_fop rfl _ _ _ _ _ rfl _ _ _ rfl rfl (by decide) _ ?_; intro _ _) | (refine upon_fop _ _ _ _ _ (by decide) ?_; intro _ _)) | go_in)
            go_ret
            rw [HW.out, ← HT.out]
            unfold flatA
            rw [Hu.out]
            exact ⟨_, _, rfl, rfl⟩
theorem c_wide_tff (y x ny nx : Nat) (w : World) (j : Nat) (hy : y < 2 ^ FloatKind.f64.format.width) (hx : x < 2 ^ FloatKind.f64.format.width)
    (ho : (FloatKind.f64.format.order (fabs .f64 y) (fabs .f64 x) == some .gt) = true) (hlx : (FloatKind.f64.format.order x 0 == some .lt) = false) (hly : (FloatKind.f64.format.order y 0 == some .lt) = false)
    (sy : (FloatKind.f64.format.order (fop .sub .f64 y y) 0 != some .eq) = false) (sx : (FloatKind.f64.format.order (fop .sub .f64 x x) 0 != some .eq) = false)
    (hz : ((FloatKind.f64.format.order x 0 == some .eq) && (FloatKind.f64.format.order y 0 == some .eq)) = false) : Calls Try.prog 148 #[.float .f64 (pick .f64 y ny), .float .f64 (pick .f64 x nx)] (w.drewN j) (RetF .f64 (angW y x) w) := by
  have HW : Hid (angW y x = fop .sub .f64 4598175219545276416 (flatA (fop .quo .f64 (fabs .f64 x) (fabs .f64 y)))) := by
    unfold Hid angW overB ltz quarter64 half64; simp only [ho, hlx, hly, if_true, if_false, Bool.false_eq_true]
  rcases Bool.and_eq_false_iff.1 hz with hz1 | hz1
  all_goals
    clear hz
    have hz2 : Hid True := trivial
  all_goals try (cases hz3 : (FloatKind.f64.format.order x 0 == some .eq))
  all_goals try (rw [hz3] at hz1; cases hz1; done)
  all_goals
    go_enter Try.func148, Try.ntmps148
    go_wp2_with (first | (first | (refine wpList_fop rfl _ _ _ _ _ rfl _ _ _ rfl rfl (by decide) _ ?_; intro _ _) | (refine upon_fop _ _ _ _ _ (by decide) ?_; intro _ _)) | (go_at_call 132; refine (c_Abs _ _ _ _ (by assumption)).mono ?_; rintro _ _ ⟨_, _, rfl, rfl⟩))
    obtain ⟨T, hT⟩ : ∃ T, T = (fop .quo .f64 (fabs .f64 x) (fabs .f64 y)) := ⟨_, rfl⟩
    have HT : Hid (T = (fop .quo .f64 (fabs .f64 x) (fabs .f64 y))) := hT
    rw [← hT]
    clear hT
    go_loopw [8, 9] (fun t k wr => ∃ i n m : Nat, i ≤ 3 ∧ t = .float .f64 (pick .f64 (iterT T i) n) ∧ k = .int .i64 i ∧ wr = w.drewN m) (fun _ k _ => 3 - (intOf k).toNat)
    case atStart => exact ⟨0, _, _, by omega, rfl, rfl, rfl⟩
    case round =>
      obtain ⟨i, n, m, hi, rfl, rfl, rfl⟩ := hrel
      by_cases hlt : i < 3
      · go_wp2_with (first | (first | (refine wpList_fop rfl _ _ _ _ _ rfl _ _ _ rfl rfl (by decide) _ ?_; intro _ _) | (refine upon_fop _ _ _ _ _ (by decide) ?_; intro _ _)) | (go_at_call 128; refine (c_Sqrt _ _ _ _).mono ?_; rintro _ _ ⟨_, _, rfl, rfl⟩))
        go_roundw
        case rel => exact ⟨i + 1, _, _, by omega, by rw [iterT_step]; rfl, by go_num, rfl⟩
        case measure => simp [intOf]; omega
      · obtain rfl : i = 3 := by omega
        clear hlt
        go_wp2_with (first | (refine wpList_fop rfl _ _ _ _ _ rfl _ _ _ rfl rfl (by decide) _ ?_; intro _ _) | (refine upon_fop _ _ _ _ _ (by decide) ?_; intro _ _))
        generalize hu : fop .mul .f64 (iterT T 3) (iterT T 3) = u
        have Hu := Lib.hid hu
        clear hu
        go_loopw [11, 12] (fun p k wr => ∃ (i n m : Nat) (kI : Int), i ≤ 8 ∧ Hid (kI = 15 - 2 * (i : Int)) ∧ p = .float .f64 (pick .f64 (aser u i) n) ∧ k = .int .i64 kI ∧ wr = w.drewN m) (fun _ k _ => (intOf k + 2).toNat)
        case atStart => exact ⟨0, 0, _, 15, by omega, rfl, by rw [pick_not (show isN .f64 (aser u 0) = false from (by decide +kernel : isN .f64 0 = false))]; rfl, rfl, rfl⟩
        case round =>
          obtain ⟨i, n, m, kI, hi, HK, rfl, rfl, rfl⟩ := hrel
          by_cases hlt : i < 8
          · have b1 : 1 ≤ kI := by have := HK.out; omega
            have b2 : kI ≤ 15 := by have := HK.out; omega
            have HD : Hid (odd i = floatOfInt .f64 kI) := by unfold Hid odd; rw [HK.out]
            go_wp2_with (first | (refine wpList_fop rfl _ _ _ _ _ rfl _ _ _ rfl rfl (by decide) _ ?_; intro _ _) | (refine upon_fop _ _ _ _ _ (by decide) ?_; intro _ _))
            go_roundw
            case rel => exact ⟨i + 1, _, _, kI - 2, by omega, by have := HK.out; unfold Hid; omega, by rw [aser_step, HD.out]; rfl, rfl, rfl⟩
            case measure => simp [intOf]; omega
          · obtain rfl : i = 8 := by omega
            have b1 : kI < 1 := by have := HK.out; omega
            have b2 : -1 ≤ kI := by have := HK.out; omega
            clear hlt
            go_wp2_with (first | (first | (refine wpList_fop rfl _ _ _ _ _ rfl _ _ _ rfl rfl (by decide) _ ?_; intro _ _) | (refine upon_fop _ _ _ _ _ (by decide) ?_; intro _ _)) | go_in)
            go_ret
            rw [HW.out, ← HT.out]
            unfold flatA
            rw [Hu.out]
            exact ⟨_, _, rfl, rfl⟩
theorem c_wide_tft (y x ny nx : Nat) (w : World) (j : Nat) (hy : y < 2 ^ FloatKind.f64.format.width) (hx : x < 2 ^ FloatKind.f64.format.width)
    (ho : (FloatKind.f64.format.order (fabs .f64 y) (fabs .f64 x) == some .gt) = true) (hlx : (FloatKind.f64.format.order x 0 == some .lt) = false) (hly : (FloatKind.f64.format.order y 0 == some .lt) = true)
    (sy : (FloatKind.f64.format.order (fop .sub .f64 y y) 0 != some .eq) = false) (sx : (FloatKind.f64.format.order (fop .sub .f64 x x) 0 != some .eq) = false)
    (hz : ((FloatKind.f64.format.order x 0 == some .eq) && (FloatKind.f64.format.order y 0 == some .eq)) = false) : Calls Try.prog 148 #[.float .f64 (pick .f64 y ny), .float .f64 (pick .f64 x nx)] (w.drewN j) (RetF .f64 (angW y x) w) := by
  have HW : Hid (angW y x = fneg .f64 (fop .sub .f64 4598175219545276416 (flatA (fop .quo .f64 (fabs .f64 x) (fabs .f64 y))))) := by
    unfold Hid angW overB ltz quarter64 half64; simp only [ho, hlx, hly, if_true, if_false, Bool.false_eq_true]
  rcases Bool.and_eq_false_iff.1 hz with hz1 | hz1
  all_goals
    clear hz
    have hz2 : Hid True := trivial
  all_goals try (cases hz3 : (FloatKind.f64.format.order x 0 == some .eq))
  all_goals try (rw [hz3] at hz1; cases hz1; done)
  all_goals
    go_enter Try.func148, Try.ntmps148
    go_wp2_with (first | (first | (refine wpList_fop rfl _ _ _ _ _ rfl _ _ _ rfl rfl (by decide) _ ?_; intro _ _) | (refine upon_fop _ _ _ _ _ (by decide) ?_; intro _ _)) | (go_at_call 132; refine (c_Abs _ _ _ _ (by assumption)).mono ?_; rintro _ _ ⟨_, _, rfl, rfl⟩))
    obtain ⟨T, hT⟩ : ∃ T, T = (fop .quo .f64 (fabs .f64 x) (fabs .f64 y)) := ⟨_, rfl⟩
    have HT : Hid (T = (fop .quo .f64 (fabs .f64 x) (fabs .f64 y))) := hT
    rw [← hT]
    clear hT
    go_loopw [8, 9] (fun t k wr => ∃ i n m : Nat, i ≤ 3 ∧ t = .float .f64 (pick .f64 (iterT T i) n) ∧ k = .int .i64 i ∧ wr = w.drewN m) (fun _ k _ => 3 - (intOf k).toNat)
    case atStart => exact ⟨0, _, _, by omega, rfl, rfl, rfl⟩
    case round =>
      obtain ⟨i, n, m, hi, rfl, rfl, rfl⟩ := hrel
      by_cases hlt : i < 3
      · go_wp2_with (first | (first | (refine wpList_fop rfl _ _ _ _ _ rfl _ _ _ rfl rfl (by decide) _ ?_; intro _ _) | (refine upon_fop _ _ _ _ _ (by decide) ?_; intro _ _)) | (go_at_call 128; refine (c_Sqrt _ _ _ _).mono ?_; rintro _ _ ⟨_, _, rfl, rfl⟩))
        go_roundw
        case rel => exact ⟨i + 1, _, _, by omega, by rw [iterT_step]; rfl, by go_num, rfl⟩
        case measure => simp [intOf]; omega
      · obtain rfl : i = 3 := by omega
        clear hlt
        go_wp2_with (first | (refine wpList_fop rfl _ _ _ _ _ rfl _ _ _ rfl rfl (by decide) _ ?_; intro _ _) | (refine upon_fop _ _ _ _ _ (by decide) ?_; intro _ _))
        generalize hu : fop .mul .f64 (iterT T 3) (iterT T 3) = u
        have Hu := Lib.hid hu
        clear hu
        go_loopw [11, 12] (fun p k wr => ∃ (i n m : Nat) (kI : Int), i ≤ 8 ∧ Hid (kI = 15 - 2 * (i : Int)) ∧ p = .float .f64 (pick .f64 (aser u i) n) ∧ k = .int .i64 kI ∧ wr = w.drewN m) (fun _ k _ => (intOf k + 2).toNat)
        case atStart => exact ⟨0, 0, _, 15, by omega, rfl, by rw [pick_not (show isN .f64 (aser u 0) = false from (by decide +kernel : isN .f64 0 = false))]; rfl, rfl, rfl⟩
        case round =>
          obtain ⟨i, n, m, kI, hi, HK, rfl, rfl, rfl⟩ := hrel
          by_cases hlt : i < 8
          · have b1 : 1 ≤ kI := by have := HK.out; omega
            have b2 : kI ≤ 15 := by have := HK.out; omega
            have HD : Hid (odd i = floatOfInt .f64 kI) := by unfold Hid odd; rw [HK.out]
            go_wp2_with (first | (refine wpList_fop rfl _ _ _ _ _ rfl _ _ _ rfl rfl (by decide) _ ?_; intro _ _) | (refine upon_fop _ _ _ _ _ (by decide) ?_; intro _ _))
            go_roundw
            case rel => exact ⟨i + 1, _, _, kI - 2, by omega, by have := HK.out; unfold Hid; omega, by rw [aser_step, HD.out]; rfl, rfl, rfl⟩
            case measure => simp [intOf]; omega
          · obtain rfl : i = 8 := by omega
            have b1 : kI < 1 := by have := HK.out; omega
            have b2 : -1 ≤ kI := by have := HK.out; omega
            clear hlt
            go_wp2_with (first | (first | (refine wpList_fop rfl _ _ _ _ _ rfl _ _ _ rfl rfl (by decide) _ ?_; intro _ _) | (refine upon_fop _ _ _ _ _ (by decide) ?_; intro _ _)) | go_in)
            go_ret
            rw [HW.out, ← HT.out]
            unfold flatA
            rw [Hu.out]
            exact ⟨_, _, rfl, rfl⟩
theorem c_wide_ttf (y x ny nx : Nat) (w : World) (j : Nat) (hy : y < 2 ^ FloatKind.f64.format.width) (hx : x < 2 ^ FloatKind.f64.format.width)
    (ho : (FloatKind.f64.format.order (fabs .f64 y) (fabs .f64 x) == some .gt) = true) (hlx : (FloatKind.f64.format.order x 0 == some .lt) = true) (hly : (FloatKind.f64.format.order y 0 == some .lt) = false)
    (sy : (FloatKind.f64.format.order (fop .sub .f64 y y) 0 != some .eq) = false) (sx : (FloatKind.f64.format.order (fop .sub .f64 x x) 0 != some .eq) = false)
    (hz : ((FloatKind.f64.format.order x 0 == some .eq) && (FloatKind.f64.format.order y 0 == some .eq)) = false) : Calls Try.prog 148 #[.float .f64 (pick .f64 y ny), .float .f64 (pick .f64 x nx)] (w.drewN j) (RetF .f64 (angW y x) w) := by
  have HW : Hid (angW y x = fop .sub .f64 4602678819172646912 (fop .sub .f64 4598175219545276416 (flatA (fop .quo .f64 (fabs .f64 x) (fabs .f64 y))))) := by
    unfold Hid angW overB ltz quarter64 half64; simp only [ho, hlx, hly, if_true, if_false, Bool.false_eq_true]
  rcases Bool.and_eq_false_iff.1 hz with hz1 | hz1
  all_goals
    clear hz
    have hz2 : Hid True := trivial
  all_goals try (cases hz3 : (FloatKind.f64.format.order x 0 == some .eq))
  all_goals try (rw [hz3] at hz1; cases hz1; done)
  all_goals
    go_enter Try.func148, Try.ntmps148
    go_wp2_with (first | (first | (refine wpList_fop rfl _ _ _ _ _ rfl _ _ _ rfl rfl (by decide) _ ?_; intro _ _) | (refine upon_fop _ _ _ _ _ (by decide) ?_; intro _ _)) | (go_at_call 132; refine (c_Abs _ _ _ _ (by assumption)).mono ?_; rintro _ _ ⟨_, _, rfl, rfl⟩))
    obtain ⟨T, hT⟩ : ∃ T, T = (fop .quo .f64 (fabs .f64 x) (fabs .f64 y)) := ⟨_, rfl⟩
    have HT : Hid (T = (fop .quo .f64 (fabs .f64 x) (fabs .f64 y))) := hT
    rw [← hT]
    clear hT
    go_loopw [8, 9] (fun t k wr => ∃ i n m : Nat, i ≤ 3 ∧ t = .float .f64 (pick .f64 (iterT T i) n) ∧ k = .int .i64 i ∧ wr = w.drewN m) (fun _ k _ => 3 - (intOf k).toNat)
    case atStart => exact ⟨0, _, _, by omega, rfl, rfl, rfl⟩
    case round =>
      obtain ⟨i, n, m, hi, rfl, rfl, rfl⟩ := hrel
      by_cases hlt : i < 3
      · go_wp2_with (first | (first | (refine wpList_fop rfl _ _ _ _ _ rfl _ _ _ rfl rfl (by decide) _ ?_; intro _ _) | (refine upon_fop _ _ _ _ _ (by decide) ?_; intro _ _)) | (go_at_call 128; refine (c_Sqrt _ _ _ _).mono ?_; rintro _ _ ⟨_, _, rfl, rfl⟩))
        go_roundw
        case rel => exact ⟨i + 1, _, _, by omega, by rw [iterT_step]; rfl, by go_num, rfl⟩
        case measure => simp [intOf]; omega
      · obtain rfl : i = 3 := by omega
        clear hlt
        go_wp2_with (first | (refine wpList_fop rfl _ _ _ _ _ rfl _ _ _ rfl rfl (by decide) _ ?_; intro _ _) | (refine upon_fop _ _ _ _ _ (by decide) ?_; intro _ _))
        generalize hu : fop .mul .f64 (iterT T 3) (iterT T 3) = u
        have Hu := Lib.hid hu
        clear hu
        go_loopw [11, 12] (fun p k wr => ∃ (i n m : Nat) (kI : Int), i ≤ 8 ∧ Hid (kI = 15 - 2 * (i : Int)) ∧ p = .float .f64 (pick .f64 (aser u i) n) ∧ k = .int .i64 kI ∧ wr = w.drewN m) (fun _ k _ => (intOf k + 2).toNat)
        case atStart => exact ⟨0, 0, _, 15, by omega, rfl, by rw [pick_not (show isN .f64 (aser u 0) = false from (by decide +kernel : isN .f64 0 = false))]; rfl, rfl, rfl⟩
        case round =>
          obtain ⟨i, n, m, kI, hi, HK, rfl, rfl, rfl⟩ := hrel
          by_cases hlt : i < 8
          · have b1 : 1 ≤ kI := by have := HK.out; omega
            have b2 : kI ≤ 15 := by have := HK.out; omega
            have HD : Hid (odd i = floatOfInt .f64 kI) := by unfold Hid odd; rw [HK.out]
            go_wp2_with (first | (refine wpList_fop rfl _ _ _ _ _ rfl _ _ _ rfl rfl (by decide) _ ?_; intro _ _) | (refine upon_fop _ _ _ _ _ (by decide) ?_; intro _ _))
            go_roundw
            case rel => exact ⟨i + 1, _, _, kI - 2, by omega, by have := HK.out; unfold Hid; omega, by rw [aser_step, HD.out]; rfl, rfl, rfl⟩
            case measure => simp [intOf]; omega
          · obtain rfl : i = 8 := by omega
            have b1 : kI < 1 := by have := HK.out; omega
            have b2 : -1 ≤ kI := by have := HK.out; omega
            clear hlt
            go_wp2_with (first | (first | (refine wpList_fop rfl _ _ _ _ _ rfl _ _ _ rfl rfl (by decide) _ ?_; intro _ _) | (refine upon_fop _ _ _ _ _ (by decide) ?_; intro _ _)) | go_in)
            go_ret
            rw [HW.out, ← HT.out]
            unfold flatA
            rw [Hu.out]
            exact ⟨_, _, rfl, rfl⟩
theorem c_wide_ttt (y x ny nx : Nat) (w : World) (j : Nat) (hy : y < 2 ^ FloatKind.f64.format.width) (hx : x < 2 ^ FloatKind.f64.format.width)
    (ho : (FloatKind.f64.format.order (fabs .f64 y) (fabs .f64 x) == some .gt) = true) (hlx : (FloatKind.f64.format.order x 0 == some .lt) = true) (hly : (FloatKind.f64.format.order y 0 == some .lt) = true)
    (sy : (FloatKind.f64.format.order (fop .sub .f64 y y) 0 != some .eq) = false) (sx : (FloatKind.f64.format.order (fop .sub .f64 x x) 0 != some .eq) = false)
    (hz : ((FloatKind.f64.format.order x 0 == some .eq) && (FloatKind.f64.format.order y 0 == some .eq)) = false) : Calls Try.prog 148 #[.float .f64 (pick .f64 y ny), .float .f64 (pick .f64 x nx)] (w.drewN j) (RetF .f64 (angW y x) w) := by
  have HW : Hid (angW y x = fneg .f64 (fop .sub .f64 4602678819172646912 (fop .sub .f64 4598175219545276416 (flatA (fop .quo .f64 (fabs .f64 x) (fabs .f64 y)))))) := by
    unfold Hid angW overB ltz quarter64 half64; simp only [ho, hlx, hly, if_true, if_false, Bool.false_eq_true]
  rcases Bool.and_eq_false_iff.1 hz with hz1 | hz1
  all_goals
    clear hz
    have hz2 : Hid True := trivial
  all_goals try (cases hz3 : (FloatKind.f64.format.order x 0 == some .eq))
  all_goals try (rw [hz3] at hz1; cases hz1; done)
  all_goals
    go_enter Try.func148, Try.ntmps148
    go_wp2_with (first | (first | (refine wpList_fop rfl _ _ _ _ _ rfl _ _ _ rfl rfl (by decide) _ ?_; intro _ _) | (refine upon_fop _ _ _ _ _ (by decide) ?_; intro _ _)) | (go_at_call 132; refine (c_Abs _ _ _ _ (by assumption)).mono ?_; rintro _ _ ⟨_, _, rfl, rfl⟩))
    obtain ⟨T, hT⟩ : ∃ T, T = (fop .quo .f64 (fabs .f64 x) (fabs .f64 y)) := ⟨_, rfl⟩
    have HT : Hid (T = (fop .quo .f64 (fabs .f64 x) (fabs .f64 y))) := hT
    rw [← hT]
    clear hT
    go_loopw [8, 9] (fun t k wr => ∃ i n m : Nat, i ≤ 3 ∧ t = .float .f64 (pick .f64 (iterT T i) n) ∧ k = .int .i64 i ∧ wr = w.drewN m) (fun _ k _ => 3 - (intOf k).toNat)
    case atStart => exact ⟨0, _, _, by omega, rfl, rfl, rfl⟩
    case round =>
      obtain ⟨i, n, m, hi, rfl, rfl, rfl⟩ := hrel
      by_cases hlt : i < 3
      · go_wp2_with (first | (first | (refine wpList_fop rfl _ _ _ _ _ rfl _ _ _ rfl rfl (by decide) _ ?_; intro _ _) | (refine upon_fop _ _ _ _ _ (by decide) ?_; intro _ _)) | (go_at_call 128; refine (c_Sqrt _ _ _ _).mono ?_; rintro _ _ ⟨_, _, rfl, rfl⟩))
        go_roundw
        case rel => exact ⟨i + 1, _, _, by omega, by rw [iterT_step]; rfl, by go_num, rfl⟩
        case measure => simp [intOf]; omega
      · obtain rfl : i = 3 := by omega
        clear hlt
        go_wp2_with (first | (refine wpList_fop rfl _ _ _ _ _ rfl _ _ _ rfl rfl (by decide) _ ?_; intro _ _) | (refine upon_fop _ _ _ _ _ (by decide) ?_; intro _ _))
        generalize hu : fop .mul .f64 (iterT T 3) (iterT T 3) = u
        have Hu := Lib.hid hu
        clear hu
        go_loopw [11, 12] (fun p k wr => ∃ (i n m : Nat) (kI : Int), i ≤ 8 ∧ Hid (kI = 15 - 2 * (i : Int)) ∧ p = .float .f64 (pick .f64 (aser u i) n) ∧ k = .int .i64 kI ∧ wr = w.drewN m) (fun _ k _ => (intOf k + 2).toNat)
        case atStart => exact ⟨0, 0, _, 15, by omega, rfl, by rw [pick_not (show isN .f64 (aser u 0) = false from (by decide +kernel : isN .f64 0 = false))]; rfl, rfl, rfl⟩
        case round =>
          obtain ⟨i, n, m, kI, hi, HK, rfl, rfl, rfl⟩ := hrel
          by_cases hlt : i < 8
          · have b1 : 1 ≤ kI := by have := HK.out; omega
            have b2 : kI ≤ 15 := by have := HK.out; omega
            have HD : Hid (odd i = floatOfInt .f64 kI) := by unfold Hid odd; rw [HK.out]
            go_wp2_with (first | (refine wpList_fop rfl _ _ _ _ _ rfl _ _ _ rfl rfl (by decide) _ ?_; intro _ _) | (refine upon_fop _ _ _ _ _ (by decide) ?_; intro _ _))
            go_roundw
            case rel => exact ⟨i + 1, _, _, kI - 2, by omega, by have := HK.out; unfold Hid; omega, by rw [aser_step, HD.out]; rfl, rfl, rfl⟩
            case measure => simp [intOf]; omega
          · obtain rfl : i = 8 := by omega
            have b1 : kI < 1 := by have := HK.out; omega
            have b2 : -1 ≤ kI := by have := HK.out; omega
            clear hlt
            go_wp2_with (first | (first | (refine wpList_fop rfl _ _ _ _ _ rfl _ _ _ rfl rfl (by decide) _ ?_; intro _ _) | (refine upon_fop _ _ _ _ _ (by decide) ?_; intro _ _)) | go_in)
            go_ret
            rw [HW.out, ← HT.out]
            unfold flatA
            rw [Hu.out]
            exact ⟨_, _, rfl, rfl⟩

/-! ### sAngle -/
theorem c_wide_nan (y x ny nx : Nat) (w : World) (j : Nat) (h : (FloatKind.f64.format.order (fop .sub .f64 y y) 0 != some .eq) = true ∨ ((FloatKind.f64.format.order (fop .sub .f64 y y) 0 != some .eq) = false ∧ (FloatKind.f64.format.order (fop .sub .f64 x x) 0 != some .eq) = true)) : Calls Try.prog 148 #[.float .f64 (pick .f64 y ny), .float .f64 (pick .f64 x nx)] (w.drewN j) (RetF .f64 (qn .f64) w) := by
  rcases h with h | ⟨h, h2⟩
  all_goals
    go_enter Try.func148, Try.ntmps148
    go_wp2_with (first | (first | (refine wpList_fop rfl _ _ _ _ _ rfl _ _ _ rfl rfl (by decide) _ ?_; intro _ _) | (refine upon_fop _ _ _ _ _ (by decide) ?_; intro _ _)) | (go_at_call 139; refine (c_NaN _ _).mono ?_; rintro _ _ ⟨_, _, rfl, rfl⟩))
    go_ret
    exact ⟨_, _, rfl, rfl⟩
theorem c_wide_zero (y x ny nx : Nat) (w : World) (j : Nat) (sy : (FloatKind.f64.format.order (fop .sub .f64 y y) 0 != some .eq) = false) (sx : (FloatKind.f64.format.order (fop .sub .f64 x x) 0 != some .eq) = false)
    (hx : (FloatKind.f64.format.order x 0 == some .eq) = true) (hy : (FloatKind.f64.format.order y 0 == some .eq) = true) : Calls Try.prog 148 #[.float .f64 (pick .f64 y ny), .float .f64 (pick .f64 x nx)] (w.drewN j) (RetV (.float .f64 0) w) := by
  go_enter Try.func148, Try.ntmps148
  go_wp2_with (first | (first | (refine wpList_fop rfl _ _ _ _ _ rfl _ _ _ rfl rfl (by decide) _ ?_; intro _ _) | (refine upon_fop _ _ _ _ _ (by decide) ?_; intro _ _)))
  go_ret
  exact ⟨_, rfl, rfl⟩
theorem c_wide (y x ny nx : Nat) (w : World) (j : Nat) (hy : y < 2 ^ FloatKind.f64.format.width) (hx : x < 2 ^ FloatKind.f64.format.width)
    (sy : (FloatKind.f64.format.order (fop .sub .f64 y y) 0 != some .eq) = false) (sx : (FloatKind.f64.format.order (fop .sub .f64 x x) 0 != some .eq) = false)
    (hz : ((FloatKind.f64.format.order x 0 == some .eq) && (FloatKind.f64.format.order y 0 == some .eq)) = false) : Calls Try.prog 148 #[.float .f64 (pick .f64 y ny), .float .f64 (pick .f64 x nx)] (w.drewN j) (RetF .f64 (angW y x) w) := by
  cases ho : (FloatKind.f64.format.order (fabs .f64 y) (fabs .f64 x) == some .gt) <;> cases hlx : (FloatKind.f64.format.order x 0 == some .lt) <;> cases hly : (FloatKind.f64.format.order y 0 == some .lt)
  · exact c_wide_fff y x ny nx w j hy hx ho hlx hly sy sx hz
  · exact c_wide_fft y x ny nx w j hy hx ho hlx hly sy sx hz
  · exact c_wide_ftf y x ny nx w j hy hx ho hlx hly sy sx hz
  · exact c_wide_ftt y x ny nx w j hy hx ho hlx hly sy sx hz
  · exact c_wide_tff y x ny nx w j hy hx ho hlx hly sy sx hz
  · exact c_wide_tft y x ny nx w j hy hx ho hlx hly sy sx hz
  · exact c_wide_ttf y x ny nx w j hy hx ho hlx hly sy sx hz
  · exact c_wide_ttt y x ny nx w j hy hx ho hlx hly sy sx hz
theorem c_l01Angle (y x ny nx : Nat) (w : World) (j : Nat) : Calls Try.prog 136 #[.float .f32 (pick .f32 y ny), .float .f32 (pick .f32 x nx)] (w.drewN j) (RetF .f32 (angT y x) w) := by
  have hsy := sub_self_zero .f64 (cvU y)
  have hsx := sub_self_zero .f64 (cvU x)
  rw [finB_cvU] at hsy hsx
  cases hf : (finB .f32 y && finB .f32 x)
  · have e : angT y x = cvN (qn .f64) := by unfold angT; rw [hf, if_neg (by decide)]; exact (cvN_qn (isN_qn .f64)).symm
    have H : Hid ((FloatKind.f64.format.order (fop .sub .f64 (cvU y) (cvU y)) 0 != some .eq) = true ∨ ((FloatKind.f64.format.order (fop .sub .f64 (cvU y) (cvU y)) 0 != some .eq) = false ∧ (FloatKind.f64.format.order (fop .sub .f64 (cvU x) (cvU x)) 0 != some .eq) = true)) := by
      cases fy : finB .f32 y
      · left; rw [bne, hsy, fy]; rfl
      · right; rw [fy] at hf; refine ⟨by rw [bne, hsy, fy]; rfl, by rw [bne, hsx]; rw [Bool.true_and] at hf; rw [hf]; rfl⟩
    rw [e]
    clear hsy hsx hf
    go_enter Try.func136, Try.ntmps136
    go_wp2_with (first | (refine wpList_cvU rfl 26 32 _ rfl (Option.isSome_iff_exists.2 ⟨_, Try.underlying26⟩) Try.underlying32 _ rfl _ ?_; intro _ _) | (refine wpList_cvN rfl 32 26 _ rfl (Option.isSome_iff_exists.2 ⟨_, Try.underlying32⟩) Try.underlying26 _ rfl _ (by exact .inl (by rw [isN_pick]; exact isN_qn _)) ?_; intro _ _) | (go_at_call 148; refine (c_wide_nan _ _ _ _ _ _ H.out).mono ?_; rintro _ _ ⟨_, _, rfl, rfl⟩) | go_in)
    go_ret
    exact ⟨_, _, rfl, rfl⟩
  · have hf2 := Bool.and_eq_true_iff.1 hf
    have sy : (FloatKind.f64.format.order (fop .sub .f64 (cvU y) (cvU y)) 0 != some .eq) = false := by rw [bne, hsy, hf2.1]; rfl
    have sx : (FloatKind.f64.format.order (fop .sub .f64 (cvU x) (cvU x)) 0 != some .eq) = false := by rw [bne, hsx, hf2.2]; rfl
    have zy : (FloatKind.f64.format.order (cvU y) 0 == some .eq) = zeroB y := by rw [order_cv0]; rfl
    have zx : (FloatKind.f64.format.order (cvU x) 0 == some .eq) = zeroB x := by rw [order_cv0]; rfl
    cases hz : (zeroB y && zeroB x)
    · have e : angT y x = cvN (angW (cvU y) (cvU x)) := by unfold angT; rw [hf, if_pos rfl, hz, if_neg (by decide)]
      have hz' : ((FloatKind.f64.format.order (cvU x) 0 == some .eq) && (FloatKind.f64.format.order (cvU y) 0 == some .eq)) = false := by rw [zy, zx, Bool.and_comm]; exact hz
      have H := Lib.hid (And.intro sy (And.intro sx (And.intro hz' (ang_fits hf2.1 hf2.2 hz))))
      rw [e]
      clear hsy hsx hf sy sx hz' hz zy zx hf2
      go_enter Try.func136, Try.ntmps136
      go_wp2_with (first | (refine wpList_cvU rfl 26 32 _ rfl (Option.isSome_iff_exists.2 ⟨_, Try.underlying26⟩) Try.underlying32 _ rfl _ ?_; intro _ _) | (refine wpList_cvN rfl 32 26 _ rfl (Option.isSome_iff_exists.2 ⟨_, Try.underlying32⟩) Try.underlying26 _ rfl _ (by rw [Fits_pick]; exact H.out.2.2.2) ?_; intro _ _) | (go_at_call 148; refine (c_wide _ _ _ _ _ _ (cvU_lt _) (cvU_lt _) H.out.1 H.out.2.1 H.out.2.2.1).mono ?_; rintro _ _ ⟨_, _, rfl, rfl⟩) | go_in)
      go_ret
      exact ⟨_, _, rfl, rfl⟩
    · have e : angT y x = 0 := by unfold angT; rw [hf, if_pos rfl, hz, if_pos rfl]
      have hz2 := Bool.and_eq_true_iff.1 hz
      rw [hz2.1] at zy
      rw [hz2.2] at zx
      have H := Lib.hid (And.intro sy (And.intro sx (And.intro zx zy)))
      have hcz : cvN 0 = 0 := by decide +kernel
      rw [e]
      clear hsy hsx hf sy sx hz zy zx hf2 hz2
      go_enter Try.func136, Try.ntmps136
      go_wp2_with (first | (refine wpList_cvU rfl 26 32 _ rfl (Option.isSome_iff_exists.2 ⟨_, Try.underlying26⟩) Try.underlying32 _ rfl _ ?_; intro _ _) | (refine wpList_cvN rfl 32 26 _ rfl (Option.isSome_iff_exists.2 ⟨_, Try.underlying32⟩) Try.underlying26 _ rfl _ (by exact Fits_of_Bd (Bd_const (by decide +kernel))) ?_; intro _ _) | (go_at_call 148; refine (c_wide_zero _ _ _ _ _ _ H.out.1 H.out.2.1 H.out.2.2.1 H.out.2.2.2).mono ?_; rintro _ _ ⟨_, rfl, rfl⟩) | go_in)
      go_ret
      exact ⟨_, _, rfl, rfl⟩
/-! ### l01Sqrt -/
theorem c_l01Sqrt (v n : Nat) (w : World) (j : Nat) : Calls Try.prog 101 #[.float .f32 (pick .f32 v n)] (w.drewN j) (RetF .f32 (cvN (fsqrt (cvU v))) w) := by
  have HF := Lib.hid (root_fits v)
  go_enter Try.func101, Try.ntmps101
  go_wp2_with (first | (refine wpList_cvU rfl 26 32 _ rfl (Option.isSome_iff_exists.2 ⟨_, Try.underlying26⟩) Try.underlying32 _ rfl _ ?_; intro _ _) | (refine wpList_cvN rfl 32 26 _ rfl (Option.isSome_iff_exists.2 ⟨_, Try.underlying32⟩) Try.underlying26 _ rfl _ (by rw [Fits_pick]; exact HF.out) ?_; intro _ _) | (go_at_call 128; refine (c_Sqrt _ _ _ _).mono ?_; rintro _ _ ⟨_, _, rfl, rfl⟩) | go_in)
  go_ret
  exact ⟨_, _, rfl, rfl⟩
/-! ### l01Finite -/
theorem c_l01Finite (v n : Nat) (w : World) (j : Nat) : Calls Try.prog 64 #[.float .f32 (pick .f32 v n)] (w.drewN j) (RetV (.bool (finB .f32 v)) w) := by
  go_enter Try.func64, Try.ntmps64
  go_wp2_with (first | (refine wpList_fop rfl _ _ _ _ _ rfl _ _ _ rfl rfl (by decide) _ ?_; intro _ _) | (refine upon_fop _ _ _ _ _ (by decide) ?_; intro _ _))
  go_ret
  rw [← sub_self_zero]
  exact ⟨_, rfl, rfl⟩
/-! ### l01Finite0 -/
theorem c_l01Finite0 (v n : Nat) (w : World) : Calls Try.prog 64 #[.float .f32 (pick .f32 v n)] w (RetV (.bool (finB .f32 v)) w) := by
  have h := c_l01Finite v n w 0
  rwa [w.drewN_zero] at h
/-! ### l06Pixel -/
theorem c_l06Pixel (Wn Hn xp : Nat) (sl : Value) (ar an ag am ab ak : Nat) (w : World) (hv : Var w xp #[.int .i64 (Wn : Int), .int .i64 (Hn : Int), sl]) (hW1 : 1 ≤ Wn) (hW2 : Wn ≤ 16) (hH1 : 1 ≤ Hn) (hH2 : Hn ≤ 16) (hcol : colB ar ag ab = true) : Calls Try.prog 113 #[.pointer (some ⟨xp, 0, none⟩), .agg #[.float .f32 (pick .f32 ar an), .float .f32 (pick .f32 ag am), .float .f32 (pick .f32 ab ak)]] w (fun e w' => e = .returned (.tuple #[.int .i64 ((rowN Hn ar ag ab * Wn + colN Wn ar ag : Nat) : Int), .bool (finB .f32 (flatV ar ag))]) ∧ Below w.heap.size w w') := by
  have VP := Lib.hid hv
  have hx0 : xp < w.heap.size := hv.lt
  clear hv
  generalize hw0 : w.alloc (Obj.cells #[.float .f32 (pick .f32 ar an), .float .f32 (pick .f32 ag am), .float .f32 (pick .f32 ab ak)] 36) = w0
  have Va_0 := Lib.hid (show Var w0 (w.heap.size) #[.float .f32 (pick .f32 ar an), .float .f32 (pick .f32 ag am), .float .f32 (pick .f32 ab ak)] from by subst hw0; exact (Var.new' _ _ _ _ (by first | rfl | simp)))
  have B_0 := Lib.hid (show Below w.heap.size w w0 from by subst hw0; exact ((Below.refl _ _).alloc (Nat.le_refl _) _))
  have SZ := Lib.hid (show w0.heap.size = w.heap.size + 1 from by subst hw0; simp)
  have HW := Lib.hid hw0
  clear hw0
  have VP0 := Lib.hid (VP.out.below B_0.out hx0)
  have hc := hcol
  unfold colB at hc
  simp only [Bool.and_eq_true] at hc
  obtain ⟨hxf, hyf, hzf⟩ := hc
  have CA := Lib.hid (fun k1 k2 w j => c_l01Angle ag ar k1 k2 w j)
  have CR := Lib.hid (fun k w j => c_l01Sqrt (fop .add .f32 (fop .mul .f32 ar ar) (fop .mul .f32 ag ag)) k w j)
  have CU := Lib.hid (fun k1 k2 w j => c_l01Angle (flatV ar ag) ab k1 k2 w j)
  rw [show cvN (fsqrt (cvU (fop .add .f32 (fop .mul .f32 ar ar) (fop .mul .f32 ag ag)))) = flatV ar ag from rfl] at CR
  have CX := Lib.hid (fun n w => c_l06Down0 (colP Wn ar ag) n (Wn - 1) w (.inr (colP_ok hxf hyf hW2)) (by omega))
  have CY := Lib.hid (fun n w => c_l06Down0 (rowP Hn ar ag ab) n (Hn - 1) w (rowP_any hzf hH2) (by omega))
  have cW : ((Wn - 1 : Nat) : Int) = (Wn : Int) - 1 := by omega
  have cH : ((Hn - 1 : Nat) : Int) = (Hn : Int) - 1 := by omega
  rw [cW] at CX; rw [cH] at CY
  have mW : IntKind.i64.wrap ((Wn : Int) - 1) = (Wn : Int) - 1 := IntWalk.i64_in _ (by omega)
  have mH : IntKind.i64.wrap ((Hn : Int) - 1) = (Hn : Int) - 1 := IntWalk.i64_in _ (by omega)
  have lx : downN (colP Wn ar ag) (Wn - 1) ≤ 15 := Nat.le_trans (downN_le _ _) (by omega)
  have ly : downN (rowP Hn ar ag ab) (Hn - 1) ≤ 15 := Nat.le_trans (downN_le _ _) (by omega)
  unfold colP at CX lx; unfold rowP at CY ly
  show Calls _ _ _ _ (fun e w' => e = .returned (.tuple #[.int .i64 ((downN (fop .mul .f32 (fop .mul .f32 1073741824 (angT (flatV ar ag) ab)) (floatOfInt .f32 (Hn : Int))) (Hn - 1) * Wn + downN (fop .mul .f32 (turnFix (angT ag ar)) (floatOfInt .f32 (Wn : Int))) (Wn - 1) : Nat) : Int), .bool (finB .f32 (flatV ar ag))]) ∧ Below w.heap.size w w')
  generalize hdx : downN (fop .mul .f32 (turnFix (angT ag ar)) (floatOfInt .f32 (Wn : Int))) (Wn - 1) = dx at *
  generalize hdy : downN (fop .mul .f32 (fop .mul .f32 1073741824 (angT (flatV ar ag) ab)) (floatOfInt .f32 (Hn : Int))) (Hn - 1) = dy at *
  generalize angT (flatV ar ag) ab = ua at *
  generalize flatV ar ag = fl at *
  unfold turnFix at CX hdx
  generalize angT ag ar = t at *
  have hm0 : dy * Wn ≤ 15 * 16 := Nat.mul_le_mul ly hW2
  have my : IntKind.i64.wrap ((dy : Int) * (Wn : Int)) = ((dy * Wn : Nat) : Int) := by rw [← Int.natCast_mul]; exact IntWalk.i64_in _ (by omega)
  generalize dy * Wn = dw at *
  have mxy : IntKind.i64.wrap ((dw : Int) + (dx : Int)) = ((dw + dx : Nat) : Int) := by rw [← Int.natCast_add]; exact IntWalk.i64_in _ (by omega)
  generalize dw + dx = dd at *
  clear hdx hdy hcol hxf hyf hzf cW cH lx ly hm0
  cases hlt : (FloatKind.f32.format.order t 0 == some .lt)
  all_goals rw [hlt] at CX; simp only [if_true, Bool.false_eq_true, if_false] at CX
  · obtain ⟨ca0, ca1, ca2⟩ := Va_0.out.three
    go_enter Try.func113, Try.ntmps113
    go_wp2_with fail
    rw [HW.out]
    rw [← w0.drewN_zero]
    go_wp2_with (first | (first | (refine wpList_fop rfl _ _ _ _ _ rfl _ _ _ rfl rfl (by decide) _ ?_; intro _ _) | (refine upon_fop _ _ _ _ _ (by decide) ?_; intro _ _)) | (go_at_call 136; first | ((with_reducible refine (CA.out _ _ _ _).mono ?_); rintro _ _ ⟨_, _, rfl, rfl⟩) | ((with_reducible refine (CU.out _ _ _ _).mono ?_); rintro _ _ ⟨_, _, rfl, rfl⟩)) | (go_at_call 101; refine (CR.out _ _ _).mono ?_; rintro _ _ ⟨_, _, rfl, rfl⟩))
    generalize hw1 : World.drewN w0 _ = w1
    have b : Below w0.heap.size w0 w1 := by subst hw1; exact below_drewN (Below.refl _ _) _
    clear ca0 ca1 ca2
    have VP1 := Lib.hid (VP0.out.keep b)
    have Va_1 := Lib.hid (Va_0.out.keep b)
    have B_1 := Lib.hid (B_0.out.trans (b.mono B_0.out.size))
    clear Va_0 B_0 b VP0 hw1
    obtain ⟨ca0, ca1, ca2⟩ := Va_1.out.three
    clear ca0 ca1 ca2
    have KS := Lib.hid (fun (w' : World) (hE : Below w1.heap.size w1 w') => (⟨(Va_1.out.keep hE).three.1, (Va_1.out.keep hE).three.2.1, (Va_1.out.keep hE).three.2.2, (VP1.out.keep hE).three.1, (VP1.out.keep hE).three.2.1, (VP1.out.keep hE).three.2.2⟩ : _ ∧ _ ∧ _ ∧ _ ∧ _ ∧ _))
    refine wp_region_facts 13 (fun a b => Below a.heap.size a b) (fun _ => Below.refl _ _) (fun _ _ _ h h' => h.trans (h'.mono h.size)) (Below.refl _ _).drew (by kernel_rfl) (by kernel_rfl) (by kernel_rfl) (by kernel_rfl) ?_
    simp only [List.take_succ_cons, List.take_zero, List.drop_succ_cons, List.drop_zero]
    (with_reducible apply wpF_val); (focus (intro vs w' hE hk; (obtain ⟨d0, d1, d2, e0, e1, e2⟩ := KS.out w' hE); go_simp; exact ⟨Below.refl _ _, rfl⟩)); (simp only [Act.put, List.setIfInBounds_toArray, List.set_cons_zero, List.set_cons_succ, List.cons_append, List.nil_append])
    (with_reducible apply wpF_val); (focus (intro vs w' hE hk; (obtain ⟨d0, d1, d2, e0, e1, e2⟩ := KS.out w' hE); go_simp; exact ⟨Below.refl _ _, rfl⟩)); (simp only [Act.put, List.setIfInBounds_toArray, List.set_cons_zero, List.set_cons_succ, List.cons_append, List.nil_append])
    (with_reducible apply wpF_val); (focus (intro vs w' hE hk; (obtain ⟨d0, d1, d2, e0, e1, e2⟩ := KS.out w' hE); go_simp; exact ⟨Below.refl _ _, rfl⟩)); (simp only [Act.put, List.setIfInBounds_toArray, List.set_cons_zero, List.set_cons_succ, List.cons_append, List.nil_append])
    (with_reducible apply wpF_val); (focus (intro vs w' hE hk; (obtain ⟨d0, d1, d2, e0, e1, e2⟩ := KS.out w' hE); go_simp; exact ⟨Below.refl _ _, rfl⟩)); (simp only [Act.put, List.setIfInBounds_toArray, List.set_cons_zero, List.set_cons_succ, List.cons_append, List.nil_append])
    (with_reducible apply wpF_val); (focus (intro vs w' hE hk; (obtain ⟨d0, d1, d2, e0, e1, e2⟩ := KS.out w' hE); go_simp; exact ⟨Below.refl _ _, rfl⟩)); (simp only [Act.put, List.setIfInBounds_toArray, List.set_cons_zero, List.set_cons_succ, List.cons_append, List.nil_append])
    (with_reducible apply wpF_val); (focus (intro vs w' hE hk; (obtain ⟨d0, d1, d2, e0, e1, e2⟩ := KS.out w' hE); go_simp; exact ⟨Below.refl _ _, rfl⟩)); (simp only [Act.put, List.setIfInBounds_toArray, List.set_cons_zero, List.set_cons_succ, List.cons_append, List.nil_append])
    refine wpF_fact (fun u _ => ∃ m, u = .float .f32 (pick .f32 (fop .mul .f32 (t) (floatOfInt .f32 (Wn : Int))) m)) (fun _ _ _ h _ => h) (fun vs w' hE hk => ?_) ?_; (focus (rw [if_pos (by rfl)]; refine uponW_fop _ _ _ _ _ rfl .f32 _ _ rfl rfl (by decide) (fun n' m' => ⟨below_drewN (Below.refl _ _) _, n', by simp only [fop_pick_l, fop_pick_r]⟩))); (simp only [Act.put, List.setIfInBounds_toArray, List.set_cons_zero, List.set_cons_succ, List.cons_append, List.nil_append])
    (with_reducible apply wpF_val); (focus (intro vs w' hE hk; (obtain ⟨d0, d1, d2, e0, e1, e2⟩ := KS.out w' hE); go_simp; exact ⟨Below.refl _ _, rfl⟩)); (simp only [Act.put, List.setIfInBounds_toArray, List.set_cons_zero, List.set_cons_succ, List.cons_append, List.nil_append])
    (with_reducible apply wpF_val); (focus (intro vs w' hE hk; (obtain ⟨d0, d1, d2, e0, e1, e2⟩ := KS.out w' hE); go_simp; exact ⟨Below.refl _ _, rfl⟩)); (simp only [Act.put, List.setIfInBounds_toArray, List.set_cons_zero, List.set_cons_succ, List.cons_append, List.nil_append])
    (with_reducible apply wpF_val); (focus (intro vs w' hE hk; (obtain ⟨d0, d1, d2, e0, e1, e2⟩ := KS.out w' hE); go_simp; exact ⟨Below.refl _ _, rfl⟩)); (simp only [Act.put, List.setIfInBounds_toArray, List.set_cons_zero, List.set_cons_succ, List.cons_append, List.nil_append])
    (with_reducible apply wpF_val); (focus (intro vs w' hE hk; (obtain ⟨d0, d1, d2, e0, e1, e2⟩ := KS.out w' hE); go_simp; exact ⟨Below.refl _ _, rfl⟩)); (simp only [Act.put, List.setIfInBounds_toArray, List.set_cons_zero, List.set_cons_succ, List.cons_append, List.nil_append])
    (with_reducible apply wpF_val); (focus (intro vs w' hE hk; (obtain ⟨d0, d1, d2, e0, e1, e2⟩ := KS.out w' hE); go_simp; exact ⟨Below.refl _ _, rfl⟩)); (simp only [Act.put, List.setIfInBounds_toArray, List.set_cons_zero, List.set_cons_succ, List.cons_append, List.nil_append])
    refine wpF_fact (fun u _ => u = .int .i64 ((dx : Nat) : Int)) (fun _ _ _ h _ => h) (fun vs w' hE hk => ?_) ?_; (focus (obtain ⟨n1, hn1⟩ := hk 6 (by kernel_rfl); simp only [hn1]; (obtain ⟨d0, d1, d2, e0, e1, e2⟩ := KS.out w' hE); go_simp; refine (CX.out _ _).mono ?_; rintro _ _ ⟨m1, rfl, rfl⟩; exact ⟨_, rfl, below_drewN (Below.refl _ _) _, rfl⟩)); (simp only [Act.put, List.setIfInBounds_toArray, List.set_cons_zero, List.set_cons_succ, List.cons_append, List.nil_append])
    refine wpF_nil (fun vs w2 hE hk => ?_)
    obtain ⟨_, h6⟩ := hk 6
    have h12 := hk 12
    simp only [h6, show vs 12 = _ from h12]
    clear h6 h12
    have b := hE
    clear hE hk KS
    have VP2 := Lib.hid (VP1.out.keep b)
    have Va_2 := Lib.hid (Va_1.out.keep b)
    have B_2 := Lib.hid (B_1.out.trans (b.mono B_1.out.size))
    clear Va_1 B_1 b VP1
    obtain ⟨ca0, ca1, ca2⟩ := Va_2.out.three
    go_wp2_with fail
    clear ca0 ca1 ca2
    have KS := Lib.hid (fun (w' : World) (hE : Below w2.heap.size w2 w') => (⟨(Va_2.out.keep hE).three.1, (Va_2.out.keep hE).three.2.1, (Va_2.out.keep hE).three.2.2, (VP2.out.keep hE).three.1, (VP2.out.keep hE).three.2.1, (VP2.out.keep hE).three.2.2⟩ : _ ∧ _ ∧ _ ∧ _ ∧ _ ∧ _))
    refine wp_region_facts 14 (fun a b => Below a.heap.size a b) (fun _ => Below.refl _ _) (fun _ _ _ h h' => h.trans (h'.mono h.size)) (Below.refl _ _).drew (by kernel_rfl) (by kernel_rfl) (by kernel_rfl) (by kernel_rfl) ?_
    simp only [List.take_succ_cons, List.take_zero, List.drop_succ_cons, List.drop_zero]
    (with_reducible apply wpF_val); (focus (intro vs w' hE hk; (obtain ⟨d0, d1, d2, e0, e1, e2⟩ := KS.out w' hE); go_simp; exact ⟨Below.refl _ _, rfl⟩)); (simp only [Act.put, List.setIfInBounds_toArray, List.set_cons_zero, List.set_cons_succ, List.cons_append, List.nil_append])
    refine wpF_fact (fun u _ => ∃ m, u = .float .f32 (pick .f32 (fop .mul .f32 1073741824 ua) m)) (fun _ _ _ h _ => h) (fun vs w' hE hk => ?_) ?_; (focus (rw [if_pos (by rfl)]; refine uponW_fop _ _ _ _ _ rfl .f32 _ _ rfl rfl (by decide) (fun n' m' => ⟨below_drewN (Below.refl _ _) _, n', by simp only [fop_pick_l, fop_pick_r]⟩))); (simp only [Act.put, List.setIfInBounds_toArray, List.set_cons_zero, List.set_cons_succ, List.cons_append, List.nil_append])
    (with_reducible apply wpF_val); (focus (intro vs w' hE hk; (obtain ⟨d0, d1, d2, e0, e1, e2⟩ := KS.out w' hE); go_simp; exact ⟨Below.refl _ _, rfl⟩)); (simp only [Act.put, List.setIfInBounds_toArray, List.set_cons_zero, List.set_cons_succ, List.cons_append, List.nil_append])
    (with_reducible apply wpF_val); (focus (intro vs w' hE hk; (obtain ⟨d0, d1, d2, e0, e1, e2⟩ := KS.out w' hE); go_simp; exact ⟨Below.refl _ _, rfl⟩)); (simp only [Act.put, List.setIfInBounds_toArray, List.set_cons_zero, List.set_cons_succ, List.cons_append, List.nil_append])
    (with_reducible apply wpF_val); (focus (intro vs w' hE hk; (obtain ⟨d0, d1, d2, e0, e1, e2⟩ := KS.out w' hE); go_simp; exact ⟨Below.refl _ _, rfl⟩)); (simp only [Act.put, List.setIfInBounds_toArray, List.set_cons_zero, List.set_cons_succ, List.cons_append, List.nil_append])
    (with_reducible apply wpF_val); (focus (intro vs w' hE hk; (obtain ⟨d0, d1, d2, e0, e1, e2⟩ := KS.out w' hE); go_simp; exact ⟨Below.refl _ _, rfl⟩)); (simp only [Act.put, List.setIfInBounds_toArray, List.set_cons_zero, List.set_cons_succ, List.cons_append, List.nil_append])
    (with_reducible apply wpF_val); (focus (intro vs w' hE hk; (obtain ⟨d0, d1, d2, e0, e1, e2⟩ := KS.out w' hE); go_simp; exact ⟨Below.refl _ _, rfl⟩)); (simp only [Act.put, List.setIfInBounds_toArray, List.set_cons_zero, List.set_cons_succ, List.cons_append, List.nil_append])
    refine wpF_fact (fun u _ => ∃ m, u = .float .f32 (pick .f32 (fop .mul .f32 (fop .mul .f32 1073741824 ua) (floatOfInt .f32 (Hn : Int))) m)) (fun _ _ _ h _ => h) (fun vs w' hE hk => ?_) ?_; (focus (obtain ⟨n1, hn1⟩ := hk 1 (by kernel_rfl); simp only [hn1]; rw [if_pos (by rfl)]; refine uponW_fop _ _ _ _ _ rfl .f32 _ _ rfl rfl (by decide) (fun n' m' => ⟨below_drewN (Below.refl _ _) _, n', by simp only [fop_pick_l, fop_pick_r]⟩))); (simp only [Act.put, List.setIfInBounds_toArray, List.set_cons_zero, List.set_cons_succ, List.cons_append, List.nil_append])
    (with_reducible apply wpF_val); (focus (intro vs w' hE hk; (obtain ⟨d0, d1, d2, e0, e1, e2⟩ := KS.out w' hE); go_simp; exact ⟨Below.refl _ _, rfl⟩)); (simp only [Act.put, List.setIfInBounds_toArray, List.set_cons_zero, List.set_cons_succ, List.cons_append, List.nil_append])
    (with_reducible apply wpF_val); (focus (intro vs w' hE hk; (obtain ⟨d0, d1, d2, e0, e1, e2⟩ := KS.out w' hE); go_simp; exact ⟨Below.refl _ _, rfl⟩)); (simp only [Act.put, List.setIfInBounds_toArray, List.set_cons_zero, List.set_cons_succ, List.cons_append, List.nil_append])
    (with_reducible apply wpF_val); (focus (intro vs w' hE hk; (obtain ⟨d0, d1, d2, e0, e1, e2⟩ := KS.out w' hE); go_simp; exact ⟨Below.refl _ _, rfl⟩)); (simp only [Act.put, List.setIfInBounds_toArray, List.set_cons_zero, List.set_cons_succ, List.cons_append, List.nil_append])
    (with_reducible apply wpF_val); (focus (intro vs w' hE hk; (obtain ⟨d0, d1, d2, e0, e1, e2⟩ := KS.out w' hE); go_simp; exact ⟨Below.refl _ _, rfl⟩)); (simp only [Act.put, List.setIfInBounds_toArray, List.set_cons_zero, List.set_cons_succ, List.cons_append, List.nil_append])
    (with_reducible apply wpF_val); (focus (intro vs w' hE hk; (obtain ⟨d0, d1, d2, e0, e1, e2⟩ := KS.out w' hE); go_simp; exact ⟨Below.refl _ _, rfl⟩)); (simp only [Act.put, List.setIfInBounds_toArray, List.set_cons_zero, List.set_cons_succ, List.cons_append, List.nil_append])
    refine wpF_fact (fun u _ => u = .int .i64 ((dy : Nat) : Int)) (fun _ _ _ h _ => h) (fun vs w' hE hk => ?_) ?_; (focus (obtain ⟨n1, hn1⟩ := hk 7 (by kernel_rfl); simp only [hn1]; (obtain ⟨d0, d1, d2, e0, e1, e2⟩ := KS.out w' hE); go_simp; refine (CY.out _ _).mono ?_; rintro _ _ ⟨m1, rfl, rfl⟩; exact ⟨_, rfl, below_drewN (Below.refl _ _) _, rfl⟩)); (simp only [Act.put, List.setIfInBounds_toArray, List.set_cons_zero, List.set_cons_succ, List.cons_append, List.nil_append])
    refine wpF_nil (fun vs w3 hE hk => ?_)
    obtain ⟨_, h1⟩ := hk 1
    obtain ⟨_, h7⟩ := hk 7
    have h13 := hk 13
    simp only [h1, h7, show vs 13 = _ from h13]
    clear h1 h7 h13
    have b := hE
    clear hE hk KS
    have VP3 := Lib.hid (VP2.out.keep b)
    have Va_3 := Lib.hid (Va_2.out.keep b)
    have B_3 := Lib.hid (B_2.out.trans (b.mono B_2.out.size))
    clear Va_2 B_2 b VP2
    obtain ⟨ca0, ca1, ca2⟩ := Va_3.out.three
    go_wp2_with fail
    clear ca0 ca1 ca2
    have KS := Lib.hid (fun (w' : World) (hE : Below w3.heap.size w3 w') => (⟨(Va_3.out.keep hE).three.1, (Va_3.out.keep hE).three.2.1, (Va_3.out.keep hE).three.2.2, (VP3.out.keep hE).three.1, (VP3.out.keep hE).three.2.1, (VP3.out.keep hE).three.2.2⟩ : _ ∧ _ ∧ _ ∧ _ ∧ _ ∧ _))
    refine wp_region_facts 12 (fun a b => Below a.heap.size a b) (fun _ => Below.refl _ _) (fun _ _ _ h h' => h.trans (h'.mono h.size)) (Below.refl _ _).drew (by kernel_rfl) (by kernel_rfl) (by kernel_rfl) (by kernel_rfl) ?_
    simp only [List.take_succ_cons, List.take_zero, List.drop_succ_cons, List.drop_zero]
    (with_reducible apply wpF_val); (focus (intro vs w' hE hk; (obtain ⟨d0, d1, d2, e0, e1, e2⟩ := KS.out w' hE); go_simp; exact ⟨Below.refl _ _, rfl⟩)); (simp only [Act.put, List.setIfInBounds_toArray, List.set_cons_zero, List.set_cons_succ, List.cons_append, List.nil_append])
    (with_reducible apply wpF_val); (focus (intro vs w' hE hk; (obtain ⟨d0, d1, d2, e0, e1, e2⟩ := KS.out w' hE); go_simp; exact ⟨Below.refl _ _, rfl⟩)); (simp only [Act.put, List.setIfInBounds_toArray, List.set_cons_zero, List.set_cons_succ, List.cons_append, List.nil_append])
    (with_reducible apply wpF_val); (focus (intro vs w' hE hk; (obtain ⟨d0, d1, d2, e0, e1, e2⟩ := KS.out w' hE); go_simp; exact ⟨Below.refl _ _, rfl⟩)); (simp only [Act.put, List.setIfInBounds_toArray, List.set_cons_zero, List.set_cons_succ, List.cons_append, List.nil_append])
    (with_reducible apply wpF_val); (focus (intro vs w' hE hk; (obtain ⟨d0, d1, d2, e0, e1, e2⟩ := KS.out w' hE); go_simp; exact ⟨Below.refl _ _, rfl⟩)); (simp only [Act.put, List.setIfInBounds_toArray, List.set_cons_zero, List.set_cons_succ, List.cons_append, List.nil_append])
    (with_reducible apply wpF_val); (focus (intro vs w' hE hk; (obtain ⟨d0, d1, d2, e0, e1, e2⟩ := KS.out w' hE); go_simp; exact ⟨Below.refl _ _, rfl⟩)); (simp only [Act.put, List.setIfInBounds_toArray, List.set_cons_zero, List.set_cons_succ, List.cons_append, List.nil_append])
    (with_reducible apply wpF_val); (focus (intro vs w' hE hk; (obtain ⟨d0, d1, d2, e0, e1, e2⟩ := KS.out w' hE); go_simp; exact ⟨Below.refl _ _, rfl⟩)); (simp only [Act.put, List.setIfInBounds_toArray, List.set_cons_zero, List.set_cons_succ, List.cons_append, List.nil_append])
    (with_reducible apply wpF_val); (focus (intro vs w' hE hk; (obtain ⟨d0, d1, d2, e0, e1, e2⟩ := KS.out w' hE); go_simp; exact ⟨Below.refl _ _, rfl⟩)); (simp only [Act.put, List.setIfInBounds_toArray, List.set_cons_zero, List.set_cons_succ, List.cons_append, List.nil_append])
    (with_reducible apply wpF_val); (focus (intro vs w' hE hk; (obtain ⟨d0, d1, d2, e0, e1, e2⟩ := KS.out w' hE); go_simp; exact ⟨Below.refl _ _, rfl⟩)); (simp only [Act.put, List.setIfInBounds_toArray, List.set_cons_zero, List.set_cons_succ, List.cons_append, List.nil_append])
    (with_reducible apply wpF_val); (focus (intro vs w' hE hk; (obtain ⟨d0, d1, d2, e0, e1, e2⟩ := KS.out w' hE); go_simp; exact ⟨Below.refl _ _, rfl⟩)); (simp only [Act.put, List.setIfInBounds_toArray, List.set_cons_zero, List.set_cons_succ, List.cons_append, List.nil_append])
    refine wpF_fact (fun u _ => u = .bool (finB .f32 fl)) (fun _ _ _ h _ => h) (fun vs w' hE hk => ?_) ?_; (focus ((obtain ⟨d0, d1, d2, e0, e1, e2⟩ := KS.out w' hE); go_simp; refine (c_l01Finite0 _ _ _).mono ?_; rintro _ _ ⟨m1, rfl, rfl⟩; exact ⟨_, rfl, below_drewN (Below.refl _ _) _, rfl⟩)); (simp only [Act.put, List.setIfInBounds_toArray, List.set_cons_zero, List.set_cons_succ, List.cons_append, List.nil_append])
    (with_reducible apply wpF_val); (focus (intro vs w' hE hk; (obtain ⟨d0, d1, d2, e0, e1, e2⟩ := KS.out w' hE); go_simp; exact ⟨Below.refl _ _, rfl⟩)); (simp only [Act.put, List.setIfInBounds_toArray, List.set_cons_zero, List.set_cons_succ, List.cons_append, List.nil_append])
    refine wpF_fact (fun u _ => u = .bool (finB .f32 fl)) (fun _ _ _ h _ => h) (fun vs w' hE hk => ?_) ?_; (focus (have h9 := hk 9 (by kernel_rfl); simp only [show vs 9 = _ from h9]; go_simp; exact ⟨Below.refl _ _, rfl⟩)); (simp only [Act.put, List.setIfInBounds_toArray, List.set_cons_zero, List.set_cons_succ, List.cons_append, List.nil_append])
    refine wpF_nil (fun vs w4 hE hk => ?_)
    have h9 := hk 9
    have h11 := hk 11
    simp only [show vs 9 = _ from h9, show vs 11 = _ from h11]
    clear h9 h11
    have b := hE
    clear hE hk KS
    have VP4 := Lib.hid (VP3.out.keep b)
    have Va_4 := Lib.hid (Va_3.out.keep b)
    have B_4 := Lib.hid (B_3.out.trans (b.mono B_3.out.size))
    clear Va_3 B_3 b VP3
    obtain ⟨ca0, ca1, ca2⟩ := Va_4.out.three
    go_wp2_with fail
    go_ret2
    exact ⟨rfl, B_4.out⟩
  · obtain ⟨ca0, ca1, ca2⟩ := Va_0.out.three
    go_enter Try.func113, Try.ntmps113
    go_wp2_with fail
    rw [HW.out]
    rw [← w0.drewN_zero]
    go_wp2_with (first | (first | (refine wpList_fop rfl _ _ _ _ _ rfl _ _ _ rfl rfl (by decide) _ ?_; intro _ _) | (refine upon_fop _ _ _ _ _ (by decide) ?_; intro _ _)) | (go_at_call 136; first | ((with_reducible refine (CA.out _ _ _ _).mono ?_); rintro _ _ ⟨_, _, rfl, rfl⟩) | ((with_reducible refine (CU.out _ _ _ _).mono ?_); rintro _ _ ⟨_, _, rfl, rfl⟩)) | (go_at_call 101; refine (CR.out _ _ _).mono ?_; rintro _ _ ⟨_, _, rfl, rfl⟩))
    generalize hw1 : World.drewN w0 _ = w1
    have b : Below w0.heap.size w0 w1 := by subst hw1; exact below_drewN (Below.refl _ _) _
    clear ca0 ca1 ca2
    have VP1 := Lib.hid (VP0.out.keep b)
    have Va_1 := Lib.hid (Va_0.out.keep b)
    have B_1 := Lib.hid (B_0.out.trans (b.mono B_0.out.size))
    clear Va_0 B_0 b VP0 hw1
    obtain ⟨ca0, ca1, ca2⟩ := Va_1.out.three
    clear ca0 ca1 ca2
    have KS := Lib.hid (fun (w' : World) (hE : Below w1.heap.size w1 w') => (⟨(Va_1.out.keep hE).three.1, (Va_1.out.keep hE).three.2.1, (Va_1.out.keep hE).three.2.2, (VP1.out.keep hE).three.1, (VP1.out.keep hE).three.2.1, (VP1.out.keep hE).three.2.2⟩ : _ ∧ _ ∧ _ ∧ _ ∧ _ ∧ _))
    refine wp_region_facts 13 (fun a b => Below a.heap.size a b) (fun _ => Below.refl _ _) (fun _ _ _ h h' => h.trans (h'.mono h.size)) (Below.refl _ _).drew (by kernel_rfl) (by kernel_rfl) (by kernel_rfl) (by kernel_rfl) ?_
    simp only [List.take_succ_cons, List.take_zero, List.drop_succ_cons, List.drop_zero]
    (with_reducible apply wpF_val); (focus (intro vs w' hE hk; (obtain ⟨d0, d1, d2, e0, e1, e2⟩ := KS.out w' hE); go_simp; exact ⟨Below.refl _ _, rfl⟩)); (simp only [Act.put, List.setIfInBounds_toArray, List.set_cons_zero, List.set_cons_succ, List.cons_append, List.nil_append])
    (with_reducible apply wpF_val); (focus (intro vs w' hE hk; (obtain ⟨d0, d1, d2, e0, e1, e2⟩ := KS.out w' hE); go_simp; exact ⟨Below.refl _ _, rfl⟩)); (simp only [Act.put, List.setIfInBounds_toArray, List.set_cons_zero, List.set_cons_succ, List.cons_append, List.nil_append])
    (with_reducible apply wpF_val); (focus (intro vs w' hE hk; (obtain ⟨d0, d1, d2, e0, e1, e2⟩ := KS.out w' hE); go_simp; exact ⟨Below.refl _ _, rfl⟩)); (simp only [Act.put, List.setIfInBounds_toArray, List.set_cons_zero, List.set_cons_succ, List.cons_append, List.nil_append])
    (with_reducible apply wpF_val); (focus (intro vs w' hE hk; (obtain ⟨d0, d1, d2, e0, e1, e2⟩ := KS.out w' hE); go_simp; exact ⟨Below.refl _ _, rfl⟩)); (simp only [Act.put, List.setIfInBounds_toArray, List.set_cons_zero, List.set_cons_succ, List.cons_append, List.nil_append])
    (with_reducible apply wpF_val); (focus (intro vs w' hE hk; (obtain ⟨d0, d1, d2, e0, e1, e2⟩ := KS.out w' hE); go_simp; exact ⟨Below.refl _ _, rfl⟩)); (simp only [Act.put, List.setIfInBounds_toArray, List.set_cons_zero, List.set_cons_succ, List.cons_append, List.nil_append])
    (with_reducible apply wpF_val); (focus (intro vs w' hE hk; (obtain ⟨d0, d1, d2, e0, e1, e2⟩ := KS.out w' hE); go_simp; exact ⟨Below.refl _ _, rfl⟩)); (simp only [Act.put, List.setIfInBounds_toArray, List.set_cons_zero, List.set_cons_succ, List.cons_append, List.nil_append])
    refine wpF_fact (fun u _ => ∃ m, u = .float .f32 (pick .f32 (fop .mul .f32 (fop .add .f32 t 1065353216) (floatOfInt .f32 (Wn : Int))) m)) (fun _ _ _ h _ => h) (fun vs w' hE hk => ?_) ?_; (focus (rw [if_pos (by rfl)]; refine uponW_fop _ _ _ _ _ rfl .f32 _ _ rfl rfl (by decide) (fun n' m' => ⟨below_drewN (Below.refl _ _) _, n', by simp only [fop_pick_l, fop_pick_r]⟩))); (simp only [Act.put, List.setIfInBounds_toArray, List.set_cons_zero, List.set_cons_succ, List.cons_append, List.nil_append])
    (with_reducible apply wpF_val); (focus (intro vs w' hE hk; (obtain ⟨d0, d1, d2, e0, e1, e2⟩ := KS.out w' hE); go_simp; exact ⟨Below.refl _ _, rfl⟩)); (simp only [Act.put, List.setIfInBounds_toArray, List.set_cons_zero, List.set_cons_succ, List.cons_append, List.nil_append])
    (with_reducible apply wpF_val); (focus (intro vs w' hE hk; (obtain ⟨d0, d1, d2, e0, e1, e2⟩ := KS.out w' hE); go_simp; exact ⟨Below.refl _ _, rfl⟩)); (simp only [Act.put, List.setIfInBounds_toArray, List.set_cons_zero, List.set_cons_succ, List.cons_append, List.nil_append])
    (with_reducible apply wpF_val); (focus (intro vs w' hE hk; (obtain ⟨d0, d1, d2, e0, e1, e2⟩ := KS.out w' hE); go_simp; exact ⟨Below.refl _ _, rfl⟩)); (simp only [Act.put, List.setIfInBounds_toArray, List.set_cons_zero, List.set_cons_succ, List.cons_append, List.nil_append])
    (with_reducible apply wpF_val); (focus (intro vs w' hE hk; (obtain ⟨d0, d1, d2, e0, e1, e2⟩ := KS.out w' hE); go_simp; exact ⟨Below.refl _ _, rfl⟩)); (simp only [Act.put, List.setIfInBounds_toArray, List.set_cons_zero, List.set_cons_succ, List.cons_append, List.nil_append])
    (with_reducible apply wpF_val); (focus (intro vs w' hE hk; (obtain ⟨d0, d1, d2, e0, e1, e2⟩ := KS.out w' hE); go_simp; exact ⟨Below.refl _ _, rfl⟩)); (simp only [Act.put, List.setIfInBounds_toArray, List.set_cons_zero, List.set_cons_succ, List.cons_append, List.nil_append])
    refine wpF_fact (fun u _ => u = .int .i64 ((dx : Nat) : Int)) (fun _ _ _ h _ => h) (fun vs w' hE hk => ?_) ?_; (focus (obtain ⟨n1, hn1⟩ := hk 6 (by kernel_rfl); simp only [hn1]; (obtain ⟨d0, d1, d2, e0, e1, e2⟩ := KS.out w' hE); go_simp; refine (CX.out _ _).mono ?_; rintro _ _ ⟨m1, rfl, rfl⟩; exact ⟨_, rfl, below_drewN (Below.refl _ _) _, rfl⟩)); (simp only [Act.put, List.setIfInBounds_toArray, List.set_cons_zero, List.set_cons_succ, List.cons_append, List.nil_append])
    refine wpF_nil (fun vs w2 hE hk => ?_)
    obtain ⟨_, h6⟩ := hk 6
    have h12 := hk 12
    simp only [h6, show vs 12 = _ from h12]
    clear h6 h12
    have b := hE
    clear hE hk KS
    have VP2 := Lib.hid (VP1.out.keep b)
    have Va_2 := Lib.hid (Va_1.out.keep b)
    have B_2 := Lib.hid (B_1.out.trans (b.mono B_1.out.size))
    clear Va_1 B_1 b VP1
    obtain ⟨ca0, ca1, ca2⟩ := Va_2.out.three
    go_wp2_with fail
    clear ca0 ca1 ca2
    have KS := Lib.hid (fun (w' : World) (hE : Below w2.heap.size w2 w') => (⟨(Va_2.out.keep hE).three.1, (Va_2.out.keep hE).three.2.1, (Va_2.out.keep hE).three.2.2, (VP2.out.keep hE).three.1, (VP2.out.keep hE).three.2.1, (VP2.out.keep hE).three.2.2⟩ : _ ∧ _ ∧ _ ∧ _ ∧ _ ∧ _))
    refine wp_region_facts 14 (fun a b => Below a.heap.size a b) (fun _ => Below.refl _ _) (fun _ _ _ h h' => h.trans (h'.mono h.size)) (Below.refl _ _).drew (by kernel_rfl) (by kernel_rfl) (by kernel_rfl) (by kernel_rfl) ?_
    simp only [List.take_succ_cons, List.take_zero, List.drop_succ_cons, List.drop_zero]
    (with_reducible apply wpF_val); (focus (intro vs w' hE hk; (obtain ⟨d0, d1, d2, e0, e1, e2⟩ := KS.out w' hE); go_simp; exact ⟨Below.refl _ _, rfl⟩)); (simp only [Act.put, List.setIfInBounds_toArray, List.set_cons_zero, List.set_cons_succ, List.cons_append, List.nil_append])
    refine wpF_fact (fun u _ => ∃ m, u = .float .f32 (pick .f32 (fop .mul .f32 1073741824 ua) m)) (fun _ _ _ h _ => h) (fun vs w' hE hk => ?_) ?_; (focus (rw [if_pos (by rfl)]; refine uponW_fop _ _ _ _ _ rfl .f32 _ _ rfl rfl (by decide) (fun n' m' => ⟨below_drewN (Below.refl _ _) _, n', by simp only [fop_pick_l, fop_pick_r]⟩))); (simp only [Act.put, List.setIfInBounds_toArray, List.set_cons_zero, List.set_cons_succ, List.cons_append, List.nil_append])
    (with_reducible apply wpF_val); (focus (intro vs w' hE hk; (obtain ⟨d0, d1, d2, e0, e1, e2⟩ := KS.out w' hE); go_simp; exact ⟨Below.refl _ _, rfl⟩)); (simp only [Act.put, List.setIfInBounds_toArray, List.set_cons_zero, List.set_cons_succ, List.cons_append, List.nil_append])
    (with_reducible apply wpF_val); (focus (intro vs w' hE hk; (obtain ⟨d0, d1, d2, e0, e1, e2⟩ := KS.out w' hE); go_simp; exact ⟨Below.refl _ _, rfl⟩)); (simp only [Act.put, List.setIfInBounds_toArray, List.set_cons_zero, List.set_cons_succ, List.cons_append, List.nil_append])
    (with_reducible apply wpF_val); (focus (intro vs w' hE hk; (obtain ⟨d0, d1, d2, e0, e1, e2⟩ := KS.out w' hE); go_simp; exact ⟨Below.refl _ _, rfl⟩)); (simp only [Act.put, List.setIfInBounds_toArray, List.set_cons_zero, List.set_cons_succ, List.cons_append, List.nil_append])
    (with_reducible apply wpF_val); (focus (intro vs w' hE hk; (obtain ⟨d0, d1, d2, e0, e1, e2⟩ := KS.out w' hE); go_simp; exact ⟨Below.refl _ _, rfl⟩)); (simp only [Act.put, List.setIfInBounds_toArray, List.set_cons_zero, List.set_cons_succ, List.cons_append, List.nil_append])
    (with_reducible apply wpF_val); (focus (intro vs w' hE hk; (obtain ⟨d0, d1, d2, e0, e1, e2⟩ := KS.out w' hE); go_simp; exact ⟨Below.refl _ _, rfl⟩)); (simp only [Act.put, List.setIfInBounds_toArray, List.set_cons_zero, List.set_cons_succ, List.cons_append, List.nil_append])
    refine wpF_fact (fun u _ => ∃ m, u = .float .f32 (pick .f32 (fop .mul .f32 (fop .mul .f32 1073741824 ua) (floatOfInt .f32 (Hn : Int))) m)) (fun _ _ _ h _ => h) (fun vs w' hE hk => ?_) ?_; (focus (obtain ⟨n1, hn1⟩ := hk 1 (by kernel_rfl); simp only [hn1]; rw [if_pos (by rfl)]; refine uponW_fop _ _ _ _ _ rfl .f32 _ _ rfl rfl (by decide) (fun n' m' => ⟨below_drewN (Below.refl _ _) _, n', by simp only [fop_pick_l, fop_pick_r]⟩))); (simp only [Act.put, List.setIfInBounds_toArray, List.set_cons_zero, List.set_cons_succ, List.cons_append, List.nil_append])
    (with_reducible apply wpF_val); (focus (intro vs w' hE hk; (obtain ⟨d0, d1, d2, e0, e1, e2⟩ := KS.out w' hE); go_simp; exact ⟨Below.refl _ _, rfl⟩)); (simp only [Act.put, List.setIfInBounds_toArray, List.set_cons_zero, List.set_cons_succ, List.cons_append, List.nil_append])
    (with_reducible apply wpF_val); (focus (intro vs w' hE hk; (obtain ⟨d0, d1, d2, e0, e1, e2⟩ := KS.out w' hE); go_simp; exact ⟨Below.refl _ _, rfl⟩)); (simp only [Act.put, List.setIfInBounds_toArray, List.set_cons_zero, List.set_cons_succ, List.cons_append, List.nil_append])
    (with_reducible apply wpF_val); (focus (intro vs w' hE hk; (obtain ⟨d0, d1, d2, e0, e1, e2⟩ := KS.out w' hE); go_simp; exact ⟨Below.refl _ _, rfl⟩)); (simp only [Act.put, List.setIfInBounds_toArray, List.set_cons_zero, List.set_cons_succ, List.cons_append, List.nil_append])
    (with_reducible apply wpF_val); (focus (intro vs w' hE hk; (obtain ⟨d0, d1, d2, e0, e1, e2⟩ := KS.out w' hE); go_simp; exact ⟨Below.refl _ _, rfl⟩)); (simp only [Act.put, List.setIfInBounds_toArray, List.set_cons_zero, List.set_cons_succ, List.cons_append, List.nil_append])
    (with_reducible apply wpF_val); (focus (intro vs w' hE hk; (obtain ⟨d0, d1, d2, e0, e1, e2⟩ := KS.out w' hE); go_simp; exact ⟨Below.refl _ _, rfl⟩)); (simp only [Act.put, List.setIfInBounds_toArray, List.set_cons_zero, List.set_cons_succ, List.cons_append, List.nil_append])
    refine wpF_fact (fun u _ => u = .int .i64 ((dy : Nat) : Int)) (fun _ _ _ h _ => h) (fun vs w' hE hk => ?_) ?_; (focus (obtain ⟨n1, hn1⟩ := hk 7 (by kernel_rfl); simp only [hn1]; (obtain ⟨d0, d1, d2, e0, e1, e2⟩ := KS.out w' hE); go_simp; refine (CY.out _ _).mono ?_; rintro _ _ ⟨m1, rfl, rfl⟩; exact ⟨_, rfl, below_drewN (Below.refl _ _) _, rfl⟩)); (simp only [Act.put, List.setIfInBounds_toArray, List.set_cons_zero, List.set_cons_succ, List.cons_append, List.nil_append])
    refine wpF_nil (fun vs w3 hE hk => ?_)
    obtain ⟨_, h1⟩ := hk 1
    obtain ⟨_, h7⟩ := hk 7
    have h13 := hk 13
    simp only [h1, h7, show vs 13 = _ from h13]
    clear h1 h7 h13
    have b := hE
    clear hE hk KS
    have VP3 := Lib.hid (VP2.out.keep b)
    have Va_3 := Lib.hid (Va_2.out.keep b)
    have B_3 := Lib.hid (B_2.out.trans (b.mono B_2.out.size))
    clear Va_2 B_2 b VP2
    obtain ⟨ca0, ca1, ca2⟩ := Va_3.out.three
    go_wp2_with fail
    clear ca0 ca1 ca2
    have KS := Lib.hid (fun (w' : World) (hE : Below w3.heap.size w3 w') => (⟨(Va_3.out.keep hE).three.1, (Va_3.out.keep hE).three.2.1, (Va_3.out.keep hE).three.2.2, (VP3.out.keep hE).three.1, (VP3.out.keep hE).three.2.1, (VP3.out.keep hE).three.2.2⟩ : _ ∧ _ ∧ _ ∧ _ ∧ _ ∧ _))
    refine wp_region_facts 12 (fun a b => Below a.heap.size a b) (fun _ => Below.refl _ _) (fun _ _ _ h h' => h.trans (h'.mono h.size)) (Below.refl _ _).drew (by kernel_rfl) (by kernel_rfl) (by kernel_rfl) (by kernel_rfl) ?_
    simp only [List.take_succ_cons, List.take_zero, List.drop_succ_cons, List.drop_zero]
    (with_reducible apply wpF_val); (focus (intro vs w' hE hk; (obtain ⟨d0, d1, d2, e0, e1, e2⟩ := KS.out w' hE); go_simp; exact ⟨Below.refl _ _, rfl⟩)); (simp only [Act.put, List.setIfInBounds_toArray, List.set_cons_zero, List.set_cons_succ, List.cons_append, List.nil_append])
    (with_reducible apply wpF_val); (focus (intro vs w' hE hk; (obtain ⟨d0, d1, d2, e0, e1, e2⟩ := KS.out w' hE); go_simp; exact ⟨Below.refl _ _, rfl⟩)); (simp only [Act.put, List.setIfInBounds_toArray, List.set_cons_zero, List.set_cons_succ, List.cons_append, List.nil_append])
    (with_reducible apply wpF_val); (focus (intro vs w' hE hk; (obtain ⟨d0, d1, d2, e0, e1, e2⟩ := KS.out w' hE); go_simp; exact ⟨Below.refl _ _, rfl⟩)); (simp only [Act.put, List.setIfInBounds_toArray, List.set_cons_zero, List.set_cons_succ, List.cons_append, List.nil_append])
    (with_reducible apply wpF_val); (focus (intro vs w' hE hk; (obtain ⟨d0, d1, d2, e0, e1, e2⟩ := KS.out w' hE); go_simp; exact ⟨Below.refl _ _, rfl⟩)); (simp only [Act.put, List.setIfInBounds_toArray, List.set_cons_zero, List.set_cons_succ, List.cons_append, List.nil_append])
    (with_reducible apply wpF_val); (focus (intro vs w' hE hk; (obtain ⟨d0, d1, d2, e0, e1, e2⟩ := KS.out w' hE); go_simp; exact ⟨Below.refl _ _, rfl⟩)); (simp only [Act.put, List.setIfInBounds_toArray, List.set_cons_zero, List.set_cons_succ, List.cons_append, List.nil_append])
    (with_reducible apply wpF_val); (focus (intro vs w' hE hk; (obtain ⟨d0, d1, d2, e0, e1, e2⟩ := KS.out w' hE); go_simp; exact ⟨Below.refl _ _, rfl⟩)); (simp only [Act.put, List.setIfInBounds_toArray, List.set_cons_zero, List.set_cons_succ, List.cons_append, List.nil_append])
    (with_reducible apply wpF_val); (focus (intro vs w' hE hk; (obtain ⟨d0, d1, d2, e0, e1, e2⟩ := KS.out w' hE); go_simp; exact ⟨Below.refl _ _, rfl⟩)); (simp only [Act.put, List.setIfInBounds_toArray, List.set_cons_zero, List.set_cons_succ, List.cons_append, List.nil_append])
    (with_reducible apply wpF_val); (focus (intro vs w' hE hk; (obtain ⟨d0, d1, d2, e0, e1, e2⟩ := KS.out w' hE); go_simp; exact ⟨Below.refl _ _, rfl⟩)); (simp only [Act.put, List.setIfInBounds_toArray, List.set_cons_zero, List.set_cons_succ, List.cons_append, List.nil_append])
    (with_reducible apply wpF_val); (focus (intro vs w' hE hk; (obtain ⟨d0, d1, d2, e0, e1, e2⟩ := KS.out w' hE); go_simp; exact ⟨Below.refl _ _, rfl⟩)); (simp only [Act.put, List.setIfInBounds_toArray, List.set_cons_zero, List.set_cons_succ, List.cons_append, List.nil_append])
    refine wpF_fact (fun u _ => u = .bool (finB .f32 fl)) (fun _ _ _ h _ => h) (fun vs w' hE hk => ?_) ?_; (focus ((obtain ⟨d0, d1, d2, e0, e1, e2⟩ := KS.out w' hE); go_simp; refine (c_l01Finite0 _ _ _).mono ?_; rintro _ _ ⟨m1, rfl, rfl⟩; exact ⟨_, rfl, below_drewN (Below.refl _ _) _, rfl⟩)); (simp only [Act.put, List.setIfInBounds_toArray, List.set_cons_zero, List.set_cons_succ, List.cons_append, List.nil_append])
    (with_reducible apply wpF_val); (focus (intro vs w' hE hk; (obtain ⟨d0, d1, d2, e0, e1, e2⟩ := KS.out w' hE); go_simp; exact ⟨Below.refl _ _, rfl⟩)); (simp only [Act.put, List.setIfInBounds_toArray, List.set_cons_zero, List.set_cons_succ, List.cons_append, List.nil_append])
    refine wpF_fact (fun u _ => u = .bool (finB .f32 fl)) (fun _ _ _ h _ => h) (fun vs w' hE hk => ?_) ?_; (focus (have h9 := hk 9 (by kernel_rfl); simp only [show vs 9 = _ from h9]; go_simp; exact ⟨Below.refl _ _, rfl⟩)); (simp only [Act.put, List.setIfInBounds_toArray, List.set_cons_zero, List.set_cons_succ, List.cons_append, List.nil_append])
    refine wpF_nil (fun vs w4 hE hk => ?_)
    have h9 := hk 9
    have h11 := hk 11
    simp only [show vs 9 = _ from h9, show vs 11 = _ from h11]
    clear h9 h11
    have b := hE
    clear hE hk KS
    have VP4 := Lib.hid (VP3.out.keep b)
    have Va_4 := Lib.hid (Va_3.out.keep b)
    have B_4 := Lib.hid (B_3.out.trans (b.mono B_3.out.size))
    clear Va_3 B_3 b VP3
    obtain ⟨ca0, ca1, ca2⟩ := Va_4.out.three
    go_wp2_with fail
    go_ret2
    exact ⟨rfl, B_4.out⟩
/-! ### l06Light -/
theorem c_l06Light (Wn Hn xp : Nat) (zP : List Nat) (aP : Option Addr) (cP : Nat) (ar an ag am ab ak : Nat) (w : World) (hv : Var w xp #[.int .i64 (Wn : Int), .int .i64 (Hn : Int), .slice aP zP.length cP]) (rP : IsRowF .f32 w aP zP.length cP zP) (hW1 : 1 ≤ Wn) (hW2 : Wn ≤ 16) (hH1 : 1 ≤ Hn) (hH2 : Hn ≤ 16) (hl : zP.length = Wn * Hn) (hcol : colB ar ag ab = true) : Calls Try.prog 67 #[.pointer (some ⟨xp, 0, none⟩), .agg #[.float .f32 (pick .f32 ar an), .float .f32 (pick .f32 ag am), .float .f32 (pick .f32 ab ak)]] w (RetF1 (lightK Wn Hn zP ar ag ab) w) := by
  have VP := Lib.hid hv
  have RP := Lib.hid rP
  have hx0 : xp < w.heap.size := hv.lt
  clear hv rP
  generalize hw0 : w.alloc (Obj.cells #[.float .f32 (pick .f32 ar an), .float .f32 (pick .f32 ag am), .float .f32 (pick .f32 ab ak)] 36) = w0
  have Va_0 := Lib.hid (show Var w0 (w.heap.size) #[.float .f32 (pick .f32 ar an), .float .f32 (pick .f32 ag am), .float .f32 (pick .f32 ab ak)] from by subst hw0; exact (Var.new' _ _ _ _ (by first | rfl | simp)))
  have B_0 := Lib.hid (show Below w.heap.size w w0 from by subst hw0; exact ((Below.refl _ _).alloc (Nat.le_refl _) _))
  have SZ := Lib.hid (show w0.heap.size = w.heap.size + 1 from by subst hw0; simp)
  have HW := Lib.hid hw0
  clear hw0
  have hkl : rowN Hn ar ag ab * Wn + colN Wn ar ag < zP.length := by rw [hl]; exact idx_lt hW1 hH1
  obtain ⟨bA, oA, nA, rfl, hbA, eA⟩ := RP.out.at hkl
  have VP0 := Lib.hid (VP.out.below B_0.out hx0)
  have hb0 : bA < w0.heap.size := by have := SZ.out; omega
  have E0 := Lib.hid ((B_0.out.cell (p := ⟨bA, oA + (rowN Hn ar ag ab * Wn + colN Wn ar ag), none⟩) hbA).trans eA)
  have CP := Lib.hid (c_l06Pixel Wn Hn xp _ ar an ag am ab ak w0 VP0.out hW1 hW2 hH1 hH2 hcol)
  unfold lightK
  clear eA hcol
  generalize rowN Hn ar ag ab * Wn + colN Wn ar ag = k at *
  clear hl
  cases hf : finB .f32 (flatV ar ag)
  all_goals rw [hf] at CP; simp only [if_true, Bool.false_eq_true, if_false]
  · obtain ⟨ca0, ca1, ca2⟩ := Va_0.out.three
    go_enter Try.func67, Try.ntmps67
    go_wp2_with fail
    rw [HW.out]
    go_wp2_with fail
    refine CP.out.mono ?_
    rintro _ w1 ⟨rfl, b⟩
    have Va_1 := Lib.hid (Va_0.out.keep b)
    have B_1 := Lib.hid (B_0.out.trans (b.mono B_0.out.size))
    clear ca0 ca1 ca2
    clear Va_0 B_0 b
    go_wp2_with fail
    go_ret2
    exact retF1no rfl B_1.out
  · obtain ⟨ca0, ca1, ca2⟩ := Va_0.out.three
    go_enter Try.func67, Try.ntmps67
    go_wp2_with fail
    rw [HW.out]
    go_wp2_with fail
    refine CP.out.mono ?_
    rintro _ w1 ⟨rfl, b⟩
    have VP1 := Lib.hid (VP0.out.keep b)
    have e1 := (b.cell (p := ⟨bA, oA + k, none⟩) hb0).trans E0.out
    have Va_1 := Lib.hid (Va_0.out.keep b)
    have B_1 := Lib.hid (B_0.out.trans (b.mono B_0.out.size))
    clear ca0 ca1 ca2
    clear Va_0 B_0 b
    obtain ⟨p0, p1, p2⟩ := VP1.out.three
    go_wp2_with fail
    go_ret2
    exact ⟨_, rfl, B_1.out⟩

end Go.Proofs.Ytmngedfibmnohab.fnExactTiltSphere

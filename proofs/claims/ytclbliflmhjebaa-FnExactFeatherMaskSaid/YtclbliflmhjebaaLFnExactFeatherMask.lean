/-
  FnExactFeatherMask: for every input this law of the program returns true, and each argument reads as before. No condition.
-/
import Derived.Test.YtclbliflmhjebaaRows
import Derived.Test.YtclbliflmhjebaaRow
import Derived.Test.YtclbliflmhjebaaOw
import Derived.Test.YtclbliflmhjebaaAp
import Derived.ProofKit
import Derived.OpenShut
import Derived.ShutString
import Derived.ChangeOld
import Derived.Below
import Derived.Lib.Hide
import Derived.Outline
import Derived.Deep.RegionHeld3
import Derived.Deep.DeepCutAuto
set_option linter.unusedSimpArgs false
set_option linter.unusedVariables false
set_option exponentiation.threshold 2000
set_option maxRecDepth 20000
set_option maxHeartbeats 4000000
namespace Go.Proofs.Ytclbliflmhjebaa.fnExactFeatherMask
open Go Go.Proofs.Ytclbliflmhjebaa Go.Proofs
open Go.ChangeShapes Go.WideShapes Go.ChangeAt Go.RowKit
open Go.ChangeMaps (open_string shut_string)
/-! ### szPicture -/
theorem c_szF (a : Option Addr) (len cap : Nat) (L : Int) (w : World) (h : (len : Int) ≤ L) (hL : L ≤ 1048576) : Calls Try.prog 60 #[.slice a len cap, .int .i64 L] w (fun e w' => e = .returned (.int .i64 (L - (len : Int))) ∧ w' = w) := by
  have h' : ¬ (L - (len : Int) < 0) := by omega
  go_enter Try.func60, Try.ntmps60
  go_wp2
  go_ret
  exact ⟨rfl, rfl⟩
theorem c_szF_no (a : Option Addr) (len cap : Nat) (L : Int) (w : World) (h : L < len) (hL : 0 ≤ L) (hm : len ≤ 9223372036854775807) : Calls Try.prog 60 #[.slice a len cap, .int .i64 L] w (fun e w' => e = .returned (.int .i64 (-1)) ∧ w' = w) := by
  have h' : L - (len : Int) < 0 := by omega
  go_enter Try.func60, Try.ntmps60
  go_wp2
  go_ret
  exact ⟨rfl, rfl⟩
theorem c_szP (W H : Int) (a : Option Addr) (len cap : Nat) (L : Int) (w : World) (h : (len : Int) ≤ L) (hL : L ≤ 1048576) : Calls Try.prog 15 #[.agg #[.int .i64 W, .int .i64 H, .slice a len cap], .int .i64 L] w (RetB (.int .i64 (L - (len : Int))) w) := by
  have h' : ¬ (L - (len : Int) < 0) := by omega
  go_enter Try.func15, Try.ntmps15
  go_wp2_with (go_at_call 60; refine (c_szF a len cap L _ h hL).mono ?_; rintro _ _ ⟨rfl, rfl⟩)
  go_ret
  exact ⟨rfl, (Below.refl _ _).alloc (Nat.le_refl _) _⟩
theorem c_szP_no (W H : Int) (a : Option Addr) (len cap : Nat) (L : Int) (w : World) (h : L < len) (hL : 0 ≤ L ∧ len ≤ 9223372036854775807) : Calls Try.prog 15 #[.agg #[.int .i64 W, .int .i64 H, .slice a len cap], .int .i64 L] w (RetB (.int .i64 (-1)) w) := by
  go_enter Try.func15, Try.ntmps15
  go_wp2_with (go_at_call 60; refine (c_szF_no a len cap L _ h hL.1 hL.2).mono ?_; rintro _ _ ⟨rfl, rfl⟩)
  go_ret
  exact ⟨rfl, (Below.refl _ _).alloc (Nat.le_refl _) _⟩
/-! ### toOwn -/
theorem infoFo : (Try.prog.info? 38).map (fun i => (i.zero, i.size, i.bytes)) = some (some (.float .f32 0), 1, 4) := by kernel_rfl
theorem c_toO (a : Option Addr) (len cap : Nat) (zs : List Nat) (w : World) (hr : IsRowF .f32 w a len cap zs) (hl : len ≤ 1048576) : Calls Try.prog 44 #[.slice a len cap] w (NewO 38 len zs w) := by
  obtain ⟨i0, hi, hz0, hz1, hz2⟩ := info_parts infoFo
  obtain ⟨h1, h2, h3, h4, h5⟩ := hr
  go_enter Try.func44, Try.ntmps44
  go_wp2_with (at_make; refine wpList_make_full _ rfl _ _ 22 rfl w.heap.size 38 i0 (.float .f32 0) 1 Try.underlying22 hi hz0 hz1 _ _ _ _ len rfl rfl rfl rfl (by rw [hz2]; omega) (by unfold maxLen; omega) (by simp) ?_; intro w1 hown hgrow)
  have hblk := block_of_owns hown
  have e0 : (madeCells (Value.float FloatKind.f32 0).cells (len * 1)).toList = List.replicate len (.float .f32 0) := by rw [Nat.mul_one]; exact made_zeros _ _
  rw [e0] at hblk
  have hbel : Below w.heap.size w w1 := (Below.refl _ _).grown hgrow (Nat.le_refl _) (by simp)
  have HB := Lib.hid hblk
  clear hown hgrow hblk e0 hz0 hz1 hz2
  go_loopw [4] (fun i wr => ∃ j : Nat, j ≤ len ∧ i = .int .i64 j ∧ Below w.heap.size w wr ∧ wr.heap[w.heap.size]? = some (.cells (fl .f32 (zs.take j) ++ List.replicate (zs.length - j) (Value.float .f32 0)).toArray 38 (0, 0))) (fun i _ => len - (intOf i).toNat)
  case atStart => exact ⟨0, Nat.zero_le _, rfl, hbel, by rw [HB.out, h1]; rfl⟩
  case round =>
    obtain ⟨j, hj, rfl, hb, hblk⟩ := hrel
    have Hblk := Lib.hid hblk
    clear hblk
    by_cases hlt : j < len
    · rcases h5 with h5 | ⟨b, off, rfl, hbl, hc⟩
      · omega
      have hcell : wr.cell? ⟨b, off + j, none⟩ = some (.float .f32 (fat zs j)) := by rw [hb.cell (p := ⟨b, off + j, none⟩) hbl]; exact hc j hlt
      have hold : wr.cell? ⟨w.heap.size, j, none⟩ = some (.float .f32 0) := by
        rw [cell_of_block Hblk.out, List.getElem?_append_right (by simp [fl]; omega)]
        have e : (fl FloatKind.f32 (List.take j zs)).length = j := by simp [fl]; omega
        rw [e, Nat.sub_self, List.getElem?_replicate, if_pos (by omega)]
      have hfz : wr.frozen? ⟨w.heap.size, j, none⟩ = false := frozen_of_block Hblk.out j
      have hset := block_set Hblk.out j (.float .f32 (fat zs j))
      rw [set_step zs _ j (by omega)] at hset
      have Hset := Lib.hid hset
      clear hset hc
      go_wp2
      go_roundw
      case rel => exact ⟨j + 1, by omega, by go_num, hb.setCell (Nat.le_refl _) _, Hset.out⟩
      case measure => simp [intOf]; omega
    · obtain rfl : j = len := by omega
      have e1 : fl .f32 (zs.take j) ++ List.replicate (zs.length - j) (Value.float .f32 0) = fl .f32 zs := by rw [h1, Nat.sub_self, List.replicate_zero, List.append_nil, List.take_of_length_le (by omega)]
      have hblk2 := Hblk.out
      rw [e1] at hblk2
      have hown : Own 38 wr w.heap.size (some ⟨w.heap.size, 0, none⟩) j j zs :=
        ⟨h1, ⟨by simp [fl, h1], .inr ⟨w.heap.size, j, _, rfl, Nat.le_refl _, hblk2, Nat.le_refl _, by unfold maxLen; omega, by simp [fl, h1], by rw [List.take_of_length_le (by simp [fl, h1])]⟩⟩, h4⟩
      have HO := Lib.hid hown
      clear hown hblk2 e1
      go_wp2
      go_ret
      exact ⟨w.heap.size, rfl, hb, HO.out⟩
/-! ### toPicture -/
theorem c_toP (W H : Int) (a : Option Addr) (len cap : Nat) (zs : List Nat) (w : World) (hr : IsRowF .f32 w a len cap zs) (hl : len ≤ 1048576) : Calls Try.prog 17 #[.agg #[.int .i64 W, .int .i64 H, .slice a len cap]] w (NewP 38 W H zs w) := by
  have HR := Lib.hid hr
  have HL := Lib.hid hr.1
  clear hr
  go_enter Try.func17, Try.ntmps17
  go_wp2_with fail
  refine (c_toO a len cap zs _ (HR.out.below ((((Below.refl _ _).alloc (Nat.le_refl _) _).alloc (by simp) _).alloc (by simp; omega) _)) hl).mono ?_
  rintro _ w1 ⟨g, rfl, hb, hown⟩
  obtain ⟨hc, hf⟩ := bcell hb
  have hz : w.heap.size + 1 + 1 < w1.heap.size := by have := hb.size; simp at this; omega
  have hg' : w.heap.size + 1 + 1 < g := by have := hown.lt.1; simp at this; omega
  have HB := Lib.hid hb
  have HO := Lib.hid hown
  clear hb hown
  go_wp2_with fail
  refine bodyPost_ret (v := .agg #[.int .i64 W, .int .i64 H, .slice (some ⟨g, 0, none⟩) len len]) (by simp [results, Try.results17, hc, hz, go_sem]) rfl ⟨g, by rw [HL.out], ?_, ?_⟩
  · exact ((((((((Below.refl _ _).alloc (Nat.le_refl _) _).alloc (by simp) _).alloc (by simp; omega) _).trans (HB.out.mono (by simp; omega))).setCell (by simp; omega) _).setCell (by simp) _).setCell (by simp) _).setCell (by simp) _
  · rw [HL.out]
    exact ((((HO.out.setCell (by simp [blk]; omega) _).setCell (by simp [blk]; omega) _).setCell (by simp [blk]; omega) _).setCell (by simp [blk]; omega) _).mono (by simp; omega)
/-! ### sameFloat -/
theorem c_sameFloat (v n m : Nat) (w : World) (j : Nat) : Calls Try.prog 28 #[.float .f64 (pick .f64 v n), .float .f64 (pick .f64 v m)] (w.drewN j) (RetV (.bool true) w) := by
  have hs := self_ne .f64 v
  have ht := self_eq .f64 v
  cases h : isN .f64 v
  · rw [h] at hs ht
    cases h2 : (FloatKind.f64.format.order v 0 == some .eq)
    · go_enter Try.func28, Try.ntmps28
      go_wp2_with (first | (refine wpList_fop rfl _ _ _ _ _ rfl _ _ _ rfl rfl (by decide) _ ?_; intro _ _) | (refine upon_fop _ _ _ _ _ (by decide) ?_; intro _ _))
      go_ret
      exact ⟨_, rfl, rfl⟩
    · go_enter Try.func28, Try.ntmps28
      go_wp2_with (first | (refine wpList_fop rfl _ _ _ _ _ rfl _ _ _ rfl rfl (by decide) _ ?_; intro _ _) | (refine upon_fop _ _ _ _ _ (by decide) ?_; intro _ _))
      go_ret
      exact ⟨_, by simp, rfl⟩
  · rw [h] at hs ht
    go_enter Try.func28, Try.ntmps28
    go_wp2_with (first | (refine wpList_fop rfl _ _ _ _ _ rfl _ _ _ rfl rfl (by decide) _ ?_; intro _ _) | (refine upon_fop _ _ _ _ _ (by decide) ?_; intro _ _))
    go_ret
    exact ⟨_, rfl, rfl⟩

/-! ### eqFloat32S -/
theorem c_eqF (a b : Option Addr) (len c d : Nat) (zs : List Nat) (w : World) (j0 : Nat) (hr : IsRowF .f32 w a len c zs) (hs : IsRowF .f32 w b len d zs) : Calls Try.prog 46 #[.slice a len c, .slice b len d] (w.drewN j0) (RetV (.bool true) w) := by
  obtain ⟨h1, h2, h3, h4, h5⟩ := hr
  obtain ⟨g1, g2, g3, g4, g5⟩ := hs
  unfold maxLen at h3
  go_enter Try.func46, Try.ntmps46
  go_wp2
  go_loopw [5] (fun i wr => ∃ k m : Nat, k ≤ len ∧ i = .int .i64 k ∧ wr = w.drewN m) (fun i _ => len - (intOf i).toNat)
  case atStart => exact ⟨0, j0, Nat.zero_le _, rfl, rfl⟩
  case round =>
    obtain ⟨k, m, hk, rfl, rfl⟩ := hrel
    by_cases hlt : k < len
    · rcases h5 with h5 | ⟨x, off, rfl, hbl, hc⟩
      · omega
      rcases g5 with g5 | ⟨y, off2, rfl, gbl, gc⟩
      · omega
      have hcell : w.cell? ⟨x, off + k, none⟩ = some (.float .f32 (fat zs k)) := hc k hlt
      have gcell : w.cell? ⟨y, off2 + k, none⟩ = some (.float .f32 (fat zs k)) := gc k hlt
      clear hc h4 gc g4
      go_wp2
      refine wp_region_N (fun _ _ u => u = .bool true) (by kernel_rfl) (by kernel_rfl) ?_; (repeat (first | ((with_reducible show wpN _ _ _ _ _ (Oper.mk _ (Op.binOp _ _ _ _ _) _ _ _ none :: _) _); refine wpN_fop rfl _ _ _ _ _ rfl _ _ _ rfl rfl (by decide) ?_; intro _) | ((with_reducible show wpN _ _ _ _ _ (Oper.mk _ (Op.convert _ _ _) _ _ _ none :: _) _); refine wpN_cvU rfl 38 42 _ rfl (Option.isSome_iff_exists.2 ⟨_, Try.underlying38⟩) Try.underlying42 _ rfl ?_; intro _) | ((with_reducible show wpN _ _ _ _ _ (Oper.mk _ _ _ _ _ (some _) :: _) _); (with_reducible refine wpN_off ?_ ?_); focus rfl; (simp only [Act.put, List.setIfInBounds_toArray, List.set_cons_zero, List.set_cons_succ])) | ((with_reducible show wpN _ _ _ _ _ (Oper.mk _ _ _ _ _ (some _) :: _) _); ((with_reducible refine wpN_on ?_ (fun K hK => ?_)); (focus rfl); intro _; go_simp; first | (refine uponN_value (hK _ ?_)) | ((refine uponN_call (callN rfl (c_sameFloat _ _ _ _ _)) ?_; intro u hu; obtain rfl : u = _ := hu); refine hK _ ?_)); clear hK K) | (((with_reducible refine wpN_plain rfl (fun K hK => ?_)); intro _; go_simp; first | (refine uponN_value (hK _ ?_)) | ((refine uponN_call (callN rfl (c_sameFloat _ _ _ _ _)) ?_; intro u hu; obtain rfl : u = _ := hu); refine hK _ ?_)); clear hK K) | ((with_reducible refine wpN_step (fun K hK => ?_)); go_simp; first | (refine hK _ ?_) | (intro _; first | (refine uponN_value (hK _ ?_)) | ((refine uponN_call (callN rfl (c_sameFloat _ _ _ _ _)) ?_; intro u hu; obtain rfl : u = _ := hu); refine hK _ ?_)); clear hK K))); refine wpN_nil ?_; intro _
      go_wp2
      go_roundw
      case rel => exact ⟨k + 1, _, by omega, by go_num, rfl⟩
      case measure => simp [intOf]; omega
    · clear h5 h4 g4 g5
      go_wp2
      go_ret
      exact ⟨_, rfl, rfl⟩
/-! ### eqPicture -/
theorem c_eqF0 (a b : Option Addr) (len c d : Nat) (zs : List Nat) (w : World) (hr : IsRowF .f32 w a len c zs) (hs : IsRowF .f32 w b len d zs) : Calls Try.prog 46 #[.slice a len c, .slice b len d] w (RetV (.bool true) w) := by
  have h := c_eqF a b len c d zs w 0 hr hs
  rwa [w.drewN_zero] at h
theorem c_eqP (W H : Int) (a b : Option Addr) (len c d : Nat) (zs : List Nat) (w : World) (hr : IsRowF .f32 w a len c zs) (hs : IsRowF .f32 w b len d zs) : Calls Try.prog 19 #[.agg #[.int .i64 W, .int .i64 H, .slice a len c], .agg #[.int .i64 W, .int .i64 H, .slice b len d]] w (RetB (.bool true) w) := by
  have HR := Lib.hid hr
  have HS := Lib.hid hs
  clear hr hs
  go_enter Try.func19, Try.ntmps19
  go_wp2_with fail
  refine (c_eqF0 a b len c d zs _ ((HR.out.alloc _).alloc _) ((HS.out.alloc _).alloc _)).mono ?_
  rintro _ _ ⟨m, rfl, rfl⟩
  go_wp2_with fail
  go_ret
  exact ⟨rfl, below_drewN (((Below.refl _ _).alloc (Nat.le_refl _) _).alloc (by simp) _) _⟩
/-! ### markFloat32S -/
theorem c_markF {T : TypeId} (B : Nat) (a : Option Addr) (len cap k : Nat) (zs : List Nat) (w : World) (hr : Own T w B a len cap zs) (hk : k + len ≤ 4611686018427387904) : Calls Try.prog 47 #[.slice a len cap, .int .i64 k] w (fun e w' => e = .returned (.int .i64 ((k + len : Nat) : Int)) ∧ w.grownBy w' (blk a) ∧ Own T w' B a len cap (marks k len)) := by
  rcases hr.parts with ⟨rfl, rfl, rfl, rfl⟩ | ⟨g, cur, rfl, hb, hg, hl, hm, hs, ht⟩
  · clear hr
    go_enter Try.func47, Try.ntmps47
    go_wp2
    refine wp_loop_rounds 1 ?_; rw [rounds_succ]
    go_wp2
    go_ret
    exact ⟨rfl, ⟨rfl, rfl, rfl, Nat.le_refl _, fun _ _ _ => rfl⟩, Own.nil _ _ _⟩
  · have h0 : Marked w g T cap k 0 := ⟨cur, hg, hs, fun i hi => by omega⟩
    have H0 := Lib.hid h0
    unfold maxLen at hm
    clear hr hg hs ht h0
    go_enter Try.func47, Try.ntmps47
    go_wp2
    go_loopw [1, 5] (fun t i wr => ∃ j : Nat, j ≤ len ∧ i = .int .i64 j ∧ t = .int .i64 ((k + j : Nat) : Int) ∧ w.grownBy wr (some g) ∧ Marked wr g T cap k j) (fun _ i _ => len - (intOf i).toNat)
    case atStart => exact ⟨0, Nat.zero_le _, rfl, rfl, ⟨rfl, rfl, rfl, Nat.le_refl _, fun _ _ _ => rfl⟩, H0.out⟩
    case round =>
      obtain ⟨j, hj, rfl, rfl, hgr, hM⟩ := hrel
      by_cases hlt : j < len
      · obtain ⟨v, hcell, hfz⟩ := hM.cell (j := j) (by omega)
        have hM2 := Lib.hid (hM.step (by omega : j < cap))
        have hG2 := Lib.hid hgr
        clear hM hgr
        go_wp2
        go_roundw
        case rel => exact ⟨j + 1, by omega, by go_num, by go_num, ⟨hG2.out.os, hG2.out.tape, hG2.out.output, by have := hG2.out.size; simpa using this, fun k' h1 h2 => by rw [Below.heap_setCell _ _ _ _ (fun e => h2 (by rw [e]))]; exact hG2.out.block k' h1 h2⟩, hM2.out⟩
        case measure => simp [intOf]; omega
      · obtain rfl : j = len := by omega
        have hO := Lib.hid (hM.own (B := B) hb hl (by unfold maxLen; omega))
        have hG2 := Lib.hid hgr
        clear hM hgr
        go_wp2
        go_ret
        exact ⟨rfl, hG2.out, hO.out⟩
/-! ### heldFloat32S -/
theorem c_heldF (a : Option Addr) (len cap k : Nat) (w : World) (hr : IsRowF .f32 w a len cap (marks k len)) (hk : k + len ≤ 4611686018427387904) : Calls Try.prog 48 #[.slice a len cap, .int .i64 k] w (fun e w' => e = .returned (.int .i64 ((k + len : Nat) : Int)) ∧ w' = w) := by
  obtain ⟨h1, h2, h3, h4, h5⟩ := hr
  unfold maxLen at h3
  clear h1 h4
  go_enter Try.func48, Try.ntmps48
  go_wp2
  go_loop [1, 5] (fun t i => ∃ j : Nat, j ≤ len ∧ i = .int .i64 j ∧ t = .int .i64 ((k + j : Nat) : Int)) (fun _ i => len - (intOf i).toNat)
  case atStart => exact ⟨0, Nat.zero_le _, rfl, rfl⟩
  case round =>
    obtain ⟨j, hj, rfl, rfl⟩ := hrel
    by_cases hlt : j < len
    · rcases h5 with h5 | ⟨b, off, rfl, hbl, hc⟩
      · omega
      have hcell : w.cell? ⟨b, off + j, none⟩ = some (.float .f32 (markN k j)) := by rw [← marks_at k len j hlt]; exact hc j hlt
      have hne : (FloatKind.f32.format.order (markN k j) (markN k j) != some .eq) = false := by rw [self_ne]; exact markN_notN k j
      have hE : floatOfInt .f32 ((k : Int) + (j : Int)) = markN k j := by unfold markN; rw [Int.natCast_add]
      have hne2 : (FloatKind.f32.format.order (markN k j) (floatOfInt .f32 ((k : Int) + (j : Int))) != some .eq) = false := (congrArg (fun x => FloatKind.f32.format.order (markN k j) x != some .eq) hE).trans hne
      clear hE
      clear hc
      go_wp2
      go_round
      case rel => exact ⟨j + 1, by omega, by go_num, by go_num⟩
      case measure => simp [intOf]; omega
    · obtain rfl : j = len := by omega
      clear h5
      go_wp2
      go_ret
      exact ⟨rfl, rfl⟩
/-! ### markPicture -/
theorem c_markP (W H : Int) (B : Nat) (a : Option Addr) (len cap k : Nat) (zs : List Nat) (w : World) (hr : Own 38 w B a len cap zs) (hk : k + len ≤ 4611686018427387904) : Calls Try.prog 20 #[.agg #[.int .i64 W, .int .i64 H, .slice a len cap], .int .i64 k] w (fun e w' => e = .returned (.int .i64 ((k + len : Nat) : Int)) ∧ w.grownBy w' (blk a) ∧ Own 38 w' B a len cap (marks k len)) := by
  have HR := Lib.hid hr
  clear hr
  go_enter Try.func20, Try.ntmps20
  go_wp2_with fail
  refine (c_markF B a len cap k zs _ (HR.out.alloc _) hk).mono ?_
  rintro _ w1 ⟨rfl, hg, hO⟩
  have HG := Lib.hid hg
  have HO := Lib.hid hO
  clear hg hO
  go_wp2_with fail
  go_ret
  exact ⟨rfl, ⟨HG.out.os, HG.out.tape, HG.out.output, by have := HG.out.size; simp at this; omega, fun k' h1 h2 => by rw [HG.out.block k' (by simp; omega) h2]; exact Below.heap_alloc _ _ _ h1⟩, HO.out⟩
theorem c_heldP (W H : Int) (a : Option Addr) (len cap k : Nat) (w : World) (hr : IsRowF .f32 w a len cap (marks k len)) (hk : k + len ≤ 4611686018427387904) : Calls Try.prog 21 #[.agg #[.int .i64 W, .int .i64 H, .slice a len cap], .int .i64 k] w (RetB (.int .i64 ((k + len : Nat) : Int)) w) := by
  have HR := Lib.hid hr
  clear hr
  have h0 : 0 ≤ ((k + len : Nat) : Int) := by omega
  go_enter Try.func21, Try.ntmps21
  go_wp2_with fail
  refine (c_heldF a len cap k _ (HR.out.alloc _) hk).mono ?_
  rintro _ w1 ⟨rfl, rfl⟩
  go_wp2_with fail
  go_ret
  exact ⟨rfl, (Below.refl _ _).alloc (Nat.le_refl _) _⟩

/-! ### picDefs -/
def sideB (W H : Int) : Bool := decide (1 ≤ W) && decide (W ≤ 16) && (decide (1 ≤ H) && decide (H ≤ 16))
def finL (zs : List Nat) : Bool := zs.all (finB .f32)
def validB (W H : Int) (zs : List Nat) : Bool := sideB W H && decide ((zs.length : Int) = W * H) && finL zs
theorem sideB_true {W H : Int} (h : sideB W H = true) : (1 ≤ W ∧ W ≤ 16) ∧ 1 ≤ H ∧ H ≤ 16 := by simpa [sideB, and_assoc] using h
theorem side_mul {W H : Int} (h : sideB W H = true) : 1 ≤ W * H ∧ W * H ≤ 256 := by
  obtain ⟨⟨h1, h2⟩, h3, h4⟩ := sideB_true h
  have : W * H ≤ 16 * 16 := Int.mul_le_mul h2 h4 (by omega) (by omega)
  have h5 : 1 * 1 ≤ W * H := Int.mul_le_mul h1 h3 (by omega) (by omega)
  omega
theorem sideB_false {W H : Int} (h : sideB W H = false) : W < 1 ∨ 16 < W ∨ H < 1 ∨ 16 < H := by
  simp [sideB] at h; omega
theorem finL_snoc (zs : List Nat) (k : Nat) (hk : k < zs.length) : finL (zs.take (k + 1)) = (finL (zs.take k) && finB .f32 (fat zs k)) := by
  unfold finL fat
  rw [List.take_succ_eq_append_getElem hk, List.all_append, List.getD, List.getElem?_eq_getElem hk]; simp
theorem finL_of (zs : List Nat) (k : Nat) (hk : k < zs.length) (h : finB .f32 (fat zs k) = false) : finL zs = false := by
  unfold finL
  rw [List.all_eq_false]
  refine ⟨zs[k], List.getElem_mem hk, ?_⟩
  unfold fat at h
  rw [List.getD, List.getElem?_eq_getElem hk] at h
  simpa using h
theorem pick0 (k : FloatKind) (v : Nat) (hv : v < 2 ^ k.format.width) : ∃ n, v = pick k v n := pick_onto k v hv
/-! ### give -/
def giveP (W H : Int) (zs : List Nat) : PRes := if validB W H zs = true then ⟨W, H, zs, true⟩ else PRes.no
theorem near_valid {W H : Int} {zs' zs : List Nat} (h : near zs' zs) : validB W H zs' = validB W H zs := by
  unfold validB finL; rw [near_fin h, h.1]
theorem valid_fin {W H : Int} {zs : List Nat} (h : validB W H zs = true) : zs.all (finB .f32) = true := by
  simp [validB, finL] at h ⊢; exact h.2
theorem valid_len {W H : Int} {zs : List Nat} (h : validB W H zs = true) : (zs.length : Int) = W * H ∧ zs.length ≤ 256 ∧ 1 ≤ zs.length := by
  simp only [validB, Bool.and_eq_true, decide_eq_true_eq] at h
  obtain ⟨⟨h1, h2⟩, h3⟩ := h
  have := side_mul h1
  exact ⟨h2, by omega, by omega⟩
/-! ### makeDefs -/
def makeL (F : Nat → Nat → Nat) (Wn Hn : Nat) : List Nat := (List.range (Wn * Hn)).map fun i => F (i % Wn) (i / Wn)
theorem makeL_len {F : Nat → Nat → Nat} {Wn Hn : Nat} : (makeL F Wn Hn).length = Wn * Hn := by simp [makeL]
theorem makeL_at {F : Nat → Nat → Nat} {Wn Hn x y k : Nat} (hk : k = y * Wn + x) (hx : x < Wn) (hy : y < Hn) : fat (makeL F Wn Hn) k = F x y := by
  have h1 : k < Wn * Hn := by
    have : (y + 1) * Wn ≤ Hn * Wn := Nat.mul_le_mul_right _ (by omega)
    rw [Nat.succ_mul] at this
    rw [Nat.mul_comm Wn Hn]; omega
  have h2 : k % Wn = x := by rw [hk, Nat.mul_comm y Wn, Nat.mul_add_mod, Nat.mod_eq_of_lt hx]
  have h3 : k / Wn = y := by rw [hk, Nat.mul_comm y Wn, Nat.mul_add_div (by omega), Nat.div_eq_of_lt hx, Nat.add_zero]
  simp [fat, makeL, h1, h2, h3]
theorem make_lt {Wn Hn x y k : Nat} (hk : k = y * Wn + x) (hx : x < Wn) (hy : y < Hn) : k + 1 ≤ Wn * Hn := by
  have : (y + 1) * Wn ≤ Hn * Wn := Nat.mul_le_mul_right _ (by omega)
  rw [Nat.succ_mul] at this
  rw [Nat.mul_comm Wn Hn]; omega
def resMake (F : Nat → Nat → Nat) (W H : Int) : PRes := if sideB W H = true then giveP W H (makeL F W.toNat H.toNat) else PRes.no
/-! ### featherDefs -/
theorem ft_zl : 0 < 2 ^ FloatKind.f32.format.width := by decide +kernel
theorem ft_ol : 1065353216 < 2 ^ FloatKind.f32.format.width := by decide +kernel
theorem ft_f1 : finB .f32 1065353216 = true := by decide +kernel
theorem ft_f0 : finB .f32 0 = true := by decide +kernel
theorem ft_n1 : isN .f32 1065353216 = false := by decide +kernel
theorem ft_p0 : pick .f32 0 0 = 0 := pick_not (show isN .f32 0 = false from by decide +kernel) 0
def colB (x : Int) : Bool := decide (0 ≤ x) && decide (x ≤ 16)
theorem colB_true {x : Int} (h : colB x = true) : 0 ≤ x ∧ x ≤ 16 := by unfold colB at h; simpa using h
def featherF (A O : Int) (x _y : Nat) : Nat := if (x : Int) < A then 0 else if (x : Int) < A + O then fop .quo .f32 (floatOfInt .f32 ((x : Int) - A + 1)) (floatOfInt .f32 (O + 1)) else 1065353216
theorem featherF_lt (A O : Int) (x y : Nat) : featherF A O x y < 2 ^ FloatKind.f32.format.width := by
  unfold featherF; split
  · exact ft_zl
  · split
    · exact fop_lt _ _ _ _
    · exact ft_ol
theorem feather_quo : ∀ p : Nat, p < 16 → ∀ q : Nat, q < 17 → finB .f32 (fop .quo .f32 (floatOfInt .f32 ((p : Int) + 1)) (floatOfInt .f32 ((q : Int) + 1))) = true := by decide +kernel
theorem feather_fin {A O : Int} (hA : colB A = true) (hO : colB O = true) (x y : Nat) : finB .f32 (featherF A O x y) = true := by
  obtain ⟨a1, a2⟩ := colB_true hA
  obtain ⟨o1, o2⟩ := colB_true hO
  unfold featherF; split
  · exact ft_f0
  · split
    · have h := feather_quo ((x : Int) - A).toNat (by omega) O.toNat (by omega)
      rwa [show (((x : Int) - A).toNat : Int) = (x : Int) - A by omega, show (O.toNat : Int) = O by omega] at h
    · exact ft_f1
theorem feather_all {A O : Int} (hA : colB A = true) (hO : colB O = true) (Wn Hn : Nat) : (makeL (featherF A O) Wn Hn).all (finB .f32) = true := by
  rw [List.all_eq_true]
  intro y hy
  obtain ⟨k, _, rfl⟩ := List.mem_map.1 hy
  exact feather_fin hA hO _ _
def resFeather (W H A O : Int) : PRes := if (colB A && colB O) = true then resMake (featherF A O) W H else PRes.no
theorem feather_no {W H A O : Int} (h : sideB W H = false ∨ colB A = false ∨ colB O = false) : resFeather W H A O = PRes.no := by
  unfold resFeather resMake
  rcases h with h | h | h <;> simp [h]
theorem feather_yes {Wn Hn : Nat} {A O : Int} (hA : colB A = true) (hO : colB O = true) (hs : sideB (Wn : Int) (Hn : Int) = true) : resFeather (Wn : Int) (Hn : Int) A O = ⟨Wn, Hn, makeL (featherF A O) Wn Hn, true⟩ := by
  unfold resFeather resMake
  rw [hA, hO, hs, Int.toNat_natCast, Int.toNat_natCast]
  have hv : validB (Wn : Int) (Hn : Int) (makeL (featherF A O) Wn Hn) = true := by
    unfold validB
    rw [hs, makeL_len]
    simp only [Bool.true_and, Bool.and_eq_true]
    exact ⟨by simp [Int.natCast_mul], feather_all hA hO Wn Hn⟩
  simp [giveP, hv]
/-! ### l00In -/
theorem c_l00In (x lo hi : Int) (w : World) (j : Nat) : Calls Try.prog 84 #[.int .i64 x, .int .i64 lo, .int .i64 hi] (w.drewN j) (RetV (.bool (decide (lo ≤ x) && decide (x ≤ hi))) w) := by
  by_cases h1 : lo ≤ x
  · by_cases h2 : x ≤ hi
    · have d1 : decide (lo ≤ x) = true := decide_eq_true h1
      have d2 : decide (x ≤ hi) = true := decide_eq_true h2
      go_enter Try.func84, Try.ntmps84
      go_wp2
      go_ret
      exact ⟨_, by simp [*], rfl⟩
    · have d1 : decide (lo ≤ x) = true := decide_eq_true h1
      have d2 : decide (x ≤ hi) = false := decide_eq_false h2
      go_enter Try.func84, Try.ntmps84
      go_wp2
      go_ret
      exact ⟨_, by simp [*], rfl⟩
  · have d1 : decide (lo ≤ x) = false := decide_eq_false h1
    go_enter Try.func84, Try.ntmps84
    go_wp2
    go_ret
    exact ⟨_, by simp [*], rfl⟩
/-! ### sFeather -/
theorem c_sFeatherMask (W H A O : Int) (w : World) (hW : (Lit.int .i64 W).wf = true) (hH : (Lit.int .i64 H).wf = true) (hA : (Lit.int .i64 A).wf = true) (hO : (Lit.int .i64 O).wf = true) : Calls Try.prog 34 #[.int .i64 W, .int .i64 H, .int .i64 A, .int .i64 O] w (RetP 38 (resFeather W H A O) w) := by
  clear hW hH hA hO
  generalize hw0 : w.alloc (Obj.cells #[.int .i64 0, .int .i64 0, .slice none 0 0] 26) = w0
  have X0 : Var w0 w.heap.size #[.int .i64 0, .int .i64 0, .slice none 0 0] := by subst hw0; exact Var.new _ _ _
  have X1 : Free w0 w.heap.size := by subst hw0; exact Free.new _ _ _
  have X2 : Below w.heap.size w w0 := by subst hw0; exact (Below.refl _ _).alloc (Nat.le_refl _) _
  have HW := Lib.hid hw0
  have V0 := Lib.hid X0
  have F0 := Lib.hid X1
  have B0 := Lib.hid X2
  have z0 : w.heap.size < w0.heap.size := X0.lt
  clear hw0 X0 X1 X2
  cases h1 : (decide (1 ≤ W) && decide (W ≤ 16))
  · rw [feather_no (.inl (by unfold sideB; rw [h1]; rfl))]
    obtain ⟨q0, q1, q2⟩ := V0.out.three
    have f0 := F0.out 0
    have f1 := F0.out 1
    have f2 := F0.out 2
    go_enter Try.func34, Try.ntmps34
    go_upto_region 1 with fail
    rw [HW.out, ← w0.drewN_zero]
    go_wp2_with (first | (go_at_call 84; refine (c_l00In _ _ _ _ _).mono ?_; rintro _ _ ⟨_, rfl, rfl⟩))
    refine bodyPost_ret (v := .tuple #[.agg #[.int .i64 0, .int .i64 0, .slice none 0 0], .bool false]) (by simp [results, Try.results34, q0, q1, q2, go_sem]) rfl (show RetP _ PRes.no _ _ _ from ⟨none, 0, rfl, Nat.zero_le _, ?_, Own.nil _ _ _⟩)
    repeat (first | exact B0.out | exact Nat.le_refl _ | (refine Below.setCell ?_ ?_ _) | (refine below_drewN ?_ _) | (refine Below.alloc ?_ ?_ _) | (simp <;> omega))
  cases h2 : (decide (1 ≤ H) && decide (H ≤ 16))
  · rw [feather_no (.inl (by unfold sideB; rw [h1, h2]; rfl))]
    obtain ⟨q0, q1, q2⟩ := V0.out.three
    have f0 := F0.out 0
    have f1 := F0.out 1
    have f2 := F0.out 2
    go_enter Try.func34, Try.ntmps34
    go_upto_region 1 with fail
    rw [HW.out, ← w0.drewN_zero]
    go_wp2_with (first | (go_at_call 84; refine (c_l00In _ _ _ _ _).mono ?_; rintro _ _ ⟨_, rfl, rfl⟩))
    refine bodyPost_ret (v := .tuple #[.agg #[.int .i64 0, .int .i64 0, .slice none 0 0], .bool false]) (by simp [results, Try.results34, q0, q1, q2, go_sem]) rfl (show RetP _ PRes.no _ _ _ from ⟨none, 0, rfl, Nat.zero_le _, ?_, Own.nil _ _ _⟩)
    repeat (first | exact B0.out | exact Nat.le_refl _ | (refine Below.setCell ?_ ?_ _) | (refine below_drewN ?_ _) | (refine Below.alloc ?_ ?_ _) | (simp <;> omega))
  cases h3 : (decide (0 ≤ A) && decide (A ≤ 16))
  · rw [feather_no (.inr (.inl h3))]
    obtain ⟨q0, q1, q2⟩ := V0.out.three
    have f0 := F0.out 0
    have f1 := F0.out 1
    have f2 := F0.out 2
    go_enter Try.func34, Try.ntmps34
    go_upto_region 1 with fail
    rw [HW.out, ← w0.drewN_zero]
    go_wp2_with (first | (go_at_call 84; refine (c_l00In _ _ _ _ _).mono ?_; rintro _ _ ⟨_, rfl, rfl⟩))
    refine bodyPost_ret (v := .tuple #[.agg #[.int .i64 0, .int .i64 0, .slice none 0 0], .bool false]) (by simp [results, Try.results34, q0, q1, q2, go_sem]) rfl (show RetP _ PRes.no _ _ _ from ⟨none, 0, rfl, Nat.zero_le _, ?_, Own.nil _ _ _⟩)
    repeat (first | exact B0.out | exact Nat.le_refl _ | (refine Below.setCell ?_ ?_ _) | (refine below_drewN ?_ _) | (refine Below.alloc ?_ ?_ _) | (simp <;> omega))
  cases h4 : (decide (0 ≤ O) && decide (O ≤ 16))
  · rw [feather_no (.inr (.inr h4))]
    obtain ⟨q0, q1, q2⟩ := V0.out.three
    have f0 := F0.out 0
    have f1 := F0.out 1
    have f2 := F0.out 2
    go_enter Try.func34, Try.ntmps34
    go_upto_region 1 with fail
    rw [HW.out, ← w0.drewN_zero]
    go_wp2_with (first | (go_at_call 84; refine (c_l00In _ _ _ _ _).mono ?_; rintro _ _ ⟨_, rfl, rfl⟩))
    refine bodyPost_ret (v := .tuple #[.agg #[.int .i64 0, .int .i64 0, .slice none 0 0], .bool false]) (by simp [results, Try.results34, q0, q1, q2, go_sem]) rfl (show RetP _ PRes.no _ _ _ from ⟨none, 0, rfl, Nat.zero_le _, ?_, Own.nil _ _ _⟩)
    repeat (first | exact B0.out | exact Nat.le_refl _ | (refine Below.setCell ?_ ?_ _) | (refine below_drewN ?_ _) | (refine Below.alloc ?_ ?_ _) | (simp <;> omega))
  have hs : sideB W H = true := by unfold sideB; rw [h1, h2]; rfl
  have hA : colB A = true := h3
  have hO : colB O = true := h4
  obtain ⟨⟨s1, s2⟩, s3, s4⟩ := sideB_true hs
  obtain ⟨a1, a2⟩ := colB_true hA
  obtain ⟨o1, o2⟩ := colB_true hO
  obtain ⟨Wn, rfl⟩ : ∃ n : Nat, W = n := ⟨W.toNat, by omega⟩
  obtain ⟨Hn, rfl⟩ : ∃ n : Nat, H = n := ⟨H.toNat, by omega⟩
  rw [feather_yes hA hO hs]
  have HFin := Lib.hid (feather_all hA hO Wn Hn)
  have Q1 := Lib.hid h1
  have Q2 := Lib.hid h2
  have Q3 := Lib.hid h3
  have Q4 := Lib.hid h4
  clear hs hA hO h1 h2 h3 h4
  obtain ⟨N, hNN⟩ : ∃ N, N = Wn * Hn := ⟨_, rfl⟩
  have hN2 : N ≤ 256 := by rw [hNN]; exact Nat.le_trans (Nat.mul_le_mul (show Wn ≤ 16 by omega) (show Hn ≤ 16 by omega)) (by decide)
  have mw : IntKind.i64.wrap ((Wn : Int) * (Hn : Int)) = (N : Int) := by rw [hNN]; rw [show ((Wn : Int) * (Hn : Int)) = ((Wn * Hn : Nat) : Int) by rw [Int.natCast_mul]]; exact IntWalk.i64_in _ (by omega)
  obtain ⟨L, hL⟩ : ∃ L, L = makeL (featherF A O) Wn Hn := ⟨_, rfl⟩
  have HAt := Lib.hid (fun (k : Nat) (hk : k < N) => (by rw [hL]; rw [hNN] at hk; simp [fat, makeL, hk] : fat L k = featherF A O (k % Wn) (k / Wn)))
  have HLen := Lib.hid (show L.length = N by rw [hL, makeL_len, hNN])
  rw [← hL] at HFin ⊢
  clear hNN hL
  obtain ⟨i0, hinf, hz0, hz1, hz2⟩ := info_parts infoFo
  go_enter Try.func34, Try.ntmps34
  go_upto_region 1 with fail
  rw [HW.out, ← w0.drewN_zero]
  have q1 := Q1.out
  have q2 := Q2.out
  have q3 := Q3.out
  have q4 := Q4.out
  go_upto_region 3 with (go_at_call 84; refine (c_l00In _ _ _ _ _).mono ?_; rintro _ _ ⟨_, rfl, rfl⟩)
  clear q1 q2 q3 q4
  generalize hw1 : World.drewN w0 _ = w1
  have D : Below w0.heap.size w0 w1 := by subst hw1; exact below_drewN (Below.refl _ _) _
  have V1 := Lib.hid (V0.out.keep D)
  have F1 := Lib.hid (F0.out.below z0 D)
  have B1 := Lib.hid (B0.out.trans (D.mono (by omega)))
  have S1 : w.heap.size + 1 ≤ w1.heap.size := by have := D.size; omega
  clear D hw1
  go_wp2_with fail
  go_loopw [11, 12, 13] (fun i _ _ wr => ∃ (k : Nat) (a : Option Addr) (c : Nat) (zs : List Nat), k ≤ N ∧ i = .int .i64 k ∧ Var wr w1.heap.size #[.int .i64 (Wn : Int), .int .i64 (Hn : Int), .slice a k c] ∧ Own 38 wr (w.heap.size + 1) a k c zs ∧ near zs (L.take k) ∧ Below (w.heap.size + 1) w1 wr ∧ Free wr w1.heap.size ∧ blk a ≠ some w1.heap.size) (fun i _ _ _ => N - (intOf i).toNat)
  case atStart => exact ⟨0, _, 0, [], Nat.zero_le _, rfl, Var.new _ _ _, Own.nil _ _ _, by simpa using near_nil, (Below.refl _ _).alloc (by omega) _, Free.new _ _ _, by simp [blk]⟩
  case round =>
    obtain ⟨k, a, c, zs, hk, rfl, hV, hO, hnear, hBl, hfree, hne⟩ := hrel
    have HV := Lib.hid hV
    have HO := Lib.hid hO
    have HNr := Lib.hid hnear
    have HB := Lib.hid hBl
    have HF := Lib.hid hfree
    have HNe := Lib.hid hne
    clear hV hO hnear hBl hfree hne
    have zr : w1.heap.size < wr.heap.size := HV.out.lt
    by_cases hlt : k < N
    · obtain ⟨co0, co1, co2⟩ := HV.out.three
      have hW0 : ¬ ((Wn : Int) = 0) := by omega
      have mt : (k : Int).tmod (Wn : Int) = (k : Int) % (Wn : Int) := Int.tmod_eq_emod_of_nonneg (by omega)
      obtain ⟨x, hx⟩ : ∃ x : Nat, (k : Int) % (Wn : Int) = (x : Int) := ⟨k % Wn, by rw [Int.natCast_emod]⟩
      have hxl : x < Wn := by have := Int.emod_lt_of_pos (k : Int) (show (0 : Int) < (Wn : Int) by omega); omega
      have hxk : k % Wn = x := by rw [← Int.natCast_emod] at hx; omega
      have HR := Lib.hid (by have h := HAt.out k hlt; rwa [hxk] at h : fat L k = featherF A O x (k / Wn))
      have m1 : IntKind.i64.wrap (A + O) = A + O := IntWalk.i64_in _ (by omega)
      have m2 : IntKind.i64.wrap ((x : Int) - A) = (x : Int) - A := IntWalk.i64_in _ (by omega)
      have m3 : IntKind.i64.wrap ((x : Int) - A + 1) = (x : Int) - A + 1 := IntWalk.i64_in _ (by omega)
      have m4 : IntKind.i64.wrap (O + 1) = O + 1 := IntWalk.i64_in _ (by omega)
      have HX := Lib.hid hx
      clear hxk hx
      have mt2 : (k : Int).tmod (Wn : Int) = (x : Int) := by rw [mt, HX.out]
      clear mt
      by_cases h1 : (x : Int) < A
      · have HR1 := Lib.hid (show featherF A O x (k / Wn) = 0 by unfold featherF; rw [if_pos h1])
        go_wp2_with (first | (at_builtin; go_loud (refine wpList_append_own _ rfl _ _ 22 rfl (w.heap.size + 1) 38 i0 (.float .f32 0) 1 4 Try.underlying22 hinf hz0 hz1 hz2 rfl (by decide) _ _ _ rfl ((HO.out.alloc _).2.1) ⟨wr.heap.size, 0, none⟩ 1 1 [.float .f32 (0)] rfl rfl ?_ ?_ ?_ ?_ ?_ ?_)))
        any_goals first
          | (intro j u hj; match j, hj with | 0, hj => (simp at hj; subst hj; first | (simp [Addr.add]; done) | (simp [Addr.add]; done)))
          | (intro u hu; simp at hu; subst hu; rfl)
          | rfl
          | (unfold maxLen; omega)
          | omega
          | (simp; omega)
        intro v' w6 hown' hgrow _
        obtain ⟨a', c', rfl, hV2, hO2, hne2, hB2, hF2, hs2, hc2, hf2⟩ := own_round HV.out HO.out HB.out (by omega) HF.out HNe.out hown' hgrow (by have h := pick_wf ft_zl 0; rwa [ft_p0] at h)
        have GV := Lib.hid hV2
        have GO := Lib.hid hO2
        have GN := Lib.hid hne2
        have GB := Lib.hid hB2
        have GF := Lib.hid hF2
        clear hV2 hO2 hne2 hB2 hF2 hs2 hown' hgrow co0 co1 co2
        go_wp2_with fail
        go_roundw
        case rel => exact ⟨k + 1, a', c', _, by omega, by go_num, GV.out, GO.out, by have h3 := near_snoc HNr.out (show k < L.length by rw [HLen.out]; exact hlt) 0; rw [HR.out, HR1.out] at h3; rw [ft_p0] at h3; exact h3, GB.out, GF.out, GN.out⟩
        case measure => simp [intOf]; omega
      · by_cases h2 : (x : Int) < A + O
        · have HR1 := Lib.hid (show featherF A O x (k / Wn) = fop .quo .f32 (floatOfInt .f32 ((x : Int) - A + 1)) (floatOfInt .f32 (O + 1)) by unfold featherF; rw [if_neg h1, if_pos h2])
          rw [← wr.drewN_zero]
          go_wp2_with (first | (refine wpList_fop rfl _ _ _ _ _ rfl _ _ _ rfl rfl (by decide) _ ?_; intro n9 m9) | (refine upon_fop _ _ _ _ _ (by decide) ?_; intro n9 m9) | (at_builtin; go_loud (refine wpList_append_own _ rfl _ _ 22 rfl (w.heap.size + 1) 38 i0 (.float .f32 0) 1 4 Try.underlying22 hinf hz0 hz1 hz2 rfl (by decide) _ _ _ rfl (((HO.out.drewN m9).alloc _).2.1) ⟨wr.heap.size, 0, none⟩ 1 1 [.float .f32 (pick .f32 (fop .quo .f32 (floatOfInt .f32 ((x : Int) - A + 1)) (floatOfInt .f32 (O + 1))) n9)] rfl rfl ?_ ?_ ?_ ?_ ?_ ?_)))
          any_goals first
            | (intro j u hj; match j, hj with | 0, hj => (simp at hj; subst hj; first | (simp [Addr.add]; done) | (have hq := (Var.new' (wr.drewN m9) #[Value.float .f32 (pick .f32 (fop .quo .f32 (floatOfInt .f32 ((x : Int) - A + 1)) (floatOfInt .f32 (O + 1))) n9)] 38 wr.heap.size rfl).2 0 (by simp); simpa [Addr.add] using hq)))
            | (intro u hu; simp at hu; subst hu; rfl)
            | rfl
            | (unfold maxLen; omega)
            | omega
            | (simp; omega)
          intro v' w6 hown' hgrow _
          obtain ⟨a', c', rfl, hV2, hO2, hne2, hB2, hF2, hs2, hc2, hf2⟩ := own_round (HV.out.keep (below_drewN (Below.refl _ _) m9)) (HO.out.drewN m9) (below_drewN HB.out m9) (by omega) (HF.out.below HV.out.lt (below_drewN (Below.refl _ _) m9)) HNe.out hown' hgrow (pick_wf (fop_lt _ _ _ _) n9)
          have GV := Lib.hid hV2
          have GO := Lib.hid hO2
          have GN := Lib.hid hne2
          have GB := Lib.hid hB2
          have GF := Lib.hid hF2
          clear hV2 hO2 hne2 hB2 hF2 hs2 hown' hgrow co0 co1 co2
          go_wp2_with fail
          go_roundw
          case rel => exact ⟨k + 1, a', c', _, by omega, by go_num, GV.out, GO.out, by have h3 := near_snoc HNr.out (show k < L.length by rw [HLen.out]; exact hlt) n9; rw [HR.out, HR1.out] at h3; exact h3, GB.out, GF.out, GN.out⟩
          case measure => simp [intOf]; omega
        · have HR1 := Lib.hid (show featherF A O x (k / Wn) = 1065353216 by unfold featherF; rw [if_neg h1, if_neg h2])
          go_wp2_with (first | (at_builtin; go_loud (refine wpList_append_own _ rfl _ _ 22 rfl (w.heap.size + 1) 38 i0 (.float .f32 0) 1 4 Try.underlying22 hinf hz0 hz1 hz2 rfl (by decide) _ _ _ rfl ((HO.out.alloc _).2.1) ⟨wr.heap.size, 0, none⟩ 1 1 [.float .f32 (1065353216)] rfl rfl ?_ ?_ ?_ ?_ ?_ ?_)))
          any_goals first
            | (intro j u hj; match j, hj with | 0, hj => (simp at hj; subst hj; first | (simp [Addr.add]; done) | (simp [Addr.add]; done)))
            | (intro u hu; simp at hu; subst hu; rfl)
            | rfl
            | (unfold maxLen; omega)
            | omega
            | (simp; omega)
          intro v' w6 hown' hgrow _
          obtain ⟨a', c', rfl, hV2, hO2, hne2, hB2, hF2, hs2, hc2, hf2⟩ := own_round HV.out HO.out HB.out (by omega) HF.out HNe.out hown' hgrow (by have h := pick_wf ft_ol 0; rwa [pick_not ft_n1] at h)
          have GV := Lib.hid hV2
          have GO := Lib.hid hO2
          have GN := Lib.hid hne2
          have GB := Lib.hid hB2
          have GF := Lib.hid hF2
          clear hV2 hO2 hne2 hB2 hF2 hs2 hown' hgrow co0 co1 co2
          go_wp2_with fail
          go_roundw
          case rel => exact ⟨k + 1, a', c', _, by omega, by go_num, GV.out, GO.out, by have h3 := near_snoc HNr.out (show k < L.length by rw [HLen.out]; exact hlt) 0; rw [HR.out, HR1.out] at h3; rw [pick_not ft_n1] at h3; exact h3, GB.out, GF.out, GN.out⟩
          case measure => simp [intOf]; omega
    · obtain rfl : k = N := by omega
      have hz : near zs L := by have h := HNr.out; rwa [List.take_of_length_le (by rw [HLen.out]; exact Nat.le_refl _)] at h
      obtain rfl := near_eq hz HFin.out
      clear hz
      obtain ⟨co0, co1, co2⟩ := HV.out.three
      obtain ⟨cr0, cr1, cr2⟩ := (V1.out.below HB.out (by omega)).three
      have fr := F1.out.keep HB.out (by omega)
      have f0 := fr 0
      have f1 := fr 1
      have f2 := fr 2
      clear fr
      go_wp2_with fail
      have hrow : blk a ≠ some w.heap.size := fun e => by have := HO.out.in _ e; omega
      have BW := B1.out.trans (HB.out.mono (by omega))
      refine bodyPost_ret (v := .tuple #[.agg #[.int .i64 (Wn : Int), .int .i64 (Hn : Int), .slice a k c], .bool true]) (by simp [results, Try.results34, cr0, cr1, cr2, co0, co1, co2, go_sem]) rfl ⟨_, _, by rw [HLen.out], by (show zs.length ≤ 1048576); rw [HLen.out]; omega, ((BW.setCell (by simp <;> omega) _).setCell (by simp <;> omega) _).setCell (by simp <;> omega) _, (((Own.re HLen.out.symm HO.out).setCell hrow _).setCell hrow _).setCell hrow _ |>.mono (by omega)⟩
/-! ### feather1 -/
theorem c_feather1 (x y : Nat) (A O : Int) (ba bo : Nat) (w : World) (hx : (x : Int) < 16) (hA : 0 ≤ A ∧ A ≤ 16) (hO : 0 ≤ O ∧ O ≤ 16) (c0 : w.cell? ⟨ba, 0, none⟩ = some (.int .i64 A)) (c1 : w.cell? ⟨bo, 0, none⟩ = some (.int .i64 O)) : Calls Try.prog 86 #[.int .i64 x, .int .i64 y, .pointer (some ⟨ba, 0, none⟩), .pointer (some ⟨bo, 0, none⟩)] w (fun e w' => ∃ n, e = .returned (.float .f32 (pick .f32 (featherF A O x y) n)) ∧ Below w.heap.size w w') := by
  obtain ⟨a1, a2⟩ := hA
  obtain ⟨o1, o2⟩ := hO
  have m1 : IntKind.i64.wrap (A + O) = A + O := IntWalk.i64_in _ (by omega)
  have m2 : IntKind.i64.wrap ((x : Int) - A) = (x : Int) - A := IntWalk.i64_in _ (by omega)
  have m3 : IntKind.i64.wrap ((x : Int) - A + 1) = (x : Int) - A + 1 := IntWalk.i64_in _ (by omega)
  have m4 : IntKind.i64.wrap (O + 1) = O + 1 := IntWalk.i64_in _ (by omega)
  by_cases h1 : (x : Int) < A
  · have e : featherF A O x y = 0 := by unfold featherF; rw [if_pos h1]
    rw [e]
    clear e
    go_enter Try.func86, Try.ntmps86
    go_wp2_with fail
    refine bodyPost_ret (v := .float .f32 0) (by simp [results, Try.results86, go_sem]) rfl ⟨0, by simp only [ft_p0], Below.refl _ _⟩
  · by_cases h2 : (x : Int) < A + O
    · have e : featherF A O x y = fop .quo .f32 (floatOfInt .f32 ((x : Int) - A + 1)) (floatOfInt .f32 (O + 1)) := by unfold featherF; rw [if_neg h1, if_pos h2]
      rw [e]
      clear e
      rw [← w.drewN_zero]
      have h3 : ¬ (A + O ≤ (x : Int)) := by omega
      go_enter Try.func86, Try.ntmps86
      go_wp2_with (first | (refine wpList_fop rfl _ _ _ _ _ rfl _ _ _ rfl rfl (by decide) _ ?_; intro _ _) | (refine upon_fop _ _ _ _ _ (by decide) ?_; intro _ _))
      refine bodyPost_ret (by simp [results, Try.results86, go_sem]; rfl) rfl ⟨⟨_, rfl⟩, below_drewN (Below.refl _ _) _⟩
    · have e : featherF A O x y = 1065353216 := by unfold featherF; rw [if_neg h1, if_neg h2]
      rw [e]
      clear e
      have h3 : A + O ≤ (x : Int) := by omega
      go_enter Try.func86, Try.ntmps86
      go_wp2_with fail
      refine bodyPost_ret (v := .float .f32 1065353216) (by simp [results, Try.results86, go_sem]) rfl ⟨⟨0, by simp only [pick_not ft_n1]⟩, Below.refl _ _⟩
/-! ### isColumn -/
theorem c_isColumn (s : Int) (w : World) (j : Nat) : Calls Try.prog 85 #[.int .i64 s] (w.drewN j) (RetV (.bool (colB s)) w) := by
  unfold colB
  by_cases h1 : 0 ≤ s
  · by_cases h2 : s ≤ 16
    · go_enter Try.func85, Try.ntmps85
      go_wp2
      go_ret
      exact ⟨_, by simp [*], rfl⟩
    · go_enter Try.func85, Try.ntmps85
      go_wp2
      go_ret
      exact ⟨_, by simp [*] <;> (intros; omega), rfl⟩
  · go_enter Try.func85, Try.ntmps85
    go_wp2
    go_ret
    exact ⟨_, by simp [*] <;> (intros; omega), rfl⟩
/-! ### sidesOf -/
theorem c_sidesOf (W H : Int) (s : Value) (w : World) : Calls Try.prog 66 #[.agg #[.int .i64 W, .int .i64 H, s]] w (RetB (.agg #[.int .i64 W, .int .i64 H]) w) := by
  go_enter Try.func66, Try.ntmps66
  go_wp2
  exact bodyPost_ret (v := .agg #[.int .i64 W, .int .i64 H]) (by simp [results, Try.results66, go_sem]) rfl ⟨rfl, ((Below.refl _ _).alloc (Nat.le_refl _) _).alloc (by simp) _⟩
/-! ### allowed -/
theorem c_allowed (W H : Int) (w : World) : Calls Try.prog 112 #[.agg #[.int .i64 W, .int .i64 H]] w (RetB (.bool (sideB W H)) w) := by
  unfold sideB
  by_cases h1 : 1 ≤ W
  · by_cases h2 : W ≤ 16
    · by_cases h3 : 1 ≤ H
      · by_cases h4 : H ≤ 16
        all_goals
          go_enter Try.func112, Try.ntmps112
          go_wp2
          go_ret
          exact ⟨by simp [*] <;> (intros; omega), (Below.refl _ _).alloc (Nat.le_refl _) _⟩
      · go_enter Try.func112, Try.ntmps112
        go_wp2
        go_ret
        exact ⟨by simp [*] <;> (intros; omega), (Below.refl _ _).alloc (Nat.le_refl _) _⟩
    · go_enter Try.func112, Try.ntmps112
      go_wp2
      go_ret
      exact ⟨by simp [*] <;> (intros; omega), (Below.refl _ _).alloc (Nat.le_refl _) _⟩
  · go_enter Try.func112, Try.ntmps112
    go_wp2
    go_ret
    exact ⟨by simp [*] <;> (intros; omega), (Below.refl _ _).alloc (Nat.le_refl _) _⟩
/-! ### IsNaN -/
theorem c_IsNaN (v n : Nat) (w : World) (j : Nat) : Calls Try.prog 131 #[.float .f64 (pick .f64 v n)] (w.drewN j) (RetV (.bool (isN .f64 v)) w) := by
  go_enter Try.func131, Try.ntmps131
  go_wp2
  go_ret
  exact ⟨_, rfl, rfl⟩
/-! ### f64bits -/
@[go_sem] theorem e_f64bits (b : Nat) (w : World) : (callFunc 135 #[.float .f64 b]).run Try.prog w = .ok (.value (.int .u64 b)) w := by kernel_rfl
/-! ### f64from -/
@[go_sem] theorem e_f64from (n : Int) (w : World) : (callFunc 134 #[.int .u64 n]).run Try.prog w = .ok (.value (.float .f64 n.toNat)) w := by kernel_rfl
/-! ### Abs -/
theorem c_Abs (v n : Nat) (w : World) (j : Nat) (hv : v < 2 ^ FloatKind.f64.format.width) : Calls Try.prog 133 #[.float .f64 (pick .f64 v n)] (w.drewN j) (RetF .f64 (fabs .f64 v) w) := by
  have hb := abs_bits hv n
  go_enter Try.func133, Try.ntmps133
  go_wp2
  go_ret
  exact ⟨_, _, rfl, rfl⟩
/-! ### IsInf0 -/
theorem c_IsInf0 (v n : Nat) (w : World) (j : Nat) (hv : v < 2 ^ FloatKind.f64.format.width) : Calls Try.prog 132 #[.float .f64 (pick .f64 v n), .int .i64 0] (w.drewN j) (RetV (.bool (FloatKind.f64.format.order (fabs .f64 v) 9218868437227405311 == some .gt)) w) := by
  go_enter Try.func132, Try.ntmps132
  go_wp2_with ((go_at_call 133; refine (c_Abs _ _ _ _ hv).mono ?_; rintro _ _ ⟨_, _, rfl, rfl⟩))
  go_ret
  exact ⟨_, rfl, rfl⟩
/-! ### isFinite64 -/
theorem c_isFinite64 (v n : Nat) (w : World) (j : Nat) (hv : v < 2 ^ FloatKind.f64.format.width) : Calls Try.prog 129 #[.float .f64 (pick .f64 v n)] (w.drewN j) (RetV (.bool (finB .f64 v)) w) := by
  go_enter Try.func129, Try.ntmps129
  go_wp2_with (first | (go_at_call 131; refine (c_IsNaN _ _ _ _).mono ?_; rintro _ _ ⟨_, rfl, rfl⟩) | (go_at_call 132; refine (c_IsInf0 _ _ _ _ hv).mono ?_; rintro _ _ ⟨_, rfl, rfl⟩))
  all_goals
    go_ret
    refine ⟨_, ?_, rfl⟩
    rw [← abs_gt_max]
    simp [*]
/-! ### iIsFinite -/
theorem c_iIsFinite (v n : Nat) (w : World) (j : Nat) : Calls Try.prog 115 #[.float .f32 (pick .f32 v n)] (w.drewN j) (RetV (.bool (finB .f32 v)) w) := by
  go_enter Try.func115, Try.ntmps115
  go_wp2_with (first | (refine wpList_cvU rfl 38 42 _ rfl (Option.isSome_iff_exists.2 ⟨_, Try.underlying38⟩) Try.underlying42 _ rfl _ ?_; intro _ _) | (go_at_call 129; refine (c_isFinite64 _ _ _ _ (cvU_lt _)).mono ?_; rintro _ _ ⟨_, rfl, rfl⟩))
  go_ret
  rw [← finB_cvU]
  exact ⟨_, rfl, rfl⟩
/-! ### areFinite -/
theorem c_areFinite (a : Option Addr) (len cap : Nat) (zs : List Nat) (w : World) (j0 : Nat) (hr : IsRowF .f32 w a len cap zs) : Calls Try.prog 98 #[.slice a len cap] (w.drewN j0) (RetV (.bool (finL zs)) w) := by
  obtain ⟨h1, h2, h3, h4, h5⟩ := hr
  unfold maxLen at h3
  have H1 := Lib.hid h1
  clear h1
  go_enter Try.func98, Try.ntmps98
  go_wp2
  go_loopw [4, 7] (fun _ i wr => ∃ k m : Nat, k ≤ len ∧ i = .int .i64 k ∧ wr = w.drewN m ∧ finL (zs.take k) = true) (fun _ i _ => len - (intOf i).toNat)
  case atStart => exact ⟨0, j0, Nat.zero_le _, rfl, rfl, rfl⟩
  case round =>
    obtain ⟨k, m, hk, rfl, rfl, hfin⟩ := hrel
    have HFin := Lib.hid hfin
    clear hfin
    by_cases hlt : k < len
    · rcases h5 with h5 | ⟨b, off, rfl, hbl, hc⟩
      · omega
      have hcell : w.cell? ⟨b, off + k, none⟩ = some (.float .f32 (fat zs k)) := hc k hlt
      obtain ⟨n, hn⟩ := pick0 .f32 (fat zs k) (lt_of_wf (h4 _ (by unfold fat; rw [List.getD, List.getElem?_eq_getElem (by have := H1.out; omega)]; exact List.getElem_mem _)))
      rw [hn] at hcell
      have HS := Lib.hid (finL_snoc zs k (by have := H1.out; omega))
      cases hf : finB .f32 (fat zs k)
      · have HO := Lib.hid (finL_of zs k (by have := H1.out; omega) hf)
        clear hc h4 hn
        go_wp2_with ((go_at_call 115; refine (c_iIsFinite _ _ _ _).mono ?_; rintro _ _ ⟨_, rfl, rfl⟩))
        go_ret
        exact ⟨_, by rw [HO.out]; rfl, rfl⟩
      · have HF := Lib.hid hf
        clear hc h4 hn
        go_wp2_with ((go_at_call 115; refine (c_iIsFinite _ _ _ _).mono ?_; rintro _ _ ⟨_, rfl, rfl⟩))
        go_roundw
        case rel => exact ⟨k + 1, _, by omega, by go_num, rfl, by rw [HS.out, HFin.out, HF.out]; rfl⟩
        case measure => simp [intOf]; omega
    · have e : zs.take k = zs := List.take_of_length_le (by have := H1.out; omega)
      have HE := Lib.hid e
      clear h5 h4 e
      go_wp2
      go_ret
      exact ⟨_, by have h := HFin.out; rw [HE.out] at h; rw [h]; rfl, rfl⟩
/-! ### iValid -/
theorem c_areFinite0 (a : Option Addr) (len cap : Nat) (zs : List Nat) (w : World) (hr : IsRowF .f32 w a len cap zs) : Calls Try.prog 98 #[.slice a len cap] w (RetV (.bool (finL zs)) w) := by
  have h := c_areFinite a len cap zs w 0 hr
  rwa [w.drewN_zero] at h
theorem c_iValid (W H : Int) (a : Option Addr) (len cap : Nat) (zs : List Nat) (w : World) (hr : IsRowF .f32 w a len cap zs) :
    Calls Try.prog 64 #[.agg #[.int .i64 W, .int .i64 H, .slice a len cap]] w (RetB (.bool (validB W H zs)) w) := by
  have H1 := Lib.hid hr.1
  have HR := Lib.hid hr
  clear hr
  have two : ∀ s : Bool, sideB W H = s → (s = true → ∀ t : Bool, ((len : Int) == W * H) = t → (Calls Try.prog 64 #[.agg #[.int .i64 W, .int .i64 H, .slice a len cap]] w (RetB (.bool (validB W H zs)) w))) → (s = false → Calls Try.prog 64 #[.agg #[.int .i64 W, .int .i64 H, .slice a len cap]] w (RetB (.bool (validB W H zs)) w)) → Calls Try.prog 64 #[.agg #[.int .i64 W, .int .i64 H, .slice a len cap]] w (RetB (.bool (validB W H zs)) w) := by
    intro s hs h1 h2
    cases s
    · exact h2 rfl
    · exact h1 rfl _ rfl
  refine two _ rfl ?_ ?_
  · intro hs t ht
    obtain ⟨m1, m2⟩ := side_mul hs
    have mw : IntKind.i64.wrap (W * H) = W * H := IntWalk.i64_in _ (by omega)
    clear two
    cases t
    · have e : validB W H zs = false := by simp at ht; simp [validB, hs, H1.out, ht]
      have E := Lib.hid e
      have HT := Lib.hid hs
      clear e
      go_enter Try.func64, Try.ntmps64
      go_wp2_with fail
      refine (c_sidesOf W H _ _).mono ?_
      rintro _ w1 ⟨rfl, b1⟩
      obtain ⟨p0, p1, p2⟩ := ((Var.new _ _ _).keep b1).three
      have z1 : w.heap.size < w1.heap.size := by have := b1.size; simp at this; omega
      have B1 := Lib.hid (((Below.refl w.heap.size w).alloc (Nat.le_refl _) _).trans (b1.mono (by simp)))
      clear b1
      go_wp2_with fail
      refine (c_allowed W H _).mono ?_
      rintro _ w2 ⟨rfl, b2⟩
      rw [HT.out]
      have q0 := (b2.cell (p := ⟨w.heap.size, 0, none⟩) z1).trans p0
      have q1 := (b2.cell (p := ⟨w.heap.size, 1, none⟩) z1).trans p1
      have q2 := (b2.cell (p := ⟨w.heap.size, 2, none⟩) z1).trans p2
      have B2 := Lib.hid (B1.out.trans (b2.mono (by omega)))
      clear p0 p1 p2 b2 hs
      go_wp2_with fail
      go_ret
      exact ⟨by rw [E.out]; rfl, B2.out⟩
    · have e : validB W H zs = finL zs := by simp at ht; simp [validB, hs, H1.out, ht]
      have E := Lib.hid e
      have HT := Lib.hid hs
      clear e
      go_enter Try.func64, Try.ntmps64
      go_wp2_with fail
      refine (c_sidesOf W H _ _).mono ?_
      rintro _ w1 ⟨rfl, b1⟩
      obtain ⟨p0, p1, p2⟩ := ((Var.new _ _ _).keep b1).three
      have z1 : w.heap.size < w1.heap.size := by have := b1.size; simp at this; omega
      have B1 := Lib.hid (((Below.refl w.heap.size w).alloc (Nat.le_refl _) _).trans (b1.mono (by simp)))
      clear b1
      go_wp2_with fail
      refine (c_allowed W H _).mono ?_
      rintro _ w2 ⟨rfl, b2⟩
      rw [HT.out]
      have q0 := (b2.cell (p := ⟨w.heap.size, 0, none⟩) z1).trans p0
      have q1 := (b2.cell (p := ⟨w.heap.size, 1, none⟩) z1).trans p1
      have q2 := (b2.cell (p := ⟨w.heap.size, 2, none⟩) z1).trans p2
      have B2 := Lib.hid (B1.out.trans (b2.mono (by omega)))
      clear p0 p1 p2 b2 hs
      go_wp2_with fail
      refine (c_areFinite0 a len cap zs _ (HR.out.below B2.out)).mono ?_
      rintro _ w3 ⟨m, rfl, rfl⟩
      rw [← E.out]
      go_wp2_with fail
      go_ret
      exact ⟨rfl, below_drewN B2.out _⟩
  · intro hs
    have e : validB W H zs = false := by simp [validB, hs]
    have E := Lib.hid e
    have HT := Lib.hid hs
    clear e two
    go_enter Try.func64, Try.ntmps64
    go_wp2_with fail
    refine (c_sidesOf W H _ _).mono ?_
    rintro _ w1 ⟨rfl, b1⟩
    have B1 := Lib.hid (((Below.refl w.heap.size w).alloc (Nat.le_refl _) _).trans (b1.mono (by simp)))
    have z1 : w.heap.size < w1.heap.size := by have := b1.size; simp at this; omega
    clear b1
    go_wp2_with fail
    refine (c_allowed W H _).mono ?_
    rintro _ w2 ⟨rfl, b2⟩
    rw [HT.out]
    have B2 := Lib.hid (B1.out.trans (b2.mono (by omega)))
    clear b2 hs
    go_wp2_with fail
    go_ret
    exact ⟨by rw [E.out]; rfl, B2.out⟩
/-! ### ifValid -/
theorem c_ifValid_yes (W H : Int) (a : Option Addr) (len cap : Nat) (zs : List Nat) (w : World) (hr : IsRowF .f32 w a len cap zs) (hv : validB W H zs = true) : Calls Try.prog 103 #[.agg #[.int .i64 W, .int .i64 H, .slice a len cap]] w (RetB (.tuple #[.agg #[.int .i64 W, .int .i64 H, .slice a len cap], .bool true]) w) := by
  have HR := Lib.hid hr
  have HV := Lib.hid hv
  clear hr hv
  go_enter Try.func103, Try.ntmps103
  go_wp2_with fail
  refine (c_iValid W H a len cap zs _ ((HR.out.alloc _).alloc _)).mono ?_
  rintro _ w1 ⟨rfl, b⟩
  rw [HV.out]
  have V1 := Lib.hid ((((Var.new' _ _ _ (w.heap.size) rfl).alloc _)).keep b)
  have V2 := Lib.hid ((Var.new' _ _ _ (w.heap.size + 1) (by simp)).keep b)
  have z1 : w.heap.size + 1 < w1.heap.size := by have := b.size; simp at this; omega
  have B1 := Lib.hid ((((Below.refl w.heap.size w).alloc (Nat.le_refl _) _).alloc (by simp) _).trans (b.mono (by simp; omega)))
  have Fr := Lib.hid ((Free.new' _ _ _ (w.heap.size + 1) (by simp)).below (by simp <;> omega) b)
  clear b
  obtain ⟨p0, p1, p2⟩ := V1.out.three
  obtain ⟨q0, q1, q2⟩ := V2.out.three
  have f0 := Fr.out 0
  have f1 := Fr.out 1
  have f2 := Fr.out 2
  go_wp2_with fail
  refine bodyPost_ret (v := .tuple #[.agg #[.int .i64 W, .int .i64 H, .slice a len cap], .bool true]) (by simp [results, Try.results103, q0, q1, q2, go_sem]) rfl ⟨rfl, ?_⟩
  exact ((B1.out.setCell (by simp <;> omega) _).setCell (by simp <;> omega) _).setCell (by simp <;> omega) _
theorem c_ifValid_no (W H : Int) (a : Option Addr) (len cap : Nat) (zs : List Nat) (w : World) (hr : IsRowF .f32 w a len cap zs) (hv : validB W H zs = false) : Calls Try.prog 103 #[.agg #[.int .i64 W, .int .i64 H, .slice a len cap]] w (RetB (.tuple #[.agg #[.int .i64 0, .int .i64 0, .slice none 0 0], .bool false]) w) := by
  have HR := Lib.hid hr
  have HV := Lib.hid hv
  clear hr hv
  go_enter Try.func103, Try.ntmps103
  go_wp2_with fail
  refine (c_iValid W H a len cap zs _ ((HR.out.alloc _).alloc _)).mono ?_
  rintro _ w1 ⟨rfl, b⟩
  rw [HV.out]
  have V2 := Lib.hid ((Var.new' _ _ _ (w.heap.size + 1) (by simp)).keep b)
  have z1 : w.heap.size + 1 < w1.heap.size := by have := b.size; simp at this; omega
  have B1 := Lib.hid ((((Below.refl w.heap.size w).alloc (Nat.le_refl _) _).alloc (by simp) _).trans (b.mono (by simp; omega)))
  have Fr := Lib.hid ((Free.new' _ _ _ (w.heap.size + 1) (by simp)).below (by simp <;> omega) b)
  clear b
  obtain ⟨q0, q1, q2⟩ := V2.out.three
  have f0 := Fr.out 0
  have f1 := Fr.out 1
  have f2 := Fr.out 2
  go_wp2_with fail
  refine bodyPost_ret (v := .tuple #[.agg #[.int .i64 0, .int .i64 0, .slice none 0 0], .bool false]) (by simp [results, Try.results103, q0, q1, q2, go_sem]) rfl ⟨rfl, ?_⟩
  exact ((B1.out.setCell (by simp <;> omega) _).setCell (by simp <;> omega) _).setCell (by simp <;> omega) _

/-! ### makeFeather -/
theorem c_makeFeather (W H : Int) (cv0 cv1 : Value) (F : Nat → Nat → Nat) (w : World) (hlt : ∀ x y, F x y < 2 ^ FloatKind.f32.format.width)
    (hF : ∀ (x y : Nat) (wr : World), (x : Int) < W → (y : Int) < H → W ≤ 16 → H ≤ 16 → Below w.heap.size w wr → Calls Try.prog 86 #[.int .i64 x, .int .i64 y, cv0, cv1] wr (fun e w' => ∃ n, e = .returned (.float .f32 (pick .f32 (F x y) n)) ∧ Below wr.heap.size wr w')) :
    Calls Try.prog 65 #[.agg #[.int .i64 W, .int .i64 H], .func (.func 86) #[] #[cv0, cv1]] w (RetP 38 (resMake F W H) w) := by
  generalize hw2 : (w.alloc (Obj.cells #[.int .i64 W, .int .i64 H] 84)).alloc (Obj.cells #[.int .i64 0, .int .i64 0, .slice none 0 0] 26) = w2
  have B0 : Below w.heap.size w w2 := by subst hw2; exact ((Below.refl _ _).alloc (Nat.le_refl _) _).alloc (by simp) _
  have VA' : Var w2 w.heap.size #[.int .i64 W, .int .i64 H] := by subst hw2; exact (Var.new _ _ _).alloc _
  have VR := Lib.hid (show Var w2 (w.heap.size + 1) #[.int .i64 0, .int .i64 0, .slice none 0 0] from by subst hw2; exact Var.new' _ _ _ _ (by simp))
  have FR := Lib.hid (show Free w2 (w.heap.size + 1) from by subst hw2; exact Free.new' _ _ _ _ (by simp))
  have BW := Lib.hid B0
  have HW2 := Lib.hid hw2
  have SZ : w2.heap.size = w.heap.size + 1 + 1 := by subst hw2; simp
  have KS := Lib.hid (fun (w' : World) (hE : Below w2.heap.size w2 w') => (⟨(hE.cell (p := ⟨w.heap.size, 0, none⟩) (by show w.heap.size < _; omega)).trans (VA'.2 0 (by simp)), (hE.cell (p := ⟨w.heap.size, 1, none⟩) (by show w.heap.size < _; omega)).trans (VA'.2 1 (by simp))⟩ : w'.cell? ⟨w.heap.size, 0, none⟩ = some (.int .i64 W) ∧ w'.cell? ⟨w.heap.size, 1, none⟩ = some (.int .i64 H)))
  clear B0 VA' hw2
  have HFF := Lib.hid hF
  have HLT := Lib.hid hlt
  clear hF hlt
  unfold resMake
  cases hs : sideB W H
  · rw [if_neg (by decide)]
    have HS := Lib.hid hs
    clear hs
    obtain ⟨d0, d1⟩ := KS.out w2 (Below.refl _ _)
    go_enter Try.func65, Try.ntmps65
    go_wp2_with fail
    rw [HW2.out]
    refine (c_allowed W H _).mono ?_
    rintro _ w3 ⟨rfl, hE⟩
    rw [HS.out]
    have BX := Lib.hid (BW.out.trans (hE.mono (by omega)))
    have VX := Lib.hid (VR.out.keep hE)
    have FX := Lib.hid (FR.out.below (by omega) hE)
    have S2 : w.heap.size + 1 < w3.heap.size := by have := hE.size; omega
    clear hE d0 d1
    obtain ⟨q0, q1, q2⟩ := VX.out.three
    have f0 := FX.out 0
    have f1 := FX.out 1
    have f2 := FX.out 2
    go_wp2_with fail
    refine bodyPost_ret (v := .tuple #[.agg #[.int .i64 0, .int .i64 0, .slice none 0 0], .bool false]) (by simp [results, Try.results65, q0, q1, q2, go_sem]) rfl (show RetP _ PRes.no _ _ _ from ⟨none, 0, rfl, Nat.zero_le _, ((BX.out.setCell (by simp <;> omega) _).setCell (by simp <;> omega) _).setCell (by simp <;> omega) _, Own.nil _ _ _⟩)
  · rw [if_pos rfl]
    obtain ⟨⟨s1, s2⟩, s3, s4⟩ := sideB_true hs
    have HS := Lib.hid hs
    clear hs
    obtain ⟨Wn, rfl⟩ : ∃ n : Nat, W = n := ⟨W.toNat, by omega⟩
    obtain ⟨Hn, rfl⟩ : ∃ n : Nat, H = n := ⟨H.toNat, by omega⟩
    rw [Int.toNat_natCast, Int.toNat_natCast]
    have hN : Wn * Hn ≤ 16 * 16 := Nat.mul_le_mul (by omega) (by omega)
    obtain ⟨N, hNN⟩ : ∃ N, N = Wn * Hn := ⟨_, rfl⟩
    have HN := Lib.hid hNN
    have hN2 : N ≤ 256 := by rw [hNN]; exact hN
    have mw : IntKind.i64.wrap ((Wn : Int) * (Hn : Int)) = (N : Int) := by rw [hNN]; rw [show ((Wn : Int) * (Hn : Int)) = ((Wn * Hn : Nat) : Int) by rw [Int.natCast_mul]]; exact IntWalk.i64_in _ (by omega)
    obtain ⟨L, hL⟩ : ∃ L, L = makeL F Wn Hn := ⟨_, rfl⟩
    have HAt := Lib.hid (fun (x y k : Nat) (hk : k = y * Wn + x) (hx : x < Wn) (hy : y < Hn) => (by rw [hL]; exact makeL_at hk hx hy : fat L k = F x y))
    have HLen := Lib.hid (show L.length = N by rw [hL, makeL_len, hNN])
    rw [← hL]
    clear hNN hN hL
    obtain ⟨i0, hinf, hz0, hz1, hz2⟩ := info_parts infoFo
    obtain ⟨d0, d1⟩ := KS.out w2 (Below.refl _ _)
    go_enter Try.func65, Try.ntmps65
    go_wp2_with fail
    rw [HW2.out]
    refine (c_allowed _ _ _).mono ?_
    rintro _ w3 ⟨rfl, hE⟩
    rw [HS.out]
    have BX := Lib.hid (BW.out.trans (hE.mono (by omega)))
    have VX := Lib.hid (VR.out.keep hE)
    have FX := Lib.hid (FR.out.below (by omega) hE)
    have S2 : w.heap.size + 1 < w3.heap.size := by have := hE.size; omega
    have K3 := Lib.hid (KS.out w3 hE)
    clear hE d0 d1 KS VR FR BW
    have KX := Lib.hid (fun (wr : World) (hB : Below w3.heap.size w3 wr) => (by obtain ⟨d0, d1⟩ := K3.out; exact ⟨(hB.cell (p := ⟨w.heap.size, 0, none⟩) (by show w.heap.size < _; omega)).trans d0, (hB.cell (p := ⟨w.heap.size, 1, none⟩) (by show w.heap.size < _; omega)).trans d1⟩ : wr.cell? ⟨w.heap.size, 0, none⟩ = some (.int .i64 (Wn : Int)) ∧ wr.cell? ⟨w.heap.size, 1, none⟩ = some (.int .i64 (Hn : Int))))
    obtain ⟨d0, d1⟩ := K3.out
    go_wp2_with (at_make; refine wpList_make_own _ rfl _ _ 22 rfl w3.heap.size 38 i0 (.float .f32 0) 1 Try.underlying22 hinf hz0 hz1 _ _ _ N rfl rfl rfl (by rw [hz2]; omega) (by unfold maxLen; omega) (by simp) ?_; intro w4 hown hgrow; have B4 : Below w3.heap.size w3 w4 := (Below.refl _ _).grown hgrow (Nat.le_refl _) (by simp); obtain ⟨g0, g1⟩ := KX.out w4 B4)
    have OW : Own 38 w4 w3.heap.size (some ⟨w3.heap.size, 0, none⟩) 0 N [] := ⟨rfl, hown, by simp⟩
    have HO4 := Lib.hid OW
    have HB4 := Lib.hid B4
    clear hown hgrow B4 OW d0 d1 g0 g1 mw
    go_loopw [6, 7, 8, 21] (fun l _ _ i wr => ∃ (y k : Nat) (a : Option Addr) (c : Nat) (zs : List Nat), y ≤ Hn ∧ k = y * Wn ∧ i = .int .i64 y ∧ l = .slice a k c ∧ Own 38 wr w3.heap.size a k c zs ∧ near zs (L.take k) ∧ Below w3.heap.size w3 wr) (fun _ _ _ i _ => Hn - (intOf i).toNat)
    case atStart => exact ⟨0, 0, _, _, [], Nat.zero_le _, by simp, rfl, rfl, HO4.out, by simpa using near_nil, HB4.out⟩
    case round =>
      obtain ⟨y, k, a, c, zs, hy, hk, rfl, rfl, hO, hnear, hB⟩ := hrel
      have HO := Lib.hid hO
      have HNr := Lib.hid hnear
      have HB := Lib.hid hB
      have HK := Lib.hid hk
      clear hO hnear hB hk
      obtain ⟨d0, d1⟩ := KX.out wr HB.out
      by_cases hly : y < Hn
      · go_wp2_with fail
        clear d0 d1
        go_loopw [6, 8, 26] (fun l _ i wr => ∃ (x k : Nat) (a : Option Addr) (c : Nat) (zs : List Nat), x ≤ Wn ∧ k = y * Wn + x ∧ i = .int .i64 x ∧ l = .slice a k c ∧ Own 38 wr w3.heap.size a k c zs ∧ near zs (L.take k) ∧ Below w3.heap.size w3 wr) (fun _ _ i _ => Wn - (intOf i).toNat)
        case atStart => exact ⟨0, k, a, c, zs, Nat.zero_le _, HK.out, rfl, rfl, HO.out, HNr.out, HB.out⟩
        case round =>
          obtain ⟨x, k2, a2, c2, zs2, hx, hk2, rfl, rfl, hO2, hnear2, hB2⟩ := hrel
          have HO2 := Lib.hid hO2
          have HN2 := Lib.hid hnear2
          have HB2 := Lib.hid hB2
          have HK2 := Lib.hid hk2
          clear hO2 hnear2 hB2 hk2
          by_cases hlx : x < Wn
          · have hk1 : k2 + 1 ≤ N := by rw [HN.out]; exact make_lt HK2.out hlx hly
            go_wp2_with fail
            refine (HFF.out x y _ (by omega) (by omega) (by omega) (by omega) (BX.out.trans (HB2.out.mono (by omega)))).mono ?_
            rintro _ w5 ⟨n5, rfl, b5⟩
            have HO5 := Lib.hid (HO2.out.below b5)
            have HB5 := Lib.hid (HB2.out.trans (b5.mono HB2.out.size))
            have z5 : w3.heap.size ≤ w5.heap.size := HB5.out.size
            clear b5
            go_wp2_with (at_builtin; refine wpList_append_own _ rfl _ _ 22 rfl w3.heap.size 38 i0 (.float .f32 0) 1 4 Try.underlying22 hinf hz0 hz1 hz2 rfl (by decide) _ _ _ rfl ((HO5.out.alloc _).2.1) ⟨w5.heap.size, 0, none⟩ 1 1 [.float .f32 (pick .f32 (F x y) n5)] rfl rfl ?c1 ?c2 ?c3 ?c4 ?c5 ?_)
            case c1 =>
              intro j u hj
              match j, hj with
              | 0, hj => simp at hj; subst hj; simp [Addr.add]
            case c2 => intro u hu; simp at hu; subst hu; rfl
            case c3 => unfold maxLen; omega
            case c4 => omega
            case c5 => simp; omega
            intro v' w6 hown' hgrow _
            have hB6 : Below w3.heap.size w3 w6 := (HB5.out.alloc z5 _).grown hgrow (by simp; omega) (fun g e => by have := HO5.out.in g (by rw [← own_blk _ k2 c2]; exact e); exact this.1)
            obtain ⟨a', c', rfl, hO6⟩ := own_app hown' HO5.out.1 HO5.out.2.2 (pick_wf (HLT.out x y) n5)
            have HO6 := Lib.hid hO6
            have HB6 := Lib.hid hB6
            clear hown' hgrow hB6 hO6
            go_wp2_with fail
            go_roundw
            case rel => exact ⟨x + 1, k2 + 1, a', c', _, by omega, by rw [HK2.out]; omega, by go_num, rfl, HO6.out, by rw [← HAt.out x y k2 HK2.out hlx hly]; exact near_snoc HN2.out (by rw [HLen.out]; omega) n5, HB6.out⟩
            case measure => simp [intOf]; omega
          · obtain rfl : x = Wn := by omega
            go_wp2_with fail
            go_roundw
            case rel => exact ⟨y + 1, k2, a2, c2, zs2, by omega, by rw [HK2.out, Nat.succ_mul], by go_num, rfl, HO2.out, HN2.out, HB2.out⟩
            case measure => simp [intOf]; omega
      · obtain rfl : y = Hn := by omega
        have hkN : k = N := by rw [HK.out, HN.out, Nat.mul_comm]
        subst hkN
        have hz : near zs L := by have h := HNr.out; rwa [List.take_of_length_le (by rw [HLen.out]; exact Nat.le_refl _)] at h
        have HZN := Lib.hid hz
        have VR := Lib.hid (VX.out.keep HB.out)
        have FR := Lib.hid (FX.out.below (by omega) HB.out)
        have BW := Lib.hid (BX.out.trans (HB.out.mono (by omega)))
        have SW : w3.heap.size ≤ wr.heap.size := HB.out.size
        have HVZ := Lib.hid (near_valid (W := (Wn : Int)) (H := (y : Int)) hz)
        have hl0 : zs.length = k := HO.out.1
        have HL0 := Lib.hid hl0
        clear hz hl0
        go_wp2_with fail
        cases hv2 : validB (Wn : Int) (y : Int) L
        · have HG2 := Lib.hid (show giveP (Wn : Int) (y : Int) L = PRes.no from by unfold giveP; rw [hv2]; rfl)
          have HV2 := Lib.hid hv2
          clear hv2
          refine (c_ifValid_no _ _ _ _ _ zs wr HO.out.row (by rw [HVZ.out]; exact HV2.out)).mono ?_
          rintro _ wz ⟨rfl, b⟩
          obtain ⟨cr0, cr1, cr2⟩ := (VR.out.keep b).three
          have fr := FR.out.below (by omega) b
          have f0 := fr 0
          have f1 := fr 1
          have f2 := fr 2
          have hsz := b.size
          have HB2 := Lib.hid (BW.out.trans (b.mono (by omega)))
          clear fr b
          go_wp2_with fail
          refine bodyPost_ret (v := .tuple #[.agg #[.int .i64 0, .int .i64 0, .slice none 0 0], .bool false]) (by simp [results, Try.results65, cr0, cr1, cr2, go_sem]) rfl (by rw [HG2.out]; exact ⟨none, 0, rfl, Nat.zero_le _, ((HB2.out.setCell (by simp <;> omega) _).setCell (by simp <;> omega) _).setCell (by simp <;> omega) _, Own.nil _ _ _⟩)
        · have HG2 := Lib.hid (show giveP (Wn : Int) (y : Int) L = ⟨Wn, y, L, true⟩ from by unfold giveP; rw [hv2]; rfl)
          have hfin := valid_fin hv2
          obtain rfl := near_eq HZN.out hfin
          clear hfin
          have HV2 := Lib.hid hv2
          clear hv2
          refine (c_ifValid_yes _ _ _ _ _ _ wr HO.out.row HV2.out).mono ?_
          rintro _ wz ⟨rfl, b⟩
          obtain ⟨cr0, cr1, cr2⟩ := (VR.out.keep b).three
          have fr := FR.out.below (by omega) b
          have f0 := fr 0
          have f1 := fr 1
          have f2 := fr 2
          have hsz := b.size
          have HB2 := Lib.hid (BW.out.trans (b.mono (by omega)))
          have HO2 := Lib.hid (HO.out.below b)
          clear fr b
          go_wp2_with fail
          have hrow : blk a ≠ some (w.heap.size + 1) := fun e => by have := HO2.out.in _ e; omega
          refine bodyPost_ret (v := .tuple #[.agg #[.int .i64 (Wn : Int), .int .i64 (y : Int), .slice a k c], .bool true]) (by simp [results, Try.results65, cr0, cr1, cr2, go_sem]) rfl (by rw [HG2.out]; exact ⟨_, _, by rw [HL0.out], by (show zs.length ≤ 1048576); rw [HL0.out]; omega, ((HB2.out.setCell (by simp <;> omega) _).setCell (by simp <;> omega) _).setCell (by simp <;> omega) _, (((Own.re HL0.out.symm HO2.out).setCell hrow _).setCell hrow _).setCell hrow _ |>.mono (by omega)⟩)
/-! ### iFeather -/
theorem c_iFeatherMask (W H A O : Int) (w : World) (hW : (Lit.int .i64 W).wf = true) (hH : (Lit.int .i64 H).wf = true) (hA : (Lit.int .i64 A).wf = true) (hO : (Lit.int .i64 O).wf = true) : Calls Try.prog 35 #[.int .i64 W, .int .i64 H, .int .i64 A, .int .i64 O] w (RetP 38 (resFeather W H A O) w) := by
  clear hW hH hA hO
  generalize hw5 : ((w.alloc (Obj.cells #[.int .i64 A] 2)).alloc (Obj.cells #[.int .i64 O] 2)).alloc (Obj.cells #[.int .i64 0, .int .i64 0, .slice none 0 0] 26) = w0
  have X0 : Var w0 w.heap.size #[.int .i64 A] := by subst hw5; exact ((Var.new _ _ _).alloc _).alloc _
  have X1 : Var w0 (w.heap.size + 1) #[.int .i64 O] := by subst hw5; exact (Var.new' _ _ _ _ (by simp)).alloc _
  have X3 : Var w0 (w.heap.size + 1 + 1) #[.int .i64 0, .int .i64 0, .slice none 0 0] := by subst hw5; exact Var.new' _ _ _ _ (by simp)
  have X4 : Free w0 (w.heap.size + 1 + 1) := by subst hw5; exact Free.new' _ _ _ _ (by simp)
  have X5 : Below w.heap.size w w0 := by subst hw5; exact (((Below.refl w.heap.size w).alloc (Nat.le_refl _) _).alloc (by simp) _).alloc (by simp; omega) _
  have HW := Lib.hid hw5
  have V0 := Lib.hid X0
  have V1 := Lib.hid X1
  have V3 := Lib.hid X3
  have F3 := Lib.hid X4
  have B0 := Lib.hid X5
  have c0 : w0.cell? ⟨w.heap.size, 0, none⟩ = some (.int .i64 A) := X0.2 0 (by simp)
  have c1 : w0.cell? ⟨w.heap.size + 1, 0, none⟩ = some (.int .i64 O) := X1.2 0 (by simp)
  clear X0 X1 X3 X4 X5 hw5
  cases hA : colB A
  · rw [feather_no (.inr (.inl hA))]
    have HA := Lib.hid (fun w j => (by have h := c_isColumn A w j; rwa [hA] at h : Calls Try.prog 85 #[.int .i64 A] (w.drewN j) (RetV (.bool false) w)))
    have HO := Lib.hid True.intro
    clear hA
    obtain ⟨q0, q1, q2⟩ := V3.out.three
    have f0 := F3.out 0
    have f1 := F3.out 1
    have f2 := F3.out 2
    have zz : w.heap.size + 1 + 1 < w0.heap.size := V3.out.lt
    go_enter Try.func35, Try.ntmps35
    go_wp2_with fail
    rw [HW.out, ← w0.drewN_zero]
    go_wp2_with (go_at_call 85; first | ((with_reducible refine (HA.out _ _).mono ?_); rintro _ _ ⟨_, rfl, rfl⟩))
    refine bodyPost_ret (v := .tuple #[.agg #[.int .i64 0, .int .i64 0, .slice none 0 0], .bool false]) (by simp [results, Try.results35, q0, q1, q2, go_sem]) rfl (show RetP _ PRes.no _ _ _ from ⟨none, 0, rfl, Nat.zero_le _, ?_, Own.nil _ _ _⟩)
    repeat (first | exact B0.out | exact Nat.le_refl _ | (refine Below.setCell ?_ ?_ _) | (refine below_drewN ?_ _) | (refine Below.alloc ?_ ?_ _) | (simp <;> omega))
  cases hO : colB O
  · rw [feather_no (.inr (.inr hO))]
    have HA := Lib.hid (fun w j => (by have h := c_isColumn A w j; rwa [hA] at h : Calls Try.prog 85 #[.int .i64 A] (w.drewN j) (RetV (.bool true) w)))
    have HO := Lib.hid (fun w j => (by have h := c_isColumn O w j; rwa [hO] at h : Calls Try.prog 85 #[.int .i64 O] (w.drewN j) (RetV (.bool false) w)))
    clear hA hO
    obtain ⟨q0, q1, q2⟩ := V3.out.three
    have f0 := F3.out 0
    have f1 := F3.out 1
    have f2 := F3.out 2
    have zz : w.heap.size + 1 + 1 < w0.heap.size := V3.out.lt
    go_enter Try.func35, Try.ntmps35
    go_wp2_with fail
    rw [HW.out, ← w0.drewN_zero]
    go_wp2_with (go_at_call 85; first | ((with_reducible refine (HA.out _ _).mono ?_); rintro _ _ ⟨_, rfl, rfl⟩) | ((with_reducible refine (HO.out _ _).mono ?_); rintro _ _ ⟨_, rfl, rfl⟩))
    refine bodyPost_ret (v := .tuple #[.agg #[.int .i64 0, .int .i64 0, .slice none 0 0], .bool false]) (by simp [results, Try.results35, q0, q1, q2, go_sem]) rfl (show RetP _ PRes.no _ _ _ from ⟨none, 0, rfl, Nat.zero_le _, ?_, Own.nil _ _ _⟩)
    repeat (first | exact B0.out | exact Nat.le_refl _ | (refine Below.setCell ?_ ?_ _) | (refine below_drewN ?_ _) | (refine Below.alloc ?_ ?_ _) | (simp <;> omega))
  have HA := Lib.hid (fun w j => (by have h := c_isColumn A w j; rwa [hA] at h : Calls Try.prog 85 #[.int .i64 A] (w.drewN j) (RetV (.bool true) w)))
  have HO := Lib.hid (fun w j => (by have h := c_isColumn O w j; rwa [hO] at h : Calls Try.prog 85 #[.int .i64 O] (w.drewN j) (RetV (.bool true) w)))
  have KA := Lib.hid (colB_true hA)
  have KO := Lib.hid (colB_true hO)
  have C := Lib.hid (fun (w : World) (ba bo : Nat) (h0 : ba < w.heap.size) (c0 : w.cell? ⟨ba, 0, none⟩ = some (.int .i64 A)) (h1 : bo < w.heap.size) (c1 : w.cell? ⟨bo, 0, none⟩ = some (.int .i64 O)) => (by
    have e : resFeather W H A O = resMake (featherF A O) W H := by unfold resFeather; rw [hA, hO]; rfl
    rw [e]
    exact c_makeFeather W H (.pointer (some ⟨ba, 0, none⟩)) (.pointer (some ⟨bo, 0, none⟩)) (featherF A O) w (fun x y => featherF_lt A O x y) (fun x y wr hx _ hW _ hB => c_feather1 x y A O ba bo wr (by omega) KA.out KO.out ((hB.cell (p := ⟨ba, 0, none⟩) h0).trans c0) ((hB.cell (p := ⟨bo, 0, none⟩) h1).trans c1)) : Calls Try.prog 65 #[.agg #[.int .i64 W, .int .i64 H], .func (.func 86) #[] #[.pointer (some ⟨ba, 0, none⟩), .pointer (some ⟨bo, 0, none⟩)]] w (RetP 38 (resFeather W H A O) w)))
  clear hA hO
  generalize resFeather W H A O = r at *
  go_enter Try.func35, Try.ntmps35
  go_wp2_with fail
  rw [HW.out, ← w0.drewN_zero]
  go_wp2_with (go_at_call 85; first | ((with_reducible refine (HA.out _ _).mono ?_); rintro _ _ ⟨_, rfl, rfl⟩) | ((with_reducible refine (HO.out _ _).mono ?_); rintro _ _ ⟨_, rfl, rfl⟩))
  have E : ∀ j, Below w0.heap.size w0 (w0.drewN j) := fun j => below_drewN (Below.refl _ _) j
  refine (C.out _ (w.heap.size) (w.heap.size + 1) (V0.out.keep (E _)).lt ((V0.out.keep (E _)).2 0 (by simp)) (V1.out.keep (E _)).lt ((V1.out.keep (E _)).2 0 (by simp))).mono ?_
  rintro _ w1 ⟨a, cap, rfl, hl, b, o⟩
  have V2 := Lib.hid ((V3.out.keep (E _)).keep b)
  have Fr := Lib.hid ((F3.out.below V3.out.lt (E _)).below (V3.out.keep (E _)).lt b)
  have z0 : w.heap.size + 1 + 1 < w0.heap.size := V3.out.lt
  have z1 : w0.heap.size ≤ w1.heap.size := b.size
  have B1 := Lib.hid ((B0.out.trans ((E _).mono B0.out.size)).trans (b.mono (by have := B0.out.size; exact this)))
  have O1 := Lib.hid (o.mono (B' := w0.heap.size) (Nat.le_refl _))
  have HL := Lib.hid hl
  clear b o hl c0 c1 E
  obtain ⟨q0, q1, q2⟩ := V2.out.three
  have f0 := Fr.out 0
  have f1 := Fr.out 1
  have f2 := Fr.out 2
  go_wp2_with fail
  have hrow : blk a ≠ some (w.heap.size + 1 + 1) := fun e => by have := O1.out.in _ e; omega
  refine bodyPost_ret (v := .tuple #[.agg #[.int .i64 r.W, .int .i64 r.H, .slice a r.zs.length cap], .bool r.ok]) (by simp [results, Try.results35, q0, q1, q2, go_sem]) rfl ⟨a, cap, rfl, HL.out, ((B1.out.setCell (by simp <;> omega) _).setCell (by simp <;> omega) _).setCell (by simp <;> omega) _, (((O1.out.setCell hrow _).setCell hrow _).setCell hrow _).mono (by omega)⟩
/-! ### lawFeather -/

/-! ### FnExactFeatherMask -/
set_option maxHeartbeats 8000000 in
theorem walkG (xW : Int) (xH : Int) (xA : Int) (xO : Int) (w : World) (r : PRes) (cS : ∀  (w : World), Calls Try.prog 34 #[.int .i64 xW, .int .i64 xH, .int .i64 xA, .int .i64 xO] w (RetP 38 r w)) (cI : ∀  (w : World), Calls Try.prog 35 #[.int .i64 xW, .int .i64 xH, .int .i64 xA, .int .i64 xO] w (RetP 38 r w))   : Calls Try.prog 8 #[.int .i64 xW, .int .i64 xH, .int .i64 xA, .int .i64 xO] w fun e w' => e = .returned (.bool true) ∧ Below w.heap.size w w' := by
  have CS := Lib.hid cS
  have CI := Lib.hid cI
  clear cS cI
  go_enter Try.func8, Try.ntmps8
  go_wp2_with fail
  refine (CS.out  _ ).mono ?_
  rintro _ w1 ⟨au, cu, rfl, hrl, b, o⟩
  have Lu := Lib.hid o.in
  have Ou_1 := Lib.hid o
  clear o
  have B_1 := Lib.hid ((Below.refl w.heap.size w).trans (b.mono (by simp)))
  have S_1 : w.heap.size + 0 ≤ w1.heap.size := by have := b.size; omega
  clear b
  go_wp2_with fail
  refine (CI.out  _ ).mono ?_
  rintro _ w2 ⟨ag, cg, rfl, hrl, b, o⟩
  clear hrl
  have Lg := Lib.hid o.in
  have Lg := Lib.hid (by have h := Lg.out; simp only [World.size_alloc] at h; exact h)
  have Og_2 := Lib.hid o
  clear o
  have Vu_2 := Lib.hid ((Var.new' _ _ _ (w1.heap.size) (by first | rfl | simp)).keep b)
  have Ou_2 := Lib.hid ((Ou_1.out.alloc _).below b)
  have B_2 := Lib.hid ((B_1.out.alloc (by omega) _).trans (b.mono (by simp; omega)))
  have S_2 : w1.heap.size + 1 ≤ w2.heap.size := by have := b.size; simp at this; omega
  have zu_2 : w1.heap.size < w2.heap.size := by omega
  clear b
  clear Ou_1 B_1
  obtain ⟨cu0, cu1, cu2⟩ := Vu_2.out.three
  go_wp2_with fail
  clear cu0 cu1 cu2
  refine (c_eqP _ _ _ _ _ _ _ _ _ (Og_2.out.alloc _).row (Ou_2.out.alloc _).row).mono ?_
  rintro _ w3 ⟨rfl, b⟩
  have Vu_3 := Lib.hid ((Vu_2.out.alloc _).keep b)
  have Vg_3 := Lib.hid ((Var.new' _ _ _ (w2.heap.size) (by first | rfl | simp)).keep b)
  have Ou_3 := Lib.hid ((Ou_2.out.alloc _).below b)
  have Og_3 := Lib.hid ((Og_2.out.alloc _).below b)
  have B_3 := Lib.hid ((B_2.out.alloc (by omega) _).trans (b.mono (by simp; omega)))
  have S_3 : w2.heap.size + 1 ≤ w3.heap.size := by have := b.size; simp at this; omega
  have zu_3 : w1.heap.size < w3.heap.size := by omega
  have zg_3 : w2.heap.size < w3.heap.size := by omega
  clear b
  clear Vu_2 zu_2 Ou_2 Og_2 B_2
  obtain ⟨cg0, cg1, cg2⟩ := Vg_3.out.three
  go_wp2_with fail
  clear cg0 cg1 cg2
  refine (c_markP _ _ _ _ _ _ 1 _ _ Og_3.out (by omega)).mono ?_
  rintro _ w4 ⟨rfl, b, o⟩
  have On := Lib.hid o
  clear o
  have Vu_4 := Lib.hid (Vu_3.out.kept b (by intro e; have := Lg.out _ e.symm; omega))
  have Vg_4 := Lib.hid (Vg_3.out.kept b (by intro e; have := Lg.out _ e.symm; omega))
  have Ou_4 := Lib.hid (Ou_3.out.kept b (blk_apart Lu.out Lg.out (by omega)))
  have B_4 := Lib.hid (B_3.out.grown b (by omega) (fun k e => by have := Lg.out k e; omega))
  have S_4 : w3.heap.size ≤ w4.heap.size := b.size
  have zu_4 : w1.heap.size < w4.heap.size := by omega
  have zg_4 : w2.heap.size < w4.heap.size := by omega
  clear b
  clear Vu_3 zu_3 Vg_3 zg_3 Ou_3 Og_3 B_3
  have Og_4 := Lib.hid On.out
  clear On
  obtain ⟨cg0, cg1, cg2⟩ := Vg_4.out.three
  go_wp2_with fail
  clear cg0 cg1 cg2
  refine (c_heldP _ _ _ _ _ 1 _ Og_4.out.row (by omega)).mono ?_
  rintro _ w5 ⟨rfl, b⟩
  have Vu_5 := Lib.hid (Vu_4.out.keep b)
  have Vg_5 := Lib.hid (Vg_4.out.keep b)
  have Ou_5 := Lib.hid (Ou_4.out.below b)
  have Og_5 := Lib.hid (Og_4.out.below b)
  have B_5 := Lib.hid (B_4.out.trans (b.mono (by omega)))
  have S_5 : w4.heap.size + 0 ≤ w5.heap.size := by have := b.size; omega
  have zu_5 : w1.heap.size < w5.heap.size := by omega
  have zg_5 : w2.heap.size < w5.heap.size := by omega
  clear b
  clear Vu_4 zu_4 Vg_4 zg_4 Ou_4 Og_4 B_4
  have hq : ¬ (((1 + r.zs.length : Nat) : Int) < 0) := by omega
  go_wp2_with fail
  refine (CI.out  _ ).mono ?_
  rintro _ w6 ⟨ah, ch, rfl, hrl, b, o⟩
  clear hrl
  have Lh := Lib.hid o.in
  have Oh_6 := Lib.hid o
  clear o
  have Vu_6 := Lib.hid (Vu_5.out.keep b)
  have Vg_6 := Lib.hid (Vg_5.out.keep b)
  have Ou_6 := Lib.hid (Ou_5.out.below b)
  have Og_6 := Lib.hid (Og_5.out.below b)
  have B_6 := Lib.hid (B_5.out.trans (b.mono (by omega)))
  have S_6 : w5.heap.size + 0 ≤ w6.heap.size := by have := b.size; omega
  have zu_6 : w1.heap.size < w6.heap.size := by omega
  have zg_6 : w2.heap.size < w6.heap.size := by omega
  clear b
  clear Vu_5 zu_5 Vg_5 zg_5 Ou_5 Og_5 B_5
  obtain ⟨cu0, cu1, cu2⟩ := Vu_6.out.three
  go_wp2_with fail
  clear cu0 cu1 cu2
  refine (c_eqP _ _ _ _ _ _ _ _ _ (Oh_6.out.alloc _).row (Ou_6.out.alloc _).row).mono ?_
  rintro _ w7 ⟨rfl, b⟩
  have Vu_7 := Lib.hid ((Vu_6.out.alloc _).keep b)
  have Vg_7 := Lib.hid ((Vg_6.out.alloc _).keep b)
  have Vh_7 := Lib.hid ((Var.new' _ _ _ (w6.heap.size) (by first | rfl | simp)).keep b)
  have Ou_7 := Lib.hid ((Ou_6.out.alloc _).below b)
  have Og_7 := Lib.hid ((Og_6.out.alloc _).below b)
  have Oh_7 := Lib.hid ((Oh_6.out.alloc _).below b)
  have B_7 := Lib.hid ((B_6.out.alloc (by omega) _).trans (b.mono (by simp; omega)))
  have S_7 : w6.heap.size + 1 ≤ w7.heap.size := by have := b.size; simp at this; omega
  have zu_7 : w1.heap.size < w7.heap.size := by omega
  have zg_7 : w2.heap.size < w7.heap.size := by omega
  have zh_7 : w6.heap.size < w7.heap.size := by omega
  clear b
  clear Vu_6 zu_6 Vg_6 zg_6 Ou_6 Og_6 Oh_6 B_6
  obtain ⟨cg0, cg1, cg2⟩ := Vg_7.out.three
  go_wp2_with fail
  clear cg0 cg1 cg2
  refine (c_heldP _ _ _ _ _ 1 _ Og_7.out.row (by omega)).mono ?_
  rintro _ w8 ⟨rfl, b⟩
  have Vu_8 := Lib.hid (Vu_7.out.keep b)
  have Vg_8 := Lib.hid (Vg_7.out.keep b)
  have Vh_8 := Lib.hid (Vh_7.out.keep b)
  have Ou_8 := Lib.hid (Ou_7.out.below b)
  have Og_8 := Lib.hid (Og_7.out.below b)
  have Oh_8 := Lib.hid (Oh_7.out.below b)
  have B_8 := Lib.hid (B_7.out.trans (b.mono (by omega)))
  have S_8 : w7.heap.size + 0 ≤ w8.heap.size := by have := b.size; omega
  have zu_8 : w1.heap.size < w8.heap.size := by omega
  have zg_8 : w2.heap.size < w8.heap.size := by omega
  have zh_8 : w6.heap.size < w8.heap.size := by omega
  clear b
  clear Vu_7 zu_7 Vg_7 zg_7 Vh_7 zh_7 Ou_7 Og_7 Oh_7 B_7
  go_wp2_with fail
  go_ret
  exact ⟨rfl, B_8.out⟩
theorem walk (xW : Int) (xH : Int) (xA : Int) (xO : Int) (w : World) (hW : (Lit.int .i64 xW).wf = true) (hH : (Lit.int .i64 xH).wf = true) (hA : (Lit.int .i64 xA).wf = true) (hO : (Lit.int .i64 xO).wf = true) : Calls Try.prog 8 #[.int .i64 xW, .int .i64 xH, .int .i64 xA, .int .i64 xO] w fun e w' => e = .returned (.bool true) ∧ Below w.heap.size w w' := by
  exact walkG xW xH xA xO w (resFeather xW xH xA xO) (fun  w  => c_sFeatherMask xW xH xA xO w  hW hH hA hO) (fun  w  => c_iFeatherMask xW xH xA xO w  hW hH hA hO)  
theorem own : ownKnob Try.prog.godebug = none := by kernel_rfl
theorem laidOut : laidOutB Try.prog = true := by kernel_rfl
set_option maxRecDepth 100000 in
theorem lifted (os : Os) (started : os.Started) (H : Type) (enc : TypeId × Value → H) :
    ReturnsInHanded {} Try.checked os 8 .any (Rows.fnExactFeatherMaskSpec.pre6 enc Try.prog Try.f8 Rows.fnExactFeatherMaskRow.domain false) (Rows.fnExactFeatherMaskSpec.post enc Try.prog Try.f8 false true false false) := by
  refine returnsInHanded_of_change (C := Try.checked) own started (by kernel_rfl) Try.func8
    (ChangeSpec.witness6 (enc := enc) (C := Try.checked) false ⟨#[], #[.int .i64 0, .int .i64 0, .int .i64 0, .int .i64 0], []⟩ 8 (by kernel_rfl) (by kernel_rfl) (by kernel_rfl) (by kernel_rfl)) ?_
  intro W base args ds gs before hval0 hW hcnd _
  have hval : ∀ (j : Nat) t v, Try.f8.params[j]? = some t → args[j]? = some v → Value.okWide Try.prog W .any base t v := hval0
  have hW' := hW
  obtain ⟨p, q, hA0, hV, rfl, hfz, hnd⟩ := hW
  have hA : DataW.TrodAll enc Try.prog W 0 (fun _ => true) true Try.f8.params.toList args.toList ds p := hA0
  rw [Try.params8] at hA hval
  obtain ⟨v0, vs0, d0, ds0, p0, q0, hargs, rfl, rfl, h0, r0⟩ := trodAll_cons hA
  obtain ⟨v1, vs1, d1, ds1, p1, q1, rfl, rfl, rfl, h1, r1⟩ := trodAll_cons r0
  obtain ⟨v2, vs2, d2, ds2, p2, q2, rfl, rfl, rfl, h2, r2⟩ := trodAll_cons r1
  obtain ⟨v3, vs3, d3, ds3, p3, q3, rfl, rfl, rfl, h3, r3⟩ := trodAll_cons r2
  obtain ⟨rfl, rfl, rfl⟩ := trodAll_nil r3
  obtain rfl : args = #[v0, v1, v2, v3] := by cases args; simp_all
  obtain ⟨rfl, rfl⟩ := trodVars_none hV
  obtain ⟨a0, rfl, rfl, rfl, w0⟩ := open_int Try.underlying2 (hval 0 2 v0 rfl rfl) h0
  obtain ⟨a1, rfl, rfl, rfl, w1⟩ := open_int Try.underlying2 (hval 1 2 v1 rfl rfl) h1
  obtain ⟨a2, rfl, rfl, rfl, w2⟩ := open_int Try.underlying2 (hval 2 2 v2 rfl rfl) h2
  obtain ⟨a3, rfl, rfl, rfl, w3⟩ := open_int Try.underlying2 (hval 3 2 v3 rfl rfl) h3
  clear hA0 hval0
  have hw0 : Calls Try.prog 8 #[.int .i64 a0, .int .i64 a1, .int .i64 a2, .int .i64 a3] W fun e w' => e = .returned (.bool true) ∧ Below W.heap.size W w' := by
    exact walk a0 a1 a2 a3 W w0 w1 w2 w3
  refine hw0.mono fun e W' ⟨he, bel⟩ => ?_
  subst he
  exact ⟨_, rfl, _, _, _, [], _, [], hW', trodAll_mk1 (shut_bool Try.underlying4 _), (trodAll_cons_mk (shut_int Try.underlying2 w0) (trodAll_cons_mk (shut_int Try.underlying2 w1) (trodAll_cons_mk (shut_int Try.underlying2 w2) (trodAll_cons_mk (shut_int Try.underlying2 w3) trodAll_mk0)))), rfl, bel.frame _, fun h => by cases h⟩

theorem over : Rows.fnExactFeatherMaskRow.holds Try.pinned (OpenSpec.ofChange Rows.fnExactFeatherMaskSpec) :=
  OpenClaim.holds_of_wide 8 Try.f8 rfl rfl rfl rfl rfl rfl rfl ⟨rfl, rfl, rfl, rfl, rfl⟩ rfl rfl rfl rfl rfl (by kernel_rfl) Try.func8 (by kernel_rfl)
    (of_decide_eq_true (by kernel_rfl)) (by unfold Func.isWrapper; first | (rw [if_pos (by decide +kernel)]; kernel_rfl) | (rw [if_neg (by decide +kernel)]; exact ⟨rfl, rfl⟩))
    (fun os started H enc _ => lifted os started H enc)

theorem proved : Rows.FnExactFeatherMaskSaid := over
#print axioms proved

end Go.Proofs.Ytclbliflmhjebaa.fnExactFeatherMask

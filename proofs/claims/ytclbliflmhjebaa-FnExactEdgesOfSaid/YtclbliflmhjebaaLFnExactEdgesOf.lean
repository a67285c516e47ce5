/-
  FnExactEdgesOf: for every input this law of the program returns true, and each argument reads as before. No condition.
-/
import Derived.Test.YtclbliflmhjebaaRows
import Derived.Test.YtclbliflmhjebaaRow
import Derived.Test.YtclbliflmhjebaaMn
import Derived.Test.YtclbliflmhjebaaOw
import Derived.Test.YtclbliflmhjebaaAp
import Derived.ProofKit
import Derived.OpenShut
import Derived.ShutString
import Derived.ChangeOld
import Derived.Below
import Derived.Lib.Hide
import Derived.Outline
import Derived.Deep.RegionHeld3
import Derived.Deep.DeepCutAuto
set_option linter.unusedSimpArgs false
set_option linter.unusedVariables false
set_option exponentiation.threshold 2000
set_option maxRecDepth 20000
set_option maxHeartbeats 4000000
namespace Go.Proofs.Ytclbliflmhjebaa.fnExactEdgesOf
open Go Go.Proofs.Ytclbliflmhjebaa Go.Proofs
open Go.ChangeShapes Go.WideShapes Go.ChangeAt Go.RowKit
open Go.ChangeMaps (open_string shut_string)
/-! ### szPicture -/
theorem c_szF (a : Option Addr) (len cap : Nat) (L : Int) (w : World) (h : (len : Int) ≤ L) (hL : L ≤ 1048576) : Calls Try.prog 60 #[.slice a len cap, .int .i64 L] w (fun e w' => e = .returned (.int .i64 (L - (len : Int))) ∧ w' = w) := by
  have h' : ¬ (L - (len : Int) < 0) := by omega
  go_enter Try.func60, Try.ntmps60
  go_wp2
  go_ret
  exact ⟨rfl, rfl⟩
theorem c_szF_no (a : Option Addr) (len cap : Nat) (L : Int) (w : World) (h : L < len) (hL : 0 ≤ L) (hm : len ≤ 9223372036854775807) : Calls Try.prog 60 #[.slice a len cap, .int .i64 L] w (fun e w' => e = .returned (.int .i64 (-1)) ∧ w' = w) := by
  have h' : L - (len : Int) < 0 := by omega
  go_enter Try.func60, Try.ntmps60
  go_wp2
  go_ret
  exact ⟨rfl, rfl⟩
theorem c_szP (W H : Int) (a : Option Addr) (len cap : Nat) (L : Int) (w : World) (h : (len : Int) ≤ L) (hL : L ≤ 1048576) : Calls Try.prog 15 #[.agg #[.int .i64 W, .int .i64 H, .slice a len cap], .int .i64 L] w (RetB (.int .i64 (L - (len : Int))) w) := by
  have h' : ¬ (L - (len : Int) < 0) := by omega
  go_enter Try.func15, Try.ntmps15
  go_wp2_with (go_at_call 60; refine (c_szF a len cap L _ h hL).mono ?_; rintro _ _ ⟨rfl, rfl⟩)
  go_ret
  exact ⟨rfl, (Below.refl _ _).alloc (Nat.le_refl _) _⟩
theorem c_szP_no (W H : Int) (a : Option Addr) (len cap : Nat) (L : Int) (w : World) (h : L < len) (hL : 0 ≤ L ∧ len ≤ 9223372036854775807) : Calls Try.prog 15 #[.agg #[.int .i64 W, .int .i64 H, .slice a len cap], .int .i64 L] w (RetB (.int .i64 (-1)) w) := by
  go_enter Try.func15, Try.ntmps15
  go_wp2_with (go_at_call 60; refine (c_szF_no a len cap L _ h hL.1 hL.2).mono ?_; rintro _ _ ⟨rfl, rfl⟩)
  go_ret
  exact ⟨rfl, (Below.refl _ _).alloc (Nat.le_refl _) _⟩
/-! ### toOwn -/
theorem infoFo : (Try.prog.info? 38).map (fun i => (i.zero, i.size, i.bytes)) = some (some (.float .f32 0), 1, 4) := by kernel_rfl
theorem c_toO (a : Option Addr) (len cap : Nat) (zs : List Nat) (w : World) (hr : IsRowF .f32 w a len cap zs) (hl : len ≤ 1048576) : Calls Try.prog 44 #[.slice a len cap] w (NewO 38 len zs w) := by
  obtain ⟨i0, hi, hz0, hz1, hz2⟩ := info_parts infoFo
  obtain ⟨h1, h2, h3, h4, h5⟩ := hr
  go_enter Try.func44, Try.ntmps44
  go_wp2_with (at_make; refine wpList_make_full _ rfl _ _ 22 rfl w.heap.size 38 i0 (.float .f32 0) 1 Try.underlying22 hi hz0 hz1 _ _ _ _ len rfl rfl rfl rfl (by rw [hz2]; omega) (by unfold maxLen; omega) (by simp) ?_; intro w1 hown hgrow)
  have hblk := block_of_owns hown
  have e0 : (madeCells (Value.float FloatKind.f32 0).cells (len * 1)).toList = List.replicate len (.float .f32 0) := by rw [Nat.mul_one]; exact made_zeros _ _
  rw [e0] at hblk
  have hbel : Below w.heap.size w w1 := (Below.refl _ _).grown hgrow (Nat.le_refl _) (by simp)
  have HB := Lib.hid hblk
  clear hown hgrow hblk e0 hz0 hz1 hz2
  go_loopw [4] (fun i wr => ∃ j : Nat, j ≤ len ∧ i = .int .i64 j ∧ Below w.heap.size w wr ∧ wr.heap[w.heap.size]? = some (.cells (fl .f32 (zs.take j) ++ List.replicate (zs.length - j) (Value.float .f32 0)).toArray 38 (0, 0))) (fun i _ => len - (intOf i).toNat)
  case atStart => exact ⟨0, Nat.zero_le _, rfl, hbel, by rw [HB.out, h1]; rfl⟩
  case round =>
    obtain ⟨j, hj, rfl, hb, hblk⟩ := hrel
    have Hblk := Lib.hid hblk
    clear hblk
    by_cases hlt : j < len
    · rcases h5 with h5 | ⟨b, off, rfl, hbl, hc⟩
      · omega
      have hcell : wr.cell? ⟨b, off + j, none⟩ = some (.float .f32 (fat zs j)) := by rw [hb.cell (p := ⟨b, off + j, none⟩) hbl]; exact hc j hlt
      have hold : wr.cell? ⟨w.heap.size, j, none⟩ = some (.float .f32 0) := by
        rw [cell_of_block Hblk.out, List.getElem?_append_right (by simp [fl]; omega)]
        have e : (fl FloatKind.f32 (List.take j zs)).length = j := by simp [fl]; omega
        rw [e, Nat.sub_self, List.getElem?_replicate, if_pos (by omega)]
      have hfz : wr.frozen? ⟨w.heap.size, j, none⟩ = false := frozen_of_block Hblk.out j
      have hset := block_set Hblk.out j (.float .f32 (fat zs j))
      rw [set_step zs _ j (by omega)] at hset
      have Hset := Lib.hid hset
      clear hset hc
      go_wp2
      go_roundw
      case rel => exact ⟨j + 1, by omega, by go_num, hb.setCell (Nat.le_refl _) _, Hset.out⟩
      case measure => simp [intOf]; omega
    · obtain rfl : j = len := by omega
      have e1 : fl .f32 (zs.take j) ++ List.replicate (zs.length - j) (Value.float .f32 0) = fl .f32 zs := by rw [h1, Nat.sub_self, List.replicate_zero, List.append_nil, List.take_of_length_le (by omega)]
      have hblk2 := Hblk.out
      rw [e1] at hblk2
      have hown : Own 38 wr w.heap.size (some ⟨w.heap.size, 0, none⟩) j j zs :=
        ⟨h1, ⟨by simp [fl, h1], .inr ⟨w.heap.size, j, _, rfl, Nat.le_refl _, hblk2, Nat.le_refl _, by unfold maxLen; omega, by simp [fl, h1], by rw [List.take_of_length_le (by simp [fl, h1])]⟩⟩, h4⟩
      have HO := Lib.hid hown
      clear hown hblk2 e1
      go_wp2
      go_ret
      exact ⟨w.heap.size, rfl, hb, HO.out⟩
/-! ### toPicture -/
theorem c_toP (W H : Int) (a : Option Addr) (len cap : Nat) (zs : List Nat) (w : World) (hr : IsRowF .f32 w a len cap zs) (hl : len ≤ 1048576) : Calls Try.prog 17 #[.agg #[.int .i64 W, .int .i64 H, .slice a len cap]] w (NewP 38 W H zs w) := by
  have HR := Lib.hid hr
  have HL := Lib.hid hr.1
  clear hr
  go_enter Try.func17, Try.ntmps17
  go_wp2_with fail
  refine (c_toO a len cap zs _ (HR.out.below ((((Below.refl _ _).alloc (Nat.le_refl _) _).alloc (by simp) _).alloc (by simp; omega) _)) hl).mono ?_
  rintro _ w1 ⟨g, rfl, hb, hown⟩
  obtain ⟨hc, hf⟩ := bcell hb
  have hz : w.heap.size + 1 + 1 < w1.heap.size := by have := hb.size; simp at this; omega
  have hg' : w.heap.size + 1 + 1 < g := by have := hown.lt.1; simp at this; omega
  have HB := Lib.hid hb
  have HO := Lib.hid hown
  clear hb hown
  go_wp2_with fail
  refine bodyPost_ret (v := .agg #[.int .i64 W, .int .i64 H, .slice (some ⟨g, 0, none⟩) len len]) (by simp [results, Try.results17, hc, hz, go_sem]) rfl ⟨g, by rw [HL.out], ?_, ?_⟩
  · exact ((((((((Below.refl _ _).alloc (Nat.le_refl _) _).alloc (by simp) _).alloc (by simp; omega) _).trans (HB.out.mono (by simp; omega))).setCell (by simp; omega) _).setCell (by simp) _).setCell (by simp) _).setCell (by simp) _
  · rw [HL.out]
    exact ((((HO.out.setCell (by simp [blk]; omega) _).setCell (by simp [blk]; omega) _).setCell (by simp [blk]; omega) _).setCell (by simp [blk]; omega) _).mono (by simp; omega)
/-! ### sameFloat -/
theorem c_sameFloat (v n m : Nat) (w : World) (j : Nat) : Calls Try.prog 28 #[.float .f64 (pick .f64 v n), .float .f64 (pick .f64 v m)] (w.drewN j) (RetV (.bool true) w) := by
  have hs := self_ne .f64 v
  have ht := self_eq .f64 v
  cases h : isN .f64 v
  · rw [h] at hs ht
    cases h2 : (FloatKind.f64.format.order v 0 == some .eq)
    · go_enter Try.func28, Try.ntmps28
      go_wp2_with (first | (refine wpList_fop rfl _ _ _ _ _ rfl _ _ _ rfl rfl (by decide) _ ?_; intro _ _) | (refine upon_fop _ _ _ _ _ (by decide) ?_; intro _ _))
      go_ret
      exact ⟨_, rfl, rfl⟩
    · go_enter Try.func28, Try.ntmps28
      go_wp2_with (first | (refine wpList_fop rfl _ _ _ _ _ rfl _ _ _ rfl rfl (by decide) _ ?_; intro _ _) | (refine upon_fop _ _ _ _ _ (by decide) ?_; intro _ _))
      go_ret
      exact ⟨_, by simp, rfl⟩
  · rw [h] at hs ht
    go_enter Try.func28, Try.ntmps28
    go_wp2_with (first | (refine wpList_fop rfl _ _ _ _ _ rfl _ _ _ rfl rfl (by decide) _ ?_; intro _ _) | (refine upon_fop _ _ _ _ _ (by decide) ?_; intro _ _))
    go_ret
    exact ⟨_, rfl, rfl⟩

/-! ### eqFloat32S -/
theorem c_eqF (a b : Option Addr) (len c d : Nat) (zs : List Nat) (w : World) (j0 : Nat) (hr : IsRowF .f32 w a len c zs) (hs : IsRowF .f32 w b len d zs) : Calls Try.prog 46 #[.slice a len c, .slice b len d] (w.drewN j0) (RetV (.bool true) w) := by
  obtain ⟨h1, h2, h3, h4, h5⟩ := hr
  obtain ⟨g1, g2, g3, g4, g5⟩ := hs
  unfold maxLen at h3
  go_enter Try.func46, Try.ntmps46
  go_wp2
  go_loopw [5] (fun i wr => ∃ k m : Nat, k ≤ len ∧ i = .int .i64 k ∧ wr = w.drewN m) (fun i _ => len - (intOf i).toNat)
  case atStart => exact ⟨0, j0, Nat.zero_le _, rfl, rfl⟩
  case round =>
    obtain ⟨k, m, hk, rfl, rfl⟩ := hrel
    by_cases hlt : k < len
    · rcases h5 with h5 | ⟨x, off, rfl, hbl, hc⟩
      · omega
      rcases g5 with g5 | ⟨y, off2, rfl, gbl, gc⟩
      · omega
      have hcell : w.cell? ⟨x, off + k, none⟩ = some (.float .f32 (fat zs k)) := hc k hlt
      have gcell : w.cell? ⟨y, off2 + k, none⟩ = some (.float .f32 (fat zs k)) := gc k hlt
      clear hc h4 gc g4
      go_wp2
      refine wp_region_N (fun _ _ u => u = .bool true) (by kernel_rfl) (by kernel_rfl) ?_; (repeat (first | ((with_reducible show wpN _ _ _ _ _ (Oper.mk _ (Op.binOp _ _ _ _ _) _ _ _ none :: _) _); refine wpN_fop rfl _ _ _ _ _ rfl _ _ _ rfl rfl (by decide) ?_; intro _) | ((with_reducible show wpN _ _ _ _ _ (Oper.mk _ (Op.convert _ _ _) _ _ _ none :: _) _); refine wpN_cvU rfl 38 42 _ rfl (Option.isSome_iff_exists.2 ⟨_, Try.underlying38⟩) Try.underlying42 _ rfl ?_; intro _) | ((with_reducible show wpN _ _ _ _ _ (Oper.mk _ _ _ _ _ (some _) :: _) _); (with_reducible refine wpN_off ?_ ?_); focus rfl; (simp only [Act.put, List.setIfInBounds_toArray, List.set_cons_zero, List.set_cons_succ])) | ((with_reducible show wpN _ _ _ _ _ (Oper.mk _ _ _ _ _ (some _) :: _) _); ((with_reducible refine wpN_on ?_ (fun K hK => ?_)); (focus rfl); intro _; go_simp; first | (refine uponN_value (hK _ ?_)) | ((refine uponN_call (callN rfl (c_sameFloat _ _ _ _ _)) ?_; intro u hu; obtain rfl : u = _ := hu); refine hK _ ?_)); clear hK K) | (((with_reducible refine wpN_plain rfl (fun K hK => ?_)); intro _; go_simp; first | (refine uponN_value (hK _ ?_)) | ((refine uponN_call (callN rfl (c_sameFloat _ _ _ _ _)) ?_; intro u hu; obtain rfl : u = _ := hu); refine hK _ ?_)); clear hK K) | ((with_reducible refine wpN_step (fun K hK => ?_)); go_simp; first | (refine hK _ ?_) | (intro _; first | (refine uponN_value (hK _ ?_)) | ((refine uponN_call (callN rfl (c_sameFloat _ _ _ _ _)) ?_; intro u hu; obtain rfl : u = _ := hu); refine hK _ ?_)); clear hK K))); refine wpN_nil ?_; intro _
      go_wp2
      go_roundw
      case rel => exact ⟨k + 1, _, by omega, by go_num, rfl⟩
      case measure => simp [intOf]; omega
    · clear h5 h4 g4 g5
      go_wp2
      go_ret
      exact ⟨_, rfl, rfl⟩
/-! ### eqPicture -/
theorem c_eqF0 (a b : Option Addr) (len c d : Nat) (zs : List Nat) (w : World) (hr : IsRowF .f32 w a len c zs) (hs : IsRowF .f32 w b len d zs) : Calls Try.prog 46 #[.slice a len c, .slice b len d] w (RetV (.bool true) w) := by
  have h := c_eqF a b len c d zs w 0 hr hs
  rwa [w.drewN_zero] at h
theorem c_eqP (W H : Int) (a b : Option Addr) (len c d : Nat) (zs : List Nat) (w : World) (hr : IsRowF .f32 w a len c zs) (hs : IsRowF .f32 w b len d zs) : Calls Try.prog 19 #[.agg #[.int .i64 W, .int .i64 H, .slice a len c], .agg #[.int .i64 W, .int .i64 H, .slice b len d]] w (RetB (.bool true) w) := by
  have HR := Lib.hid hr
  have HS := Lib.hid hs
  clear hr hs
  go_enter Try.func19, Try.ntmps19
  go_wp2_with fail
  refine (c_eqF0 a b len c d zs _ ((HR.out.alloc _).alloc _) ((HS.out.alloc _).alloc _)).mono ?_
  rintro _ _ ⟨m, rfl, rfl⟩
  go_wp2_with fail
  go_ret
  exact ⟨rfl, below_drewN (((Below.refl _ _).alloc (Nat.le_refl _) _).alloc (by simp) _) _⟩
/-! ### markFloat32S -/
theorem c_markF {T : TypeId} (B : Nat) (a : Option Addr) (len cap k : Nat) (zs : List Nat) (w : World) (hr : Own T w B a len cap zs) (hk : k + len ≤ 4611686018427387904) : Calls Try.prog 47 #[.slice a len cap, .int .i64 k] w (fun e w' => e = .returned (.int .i64 ((k + len : Nat) : Int)) ∧ w.grownBy w' (blk a) ∧ Own T w' B a len cap (marks k len)) := by
  rcases hr.parts with ⟨rfl, rfl, rfl, rfl⟩ | ⟨g, cur, rfl, hb, hg, hl, hm, hs, ht⟩
  · clear hr
    go_enter Try.func47, Try.ntmps47
    go_wp2
    refine wp_loop_rounds 1 ?_; rw [rounds_succ]
    go_wp2
    go_ret
    exact ⟨rfl, ⟨rfl, rfl, rfl, Nat.le_refl _, fun _ _ _ => rfl⟩, Own.nil _ _ _⟩
  · have h0 : Marked w g T cap k 0 := ⟨cur, hg, hs, fun i hi => by omega⟩
    have H0 := Lib.hid h0
    unfold maxLen at hm
    clear hr hg hs ht h0
    go_enter Try.func47, Try.ntmps47
    go_wp2
    go_loopw [1, 5] (fun t i wr => ∃ j : Nat, j ≤ len ∧ i = .int .i64 j ∧ t = .int .i64 ((k + j : Nat) : Int) ∧ w.grownBy wr (some g) ∧ Marked wr g T cap k j) (fun _ i _ => len - (intOf i).toNat)
    case atStart => exact ⟨0, Nat.zero_le _, rfl, rfl, ⟨rfl, rfl, rfl, Nat.le_refl _, fun _ _ _ => rfl⟩, H0.out⟩
    case round =>
      obtain ⟨j, hj, rfl, rfl, hgr, hM⟩ := hrel
      by_cases hlt : j < len
      · obtain ⟨v, hcell, hfz⟩ := hM.cell (j := j) (by omega)
        have hM2 := Lib.hid (hM.step (by omega : j < cap))
        have hG2 := Lib.hid hgr
        clear hM hgr
        go_wp2
        go_roundw
        case rel => exact ⟨j + 1, by omega, by go_num, by go_num, ⟨hG2.out.os, hG2.out.tape, hG2.out.output, by have := hG2.out.size; simpa using this, fun k' h1 h2 => by rw [Below.heap_setCell _ _ _ _ (fun e => h2 (by rw [e]))]; exact hG2.out.block k' h1 h2⟩, hM2.out⟩
        case measure => simp [intOf]; omega
      · obtain rfl : j = len := by omega
        have hO := Lib.hid (hM.own (B := B) hb hl (by unfold maxLen; omega))
        have hG2 := Lib.hid hgr
        clear hM hgr
        go_wp2
        go_ret
        exact ⟨rfl, hG2.out, hO.out⟩
/-! ### heldFloat32S -/
theorem c_heldF (a : Option Addr) (len cap k : Nat) (w : World) (hr : IsRowF .f32 w a len cap (marks k len)) (hk : k + len ≤ 4611686018427387904) : Calls Try.prog 48 #[.slice a len cap, .int .i64 k] w (fun e w' => e = .returned (.int .i64 ((k + len : Nat) : Int)) ∧ w' = w) := by
  obtain ⟨h1, h2, h3, h4, h5⟩ := hr
  unfold maxLen at h3
  clear h1 h4
  go_enter Try.func48, Try.ntmps48
  go_wp2
  go_loop [1, 5] (fun t i => ∃ j : Nat, j ≤ len ∧ i = .int .i64 j ∧ t = .int .i64 ((k + j : Nat) : Int)) (fun _ i => len - (intOf i).toNat)
  case atStart => exact ⟨0, Nat.zero_le _, rfl, rfl⟩
  case round =>
    obtain ⟨j, hj, rfl, rfl⟩ := hrel
    by_cases hlt : j < len
    · rcases h5 with h5 | ⟨b, off, rfl, hbl, hc⟩
      · omega
      have hcell : w.cell? ⟨b, off + j, none⟩ = some (.float .f32 (markN k j)) := by rw [← marks_at k len j hlt]; exact hc j hlt
      have hne : (FloatKind.f32.format.order (markN k j) (markN k j) != some .eq) = false := by rw [self_ne]; exact markN_notN k j
      have hE : floatOfInt .f32 ((k : Int) + (j : Int)) = markN k j := by unfold markN; rw [Int.natCast_add]
      have hne2 : (FloatKind.f32.format.order (markN k j) (floatOfInt .f32 ((k : Int) + (j : Int))) != some .eq) = false := (congrArg (fun x => FloatKind.f32.format.order (markN k j) x != some .eq) hE).trans hne
      clear hE
      clear hc
      go_wp2
      go_round
      case rel => exact ⟨j + 1, by omega, by go_num, by go_num⟩
      case measure => simp [intOf]; omega
    · obtain rfl : j = len := by omega
      clear h5
      go_wp2
      go_ret
      exact ⟨rfl, rfl⟩
/-! ### markPicture -/
theorem c_markP (W H : Int) (B : Nat) (a : Option Addr) (len cap k : Nat) (zs : List Nat) (w : World) (hr : Own 38 w B a len cap zs) (hk : k + len ≤ 4611686018427387904) : Calls Try.prog 20 #[.agg #[.int .i64 W, .int .i64 H, .slice a len cap], .int .i64 k] w (fun e w' => e = .returned (.int .i64 ((k + len : Nat) : Int)) ∧ w.grownBy w' (blk a) ∧ Own 38 w' B a len cap (marks k len)) := by
  have HR := Lib.hid hr
  clear hr
  go_enter Try.func20, Try.ntmps20
  go_wp2_with fail
  refine (c_markF B a len cap k zs _ (HR.out.alloc _) hk).mono ?_
  rintro _ w1 ⟨rfl, hg, hO⟩
  have HG := Lib.hid hg
  have HO := Lib.hid hO
  clear hg hO
  go_wp2_with fail
  go_ret
  exact ⟨rfl, ⟨HG.out.os, HG.out.tape, HG.out.output, by have := HG.out.size; simp at this; omega, fun k' h1 h2 => by rw [HG.out.block k' (by simp; omega) h2]; exact Below.heap_alloc _ _ _ h1⟩, HO.out⟩
theorem c_heldP (W H : Int) (a : Option Addr) (len cap k : Nat) (w : World) (hr : IsRowF .f32 w a len cap (marks k len)) (hk : k + len ≤ 4611686018427387904) : Calls Try.prog 21 #[.agg #[.int .i64 W, .int .i64 H, .slice a len cap], .int .i64 k] w (RetB (.int .i64 ((k + len : Nat) : Int)) w) := by
  have HR := Lib.hid hr
  clear hr
  have h0 : 0 ≤ ((k + len : Nat) : Int) := by omega
  go_enter Try.func21, Try.ntmps21
  go_wp2_with fail
  refine (c_heldF a len cap k _ (HR.out.alloc _) hk).mono ?_
  rintro _ w1 ⟨rfl, rfl⟩
  go_wp2_with fail
  go_ret
  exact ⟨rfl, (Below.refl _ _).alloc (Nat.le_refl _) _⟩

/-! ### ordDefs -/
theorem cmp_bools (a b : Int) : ((some (compare a b) == some Ordering.lt) = decide (a < b)) ∧ ((some (compare a b) == some Ordering.gt) = decide (b < a)) ∧ ((some (compare a b) == some Ordering.eq) = decide (a = b)) := by
  rcases Int.lt_trichotomy a b with h | h | h
  · rw [cmp_of_lt h, decide_eq_true h, decide_eq_false (by omega), decide_eq_false (by omega)]; exact ⟨rfl, rfl, rfl⟩
  · subst h; rw [Int.compare_eq_eq.2 rfl, decide_eq_false (by omega), decide_eq_true rfl]; exact ⟨rfl, rfl, rfl⟩
  · rw [cmp_of_gt h, decide_eq_false (by omega), decide_eq_true h, decide_eq_false (by omega)]; exact ⟨rfl, rfl, rfl⟩
theorem o_lt {v c : Nat} (h : isN .f32 v = false) (hc : isN .f32 c = false) : (FloatKind.f32.format.order v c == some .lt) = decide (srung FloatKind.f32.format v < srung FloatKind.f32.format c) := by
  rw [order_rungs .f32 v c h hc]; exact (cmp_bools _ _).1
theorem o_gt {v c : Nat} (h : isN .f32 v = false) (hc : isN .f32 c = false) : (FloatKind.f32.format.order v c == some .gt) = decide (srung FloatKind.f32.format c < srung FloatKind.f32.format v) := by
  rw [order_rungs .f32 v c h hc]; exact (cmp_bools _ _).2.1
theorem o_eq {v c : Nat} (h : isN .f32 v = false) (hc : isN .f32 c = false) : (FloatKind.f32.format.order v c == some .eq) = decide (srung FloatKind.f32.format v = srung FloatKind.f32.format c) := by
  rw [order_rungs .f32 v c h hc]; exact (cmp_bools _ _).2.2
theorem o_le {v c : Nat} (h : isN .f32 v = false) (hc : isN .f32 c = false) : (FloatKind.f32.format.order v c == some .lt || FloatKind.f32.format.order v c == some .eq) = decide (srung FloatKind.f32.format v ≤ srung FloatKind.f32.format c) := by
  rw [o_lt h hc, o_eq h hc, ← Bool.decide_or]; exact decide_eq_decide.2 (by omega)
theorem o_ge {v c : Nat} (h : isN .f32 v = false) (hc : isN .f32 c = false) : (FloatKind.f32.format.order v c == some .gt || FloatKind.f32.format.order v c == some .eq) = decide (srung FloatKind.f32.format c ≤ srung FloatKind.f32.format v) := by
  rw [o_gt h hc, o_eq h hc, ← Bool.decide_or]; exact decide_eq_decide.2 (by omega)
theorem s_zero : srung FloatKind.f32.format 0 = 0 := by decide +kernel
theorem s_half : srung FloatKind.f32.format 1056964608 = 1056964608 := by decide +kernel
theorem s_one : srung FloatKind.f32.format 1065353216 = 1065353216 := by decide +kernel
theorem n_zero : isN .f32 0 = false := by decide +kernel
theorem n_half : isN .f32 1056964608 = false := by decide +kernel
theorem n_one : isN .f32 1065353216 = false := by decide +kernel
theorem pick_zero (n : Nat) : pick .f32 0 n = 0 := pick_not n_zero n
/-! ### haloFacts -/
theorem zero_read {g : Nat} (h : rung Ieee.single g = 0) : Ieee.single.read g = .number (sgn Ieee.single g) 0 Ieee.single.leastPlace := by
  unfold Ieee.Format.read
  have hb : g % Ieee.single.signWeight = 0 := h
  dsimp only
  rw [hb, if_pos (by decide +kernel)]
  rfl
theorem rung_word0 (f : Ieee.Format) (s : Bool) : rung f (f.word s 0) = 0 := by
  unfold rung Ieee.Format.word
  cases s <;> simp
theorem srung_of_zero {f : Ieee.Format} {a : Nat} (h : rung f a = 0) : srung f a = 0 := by unfold srung; rw [h]; split <;> rfl
theorem signed_zero (t : Bool) (k : Nat) : Ieee.signed t 0 k = 0 := by unfold Ieee.signed; cases t <;> simp
theorem number_zero (f : Ieee.Format) (s : Bool) (p : Int) : srung f (f.write (.number s 0 p)) = 0 := by
  show srung f (f.nearest s 0 p) = 0
  unfold Ieee.Format.nearest
  rw [if_pos rfl]
  exact srung_of_zero (rung_word0 f s)
/-- A difference doesn't ask for the sign of a zero, but for its own zero's. -/
theorem sub_zeros {x g h : Nat} (hx : rung Ieee.single x < Ieee.single.infRung) (hg : rung Ieee.single g = 0) (hh : rung Ieee.single h = 0) :
    srung Ieee.single (fop .sub .f32 x g) = srung Ieee.single (fop .sub .f32 x h) := by
  obtain ⟨m, e, r1, _, _⟩ := read_fin Ieee.single x hx
  have hf : FloatKind.f32.format = Ieee.single := rfl
  unfold fop floatBits
  rw [hf]
  simp only [Ieee.Format.sub, r1, zero_read hg, zero_read hh, Ieee.Datum.opposite, Ieee.Datum.sum, signed_zero, Int.add_zero, Option.map_some, Option.getD_some]
  generalize Ieee.signed (sgn Ieee.single x) m (e - min e Ieee.single.leastPlace).toNat = t
  by_cases ht : t = 0
  · subst ht; exact (number_zero _ _ _).trans (number_zero _ _ _).symm
  · rw [if_neg ht, if_neg ht]
theorem zeros_sub {x g h : Nat} (hx : rung Ieee.single x < Ieee.single.infRung) (hg : rung Ieee.single g = 0) (hh : rung Ieee.single h = 0) :
    srung Ieee.single (fop .sub .f32 g x) = srung Ieee.single (fop .sub .f32 h x) := by
  obtain ⟨m, e, r1, _, _⟩ := read_fin Ieee.single x hx
  have hf : FloatKind.f32.format = Ieee.single := rfl
  unfold fop floatBits
  rw [hf]
  simp only [Ieee.Format.sub, r1, zero_read hg, zero_read hh, Ieee.Datum.opposite, Ieee.Datum.sum, signed_zero, Int.zero_add, Option.map_some, Option.getD_some]
  generalize Ieee.signed (!sgn Ieee.single x) m (e - min Ieee.single.leastPlace e).toNat = t
  by_cases ht : t = 0
  · subst ht; exact (number_zero _ _ _).trans (number_zero _ _ _).symm
  · rw [if_neg ht, if_neg ht]
theorem srung_inj {a b : Nat} (ha : a < 2 ^ 32) (hb : b < 2 ^ 32) (h : srung Ieee.single a = srung Ieee.single b) : a = b ∨ (rung Ieee.single a = 0 ∧ rung Ieee.single b = 0) := by
  have hw : Ieee.single.signWeight = 2147483648 := by decide +kernel
  unfold srung rung sgn at h
  unfold rung
  rw [hw] at h ⊢
  have e1 : a / 2147483648 = 0 ∨ a / 2147483648 = 1 := by omega
  have e2 : b / 2147483648 = 0 ∨ b / 2147483648 = 1 := by omega
  rcases e1 with e1 | e1 <;> rcases e2 with e2 | e2 <;> simp [e1, e2] at h <;> omega
theorem maxV_cases {x y : Nat} (hx : isN .f32 x = false) (hy : isN .f32 y = false) : (maxV .f32 x y = x ∨ maxV .f32 x y = y) ∧ srung Ieee.single (maxV .f32 x y) = max (srung Ieee.single x) (srung Ieee.single y) := by
  unfold maxV
  rw [hx, hy, if_neg (by decide), o_lt hx hy, o_gt hx hy]
  have hf : FloatKind.f32.format = Ieee.single := rfl
  rw [hf]
  by_cases h1 : srung Ieee.single x < srung Ieee.single y
  · rw [if_pos (decide_eq_true h1)]; exact ⟨.inr rfl, by omega⟩
  · rw [if_neg (by rw [decide_eq_true_eq]; exact h1)]
    by_cases h2 : srung Ieee.single y < srung Ieee.single x
    · rw [if_pos (decide_eq_true h2)]; exact ⟨.inl rfl, by omega⟩
    · rw [if_neg (by rw [decide_eq_true_eq]; exact h2)]
      split
      · exact ⟨.inr rfl, by omega⟩
      · exact ⟨.inl rfl, by omega⟩
theorem minV_cases {x y : Nat} (hx : isN .f32 x = false) (hy : isN .f32 y = false) : (minV .f32 x y = x ∨ minV .f32 x y = y) ∧ srung Ieee.single (minV .f32 x y) = min (srung Ieee.single x) (srung Ieee.single y) := by
  unfold minV
  rw [hx, hy, if_neg (by decide), o_lt hx hy, o_gt hx hy]
  have hf : FloatKind.f32.format = Ieee.single := rfl
  rw [hf]
  by_cases h1 : srung Ieee.single x < srung Ieee.single y
  · rw [if_pos (decide_eq_true h1)]; exact ⟨.inl rfl, by omega⟩
  · rw [if_neg (by rw [decide_eq_true_eq]; exact h1)]
    by_cases h2 : srung Ieee.single y < srung Ieee.single x
    · rw [if_pos (decide_eq_true h2)]; exact ⟨.inr rfl, by omega⟩
    · rw [if_neg (by rw [decide_eq_true_eq]; exact h2)]
      split
      · exact ⟨.inl rfl, by omega⟩
      · exact ⟨.inr rfl, by omega⟩
/-! ### absFacts -/
theorem fneg_s {v : Nat} (h : isN .f32 v = false) : srung Ieee.single (fneg .f32 v) = - srung Ieee.single v ∧ isN .f32 (fneg .f32 v) = false := by
  refine ⟨?_, by rw [isN_fneg]; exact h⟩
  have e : fneg .f32 v = Op.negFloat .f32 v := by unfold fneg; rw [h]; rfl
  have h1 := rung_neg .f32 v
  have h2 := sgn_neg .f32 v
  have hf : FloatKind.f32.format = Ieee.single := rfl
  rw [hf] at h1 h2
  rw [e]
  unfold srung
  rw [h1, h2]
  cases sgn Ieee.single v <;> simp
theorem fneg_lt {v : Nat} (hv : v < 2 ^ 32) (h : isN .f32 v = false) : fneg .f32 v < 2 ^ 32 := by
  have e : fneg .f32 v = Op.negFloat .f32 v := by unfold fneg; rw [h]; rfl
  have hs : FloatKind.f32.format.signWeight = 2147483648 := by decide +kernel
  rw [e]
  by_cases hlt : v < 2147483648
  · rw [neg_lt .f32 v (by rw [hs]; exact hlt), hs]; omega
  · have h1 := neg_lt .f32 (v - 2147483648) (by rw [hs]; omega)
    have h2 : FloatKind.f32.format.signWeight + (v - 2147483648) = v := by rw [hs]; omega
    rw [h2] at h1
    rw [← h1, neg_neg]; omega
theorem sub0_s {x : Nat} (hx : rung Ieee.single x < Ieee.single.infRung) : srung Ieee.single (fop .sub .f32 0 x) = - srung Ieee.single x ∧ isN .f32 (fop .sub .f32 0 x) = false := by
  obtain ⟨m, e, r1, hlp, hmg⟩ := read_fin Ieee.single x hx
  have hf : FloatKind.f32.format = Ieee.single := rfl
  have h0 : rung Ieee.single 0 = 0 := by decide +kernel
  have s0 : sgn Ieee.single 0 = false := by decide +kernel
  have hb : min Ieee.single.leastPlace e = Ieee.single.leastPlace := by omega
  have hs : Ieee.signed (!sgn Ieee.single x) m (e - Ieee.single.leastPlace).toNat = if sgn Ieee.single x = true then ((mg Ieee.single (rung Ieee.single x) : Nat) : Int) else -((mg Ieee.single (rung Ieee.single x) : Nat) : Int) := by
    unfold Ieee.signed
    rw [Nat.shiftLeft_eq, hmg]
    cases sgn Ieee.single x <;> simp
  have key : fop .sub .f32 0 x = Ieee.single.write (.number (if (if sgn Ieee.single x = true then ((mg Ieee.single (rung Ieee.single x) : Nat) : Int) else -((mg Ieee.single (rung Ieee.single x) : Nat) : Int)) = 0 then false && !sgn Ieee.single x else (if sgn Ieee.single x = true then ((mg Ieee.single (rung Ieee.single x) : Nat) : Int) else -((mg Ieee.single (rung Ieee.single x) : Nat) : Int)) < 0) (if sgn Ieee.single x = true then ((mg Ieee.single (rung Ieee.single x) : Nat) : Int) else -((mg Ieee.single (rung Ieee.single x) : Nat) : Int)).natAbs Ieee.single.leastPlace) := by
    unfold fop floatBits
    rw [hf]
    simp only [Ieee.Format.sub, r1, zero_read h0, s0, Ieee.Datum.opposite, Ieee.Datum.sum, signed_zero, Int.zero_add, Option.map_some, Option.getD_some, hb, hs]
  have hN : isN .f32 (fop .sub .f32 0 x) = false := by
    rw [key]; exact write_notNaN _ _ rfl
  refine ⟨?_, hN⟩
  rw [key]
  clear key hN
  by_cases hz : rung Ieee.single x = 0
  · have M0 : mg Ieee.single (rung Ieee.single x) = 0 := by rw [hz]; exact mg_zero _
    rw [M0, srung_of_zero hz]
    have : (if sgn Ieee.single x = true then ((0 : Nat) : Int) else -((0 : Nat) : Int)) = 0 := by split <;> rfl
    rw [this]
    exact number_zero _ _ _
  · have Mpos : 0 < mg Ieee.single (rung Ieee.single x) := by
      have := mg_lt Ieee.single (r := 0) (s := rung Ieee.single x) (by omega)
      omega
    have hsw : Ieee.single.infRung < Ieee.single.signWeight := by decide +kernel
    have hn : ∀ b, Ieee.single.nearest b (mg Ieee.single (rung Ieee.single x)) Ieee.single.leastPlace = Ieee.single.word b (rung Ieee.single x) := by
      intro b
      obtain ⟨q, e1, h1, h3⟩ := nearest_le Ieee.single b (mg Ieee.single (rung Ieee.single x)) Ieee.single.leastPlace (rung Ieee.single x) (by unfold leRung; exact Nat.le_refl _)
      obtain ⟨q', e2, h2, h4⟩ := nearest_ge Ieee.single b (mg Ieee.single (rung Ieee.single x)) Ieee.single.leastPlace (rung Ieee.single x) (by omega) (by unfold geRung; exact Nat.le_refl _)
      have h5 := (word_signs Ieee.single b q (by omega)).2
      have h6 := (word_signs Ieee.single b q' (by omega)).2
      rw [← e1, e2, h6] at h5
      rw [e1]
      congr 1
      omega
    have hw : ∀ b, srung Ieee.single (Ieee.single.word b (rung Ieee.single x)) = if b = true then -(rung Ieee.single x : Int) else rung Ieee.single x := by
      intro b
      obtain ⟨h1, h2⟩ := word_signs Ieee.single b (rung Ieee.single x) (by omega)
      unfold srung
      rw [h1, h2]
    cases hsx : sgn Ieee.single x
    · simp only [Bool.false_eq_true, if_false]
      rw [if_neg (show ¬ (-((mg Ieee.single (rung Ieee.single x) : Nat) : Int)) = 0 by omega)]
      have e1 : decide (-((mg Ieee.single (rung Ieee.single x) : Nat) : Int) < 0) = true := decide_eq_true (by omega)
      have e2 : (-((mg Ieee.single (rung Ieee.single x) : Nat) : Int)).natAbs = mg Ieee.single (rung Ieee.single x) := by omega
      rw [e1, e2]
      show srung Ieee.single (Ieee.single.nearest true _ _) = _
      rw [hn, hw, if_pos rfl]
      unfold srung
      rw [hsx]; simp
    · simp only [if_true]
      rw [if_neg (show ¬ (((mg Ieee.single (rung Ieee.single x) : Nat) : Int)) = 0 by omega)]
      have e1 : decide (((mg Ieee.single (rung Ieee.single x) : Nat) : Int) < 0) = false := decide_eq_false (by omega)
      have e2 : (((mg Ieee.single (rung Ieee.single x) : Nat) : Int)).natAbs = mg Ieee.single (rung Ieee.single x) := by omega
      rw [e1, e2]
      show srung Ieee.single (Ieee.single.nearest false _ _) = _
      rw [hn, hw, if_neg (by simp)]
      unfold srung
      rw [hsx]; simp
def geB (a b : Nat) : Bool := FloatKind.f32.format.order a b == some .gt || FloatKind.f32.format.order a b == some .eq
def gtB (a b : Nat) : Bool := FloatKind.f32.format.order a b == some .gt
def ltB (a b : Nat) : Bool := FloatKind.f32.format.order a b == some .lt
def leB (a b : Nat) : Bool := FloatKind.f32.format.order a b == some .lt || FloatKind.f32.format.order a b == some .eq
def absP (v : Nat) : Nat := maxV .f32 v (fneg .f32 v)
def absS (v : Nat) : Nat := if leB v 0 = true then fop .sub .f32 0 v else v
structure AbsOk (v u : Nat) : Prop where
  s : srung Ieee.single u = ((srung Ieee.single v).natAbs : Int)
  n : isN .f32 u = false
  lt : u < 2 ^ 32
theorem absP_ok {v : Nat} (hv : v < 2 ^ 32) (hf : finB .f32 v = true) : AbsOk v (absP v) := by
  have h1 : isN .f32 v = false := fin_notN hf
  obtain ⟨h2, h3⟩ := fneg_s h1
  obtain ⟨h4, h5⟩ := maxV_cases h1 h3
  unfold absP
  refine ⟨?_, ?_, ?_⟩
  · rw [h5, h2]; omega
  · rcases h4 with e | e <;> rw [e] <;> assumption
  · rcases h4 with e | e <;> rw [e]
    · exact hv
    · exact fneg_lt hv h1
theorem absS_ok {v : Nat} (hv : v < 2 ^ 32) (hf : finB .f32 v = true) : AbsOk v (absS v) := by
  have h1 : isN .f32 v = false := fin_notN hf
  have hr : rung Ieee.single v < Ieee.single.infRung := of_decide_eq_true hf
  obtain ⟨h2, h3⟩ := sub0_s hr
  unfold absS leB
  rw [o_le h1 n_zero, s_zero]
  have hff : FloatKind.f32.format = Ieee.single := rfl
  rw [hff]
  by_cases hc : srung Ieee.single v ≤ 0
  · rw [decide_eq_true hc, if_pos rfl]
    exact ⟨by rw [h2]; omega, h3, fop_lt _ .f32 _ _⟩
  · rw [decide_eq_false hc, if_neg (by decide)]
    exact ⟨by omega, h1, hv⟩
/-! ### picDefs -/
def sideB (W H : Int) : Bool := decide (1 ≤ W) && decide (W ≤ 16) && (decide (1 ≤ H) && decide (H ≤ 16))
def finL (zs : List Nat) : Bool := zs.all (finB .f32)
def validB (W H : Int) (zs : List Nat) : Bool := sideB W H && decide ((zs.length : Int) = W * H) && finL zs
theorem sideB_true {W H : Int} (h : sideB W H = true) : (1 ≤ W ∧ W ≤ 16) ∧ 1 ≤ H ∧ H ≤ 16 := by simpa [sideB, and_assoc] using h
theorem side_mul {W H : Int} (h : sideB W H = true) : 1 ≤ W * H ∧ W * H ≤ 256 := by
  obtain ⟨⟨h1, h2⟩, h3, h4⟩ := sideB_true h
  have : W * H ≤ 16 * 16 := Int.mul_le_mul h2 h4 (by omega) (by omega)
  have h5 : 1 * 1 ≤ W * H := Int.mul_le_mul h1 h3 (by omega) (by omega)
  omega
theorem sideB_false {W H : Int} (h : sideB W H = false) : W < 1 ∨ 16 < W ∨ H < 1 ∨ 16 < H := by
  simp [sideB] at h; omega
theorem finL_snoc (zs : List Nat) (k : Nat) (hk : k < zs.length) : finL (zs.take (k + 1)) = (finL (zs.take k) && finB .f32 (fat zs k)) := by
  unfold finL fat
  rw [List.take_succ_eq_append_getElem hk, List.all_append, List.getD, List.getElem?_eq_getElem hk]; simp
theorem finL_of (zs : List Nat) (k : Nat) (hk : k < zs.length) (h : finB .f32 (fat zs k) = false) : finL zs = false := by
  unfold finL
  rw [List.all_eq_false]
  refine ⟨zs[k], List.getElem_mem hk, ?_⟩
  unfold fat at h
  rw [List.getD, List.getElem?_eq_getElem hk] at h
  simpa using h
theorem pick0 (k : FloatKind) (v : Nat) (hv : v < 2 ^ k.format.width) : ∃ n, v = pick k v n := pick_onto k v hv
/-! ### give -/
def giveP (W H : Int) (zs : List Nat) : PRes := if validB W H zs = true then ⟨W, H, zs, true⟩ else PRes.no
theorem near_valid {W H : Int} {zs' zs : List Nat} (h : near zs' zs) : validB W H zs' = validB W H zs := by
  unfold validB finL; rw [near_fin h, h.1]
theorem valid_fin {W H : Int} {zs : List Nat} (h : validB W H zs = true) : zs.all (finB .f32) = true := by
  simp [validB, finL] at h ⊢; exact h.2
theorem valid_len {W H : Int} {zs : List Nat} (h : validB W H zs = true) : (zs.length : Int) = W * H ∧ zs.length ≤ 256 ∧ 1 ≤ zs.length := by
  simp only [validB, Bool.and_eq_true, decide_eq_true_eq] at h
  obtain ⟨⟨h1, h2⟩, h3⟩ := h
  have := side_mul h1
  exact ⟨h2, by omega, by omega⟩
/-! ### makeDefs -/
def makeL (F : Nat → Nat → Nat) (Wn Hn : Nat) : List Nat := (List.range (Wn * Hn)).map fun i => F (i % Wn) (i / Wn)
theorem makeL_len {F : Nat → Nat → Nat} {Wn Hn : Nat} : (makeL F Wn Hn).length = Wn * Hn := by simp [makeL]
theorem makeL_at {F : Nat → Nat → Nat} {Wn Hn x y k : Nat} (hk : k = y * Wn + x) (hx : x < Wn) (hy : y < Hn) : fat (makeL F Wn Hn) k = F x y := by
  have h1 : k < Wn * Hn := by
    have : (y + 1) * Wn ≤ Hn * Wn := Nat.mul_le_mul_right _ (by omega)
    rw [Nat.succ_mul] at this
    rw [Nat.mul_comm Wn Hn]; omega
  have h2 : k % Wn = x := by rw [hk, Nat.mul_comm y Wn, Nat.mul_add_mod, Nat.mod_eq_of_lt hx]
  have h3 : k / Wn = y := by rw [hk, Nat.mul_comm y Wn, Nat.mul_add_div (by omega), Nat.div_eq_of_lt hx, Nat.add_zero]
  simp [fat, makeL, h1, h2, h3]
theorem make_lt {Wn Hn x y k : Nat} (hk : k = y * Wn + x) (hx : x < Wn) (hy : y < Hn) : k + 1 ≤ Wn * Hn := by
  have : (y + 1) * Wn ≤ Hn * Wn := Nat.mul_le_mul_right _ (by omega)
  rw [Nat.succ_mul] at this
  rw [Nat.mul_comm Wn Hn]; omega
def resMake (F : Nat → Nat → Nat) (W H : Int) : PRes := if sideB W H = true then giveP W H (makeL F W.toNat H.toNat) else PRes.no
/-! ### atDefs -/
def minI (a b : Int) : Int := if a < b then a else b
def maxI (a b : Int) : Int := if b < a then a else b
theorem clamp_in (n : Nat) (h : 1 ≤ n) (i : Int) : ∃ c : Nat, maxI 0 (minI ((n : Int) - 1) i) = (c : Int) ∧ c < n := by
  refine ⟨(maxI 0 (minI ((n : Int) - 1) i)).toNat, ?_, ?_⟩
  · unfold maxI minI; split <;> split <;> omega
  · unfold maxI minI; split <;> split <;> omega
theorem clamp_is {n c : Nat} (h : c < n) : maxI 0 (minI ((n : Int) - 1) (c : Int)) = (c : Int) := by
  unfold maxI minI; split <;> split <;> omega
theorem mul_bound {cy Wn Hn : Nat} (hy : cy < Hn) (hW : Wn ≤ 16) (hH : Hn ≤ 16) : cy * Wn + Wn ≤ Wn * Hn ∧ cy * Wn ≤ 256 := by
  have h1 : (cy + 1) * Wn ≤ Hn * Wn := Nat.mul_le_mul_right _ (by omega)
  rw [Nat.succ_mul, Nat.mul_comm Hn Wn] at h1
  have h2 : Wn * Hn ≤ 16 * 16 := Nat.mul_le_mul hW hH
  exact ⟨h1, by omega⟩
/-! ### shiftDefs -/
def atK (W H i j : Int) : Nat := (maxI 0 (minI (H - 1) j)).toNat * W.toNat + (maxI 0 (minI (W - 1) i)).toNat
def shiftI (W H sx sy : Int) (zA : List Nat) (k : Nat) : Nat := fat zA (atK W H ((k : Int) % W - sx) ((k : Int) / W - sy))
def shiftL (W H sx sy : Int) (zA : List Nat) : List Nat := (List.range zA.length).map (shiftI W H sx sy zA)
theorem shiftL_len {W H sx sy : Int} {zA : List Nat} : (shiftL W H sx sy zA).length = zA.length := by simp [shiftL]
theorem shiftL_at {W H sx sy : Int} {zA : List Nat} {k : Nat} (hk : k < zA.length) : fat (shiftL W H sx sy zA) k = shiftI W H sx sy zA k := by simp [fat, shiftL, hk]
theorem atK_lt {W H : Int} {zA : List Nat} (hv : validB W H zA = true) (i j : Int) : atK W H i j < zA.length := by
  have hsb : sideB W H = true := by simp only [validB, Bool.and_eq_true] at hv; exact hv.1.1
  have hlen := (valid_len hv).1
  obtain ⟨⟨s1, s2⟩, s3, s4⟩ := sideB_true hsb
  obtain ⟨Wn, rfl⟩ : ∃ n : Nat, W = n := ⟨W.toNat, by omega⟩
  obtain ⟨Hn, rfl⟩ : ∃ n : Nat, H = n := ⟨H.toNat, by omega⟩
  have hln : zA.length = Wn * Hn := by rw [← Int.natCast_mul] at hlen; omega
  obtain ⟨cx, e1, h1⟩ := clamp_in Wn (by omega) i
  obtain ⟨cy, e2, h2⟩ := clamp_in Hn (by omega) j
  unfold atK
  rw [e1, e2, Int.toNat_natCast, Int.toNat_natCast, Int.toNat_natCast, hln]
  have := (mul_bound h2 (show Wn ≤ 16 by omega) (show Hn ≤ 16 by omega)).1
  omega
theorem shift_mem {W H : Int} {zA : List Nat} (hv : validB W H zA = true) (sx sy : Int) (k : Nat) : shiftI W H sx sy zA k ∈ zA := fat_mem (atK_lt hv _ _)
theorem shift_fin {W H : Int} {zA : List Nat} (hv : validB W H zA = true) (sx sy : Int) : (shiftL W H sx sy zA).all (finB .f32) = true := by
  have hf := valid_fin hv
  rw [List.all_eq_true] at hf ⊢
  intro y hy
  obtain ⟨k, _, rfl⟩ := List.mem_map.1 hy
  exact hf _ (shift_mem hv sx sy k)
theorem shift_valid {W H : Int} {zA : List Nat} (hv : validB W H zA = true) (sx sy : Int) : validB W H (shiftL W H sx sy zA) = true := by
  have h3 := shift_fin hv sx sy
  simp only [validB, finL, shiftL_len, Bool.and_eq_true] at hv ⊢
  exact ⟨hv.1, h3⟩
def stepB (s : Int) : Bool := decide (-16 ≤ s) && decide (s ≤ 16)
def resShift (W H : Int) (zA : List Nat) (sx sy : Int) : PRes := if (validB W H zA && (stepB sx && stepB sy)) = true then ⟨W, H, shiftL W H sx sy zA, true⟩ else PRes.no
/-! ### overFacts -/
theorem signed_not (s : Bool) (m d : Nat) : Ieee.signed (!s) m d = -Ieee.signed s m d := by
  rw [signed_eq, signed_eq]; cases s <;> simp
theorem write_pos {t : Bool} {n : Nat} {p : Int} (hn : n ≠ 0) (hp : Ieee.single.leastPlace ≤ p) : sgn Ieee.single (Ieee.single.nearest t n p) = t ∧ 1 ≤ rung Ieee.single (Ieee.single.nearest t n p) := by
  obtain ⟨q, h1, h2, h3⟩ := nearest_ge Ieee.single t n p 1 (by decide +kernel) (by
    unfold geRung
    have e1 : (Ieee.single.leastPlace - p).toNat = 0 := by omega
    have e2 : mg Ieee.single 1 = 1 := by decide +kernel
    rw [e1, e2, Nat.pow_zero]
    exact Nat.le_trans (Nat.pos_of_ne_zero hn) (Nat.le_mul_of_pos_right _ (Nat.two_pow_pos _)))
  have hw : Ieee.single.infRung < Ieee.single.signWeight := by decide +kernel
  obtain ⟨g1, g2⟩ := word_signs Ieee.single t q (by omega)
  rw [h1, g1, g2]
  exact ⟨rfl, h2⟩
theorem srung_near0 (s : Bool) (p : Int) : srung Ieee.single (Ieee.single.nearest s 0 p) = 0 := by
  unfold Ieee.Format.nearest
  rw [if_pos rfl]
  obtain ⟨g1, g2⟩ := word_signs Ieee.single s 0 (by decide +kernel)
  unfold srung
  rw [g2]; split <;> rfl
theorem sub_gt {x l : Nat} (hx : rung Ieee.single x < Ieee.single.infRung) (hl : rung Ieee.single l < Ieee.single.infRung) : (0 < srung Ieee.single (fop .sub .f32 x l)) ↔ (srung Ieee.single l < srung Ieee.single x) := by
  have ho := order_srung Ieee.single x l hx hl
  obtain ⟨m, i, r1, r2, _⟩ := read_fin Ieee.single x hx
  obtain ⟨n, j, s1, s2, _⟩ := read_fin Ieee.single l hl
  have hf : FloatKind.f32.format = Ieee.single := rfl
  unfold Ieee.Format.order at ho
  rw [r1, s1] at ho
  simp only [Ieee.Datum.order, Option.some.injEq] at ho
  unfold fop floatBits
  rw [hf]
  simp only [Ieee.Format.sub, r1, s1, Ieee.Datum.opposite, Ieee.Datum.sum, Option.map_some, Option.getD_some, signed_not]
  have hp : Ieee.single.leastPlace ≤ min i j := by omega
  generalize Ieee.signed (sgn Ieee.single x) m (i - min i j).toNat = A at *
  generalize Ieee.signed (sgn Ieee.single l) n (j - min i j).toNat = B at *
  generalize srung Ieee.single x = X at *
  generalize srung Ieee.single l = L at *
  generalize min i j = p at *
  rcases Int.lt_trichotomy A B with h | h | h
  · rw [Int.compare_eq_lt.2 h] at ho
    have h2 := Int.compare_eq_lt.1 ho.symm
    rw [if_neg (by omega)]
    obtain ⟨g1, g2⟩ := write_pos (t := decide (A + -B < 0)) (n := (A + -B).natAbs) (by omega) hp
    rw [decide_eq_true (by omega)] at g1 g2 ⊢
    have e : srung Ieee.single (Ieee.single.write (.number true (A + -B).natAbs p)) = -(rung Ieee.single (Ieee.single.nearest true (A + -B).natAbs p) : Int) := by
      show srung Ieee.single (Ieee.single.nearest true (A + -B).natAbs p) = _
      unfold srung; rw [g1, if_pos rfl]
    rw [e]; omega
  · rw [Int.compare_eq_eq.2 h] at ho
    have h2 := Int.compare_eq_eq.1 ho.symm
    subst h h2
    have e : A + -A = 0 := by omega
    rw [if_pos e, e]
    have z : ∀ s, srung Ieee.single (Ieee.single.write (.number s (0 : Int).natAbs p)) = 0 := fun s => by
      exact srung_near0 s p
    rw [z]; omega
  · rw [Int.compare_eq_gt.2 h] at ho
    have h2 := Int.compare_eq_gt.1 ho.symm
    rw [if_neg (by omega)]
    obtain ⟨g1, g2⟩ := write_pos (t := decide (A + -B < 0)) (n := (A + -B).natAbs) (by omega) hp
    rw [decide_eq_false (by omega)] at g1 g2 ⊢
    have e : srung Ieee.single (Ieee.single.write (.number false (A + -B).natAbs p)) = (rung Ieee.single (Ieee.single.nearest false (A + -B).natAbs p) : Int) := by
      show srung Ieee.single (Ieee.single.nearest false (A + -B).natAbs p) = _
      unfold srung; rw [g1, if_neg (by decide)]
    rw [e]; omega
theorem sub_notN {x l : Nat} (hx : rung Ieee.single x < Ieee.single.infRung) (hl : rung Ieee.single l < Ieee.single.infRung) : isN .f32 (fop .sub .f32 x l) = false := by
  obtain ⟨m, i, r1, r2, _⟩ := read_fin Ieee.single x hx
  obtain ⟨n, j, s1, s2, _⟩ := read_fin Ieee.single l hl
  have hf : FloatKind.f32.format = Ieee.single := rfl
  unfold fop floatBits
  rw [hf]
  simp only [Ieee.Format.sub, r1, s1, Ieee.Datum.opposite, Ieee.Datum.sum, Option.map_some, Option.getD_some]
  exact nearest_notNaN _ _ _ _
theorem over_same {x l : Nat} (hx : finB .f32 x = true) (hl : finB .f32 l = true) : (FloatKind.f32.format.order (fop .sub .f32 x l) 0 == some .gt) = (FloatKind.f32.format.order x l == some .gt) := by
  have hx' : rung Ieee.single x < Ieee.single.infRung := by unfold finB at hx; exact of_decide_eq_true hx
  have hl' : rung Ieee.single l < Ieee.single.infRung := by unfold finB at hl; exact of_decide_eq_true hl
  rw [o_gt (sub_notN hx' hl') n_zero, o_gt (notN_fin (k := .f32) hx') (notN_fin (k := .f32) hl'), s_zero]
  exact decide_eq_decide.2 (sub_gt hx' hl')
/-! ### edgDefs -/
theorem abs_same {v : Nat} (hv : v < 2 ^ 32) (hn : isN .f32 v = false) : absP v = absS v := by
  have hsw : FloatKind.f32.format.signWeight = 2147483648 := by decide +kernel
  have hinf : FloatKind.f32.format.infRung = 2139095040 := by decide +kernel
  by_cases hf : finB .f32 v = true
  · have hP := absP_ok hv hf
    have hS := absS_ok hv hf
    rcases srung_inj hP.lt hS.lt (by rw [hP.s, hS.s]) with e | ⟨e1, _⟩
    · exact e
    · have h0 : srung Ieee.single v = 0 := by have := hP.s; rw [srung_of_zero e1] at this; omega
      have h1 : rung Ieee.single v = 0 := by unfold srung at h0; split at h0 <;> omega
      have h2 : v % 2147483648 = 0 := h1
      have h3 : v = 0 ∨ v = 2147483648 := by omega
      rcases h3 with rfl | rfl <;> decide +kernel
  · have h1 : ¬ (rung FloatKind.f32.format v < 2139095040) := by
      intro h; apply hf; unfold finB; rw [hinf]; exact decide_eq_true h
    have h2 : ¬ (2139095040 < rung FloatKind.f32.format v) := by
      rw [isN_rung', hinf] at hn; exact of_decide_eq_false hn
    have h3 : v % 2147483648 = 2139095040 := by have : rung FloatKind.f32.format v = v % 2147483648 := rfl; omega
    have h4 : v = 2139095040 ∨ v = 4286578688 := by omega
    rcases h4 with rfl | rfl <;> decide +kernel
theorem abs_sub {a b : Nat} (ha : finB .f32 a = true) (hb : finB .f32 b = true) : absP (fop .sub .f32 a b) = absS (fop .sub .f32 a b) :=
  abs_same (fop_lt _ .f32 _ _) (sub_notN (of_decide_eq_true ha) (of_decide_eq_true hb))
def edgeI (W H : Int) (zA : List Nat) (k : Nat) : Nat := fop .add .f32 (absS (fop .sub .f32 (fat zA (atK W H (((k : Int) % W) + 1) ((k : Int) / W))) (fat zA (atK W H (((k : Int) % W) - 1) ((k : Int) / W))))) (absS (fop .sub .f32 (fat zA (atK W H ((k : Int) % W) (((k : Int) / W) + 1))) (fat zA (atK W H ((k : Int) % W) (((k : Int) / W) - 1)))))
def edgeL (W H : Int) (zA : List Nat) : List Nat := (List.range zA.length).map (edgeI W H zA)
theorem edgeL_len {W H : Int} {zA : List Nat} : (edgeL W H zA).length = zA.length := by simp [edgeL]
theorem edgeL_at {W H : Int} {zA : List Nat} {k : Nat} (hk : k < zA.length) : fat (edgeL W H zA) k = edgeI W H zA k := by simp [fat, edgeL, hk]
theorem edgeI_lt (W H : Int) (zA : List Nat) (k : Nat) : edgeI W H zA k < 2 ^ FloatKind.f32.format.width := fop_lt _ _ _ _
def edgeP (W H : Int) (zA : List Nat) (x y : Nat) : Nat := fop .add .f32 (absP (fop .sub .f32 (fat zA (atK W H (((x : Int)) + 1) ((y : Int)))) (fat zA (atK W H (((x : Int)) - 1) ((y : Int)))))) (absP (fop .sub .f32 (fat zA (atK W H ((x : Int)) (((y : Int)) + 1))) (fat zA (atK W H ((x : Int)) (((y : Int)) - 1)))))
theorem edgeP_lt (W H : Int) (zA : List Nat) (x y : Nat) : edgeP W H zA x y < 2 ^ FloatKind.f32.format.width := fop_lt _ _ _ _
theorem edge_same {Wn Hn : Nat} {zA : List Nat} (hv : validB (Wn : Int) (Hn : Int) zA = true) (hl : zA.length = Wn * Hn) : makeL (edgeP (Wn : Int) (Hn : Int) zA) Wn Hn = edgeL (Wn : Int) (Hn : Int) zA := by
  have hf := valid_fin hv
  rw [List.all_eq_true] at hf
  have hF : ∀ i j : Int, finB .f32 (fat zA (atK (Wn : Int) (Hn : Int) i j)) = true := fun i j => hf _ (fat_mem (atK_lt hv i j))
  refine fat_ext (by rw [makeL_len, edgeL_len, hl]) (fun k hk => ?_)
  rw [edgeL_len] at hk
  rw [edgeL_at hk]
  rw [hl] at hk
  have e1 : fat (makeL (edgeP (Wn : Int) (Hn : Int) zA) Wn Hn) k = edgeP (Wn : Int) (Hn : Int) zA (k % Wn) (k / Wn) := by simp [fat, makeL, hk]
  rw [e1]
  unfold edgeP edgeI
  rw [abs_sub (hF _ _) (hF _ _), abs_sub (hF _ _) (hF _ _), Int.natCast_emod, Int.natCast_ediv]
def resEdges (W H : Int) (zA : List Nat) : PRes := if validB W H zA = true then giveP W H (edgeL W H zA) else PRes.no
theorem edges_make {Wn Hn : Nat} {zA : List Nat} (hv : validB (Wn : Int) (Hn : Int) zA = true) (hl : zA.length = Wn * Hn) : resEdges (Wn : Int) (Hn : Int) zA = resMake (edgeP (Wn : Int) (Hn : Int) zA) (Wn : Int) (Hn : Int) := by
  have hsb : sideB (Wn : Int) (Hn : Int) = true := by have h := hv; simp only [validB, Bool.and_eq_true] at h; exact h.1.1
  unfold resEdges resMake
  rw [hv, if_pos rfl, hsb, if_pos rfl, Int.toNat_natCast, Int.toNat_natCast, edge_same hv hl]
/-! ### l02Own -/
theorem infoFw : (Try.prog.info? 38).map (fun i => (i.zero, i.size, i.bytes)) = some (some (.float .f32 0), 1, 4) := by kernel_rfl
theorem c_l02Own (W H : Int) (x : Nat) (a : Option Addr) (cap : Nat) (zs : List Nat) (w : World) (hv : Var w x #[.int .i64 W, .int .i64 H, .slice a zs.length cap]) (hr : IsRowF .f32 w a zs.length cap zs) (h1 : 1 ≤ zs.length) (hl : zs.length ≤ 1048576) :
    Calls Try.prog 79 #[.pointer (some ⟨x, 0, none⟩)] w (fun e w' => ∃ a' c', e = .returned (.agg #[.int .i64 W, .int .i64 H, .slice a' zs.length c']) ∧ Below w.heap.size w w' ∧ Own 38 w' w.heap.size a' zs.length c' zs) := by
  obtain ⟨N, hN⟩ : ∃ N, N = zs.length := ⟨_, rfl⟩
  rw [← hN] at hv hr h1 hl ⊢
  clear hN
  generalize hw0 : w.alloc (Obj.cells #[.int .i64 0, .int .i64 0, .slice none 0 0] 26) = w0
  have X0 : Var w0 w.heap.size #[.int .i64 0, .int .i64 0, .slice none 0 0] := by subst hw0; exact Var.new _ _ _
  have X1 : Free w0 w.heap.size := by subst hw0; exact Free.new _ _ _
  have X2 : Below w.heap.size w w0 := by subst hw0; exact (Below.refl _ _).alloc (Nat.le_refl _) _
  have X3 : w0.heap.size = w.heap.size + 1 := by subst hw0; simp
  have HW := Lib.hid hw0
  have V0 := Lib.hid X0
  have F0 := Lib.hid X1
  have B0 := Lib.hid X2
  have VX := Lib.hid (hv.below X2 hv.lt)
  have RX := Lib.hid (hr.below X2)
  clear hw0 X0 X1 X2 hv hr
  have KS := Lib.hid (fun (w' : World) (hE : Below w0.heap.size w0 w') => (VX.out.keep hE).three)
  obtain ⟨i0, hinf, hz0, hz1, hz2⟩ := info_parts infoFw
  go_enter Try.func79, Try.ntmps79
  go_wp2_with fail
  rw [HW.out]
  refine wp_region_facts 14 (fun a b => Below a.heap.size a b) (fun _ => Below.refl _ _) (fun _ _ _ h h' => h.trans (h'.mono h.size)) (Below.refl _ _).drew (by kernel_rfl) (by kernel_rfl) (by kernel_rfl) (by kernel_rfl) ?_
  simp only [List.take_succ_cons, List.take_zero, List.drop_succ_cons, List.drop_zero]
  (with_reducible apply wpF_val); (focus (intro vs w' hE hk; (obtain ⟨d0, d1, d2⟩ := KS.out w' hE); go_simp; exact ⟨Below.refl _ _, rfl⟩)); (simp only [Act.put, List.setIfInBounds_toArray, List.set_cons_zero, List.set_cons_succ, List.cons_append, List.nil_append])
  (with_reducible apply wpF_val); (focus (intro vs w' hE hk; (obtain ⟨d0, d1, d2⟩ := KS.out w' hE); go_simp; exact ⟨Below.refl _ _, rfl⟩)); (simp only [Act.put, List.setIfInBounds_toArray, List.set_cons_zero, List.set_cons_succ, List.cons_append, List.nil_append])
  (with_reducible apply wpF_val); (focus (intro vs w' hE hk; (obtain ⟨d0, d1, d2⟩ := KS.out w' hE); go_simp; exact ⟨Below.refl _ _, rfl⟩)); (simp only [Act.put, List.setIfInBounds_toArray, List.set_cons_zero, List.set_cons_succ, List.cons_append, List.nil_append])
  (with_reducible apply wpF_val); (focus (intro vs w' hE hk; (obtain ⟨d0, d1, d2⟩ := KS.out w' hE); go_simp; exact ⟨Below.refl _ _, rfl⟩)); (simp only [Act.put, List.setIfInBounds_toArray, List.set_cons_zero, List.set_cons_succ, List.cons_append, List.nil_append])
  (with_reducible apply wpF_val); (focus (intro vs w' hE hk; (obtain ⟨d0, d1, d2⟩ := KS.out w' hE); go_simp; exact ⟨Below.refl _ _, rfl⟩)); (simp only [Act.put, List.setIfInBounds_toArray, List.set_cons_zero, List.set_cons_succ, List.cons_append, List.nil_append])
  (with_reducible apply wpF_val); (focus (intro vs w' hE hk; (obtain ⟨d0, d1, d2⟩ := KS.out w' hE); go_simp; exact ⟨Below.refl _ _, rfl⟩)); (simp only [Act.put, List.setIfInBounds_toArray, List.set_cons_zero, List.set_cons_succ, List.cons_append, List.nil_append])
  (with_reducible apply wpF_val); (focus (intro vs w' hE hk; (obtain ⟨d0, d1, d2⟩ := KS.out w' hE); go_simp; exact ⟨Below.refl _ _, rfl⟩)); (simp only [Act.put, List.setIfInBounds_toArray, List.set_cons_zero, List.set_cons_succ, List.cons_append, List.nil_append])
  (with_reducible apply wpF_val); (focus (intro vs w' hE hk; (obtain ⟨d0, d1, d2⟩ := KS.out w' hE); go_simp; exact ⟨Below.refl _ _, rfl⟩)); (simp only [Act.put, List.setIfInBounds_toArray, List.set_cons_zero, List.set_cons_succ, List.cons_append, List.nil_append])
  refine wpF_fact (fun u _ => ∃ g, u = .slice (some ⟨g, 0, none⟩) 0 0) (fun _ _ _ h _ => h) (fun vs w' hE hk => ?_) ?_; (focus (go_simp; exact ⟨(Below.refl _ _).alloc (Nat.le_refl _) _, _, rfl⟩)); (simp only [Act.put, List.setIfInBounds_toArray, List.set_cons_zero, List.set_cons_succ, List.cons_append, List.nil_append])
  (with_reducible apply wpF_val); (focus (intro vs w' hE hk; (obtain ⟨d0, d1, d2⟩ := KS.out w' hE); go_simp; exact ⟨Below.refl _ _, rfl⟩)); (simp only [Act.put, List.setIfInBounds_toArray, List.set_cons_zero, List.set_cons_succ, List.cons_append, List.nil_append])
  (with_reducible apply wpF_val); (focus (intro vs w' hE hk; (obtain ⟨d0, d1, d2⟩ := KS.out w' hE); go_simp; exact ⟨Below.refl _ _, rfl⟩)); (simp only [Act.put, List.setIfInBounds_toArray, List.set_cons_zero, List.set_cons_succ, List.cons_append, List.nil_append])
  (with_reducible apply wpF_val); (focus (intro vs w' hE hk; (obtain ⟨d0, d1, d2⟩ := KS.out w' hE); go_simp; exact ⟨Below.refl _ _, rfl⟩)); (simp only [Act.put, List.setIfInBounds_toArray, List.set_cons_zero, List.set_cons_succ, List.cons_append, List.nil_append])
  (with_reducible apply wpF_val); (focus (intro vs w' hE hk; (obtain ⟨d0, d1, d2⟩ := KS.out w' hE); go_simp; exact ⟨Below.refl _ _, rfl⟩)); (simp only [Act.put, List.setIfInBounds_toArray, List.set_cons_zero, List.set_cons_succ, List.cons_append, List.nil_append])
  refine wpF_fact (fun u wx => ∃ a' c', u = .slice a' N c' ∧ Own 38 wx (w.heap.size + 1) a' N c' zs) (fun u wa wb h hE => by obtain ⟨a', c', h1, h2⟩ := h; exact ⟨a', c', h1, h2.below hE⟩) (fun vs w' hE hk => ?_) ?_; (focus (obtain ⟨g, hg⟩ := hk 8 (by kernel_rfl); simp only [hg]; rw [if_pos (by rfl)]; refine uponW_append _ _ _ rfl rfl rfl ?_; obtain ⟨v', w9, hrun, hb9, a', c', hv9, ho9⟩ := own_copy _ _ i0 _ Try.underlying22 hinf hz0 hz1 hz2 rfl g (RX.out.below hE) h1 hl; exact ⟨v', w9, hrun, hb9, a', c', hv9, ho9.mono (by have := hE.size; omega)⟩)); (simp only [Act.put, List.setIfInBounds_toArray, List.set_cons_zero, List.set_cons_succ, List.cons_append, List.nil_append])
  refine wpF_nil (fun vs w' hE hk => ?_)
  obtain ⟨a', c', hu, hO⟩ := hk 13
  simp only [hu]
  have V1 := Lib.hid (V0.out.keep hE)
  have F1 := Lib.hid (F0.out.below V0.out.lt hE)
  have BX := Lib.hid (B0.out.trans (hE.mono (by omega)))
  have HO := Lib.hid hO
  clear hE hk hu hO
  obtain ⟨q0, q1, q2⟩ := V1.out.three
  have f0 := F1.out 0
  have f1 := F1.out 1
  have f2 := F1.out 2
  go_wp2_with fail
  have hrow : blk a' ≠ some w.heap.size := fun e => by have := HO.out.in _ e; omega
  refine bodyPost_ret (v := .agg #[.int .i64 W, .int .i64 H, .slice a' N c']) (by simp [results, Try.results79, q0, q1, q2, go_sem]) rfl ⟨a', c', rfl, ((BX.out.setCell (by simp <;> omega) _).setCell (by simp <;> omega) _).setCell (by simp <;> omega) _, (((HO.out.setCell hrow _).setCell hrow _).setCell hrow _).mono (by omega)⟩
/-! ### l00MinMax -/
theorem c_l00Min (x y : Int) (w : World) (j : Nat) : Calls Try.prog 118 #[.int .i64 x, .int .i64 y] (w.drewN j) (RetV (.int .i64 (minI x y)) w) := by
  unfold minI
  by_cases h : x < y
  · rw [if_pos h]
    go_enter Try.func118, Try.ntmps118
    go_wp2
    go_ret
    exact ⟨_, rfl, rfl⟩
  · rw [if_neg h]
    go_enter Try.func118, Try.ntmps118
    go_wp2
    go_ret
    exact ⟨_, rfl, rfl⟩
theorem c_l00Max (x y : Int) (w : World) (j : Nat) : Calls Try.prog 126 #[.int .i64 x, .int .i64 y] (w.drewN j) (RetV (.int .i64 (maxI x y)) w) := by
  unfold maxI
  by_cases h : y < x
  · rw [if_pos h]
    go_enter Try.func126, Try.ntmps126
    go_wp2
    go_ret
    exact ⟨_, rfl, rfl⟩
  · rw [if_neg h]
    go_enter Try.func126, Try.ntmps126
    go_wp2
    go_ret
    exact ⟨_, rfl, rfl⟩
/-! ### l02At -/
theorem c_l02At (Wn Hn : Nat) (x : Nat) (a : Option Addr) (cap : Nat) (zs : List Nat) (i j : Int) (cx cy : Nat) (w : World) (hv : Var w x #[.int .i64 (Wn : Int), .int .i64 (Hn : Int), .slice a zs.length cap]) (hr : IsRowF .f32 w a zs.length cap zs)
    (hW1 : 1 ≤ Wn) (hW2 : Wn ≤ 16) (hH1 : 1 ≤ Hn) (hH2 : Hn ≤ 16) (hl : zs.length = Wn * Hn) (hcx : maxI 0 (minI ((Wn : Int) - 1) i) = (cx : Int)) (hcx2 : cx < Wn) (hcy : maxI 0 (minI ((Hn : Int) - 1) j) = (cy : Int)) (hcy2 : cy < Hn) :
    Calls Try.prog 100 #[.pointer (some ⟨x, 0, none⟩), .int .i64 i, .int .i64 j] w (RetF .f32 (fat zs (cy * Wn + cx)) w) := by
  obtain ⟨hb1, hb2⟩ := mul_bound hcy2 hW2 hH2
  have hm := congrArg (fun n : Nat => (n : Int)) (rfl : cy * Wn = cy * Wn)
  obtain ⟨N, hN⟩ : ∃ N, N = zs.length := ⟨_, rfl⟩
  have hP0 : ∃ P : Nat, P = cy * Wn := ⟨_, rfl⟩
  obtain ⟨P, hP⟩ := hP0
  have hPi : (cy : Int) * (Wn : Int) = (P : Int) := by rw [hP, Int.natCast_mul]
  rw [← hP] at hb1 hb2 ⊢
  rw [← hl, ← hN] at hb1
  rw [← hN] at hv hr
  have hlt : P + cx < N := by omega
  have mw1 : IntKind.i64.wrap ((cy : Int) * (Wn : Int)) = (P : Int) := by rw [hPi]; exact IntWalk.i64_in _ (by omega)
  have mw2 : IntKind.i64.wrap ((P : Int) + (cx : Int)) = (P : Int) + (cx : Int) := IntWalk.i64_in _ (by omega)
  have t1 : ((P : Int) + (cx : Int)).toNat = P + cx := by omega
  have t2 : (0 : Int) ≤ (P : Int) + (cx : Int) := by omega
  have t3 : (P : Int) + (cx : Int) < (N : Int) := by omega
  have CX := Lib.hid (fun n => (by have h := c_l00Max 0 (minI ((Wn : Int) - 1) i) w n; rwa [hcx] at h : Calls Try.prog 126 #[.int .i64 0, .int .i64 (minI ((Wn : Int) - 1) i)] (w.drewN n) (RetV (.int .i64 (cx : Int)) w)))
  have CY := Lib.hid (fun n => (by have h := c_l00Max 0 (minI ((Hn : Int) - 1) j) w n; rwa [hcy] at h : Calls Try.prog 126 #[.int .i64 0, .int .i64 (minI ((Hn : Int) - 1) j)] (w.drewN n) (RetV (.int .i64 (cy : Int)) w)))
  obtain ⟨b, off, n0, rfl, hb, e0⟩ := hr.at hlt
  obtain ⟨v0, v1, v2⟩ := hv.three
  have M1 := Lib.hid mw1
  have M2 := Lib.hid mw2
  have T1 := Lib.hid t1
  have T2 := Lib.hid t2
  have T3 := Lib.hid t3
  clear hcx hcy hm hN hP hPi hl hr hb hb1 hb2 mw1 mw2 t1 t2 t3 hv
  rw [← w.drewN_zero]
  go_enter Try.func100, Try.ntmps100
  go_wp2_with (first | (go_at_call 118; refine (c_l00Min _ _ _ _).mono ?_; rintro _ _ ⟨_, rfl, rfl⟩) | (go_at_call 126; first | ((with_reducible refine (CX.out _).mono ?_); rintro _ _ ⟨_, rfl, rfl⟩) | ((with_reducible refine (CY.out _).mono ?_); rintro _ _ ⟨_, rfl, rfl⟩)))
  have mw1 := M1.out
  have mw2 := M2.out
  have t1 := T1.out
  have t2 := T2.out
  have t3 := T3.out
  refine wp_region_N (fun _ _ _ => True) (by kernel_rfl) (by kernel_rfl) ?_; (repeat (first | ((with_reducible show wpN _ _ _ _ _ (Oper.mk _ (Op.binOp _ _ _ _ _) _ _ _ none :: _) _); refine wpN_fop rfl _ _ _ _ _ rfl _ _ _ rfl rfl (by decide) ?_; intro _) | ((with_reducible show wpN _ _ _ _ _ (Oper.mk _ (Op.convert _ _ _) _ _ _ none :: _) _); refine wpN_cvU rfl 38 42 _ rfl (Option.isSome_iff_exists.2 ⟨_, Try.underlying38⟩) Try.underlying42 _ rfl ?_; intro _) | ((with_reducible show wpN _ _ _ _ _ (Oper.mk _ _ _ _ _ (some _) :: _) _); (with_reducible refine wpN_off ?_ ?_); focus rfl; (simp only [Act.put, List.setIfInBounds_toArray, List.set_cons_zero, List.set_cons_succ])) | ((with_reducible show wpN _ _ _ _ _ (Oper.mk _ _ _ _ _ (some _) :: _) _); ((with_reducible refine wpN_on ?_ (fun K hK => ?_)); (focus rfl); intro _; go_simp; first | (refine uponN_value (hK _ ?_)) | (fail; refine hK _ ?_)); clear hK K) | (((with_reducible refine wpN_plain rfl (fun K hK => ?_)); intro _; go_simp; first | (refine uponN_value (hK _ ?_)) | (fail; refine hK _ ?_)); clear hK K) | ((with_reducible refine wpN_step (fun K hK => ?_)); go_simp; first | (refine hK _ ?_) | (intro _; first | (refine uponN_value (hK _ ?_)) | (fail; refine hK _ ?_)); clear hK K))); refine wpN_nil ?_; intro _
  clear mw1 mw2 t1 t2 t3
  go_wp2_with fail
  go_ret
  exact ⟨_, _, rfl, rfl⟩
/-! ### l02AtI -/
theorem c_l02AtI (W H : Int) (x : Nat) (a : Option Addr) (cap : Nat) (zs : List Nat) (i j : Int) (w : World) (hv : Var w x #[.int .i64 W, .int .i64 H, .slice a zs.length cap]) (hr : IsRowF .f32 w a zs.length cap zs) (hval : validB W H zs = true) :
    Calls Try.prog 100 #[.pointer (some ⟨x, 0, none⟩), .int .i64 i, .int .i64 j] w (RetF .f32 (fat zs (atK W H i j)) w) := by
  have hsb : sideB W H = true := by have h := hval; simp only [validB, Bool.and_eq_true] at h; exact h.1.1
  have hlen := (valid_len hval).1
  obtain ⟨⟨s1, s2⟩, s3, s4⟩ := sideB_true hsb
  obtain ⟨Wn, rfl⟩ : ∃ n : Nat, W = n := ⟨W.toNat, by omega⟩
  obtain ⟨Hn, rfl⟩ : ∃ n : Nat, H = n := ⟨H.toNat, by omega⟩
  have hln : zs.length = Wn * Hn := by rw [← Int.natCast_mul] at hlen; omega
  obtain ⟨cx, e1, h1⟩ := clamp_in Wn (by omega) i
  obtain ⟨cy, e2, h2⟩ := clamp_in Hn (by omega) j
  unfold atK
  rw [e1, e2, Int.toNat_natCast, Int.toNat_natCast, Int.toNat_natCast]
  exact c_l02At Wn Hn x a cap zs i j cx cy w hv hr (by omega) (by omega) (by omega) (by omega) hln e1 h1 e2 h2
/-! ### l07Size -/
theorem c_l07Size (v n : Nat) (w : World) (j : Nat) : Calls Try.prog 111 #[.float .f32 (pick .f32 v n)] (w.drewN j) (RetF .f32 (absS v) w) := by
  unfold absS leB
  cases h : (FloatKind.f32.format.order v 0 == some .lt || FloatKind.f32.format.order v 0 == some .eq)
  · rw [if_neg (by decide)]
    go_enter Try.func111, Try.ntmps111
    go_wp2_with (first | (refine wpList_fop rfl _ _ _ _ _ rfl _ _ _ rfl rfl (by decide) _ ?_; intro _ _) | (refine upon_fop _ _ _ _ _ (by decide) ?_; intro _ _))
    go_ret
    exact ⟨_, _, rfl, rfl⟩
  · rw [if_pos rfl]
    go_enter Try.func111, Try.ntmps111
    go_wp2_with (first | (refine wpList_fop rfl _ _ _ _ _ rfl _ _ _ rfl rfl (by decide) _ ?_; intro _ _) | (refine upon_fop _ _ _ _ _ (by decide) ?_; intro _ _))
    go_ret
    exact ⟨_, _, rfl, rfl⟩
/-! ### l07Edges -/
theorem c_l07Edges (W H : Int) (x : Nat) (a : Option Addr) (cap : Nat) (zA : List Nat)  (w : World) (hv : Var w x #[.int .i64 W, .int .i64 H, .slice a zA.length cap]) (hr : IsRowF .f32 w a zA.length cap zA) (h1 : 1 ≤ zA.length) (hl : zA.length ≤ 1048576) (hval : validB W H zA = true) :
    Calls Try.prog 63 #[.pointer (some ⟨x, 0, none⟩)] w (fun e w' => ∃ a' c' zs, e = .returned (.agg #[.int .i64 W, .int .i64 H, .slice a' zA.length c']) ∧ Below w.heap.size w w' ∧ Own 38 w' w.heap.size a' zA.length c' zs ∧ near zs (edgeL W H zA)) := by
  have HVal := Lib.hid hval
  have hsb : sideB W H = true := by have h := hval; simp only [validB, Bool.and_eq_true] at h; exact h.1.1
  obtain ⟨⟨s1, s2⟩, s3, s4⟩ := sideB_true hsb
  have hl256 := (valid_len hval).2.1
  have HDv := Lib.hid (fun (k : Nat) (hk : k < zA.length) => (⟨Int.emod_nonneg _ (by omega), Int.emod_lt_of_pos _ (by omega), Int.ediv_nonneg (by omega) (by omega), Int.le_trans (Int.ediv_le_self _ (by omega)) (by omega)⟩ : 0 ≤ (k : Int) % W ∧ (k : Int) % W < W ∧ 0 ≤ (k : Int) / W ∧ (k : Int) / W ≤ 256))
  clear hval hsb
  generalize hw0 : w.alloc (Obj.cells #[.int .i64 0, .int .i64 0, .slice none 0 0] 26) = w0
  have X0 : Var w0 w.heap.size #[.int .i64 0, .int .i64 0, .slice none 0 0] := by subst hw0; exact Var.new _ _ _
  have X1 : Free w0 w.heap.size := by subst hw0; exact Free.new _ _ _
  have X2 : Below w.heap.size w w0 := by subst hw0; exact (Below.refl _ _).alloc (Nat.le_refl _) _
  have X3 : w0.heap.size = w.heap.size + 1 := by subst hw0; simp
  have HW := Lib.hid hw0
  have V0 := Lib.hid X0
  have F0 := Lib.hid X1
  have B0 := Lib.hid X2
  have VX := Lib.hid (hv.below X2 hv.lt)
  have RX := Lib.hid (hr.below X2)
  have hx : x < w.heap.size := hv.lt
  clear hw0 X0 X1 X2 hv hr
  have CO := Lib.hid (c_l02Own W H x a cap zA w0 VX.out RX.out h1 hl)
  go_enter Try.func63, Try.ntmps63
  go_wp2_with fail
  rw [HW.out]
  refine CO.out.mono ?_
  rintro _ w1 ⟨a1, ca1, rfl, b, o⟩
  have V1 := Lib.hid (V0.out.keep b)
  have F1 := Lib.hid (F0.out.below V0.out.lt b)
  have B1 := Lib.hid (B0.out.trans (b.mono (by omega)))
  have O1 := Lib.hid (o.mono (B' := w.heap.size + 1) (by omega))
  have S1 : w.heap.size + 1 ≤ w1.heap.size := by have := b.size; omega
  have hRx : x < w1.heap.size := by omega
  obtain ⟨g, hg⟩ := O1.out.at0 h1
  subst hg
  have G1 : w.heap.size + 1 ≤ g ∧ g < w1.heap.size := O1.out.lt
  have HBb := Lib.hid b
  clear b o CO
  go_wp2_with fail
  go_loopw [4, 5, 6, 7, 13] (fun _ _ _ _ i wr => ∃ (k : Nat) (zs : List Nat), k ≤ zA.length ∧ i = .int .i64 k ∧ Var wr w1.heap.size #[.int .i64 W, .int .i64 H, .slice (some ⟨g, 0, none⟩) zA.length ca1] ∧ Own 38 wr (w.heap.size + 1) (some ⟨g, 0, none⟩) zA.length ca1 zs ∧ near (zs.take k) ((edgeL W H zA).take k) ∧ Below (w.heap.size + 1) w1 wr) (fun _ _ _ _ i _ => zA.length - (intOf i).toNat)
  case atStart => exact ⟨0, zA, Nat.zero_le _, rfl, Var.new _ _ _, O1.out.alloc _, by simpa using near_nil, (Below.refl _ _).alloc (by omega) _⟩
  case round =>
    obtain ⟨k, zs, hk, rfl, hV, hO, hnear, hB⟩ := hrel
    have HV := Lib.hid hV
    have HO := Lib.hid hO
    have HN := Lib.hid hnear
    have HB := Lib.hid hB
    clear hV hO hnear hB
    have BWR : Below w0.heap.size w0 wr := HBb.out.trans (HB.out.mono (by omega))
    have BW := Lib.hid BWR
    have z2 : w1.heap.size < wr.heap.size := HV.out.lt
    clear BWR
    by_cases hlt : k < zA.length
    · obtain ⟨bA, oA, nA, rfl, hbA, eA⟩ := (RX.out.below BW.out).at hlt
      have hold := HO.out.cellAt hlt
      have hfz := HO.out.frozen k
      have KS := Lib.hid (fun (w' : World) (hE : Below wr.heap.size wr w') => (⟨(HV.out.keep hE).three.1, (HV.out.keep hE).three.2.1, (HV.out.keep hE).three.2.2, ((VX.out.keep BW.out).keep hE).three.1, ((VX.out.keep BW.out).keep hE).three.2.1, ((VX.out.keep BW.out).keep hE).three.2.2, (hE.cell (p := ⟨bA, oA + k, none⟩) hbA).trans eA, (hE.cell (p := ⟨g, k, none⟩) (by show g < _; omega)).trans hold, (hE.frozen (p := ⟨g, k, none⟩) (by show g < _; omega)).trans hfz⟩ : _ ∧ _ ∧ _ ∧ _ ∧ _ ∧ _ ∧ _ ∧ _ ∧ _))
      have HLat := Lib.hid (edgeL_at (W := W) (H := H) hlt)
      clear hold hfz eA hbA
      have hzW : ¬ (W = 0) := by omega
      have kk := HDv.out k hlt
      have mt : (k : Int).tmod W = (k : Int) % W := Int.tmod_eq_emod_of_nonneg (by omega)
      have mq0 : (k : Int).tdiv W = (k : Int) / W := Int.tdiv_eq_ediv_of_nonneg (by omega)
      have mq : IntKind.i64.wrap ((k : Int) / W) = (k : Int) / W := IntWalk.i64_in _ (by omega)
      have m1 : IntKind.i64.wrap ((k : Int) % W + 1) = (k : Int) % W + 1 := IntWalk.i64_in _ (by omega)
      have m2 : IntKind.i64.wrap ((k : Int) % W - 1) = (k : Int) % W - 1 := IntWalk.i64_in _ (by omega)
      have m3 : IntKind.i64.wrap ((k : Int) / W + 1) = (k : Int) / W + 1 := IntWalk.i64_in _ (by omega)
      have m4 : IntKind.i64.wrap ((k : Int) / W - 1) = (k : Int) / W - 1 := IntWalk.i64_in _ (by omega)
      have CA := Lib.hid (fun (X Y : Int) (w' : World) (hE : Below wr.heap.size wr w') => ((c_l02AtI W H x _ cap zA X Y w' ((VX.out.keep BW.out).keep hE) ((RX.out.below BW.out).below hE) HVal.out).mono (fun _ _ h => by obtain ⟨n, m, rfl, rfl⟩ := h; exact ⟨n, rfl, below_drewN (Below.refl _ _) _⟩) : Calls Try.prog 100 #[.pointer (some ⟨x, 0, none⟩), .int .i64 X, .int .i64 Y] w' (fun e w2 => ∃ n, e = .returned (.float .f32 (pick .f32 (fat zA (atK W H X Y)) n)) ∧ Below w'.heap.size w' w2)))
      obtain ⟨d0, d1, d2, e0, e1, e2, ea, eg, ef⟩ := KS.out wr (Below.refl _ _)
      go_wp2_with fail
      refine (CA.out _ _ wr (Below.refl _ _)).mono ?_
      rintro _ wa ⟨na, rfl, ba⟩
      clear d0 d1 d2 e0 e1 e2 ea eg ef
      obtain ⟨d0, d1, d2, e0, e1, e2, ea, eg, ef⟩ := KS.out wa ba
      go_wp2_with fail
      refine (CA.out _ _ wa ba).mono ?_
      rintro _ wb ⟨nb, rfl, bb⟩
      have b5' := ba.trans (bb.mono ba.size)
      clear d0 d1 d2 e0 e1 e2 ea eg ef
      obtain ⟨d0, d1, d2, e0, e1, e2, ea, eg, ef⟩ := KS.out wb b5'
      rw [← wb.drewN_zero]
      go_upto_region 8 with (first | (first | (refine wpList_fop rfl _ _ _ _ _ rfl _ _ _ rfl rfl (by decide) _ ?_; intro _ _) | (refine upon_fop _ _ _ _ _ (by decide) ?_; intro _ _)) | (go_at_call 111; refine (c_l07Size _ _ _ _).mono ?_; rintro _ _ ⟨_, _, rfl, rfl⟩))
      generalize hw5 : World.drewN wb _ = w5
      have b5 : Below wr.heap.size wr w5 := by subst hw5; exact below_drewN b5' _
      clear hw5 b5' ba bb d0 d1 d2 e0 e1 e2 ea eg ef
      have z5 : wr.heap.size ≤ w5.heap.size := b5.size
      have KSb := Lib.hid (fun (w' : World) (hF : Below w5.heap.size w5 w') => KS.out w' (b5.trans (hF.mono b5.size)))
      have CAb := Lib.hid (fun (X Y : Int) (w' : World) (hF : Below w5.heap.size w5 w') => CA.out X Y w' (b5.trans (hF.mono b5.size)))
      have HO5 := Lib.hid (HO.out.below b5)
      have HV5 := Lib.hid (HV.out.keep b5)
      have HB5 := Lib.hid (HB.out.trans (b5.mono (by omega)))
      clear KS CA HO HV HB b5
      have KS := KSb
      have CA := CAb
      have HO := HO5
      have HV := HV5
      have HB := HB5
      clear KSb CAb HO5 HV5 HB5
      have z2 : w1.heap.size < w5.heap.size := HV.out.lt
      refine wp_region_facts 18 (fun a b => Below a.heap.size a b) (fun _ => Below.refl _ _) (fun _ _ _ h h' => h.trans (h'.mono h.size)) (Below.refl _ _).drew (by kernel_rfl) (by kernel_rfl) (by kernel_rfl) (by kernel_rfl) ?_
      simp only [List.take_succ_cons, List.take_zero, List.drop_succ_cons, List.drop_zero]
      (with_reducible apply wpF_val); (focus (intro vs w' hE hk; (obtain ⟨d0, d1, d2, e0, e1, e2, ea, eg, ef⟩ := KS.out w' hE); go_simp; exact ⟨Below.refl _ _, rfl⟩)); (simp only [Act.put, List.setIfInBounds_toArray, List.set_cons_zero, List.set_cons_succ, List.cons_append, List.nil_append])
      (with_reducible apply wpF_val); (focus (intro vs w' hE hk; (obtain ⟨d0, d1, d2, e0, e1, e2, ea, eg, ef⟩ := KS.out w' hE); go_simp; exact ⟨Below.refl _ _, rfl⟩)); (simp only [Act.put, List.setIfInBounds_toArray, List.set_cons_zero, List.set_cons_succ, List.cons_append, List.nil_append])
      (with_reducible apply wpF_val); (focus (intro vs w' hE hk; (obtain ⟨d0, d1, d2, e0, e1, e2, ea, eg, ef⟩ := KS.out w' hE); go_simp; exact ⟨Below.refl _ _, rfl⟩)); (simp only [Act.put, List.setIfInBounds_toArray, List.set_cons_zero, List.set_cons_succ, List.cons_append, List.nil_append])
      (with_reducible apply wpF_val); (focus (intro vs w' hE hk; (obtain ⟨d0, d1, d2, e0, e1, e2, ea, eg, ef⟩ := KS.out w' hE); go_simp; exact ⟨Below.refl _ _, rfl⟩)); (simp only [Act.put, List.setIfInBounds_toArray, List.set_cons_zero, List.set_cons_succ, List.cons_append, List.nil_append])
      (with_reducible apply wpF_val); (focus (intro vs w' hE hk; (obtain ⟨d0, d1, d2, e0, e1, e2, ea, eg, ef⟩ := KS.out w' hE); go_simp; exact ⟨Below.refl _ _, rfl⟩)); (simp only [Act.put, List.setIfInBounds_toArray, List.set_cons_zero, List.set_cons_succ, List.cons_append, List.nil_append])
      (with_reducible apply wpF_val); (focus (intro vs w' hE hk; (obtain ⟨d0, d1, d2, e0, e1, e2, ea, eg, ef⟩ := KS.out w' hE); go_simp; exact ⟨Below.refl _ _, rfl⟩)); (simp only [Act.put, List.setIfInBounds_toArray, List.set_cons_zero, List.set_cons_succ, List.cons_append, List.nil_append])
      (with_reducible apply wpF_val); (focus (intro vs w' hE hk; (obtain ⟨d0, d1, d2, e0, e1, e2, ea, eg, ef⟩ := KS.out w' hE); go_simp; exact ⟨Below.refl _ _, rfl⟩)); (simp only [Act.put, List.setIfInBounds_toArray, List.set_cons_zero, List.set_cons_succ, List.cons_append, List.nil_append])
      (with_reducible apply wpF_val); (focus (intro vs w' hE hk; (obtain ⟨d0, d1, d2, e0, e1, e2, ea, eg, ef⟩ := KS.out w' hE); go_simp; exact ⟨Below.refl _ _, rfl⟩)); (simp only [Act.put, List.setIfInBounds_toArray, List.set_cons_zero, List.set_cons_succ, List.cons_append, List.nil_append])
      refine wpF_fact (fun u _ => ∃ m, u = .float .f32 (pick .f32 (fat zA (atK W H ((k : Int) % W) ((k : Int) / W + 1))) m)) (fun _ _ _ h _ => h) (fun vs w' hE hk => ?_) ?_; (focus (obtain ⟨d0, d1, d2, e0, e1, e2, ea, eg, ef⟩ := KS.out w' hE; go_simp; refine (CA.out _ _ w' hE).mono ?_; rintro _ w9 ⟨n9, rfl, b9⟩; exact ⟨_, rfl, b9, n9, rfl⟩)); (simp only [Act.put, List.setIfInBounds_toArray, List.set_cons_zero, List.set_cons_succ, List.cons_append, List.nil_append])
      (with_reducible apply wpF_val); (focus (intro vs w' hE hk; (obtain ⟨d0, d1, d2, e0, e1, e2, ea, eg, ef⟩ := KS.out w' hE); go_simp; exact ⟨Below.refl _ _, rfl⟩)); (simp only [Act.put, List.setIfInBounds_toArray, List.set_cons_zero, List.set_cons_succ, List.cons_append, List.nil_append])
      (with_reducible apply wpF_val); (focus (intro vs w' hE hk; (obtain ⟨d0, d1, d2, e0, e1, e2, ea, eg, ef⟩ := KS.out w' hE); go_simp; exact ⟨Below.refl _ _, rfl⟩)); (simp only [Act.put, List.setIfInBounds_toArray, List.set_cons_zero, List.set_cons_succ, List.cons_append, List.nil_append])
      (with_reducible apply wpF_val); (focus (intro vs w' hE hk; (obtain ⟨d0, d1, d2, e0, e1, e2, ea, eg, ef⟩ := KS.out w' hE); go_simp; exact ⟨Below.refl _ _, rfl⟩)); (simp only [Act.put, List.setIfInBounds_toArray, List.set_cons_zero, List.set_cons_succ, List.cons_append, List.nil_append])
      (with_reducible apply wpF_val); (focus (intro vs w' hE hk; (obtain ⟨d0, d1, d2, e0, e1, e2, ea, eg, ef⟩ := KS.out w' hE); go_simp; exact ⟨Below.refl _ _, rfl⟩)); (simp only [Act.put, List.setIfInBounds_toArray, List.set_cons_zero, List.set_cons_succ, List.cons_append, List.nil_append])
      refine wpF_fact (fun u _ => ∃ m, u = .float .f32 (pick .f32 (fat zA (atK W H ((k : Int) % W) ((k : Int) / W - 1))) m)) (fun _ _ _ h _ => h) (fun vs w' hE hk => ?_) ?_; (focus (obtain ⟨d0, d1, d2, e0, e1, e2, ea, eg, ef⟩ := KS.out w' hE; go_simp; refine (CA.out _ _ w' hE).mono ?_; rintro _ w9 ⟨n9, rfl, b9⟩; exact ⟨_, rfl, b9, n9, rfl⟩)); (simp only [Act.put, List.setIfInBounds_toArray, List.set_cons_zero, List.set_cons_succ, List.cons_append, List.nil_append])
      refine wpF_fact (fun u _ => ∃ m, u = .float .f32 (pick .f32 (fop .sub .f32 (fat zA (atK W H ((k : Int) % W) ((k : Int) / W + 1))) (fat zA (atK W H ((k : Int) % W) ((k : Int) / W - 1)))) m)) (fun _ _ _ h _ => h) (fun vs w' hE hk => ?_) ?_; (focus (obtain ⟨na, hna⟩ := hk 8 (by kernel_rfl); simp only [hna]; obtain ⟨nb, hnb⟩ := hk 13 (by kernel_rfl); simp only [hnb]; rw [if_pos (by rfl)]; refine uponW_fop _ _ _ _ _ rfl .f32 _ _ rfl rfl (by decide) (fun n' m' => ⟨below_drewN (Below.refl _ _) _, n', by simp only [fop_pick_l, fop_pick_r]⟩))); (simp only [Act.put, List.setIfInBounds_toArray, List.set_cons_zero, List.set_cons_succ, List.cons_append, List.nil_append])
      refine wpF_fact (fun u _ => ∃ m, u = .float .f32 (pick .f32 (absS (fop .sub .f32 (fat zA (atK W H ((k : Int) % W) ((k : Int) / W + 1))) (fat zA (atK W H ((k : Int) % W) ((k : Int) / W - 1))))) m)) (fun _ _ _ h _ => h) (fun vs w' hE hk => ?_) ?_; (focus (obtain ⟨nc, hnc⟩ := hk 14 (by kernel_rfl); simp only [hnc]; go_simp; rw [← w'.drewN_zero]; refine (c_l07Size _ _ w' 0).mono ?_; rintro _ _ ⟨m1, m2, rfl, rfl⟩; exact ⟨_, rfl, by rw [w'.drewN_zero]; exact below_drewN (Below.refl _ _) _, m1, rfl⟩)); (simp only [Act.put, List.setIfInBounds_toArray, List.set_cons_zero, List.set_cons_succ, List.cons_append, List.nil_append])
      refine wpF_fact (fun u _ => ∃ m, u = .float .f32 (pick .f32 (fop .add .f32 (absS (fop .sub .f32 (fat zA (atK W H ((k : Int) % W + 1) ((k : Int) / W))) (fat zA (atK W H ((k : Int) % W - 1) ((k : Int) / W))))) (absS (fop .sub .f32 (fat zA (atK W H ((k : Int) % W) ((k : Int) / W + 1))) (fat zA (atK W H ((k : Int) % W) ((k : Int) / W - 1)))))) m)) (fun _ _ _ h _ => h) (fun vs w' hE hk => ?_) ?_; (focus (obtain ⟨nd, hnd⟩ := hk 15 (by kernel_rfl); simp only [hnd]; rw [if_pos (by rfl)]; refine uponW_fop _ _ _ _ _ rfl .f32 _ _ rfl rfl (by decide) (fun n' m' => ⟨below_drewN (Below.refl _ _) _, n', by simp only [fop_pick_l, fop_pick_r]⟩))); (simp only [Act.put, List.setIfInBounds_toArray, List.set_cons_zero, List.set_cons_succ, List.cons_append, List.nil_append])
      (with_reducible apply wpF_val); (focus (intro vs w' hE hk; (obtain ⟨d0, d1, d2, e0, e1, e2, ea, eg, ef⟩ := KS.out w' hE); go_simp; exact ⟨Below.refl _ _, rfl⟩)); (simp only [Act.put, List.setIfInBounds_toArray, List.set_cons_zero, List.set_cons_succ, List.cons_append, List.nil_append])
      refine wpF_nil (fun vs w' hE hk => ?_)
      obtain ⟨m5, h5⟩ := hk 16
      obtain ⟨d0, d1, d2, e0, e1, e2, ea, eg, ef⟩ := KS.out w' hE
      have O2 := Lib.hid ((HO.out.below hE).set hlt (pick .f32 (edgeI W H zA k) m5) (pick_wf (edgeI_lt W H zA k) m5))
      have V2 := Lib.hid ((HV.out.keep hE).setOther (p := ⟨g, k, none⟩) (by show g ≠ _; omega) (.float .f32 (pick .f32 (edgeI W H zA k) m5)))
      have B2 := Lib.hid ((HB.out.trans (hE.mono (by omega))).setCell (p := ⟨g, k, none⟩) (by show _ ≤ g; omega) (.float .f32 (pick .f32 (edgeI W H zA k) m5)))
      simp only [h5]
      clear hE hk h5
      go_wp2_with fail
      go_roundw
      case rel => exact ⟨k + 1, _, by omega, by go_num, V2.out, O2.out, by rw [← HLat.out]; exact near_set HN.out (by rw [edgeL_len]; exact hlt) (by have := HO.out.1; omega) m5, B2.out⟩
      case measure => simp [intOf]; omega
    · obtain rfl : k = zA.length := by omega
      have hz : near zs (edgeL W H zA) := by
        have h := HN.out
        rw [List.take_of_length_le (show zs.length ≤ zA.length by have := HO.out.1; omega), List.take_of_length_le (show (edgeL W H zA).length ≤ zA.length by rw [edgeL_len]; exact Nat.le_refl _)] at h
        exact h
      have HZ := Lib.hid hz
      clear hz
      obtain ⟨co0, co1, co2⟩ := HV.out.three
      obtain ⟨cr0, cr1, cr2⟩ := (V1.out.below HB.out (by omega)).three
      have fr := F1.out.keep HB.out (by omega)
      have f0 := fr 0
      have f1 := fr 1
      have f2 := fr 2
      clear fr
      go_wp2_with fail
      have hrow : blk (some ⟨g, 0, none⟩) ≠ some w.heap.size := fun e => by simp [blk] at e; omega
      have BQ := B1.out.trans (HB.out.mono (by omega))
      refine bodyPost_ret (v := .agg #[.int .i64 W, .int .i64 H, .slice (some ⟨g, 0, none⟩) zA.length ca1]) (by simp [results, Try.results63, cr0, cr1, cr2, co0, co1, co2, go_sem]) rfl ⟨_, _, zs, rfl, ((BQ.setCell (by simp <;> omega) _).setCell (by simp <;> omega) _).setCell (by simp <;> omega) _, (((HO.out.setCell hrow _).setCell hrow _).setCell hrow _).mono (by omega), HZ.out⟩
/-! ### l00In -/
theorem c_l00In (x lo hi : Int) (w : World) (j : Nat) : Calls Try.prog 84 #[.int .i64 x, .int .i64 lo, .int .i64 hi] (w.drewN j) (RetV (.bool (decide (lo ≤ x) && decide (x ≤ hi))) w) := by
  by_cases h1 : lo ≤ x
  · by_cases h2 : x ≤ hi
    · have d1 : decide (lo ≤ x) = true := decide_eq_true h1
      have d2 : decide (x ≤ hi) = true := decide_eq_true h2
      go_enter Try.func84, Try.ntmps84
      go_wp2
      go_ret
      exact ⟨_, by simp [*], rfl⟩
    · have d1 : decide (lo ≤ x) = true := decide_eq_true h1
      have d2 : decide (x ≤ hi) = false := decide_eq_false h2
      go_enter Try.func84, Try.ntmps84
      go_wp2
      go_ret
      exact ⟨_, by simp [*], rfl⟩
  · have d1 : decide (lo ≤ x) = false := decide_eq_false h1
    go_enter Try.func84, Try.ntmps84
    go_wp2
    go_ret
    exact ⟨_, by simp [*], rfl⟩
/-! ### l02Sides -/
theorem c_l02Sides (W H : Int) (w : World) (j : Nat) : Calls Try.prog 109 #[.int .i64 W, .int .i64 H] (w.drewN j) (RetV (.bool (sideB W H)) w) := by
  unfold sideB
  cases hw : (decide (1 ≤ W) && decide (W ≤ 16))
  all_goals
    have HW := Lib.hid hw
    go_enter Try.func109, Try.ntmps109
    go_wp2_with (go_at_call 84; refine (c_l00In _ _ _ _ _).mono ?_; rintro _ _ ⟨_, rfl, rfl⟩)
    go_ret
    exact ⟨_, by simp [HW.out], rfl⟩
/-! ### l01Finite -/
theorem c_l01Finite (v n : Nat) (w : World) (j : Nat) : Calls Try.prog 114 #[.float .f32 (pick .f32 v n)] (w.drewN j) (RetV (.bool (finB .f32 v)) w) := by
  go_enter Try.func114, Try.ntmps114
  go_wp2_with (first | (refine wpList_fop rfl _ _ _ _ _ rfl _ _ _ rfl rfl (by decide) _ ?_; intro _ _) | (refine upon_fop _ _ _ _ _ (by decide) ?_; intro _ _))
  go_ret
  rw [← sub_self_zero]
  exact ⟨_, rfl, rfl⟩
/-! ### l02Finite -/
theorem c_l02Finite (a : Option Addr) (len cap : Nat) (zs : List Nat) (w : World) (j0 : Nat) (hr : IsRowF .f32 w a len cap zs) : Calls Try.prog 110 #[.slice a len cap] (w.drewN j0) (RetV (.bool (finL zs)) w) := by
  obtain ⟨h1, h2, h3, h4, h5⟩ := hr
  unfold maxLen at h3
  have H1 := Lib.hid h1
  clear h1
  go_enter Try.func110, Try.ntmps110
  go_wp2
  go_loopw [3] (fun i wr => ∃ k m : Nat, k ≤ len ∧ i = .int .i64 k ∧ wr = w.drewN m ∧ finL (zs.take k) = true) (fun i _ => len - (intOf i).toNat)
  case atStart => exact ⟨0, j0, Nat.zero_le _, rfl, rfl, rfl⟩
  case round =>
    obtain ⟨k, m, hk, rfl, rfl, hfin⟩ := hrel
    have HFin := Lib.hid hfin
    clear hfin
    by_cases hlt : k < len
    · rcases h5 with h5 | ⟨b, off, rfl, hbl, hc⟩
      · omega
      have hcell : w.cell? ⟨b, off + k, none⟩ = some (.float .f32 (fat zs k)) := hc k hlt
      obtain ⟨n, hn⟩ := pick0 .f32 (fat zs k) (lt_of_wf (h4 _ (by unfold fat; rw [List.getD, List.getElem?_eq_getElem (by have := H1.out; omega)]; exact List.getElem_mem _)))
      rw [hn] at hcell
      have HN := Lib.hid hn
      have HS := Lib.hid (finL_snoc zs k (by have := H1.out; omega))
      cases hf : finB .f32 (fat zs k)
      · have HO := Lib.hid (finL_of zs k (by have := H1.out; omega) hf)
        clear hc h4 hn
        go_wp2_with ((go_at_call 114; refine (c_l01Finite _ _ _ _).mono ?_; rintro _ _ ⟨_, rfl, rfl⟩))
        go_ret
        exact ⟨_, by rw [HO.out]; rfl, rfl⟩
      · have HF := Lib.hid hf
        clear hc h4 hn
        go_wp2_with ((go_at_call 114; refine (c_l01Finite _ _ _ _).mono ?_; rintro _ _ ⟨_, rfl, rfl⟩))
        go_roundw
        case rel => exact ⟨k + 1, _, by omega, by go_num, rfl, by rw [HS.out, HFin.out, HF.out]; rfl⟩
        case measure => simp [intOf]; omega
    · have e : zs.take k = zs := List.take_of_length_le (by have := H1.out; omega)
      have HE := Lib.hid e
      clear h5 h4 e
      go_wp2
      go_ret
      exact ⟨_, by have h := HFin.out; rw [HE.out] at h; rw [h]; rfl, rfl⟩
/-! ### l02Is -/
theorem c_l02Is (W H : Int) (b : Nat) (a : Option Addr) (len cap : Nat) (zs : List Nat) (w : World) (j0 : Nat) (hv : Var w b #[.int .i64 W, .int .i64 H, .slice a len cap]) (hr : IsRowF .f32 w a len cap zs) :
    Calls Try.prog 61 #[.pointer (some ⟨b, 0, none⟩)] (w.drewN j0) (RetV (.bool (validB W H zs)) w) := by
  obtain ⟨p0, p1, p2⟩ := hv.three
  have H1 := Lib.hid hr.1
  have HR := Lib.hid hr
  clear hr hv
  cases hs : sideB W H
  · have e : validB W H zs = false := by simp [validB, hs]
    have E := Lib.hid e
    have C1 := Lib.hid (fun n => (by have h := c_l02Sides W H w n; rwa [hs] at h : Calls Try.prog 109 #[.int .i64 W, .int .i64 H] (w.drewN n) (RetV (.bool false) w)))
    clear e hs
    go_enter Try.func61, Try.ntmps61
    go_wp2
    refine wp_region_N (fun f _ u => (f = 109 → u = .bool false)) (by kernel_rfl) (by kernel_rfl) ?_; (repeat (first | ((with_reducible show wpN _ _ _ _ _ (Oper.mk _ (Op.binOp _ _ _ _ _) _ _ _ none :: _) _); refine wpN_fop rfl _ _ _ _ _ rfl _ _ _ rfl rfl (by decide) ?_; intro _) | ((with_reducible show wpN _ _ _ _ _ (Oper.mk _ (Op.convert _ _ _) _ _ _ none :: _) _); refine wpN_cvU rfl 38 42 _ rfl (Option.isSome_iff_exists.2 ⟨_, Try.underlying38⟩) Try.underlying42 _ rfl ?_; intro _) | ((with_reducible show wpN _ _ _ _ _ (Oper.mk _ _ _ _ _ (some _) :: _) _); (with_reducible refine wpN_off ?_ ?_); focus rfl; (simp only [Act.put, List.setIfInBounds_toArray, List.set_cons_zero, List.set_cons_succ])) | ((with_reducible show wpN _ _ _ _ _ (Oper.mk _ _ _ _ _ (some _) :: _) _); ((with_reducible refine wpN_on ?_ (fun K hK => ?_)); (focus rfl); intro _; go_simp; first | (refine uponN_value (hK _ ?_)) | ((refine uponN_call (callN (v := .bool false) (fun _ => rfl) (C1.out _)) ?_; intro u hu; obtain rfl : u = _ := hu rfl; clear hu); refine hK _ ?_)); clear hK K) | (((with_reducible refine wpN_plain rfl (fun K hK => ?_)); intro _; go_simp; first | (refine uponN_value (hK _ ?_)) | ((refine uponN_call (callN (v := .bool false) (fun _ => rfl) (C1.out _)) ?_; intro u hu; obtain rfl : u = _ := hu rfl; clear hu); refine hK _ ?_)); clear hK K) | ((with_reducible refine wpN_step (fun K hK => ?_)); go_simp; first | (refine hK _ ?_) | (intro _; first | (refine uponN_value (hK _ ?_)) | ((refine uponN_call (callN (v := .bool false) (fun _ => rfl) (C1.out _)) ?_; intro u hu; obtain rfl : u = _ := hu rfl; clear hu); refine hK _ ?_)); clear hK K))); refine wpN_nil ?_; intro _
    go_wp2
    go_ret
    exact ⟨_, by rw [E.out]; rfl, rfl⟩
  · obtain ⟨m1, m2⟩ := side_mul hs
    have mw : IntKind.i64.wrap (W * H) = W * H := IntWalk.i64_in _ (by omega)
    have C1 := Lib.hid (fun n => (by have h := c_l02Sides W H w n; rwa [hs] at h : Calls Try.prog 109 #[.int .i64 W, .int .i64 H] (w.drewN n) (RetV (.bool true) w)))
    have C2 := Lib.hid (fun n => c_l02Finite a len cap zs w n HR.out)
    by_cases hl : (len : Int) = W * H
    · have hd : ((len : Int) == W * H) = true := by simpa using hl
      have e : validB W H zs = finL zs := by simp [validB, hs, H1.out, hl]
      have E := Lib.hid e
      have HL := Lib.hid hl
      clear e hs hl
      go_enter Try.func61, Try.ntmps61
      go_wp2
      refine wp_region_N (fun f _ u => (f = 109 → u = .bool true) ∧ (f = 110 → u = .bool (finL zs))) (by kernel_rfl) (by kernel_rfl) ?_; (repeat (first | ((with_reducible show wpN _ _ _ _ _ (Oper.mk _ (Op.binOp _ _ _ _ _) _ _ _ none :: _) _); refine wpN_fop rfl _ _ _ _ _ rfl _ _ _ rfl rfl (by decide) ?_; intro _) | ((with_reducible show wpN _ _ _ _ _ (Oper.mk _ (Op.convert _ _ _) _ _ _ none :: _) _); refine wpN_cvU rfl 38 42 _ rfl (Option.isSome_iff_exists.2 ⟨_, Try.underlying38⟩) Try.underlying42 _ rfl ?_; intro _) | ((with_reducible show wpN _ _ _ _ _ (Oper.mk _ _ _ _ _ (some _) :: _) _); (with_reducible refine wpN_off ?_ ?_); focus rfl; (simp only [Act.put, List.setIfInBounds_toArray, List.set_cons_zero, List.set_cons_succ])) | ((with_reducible show wpN _ _ _ _ _ (Oper.mk _ _ _ _ _ (some _) :: _) _); ((with_reducible refine wpN_on ?_ (fun K hK => ?_)); (focus rfl); intro _; go_simp; first | (refine uponN_value (hK _ ?_)) | ((first | (refine uponN_call (callN (v := .bool true) ⟨fun _ => rfl, fun h => absurd h (by decide)⟩ (C1.out _)) ?_; intro u hu; obtain rfl : u = _ := hu.1 rfl; clear hu) | (refine uponN_call (callN (v := .bool (finL zs)) ⟨fun h => absurd h (by decide), fun _ => rfl⟩ (C2.out _)) ?_; intro u hu; obtain rfl : u = _ := hu.2 rfl; clear hu)); refine hK _ ?_)); clear hK K) | (((with_reducible refine wpN_plain rfl (fun K hK => ?_)); intro _; go_simp; first | (refine uponN_value (hK _ ?_)) | ((first | (refine uponN_call (callN (v := .bool true) ⟨fun _ => rfl, fun h => absurd h (by decide)⟩ (C1.out _)) ?_; intro u hu; obtain rfl : u = _ := hu.1 rfl; clear hu) | (refine uponN_call (callN (v := .bool (finL zs)) ⟨fun h => absurd h (by decide), fun _ => rfl⟩ (C2.out _)) ?_; intro u hu; obtain rfl : u = _ := hu.2 rfl; clear hu)); refine hK _ ?_)); clear hK K) | ((with_reducible refine wpN_step (fun K hK => ?_)); go_simp; first | (refine hK _ ?_) | (intro _; first | (refine uponN_value (hK _ ?_)) | ((first | (refine uponN_call (callN (v := .bool true) ⟨fun _ => rfl, fun h => absurd h (by decide)⟩ (C1.out _)) ?_; intro u hu; obtain rfl : u = _ := hu.1 rfl; clear hu) | (refine uponN_call (callN (v := .bool (finL zs)) ⟨fun h => absurd h (by decide), fun _ => rfl⟩ (C2.out _)) ?_; intro u hu; obtain rfl : u = _ := hu.2 rfl; clear hu)); refine hK _ ?_)); clear hK K))); refine wpN_nil ?_; intro _
      go_wp2
      go_ret
      exact ⟨_, by rw [E.out]; rfl, rfl⟩
    · have hd : ((len : Int) == W * H) = false := by simpa using hl
      have e : validB W H zs = false := by simp [validB, hs, H1.out, hl]
      have E := Lib.hid e
      clear e hs hl
      go_enter Try.func61, Try.ntmps61
      go_wp2
      refine wp_region_N (fun f _ u => (f = 109 → u = .bool true)) (by kernel_rfl) (by kernel_rfl) ?_; (repeat (first | ((with_reducible show wpN _ _ _ _ _ (Oper.mk _ (Op.binOp _ _ _ _ _) _ _ _ none :: _) _); refine wpN_fop rfl _ _ _ _ _ rfl _ _ _ rfl rfl (by decide) ?_; intro _) | ((with_reducible show wpN _ _ _ _ _ (Oper.mk _ (Op.convert _ _ _) _ _ _ none :: _) _); refine wpN_cvU rfl 38 42 _ rfl (Option.isSome_iff_exists.2 ⟨_, Try.underlying38⟩) Try.underlying42 _ rfl ?_; intro _) | ((with_reducible show wpN _ _ _ _ _ (Oper.mk _ _ _ _ _ (some _) :: _) _); (with_reducible refine wpN_off ?_ ?_); focus rfl; (simp only [Act.put, List.setIfInBounds_toArray, List.set_cons_zero, List.set_cons_succ])) | ((with_reducible show wpN _ _ _ _ _ (Oper.mk _ _ _ _ _ (some _) :: _) _); ((with_reducible refine wpN_on ?_ (fun K hK => ?_)); (focus rfl); intro _; go_simp; first | (refine uponN_value (hK _ ?_)) | ((refine uponN_call (callN (v := .bool true) (fun _ => rfl) (C1.out _)) ?_; intro u hu; obtain rfl : u = _ := hu rfl; clear hu); refine hK _ ?_)); clear hK K) | (((with_reducible refine wpN_plain rfl (fun K hK => ?_)); intro _; go_simp; first | (refine uponN_value (hK _ ?_)) | ((refine uponN_call (callN (v := .bool true) (fun _ => rfl) (C1.out _)) ?_; intro u hu; obtain rfl : u = _ := hu rfl; clear hu); refine hK _ ?_)); clear hK K) | ((with_reducible refine wpN_step (fun K hK => ?_)); go_simp; first | (refine hK _ ?_) | (intro _; first | (refine uponN_value (hK _ ?_)) | ((refine uponN_call (callN (v := .bool true) (fun _ => rfl) (C1.out _)) ?_; intro u hu; obtain rfl : u = _ := hu rfl; clear hu); refine hK _ ?_)); clear hK K))); refine wpN_nil ?_; intro _
      go_wp2
      go_ret
      exact ⟨_, by rw [E.out]; rfl, rfl⟩
/-! ### l02Is0 -/
theorem c_l02Is0 (W H : Int) (b : Nat) (a : Option Addr) (len cap : Nat) (zs : List Nat) (w : World) (hv : Var w b #[.int .i64 W, .int .i64 H, .slice a len cap]) (hr : IsRowF .f32 w a len cap zs) :
    Calls Try.prog 61 #[.pointer (some ⟨b, 0, none⟩)] w (RetV (.bool (validB W H zs)) w) := by
  have h := c_l02Is W H b a len cap zs w 0 hv hr
  rwa [w.drewN_zero] at h
/-! ### l02Give -/
theorem c_l02Give_yes (W H : Int) (a : Option Addr) (len cap : Nat) (zs : List Nat) (w : World) (hr : IsRowF .f32 w a len cap zs) (hv : validB W H zs = true) : Calls Try.prog 62 #[.agg #[.int .i64 W, .int .i64 H, .slice a len cap]] w (RetB (.tuple #[.agg #[.int .i64 W, .int .i64 H, .slice a len cap], .bool true]) w) := by
  have HR := Lib.hid hr
  have HV := Lib.hid hv
  clear hr hv
  go_enter Try.func62, Try.ntmps62
  go_wp2_with fail
  refine (c_l02Is0 W H w.heap.size a len cap zs _ ((Var.new _ _ _).alloc _) ((HR.out.alloc _).alloc _)).mono ?_
  rintro _ w1 ⟨m, rfl, rfl⟩
  rw [HV.out]
  go_wp2_with fail
  refine bodyPost_ret (v := .tuple #[.agg #[.int .i64 W, .int .i64 H, .slice a len cap], .bool true]) (by simp [results, Try.results62, go_sem]) rfl ⟨rfl, ?_⟩
  exact (((below_drewN (((Below.refl _ _).alloc (Nat.le_refl _) _).alloc (by simp) _) _).setCell (by simp) _).setCell (by simp) _).setCell (by simp) _
theorem c_l02Give_no (W H : Int) (a : Option Addr) (len cap : Nat) (zs : List Nat) (w : World) (hr : IsRowF .f32 w a len cap zs) (hv : validB W H zs = false) : Calls Try.prog 62 #[.agg #[.int .i64 W, .int .i64 H, .slice a len cap]] w (RetB (.tuple #[.agg #[.int .i64 0, .int .i64 0, .slice none 0 0], .bool false]) w) := by
  have HR := Lib.hid hr
  have HV := Lib.hid hv
  clear hr hv
  go_enter Try.func62, Try.ntmps62
  go_wp2_with fail
  refine (c_l02Is0 W H w.heap.size a len cap zs _ ((Var.new _ _ _).alloc _) ((HR.out.alloc _).alloc _)).mono ?_
  rintro _ w1 ⟨m, rfl, rfl⟩
  rw [HV.out]
  go_wp2_with fail
  refine bodyPost_ret (v := .tuple #[.agg #[.int .i64 0, .int .i64 0, .slice none 0 0], .bool false]) (by simp [results, Try.results62, go_sem]) rfl ⟨rfl, ?_⟩
  exact (((below_drewN (((Below.refl _ _).alloc (Nat.le_refl _) _).alloc (by simp) _) _).setCell (by simp) _).setCell (by simp) _).setCell (by simp) _
/-! ### giveAny -/
theorem c_give (W H : Int) (a : Option Addr) (n c : Nat) (zs L : List Nat) (B : Nat) (w : World) (o : Own 38 w B a n c zs) (hz : near zs L) (hl : n ≤ 1048576) :
    Calls Try.prog 62 #[.agg #[.int .i64 W, .int .i64 H, .slice a n c]] w (fun e w' => ∃ a' c', e = .returned (.tuple #[.agg #[.int .i64 (giveP W H L).W, .int .i64 (giveP W H L).H, .slice a' (giveP W H L).zs.length c'], .bool (giveP W H L).ok]) ∧ (giveP W H L).zs.length ≤ 1048576 ∧ Below w.heap.size w w' ∧ Own 38 w' B a' (giveP W H L).zs.length c' (giveP W H L).zs) := by
  have hv := near_valid (W := W) (H := H) hz
  have hn : zs.length = n := o.1
  unfold giveP
  cases h : validB W H L
  · rw [if_neg (by decide)]
    refine (c_l02Give_no W H a n c zs w o.row (by rw [hv, h])).mono ?_
    rintro _ w' ⟨rfl, b⟩
    exact ⟨none, 0, rfl, Nat.zero_le _, b, Own.nil _ _ _⟩
  · rw [if_pos rfl]
    obtain rfl := near_eq hz (valid_fin h)
    refine (c_l02Give_yes W H a n c zs w o.row h).mono ?_
    rintro _ w' ⟨rfl, b⟩
    exact ⟨a, c, by rw [hn], by rw [hn]; exact hl, b, by rw [hn]; exact o.below b⟩
/-! ### sEdgesOf -/
theorem c_sEdgesOf (WA HA : Int) (zA : List Nat) (aA : Option Addr) (cA : Nat) (w : World) (rA : IsRowF .f32 w aA zA.length cA zA) : Calls Try.prog 16 #[.agg #[.int .i64 WA, .int .i64 HA, .slice aA zA.length cA]] w (RetP 38 (resEdges WA HA zA) w) := by
  generalize hw0 : (w.alloc (Obj.cells #[.int .i64 WA, .int .i64 HA, .slice aA zA.length cA] 26)).alloc (Obj.cells #[.int .i64 0, .int .i64 0, .slice none 0 0] 26) = w0
  have X0 : Var w0 w.heap.size #[.int .i64 WA, .int .i64 HA, .slice aA zA.length cA] := by subst hw0; exact (Var.new _ _ _).alloc _
  have X1 : Var w0 (w.heap.size + 1) #[.int .i64 0, .int .i64 0, .slice none 0 0] := by subst hw0; exact Var.new' _ _ _ _ (by simp)
  have X2 : Free w0 (w.heap.size + 1) := by subst hw0; exact Free.new' _ _ _ _ (by simp)
  have X3 : Below w.heap.size w w0 := by subst hw0; exact ((Below.refl _ _).alloc (Nat.le_refl _) _).alloc (by simp) _
  have X4 : w0.heap.size = w.heap.size + 1 + 1 := by subst hw0; simp
  have HW := Lib.hid hw0
  have V0 := Lib.hid X0
  have V1 := Lib.hid X1
  have F1 := Lib.hid X2
  have B0 := Lib.hid X3
  have RX := Lib.hid (rA.below X3)
  clear hw0 X0 X1 X2 X3 rA
  have CI := Lib.hid (c_l02Is0 WA HA _ aA _ cA zA _ V0.out RX.out)
  unfold resEdges
  cases hv : validB WA HA zA
  · rw [if_neg (by decide)]
    rw [hv] at CI
    clear hv
    go_enter Try.func16, Try.ntmps16
    go_wp2_with fail
    rw [HW.out]
    refine CI.out.mono ?_
    rintro _ _ ⟨m1, rfl, rfl⟩
    have bb_w1 := below_drewN (Below.refl w0.heap.size w0) m1
    have VV := Lib.hid (V1.out.keep bb_w1)
    have FF := Lib.hid (F1.out.below V1.out.lt bb_w1)
    have BB := Lib.hid (B0.out.trans (bb_w1.mono (by omega)))
    have UU := Lib.hid (V0.out.keep bb_w1)
    have RR := Lib.hid (RX.out.below bb_w1)
    clear bb_w1
    generalize World.drewN w0 m1 = w1 at *
    rw [← w1.drewN_zero]
    have zz : w.heap.size + 1 < w1.heap.size := VV.out.lt
    obtain ⟨q0, q1, q2⟩ := VV.out.three
    have f0 := FF.out 0
    have f1 := FF.out 1
    have f2 := FF.out 2
    go_wp2_with fail
    refine bodyPost_ret (v := .tuple #[.agg #[.int .i64 0, .int .i64 0, .slice none 0 0], .bool false]) (by simp [results, Try.results16, q0, q1, q2, go_sem]) rfl (show RetP _ PRes.no _ _ _ from ⟨none, 0, rfl, Nat.zero_le _, ?_, Own.nil _ _ _⟩)
    repeat (first | exact BB.out | exact Nat.le_refl _ | (refine Below.setCell ?_ ?_ _) | (refine below_drewN ?_ _) | (refine Below.alloc ?_ ?_ _) | (simp <;> omega))
  rw [if_pos rfl]
  rw [hv] at CI
  have HV0 := Lib.hid hv
  have hl256 := (valid_len hv).2.1
  have hl1 := (valid_len hv).2.2
  have CB := fun (w : World) (x : Nat) (h1 : Var w x #[.int .i64 WA, .int .i64 HA, .slice aA zA.length cA]) (h2 : IsRowF .f32 w aA zA.length cA zA) => c_l07Edges WA HA x aA cA zA w h1 h2 hl1 (by omega) HV0.out
  have CB := Lib.hid CB
  clear hv
  generalize edgeL WA HA zA = L at *
  have HNm : zA.length ≤ 1048576 := by omega
  have CG := Lib.hid (fun (a : Option Addr) (c : Nat) (zs : List Nat) (B : Nat) (w : World) (o : Own 38 w B a zA.length c zs) (hz : near zs L) => c_give WA HA a zA.length c zs L B w o hz HNm)
  generalize giveP WA HA L = res at *
  go_enter Try.func16, Try.ntmps16
  go_wp2_with fail
  rw [HW.out]
  refine CI.out.mono ?_
  rintro _ _ ⟨m1, rfl, rfl⟩
  have bb_w1 := below_drewN (Below.refl w0.heap.size w0) m1
  have VV := Lib.hid (V1.out.keep bb_w1)
  have FF := Lib.hid (F1.out.below V1.out.lt bb_w1)
  have BB := Lib.hid (B0.out.trans (bb_w1.mono (by omega)))
  have UU := Lib.hid (V0.out.keep bb_w1)
  have RR := Lib.hid (RX.out.below bb_w1)
  clear bb_w1
  generalize World.drewN w0 m1 = w1 at *
  rw [← w1.drewN_zero]
  have zz : w.heap.size + 1 < w1.heap.size := VV.out.lt
  go_wp2_with fail
  have E : ∀ j, Below w1.heap.size w1 (w1.drewN j) := fun j => below_drewN (Below.refl _ _) j
  refine (CB.out _ _ (UU.out.keep (E _)) (RR.out.below (E _))).mono ?_
  rintro _ w2 ⟨a2, c2, zs2, rfl, b2, o2, hz2⟩
  have VV2 := Lib.hid ((VV.out.keep (E _)).keep b2)
  have FF2 := Lib.hid ((FF.out.below zz (E _)).below (by exact zz) b2)
  have BB2 := Lib.hid ((BB.out.trans ((E _).mono (by omega))).trans (b2.mono (by show w.heap.size ≤ w1.heap.size; omega)))
  have zz2 : w1.heap.size ≤ w2.heap.size := b2.size
  have O2 := Lib.hid (o2.mono (B' := w1.heap.size) (Nat.le_refl _))
  have Z2 := Lib.hid hz2
  clear b2 o2 hz2 E
  go_wp2_with fail
  refine (CG.out a2 c2 zs2 _ w2 O2.out Z2.out).mono ?_
  rintro _ w9 ⟨a9, cap9, rfl, hl9, b9, o9⟩
  have V9 := Lib.hid (VV2.out.keep b9)
  have F9 := Lib.hid (FF2.out.below (by omega) b9)
  have B9 := Lib.hid (BB2.out.trans (b9.mono (by omega)))
  have z9 : w2.heap.size ≤ w9.heap.size := b9.size
  have O9 := Lib.hid o9
  have HL9 := Lib.hid hl9
  clear b9 o9 hl9
  obtain ⟨q0, q1, q2⟩ := V9.out.three
  have f0 := F9.out 0
  have f1 := F9.out 1
  have f2 := F9.out 2
  go_wp2_with fail
  have hrow : blk a9 ≠ some (w.heap.size + 1) := fun e => by have := O9.out.in _ e; omega
  refine bodyPost_ret (v := .tuple #[.agg #[.int .i64 res.W, .int .i64 res.H, .slice a9 res.zs.length cap9], .bool res.ok]) (by simp [results, Try.results16, q0, q1, q2, go_sem]) rfl ⟨a9, cap9, rfl, HL9.out, ((B9.out.setCell (by simp <;> omega) _).setCell (by simp <;> omega) _).setCell (by simp <;> omega) _, (((O9.out.setCell hrow _).setCell hrow _).setCell hrow _).mono (by omega)⟩
/-! ### rowOf -/
theorem c_rowOf (Wn Hn : Nat) (a : Option Addr) (cap : Nat) (zs : List Nat) (y : Nat) (w : World) (hr : IsRowF .f32 w a zs.length cap zs) (hW1 : 1 ≤ Wn) (hW2 : Wn ≤ 16) (hH2 : Hn ≤ 16) (hl : zs.length = Wn * Hn) (hy : y < Hn) :
    Calls Try.prog 72 #[.agg #[.int .i64 (Wn : Int), .int .i64 (Hn : Int), .slice a zs.length cap], .int .i64 (y : Int)] w (fun e w' => ∃ b off, a = some ⟨b, off, none⟩ ∧ e = .returned (.slice (some ⟨b, off + y * Wn, none⟩) Wn Wn) ∧ Below w.heap.size w w') := by
  obtain ⟨hb1, hb2⟩ := mul_bound hy hW2 hH2
  obtain ⟨N, hN⟩ : ∃ N, N = zs.length := ⟨_, rfl⟩
  obtain ⟨P, hP⟩ : ∃ P : Nat, P = y * Wn := ⟨_, rfl⟩
  have hPi : (y : Int) * (Wn : Int) = (P : Int) := by rw [hP, Int.natCast_mul]
  have hPi2 : ((y : Int) + 1) * (Wn : Int) = (P : Int) + (Wn : Int) := by rw [Int.add_mul, hPi, Int.one_mul]
  rw [← hP] at hb1 hb2 ⊢
  rw [← hl, ← hN] at hb1
  rw [← hN] at hr ⊢
  have hcap : N ≤ cap := hr.2.1
  have hcm : cap ≤ maxLen := hr.2.2.1
  unfold maxLen at hcm
  obtain ⟨b, off, n0, rfl, hb, e0⟩ := hr.at (k := 0) (by omega)
  have M1 := Lib.hid (show IntKind.i64.wrap ((y : Int) * (Wn : Int)) = (P : Int) by rw [hPi]; exact IntWalk.i64_in _ (by omega))
  have M2 := Lib.hid (show IntKind.i64.wrap (((y : Int) + 1) * (Wn : Int)) = (P : Int) + (Wn : Int) by rw [hPi2]; exact IntWalk.i64_in _ (by omega))
  have M3 := Lib.hid (show IntKind.i64.wrap ((y : Int) + 1) = (y : Int) + 1 from IntWalk.i64_in _ (by omega))
  have hc2 : P + Wn ≤ cap := by omega
  clear hN hP hPi hPi2 hl hr hb e0 n0
  generalize hw0 : w.alloc (Obj.cells #[.int .i64 (Wn : Int), .int .i64 (Hn : Int), .slice (some ⟨b, off, none⟩) N cap] 26) = w0
  have X0 : Var w0 w.heap.size #[.int .i64 (Wn : Int), .int .i64 (Hn : Int), .slice (some ⟨b, off, none⟩) N cap] := by subst hw0; exact Var.new _ _ _
  have X3 : Below w.heap.size w w0 := by subst hw0; exact (Below.refl _ _).alloc (Nat.le_refl _) _
  have HW := Lib.hid hw0
  have B0 := Lib.hid X3
  obtain ⟨v0, v1, v2⟩ := X0.three
  clear hw0 X0 X3
  go_enter Try.func72, Try.ntmps72
  go_wp2_with fail
  rw [HW.out]
  rw [← w0.drewN_zero]
  have m1 := M1.out
  have m2 := M2.out
  have m3 := M3.out
  refine wp_region_N (fun _ _ _ => True) (by kernel_rfl) (by kernel_rfl) ?_; (repeat (first | ((with_reducible show wpN _ _ _ _ _ (Oper.mk _ (Op.binOp _ _ _ _ _) _ _ _ none :: _) _); refine wpN_fop rfl _ _ _ _ _ rfl _ _ _ rfl rfl (by decide) ?_; intro _) | ((with_reducible show wpN _ _ _ _ _ (Oper.mk _ (Op.convert _ _ _) _ _ _ none :: _) _); refine wpN_cvU rfl 38 42 _ rfl (Option.isSome_iff_exists.2 ⟨_, Try.underlying38⟩) Try.underlying42 _ rfl ?_; intro _) | ((with_reducible show wpN _ _ _ _ _ (Oper.mk _ _ _ _ _ (some _) :: _) _); (with_reducible refine wpN_off ?_ ?_); focus rfl; (simp only [Act.put, List.setIfInBounds_toArray, List.set_cons_zero, List.set_cons_succ])) | ((with_reducible show wpN _ _ _ _ _ (Oper.mk _ _ _ _ _ (some _) :: _) _); ((with_reducible refine wpN_on ?_ (fun K hK => ?_)); (focus rfl); intro _; go_simp; first | (refine uponN_value (hK _ ?_)) | (fail; refine hK _ ?_)); clear hK K) | (((with_reducible refine wpN_plain rfl (fun K hK => ?_)); intro _; go_simp; first | (refine uponN_value (hK _ ?_)) | (fail; refine hK _ ?_)); clear hK K) | ((with_reducible refine wpN_step (fun K hK => ?_)); go_simp; first | (refine hK _ ?_) | (intro _; first | (refine uponN_value (hK _ ?_)) | (fail; refine hK _ ?_)); clear hK K))); refine wpN_nil ?_; intro _
  clear m1 m2 m3
  go_wp2_with fail
  go_ret
  exact ⟨b, off, rfl, by simp, below_drewN B0.out _⟩

/-! ### nearest -/
theorem c_nearest (v : Int) (n c : Nat) (w : World) (j : Nat) (h1 : 1 ≤ n) (h2 : n ≤ 16) (hc : maxI 0 (minI ((n : Int) - 1) v) = (c : Int)) : Calls Try.prog 113 #[.int .i64 v, .int .i64 (n : Int)] (w.drewN j) (RetV (.int .i64 (c : Int)) w) := by
  unfold maxI minI at hc
  have HC := Lib.hid hc
  clear hc
  rcases Int.lt_or_le v 0 with hv0 | hv0
  · have hv1 : ¬ (0 : Int) ≤ v := by omega
    go_enter Try.func113, Try.ntmps113
    go_wp2_with fail
    all_goals
      go_ret
      refine ⟨_, ?_, rfl⟩
      refine congrArg (fun z => Ending.returned (Value.int .i64 z)) ?_
      have hc := HC.out
      first | (split at hc <;> split at hc <;> first | omega | (simp only [hv0, if_true] at *; omega)) | (split at hc <;> first | omega | (split at hc <;> omega) | (simp only [hv0, if_true] at *; omega))
  · have hv1 : ¬ v < 0 := by omega
    go_enter Try.func113, Try.ntmps113
    go_wp2_with fail
    all_goals
      go_ret
      refine ⟨_, ?_, rfl⟩
      refine congrArg (fun z => Ending.returned (Value.int .i64 z)) ?_
      have hc := HC.out
      first | (split at hc <;> split at hc <;> first | omega | (simp only [hv1, if_false] at *; omega)) | (split at hc <;> first | omega | (split at hc <;> omega) | (simp only [hv1, if_false] at *; omega))

/-! ### lightNear -/
theorem c_lightNear (Wn Hn : Nat) (i j : Int) (a : Option Addr) (cap : Nat) (zs : List Nat) (w : World) (hr : IsRowF .f32 w a zs.length cap zs) (hW1 : 1 ≤ Wn) (hW2 : Wn ≤ 16) (hH1 : 1 ≤ Hn) (hH2 : Hn ≤ 16) (hl : zs.length = Wn * Hn) :
    Calls Try.prog 68 #[.agg #[.int .i64 (Wn : Int), .int .i64 (Hn : Int), .slice a zs.length cap], .int .i64 i, .int .i64 j] w (fun e w' => ∃ n, e = .returned (.float .f32 (pick .f32 (fat zs (atK (Wn : Int) (Hn : Int) i j)) n)) ∧ Below w.heap.size w w') := by
  obtain ⟨cx, e1, h1⟩ := clamp_in Wn hW1 i
  obtain ⟨cy, e2, h2⟩ := clamp_in Hn hH1 j
  have hat : atK (Wn : Int) (Hn : Int) i j = cy * Wn + cx := by unfold atK; rw [e1, e2, Int.toNat_natCast, Int.toNat_natCast, Int.toNat_natCast]
  rw [hat]
  have hb := (mul_bound h2 hW2 hH2).1
  have hidx : cy * Wn + cx < zs.length := by rw [hl]; omega
  obtain ⟨w0, hw0⟩ : ∃ w0, w0 = w.alloc (Obj.cells #[.int .i64 (Wn : Int), .int .i64 (Hn : Int), .slice a zs.length cap] 26) := ⟨_, rfl⟩
  have hv : Var w0 w.heap.size #[.int .i64 (Wn : Int), .int .i64 (Hn : Int), .slice a zs.length cap] := hw0 ▸ Var.new _ _ _
  have hb0 : Below w.heap.size w w0 := hw0 ▸ (Below.refl _ _).alloc (Nat.le_refl _) _
  have HW := Lib.hid hw0.symm
  have hr := hr.below hb0
  obtain ⟨b0, off, n0, rfl, hbb, e0⟩ := hr.at hidx
  have CR := Lib.hid (fun (w1 : World) (hr1 : IsRowF .f32 w1 (some ⟨b0, off, none⟩) zs.length cap zs) => @id (Calls Try.prog 72 #[.agg #[.int .i64 (Wn : Int), .int .i64 (Hn : Int), .slice (some ⟨b0, off, none⟩) zs.length cap], .int .i64 (cy : Int)] w1 (RetB (.slice (some ⟨b0, off + cy * Wn, none⟩) Wn Wn) w1)) ((c_rowOf Wn Hn _ cap zs cy w1 hr1 hW1 hW2 hH2 hl h2).mono (fun _ _ h => by obtain ⟨b1, off1, hab, rfl, hb1⟩ := h; cases hab; exact ⟨rfl, hb1⟩)))
  have CNx := Lib.hid (fun (w1 : World) => @id (Calls Try.prog 113 #[.int .i64 i, .int .i64 (Wn : Int)] w1 (RetV (.int .i64 (cx : Int)) w1)) (by have h := c_nearest i Wn cx w1 0 hW1 hW2 e1; rwa [w1.drewN_zero] at h))
  have CNy := Lib.hid (fun (w1 : World) => @id (Calls Try.prog 113 #[.int .i64 j, .int .i64 (Hn : Int)] w1 (RetV (.int .i64 (cy : Int)) w1)) (by have h := c_nearest j Hn cy w1 0 hH1 hH2 e2; rwa [w1.drewN_zero] at h))
  obtain ⟨P, hP⟩ : ∃ P, P = cy * Wn := ⟨_, rfl⟩
  rw [← hP] at e0 CR ⊢
  rw [← Nat.add_assoc] at e0
  have RX := Lib.hid hr
  have VX := Lib.hid hv
  have E0 := Lib.hid e0
  have B0 := Lib.hid hb0
  have KS := Lib.hid (fun (w' : World) (hE : Below w0.heap.size w0 w') => (⟨(VX.out.keep hE).three.1, (VX.out.keep hE).three.2.1, (VX.out.keep hE).three.2.2, (hE.cell (p := ⟨b0, off + P + cx, none⟩) hbb).trans E0.out⟩ : _ ∧ _ ∧ _ ∧ _))
  clear e0 e1 e2 hat hidx hP hl hr hv hb hb0 hw0
  go_enter Try.func68, Try.ntmps68
  go_wp2_with fail
  rw [HW.out]
  refine wp_region_facts 12 (fun a b => Below a.heap.size a b) (fun _ => Below.refl _ _) (fun _ _ _ h h' => h.trans (h'.mono h.size)) (Below.refl _ _).drew (by kernel_rfl) (by kernel_rfl) (by kernel_rfl) (by kernel_rfl) ?_
  simp only [List.take_succ_cons, List.take_zero, List.drop_succ_cons, List.drop_zero]
  (with_reducible apply wpF_val); (focus (intro vs w' hE hk; (obtain ⟨p0, p1, p2, ea⟩ := KS.out w' hE); go_simp; exact ⟨Below.refl _ _, rfl⟩)); (simp only [Act.put, List.setIfInBounds_toArray, List.set_cons_zero, List.set_cons_succ, List.cons_append, List.nil_append])
  (with_reducible apply wpF_val); (focus (intro vs w' hE hk; (obtain ⟨p0, p1, p2, ea⟩ := KS.out w' hE); go_simp; exact ⟨Below.refl _ _, rfl⟩)); (simp only [Act.put, List.setIfInBounds_toArray, List.set_cons_zero, List.set_cons_succ, List.cons_append, List.nil_append])
  (with_reducible apply wpF_val); (focus (intro vs w' hE hk; (obtain ⟨p0, p1, p2, ea⟩ := KS.out w' hE); go_simp; exact ⟨Below.refl _ _, rfl⟩)); (simp only [Act.put, List.setIfInBounds_toArray, List.set_cons_zero, List.set_cons_succ, List.cons_append, List.nil_append])
  (with_reducible apply wpF_val); (focus (intro vs w' hE hk; (obtain ⟨p0, p1, p2, ea⟩ := KS.out w' hE); go_simp; exact ⟨Below.refl _ _, rfl⟩)); (simp only [Act.put, List.setIfInBounds_toArray, List.set_cons_zero, List.set_cons_succ, List.cons_append, List.nil_append])
  (with_reducible apply wpF_val); (focus (intro vs w' hE hk; (obtain ⟨p0, p1, p2, ea⟩ := KS.out w' hE); go_simp; refine ((CNy.out _).mono (fun _ _ h => RetV.toB h)).mono ?_; rintro _ w9 ⟨rfl, b⟩; exact ⟨_, rfl, b, rfl⟩)); (simp only [Act.put, List.setIfInBounds_toArray, List.set_cons_zero, List.set_cons_succ, List.cons_append, List.nil_append])
  (with_reducible apply wpF_val); (focus (intro vs w' hE hk; (obtain ⟨p0, p1, p2, ea⟩ := KS.out w' hE); go_simp; refine (CR.out _ (RX.out.below hE)).mono ?_; rintro _ w9 ⟨rfl, b⟩; exact ⟨_, rfl, b, rfl⟩)); (simp only [Act.put, List.setIfInBounds_toArray, List.set_cons_zero, List.set_cons_succ, List.cons_append, List.nil_append])
  (with_reducible apply wpF_val); (focus (intro vs w' hE hk; (obtain ⟨p0, p1, p2, ea⟩ := KS.out w' hE); go_simp; exact ⟨Below.refl _ _, rfl⟩)); (simp only [Act.put, List.setIfInBounds_toArray, List.set_cons_zero, List.set_cons_succ, List.cons_append, List.nil_append])
  (with_reducible apply wpF_val); (focus (intro vs w' hE hk; (obtain ⟨p0, p1, p2, ea⟩ := KS.out w' hE); go_simp; exact ⟨Below.refl _ _, rfl⟩)); (simp only [Act.put, List.setIfInBounds_toArray, List.set_cons_zero, List.set_cons_succ, List.cons_append, List.nil_append])
  (with_reducible apply wpF_val); (focus (intro vs w' hE hk; (obtain ⟨p0, p1, p2, ea⟩ := KS.out w' hE); go_simp; exact ⟨Below.refl _ _, rfl⟩)); (simp only [Act.put, List.setIfInBounds_toArray, List.set_cons_zero, List.set_cons_succ, List.cons_append, List.nil_append])
  (with_reducible apply wpF_val); (focus (intro vs w' hE hk; (obtain ⟨p0, p1, p2, ea⟩ := KS.out w' hE); go_simp; refine ((CNx.out _).mono (fun _ _ h => RetV.toB h)).mono ?_; rintro _ w9 ⟨rfl, b⟩; exact ⟨_, rfl, b, rfl⟩)); (simp only [Act.put, List.setIfInBounds_toArray, List.set_cons_zero, List.set_cons_succ, List.cons_append, List.nil_append])
  (with_reducible apply wpF_val); (focus (intro vs w' hE hk; (obtain ⟨p0, p1, p2, ea⟩ := KS.out w' hE); go_simp; exact ⟨Below.refl _ _, rfl⟩)); (simp only [Act.put, List.setIfInBounds_toArray, List.set_cons_zero, List.set_cons_succ, List.cons_append, List.nil_append])
  (with_reducible apply wpF_val); (focus (intro vs w' hE hk; (obtain ⟨p0, p1, p2, ea⟩ := KS.out w' hE); go_simp; exact ⟨Below.refl _ _, rfl⟩)); (simp only [Act.put, List.setIfInBounds_toArray, List.set_cons_zero, List.set_cons_succ, List.cons_append, List.nil_append])
  refine wpF_nil (fun vs w' hE hk => ?_)
  have B1 := Lib.hid (B0.out.trans (hE.mono B0.out.size))
  clear hE hk
  go_wp2_with fail
  go_ret
  exact ⟨_, rfl, B1.out⟩
/-! ### withoutSign -/
theorem c_withoutSign (v n : Nat) (w : World) (j : Nat) : Calls Try.prog 69 #[.float .f32 (pick .f32 v n)] (w.drewN j) (RetF .f32 (absP v) w) := by
  unfold absP
  go_enter Try.func69, Try.ntmps69
  go_wp2_with (first | (refine wpList_fmax rfl _ _ _ rfl _ _ _ rfl rfl _ ?_; intro _ _))
  go_ret
  exact ⟨_, _, rfl, rfl⟩
/-! ### edg1 -/
theorem c_edges1 (Wn Hn i j : Nat) (a : Option Addr) (cap : Nat) (zs : List Nat) (bp : Nat) (w : World) (hv : Var w bp #[.int .i64 (Wn : Int), .int .i64 (Hn : Int), .slice a zs.length cap]) (hr : IsRowF .f32 w a zs.length cap zs)
    (hW1 : 1 ≤ Wn) (hW2 : Wn ≤ 16) (hH1 : 1 ≤ Hn) (hH2 : Hn ≤ 16) (hl : zs.length = Wn * Hn) (hi : i < Wn) (hj : j < Hn) :
    Calls Try.prog 67 #[.int .i64 (i : Int), .int .i64 (j : Int), .pointer (some ⟨bp, 0, none⟩)] w (fun e w' => ∃ n, e = .returned (.float .f32 (pick .f32 (edgeP (Wn : Int) (Hn : Int) zs i j) n)) ∧ Below w.heap.size w w') := by
  have KS := Lib.hid (fun (w' : World) (hE : Below w.heap.size w w') => (hv.keep hE).three)
  have CL := Lib.hid (fun (x y : Int) (w' : World) (hE : Below w.heap.size w w') => c_lightNear Wn Hn x y a cap zs w' (hr.below hE) hW1 hW2 hH1 hH2 hl)
  unfold edgeP
  have m1 : IntKind.i64.wrap ((i : Int) + 1) = (i : Int) + 1 := IntWalk.i64_in _ (by omega)
  have m2 : IntKind.i64.wrap ((i : Int) - 1) = (i : Int) - 1 := IntWalk.i64_in _ (by omega)
  have m3 : IntKind.i64.wrap ((j : Int) + 1) = (j : Int) + 1 := IntWalk.i64_in _ (by omega)
  have m4 : IntKind.i64.wrap ((j : Int) - 1) = (j : Int) - 1 := IntWalk.i64_in _ (by omega)
  clear hv hr hl
  obtain ⟨p0, p1, p2⟩ := KS.out w (Below.refl _ _)
  go_enter Try.func67, Try.ntmps67
  go_upto_region 1 with fail
  refine wp_region_facts 12 (fun a b => Below a.heap.size a b) (fun _ => Below.refl _ _) (fun _ _ _ h h' => h.trans (h'.mono h.size)) (Below.refl _ _).drew (by kernel_rfl) (by kernel_rfl) (by kernel_rfl) (by kernel_rfl) ?_
  simp only [List.take_succ_cons, List.take_zero, List.drop_succ_cons, List.drop_zero]
  (with_reducible apply wpF_val); (focus (intro vs w' hE hk; (obtain ⟨p0, p1, p2⟩ := KS.out w' hE); go_simp; exact ⟨Below.refl _ _, rfl⟩)); (simp only [Act.put, List.setIfInBounds_toArray, List.set_cons_zero, List.set_cons_succ, List.cons_append, List.nil_append])
  (with_reducible apply wpF_val); (focus (intro vs w' hE hk; (obtain ⟨p0, p1, p2⟩ := KS.out w' hE); go_simp; exact ⟨Below.refl _ _, rfl⟩)); (simp only [Act.put, List.setIfInBounds_toArray, List.set_cons_zero, List.set_cons_succ, List.cons_append, List.nil_append])
  (with_reducible apply wpF_val); (focus (intro vs w' hE hk; (obtain ⟨p0, p1, p2⟩ := KS.out w' hE); go_simp; exact ⟨Below.refl _ _, rfl⟩)); (simp only [Act.put, List.setIfInBounds_toArray, List.set_cons_zero, List.set_cons_succ, List.cons_append, List.nil_append])
  (with_reducible apply wpF_val); (focus (intro vs w' hE hk; (obtain ⟨p0, p1, p2⟩ := KS.out w' hE); go_simp; exact ⟨Below.refl _ _, rfl⟩)); (simp only [Act.put, List.setIfInBounds_toArray, List.set_cons_zero, List.set_cons_succ, List.cons_append, List.nil_append])
  refine wpF_fact (fun u _ => ∃ m, u = .float .f32 (pick .f32 (fat zs (atK (Wn : Int) (Hn : Int) ((i : Int) + 1) ((j : Int)))) m)) (fun _ _ _ h _ => h) (fun vs w' hE hk => ?_) ?_; (focus (obtain ⟨p0, p1, p2⟩ := KS.out w' hE; go_simp; refine (CL.out _ _ w' hE).mono ?_; rintro _ w9 ⟨n9, rfl, b9⟩; exact ⟨_, rfl, b9, n9, rfl⟩)); (simp only [Act.put, List.setIfInBounds_toArray, List.set_cons_zero, List.set_cons_succ, List.cons_append, List.nil_append])
  (with_reducible apply wpF_val); (focus (intro vs w' hE hk; (obtain ⟨p0, p1, p2⟩ := KS.out w' hE); go_simp; exact ⟨Below.refl _ _, rfl⟩)); (simp only [Act.put, List.setIfInBounds_toArray, List.set_cons_zero, List.set_cons_succ, List.cons_append, List.nil_append])
  (with_reducible apply wpF_val); (focus (intro vs w' hE hk; (obtain ⟨p0, p1, p2⟩ := KS.out w' hE); go_simp; exact ⟨Below.refl _ _, rfl⟩)); (simp only [Act.put, List.setIfInBounds_toArray, List.set_cons_zero, List.set_cons_succ, List.cons_append, List.nil_append])
  (with_reducible apply wpF_val); (focus (intro vs w' hE hk; (obtain ⟨p0, p1, p2⟩ := KS.out w' hE); go_simp; exact ⟨Below.refl _ _, rfl⟩)); (simp only [Act.put, List.setIfInBounds_toArray, List.set_cons_zero, List.set_cons_succ, List.cons_append, List.nil_append])
  (with_reducible apply wpF_val); (focus (intro vs w' hE hk; (obtain ⟨p0, p1, p2⟩ := KS.out w' hE); go_simp; exact ⟨Below.refl _ _, rfl⟩)); (simp only [Act.put, List.setIfInBounds_toArray, List.set_cons_zero, List.set_cons_succ, List.cons_append, List.nil_append])
  refine wpF_fact (fun u _ => ∃ m, u = .float .f32 (pick .f32 (fat zs (atK (Wn : Int) (Hn : Int) ((i : Int) - 1) ((j : Int)))) m)) (fun _ _ _ h _ => h) (fun vs w' hE hk => ?_) ?_; (focus (obtain ⟨p0, p1, p2⟩ := KS.out w' hE; go_simp; refine (CL.out _ _ w' hE).mono ?_; rintro _ w9 ⟨n9, rfl, b9⟩; exact ⟨_, rfl, b9, n9, rfl⟩)); (simp only [Act.put, List.setIfInBounds_toArray, List.set_cons_zero, List.set_cons_succ, List.cons_append, List.nil_append])
  refine wpF_fact (fun u _ => ∃ m, u = .float .f32 (pick .f32 (fop .sub .f32 (fat zs (atK (Wn : Int) (Hn : Int) ((i : Int) + 1) ((j : Int)))) (fat zs (atK (Wn : Int) (Hn : Int) ((i : Int) - 1) ((j : Int))))) m)) (fun _ _ _ h _ => h) (fun vs w' hE hk => ?_) ?_; (focus (obtain ⟨na, hna⟩ := hk 4 (by kernel_rfl); simp only [hna]; obtain ⟨nb, hnb⟩ := hk 9 (by kernel_rfl); simp only [hnb]; rw [if_pos (by rfl)]; refine uponW_fop _ _ _ _ _ rfl .f32 _ _ rfl rfl (by decide) (fun n' m' => ⟨below_drewN (Below.refl _ _) _, n', by simp only [fop_pick_l, fop_pick_r]⟩))); (simp only [Act.put, List.setIfInBounds_toArray, List.set_cons_zero, List.set_cons_succ, List.cons_append, List.nil_append])
  refine wpF_fact (fun u _ => ∃ m, u = .float .f32 (pick .f32 (fop .sub .f32 (fat zs (atK (Wn : Int) (Hn : Int) ((i : Int) + 1) ((j : Int)))) (fat zs (atK (Wn : Int) (Hn : Int) ((i : Int) - 1) ((j : Int))))) m)) (fun _ _ _ h _ => h) (fun vs w' hE hk => ?_) ?_; (focus (obtain ⟨n9, hn9⟩ := hk 10 (by kernel_rfl); simp only [hn9]; go_simp; exact ⟨Below.refl _ _, n9, rfl⟩)); (simp only [Act.put, List.setIfInBounds_toArray, List.set_cons_zero, List.set_cons_succ, List.cons_append, List.nil_append])
  refine wpF_nil (fun vs w1 hE hk => ?_)
  obtain ⟨_, h4⟩ := hk 4
  obtain ⟨_, h9⟩ := hk 9
  obtain ⟨_, h10⟩ := hk 10
  obtain ⟨qw1, h11⟩ := hk 11
  simp only [h4, h9, h10, h11]
  have HB1 := Lib.hid hE
  have zw : w.heap.size ≤ w1.heap.size := hE.size
  have KSb := Lib.hid (fun (w' : World) (hF : Below w1.heap.size w1 w') => KS.out w' (HB1.out.trans (hF.mono HB1.out.size)))
  have CLb := Lib.hid (fun (x y : Int) (w' : World) (hF : Below w1.heap.size w1 w') => CL.out x y w' (HB1.out.trans (hF.mono HB1.out.size)))
  clear hE hk h4 h9 h10 h11 p0 p1 p2 KS CL
  have KS := KSb
  have CL := CLb
  clear KSb CLb
  go_upto_region 2 with fail
  refine wp_region_facts 12 (fun a b => Below a.heap.size a b) (fun _ => Below.refl _ _) (fun _ _ _ h h' => h.trans (h'.mono h.size)) (Below.refl _ _).drew (by kernel_rfl) (by kernel_rfl) (by kernel_rfl) (by kernel_rfl) ?_
  simp only [List.take_succ_cons, List.take_zero, List.drop_succ_cons, List.drop_zero]
  (with_reducible apply wpF_val); (focus (intro vs w' hE hk; (obtain ⟨p0, p1, p2⟩ := KS.out w' hE); go_simp; exact ⟨Below.refl _ _, rfl⟩)); (simp only [Act.put, List.setIfInBounds_toArray, List.set_cons_zero, List.set_cons_succ, List.cons_append, List.nil_append])
  (with_reducible apply wpF_val); (focus (intro vs w' hE hk; (obtain ⟨p0, p1, p2⟩ := KS.out w' hE); go_simp; exact ⟨Below.refl _ _, rfl⟩)); (simp only [Act.put, List.setIfInBounds_toArray, List.set_cons_zero, List.set_cons_succ, List.cons_append, List.nil_append])
  (with_reducible apply wpF_val); (focus (intro vs w' hE hk; (obtain ⟨p0, p1, p2⟩ := KS.out w' hE); go_simp; exact ⟨Below.refl _ _, rfl⟩)); (simp only [Act.put, List.setIfInBounds_toArray, List.set_cons_zero, List.set_cons_succ, List.cons_append, List.nil_append])
  (with_reducible apply wpF_val); (focus (intro vs w' hE hk; (obtain ⟨p0, p1, p2⟩ := KS.out w' hE); go_simp; exact ⟨Below.refl _ _, rfl⟩)); (simp only [Act.put, List.setIfInBounds_toArray, List.set_cons_zero, List.set_cons_succ, List.cons_append, List.nil_append])
  refine wpF_fact (fun u _ => ∃ m, u = .float .f32 (pick .f32 (fat zs (atK (Wn : Int) (Hn : Int) ((i : Int)) ((j : Int) + 1))) m)) (fun _ _ _ h _ => h) (fun vs w' hE hk => ?_) ?_; (focus (obtain ⟨p0, p1, p2⟩ := KS.out w' hE; go_simp; refine (CL.out _ _ w' hE).mono ?_; rintro _ w9 ⟨n9, rfl, b9⟩; exact ⟨_, rfl, b9, n9, rfl⟩)); (simp only [Act.put, List.setIfInBounds_toArray, List.set_cons_zero, List.set_cons_succ, List.cons_append, List.nil_append])
  (with_reducible apply wpF_val); (focus (intro vs w' hE hk; (obtain ⟨p0, p1, p2⟩ := KS.out w' hE); go_simp; exact ⟨Below.refl _ _, rfl⟩)); (simp only [Act.put, List.setIfInBounds_toArray, List.set_cons_zero, List.set_cons_succ, List.cons_append, List.nil_append])
  (with_reducible apply wpF_val); (focus (intro vs w' hE hk; (obtain ⟨p0, p1, p2⟩ := KS.out w' hE); go_simp; exact ⟨Below.refl _ _, rfl⟩)); (simp only [Act.put, List.setIfInBounds_toArray, List.set_cons_zero, List.set_cons_succ, List.cons_append, List.nil_append])
  (with_reducible apply wpF_val); (focus (intro vs w' hE hk; (obtain ⟨p0, p1, p2⟩ := KS.out w' hE); go_simp; exact ⟨Below.refl _ _, rfl⟩)); (simp only [Act.put, List.setIfInBounds_toArray, List.set_cons_zero, List.set_cons_succ, List.cons_append, List.nil_append])
  (with_reducible apply wpF_val); (focus (intro vs w' hE hk; (obtain ⟨p0, p1, p2⟩ := KS.out w' hE); go_simp; exact ⟨Below.refl _ _, rfl⟩)); (simp only [Act.put, List.setIfInBounds_toArray, List.set_cons_zero, List.set_cons_succ, List.cons_append, List.nil_append])
  refine wpF_fact (fun u _ => ∃ m, u = .float .f32 (pick .f32 (fat zs (atK (Wn : Int) (Hn : Int) ((i : Int)) ((j : Int) - 1))) m)) (fun _ _ _ h _ => h) (fun vs w' hE hk => ?_) ?_; (focus (obtain ⟨p0, p1, p2⟩ := KS.out w' hE; go_simp; refine (CL.out _ _ w' hE).mono ?_; rintro _ w9 ⟨n9, rfl, b9⟩; exact ⟨_, rfl, b9, n9, rfl⟩)); (simp only [Act.put, List.setIfInBounds_toArray, List.set_cons_zero, List.set_cons_succ, List.cons_append, List.nil_append])
  refine wpF_fact (fun u _ => ∃ m, u = .float .f32 (pick .f32 (fop .sub .f32 (fat zs (atK (Wn : Int) (Hn : Int) ((i : Int)) ((j : Int) + 1))) (fat zs (atK (Wn : Int) (Hn : Int) ((i : Int)) ((j : Int) - 1)))) m)) (fun _ _ _ h _ => h) (fun vs w' hE hk => ?_) ?_; (focus (obtain ⟨na, hna⟩ := hk 4 (by kernel_rfl); simp only [hna]; obtain ⟨nb, hnb⟩ := hk 9 (by kernel_rfl); simp only [hnb]; rw [if_pos (by rfl)]; refine uponW_fop _ _ _ _ _ rfl .f32 _ _ rfl rfl (by decide) (fun n' m' => ⟨below_drewN (Below.refl _ _) _, n', by simp only [fop_pick_l, fop_pick_r]⟩))); (simp only [Act.put, List.setIfInBounds_toArray, List.set_cons_zero, List.set_cons_succ, List.cons_append, List.nil_append])
  refine wpF_fact (fun u _ => ∃ m, u = .float .f32 (pick .f32 (fop .sub .f32 (fat zs (atK (Wn : Int) (Hn : Int) ((i : Int)) ((j : Int) + 1))) (fat zs (atK (Wn : Int) (Hn : Int) ((i : Int)) ((j : Int) - 1)))) m)) (fun _ _ _ h _ => h) (fun vs w' hE hk => ?_) ?_; (focus (obtain ⟨n9, hn9⟩ := hk 10 (by kernel_rfl); simp only [hn9]; go_simp; exact ⟨Below.refl _ _, n9, rfl⟩)); (simp only [Act.put, List.setIfInBounds_toArray, List.set_cons_zero, List.set_cons_succ, List.cons_append, List.nil_append])
  refine wpF_nil (fun vs w2 hE hk => ?_)
  obtain ⟨_, h4⟩ := hk 4
  obtain ⟨_, h9⟩ := hk 9
  obtain ⟨_, h10⟩ := hk 10
  obtain ⟨qw2, h11⟩ := hk 11
  simp only [h4, h9, h10, h11]
  have B2 := Lib.hid (HB1.out.trans (hE.mono HB1.out.size))
  clear hE hk h4 h9 h10 h11 KS CL
  rw [← w2.drewN_zero]
  go_wp2_with (first | (first | (refine wpList_fop rfl _ _ _ _ _ rfl _ _ _ rfl rfl (by decide) _ ?_; intro _ _) | (refine upon_fop _ _ _ _ _ (by decide) ?_; intro _ _)) | (go_at_call 69; refine (c_withoutSign _ _ _ _).mono ?_; rintro _ _ ⟨_, _, rfl, rfl⟩))
  go_ret
  exact ⟨_, rfl, below_drewN B2.out _⟩
/-! ### sidesOf -/
theorem c_sidesOf (W H : Int) (s : Value) (w : World) : Calls Try.prog 66 #[.agg #[.int .i64 W, .int .i64 H, s]] w (RetB (.agg #[.int .i64 W, .int .i64 H]) w) := by
  go_enter Try.func66, Try.ntmps66
  go_wp2
  exact bodyPost_ret (v := .agg #[.int .i64 W, .int .i64 H]) (by simp [results, Try.results66, go_sem]) rfl ⟨rfl, ((Below.refl _ _).alloc (Nat.le_refl _) _).alloc (by simp) _⟩
/-! ### allowed -/
theorem c_allowed (W H : Int) (w : World) : Calls Try.prog 112 #[.agg #[.int .i64 W, .int .i64 H]] w (RetB (.bool (sideB W H)) w) := by
  unfold sideB
  by_cases h1 : 1 ≤ W
  · by_cases h2 : W ≤ 16
    · by_cases h3 : 1 ≤ H
      · by_cases h4 : H ≤ 16
        all_goals
          go_enter Try.func112, Try.ntmps112
          go_wp2
          go_ret
          exact ⟨by simp [*] <;> (intros; omega), (Below.refl _ _).alloc (Nat.le_refl _) _⟩
      · go_enter Try.func112, Try.ntmps112
        go_wp2
        go_ret
        exact ⟨by simp [*] <;> (intros; omega), (Below.refl _ _).alloc (Nat.le_refl _) _⟩
    · go_enter Try.func112, Try.ntmps112
      go_wp2
      go_ret
      exact ⟨by simp [*] <;> (intros; omega), (Below.refl _ _).alloc (Nat.le_refl _) _⟩
  · go_enter Try.func112, Try.ntmps112
    go_wp2
    go_ret
    exact ⟨by simp [*] <;> (intros; omega), (Below.refl _ _).alloc (Nat.le_refl _) _⟩
/-! ### IsNaN -/
theorem c_IsNaN (v n : Nat) (w : World) (j : Nat) : Calls Try.prog 131 #[.float .f64 (pick .f64 v n)] (w.drewN j) (RetV (.bool (isN .f64 v)) w) := by
  go_enter Try.func131, Try.ntmps131
  go_wp2
  go_ret
  exact ⟨_, rfl, rfl⟩
/-! ### f64bits -/
@[go_sem] theorem e_f64bits (b : Nat) (w : World) : (callFunc 135 #[.float .f64 b]).run Try.prog w = .ok (.value (.int .u64 b)) w := by kernel_rfl
/-! ### f64from -/
@[go_sem] theorem e_f64from (n : Int) (w : World) : (callFunc 134 #[.int .u64 n]).run Try.prog w = .ok (.value (.float .f64 n.toNat)) w := by kernel_rfl
/-! ### Abs -/
theorem c_Abs (v n : Nat) (w : World) (j : Nat) (hv : v < 2 ^ FloatKind.f64.format.width) : Calls Try.prog 133 #[.float .f64 (pick .f64 v n)] (w.drewN j) (RetF .f64 (fabs .f64 v) w) := by
  have hb := abs_bits hv n
  go_enter Try.func133, Try.ntmps133
  go_wp2
  go_ret
  exact ⟨_, _, rfl, rfl⟩
/-! ### IsInf0 -/
theorem c_IsInf0 (v n : Nat) (w : World) (j : Nat) (hv : v < 2 ^ FloatKind.f64.format.width) : Calls Try.prog 132 #[.float .f64 (pick .f64 v n), .int .i64 0] (w.drewN j) (RetV (.bool (FloatKind.f64.format.order (fabs .f64 v) 9218868437227405311 == some .gt)) w) := by
  go_enter Try.func132, Try.ntmps132
  go_wp2_with ((go_at_call 133; refine (c_Abs _ _ _ _ hv).mono ?_; rintro _ _ ⟨_, _, rfl, rfl⟩))
  go_ret
  exact ⟨_, rfl, rfl⟩
/-! ### isFinite64 -/
theorem c_isFinite64 (v n : Nat) (w : World) (j : Nat) (hv : v < 2 ^ FloatKind.f64.format.width) : Calls Try.prog 129 #[.float .f64 (pick .f64 v n)] (w.drewN j) (RetV (.bool (finB .f64 v)) w) := by
  go_enter Try.func129, Try.ntmps129
  go_wp2_with (first | (go_at_call 131; refine (c_IsNaN _ _ _ _).mono ?_; rintro _ _ ⟨_, rfl, rfl⟩) | (go_at_call 132; refine (c_IsInf0 _ _ _ _ hv).mono ?_; rintro _ _ ⟨_, rfl, rfl⟩))
  all_goals
    go_ret
    refine ⟨_, ?_, rfl⟩
    rw [← abs_gt_max]
    simp [*]
/-! ### iIsFinite -/
theorem c_iIsFinite (v n : Nat) (w : World) (j : Nat) : Calls Try.prog 115 #[.float .f32 (pick .f32 v n)] (w.drewN j) (RetV (.bool (finB .f32 v)) w) := by
  go_enter Try.func115, Try.ntmps115
  go_wp2_with (first | (refine wpList_cvU rfl 38 42 _ rfl (Option.isSome_iff_exists.2 ⟨_, Try.underlying38⟩) Try.underlying42 _ rfl _ ?_; intro _ _) | (go_at_call 129; refine (c_isFinite64 _ _ _ _ (cvU_lt _)).mono ?_; rintro _ _ ⟨_, rfl, rfl⟩))
  go_ret
  rw [← finB_cvU]
  exact ⟨_, rfl, rfl⟩
/-! ### areFinite -/
theorem c_areFinite (a : Option Addr) (len cap : Nat) (zs : List Nat) (w : World) (j0 : Nat) (hr : IsRowF .f32 w a len cap zs) : Calls Try.prog 98 #[.slice a len cap] (w.drewN j0) (RetV (.bool (finL zs)) w) := by
  obtain ⟨h1, h2, h3, h4, h5⟩ := hr
  unfold maxLen at h3
  have H1 := Lib.hid h1
  clear h1
  go_enter Try.func98, Try.ntmps98
  go_wp2
  go_loopw [4, 7] (fun _ i wr => ∃ k m : Nat, k ≤ len ∧ i = .int .i64 k ∧ wr = w.drewN m ∧ finL (zs.take k) = true) (fun _ i _ => len - (intOf i).toNat)
  case atStart => exact ⟨0, j0, Nat.zero_le _, rfl, rfl, rfl⟩
  case round =>
    obtain ⟨k, m, hk, rfl, rfl, hfin⟩ := hrel
    have HFin := Lib.hid hfin
    clear hfin
    by_cases hlt : k < len
    · rcases h5 with h5 | ⟨b, off, rfl, hbl, hc⟩
      · omega
      have hcell : w.cell? ⟨b, off + k, none⟩ = some (.float .f32 (fat zs k)) := hc k hlt
      obtain ⟨n, hn⟩ := pick0 .f32 (fat zs k) (lt_of_wf (h4 _ (by unfold fat; rw [List.getD, List.getElem?_eq_getElem (by have := H1.out; omega)]; exact List.getElem_mem _)))
      rw [hn] at hcell
      have HS := Lib.hid (finL_snoc zs k (by have := H1.out; omega))
      cases hf : finB .f32 (fat zs k)
      · have HO := Lib.hid (finL_of zs k (by have := H1.out; omega) hf)
        clear hc h4 hn
        go_wp2_with ((go_at_call 115; refine (c_iIsFinite _ _ _ _).mono ?_; rintro _ _ ⟨_, rfl, rfl⟩))
        go_ret
        exact ⟨_, by rw [HO.out]; rfl, rfl⟩
      · have HF := Lib.hid hf
        clear hc h4 hn
        go_wp2_with ((go_at_call 115; refine (c_iIsFinite _ _ _ _).mono ?_; rintro _ _ ⟨_, rfl, rfl⟩))
        go_roundw
        case rel => exact ⟨k + 1, _, by omega, by go_num, rfl, by rw [HS.out, HFin.out, HF.out]; rfl⟩
        case measure => simp [intOf]; omega
    · have e : zs.take k = zs := List.take_of_length_le (by have := H1.out; omega)
      have HE := Lib.hid e
      clear h5 h4 e
      go_wp2
      go_ret
      exact ⟨_, by have h := HFin.out; rw [HE.out] at h; rw [h]; rfl, rfl⟩
/-! ### iValid -/
theorem c_areFinite0 (a : Option Addr) (len cap : Nat) (zs : List Nat) (w : World) (hr : IsRowF .f32 w a len cap zs) : Calls Try.prog 98 #[.slice a len cap] w (RetV (.bool (finL zs)) w) := by
  have h := c_areFinite a len cap zs w 0 hr
  rwa [w.drewN_zero] at h
theorem c_iValid (W H : Int) (a : Option Addr) (len cap : Nat) (zs : List Nat) (w : World) (hr : IsRowF .f32 w a len cap zs) :
    Calls Try.prog 64 #[.agg #[.int .i64 W, .int .i64 H, .slice a len cap]] w (RetB (.bool (validB W H zs)) w) := by
  have H1 := Lib.hid hr.1
  have HR := Lib.hid hr
  clear hr
  have two : ∀ s : Bool, sideB W H = s → (s = true → ∀ t : Bool, ((len : Int) == W * H) = t → (Calls Try.prog 64 #[.agg #[.int .i64 W, .int .i64 H, .slice a len cap]] w (RetB (.bool (validB W H zs)) w))) → (s = false → Calls Try.prog 64 #[.agg #[.int .i64 W, .int .i64 H, .slice a len cap]] w (RetB (.bool (validB W H zs)) w)) → Calls Try.prog 64 #[.agg #[.int .i64 W, .int .i64 H, .slice a len cap]] w (RetB (.bool (validB W H zs)) w) := by
    intro s hs h1 h2
    cases s
    · exact h2 rfl
    · exact h1 rfl _ rfl
  refine two _ rfl ?_ ?_
  · intro hs t ht
    obtain ⟨m1, m2⟩ := side_mul hs
    have mw : IntKind.i64.wrap (W * H) = W * H := IntWalk.i64_in _ (by omega)
    clear two
    cases t
    · have e : validB W H zs = false := by simp at ht; simp [validB, hs, H1.out, ht]
      have E := Lib.hid e
      have HT := Lib.hid hs
      clear e
      go_enter Try.func64, Try.ntmps64
      go_wp2_with fail
      refine (c_sidesOf W H _ _).mono ?_
      rintro _ w1 ⟨rfl, b1⟩
      obtain ⟨p0, p1, p2⟩ := ((Var.new _ _ _).keep b1).three
      have z1 : w.heap.size < w1.heap.size := by have := b1.size; simp at this; omega
      have B1 := Lib.hid (((Below.refl w.heap.size w).alloc (Nat.le_refl _) _).trans (b1.mono (by simp)))
      clear b1
      go_wp2_with fail
      refine (c_allowed W H _).mono ?_
      rintro _ w2 ⟨rfl, b2⟩
      rw [HT.out]
      have q0 := (b2.cell (p := ⟨w.heap.size, 0, none⟩) z1).trans p0
      have q1 := (b2.cell (p := ⟨w.heap.size, 1, none⟩) z1).trans p1
      have q2 := (b2.cell (p := ⟨w.heap.size, 2, none⟩) z1).trans p2
      have B2 := Lib.hid (B1.out.trans (b2.mono (by omega)))
      clear p0 p1 p2 b2 hs
      go_wp2_with fail
      go_ret
      exact ⟨by rw [E.out]; rfl, B2.out⟩
    · have e : validB W H zs = finL zs := by simp at ht; simp [validB, hs, H1.out, ht]
      have E := Lib.hid e
      have HT := Lib.hid hs
      clear e
      go_enter Try.func64, Try.ntmps64
      go_wp2_with fail
      refine (c_sidesOf W H _ _).mono ?_
      rintro _ w1 ⟨rfl, b1⟩
      obtain ⟨p0, p1, p2⟩ := ((Var.new _ _ _).keep b1).three
      have z1 : w.heap.size < w1.heap.size := by have := b1.size; simp at this; omega
      have B1 := Lib.hid (((Below.refl w.heap.size w).alloc (Nat.le_refl _) _).trans (b1.mono (by simp)))
      clear b1
      go_wp2_with fail
      refine (c_allowed W H _).mono ?_
      rintro _ w2 ⟨rfl, b2⟩
      rw [HT.out]
      have q0 := (b2.cell (p := ⟨w.heap.size, 0, none⟩) z1).trans p0
      have q1 := (b2.cell (p := ⟨w.heap.size, 1, none⟩) z1).trans p1
      have q2 := (b2.cell (p := ⟨w.heap.size, 2, none⟩) z1).trans p2
      have B2 := Lib.hid (B1.out.trans (b2.mono (by omega)))
      clear p0 p1 p2 b2 hs
      go_wp2_with fail
      refine (c_areFinite0 a len cap zs _ (HR.out.below B2.out)).mono ?_
      rintro _ w3 ⟨m, rfl, rfl⟩
      rw [← E.out]
      go_wp2_with fail
      go_ret
      exact ⟨rfl, below_drewN B2.out _⟩
  · intro hs
    have e : validB W H zs = false := by simp [validB, hs]
    have E := Lib.hid e
    have HT := Lib.hid hs
    clear e two
    go_enter Try.func64, Try.ntmps64
    go_wp2_with fail
    refine (c_sidesOf W H _ _).mono ?_
    rintro _ w1 ⟨rfl, b1⟩
    have B1 := Lib.hid (((Below.refl w.heap.size w).alloc (Nat.le_refl _) _).trans (b1.mono (by simp)))
    have z1 : w.heap.size < w1.heap.size := by have := b1.size; simp at this; omega
    clear b1
    go_wp2_with fail
    refine (c_allowed W H _).mono ?_
    rintro _ w2 ⟨rfl, b2⟩
    rw [HT.out]
    have B2 := Lib.hid (B1.out.trans (b2.mono (by omega)))
    clear b2 hs
    go_wp2_with fail
    go_ret
    exact ⟨by rw [E.out]; rfl, B2.out⟩
/-! ### ifValid -/
theorem c_ifValid_yes (W H : Int) (a : Option Addr) (len cap : Nat) (zs : List Nat) (w : World) (hr : IsRowF .f32 w a len cap zs) (hv : validB W H zs = true) : Calls Try.prog 103 #[.agg #[.int .i64 W, .int .i64 H, .slice a len cap]] w (RetB (.tuple #[.agg #[.int .i64 W, .int .i64 H, .slice a len cap], .bool true]) w) := by
  have HR := Lib.hid hr
  have HV := Lib.hid hv
  clear hr hv
  go_enter Try.func103, Try.ntmps103
  go_wp2_with fail
  refine (c_iValid W H a len cap zs _ ((HR.out.alloc _).alloc _)).mono ?_
  rintro _ w1 ⟨rfl, b⟩
  rw [HV.out]
  have V1 := Lib.hid ((((Var.new' _ _ _ (w.heap.size) rfl).alloc _)).keep b)
  have V2 := Lib.hid ((Var.new' _ _ _ (w.heap.size + 1) (by simp)).keep b)
  have z1 : w.heap.size + 1 < w1.heap.size := by have := b.size; simp at this; omega
  have B1 := Lib.hid ((((Below.refl w.heap.size w).alloc (Nat.le_refl _) _).alloc (by simp) _).trans (b.mono (by simp; omega)))
  have Fr := Lib.hid ((Free.new' _ _ _ (w.heap.size + 1) (by simp)).below (by simp <;> omega) b)
  clear b
  obtain ⟨p0, p1, p2⟩ := V1.out.three
  obtain ⟨q0, q1, q2⟩ := V2.out.three
  have f0 := Fr.out 0
  have f1 := Fr.out 1
  have f2 := Fr.out 2
  go_wp2_with fail
  refine bodyPost_ret (v := .tuple #[.agg #[.int .i64 W, .int .i64 H, .slice a len cap], .bool true]) (by simp [results, Try.results103, q0, q1, q2, go_sem]) rfl ⟨rfl, ?_⟩
  exact ((B1.out.setCell (by simp <;> omega) _).setCell (by simp <;> omega) _).setCell (by simp <;> omega) _
theorem c_ifValid_no (W H : Int) (a : Option Addr) (len cap : Nat) (zs : List Nat) (w : World) (hr : IsRowF .f32 w a len cap zs) (hv : validB W H zs = false) : Calls Try.prog 103 #[.agg #[.int .i64 W, .int .i64 H, .slice a len cap]] w (RetB (.tuple #[.agg #[.int .i64 0, .int .i64 0, .slice none 0 0], .bool false]) w) := by
  have HR := Lib.hid hr
  have HV := Lib.hid hv
  clear hr hv
  go_enter Try.func103, Try.ntmps103
  go_wp2_with fail
  refine (c_iValid W H a len cap zs _ ((HR.out.alloc _).alloc _)).mono ?_
  rintro _ w1 ⟨rfl, b⟩
  rw [HV.out]
  have V2 := Lib.hid ((Var.new' _ _ _ (w.heap.size + 1) (by simp)).keep b)
  have z1 : w.heap.size + 1 < w1.heap.size := by have := b.size; simp at this; omega
  have B1 := Lib.hid ((((Below.refl w.heap.size w).alloc (Nat.le_refl _) _).alloc (by simp) _).trans (b.mono (by simp; omega)))
  have Fr := Lib.hid ((Free.new' _ _ _ (w.heap.size + 1) (by simp)).below (by simp <;> omega) b)
  clear b
  obtain ⟨q0, q1, q2⟩ := V2.out.three
  have f0 := Fr.out 0
  have f1 := Fr.out 1
  have f2 := Fr.out 2
  go_wp2_with fail
  refine bodyPost_ret (v := .tuple #[.agg #[.int .i64 0, .int .i64 0, .slice none 0 0], .bool false]) (by simp [results, Try.results103, q0, q1, q2, go_sem]) rfl ⟨rfl, ?_⟩
  exact ((B1.out.setCell (by simp <;> omega) _).setCell (by simp <;> omega) _).setCell (by simp <;> omega) _

/-! ### makeEdges -/
theorem c_makeEdges (W H : Int) (cv0 : Value) (F : Nat → Nat → Nat) (w : World) (hlt : ∀ x y, F x y < 2 ^ FloatKind.f32.format.width)
    (hF : ∀ (x y : Nat) (wr : World), (x : Int) < W → (y : Int) < H → W ≤ 16 → H ≤ 16 → Below w.heap.size w wr → Calls Try.prog 67 #[.int .i64 x, .int .i64 y, cv0] wr (fun e w' => ∃ n, e = .returned (.float .f32 (pick .f32 (F x y) n)) ∧ Below wr.heap.size wr w')) :
    Calls Try.prog 65 #[.agg #[.int .i64 W, .int .i64 H], .func (.func 67) #[] #[cv0]] w (RetP 38 (resMake F W H) w) := by
  generalize hw2 : (w.alloc (Obj.cells #[.int .i64 W, .int .i64 H] 84)).alloc (Obj.cells #[.int .i64 0, .int .i64 0, .slice none 0 0] 26) = w2
  have B0 : Below w.heap.size w w2 := by subst hw2; exact ((Below.refl _ _).alloc (Nat.le_refl _) _).alloc (by simp) _
  have VA' : Var w2 w.heap.size #[.int .i64 W, .int .i64 H] := by subst hw2; exact (Var.new _ _ _).alloc _
  have VR := Lib.hid (show Var w2 (w.heap.size + 1) #[.int .i64 0, .int .i64 0, .slice none 0 0] from by subst hw2; exact Var.new' _ _ _ _ (by simp))
  have FR := Lib.hid (show Free w2 (w.heap.size + 1) from by subst hw2; exact Free.new' _ _ _ _ (by simp))
  have BW := Lib.hid B0
  have HW2 := Lib.hid hw2
  have SZ : w2.heap.size = w.heap.size + 1 + 1 := by subst hw2; simp
  have KS := Lib.hid (fun (w' : World) (hE : Below w2.heap.size w2 w') => (⟨(hE.cell (p := ⟨w.heap.size, 0, none⟩) (by show w.heap.size < _; omega)).trans (VA'.2 0 (by simp)), (hE.cell (p := ⟨w.heap.size, 1, none⟩) (by show w.heap.size < _; omega)).trans (VA'.2 1 (by simp))⟩ : w'.cell? ⟨w.heap.size, 0, none⟩ = some (.int .i64 W) ∧ w'.cell? ⟨w.heap.size, 1, none⟩ = some (.int .i64 H)))
  clear B0 VA' hw2
  have HFF := Lib.hid hF
  have HLT := Lib.hid hlt
  clear hF hlt
  unfold resMake
  cases hs : sideB W H
  · rw [if_neg (by decide)]
    have HS := Lib.hid hs
    clear hs
    obtain ⟨d0, d1⟩ := KS.out w2 (Below.refl _ _)
    go_enter Try.func65, Try.ntmps65
    go_wp2_with fail
    rw [HW2.out]
    refine (c_allowed W H _).mono ?_
    rintro _ w3 ⟨rfl, hE⟩
    rw [HS.out]
    have BX := Lib.hid (BW.out.trans (hE.mono (by omega)))
    have VX := Lib.hid (VR.out.keep hE)
    have FX := Lib.hid (FR.out.below (by omega) hE)
    have S2 : w.heap.size + 1 < w3.heap.size := by have := hE.size; omega
    clear hE d0 d1
    obtain ⟨q0, q1, q2⟩ := VX.out.three
    have f0 := FX.out 0
    have f1 := FX.out 1
    have f2 := FX.out 2
    go_wp2_with fail
    refine bodyPost_ret (v := .tuple #[.agg #[.int .i64 0, .int .i64 0, .slice none 0 0], .bool false]) (by simp [results, Try.results65, q0, q1, q2, go_sem]) rfl (show RetP _ PRes.no _ _ _ from ⟨none, 0, rfl, Nat.zero_le _, ((BX.out.setCell (by simp <;> omega) _).setCell (by simp <;> omega) _).setCell (by simp <;> omega) _, Own.nil _ _ _⟩)
  · rw [if_pos rfl]
    obtain ⟨⟨s1, s2⟩, s3, s4⟩ := sideB_true hs
    have HS := Lib.hid hs
    clear hs
    obtain ⟨Wn, rfl⟩ : ∃ n : Nat, W = n := ⟨W.toNat, by omega⟩
    obtain ⟨Hn, rfl⟩ : ∃ n : Nat, H = n := ⟨H.toNat, by omega⟩
    rw [Int.toNat_natCast, Int.toNat_natCast]
    have hN : Wn * Hn ≤ 16 * 16 := Nat.mul_le_mul (by omega) (by omega)
    obtain ⟨N, hNN⟩ : ∃ N, N = Wn * Hn := ⟨_, rfl⟩
    have HN := Lib.hid hNN
    have hN2 : N ≤ 256 := by rw [hNN]; exact hN
    have mw : IntKind.i64.wrap ((Wn : Int) * (Hn : Int)) = (N : Int) := by rw [hNN]; rw [show ((Wn : Int) * (Hn : Int)) = ((Wn * Hn : Nat) : Int) by rw [Int.natCast_mul]]; exact IntWalk.i64_in _ (by omega)
    obtain ⟨L, hL⟩ : ∃ L, L = makeL F Wn Hn := ⟨_, rfl⟩
    have HAt := Lib.hid (fun (x y k : Nat) (hk : k = y * Wn + x) (hx : x < Wn) (hy : y < Hn) => (by rw [hL]; exact makeL_at hk hx hy : fat L k = F x y))
    have HLen := Lib.hid (show L.length = N by rw [hL, makeL_len, hNN])
    rw [← hL]
    clear hNN hN hL
    obtain ⟨i0, hinf, hz0, hz1, hz2⟩ := info_parts infoFo
    obtain ⟨d0, d1⟩ := KS.out w2 (Below.refl _ _)
    go_enter Try.func65, Try.ntmps65
    go_wp2_with fail
    rw [HW2.out]
    refine (c_allowed _ _ _).mono ?_
    rintro _ w3 ⟨rfl, hE⟩
    rw [HS.out]
    have BX := Lib.hid (BW.out.trans (hE.mono (by omega)))
    have VX := Lib.hid (VR.out.keep hE)
    have FX := Lib.hid (FR.out.below (by omega) hE)
    have S2 : w.heap.size + 1 < w3.heap.size := by have := hE.size; omega
    have K3 := Lib.hid (KS.out w3 hE)
    clear hE d0 d1 KS VR FR BW
    have KX := Lib.hid (fun (wr : World) (hB : Below w3.heap.size w3 wr) => (by obtain ⟨d0, d1⟩ := K3.out; exact ⟨(hB.cell (p := ⟨w.heap.size, 0, none⟩) (by show w.heap.size < _; omega)).trans d0, (hB.cell (p := ⟨w.heap.size, 1, none⟩) (by show w.heap.size < _; omega)).trans d1⟩ : wr.cell? ⟨w.heap.size, 0, none⟩ = some (.int .i64 (Wn : Int)) ∧ wr.cell? ⟨w.heap.size, 1, none⟩ = some (.int .i64 (Hn : Int))))
    obtain ⟨d0, d1⟩ := K3.out
    go_wp2_with (at_make; refine wpList_make_own _ rfl _ _ 22 rfl w3.heap.size 38 i0 (.float .f32 0) 1 Try.underlying22 hinf hz0 hz1 _ _ _ N rfl rfl rfl (by rw [hz2]; omega) (by unfold maxLen; omega) (by simp) ?_; intro w4 hown hgrow; have B4 : Below w3.heap.size w3 w4 := (Below.refl _ _).grown hgrow (Nat.le_refl _) (by simp); obtain ⟨g0, g1⟩ := KX.out w4 B4)
    have OW : Own 38 w4 w3.heap.size (some ⟨w3.heap.size, 0, none⟩) 0 N [] := ⟨rfl, hown, by simp⟩
    have HO4 := Lib.hid OW
    have HB4 := Lib.hid B4
    clear hown hgrow B4 OW d0 d1 g0 g1 mw
    go_loopw [6, 7, 8, 21] (fun l _ _ i wr => ∃ (y k : Nat) (a : Option Addr) (c : Nat) (zs : List Nat), y ≤ Hn ∧ k = y * Wn ∧ i = .int .i64 y ∧ l = .slice a k c ∧ Own 38 wr w3.heap.size a k c zs ∧ near zs (L.take k) ∧ Below w3.heap.size w3 wr) (fun _ _ _ i _ => Hn - (intOf i).toNat)
    case atStart => exact ⟨0, 0, _, _, [], Nat.zero_le _, by simp, rfl, rfl, HO4.out, by simpa using near_nil, HB4.out⟩
    case round =>
      obtain ⟨y, k, a, c, zs, hy, hk, rfl, rfl, hO, hnear, hB⟩ := hrel
      have HO := Lib.hid hO
      have HNr := Lib.hid hnear
      have HB := Lib.hid hB
      have HK := Lib.hid hk
      clear hO hnear hB hk
      obtain ⟨d0, d1⟩ := KX.out wr HB.out
      by_cases hly : y < Hn
      · go_wp2_with fail
        clear d0 d1
        go_loopw [6, 8, 26] (fun l _ i wr => ∃ (x k : Nat) (a : Option Addr) (c : Nat) (zs : List Nat), x ≤ Wn ∧ k = y * Wn + x ∧ i = .int .i64 x ∧ l = .slice a k c ∧ Own 38 wr w3.heap.size a k c zs ∧ near zs (L.take k) ∧ Below w3.heap.size w3 wr) (fun _ _ i _ => Wn - (intOf i).toNat)
        case atStart => exact ⟨0, k, a, c, zs, Nat.zero_le _, HK.out, rfl, rfl, HO.out, HNr.out, HB.out⟩
        case round =>
          obtain ⟨x, k2, a2, c2, zs2, hx, hk2, rfl, rfl, hO2, hnear2, hB2⟩ := hrel
          have HO2 := Lib.hid hO2
          have HN2 := Lib.hid hnear2
          have HB2 := Lib.hid hB2
          have HK2 := Lib.hid hk2
          clear hO2 hnear2 hB2 hk2
          by_cases hlx : x < Wn
          · have hk1 : k2 + 1 ≤ N := by rw [HN.out]; exact make_lt HK2.out hlx hly
            go_wp2_with fail
            refine (HFF.out x y _ (by omega) (by omega) (by omega) (by omega) (BX.out.trans (HB2.out.mono (by omega)))).mono ?_
            rintro _ w5 ⟨n5, rfl, b5⟩
            have HO5 := Lib.hid (HO2.out.below b5)
            have HB5 := Lib.hid (HB2.out.trans (b5.mono HB2.out.size))
            have z5 : w3.heap.size ≤ w5.heap.size := HB5.out.size
            clear b5
            go_wp2_with (at_builtin; refine wpList_append_own _ rfl _ _ 22 rfl w3.heap.size 38 i0 (.float .f32 0) 1 4 Try.underlying22 hinf hz0 hz1 hz2 rfl (by decide) _ _ _ rfl ((HO5.out.alloc _).2.1) ⟨w5.heap.size, 0, none⟩ 1 1 [.float .f32 (pick .f32 (F x y) n5)] rfl rfl ?c1 ?c2 ?c3 ?c4 ?c5 ?_)
            case c1 =>
              intro j u hj
              match j, hj with
              | 0, hj => simp at hj; subst hj; simp [Addr.add]
            case c2 => intro u hu; simp at hu; subst hu; rfl
            case c3 => unfold maxLen; omega
            case c4 => omega
            case c5 => simp; omega
            intro v' w6 hown' hgrow _
            have hB6 : Below w3.heap.size w3 w6 := (HB5.out.alloc z5 _).grown hgrow (by simp; omega) (fun g e => by have := HO5.out.in g (by rw [← own_blk _ k2 c2]; exact e); exact this.1)
            obtain ⟨a', c', rfl, hO6⟩ := own_app hown' HO5.out.1 HO5.out.2.2 (pick_wf (HLT.out x y) n5)
            have HO6 := Lib.hid hO6
            have HB6 := Lib.hid hB6
            clear hown' hgrow hB6 hO6
            go_wp2_with fail
            go_roundw
            case rel => exact ⟨x + 1, k2 + 1, a', c', _, by omega, by rw [HK2.out]; omega, by go_num, rfl, HO6.out, by rw [← HAt.out x y k2 HK2.out hlx hly]; exact near_snoc HN2.out (by rw [HLen.out]; omega) n5, HB6.out⟩
            case measure => simp [intOf]; omega
          · obtain rfl : x = Wn := by omega
            go_wp2_with fail
            go_roundw
            case rel => exact ⟨y + 1, k2, a2, c2, zs2, by omega, by rw [HK2.out, Nat.succ_mul], by go_num, rfl, HO2.out, HN2.out, HB2.out⟩
            case measure => simp [intOf]; omega
      · obtain rfl : y = Hn := by omega
        have hkN : k = N := by rw [HK.out, HN.out, Nat.mul_comm]
        subst hkN
        have hz : near zs L := by have h := HNr.out; rwa [List.take_of_length_le (by rw [HLen.out]; exact Nat.le_refl _)] at h
        have HZN := Lib.hid hz
        have VR := Lib.hid (VX.out.keep HB.out)
        have FR := Lib.hid (FX.out.below (by omega) HB.out)
        have BW := Lib.hid (BX.out.trans (HB.out.mono (by omega)))
        have SW : w3.heap.size ≤ wr.heap.size := HB.out.size
        have HVZ := Lib.hid (near_valid (W := (Wn : Int)) (H := (y : Int)) hz)
        have hl0 : zs.length = k := HO.out.1
        have HL0 := Lib.hid hl0
        clear hz hl0
        go_wp2_with fail
        cases hv2 : validB (Wn : Int) (y : Int) L
        · have HG2 := Lib.hid (show giveP (Wn : Int) (y : Int) L = PRes.no from by unfold giveP; rw [hv2]; rfl)
          have HV2 := Lib.hid hv2
          clear hv2
          refine (c_ifValid_no _ _ _ _ _ zs wr HO.out.row (by rw [HVZ.out]; exact HV2.out)).mono ?_
          rintro _ wz ⟨rfl, b⟩
          obtain ⟨cr0, cr1, cr2⟩ := (VR.out.keep b).three
          have fr := FR.out.below (by omega) b
          have f0 := fr 0
          have f1 := fr 1
          have f2 := fr 2
          have hsz := b.size
          have HB2 := Lib.hid (BW.out.trans (b.mono (by omega)))
          clear fr b
          go_wp2_with fail
          refine bodyPost_ret (v := .tuple #[.agg #[.int .i64 0, .int .i64 0, .slice none 0 0], .bool false]) (by simp [results, Try.results65, cr0, cr1, cr2, go_sem]) rfl (by rw [HG2.out]; exact ⟨none, 0, rfl, Nat.zero_le _, ((HB2.out.setCell (by simp <;> omega) _).setCell (by simp <;> omega) _).setCell (by simp <;> omega) _, Own.nil _ _ _⟩)
        · have HG2 := Lib.hid (show giveP (Wn : Int) (y : Int) L = ⟨Wn, y, L, true⟩ from by unfold giveP; rw [hv2]; rfl)
          have hfin := valid_fin hv2
          obtain rfl := near_eq HZN.out hfin
          clear hfin
          have HV2 := Lib.hid hv2
          clear hv2
          refine (c_ifValid_yes _ _ _ _ _ _ wr HO.out.row HV2.out).mono ?_
          rintro _ wz ⟨rfl, b⟩
          obtain ⟨cr0, cr1, cr2⟩ := (VR.out.keep b).three
          have fr := FR.out.below (by omega) b
          have f0 := fr 0
          have f1 := fr 1
          have f2 := fr 2
          have hsz := b.size
          have HB2 := Lib.hid (BW.out.trans (b.mono (by omega)))
          have HO2 := Lib.hid (HO.out.below b)
          clear fr b
          go_wp2_with fail
          have hrow : blk a ≠ some (w.heap.size + 1) := fun e => by have := HO2.out.in _ e; omega
          refine bodyPost_ret (v := .tuple #[.agg #[.int .i64 (Wn : Int), .int .i64 (y : Int), .slice a k c], .bool true]) (by simp [results, Try.results65, cr0, cr1, cr2, go_sem]) rfl (by rw [HG2.out]; exact ⟨_, _, by rw [HL0.out], by (show zs.length ≤ 1048576); rw [HL0.out]; omega, ((HB2.out.setCell (by simp <;> omega) _).setCell (by simp <;> omega) _).setCell (by simp <;> omega) _, (((Own.re HL0.out.symm HO2.out).setCell hrow _).setCell hrow _).setCell hrow _ |>.mono (by omega)⟩)
/-! ### iEdgesOf -/
theorem c_iEdgesOf (WA HA : Int) (zA : List Nat) (aA : Option Addr) (cA : Nat) (w : World) (rA : IsRowF .f32 w aA zA.length cA zA) : Calls Try.prog 18 #[.agg #[.int .i64 WA, .int .i64 HA, .slice aA zA.length cA]] w (RetP 38 (resEdges WA HA zA) w) := by
  generalize hw0 : (w.alloc (Obj.cells #[.int .i64 WA, .int .i64 HA, .slice aA zA.length cA] 26)).alloc (Obj.cells #[.int .i64 0, .int .i64 0, .slice none 0 0] 26) = w0
  have X0 : Var w0 w.heap.size #[.int .i64 WA, .int .i64 HA, .slice aA zA.length cA] := by subst hw0; exact (Var.new _ _ _).alloc _
  have X1 : Var w0 (w.heap.size + 1) #[.int .i64 0, .int .i64 0, .slice none 0 0] := by subst hw0; exact Var.new' _ _ _ _ (by simp)
  have X2 : Free w0 (w.heap.size + 1) := by subst hw0; exact Free.new' _ _ _ _ (by simp)
  have X3 : Below w.heap.size w w0 := by subst hw0; exact ((Below.refl _ _).alloc (Nat.le_refl _) _).alloc (by simp) _
  have X4 : w0.heap.size = w.heap.size + 1 + 1 := by subst hw0; simp
  have HW := Lib.hid hw0
  have V0 := Lib.hid X0
  have V1 := Lib.hid X1
  have F1 := Lib.hid X2
  have B0 := Lib.hid X3
  have RX := Lib.hid (rA.below X3)
  have CV := Lib.hid (c_iValid WA HA aA _ cA zA w0 (rA.below X3))
  clear hw0 X0 X1 X2 X3 rA
  unfold resEdges
  cases hv : validB WA HA zA
  · rw [if_neg (by decide)]
    have HS := Lib.hid hv
    clear hv
    go_enter Try.func18, Try.ntmps18
    go_wp2_with fail
    rw [HW.out]
    refine CV.out.mono ?_
    rintro _ w1 ⟨rfl, b⟩
    rw [HS.out]
    have VV := Lib.hid (V1.out.keep b)
    have FF := Lib.hid (F1.out.below V1.out.lt b)
    have BB := Lib.hid (B0.out.trans (b.mono (by omega)))
    clear b
    obtain ⟨q0, q1, q2⟩ := VV.out.three
    have f0 := FF.out 0
    have f1 := FF.out 1
    have f2 := FF.out 2
    go_wp2_with fail
    refine bodyPost_ret (v := .tuple #[.agg #[.int .i64 0, .int .i64 0, .slice none 0 0], .bool false]) (by simp [results, Try.results18, q0, q1, q2, go_sem]) rfl (show RetP _ PRes.no _ _ _ from ⟨none, 0, rfl, Nat.zero_le _, ((BB.out.setCell (by simp <;> omega) _).setCell (by simp <;> omega) _).setCell (by simp <;> omega) _, Own.nil _ _ _⟩)
  · rw [if_pos rfl]
    have hl1 := (valid_len hv).2.2
    have hlen := (valid_len hv).1
    have hsb : sideB WA HA = true := by have h := hv; simp only [validB, Bool.and_eq_true] at h; exact h.1.1
    obtain ⟨⟨s1, s2⟩, s3, s4⟩ := sideB_true hsb
    obtain ⟨Wn, rfl⟩ : ∃ n : Nat, WA = n := ⟨WA.toNat, by omega⟩
    obtain ⟨Hn, rfl⟩ : ∃ n : Nat, HA = n := ⟨HA.toNat, by omega⟩
    have hln : zA.length = Wn * Hn := by rw [← Int.natCast_mul] at hlen; omega
    have hres := edges_make hv hln
    unfold resEdges at hres
    rw [hv, if_pos rfl] at hres
    rw [hres]
    have CM := Lib.hid (fun (w1 : World) (hv1 : Var w1 w.heap.size #[.int .i64 (Wn : Int), .int .i64 (Hn : Int), .slice aA zA.length cA]) (hr1 : IsRowF .f32 w1 aA zA.length cA zA) => c_makeEdges (Wn : Int) (Hn : Int) (.pointer (some ⟨w.heap.size, 0, none⟩)) (edgeP (Wn : Int) (Hn : Int) zA) w1 (fun x y => edgeP_lt _ _ _ x y) (fun x y wr hx hy hW hH hB => c_edges1 Wn Hn x y aA cA zA w.heap.size wr (hv1.keep hB) (hr1.below hB) (by omega) (by omega) (by omega) (by omega) hln (by omega) (by omega)))
    have HS := Lib.hid hv
    clear hv hres hlen hln hsb
    generalize resMake (edgeP (Wn : Int) (Hn : Int) zA) (Wn : Int) (Hn : Int) = r at *
    go_enter Try.func18, Try.ntmps18
    go_wp2_with fail
    rw [HW.out]
    refine CV.out.mono ?_
    rintro _ w1 ⟨rfl, b⟩
    rw [HS.out]
    have UU := Lib.hid (V0.out.keep b)
    have VV := Lib.hid (V1.out.keep b)
    have FF := Lib.hid (F1.out.below V1.out.lt b)
    have BB := Lib.hid (B0.out.trans (b.mono (by omega)))
    have RR := Lib.hid (RX.out.below b)
    have zz : w.heap.size + 1 < w1.heap.size := VV.out.lt
    clear b
    obtain ⟨u0, u1, u2⟩ := UU.out.three
    go_wp2_with fail
    refine (c_sidesOf _ _ _ _).mono ?_
    rintro _ w1b ⟨rfl, BE⟩
    have UU2 := Lib.hid (UU.out.keep BE)
    have VV2 := Lib.hid (VV.out.keep BE)
    have FF2 := Lib.hid (FF.out.below zz BE)
    have BB2 := Lib.hid (BB.out.trans (BE.mono (by omega)))
    have RR2 := Lib.hid (RR.out.below BE)
    have zz2 : w.heap.size + 1 < w1b.heap.size := VV2.out.lt
    clear BE u0 u1 u2
    go_wp2_with fail
    refine (CM.out w1b UU2.out RR2.out).mono ?_
    rintro _ w2 ⟨a, cap, rfl, hl, b, o⟩
    have V2 := Lib.hid (VV2.out.keep b)
    have F2 := Lib.hid (FF2.out.below zz2 b)
    have B2 := Lib.hid (BB2.out.trans (b.mono (by omega)))
    have z2 : w1b.heap.size ≤ w2.heap.size := b.size
    have O2 := Lib.hid o
    have HL := Lib.hid hl
    clear b o hl
    obtain ⟨q0, q1, q2⟩ := V2.out.three
    have f0 := F2.out 0
    have f1 := F2.out 1
    have f2 := F2.out 2
    go_wp2_with fail
    have hrow : blk a ≠ some (w.heap.size + 1) := fun e => by have := O2.out.in _ e; omega
    refine bodyPost_ret (v := .tuple #[.agg #[.int .i64 r.W, .int .i64 r.H, .slice a r.zs.length cap], .bool r.ok]) (by simp [results, Try.results18, q0, q1, q2, go_sem]) rfl ⟨a, cap, rfl, HL.out, ((B2.out.setCell (by simp <;> omega) _).setCell (by simp <;> omega) _).setCell (by simp <;> omega) _, (((O2.out.setCell hrow _).setCell hrow _).setCell hrow _).mono (by omega)⟩

/-! ### FnExactEdgesOf -/
set_option maxHeartbeats 8000000 in
theorem walkG (WP HP : Int) (zP : List Nat) (aP : Option Addr) (cP : Nat) (w : World) (r : PRes) (cS : ∀ (aP : Option Addr) (cP : Nat) (w : World), IsRowF .f32 w aP zP.length cP zP → Calls Try.prog 16 #[.agg #[.int .i64 WP, .int .i64 HP, .slice aP zP.length cP]] w (RetP 38 r w)) (cI : ∀ (aP : Option Addr) (cP : Nat) (w : World), IsRowF .f32 w aP zP.length cP zP → Calls Try.prog 18 #[.agg #[.int .i64 WP, .int .i64 HP, .slice aP zP.length cP]] w (RetP 38 r w)) (rP : IsRowF .f32 w aP zP.length cP zP) (hl : zP.length ≤ 1048576) : Calls Try.prog 3 #[.agg #[.int .i64 WP, .int .i64 HP, .slice aP zP.length cP]] w fun e w' => e = .returned (.bool true) ∧ Below w.heap.size w w' := by
  have CS := Lib.hid cS
  have CI := Lib.hid cI
  clear cS cI
  have RP := Lib.hid rP
  clear rP
  go_enter Try.func3, Try.ntmps3
  go_wp2_with fail
  refine (c_szP WP HP aP zP.length cP (1048576 : Int) _ (by omega) (by omega)).mono ?_
  rintro _ w1 ⟨rfl, b⟩
  have VpP_1 := Lib.hid ((Var.new' _ _ _ (w.heap.size) (by first | rfl | simp)).keep b)
  have B_1 := Lib.hid (((Below.refl w.heap.size w).alloc (Nat.le_refl _) _).trans (b.mono (by simp)))
  have S_1 : w.heap.size + 1 ≤ w1.heap.size := by have := b.size; simp at this; omega
  have zpP_1 : w.heap.size < w1.heap.size := by omega
  clear b
  have hzP : ¬ (((1048576 : Int) - (zP.length : Int)) < 0) := by omega
  obtain ⟨cpP0, cpP1, cpP2⟩ := VpP_1.out.three
  go_wp2_with fail
  clear cpP0 cpP1 cpP2
  refine (c_toP WP HP aP zP.length cP zP _ (RP.out.below B_1.out) (by omega)).mono ?_
  rintro _ w2 ⟨gt, rfl, b, o⟩
  have Lt := Lib.hid o.in
  have Ot_2 := Lib.hid o
  clear o
  have VpP_2 := Lib.hid (VpP_1.out.keep b)
  have B_2 := Lib.hid (B_1.out.trans (b.mono (by omega)))
  have S_2 : w1.heap.size + 0 ≤ w2.heap.size := by have := b.size; omega
  have zpP_2 : w.heap.size < w2.heap.size := by omega
  clear b
  clear VpP_1 zpP_1 B_1
  go_wp2_with fail
  refine (CS.out _ _ _ Ot_2.out.row).mono ?_
  rintro _ w3 ⟨au, cu, rfl, hrl, b, o⟩
  have Lu := Lib.hid o.in
  have Ou_3 := Lib.hid o
  clear o
  have VpP_3 := Lib.hid (VpP_2.out.keep b)
  have Ot_3 := Lib.hid (Ot_2.out.below b)
  have B_3 := Lib.hid (B_2.out.trans (b.mono (by omega)))
  have S_3 : w2.heap.size + 0 ≤ w3.heap.size := by have := b.size; omega
  have zpP_3 : w.heap.size < w3.heap.size := by omega
  clear b
  clear VpP_2 zpP_2 Ot_2 B_2
  clear Ot_3 Lt
  obtain ⟨cpP0, cpP1, cpP2⟩ := VpP_3.out.three
  go_wp2_with fail
  clear cpP0 cpP1 cpP2
  refine (c_toP WP HP aP zP.length cP zP _ ((RP.out.below B_3.out).alloc _) (by omega)).mono ?_
  rintro _ w4 ⟨gxP, rfl, b, o⟩
  have LxP := Lib.hid o.in
  have LxP := Lib.hid (by have h := LxP.out; simp only [World.size_alloc] at h; exact h)
  have OxP_4 := Lib.hid o
  clear o
  have VpP_4 := Lib.hid ((VpP_3.out.alloc _).keep b)
  have Vu_4 := Lib.hid ((Var.new' _ _ _ (w3.heap.size) (by first | rfl | simp)).keep b)
  have Ou_4 := Lib.hid ((Ou_3.out.alloc _).below b)
  have B_4 := Lib.hid ((B_3.out.alloc (by omega) _).trans (b.mono (by simp; omega)))
  have S_4 : w3.heap.size + 1 ≤ w4.heap.size := by have := b.size; simp at this; omega
  have zpP_4 : w.heap.size < w4.heap.size := by omega
  have zu_4 : w3.heap.size < w4.heap.size := by omega
  clear b
  clear VpP_3 zpP_3 Ou_3 B_3
  go_wp2_with fail
  refine (CI.out _ _ _ (OxP_4.out.alloc _).row).mono ?_
  rintro _ w5 ⟨ag, cg, rfl, hrl, b, o⟩
  clear hrl
  have Lg := Lib.hid o.in
  have Lg := Lib.hid (by have h := Lg.out; simp only [World.size_alloc] at h; exact h)
  have Og_5 := Lib.hid o
  clear o
  have VpP_5 := Lib.hid ((VpP_4.out.alloc _).keep b)
  have Vu_5 := Lib.hid ((Vu_4.out.alloc _).keep b)
  have VxP_5 := Lib.hid ((Var.new' _ _ _ (w4.heap.size) (by first | rfl | simp)).keep b)
  have Ou_5 := Lib.hid ((Ou_4.out.alloc _).below b)
  have OxP_5 := Lib.hid ((OxP_4.out.alloc _).below b)
  have B_5 := Lib.hid ((B_4.out.alloc (by omega) _).trans (b.mono (by simp; omega)))
  have S_5 : w4.heap.size + 1 ≤ w5.heap.size := by have := b.size; simp at this; omega
  have zpP_5 : w.heap.size < w5.heap.size := by omega
  have zu_5 : w3.heap.size < w5.heap.size := by omega
  have zxP_5 : w4.heap.size < w5.heap.size := by omega
  clear b
  clear VpP_4 zpP_4 Vu_4 zu_4 Ou_4 OxP_4 B_4
  obtain ⟨cu0, cu1, cu2⟩ := Vu_5.out.three
  go_wp2_with fail
  clear cu0 cu1 cu2
  refine (c_eqP _ _ _ _ _ _ _ _ _ (Og_5.out.alloc _).row (Ou_5.out.alloc _).row).mono ?_
  rintro _ w6 ⟨rfl, b⟩
  have VpP_6 := Lib.hid ((VpP_5.out.alloc _).keep b)
  have Vu_6 := Lib.hid ((Vu_5.out.alloc _).keep b)
  have VxP_6 := Lib.hid ((VxP_5.out.alloc _).keep b)
  have Vg_6 := Lib.hid ((Var.new' _ _ _ (w5.heap.size) (by first | rfl | simp)).keep b)
  have Ou_6 := Lib.hid ((Ou_5.out.alloc _).below b)
  have OxP_6 := Lib.hid ((OxP_5.out.alloc _).below b)
  have Og_6 := Lib.hid ((Og_5.out.alloc _).below b)
  have B_6 := Lib.hid ((B_5.out.alloc (by omega) _).trans (b.mono (by simp; omega)))
  have S_6 : w5.heap.size + 1 ≤ w6.heap.size := by have := b.size; simp at this; omega
  have zpP_6 : w.heap.size < w6.heap.size := by omega
  have zu_6 : w3.heap.size < w6.heap.size := by omega
  have zxP_6 : w4.heap.size < w6.heap.size := by omega
  have zg_6 : w5.heap.size < w6.heap.size := by omega
  clear b
  clear VpP_5 zpP_5 Vu_5 zu_5 VxP_5 zxP_5 Ou_5 OxP_5 Og_5 B_5
  obtain ⟨cpP0, cpP1, cpP2⟩ := VpP_6.out.three
  obtain ⟨cxP0, cxP1, cxP2⟩ := VxP_6.out.three
  go_wp2_with fail
  have D : Below w6.heap.size w6 w6.drew := (Below.refl _ _).drew
  have RD := Lib.hid ((RP.out.below B_6.out).below D)
  have XD := Lib.hid (OxP_6.out.below D)
  have HD := Lib.hid D
  clear D
  go_region_held3 (fun w' => w'.cell? ⟨w.heap.size, 0, none⟩ = some (.int .i64 WP) ∧ w'.cell? ⟨w.heap.size, 1, none⟩ = some (.int .i64 HP) ∧ w'.cell? ⟨w.heap.size, 2, none⟩ = some (.slice aP zP.length cP) ∧ w'.cell? ⟨w4.heap.size, 0, none⟩ = some (.int .i64 WP) ∧ w'.cell? ⟨w4.heap.size, 1, none⟩ = some (.int .i64 HP) ∧ w'.cell? ⟨w4.heap.size, 2, none⟩ = some (.slice (some ⟨gxP, 0, none⟩) zP.length zP.length)) (first | exact ⟨cpP0, cpP1, cpP2, cxP0, cxP1, cxP2⟩ | (have e1 := ((VpP_6.out.keep HD.out).keep b7).three; have e2 := ((VxP_6.out.keep HD.out).keep b7).three; exact ⟨e1.1, e1.2.1, e1.2.2, e2.1, e2.2.1, e2.2.2⟩) | (have e1 := (((VpP_6.out.keep HD.out).keep b7).keep b8).three; have e2 := (((VxP_6.out.keep HD.out).keep b7).keep b8).three; exact ⟨e1.1, e1.2.1, e1.2.2, e2.1, e2.2.1, e2.2.2⟩)) (first | (go_at_call 17; refine (c_toP WP HP aP zP.length cP zP _ RD.out (by omega)).mono ?_; rintro _ wt ⟨g7, rfl, b7, o7⟩) | (go_at_call 19; refine (c_eqP _ _ _ _ _ _ _ _ _ (XD.out.below b7).row o7.row).mono ?_; rintro _ w7 ⟨rfl, b8⟩))
  have b := HD.out.trans (b7.trans (b8.mono b7.size))
  clear RD XD HD b7 b8 o7
  clear cpP0 cpP1 cpP2 cxP0 cxP1 cxP2
  have VpP_7 := Lib.hid (VpP_6.out.keep b)
  have Vu_7 := Lib.hid (Vu_6.out.keep b)
  have VxP_7 := Lib.hid (VxP_6.out.keep b)
  have Vg_7 := Lib.hid (Vg_6.out.keep b)
  have Ou_7 := Lib.hid (Ou_6.out.below b)
  have OxP_7 := Lib.hid (OxP_6.out.below b)
  have Og_7 := Lib.hid (Og_6.out.below b)
  have B_7 := Lib.hid (B_6.out.trans (b.mono (by omega)))
  have S_7 : w6.heap.size + 0 ≤ w7.heap.size := by have := b.size; omega
  have zpP_7 : w.heap.size < w7.heap.size := by omega
  have zu_7 : w3.heap.size < w7.heap.size := by omega
  have zxP_7 : w4.heap.size < w7.heap.size := by omega
  have zg_7 : w5.heap.size < w7.heap.size := by omega
  clear b
  clear VpP_6 zpP_6 Vu_6 zu_6 VxP_6 zxP_6 Vg_6 zg_6 Ou_6 OxP_6 Og_6 B_6
  obtain ⟨cxP0, cxP1, cxP2⟩ := VxP_7.out.three
  go_wp2_with fail
  clear cxP0 cxP1 cxP2
  refine (c_markP _ _ _ _ _ _ 1 _ _ OxP_7.out (by omega)).mono ?_
  rintro _ w8 ⟨rfl, b, o⟩
  have On := Lib.hid o
  clear o
  have VpP_8 := Lib.hid (VpP_7.out.kept b (by intro e; have := LxP.out _ e.symm; omega))
  have Vu_8 := Lib.hid (Vu_7.out.kept b (by intro e; have := LxP.out _ e.symm; omega))
  have VxP_8 := Lib.hid (VxP_7.out.kept b (by intro e; have := LxP.out _ e.symm; omega))
  have Vg_8 := Lib.hid (Vg_7.out.kept b (by intro e; have := LxP.out _ e.symm; omega))
  have Ou_8 := Lib.hid (Ou_7.out.kept b (blk_apart Lu.out LxP.out (by omega)))
  have Og_8 := Lib.hid (Og_7.out.kept b (blk_apart Lg.out LxP.out (by omega)))
  have B_8 := Lib.hid (B_7.out.grown b (by omega) (fun k e => by have := LxP.out k e; omega))
  have S_8 : w7.heap.size ≤ w8.heap.size := b.size
  have zpP_8 : w.heap.size < w8.heap.size := by omega
  have zu_8 : w3.heap.size < w8.heap.size := by omega
  have zxP_8 : w4.heap.size < w8.heap.size := by omega
  have zg_8 : w5.heap.size < w8.heap.size := by omega
  clear b
  clear VpP_7 zpP_7 Vu_7 zu_7 VxP_7 zxP_7 Vg_7 zg_7 Ou_7 OxP_7 Og_7 B_7
  have OxP_8 := Lib.hid On.out
  clear On
  have hk : ¬ ((((1 + zP.length) : Nat) : Int) < 0) := by omega
  clear OxP_8 LxP
  obtain ⟨cg0, cg1, cg2⟩ := Vg_8.out.three
  obtain ⟨cu0, cu1, cu2⟩ := Vu_8.out.three
  go_wp2_with fail
  clear cg0 cg1 cg2 cu0 cu1 cu2
  refine (c_eqP _ _ _ _ _ _ _ _ _ Og_8.out.row Ou_8.out.row).mono ?_
  rintro _ w9 ⟨rfl, b⟩
  have VpP_9 := Lib.hid (VpP_8.out.keep b)
  have Vu_9 := Lib.hid (Vu_8.out.keep b)
  have VxP_9 := Lib.hid (VxP_8.out.keep b)
  have Vg_9 := Lib.hid (Vg_8.out.keep b)
  have Ou_9 := Lib.hid (Ou_8.out.below b)
  have Og_9 := Lib.hid (Og_8.out.below b)
  have B_9 := Lib.hid (B_8.out.trans (b.mono (by omega)))
  have S_9 : w8.heap.size + 0 ≤ w9.heap.size := by have := b.size; omega
  have zpP_9 : w.heap.size < w9.heap.size := by omega
  have zu_9 : w3.heap.size < w9.heap.size := by omega
  have zxP_9 : w4.heap.size < w9.heap.size := by omega
  have zg_9 : w5.heap.size < w9.heap.size := by omega
  clear b
  clear VpP_8 zpP_8 Vu_8 zu_8 VxP_8 zxP_8 Vg_8 zg_8 Ou_8 Og_8 B_8
  obtain ⟨cg0, cg1, cg2⟩ := Vg_9.out.three
  go_wp2_with fail
  clear cg0 cg1 cg2
  refine (c_markP _ _ _ _ _ _ 1 _ _ Og_9.out (by omega)).mono ?_
  rintro _ w10 ⟨rfl, b, o⟩
  have On := Lib.hid o
  clear o
  have VpP_10 := Lib.hid (VpP_9.out.kept b (by intro e; have := Lg.out _ e.symm; omega))
  have Vu_10 := Lib.hid (Vu_9.out.kept b (by intro e; have := Lg.out _ e.symm; omega))
  have VxP_10 := Lib.hid (VxP_9.out.kept b (by intro e; have := Lg.out _ e.symm; omega))
  have Vg_10 := Lib.hid (Vg_9.out.kept b (by intro e; have := Lg.out _ e.symm; omega))
  have Ou_10 := Lib.hid (Ou_9.out.kept b (blk_apart Lu.out Lg.out (by omega)))
  have B_10 := Lib.hid (B_9.out.grown b (by omega) (fun k e => by have := Lg.out k e; omega))
  have S_10 : w9.heap.size ≤ w10.heap.size := b.size
  have zpP_10 : w.heap.size < w10.heap.size := by omega
  have zu_10 : w3.heap.size < w10.heap.size := by omega
  have zxP_10 : w4.heap.size < w10.heap.size := by omega
  have zg_10 : w5.heap.size < w10.heap.size := by omega
  clear b
  clear VpP_9 zpP_9 Vu_9 zu_9 VxP_9 zxP_9 Vg_9 zg_9 Ou_9 Og_9 B_9
  have Og_10 := Lib.hid On.out
  clear On
  obtain ⟨cg0, cg1, cg2⟩ := Vg_10.out.three
  go_wp2_with fail
  clear cg0 cg1 cg2
  refine (c_heldP _ _ _ _ _ 1 _ Og_10.out.row (by omega)).mono ?_
  rintro _ w11 ⟨rfl, b⟩
  have VpP_11 := Lib.hid (VpP_10.out.keep b)
  have Vu_11 := Lib.hid (Vu_10.out.keep b)
  have VxP_11 := Lib.hid (VxP_10.out.keep b)
  have Vg_11 := Lib.hid (Vg_10.out.keep b)
  have Ou_11 := Lib.hid (Ou_10.out.below b)
  have Og_11 := Lib.hid (Og_10.out.below b)
  have B_11 := Lib.hid (B_10.out.trans (b.mono (by omega)))
  have S_11 : w10.heap.size + 0 ≤ w11.heap.size := by have := b.size; omega
  have zpP_11 : w.heap.size < w11.heap.size := by omega
  have zu_11 : w3.heap.size < w11.heap.size := by omega
  have zxP_11 : w4.heap.size < w11.heap.size := by omega
  have zg_11 : w5.heap.size < w11.heap.size := by omega
  clear b
  clear VpP_10 zpP_10 Vu_10 zu_10 VxP_10 zxP_10 Vg_10 zg_10 Ou_10 Og_10 B_10
  have hq : ¬ (((1 + r.zs.length : Nat) : Int) < 0) := by omega
  obtain ⟨cpP0, cpP1, cpP2⟩ := VpP_11.out.three
  go_wp2_with fail
  clear cpP0 cpP1 cpP2
  refine (c_toP WP HP aP zP.length cP zP _ (RP.out.below B_11.out) (by omega)).mono ?_
  rintro _ w12 ⟨gt, rfl, b, o⟩
  have Lt := Lib.hid o.in
  have Ot_12 := Lib.hid o
  clear o
  have VpP_12 := Lib.hid (VpP_11.out.keep b)
  have Vu_12 := Lib.hid (Vu_11.out.keep b)
  have VxP_12 := Lib.hid (VxP_11.out.keep b)
  have Vg_12 := Lib.hid (Vg_11.out.keep b)
  have Ou_12 := Lib.hid (Ou_11.out.below b)
  have Og_12 := Lib.hid (Og_11.out.below b)
  have B_12 := Lib.hid (B_11.out.trans (b.mono (by omega)))
  have S_12 : w11.heap.size + 0 ≤ w12.heap.size := by have := b.size; omega
  have zpP_12 : w.heap.size < w12.heap.size := by omega
  have zu_12 : w3.heap.size < w12.heap.size := by omega
  have zxP_12 : w4.heap.size < w12.heap.size := by omega
  have zg_12 : w5.heap.size < w12.heap.size := by omega
  clear b
  clear VpP_11 zpP_11 Vu_11 zu_11 VxP_11 zxP_11 Vg_11 zg_11 Ou_11 Og_11 B_11
  go_wp2_with fail
  refine (CI.out _ _ _ Ot_12.out.row).mono ?_
  rintro _ w13 ⟨ah, ch, rfl, hrl, b, o⟩
  clear hrl
  have Lh := Lib.hid o.in
  have Oh_13 := Lib.hid o
  clear o
  have VpP_13 := Lib.hid (VpP_12.out.keep b)
  have Vu_13 := Lib.hid (Vu_12.out.keep b)
  have VxP_13 := Lib.hid (VxP_12.out.keep b)
  have Vg_13 := Lib.hid (Vg_12.out.keep b)
  have Ou_13 := Lib.hid (Ou_12.out.below b)
  have Og_13 := Lib.hid (Og_12.out.below b)
  have Ot_13 := Lib.hid (Ot_12.out.below b)
  have B_13 := Lib.hid (B_12.out.trans (b.mono (by omega)))
  have S_13 : w12.heap.size + 0 ≤ w13.heap.size := by have := b.size; omega
  have zpP_13 : w.heap.size < w13.heap.size := by omega
  have zu_13 : w3.heap.size < w13.heap.size := by omega
  have zxP_13 : w4.heap.size < w13.heap.size := by omega
  have zg_13 : w5.heap.size < w13.heap.size := by omega
  clear b
  clear VpP_12 zpP_12 Vu_12 zu_12 VxP_12 zxP_12 Vg_12 zg_12 Ou_12 Og_12 Ot_12 B_12
  clear Ot_13 Lt
  obtain ⟨cu0, cu1, cu2⟩ := Vu_13.out.three
  go_wp2_with fail
  clear cu0 cu1 cu2
  refine (c_eqP _ _ _ _ _ _ _ _ _ (Oh_13.out.alloc _).row (Ou_13.out.alloc _).row).mono ?_
  rintro _ w14 ⟨rfl, b⟩
  have VpP_14 := Lib.hid ((VpP_13.out.alloc _).keep b)
  have Vu_14 := Lib.hid ((Vu_13.out.alloc _).keep b)
  have VxP_14 := Lib.hid ((VxP_13.out.alloc _).keep b)
  have Vg_14 := Lib.hid ((Vg_13.out.alloc _).keep b)
  have Vh_14 := Lib.hid ((Var.new' _ _ _ (w13.heap.size) (by first | rfl | simp)).keep b)
  have Ou_14 := Lib.hid ((Ou_13.out.alloc _).below b)
  have Og_14 := Lib.hid ((Og_13.out.alloc _).below b)
  have Oh_14 := Lib.hid ((Oh_13.out.alloc _).below b)
  have B_14 := Lib.hid ((B_13.out.alloc (by omega) _).trans (b.mono (by simp; omega)))
  have S_14 : w13.heap.size + 1 ≤ w14.heap.size := by have := b.size; simp at this; omega
  have zpP_14 : w.heap.size < w14.heap.size := by omega
  have zu_14 : w3.heap.size < w14.heap.size := by omega
  have zxP_14 : w4.heap.size < w14.heap.size := by omega
  have zg_14 : w5.heap.size < w14.heap.size := by omega
  have zh_14 : w13.heap.size < w14.heap.size := by omega
  clear b
  clear VpP_13 zpP_13 Vu_13 zu_13 VxP_13 zxP_13 Vg_13 zg_13 Ou_13 Og_13 Oh_13 B_13
  obtain ⟨cg0, cg1, cg2⟩ := Vg_14.out.three
  go_wp2_with fail
  clear cg0 cg1 cg2
  refine (c_heldP _ _ _ _ _ 1 _ Og_14.out.row (by omega)).mono ?_
  rintro _ w15 ⟨rfl, b⟩
  have VpP_15 := Lib.hid (VpP_14.out.keep b)
  have Vu_15 := Lib.hid (Vu_14.out.keep b)
  have VxP_15 := Lib.hid (VxP_14.out.keep b)
  have Vg_15 := Lib.hid (Vg_14.out.keep b)
  have Vh_15 := Lib.hid (Vh_14.out.keep b)
  have Ou_15 := Lib.hid (Ou_14.out.below b)
  have Og_15 := Lib.hid (Og_14.out.below b)
  have Oh_15 := Lib.hid (Oh_14.out.below b)
  have B_15 := Lib.hid (B_14.out.trans (b.mono (by omega)))
  have S_15 : w14.heap.size + 0 ≤ w15.heap.size := by have := b.size; omega
  have zpP_15 : w.heap.size < w15.heap.size := by omega
  have zu_15 : w3.heap.size < w15.heap.size := by omega
  have zxP_15 : w4.heap.size < w15.heap.size := by omega
  have zg_15 : w5.heap.size < w15.heap.size := by omega
  have zh_15 : w13.heap.size < w15.heap.size := by omega
  clear b
  clear VpP_14 zpP_14 Vu_14 zu_14 VxP_14 zxP_14 Vg_14 zg_14 Vh_14 zh_14 Ou_14 Og_14 Oh_14 B_14
  go_wp2_with fail
  go_ret
  exact ⟨rfl, B_15.out⟩
theorem walkL0 (WP HP : Int) (zP : List Nat) (aP : Option Addr) (cP : Nat) (w : World) (rP : IsRowF .f32 w aP zP.length cP zP)  (hm : zP.length ≤ maxLen) (hl : 1048576 < zP.length) : Calls Try.prog 3 #[.agg #[.int .i64 WP, .int .i64 HP, .slice aP zP.length cP]] w fun e w' => e = .returned (.bool true) ∧ Below w.heap.size w w' := by
  unfold maxLen at hm
  have RP := Lib.hid rP
  clear rP
  go_enter Try.func3, Try.ntmps3
  go_wp2_with fail
  refine (c_szP_no WP HP aP zP.length cP (1048576 : Int) _ (by omega) (by omega)).mono ?_
  rintro _ w1 ⟨rfl, b⟩
  have VpP_1 := Lib.hid ((Var.new' _ _ _ (w.heap.size) (by first | rfl | simp)).keep b)
  have B_1 := Lib.hid (((Below.refl w.heap.size w).alloc (Nat.le_refl _) _).trans (b.mono (by simp)))
  have S_1 : w.heap.size + 1 ≤ w1.heap.size := by have := b.size; simp at this; omega
  have zpP_1 : w.heap.size < w1.heap.size := by omega
  clear b
  go_wp2_with fail
  go_ret
  exact ⟨rfl, B_1.out⟩
theorem walk (WP HP : Int) (zP : List Nat) (aP : Option Addr) (cP : Nat) (w : World) (rP : IsRowF .f32 w aP zP.length cP zP) : Calls Try.prog 3 #[.agg #[.int .i64 WP, .int .i64 HP, .slice aP zP.length cP]] w fun e w' => e = .returned (.bool true) ∧ Below w.heap.size w w' := by
  have mP : zP.length ≤ maxLen := Nat.le_trans rP.2.1 rP.2.2.1
  by_cases g0 : 1048576 < zP.length
  · exact walkL0 WP HP zP aP cP w rP  mP g0
  exact walkG WP HP zP aP cP w (resEdges WP HP zP) (fun aP cP w rP => c_sEdgesOf WP HP zP aP cP w rP ) (fun aP cP w rP => c_iEdgesOf WP HP zP aP cP w rP ) rP (by omega)
theorem own : ownKnob Try.prog.godebug = none := by kernel_rfl
theorem laidOut : laidOutB Try.prog = true := by kernel_rfl
set_option maxRecDepth 100000 in
theorem lifted (os : Os) (started : os.Started) (H : Type) (enc : TypeId × Value → H) :
    ReturnsInHanded {} Try.checked os 3 .any (Rows.fnExactEdgesOfSpec.pre6 enc Try.prog Try.f3 Rows.fnExactEdgesOfRow.domain false) (Rows.fnExactEdgesOfSpec.post enc Try.prog Try.f3 false true false false) := by
  refine returnsInHanded_of_change (C := Try.checked) own started (by kernel_rfl) Try.func3
    (ChangeSpec.witness6 (enc := enc) (C := Try.checked) false ⟨#[], #[.agg #[.int .i64 0, .int .i64 0, .slice none 0 0]], []⟩ 8 (by kernel_rfl) (by kernel_rfl) (by kernel_rfl) (by kernel_rfl)) ?_
  intro W base args ds gs before hval0 hW hcnd _
  have hval : ∀ (j : Nat) t v, Try.f3.params[j]? = some t → args[j]? = some v → Value.okWide Try.prog W .any base t v := hval0
  have hW' := hW
  obtain ⟨p, q, hA0, hV, rfl, hfz, hnd⟩ := hW
  have hA : DataW.TrodAll enc Try.prog W 0 (fun _ => true) true Try.f3.params.toList args.toList ds p := hA0
  rw [Try.params3] at hA hval
  obtain ⟨v0, vs0, d0, ds0, p0, q0, hargs, rfl, rfl, h0, r0⟩ := trodAll_cons hA
  obtain ⟨rfl, rfl, rfl⟩ := trodAll_nil r0
  obtain rfl : args = #[v0] := by cases args; simp_all
  obtain ⟨rfl, rfl⟩ := trodVars_none hV
  have k0 := h0
  have lt0 : ∀ x ∈ p0, x.block < W.heap.size := by obtain ⟨m, hm⟩ := k0; exact DataW.trod_lt m _ _ _ hm
  obtain ⟨W0, H0, z0, a0, c0, rfl, wW0, wH0, w0⟩ := open_pic Try.underlying24 (by kernel_rfl) (by kernel_rfl) Try.underlying2 Try.underlying2 Try.underlying22 Try.underlying38 (by kernel_rfl) (hval 0 24 v0 rfl rfl) h0
  clear hA0 hval0
  have hw0 : Calls Try.prog 3 #[.agg #[.int .i64 W0, .int .i64 H0, .slice a0 z0.length c0]] W fun e w' => e = .returned (.bool true) ∧ Below W.heap.size W w' := by
    exact walk W0 H0 z0 a0 c0 W w0
  refine hw0.mono fun e W' ⟨he, bel⟩ => ?_
  subst he
  exact ⟨_, rfl, _, _, _, [], _, [], hW', trodAll_mk1 (shut_bool Try.underlying4 _), (trodAll_cons_mk (Below.trod laidOut (by kernel_rfl) (of_decide_eq_true (by kernel_rfl)) k0 bel lt0) trodAll_mk0), rfl, bel.frame _, fun h => by cases h⟩

theorem over : Rows.fnExactEdgesOfRow.holds Try.pinned (OpenSpec.ofChange Rows.fnExactEdgesOfSpec) :=
  OpenClaim.holds_of_wide 3 Try.f3 rfl rfl rfl rfl rfl rfl rfl ⟨rfl, rfl, rfl, rfl, rfl⟩ rfl rfl rfl rfl rfl (by kernel_rfl) Try.func3 (by kernel_rfl)
    (of_decide_eq_true (by kernel_rfl)) (by unfold Func.isWrapper; first | (rw [if_pos (by decide +kernel)]; kernel_rfl) | (rw [if_neg (by decide +kernel)]; exact ⟨rfl, rfl⟩))
    (fun os started H enc _ => lifted os started H enc)

theorem proved : Rows.FnExactEdgesOfSaid := over
#print axioms proved

end Go.Proofs.Ytclbliflmhjebaa.fnExactEdgesOf

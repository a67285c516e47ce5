/-
  FnExactMixPictures: for every input this law of the program returns true, and each argument reads as before. No condition.
-/
import Derived.Test.YtckajolgakmjhaaRows
import Derived.Test.YtckajolgakmjhaaRow
import Derived.Test.YtckajolgakmjhaaAp
import Derived.ProofKit
import Derived.OpenShut
import Derived.ShutString
import Derived.ChangeOld
import Derived.Below
import Derived.Lib.Hide
import Derived.Outline
import Derived.Deep.RegionHeld3
import Derived.Deep.DeepCutAuto
set_option linter.unusedSimpArgs false
set_option linter.unusedVariables false
set_option exponentiation.threshold 2000
set_option maxRecDepth 20000
set_option maxHeartbeats 4000000
namespace Go.Proofs.Ytckajolgakmjhaa.fnExactMixPictures
open Go Go.Proofs.Ytckajolgakmjhaa Go.Proofs
open Go.ChangeShapes Go.WideShapes Go.ChangeAt Go.RowKit
open Go.ChangeMaps (open_string shut_string)
/-! ### szPicture -/
theorem c_szF (a : Option Addr) (len cap : Nat) (L : Int) (w : World) (h : (len : Int) ≤ L) (hL : L ≤ 1048576) : Calls Try.prog 25 #[.slice a len cap, .int .i64 L] w (fun e w' => e = .returned (.int .i64 (L - (len : Int))) ∧ w' = w) := by
  have h' : ¬ (L - (len : Int) < 0) := by omega
  go_enter Try.func25, Try.ntmps25
  go_wp2
  go_ret
  exact ⟨rfl, rfl⟩
theorem c_szF_no (a : Option Addr) (len cap : Nat) (L : Int) (w : World) (h : L < len) (hL : 0 ≤ L) (hm : len ≤ 9223372036854775807) : Calls Try.prog 25 #[.slice a len cap, .int .i64 L] w (fun e w' => e = .returned (.int .i64 (-1)) ∧ w' = w) := by
  have h' : L - (len : Int) < 0 := by omega
  go_enter Try.func25, Try.ntmps25
  go_wp2
  go_ret
  exact ⟨rfl, rfl⟩
theorem c_szP (W H : Int) (a : Option Addr) (len cap : Nat) (L : Int) (w : World) (h : (len : Int) ≤ L) (hL : L ≤ 1048576) : Calls Try.prog 10 #[.agg #[.int .i64 W, .int .i64 H, .slice a len cap], .int .i64 L] w (RetB (.int .i64 (L - (len : Int))) w) := by
  have h' : ¬ (L - (len : Int) < 0) := by omega
  go_enter Try.func10, Try.ntmps10
  go_wp2_with (go_at_call 25; refine (c_szF a len cap L _ h hL).mono ?_; rintro _ _ ⟨rfl, rfl⟩)
  go_ret
  exact ⟨rfl, (Below.refl _ _).alloc (Nat.le_refl _) _⟩
theorem c_szP_no (W H : Int) (a : Option Addr) (len cap : Nat) (L : Int) (w : World) (h : L < len) (hL : 0 ≤ L ∧ len ≤ 9223372036854775807) : Calls Try.prog 10 #[.agg #[.int .i64 W, .int .i64 H, .slice a len cap], .int .i64 L] w (RetB (.int .i64 (-1)) w) := by
  go_enter Try.func10, Try.ntmps10
  go_wp2_with (go_at_call 25; refine (c_szF_no a len cap L _ h hL.1 hL.2).mono ?_; rintro _ _ ⟨rfl, rfl⟩)
  go_ret
  exact ⟨rfl, (Below.refl _ _).alloc (Nat.le_refl _) _⟩
/-! ### toOwn -/
theorem infoFo : (Try.prog.info? 22).map (fun i => (i.zero, i.size, i.bytes)) = some (some (.float .f32 0), 1, 4) := by kernel_rfl
theorem c_toO (a : Option Addr) (len cap : Nat) (zs : List Nat) (w : World) (hr : IsRowF .f32 w a len cap zs) (hl : len ≤ 1048576) : Calls Try.prog 28 #[.slice a len cap] w (NewO 22 len zs w) := by
  obtain ⟨i0, hi, hz0, hz1, hz2⟩ := info_parts infoFo
  obtain ⟨h1, h2, h3, h4, h5⟩ := hr
  go_enter Try.func28, Try.ntmps28
  go_wp2_with (at_make; refine wpList_make_full _ rfl _ _ 23 rfl w.heap.size 22 i0 (.float .f32 0) 1 Try.underlying23 hi hz0 hz1 _ _ _ _ len rfl rfl rfl rfl (by rw [hz2]; omega) (by unfold maxLen; omega) (by simp) ?_; intro w1 hown hgrow)
  have hblk := block_of_owns hown
  have e0 : (madeCells (Value.float FloatKind.f32 0).cells (len * 1)).toList = List.replicate len (.float .f32 0) := by rw [Nat.mul_one]; exact made_zeros _ _
  rw [e0] at hblk
  have hbel : Below w.heap.size w w1 := (Below.refl _ _).grown hgrow (Nat.le_refl _) (by simp)
  have HB := Lib.hid hblk
  clear hown hgrow hblk e0 hz0 hz1 hz2
  go_loopw [4] (fun i wr => ∃ j : Nat, j ≤ len ∧ i = .int .i64 j ∧ Below w.heap.size w wr ∧ wr.heap[w.heap.size]? = some (.cells (fl .f32 (zs.take j) ++ List.replicate (zs.length - j) (Value.float .f32 0)).toArray 22 (0, 0))) (fun i _ => len - (intOf i).toNat)
  case atStart => exact ⟨0, Nat.zero_le _, rfl, hbel, by rw [HB.out, h1]; rfl⟩
  case round =>
    obtain ⟨j, hj, rfl, hb, hblk⟩ := hrel
    have Hblk := Lib.hid hblk
    clear hblk
    by_cases hlt : j < len
    · rcases h5 with h5 | ⟨b, off, rfl, hbl, hc⟩
      · omega
      have hcell : wr.cell? ⟨b, off + j, none⟩ = some (.float .f32 (fat zs j)) := by rw [hb.cell (p := ⟨b, off + j, none⟩) hbl]; exact hc j hlt
      have hold : wr.cell? ⟨w.heap.size, j, none⟩ = some (.float .f32 0) := by
        rw [cell_of_block Hblk.out, List.getElem?_append_right (by simp [fl]; omega)]
        have e : (fl FloatKind.f32 (List.take j zs)).length = j := by simp [fl]; omega
        rw [e, Nat.sub_self, List.getElem?_replicate, if_pos (by omega)]
      have hfz : wr.frozen? ⟨w.heap.size, j, none⟩ = false := frozen_of_block Hblk.out j
      have hset := block_set Hblk.out j (.float .f32 (fat zs j))
      rw [set_step zs _ j (by omega)] at hset
      have Hset := Lib.hid hset
      clear hset hc
      go_wp2
      go_roundw
      case rel => exact ⟨j + 1, by omega, by go_num, hb.setCell (Nat.le_refl _) _, Hset.out⟩
      case measure => simp [intOf]; omega
    · obtain rfl : j = len := by omega
      have e1 : fl .f32 (zs.take j) ++ List.replicate (zs.length - j) (Value.float .f32 0) = fl .f32 zs := by rw [h1, Nat.sub_self, List.replicate_zero, List.append_nil, List.take_of_length_le (by omega)]
      have hblk2 := Hblk.out
      rw [e1] at hblk2
      have hown : Own 22 wr w.heap.size (some ⟨w.heap.size, 0, none⟩) j j zs :=
        ⟨h1, ⟨by simp [fl, h1], .inr ⟨w.heap.size, j, _, rfl, Nat.le_refl _, hblk2, Nat.le_refl _, by unfold maxLen; omega, by simp [fl, h1], by rw [List.take_of_length_le (by simp [fl, h1])]⟩⟩, h4⟩
      have HO := Lib.hid hown
      clear hown hblk2 e1
      go_wp2
      go_ret
      exact ⟨w.heap.size, rfl, hb, HO.out⟩
/-! ### toPicture -/
theorem c_toP (W H : Int) (a : Option Addr) (len cap : Nat) (zs : List Nat) (w : World) (hr : IsRowF .f32 w a len cap zs) (hl : len ≤ 1048576) : Calls Try.prog 12 #[.agg #[.int .i64 W, .int .i64 H, .slice a len cap]] w (NewP 22 W H zs w) := by
  have HR := Lib.hid hr
  have HL := Lib.hid hr.1
  clear hr
  go_enter Try.func12, Try.ntmps12
  go_wp2_with fail
  refine (c_toO a len cap zs _ (HR.out.below ((((Below.refl _ _).alloc (Nat.le_refl _) _).alloc (by simp) _).alloc (by simp; omega) _)) hl).mono ?_
  rintro _ w1 ⟨g, rfl, hb, hown⟩
  obtain ⟨hc, hf⟩ := bcell hb
  have hz : w.heap.size + 1 + 1 < w1.heap.size := by have := hb.size; simp at this; omega
  have hg' : w.heap.size + 1 + 1 < g := by have := hown.lt.1; simp at this; omega
  have HB := Lib.hid hb
  have HO := Lib.hid hown
  clear hb hown
  go_wp2_with fail
  refine bodyPost_ret (v := .agg #[.int .i64 W, .int .i64 H, .slice (some ⟨g, 0, none⟩) len len]) (by simp [results, Try.results12, hc, hz, go_sem]) rfl ⟨g, by rw [HL.out], ?_, ?_⟩
  · exact ((((((((Below.refl _ _).alloc (Nat.le_refl _) _).alloc (by simp) _).alloc (by simp; omega) _).trans (HB.out.mono (by simp; omega))).setCell (by simp; omega) _).setCell (by simp) _).setCell (by simp) _).setCell (by simp) _
  · rw [HL.out]
    exact ((((HO.out.setCell (by simp [blk]; omega) _).setCell (by simp [blk]; omega) _).setCell (by simp [blk]; omega) _).setCell (by simp [blk]; omega) _).mono (by simp; omega)
/-! ### sameFloat -/
theorem c_sameFloat (v n m : Nat) (w : World) (j : Nat) : Calls Try.prog 36 #[.float .f64 (pick .f64 v n), .float .f64 (pick .f64 v m)] (w.drewN j) (RetV (.bool true) w) := by
  have hs := self_ne .f64 v
  have ht := self_eq .f64 v
  cases h : isN .f64 v
  · rw [h] at hs ht
    cases h2 : (FloatKind.f64.format.order v 0 == some .eq)
    · go_enter Try.func36, Try.ntmps36
      go_wp2_with (first | (refine wpList_fop rfl _ _ _ _ _ rfl _ _ _ rfl rfl (by decide) _ ?_; intro _ _) | (refine upon_fop _ _ _ _ _ (by decide) ?_; intro _ _))
      go_ret
      exact ⟨_, rfl, rfl⟩
    · go_enter Try.func36, Try.ntmps36
      go_wp2_with (first | (refine wpList_fop rfl _ _ _ _ _ rfl _ _ _ rfl rfl (by decide) _ ?_; intro _ _) | (refine upon_fop _ _ _ _ _ (by decide) ?_; intro _ _))
      go_ret
      exact ⟨_, by simp, rfl⟩
  · rw [h] at hs ht
    go_enter Try.func36, Try.ntmps36
    go_wp2_with (first | (refine wpList_fop rfl _ _ _ _ _ rfl _ _ _ rfl rfl (by decide) _ ?_; intro _ _) | (refine upon_fop _ _ _ _ _ (by decide) ?_; intro _ _))
    go_ret
    exact ⟨_, rfl, rfl⟩

/-! ### eqFloat32S -/
theorem c_eqF (a b : Option Addr) (len c d : Nat) (zs : List Nat) (w : World) (j0 : Nat) (hr : IsRowF .f32 w a len c zs) (hs : IsRowF .f32 w b len d zs) : Calls Try.prog 22 #[.slice a len c, .slice b len d] (w.drewN j0) (RetV (.bool true) w) := by
  obtain ⟨h1, h2, h3, h4, h5⟩ := hr
  obtain ⟨g1, g2, g3, g4, g5⟩ := hs
  unfold maxLen at h3
  go_enter Try.func22, Try.ntmps22
  go_wp2
  go_loopw [5] (fun i wr => ∃ k m : Nat, k ≤ len ∧ i = .int .i64 k ∧ wr = w.drewN m) (fun i _ => len - (intOf i).toNat)
  case atStart => exact ⟨0, j0, Nat.zero_le _, rfl, rfl⟩
  case round =>
    obtain ⟨k, m, hk, rfl, rfl⟩ := hrel
    by_cases hlt : k < len
    · rcases h5 with h5 | ⟨x, off, rfl, hbl, hc⟩
      · omega
      rcases g5 with g5 | ⟨y, off2, rfl, gbl, gc⟩
      · omega
      have hcell : w.cell? ⟨x, off + k, none⟩ = some (.float .f32 (fat zs k)) := hc k hlt
      have gcell : w.cell? ⟨y, off2 + k, none⟩ = some (.float .f32 (fat zs k)) := gc k hlt
      clear hc h4 gc g4
      go_wp2
      refine wp_region_N (fun _ _ u => u = .bool true) (by kernel_rfl) (by kernel_rfl) ?_; (repeat (first | ((with_reducible show wpN _ _ _ _ _ (Oper.mk _ (Op.binOp _ _ _ _ _) _ _ _ none :: _) _); refine wpN_fop rfl _ _ _ _ _ rfl _ _ _ rfl rfl (by decide) ?_; intro _) | ((with_reducible show wpN _ _ _ _ _ (Oper.mk _ (Op.convert _ _ _) _ _ _ none :: _) _); refine wpN_cvU rfl 22 57 _ rfl (Option.isSome_iff_exists.2 ⟨_, Try.underlying22⟩) Try.underlying57 _ rfl ?_; intro _) | ((with_reducible show wpN _ _ _ _ _ (Oper.mk _ _ _ _ _ (some _) :: _) _); (with_reducible refine wpN_off ?_ ?_); focus rfl; (simp only [Act.put, List.setIfInBounds_toArray, List.set_cons_zero, List.set_cons_succ])) | ((with_reducible show wpN _ _ _ _ _ (Oper.mk _ _ _ _ _ (some _) :: _) _); ((with_reducible refine wpN_on ?_ (fun K hK => ?_)); (focus rfl); intro _; go_simp; first | (refine uponN_value (hK _ ?_)) | ((refine uponN_call (callN rfl (c_sameFloat _ _ _ _ _)) ?_; intro u hu; obtain rfl : u = _ := hu); refine hK _ ?_)); clear hK K) | (((with_reducible refine wpN_plain rfl (fun K hK => ?_)); intro _; go_simp; first | (refine uponN_value (hK _ ?_)) | ((refine uponN_call (callN rfl (c_sameFloat _ _ _ _ _)) ?_; intro u hu; obtain rfl : u = _ := hu); refine hK _ ?_)); clear hK K) | ((with_reducible refine wpN_step (fun K hK => ?_)); go_simp; first | (refine hK _ ?_) | (intro _; first | (refine uponN_value (hK _ ?_)) | ((refine uponN_call (callN rfl (c_sameFloat _ _ _ _ _)) ?_; intro u hu; obtain rfl : u = _ := hu); refine hK _ ?_)); clear hK K))); refine wpN_nil ?_; intro _
      go_wp2
      go_roundw
      case rel => exact ⟨k + 1, _, by omega, by go_num, rfl⟩
      case measure => simp [intOf]; omega
    · clear h5 h4 g4 g5
      go_wp2
      go_ret
      exact ⟨_, rfl, rfl⟩
/-! ### eqPicture -/
theorem c_eqF0 (a b : Option Addr) (len c d : Nat) (zs : List Nat) (w : World) (hr : IsRowF .f32 w a len c zs) (hs : IsRowF .f32 w b len d zs) : Calls Try.prog 22 #[.slice a len c, .slice b len d] w (RetV (.bool true) w) := by
  have h := c_eqF a b len c d zs w 0 hr hs
  rwa [w.drewN_zero] at h
theorem c_eqP (W H : Int) (a b : Option Addr) (len c d : Nat) (zs : List Nat) (w : World) (hr : IsRowF .f32 w a len c zs) (hs : IsRowF .f32 w b len d zs) : Calls Try.prog 7 #[.agg #[.int .i64 W, .int .i64 H, .slice a len c], .agg #[.int .i64 W, .int .i64 H, .slice b len d]] w (RetB (.bool true) w) := by
  have HR := Lib.hid hr
  have HS := Lib.hid hs
  clear hr hs
  go_enter Try.func7, Try.ntmps7
  go_wp2_with fail
  refine (c_eqF0 a b len c d zs _ ((HR.out.alloc _).alloc _) ((HS.out.alloc _).alloc _)).mono ?_
  rintro _ _ ⟨m, rfl, rfl⟩
  go_wp2_with fail
  go_ret
  exact ⟨rfl, below_drewN (((Below.refl _ _).alloc (Nat.le_refl _) _).alloc (by simp) _) _⟩
/-! ### markFloat32S -/
theorem c_markF {T : TypeId} (B : Nat) (a : Option Addr) (len cap k : Nat) (zs : List Nat) (w : World) (hr : Own T w B a len cap zs) (hk : k + len ≤ 4611686018427387904) : Calls Try.prog 23 #[.slice a len cap, .int .i64 k] w (fun e w' => e = .returned (.int .i64 ((k + len : Nat) : Int)) ∧ w.grownBy w' (blk a) ∧ Own T w' B a len cap (marks k len)) := by
  rcases hr.parts with ⟨rfl, rfl, rfl, rfl⟩ | ⟨g, cur, rfl, hb, hg, hl, hm, hs, ht⟩
  · clear hr
    go_enter Try.func23, Try.ntmps23
    go_wp2
    refine wp_loop_rounds 1 ?_; rw [rounds_succ]
    go_wp2
    go_ret
    exact ⟨rfl, ⟨rfl, rfl, rfl, Nat.le_refl _, fun _ _ _ => rfl⟩, Own.nil _ _ _⟩
  · have h0 : Marked w g T cap k 0 := ⟨cur, hg, hs, fun i hi => by omega⟩
    have H0 := Lib.hid h0
    unfold maxLen at hm
    clear hr hg hs ht h0
    go_enter Try.func23, Try.ntmps23
    go_wp2
    go_loopw [1, 5] (fun t i wr => ∃ j : Nat, j ≤ len ∧ i = .int .i64 j ∧ t = .int .i64 ((k + j : Nat) : Int) ∧ w.grownBy wr (some g) ∧ Marked wr g T cap k j) (fun _ i _ => len - (intOf i).toNat)
    case atStart => exact ⟨0, Nat.zero_le _, rfl, rfl, ⟨rfl, rfl, rfl, Nat.le_refl _, fun _ _ _ => rfl⟩, H0.out⟩
    case round =>
      obtain ⟨j, hj, rfl, rfl, hgr, hM⟩ := hrel
      by_cases hlt : j < len
      · obtain ⟨v, hcell, hfz⟩ := hM.cell (j := j) (by omega)
        have hM2 := Lib.hid (hM.step (by omega : j < cap))
        have hG2 := Lib.hid hgr
        clear hM hgr
        go_wp2
        go_roundw
        case rel => exact ⟨j + 1, by omega, by go_num, by go_num, ⟨hG2.out.os, hG2.out.tape, hG2.out.output, by have := hG2.out.size; simpa using this, fun k' h1 h2 => by rw [Below.heap_setCell _ _ _ _ (fun e => h2 (by rw [e]))]; exact hG2.out.block k' h1 h2⟩, hM2.out⟩
        case measure => simp [intOf]; omega
      · obtain rfl : j = len := by omega
        have hO := Lib.hid (hM.own (B := B) hb hl (by unfold maxLen; omega))
        have hG2 := Lib.hid hgr
        clear hM hgr
        go_wp2
        go_ret
        exact ⟨rfl, hG2.out, hO.out⟩
/-! ### heldFloat32S -/
theorem c_heldF (a : Option Addr) (len cap k : Nat) (w : World) (hr : IsRowF .f32 w a len cap (marks k len)) (hk : k + len ≤ 4611686018427387904) : Calls Try.prog 24 #[.slice a len cap, .int .i64 k] w (fun e w' => e = .returned (.int .i64 ((k + len : Nat) : Int)) ∧ w' = w) := by
  obtain ⟨h1, h2, h3, h4, h5⟩ := hr
  unfold maxLen at h3
  clear h1 h4
  go_enter Try.func24, Try.ntmps24
  go_wp2
  go_loop [1, 5] (fun t i => ∃ j : Nat, j ≤ len ∧ i = .int .i64 j ∧ t = .int .i64 ((k + j : Nat) : Int)) (fun _ i => len - (intOf i).toNat)
  case atStart => exact ⟨0, Nat.zero_le _, rfl, rfl⟩
  case round =>
    obtain ⟨j, hj, rfl, rfl⟩ := hrel
    by_cases hlt : j < len
    · rcases h5 with h5 | ⟨b, off, rfl, hbl, hc⟩
      · omega
      have hcell : w.cell? ⟨b, off + j, none⟩ = some (.float .f32 (markN k j)) := by rw [← marks_at k len j hlt]; exact hc j hlt
      have hne : (FloatKind.f32.format.order (markN k j) (markN k j) != some .eq) = false := by rw [self_ne]; exact markN_notN k j
      have hE : floatOfInt .f32 ((k : Int) + (j : Int)) = markN k j := by unfold markN; rw [Int.natCast_add]
      have hne2 : (FloatKind.f32.format.order (markN k j) (floatOfInt .f32 ((k : Int) + (j : Int))) != some .eq) = false := (congrArg (fun x => FloatKind.f32.format.order (markN k j) x != some .eq) hE).trans hne
      clear hE
      clear hc
      go_wp2
      go_round
      case rel => exact ⟨j + 1, by omega, by go_num, by go_num⟩
      case measure => simp [intOf]; omega
    · obtain rfl : j = len := by omega
      clear h5
      go_wp2
      go_ret
      exact ⟨rfl, rfl⟩
/-! ### markPicture -/
theorem c_markP (W H : Int) (B : Nat) (a : Option Addr) (len cap k : Nat) (zs : List Nat) (w : World) (hr : Own 22 w B a len cap zs) (hk : k + len ≤ 4611686018427387904) : Calls Try.prog 8 #[.agg #[.int .i64 W, .int .i64 H, .slice a len cap], .int .i64 k] w (fun e w' => e = .returned (.int .i64 ((k + len : Nat) : Int)) ∧ w.grownBy w' (blk a) ∧ Own 22 w' B a len cap (marks k len)) := by
  have HR := Lib.hid hr
  clear hr
  go_enter Try.func8, Try.ntmps8
  go_wp2_with fail
  refine (c_markF B a len cap k zs _ (HR.out.alloc _) hk).mono ?_
  rintro _ w1 ⟨rfl, hg, hO⟩
  have HG := Lib.hid hg
  have HO := Lib.hid hO
  clear hg hO
  go_wp2_with fail
  go_ret
  exact ⟨rfl, ⟨HG.out.os, HG.out.tape, HG.out.output, by have := HG.out.size; simp at this; omega, fun k' h1 h2 => by rw [HG.out.block k' (by simp; omega) h2]; exact Below.heap_alloc _ _ _ h1⟩, HO.out⟩
theorem c_heldP (W H : Int) (a : Option Addr) (len cap k : Nat) (w : World) (hr : IsRowF .f32 w a len cap (marks k len)) (hk : k + len ≤ 4611686018427387904) : Calls Try.prog 9 #[.agg #[.int .i64 W, .int .i64 H, .slice a len cap], .int .i64 k] w (RetB (.int .i64 ((k + len : Nat) : Int)) w) := by
  have HR := Lib.hid hr
  clear hr
  have h0 : 0 ≤ ((k + len : Nat) : Int) := by omega
  go_enter Try.func9, Try.ntmps9
  go_wp2_with fail
  refine (c_heldF a len cap k _ (HR.out.alloc _) hk).mono ?_
  rintro _ w1 ⟨rfl, rfl⟩
  go_wp2_with fail
  go_ret
  exact ⟨rfl, (Below.refl _ _).alloc (Nat.le_refl _) _⟩

/-! ### picDefs -/
def sideB (W H : Int) : Bool := decide (1 ≤ W) && decide (W ≤ 16) && (decide (1 ≤ H) && decide (H ≤ 16))
def finL (zs : List Nat) : Bool := zs.all (finB .f32)
def validB (W H : Int) (zs : List Nat) : Bool := sideB W H && decide ((zs.length : Int) = W * H) && finL zs
theorem sideB_true {W H : Int} (h : sideB W H = true) : (1 ≤ W ∧ W ≤ 16) ∧ 1 ≤ H ∧ H ≤ 16 := by simpa [sideB, and_assoc] using h
theorem side_mul {W H : Int} (h : sideB W H = true) : 1 ≤ W * H ∧ W * H ≤ 256 := by
  obtain ⟨⟨h1, h2⟩, h3, h4⟩ := sideB_true h
  have : W * H ≤ 16 * 16 := Int.mul_le_mul h2 h4 (by omega) (by omega)
  have h5 : 1 * 1 ≤ W * H := Int.mul_le_mul h1 h3 (by omega) (by omega)
  omega
theorem sideB_false {W H : Int} (h : sideB W H = false) : W < 1 ∨ 16 < W ∨ H < 1 ∨ 16 < H := by
  simp [sideB] at h; omega
theorem finL_snoc (zs : List Nat) (k : Nat) (hk : k < zs.length) : finL (zs.take (k + 1)) = (finL (zs.take k) && finB .f32 (fat zs k)) := by
  unfold finL fat
  rw [List.take_succ_eq_append_getElem hk, List.all_append, List.getD, List.getElem?_eq_getElem hk]; simp
theorem finL_of (zs : List Nat) (k : Nat) (hk : k < zs.length) (h : finB .f32 (fat zs k) = false) : finL zs = false := by
  unfold finL
  rw [List.all_eq_false]
  refine ⟨zs[k], List.getElem_mem hk, ?_⟩
  unfold fat at h
  rw [List.getD, List.getElem?_eq_getElem hk] at h
  simpa using h
theorem pick0 (k : FloatKind) (v : Nat) (hv : v < 2 ^ k.format.width) : ∃ n, v = pick k v n := pick_onto k v hv
/-! ### give -/
def giveP (W H : Int) (zs : List Nat) : PRes := if validB W H zs = true then ⟨W, H, zs, true⟩ else PRes.no
theorem near_valid {W H : Int} {zs' zs : List Nat} (h : near zs' zs) : validB W H zs' = validB W H zs := by
  unfold validB finL; rw [near_fin h, h.1]
theorem valid_fin {W H : Int} {zs : List Nat} (h : validB W H zs = true) : zs.all (finB .f32) = true := by
  simp [validB, finL] at h ⊢; exact h.2
theorem valid_len {W H : Int} {zs : List Nat} (h : validB W H zs = true) : (zs.length : Int) = W * H ∧ zs.length ≤ 256 ∧ 1 ≤ zs.length := by
  simp only [validB, Bool.and_eq_true, decide_eq_true_eq] at h
  obtain ⟨⟨h1, h2⟩, h3⟩ := h
  have := side_mul h1
  exact ⟨h2, by omega, by omega⟩
/-! ### anyDefs -/
theorem map_at {g : Nat → Nat} {zA : List Nat} {k : Nat} (hk : k < zA.length) : fat (zA.map g) k = g (fat zA k) := by simp [fat, hk]
theorem zip_at {g : Nat → Nat → Nat} {zA zB : List Nat} (h : zA.length = zB.length) {k : Nat} (hk : k < zA.length) : fat (List.zipWith g zA zB) k = g (fat zA k) (fat zB k) := by
  have hk2 : k < zB.length := by omega
  simp [fat, List.getElem?_zipWith, hk, hk2]
theorem zip_len {g : Nat → Nat → Nat} {zA zB : List Nat} (h : zA.length = zB.length) : (List.zipWith g zA zB).length = zA.length := by simp [h]
/-! ### sidesOf -/
theorem c_sidesOf (W H : Int) (s : Value) (w : World) : Calls Try.prog 41 #[.agg #[.int .i64 W, .int .i64 H, s]] w (RetB (.agg #[.int .i64 W, .int .i64 H]) w) := by
  go_enter Try.func41, Try.ntmps41
  go_wp2
  exact bodyPost_ret (v := .agg #[.int .i64 W, .int .i64 H]) (by simp [results, Try.results41, go_sem]) rfl ⟨rfl, ((Below.refl _ _).alloc (Nat.le_refl _) _).alloc (by simp) _⟩
/-! ### allowed -/
theorem c_allowed (W H : Int) (w : World) : Calls Try.prog 34 #[.agg #[.int .i64 W, .int .i64 H]] w (RetB (.bool (sideB W H)) w) := by
  unfold sideB
  by_cases h1 : 1 ≤ W
  · by_cases h2 : W ≤ 16
    · by_cases h3 : 1 ≤ H
      · by_cases h4 : H ≤ 16
        all_goals
          go_enter Try.func34, Try.ntmps34
          go_wp2
          go_ret
          exact ⟨by simp [*] <;> (intros; omega), (Below.refl _ _).alloc (Nat.le_refl _) _⟩
      · go_enter Try.func34, Try.ntmps34
        go_wp2
        go_ret
        exact ⟨by simp [*] <;> (intros; omega), (Below.refl _ _).alloc (Nat.le_refl _) _⟩
    · go_enter Try.func34, Try.ntmps34
      go_wp2
      go_ret
      exact ⟨by simp [*] <;> (intros; omega), (Below.refl _ _).alloc (Nat.le_refl _) _⟩
  · go_enter Try.func34, Try.ntmps34
    go_wp2
    go_ret
    exact ⟨by simp [*] <;> (intros; omega), (Below.refl _ _).alloc (Nat.le_refl _) _⟩
/-! ### IsNaN -/
theorem c_IsNaN (v n : Nat) (w : World) (j : Nat) : Calls Try.prog 42 #[.float .f64 (pick .f64 v n)] (w.drewN j) (RetV (.bool (isN .f64 v)) w) := by
  go_enter Try.func42, Try.ntmps42
  go_wp2
  go_ret
  exact ⟨_, rfl, rfl⟩
/-! ### f64bits -/
@[go_sem] theorem e_f64bits (b : Nat) (w : World) : (callFunc 46 #[.float .f64 b]).run Try.prog w = .ok (.value (.int .u64 b)) w := by kernel_rfl
/-! ### f64from -/
@[go_sem] theorem e_f64from (n : Int) (w : World) : (callFunc 45 #[.int .u64 n]).run Try.prog w = .ok (.value (.float .f64 n.toNat)) w := by kernel_rfl
/-! ### Abs -/
theorem c_Abs (v n : Nat) (w : World) (j : Nat) (hv : v < 2 ^ FloatKind.f64.format.width) : Calls Try.prog 44 #[.float .f64 (pick .f64 v n)] (w.drewN j) (RetF .f64 (fabs .f64 v) w) := by
  have hb := abs_bits hv n
  go_enter Try.func44, Try.ntmps44
  go_wp2
  go_ret
  exact ⟨_, _, rfl, rfl⟩
/-! ### IsInf0 -/
theorem c_IsInf0 (v n : Nat) (w : World) (j : Nat) (hv : v < 2 ^ FloatKind.f64.format.width) : Calls Try.prog 43 #[.float .f64 (pick .f64 v n), .int .i64 0] (w.drewN j) (RetV (.bool (FloatKind.f64.format.order (fabs .f64 v) 9218868437227405311 == some .gt)) w) := by
  go_enter Try.func43, Try.ntmps43
  go_wp2_with ((go_at_call 44; refine (c_Abs _ _ _ _ hv).mono ?_; rintro _ _ ⟨_, _, rfl, rfl⟩))
  go_ret
  exact ⟨_, rfl, rfl⟩
/-! ### isFinite64 -/
theorem c_isFinite64 (v n : Nat) (w : World) (j : Nat) (hv : v < 2 ^ FloatKind.f64.format.width) : Calls Try.prog 39 #[.float .f64 (pick .f64 v n)] (w.drewN j) (RetV (.bool (finB .f64 v)) w) := by
  go_enter Try.func39, Try.ntmps39
  go_wp2_with (first | (go_at_call 42; refine (c_IsNaN _ _ _ _).mono ?_; rintro _ _ ⟨_, rfl, rfl⟩) | (go_at_call 43; refine (c_IsInf0 _ _ _ _ hv).mono ?_; rintro _ _ ⟨_, rfl, rfl⟩))
  all_goals
    go_ret
    refine ⟨_, ?_, rfl⟩
    rw [← abs_gt_max]
    simp [*]
/-! ### iIsFinite -/
theorem c_iIsFinite (v n : Nat) (w : World) (j : Nat) : Calls Try.prog 33 #[.float .f32 (pick .f32 v n)] (w.drewN j) (RetV (.bool (finB .f32 v)) w) := by
  go_enter Try.func33, Try.ntmps33
  go_wp2_with (first | (refine wpList_cvU rfl 22 57 _ rfl (Option.isSome_iff_exists.2 ⟨_, Try.underlying22⟩) Try.underlying57 _ rfl _ ?_; intro _ _) | (go_at_call 39; refine (c_isFinite64 _ _ _ _ (cvU_lt _)).mono ?_; rintro _ _ ⟨_, rfl, rfl⟩))
  go_ret
  rw [← finB_cvU]
  exact ⟨_, rfl, rfl⟩
/-! ### areFinite -/
theorem c_areFinite (a : Option Addr) (len cap : Nat) (zs : List Nat) (w : World) (j0 : Nat) (hr : IsRowF .f32 w a len cap zs) : Calls Try.prog 18 #[.slice a len cap] (w.drewN j0) (RetV (.bool (finL zs)) w) := by
  obtain ⟨h1, h2, h3, h4, h5⟩ := hr
  unfold maxLen at h3
  have H1 := Lib.hid h1
  clear h1
  go_enter Try.func18, Try.ntmps18
  go_wp2
  go_loopw [4, 7] (fun _ i wr => ∃ k m : Nat, k ≤ len ∧ i = .int .i64 k ∧ wr = w.drewN m ∧ finL (zs.take k) = true) (fun _ i _ => len - (intOf i).toNat)
  case atStart => exact ⟨0, j0, Nat.zero_le _, rfl, rfl, rfl⟩
  case round =>
    obtain ⟨k, m, hk, rfl, rfl, hfin⟩ := hrel
    have HFin := Lib.hid hfin
    clear hfin
    by_cases hlt : k < len
    · rcases h5 with h5 | ⟨b, off, rfl, hbl, hc⟩
      · omega
      have hcell : w.cell? ⟨b, off + k, none⟩ = some (.float .f32 (fat zs k)) := hc k hlt
      obtain ⟨n, hn⟩ := pick0 .f32 (fat zs k) (lt_of_wf (h4 _ (by unfold fat; rw [List.getD, List.getElem?_eq_getElem (by have := H1.out; omega)]; exact List.getElem_mem _)))
      rw [hn] at hcell
      have HS := Lib.hid (finL_snoc zs k (by have := H1.out; omega))
      cases hf : finB .f32 (fat zs k)
      · have HO := Lib.hid (finL_of zs k (by have := H1.out; omega) hf)
        clear hc h4 hn
        go_wp2_with ((go_at_call 33; refine (c_iIsFinite _ _ _ _).mono ?_; rintro _ _ ⟨_, rfl, rfl⟩))
        go_ret
        exact ⟨_, by rw [HO.out]; rfl, rfl⟩
      · have HF := Lib.hid hf
        clear hc h4 hn
        go_wp2_with ((go_at_call 33; refine (c_iIsFinite _ _ _ _).mono ?_; rintro _ _ ⟨_, rfl, rfl⟩))
        go_roundw
        case rel => exact ⟨k + 1, _, by omega, by go_num, rfl, by rw [HS.out, HFin.out, HF.out]; rfl⟩
        case measure => simp [intOf]; omega
    · have e : zs.take k = zs := List.take_of_length_le (by have := H1.out; omega)
      have HE := Lib.hid e
      clear h5 h4 e
      go_wp2
      go_ret
      exact ⟨_, by have h := HFin.out; rw [HE.out] at h; rw [h]; rfl, rfl⟩
/-! ### iValid -/
theorem c_areFinite0 (a : Option Addr) (len cap : Nat) (zs : List Nat) (w : World) (hr : IsRowF .f32 w a len cap zs) : Calls Try.prog 18 #[.slice a len cap] w (RetV (.bool (finL zs)) w) := by
  have h := c_areFinite a len cap zs w 0 hr
  rwa [w.drewN_zero] at h
theorem c_iValid (W H : Int) (a : Option Addr) (len cap : Nat) (zs : List Nat) (w : World) (hr : IsRowF .f32 w a len cap zs) :
    Calls Try.prog 40 #[.agg #[.int .i64 W, .int .i64 H, .slice a len cap]] w (RetB (.bool (validB W H zs)) w) := by
  have H1 := Lib.hid hr.1
  have HR := Lib.hid hr
  clear hr
  have two : ∀ s : Bool, sideB W H = s → (s = true → ∀ t : Bool, ((len : Int) == W * H) = t → (Calls Try.prog 40 #[.agg #[.int .i64 W, .int .i64 H, .slice a len cap]] w (RetB (.bool (validB W H zs)) w))) → (s = false → Calls Try.prog 40 #[.agg #[.int .i64 W, .int .i64 H, .slice a len cap]] w (RetB (.bool (validB W H zs)) w)) → Calls Try.prog 40 #[.agg #[.int .i64 W, .int .i64 H, .slice a len cap]] w (RetB (.bool (validB W H zs)) w) := by
    intro s hs h1 h2
    cases s
    · exact h2 rfl
    · exact h1 rfl _ rfl
  refine two _ rfl ?_ ?_
  · intro hs t ht
    obtain ⟨m1, m2⟩ := side_mul hs
    have mw : IntKind.i64.wrap (W * H) = W * H := IntWalk.i64_in _ (by omega)
    clear two
    cases t
    · have e : validB W H zs = false := by simp at ht; simp [validB, hs, H1.out, ht]
      have E := Lib.hid e
      have HT := Lib.hid hs
      clear e
      go_enter Try.func40, Try.ntmps40
      go_wp2_with fail
      refine (c_sidesOf W H _ _).mono ?_
      rintro _ w1 ⟨rfl, b1⟩
      obtain ⟨p0, p1, p2⟩ := ((Var.new _ _ _).keep b1).three
      have z1 : w.heap.size < w1.heap.size := by have := b1.size; simp at this; omega
      have B1 := Lib.hid (((Below.refl w.heap.size w).alloc (Nat.le_refl _) _).trans (b1.mono (by simp)))
      clear b1
      go_wp2_with fail
      refine (c_allowed W H _).mono ?_
      rintro _ w2 ⟨rfl, b2⟩
      rw [HT.out]
      have q0 := (b2.cell (p := ⟨w.heap.size, 0, none⟩) z1).trans p0
      have q1 := (b2.cell (p := ⟨w.heap.size, 1, none⟩) z1).trans p1
      have q2 := (b2.cell (p := ⟨w.heap.size, 2, none⟩) z1).trans p2
      have B2 := Lib.hid (B1.out.trans (b2.mono (by omega)))
      clear p0 p1 p2 b2 hs
      go_wp2_with fail
      go_ret
      exact ⟨by rw [E.out]; rfl, B2.out⟩
    · have e : validB W H zs = finL zs := by simp at ht; simp [validB, hs, H1.out, ht]
      have E := Lib.hid e
      have HT := Lib.hid hs
      clear e
      go_enter Try.func40, Try.ntmps40
      go_wp2_with fail
      refine (c_sidesOf W H _ _).mono ?_
      rintro _ w1 ⟨rfl, b1⟩
      obtain ⟨p0, p1, p2⟩ := ((Var.new _ _ _).keep b1).three
      have z1 : w.heap.size < w1.heap.size := by have := b1.size; simp at this; omega
      have B1 := Lib.hid (((Below.refl w.heap.size w).alloc (Nat.le_refl _) _).trans (b1.mono (by simp)))
      clear b1
      go_wp2_with fail
      refine (c_allowed W H _).mono ?_
      rintro _ w2 ⟨rfl, b2⟩
      rw [HT.out]
      have q0 := (b2.cell (p := ⟨w.heap.size, 0, none⟩) z1).trans p0
      have q1 := (b2.cell (p := ⟨w.heap.size, 1, none⟩) z1).trans p1
      have q2 := (b2.cell (p := ⟨w.heap.size, 2, none⟩) z1).trans p2
      have B2 := Lib.hid (B1.out.trans (b2.mono (by omega)))
      clear p0 p1 p2 b2 hs
      go_wp2_with fail
      refine (c_areFinite0 a len cap zs _ (HR.out.below B2.out)).mono ?_
      rintro _ w3 ⟨m, rfl, rfl⟩
      rw [← E.out]
      go_wp2_with fail
      go_ret
      exact ⟨rfl, below_drewN B2.out _⟩
  · intro hs
    have e : validB W H zs = false := by simp [validB, hs]
    have E := Lib.hid e
    have HT := Lib.hid hs
    clear e two
    go_enter Try.func40, Try.ntmps40
    go_wp2_with fail
    refine (c_sidesOf W H _ _).mono ?_
    rintro _ w1 ⟨rfl, b1⟩
    have B1 := Lib.hid (((Below.refl w.heap.size w).alloc (Nat.le_refl _) _).trans (b1.mono (by simp)))
    have z1 : w.heap.size < w1.heap.size := by have := b1.size; simp at this; omega
    clear b1
    go_wp2_with fail
    refine (c_allowed W H _).mono ?_
    rintro _ w2 ⟨rfl, b2⟩
    rw [HT.out]
    have B2 := Lib.hid (B1.out.trans (b2.mono (by omega)))
    clear b2 hs
    go_wp2_with fail
    go_ret
    exact ⟨by rw [E.out]; rfl, B2.out⟩
/-! ### ifValid -/
theorem c_ifValid_yes (W H : Int) (a : Option Addr) (len cap : Nat) (zs : List Nat) (w : World) (hr : IsRowF .f32 w a len cap zs) (hv : validB W H zs = true) : Calls Try.prog 35 #[.agg #[.int .i64 W, .int .i64 H, .slice a len cap]] w (RetB (.tuple #[.agg #[.int .i64 W, .int .i64 H, .slice a len cap], .bool true]) w) := by
  have HR := Lib.hid hr
  have HV := Lib.hid hv
  clear hr hv
  go_enter Try.func35, Try.ntmps35
  go_wp2_with fail
  refine (c_iValid W H a len cap zs _ ((HR.out.alloc _).alloc _)).mono ?_
  rintro _ w1 ⟨rfl, b⟩
  rw [HV.out]
  have V1 := Lib.hid ((((Var.new' _ _ _ (w.heap.size) rfl).alloc _)).keep b)
  have V2 := Lib.hid ((Var.new' _ _ _ (w.heap.size + 1) (by simp)).keep b)
  have z1 : w.heap.size + 1 < w1.heap.size := by have := b.size; simp at this; omega
  have B1 := Lib.hid ((((Below.refl w.heap.size w).alloc (Nat.le_refl _) _).alloc (by simp) _).trans (b.mono (by simp; omega)))
  have Fr := Lib.hid ((Free.new' _ _ _ (w.heap.size + 1) (by simp)).below (by simp <;> omega) b)
  clear b
  obtain ⟨p0, p1, p2⟩ := V1.out.three
  obtain ⟨q0, q1, q2⟩ := V2.out.three
  have f0 := Fr.out 0
  have f1 := Fr.out 1
  have f2 := Fr.out 2
  go_wp2_with fail
  refine bodyPost_ret (v := .tuple #[.agg #[.int .i64 W, .int .i64 H, .slice a len cap], .bool true]) (by simp [results, Try.results35, q0, q1, q2, go_sem]) rfl ⟨rfl, ?_⟩
  exact ((B1.out.setCell (by simp <;> omega) _).setCell (by simp <;> omega) _).setCell (by simp <;> omega) _
theorem c_ifValid_no (W H : Int) (a : Option Addr) (len cap : Nat) (zs : List Nat) (w : World) (hr : IsRowF .f32 w a len cap zs) (hv : validB W H zs = false) : Calls Try.prog 35 #[.agg #[.int .i64 W, .int .i64 H, .slice a len cap]] w (RetB (.tuple #[.agg #[.int .i64 0, .int .i64 0, .slice none 0 0], .bool false]) w) := by
  have HR := Lib.hid hr
  have HV := Lib.hid hv
  clear hr hv
  go_enter Try.func35, Try.ntmps35
  go_wp2_with fail
  refine (c_iValid W H a len cap zs _ ((HR.out.alloc _).alloc _)).mono ?_
  rintro _ w1 ⟨rfl, b⟩
  rw [HV.out]
  have V2 := Lib.hid ((Var.new' _ _ _ (w.heap.size + 1) (by simp)).keep b)
  have z1 : w.heap.size + 1 < w1.heap.size := by have := b.size; simp at this; omega
  have B1 := Lib.hid ((((Below.refl w.heap.size w).alloc (Nat.le_refl _) _).alloc (by simp) _).trans (b.mono (by simp; omega)))
  have Fr := Lib.hid ((Free.new' _ _ _ (w.heap.size + 1) (by simp)).below (by simp <;> omega) b)
  clear b
  obtain ⟨q0, q1, q2⟩ := V2.out.three
  have f0 := Fr.out 0
  have f1 := Fr.out 1
  have f2 := Fr.out 2
  go_wp2_with fail
  refine bodyPost_ret (v := .tuple #[.agg #[.int .i64 0, .int .i64 0, .slice none 0 0], .bool false]) (by simp [results, Try.results35, q0, q1, q2, go_sem]) rfl ⟨rfl, ?_⟩
  exact ((B1.out.setCell (by simp <;> omega) _).setCell (by simp <;> omega) _).setCell (by simp <;> omega) _

/-! ### setSnoc -/
theorem set_snoc (zs : List Nat) (n k v : Nat) (hz : zs.length = k) (hk : k < n) : (fl .f32 zs ++ List.replicate (n - k) (Value.float .f32 0)).set k (.float .f32 v) = fl .f32 (zs ++ [v]) ++ List.replicate (n - (k + 1)) (Value.float .f32 0) := by
  obtain ⟨r, hr⟩ : ∃ r, n - k = r + 1 := ⟨n - k - 1, by omega⟩
  have hr2 : n - (k + 1) = r := by omega
  have hl : (fl .f32 zs).length = k := by simp [fl, hz]
  rw [hr, hr2, List.set_append_right _ _ (by omega), hl, Nat.sub_self, List.replicate_succ, List.set_cons_zero]
  simp [fl]
/-! ### l00In -/
theorem c_l00In (x lo hi : Int) (w : World) (j : Nat) : Calls Try.prog 31 #[.int .i64 x, .int .i64 lo, .int .i64 hi] (w.drewN j) (RetV (.bool (decide (lo ≤ x) && decide (x ≤ hi))) w) := by
  by_cases h1 : lo ≤ x
  · by_cases h2 : x ≤ hi
    · have d1 : decide (lo ≤ x) = true := decide_eq_true h1
      have d2 : decide (x ≤ hi) = true := decide_eq_true h2
      go_enter Try.func31, Try.ntmps31
      go_wp2
      go_ret
      exact ⟨_, by simp [*], rfl⟩
    · have d1 : decide (lo ≤ x) = true := decide_eq_true h1
      have d2 : decide (x ≤ hi) = false := decide_eq_false h2
      go_enter Try.func31, Try.ntmps31
      go_wp2
      go_ret
      exact ⟨_, by simp [*], rfl⟩
  · have d1 : decide (lo ≤ x) = false := decide_eq_false h1
    go_enter Try.func31, Try.ntmps31
    go_wp2
    go_ret
    exact ⟨_, by simp [*], rfl⟩
/-! ### l02Sides -/
theorem c_l02Sides (W H : Int) (w : World) (j : Nat) : Calls Try.prog 14 #[.int .i64 W, .int .i64 H] (w.drewN j) (RetV (.bool (sideB W H)) w) := by
  unfold sideB
  cases hw : (decide (1 ≤ W) && decide (W ≤ 16))
  all_goals
    have HW := Lib.hid hw
    go_enter Try.func14, Try.ntmps14
    go_wp2_with (go_at_call 31; refine (c_l00In _ _ _ _ _).mono ?_; rintro _ _ ⟨_, rfl, rfl⟩)
    go_ret
    exact ⟨_, by simp [HW.out], rfl⟩
/-! ### l01Finite -/
theorem c_l01Finite (v n : Nat) (w : World) (j : Nat) : Calls Try.prog 15 #[.float .f32 (pick .f32 v n)] (w.drewN j) (RetV (.bool (finB .f32 v)) w) := by
  go_enter Try.func15, Try.ntmps15
  go_wp2_with (first | (refine wpList_fop rfl _ _ _ _ _ rfl _ _ _ rfl rfl (by decide) _ ?_; intro _ _) | (refine upon_fop _ _ _ _ _ (by decide) ?_; intro _ _))
  go_ret
  rw [← sub_self_zero]
  exact ⟨_, rfl, rfl⟩
/-! ### l02Finite -/
theorem c_l02Finite (a : Option Addr) (len cap : Nat) (zs : List Nat) (w : World) (j0 : Nat) (hr : IsRowF .f32 w a len cap zs) : Calls Try.prog 38 #[.slice a len cap] (w.drewN j0) (RetV (.bool (finL zs)) w) := by
  obtain ⟨h1, h2, h3, h4, h5⟩ := hr
  unfold maxLen at h3
  have H1 := Lib.hid h1
  clear h1
  go_enter Try.func38, Try.ntmps38
  go_wp2
  go_loopw [3] (fun i wr => ∃ k m : Nat, k ≤ len ∧ i = .int .i64 k ∧ wr = w.drewN m ∧ finL (zs.take k) = true) (fun i _ => len - (intOf i).toNat)
  case atStart => exact ⟨0, j0, Nat.zero_le _, rfl, rfl, rfl⟩
  case round =>
    obtain ⟨k, m, hk, rfl, rfl, hfin⟩ := hrel
    have HFin := Lib.hid hfin
    clear hfin
    by_cases hlt : k < len
    · rcases h5 with h5 | ⟨b, off, rfl, hbl, hc⟩
      · omega
      have hcell : w.cell? ⟨b, off + k, none⟩ = some (.float .f32 (fat zs k)) := hc k hlt
      obtain ⟨n, hn⟩ := pick0 .f32 (fat zs k) (lt_of_wf (h4 _ (by unfold fat; rw [List.getD, List.getElem?_eq_getElem (by have := H1.out; omega)]; exact List.getElem_mem _)))
      rw [hn] at hcell
      have HN := Lib.hid hn
      have HS := Lib.hid (finL_snoc zs k (by have := H1.out; omega))
      cases hf : finB .f32 (fat zs k)
      · have HO := Lib.hid (finL_of zs k (by have := H1.out; omega) hf)
        clear hc h4 hn
        go_wp2_with ((go_at_call 15; refine (c_l01Finite _ _ _ _).mono ?_; rintro _ _ ⟨_, rfl, rfl⟩))
        go_ret
        exact ⟨_, by rw [HO.out]; rfl, rfl⟩
      · have HF := Lib.hid hf
        clear hc h4 hn
        go_wp2_with ((go_at_call 15; refine (c_l01Finite _ _ _ _).mono ?_; rintro _ _ ⟨_, rfl, rfl⟩))
        go_roundw
        case rel => exact ⟨k + 1, _, by omega, by go_num, rfl, by rw [HS.out, HFin.out, HF.out]; rfl⟩
        case measure => simp [intOf]; omega
    · have e : zs.take k = zs := List.take_of_length_le (by have := H1.out; omega)
      have HE := Lib.hid e
      clear h5 h4 e
      go_wp2
      go_ret
      exact ⟨_, by have h := HFin.out; rw [HE.out] at h; rw [h]; rfl, rfl⟩
/-! ### l02Is -/
theorem c_l02Is (W H : Int) (b : Nat) (a : Option Addr) (len cap : Nat) (zs : List Nat) (w : World) (j0 : Nat) (hv : Var w b #[.int .i64 W, .int .i64 H, .slice a len cap]) (hr : IsRowF .f32 w a len cap zs) :
    Calls Try.prog 32 #[.pointer (some ⟨b, 0, none⟩)] (w.drewN j0) (RetV (.bool (validB W H zs)) w) := by
  obtain ⟨p0, p1, p2⟩ := hv.three
  have H1 := Lib.hid hr.1
  have HR := Lib.hid hr
  clear hr hv
  cases hs : sideB W H
  · have e : validB W H zs = false := by simp [validB, hs]
    have E := Lib.hid e
    have C1 := Lib.hid (fun n => (by have h := c_l02Sides W H w n; rwa [hs] at h : Calls Try.prog 14 #[.int .i64 W, .int .i64 H] (w.drewN n) (RetV (.bool false) w)))
    clear e hs
    go_enter Try.func32, Try.ntmps32
    go_wp2
    refine wp_region_N (fun f _ u => (f = 14 → u = .bool false)) (by kernel_rfl) (by kernel_rfl) ?_; (repeat (first | ((with_reducible show wpN _ _ _ _ _ (Oper.mk _ (Op.binOp _ _ _ _ _) _ _ _ none :: _) _); refine wpN_fop rfl _ _ _ _ _ rfl _ _ _ rfl rfl (by decide) ?_; intro _) | ((with_reducible show wpN _ _ _ _ _ (Oper.mk _ (Op.convert _ _ _) _ _ _ none :: _) _); refine wpN_cvU rfl 22 57 _ rfl (Option.isSome_iff_exists.2 ⟨_, Try.underlying22⟩) Try.underlying57 _ rfl ?_; intro _) | ((with_reducible show wpN _ _ _ _ _ (Oper.mk _ _ _ _ _ (some _) :: _) _); (with_reducible refine wpN_off ?_ ?_); focus rfl; (simp only [Act.put, List.setIfInBounds_toArray, List.set_cons_zero, List.set_cons_succ])) | ((with_reducible show wpN _ _ _ _ _ (Oper.mk _ _ _ _ _ (some _) :: _) _); ((with_reducible refine wpN_on ?_ (fun K hK => ?_)); (focus rfl); intro _; go_simp; first | (refine uponN_value (hK _ ?_)) | ((refine uponN_call (callN (v := .bool false) (fun _ => rfl) (C1.out _)) ?_; intro u hu; obtain rfl : u = _ := hu rfl; clear hu); refine hK _ ?_)); clear hK K) | (((with_reducible refine wpN_plain rfl (fun K hK => ?_)); intro _; go_simp; first | (refine uponN_value (hK _ ?_)) | ((refine uponN_call (callN (v := .bool false) (fun _ => rfl) (C1.out _)) ?_; intro u hu; obtain rfl : u = _ := hu rfl; clear hu); refine hK _ ?_)); clear hK K) | ((with_reducible refine wpN_step (fun K hK => ?_)); go_simp; first | (refine hK _ ?_) | (intro _; first | (refine uponN_value (hK _ ?_)) | ((refine uponN_call (callN (v := .bool false) (fun _ => rfl) (C1.out _)) ?_; intro u hu; obtain rfl : u = _ := hu rfl; clear hu); refine hK _ ?_)); clear hK K))); refine wpN_nil ?_; intro _
    go_wp2
    go_ret
    exact ⟨_, by rw [E.out]; rfl, rfl⟩
  · obtain ⟨m1, m2⟩ := side_mul hs
    have mw : IntKind.i64.wrap (W * H) = W * H := IntWalk.i64_in _ (by omega)
    have C1 := Lib.hid (fun n => (by have h := c_l02Sides W H w n; rwa [hs] at h : Calls Try.prog 14 #[.int .i64 W, .int .i64 H] (w.drewN n) (RetV (.bool true) w)))
    have C2 := Lib.hid (fun n => c_l02Finite a len cap zs w n HR.out)
    by_cases hl : (len : Int) = W * H
    · have hd : ((len : Int) == W * H) = true := by simpa using hl
      have e : validB W H zs = finL zs := by simp [validB, hs, H1.out, hl]
      have E := Lib.hid e
      have HL := Lib.hid hl
      clear e hs hl
      go_enter Try.func32, Try.ntmps32
      go_wp2
      refine wp_region_N (fun f _ u => (f = 14 → u = .bool true) ∧ (f = 38 → u = .bool (finL zs))) (by kernel_rfl) (by kernel_rfl) ?_; (repeat (first | ((with_reducible show wpN _ _ _ _ _ (Oper.mk _ (Op.binOp _ _ _ _ _) _ _ _ none :: _) _); refine wpN_fop rfl _ _ _ _ _ rfl _ _ _ rfl rfl (by decide) ?_; intro _) | ((with_reducible show wpN _ _ _ _ _ (Oper.mk _ (Op.convert _ _ _) _ _ _ none :: _) _); refine wpN_cvU rfl 22 57 _ rfl (Option.isSome_iff_exists.2 ⟨_, Try.underlying22⟩) Try.underlying57 _ rfl ?_; intro _) | ((with_reducible show wpN _ _ _ _ _ (Oper.mk _ _ _ _ _ (some _) :: _) _); (with_reducible refine wpN_off ?_ ?_); focus rfl; (simp only [Act.put, List.setIfInBounds_toArray, List.set_cons_zero, List.set_cons_succ])) | ((with_reducible show wpN _ _ _ _ _ (Oper.mk _ _ _ _ _ (some _) :: _) _); ((with_reducible refine wpN_on ?_ (fun K hK => ?_)); (focus rfl); intro _; go_simp; first | (refine uponN_value (hK _ ?_)) | ((first | (refine uponN_call (callN (v := .bool true) ⟨fun _ => rfl, fun h => absurd h (by decide)⟩ (C1.out _)) ?_; intro u hu; obtain rfl : u = _ := hu.1 rfl; clear hu) | (refine uponN_call (callN (v := .bool (finL zs)) ⟨fun h => absurd h (by decide), fun _ => rfl⟩ (C2.out _)) ?_; intro u hu; obtain rfl : u = _ := hu.2 rfl; clear hu)); refine hK _ ?_)); clear hK K) | (((with_reducible refine wpN_plain rfl (fun K hK => ?_)); intro _; go_simp; first | (refine uponN_value (hK _ ?_)) | ((first | (refine uponN_call (callN (v := .bool true) ⟨fun _ => rfl, fun h => absurd h (by decide)⟩ (C1.out _)) ?_; intro u hu; obtain rfl : u = _ := hu.1 rfl; clear hu) | (refine uponN_call (callN (v := .bool (finL zs)) ⟨fun h => absurd h (by decide), fun _ => rfl⟩ (C2.out _)) ?_; intro u hu; obtain rfl : u = _ := hu.2 rfl; clear hu)); refine hK _ ?_)); clear hK K) | ((with_reducible refine wpN_step (fun K hK => ?_)); go_simp; first | (refine hK _ ?_) | (intro _; first | (refine uponN_value (hK _ ?_)) | ((first | (refine uponN_call (callN (v := .bool true) ⟨fun _ => rfl, fun h => absurd h (by decide)⟩ (C1.out _)) ?_; intro u hu; obtain rfl : u = _ := hu.1 rfl; clear hu) | (refine uponN_call (callN (v := .bool (finL zs)) ⟨fun h => absurd h (by decide), fun _ => rfl⟩ (C2.out _)) ?_; intro u hu; obtain rfl : u = _ := hu.2 rfl; clear hu)); refine hK _ ?_)); clear hK K))); refine wpN_nil ?_; intro _
      go_wp2
      go_ret
      exact ⟨_, by rw [E.out]; rfl, rfl⟩
    · have hd : ((len : Int) == W * H) = false := by simpa using hl
      have e : validB W H zs = false := by simp [validB, hs, H1.out, hl]
      have E := Lib.hid e
      clear e hs hl
      go_enter Try.func32, Try.ntmps32
      go_wp2
      refine wp_region_N (fun f _ u => (f = 14 → u = .bool true)) (by kernel_rfl) (by kernel_rfl) ?_; (repeat (first | ((with_reducible show wpN _ _ _ _ _ (Oper.mk _ (Op.binOp _ _ _ _ _) _ _ _ none :: _) _); refine wpN_fop rfl _ _ _ _ _ rfl _ _ _ rfl rfl (by decide) ?_; intro _) | ((with_reducible show wpN _ _ _ _ _ (Oper.mk _ (Op.convert _ _ _) _ _ _ none :: _) _); refine wpN_cvU rfl 22 57 _ rfl (Option.isSome_iff_exists.2 ⟨_, Try.underlying22⟩) Try.underlying57 _ rfl ?_; intro _) | ((with_reducible show wpN _ _ _ _ _ (Oper.mk _ _ _ _ _ (some _) :: _) _); (with_reducible refine wpN_off ?_ ?_); focus rfl; (simp only [Act.put, List.setIfInBounds_toArray, List.set_cons_zero, List.set_cons_succ])) | ((with_reducible show wpN _ _ _ _ _ (Oper.mk _ _ _ _ _ (some _) :: _) _); ((with_reducible refine wpN_on ?_ (fun K hK => ?_)); (focus rfl); intro _; go_simp; first | (refine uponN_value (hK _ ?_)) | ((refine uponN_call (callN (v := .bool true) (fun _ => rfl) (C1.out _)) ?_; intro u hu; obtain rfl : u = _ := hu rfl; clear hu); refine hK _ ?_)); clear hK K) | (((with_reducible refine wpN_plain rfl (fun K hK => ?_)); intro _; go_simp; first | (refine uponN_value (hK _ ?_)) | ((refine uponN_call (callN (v := .bool true) (fun _ => rfl) (C1.out _)) ?_; intro u hu; obtain rfl : u = _ := hu rfl; clear hu); refine hK _ ?_)); clear hK K) | ((with_reducible refine wpN_step (fun K hK => ?_)); go_simp; first | (refine hK _ ?_) | (intro _; first | (refine uponN_value (hK _ ?_)) | ((refine uponN_call (callN (v := .bool true) (fun _ => rfl) (C1.out _)) ?_; intro u hu; obtain rfl : u = _ := hu rfl; clear hu); refine hK _ ?_)); clear hK K))); refine wpN_nil ?_; intro _
      go_wp2
      go_ret
      exact ⟨_, by rw [E.out]; rfl, rfl⟩
/-! ### l02Both -/
def bothB (WA HA : Int) (zA : List Nat) (WB HB : Int) (zB : List Nat) : Bool := validB WA HA zA && validB WB HB zB && WA == WB && HA == HB
theorem c_l02Both (WA HA : Int) (zA : List Nat) (aA : Option Addr) (cA : Nat) (WB HB : Int) (zB : List Nat) (aB : Option Addr) (cB : Nat) (x y : Nat) (w : World) (j : Nat) (vx : Var w x #[.int .i64 WA, .int .i64 HA, .slice aA zA.length cA]) (vy : Var w y #[.int .i64 WB, .int .i64 HB, .slice aB zB.length cB])
    (rA : IsRowF .f32 w aA zA.length cA zA) (rB : IsRowF .f32 w aB zB.length cB zB) (hxy : x ≠ y) : Calls Try.prog 26 #[.pointer (some ⟨x, 0, none⟩), .pointer (some ⟨y, 0, none⟩)] (w.drewN j) (RetV (.bool (bothB WA HA zA WB HB zB)) w) := by
  obtain ⟨p0, p1, p2⟩ := vx.three
  obtain ⟨q0, q1, q2⟩ := vy.three
  have CA := Lib.hid (fun n => c_l02Is WA HA x aA zA.length cA zA w n vx rA)
  have CB := Lib.hid (fun n => c_l02Is WB HB y aB zB.length cB zB w n vy rB)
  clear vx vy rA rB
  unfold bothB
  have hx : ∀ u, (#[Value.pointer (some ⟨x, 0, none⟩)] : Array Value) = #[.pointer (some ⟨y, 0, none⟩)] → u := fun u h => absurd h (by simp <;> omega)
  have hy : ∀ u, (#[Value.pointer (some ⟨y, 0, none⟩)] : Array Value) = #[.pointer (some ⟨x, 0, none⟩)] → u := fun u h => absurd h (by simp <;> omega)
  have HX := Lib.hid hx
  have HY := Lib.hid hy
  clear hx hy
  cases hA : validB WA HA zA
  · have C1 := Lib.hid (fun n => (by have h := CA.out n; rwa [hA] at h : Calls Try.prog 32 #[.pointer (some ⟨x, 0, none⟩)] (w.drewN n) (RetV (.bool false) w)))
    clear CA CB hA
    go_enter Try.func26, Try.ntmps26
    go_wp2
    refine wp_region_N (fun f args u => args = #[.pointer (some ⟨x, 0, none⟩)] → u = .bool false) (by kernel_rfl) (by kernel_rfl) ?_; (repeat (first | ((with_reducible show wpN _ _ _ _ _ (Oper.mk _ (Op.binOp _ _ _ _ _) _ _ _ none :: _) _); refine wpN_fop rfl _ _ _ _ _ rfl _ _ _ rfl rfl (by decide) ?_; intro _) | ((with_reducible show wpN _ _ _ _ _ (Oper.mk _ (Op.convert _ _ _) _ _ _ none :: _) _); refine wpN_cvU rfl 22 57 _ rfl (Option.isSome_iff_exists.2 ⟨_, Try.underlying22⟩) Try.underlying57 _ rfl ?_; intro _) | ((with_reducible show wpN _ _ _ _ _ (Oper.mk _ _ _ _ _ (some _) :: _) _); (with_reducible refine wpN_off ?_ ?_); focus rfl; (simp only [Act.put, List.setIfInBounds_toArray, List.set_cons_zero, List.set_cons_succ])) | ((with_reducible show wpN _ _ _ _ _ (Oper.mk _ _ _ _ _ (some _) :: _) _); ((with_reducible refine wpN_on ?_ (fun K hK => ?_)); (focus rfl); intro _; go_simp; first | (refine uponN_value (hK _ ?_)) | ((refine uponN_call (callN (v := .bool false) (fun _ => rfl) (C1.out _)) ?_; intro u hu; obtain rfl : u = _ := hu rfl; clear hu); refine hK _ ?_)); clear hK K) | (((with_reducible refine wpN_plain rfl (fun K hK => ?_)); intro _; go_simp; first | (refine uponN_value (hK _ ?_)) | ((refine uponN_call (callN (v := .bool false) (fun _ => rfl) (C1.out _)) ?_; intro u hu; obtain rfl : u = _ := hu rfl; clear hu); refine hK _ ?_)); clear hK K) | ((with_reducible refine wpN_step (fun K hK => ?_)); go_simp; first | (refine hK _ ?_) | (intro _; first | (refine uponN_value (hK _ ?_)) | ((refine uponN_call (callN (v := .bool false) (fun _ => rfl) (C1.out _)) ?_; intro u hu; obtain rfl : u = _ := hu rfl; clear hu); refine hK _ ?_)); clear hK K))); refine wpN_nil ?_; intro _
    go_wp2
    go_ret
    exact ⟨_, by simp, rfl⟩
  · have C1 := Lib.hid (fun n => (by have h := CA.out n; rwa [hA] at h : Calls Try.prog 32 #[.pointer (some ⟨x, 0, none⟩)] (w.drewN n) (RetV (.bool true) w)))
    cases hB : validB WB HB zB
    · have C2 := Lib.hid (fun n => (by have h := CB.out n; rwa [hB] at h : Calls Try.prog 32 #[.pointer (some ⟨y, 0, none⟩)] (w.drewN n) (RetV (.bool false) w)))
      clear CA CB hA hB
      go_enter Try.func26, Try.ntmps26
      go_wp2
      refine wp_region_N (fun f args u => (args = #[.pointer (some ⟨x, 0, none⟩)] → u = .bool true) ∧ (args = #[.pointer (some ⟨y, 0, none⟩)] → u = .bool false)) (by kernel_rfl) (by kernel_rfl) ?_; (repeat (first | ((with_reducible show wpN _ _ _ _ _ (Oper.mk _ (Op.binOp _ _ _ _ _) _ _ _ none :: _) _); refine wpN_fop rfl _ _ _ _ _ rfl _ _ _ rfl rfl (by decide) ?_; intro _) | ((with_reducible show wpN _ _ _ _ _ (Oper.mk _ (Op.convert _ _ _) _ _ _ none :: _) _); refine wpN_cvU rfl 22 57 _ rfl (Option.isSome_iff_exists.2 ⟨_, Try.underlying22⟩) Try.underlying57 _ rfl ?_; intro _) | ((with_reducible show wpN _ _ _ _ _ (Oper.mk _ _ _ _ _ (some _) :: _) _); (with_reducible refine wpN_off ?_ ?_); focus rfl; (simp only [Act.put, List.setIfInBounds_toArray, List.set_cons_zero, List.set_cons_succ])) | ((with_reducible show wpN _ _ _ _ _ (Oper.mk _ _ _ _ _ (some _) :: _) _); ((with_reducible refine wpN_on ?_ (fun K hK => ?_)); (focus rfl); intro _; go_simp; first | (refine uponN_value (hK _ ?_)) | ((first | ((with_reducible show uponN _ _ _ _ (Result.ok (Next.enter _ #[Value.pointer (some ⟨x, 0, none⟩)]) _)); refine uponN_call (callN (v := .bool true) ⟨fun _ => rfl, HX.out _⟩ (C1.out _)) ?_; intro u hu; obtain rfl : u = _ := hu.1 rfl; clear hu) | ((with_reducible show uponN _ _ _ _ (Result.ok (Next.enter _ #[Value.pointer (some ⟨y, 0, none⟩)]) _)); refine uponN_call (callN (v := .bool false) ⟨HY.out _, fun _ => rfl⟩ (C2.out _)) ?_; intro u hu; obtain rfl : u = _ := hu.2 rfl; clear hu)); refine hK _ ?_)); clear hK K) | (((with_reducible refine wpN_plain rfl (fun K hK => ?_)); intro _; go_simp; first | (refine uponN_value (hK _ ?_)) | ((first | ((with_reducible show uponN _ _ _ _ (Result.ok (Next.enter _ #[Value.pointer (some ⟨x, 0, none⟩)]) _)); refine uponN_call (callN (v := .bool true) ⟨fun _ => rfl, HX.out _⟩ (C1.out _)) ?_; intro u hu; obtain rfl : u = _ := hu.1 rfl; clear hu) | ((with_reducible show uponN _ _ _ _ (Result.ok (Next.enter _ #[Value.pointer (some ⟨y, 0, none⟩)]) _)); refine uponN_call (callN (v := .bool false) ⟨HY.out _, fun _ => rfl⟩ (C2.out _)) ?_; intro u hu; obtain rfl : u = _ := hu.2 rfl; clear hu)); refine hK _ ?_)); clear hK K) | ((with_reducible refine wpN_step (fun K hK => ?_)); go_simp; first | (refine hK _ ?_) | (intro _; first | (refine uponN_value (hK _ ?_)) | ((first | ((with_reducible show uponN _ _ _ _ (Result.ok (Next.enter _ #[Value.pointer (some ⟨x, 0, none⟩)]) _)); refine uponN_call (callN (v := .bool true) ⟨fun _ => rfl, HX.out _⟩ (C1.out _)) ?_; intro u hu; obtain rfl : u = _ := hu.1 rfl; clear hu) | ((with_reducible show uponN _ _ _ _ (Result.ok (Next.enter _ #[Value.pointer (some ⟨y, 0, none⟩)]) _)); refine uponN_call (callN (v := .bool false) ⟨HY.out _, fun _ => rfl⟩ (C2.out _)) ?_; intro u hu; obtain rfl : u = _ := hu.2 rfl; clear hu)); refine hK _ ?_)); clear hK K))); refine wpN_nil ?_; intro _
      go_wp2
      go_ret
      exact ⟨_, by simp, rfl⟩
    · have C2 := Lib.hid (fun n => (by have h := CB.out n; rwa [hB] at h : Calls Try.prog 32 #[.pointer (some ⟨y, 0, none⟩)] (w.drewN n) (RetV (.bool true) w)))
      clear CA CB hA hB
      cases hW : (WA == WB) <;> cases hH : (HA == HB)
      all_goals
        go_enter Try.func26, Try.ntmps26
        go_wp2
        refine wp_region_N (fun f args u => (args = #[.pointer (some ⟨x, 0, none⟩)] → u = .bool true) ∧ (args = #[.pointer (some ⟨y, 0, none⟩)] → u = .bool true)) (by kernel_rfl) (by kernel_rfl) ?_; (repeat (first | ((with_reducible show wpN _ _ _ _ _ (Oper.mk _ (Op.binOp _ _ _ _ _) _ _ _ none :: _) _); refine wpN_fop rfl _ _ _ _ _ rfl _ _ _ rfl rfl (by decide) ?_; intro _) | ((with_reducible show wpN _ _ _ _ _ (Oper.mk _ (Op.convert _ _ _) _ _ _ none :: _) _); refine wpN_cvU rfl 22 57 _ rfl (Option.isSome_iff_exists.2 ⟨_, Try.underlying22⟩) Try.underlying57 _ rfl ?_; intro _) | ((with_reducible show wpN _ _ _ _ _ (Oper.mk _ _ _ _ _ (some _) :: _) _); (with_reducible refine wpN_off ?_ ?_); focus rfl; (simp only [Act.put, List.setIfInBounds_toArray, List.set_cons_zero, List.set_cons_succ])) | ((with_reducible show wpN _ _ _ _ _ (Oper.mk _ _ _ _ _ (some _) :: _) _); ((with_reducible refine wpN_on ?_ (fun K hK => ?_)); (focus rfl); intro _; go_simp; first | (refine uponN_value (hK _ ?_)) | ((first | ((with_reducible show uponN _ _ _ _ (Result.ok (Next.enter _ #[Value.pointer (some ⟨x, 0, none⟩)]) _)); refine uponN_call (callN (v := .bool true) ⟨fun _ => rfl, HX.out _⟩ (C1.out _)) ?_; intro u hu; obtain rfl : u = _ := hu.1 rfl; clear hu) | ((with_reducible show uponN _ _ _ _ (Result.ok (Next.enter _ #[Value.pointer (some ⟨y, 0, none⟩)]) _)); refine uponN_call (callN (v := .bool true) ⟨HY.out _, fun _ => rfl⟩ (C2.out _)) ?_; intro u hu; obtain rfl : u = _ := hu.2 rfl; clear hu)); refine hK _ ?_)); clear hK K) | (((with_reducible refine wpN_plain rfl (fun K hK => ?_)); intro _; go_simp; first | (refine uponN_value (hK _ ?_)) | ((first | ((with_reducible show uponN _ _ _ _ (Result.ok (Next.enter _ #[Value.pointer (some ⟨x, 0, none⟩)]) _)); refine uponN_call (callN (v := .bool true) ⟨fun _ => rfl, HX.out _⟩ (C1.out _)) ?_; intro u hu; obtain rfl : u = _ := hu.1 rfl; clear hu) | ((with_reducible show uponN _ _ _ _ (Result.ok (Next.enter _ #[Value.pointer (some ⟨y, 0, none⟩)]) _)); refine uponN_call (callN (v := .bool true) ⟨HY.out _, fun _ => rfl⟩ (C2.out _)) ?_; intro u hu; obtain rfl : u = _ := hu.2 rfl; clear hu)); refine hK _ ?_)); clear hK K) | ((with_reducible refine wpN_step (fun K hK => ?_)); go_simp; first | (refine hK _ ?_) | (intro _; first | (refine uponN_value (hK _ ?_)) | ((first | ((with_reducible show uponN _ _ _ _ (Result.ok (Next.enter _ #[Value.pointer (some ⟨x, 0, none⟩)]) _)); refine uponN_call (callN (v := .bool true) ⟨fun _ => rfl, HX.out _⟩ (C1.out _)) ?_; intro u hu; obtain rfl : u = _ := hu.1 rfl; clear hu) | ((with_reducible show uponN _ _ _ _ (Result.ok (Next.enter _ #[Value.pointer (some ⟨y, 0, none⟩)]) _)); refine uponN_call (callN (v := .bool true) ⟨HY.out _, fun _ => rfl⟩ (C2.out _)) ?_; intro u hu; obtain rfl : u = _ := hu.2 rfl; clear hu)); refine hK _ ?_)); clear hK K))); refine wpN_nil ?_; intro _
        go_wp2
        go_ret
        exact ⟨_, by simp, rfl⟩
/-! ### bothDefs -/
theorem bothB_spec {WA HA : Int} {zA : List Nat} {WB HB : Int} {zB : List Nat} (h : bothB WA HA zA WB HB zB = true) : validB WA HA zA = true ∧ validB WB HB zB = true ∧ WA = WB ∧ HA = HB ∧ zA.length = zB.length := by
  simp only [bothB, Bool.and_eq_true, beq_iff_eq] at h
  obtain ⟨⟨⟨h1, h2⟩, rfl⟩, rfl⟩ := h
  have a := (valid_len h1).1
  have b := (valid_len h2).1
  exact ⟨h1, h2, rfl, rfl, by omega⟩
/-! ### areAlike -/
theorem c_areAlike (WA HA : Int) (zA : List Nat) (aA : Option Addr) (cA : Nat) (WB HB : Int) (zB : List Nat) (aB : Option Addr) (cB : Nat) (w : World) (rA : IsRowF .f32 w aA zA.length cA zA) (rB : IsRowF .f32 w aB zB.length cB zB) : Calls Try.prog 37 #[.agg #[.int .i64 WA, .int .i64 HA, .slice aA zA.length cA], .agg #[.int .i64 WB, .int .i64 HB, .slice aB zB.length cB]] w (RetB (.bool (bothB WA HA zA WB HB zB)) w) := by
  have RA := Lib.hid rA
  have RB := Lib.hid rB
  clear rA rB
  generalize hw2 : (w.alloc (Obj.cells #[.int .i64 WA, .int .i64 HA, .slice aA zA.length cA] 25)).alloc (Obj.cells #[.int .i64 WB, .int .i64 HB, .slice aB zB.length cB] 25) = w2
  have B0 : Below w.heap.size w w2 := by subst hw2; exact ((Below.refl _ _).alloc (Nat.le_refl _) _).alloc (by simp) _
  have VA' : Var w2 w.heap.size #[.int .i64 WA, .int .i64 HA, .slice aA zA.length cA] := by subst hw2; exact (Var.new _ _ _).alloc _
  have VB' : Var w2 (w.heap.size + 1) #[.int .i64 WB, .int .i64 HB, .slice aB zB.length cB] := by subst hw2; exact Var.new' _ _ _ _ (by simp)
  have BW := Lib.hid B0
  have HW2 := Lib.hid hw2
  have SZ : w2.heap.size = w.heap.size + 1 + 1 := by subst hw2; simp
  have KS := Lib.hid (fun (w' : World) (hE : Below w2.heap.size w2 w') => (⟨(VA'.keep hE).three.1, (VA'.keep hE).three.2.1, (VA'.keep hE).three.2.2, (VB'.keep hE).three.1, (VB'.keep hE).three.2.1, (VB'.keep hE).three.2.2⟩ : w'.cell? ⟨w.heap.size, 0, none⟩ = some (.int .i64 WA) ∧ w'.cell? ⟨w.heap.size, 1, none⟩ = some (.int .i64 HA) ∧ w'.cell? ⟨w.heap.size, 2, none⟩ = some (.slice aA zA.length cA) ∧ w'.cell? ⟨w.heap.size + 1, 0, none⟩ = some (.int .i64 WB) ∧ w'.cell? ⟨w.heap.size + 1, 1, none⟩ = some (.int .i64 HB) ∧ w'.cell? ⟨w.heap.size + 1, 2, none⟩ = some (.slice aB zB.length cB)))
  clear B0 VA' VB' hw2
  unfold bothB
  cases hA : validB WA HA zA
  · have HVA := Lib.hid hA
    clear hA
    go_enter Try.func37, Try.ntmps37
    go_wp2_with fail
    rw [HW2.out]
    refine wp_region_facts 13 (Below w2.heap.size) (Below.refl _) (fun _ _ _ => Below.trans) (below_drewN (Below.refl _ _) 1) (by kernel_rfl) (by kernel_rfl) (by kernel_rfl) (by kernel_rfl) ?_
    simp only [List.take_succ_cons, List.take_zero, List.drop_succ_cons, List.drop_zero]
    (with_reducible apply wpF_val); (focus (intro vs w' hE hk; (obtain ⟨d0, d1, d2, e0, e1, e2⟩ := KS.out w' hE); go_simp; exact ⟨Below.refl _ _, rfl⟩)); (simp only [Act.put, List.setIfInBounds_toArray, List.set_cons_zero, List.set_cons_succ, List.cons_append, List.nil_append])
    (with_reducible apply wpF_val); (focus (intro vs w' hE hk; (obtain ⟨d0, d1, d2, e0, e1, e2⟩ := KS.out w' hE); go_simp; refine (c_iValid WA HA aA _ cA zA _ (RA.out.below (BW.out.trans (hE.mono (by omega))))).mono ?_; rintro _ w9 ⟨rfl, b⟩; rw [HVA.out]; exact ⟨_, rfl, b.mono (by have := hE.size; omega), rfl⟩)); (simp only [Act.put, List.setIfInBounds_toArray, List.set_cons_zero, List.set_cons_succ, List.cons_append, List.nil_append])
    (with_reducible apply wpF_val); (focus (intro vs w' hE hk; (obtain ⟨d0, d1, d2, e0, e1, e2⟩ := KS.out w' hE); go_simp; exact ⟨Below.refl _ _, rfl⟩)); (simp only [Act.put, List.setIfInBounds_toArray, List.set_cons_zero, List.set_cons_succ, List.cons_append, List.nil_append])
    (with_reducible apply wpF_val); (focus (intro vs w' hE hk; (obtain ⟨d0, d1, d2, e0, e1, e2⟩ := KS.out w' hE); go_simp; rfl)); (simp only [Act.put, List.setIfInBounds_toArray, List.set_cons_zero, List.set_cons_succ, List.cons_append, List.nil_append])
    (with_reducible apply wpF_val); (focus (intro vs w' hE hk; (obtain ⟨d0, d1, d2, e0, e1, e2⟩ := KS.out w' hE); go_simp; rfl)); (simp only [Act.put, List.setIfInBounds_toArray, List.set_cons_zero, List.set_cons_succ, List.cons_append, List.nil_append])
    (with_reducible apply wpF_val); (focus (intro vs w' hE hk; (obtain ⟨d0, d1, d2, e0, e1, e2⟩ := KS.out w' hE); go_simp; exact ⟨Below.refl _ _, rfl⟩)); (simp only [Act.put, List.setIfInBounds_toArray, List.set_cons_zero, List.set_cons_succ, List.cons_append, List.nil_append])
    (with_reducible apply wpF_val); (focus (intro vs w' hE hk; (obtain ⟨d0, d1, d2, e0, e1, e2⟩ := KS.out w' hE); go_simp; exact ⟨Below.refl _ _, rfl⟩)); (simp only [Act.put, List.setIfInBounds_toArray, List.set_cons_zero, List.set_cons_succ, List.cons_append, List.nil_append])
    (with_reducible apply wpF_val); (focus (intro vs w' hE hk; (obtain ⟨d0, d1, d2, e0, e1, e2⟩ := KS.out w' hE); go_simp; rfl)); (simp only [Act.put, List.setIfInBounds_toArray, List.set_cons_zero, List.set_cons_succ, List.cons_append, List.nil_append])
    (with_reducible apply wpF_val); (focus (intro vs w' hE hk; (obtain ⟨d0, d1, d2, e0, e1, e2⟩ := KS.out w' hE); go_simp; rfl)); (simp only [Act.put, List.setIfInBounds_toArray, List.set_cons_zero, List.set_cons_succ, List.cons_append, List.nil_append])
    (with_reducible apply wpF_val); (focus (intro vs w' hE hk; (obtain ⟨d0, d1, d2, e0, e1, e2⟩ := KS.out w' hE); go_simp; rfl)); (simp only [Act.put, List.setIfInBounds_toArray, List.set_cons_zero, List.set_cons_succ, List.cons_append, List.nil_append])
    (with_reducible apply wpF_val); (focus (intro vs w' hE hk; (obtain ⟨d0, d1, d2, e0, e1, e2⟩ := KS.out w' hE); go_simp; rfl)); (simp only [Act.put, List.setIfInBounds_toArray, List.set_cons_zero, List.set_cons_succ, List.cons_append, List.nil_append])
    (with_reducible apply wpF_val); (focus (intro vs w' hE hk; (obtain ⟨d0, d1, d2, e0, e1, e2⟩ := KS.out w' hE); go_simp; rfl)); (simp only [Act.put, List.setIfInBounds_toArray, List.set_cons_zero, List.set_cons_succ, List.cons_append, List.nil_append])
    (with_reducible apply wpF_val); (focus (intro vs w' hE hk; (obtain ⟨d0, d1, d2, e0, e1, e2⟩ := KS.out w' hE); go_simp; exact ⟨Below.refl _ _, rfl⟩)); (simp only [Act.put, List.setIfInBounds_toArray, List.set_cons_zero, List.set_cons_succ, List.cons_append, List.nil_append])
    refine wpF_nil (fun vs w' hE hk => ?_)
    have BX := Lib.hid (BW.out.trans (hE.mono (by omega)))
    clear hE hk
    go_wp2_with fail
    go_ret
    exact ⟨by simp only [Bool.false_and]; rfl, BX.out⟩
  cases hB : validB WB HB zB
  · have HVA := Lib.hid hA
    have HVB := Lib.hid hB
    clear hA hB
    go_enter Try.func37, Try.ntmps37
    go_wp2_with fail
    rw [HW2.out]
    refine wp_region_facts 13 (Below w2.heap.size) (Below.refl _) (fun _ _ _ => Below.trans) (below_drewN (Below.refl _ _) 1) (by kernel_rfl) (by kernel_rfl) (by kernel_rfl) (by kernel_rfl) ?_
    simp only [List.take_succ_cons, List.take_zero, List.drop_succ_cons, List.drop_zero]
    (with_reducible apply wpF_val); (focus (intro vs w' hE hk; (obtain ⟨d0, d1, d2, e0, e1, e2⟩ := KS.out w' hE); go_simp; exact ⟨Below.refl _ _, rfl⟩)); (simp only [Act.put, List.setIfInBounds_toArray, List.set_cons_zero, List.set_cons_succ, List.cons_append, List.nil_append])
    (with_reducible apply wpF_val); (focus (intro vs w' hE hk; (obtain ⟨d0, d1, d2, e0, e1, e2⟩ := KS.out w' hE); go_simp; refine (c_iValid WA HA aA _ cA zA _ (RA.out.below (BW.out.trans (hE.mono (by omega))))).mono ?_; rintro _ w9 ⟨rfl, b⟩; rw [HVA.out]; exact ⟨_, rfl, b.mono (by have := hE.size; omega), rfl⟩)); (simp only [Act.put, List.setIfInBounds_toArray, List.set_cons_zero, List.set_cons_succ, List.cons_append, List.nil_append])
    (with_reducible apply wpF_val); (focus (intro vs w' hE hk; (obtain ⟨d0, d1, d2, e0, e1, e2⟩ := KS.out w' hE); go_simp; exact ⟨Below.refl _ _, rfl⟩)); (simp only [Act.put, List.setIfInBounds_toArray, List.set_cons_zero, List.set_cons_succ, List.cons_append, List.nil_append])
    (with_reducible apply wpF_val); (focus (intro vs w' hE hk; (obtain ⟨d0, d1, d2, e0, e1, e2⟩ := KS.out w' hE); go_simp; exact ⟨Below.refl _ _, rfl⟩)); (simp only [Act.put, List.setIfInBounds_toArray, List.set_cons_zero, List.set_cons_succ, List.cons_append, List.nil_append])
    (with_reducible apply wpF_val); (focus (intro vs w' hE hk; (obtain ⟨d0, d1, d2, e0, e1, e2⟩ := KS.out w' hE); go_simp; refine (c_iValid WB HB aB _ cB zB _ (RB.out.below (BW.out.trans (hE.mono (by omega))))).mono ?_; rintro _ w9 ⟨rfl, b⟩; rw [HVB.out]; exact ⟨_, rfl, b.mono (by have := hE.size; omega), rfl⟩)); (simp only [Act.put, List.setIfInBounds_toArray, List.set_cons_zero, List.set_cons_succ, List.cons_append, List.nil_append])
    (with_reducible apply wpF_val); (focus (intro vs w' hE hk; (obtain ⟨d0, d1, d2, e0, e1, e2⟩ := KS.out w' hE); go_simp; exact ⟨Below.refl _ _, rfl⟩)); (simp only [Act.put, List.setIfInBounds_toArray, List.set_cons_zero, List.set_cons_succ, List.cons_append, List.nil_append])
    (with_reducible apply wpF_val); (focus (intro vs w' hE hk; (obtain ⟨d0, d1, d2, e0, e1, e2⟩ := KS.out w' hE); go_simp; exact ⟨Below.refl _ _, rfl⟩)); (simp only [Act.put, List.setIfInBounds_toArray, List.set_cons_zero, List.set_cons_succ, List.cons_append, List.nil_append])
    (with_reducible apply wpF_val); (focus (intro vs w' hE hk; (obtain ⟨d0, d1, d2, e0, e1, e2⟩ := KS.out w' hE); go_simp; rfl)); (simp only [Act.put, List.setIfInBounds_toArray, List.set_cons_zero, List.set_cons_succ, List.cons_append, List.nil_append])
    (with_reducible apply wpF_val); (focus (intro vs w' hE hk; (obtain ⟨d0, d1, d2, e0, e1, e2⟩ := KS.out w' hE); go_simp; rfl)); (simp only [Act.put, List.setIfInBounds_toArray, List.set_cons_zero, List.set_cons_succ, List.cons_append, List.nil_append])
    (with_reducible apply wpF_val); (focus (intro vs w' hE hk; (obtain ⟨d0, d1, d2, e0, e1, e2⟩ := KS.out w' hE); go_simp; rfl)); (simp only [Act.put, List.setIfInBounds_toArray, List.set_cons_zero, List.set_cons_succ, List.cons_append, List.nil_append])
    (with_reducible apply wpF_val); (focus (intro vs w' hE hk; (obtain ⟨d0, d1, d2, e0, e1, e2⟩ := KS.out w' hE); go_simp; rfl)); (simp only [Act.put, List.setIfInBounds_toArray, List.set_cons_zero, List.set_cons_succ, List.cons_append, List.nil_append])
    (with_reducible apply wpF_val); (focus (intro vs w' hE hk; (obtain ⟨d0, d1, d2, e0, e1, e2⟩ := KS.out w' hE); go_simp; rfl)); (simp only [Act.put, List.setIfInBounds_toArray, List.set_cons_zero, List.set_cons_succ, List.cons_append, List.nil_append])
    (with_reducible apply wpF_val); (focus (intro vs w' hE hk; (obtain ⟨d0, d1, d2, e0, e1, e2⟩ := KS.out w' hE); go_simp; exact ⟨Below.refl _ _, rfl⟩)); (simp only [Act.put, List.setIfInBounds_toArray, List.set_cons_zero, List.set_cons_succ, List.cons_append, List.nil_append])
    refine wpF_nil (fun vs w' hE hk => ?_)
    have BX := Lib.hid (BW.out.trans (hE.mono (by omega)))
    clear hE hk
    go_wp2_with fail
    go_ret
    exact ⟨by simp only [Bool.true_and, Bool.false_and]; rfl, BX.out⟩
  have HVA := Lib.hid hA
  have HVB := Lib.hid hB
  clear hA hB
  cases hW : (WA == WB) <;> cases hH : (HA == HB)
  all_goals
    go_enter Try.func37, Try.ntmps37
    go_wp2_with fail
    rw [HW2.out]
    refine wp_region_facts 13 (Below w2.heap.size) (Below.refl _) (fun _ _ _ => Below.trans) (below_drewN (Below.refl _ _) 1) (by kernel_rfl) (by kernel_rfl) (by kernel_rfl) (by kernel_rfl) ?_
    simp only [List.take_succ_cons, List.take_zero, List.drop_succ_cons, List.drop_zero]
    (with_reducible apply wpF_val); (focus (intro vs w' hE hk; (obtain ⟨d0, d1, d2, e0, e1, e2⟩ := KS.out w' hE); go_simp; exact ⟨Below.refl _ _, rfl⟩)); (simp only [Act.put, List.setIfInBounds_toArray, List.set_cons_zero, List.set_cons_succ, List.cons_append, List.nil_append])
    (with_reducible apply wpF_val); (focus (intro vs w' hE hk; (obtain ⟨d0, d1, d2, e0, e1, e2⟩ := KS.out w' hE); go_simp; refine (c_iValid WA HA aA _ cA zA _ (RA.out.below (BW.out.trans (hE.mono (by omega))))).mono ?_; rintro _ w9 ⟨rfl, b⟩; rw [HVA.out]; exact ⟨_, rfl, b.mono (by have := hE.size; omega), rfl⟩)); (simp only [Act.put, List.setIfInBounds_toArray, List.set_cons_zero, List.set_cons_succ, List.cons_append, List.nil_append])
    (with_reducible apply wpF_val); (focus (intro vs w' hE hk; (obtain ⟨d0, d1, d2, e0, e1, e2⟩ := KS.out w' hE); go_simp; exact ⟨Below.refl _ _, rfl⟩)); (simp only [Act.put, List.setIfInBounds_toArray, List.set_cons_zero, List.set_cons_succ, List.cons_append, List.nil_append])
    (with_reducible apply wpF_val); (focus (intro vs w' hE hk; (obtain ⟨d0, d1, d2, e0, e1, e2⟩ := KS.out w' hE); go_simp; exact ⟨Below.refl _ _, rfl⟩)); (simp only [Act.put, List.setIfInBounds_toArray, List.set_cons_zero, List.set_cons_succ, List.cons_append, List.nil_append])
    (with_reducible apply wpF_val); (focus (intro vs w' hE hk; (obtain ⟨d0, d1, d2, e0, e1, e2⟩ := KS.out w' hE); go_simp; refine (c_iValid WB HB aB _ cB zB _ (RB.out.below (BW.out.trans (hE.mono (by omega))))).mono ?_; rintro _ w9 ⟨rfl, b⟩; rw [HVB.out]; exact ⟨_, rfl, b.mono (by have := hE.size; omega), rfl⟩)); (simp only [Act.put, List.setIfInBounds_toArray, List.set_cons_zero, List.set_cons_succ, List.cons_append, List.nil_append])
    (with_reducible apply wpF_val); (focus (intro vs w' hE hk; (obtain ⟨d0, d1, d2, e0, e1, e2⟩ := KS.out w' hE); go_simp; exact ⟨Below.refl _ _, rfl⟩)); (simp only [Act.put, List.setIfInBounds_toArray, List.set_cons_zero, List.set_cons_succ, List.cons_append, List.nil_append])
    (with_reducible apply wpF_val); (focus (intro vs w' hE hk; (obtain ⟨d0, d1, d2, e0, e1, e2⟩ := KS.out w' hE); go_simp; exact ⟨Below.refl _ _, rfl⟩)); (simp only [Act.put, List.setIfInBounds_toArray, List.set_cons_zero, List.set_cons_succ, List.cons_append, List.nil_append])
    (with_reducible apply wpF_val); (focus (intro vs w' hE hk; (obtain ⟨d0, d1, d2, e0, e1, e2⟩ := KS.out w' hE); go_simp; exact ⟨Below.refl _ _, rfl⟩)); (simp only [Act.put, List.setIfInBounds_toArray, List.set_cons_zero, List.set_cons_succ, List.cons_append, List.nil_append])
    (with_reducible apply wpF_val); (focus (intro vs w' hE hk; (obtain ⟨d0, d1, d2, e0, e1, e2⟩ := KS.out w' hE); go_simp; refine (c_sidesOf WA HA _ _).mono ?_; rintro _ w9 ⟨rfl, b⟩; exact ⟨_, rfl, b.mono (by have := hE.size; omega), rfl⟩)); (simp only [Act.put, List.setIfInBounds_toArray, List.set_cons_zero, List.set_cons_succ, List.cons_append, List.nil_append])
    (with_reducible apply wpF_val); (focus (intro vs w' hE hk; (obtain ⟨d0, d1, d2, e0, e1, e2⟩ := KS.out w' hE); go_simp; exact ⟨Below.refl _ _, rfl⟩)); (simp only [Act.put, List.setIfInBounds_toArray, List.set_cons_zero, List.set_cons_succ, List.cons_append, List.nil_append])
    (with_reducible apply wpF_val); (focus (intro vs w' hE hk; (obtain ⟨d0, d1, d2, e0, e1, e2⟩ := KS.out w' hE); go_simp; refine (c_sidesOf WB HB _ _).mono ?_; rintro _ w9 ⟨rfl, b⟩; exact ⟨_, rfl, b.mono (by have := hE.size; omega), rfl⟩)); (simp only [Act.put, List.setIfInBounds_toArray, List.set_cons_zero, List.set_cons_succ, List.cons_append, List.nil_append])
    (with_reducible apply wpF_val); (focus (intro vs w' hE hk; (obtain ⟨d0, d1, d2, e0, e1, e2⟩ := KS.out w' hE); go_simp; exact ⟨Below.refl _ _, rfl⟩)); (simp only [Act.put, List.setIfInBounds_toArray, List.set_cons_zero, List.set_cons_succ, List.cons_append, List.nil_append])
    (with_reducible apply wpF_val); (focus (intro vs w' hE hk; (obtain ⟨d0, d1, d2, e0, e1, e2⟩ := KS.out w' hE); go_simp; exact ⟨Below.refl _ _, rfl⟩)); (simp only [Act.put, List.setIfInBounds_toArray, List.set_cons_zero, List.set_cons_succ, List.cons_append, List.nil_append])
    refine wpF_nil (fun vs w' hE hk => ?_)
    have BX := Lib.hid (BW.out.trans (hE.mono (by omega)))
    clear hE hk
    go_wp2_with fail
    go_ret
    exact ⟨by simp only [Bool.true_and, Bool.and_true, Bool.and_false]; rfl, BX.out⟩
/-! ### jnMixP -/
theorem c_jnMixP (WA HA : Int) (zA : List Nat) (aA : Option Addr) (cA : Nat) (WB HB : Int) (zB : List Nat) (aB : Option Addr) (cB : Nat) (cv0 : Value) (g : Nat → Nat → Nat) (w : World) (rA : IsRowF .f32 w aA zA.length cA zA) (rB : IsRowF .f32 w aB zB.length cB zB) (hb : bothB WA HA zA WB HB zB = true) (hlt0 : ∀ k, k < zA.length → g (fat zA k) (fat zB k) < 2 ^ FloatKind.f32.format.width)
    (hF0 : ∀ (k n m : Nat) (wr : World), k < zA.length → Below w.heap.size w wr → Calls Try.prog 30 #[.float .f32 (pick .f32 (fat zA k) n), .float .f32 (pick .f32 (fat zB k) m), cv0] wr (fun e w' => ∃ n, e = .returned (.float .f32 (pick .f32 (g (fat zA k) (fat zB k)) n)) ∧ Below wr.heap.size wr w')) :
    Calls Try.prog 29 #[.agg #[.int .i64 WA, .int .i64 HA, .slice aA zA.length cA], .agg #[.int .i64 WB, .int .i64 HB, .slice aB zB.length cB], .func (.func 30) #[] #[cv0]] w (RetP 22 (giveP WA HA (List.zipWith g zA zB)) w) := by
  have hboth := hb
  have HBT := Lib.hid hb
  have HFF := Lib.hid hF0
  have HLT := Lib.hid hlt0
  clear hF0 hlt0
  have RA := Lib.hid rA
  have RB := Lib.hid rB
  clear rA rB
  generalize hw2 : ((w.alloc (Obj.cells #[.int .i64 WA, .int .i64 HA, .slice aA zA.length cA] 25)).alloc (Obj.cells #[.int .i64 WB, .int .i64 HB, .slice aB zB.length cB] 25)).alloc (Obj.cells #[.int .i64 0, .int .i64 0, .slice none 0 0] 25) = w2
  have B0 : Below w.heap.size w w2 := by subst hw2; exact (((Below.refl _ _).alloc (Nat.le_refl _) _).alloc (by simp) _).alloc (by simp; omega) _
  have VA' : Var w2 w.heap.size #[.int .i64 WA, .int .i64 HA, .slice aA zA.length cA] := by subst hw2; exact ((Var.new _ _ _).alloc _).alloc _
  have VB' : Var w2 (w.heap.size + 1) #[.int .i64 WB, .int .i64 HB, .slice aB zB.length cB] := by subst hw2; exact (Var.new' _ _ _ _ (by simp)).alloc _
  have VR := Lib.hid (show Var w2 (w.heap.size + 1 + 1) #[.int .i64 0, .int .i64 0, .slice none 0 0] from by subst hw2; exact Var.new' _ _ _ _ (by simp))
  have FR := Lib.hid (show Free w2 (w.heap.size + 1 + 1) from by subst hw2; exact Free.new' _ _ _ _ (by simp))
  have BW := Lib.hid B0
  have HW2 := Lib.hid hw2
  have SZ : w2.heap.size = w.heap.size + 1 + 1 + 1 := by subst hw2; simp
  have KS := Lib.hid (fun (w' : World) (hE : Below w2.heap.size w2 w') => (⟨(hE.cell (p := ⟨w.heap.size, 0, none⟩) (by show w.heap.size < _; omega)).trans VA'.three.1, (hE.cell (p := ⟨w.heap.size, 1, none⟩) (by show w.heap.size < _; omega)).trans VA'.three.2.1, (hE.cell (p := ⟨w.heap.size, 2, none⟩) (by show w.heap.size < _; omega)).trans VA'.three.2.2, (hE.cell (p := ⟨w.heap.size + 1, 0, none⟩) (by show w.heap.size + 1 < _; omega)).trans VB'.three.1, (hE.cell (p := ⟨w.heap.size + 1, 1, none⟩) (by show w.heap.size + 1 < _; omega)).trans VB'.three.2.1, (hE.cell (p := ⟨w.heap.size + 1, 2, none⟩) (by show w.heap.size + 1 < _; omega)).trans VB'.three.2.2⟩ : w'.cell? ⟨w.heap.size, 0, none⟩ = some (.int .i64 WA) ∧ w'.cell? ⟨w.heap.size, 1, none⟩ = some (.int .i64 HA) ∧ w'.cell? ⟨w.heap.size, 2, none⟩ = some (.slice aA zA.length cA) ∧ w'.cell? ⟨w.heap.size + 1, 0, none⟩ = some (.int .i64 WB) ∧ w'.cell? ⟨w.heap.size + 1, 1, none⟩ = some (.int .i64 HB) ∧ w'.cell? ⟨w.heap.size + 1, 2, none⟩ = some (.slice aB zB.length cB)))
  clear B0 VA' VB' hw2
  obtain ⟨hvA, hvB, hWW, hHH, hlen⟩ := bothB_spec hboth
  have hl256 := (valid_len hvA).2.1
  have hl1 := (valid_len hvA).2.2
  have hw : (WA == WB) = true := by simpa using hWW
  have hh : (HA == HB) = true := by simpa using hHH
  have HVA := Lib.hid hvA
  have HVB := Lib.hid hvB
  have HLen := Lib.hid hlen
  obtain ⟨i0, hi, hz0, hz1, hz2⟩ := info_parts infoFo
  clear hb hboth hvA hvB hlen hWW hHH
  obtain ⟨d0, d1, d2, e0, e1, e2⟩ := KS.out w2 (Below.refl _ _)
  go_enter Try.func29, Try.ntmps29
  go_wp2_with fail
  rw [HW2.out]
  refine (c_areAlike WA HA zA aA cA WB HB zB aB cB w2 (RA.out.below BW.out) (RB.out.below BW.out)).mono ?_
  rintro _ w3 ⟨rfl, hE⟩
  rw [HBT.out]
  clear d0 d1 d2 e0 e1 e2
  have BX := Lib.hid (BW.out.trans (hE.mono (by omega)))
  have VX := Lib.hid (VR.out.keep hE)
  have FX := Lib.hid (FR.out.below (by omega) hE)
  have S2 : w.heap.size + 1 + 1 < w3.heap.size := by have := hE.size; omega
  have RA3 := Lib.hid (RA.out.below BX.out)
  have RB3 := Lib.hid (RB.out.below BX.out)
  have K3 := Lib.hid (KS.out w3 hE)
  clear hE KS VR FR BW
  have KX := Lib.hid (fun (wr : World) (hB : Below w3.heap.size w3 wr) => (by obtain ⟨d0, d1, d2, e0, e1, e2⟩ := K3.out; exact ⟨(hB.cell (p := ⟨w.heap.size, 0, none⟩) (by show w.heap.size < _; omega)).trans d0, (hB.cell (p := ⟨w.heap.size, 1, none⟩) (by show w.heap.size < _; omega)).trans d1, (hB.cell (p := ⟨w.heap.size, 2, none⟩) (by show w.heap.size < _; omega)).trans d2, (hB.cell (p := ⟨w.heap.size + 1, 0, none⟩) (by show w.heap.size + 1 < _; omega)).trans e0, (hB.cell (p := ⟨w.heap.size + 1, 1, none⟩) (by show w.heap.size + 1 < _; omega)).trans e1, (hB.cell (p := ⟨w.heap.size + 1, 2, none⟩) (by show w.heap.size + 1 < _; omega)).trans e2⟩ : wr.cell? ⟨w.heap.size, 0, none⟩ = some (.int .i64 WA) ∧ wr.cell? ⟨w.heap.size, 1, none⟩ = some (.int .i64 HA) ∧ wr.cell? ⟨w.heap.size, 2, none⟩ = some (.slice aA zA.length cA) ∧ wr.cell? ⟨w.heap.size + 1, 0, none⟩ = some (.int .i64 WB) ∧ wr.cell? ⟨w.heap.size + 1, 1, none⟩ = some (.int .i64 HB) ∧ wr.cell? ⟨w.heap.size + 1, 2, none⟩ = some (.slice aB zB.length cB)))
  obtain ⟨d0, d1, d2, e0, e1, e2⟩ := K3.out
  go_wp2_with (at_make; refine wpList_make_full _ rfl _ _ 23 rfl w3.heap.size 22 i0 (.float .f32 0) 1 Try.underlying23 hi hz0 hz1 _ _ _ _ zA.length rfl rfl rfl rfl (by rw [hz2]; omega) (by unfold maxLen; omega) (by simp) ?_; intro w4 hown hgrow; have B4 : Below w3.heap.size w3 w4 := (Below.refl _ _).grown hgrow (Nat.le_refl _) (by simp); obtain ⟨g0, g1, g2, g3, g4, g5⟩ := KX.out w4 B4)
  have hblk := block_of_owns hown
  have ez : (madeCells (Value.float FloatKind.f32 0).cells (zA.length * 1)).toList = List.replicate zA.length (.float .f32 0) := by rw [Nat.mul_one]; exact made_zeros _ _
  rw [ez] at hblk
  have hz4 : w3.heap.size < w4.heap.size := block_lt hblk
  have HB4 := Lib.hid hblk
  have HG := Lib.hid B4
  clear hown hgrow hblk ez hz0 hz1 hz2 d0 d1 d2 e0 e1 e2 g0 g1 g2 g3 g4 g5 B4
  go_loopw [9, 10, 23] (fun _ _ i wr => ∃ (k : Nat) (zs : List Nat), k ≤ zA.length ∧ i = .int .i64 k ∧ Below w3.heap.size w3 wr ∧ near zs ((List.zipWith g zA zB).take k) ∧ zs.length = k ∧ (∀ b ∈ zs, (Lit.float .f32 b).wf = true) ∧ w3.heap.size < wr.heap.size ∧ wr.heap[w3.heap.size]? = some (.cells (fl .f32 zs ++ List.replicate (zA.length - k) (Value.float .f32 0)).toArray 22 (0, 0))) (fun _ _ i _ => zA.length - (intOf i).toNat)
  case atStart => exact ⟨0, [], Nat.zero_le _, rfl, HG.out, by simpa using near_nil, rfl, by simp, hz4, by rw [HB4.out]; rfl⟩
  case round =>
    obtain ⟨k, zs, hk, rfl, hB, hnear, hzl, hwf, hzr, hblk⟩ := hrel
    have HB := Lib.hid hB
    have HN := Lib.hid hnear
    have HZ := Lib.hid hzl
    have HW := Lib.hid hwf
    have Hblk := Lib.hid hblk
    clear hB hnear hzl hwf hblk
    obtain ⟨d0, d1, d2, e0, e1, e2⟩ := KX.out wr HB.out
    by_cases hlt : k < zA.length
    · have hltB : k < zB.length := by have := HLen.out; omega
      obtain ⟨bA, oA, nA, rfl, hbA, eA⟩ := (RA3.out.below HB.out).at hlt
      obtain ⟨bB, oB, nB, rfl, hbB, eB⟩ := (RB3.out.below HB.out).at hltB
      have HLat := Lib.hid (zip_at (g := g) HLen.out hlt)
      clear hbA hbB
      go_wp2_with fail
      refine (HFF.out k nA nB wr hlt (BX.out.trans (HB.out.mono (by omega)))).mono ?_
      rintro _ w5 ⟨n5, rfl, b5⟩
      have Hblk5 := Lib.hid ((b5.block _ hzr).trans Hblk.out)
      have hold : w5.cell? ⟨w3.heap.size, k, none⟩ = some (.float .f32 0) := by
        rw [cell_of_block Hblk5.out, List.getElem?_append_right (by simp [fl, HZ.out])]
        have e : (fl FloatKind.f32 zs).length = k := by simp [fl, HZ.out]
        rw [e, Nat.sub_self, List.getElem?_replicate, if_pos (by omega)]
      have hfz : w5.frozen? ⟨w3.heap.size, k, none⟩ = false := frozen_of_block Hblk5.out k
      have HSet := Lib.hid (fun (u : Nat) => (by have h := block_set Hblk5.out k (.float .f32 u); rwa [set_snoc zs _ k u HZ.out hlt] at h : (w5.setCell ⟨w3.heap.size, k, none⟩ (.float .f32 u)).heap[w3.heap.size]? = some (.cells (fl .f32 (zs ++ [u]) ++ List.replicate (zA.length - (k + 1)) (Value.float .f32 0)).toArray 22 (0, 0))))
      have HB5 := Lib.hid (HB.out.trans (b5.mono HB.out.size))
      have hz5 : w3.heap.size < w5.heap.size := Nat.lt_of_lt_of_le hzr b5.size
      clear b5 d0 d1 d2 e0 e1 e2
      go_wp2_with fail
      go_roundw
      case rel => exact ⟨k + 1, zs ++ [pick .f32 (g (fat zA k) (fat zB k)) n5], by omega, by go_num, HB5.out.setCell (Nat.le_refl _) _, by rw [← HLat.out]; exact near_snoc HN.out (by rw [zip_len HLen.out]; exact hlt) n5, by simp [HZ.out], (fun b hb => by
        rcases List.mem_append.1 hb with h | h
        · exact HW.out b h
        · simp at h; subst h; exact pick_wf (HLT.out k hlt) n5), by simpa using hz5, HSet.out _⟩
      case measure => simp [intOf]; omega
    · obtain rfl : k = zA.length := by omega
      have hz : near zs (List.zipWith g zA zB) := by have h := HN.out; rwa [List.take_of_length_le (by rw [zip_len HLen.out]; exact Nat.le_refl _)] at h
      have hblk2 := Hblk.out
      rw [Nat.sub_self, List.replicate_zero, List.append_nil] at hblk2
      have hown : Own 22 wr w3.heap.size (some ⟨w3.heap.size, 0, none⟩) zA.length zA.length zs :=
        ⟨HZ.out, ⟨by simp [fl, HZ.out], .inr ⟨w3.heap.size, zA.length, _, rfl, Nat.le_refl _, hblk2, Nat.le_refl _, by unfold maxLen; omega, by simp [fl, HZ.out], by rw [List.take_of_length_le (by simp [fl, HZ.out])]⟩⟩, HW.out⟩
      have HO := Lib.hid hown
      have HZN := Lib.hid hz
      have HML := Lib.hid (show (List.zipWith g zA zB).length = zA.length from by rw [zip_len HLen.out])
      have VR := Lib.hid (VX.out.keep HB.out)
      have FR := Lib.hid (FX.out.below (by omega) HB.out)
      have BW := Lib.hid (BX.out.trans (HB.out.mono (by omega)))
      have SW : w3.heap.size ≤ wr.heap.size := HB.out.size
      have HVZ := Lib.hid (near_valid (W := WA) (H := HA) hz)
      clear hz hown hblk2
      go_wp2_with fail
      cases hv2 : validB WA HA (List.zipWith g zA zB)
      · have HG2 := Lib.hid (show giveP WA HA (List.zipWith g zA zB) = PRes.no from by unfold giveP; rw [hv2]; rfl)
        have HV2 := Lib.hid hv2
        clear hv2
        refine (c_ifValid_no WA HA _ _ _ zs wr HO.out.row (by rw [HVZ.out]; exact HV2.out)).mono ?_
        rintro _ wz ⟨rfl, b⟩
        obtain ⟨cr0, cr1, cr2⟩ := (VR.out.keep b).three
        have fr := FR.out.below (by omega) b
        have f0 := fr 0
        have f1 := fr 1
        have f2 := fr 2
        have hsz := b.size
        have HB2 := Lib.hid (BW.out.trans (b.mono (by omega)))
        clear fr b
        go_wp2_with fail
        refine bodyPost_ret (v := .tuple #[.agg #[.int .i64 0, .int .i64 0, .slice none 0 0], .bool false]) (by simp [results, Try.results29, cr0, cr1, cr2, go_sem]) rfl (by rw [HG2.out]; exact ⟨none, 0, rfl, Nat.zero_le _, ((HB2.out.setCell (by simp <;> omega) _).setCell (by simp <;> omega) _).setCell (by simp <;> omega) _, Own.nil _ _ _⟩)
      · have HG2 := Lib.hid (show giveP WA HA (List.zipWith g zA zB) = ⟨WA, HA, List.zipWith g zA zB, true⟩ from by unfold giveP; rw [hv2]; rfl)
        have hfin := valid_fin hv2
        obtain rfl := near_eq HZN.out hfin
        clear hfin
        have HV2 := Lib.hid hv2
        clear hv2
        refine (c_ifValid_yes WA HA _ _ _ _ wr HO.out.row HV2.out).mono ?_
        rintro _ wz ⟨rfl, b⟩
        obtain ⟨cr0, cr1, cr2⟩ := (VR.out.keep b).three
        have fr := FR.out.below (by omega) b
        have f0 := fr 0
        have f1 := fr 1
        have f2 := fr 2
        have hsz := b.size
        have HB2 := Lib.hid (BW.out.trans (b.mono (by omega)))
        have HO2 := Lib.hid (HO.out.below b)
        clear fr b
        go_wp2_with fail
        have hrow : blk (some ⟨w3.heap.size, 0, none⟩) ≠ some (w.heap.size + 1 + 1) := fun e => by simp [blk] at e; omega
        refine bodyPost_ret (v := .tuple #[.agg #[.int .i64 WA, .int .i64 HA, .slice (some ⟨w3.heap.size, 0, none⟩) zA.length zA.length], .bool true]) (by simp [results, Try.results29, cr0, cr1, cr2, go_sem]) rfl (by rw [HG2.out]; exact ⟨_, _, by rw [HML.out], by (show (List.zipWith g zA zB).length ≤ 1048576); rw [HML.out]; omega, ((HB2.out.setCell (by simp <;> omega) _).setCell (by simp <;> omega) _).setCell (by simp <;> omega) _, (((Own.re HML.out.symm HO2.out).setCell hrow _).setCell hrow _).setCell hrow _ |>.mono (by omega)⟩)

/-! ### jnNo -/
theorem c_jnNo (WA HA : Int) (zA : List Nat) (aA : Option Addr) (cA : Nat) (WB HB : Int) (zB : List Nat) (aB : Option Addr) (cB : Nat) (f : Value) (w : World) (rA : IsRowF .f32 w aA zA.length cA zA) (rB : IsRowF .f32 w aB zB.length cB zB)
    (hb : bothB WA HA zA WB HB zB = false) : Calls Try.prog 29 #[.agg #[.int .i64 WA, .int .i64 HA, .slice aA zA.length cA], .agg #[.int .i64 WB, .int .i64 HB, .slice aB zB.length cB], f] w (RetP 22 PRes.no w) := by
  have RA := Lib.hid rA
  have RB := Lib.hid rB
  clear rA rB
  generalize hw2 : ((w.alloc (Obj.cells #[.int .i64 WA, .int .i64 HA, .slice aA zA.length cA] 25)).alloc (Obj.cells #[.int .i64 WB, .int .i64 HB, .slice aB zB.length cB] 25)).alloc (Obj.cells #[.int .i64 0, .int .i64 0, .slice none 0 0] 25) = w2
  have B0 : Below w.heap.size w w2 := by subst hw2; exact (((Below.refl _ _).alloc (Nat.le_refl _) _).alloc (by simp) _).alloc (by simp; omega) _
  have VA' : Var w2 w.heap.size #[.int .i64 WA, .int .i64 HA, .slice aA zA.length cA] := by subst hw2; exact ((Var.new _ _ _).alloc _).alloc _
  have VB' : Var w2 (w.heap.size + 1) #[.int .i64 WB, .int .i64 HB, .slice aB zB.length cB] := by subst hw2; exact (Var.new' _ _ _ _ (by simp)).alloc _
  have VR := Lib.hid (show Var w2 (w.heap.size + 1 + 1) #[.int .i64 0, .int .i64 0, .slice none 0 0] from by subst hw2; exact Var.new' _ _ _ _ (by simp))
  have FR := Lib.hid (show Free w2 (w.heap.size + 1 + 1) from by subst hw2; exact Free.new' _ _ _ _ (by simp))
  have BW := Lib.hid B0
  have HW2 := Lib.hid hw2
  have SZ : w2.heap.size = w.heap.size + 1 + 1 + 1 := by subst hw2; simp
  have KS := Lib.hid (fun (w' : World) (hE : Below w2.heap.size w2 w') => (⟨(hE.cell (p := ⟨w.heap.size, 0, none⟩) (by show w.heap.size < _; omega)).trans VA'.three.1, (hE.cell (p := ⟨w.heap.size, 1, none⟩) (by show w.heap.size < _; omega)).trans VA'.three.2.1, (hE.cell (p := ⟨w.heap.size, 2, none⟩) (by show w.heap.size < _; omega)).trans VA'.three.2.2, (hE.cell (p := ⟨w.heap.size + 1, 0, none⟩) (by show w.heap.size + 1 < _; omega)).trans VB'.three.1, (hE.cell (p := ⟨w.heap.size + 1, 1, none⟩) (by show w.heap.size + 1 < _; omega)).trans VB'.three.2.1, (hE.cell (p := ⟨w.heap.size + 1, 2, none⟩) (by show w.heap.size + 1 < _; omega)).trans VB'.three.2.2⟩ : w'.cell? ⟨w.heap.size, 0, none⟩ = some (.int .i64 WA) ∧ w'.cell? ⟨w.heap.size, 1, none⟩ = some (.int .i64 HA) ∧ w'.cell? ⟨w.heap.size, 2, none⟩ = some (.slice aA zA.length cA) ∧ w'.cell? ⟨w.heap.size + 1, 0, none⟩ = some (.int .i64 WB) ∧ w'.cell? ⟨w.heap.size + 1, 1, none⟩ = some (.int .i64 HB) ∧ w'.cell? ⟨w.heap.size + 1, 2, none⟩ = some (.slice aB zB.length cB)))
  clear B0 VA' VB' hw2
  have HBo := Lib.hid hb
  clear hb
  obtain ⟨d0, d1, d2, e0, e1, e2⟩ := KS.out w2 (Below.refl _ _)
  go_enter Try.func29, Try.ntmps29
  go_wp2_with fail
  rw [HW2.out]
  refine (c_areAlike WA HA zA aA cA WB HB zB aB cB w2 (RA.out.below BW.out) (RB.out.below BW.out)).mono ?_
  rintro _ w3 ⟨rfl, hE⟩
  rw [HBo.out]
  have BX := Lib.hid (BW.out.trans (hE.mono (by omega)))
  have VX := Lib.hid (VR.out.keep hE)
  have FX := Lib.hid (FR.out.below (by omega) hE)
  have S2 : w.heap.size + 1 + 1 < w3.heap.size := by have := hE.size; omega
  clear hE d0 d1 d2 e0 e1 e2
  obtain ⟨q0, q1, q2⟩ := VX.out.three
  have f0 := FX.out 0
  have f1 := FX.out 1
  have f2 := FX.out 2
  go_wp2_with fail
  refine bodyPost_ret (v := .tuple #[.agg #[.int .i64 0, .int .i64 0, .slice none 0 0], .bool false]) (by simp [results, Try.results29, q0, q1, q2, go_sem]) rfl (show RetP _ PRes.no _ _ _ from ⟨none, 0, rfl, Nat.zero_le _, ((BX.out.setCell (by simp <;> omega) _).setCell (by simp <;> omega) _).setCell (by simp <;> omega) _, Own.nil _ _ _⟩)
/-! ### l02Share -/
def one32 : Nat := 1065353216
def shareB (v : Nat) : Bool := (FloatKind.f32.format.order v 0 == some .gt || FloatKind.f32.format.order v 0 == some .eq) && (FloatKind.f32.format.order v one32 == some .lt || FloatKind.f32.format.order v one32 == some .eq)
theorem c_l02Share (v n : Nat) (w : World) (j : Nat) : Calls Try.prog 27 #[.float .f32 (pick .f32 v n)] (w.drewN j) (RetV (.bool (shareB v)) w) := by
  unfold shareB one32
  cases h : (FloatKind.f32.format.order v 0 == some .gt || FloatKind.f32.format.order v 0 == some .eq)
  all_goals
    have HH := Lib.hid h
    go_enter Try.func27, Try.ntmps27
    go_wp2
    go_ret
    exact ⟨_, by simp [HH.out], rfl⟩
/-! ### mixDefs -/
def mixF (v x y : Nat) : Nat := fop .add .f32 x (fop .mul .f32 v (fop .sub .f32 y x))
def mixL (v : Nat) (zA zB : List Nat) : List Nat := List.zipWith (mixF v) zA zB
def resMix (WA HA : Int) (zA : List Nat) (WB HB : Int) (zB : List Nat) (v : Nat) : PRes := if (bothB WA HA zA WB HB zB && shareB v) = true then giveP WA HA (mixL v zA zB) else PRes.no
theorem mixL_len {v : Nat} {zA zB : List Nat} (h : zA.length = zB.length) : (mixL v zA zB).length = zA.length := by simp [mixL, h]
theorem mixL_at {v : Nat} {zA zB : List Nat} (h : zA.length = zB.length) {k : Nat} (hk : k < zA.length) : fat (mixL v zA zB) k = mixF v (fat zA k) (fat zB k) := by
  have hk2 : k < zB.length := by omega
  simp [fat, mixL, List.getElem?_zipWith, hk, hk2]

/-! ### l02Blank -/
theorem c_l02Blank (W H : Int) (w : World) : Calls Try.prog 16 #[.int .i64 W, .int .i64 H] w (fun e w' => ∃ g, e = .returned (.agg #[.int .i64 W, .int .i64 H, .slice (some ⟨g, 0, none⟩) 0 0]) ∧ Below w.heap.size w w' ∧ Own 22 w' w.heap.size (some ⟨g, 0, none⟩) 0 0 []) := by
  go_enter Try.func16, Try.ntmps16
  go_wp2
  refine bodyPost_ret (v := .agg #[.int .i64 W, .int .i64 H, .slice (some ⟨w.heap.size + 1, 0, none⟩) 0 0]) (by simp [results, Try.results16, go_sem]) rfl ⟨w.heap.size + 1, rfl, ?_, ?_⟩
  · exact ((Below.refl _ _).alloc (Nat.le_refl _) _).alloc (by simp) _
  · refine ⟨rfl, ⟨rfl, .inr ⟨w.heap.size + 1, 0, #[], rfl, by omega, ?_, Nat.le_refl _, Nat.zero_le _, rfl, rfl⟩⟩, by simp⟩
    have h := heap_alloc_new (w.alloc (Obj.cells #[Value.int IntKind.i64 W, Value.int IntKind.i64 H, Value.slice (some ⟨w.heap.size + 1, 0, none⟩) 0 0] 25)) (Obj.cells #[] 22)
    simpa using h
/-! ### l02Is0 -/
theorem c_l02Is0 (W H : Int) (b : Nat) (a : Option Addr) (len cap : Nat) (zs : List Nat) (w : World) (hv : Var w b #[.int .i64 W, .int .i64 H, .slice a len cap]) (hr : IsRowF .f32 w a len cap zs) :
    Calls Try.prog 32 #[.pointer (some ⟨b, 0, none⟩)] w (RetV (.bool (validB W H zs)) w) := by
  have h := c_l02Is W H b a len cap zs w 0 hv hr
  rwa [w.drewN_zero] at h
/-! ### l02Give -/
theorem c_l02Give_yes (W H : Int) (a : Option Addr) (len cap : Nat) (zs : List Nat) (w : World) (hr : IsRowF .f32 w a len cap zs) (hv : validB W H zs = true) : Calls Try.prog 17 #[.agg #[.int .i64 W, .int .i64 H, .slice a len cap]] w (RetB (.tuple #[.agg #[.int .i64 W, .int .i64 H, .slice a len cap], .bool true]) w) := by
  have HR := Lib.hid hr
  have HV := Lib.hid hv
  clear hr hv
  go_enter Try.func17, Try.ntmps17
  go_wp2_with fail
  refine (c_l02Is0 W H w.heap.size a len cap zs _ ((Var.new _ _ _).alloc _) ((HR.out.alloc _).alloc _)).mono ?_
  rintro _ w1 ⟨m, rfl, rfl⟩
  rw [HV.out]
  go_wp2_with fail
  refine bodyPost_ret (v := .tuple #[.agg #[.int .i64 W, .int .i64 H, .slice a len cap], .bool true]) (by simp [results, Try.results17, go_sem]) rfl ⟨rfl, ?_⟩
  exact (((below_drewN (((Below.refl _ _).alloc (Nat.le_refl _) _).alloc (by simp) _) _).setCell (by simp) _).setCell (by simp) _).setCell (by simp) _
theorem c_l02Give_no (W H : Int) (a : Option Addr) (len cap : Nat) (zs : List Nat) (w : World) (hr : IsRowF .f32 w a len cap zs) (hv : validB W H zs = false) : Calls Try.prog 17 #[.agg #[.int .i64 W, .int .i64 H, .slice a len cap]] w (RetB (.tuple #[.agg #[.int .i64 0, .int .i64 0, .slice none 0 0], .bool false]) w) := by
  have HR := Lib.hid hr
  have HV := Lib.hid hv
  clear hr hv
  go_enter Try.func17, Try.ntmps17
  go_wp2_with fail
  refine (c_l02Is0 W H w.heap.size a len cap zs _ ((Var.new _ _ _).alloc _) ((HR.out.alloc _).alloc _)).mono ?_
  rintro _ w1 ⟨m, rfl, rfl⟩
  rw [HV.out]
  go_wp2_with fail
  refine bodyPost_ret (v := .tuple #[.agg #[.int .i64 0, .int .i64 0, .slice none 0 0], .bool false]) (by simp [results, Try.results17, go_sem]) rfl ⟨rfl, ?_⟩
  exact (((below_drewN (((Below.refl _ _).alloc (Nat.le_refl _) _).alloc (by simp) _) _).setCell (by simp) _).setCell (by simp) _).setCell (by simp) _
/-! ### l02Both0 -/
theorem c_l02Both0 (WA HA : Int) (zA : List Nat) (aA : Option Addr) (cA : Nat) (WB HB : Int) (zB : List Nat) (aB : Option Addr) (cB : Nat) (x y : Nat) (w : World) (vx : Var w x #[.int .i64 WA, .int .i64 HA, .slice aA zA.length cA]) (vy : Var w y #[.int .i64 WB, .int .i64 HB, .slice aB zB.length cB])
    (rA : IsRowF .f32 w aA zA.length cA zA) (rB : IsRowF .f32 w aB zB.length cB zB) (hxy : x ≠ y) : Calls Try.prog 26 #[.pointer (some ⟨x, 0, none⟩), .pointer (some ⟨y, 0, none⟩)] w (RetV (.bool (bothB WA HA zA WB HB zB)) w) := by
  have h := c_l02Both WA HA zA aA cA WB HB zB aB cB x y w 0 vx vy rA rB hxy
  rwa [w.drewN_zero] at h
/-! ### l02Share0 -/
theorem c_l02Share0 (v n : Nat) (w : World) : Calls Try.prog 27 #[.float .f32 (pick .f32 v n)] w (RetV (.bool (shareB v)) w) := by
  have h := c_l02Share v n w 0
  rwa [w.drewN_zero] at h
/-! ### infoF2 -/
theorem infoF2 : (Try.prog.info? 22).map (fun i => (i.zero, i.size, i.bytes)) = some (some (.float .f32 0), 1, 4) := by kernel_rfl
/-! ### sMix -/
theorem c_sMix_yes (WA HA : Int) (zA : List Nat) (aA : Option Addr) (cA : Nat) (WB HB : Int) (zB : List Nat) (aB : Option Addr) (cB : Nat) (v n : Nat) (w : World) (rA : IsRowF .f32 w aA zA.length cA zA) (rB : IsRowF .f32 w aB zB.length cB zB) (hv : v < 2 ^ FloatKind.f32.format.width)
    (hb : bothB WA HA zA WB HB zB = true) (hs : shareB v = true) : Calls Try.prog 11 #[.agg #[.int .i64 WA, .int .i64 HA, .slice aA zA.length cA], .agg #[.int .i64 WB, .int .i64 HB, .slice aB zB.length cB], .float .f32 (pick .f32 v n)] w (RetP 22 (giveP WA HA (mixL v zA zB)) w) := by
  obtain ⟨hvA, hvB, rfl, rfl, hlen⟩ := bothB_spec hb
  obtain ⟨_, hl256, hl1⟩ := valid_len hvA
  have HBo := Lib.hid hb
  have RA := Lib.hid rA
  have RB := Lib.hid rB
  have HLen := Lib.hid hlen
  clear hb rA rB hvA hvB hlen
  have HSh := Lib.hid hs
  clear hs
  go_enter Try.func11, Try.ntmps11
  go_wp2_with fail
  refine ((c_l02Both0 _ _ zA aA cA _ _ zB aB cB _ _ _ ((((Var.new' _ _ _ (w.heap.size) rfl).alloc _).alloc _)) (((Var.new' _ _ _ (w.heap.size + 1) (by simp)).alloc _)) (((RA.out.alloc _).alloc _).alloc _) (((RB.out.alloc _).alloc _).alloc _) (by omega)).mono (fun _ _ h => RetV.toB h)).mono ?_
  rintro _ w1 ⟨rfl, b⟩
  rw [HBo.out]
  have Va_1 := Lib.hid ((((Var.new' _ _ _ (w.heap.size) (by first | rfl | simp)).alloc _).alloc _).keep b)
  have Vb_1 := Lib.hid (((Var.new' _ _ _ (w.heap.size + 1) (by first | rfl | simp)).alloc _).keep b)
  have Vr_1 := Lib.hid ((Var.new' _ _ _ (w.heap.size + 1 + 1) (by first | rfl | simp)).keep b)
  have Fr_1 := Lib.hid ((Free.new' _ _ _ (w.heap.size + 1 + 1) (by first | rfl | simp)).below (by simp <;> omega) b)
  have B_1 := Lib.hid (((((Below.refl w.heap.size w).alloc (Nat.le_refl _) _).alloc (by simp) _).alloc (by simp; omega) _).trans (b.mono (by simp; omega)))
  have S_1 : w.heap.size + 3 ≤ w1.heap.size := by have := b.size; simp at this; omega
  have za_1 : w.heap.size < w1.heap.size := by omega
  have zb_1 : w.heap.size + 1 < w1.heap.size := by omega
  have zr_1 : w.heap.size + 1 + 1 < w1.heap.size := by omega
  clear b
  obtain ⟨ca0, ca1, ca2⟩ := Va_1.out.three
  obtain ⟨cb0, cb1, cb2⟩ := Vb_1.out.three
  go_wp2_with fail
  clear ca0 ca1 ca2 cb0 cb1 cb2
  refine ((c_l02Share0 v n _).mono (fun _ _ h => RetV.toB h)).mono ?_
  rintro _ w2 ⟨rfl, b⟩
  rw [HSh.out]
  have Va_2 := Lib.hid (Va_1.out.keep b)
  have Vb_2 := Lib.hid (Vb_1.out.keep b)
  have Vr_2 := Lib.hid (Vr_1.out.keep b)
  have Fr_2 := Lib.hid (Fr_1.out.below (by first | omega | (simp <;> omega)) b)
  have B_2 := Lib.hid (B_1.out.trans (b.mono (by omega)))
  have S_2 : w1.heap.size + 0 ≤ w2.heap.size := by have := b.size; omega
  have za_2 : w.heap.size < w2.heap.size := by omega
  have zb_2 : w.heap.size + 1 < w2.heap.size := by omega
  have zr_2 : w.heap.size + 1 + 1 < w2.heap.size := by omega
  clear b
  clear Va_1 za_1 Vb_1 zb_1 Vr_1 zr_1 Fr_1 B_1
  obtain ⟨ca0, ca1, ca2⟩ := Va_2.out.three
  obtain ⟨cb0, cb1, cb2⟩ := Vb_2.out.three
  go_wp2_with fail
  clear ca0 ca1 ca2 cb0 cb1 cb2
  refine (c_l02Blank _ _ _).mono ?_
  rintro _ w3 ⟨gu, rfl, b, o⟩
  have BU := Lib.hid b
  have Lu := Lib.hid o.in
  have Ou_3 := Lib.hid o
  clear o
  have Va_3 := Lib.hid (Va_2.out.keep b)
  have Vb_3 := Lib.hid (Vb_2.out.keep b)
  have Vr_3 := Lib.hid (Vr_2.out.keep b)
  have Fr_3 := Lib.hid (Fr_2.out.below (by first | omega | (simp <;> omega)) b)
  have B_3 := Lib.hid (B_2.out.trans (b.mono (by omega)))
  have S_3 : w2.heap.size + 0 ≤ w3.heap.size := by have := b.size; omega
  have za_3 : w.heap.size < w3.heap.size := by omega
  have zb_3 : w.heap.size + 1 < w3.heap.size := by omega
  have zr_3 : w.heap.size + 1 + 1 < w3.heap.size := by omega
  clear b
  clear Va_2 za_2 Vb_2 zb_2 Vr_2 zr_2 Fr_2 B_2
  go_wp2_with fail
  have hgo : w2.heap.size ≤ gu ∧ gu < w3.heap.size := Lu.out gu rfl
  go_loopw [9] (fun i wr => ∃ (k : Nat) (a : Option Addr) (c : Nat) (zs : List Nat), k ≤ zA.length ∧ i = .int .i64 k ∧ Var wr w3.heap.size #[.int .i64 WA, .int .i64 HA, .slice a k c] ∧ Own 22 wr w2.heap.size a k c zs ∧ near zs ((mixL v zA zB).take k) ∧ Below w2.heap.size w3 wr ∧ Free wr w3.heap.size ∧ blk a ≠ some w3.heap.size ∧ w3.heap.size < wr.heap.size) (fun i _ => zA.length - (intOf i).toNat)
  case atStart => exact ⟨0, _, 0, [], Nat.zero_le _, rfl, Var.new _ _ _, Ou_3.out.alloc _, by simpa using near_nil, (Below.refl _ _).alloc (by omega) _, Free.new _ _ _, (by simp [blk]; omega), by simp⟩
  case round =>
    obtain ⟨k, a, c, zs, hk, rfl, hV, hO, hnear, hBl, hfree, hne, hsz⟩ := hrel
    have HV := Lib.hid hV
    have HO := Lib.hid hO
    have HN := Lib.hid hnear
    have HB := Lib.hid hBl
    have HF := Lib.hid hfree
    have HNe := Lib.hid hne
    clear hV hO hnear hBl hfree hne
    have Xa := Lib.hid (Va_3.out.below HB.out (by omega))
    obtain ⟨ca0, ca1, ca2⟩ := Xa.out.three
    have Xb := Lib.hid (Vb_3.out.below HB.out (by omega))
    obtain ⟨cb0, cb1, cb2⟩ := Xb.out.three
    obtain ⟨co0, co1, co2⟩ := HV.out.three
    have BW := Lib.hid (B_3.out.trans (HB.out.mono (by omega)))
    by_cases hlt : k < zA.length
    · have hrow : ∀ b, b < w2.heap.size ∨ b = w3.heap.size → rowOf a k c ≠ some b := by
        intro b hb e
        have h1 := rowOf_in HO.out b e
        rcases hb with hb | hb
        · omega
        · subst hb; unfold rowOf at e; split at e
          · exact HNe.out e
          · cases e
      have hltA : k < zA.length := hlt
      obtain ⟨bA, oA, nA, rfl, hbA, eA0⟩ := RA.out.at hltA
      have eA := (BW.out.cell (p := ⟨bA, oA + k, none⟩) hbA).trans eA0
      clear eA0
      have hltB : k < zB.length := (by have := HLen.out; omega)
      obtain ⟨bB, oB, nB, rfl, hbB, eB0⟩ := RB.out.at hltB
      have eB := (BW.out.cell (p := ⟨bB, oB + k, none⟩) hbB).trans eB0
      clear eB0
      have KS := Lib.hid (fun (w' : World) (hE : AppE 22 (rowOf a k c) k (mixF v (fat zA k) (fat zB k)) wr w') => (⟨hE.cell ca0 (hrow _ (by omega)), hE.cell ca1 (hrow _ (by omega)), hE.cell ca2 (hrow _ (by omega)), hE.cell cb0 (hrow _ (by omega)), hE.cell cb1 (hrow _ (by omega)), hE.cell cb2 (hrow _ (by omega)), hE.cell co0 (hrow _ (by omega)), hE.cell co1 (hrow _ (by omega)), hE.cell co2 (hrow _ (by omega)), hE.cell eA (hrow _ (by omega)), hE.cell eB (hrow _ (by omega))⟩ : _ ∧ _ ∧ _ ∧ _ ∧ _ ∧ _ ∧ _ ∧ _ ∧ _ ∧ _ ∧ _))
      have HRow := Lib.hid hrow
      clear hrow cb0 cb1 cb2 co0 co1 co2 eA eB
      go_wp2_with fail
      clear ca0 ca1 ca2
      refine wp_region_facts 24 (AppE 22 (rowOf a k c) k (mixF v (fat zA k) (fat zB k))) AppE.refl AppE.trans (AppE.drew _) (by kernel_rfl) (by kernel_rfl) (by kernel_rfl) (by kernel_rfl) ?_
      simp only [List.take_succ_cons, List.take_zero, List.drop_succ_cons, List.drop_zero]
      (with_reducible apply wpF_val); (focus (intro vs w' hE hk; (obtain ⟨dca0, dca1, dca2, dcb0, dcb1, dcb2, dco0, dco1, dco2, deA, deB⟩ := KS.out w' hE); go_simp; exact ⟨AppE.refl _, rfl⟩)); (simp only [Act.put, List.setIfInBounds_toArray, List.set_cons_zero, List.set_cons_succ, List.cons_append, List.nil_append])
      (with_reducible apply wpF_val); (focus (intro vs w' hE hk; (obtain ⟨dca0, dca1, dca2, dcb0, dcb1, dcb2, dco0, dco1, dco2, deA, deB⟩ := KS.out w' hE); go_simp; exact ⟨AppE.refl _, rfl⟩)); (simp only [Act.put, List.setIfInBounds_toArray, List.set_cons_zero, List.set_cons_succ, List.cons_append, List.nil_append])
      (with_reducible apply wpF_val); (focus (intro vs w' hE hk; (obtain ⟨dca0, dca1, dca2, dcb0, dcb1, dcb2, dco0, dco1, dco2, deA, deB⟩ := KS.out w' hE); go_simp; exact ⟨AppE.refl _, rfl⟩)); (simp only [Act.put, List.setIfInBounds_toArray, List.set_cons_zero, List.set_cons_succ, List.cons_append, List.nil_append])
      (with_reducible apply wpF_val); (focus (intro vs w' hE hk; (obtain ⟨dca0, dca1, dca2, dcb0, dcb1, dcb2, dco0, dco1, dco2, deA, deB⟩ := KS.out w' hE); go_simp; exact ⟨AppE.refl _, rfl⟩)); (simp only [Act.put, List.setIfInBounds_toArray, List.set_cons_zero, List.set_cons_succ, List.cons_append, List.nil_append])
      (with_reducible apply wpF_val); (focus (intro vs w' hE hk; (obtain ⟨dca0, dca1, dca2, dcb0, dcb1, dcb2, dco0, dco1, dco2, deA, deB⟩ := KS.out w' hE); go_simp; exact ⟨AppE.refl _, rfl⟩)); (simp only [Act.put, List.setIfInBounds_toArray, List.set_cons_zero, List.set_cons_succ, List.cons_append, List.nil_append])
      (with_reducible apply wpF_val); (focus (intro vs w' hE hk; (obtain ⟨dca0, dca1, dca2, dcb0, dcb1, dcb2, dco0, dco1, dco2, deA, deB⟩ := KS.out w' hE); go_simp; exact ⟨AppE.refl _, rfl⟩)); (simp only [Act.put, List.setIfInBounds_toArray, List.set_cons_zero, List.set_cons_succ, List.cons_append, List.nil_append])
      (with_reducible apply wpF_val); (focus (intro vs w' hE hk; (obtain ⟨dca0, dca1, dca2, dcb0, dcb1, dcb2, dco0, dco1, dco2, deA, deB⟩ := KS.out w' hE); go_simp; exact ⟨AppE.refl _, rfl⟩)); (simp only [Act.put, List.setIfInBounds_toArray, List.set_cons_zero, List.set_cons_succ, List.cons_append, List.nil_append])
      (with_reducible apply wpF_val); (focus (intro vs w' hE hk; (obtain ⟨dca0, dca1, dca2, dcb0, dcb1, dcb2, dco0, dco1, dco2, deA, deB⟩ := KS.out w' hE); go_simp; exact ⟨AppE.refl _, rfl⟩)); (simp only [Act.put, List.setIfInBounds_toArray, List.set_cons_zero, List.set_cons_succ, List.cons_append, List.nil_append])
      (with_reducible apply wpF_val); (focus (intro vs w' hE hk; (obtain ⟨dca0, dca1, dca2, dcb0, dcb1, dcb2, dco0, dco1, dco2, deA, deB⟩ := KS.out w' hE); go_simp; exact ⟨AppE.refl _, rfl⟩)); (simp only [Act.put, List.setIfInBounds_toArray, List.set_cons_zero, List.set_cons_succ, List.cons_append, List.nil_append])
      (with_reducible apply wpF_val); (focus (intro vs w' hE hk; (obtain ⟨dca0, dca1, dca2, dcb0, dcb1, dcb2, dco0, dco1, dco2, deA, deB⟩ := KS.out w' hE); go_simp; exact ⟨AppE.refl _, rfl⟩)); (simp only [Act.put, List.setIfInBounds_toArray, List.set_cons_zero, List.set_cons_succ, List.cons_append, List.nil_append])
      (with_reducible apply wpF_val); (focus (intro vs w' hE hk; (obtain ⟨dca0, dca1, dca2, dcb0, dcb1, dcb2, dco0, dco1, dco2, deA, deB⟩ := KS.out w' hE); go_simp; exact ⟨AppE.refl _, rfl⟩)); (simp only [Act.put, List.setIfInBounds_toArray, List.set_cons_zero, List.set_cons_succ, List.cons_append, List.nil_append])
      (with_reducible apply wpF_val); (focus (intro vs w' hE hk; (obtain ⟨dca0, dca1, dca2, dcb0, dcb1, dcb2, dco0, dco1, dco2, deA, deB⟩ := KS.out w' hE); go_simp; exact ⟨AppE.refl _, rfl⟩)); (simp only [Act.put, List.setIfInBounds_toArray, List.set_cons_zero, List.set_cons_succ, List.cons_append, List.nil_append])
      (with_reducible apply wpF_val); (focus (intro vs w' hE hk; (obtain ⟨dca0, dca1, dca2, dcb0, dcb1, dcb2, dco0, dco1, dco2, deA, deB⟩ := KS.out w' hE); go_simp; exact ⟨AppE.refl _, rfl⟩)); (simp only [Act.put, List.setIfInBounds_toArray, List.set_cons_zero, List.set_cons_succ, List.cons_append, List.nil_append])
      (with_reducible apply wpF_val); (focus (intro vs w' hE hk; (obtain ⟨dca0, dca1, dca2, dcb0, dcb1, dcb2, dco0, dco1, dco2, deA, deB⟩ := KS.out w' hE); go_simp; exact ⟨AppE.refl _, rfl⟩)); (simp only [Act.put, List.setIfInBounds_toArray, List.set_cons_zero, List.set_cons_succ, List.cons_append, List.nil_append])
      (with_reducible apply wpF_val); (focus (intro vs w' hE hk; (obtain ⟨dca0, dca1, dca2, dcb0, dcb1, dcb2, dco0, dco1, dco2, deA, deB⟩ := KS.out w' hE); go_simp; exact ⟨AppE.refl _, rfl⟩)); (simp only [Act.put, List.setIfInBounds_toArray, List.set_cons_zero, List.set_cons_succ, List.cons_append, List.nil_append])
      (with_reducible apply wpF_val); (focus (intro vs w' hE hk; (obtain ⟨dca0, dca1, dca2, dcb0, dcb1, dcb2, dco0, dco1, dco2, deA, deB⟩ := KS.out w' hE); go_simp; exact ⟨AppE.refl _, rfl⟩)); (simp only [Act.put, List.setIfInBounds_toArray, List.set_cons_zero, List.set_cons_succ, List.cons_append, List.nil_append])
      (with_reducible apply wpF_val); (focus (intro vs w' hE hk; (obtain ⟨dca0, dca1, dca2, dcb0, dcb1, dcb2, dco0, dco1, dco2, deA, deB⟩ := KS.out w' hE); go_simp; exact ⟨AppE.refl _, rfl⟩)); (simp only [Act.put, List.setIfInBounds_toArray, List.set_cons_zero, List.set_cons_succ, List.cons_append, List.nil_append])
      (with_reducible apply wpF_val); (focus (intro vs w' hE hk; (obtain ⟨dca0, dca1, dca2, dcb0, dcb1, dcb2, dco0, dco1, dco2, deA, deB⟩ := KS.out w' hE); go_simp; exact ⟨AppE.refl _, rfl⟩)); (simp only [Act.put, List.setIfInBounds_toArray, List.set_cons_zero, List.set_cons_succ, List.cons_append, List.nil_append])
      refine wpF_fact (fun u _ => ∃ m, u = .float .f32 (pick .f32 (fop .sub .f32 (fat zB k) (fat zA k)) m)) (fun _ _ _ h _ => h) (fun vs w' hE hk => ?_) ?_; (focus (rw [if_pos (by rfl)]; refine uponW_fop _ _ _ _ _ rfl .f32 _ _ rfl rfl (by decide) (fun n' m' => ⟨AppE.drewN _ _, n', by simp only [fop_pick_l, fop_pick_r]⟩))); (simp only [Act.put, List.setIfInBounds_toArray, List.set_cons_zero, List.set_cons_succ, List.cons_append, List.nil_append])
      refine wpF_fact (fun u _ => ∃ m, u = .float .f32 (pick .f32 (fop .mul .f32 v (fop .sub .f32 (fat zB k) (fat zA k))) m)) (fun _ _ _ h _ => h) (fun vs w' hE hk => ?_) ?_; (focus (obtain ⟨n1, hn1⟩ := hk 18 (by kernel_rfl); simp only [hn1]; rw [if_pos (by rfl)]; refine uponW_fop _ _ _ _ _ rfl .f32 _ _ rfl rfl (by decide) (fun n' m' => ⟨AppE.drewN _ _, n', by simp only [fop_pick_l, fop_pick_r]⟩))); (simp only [Act.put, List.setIfInBounds_toArray, List.set_cons_zero, List.set_cons_succ, List.cons_append, List.nil_append])
      refine wpF_fact (fun u _ => ∃ m, u = .float .f32 (pick .f32 (mixF v (fat zA k) (fat zB k)) m)) (fun _ _ _ h _ => h) (fun vs w' hE hk => ?_) ?_; (focus (obtain ⟨n1, hn1⟩ := hk 19 (by kernel_rfl); simp only [hn1]; rw [if_pos (by rfl)]; refine uponW_fop _ _ _ _ _ rfl .f32 _ _ rfl rfl (by decide) (fun n' m' => ⟨AppE.drewN _ _, n', by simp only [fop_pick_l, fop_pick_r, mixF]⟩))); (simp only [Act.put, List.setIfInBounds_toArray, List.set_cons_zero, List.set_cons_succ, List.cons_append, List.nil_append])
      refine wpF_fact (Boxd 22 (rowOf a k c) (mixF v (fat zA k) (fat zB k))) Boxd.keep (fun vs w' hE hk => ?_) ?_
      · obtain ⟨n1, hn1⟩ := hk 20 (by kernel_rfl); simp only [hn1]; go_simp; exact ⟨AppE.of_below ((Below.refl _ _).alloc (Nat.le_refl _) _), Boxd.new w' n1 (fun e => by have := rowOf_in HO.out _ e; have := hE.1.size; omega)⟩
      (simp only [Act.put, List.setIfInBounds_toArray, List.set_cons_zero, List.set_cons_succ, List.cons_append, List.nil_append])
      refine wpF_fact (Appd 22 w2.heap.size wr.heap.size k (mixF v (fat zA k) (fat zB k)) a c zs) (Appd.keep (fop_lt _ _ _ _)) (fun vs w' hE hk => ?_) ?_
      · obtain ⟨g, m, hu, _, _, hg4⟩ := hk 21 (by kernel_rfl)
        obtain ⟨i0, hi, hz0, hz1, hz2⟩ := info_parts infoF2
        simp only [hu]
        rw [if_pos (by rfl)]
        refine uponW_append _ _ _ rfl rfl rfl ?_
        exact append_step _ _ i0 _ Try.underlying23 hi hz0 hz1 hz2 rfl (HO.out.appE hE) (by have := hE.1.size; omega) _ hE.1.size (fop_lt _ _ _ _) g 1 m _ hg4 (by omega)
      (simp only [Act.put, List.setIfInBounds_toArray, List.set_cons_zero, List.set_cons_succ, List.cons_append, List.nil_append])
      (with_reducible apply wpF_val); (focus (intro vs w' hE hk; (obtain ⟨dca0, dca1, dca2, dcb0, dcb1, dcb2, dco0, dco1, dco2, deA, deB⟩ := KS.out w' hE); go_simp; exact ⟨AppE.refl _, rfl⟩)); (simp only [Act.put, List.setIfInBounds_toArray, List.set_cons_zero, List.set_cons_succ, List.cons_append, List.nil_append])
      refine wpF_nil (fun vs w' hE hk => ?_)
      obtain ⟨a', c', n', hu, hV2, hO2, hne2, hB2, hF2, hz2⟩ := app_round hE HV.out HO.out (hk 22) HB.out (by omega) (by omega) HF.out HNe.out
      obtain ⟨dca0, dca1, dca2, dcb0, dcb1, dcb2, dco0, dco1, dco2, deA, deB⟩ := KS.out w' hE
      have hfr := hE.free HF.out (by omega) (HRow.out _ (by omega)) 2
      simp only [hu]
      have HV2 := Lib.hid hV2
      have HO2 := Lib.hid hO2
      have HN2 := Lib.hid hne2
      have HB2 := Lib.hid hB2
      have HF2 := Lib.hid hF2
      clear hV2 hO2 hne2 hB2 hF2
      go_wp2_with fail
      go_roundw
      case rel => exact ⟨k + 1, a', c', _, by omega, by go_num, HV2.out, HO2.out, by rw [← mixL_at HLen.out hlt]; exact near_snoc HN.out (by rw [mixL_len HLen.out]; exact hlt) n', HB2.out, HF2.out, HN2.out, by omega⟩
      case measure => simp [intOf]; omega
    · obtain rfl : k = zA.length := by omega
      have hz : near zs (mixL v zA zB) := by have h := HN.out; rwa [List.take_of_length_le (by rw [mixL_len HLen.out]; exact Nat.le_refl _)] at h
      have hzl : zs.length = zA.length := by rw [hz.1, mixL_len HLen.out]
      have HZ := Lib.hid hz
      have HML := Lib.hid (show (mixL v zA zB).length = zA.length from by rw [mixL_len HLen.out])
      have VR := Lib.hid (Vr_3.out.below HB.out (by omega))
      have FR := Lib.hid (Fr_3.out.keep HB.out (by omega))
      have HVZ := Lib.hid (near_valid (W := WA) (H := HA) hz)
      clear hz
      go_wp2_with fail
      cases hv2 : validB WA HA (mixL v zA zB)
      · have HG := Lib.hid (show giveP WA HA (mixL v zA zB) = PRes.no from by unfold giveP; rw [hv2]; rfl)
        have HV2 := Lib.hid hv2
        clear hv2
        refine (c_l02Give_no WA HA a _ c _ wr HO.out.row (by rw [HVZ.out]; exact HV2.out)).mono ?_
        rintro _ wz ⟨rfl, b⟩
        obtain ⟨cr0, cr1, cr2⟩ := (VR.out.keep b).three
        have fr := FR.out.below (by omega) b
        have f0 := fr 0
        have f1 := fr 1
        have f2 := fr 2
        have HB2 := Lib.hid (BW.out.trans (b.mono (by omega)))
        have HO2 := Lib.hid (HO.out.below b)
        clear fr b
        go_wp2_with fail
        refine bodyPost_ret (v := .tuple #[.agg #[.int .i64 0, .int .i64 0, .slice none 0 0], .bool false]) (by simp [results, Try.results11, cr0, cr1, cr2, go_sem]) rfl (by rw [HG.out]; exact ⟨none, 0, rfl, Nat.zero_le _, ((HB2.out.setCell (by simp <;> omega) _).setCell (by simp <;> omega) _).setCell (by simp <;> omega) _, Own.nil _ _ _⟩)
      · have HG := Lib.hid (show giveP WA HA (mixL v zA zB) = ⟨WA, HA, mixL v zA zB, true⟩ from by unfold giveP; rw [hv2]; rfl)
        have hfin := valid_fin hv2
        obtain rfl := near_eq HZ.out hfin
        clear hfin
        have HV2 := Lib.hid hv2
        clear hv2
        refine (c_l02Give_yes WA HA a _ c _ wr HO.out.row HV2.out).mono ?_
        rintro _ wz ⟨rfl, b⟩
        obtain ⟨cr0, cr1, cr2⟩ := (VR.out.keep b).three
        have fr := FR.out.below (by omega) b
        have f0 := fr 0
        have f1 := fr 1
        have f2 := fr 2
        have HB2 := Lib.hid (BW.out.trans (b.mono (by omega)))
        have HO2 := Lib.hid (HO.out.below b)
        clear fr b
        go_wp2_with fail
        have hrow : blk a ≠ some (w.heap.size + 1 + 1) := fun e => by have := HO2.out.in _ e; omega
        refine bodyPost_ret (v := .tuple #[.agg #[.int .i64 WA, .int .i64 HA, .slice a zA.length c], .bool true]) (by simp [results, Try.results11, cr0, cr1, cr2, go_sem]) rfl (by rw [HG.out]; exact ⟨a, c, by rw [HML.out], by (show (mixL v zA zB).length ≤ 1048576); rw [HML.out]; omega, ((HB2.out.setCell (by simp <;> omega) _).setCell (by simp <;> omega) _).setCell (by simp <;> omega) _, (((Own.re HML.out.symm HO2.out).setCell hrow _).setCell hrow _).setCell hrow _ |>.mono (by omega)⟩)
/-! ### sMixNo -/
theorem c_sMix_no1 (WA HA : Int) (zA : List Nat) (aA : Option Addr) (cA : Nat) (WB HB : Int) (zB : List Nat) (aB : Option Addr) (cB : Nat) (v n : Nat) (w : World) (rA : IsRowF .f32 w aA zA.length cA zA) (rB : IsRowF .f32 w aB zB.length cB zB) (hb : bothB WA HA zA WB HB zB = false) : Calls Try.prog 11 #[.agg #[.int .i64 WA, .int .i64 HA, .slice aA zA.length cA], .agg #[.int .i64 WB, .int .i64 HB, .slice aB zB.length cB], .float .f32 (pick .f32 v n)] w (RetP 22 PRes.no w) := by
  have HBo := Lib.hid hb
  have RA := Lib.hid rA
  have RB := Lib.hid rB
  clear hb rA rB
  go_enter Try.func11, Try.ntmps11
  go_wp2_with fail
  refine ((c_l02Both0 _ _ zA aA cA _ _ zB aB cB _ _ _ ((((Var.new' _ _ _ (w.heap.size) rfl).alloc _).alloc _)) (((Var.new' _ _ _ (w.heap.size + 1) (by simp)).alloc _)) (((RA.out.alloc _).alloc _).alloc _) (((RB.out.alloc _).alloc _).alloc _) (by omega)).mono (fun _ _ h => RetV.toB h)).mono ?_
  rintro _ w1 ⟨rfl, b⟩
  rw [HBo.out]
  have Va_1 := Lib.hid ((((Var.new' _ _ _ (w.heap.size) (by first | rfl | simp)).alloc _).alloc _).keep b)
  have Vb_1 := Lib.hid (((Var.new' _ _ _ (w.heap.size + 1) (by first | rfl | simp)).alloc _).keep b)
  have Vr_1 := Lib.hid ((Var.new' _ _ _ (w.heap.size + 1 + 1) (by first | rfl | simp)).keep b)
  have Fr_1 := Lib.hid ((Free.new' _ _ _ (w.heap.size + 1 + 1) (by first | rfl | simp)).below (by simp <;> omega) b)
  have B_1 := Lib.hid (((((Below.refl w.heap.size w).alloc (Nat.le_refl _) _).alloc (by simp) _).alloc (by simp; omega) _).trans (b.mono (by simp; omega)))
  have S_1 : w.heap.size + 3 ≤ w1.heap.size := by have := b.size; simp at this; omega
  have za_1 : w.heap.size < w1.heap.size := by omega
  have zb_1 : w.heap.size + 1 < w1.heap.size := by omega
  have zr_1 : w.heap.size + 1 + 1 < w1.heap.size := by omega
  clear b
  obtain ⟨cr0, cr1, cr2⟩ := Vr_1.out.three
  have f0 := Fr_1.out 0
  have f1 := Fr_1.out 1
  have f2 := Fr_1.out 2
  go_wp2_with fail
  refine bodyPost_ret (v := .tuple #[.agg #[.int .i64 0, .int .i64 0, .slice none 0 0], .bool false]) (by simp [results, Try.results11, cr0, cr1, cr2, go_sem]) rfl (show RetP _ PRes.no _ _ _ from ⟨none, 0, rfl, Nat.zero_le _, ((B_1.out.setCell (by simp <;> omega) _).setCell (by simp <;> omega) _).setCell (by simp <;> omega) _, Own.nil _ _ _⟩)
theorem c_sMix_no2 (WA HA : Int) (zA : List Nat) (aA : Option Addr) (cA : Nat) (WB HB : Int) (zB : List Nat) (aB : Option Addr) (cB : Nat) (v n : Nat) (w : World) (rA : IsRowF .f32 w aA zA.length cA zA) (rB : IsRowF .f32 w aB zB.length cB zB) (hb : bothB WA HA zA WB HB zB = true) (hs : shareB v = false) : Calls Try.prog 11 #[.agg #[.int .i64 WA, .int .i64 HA, .slice aA zA.length cA], .agg #[.int .i64 WB, .int .i64 HB, .slice aB zB.length cB], .float .f32 (pick .f32 v n)] w (RetP 22 PRes.no w) := by
  have HBo := Lib.hid hb
  have RA := Lib.hid rA
  have RB := Lib.hid rB
  have HSh := Lib.hid hs
  clear hb rA rB hs
  go_enter Try.func11, Try.ntmps11
  go_wp2_with fail
  refine ((c_l02Both0 _ _ zA aA cA _ _ zB aB cB _ _ _ ((((Var.new' _ _ _ (w.heap.size) rfl).alloc _).alloc _)) (((Var.new' _ _ _ (w.heap.size + 1) (by simp)).alloc _)) (((RA.out.alloc _).alloc _).alloc _) (((RB.out.alloc _).alloc _).alloc _) (by omega)).mono (fun _ _ h => RetV.toB h)).mono ?_
  rintro _ w1 ⟨rfl, b⟩
  rw [HBo.out]
  have Va_1 := Lib.hid ((((Var.new' _ _ _ (w.heap.size) (by first | rfl | simp)).alloc _).alloc _).keep b)
  have Vb_1 := Lib.hid (((Var.new' _ _ _ (w.heap.size + 1) (by first | rfl | simp)).alloc _).keep b)
  have Vr_1 := Lib.hid ((Var.new' _ _ _ (w.heap.size + 1 + 1) (by first | rfl | simp)).keep b)
  have Fr_1 := Lib.hid ((Free.new' _ _ _ (w.heap.size + 1 + 1) (by first | rfl | simp)).below (by simp <;> omega) b)
  have B_1 := Lib.hid (((((Below.refl w.heap.size w).alloc (Nat.le_refl _) _).alloc (by simp) _).alloc (by simp; omega) _).trans (b.mono (by simp; omega)))
  have S_1 : w.heap.size + 3 ≤ w1.heap.size := by have := b.size; simp at this; omega
  have za_1 : w.heap.size < w1.heap.size := by omega
  have zb_1 : w.heap.size + 1 < w1.heap.size := by omega
  have zr_1 : w.heap.size + 1 + 1 < w1.heap.size := by omega
  clear b
  obtain ⟨ca0, ca1, ca2⟩ := Va_1.out.three
  obtain ⟨cb0, cb1, cb2⟩ := Vb_1.out.three
  go_wp2_with fail
  clear ca0 ca1 ca2 cb0 cb1 cb2
  refine ((c_l02Share0 v n _).mono (fun _ _ h => RetV.toB h)).mono ?_
  rintro _ w2 ⟨rfl, b⟩
  rw [HSh.out]
  have Va_2 := Lib.hid (Va_1.out.keep b)
  have Vb_2 := Lib.hid (Vb_1.out.keep b)
  have Vr_2 := Lib.hid (Vr_1.out.keep b)
  have Fr_2 := Lib.hid (Fr_1.out.below (by first | omega | (simp <;> omega)) b)
  have B_2 := Lib.hid (B_1.out.trans (b.mono (by omega)))
  have S_2 : w1.heap.size + 0 ≤ w2.heap.size := by have := b.size; omega
  have za_2 : w.heap.size < w2.heap.size := by omega
  have zb_2 : w.heap.size + 1 < w2.heap.size := by omega
  have zr_2 : w.heap.size + 1 + 1 < w2.heap.size := by omega
  clear b
  obtain ⟨cr0, cr1, cr2⟩ := Vr_2.out.three
  have f0 := Fr_2.out 0
  have f1 := Fr_2.out 1
  have f2 := Fr_2.out 2
  go_wp2_with fail
  refine bodyPost_ret (v := .tuple #[.agg #[.int .i64 0, .int .i64 0, .slice none 0 0], .bool false]) (by simp [results, Try.results11, cr0, cr1, cr2, go_sem]) rfl (show RetP _ PRes.no _ _ _ from ⟨none, 0, rfl, Nat.zero_le _, ((B_2.out.setCell (by simp <;> omega) _).setCell (by simp <;> omega) _).setCell (by simp <;> omega) _, Own.nil _ _ _⟩)

/-! ### between -/
theorem c_between (x nx y ny s ns : Nat) (w : World) (j : Nat) : Calls Try.prog 21 #[.float .f32 (pick .f32 x nx), .float .f32 (pick .f32 y ny), .float .f32 (pick .f32 s ns)] (w.drewN j) (RetF .f32 (fop .add .f32 x (fop .mul .f32 s (fop .sub .f32 y x))) w) := by
  go_enter Try.func21, Try.ntmps21
  go_wp2_with (first | (refine wpList_fop rfl _ _ _ _ _ rfl _ _ _ rfl rfl (by decide) _ ?_; intro _ _) | (refine upon_fop _ _ _ _ _ (by decide) ?_; intro _ _))
  go_ret
  exact ⟨_, _, rfl, rfl⟩
theorem c_between0 (x nx y ny s ns : Nat) (w : World) : Calls Try.prog 21 #[.float .f32 (pick .f32 x nx), .float .f32 (pick .f32 y ny), .float .f32 (pick .f32 s ns)] w (RetF .f32 (fop .add .f32 x (fop .mul .f32 s (fop .sub .f32 y x))) w) := by
  have h := c_between x nx y ny s ns w 0
  rwa [w.drewN_zero] at h
/-! ### lawMix4 -/
theorem c_mixC (x n y m v s b : Nat) (w : World) (hb : w.cell? ⟨b, 0, none⟩ = some (.float .f32 (pick .f32 v s))) : Calls Try.prog 30 #[.float .f32 (pick .f32 x n), .float .f32 (pick .f32 y m), .pointer (some ⟨b, 0, none⟩)] w (fun e w' => ∃ n, e = .returned (.float .f32 (pick .f32 (mixF v x y) n)) ∧ Below w.heap.size w w') := by
  unfold mixF
  go_enter Try.func30, Try.ntmps30
  rw [← w.drewN_zero]
  go_wp2_with (first | (first | (refine wpList_fop rfl _ _ _ _ _ rfl _ _ _ rfl rfl (by decide) _ ?_; intro _ _) | (refine upon_fop _ _ _ _ _ (by decide) ?_; intro _ _)) | (go_at_call 21; refine (c_between _ _ _ _ _ _ _ _).mono ?_; rintro _ _ ⟨_, _, rfl, rfl⟩))
  go_ret
  exact ⟨_, rfl, below_drewN (Below.refl _ _) _⟩
theorem resMix_no {WA HA : Int} {zA : List Nat} {WB HB : Int} {zB : List Nat} {v : Nat} (h : shareB v = false) : resMix WA HA zA WB HB zB v = PRes.no := by unfold resMix; rw [h, Bool.and_false]; rfl
theorem c_iMixPictures (WA HA : Int) (zA : List Nat) (aA : Option Addr) (cA : Nat) (WB HB : Int) (zB : List Nat) (aB : Option Addr) (cB : Nat) (v n : Nat) (w : World) (rA : IsRowF .f32 w aA zA.length cA zA) (rB : IsRowF .f32 w aB zB.length cB zB) (hv : v < 2 ^ FloatKind.f32.format.width) : Calls Try.prog 13 #[.agg #[.int .i64 WA, .int .i64 HA, .slice aA zA.length cA], .agg #[.int .i64 WB, .int .i64 HB, .slice aB zB.length cB], .float .f32 (pick .f32 v n)] w (RetP 22 (resMix WA HA zA WB HB zB v) w) := by
  have RA := Lib.hid rA
  have RB := Lib.hid rB
  clear rA rB
  cases hs : shareB v
  · rw [resMix_no hs]
    unfold shareB one32 at hs
    cases h1 : (FloatKind.f32.format.order v 0 == some .gt || FloatKind.f32.format.order v 0 == some .eq)
    all_goals
      first | (rw [h1, Bool.true_and] at hs) | clear hs
      go_enter Try.func13, Try.ntmps13
      go_wp2_with fail
      refine bodyPost_ret (v := .tuple #[.agg #[.int .i64 0, .int .i64 0, .slice none 0 0], .bool false]) (by simp [results, Try.results13, go_sem]) rfl (show RetP _ PRes.no _ _ _ from ⟨none, 0, rfl, Nat.zero_le _, ?_, Own.nil _ _ _⟩)
      repeat (first | exact Below.refl _ _ | exact Nat.le_refl _ | (refine Below.setCell ?_ ?_ _) | (refine Below.alloc ?_ ?_ _) | (simp <;> omega))
  · have C := Lib.hid (fun (x : Nat) (w : World) (rA : IsRowF .f32 w aA zA.length cA zA) (rB : IsRowF .f32 w aB zB.length cB zB) (hx : x < w.heap.size) (hc : w.cell? ⟨x, 0, none⟩ = some (.float .f32 (pick .f32 v n))) => (by
      unfold resMix
      rw [hs, Bool.and_true]
      cases h : bothB WA HA zA WB HB zB
      · rw [if_neg (by decide)]; exact c_jnNo WA HA zA aA cA WB HB zB aB cB _ w rA rB h
      · rw [if_pos rfl]; exact c_jnMixP WA HA zA aA cA WB HB zB aB cB _ (mixF v) w rA rB h (fun k _ => fop_lt _ _ _ _) (fun k n1 m1 wr _ hB => c_mixC _ n1 _ m1 v n x wr ((hB.cell (p := ⟨x, 0, none⟩) hx).trans hc)) : Calls Try.prog 29 #[.agg #[.int .i64 WA, .int .i64 HA, .slice aA zA.length cA], .agg #[.int .i64 WB, .int .i64 HB, .slice aB zB.length cB], .func (.func 30) #[] #[.pointer (some ⟨x, 0, none⟩)]] w (RetP 22 (resMix WA HA zA WB HB zB v) w)))
    generalize resMix WA HA zA WB HB zB v = r at *
    unfold shareB one32 at hs
    rw [Bool.and_eq_true] at hs
    obtain ⟨h1, h2⟩ := hs
    go_enter Try.func13, Try.ntmps13
    go_wp2_with fail
    refine (C.out (w.heap.size + 1 + 1) _ ((((RA.out.alloc _).alloc _).alloc _).alloc _) ((((RB.out.alloc _).alloc _).alloc _).alloc _) (by simp <;> omega) (((Var.new' _ _ _ (w.heap.size + 1 + 1) (by simp)).alloc _).2 0 (by simp))).mono ?_
    rintro _ w1 ⟨a, cap, rfl, hl, b, o⟩
    have V2 := Lib.hid ((Var.new' _ _ _ (w.heap.size + 1 + 1 + 1) (by simp)).keep b)
    have Fr := Lib.hid ((Free.new' _ _ _ (w.heap.size + 1 + 1 + 1) (by simp)).below (by simp <;> omega) b)
    have z1 : w.heap.size + 1 + 1 + 1 < w1.heap.size := by have := b.size; simp at this; omega
    have B1 := Lib.hid ((((((Below.refl w.heap.size w).alloc (Nat.le_refl _) _).alloc (by simp) _).alloc (by simp; omega) _).alloc (by simp; omega) _).trans (b.mono (by simp; omega)))
    have O1 := Lib.hid o
    have HL := Lib.hid hl
    clear b o hl
    obtain ⟨q0, q1, q2⟩ := V2.out.three
    have f0 := Fr.out 0
    have f1 := Fr.out 1
    have f2 := Fr.out 2
    go_wp2_with fail
    have hrow : blk a ≠ some (w.heap.size + 1 + 1 + 1) := fun e => by have := O1.out.in _ e; simp at this; omega
    refine bodyPost_ret (v := .tuple #[.agg #[.int .i64 r.W, .int .i64 r.H, .slice a r.zs.length cap], .bool r.ok]) (by simp [results, Try.results13, q0, q1, q2, go_sem]) rfl ⟨a, cap, rfl, HL.out, ((B1.out.setCell (by simp <;> omega) _).setCell (by simp <;> omega) _).setCell (by simp <;> omega) _, (((O1.out.setCell hrow _).setCell hrow _).setCell hrow _).mono (by simp; omega)⟩
theorem c_sMixPictures (WA HA : Int) (zA : List Nat) (aA : Option Addr) (cA : Nat) (WB HB : Int) (zB : List Nat) (aB : Option Addr) (cB : Nat) (v n : Nat) (w : World) (rA : IsRowF .f32 w aA zA.length cA zA) (rB : IsRowF .f32 w aB zB.length cB zB) (hv : v < 2 ^ FloatKind.f32.format.width) : Calls Try.prog 11 #[.agg #[.int .i64 WA, .int .i64 HA, .slice aA zA.length cA], .agg #[.int .i64 WB, .int .i64 HB, .slice aB zB.length cB], .float .f32 (pick .f32 v n)] w (RetP 22 (resMix WA HA zA WB HB zB v) w) := by
  cases h : bothB WA HA zA WB HB zB
  · have e : resMix WA HA zA WB HB zB v = PRes.no := by unfold resMix; rw [h, Bool.false_and]; rfl
    rw [e]; exact c_sMix_no1 WA HA zA aA cA WB HB zB aB cB v n w rA rB h
  · cases h2 : shareB v
    · rw [resMix_no h2]; exact c_sMix_no2 WA HA zA aA cA WB HB zB aB cB v n w rA rB h h2
    · have e : resMix WA HA zA WB HB zB v = giveP WA HA (mixL v zA zB) := by unfold resMix; rw [h, h2, Bool.and_true]; rfl
      rw [e]; exact c_sMix_yes WA HA zA aA cA WB HB zB aB cB v n w rA rB hv h h2
/-! ### FnExactMixPictures -/
set_option maxHeartbeats 8000000 in
theorem walkG (WA HA : Int) (zA : List Nat) (aA : Option Addr) (cA : Nat) (WB HB : Int) (zB : List Nat) (aB : Option Addr) (cB : Nat) (vS nS : Nat) (w : World) (r : PRes) (cS : ∀ (aA : Option Addr) (cA : Nat) (aB : Option Addr) (cB : Nat) (w : World), IsRowF .f32 w aA zA.length cA zA → IsRowF .f32 w aB zB.length cB zB → Calls Try.prog 11 #[.agg #[.int .i64 WA, .int .i64 HA, .slice aA zA.length cA], .agg #[.int .i64 WB, .int .i64 HB, .slice aB zB.length cB], .float .f32 (pick .f32 vS nS)] w (RetP 22 r w)) (cI : ∀ (aA : Option Addr) (cA : Nat) (aB : Option Addr) (cB : Nat) (w : World), IsRowF .f32 w aA zA.length cA zA → IsRowF .f32 w aB zB.length cB zB → Calls Try.prog 13 #[.agg #[.int .i64 WA, .int .i64 HA, .slice aA zA.length cA], .agg #[.int .i64 WB, .int .i64 HB, .slice aB zB.length cB], .float .f32 (pick .f32 vS nS)] w (RetP 22 r w)) (rA : IsRowF .f32 w aA zA.length cA zA) (rB : IsRowF .f32 w aB zB.length cB zB) (hl : zA.length + zB.length ≤ 1048576) : Calls Try.prog 4 #[.agg #[.int .i64 WA, .int .i64 HA, .slice aA zA.length cA], .agg #[.int .i64 WB, .int .i64 HB, .slice aB zB.length cB], .float .f32 (pick .f32 vS nS)] w fun e w' => e = .returned (.bool true) ∧ Below w.heap.size w w' := by
  have CS := Lib.hid cS
  have CI := Lib.hid cI
  clear cS cI
  have RA := Lib.hid rA
  have RB := Lib.hid rB
  clear rA rB
  go_enter Try.func4, Try.ntmps4
  go_wp2_with fail
  refine (c_szP WA HA aA zA.length cA (1048576 : Int) _ (by omega) (by omega)).mono ?_
  rintro _ w1 ⟨rfl, b⟩
  have VpA_1 := Lib.hid (((Var.new' _ _ _ (w.heap.size) (by first | rfl | simp)).alloc _).keep b)
  have VpB_1 := Lib.hid ((Var.new' _ _ _ (w.heap.size + 1) (by first | rfl | simp)).keep b)
  have B_1 := Lib.hid ((((Below.refl w.heap.size w).alloc (Nat.le_refl _) _).alloc (by simp) _).trans (b.mono (by simp; omega)))
  have S_1 : w.heap.size + 2 ≤ w1.heap.size := by have := b.size; simp at this; omega
  have zpA_1 : w.heap.size < w1.heap.size := by omega
  have zpB_1 : w.heap.size + 1 < w1.heap.size := by omega
  clear b
  have hzA : ¬ (((1048576 : Int) - (zA.length : Int)) < 0) := by omega
  obtain ⟨cpB0, cpB1, cpB2⟩ := VpB_1.out.three
  go_wp2_with fail
  clear cpB0 cpB1 cpB2
  refine (c_szP WB HB aB zB.length cB ((1048576 : Int) - (zA.length : Int)) _ (by omega) (by omega)).mono ?_
  rintro _ w2 ⟨rfl, b⟩
  have VpA_2 := Lib.hid (VpA_1.out.keep b)
  have VpB_2 := Lib.hid (VpB_1.out.keep b)
  have B_2 := Lib.hid (B_1.out.trans (b.mono (by omega)))
  have S_2 : w1.heap.size + 0 ≤ w2.heap.size := by have := b.size; omega
  have zpA_2 : w.heap.size < w2.heap.size := by omega
  have zpB_2 : w.heap.size + 1 < w2.heap.size := by omega
  clear b
  clear VpA_1 zpA_1 VpB_1 zpB_1 B_1
  have hzB : ¬ ((((1048576 : Int) - (zA.length : Int)) - (zB.length : Int)) < 0) := by omega
  obtain ⟨cpA0, cpA1, cpA2⟩ := VpA_2.out.three
  obtain ⟨cpB0, cpB1, cpB2⟩ := VpB_2.out.three
  go_wp2_with fail
  have QA := Lib.hid (RA.out.below B_2.out)
  have QB := Lib.hid (RB.out.below B_2.out)
  go_cut [8, 9] (fun s6 s7 wx => ∃ b a c, s6 = .pointer (some ⟨b, 0, none⟩) ∧ s7 = .bool r.ok ∧ Var wx b #[.int .i64 r.W, .int .i64 r.H, .slice a r.zs.length c] ∧ Own 22 wx w2.heap.size a r.zs.length c r.zs ∧ Below w2.heap.size w2 wx ∧ w2.heap.size ≤ b ∧ r.zs.length ≤ 1048576)
  case first =>
    have KS : ∀ w' : World, Below w2.heap.size w2 w' → (Below w2.heap.size w2 w' ∧ w'.cell? ⟨w.heap.size, 0, none⟩ = some (.int .i64 WA) ∧ w'.cell? ⟨w.heap.size, 1, none⟩ = some (.int .i64 HA) ∧ w'.cell? ⟨w.heap.size, 2, none⟩ = some (.slice aA zA.length cA) ∧ w'.cell? ⟨w.heap.size + 1, 0, none⟩ = some (.int .i64 WB) ∧ w'.cell? ⟨w.heap.size + 1, 1, none⟩ = some (.int .i64 HB) ∧ w'.cell? ⟨w.heap.size + 1, 2, none⟩ = some (.slice aB zB.length cB)) := fun w' hB => ⟨hB, (VpA_2.out.keep hB).three.1, (VpA_2.out.keep hB).three.2.1, (VpA_2.out.keep hB).three.2.2, (VpB_2.out.keep hB).three.1, (VpB_2.out.keep hB).three.2.1, (VpB_2.out.keep hB).three.2.2⟩
    have KD := Lib.hid (KS _ (Below.refl _ _).drew)
    have KH := Lib.hid KS
    clear KS
    have eD : Below w2.heap.size w2 w2.drew := (Below.refl _ _).drew
    go_region_held3 (fun w' => Below w2.heap.size w2 w' ∧ w'.cell? ⟨w.heap.size, 0, none⟩ = some (.int .i64 WA) ∧ w'.cell? ⟨w.heap.size, 1, none⟩ = some (.int .i64 HA) ∧ w'.cell? ⟨w.heap.size, 2, none⟩ = some (.slice aA zA.length cA) ∧ w'.cell? ⟨w.heap.size + 1, 0, none⟩ = some (.int .i64 WB) ∧ w'.cell? ⟨w.heap.size + 1, 1, none⟩ = some (.int .i64 HB) ∧ w'.cell? ⟨w.heap.size + 1, 2, none⟩ = some (.slice aB zB.length cB)) (first | exact KD.out | exact KH.out _ eD | exact KH.out _ (eD.alloc eD.size _) | exact KH.out _ eA | exact KH.out _ (eA.alloc eA.size _) | exact KH.out _ eB | exact KH.out _ (eB.alloc eB.size _) | exact KH.out _ ef | exact KH.out _ (ef.alloc ef.size _) | exact KH.out _ (((ef.setCell (by first | omega | (simp <;> omega)) _).setCell (by first | omega | (simp <;> omega)) _).setCell (by first | omega | (simp <;> omega)) _)) (first | (go_at_call 12; ((with_reducible refine (c_toP WA HA aA zA.length cA zA _ (QA.out.below (And.left (by assumption))) (by omega)).mono ?_); rintro _ wwA ⟨gA, rfl, bA, oA⟩; obtain ⟨hcA, hfA⟩ := bcell bA; have eA : Below w2.heap.size w2 wwA := (Below.trans (And.left (by assumption)) (Below.mono bA (Below.size (And.left (by assumption))))); have qA := bA.size; (try (simp at qA)); (try (have tDA : w2.heap.size < wwA.heap.size := by omega)); (try (have tBA : wwB.heap.size < wwA.heap.size := by omega)))) | (go_at_call 12; ((with_reducible refine (c_toP WB HB aB zB.length cB zB _ (QB.out.below (And.left (by assumption))) (by omega)).mono ?_); rintro _ wwB ⟨gB, rfl, bB, oB⟩; obtain ⟨hcB, hfB⟩ := bcell bB; have eB : Below w2.heap.size w2 wwB := (Below.trans (And.left (by assumption)) (Below.mono bB (Below.size (And.left (by assumption))))); have qB := bB.size; (try (simp at qB)); (try (have tDB : w2.heap.size < wwB.heap.size := by omega)); (try (have tAB : wwA.heap.size < wwB.heap.size := by omega)))) | (go_at_call 11; (refine (CS.out _ _ _ _ _ (oA.below (by first | exact Below.refl _ _ | exact (Below.refl _ _).alloc (Nat.le_refl _) _ | exact bB | exact bB.alloc bB.size _ | exact (((Below.refl _ _).alloc (Nat.le_refl _) _).trans (bB.mono (by simp))))).row (oB.below (by first | exact Below.refl _ _ | exact (Below.refl _ _).alloc (Nat.le_refl _) _ | exact bA | exact bA.alloc bA.size _ | exact (((Below.refl _ _).alloc (Nat.le_refl _) _).trans (bA.mono (by simp))))).row).mono ?_); rintro _ wf ⟨af, cf, rfl, hrl, bf, of⟩; obtain ⟨hcf, hff⟩ := bcell bf; have ef : Below w2.heap.size w2 wf := (Below.trans (And.left (by assumption)) (Below.mono bf (Below.size (And.left (by assumption))))); have qf := bf.size; (try (simp at qf)); (try (have tDf : w2.heap.size < wf.heap.size := by omega)); (try (have tAf : wwA.heap.size < wf.heap.size := by omega)); (try (have tBf : wwB.heap.size < wf.heap.size := by omega))))
    all_goals (go_wp2_with fail; go_meet; first | (refine ⟨_, _, _, rfl, rfl, Var.new' _ _ _ _ (by first | rfl | simp), ((of.mono (by first | omega | (simp <;> omega))).alloc _), ef.alloc ef.size _, (by first | omega | (simp <;> omega)), hrl⟩) | (refine ⟨_, _, _, rfl, rfl, Var.mk3 (by simp <;> omega) (by go_simp) (by go_simp) (by go_simp), ((((of.mono (by first | omega | (simp <;> omega))).setCell (fun e => by have := of.in _ e; simp at this; omega) _).setCell (fun e => by have := of.in _ e; simp at this; omega) _).setCell (fun e => by have := of.in _ e; simp at this; omega) _), (((ef.setCell (by first | omega | (simp <;> omega)) _).setCell (by first | omega | (simp <;> omega)) _).setCell (by first | omega | (simp <;> omega)) _), (by first | omega | (simp <;> omega)), hrl⟩))
  obtain ⟨bu, au, cu, rfl, rfl, Vx, o, b, hbu, hrl⟩ := hcut
  obtain ⟨w3, rfl⟩ : ∃ x : World, x = wc := ⟨_, rfl⟩
  clear QA QB
  clear cpA0 cpA1 cpA2 cpB0 cpB1 cpB2
  have Vy := Lib.hid Vx
  clear Vx
  have Lu := Lib.hid o.in
  have Ou_3 := Lib.hid o
  clear o
  have VpA_3 := Lib.hid (VpA_2.out.keep b)
  have VpB_3 := Lib.hid (VpB_2.out.keep b)
  have B_3 := Lib.hid (B_2.out.trans (b.mono (by omega)))
  have S_3 : w2.heap.size + 0 ≤ w3.heap.size := by have := b.size; omega
  have zpA_3 : w.heap.size < w3.heap.size := by omega
  have zpB_3 : w.heap.size + 1 < w3.heap.size := by omega
  clear b
  clear VpA_2 zpA_2 VpB_2 zpB_2 B_2
  have Vu_3 := Lib.hid Vy.out
  have huu : bu < w3.heap.size := Vy.out.lt
  have zu_3 : bu < w3.heap.size := Vy.out.lt
  clear Vy
  obtain ⟨cpA0, cpA1, cpA2⟩ := VpA_3.out.three
  go_wp2_with fail
  clear cpA0 cpA1 cpA2
  refine (c_toP WA HA aA zA.length cA zA _ (RA.out.below B_3.out) (by omega)).mono ?_
  rintro _ w4 ⟨gxA, rfl, b, o⟩
  have LxA := Lib.hid o.in
  have OxA_4 := Lib.hid o
  clear o
  have VpA_4 := Lib.hid (VpA_3.out.keep b)
  have VpB_4 := Lib.hid (VpB_3.out.keep b)
  have Vu_4 := Lib.hid (Vu_3.out.keep b)
  have Ou_4 := Lib.hid (Ou_3.out.below b)
  have B_4 := Lib.hid (B_3.out.trans (b.mono (by omega)))
  have S_4 : w3.heap.size + 0 ≤ w4.heap.size := by have := b.size; omega
  have zpA_4 : w.heap.size < w4.heap.size := by omega
  have zpB_4 : w.heap.size + 1 < w4.heap.size := by omega
  have zu_4 : bu < w4.heap.size := by omega
  clear b
  clear VpA_3 zpA_3 VpB_3 zpB_3 Vu_3 zu_3 Ou_3 B_3
  obtain ⟨cpB0, cpB1, cpB2⟩ := VpB_4.out.three
  go_wp2_with fail
  clear cpB0 cpB1 cpB2
  refine (c_toP WB HB aB zB.length cB zB _ ((RB.out.below B_4.out).alloc _) (by omega)).mono ?_
  rintro _ w5 ⟨gxB, rfl, b, o⟩
  have LxB := Lib.hid o.in
  have LxB := Lib.hid (by have h := LxB.out; simp only [World.size_alloc] at h; exact h)
  have OxB_5 := Lib.hid o
  clear o
  have VpA_5 := Lib.hid ((VpA_4.out.alloc _).keep b)
  have VpB_5 := Lib.hid ((VpB_4.out.alloc _).keep b)
  have Vu_5 := Lib.hid ((Vu_4.out.alloc _).keep b)
  have VxA_5 := Lib.hid ((Var.new' _ _ _ (w4.heap.size) (by first | rfl | simp)).keep b)
  have Ou_5 := Lib.hid ((Ou_4.out.alloc _).below b)
  have OxA_5 := Lib.hid ((OxA_4.out.alloc _).below b)
  have B_5 := Lib.hid ((B_4.out.alloc (by omega) _).trans (b.mono (by simp; omega)))
  have S_5 : w4.heap.size + 1 ≤ w5.heap.size := by have := b.size; simp at this; omega
  have zpA_5 : w.heap.size < w5.heap.size := by omega
  have zpB_5 : w.heap.size + 1 < w5.heap.size := by omega
  have zu_5 : bu < w5.heap.size := by omega
  have zxA_5 : w4.heap.size < w5.heap.size := by omega
  clear b
  clear VpA_4 zpA_4 VpB_4 zpB_4 Vu_4 zu_4 Ou_4 OxA_4 B_4
  obtain ⟨cxA0, cxA1, cxA2⟩ := VxA_5.out.three
  go_wp2_with fail
  clear cxA0 cxA1 cxA2
  refine (CI.out _ _ _ _ _ (OxA_5.out.alloc _).row (OxB_5.out.alloc _).row).mono ?_
  rintro _ w6 ⟨ag, cg, rfl, hrl, b, o⟩
  clear hrl
  have Lg := Lib.hid o.in
  have Lg := Lib.hid (by have h := Lg.out; simp only [World.size_alloc] at h; exact h)
  have Og_6 := Lib.hid o
  clear o
  have VpA_6 := Lib.hid ((VpA_5.out.alloc _).keep b)
  have VpB_6 := Lib.hid ((VpB_5.out.alloc _).keep b)
  have Vu_6 := Lib.hid ((Vu_5.out.alloc _).keep b)
  have VxA_6 := Lib.hid ((VxA_5.out.alloc _).keep b)
  have VxB_6 := Lib.hid ((Var.new' _ _ _ (w5.heap.size) (by first | rfl | simp)).keep b)
  have Ou_6 := Lib.hid ((Ou_5.out.alloc _).below b)
  have OxA_6 := Lib.hid ((OxA_5.out.alloc _).below b)
  have OxB_6 := Lib.hid ((OxB_5.out.alloc _).below b)
  have B_6 := Lib.hid ((B_5.out.alloc (by omega) _).trans (b.mono (by simp; omega)))
  have S_6 : w5.heap.size + 1 ≤ w6.heap.size := by have := b.size; simp at this; omega
  have zpA_6 : w.heap.size < w6.heap.size := by omega
  have zpB_6 : w.heap.size + 1 < w6.heap.size := by omega
  have zu_6 : bu < w6.heap.size := by omega
  have zxA_6 : w4.heap.size < w6.heap.size := by omega
  have zxB_6 : w5.heap.size < w6.heap.size := by omega
  clear b
  clear VpA_5 zpA_5 VpB_5 zpB_5 Vu_5 zu_5 VxA_5 zxA_5 Ou_5 OxA_5 OxB_5 B_5
  obtain ⟨cu0, cu1, cu2⟩ := Vu_6.out.three
  go_wp2_with fail
  clear cu0 cu1 cu2
  refine (c_eqP _ _ _ _ _ _ _ _ _ (Og_6.out.alloc _).row (Ou_6.out.alloc _).row).mono ?_
  rintro _ w7 ⟨rfl, b⟩
  have VpA_7 := Lib.hid ((VpA_6.out.alloc _).keep b)
  have VpB_7 := Lib.hid ((VpB_6.out.alloc _).keep b)
  have Vu_7 := Lib.hid ((Vu_6.out.alloc _).keep b)
  have VxA_7 := Lib.hid ((VxA_6.out.alloc _).keep b)
  have VxB_7 := Lib.hid ((VxB_6.out.alloc _).keep b)
  have Vg_7 := Lib.hid ((Var.new' _ _ _ (w6.heap.size) (by first | rfl | simp)).keep b)
  have Ou_7 := Lib.hid ((Ou_6.out.alloc _).below b)
  have OxA_7 := Lib.hid ((OxA_6.out.alloc _).below b)
  have OxB_7 := Lib.hid ((OxB_6.out.alloc _).below b)
  have Og_7 := Lib.hid ((Og_6.out.alloc _).below b)
  have B_7 := Lib.hid ((B_6.out.alloc (by omega) _).trans (b.mono (by simp; omega)))
  have S_7 : w6.heap.size + 1 ≤ w7.heap.size := by have := b.size; simp at this; omega
  have zpA_7 : w.heap.size < w7.heap.size := by omega
  have zpB_7 : w.heap.size + 1 < w7.heap.size := by omega
  have zu_7 : bu < w7.heap.size := by omega
  have zxA_7 : w4.heap.size < w7.heap.size := by omega
  have zxB_7 : w5.heap.size < w7.heap.size := by omega
  have zg_7 : w6.heap.size < w7.heap.size := by omega
  clear b
  clear VpA_6 zpA_6 VpB_6 zpB_6 Vu_6 zu_6 VxA_6 zxA_6 VxB_6 zxB_6 Ou_6 OxA_6 OxB_6 Og_6 B_6
  obtain ⟨cpA0, cpA1, cpA2⟩ := VpA_7.out.three
  obtain ⟨cxA0, cxA1, cxA2⟩ := VxA_7.out.three
  go_wp2_with fail
  have D : Below w7.heap.size w7 w7.drew := (Below.refl _ _).drew
  have RD := Lib.hid ((RA.out.below B_7.out).below D)
  have XD := Lib.hid (OxA_7.out.below D)
  have HD := Lib.hid D
  clear D
  go_region_held3 (fun w' => w'.cell? ⟨w.heap.size, 0, none⟩ = some (.int .i64 WA) ∧ w'.cell? ⟨w.heap.size, 1, none⟩ = some (.int .i64 HA) ∧ w'.cell? ⟨w.heap.size, 2, none⟩ = some (.slice aA zA.length cA) ∧ w'.cell? ⟨w4.heap.size, 0, none⟩ = some (.int .i64 WA) ∧ w'.cell? ⟨w4.heap.size, 1, none⟩ = some (.int .i64 HA) ∧ w'.cell? ⟨w4.heap.size, 2, none⟩ = some (.slice (some ⟨gxA, 0, none⟩) zA.length zA.length)) (first | exact ⟨cpA0, cpA1, cpA2, cxA0, cxA1, cxA2⟩ | (have e1 := ((VpA_7.out.keep HD.out).keep b7).three; have e2 := ((VxA_7.out.keep HD.out).keep b7).three; exact ⟨e1.1, e1.2.1, e1.2.2, e2.1, e2.2.1, e2.2.2⟩) | (have e1 := (((VpA_7.out.keep HD.out).keep b7).keep b8).three; have e2 := (((VxA_7.out.keep HD.out).keep b7).keep b8).three; exact ⟨e1.1, e1.2.1, e1.2.2, e2.1, e2.2.1, e2.2.2⟩)) (first | (go_at_call 12; refine (c_toP WA HA aA zA.length cA zA _ RD.out (by omega)).mono ?_; rintro _ wt ⟨g7, rfl, b7, o7⟩) | (go_at_call 7; refine (c_eqP _ _ _ _ _ _ _ _ _ (XD.out.below b7).row o7.row).mono ?_; rintro _ w8 ⟨rfl, b8⟩))
  have b := HD.out.trans (b7.trans (b8.mono b7.size))
  clear RD XD HD b7 b8 o7
  clear cpA0 cpA1 cpA2 cxA0 cxA1 cxA2
  have VpA_8 := Lib.hid (VpA_7.out.keep b)
  have VpB_8 := Lib.hid (VpB_7.out.keep b)
  have Vu_8 := Lib.hid (Vu_7.out.keep b)
  have VxA_8 := Lib.hid (VxA_7.out.keep b)
  have VxB_8 := Lib.hid (VxB_7.out.keep b)
  have Vg_8 := Lib.hid (Vg_7.out.keep b)
  have Ou_8 := Lib.hid (Ou_7.out.below b)
  have OxA_8 := Lib.hid (OxA_7.out.below b)
  have OxB_8 := Lib.hid (OxB_7.out.below b)
  have Og_8 := Lib.hid (Og_7.out.below b)
  have B_8 := Lib.hid (B_7.out.trans (b.mono (by omega)))
  have S_8 : w7.heap.size + 0 ≤ w8.heap.size := by have := b.size; omega
  have zpA_8 : w.heap.size < w8.heap.size := by omega
  have zpB_8 : w.heap.size + 1 < w8.heap.size := by omega
  have zu_8 : bu < w8.heap.size := by omega
  have zxA_8 : w4.heap.size < w8.heap.size := by omega
  have zxB_8 : w5.heap.size < w8.heap.size := by omega
  have zg_8 : w6.heap.size < w8.heap.size := by omega
  clear b
  clear VpA_7 zpA_7 VpB_7 zpB_7 Vu_7 zu_7 VxA_7 zxA_7 VxB_7 zxB_7 Vg_7 zg_7 Ou_7 OxA_7 OxB_7 Og_7 B_7
  obtain ⟨cpB0, cpB1, cpB2⟩ := VpB_8.out.three
  obtain ⟨cxB0, cxB1, cxB2⟩ := VxB_8.out.three
  go_wp2_with fail
  have D : Below w8.heap.size w8 w8.drew := (Below.refl _ _).drew
  have RD := Lib.hid ((RB.out.below B_8.out).below D)
  have XD := Lib.hid (OxB_8.out.below D)
  have HD := Lib.hid D
  clear D
  go_region_held3 (fun w' => w'.cell? ⟨w.heap.size + 1, 0, none⟩ = some (.int .i64 WB) ∧ w'.cell? ⟨w.heap.size + 1, 1, none⟩ = some (.int .i64 HB) ∧ w'.cell? ⟨w.heap.size + 1, 2, none⟩ = some (.slice aB zB.length cB) ∧ w'.cell? ⟨w5.heap.size, 0, none⟩ = some (.int .i64 WB) ∧ w'.cell? ⟨w5.heap.size, 1, none⟩ = some (.int .i64 HB) ∧ w'.cell? ⟨w5.heap.size, 2, none⟩ = some (.slice (some ⟨gxB, 0, none⟩) zB.length zB.length)) (first | exact ⟨cpB0, cpB1, cpB2, cxB0, cxB1, cxB2⟩ | (have e1 := ((VpB_8.out.keep HD.out).keep b7).three; have e2 := ((VxB_8.out.keep HD.out).keep b7).three; exact ⟨e1.1, e1.2.1, e1.2.2, e2.1, e2.2.1, e2.2.2⟩) | (have e1 := (((VpB_8.out.keep HD.out).keep b7).keep b8).three; have e2 := (((VxB_8.out.keep HD.out).keep b7).keep b8).three; exact ⟨e1.1, e1.2.1, e1.2.2, e2.1, e2.2.1, e2.2.2⟩)) (first | (go_at_call 12; refine (c_toP WB HB aB zB.length cB zB _ RD.out (by omega)).mono ?_; rintro _ wt ⟨g7, rfl, b7, o7⟩) | (go_at_call 7; refine (c_eqP _ _ _ _ _ _ _ _ _ (XD.out.below b7).row o7.row).mono ?_; rintro _ w9 ⟨rfl, b8⟩))
  have b := HD.out.trans (b7.trans (b8.mono b7.size))
  clear RD XD HD b7 b8 o7
  clear cpB0 cpB1 cpB2 cxB0 cxB1 cxB2
  have VpA_9 := Lib.hid (VpA_8.out.keep b)
  have VpB_9 := Lib.hid (VpB_8.out.keep b)
  have Vu_9 := Lib.hid (Vu_8.out.keep b)
  have VxA_9 := Lib.hid (VxA_8.out.keep b)
  have VxB_9 := Lib.hid (VxB_8.out.keep b)
  have Vg_9 := Lib.hid (Vg_8.out.keep b)
  have Ou_9 := Lib.hid (Ou_8.out.below b)
  have OxA_9 := Lib.hid (OxA_8.out.below b)
  have OxB_9 := Lib.hid (OxB_8.out.below b)
  have Og_9 := Lib.hid (Og_8.out.below b)
  have B_9 := Lib.hid (B_8.out.trans (b.mono (by omega)))
  have S_9 : w8.heap.size + 0 ≤ w9.heap.size := by have := b.size; omega
  have zpA_9 : w.heap.size < w9.heap.size := by omega
  have zpB_9 : w.heap.size + 1 < w9.heap.size := by omega
  have zu_9 : bu < w9.heap.size := by omega
  have zxA_9 : w4.heap.size < w9.heap.size := by omega
  have zxB_9 : w5.heap.size < w9.heap.size := by omega
  have zg_9 : w6.heap.size < w9.heap.size := by omega
  clear b
  clear VpA_8 zpA_8 VpB_8 zpB_8 Vu_8 zu_8 VxA_8 zxA_8 VxB_8 zxB_8 Vg_8 zg_8 Ou_8 OxA_8 OxB_8 Og_8 B_8
  obtain ⟨cxA0, cxA1, cxA2⟩ := VxA_9.out.three
  go_wp2_with fail
  clear cxA0 cxA1 cxA2
  refine (c_markP _ _ _ _ _ _ 1 _ _ OxA_9.out (by omega)).mono ?_
  rintro _ w10 ⟨rfl, b, o⟩
  have On := Lib.hid o
  clear o
  have VpA_10 := Lib.hid (VpA_9.out.kept b (by intro e; have := LxA.out _ e.symm; omega))
  have VpB_10 := Lib.hid (VpB_9.out.kept b (by intro e; have := LxA.out _ e.symm; omega))
  have Vu_10 := Lib.hid (Vu_9.out.kept b (by intro e; have := LxA.out _ e.symm; omega))
  have VxA_10 := Lib.hid (VxA_9.out.kept b (by intro e; have := LxA.out _ e.symm; omega))
  have VxB_10 := Lib.hid (VxB_9.out.kept b (by intro e; have := LxA.out _ e.symm; omega))
  have Vg_10 := Lib.hid (Vg_9.out.kept b (by intro e; have := LxA.out _ e.symm; omega))
  have Ou_10 := Lib.hid (Ou_9.out.kept b (blk_apart Lu.out LxA.out (by omega)))
  have OxB_10 := Lib.hid (OxB_9.out.kept b (blk_apart LxB.out LxA.out (by omega)))
  have Og_10 := Lib.hid (Og_9.out.kept b (blk_apart Lg.out LxA.out (by omega)))
  have B_10 := Lib.hid (B_9.out.grown b (by omega) (fun k e => by have := LxA.out k e; omega))
  have S_10 : w9.heap.size ≤ w10.heap.size := b.size
  have zpA_10 : w.heap.size < w10.heap.size := by omega
  have zpB_10 : w.heap.size + 1 < w10.heap.size := by omega
  have zu_10 : bu < w10.heap.size := by omega
  have zxA_10 : w4.heap.size < w10.heap.size := by omega
  have zxB_10 : w5.heap.size < w10.heap.size := by omega
  have zg_10 : w6.heap.size < w10.heap.size := by omega
  clear b
  clear VpA_9 zpA_9 VpB_9 zpB_9 Vu_9 zu_9 VxA_9 zxA_9 VxB_9 zxB_9 Vg_9 zg_9 Ou_9 OxA_9 OxB_9 Og_9 B_9
  have OxA_10 := Lib.hid On.out
  clear On
  obtain ⟨cxB0, cxB1, cxB2⟩ := VxB_10.out.three
  go_wp2_with fail
  clear cxB0 cxB1 cxB2
  refine (c_markP _ _ _ _ _ _ (1 + zA.length) _ _ OxB_10.out (by omega)).mono ?_
  rintro _ w11 ⟨rfl, b, o⟩
  have On := Lib.hid o
  clear o
  have VpA_11 := Lib.hid (VpA_10.out.kept b (by intro e; have := LxB.out _ e.symm; omega))
  have VpB_11 := Lib.hid (VpB_10.out.kept b (by intro e; have := LxB.out _ e.symm; omega))
  have Vu_11 := Lib.hid (Vu_10.out.kept b (by intro e; have := LxB.out _ e.symm; omega))
  have VxA_11 := Lib.hid (VxA_10.out.kept b (by intro e; have := LxB.out _ e.symm; omega))
  have VxB_11 := Lib.hid (VxB_10.out.kept b (by intro e; have := LxB.out _ e.symm; omega))
  have Vg_11 := Lib.hid (Vg_10.out.kept b (by intro e; have := LxB.out _ e.symm; omega))
  have Ou_11 := Lib.hid (Ou_10.out.kept b (blk_apart Lu.out LxB.out (by omega)))
  have OxA_11 := Lib.hid (OxA_10.out.kept b (blk_apart LxA.out LxB.out (by omega)))
  have Og_11 := Lib.hid (Og_10.out.kept b (blk_apart Lg.out LxB.out (by omega)))
  have B_11 := Lib.hid (B_10.out.grown b (by omega) (fun k e => by have := LxB.out k e; omega))
  have S_11 : w10.heap.size ≤ w11.heap.size := b.size
  have zpA_11 : w.heap.size < w11.heap.size := by omega
  have zpB_11 : w.heap.size + 1 < w11.heap.size := by omega
  have zu_11 : bu < w11.heap.size := by omega
  have zxA_11 : w4.heap.size < w11.heap.size := by omega
  have zxB_11 : w5.heap.size < w11.heap.size := by omega
  have zg_11 : w6.heap.size < w11.heap.size := by omega
  clear b
  clear VpA_10 zpA_10 VpB_10 zpB_10 Vu_10 zu_10 VxA_10 zxA_10 VxB_10 zxB_10 Vg_10 zg_10 Ou_10 OxA_10 OxB_10 Og_10 B_10
  have OxB_11 := Lib.hid On.out
  clear On
  have hk : ¬ (((((1 + zA.length) + zB.length) : Nat) : Int) < 0) := by omega
  clear OxA_11 LxA
  clear OxB_11 LxB
  obtain ⟨cg0, cg1, cg2⟩ := Vg_11.out.three
  obtain ⟨cu0, cu1, cu2⟩ := Vu_11.out.three
  go_wp2_with fail
  clear cg0 cg1 cg2 cu0 cu1 cu2
  refine (c_eqP _ _ _ _ _ _ _ _ _ Og_11.out.row Ou_11.out.row).mono ?_
  rintro _ w12 ⟨rfl, b⟩
  have VpA_12 := Lib.hid (VpA_11.out.keep b)
  have VpB_12 := Lib.hid (VpB_11.out.keep b)
  have Vu_12 := Lib.hid (Vu_11.out.keep b)
  have VxA_12 := Lib.hid (VxA_11.out.keep b)
  have VxB_12 := Lib.hid (VxB_11.out.keep b)
  have Vg_12 := Lib.hid (Vg_11.out.keep b)
  have Ou_12 := Lib.hid (Ou_11.out.below b)
  have Og_12 := Lib.hid (Og_11.out.below b)
  have B_12 := Lib.hid (B_11.out.trans (b.mono (by omega)))
  have S_12 : w11.heap.size + 0 ≤ w12.heap.size := by have := b.size; omega
  have zpA_12 : w.heap.size < w12.heap.size := by omega
  have zpB_12 : w.heap.size + 1 < w12.heap.size := by omega
  have zu_12 : bu < w12.heap.size := by omega
  have zxA_12 : w4.heap.size < w12.heap.size := by omega
  have zxB_12 : w5.heap.size < w12.heap.size := by omega
  have zg_12 : w6.heap.size < w12.heap.size := by omega
  clear b
  clear VpA_11 zpA_11 VpB_11 zpB_11 Vu_11 zu_11 VxA_11 zxA_11 VxB_11 zxB_11 Vg_11 zg_11 Ou_11 Og_11 B_11
  obtain ⟨cg0, cg1, cg2⟩ := Vg_12.out.three
  go_wp2_with fail
  clear cg0 cg1 cg2
  refine (c_markP _ _ _ _ _ _ 1 _ _ Og_12.out (by omega)).mono ?_
  rintro _ w13 ⟨rfl, b, o⟩
  have On := Lib.hid o
  clear o
  have VpA_13 := Lib.hid (VpA_12.out.kept b (by intro e; have := Lg.out _ e.symm; omega))
  have VpB_13 := Lib.hid (VpB_12.out.kept b (by intro e; have := Lg.out _ e.symm; omega))
  have Vu_13 := Lib.hid (Vu_12.out.kept b (by intro e; have := Lg.out _ e.symm; omega))
  have VxA_13 := Lib.hid (VxA_12.out.kept b (by intro e; have := Lg.out _ e.symm; omega))
  have VxB_13 := Lib.hid (VxB_12.out.kept b (by intro e; have := Lg.out _ e.symm; omega))
  have Vg_13 := Lib.hid (Vg_12.out.kept b (by intro e; have := Lg.out _ e.symm; omega))
  have Ou_13 := Lib.hid (Ou_12.out.kept b (blk_apart Lu.out Lg.out (by omega)))
  have B_13 := Lib.hid (B_12.out.grown b (by omega) (fun k e => by have := Lg.out k e; omega))
  have S_13 : w12.heap.size ≤ w13.heap.size := b.size
  have zpA_13 : w.heap.size < w13.heap.size := by omega
  have zpB_13 : w.heap.size + 1 < w13.heap.size := by omega
  have zu_13 : bu < w13.heap.size := by omega
  have zxA_13 : w4.heap.size < w13.heap.size := by omega
  have zxB_13 : w5.heap.size < w13.heap.size := by omega
  have zg_13 : w6.heap.size < w13.heap.size := by omega
  clear b
  clear VpA_12 zpA_12 VpB_12 zpB_12 Vu_12 zu_12 VxA_12 zxA_12 VxB_12 zxB_12 Vg_12 zg_12 Ou_12 Og_12 B_12
  have Og_13 := Lib.hid On.out
  clear On
  obtain ⟨cg0, cg1, cg2⟩ := Vg_13.out.three
  go_wp2_with fail
  clear cg0 cg1 cg2
  refine (c_heldP _ _ _ _ _ 1 _ Og_13.out.row (by omega)).mono ?_
  rintro _ w14 ⟨rfl, b⟩
  have VpA_14 := Lib.hid (VpA_13.out.keep b)
  have VpB_14 := Lib.hid (VpB_13.out.keep b)
  have Vu_14 := Lib.hid (Vu_13.out.keep b)
  have VxA_14 := Lib.hid (VxA_13.out.keep b)
  have VxB_14 := Lib.hid (VxB_13.out.keep b)
  have Vg_14 := Lib.hid (Vg_13.out.keep b)
  have Ou_14 := Lib.hid (Ou_13.out.below b)
  have Og_14 := Lib.hid (Og_13.out.below b)
  have B_14 := Lib.hid (B_13.out.trans (b.mono (by omega)))
  have S_14 : w13.heap.size + 0 ≤ w14.heap.size := by have := b.size; omega
  have zpA_14 : w.heap.size < w14.heap.size := by omega
  have zpB_14 : w.heap.size + 1 < w14.heap.size := by omega
  have zu_14 : bu < w14.heap.size := by omega
  have zxA_14 : w4.heap.size < w14.heap.size := by omega
  have zxB_14 : w5.heap.size < w14.heap.size := by omega
  have zg_14 : w6.heap.size < w14.heap.size := by omega
  clear b
  clear VpA_13 zpA_13 VpB_13 zpB_13 Vu_13 zu_13 VxA_13 zxA_13 VxB_13 zxB_13 Vg_13 zg_13 Ou_13 Og_13 B_13
  have hq : ¬ (((1 + r.zs.length : Nat) : Int) < 0) := by omega
  obtain ⟨cpA0, cpA1, cpA2⟩ := VpA_14.out.three
  obtain ⟨cpB0, cpB1, cpB2⟩ := VpB_14.out.three
  go_wp2_with fail
  have QA := Lib.hid (RA.out.below B_14.out)
  have QB := Lib.hid (RB.out.below B_14.out)
  go_cut [17, 18] (fun s6 s7 wx => ∃ b a c, s6 = .pointer (some ⟨b, 0, none⟩) ∧ s7 = .bool r.ok ∧ Var wx b #[.int .i64 r.W, .int .i64 r.H, .slice a r.zs.length c] ∧ Own 22 wx w14.heap.size a r.zs.length c r.zs ∧ Below w14.heap.size w14 wx ∧ w14.heap.size ≤ b ∧ r.zs.length ≤ 1048576)
  case first =>
    have KS : ∀ w' : World, Below w14.heap.size w14 w' → (Below w14.heap.size w14 w' ∧ w'.cell? ⟨w.heap.size, 0, none⟩ = some (.int .i64 WA) ∧ w'.cell? ⟨w.heap.size, 1, none⟩ = some (.int .i64 HA) ∧ w'.cell? ⟨w.heap.size, 2, none⟩ = some (.slice aA zA.length cA) ∧ w'.cell? ⟨w.heap.size + 1, 0, none⟩ = some (.int .i64 WB) ∧ w'.cell? ⟨w.heap.size + 1, 1, none⟩ = some (.int .i64 HB) ∧ w'.cell? ⟨w.heap.size + 1, 2, none⟩ = some (.slice aB zB.length cB)) := fun w' hB => ⟨hB, (VpA_14.out.keep hB).three.1, (VpA_14.out.keep hB).three.2.1, (VpA_14.out.keep hB).three.2.2, (VpB_14.out.keep hB).three.1, (VpB_14.out.keep hB).three.2.1, (VpB_14.out.keep hB).three.2.2⟩
    have KD := Lib.hid (KS _ (Below.refl _ _).drew)
    have KH := Lib.hid KS
    clear KS
    have eD : Below w14.heap.size w14 w14.drew := (Below.refl _ _).drew
    go_region_held3 (fun w' => Below w14.heap.size w14 w' ∧ w'.cell? ⟨w.heap.size, 0, none⟩ = some (.int .i64 WA) ∧ w'.cell? ⟨w.heap.size, 1, none⟩ = some (.int .i64 HA) ∧ w'.cell? ⟨w.heap.size, 2, none⟩ = some (.slice aA zA.length cA) ∧ w'.cell? ⟨w.heap.size + 1, 0, none⟩ = some (.int .i64 WB) ∧ w'.cell? ⟨w.heap.size + 1, 1, none⟩ = some (.int .i64 HB) ∧ w'.cell? ⟨w.heap.size + 1, 2, none⟩ = some (.slice aB zB.length cB)) (first | exact KD.out | exact KH.out _ eD | exact KH.out _ (eD.alloc eD.size _) | exact KH.out _ eA | exact KH.out _ (eA.alloc eA.size _) | exact KH.out _ eB | exact KH.out _ (eB.alloc eB.size _) | exact KH.out _ ef | exact KH.out _ (ef.alloc ef.size _) | exact KH.out _ (((ef.setCell (by first | omega | (simp <;> omega)) _).setCell (by first | omega | (simp <;> omega)) _).setCell (by first | omega | (simp <;> omega)) _)) (first | (go_at_call 12; ((with_reducible refine (c_toP WA HA aA zA.length cA zA _ (QA.out.below (And.left (by assumption))) (by omega)).mono ?_); rintro _ wwA ⟨gA, rfl, bA, oA⟩; obtain ⟨hcA, hfA⟩ := bcell bA; have eA : Below w14.heap.size w14 wwA := (Below.trans (And.left (by assumption)) (Below.mono bA (Below.size (And.left (by assumption))))); have qA := bA.size; (try (simp at qA)); (try (have tDA : w14.heap.size < wwA.heap.size := by omega)); (try (have tBA : wwB.heap.size < wwA.heap.size := by omega)))) | (go_at_call 12; ((with_reducible refine (c_toP WB HB aB zB.length cB zB _ (QB.out.below (And.left (by assumption))) (by omega)).mono ?_); rintro _ wwB ⟨gB, rfl, bB, oB⟩; obtain ⟨hcB, hfB⟩ := bcell bB; have eB : Below w14.heap.size w14 wwB := (Below.trans (And.left (by assumption)) (Below.mono bB (Below.size (And.left (by assumption))))); have qB := bB.size; (try (simp at qB)); (try (have tDB : w14.heap.size < wwB.heap.size := by omega)); (try (have tAB : wwA.heap.size < wwB.heap.size := by omega)))) | (go_at_call 13; (refine (CI.out _ _ _ _ _ (oA.below (by first | exact Below.refl _ _ | exact (Below.refl _ _).alloc (Nat.le_refl _) _ | exact bB | exact bB.alloc bB.size _ | exact (((Below.refl _ _).alloc (Nat.le_refl _) _).trans (bB.mono (by simp))))).row (oB.below (by first | exact Below.refl _ _ | exact (Below.refl _ _).alloc (Nat.le_refl _) _ | exact bA | exact bA.alloc bA.size _ | exact (((Below.refl _ _).alloc (Nat.le_refl _) _).trans (bA.mono (by simp))))).row).mono ?_); rintro _ wf ⟨af, cf, rfl, hrl, bf, of⟩; obtain ⟨hcf, hff⟩ := bcell bf; have ef : Below w14.heap.size w14 wf := (Below.trans (And.left (by assumption)) (Below.mono bf (Below.size (And.left (by assumption))))); have qf := bf.size; (try (simp at qf)); (try (have tDf : w14.heap.size < wf.heap.size := by omega)); (try (have tAf : wwA.heap.size < wf.heap.size := by omega)); (try (have tBf : wwB.heap.size < wf.heap.size := by omega))))
    all_goals (go_wp2_with fail; go_meet; first | (refine ⟨_, _, _, rfl, rfl, Var.new' _ _ _ _ (by first | rfl | simp), ((of.mono (by first | omega | (simp <;> omega))).alloc _), ef.alloc ef.size _, (by first | omega | (simp <;> omega)), hrl⟩) | (refine ⟨_, _, _, rfl, rfl, Var.mk3 (by simp <;> omega) (by go_simp) (by go_simp) (by go_simp), ((((of.mono (by first | omega | (simp <;> omega))).setCell (fun e => by have := of.in _ e; simp at this; omega) _).setCell (fun e => by have := of.in _ e; simp at this; omega) _).setCell (fun e => by have := of.in _ e; simp at this; omega) _), (((ef.setCell (by first | omega | (simp <;> omega)) _).setCell (by first | omega | (simp <;> omega)) _).setCell (by first | omega | (simp <;> omega)) _), (by first | omega | (simp <;> omega)), hrl⟩))
  obtain ⟨bh, ah, ch, rfl, rfl, Vx, o, b, hbh, hrl⟩ := hcut
  clear hrl
  obtain ⟨w15, rfl⟩ : ∃ x : World, x = wc := ⟨_, rfl⟩
  clear QA QB
  clear cpA0 cpA1 cpA2 cpB0 cpB1 cpB2
  have Vy := Lib.hid Vx
  clear Vx
  have Lh := Lib.hid o.in
  have Oh_15 := Lib.hid o
  clear o
  have VpA_15 := Lib.hid (VpA_14.out.keep b)
  have VpB_15 := Lib.hid (VpB_14.out.keep b)
  have Vu_15 := Lib.hid (Vu_14.out.keep b)
  have VxA_15 := Lib.hid (VxA_14.out.keep b)
  have VxB_15 := Lib.hid (VxB_14.out.keep b)
  have Vg_15 := Lib.hid (Vg_14.out.keep b)
  have Ou_15 := Lib.hid (Ou_14.out.below b)
  have Og_15 := Lib.hid (Og_14.out.below b)
  have B_15 := Lib.hid (B_14.out.trans (b.mono (by omega)))
  have S_15 : w14.heap.size + 0 ≤ w15.heap.size := by have := b.size; omega
  have zpA_15 : w.heap.size < w15.heap.size := by omega
  have zpB_15 : w.heap.size + 1 < w15.heap.size := by omega
  have zu_15 : bu < w15.heap.size := by omega
  have zxA_15 : w4.heap.size < w15.heap.size := by omega
  have zxB_15 : w5.heap.size < w15.heap.size := by omega
  have zg_15 : w6.heap.size < w15.heap.size := by omega
  clear b
  clear VpA_14 zpA_14 VpB_14 zpB_14 Vu_14 zu_14 VxA_14 zxA_14 VxB_14 zxB_14 Vg_14 zg_14 Ou_14 Og_14 B_14
  have Vh_15 := Lib.hid Vy.out
  have huh : bh < w15.heap.size := Vy.out.lt
  have zh_15 : bh < w15.heap.size := Vy.out.lt
  clear Vy
  obtain ⟨ch0, ch1, ch2⟩ := Vh_15.out.three
  obtain ⟨cu0, cu1, cu2⟩ := Vu_15.out.three
  go_wp2_with fail
  clear ch0 ch1 ch2 cu0 cu1 cu2
  refine (c_eqP _ _ _ _ _ _ _ _ _ Oh_15.out.row Ou_15.out.row).mono ?_
  rintro _ w16 ⟨rfl, b⟩
  have VpA_16 := Lib.hid (VpA_15.out.keep b)
  have VpB_16 := Lib.hid (VpB_15.out.keep b)
  have Vu_16 := Lib.hid (Vu_15.out.keep b)
  have VxA_16 := Lib.hid (VxA_15.out.keep b)
  have VxB_16 := Lib.hid (VxB_15.out.keep b)
  have Vg_16 := Lib.hid (Vg_15.out.keep b)
  have Vh_16 := Lib.hid (Vh_15.out.keep b)
  have Ou_16 := Lib.hid (Ou_15.out.below b)
  have Og_16 := Lib.hid (Og_15.out.below b)
  have Oh_16 := Lib.hid (Oh_15.out.below b)
  have B_16 := Lib.hid (B_15.out.trans (b.mono (by omega)))
  have S_16 : w15.heap.size + 0 ≤ w16.heap.size := by have := b.size; omega
  have zpA_16 : w.heap.size < w16.heap.size := by omega
  have zpB_16 : w.heap.size + 1 < w16.heap.size := by omega
  have zu_16 : bu < w16.heap.size := by omega
  have zxA_16 : w4.heap.size < w16.heap.size := by omega
  have zxB_16 : w5.heap.size < w16.heap.size := by omega
  have zg_16 : w6.heap.size < w16.heap.size := by omega
  have zh_16 : bh < w16.heap.size := by omega
  clear b
  clear VpA_15 zpA_15 VpB_15 zpB_15 Vu_15 zu_15 VxA_15 zxA_15 VxB_15 zxB_15 Vg_15 zg_15 Vh_15 zh_15 Ou_15 Og_15 Oh_15 B_15
  obtain ⟨cg0, cg1, cg2⟩ := Vg_16.out.three
  go_wp2_with fail
  clear cg0 cg1 cg2
  refine (c_heldP _ _ _ _ _ 1 _ Og_16.out.row (by omega)).mono ?_
  rintro _ w17 ⟨rfl, b⟩
  have VpA_17 := Lib.hid (VpA_16.out.keep b)
  have VpB_17 := Lib.hid (VpB_16.out.keep b)
  have Vu_17 := Lib.hid (Vu_16.out.keep b)
  have VxA_17 := Lib.hid (VxA_16.out.keep b)
  have VxB_17 := Lib.hid (VxB_16.out.keep b)
  have Vg_17 := Lib.hid (Vg_16.out.keep b)
  have Vh_17 := Lib.hid (Vh_16.out.keep b)
  have Ou_17 := Lib.hid (Ou_16.out.below b)
  have Og_17 := Lib.hid (Og_16.out.below b)
  have Oh_17 := Lib.hid (Oh_16.out.below b)
  have B_17 := Lib.hid (B_16.out.trans (b.mono (by omega)))
  have S_17 : w16.heap.size + 0 ≤ w17.heap.size := by have := b.size; omega
  have zpA_17 : w.heap.size < w17.heap.size := by omega
  have zpB_17 : w.heap.size + 1 < w17.heap.size := by omega
  have zu_17 : bu < w17.heap.size := by omega
  have zxA_17 : w4.heap.size < w17.heap.size := by omega
  have zxB_17 : w5.heap.size < w17.heap.size := by omega
  have zg_17 : w6.heap.size < w17.heap.size := by omega
  have zh_17 : bh < w17.heap.size := by omega
  clear b
  clear VpA_16 zpA_16 VpB_16 zpB_16 Vu_16 zu_16 VxA_16 zxA_16 VxB_16 zxB_16 Vg_16 zg_16 Vh_16 zh_16 Ou_16 Og_16 Oh_16 B_16
  go_wp2_with fail
  go_ret
  exact ⟨rfl, B_17.out⟩
theorem walkL0 (WA HA : Int) (zA : List Nat) (aA : Option Addr) (cA : Nat) (WB HB : Int) (zB : List Nat) (aB : Option Addr) (cB : Nat) (vS nS : Nat) (w : World) (rA : IsRowF .f32 w aA zA.length cA zA) (rB : IsRowF .f32 w aB zB.length cB zB)  (hm : zA.length ≤ maxLen) (hl : 1048576 < zA.length) : Calls Try.prog 4 #[.agg #[.int .i64 WA, .int .i64 HA, .slice aA zA.length cA], .agg #[.int .i64 WB, .int .i64 HB, .slice aB zB.length cB], .float .f32 (pick .f32 vS nS)] w fun e w' => e = .returned (.bool true) ∧ Below w.heap.size w w' := by
  unfold maxLen at hm
  have RA := Lib.hid rA
  have RB := Lib.hid rB
  clear rA rB
  go_enter Try.func4, Try.ntmps4
  go_wp2_with fail
  refine (c_szP_no WA HA aA zA.length cA (1048576 : Int) _ (by omega) (by omega)).mono ?_
  rintro _ w1 ⟨rfl, b⟩
  have VpA_1 := Lib.hid (((Var.new' _ _ _ (w.heap.size) (by first | rfl | simp)).alloc _).keep b)
  have VpB_1 := Lib.hid ((Var.new' _ _ _ (w.heap.size + 1) (by first | rfl | simp)).keep b)
  have B_1 := Lib.hid ((((Below.refl w.heap.size w).alloc (Nat.le_refl _) _).alloc (by simp) _).trans (b.mono (by simp; omega)))
  have S_1 : w.heap.size + 2 ≤ w1.heap.size := by have := b.size; simp at this; omega
  have zpA_1 : w.heap.size < w1.heap.size := by omega
  have zpB_1 : w.heap.size + 1 < w1.heap.size := by omega
  clear b
  go_wp2_with fail
  go_ret
  exact ⟨rfl, B_1.out⟩
theorem walkL1 (WA HA : Int) (zA : List Nat) (aA : Option Addr) (cA : Nat) (WB HB : Int) (zB : List Nat) (aB : Option Addr) (cB : Nat) (vS nS : Nat) (w : World) (rA : IsRowF .f32 w aA zA.length cA zA) (rB : IsRowF .f32 w aB zB.length cB zB) (hp : zA.length ≤ 1048576) (hm : zB.length ≤ maxLen) (hl : 1048576 < zA.length + zB.length) : Calls Try.prog 4 #[.agg #[.int .i64 WA, .int .i64 HA, .slice aA zA.length cA], .agg #[.int .i64 WB, .int .i64 HB, .slice aB zB.length cB], .float .f32 (pick .f32 vS nS)] w fun e w' => e = .returned (.bool true) ∧ Below w.heap.size w w' := by
  unfold maxLen at hm
  have RA := Lib.hid rA
  have RB := Lib.hid rB
  clear rA rB
  go_enter Try.func4, Try.ntmps4
  go_wp2_with fail
  refine (c_szP WA HA aA zA.length cA (1048576 : Int) _ (by omega) (by omega)).mono ?_
  rintro _ w1 ⟨rfl, b⟩
  have VpA_1 := Lib.hid (((Var.new' _ _ _ (w.heap.size) (by first | rfl | simp)).alloc _).keep b)
  have VpB_1 := Lib.hid ((Var.new' _ _ _ (w.heap.size + 1) (by first | rfl | simp)).keep b)
  have B_1 := Lib.hid ((((Below.refl w.heap.size w).alloc (Nat.le_refl _) _).alloc (by simp) _).trans (b.mono (by simp; omega)))
  have S_1 : w.heap.size + 2 ≤ w1.heap.size := by have := b.size; simp at this; omega
  have zpA_1 : w.heap.size < w1.heap.size := by omega
  have zpB_1 : w.heap.size + 1 < w1.heap.size := by omega
  clear b
  have hzA : ¬ (((1048576 : Int) - (zA.length : Int)) < 0) := by omega
  obtain ⟨cpB0, cpB1, cpB2⟩ := VpB_1.out.three
  go_wp2_with fail
  clear cpB0 cpB1 cpB2
  refine (c_szP_no WB HB aB zB.length cB ((1048576 : Int) - (zA.length : Int)) _ (by omega) (by omega)).mono ?_
  rintro _ w2 ⟨rfl, b⟩
  have VpA_2 := Lib.hid (VpA_1.out.keep b)
  have VpB_2 := Lib.hid (VpB_1.out.keep b)
  have B_2 := Lib.hid (B_1.out.trans (b.mono (by omega)))
  have S_2 : w1.heap.size + 0 ≤ w2.heap.size := by have := b.size; omega
  have zpA_2 : w.heap.size < w2.heap.size := by omega
  have zpB_2 : w.heap.size + 1 < w2.heap.size := by omega
  clear b
  clear VpA_1 zpA_1 VpB_1 zpB_1 B_1
  go_wp2_with fail
  go_ret
  exact ⟨rfl, B_2.out⟩
theorem walk (WA HA : Int) (zA : List Nat) (aA : Option Addr) (cA : Nat) (WB HB : Int) (zB : List Nat) (aB : Option Addr) (cB : Nat) (vS nS : Nat) (w : World) (rA : IsRowF .f32 w aA zA.length cA zA) (rB : IsRowF .f32 w aB zB.length cB zB) (hS : vS < 2 ^ FloatKind.f32.format.width) : Calls Try.prog 4 #[.agg #[.int .i64 WA, .int .i64 HA, .slice aA zA.length cA], .agg #[.int .i64 WB, .int .i64 HB, .slice aB zB.length cB], .float .f32 (pick .f32 vS nS)] w fun e w' => e = .returned (.bool true) ∧ Below w.heap.size w w' := by
  have mA : zA.length ≤ maxLen := Nat.le_trans rA.2.1 rA.2.2.1
  have mB : zB.length ≤ maxLen := Nat.le_trans rB.2.1 rB.2.2.1
  by_cases g0 : 1048576 < zA.length
  · exact walkL0 WA HA zA aA cA WB HB zB aB cB vS nS w rA rB  mA g0
  by_cases g1 : 1048576 < zA.length + zB.length
  · exact walkL1 WA HA zA aA cA WB HB zB aB cB vS nS w rA rB (by omega) mB g1
  exact walkG WA HA zA aA cA WB HB zB aB cB vS nS w (resMix WA HA zA WB HB zB vS) (fun aA cA aB cB w rA rB => c_sMixPictures WA HA zA aA cA WB HB zB aB cB vS nS w rA rB hS) (fun aA cA aB cB w rA rB => c_iMixPictures WA HA zA aA cA WB HB zB aB cB vS nS w rA rB hS) rA rB (by omega)
theorem own : ownKnob Try.prog.godebug = none := by kernel_rfl
theorem laidOut : laidOutB Try.prog = true := by kernel_rfl
set_option maxRecDepth 100000 in
theorem lifted (os : Os) (started : os.Started) (H : Type) (enc : TypeId × Value → H) :
    ReturnsInHanded {} Try.checked os 4 .any (Rows.fnExactMixPicturesSpec.pre6 enc Try.prog Try.f4 Rows.fnExactMixPicturesRow.domain false) (Rows.fnExactMixPicturesSpec.post enc Try.prog Try.f4 false true false false) := by
  refine returnsInHanded_of_change (C := Try.checked) own started (by kernel_rfl) Try.func4
    (ChangeSpec.witness6 (enc := enc) (C := Try.checked) false ⟨#[], #[.agg #[.int .i64 0, .int .i64 0, .slice none 0 0], .agg #[.int .i64 0, .int .i64 0, .slice none 0 0], .float .f32 0], []⟩ 8 (by kernel_rfl) (by kernel_rfl) (by kernel_rfl) (by kernel_rfl)) ?_
  intro W base args ds gs before hval0 hW hcnd _
  have hval : ∀ (j : Nat) t v, Try.f4.params[j]? = some t → args[j]? = some v → Value.okWide Try.prog W .any base t v := hval0
  have hW' := hW
  obtain ⟨p, q, hA0, hV, rfl, hfz, hnd⟩ := hW
  have hA : DataW.TrodAll enc Try.prog W 0 (fun _ => true) true Try.f4.params.toList args.toList ds p := hA0
  rw [Try.params4] at hA hval
  obtain ⟨v0, vs0, d0, ds0, p0, q0, hargs, rfl, rfl, h0, r0⟩ := trodAll_cons hA
  obtain ⟨v1, vs1, d1, ds1, p1, q1, rfl, rfl, rfl, h1, r1⟩ := trodAll_cons r0
  obtain ⟨v2, vs2, d2, ds2, p2, q2, rfl, rfl, rfl, h2, r2⟩ := trodAll_cons r1
  obtain ⟨rfl, rfl, rfl⟩ := trodAll_nil r2
  obtain rfl : args = #[v0, v1, v2] := by cases args; simp_all
  obtain ⟨rfl, rfl⟩ := trodVars_none hV
  have k0 := h0
  have lt0 : ∀ x ∈ p0, x.block < W.heap.size := by obtain ⟨m, hm⟩ := k0; exact DataW.trod_lt m _ _ _ hm
  obtain ⟨W0, H0, z0, a0, c0, rfl, wW0, wH0, w0⟩ := open_pic Try.underlying31 (by kernel_rfl) (by kernel_rfl) Try.underlying2 Try.underlying2 Try.underlying23 Try.underlying22 (by kernel_rfl) (hval 0 31 v0 rfl rfl) h0
  have k1 := h1
  have lt1 : ∀ x ∈ p1, x.block < W.heap.size := by obtain ⟨m, hm⟩ := k1; exact DataW.trod_lt m _ _ _ hm
  obtain ⟨W1, H1, z1, a1, c1, rfl, wW1, wH1, w1⟩ := open_pic Try.underlying31 (by kernel_rfl) (by kernel_rfl) Try.underlying2 Try.underlying2 Try.underlying23 Try.underlying22 (by kernel_rfl) (hval 1 31 v1 rfl rfl) h1
  obtain ⟨b2, rfl, rfl, rfl, w2⟩ := open_float Try.underlying22 (hval 2 22 v2 rfl rfl) h2
  obtain ⟨n2, en2⟩ := pick_onto .f32 b2 (lt_of_wf w2)
  clear hA0 hval0
  have hcall2 := en2
  have hw0 : Calls Try.prog 4 #[.agg #[.int .i64 W0, .int .i64 H0, .slice a0 z0.length c0], .agg #[.int .i64 W1, .int .i64 H1, .slice a1 z1.length c1], .float .f32 b2] W fun e w' => e = .returned (.bool true) ∧ Below W.heap.size W w' := by
    rw [en2]
    exact walk W0 H0 z0 a0 c0 W1 H1 z1 a1 c1 b2 n2 W w0 w1 (lt_of_wf w2)
  refine hw0.mono fun e W' ⟨he, bel⟩ => ?_
  subst he
  exact ⟨_, rfl, _, _, _, [], _, [], hW', trodAll_mk1 (shut_bool Try.underlying4 _), (trodAll_cons_mk (Below.trod laidOut (by kernel_rfl) (of_decide_eq_true (by kernel_rfl)) k0 bel lt0) (trodAll_cons_mk (Below.trod laidOut (by kernel_rfl) (of_decide_eq_true (by kernel_rfl)) k1 bel lt1) (trodAll_cons_mk (shut_float Try.underlying22 w2) trodAll_mk0))), rfl, bel.frame _, fun h => by cases h⟩

theorem over : Rows.fnExactMixPicturesRow.holds Try.pinned (OpenSpec.ofChange Rows.fnExactMixPicturesSpec) :=
  OpenClaim.holds_of_wide 4 Try.f4 rfl rfl rfl rfl rfl rfl rfl ⟨rfl, rfl, rfl, rfl, rfl⟩ rfl rfl rfl rfl rfl (by kernel_rfl) Try.func4 (by kernel_rfl)
    (of_decide_eq_true (by kernel_rfl)) (by unfold Func.isWrapper; first | (rw [if_pos (by decide +kernel)]; kernel_rfl) | (rw [if_neg (by decide +kernel)]; exact ⟨rfl, rfl⟩))
    (fun os started H enc _ => lifted os started H enc)

theorem proved : Rows.FnExactMixPicturesSaid := over
#print axioms proved

end Go.Proofs.Ytckajolgakmjhaa.fnExactMixPictures

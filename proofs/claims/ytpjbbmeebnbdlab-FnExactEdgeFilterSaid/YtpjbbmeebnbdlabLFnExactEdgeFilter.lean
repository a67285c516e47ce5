/-
  FnExactEdgeFilter: for every input this law of the program returns true, and each argument reads as before. No condition.
-/
import Derived.Test.YtpjbbmeebnbdlabRows
import Derived.Test.YtpjbbmeebnbdlabRow
import Derived.Test.YtpjbbmeebnbdlabMn
import Derived.Test.YtpjbbmeebnbdlabOw
import Derived.Test.YtpjbbmeebnbdlabAp
import Derived.ProofKit
import Derived.OpenShut
import Derived.ShutString
import Derived.ChangeOld
import Derived.Below
import Derived.Lib.Hide
import Derived.Outline
import Derived.Deep.RegionHeld3
import Derived.Deep.DeepCutAuto
import Derived.Deep.LoopGhost
import Derived.WalkMore
set_option linter.unusedSimpArgs false
set_option linter.unusedVariables false
set_option exponentiation.threshold 2000
set_option maxRecDepth 20000
set_option maxHeartbeats 4000000
namespace Go.Proofs.Ytpjbbmeebnbdlab.fnExactEdgeFilter
open Go Go.Proofs.Ytpjbbmeebnbdlab Go.Proofs
open Go.ChangeShapes Go.WideShapes Go.ChangeAt Go.RowKit
open Go.ChangeMaps (open_string shut_string)
/-! ### szPicture -/
theorem c_szF (a : Option Addr) (len cap : Nat) (L : Int) (w : World) (h : (len : Int) ≤ L) (hL : L ≤ 1048576) : Calls Try.prog 53 #[.slice a len cap, .int .i64 L] w (fun e w' => e = .returned (.int .i64 (L - (len : Int))) ∧ w' = w) := by
  have h' : ¬ (L - (len : Int) < 0) := by omega
  go_enter Try.func53, Try.ntmps53
  go_wp2
  go_ret
  exact ⟨rfl, rfl⟩
theorem c_szF_no (a : Option Addr) (len cap : Nat) (L : Int) (w : World) (h : L < len) (hL : 0 ≤ L) (hm : len ≤ 9223372036854775807) : Calls Try.prog 53 #[.slice a len cap, .int .i64 L] w (fun e w' => e = .returned (.int .i64 (-1)) ∧ w' = w) := by
  have h' : L - (len : Int) < 0 := by omega
  go_enter Try.func53, Try.ntmps53
  go_wp2
  go_ret
  exact ⟨rfl, rfl⟩
theorem c_szP (W H : Int) (a : Option Addr) (len cap : Nat) (L : Int) (w : World) (h : (len : Int) ≤ L) (hL : L ≤ 1048576) : Calls Try.prog 15 #[.agg #[.int .i64 W, .int .i64 H, .slice a len cap], .int .i64 L] w (RetB (.int .i64 (L - (len : Int))) w) := by
  have h' : ¬ (L - (len : Int) < 0) := by omega
  go_enter Try.func15, Try.ntmps15
  go_wp2_with (go_at_call 53; refine (c_szF a len cap L _ h hL).mono ?_; rintro _ _ ⟨rfl, rfl⟩)
  go_ret
  exact ⟨rfl, (Below.refl _ _).alloc (Nat.le_refl _) _⟩
theorem c_szP_no (W H : Int) (a : Option Addr) (len cap : Nat) (L : Int) (w : World) (h : L < len) (hL : 0 ≤ L ∧ len ≤ 9223372036854775807) : Calls Try.prog 15 #[.agg #[.int .i64 W, .int .i64 H, .slice a len cap], .int .i64 L] w (RetB (.int .i64 (-1)) w) := by
  go_enter Try.func15, Try.ntmps15
  go_wp2_with (go_at_call 53; refine (c_szF_no a len cap L _ h hL.1 hL.2).mono ?_; rintro _ _ ⟨rfl, rfl⟩)
  go_ret
  exact ⟨rfl, (Below.refl _ _).alloc (Nat.le_refl _) _⟩
/-! ### toOwn -/
theorem infoFo : (Try.prog.info? 43).map (fun i => (i.zero, i.size, i.bytes)) = some (some (.float .f32 0), 1, 4) := by kernel_rfl
theorem c_toO (a : Option Addr) (len cap : Nat) (zs : List Nat) (w : World) (hr : IsRowF .f32 w a len cap zs) (hl : len ≤ 1048576) : Calls Try.prog 45 #[.slice a len cap] w (NewO 43 len zs w) := by
  obtain ⟨i0, hi, hz0, hz1, hz2⟩ := info_parts infoFo
  obtain ⟨h1, h2, h3, h4, h5⟩ := hr
  go_enter Try.func45, Try.ntmps45
  go_wp2_with (at_make; refine wpList_make_full _ rfl _ _ 22 rfl w.heap.size 43 i0 (.float .f32 0) 1 Try.underlying22 hi hz0 hz1 _ _ _ _ len rfl rfl rfl rfl (by rw [hz2]; omega) (by unfold maxLen; omega) (by simp) ?_; intro w1 hown hgrow)
  have hblk := block_of_owns hown
  have e0 : (madeCells (Value.float FloatKind.f32 0).cells (len * 1)).toList = List.replicate len (.float .f32 0) := by rw [Nat.mul_one]; exact made_zeros _ _
  rw [e0] at hblk
  have hbel : Below w.heap.size w w1 := (Below.refl _ _).grown hgrow (Nat.le_refl _) (by simp)
  have HB := Lib.hid hblk
  clear hown hgrow hblk e0 hz0 hz1 hz2
  go_loopw [4] (fun i wr => ∃ j : Nat, j ≤ len ∧ i = .int .i64 j ∧ Below w.heap.size w wr ∧ wr.heap[w.heap.size]? = some (.cells (fl .f32 (zs.take j) ++ List.replicate (zs.length - j) (Value.float .f32 0)).toArray 43 (0, 0))) (fun i _ => len - (intOf i).toNat)
  case atStart => exact ⟨0, Nat.zero_le _, rfl, hbel, by rw [HB.out, h1]; rfl⟩
  case round =>
    obtain ⟨j, hj, rfl, hb, hblk⟩ := hrel
    have Hblk := Lib.hid hblk
    clear hblk
    by_cases hlt : j < len
    · rcases h5 with h5 | ⟨b, off, rfl, hbl, hc⟩
      · omega
      have hcell : wr.cell? ⟨b, off + j, none⟩ = some (.float .f32 (fat zs j)) := by rw [hb.cell (p := ⟨b, off + j, none⟩) hbl]; exact hc j hlt
      have hold : wr.cell? ⟨w.heap.size, j, none⟩ = some (.float .f32 0) := by
        rw [cell_of_block Hblk.out, List.getElem?_append_right (by simp [fl]; omega)]
        have e : (fl FloatKind.f32 (List.take j zs)).length = j := by simp [fl]; omega
        rw [e, Nat.sub_self, List.getElem?_replicate, if_pos (by omega)]
      have hfz : wr.frozen? ⟨w.heap.size, j, none⟩ = false := frozen_of_block Hblk.out j
      have hset := block_set Hblk.out j (.float .f32 (fat zs j))
      rw [set_step zs _ j (by omega)] at hset
      have Hset := Lib.hid hset
      clear hset hc
      go_wp2
      go_roundw
      case rel => exact ⟨j + 1, by omega, by go_num, hb.setCell (Nat.le_refl _) _, Hset.out⟩
      case measure => simp [intOf]; omega
    · obtain rfl : j = len := by omega
      have e1 : fl .f32 (zs.take j) ++ List.replicate (zs.length - j) (Value.float .f32 0) = fl .f32 zs := by rw [h1, Nat.sub_self, List.replicate_zero, List.append_nil, List.take_of_length_le (by omega)]
      have hblk2 := Hblk.out
      rw [e1] at hblk2
      have hown : Own 43 wr w.heap.size (some ⟨w.heap.size, 0, none⟩) j j zs :=
        ⟨h1, ⟨by simp [fl, h1], .inr ⟨w.heap.size, j, _, rfl, Nat.le_refl _, hblk2, Nat.le_refl _, by unfold maxLen; omega, by simp [fl, h1], by rw [List.take_of_length_le (by simp [fl, h1])]⟩⟩, h4⟩
      have HO := Lib.hid hown
      clear hown hblk2 e1
      go_wp2
      go_ret
      exact ⟨w.heap.size, rfl, hb, HO.out⟩
/-! ### toPicture -/
theorem c_toP (W H : Int) (a : Option Addr) (len cap : Nat) (zs : List Nat) (w : World) (hr : IsRowF .f32 w a len cap zs) (hl : len ≤ 1048576) : Calls Try.prog 17 #[.agg #[.int .i64 W, .int .i64 H, .slice a len cap]] w (NewP 43 W H zs w) := by
  have HR := Lib.hid hr
  have HL := Lib.hid hr.1
  clear hr
  go_enter Try.func17, Try.ntmps17
  go_wp2_with fail
  refine (c_toO a len cap zs _ (HR.out.below ((((Below.refl _ _).alloc (Nat.le_refl _) _).alloc (by simp) _).alloc (by simp; omega) _)) hl).mono ?_
  rintro _ w1 ⟨g, rfl, hb, hown⟩
  obtain ⟨hc, hf⟩ := bcell hb
  have hz : w.heap.size + 1 + 1 < w1.heap.size := by have := hb.size; simp at this; omega
  have hg' : w.heap.size + 1 + 1 < g := by have := hown.lt.1; simp at this; omega
  have HB := Lib.hid hb
  have HO := Lib.hid hown
  clear hb hown
  go_wp2_with fail
  refine bodyPost_ret (v := .agg #[.int .i64 W, .int .i64 H, .slice (some ⟨g, 0, none⟩) len len]) (by simp [results, Try.results17, hc, hz, go_sem]) rfl ⟨g, by rw [HL.out], ?_, ?_⟩
  · exact ((((((((Below.refl _ _).alloc (Nat.le_refl _) _).alloc (by simp) _).alloc (by simp; omega) _).trans (HB.out.mono (by simp; omega))).setCell (by simp; omega) _).setCell (by simp) _).setCell (by simp) _).setCell (by simp) _
  · rw [HL.out]
    exact ((((HO.out.setCell (by simp [blk]; omega) _).setCell (by simp [blk]; omega) _).setCell (by simp [blk]; omega) _).setCell (by simp [blk]; omega) _).mono (by simp; omega)
/-! ### sameFloat -/
theorem c_sameFloat (v n m : Nat) (w : World) (j : Nat) : Calls Try.prog 43 #[.float .f64 (pick .f64 v n), .float .f64 (pick .f64 v m)] (w.drewN j) (RetV (.bool true) w) := by
  have hs := self_ne .f64 v
  have ht := self_eq .f64 v
  cases h : isN .f64 v
  · rw [h] at hs ht
    cases h2 : (FloatKind.f64.format.order v 0 == some .eq)
    · go_enter Try.func43, Try.ntmps43
      go_wp2_with (first | (refine wpList_fop rfl _ _ _ _ _ rfl _ _ _ rfl rfl (by decide) _ ?_; intro _ _) | (refine upon_fop _ _ _ _ _ (by decide) ?_; intro _ _))
      go_ret
      exact ⟨_, rfl, rfl⟩
    · go_enter Try.func43, Try.ntmps43
      go_wp2_with (first | (refine wpList_fop rfl _ _ _ _ _ rfl _ _ _ rfl rfl (by decide) _ ?_; intro _ _) | (refine upon_fop _ _ _ _ _ (by decide) ?_; intro _ _))
      go_ret
      exact ⟨_, by simp, rfl⟩
  · rw [h] at hs ht
    go_enter Try.func43, Try.ntmps43
    go_wp2_with (first | (refine wpList_fop rfl _ _ _ _ _ rfl _ _ _ rfl rfl (by decide) _ ?_; intro _ _) | (refine upon_fop _ _ _ _ _ (by decide) ?_; intro _ _))
    go_ret
    exact ⟨_, rfl, rfl⟩

/-! ### eqFloat32S -/
theorem c_eqF (a b : Option Addr) (len c d : Nat) (zs : List Nat) (w : World) (j0 : Nat) (hr : IsRowF .f32 w a len c zs) (hs : IsRowF .f32 w b len d zs) : Calls Try.prog 47 #[.slice a len c, .slice b len d] (w.drewN j0) (RetV (.bool true) w) := by
  obtain ⟨h1, h2, h3, h4, h5⟩ := hr
  obtain ⟨g1, g2, g3, g4, g5⟩ := hs
  unfold maxLen at h3
  go_enter Try.func47, Try.ntmps47
  go_wp2
  go_loopw [5] (fun i wr => ∃ k m : Nat, k ≤ len ∧ i = .int .i64 k ∧ wr = w.drewN m) (fun i _ => len - (intOf i).toNat)
  case atStart => exact ⟨0, j0, Nat.zero_le _, rfl, rfl⟩
  case round =>
    obtain ⟨k, m, hk, rfl, rfl⟩ := hrel
    by_cases hlt : k < len
    · rcases h5 with h5 | ⟨x, off, rfl, hbl, hc⟩
      · omega
      rcases g5 with g5 | ⟨y, off2, rfl, gbl, gc⟩
      · omega
      have hcell : w.cell? ⟨x, off + k, none⟩ = some (.float .f32 (fat zs k)) := hc k hlt
      have gcell : w.cell? ⟨y, off2 + k, none⟩ = some (.float .f32 (fat zs k)) := gc k hlt
      clear hc h4 gc g4
      go_wp2
      refine wp_region_N (fun _ _ u => u = .bool true) (by kernel_rfl) (by kernel_rfl) ?_; (repeat (first | ((with_reducible show wpN _ _ _ _ _ (Oper.mk _ (Op.binOp _ _ _ _ _) _ _ _ none :: _) _); refine wpN_fop rfl _ _ _ _ _ rfl _ _ _ rfl rfl (by decide) ?_; intro _) | ((with_reducible show wpN _ _ _ _ _ (Oper.mk _ (Op.convert _ _ _) _ _ _ none :: _) _); refine wpN_cvU rfl 43 49 _ rfl (Option.isSome_iff_exists.2 ⟨_, Try.underlying43⟩) Try.underlying49 _ rfl ?_; intro _) | ((with_reducible show wpN _ _ _ _ _ (Oper.mk _ _ _ _ _ (some _) :: _) _); (with_reducible refine wpN_off ?_ ?_); focus rfl; (simp only [Act.put, List.setIfInBounds_toArray, List.set_cons_zero, List.set_cons_succ])) | ((with_reducible show wpN _ _ _ _ _ (Oper.mk _ _ _ _ _ (some _) :: _) _); ((with_reducible refine wpN_on ?_ (fun K hK => ?_)); (focus rfl); intro _; go_simp; first | (refine uponN_value (hK _ ?_)) | ((refine uponN_call (callN rfl (c_sameFloat _ _ _ _ _)) ?_; intro u hu; obtain rfl : u = _ := hu); refine hK _ ?_)); clear hK K) | (((with_reducible refine wpN_plain rfl (fun K hK => ?_)); intro _; go_simp; first | (refine uponN_value (hK _ ?_)) | ((refine uponN_call (callN rfl (c_sameFloat _ _ _ _ _)) ?_; intro u hu; obtain rfl : u = _ := hu); refine hK _ ?_)); clear hK K) | ((with_reducible refine wpN_step (fun K hK => ?_)); go_simp; first | (refine hK _ ?_) | (intro _; first | (refine uponN_value (hK _ ?_)) | ((refine uponN_call (callN rfl (c_sameFloat _ _ _ _ _)) ?_; intro u hu; obtain rfl : u = _ := hu); refine hK _ ?_)); clear hK K))); refine wpN_nil ?_; intro _
      go_wp2
      go_roundw
      case rel => exact ⟨k + 1, _, by omega, by go_num, rfl⟩
      case measure => simp [intOf]; omega
    · clear h5 h4 g4 g5
      go_wp2
      go_ret
      exact ⟨_, rfl, rfl⟩
/-! ### eqPicture -/
theorem c_eqF0 (a b : Option Addr) (len c d : Nat) (zs : List Nat) (w : World) (hr : IsRowF .f32 w a len c zs) (hs : IsRowF .f32 w b len d zs) : Calls Try.prog 47 #[.slice a len c, .slice b len d] w (RetV (.bool true) w) := by
  have h := c_eqF a b len c d zs w 0 hr hs
  rwa [w.drewN_zero] at h
theorem c_eqP (W H : Int) (a b : Option Addr) (len c d : Nat) (zs : List Nat) (w : World) (hr : IsRowF .f32 w a len c zs) (hs : IsRowF .f32 w b len d zs) : Calls Try.prog 20 #[.agg #[.int .i64 W, .int .i64 H, .slice a len c], .agg #[.int .i64 W, .int .i64 H, .slice b len d]] w (RetB (.bool true) w) := by
  have HR := Lib.hid hr
  have HS := Lib.hid hs
  clear hr hs
  go_enter Try.func20, Try.ntmps20
  go_wp2_with fail
  refine (c_eqF0 a b len c d zs _ ((HR.out.alloc _).alloc _) ((HS.out.alloc _).alloc _)).mono ?_
  rintro _ _ ⟨m, rfl, rfl⟩
  go_wp2_with fail
  go_ret
  exact ⟨rfl, below_drewN (((Below.refl _ _).alloc (Nat.le_refl _) _).alloc (by simp) _) _⟩
/-! ### markFloat32S -/
theorem c_markF (B : Nat) (a : Option Addr) (len cap k : Nat) (zs : List Nat) (w : World) (hr : Own 43 w B a len cap zs) (hk : k + len ≤ 4611686018427387904) : Calls Try.prog 48 #[.slice a len cap, .int .i64 k] w (fun e w' => e = .returned (.int .i64 ((k + len : Nat) : Int)) ∧ w.grownBy w' (blk a) ∧ Own 43 w' B a len cap (marks k len)) := by
  rcases hr.parts with ⟨rfl, rfl, rfl, rfl⟩ | ⟨g, cur, rfl, hb, hg, hl, hm, hs, ht⟩
  · clear hr
    go_enter Try.func48, Try.ntmps48
    go_wp2
    refine wp_loop_rounds 1 ?_; rw [rounds_succ]
    go_wp2
    go_ret
    exact ⟨rfl, ⟨rfl, rfl, rfl, Nat.le_refl _, fun _ _ _ => rfl⟩, Own.nil _ _ _⟩
  · have h0 : Marked w g 43 cap k 0 := ⟨cur, hg, hs, fun i hi => by omega⟩
    have H0 := Lib.hid h0
    unfold maxLen at hm
    clear hr hg hs ht h0
    go_enter Try.func48, Try.ntmps48
    go_wp2
    go_loopw [1, 5] (fun t i wr => ∃ j : Nat, j ≤ len ∧ i = .int .i64 j ∧ t = .int .i64 ((k + j : Nat) : Int) ∧ w.grownBy wr (some g) ∧ Marked wr g 43 cap k j) (fun _ i _ => len - (intOf i).toNat)
    case atStart => exact ⟨0, Nat.zero_le _, rfl, rfl, ⟨rfl, rfl, rfl, Nat.le_refl _, fun _ _ _ => rfl⟩, H0.out⟩
    case round =>
      obtain ⟨j, hj, rfl, rfl, hgr, hM⟩ := hrel
      by_cases hlt : j < len
      · obtain ⟨v, hcell, hfz⟩ := hM.cell (j := j) (by omega)
        have hM2 := Lib.hid (hM.step (by omega : j < cap))
        have hG2 := Lib.hid hgr
        clear hM hgr
        go_wp2
        go_roundw
        case rel => exact ⟨j + 1, by omega, by go_num, by go_num, ⟨hG2.out.os, hG2.out.tape, hG2.out.output, by have := hG2.out.size; simpa using this, fun k' h1 h2 => by rw [Below.heap_setCell _ _ _ _ (fun e => h2 (by rw [e]))]; exact hG2.out.block k' h1 h2⟩, hM2.out⟩
        case measure => simp [intOf]; omega
      · obtain rfl : j = len := by omega
        have hO := Lib.hid (hM.own (B := B) hb hl (by unfold maxLen; omega))
        have hG2 := Lib.hid hgr
        clear hM hgr
        go_wp2
        go_ret
        exact ⟨rfl, hG2.out, hO.out⟩
/-! ### heldFloat32S -/
theorem c_heldF (a : Option Addr) (len cap k : Nat) (w : World) (hr : IsRowF .f32 w a len cap (marks k len)) (hk : k + len ≤ 4611686018427387904) : Calls Try.prog 65 #[.slice a len cap, .int .i64 k] w (fun e w' => e = .returned (.int .i64 ((k + len : Nat) : Int)) ∧ w' = w) := by
  obtain ⟨h1, h2, h3, h4, h5⟩ := hr
  unfold maxLen at h3
  clear h1 h4
  go_enter Try.func65, Try.ntmps65
  go_wp2
  go_loop [1, 5] (fun t i => ∃ j : Nat, j ≤ len ∧ i = .int .i64 j ∧ t = .int .i64 ((k + j : Nat) : Int)) (fun _ i => len - (intOf i).toNat)
  case atStart => exact ⟨0, Nat.zero_le _, rfl, rfl⟩
  case round =>
    obtain ⟨j, hj, rfl, rfl⟩ := hrel
    by_cases hlt : j < len
    · rcases h5 with h5 | ⟨b, off, rfl, hbl, hc⟩
      · omega
      have hcell : w.cell? ⟨b, off + j, none⟩ = some (.float .f32 (markN k j)) := by rw [← marks_at k len j hlt]; exact hc j hlt
      have hne : (FloatKind.f32.format.order (markN k j) (markN k j) != some .eq) = false := by rw [self_ne]; exact markN_notN k j
      have hE : floatOfInt .f32 ((k : Int) + (j : Int)) = markN k j := by unfold markN; rw [Int.natCast_add]
      have hne2 : (FloatKind.f32.format.order (markN k j) (floatOfInt .f32 ((k : Int) + (j : Int))) != some .eq) = false := (congrArg (fun x => FloatKind.f32.format.order (markN k j) x != some .eq) hE).trans hne
      clear hE
      clear hc
      go_wp2
      go_round
      case rel => exact ⟨j + 1, by omega, by go_num, by go_num⟩
      case measure => simp [intOf]; omega
    · obtain rfl : j = len := by omega
      clear h5
      go_wp2
      go_ret
      exact ⟨rfl, rfl⟩
/-! ### markPicture -/
theorem c_markP (W H : Int) (B : Nat) (a : Option Addr) (len cap k : Nat) (zs : List Nat) (w : World) (hr : Own 43 w B a len cap zs) (hk : k + len ≤ 4611686018427387904) : Calls Try.prog 21 #[.agg #[.int .i64 W, .int .i64 H, .slice a len cap], .int .i64 k] w (fun e w' => e = .returned (.int .i64 ((k + len : Nat) : Int)) ∧ w.grownBy w' (blk a) ∧ Own 43 w' B a len cap (marks k len)) := by
  have HR := Lib.hid hr
  clear hr
  go_enter Try.func21, Try.ntmps21
  go_wp2_with fail
  refine (c_markF B a len cap k zs _ (HR.out.alloc _) hk).mono ?_
  rintro _ w1 ⟨rfl, hg, hO⟩
  have HG := Lib.hid hg
  have HO := Lib.hid hO
  clear hg hO
  go_wp2_with fail
  go_ret
  exact ⟨rfl, ⟨HG.out.os, HG.out.tape, HG.out.output, by have := HG.out.size; simp at this; omega, fun k' h1 h2 => by rw [HG.out.block k' (by simp; omega) h2]; exact Below.heap_alloc _ _ _ h1⟩, HO.out⟩
theorem c_heldP (W H : Int) (a : Option Addr) (len cap k : Nat) (w : World) (hr : IsRowF .f32 w a len cap (marks k len)) (hk : k + len ≤ 4611686018427387904) : Calls Try.prog 28 #[.agg #[.int .i64 W, .int .i64 H, .slice a len cap], .int .i64 k] w (RetB (.int .i64 ((k + len : Nat) : Int)) w) := by
  have HR := Lib.hid hr
  clear hr
  have h0 : 0 ≤ ((k + len : Nat) : Int) := by omega
  go_enter Try.func28, Try.ntmps28
  go_wp2_with fail
  refine (c_heldF a len cap k _ (HR.out.alloc _) hk).mono ?_
  rintro _ w1 ⟨rfl, rfl⟩
  go_wp2_with fail
  go_ret
  exact ⟨rfl, (Below.refl _ _).alloc (Nat.le_refl _) _⟩

/-! ### picDefs -/
def sideB (W H : Int) : Bool := decide (1 ≤ W) && decide (W ≤ 16) && (decide (1 ≤ H) && decide (H ≤ 16))
def finL (zs : List Nat) : Bool := zs.all (finB .f32)
def validB (W H : Int) (zs : List Nat) : Bool := sideB W H && decide ((zs.length : Int) = W * H) && finL zs
theorem sideB_true {W H : Int} (h : sideB W H = true) : (1 ≤ W ∧ W ≤ 16) ∧ 1 ≤ H ∧ H ≤ 16 := by simpa [sideB, and_assoc] using h
theorem side_mul {W H : Int} (h : sideB W H = true) : 1 ≤ W * H ∧ W * H ≤ 256 := by
  obtain ⟨⟨h1, h2⟩, h3, h4⟩ := sideB_true h
  have : W * H ≤ 16 * 16 := Int.mul_le_mul h2 h4 (by omega) (by omega)
  have h5 : 1 * 1 ≤ W * H := Int.mul_le_mul h1 h3 (by omega) (by omega)
  omega
theorem sideB_false {W H : Int} (h : sideB W H = false) : W < 1 ∨ 16 < W ∨ H < 1 ∨ 16 < H := by
  simp [sideB] at h; omega
theorem finL_snoc (zs : List Nat) (k : Nat) (hk : k < zs.length) : finL (zs.take (k + 1)) = (finL (zs.take k) && finB .f32 (fat zs k)) := by
  unfold finL fat
  rw [List.take_succ_eq_append_getElem hk, List.all_append, List.getD, List.getElem?_eq_getElem hk]; simp
theorem finL_of (zs : List Nat) (k : Nat) (hk : k < zs.length) (h : finB .f32 (fat zs k) = false) : finL zs = false := by
  unfold finL
  rw [List.all_eq_false]
  refine ⟨zs[k], List.getElem_mem hk, ?_⟩
  unfold fat at h
  rw [List.getD, List.getElem?_eq_getElem hk] at h
  simpa using h
theorem pick0 (k : FloatKind) (v : Nat) (hv : v < 2 ^ k.format.width) : ∃ n, v = pick k v n := pick_onto k v hv
/-! ### give -/
def giveP (W H : Int) (zs : List Nat) : PRes := if validB W H zs = true then ⟨W, H, zs, true⟩ else PRes.no
theorem near_valid {W H : Int} {zs' zs : List Nat} (h : near zs' zs) : validB W H zs' = validB W H zs := by
  unfold validB finL; rw [near_fin h, h.1]
theorem valid_fin {W H : Int} {zs : List Nat} (h : validB W H zs = true) : zs.all (finB .f32) = true := by
  simp [validB, finL] at h ⊢; exact h.2
theorem valid_len {W H : Int} {zs : List Nat} (h : validB W H zs = true) : (zs.length : Int) = W * H ∧ zs.length ≤ 256 ∧ 1 ≤ zs.length := by
  simp only [validB, Bool.and_eq_true, decide_eq_true_eq] at h
  obtain ⟨⟨h1, h2⟩, h3⟩ := h
  have := side_mul h1
  exact ⟨h2, by omega, by omega⟩
/-! ### atDefs -/
def minI (a b : Int) : Int := if a < b then a else b
def maxI (a b : Int) : Int := if b < a then a else b
theorem clamp_in (n : Nat) (h : 1 ≤ n) (i : Int) : ∃ c : Nat, maxI 0 (minI ((n : Int) - 1) i) = (c : Int) ∧ c < n := by
  refine ⟨(maxI 0 (minI ((n : Int) - 1) i)).toNat, ?_, ?_⟩
  · unfold maxI minI; split <;> split <;> omega
  · unfold maxI minI; split <;> split <;> omega
theorem clamp_is {n c : Nat} (h : c < n) : maxI 0 (minI ((n : Int) - 1) (c : Int)) = (c : Int) := by
  unfold maxI minI; split <;> split <;> omega
theorem mul_bound {cy Wn Hn : Nat} (hy : cy < Hn) (hW : Wn ≤ 16) (hH : Hn ≤ 16) : cy * Wn + Wn ≤ Wn * Hn ∧ cy * Wn ≤ 256 := by
  have h1 : (cy + 1) * Wn ≤ Hn * Wn := Nat.mul_le_mul_right _ (by omega)
  rw [Nat.succ_mul, Nat.mul_comm Hn Wn] at h1
  have h2 : Wn * Hn ≤ 16 * 16 := Nat.mul_le_mul hW hH
  exact ⟨h1, by omega⟩
/-! ### winDefs -/
def winB (Wn : Nat) (l t r b : Int) (k : Nat) : Bool := decide (l ≤ ((k % Wn : Nat) : Int)) && decide (((k % Wn : Nat) : Int) ≤ r) && (decide (t ≤ ((k / Wn : Nat) : Int)) && decide (((k / Wn : Nat) : Int) ≤ b))
def winL (Wn N : Nat) (l t r b : Int) : List Nat := (List.range N).filter (winB Wn l t r b)
theorem winL_zero (Wn : Nat) (l t r b : Int) : winL Wn 0 l t r b = [] := rfl
theorem winL_yes {Wn k : Nat} {l t r b : Int} (h : winB Wn l t r b k = true) : winL Wn (k + 1) l t r b = winL Wn k l t r b ++ [k] := by
  unfold winL; rw [List.range_succ, List.filter_append]; simp [h]
theorem winL_no {Wn k : Nat} {l t r b : Int} (h : winB Wn l t r b k = false) : winL Wn (k + 1) l t r b = winL Wn k l t r b := by
  unfold winL; rw [List.range_succ, List.filter_append]; simp [h]
theorem winL_skip {Wn : Nat} {l t r b : Int} (m : Nat) : ∀ n, m ≤ n → (∀ k, m ≤ k → k < n → winB Wn l t r b k = false) → winL Wn n l t r b = winL Wn m l t r b
  | 0, h, _ => by obtain rfl : m = 0 := by omega
                  rfl
  | n + 1, h, hn => by
    by_cases e : m = n + 1
    · rw [e]
    · rw [winL_no (hn n (by omega) (by omega))]
      exact winL_skip m n (by omega) fun k h1 h2 => hn k h1 (by omega)
theorem winL_len (Wn N : Nat) (l t r b : Int) : (winL Wn N l t r b).length ≤ N := by
  unfold winL; have h := List.length_filter_le (winB Wn l t r b) (List.range N); rwa [List.length_range] at h
theorem winL_lt {Wn N : Nat} {l t r b : Int} {k : Nat} (h : k ∈ winL Wn N l t r b) : k < N := by
  unfold winL at h; exact List.mem_range.1 (List.mem_filter.1 h).1
theorem row_div {Wn x y k : Nat} (hk : k = y * Wn + x) (hx : x < Wn) : k % Wn = x ∧ k / Wn = y := by
  subst hk
  exact ⟨by rw [Nat.mul_comm y Wn, Nat.mul_add_mod, Nat.mod_eq_of_lt hx], by rw [Nat.mul_comm y Wn, Nat.mul_add_div (by omega), Nat.div_eq_of_lt hx, Nat.add_zero]⟩
theorem winB_at {Wn x y k : Nat} {l t r b : Int} (hk : k = y * Wn + x) (hx : x < Wn) : winB Wn l t r b k = (decide (l ≤ (x : Int)) && decide ((x : Int) ≤ r) && (decide (t ≤ (y : Int)) && decide ((y : Int) ≤ b))) := by
  obtain ⟨h1, h2⟩ := row_div hk hx
  unfold winB; rw [h1, h2]
/-- The rest of a row lies outside. -/
theorem winL_row {Wn x y : Nat} {l t r b : Int} (hx : x ≤ Wn) (h : (y : Int) < t ∨ r < (x : Int)) : winL Wn ((y + 1) * Wn) l t r b = winL Wn (y * Wn + x) l t r b := by
  refine winL_skip _ _ (by rw [Nat.succ_mul]; omega) fun k h1 h2 => ?_
  rw [Nat.succ_mul] at h2
  obtain ⟨j, rfl⟩ : ∃ j, k = y * Wn + j := ⟨k - y * Wn, by omega⟩
  rw [winB_at rfl (by omega : j < Wn)]
  rcases h with h | h
  · rw [decide_eq_false (by omega : ¬ t ≤ (y : Int))]; simp
  · rw [decide_eq_false (by omega : ¬ ((j : Nat) : Int) ≤ r)]; simp
/-- All that follows lies below. -/
theorem winL_rest {Wn x y N : Nat} {l t r b : Int} (hW : 1 ≤ Wn) (hN : y * Wn + x ≤ N) (h : b < (y : Int)) : winL Wn N l t r b = winL Wn (y * Wn + x) l t r b := by
  refine winL_skip _ _ hN fun k h1 h2 => ?_
  have h3 : y ≤ k / Wn := by
    have : y * Wn / Wn ≤ k / Wn := Nat.div_le_div_right (by omega)
    rwa [Nat.mul_div_cancel _ (by omega)] at this
  unfold winB
  rw [decide_eq_false (by omega : ¬ ((k / Wn : Nat) : Int) ≤ b)]
  simp
/-- Sums from left to right. -/
def sumL (zs : List Nat) (idx : List Nat) : Nat := idx.foldl (fun s k => fop .add .f32 s (fat zs k)) 0
theorem sumL_snoc (zs idx : List Nat) (k : Nat) : sumL zs (idx ++ [k]) = fop .add .f32 (sumL zs idx) (fat zs k) := by unfold sumL; rw [List.foldl_append]; rfl
theorem take_snoc {idx : List Nat} {j : Nat} (h : j < idx.length) : idx.take (j + 1) = idx.take j ++ [fat idx j] := by
  unfold fat
  rw [List.take_succ_eq_append_getElem h, List.getD, List.getElem?_eq_getElem h]; rfl
def meanV (zs idx : List Nat) : Nat := fop .quo .f32 (sumL zs idx) (floatOfInt .f32 (idx.length : Int))
/-- Pixels with their places, as they lie in memory. -/
def spotC (Wn : Nat) (zs : List Nat) (k : Nat) : List Value := [.int .i64 ((k % Wn : Nat) : Int), .int .i64 ((k / Wn : Nat) : Int), .float .f32 (fat zs k)]
def spotsC (Wn : Nat) (zs idx : List Nat) : List Value := idx.flatMap (spotC Wn zs)
theorem spotsC_snoc (Wn : Nat) (zs idx : List Nat) (k : Nat) : spotsC Wn zs (idx ++ [k]) = spotsC Wn zs idx ++ spotC Wn zs k := by simp [spotsC]
theorem spotsC_len (Wn : Nat) (zs : List Nat) : ∀ idx : List Nat, (spotsC Wn zs idx).length = idx.length * 3
  | [] => rfl
  | k :: idx => by
    have h := spotsC_len Wn zs idx
    unfold spotsC at h ⊢
    rw [List.flatMap_cons, List.length_append, h]; simp [spotC]; omega
theorem spotsC_at (Wn : Nat) (zs : List Nat) : ∀ (idx : List Nat) (j c : Nat), j < idx.length → c < 3 → (spotsC Wn zs idx)[j * 3 + c]? = (spotC Wn zs (fat idx j))[c]?
  | [], j, c, h, _ => by simp at h
  | k :: idx, 0, c, _, hc => by
    unfold spotsC
    rw [List.flatMap_cons, List.getElem?_append_left (by simp [spotC]; omega), Nat.zero_mul, Nat.zero_add]; rfl
  | k :: idx, j + 1, c, h, hc => by
    have h2 := spotsC_at Wn zs idx j c (by simpa using h) hc
    unfold spotsC at h2 ⊢
    rw [List.flatMap_cons, List.getElem?_append_right (by simp [spotC]; omega)]
    have e : (j + 1) * 3 + c - (spotC Wn zs k).length = j * 3 + c := by simp [spotC]; omega
    rw [e, h2]; rfl
/-- A slice of them, of the call's own. -/
def Spots (T : TypeId) (Wn : Nat) (zs : List Nat) (w : World) (B : Nat) (v : Value) (idx : List Nat) : Prop := w.ownsRow B T 3 v idx.length (spotsC Wn zs idx)
theorem Spots.below {T : TypeId} {Wn : Nat} {zs : List Nat} {w w' : World} {B : Nat} {v : Value} {idx : List Nat} (h : Spots T Wn zs w B v idx) (hb : Below w.heap.size w w') : Spots T Wn zs w' B v idx :=
  World.ownsRow.kept h (grown_of_below hb) (by cases v.ownBlock <;> simp)
theorem Spots.at {T : TypeId} {Wn : Nat} {zs : List Nat} {w : World} {B : Nat} {v : Value} {idx : List Nat} (h : Spots T Wn zs w B v idx) {j : Nat} (hj : j < idx.length) :
    ∃ g c, v = .slice (some ⟨g, 0, none⟩) idx.length c ∧ g < w.heap.size ∧ idx.length ≤ c ∧ c ≤ maxLen ∧ w.cell? ⟨g, j * 3, none⟩ = some (.int .i64 ((fat idx j % Wn : Nat) : Int)) ∧ w.cell? ⟨g, j * 3 + 1, none⟩ = some (.int .i64 ((fat idx j / Wn : Nat) : Int)) ∧ w.cell? ⟨g, j * 3 + 2, none⟩ = some (.float .f32 (fat zs (fat idx j))) := by
  rcases h.2 with ⟨_, h0⟩ | ⟨g, c, cur, e, hb, hg, hc, hm, hs, ht⟩
  · omega
  · have hcell : ∀ i, i < 3 → w.cell? ⟨g, j * 3 + i, none⟩ = (spotC Wn zs (fat idx j))[i]? := by
      intro i hi
      rw [cell_of_row w g _ cur T (0, 0) hg, ← spotsC_at Wn zs idx j i hj hi, ← ht, List.getElem?_take, if_pos (by omega), Array.getElem?_toList]
    exact ⟨g, c, e, (Array.getElem?_eq_some_iff.1 hg).1, hc, hm, hcell 0 (by omega), hcell 1 (by omega), hcell 2 (by omega)⟩
theorem Spots.mono {T : TypeId} {Wn : Nat} {zs : List Nat} {w : World} {B B' : Nat} {v : Value} {idx : List Nat} (h : Spots T Wn zs w B v idx) (hB : B' ≤ B) : Spots T Wn zs w B' v idx := by
  refine ⟨h.1, ?_⟩
  rcases h.2 with h' | ⟨g, c, cur, h1, h2, h3⟩
  · exact .inl h'
  · exact .inr ⟨g, c, cur, h1, Nat.le_trans hB h2, h3⟩
theorem Spots.isSlice {T : TypeId} {Wn : Nat} {zs : List Nat} {w : World} {B : Nat} {v : Value} {idx : List Nat} (h : Spots T Wn zs w B v idx) : ∃ a c, v = .slice a idx.length c := by
  rcases h.2 with ⟨e, h0⟩ | ⟨g, c, cur, e, _⟩
  · exact ⟨_, _, by rw [e, h0]⟩
  · exact ⟨_, _, e⟩
theorem cell1_new (w : World) (T : TypeId) (u0 : Value) (b : Nat) (hb : b = w.heap.size) (j : Nat) (u : Value) (hj : [u0][j]? = some u) : (w.alloc (.cells #[u0] T)).cell? ((⟨b, 0, none⟩ : Addr).add j) = some u := by
  subst hb
  have e : (⟨w.heap.size, 0, none⟩ : Addr).add j = ⟨w.heap.size, j, none⟩ := by cases j <;> simp [Addr.add]
  rw [e, cell_of_row _ w.heap.size j _ T (0, 0) (heap_alloc_new w _)]
  simpa using hj
theorem cells3_new (w : World) (T : TypeId) (u0 u1 u2 : Value) (b : Nat) (hb : b = w.heap.size) (j : Nat) (u : Value) (hj : [u0, u1, u2][j]? = some u) : (w.alloc (.cells #[u0, u1, u2] T)).cell? ((⟨b, 0, none⟩ : Addr).add j) = some u := by
  subst hb
  have e : (⟨w.heap.size, 0, none⟩ : Addr).add j = ⟨w.heap.size, j, none⟩ := by cases j <;> simp [Addr.add]
  rw [e, cell_of_row _ w.heap.size j _ T (0, 0) (heap_alloc_new w _)]
  simpa using hj
/-! ### makeDefs -/
def makeL (F : Nat → Nat → Nat) (Wn Hn : Nat) : List Nat := (List.range (Wn * Hn)).map fun i => F (i % Wn) (i / Wn)
theorem makeL_len {F : Nat → Nat → Nat} {Wn Hn : Nat} : (makeL F Wn Hn).length = Wn * Hn := by simp [makeL]
theorem makeL_at {F : Nat → Nat → Nat} {Wn Hn x y k : Nat} (hk : k = y * Wn + x) (hx : x < Wn) (hy : y < Hn) : fat (makeL F Wn Hn) k = F x y := by
  have h1 : k < Wn * Hn := by
    have : (y + 1) * Wn ≤ Hn * Wn := Nat.mul_le_mul_right _ (by omega)
    rw [Nat.succ_mul] at this
    rw [Nat.mul_comm Wn Hn]; omega
  have h2 : k % Wn = x := by rw [hk, Nat.mul_comm y Wn, Nat.mul_add_mod, Nat.mod_eq_of_lt hx]
  have h3 : k / Wn = y := by rw [hk, Nat.mul_comm y Wn, Nat.mul_add_div (by omega), Nat.div_eq_of_lt hx, Nat.add_zero]
  simp [fat, makeL, h1, h2, h3]
theorem make_lt {Wn Hn x y k : Nat} (hk : k = y * Wn + x) (hx : x < Wn) (hy : y < Hn) : k + 1 ≤ Wn * Hn := by
  have : (y + 1) * Wn ≤ Hn * Wn := Nat.mul_le_mul_right _ (by omega)
  rw [Nat.succ_mul] at this
  rw [Nat.mul_comm Wn Hn]; omega
def resMake (F : Nat → Nat → Nat) (W H : Int) : PRes := if sideB W H = true then giveP W H (makeL F W.toNat H.toNat) else PRes.no
/-! ### boxDefs -/
theorem var_four {w : World} {b : Nat} {v0 v1 v2 v3 : Value} (h : Var w b #[v0, v1, v2, v3]) : w.cell? ⟨b, 0, none⟩ = some v0 ∧ w.cell? ⟨b, 1, none⟩ = some v1 ∧ w.cell? ⟨b, 2, none⟩ = some v2 ∧ w.cell? ⟨b, 3, none⟩ = some v3 := ⟨h.2 0 (by simp), h.2 1 (by simp), h.2 2 (by simp), h.2 3 (by simp)⟩
def resFil (W H : Int) (zs : List Nat) (r : Int) (F : Nat → Nat → Nat → Nat → Nat) : PRes := if (validB W H zs && (decide (0 ≤ r) && decide (r ≤ 8))) = true then giveP W H (makeL (F W.toNat H.toNat) W.toNat H.toNat) else PRes.no
/-! ### rowOf -/
theorem c_rowOf (Wn Hn : Nat) (a : Option Addr) (cap : Nat) (zs : List Nat) (y : Nat) (w : World) (hr : IsRowF .f32 w a zs.length cap zs) (hW1 : 1 ≤ Wn) (hW2 : Wn ≤ 16) (hH2 : Hn ≤ 16) (hl : zs.length = Wn * Hn) (hy : y < Hn) :
    Calls Try.prog 96 #[.agg #[.int .i64 (Wn : Int), .int .i64 (Hn : Int), .slice a zs.length cap], .int .i64 (y : Int)] w (fun e w' => ∃ b off, a = some ⟨b, off, none⟩ ∧ e = .returned (.slice (some ⟨b, off + y * Wn, none⟩) Wn Wn) ∧ Below w.heap.size w w') := by
  obtain ⟨hb1, hb2⟩ := mul_bound hy hW2 hH2
  obtain ⟨N, hN⟩ : ∃ N, N = zs.length := ⟨_, rfl⟩
  obtain ⟨P, hP⟩ : ∃ P : Nat, P = y * Wn := ⟨_, rfl⟩
  have hPi : (y : Int) * (Wn : Int) = (P : Int) := by rw [hP, Int.natCast_mul]
  have hPi2 : ((y : Int) + 1) * (Wn : Int) = (P : Int) + (Wn : Int) := by rw [Int.add_mul, hPi, Int.one_mul]
  rw [← hP] at hb1 hb2 ⊢
  rw [← hl, ← hN] at hb1
  rw [← hN] at hr ⊢
  have hcap : N ≤ cap := hr.2.1
  have hcm : cap ≤ maxLen := hr.2.2.1
  unfold maxLen at hcm
  obtain ⟨b, off, n0, rfl, hb, e0⟩ := hr.at (k := 0) (by omega)
  have M1 := Lib.hid (show IntKind.i64.wrap ((y : Int) * (Wn : Int)) = (P : Int) by rw [hPi]; exact IntWalk.i64_in _ (by omega))
  have M2 := Lib.hid (show IntKind.i64.wrap (((y : Int) + 1) * (Wn : Int)) = (P : Int) + (Wn : Int) by rw [hPi2]; exact IntWalk.i64_in _ (by omega))
  have M3 := Lib.hid (show IntKind.i64.wrap ((y : Int) + 1) = (y : Int) + 1 from IntWalk.i64_in _ (by omega))
  have hc2 : P + Wn ≤ cap := by omega
  clear hN hP hPi hPi2 hl hr hb e0 n0
  generalize hw0 : w.alloc (Obj.cells #[.int .i64 (Wn : Int), .int .i64 (Hn : Int), .slice (some ⟨b, off, none⟩) N cap] 29) = w0
  have X0 : Var w0 w.heap.size #[.int .i64 (Wn : Int), .int .i64 (Hn : Int), .slice (some ⟨b, off, none⟩) N cap] := by subst hw0; exact Var.new _ _ _
  have X3 : Below w.heap.size w w0 := by subst hw0; exact (Below.refl _ _).alloc (Nat.le_refl _) _
  have HW := Lib.hid hw0
  have B0 := Lib.hid X3
  obtain ⟨v0, v1, v2⟩ := X0.three
  clear hw0 X0 X3
  go_enter Try.func96, Try.ntmps96
  go_wp2_with fail
  rw [HW.out]
  rw [← w0.drewN_zero]
  have m1 := M1.out
  have m2 := M2.out
  have m3 := M3.out
  refine wp_region_N (fun _ _ _ => True) (by kernel_rfl) (by kernel_rfl) ?_; (repeat (first | ((with_reducible show wpN _ _ _ _ _ (Oper.mk _ (Op.binOp _ _ _ _ _) _ _ _ none :: _) _); refine wpN_fop rfl _ _ _ _ _ rfl _ _ _ rfl rfl (by decide) ?_; intro _) | ((with_reducible show wpN _ _ _ _ _ (Oper.mk _ (Op.convert _ _ _) _ _ _ none :: _) _); refine wpN_cvU rfl 43 49 _ rfl (Option.isSome_iff_exists.2 ⟨_, Try.underlying43⟩) Try.underlying49 _ rfl ?_; intro _) | ((with_reducible show wpN _ _ _ _ _ (Oper.mk _ _ _ _ _ (some _) :: _) _); (with_reducible refine wpN_off ?_ ?_); focus rfl; (simp only [Act.put, List.setIfInBounds_toArray, List.set_cons_zero, List.set_cons_succ])) | ((with_reducible show wpN _ _ _ _ _ (Oper.mk _ _ _ _ _ (some _) :: _) _); ((with_reducible refine wpN_on ?_ (fun K hK => ?_)); (focus rfl); intro _; go_simp; first | (refine uponN_value (hK _ ?_)) | (fail; refine hK _ ?_)); clear hK K) | (((with_reducible refine wpN_plain rfl (fun K hK => ?_)); intro _; go_simp; first | (refine uponN_value (hK _ ?_)) | (fail; refine hK _ ?_)); clear hK K) | ((with_reducible refine wpN_step (fun K hK => ?_)); go_simp; first | (refine hK _ ?_) | (intro _; first | (refine uponN_value (hK _ ?_)) | (fail; refine hK _ ?_)); clear hK K))); refine wpN_nil ?_; intro _
  clear m1 m2 m3
  go_wp2_with fail
  go_ret
  exact ⟨b, off, rfl, by simp, below_drewN B0.out _⟩

/-! ### spotsIn -/
theorem infoSpot : (Try.prog.info? 113).map (fun i => (i.zero, i.size, i.bytes)) = some (some (.agg #[.int .i64 0, .int .i64 0, .float .f32 0]), 3, 24) := by kernel_rfl
theorem c_spotsIn (Wn Hn : Nat) (a : Option Addr) (cap : Nat) (zs : List Nat) (l t r b : Int) (w : World) (hr : IsRowF .f32 w a zs.length cap zs) (hW1 : 1 ≤ Wn) (hW2 : Wn ≤ 16) (hH2 : Hn ≤ 16) (hl : zs.length = Wn * Hn) :
    Calls Try.prog 122 #[.agg #[.int .i64 (Wn : Int), .int .i64 (Hn : Int), .slice a zs.length cap], .agg #[.int .i64 l, .int .i64 t, .int .i64 r, .int .i64 b]] w
      (fun e w' => ∃ v, e = .returned v ∧ Below w.heap.size w w' ∧ Spots 113 Wn zs w' w.heap.size v (winL Wn (Wn * Hn) l t r b)) := by
  obtain ⟨i0, hinf, hz0, hz1, hz2⟩ := info_parts infoSpot
  generalize hw2 : (w.alloc (Obj.cells #[.int .i64 (Wn : Int), .int .i64 (Hn : Int), .slice a zs.length cap] 29)).alloc (Obj.cells #[.int .i64 l, .int .i64 t, .int .i64 r, .int .i64 b] 111) = w2
  have B0 : Below w.heap.size w w2 := by subst hw2; exact ((Below.refl _ _).alloc (Nat.le_refl _) _).alloc (by simp) _
  have VA : Var w2 w.heap.size #[.int .i64 (Wn : Int), .int .i64 (Hn : Int), .slice a zs.length cap] := by subst hw2; exact (Var.new _ _ _).alloc _
  have VB : Var w2 (w.heap.size + 1) #[.int .i64 l, .int .i64 t, .int .i64 r, .int .i64 b] := by subst hw2; exact Var.new' _ _ _ _ (by simp)
  have SZ : w2.heap.size = w.heap.size + 1 + 1 := by subst hw2; simp
  have R2 := hr.below B0
  have HN : Wn * Hn ≤ 256 := Nat.le_trans (Nat.mul_le_mul hW2 hH2) (by decide)
  have HBo := Lib.hid (fun (y : Nat) (hy : y < Hn) => (mul_bound hy hW2 hH2))
  have KS := Lib.hid (fun (w' : World) (hE : Below w2.heap.size w2 w') => (⟨(VA.keep hE).2 0 (by simp), (VA.keep hE).2 1 (by simp), (VA.keep hE).2 2 (by simp), (VB.keep hE).2 0 (by simp), (VB.keep hE).2 1 (by simp), (VB.keep hE).2 2 (by simp), (VB.keep hE).2 3 (by simp)⟩ :
    w'.cell? ⟨w.heap.size, 0, none⟩ = some (.int .i64 (Wn : Int)) ∧ w'.cell? ⟨w.heap.size, 1, none⟩ = some (.int .i64 (Hn : Int)) ∧ w'.cell? ⟨w.heap.size, 2, none⟩ = some (.slice a zs.length cap) ∧ w'.cell? ⟨w.heap.size + 1, 0, none⟩ = some (.int .i64 l) ∧ w'.cell? ⟨w.heap.size + 1, 1, none⟩ = some (.int .i64 t) ∧ w'.cell? ⟨w.heap.size + 1, 2, none⟩ = some (.int .i64 r) ∧ w'.cell? ⟨w.heap.size + 1, 3, none⟩ = some (.int .i64 b)))
  have HW := Lib.hid hw2
  have BW := Lib.hid B0
  have RW := Lib.hid R2
  have HLn := Lib.hid hl
  have RC := Lib.hid (fun (y : Nat) (wr : World) (hE : Below w2.heap.size w2 wr) (hy : y < Hn) => c_rowOf Wn Hn a cap zs y wr (RW.out.below hE) hW1 hW2 hH2 HLn.out hy)
  have HCell := Lib.hid (fun (bb off i : Nat) (wr : World) (hE : Below w2.heap.size w2 wr) (ha : a = some ⟨bb, off, none⟩) (hi : i < Wn * Hn) => (by
    rcases (RW.out.below hE).2.2.2.2 with h0 | ⟨b', off', e, _, hc⟩
    · rw [HLn.out] at h0; omega
    · rw [ha] at e; cases e; exact hc i (by rw [HLn.out]; exact hi) : wr.cell? ⟨bb, off + i, none⟩ = some (.float .f32 (fat zs i))))
  have HWi := Lib.hid (show (Lit.int .i64 (Wn : Int)).wf = true by simp [Lit.wf, IntKind.min, IntKind.max, IntKind.signed, IntKind.bits]; omega)
  clear hw2 B0 VA VB hr R2 hl
  obtain ⟨d0, d1, d2, d3, d4, d5, d6⟩ := KS.out w2 (Below.refl _ _)
  go_enter Try.func122, Try.ntmps122
  go_wp2_with fail
  rw [HW.out]
  go_step3
  go_wp2_with fail
  go_step3
  go_wp2_with fail
  clear d0 d1 d2 d3 d4 d5 d6
  go_loopg [5, 12] Hn (fun g s5 s12 wr => ∃ y : Nat, y + g = Hn ∧ s12 = .int .i64 (y : Int) ∧ Hid (Spots 113 Wn zs wr w2.heap.size s5 (winL Wn (y * Wn) l t r b)) ∧ Below w2.heap.size w2 wr)
  case atStart => exact ⟨0, by omega, rfl, Lib.hid (by rw [Nat.zero_mul]; exact World.ownsRow_nil _ _ _ _), Below.refl _ _⟩
  case round =>
    obtain ⟨y, hyg, rfl, HS, hB⟩ := hrel
    obtain ⟨d0, d1, d2, d3, d4, d5, d6⟩ := KS.out wr hB
    have HB := Lib.hid hB
    clear hB
    obtain ⟨u5, c5, e5⟩ := HS.out.isSlice
    subst e5
    cases gk with
    | zero =>
      have hyz : ¬ ((y : Int) < (Hn : Int)) := by omega
      go_wp2_with fail
      try rw [Exit.noGoto_ret]
      go_ret
      obtain rfl : y = Hn := by omega
      exact ⟨_, rfl, BW.out.trans (HB.out.mono (by omega)), by rw [Nat.mul_comm Wn y]; exact HS.out.mono (by omega)⟩
    | succ g =>
      have hyz : ((y : Int) < (Hn : Int)) := by omega
      have hyn : y < Hn := by omega
      go_wp2_with fail
      refine (RC.out y wr HB.out hyn).mono ?_
      rintro _ w3 ⟨bb, off, hab, rfl, b3⟩
      have HB3 := Lib.hid (HB.out.trans (b3.mono HB.out.size))
      have HS3 := Lib.hid (HS.out.below b3)
      have HAB := Lib.hid hab
      clear hab b3 HS d0 d1 d2 d3 d4 d5 d6
      go_wp2_with fail
      go_loopg [5, 19] Wn (fun g s5 s19 wr => ∃ x : Nat, x + g = Wn ∧ s19 = .int .i64 (x : Int) ∧ Hid (Spots 113 Wn zs wr w2.heap.size s5 (winL Wn (y * Wn + x) l t r b)) ∧ Below w2.heap.size w2 wr)
      case atStart => exact ⟨0, by omega, rfl, HS3, HB3.out⟩
      case round =>
        obtain ⟨x, hxg, rfl, HS4, hB4⟩ := hrel
        obtain ⟨d0, d1, d2, d3, d4, d5, d6⟩ := KS.out _ hB4
        have HB4 := Lib.hid hB4
        clear hB4
        obtain ⟨v5, k5, e5⟩ := HS4.out.isSlice
        subst e5
        obtain ⟨hr1, hr2⟩ := HBo.out y hyn
        have hlen5 := winL_len Wn (y * Wn + x) l t r b
        obtain ⟨n5, hn5⟩ : ∃ n, n = (winL Wn (y * Wn + x) l t r b).length := ⟨_, rfl⟩
        have HS5 : Hid (Spots 113 Wn zs wr w2.heap.size (.slice v5 n5 k5) (winL Wn (y * Wn + x) l t r b)) := by rw [hn5]; exact HS4
        rw [← hn5] at hlen5 ⊢
        have HN5 := Lib.hid hn5
        clear HS4 hn5
        cases gk with
        | zero =>
          have hxz : ¬ ((x : Int) < (Wn : Int)) := by omega
          go_wp2_with fail
          go_roundg g
          case measure => omega
          case rel => exact ⟨y + 1, by omega, by go_num, by obtain rfl : x = Wn := by omega
                                                            rw [Nat.succ_mul]; exact HS5, HB4.out⟩
        | succ g4 =>
          have hxz : ((x : Int) < (Wn : Int)) := by omega
          have hxn : x < Wn := by omega
          have hcell := HCell.out bb off (y * Wn + x) _ HB4.out HAB.out (by omega)
          rw [← Nat.add_assoc] at hcell
          by_cases hb1 : b < (y : Int)
          · go_wp2_with fail
            try rw [Exit.noGoto_ret]
            go_ret
            exact ⟨_, rfl, BW.out.trans (HB4.out.mono (by omega)), by rw [winL_rest hW1 (show y * Wn + x ≤ Wn * Hn by omega) hb1]; exact HS5.out.mono (by omega)⟩
          by_cases ht1 : (y : Int) < t
          · go_wp2_with fail
            go_roundg g
            case measure => omega
            case rel => exact ⟨y + 1, by omega, by go_num, by rw [winL_row (Nat.le_of_lt hxn) (.inl ht1)]; exact HS5, HB4.out⟩
          by_cases hr3 : r < (x : Int)
          · go_wp2_with fail
            go_roundg g
            case measure => omega
            case rel => exact ⟨y + 1, by omega, by go_num, by rw [winL_row (Nat.le_of_lt hxn) (.inr hr3)]; exact HS5, HB4.out⟩
          by_cases hlx : l ≤ (x : Int)
          · have hbel : Below w2.heap.size w2 _ := HB4.out
            have hsz : w2.heap.size ≤ wr.heap.size := HB4.out.size
            have hw : winB Wn l t r b (y * Wn + x) = true := by rw [winB_at rfl hxn]; simp only [Bool.and_eq_true, decide_eq_true_eq]; omega
            have HWB := Lib.hid hw
            have hdm := row_div (rfl : y * Wn + x = y * Wn + x) hxn
            have HDM := Lib.hid hdm
            clear hbel hw hdm
            go_wp2_with (at_builtin; refine wpList_append_own _ rfl _ _ 93 rfl w2.heap.size 113 i0 (.agg #[.int .i64 0, .int .i64 0, .float .f32 0]) 3 24 Try.underlying93 hinf hz0 hz1 hz2 rfl (by decide) _ n5 (spotsC Wn zs (winL Wn (y * Wn + x) l t r b)) rfl (by have h := HS5.out.below ((Below.refl wr.heap.size wr).alloc (Nat.le_refl _) (.cells #[.int .i64 (x : Int), .int .i64 (y : Int), .float .f32 (fat zs (y * Wn + x))] 113)); unfold Spots at h; rwa [← HN5.out] at h) ⟨wr.heap.size, 0, none⟩ 1 1 [.int .i64 (x : Int), .int .i64 (y : Int), .float .f32 (fat zs (y * Wn + x))] rfl rfl (cells3_new wr _ _ _ _ _ rfl) (by intro u hu; simp at hu; rcases hu with rfl | rfl | rfl <;> rfl) (by unfold maxLen; omega) (by omega) (by simp; omega) ?_)
            intro v' w6 hown' hgrow _
            have hB6 : Below w2.heap.size w2 w6 := (HB4.out.alloc hsz _).grown hgrow (by simp; omega) (fun g e => by have := HS5.out.lt g e; exact this.1)
            have HS6 : Hid (Spots 113 Wn zs w6 w2.heap.size v' (winL Wn (y * Wn + (x + 1)) l t r b)) := by
              show Spots _ _ _ _ _ _ _
              unfold Spots
              rw [← Nat.add_assoc, winL_yes HWB.out, spotsC_snoc, List.length_append, ← HN5.out]
              have e : spotC Wn zs (y * Wn + x) = [.int .i64 (x : Int), .int .i64 (y : Int), .float .f32 (fat zs (y * Wn + x))] := by unfold spotC; rw [HDM.out.1, HDM.out.2]
              rw [e, SZ]; exact hown'
            have HB6 := Lib.hid hB6
            clear hown' hgrow hB6
            go_wp2_with fail
            go_roundg g4
            case measure => omega
            case rel => exact ⟨x + 1, by omega, by go_num, HS6, HB6.out⟩
          · have hw : winB Wn l t r b (y * Wn + x) = false := by rw [winB_at rfl hxn, decide_eq_false hlx]; simp
            have HWB := Lib.hid hw
            clear hw
            go_wp2_with fail
            go_roundg g4
            case measure => omega
            case rel => exact ⟨x + 1, by omega, by go_num, by rw [← Nat.add_assoc, winL_no HWB.out]; exact HS5, HB4.out⟩
/-! ### meanOf -/
theorem c_meanOf (Wn : Nat) (zs idx : List Nat) (B : Nat) (v : Value) (w : World) (hs : Spots 113 Wn zs w B v idx) (hn : idx.length ≤ 256) :
    Calls Try.prog 121 #[v] w (fun e w' => ∃ m, e = .returned (.float .f32 (pick .f32 (meanV zs idx) m)) ∧ Below w.heap.size w w') := by
  obtain ⟨a, c, rfl⟩ := hs.isSlice
  obtain ⟨n, hn2⟩ : ∃ n, n = idx.length := ⟨_, rfl⟩
  unfold meanV
  rw [← hn2] at hs hn ⊢
  have HN := Lib.hid hn2
  have HS := Lib.hid hs
  clear hs hn2
  go_enter Try.func121, Try.ntmps121
  go_wp2_with fail
  go_loopw [3, 8] (fun s3 s8 wr => ∃ j m : Nat, j ≤ n ∧ s8 = .int .i64 (j : Int) ∧ s3 = .float .f32 (pick .f32 (sumL zs (idx.take j)) m) ∧ Below w.heap.size w wr) (fun _ s8 _ => n - (intOf s8).toNat)
  case atStart => exact ⟨0, 0, Nat.zero_le _, rfl, by rw [List.take_zero]; exact congrArg _ (pick_not (by decide +kernel) 0).symm, Below.refl _ _⟩
  case round =>
    obtain ⟨j, m, hj, rfl, rfl, hB⟩ := hrel
    by_cases hlt : j < n
    · obtain ⟨g, c2, e, hg, hc1, hc2, h0, h1, h2⟩ := (HS.out.below hB).at (j := j) (by rw [← HN.out]; exact hlt)
      have HB := Lib.hid hB
      have HT := Lib.hid (take_snoc (idx := idx) (j := j) (by rw [← HN.out]; exact hlt))
      have hsz := hB.size
      clear hB
      simp only [Value.slice.injEq] at e
      obtain ⟨rfl, e1, rfl⟩ := e
      clear e1
      go_wp2_with (first | (refine wpList_fop rfl _ _ _ _ _ rfl _ _ _ rfl rfl (by decide) _ ?_; intro _ _) | (refine wpList_fop0 rfl _ _ _ _ _ rfl _ _ _ rfl rfl (by decide) ?_; intro _ _) | (refine upon_fop _ _ _ _ _ (by decide) ?_; intro _ _) | (refine upon_fop0 _ _ _ _ _ (by decide) ?_; intro _ _))
      go_roundw
      case rel => exact ⟨j + 1, _, by omega, by go_num, by rw [HT.out, sumL_snoc], below_drewN (HB.out.alloc hsz _) _⟩
      case measure => simp [intOf]; omega
    · obtain rfl : j = n := by omega
      have HB := Lib.hid hB
      have HT := Lib.hid (show idx.take j = idx from List.take_of_length_le (by rw [← HN.out]; exact Nat.le_refl _))
      clear hB
      go_wp2_with (first | (refine wpList_fop rfl _ _ _ _ _ rfl _ _ _ rfl rfl (by decide) _ ?_; intro _ _) | (refine wpList_fop0 rfl _ _ _ _ _ rfl _ _ _ rfl rfl (by decide) ?_; intro _ _) | (refine upon_fop _ _ _ _ _ (by decide) ?_; intro _ _) | (refine upon_fop0 _ _ _ _ _ (by decide) ?_; intro _ _))
      go_ret
      exact ⟨_, by rw [HT.out]; rfl, below_drewN HB.out _⟩
/-! ### window -/
theorem c_window (Wn Hn : Nat) (a : Option Addr) (cap : Nat) (zs : List Nat) (r : Int) (x y : Nat) (w : World) (hr : IsRowF .f32 w a zs.length cap zs) (hW1 : 1 ≤ Wn) (hW2 : Wn ≤ 16) (hH2 : Hn ≤ 16) (hl : zs.length = Wn * Hn) (hx : x < 16) (hy : y < 16) (hr0 : 0 ≤ r) (hr8 : r ≤ 8) :
    Calls Try.prog 98 #[.agg #[.int .i64 (Wn : Int), .int .i64 (Hn : Int), .slice a zs.length cap, .int .i64 r], .int .i64 (x : Int), .int .i64 (y : Int)] w
      (fun e w' => ∃ v, e = .returned v ∧ Below w.heap.size w w' ∧ Spots 113 Wn zs w' w.heap.size v (winL Wn (Wn * Hn) ((x : Int) - r) ((y : Int) - r) ((x : Int) + r) ((y : Int) + r))) := by
  have m1 : IntKind.i64.wrap ((x : Int) - r) = (x : Int) - r := IntWalk.i64_in _ (by omega)
  have m2 : IntKind.i64.wrap ((y : Int) - r) = (y : Int) - r := IntWalk.i64_in _ (by omega)
  have m3 : IntKind.i64.wrap ((x : Int) + r) = (x : Int) + r := IntWalk.i64_in _ (by omega)
  have m4 : IntKind.i64.wrap ((y : Int) + r) = (y : Int) + r := IntWalk.i64_in _ (by omega)
  have B0 := Lib.hid ((Below.refl w.heap.size w).alloc (Nat.le_refl _) (.cells #[.int .i64 (Wn : Int), .int .i64 (Hn : Int), .slice a zs.length cap, .int .i64 r] 70))
  have CS := Lib.hid (c_spotsIn Wn Hn a cap zs ((x : Int) - r) ((y : Int) - r) ((x : Int) + r) ((y : Int) + r) _ (hr.below B0.out) hW1 hW2 hH2 hl)
  clear hr hl
  go_enter Try.func98, Try.ntmps98
  go_wp2_with fail
  refine CS.out.mono ?_
  rintro _ w1 ⟨v, rfl, b, hs⟩
  have B1 := Lib.hid (B0.out.trans (b.mono (by simp)))
  have HS := Lib.hid (hs.mono (B' := w.heap.size) (by simp))
  clear b hs
  go_wp2_with fail
  go_ret
  exact ⟨_, rfl, B1.out, HS.out⟩
def boxF (zs : List Nat) (Wn Hn : Nat) (r : Int) (x y : Nat) : Nat := meanV zs (winL Wn (Wn * Hn) ((x : Int) - r) ((y : Int) - r) ((x : Int) + r) ((y : Int) + r))
theorem c_vMean (Wn Hn : Nat) (a : Option Addr) (cap : Nat) (zs : List Nat) (r : Int) (x y : Nat) (w : World) (hr : IsRowF .f32 w a zs.length cap zs) (hW1 : 1 ≤ Wn) (hW2 : Wn ≤ 16) (hH2 : Hn ≤ 16) (hl : zs.length = Wn * Hn) (hx : x < 16) (hy : y < 16) (hr0 : 0 ≤ r) (hr8 : r ≤ 8) :
    Calls Try.prog 72 #[.agg #[.int .i64 (Wn : Int), .int .i64 (Hn : Int), .slice a zs.length cap, .int .i64 r], .int .i64 (x : Int), .int .i64 (y : Int)] w
      (fun e w' => ∃ n, e = .returned (.float .f32 (pick .f32 (boxF zs Wn Hn r x y) n)) ∧ Below w.heap.size w w') := by
  unfold boxF
  have HN : Wn * Hn ≤ 256 := Nat.le_trans (Nat.mul_le_mul hW2 hH2) (by decide)
  have hlen := winL_len Wn (Wn * Hn) ((x : Int) - r) ((y : Int) - r) ((x : Int) + r) ((y : Int) + r)
  have B0 := Lib.hid ((Below.refl w.heap.size w).alloc (Nat.le_refl _) (.cells #[.int .i64 (Wn : Int), .int .i64 (Hn : Int), .slice a zs.length cap, .int .i64 r] 70))
  have CS := Lib.hid (c_window Wn Hn a cap zs r x y _ (hr.below B0.out) hW1 hW2 hH2 hl hx hy hr0 hr8)
  clear hr hl
  generalize winL Wn (Wn * Hn) ((x : Int) - r) ((y : Int) - r) ((x : Int) + r) ((y : Int) + r) = idx at *
  go_enter Try.func72, Try.ntmps72
  go_wp2_with fail
  refine CS.out.mono ?_
  rintro _ w1 ⟨v, rfl, b, hs⟩
  have B1 := Lib.hid (B0.out.trans (b.mono (by simp)))
  have HS := Lib.hid hs
  clear b hs
  go_wp2_with fail
  refine (c_meanOf Wn zs idx _ v w1 HS.out (by omega)).mono ?_
  rintro _ w2 ⟨m, rfl, b⟩
  have B2 := Lib.hid (B1.out.trans (b.mono B1.out.size))
  clear b
  go_wp2_with fail
  go_ret
  exact ⟨_, rfl, B2.out⟩
/-! ### ordDefs -/
theorem cmp_bools (a b : Int) : ((some (compare a b) == some Ordering.lt) = decide (a < b)) ∧ ((some (compare a b) == some Ordering.gt) = decide (b < a)) ∧ ((some (compare a b) == some Ordering.eq) = decide (a = b)) := by
  rcases Int.lt_trichotomy a b with h | h | h
  · rw [cmp_of_lt h, decide_eq_true h, decide_eq_false (by omega), decide_eq_false (by omega)]; exact ⟨rfl, rfl, rfl⟩
  · subst h; rw [Int.compare_eq_eq.2 rfl, decide_eq_false (by omega), decide_eq_true rfl]; exact ⟨rfl, rfl, rfl⟩
  · rw [cmp_of_gt h, decide_eq_false (by omega), decide_eq_true h, decide_eq_false (by omega)]; exact ⟨rfl, rfl, rfl⟩
theorem o_lt {v c : Nat} (h : isN .f32 v = false) (hc : isN .f32 c = false) : (FloatKind.f32.format.order v c == some .lt) = decide (srung FloatKind.f32.format v < srung FloatKind.f32.format c) := by
  rw [order_rungs .f32 v c h hc]; exact (cmp_bools _ _).1
theorem o_gt {v c : Nat} (h : isN .f32 v = false) (hc : isN .f32 c = false) : (FloatKind.f32.format.order v c == some .gt) = decide (srung FloatKind.f32.format c < srung FloatKind.f32.format v) := by
  rw [order_rungs .f32 v c h hc]; exact (cmp_bools _ _).2.1
theorem o_eq {v c : Nat} (h : isN .f32 v = false) (hc : isN .f32 c = false) : (FloatKind.f32.format.order v c == some .eq) = decide (srung FloatKind.f32.format v = srung FloatKind.f32.format c) := by
  rw [order_rungs .f32 v c h hc]; exact (cmp_bools _ _).2.2
theorem o_le {v c : Nat} (h : isN .f32 v = false) (hc : isN .f32 c = false) : (FloatKind.f32.format.order v c == some .lt || FloatKind.f32.format.order v c == some .eq) = decide (srung FloatKind.f32.format v ≤ srung FloatKind.f32.format c) := by
  rw [o_lt h hc, o_eq h hc, ← Bool.decide_or]; exact decide_eq_decide.2 (by omega)
theorem o_ge {v c : Nat} (h : isN .f32 v = false) (hc : isN .f32 c = false) : (FloatKind.f32.format.order v c == some .gt || FloatKind.f32.format.order v c == some .eq) = decide (srung FloatKind.f32.format c ≤ srung FloatKind.f32.format v) := by
  rw [o_gt h hc, o_eq h hc, ← Bool.decide_or]; exact decide_eq_decide.2 (by omega)
theorem s_zero : srung FloatKind.f32.format 0 = 0 := by decide +kernel
theorem s_half : srung FloatKind.f32.format 1056964608 = 1056964608 := by decide +kernel
theorem s_one : srung FloatKind.f32.format 1065353216 = 1065353216 := by decide +kernel
theorem n_zero : isN .f32 0 = false := by decide +kernel
theorem n_half : isN .f32 1056964608 = false := by decide +kernel
theorem n_one : isN .f32 1065353216 = false := by decide +kernel
theorem pick_zero (n : Nat) : pick .f32 0 n = 0 := pick_not n_zero n
/-! ### l01Finite -/
theorem c_l01Finite (v n : Nat) (w : World) (j : Nat) : Calls Try.prog 90 #[.float .f32 (pick .f32 v n)] (w.drewN j) (RetV (.bool (finB .f32 v)) w) := by
  go_enter Try.func90, Try.ntmps90
  go_wp2_with (first | (refine wpList_fop rfl _ _ _ _ _ rfl _ _ _ rfl rfl (by decide) _ ?_; intro _ _) | (refine upon_fop _ _ _ _ _ (by decide) ?_; intro _ _))
  go_ret
  rw [← sub_self_zero]
  exact ⟨_, rfl, rfl⟩
/-! ### l02Above -/
def aboveB (v : Nat) : Bool := finB .f32 v && (FloatKind.f32.format.order v 0 == some .gt)
theorem aboveB_pick (v n : Nat) : aboveB (pick .f32 v n) = aboveB v := by unfold aboveB; rw [finB_pick, order_pick_l]
theorem c_l02Above (v n : Nat) (w : World) (j : Nat) : Calls Try.prog 75 #[.float .f32 (pick .f32 v n)] (w.drewN j) (RetV (.bool (aboveB v)) w) := by
  unfold aboveB
  cases h : finB .f32 v
  all_goals
    have HH := Lib.hid h
    go_enter Try.func75, Try.ntmps75
    go_wp2_with ((go_at_call 90; refine (c_l01Finite _ _ _ _).mono ?_; rintro _ _ ⟨_, rfl, rfl⟩))
    go_ret
    exact ⟨_, by simp [HH.out], rfl⟩
/-! ### edgeDefs -/
def farV (dx dy : Int) : Nat := fop .add .f32 (fop .add .f32 1065353216 (fop .mul .f32 (floatOfInt .f32 dx) (floatOfInt .f32 dx))) (fop .mul .f32 (floatOfInt .f32 dy) (floatOfInt .f32 dy))
def jumpV (l1 l2 near : Nat) : Nat := fop .quo .f32 (fop .sub .f32 l1 l2) near
def wtV (dx dy : Int) (l1 l2 near : Nat) : Nat := fop .quo .f32 1065353216 (fop .mul .f32 (farV dx dy) (fop .add .f32 1065353216 (fop .mul .f32 (jumpV l1 l2 near) (jumpV l1 l2 near))))
def wtI (Wn : Nat) (zs : List Nat) (v i k : Nat) : Nat := wtV (((k % Wn : Nat) : Int) - ((i % Wn : Nat) : Int)) (((k / Wn : Nat) : Int) - ((i / Wn : Nat) : Int)) (fat zs k) (fat zs i) v
def eL1 (Wn : Nat) (zs : List Nat) (v i : Nat) (idx : List Nat) : Nat := idx.foldl (fun s k => fop .add .f32 s (fop .mul .f32 (wtI Wn zs v i k) (fat zs k))) 0
def eL2 (Wn : Nat) (zs : List Nat) (v i : Nat) (idx : List Nat) : Nat := idx.foldl (fun s k => fop .add .f32 s (wtI Wn zs v i k)) 0
theorem eL1_snoc (Wn : Nat) (zs : List Nat) (v i : Nat) (idx : List Nat) (k : Nat) : eL1 Wn zs v i (idx ++ [k]) = fop .add .f32 (eL1 Wn zs v i idx) (fop .mul .f32 (wtI Wn zs v i k) (fat zs k)) := by unfold eL1; rw [List.foldl_append]; rfl
theorem eL2_snoc (Wn : Nat) (zs : List Nat) (v i : Nat) (idx : List Nat) (k : Nat) : eL2 Wn zs v i (idx ++ [k]) = fop .add .f32 (eL2 Wn zs v i idx) (wtI Wn zs v i k) := by unfold eL2; rw [List.foldl_append]; rfl
def edgeV (Wn : Nat) (zs : List Nat) (v i : Nat) (idx : List Nat) : Nat := fop .quo .f32 (eL1 Wn zs v i idx) (eL2 Wn zs v i idx)
def edgeF (zs : List Nat) (v : Nat) (Wn Hn : Nat) (r : Int) (x y : Nat) : Nat := edgeV Wn zs v (y * Wn + x) (winL Wn (Wn * Hn) ((x : Int) - r) ((y : Int) - r) ((x : Int) + r) ((y : Int) + r))
def resEdge (W H : Int) (zs : List Nat) (r : Int) (v : Nat) : PRes := if aboveB v = true then resFil W H zs r (fun Wn Hn x y => edgeF zs v Wn Hn r x y) else PRes.no
theorem above_le (v : Nat) : aboveB v = (finB .f32 v && !(FloatKind.f32.format.order v 0 == some .lt || FloatKind.f32.format.order v 0 == some .eq)) := by
  unfold aboveB
  cases h : finB .f32 v
  · rfl
  · have hn : isN .f32 v = false := by
      cases e : isN .f32 v
      · rfl
      · rw [finB_nan e] at h; cases h
    rw [o_le hn n_zero, o_gt hn n_zero, Bool.true_and, Bool.true_and, ← decide_not]
    exact decide_eq_decide.2 (by omega)
/-! ### edgeW -/
theorem c_iWeight (W H : Int) (a : Option Addr) (l c : Nat) (r : Int) (v n : Nat) (x1 y1 x2 y2 : Int) (l1 n1 l2 n2 : Nat) (w : World) (hx : -256 ≤ x1 - x2 ∧ x1 - x2 ≤ 256) (hy : -256 ≤ y1 - y2 ∧ y1 - y2 ≤ 256) :
    Calls Try.prog 127 #[.agg #[.int .i64 W, .int .i64 H, .slice a l c, .int .i64 r, .float .f32 (pick .f32 v n)], .agg #[.int .i64 x1, .int .i64 y1, .float .f32 (pick .f32 l1 n1)], .agg #[.int .i64 x2, .int .i64 y2, .float .f32 (pick .f32 l2 n2)]] w
      (fun e w' => ∃ m, e = .returned (.float .f32 (pick .f32 (wtV (x1 - x2) (y1 - y2) l1 l2 v) m)) ∧ Below w.heap.size w w') := by
  generalize hw0 : ((w.alloc (Obj.cells #[.int .i64 W, .int .i64 H, .slice a l c, .int .i64 r, .float .f32 (pick .f32 v n)] 85)).alloc (Obj.cells #[.int .i64 x1, .int .i64 y1, .float .f32 (pick .f32 l1 n1)] 113)).alloc (Obj.cells #[.int .i64 x2, .int .i64 y2, .float .f32 (pick .f32 l2 n2)] 113) = w0
  have VA : Var w0 w.heap.size #[.int .i64 W, .int .i64 H, .slice a l c, .int .i64 r, .float .f32 (pick .f32 v n)] := by subst hw0; exact ((Var.new _ _ _).alloc _).alloc _
  have VB : Var w0 (w.heap.size + 1) #[.int .i64 x1, .int .i64 y1, .float .f32 (pick .f32 l1 n1)] := by subst hw0; exact (Var.new' _ _ _ _ (by simp)).alloc _
  have VC : Var w0 (w.heap.size + 1 + 1) #[.int .i64 x2, .int .i64 y2, .float .f32 (pick .f32 l2 n2)] := by subst hw0; exact Var.new' _ _ _ _ (by simp)
  have B0 := Lib.hid (show Below w.heap.size w w0 by subst hw0; exact (((Below.refl _ _).alloc (Nat.le_refl _) _).alloc (by simp) _).alloc (by simp; omega) _)
  have HW := Lib.hid hw0
  have m1 : IntKind.i64.wrap (x1 - x2) = x1 - x2 := IntWalk.i64_in _ (by omega)
  have m2 : IntKind.i64.wrap (y1 - y2) = y1 - y2 := IntWalk.i64_in _ (by omega)
  have a4 : w0.cell? ⟨w.heap.size, 4, none⟩ = some (.float .f32 (pick .f32 v n)) := VA.2 4 (by simp)
  obtain ⟨b0, b1, b2⟩ := VB.three
  obtain ⟨c0, c1, c2⟩ := VC.three
  clear hw0 VA VB VC
  unfold wtV farV jumpV
  go_enter Try.func127, Try.ntmps127
  go_wp2_with fail
  rw [HW.out, ← w0.drewN_zero]
  refine wp_region_N (fun _ _ _ => True) (by kernel_rfl) (by kernel_rfl) ?_; (repeat (first | ((with_reducible show wpN _ _ _ _ _ (Oper.mk _ (Op.binOp _ _ _ _ _) _ _ _ none :: _) _); refine wpN_fop rfl _ _ _ _ _ rfl _ _ _ rfl rfl (by decide) ?_; intro _) | ((with_reducible show wpN _ _ _ _ _ (Oper.mk _ (Op.convert _ _ _) _ _ _ none :: _) _); refine wpN_cvU rfl 43 49 _ rfl (Option.isSome_iff_exists.2 ⟨_, Try.underlying43⟩) Try.underlying49 _ rfl ?_; intro _) | ((with_reducible show wpN _ _ _ _ _ (Oper.mk _ _ _ _ _ (some _) :: _) _); (with_reducible refine wpN_off ?_ ?_); focus rfl; (simp only [Act.put, List.setIfInBounds_toArray, List.set_cons_zero, List.set_cons_succ])) | ((with_reducible show wpN _ _ _ _ _ (Oper.mk _ _ _ _ _ (some _) :: _) _); ((with_reducible refine wpN_on ?_ (fun K hK => ?_)); (focus rfl); intro _; go_simp; first | (refine uponN_value (hK _ ?_)) | (fail; refine hK _ ?_)); clear hK K) | (((with_reducible refine wpN_plain rfl (fun K hK => ?_)); intro _; go_simp; first | (refine uponN_value (hK _ ?_)) | (fail; refine hK _ ?_)); clear hK K) | ((with_reducible refine wpN_step (fun K hK => ?_)); go_simp; first | (refine hK _ ?_) | (intro _; first | (refine uponN_value (hK _ ?_)) | (fail; refine hK _ ?_)); clear hK K))); refine wpN_nil ?_; intro _
  go_wp2_with (first | (refine wpList_fop rfl _ _ _ _ _ rfl _ _ _ rfl rfl (by decide) _ ?_; intro _ _) | (refine upon_fop _ _ _ _ _ (by decide) ?_; intro _ _))
  go_ret
  exact ⟨_, rfl, below_drewN B0.out _⟩
theorem c_l04Weight (Wn : Nat) (b : Nat) (a : Option Addr) (len cap : Nat) (u1 : Value) (zs : List Nat) (i k : Nat) (v n : Nat) (w : World) (j0 : Nat) (hv : Var w b #[.int .i64 (Wn : Int), u1, .slice a len cap]) (hr : IsRowF .f32 w a len cap zs) (hW1 : 1 ≤ Wn) (hi : i < len) (hk : k < len) (hl : len ≤ 256) :
    Calls Try.prog 85 #[.pointer (some ⟨b, 0, none⟩), .int .i64 (i : Int), .int .i64 (k : Int), .float .f32 (pick .f32 v n)] (w.drewN j0)
      (fun e w' => ∃ q j, e = .returned (.float .f32 (pick .f32 (wtI Wn zs v i k) q)) ∧ w' = w.drewN j) := by
  unfold wtI
  obtain ⟨ix, hix⟩ : ∃ x, x = i % Wn := ⟨_, rfl⟩
  obtain ⟨iy, hiy⟩ : ∃ x, x = i / Wn := ⟨_, rfl⟩
  obtain ⟨kx, hkx⟩ : ∃ x, x = k % Wn := ⟨_, rfl⟩
  obtain ⟨ky, hky⟩ : ∃ x, x = k / Wn := ⟨_, rfl⟩
  rw [← hix, ← hiy, ← hkx, ← hky]
  have hix2 : ix < 256 := by rw [hix]; exact Nat.lt_of_le_of_lt (Nat.mod_le _ _) (by omega)
  have hiy2 : iy < 256 := by rw [hiy]; exact Nat.lt_of_le_of_lt (Nat.div_le_self _ _) (by omega)
  have hkx2 : kx < 256 := by rw [hkx]; exact Nat.lt_of_le_of_lt (Nat.mod_le _ _) (by omega)
  have hky2 : ky < 256 := by rw [hky]; exact Nat.lt_of_le_of_lt (Nat.div_le_self _ _) (by omega)
  have mi1 : (i : Int).tmod (Wn : Int) = (ix : Int) := by rw [hix, Int.tmod_eq_emod_of_nonneg (by omega), Int.natCast_emod]
  have mi2 : (i : Int) / (Wn : Int) = (iy : Int) := by rw [hiy, Int.natCast_ediv]
  have mk1 : (k : Int).tmod (Wn : Int) = (kx : Int) := by rw [hkx, Int.tmod_eq_emod_of_nonneg (by omega), Int.natCast_emod]
  have mk2 : (k : Int) / (Wn : Int) = (ky : Int) := by rw [hky, Int.natCast_ediv]
  have v1 : IntKind.i64.wrap ((kx : Int) - (ix : Int)) = (kx : Int) - (ix : Int) := IntWalk.i64_in _ (by omega)
  have v2 : IntKind.i64.wrap ((ky : Int) - (iy : Int)) = (ky : Int) - (iy : Int) := IntWalk.i64_in _ (by omega)
  have v3 : IntKind.i64.wrap (ky : Int) = (ky : Int) := IntWalk.i64_in _ (by omega)
  have v4 : IntKind.i64.wrap (iy : Int) = (iy : Int) := IntWalk.i64_in _ (by omega)
  obtain ⟨bi, oi, ni, hai, _, hci⟩ := hr.at hi
  obtain ⟨bk, ok, nk, hak, _, hck⟩ := hr.at hk
  have hcap := hr.2.1
  rw [hai] at hak
  cases hak
  subst hai
  obtain ⟨d0, d1, d2⟩ := hv.three
  have hi2 : (i : Int) < (len : Int) := by omega
  have hk2 : (k : Int) < (len : Int) := by omega
  have hz : ¬ (Wn = 0) := by omega
  clear hix hiy hkx hky hv hr
  unfold wtV farV jumpV
  go_enter Try.func85, Try.ntmps85
  go_wp2_with fail
  refine wp_region_N (fun _ _ _ => True) (by kernel_rfl) (by kernel_rfl) ?_; (repeat (first | ((with_reducible show wpN _ _ _ _ _ (Oper.mk _ (Op.binOp _ _ _ _ _) _ _ _ none :: _) _); refine wpN_fop rfl _ _ _ _ _ rfl _ _ _ rfl rfl (by decide) ?_; intro _) | ((with_reducible show wpN _ _ _ _ _ (Oper.mk _ (Op.convert _ _ _) _ _ _ none :: _) _); refine wpN_cvU rfl 43 49 _ rfl (Option.isSome_iff_exists.2 ⟨_, Try.underlying43⟩) Try.underlying49 _ rfl ?_; intro _) | ((with_reducible show wpN _ _ _ _ _ (Oper.mk _ _ _ _ _ (some _) :: _) _); (with_reducible refine wpN_off ?_ ?_); focus rfl; (simp only [Act.put, List.setIfInBounds_toArray, List.set_cons_zero, List.set_cons_succ])) | ((with_reducible show wpN _ _ _ _ _ (Oper.mk _ _ _ _ _ (some _) :: _) _); ((with_reducible refine wpN_on ?_ (fun K hK => ?_)); (focus rfl); intro _; go_simp; first | (refine uponN_value (hK _ ?_)) | (fail; refine hK _ ?_)); clear hK K) | (((with_reducible refine wpN_plain rfl (fun K hK => ?_)); intro _; go_simp; first | (refine uponN_value (hK _ ?_)) | (fail; refine hK _ ?_)); clear hK K) | ((with_reducible refine wpN_step (fun K hK => ?_)); go_simp; first | (refine hK _ ?_) | (intro _; first | (refine uponN_value (hK _ ?_)) | (fail; refine hK _ ?_)); clear hK K))); refine wpN_nil ?_; intro _
  go_wp2_with fail
  refine wp_region_N (fun _ _ _ => True) (by kernel_rfl) (by kernel_rfl) ?_; (repeat (first | ((with_reducible show wpN _ _ _ _ _ (Oper.mk _ (Op.binOp _ _ _ _ _) _ _ _ none :: _) _); refine wpN_fop rfl _ _ _ _ _ rfl _ _ _ rfl rfl (by decide) ?_; intro _) | ((with_reducible show wpN _ _ _ _ _ (Oper.mk _ (Op.convert _ _ _) _ _ _ none :: _) _); refine wpN_cvU rfl 43 49 _ rfl (Option.isSome_iff_exists.2 ⟨_, Try.underlying43⟩) Try.underlying49 _ rfl ?_; intro _) | ((with_reducible show wpN _ _ _ _ _ (Oper.mk _ _ _ _ _ (some _) :: _) _); (with_reducible refine wpN_off ?_ ?_); focus rfl; (simp only [Act.put, List.setIfInBounds_toArray, List.set_cons_zero, List.set_cons_succ])) | ((with_reducible show wpN _ _ _ _ _ (Oper.mk _ _ _ _ _ (some _) :: _) _); ((with_reducible refine wpN_on ?_ (fun K hK => ?_)); (focus rfl); intro _; go_simp; first | (refine uponN_value (hK _ ?_)) | (fail; refine hK _ ?_)); clear hK K) | (((with_reducible refine wpN_plain rfl (fun K hK => ?_)); intro _; go_simp; first | (refine uponN_value (hK _ ?_)) | (fail; refine hK _ ?_)); clear hK K) | ((with_reducible refine wpN_step (fun K hK => ?_)); go_simp; first | (refine hK _ ?_) | (intro _; first | (refine uponN_value (hK _ ?_)) | (fail; refine hK _ ?_)); clear hK K))); refine wpN_nil ?_; intro _
  go_wp2_with fail
  refine wp_region_N (fun _ _ _ => True) (by kernel_rfl) (by kernel_rfl) ?_; (repeat (first | ((with_reducible show wpN _ _ _ _ _ (Oper.mk _ (Op.binOp _ _ _ _ _) _ _ _ none :: _) _); refine wpN_fop rfl _ _ _ _ _ rfl _ _ _ rfl rfl (by decide) ?_; intro _) | ((with_reducible show wpN _ _ _ _ _ (Oper.mk _ (Op.convert _ _ _) _ _ _ none :: _) _); refine wpN_cvU rfl 43 49 _ rfl (Option.isSome_iff_exists.2 ⟨_, Try.underlying43⟩) Try.underlying49 _ rfl ?_; intro _) | ((with_reducible show wpN _ _ _ _ _ (Oper.mk _ _ _ _ _ (some _) :: _) _); (with_reducible refine wpN_off ?_ ?_); focus rfl; (simp only [Act.put, List.setIfInBounds_toArray, List.set_cons_zero, List.set_cons_succ])) | ((with_reducible show wpN _ _ _ _ _ (Oper.mk _ _ _ _ _ (some _) :: _) _); ((with_reducible refine wpN_on ?_ (fun K hK => ?_)); (focus rfl); intro _; go_simp; first | (refine uponN_value (hK _ ?_)) | (fail; refine hK _ ?_)); clear hK K) | (((with_reducible refine wpN_plain rfl (fun K hK => ?_)); intro _; go_simp; first | (refine uponN_value (hK _ ?_)) | (fail; refine hK _ ?_)); clear hK K) | ((with_reducible refine wpN_step (fun K hK => ?_)); go_simp; first | (refine hK _ ?_) | (intro _; first | (refine uponN_value (hK _ ?_)) | (fail; refine hK _ ?_)); clear hK K))); refine wpN_nil ?_; intro _
  go_wp2_with (first | (refine wpList_fop rfl _ _ _ _ _ rfl _ _ _ rfl rfl (by decide) _ ?_; intro _ _) | (refine upon_fop _ _ _ _ _ (by decide) ?_; intro _ _))
  go_ret
  exact ⟨_, _, rfl, rfl⟩
/-! ### l00In -/
theorem c_l00In (x lo hi : Int) (w : World) (j : Nat) : Calls Try.prog 55 #[.int .i64 x, .int .i64 lo, .int .i64 hi] (w.drewN j) (RetV (.bool (decide (lo ≤ x) && decide (x ≤ hi))) w) := by
  by_cases h1 : lo ≤ x
  · by_cases h2 : x ≤ hi
    · have d1 : decide (lo ≤ x) = true := decide_eq_true h1
      have d2 : decide (x ≤ hi) = true := decide_eq_true h2
      go_enter Try.func55, Try.ntmps55
      go_wp2
      go_ret
      exact ⟨_, by simp [*], rfl⟩
    · have d1 : decide (lo ≤ x) = true := decide_eq_true h1
      have d2 : decide (x ≤ hi) = false := decide_eq_false h2
      go_enter Try.func55, Try.ntmps55
      go_wp2
      go_ret
      exact ⟨_, by simp [*], rfl⟩
  · have d1 : decide (lo ≤ x) = false := decide_eq_false h1
    go_enter Try.func55, Try.ntmps55
    go_wp2
    go_ret
    exact ⟨_, by simp [*], rfl⟩
/-! ### l04Window -/
/-- A slice of indices, of the call's own. -/
def Idx (T : TypeId) (w : World) (B : Nat) (v : Value) (idx : List Nat) : Prop := w.ownsRow B T 1 v idx.length (idx.map fun (k : Nat) => Value.int .i64 (k : Int))
theorem Idx.below {T : TypeId} {w w' : World} {B : Nat} {v : Value} {idx : List Nat} (h : Idx T w B v idx) (hb : Below w.heap.size w w') : Idx T w' B v idx :=
  World.ownsRow.kept h (grown_of_below hb) (by cases v.ownBlock <;> simp)
theorem Idx.at {T : TypeId} {w : World} {B : Nat} {v : Value} {idx : List Nat} (h : Idx T w B v idx) {j : Nat} (hj : j < idx.length) :
    ∃ g c, v = .slice (some ⟨g, 0, none⟩) idx.length c ∧ g < w.heap.size ∧ B ≤ g ∧ idx.length ≤ c ∧ c ≤ maxLen ∧ w.cell? ⟨g, j, none⟩ = some (.int .i64 ((fat idx j : Nat) : Int)) := by
  rcases h.2 with ⟨_, h0⟩ | ⟨g, c, cur, e, hb, hg, hc, hm, hs, ht⟩
  · omega
  · refine ⟨g, c, e, (Array.getElem?_eq_some_iff.1 hg).1, hb, hc, hm, ?_⟩
    have e2 : (cur.toList.take (idx.length * 1))[j]? = (idx.map fun (k : Nat) => Value.int .i64 (k : Int))[j]? := by rw [ht]
    rw [List.getElem?_take, if_pos (by omega), Array.getElem?_toList] at e2
    rw [cell_of_row w g _ cur T (0, 0) hg, e2, List.getElem?_map]
    unfold fat
    rw [List.getD, List.getElem?_eq_getElem hj]; rfl
theorem Idx.isSlice {T : TypeId} {w : World} {B : Nat} {v : Value} {idx : List Nat} (h : Idx T w B v idx) : ∃ a c, v = .slice a idx.length c := by
  rcases h.2 with ⟨e, h0⟩ | ⟨g, c, cur, e, _⟩
  · exact ⟨_, _, by rw [e, h0]⟩
  · exact ⟨_, _, e⟩
theorem Idx.mono {T : TypeId} {w : World} {B B' : Nat} {v : Value} {idx : List Nat} (h : Idx T w B v idx) (hB : B' ≤ B) : Idx T w B' v idx := by
  refine ⟨h.1, ?_⟩
  rcases h.2 with h' | ⟨g, c, cur, h1, h2, h3⟩
  · exact .inl h'
  · exact .inr ⟨g, c, cur, h1, Nat.le_trans hB h2, h3⟩
theorem infoIdx : (Try.prog.info? 2).map (fun i => (i.zero, i.size, i.bytes)) = some (some (.int .i64 0), 1, 8) := by kernel_rfl
def winI (Wn N : Nat) (i : Nat) (r : Int) : List Nat := winL Wn N (((i % Wn : Nat) : Int) - r) (((i / Wn : Nat) : Int) - r) (((i % Wn : Nat) : Int) + r) (((i / Wn : Nat) : Int) + r)
def inB (d r : Int) : Bool := decide (-r ≤ d) && decide (d ≤ r)
theorem winB_in (Wn i k : Nat) (r : Int) : winB Wn (((i % Wn : Nat) : Int) - r) (((i / Wn : Nat) : Int) - r) (((i % Wn : Nat) : Int) + r) (((i / Wn : Nat) : Int) + r) k = (inB (((k % Wn : Nat) : Int) - ((i % Wn : Nat) : Int)) r && inB (((k / Wn : Nat) : Int) - ((i / Wn : Nat) : Int)) r) := by
  unfold winB inB
  generalize k % Wn = a
  generalize i % Wn = b
  generalize k / Wn = c
  generalize i / Wn = d
  rw [Bool.eq_iff_iff]
  simp only [Bool.and_eq_true, decide_eq_true_eq]
  omega
theorem c_l04Window (Wn Hn : Nat) (b : Nat) (a : Option Addr) (cap : Nat) (zs : List Nat) (i : Nat) (r : Int) (w : World) (hv : Var w b #[.int .i64 (Wn : Int), .int .i64 (Hn : Int), .slice a zs.length cap]) (hW1 : 1 ≤ Wn) (hW2 : Wn ≤ 16) (hH2 : Hn ≤ 16) (hi : i < 256) (hr0 : 0 ≤ r) (hr8 : r ≤ 8) :
    Calls Try.prog 84 #[.pointer (some ⟨b, 0, none⟩), .int .i64 (i : Int), .int .i64 r] w
      (fun e w' => ∃ v, e = .returned v ∧ Below w.heap.size w w' ∧ Idx 2 w' w.heap.size v (winI Wn (Wn * Hn) i r)) := by
  obtain ⟨i0, hinf, hz0, hz1, hz2⟩ := info_parts infoIdx
  have HN : Wn * Hn ≤ 256 := Nat.le_trans (Nat.mul_le_mul hW2 hH2) (by decide)
  obtain ⟨N, hN⟩ : ∃ N, N = Wn * Hn := ⟨_, rfl⟩
  rw [← hN] at HN ⊢
  have mw : IntKind.i64.wrap ((Wn : Int) * (Hn : Int)) = (N : Int) := by rw [hN]; rw [show ((Wn : Int) * (Hn : Int)) = ((Wn * Hn : Nat) : Int) by rw [Int.natCast_mul]]; exact IntWalk.i64_in _ (by omega)
  have MW := Lib.hid mw
  obtain ⟨ix, hix⟩ : ∃ x, x = i % Wn := ⟨_, rfl⟩
  obtain ⟨iy, hiy⟩ : ∃ x, x = i / Wn := ⟨_, rfl⟩
  have hix2 : ix < 16 := by rw [hix]; have := Nat.mod_lt i (show Wn > 0 by omega); omega
  have hiy2 : iy < 256 := by rw [hiy]; exact Nat.lt_of_le_of_lt (Nat.div_le_self _ _) hi
  have HIX := Lib.hid hix
  have HIY := Lib.hid hiy
  have MI := Lib.hid (show (i : Int).tmod (Wn : Int) = (ix : Int) ∧ (i : Int) / (Wn : Int) = (iy : Int) by
    rw [hix, hiy]; exact ⟨by rw [Int.tmod_eq_emod_of_nonneg (by omega), Int.natCast_emod], by rw [Int.natCast_ediv]⟩)
  have KS := Lib.hid (fun (w' : World) (hE : Below w.heap.size w w') => (hv.keep hE).three)
  have CI := Lib.hid (fun (d : Int) (w : World) (n : Nat) => @id (Calls Try.prog 55 #[.int .i64 d, .int .i64 (-r), .int .i64 r] (w.drewN n) (RetV (.bool (inB d r)) w)) (c_l00In d (-r) r w n))
  have mr : IntKind.i64.wrap (-r) = -r := IntWalk.i64_in _ (by omega)
  have HH := Lib.hid hN
  clear hv hN mw hix hiy
  obtain ⟨d0, d1, d2⟩ := KS.out w (Below.refl _ _)
  have hz : ¬ (Wn = 0) := by omega
  go_enter Try.func84, Try.ntmps84
  go_wp2_with fail
  clear d0 d1 d2
  go_loopw [7, 8] (fun s7 s8 wr => ∃ k : Nat, k ≤ N ∧ s8 = .int .i64 (k : Int) ∧ Hid (Idx 2 wr w.heap.size s7 (winI Wn k i r)) ∧ Below w.heap.size w wr) (fun _ s8 _ => N - (intOf s8).toNat)
  case atStart => exact ⟨0, Nat.zero_le _, rfl, Lib.hid (by
    refine ⟨rfl, .inr ⟨w.heap.size, 0, #[], rfl, Nat.le_refl _, ?_, Nat.le_refl _, Nat.zero_le _, rfl, rfl⟩⟩
    have h := heap_alloc_new w (Obj.cells #[] 2)
    simpa using h), (Below.refl _ _).alloc (Nat.le_refl _) _⟩
  case round =>
    obtain ⟨k, hk, rfl, HS, hB⟩ := hrel
    obtain ⟨d0, d1, d2⟩ := KS.out wr hB
    have HB := Lib.hid hB
    have SW := hB.size
    have KD := Lib.hid (fun n => KS.out (wr.drewN n) (below_drewN hB n))
    clear hB
    obtain ⟨u7, c7, e7⟩ := HS.out.isSlice
    subst e7
    obtain ⟨n7, hn7⟩ : ∃ n, n = (winI Wn k i r).length := ⟨_, rfl⟩
    have hlen7 : n7 ≤ 256 := by rw [hn7]; unfold winI; exact Nat.le_trans (winL_len _ _ _ _ _ _) (by omega)
    have HS7 : Hid (Idx 2 wr w.heap.size (.slice u7 n7 c7) (winI Wn k i r)) := by rw [hn7]; exact HS
    rw [← hn7]
    have HN7 := Lib.hid hn7
    clear HS hn7
    have mw := MW.out
    by_cases hlt : k < N
    · have hlt2 : (k : Int) < (N : Int) := by omega
      rw [← wr.drewN_zero]
      go_wp2_with fail
      refine wp_region_N (fun _ _ _ => True) (by kernel_rfl) (by kernel_rfl) ?_; (repeat (first | ((with_reducible show wpN _ _ _ _ _ (Oper.mk _ (Op.binOp _ _ _ _ _) _ _ _ none :: _) _); refine wpN_fop rfl _ _ _ _ _ rfl _ _ _ rfl rfl (by decide) ?_; intro _) | ((with_reducible show wpN _ _ _ _ _ (Oper.mk _ (Op.convert _ _ _) _ _ _ none :: _) _); refine wpN_cvU rfl 43 49 _ rfl (Option.isSome_iff_exists.2 ⟨_, Try.underlying43⟩) Try.underlying49 _ rfl ?_; intro _) | ((with_reducible show wpN _ _ _ _ _ (Oper.mk _ _ _ _ _ (some _) :: _) _); (with_reducible refine wpN_off ?_ ?_); focus rfl; (simp only [Act.put, List.setIfInBounds_toArray, List.set_cons_zero, List.set_cons_succ])) | ((with_reducible show wpN _ _ _ _ _ (Oper.mk _ _ _ _ _ (some _) :: _) _); ((with_reducible refine wpN_on ?_ (fun K hK => ?_)); (focus rfl); intro _; go_simp; first | (refine uponN_value (hK _ ?_)) | (fail; refine hK _ ?_)); clear hK K) | (((with_reducible refine wpN_plain rfl (fun K hK => ?_)); intro _; go_simp; first | (refine uponN_value (hK _ ?_)) | (fail; refine hK _ ?_)); clear hK K) | ((with_reducible refine wpN_step (fun K hK => ?_)); go_simp; first | (refine hK _ ?_) | (intro _; first | (refine uponN_value (hK _ ?_)) | (fail; refine hK _ ?_)); clear hK K))); refine wpN_nil ?_; intro _
      clear mw
      obtain ⟨kx, hkx⟩ : ∃ x, x = k % Wn := ⟨_, rfl⟩
      obtain ⟨ky, hky⟩ : ∃ x, x = k / Wn := ⟨_, rfl⟩
      have hkx2 : kx < 16 := by rw [hkx]; have := Nat.mod_lt k (show Wn > 0 by omega); omega
      have hky2 : ky < 256 := by rw [hky]; exact Nat.lt_of_le_of_lt (Nat.div_le_self _ _) (by omega)
      have mk1 : (k : Int).tmod (Wn : Int) = (kx : Int) := by rw [hkx, Int.tmod_eq_emod_of_nonneg (by omega), Int.natCast_emod]
      have mk2 : (k : Int) / (Wn : Int) = (ky : Int) := by rw [hky, Int.natCast_ediv]
      obtain ⟨mi1, mi2⟩ := MI.out
      have hwb : winB Wn (((i % Wn : Nat) : Int) - r) (((i / Wn : Nat) : Int) - r) (((i % Wn : Nat) : Int) + r) (((i / Wn : Nat) : Int) + r) k = (inB ((kx : Int) - (ix : Int)) r && inB ((ky : Int) - (iy : Int)) r) := by rw [winB_in, hkx, hky, HIX.out, HIY.out]
      have HWB := Lib.hid hwb
      clear hwb
      have v1 : IntKind.i64.wrap ((kx : Int) - (ix : Int)) = (kx : Int) - (ix : Int) := IntWalk.i64_in _ (by omega)
      have v2 : IntKind.i64.wrap ((ky : Int) - (iy : Int)) = (ky : Int) - (iy : Int) := IntWalk.i64_in _ (by omega)
      have v3 : IntKind.i64.wrap (ky : Int) = (ky : Int) := IntWalk.i64_in _ (by omega)
      have v4 : IntKind.i64.wrap (iy : Int) = (iy : Int) := IntWalk.i64_in _ (by omega)
      clear hkx hky
      cases hb1 : inB ((kx : Int) - (ix : Int)) r
      · have CX := Lib.hid (fun n => (by have h := CI.out ((kx : Int) - (ix : Int)) wr n; rwa [hb1] at h : Calls Try.prog 55 #[.int .i64 ((kx : Int) - (ix : Int)), .int .i64 (-r), .int .i64 r] (wr.drewN n) (RetV (.bool false) wr)))
        rw [hb1, Bool.false_and] at HWB
        clear hb1
        go_wp2_with fail
        refine wp_region_N (fun _ _ u => u = .bool false) (by kernel_rfl) (by kernel_rfl) ?_; (repeat (first | ((with_reducible show wpN _ _ _ _ _ (Oper.mk _ (Op.binOp _ _ _ _ _) _ _ _ none :: _) _); refine wpN_fop rfl _ _ _ _ _ rfl _ _ _ rfl rfl (by decide) ?_; intro _) | ((with_reducible show wpN _ _ _ _ _ (Oper.mk _ (Op.convert _ _ _) _ _ _ none :: _) _); refine wpN_cvU rfl 43 49 _ rfl (Option.isSome_iff_exists.2 ⟨_, Try.underlying43⟩) Try.underlying49 _ rfl ?_; intro _) | ((with_reducible show wpN _ _ _ _ _ (Oper.mk _ _ _ _ _ (some _) :: _) _); (with_reducible refine wpN_off ?_ ?_); focus rfl; (simp only [Act.put, List.setIfInBounds_toArray, List.set_cons_zero, List.set_cons_succ])) | ((with_reducible show wpN _ _ _ _ _ (Oper.mk _ _ _ _ _ (some _) :: _) _); ((with_reducible refine wpN_on ?_ (fun K hK => ?_)); (focus rfl); intro _; go_simp; first | (refine uponN_value (hK _ ?_)) | ((refine uponN_call (callN (v := .bool false) rfl (CX.out _)) ?_; intro u hu; obtain rfl : u = _ := hu); refine hK _ ?_)); clear hK K) | (((with_reducible refine wpN_plain rfl (fun K hK => ?_)); intro _; go_simp; first | (refine uponN_value (hK _ ?_)) | ((refine uponN_call (callN (v := .bool false) rfl (CX.out _)) ?_; intro u hu; obtain rfl : u = _ := hu); refine hK _ ?_)); clear hK K) | ((with_reducible refine wpN_step (fun K hK => ?_)); go_simp; first | (refine hK _ ?_) | (intro _; first | (refine uponN_value (hK _ ?_)) | ((refine uponN_call (callN (v := .bool false) rfl (CX.out _)) ?_; intro u hu; obtain rfl : u = _ := hu); refine hK _ ?_)); clear hK K))); refine wpN_nil ?_; intro _
        go_wp2_with fail
        go_roundw
        case rel => exact ⟨k + 1, by omega, by go_num, by
          have e : winI Wn (k + 1) i r = winI Wn k i r := by unfold winI; exact winL_no HWB.out
          rw [e]; exact Idx.below HS7 (below_drewN (Below.refl _ _) _), below_drewN HB.out _⟩
        case measure => simp [intOf]; omega
      · cases hb2 : inB ((ky : Int) - (iy : Int)) r
        · have CX := Lib.hid (fun n => (by have h := CI.out ((kx : Int) - (ix : Int)) wr n; rwa [hb1] at h : Calls Try.prog 55 #[.int .i64 ((kx : Int) - (ix : Int)), .int .i64 (-r), .int .i64 r] (wr.drewN n) (RetV (.bool true) wr)))
          have CY := Lib.hid (fun n => (by have h := CI.out ((ky : Int) - (iy : Int)) wr n; rwa [hb2] at h : Calls Try.prog 55 #[.int .i64 ((ky : Int) - (iy : Int)), .int .i64 (-r), .int .i64 r] (wr.drewN n) (RetV (.bool false) wr)))
          have HC := Lib.hid (show ∀ d, (#[Value.int .i64 ((kx : Int) - (ix : Int)), .int .i64 (-r), .int .i64 r] : Array Value) = #[.int .i64 d, .int .i64 (-r), .int .i64 r] → Value.bool true = .bool (inB d r) from fun d e => by simp at e; rw [← e, hb1])
          have HD := Lib.hid (show ∀ d, (#[Value.int .i64 ((ky : Int) - (iy : Int)), .int .i64 (-r), .int .i64 r] : Array Value) = #[.int .i64 d, .int .i64 (-r), .int .i64 r] → Value.bool false = .bool (inB d r) from fun d e => by simp at e; rw [← e, hb2])
          rw [hb1, hb2, Bool.true_and] at HWB
          have H1 := Lib.hid hb1
          have H2 := Lib.hid hb2
          clear hb1 hb2
          go_wp2_with fail
          refine wp_region_N (fun _ args u => ∀ d, args = #[.int .i64 d, .int .i64 (-r), .int .i64 r] → u = .bool (inB d r)) (by kernel_rfl) (by kernel_rfl) ?_; (repeat (first | ((with_reducible show wpN _ _ _ _ _ (Oper.mk _ (Op.binOp _ _ _ _ _) _ _ _ none :: _) _); refine wpN_fop rfl _ _ _ _ _ rfl _ _ _ rfl rfl (by decide) ?_; intro _) | ((with_reducible show wpN _ _ _ _ _ (Oper.mk _ (Op.convert _ _ _) _ _ _ none :: _) _); refine wpN_cvU rfl 43 49 _ rfl (Option.isSome_iff_exists.2 ⟨_, Try.underlying43⟩) Try.underlying49 _ rfl ?_; intro _) | ((with_reducible show wpN _ _ _ _ _ (Oper.mk _ _ _ _ _ (some _) :: _) _); (with_reducible refine wpN_off ?_ ?_); focus rfl; (simp only [Act.put, List.setIfInBounds_toArray, List.set_cons_zero, List.set_cons_succ])) | ((with_reducible show wpN _ _ _ _ _ (Oper.mk _ _ _ _ _ (some _) :: _) _); ((with_reducible refine wpN_on ?_ (fun K hK => ?_)); (focus rfl); intro _; go_simp; first | (refine uponN_value (hK _ ?_)) | ((first | ((with_reducible refine uponN_call (callN (v := .bool true) HC.out (CX.out _)) ?_); intro u hu; obtain rfl : u = .bool true := (hu _ rfl).trans (by rw [H1.out]); clear hu) | ((with_reducible refine uponN_call (callN (v := .bool false) HD.out (CY.out _)) ?_); intro u hu; obtain rfl : u = .bool false := (hu _ rfl).trans (by rw [H2.out]); clear hu)); refine hK _ ?_)); clear hK K) | (((with_reducible refine wpN_plain rfl (fun K hK => ?_)); intro _; go_simp; first | (refine uponN_value (hK _ ?_)) | ((first | ((with_reducible refine uponN_call (callN (v := .bool true) HC.out (CX.out _)) ?_); intro u hu; obtain rfl : u = .bool true := (hu _ rfl).trans (by rw [H1.out]); clear hu) | ((with_reducible refine uponN_call (callN (v := .bool false) HD.out (CY.out _)) ?_); intro u hu; obtain rfl : u = .bool false := (hu _ rfl).trans (by rw [H2.out]); clear hu)); refine hK _ ?_)); clear hK K) | ((with_reducible refine wpN_step (fun K hK => ?_)); go_simp; first | (refine hK _ ?_) | (intro _; first | (refine uponN_value (hK _ ?_)) | ((first | ((with_reducible refine uponN_call (callN (v := .bool true) HC.out (CX.out _)) ?_); intro u hu; obtain rfl : u = .bool true := (hu _ rfl).trans (by rw [H1.out]); clear hu) | ((with_reducible refine uponN_call (callN (v := .bool false) HD.out (CY.out _)) ?_); intro u hu; obtain rfl : u = .bool false := (hu _ rfl).trans (by rw [H2.out]); clear hu)); refine hK _ ?_)); clear hK K))); refine wpN_nil ?_; intro _
          go_wp2_with fail
          go_roundw
          case rel => exact ⟨k + 1, by omega, by go_num, by
            have e : winI Wn (k + 1) i r = winI Wn k i r := by unfold winI; exact winL_no HWB.out
            rw [e]; exact Idx.below HS7 (below_drewN (Below.refl _ _) _), below_drewN HB.out _⟩
          case measure => simp [intOf]; omega
        · have CX := Lib.hid (fun n => (by have h := CI.out ((kx : Int) - (ix : Int)) wr n; rwa [hb1] at h : Calls Try.prog 55 #[.int .i64 ((kx : Int) - (ix : Int)), .int .i64 (-r), .int .i64 r] (wr.drewN n) (RetV (.bool true) wr)))
          have CY := Lib.hid (fun n => (by have h := CI.out ((ky : Int) - (iy : Int)) wr n; rwa [hb2] at h : Calls Try.prog 55 #[.int .i64 ((ky : Int) - (iy : Int)), .int .i64 (-r), .int .i64 r] (wr.drewN n) (RetV (.bool true) wr)))
          rw [hb1, hb2, Bool.true_and] at HWB
          clear hb1 hb2
          go_wp2_with fail
          refine wp_region_N (fun _ args u => u = .bool true) (by kernel_rfl) (by kernel_rfl) ?_; (repeat (first | ((with_reducible show wpN _ _ _ _ _ (Oper.mk _ (Op.binOp _ _ _ _ _) _ _ _ none :: _) _); refine wpN_fop rfl _ _ _ _ _ rfl _ _ _ rfl rfl (by decide) ?_; intro _) | ((with_reducible show wpN _ _ _ _ _ (Oper.mk _ (Op.convert _ _ _) _ _ _ none :: _) _); refine wpN_cvU rfl 43 49 _ rfl (Option.isSome_iff_exists.2 ⟨_, Try.underlying43⟩) Try.underlying49 _ rfl ?_; intro _) | ((with_reducible show wpN _ _ _ _ _ (Oper.mk _ _ _ _ _ (some _) :: _) _); (with_reducible refine wpN_off ?_ ?_); focus rfl; (simp only [Act.put, List.setIfInBounds_toArray, List.set_cons_zero, List.set_cons_succ])) | ((with_reducible show wpN _ _ _ _ _ (Oper.mk _ _ _ _ _ (some _) :: _) _); ((with_reducible refine wpN_on ?_ (fun K hK => ?_)); (focus rfl); intro _; go_simp; first | (refine uponN_value (hK _ ?_)) | ((first | ((with_reducible refine uponN_call (callN (v := .bool true) ?_ (CX.out _)) ?_); (focus rfl); intro u hu; obtain rfl : u = _ := hu) | ((with_reducible refine uponN_call (callN (v := .bool true) ?_ (CY.out _)) ?_); (focus rfl); intro u hu; obtain rfl : u = _ := hu)); refine hK _ ?_)); clear hK K) | (((with_reducible refine wpN_plain rfl (fun K hK => ?_)); intro _; go_simp; first | (refine uponN_value (hK _ ?_)) | ((first | ((with_reducible refine uponN_call (callN (v := .bool true) ?_ (CX.out _)) ?_); (focus rfl); intro u hu; obtain rfl : u = _ := hu) | ((with_reducible refine uponN_call (callN (v := .bool true) ?_ (CY.out _)) ?_); (focus rfl); intro u hu; obtain rfl : u = _ := hu)); refine hK _ ?_)); clear hK K) | ((with_reducible refine wpN_step (fun K hK => ?_)); go_simp; first | (refine hK _ ?_) | (intro _; first | (refine uponN_value (hK _ ?_)) | ((first | ((with_reducible refine uponN_call (callN (v := .bool true) ?_ (CX.out _)) ?_); (focus rfl); intro u hu; obtain rfl : u = _ := hu) | ((with_reducible refine uponN_call (callN (v := .bool true) ?_ (CY.out _)) ?_); (focus rfl); intro u hu; obtain rfl : u = _ := hu)); refine hK _ ?_)); clear hK K))); refine wpN_nil ?_; intro _
          rename_i m5
          have HB5 := Lib.hid (below_drewN HB.out m5)
          have HS5 := Lib.hid (Idx.below HS7 (below_drewN (Below.refl _ _) m5))
          have SW5 : w.heap.size ≤ (wr.drewN m5).heap.size := HB5.out.size
          generalize World.drewN wr m5 = w5 at *
          go_wp2_with (at_builtin; refine wpList_append_own _ rfl _ _ 81 rfl w.heap.size 2 i0 (.int .i64 0) 1 8 Try.underlying81 hinf hz0 hz1 hz2 rfl (by decide) _ n7 ((winI Wn k i r).map fun (k : Nat) => Value.int .i64 (k : Int)) rfl (by have h := HS5.out.below ((Below.refl w5.heap.size w5).alloc (Nat.le_refl _) (.cells #[.int .i64 (k : Int)] 2)); unfold Idx at h; rwa [← HN7.out] at h) ⟨w5.heap.size, 0, none⟩ 1 1 [.int .i64 (k : Int)] rfl rfl (cell1_new w5 _ _ _ rfl) (by intro u hu; simp at hu; subst hu; rfl) (by unfold maxLen; omega) (by omega) (by simp; omega) ?_)
          intro v' w6 hown' hgrow _
          have hB6 : Below w.heap.size w w6 := (HB5.out.alloc SW5 _).grown hgrow (by simp; omega) (fun g e => by have := HS5.out.lt g e; exact this.1)
          have HS6 : Hid (Idx 2 w6 w.heap.size v' (winI Wn (k + 1) i r)) := by
            have e : winI Wn (k + 1) i r = winI Wn k i r ++ [k] := by unfold winI; exact winL_yes HWB.out
            show Idx _ _ _ _ _
            unfold Idx
            rw [e, List.map_append, List.length_append, ← HN7.out]
            exact hown'
          have HB6 := Lib.hid hB6
          clear hown' hgrow hB6
          go_wp2_with fail
          go_roundw
          case rel => exact ⟨k + 1, by omega, by go_num, HS6, HB6.out⟩
          case measure => simp [intOf]; omega
    · obtain rfl : k = N := by omega
      rw [← wr.drewN_zero]
      go_wp2_with fail
      refine wp_region_N (fun _ _ _ => True) (by kernel_rfl) (by kernel_rfl) ?_; (repeat (first | ((with_reducible show wpN _ _ _ _ _ (Oper.mk _ (Op.binOp _ _ _ _ _) _ _ _ none :: _) _); refine wpN_fop rfl _ _ _ _ _ rfl _ _ _ rfl rfl (by decide) ?_; intro _) | ((with_reducible show wpN _ _ _ _ _ (Oper.mk _ (Op.convert _ _ _) _ _ _ none :: _) _); refine wpN_cvU rfl 43 49 _ rfl (Option.isSome_iff_exists.2 ⟨_, Try.underlying43⟩) Try.underlying49 _ rfl ?_; intro _) | ((with_reducible show wpN _ _ _ _ _ (Oper.mk _ _ _ _ _ (some _) :: _) _); (with_reducible refine wpN_off ?_ ?_); focus rfl; (simp only [Act.put, List.setIfInBounds_toArray, List.set_cons_zero, List.set_cons_succ])) | ((with_reducible show wpN _ _ _ _ _ (Oper.mk _ _ _ _ _ (some _) :: _) _); ((with_reducible refine wpN_on ?_ (fun K hK => ?_)); (focus rfl); intro _; go_simp; first | (refine uponN_value (hK _ ?_)) | (fail; refine hK _ ?_)); clear hK K) | (((with_reducible refine wpN_plain rfl (fun K hK => ?_)); intro _; go_simp; first | (refine uponN_value (hK _ ?_)) | (fail; refine hK _ ?_)); clear hK K) | ((with_reducible refine wpN_step (fun K hK => ?_)); go_simp; first | (refine hK _ ?_) | (intro _; first | (refine uponN_value (hK _ ?_)) | (fail; refine hK _ ?_)); clear hK K))); refine wpN_nil ?_; intro _
      go_wp2_with fail
      go_ret
      exact ⟨_, rfl, below_drewN HB.out _, Idx.below HS7 (below_drewN (Below.refl _ _) _)⟩
/-! ### l02Sides -/
theorem c_l02Sides (W H : Int) (w : World) (j : Nat) : Calls Try.prog 115 #[.int .i64 W, .int .i64 H] (w.drewN j) (RetV (.bool (sideB W H)) w) := by
  unfold sideB
  cases hw : (decide (1 ≤ W) && decide (W ≤ 16))
  all_goals
    have HW := Lib.hid hw
    go_enter Try.func115, Try.ntmps115
    go_wp2_with (go_at_call 55; refine (c_l00In _ _ _ _ _).mono ?_; rintro _ _ ⟨_, rfl, rfl⟩)
    go_ret
    exact ⟨_, by simp [HW.out], rfl⟩
/-! ### l02Finite -/
theorem c_l02Finite (a : Option Addr) (len cap : Nat) (zs : List Nat) (w : World) (j0 : Nat) (hr : IsRowF .f32 w a len cap zs) : Calls Try.prog 116 #[.slice a len cap] (w.drewN j0) (RetV (.bool (finL zs)) w) := by
  obtain ⟨h1, h2, h3, h4, h5⟩ := hr
  unfold maxLen at h3
  have H1 := Lib.hid h1
  clear h1
  go_enter Try.func116, Try.ntmps116
  go_wp2
  go_loopw [3] (fun i wr => ∃ k m : Nat, k ≤ len ∧ i = .int .i64 k ∧ wr = w.drewN m ∧ finL (zs.take k) = true) (fun i _ => len - (intOf i).toNat)
  case atStart => exact ⟨0, j0, Nat.zero_le _, rfl, rfl, rfl⟩
  case round =>
    obtain ⟨k, m, hk, rfl, rfl, hfin⟩ := hrel
    have HFin := Lib.hid hfin
    clear hfin
    by_cases hlt : k < len
    · rcases h5 with h5 | ⟨b, off, rfl, hbl, hc⟩
      · omega
      have hcell : w.cell? ⟨b, off + k, none⟩ = some (.float .f32 (fat zs k)) := hc k hlt
      obtain ⟨n, hn⟩ := pick0 .f32 (fat zs k) (lt_of_wf (h4 _ (by unfold fat; rw [List.getD, List.getElem?_eq_getElem (by have := H1.out; omega)]; exact List.getElem_mem _)))
      rw [hn] at hcell
      have HN := Lib.hid hn
      have HS := Lib.hid (finL_snoc zs k (by have := H1.out; omega))
      cases hf : finB .f32 (fat zs k)
      · have HO := Lib.hid (finL_of zs k (by have := H1.out; omega) hf)
        clear hc h4 hn
        go_wp2_with ((go_at_call 90; refine (c_l01Finite _ _ _ _).mono ?_; rintro _ _ ⟨_, rfl, rfl⟩))
        go_ret
        exact ⟨_, by rw [HO.out]; rfl, rfl⟩
      · have HF := Lib.hid hf
        clear hc h4 hn
        go_wp2_with ((go_at_call 90; refine (c_l01Finite _ _ _ _).mono ?_; rintro _ _ ⟨_, rfl, rfl⟩))
        go_roundw
        case rel => exact ⟨k + 1, _, by omega, by go_num, rfl, by rw [HS.out, HFin.out, HF.out]; rfl⟩
        case measure => simp [intOf]; omega
    · have e : zs.take k = zs := List.take_of_length_le (by have := H1.out; omega)
      have HE := Lib.hid e
      clear h5 h4 e
      go_wp2
      go_ret
      exact ⟨_, by have h := HFin.out; rw [HE.out] at h; rw [h]; rfl, rfl⟩
/-! ### l02Is -/
theorem c_l02Is (W H : Int) (b : Nat) (a : Option Addr) (len cap : Nat) (zs : List Nat) (w : World) (j0 : Nat) (hv : Var w b #[.int .i64 W, .int .i64 H, .slice a len cap]) (hr : IsRowF .f32 w a len cap zs) :
    Calls Try.prog 54 #[.pointer (some ⟨b, 0, none⟩)] (w.drewN j0) (RetV (.bool (validB W H zs)) w) := by
  obtain ⟨p0, p1, p2⟩ := hv.three
  have H1 := Lib.hid hr.1
  have HR := Lib.hid hr
  clear hr hv
  cases hs : sideB W H
  · have e : validB W H zs = false := by simp [validB, hs]
    have E := Lib.hid e
    have C1 := Lib.hid (fun n => (by have h := c_l02Sides W H w n; rwa [hs] at h : Calls Try.prog 115 #[.int .i64 W, .int .i64 H] (w.drewN n) (RetV (.bool false) w)))
    clear e hs
    go_enter Try.func54, Try.ntmps54
    go_wp2
    refine wp_region_N (fun f _ u => (f = 115 → u = .bool false)) (by kernel_rfl) (by kernel_rfl) ?_; (repeat (first | ((with_reducible show wpN _ _ _ _ _ (Oper.mk _ (Op.binOp _ _ _ _ _) _ _ _ none :: _) _); refine wpN_fop rfl _ _ _ _ _ rfl _ _ _ rfl rfl (by decide) ?_; intro _) | ((with_reducible show wpN _ _ _ _ _ (Oper.mk _ (Op.convert _ _ _) _ _ _ none :: _) _); refine wpN_cvU rfl 43 49 _ rfl (Option.isSome_iff_exists.2 ⟨_, Try.underlying43⟩) Try.underlying49 _ rfl ?_; intro _) | ((with_reducible show wpN _ _ _ _ _ (Oper.mk _ _ _ _ _ (some _) :: _) _); (with_reducible refine wpN_off ?_ ?_); focus rfl; (simp only [Act.put, List.setIfInBounds_toArray, List.set_cons_zero, List.set_cons_succ])) | ((with_reducible show wpN _ _ _ _ _ (Oper.mk _ _ _ _ _ (some _) :: _) _); ((with_reducible refine wpN_on ?_ (fun K hK => ?_)); (focus rfl); intro _; go_simp; first | (refine uponN_value (hK _ ?_)) | ((refine uponN_call (callN (v := .bool false) (fun _ => rfl) (C1.out _)) ?_; intro u hu; obtain rfl : u = _ := hu rfl; clear hu); refine hK _ ?_)); clear hK K) | (((with_reducible refine wpN_plain rfl (fun K hK => ?_)); intro _; go_simp; first | (refine uponN_value (hK _ ?_)) | ((refine uponN_call (callN (v := .bool false) (fun _ => rfl) (C1.out _)) ?_; intro u hu; obtain rfl : u = _ := hu rfl; clear hu); refine hK _ ?_)); clear hK K) | ((with_reducible refine wpN_step (fun K hK => ?_)); go_simp; first | (refine hK _ ?_) | (intro _; first | (refine uponN_value (hK _ ?_)) | ((refine uponN_call (callN (v := .bool false) (fun _ => rfl) (C1.out _)) ?_; intro u hu; obtain rfl : u = _ := hu rfl; clear hu); refine hK _ ?_)); clear hK K))); refine wpN_nil ?_; intro _
    go_wp2
    go_ret
    exact ⟨_, by rw [E.out]; rfl, rfl⟩
  · obtain ⟨m1, m2⟩ := side_mul hs
    have mw : IntKind.i64.wrap (W * H) = W * H := IntWalk.i64_in _ (by omega)
    have C1 := Lib.hid (fun n => (by have h := c_l02Sides W H w n; rwa [hs] at h : Calls Try.prog 115 #[.int .i64 W, .int .i64 H] (w.drewN n) (RetV (.bool true) w)))
    have C2 := Lib.hid (fun n => c_l02Finite a len cap zs w n HR.out)
    by_cases hl : (len : Int) = W * H
    · have hd : ((len : Int) == W * H) = true := by simpa using hl
      have e : validB W H zs = finL zs := by simp [validB, hs, H1.out, hl]
      have E := Lib.hid e
      have HL := Lib.hid hl
      clear e hs hl
      go_enter Try.func54, Try.ntmps54
      go_wp2
      refine wp_region_N (fun f _ u => (f = 115 → u = .bool true) ∧ (f = 116 → u = .bool (finL zs))) (by kernel_rfl) (by kernel_rfl) ?_; (repeat (first | ((with_reducible show wpN _ _ _ _ _ (Oper.mk _ (Op.binOp _ _ _ _ _) _ _ _ none :: _) _); refine wpN_fop rfl _ _ _ _ _ rfl _ _ _ rfl rfl (by decide) ?_; intro _) | ((with_reducible show wpN _ _ _ _ _ (Oper.mk _ (Op.convert _ _ _) _ _ _ none :: _) _); refine wpN_cvU rfl 43 49 _ rfl (Option.isSome_iff_exists.2 ⟨_, Try.underlying43⟩) Try.underlying49 _ rfl ?_; intro _) | ((with_reducible show wpN _ _ _ _ _ (Oper.mk _ _ _ _ _ (some _) :: _) _); (with_reducible refine wpN_off ?_ ?_); focus rfl; (simp only [Act.put, List.setIfInBounds_toArray, List.set_cons_zero, List.set_cons_succ])) | ((with_reducible show wpN _ _ _ _ _ (Oper.mk _ _ _ _ _ (some _) :: _) _); ((with_reducible refine wpN_on ?_ (fun K hK => ?_)); (focus rfl); intro _; go_simp; first | (refine uponN_value (hK _ ?_)) | ((first | (refine uponN_call (callN (v := .bool true) ⟨fun _ => rfl, fun h => absurd h (by decide)⟩ (C1.out _)) ?_; intro u hu; obtain rfl : u = _ := hu.1 rfl; clear hu) | (refine uponN_call (callN (v := .bool (finL zs)) ⟨fun h => absurd h (by decide), fun _ => rfl⟩ (C2.out _)) ?_; intro u hu; obtain rfl : u = _ := hu.2 rfl; clear hu)); refine hK _ ?_)); clear hK K) | (((with_reducible refine wpN_plain rfl (fun K hK => ?_)); intro _; go_simp; first | (refine uponN_value (hK _ ?_)) | ((first | (refine uponN_call (callN (v := .bool true) ⟨fun _ => rfl, fun h => absurd h (by decide)⟩ (C1.out _)) ?_; intro u hu; obtain rfl : u = _ := hu.1 rfl; clear hu) | (refine uponN_call (callN (v := .bool (finL zs)) ⟨fun h => absurd h (by decide), fun _ => rfl⟩ (C2.out _)) ?_; intro u hu; obtain rfl : u = _ := hu.2 rfl; clear hu)); refine hK _ ?_)); clear hK K) | ((with_reducible refine wpN_step (fun K hK => ?_)); go_simp; first | (refine hK _ ?_) | (intro _; first | (refine uponN_value (hK _ ?_)) | ((first | (refine uponN_call (callN (v := .bool true) ⟨fun _ => rfl, fun h => absurd h (by decide)⟩ (C1.out _)) ?_; intro u hu; obtain rfl : u = _ := hu.1 rfl; clear hu) | (refine uponN_call (callN (v := .bool (finL zs)) ⟨fun h => absurd h (by decide), fun _ => rfl⟩ (C2.out _)) ?_; intro u hu; obtain rfl : u = _ := hu.2 rfl; clear hu)); refine hK _ ?_)); clear hK K))); refine wpN_nil ?_; intro _
      go_wp2
      go_ret
      exact ⟨_, by rw [E.out]; rfl, rfl⟩
    · have hd : ((len : Int) == W * H) = false := by simpa using hl
      have e : validB W H zs = false := by simp [validB, hs, H1.out, hl]
      have E := Lib.hid e
      clear e hs hl
      go_enter Try.func54, Try.ntmps54
      go_wp2
      refine wp_region_N (fun f _ u => (f = 115 → u = .bool true)) (by kernel_rfl) (by kernel_rfl) ?_; (repeat (first | ((with_reducible show wpN _ _ _ _ _ (Oper.mk _ (Op.binOp _ _ _ _ _) _ _ _ none :: _) _); refine wpN_fop rfl _ _ _ _ _ rfl _ _ _ rfl rfl (by decide) ?_; intro _) | ((with_reducible show wpN _ _ _ _ _ (Oper.mk _ (Op.convert _ _ _) _ _ _ none :: _) _); refine wpN_cvU rfl 43 49 _ rfl (Option.isSome_iff_exists.2 ⟨_, Try.underlying43⟩) Try.underlying49 _ rfl ?_; intro _) | ((with_reducible show wpN _ _ _ _ _ (Oper.mk _ _ _ _ _ (some _) :: _) _); (with_reducible refine wpN_off ?_ ?_); focus rfl; (simp only [Act.put, List.setIfInBounds_toArray, List.set_cons_zero, List.set_cons_succ])) | ((with_reducible show wpN _ _ _ _ _ (Oper.mk _ _ _ _ _ (some _) :: _) _); ((with_reducible refine wpN_on ?_ (fun K hK => ?_)); (focus rfl); intro _; go_simp; first | (refine uponN_value (hK _ ?_)) | ((refine uponN_call (callN (v := .bool true) (fun _ => rfl) (C1.out _)) ?_; intro u hu; obtain rfl : u = _ := hu rfl; clear hu); refine hK _ ?_)); clear hK K) | (((with_reducible refine wpN_plain rfl (fun K hK => ?_)); intro _; go_simp; first | (refine uponN_value (hK _ ?_)) | ((refine uponN_call (callN (v := .bool true) (fun _ => rfl) (C1.out _)) ?_; intro u hu; obtain rfl : u = _ := hu rfl; clear hu); refine hK _ ?_)); clear hK K) | ((with_reducible refine wpN_step (fun K hK => ?_)); go_simp; first | (refine hK _ ?_) | (intro _; first | (refine uponN_value (hK _ ?_)) | ((refine uponN_call (callN (v := .bool true) (fun _ => rfl) (C1.out _)) ?_; intro u hu; obtain rfl : u = _ := hu rfl; clear hu); refine hK _ ?_)); clear hK K))); refine wpN_nil ?_; intro _
      go_wp2
      go_ret
      exact ⟨_, by rw [E.out]; rfl, rfl⟩
/-! ### l04Can -/
def canB (W H : Int) (zs : List Nat) (r : Int) : Bool := validB W H zs && (decide (0 ≤ r) && decide (r ≤ 8))
theorem c_l04Can (W H : Int) (b : Nat) (a : Option Addr) (len cap : Nat) (zs : List Nat) (r : Int) (w : World) (j0 : Nat) (hv : Var w b #[.int .i64 W, .int .i64 H, .slice a len cap]) (hr : IsRowF .f32 w a len cap zs) :
    Calls Try.prog 69 #[.pointer (some ⟨b, 0, none⟩), .int .i64 r] (w.drewN j0) (RetV (.bool (canB W H zs r)) w) := by
  have C1 := Lib.hid (fun n => c_l02Is W H b a len cap zs w n hv hr)
  clear hv hr
  unfold canB
  cases h : validB W H zs
  · have C2 := Lib.hid (fun n => (by have h2 := C1.out n; rwa [h] at h2 : Calls Try.prog 54 #[.pointer (some ⟨b, 0, none⟩)] (w.drewN n) (RetV (.bool false) w)))
    clear h C1
    go_enter Try.func69, Try.ntmps69
    go_wp2_with ((go_at_call 54; refine (C2.out _).mono ?_; rintro _ _ ⟨_, rfl, rfl⟩))
    go_ret
    exact ⟨_, by simp, rfl⟩
  · have C2 := Lib.hid (fun n => (by have h2 := C1.out n; rwa [h] at h2 : Calls Try.prog 54 #[.pointer (some ⟨b, 0, none⟩)] (w.drewN n) (RetV (.bool true) w)))
    clear h C1
    go_enter Try.func69, Try.ntmps69
    go_wp2_with (first | (go_at_call 54; refine (C2.out _).mono ?_; rintro _ _ ⟨_, rfl, rfl⟩) | (go_at_call 55; refine (c_l00In _ _ _ _ _).mono ?_; rintro _ _ ⟨_, rfl, rfl⟩))
    go_ret
    exact ⟨_, by simp, rfl⟩
theorem c_l04Can0 (W H : Int) (b : Nat) (a : Option Addr) (len cap : Nat) (zs : List Nat) (r : Int) (w : World) (hv : Var w b #[.int .i64 W, .int .i64 H, .slice a len cap]) (hr : IsRowF .f32 w a len cap zs) :
    Calls Try.prog 69 #[.pointer (some ⟨b, 0, none⟩), .int .i64 r] w (RetV (.bool (canB W H zs r)) w) := by
  have h := c_l04Can W H b a len cap zs r w 0 hv hr
  rwa [w.drewN_zero] at h
/-! ### l02Is0 -/
theorem c_l02Is0 (W H : Int) (b : Nat) (a : Option Addr) (len cap : Nat) (zs : List Nat) (w : World) (hv : Var w b #[.int .i64 W, .int .i64 H, .slice a len cap]) (hr : IsRowF .f32 w a len cap zs) :
    Calls Try.prog 54 #[.pointer (some ⟨b, 0, none⟩)] w (RetV (.bool (validB W H zs)) w) := by
  have h := c_l02Is W H b a len cap zs w 0 hv hr
  rwa [w.drewN_zero] at h
/-! ### l02Give -/
theorem c_l02Give_yes (W H : Int) (a : Option Addr) (len cap : Nat) (zs : List Nat) (w : World) (hr : IsRowF .f32 w a len cap zs) (hv : validB W H zs = true) : Calls Try.prog 57 #[.agg #[.int .i64 W, .int .i64 H, .slice a len cap]] w (RetB (.tuple #[.agg #[.int .i64 W, .int .i64 H, .slice a len cap], .bool true]) w) := by
  have HR := Lib.hid hr
  have HV := Lib.hid hv
  clear hr hv
  go_enter Try.func57, Try.ntmps57
  go_wp2_with fail
  refine (c_l02Is0 W H w.heap.size a len cap zs _ ((Var.new _ _ _).alloc _) ((HR.out.alloc _).alloc _)).mono ?_
  rintro _ w1 ⟨m, rfl, rfl⟩
  rw [HV.out]
  go_wp2_with fail
  refine bodyPost_ret (v := .tuple #[.agg #[.int .i64 W, .int .i64 H, .slice a len cap], .bool true]) (by simp [results, Try.results57, go_sem]) rfl ⟨rfl, ?_⟩
  exact (((below_drewN (((Below.refl _ _).alloc (Nat.le_refl _) _).alloc (by simp) _) _).setCell (by simp) _).setCell (by simp) _).setCell (by simp) _
theorem c_l02Give_no (W H : Int) (a : Option Addr) (len cap : Nat) (zs : List Nat) (w : World) (hr : IsRowF .f32 w a len cap zs) (hv : validB W H zs = false) : Calls Try.prog 57 #[.agg #[.int .i64 W, .int .i64 H, .slice a len cap]] w (RetB (.tuple #[.agg #[.int .i64 0, .int .i64 0, .slice none 0 0], .bool false]) w) := by
  have HR := Lib.hid hr
  have HV := Lib.hid hv
  clear hr hv
  go_enter Try.func57, Try.ntmps57
  go_wp2_with fail
  refine (c_l02Is0 W H w.heap.size a len cap zs _ ((Var.new _ _ _).alloc _) ((HR.out.alloc _).alloc _)).mono ?_
  rintro _ w1 ⟨m, rfl, rfl⟩
  rw [HV.out]
  go_wp2_with fail
  refine bodyPost_ret (v := .tuple #[.agg #[.int .i64 0, .int .i64 0, .slice none 0 0], .bool false]) (by simp [results, Try.results57, go_sem]) rfl ⟨rfl, ?_⟩
  exact (((below_drewN (((Below.refl _ _).alloc (Nat.le_refl _) _).alloc (by simp) _) _).setCell (by simp) _).setCell (by simp) _).setCell (by simp) _
/-! ### giveAny -/
theorem c_give (W H : Int) (a : Option Addr) (n c : Nat) (zs L : List Nat) (B : Nat) (w : World) (o : Own 43 w B a n c zs) (hz : near zs L) (hl : n ≤ 1048576) :
    Calls Try.prog 57 #[.agg #[.int .i64 W, .int .i64 H, .slice a n c]] w (fun e w' => ∃ a' c', e = .returned (.tuple #[.agg #[.int .i64 (giveP W H L).W, .int .i64 (giveP W H L).H, .slice a' (giveP W H L).zs.length c'], .bool (giveP W H L).ok]) ∧ (giveP W H L).zs.length ≤ 1048576 ∧ Below w.heap.size w w' ∧ Own 43 w' B a' (giveP W H L).zs.length c' (giveP W H L).zs) := by
  have hv := near_valid (W := W) (H := H) hz
  have hn : zs.length = n := o.1
  unfold giveP
  cases h : validB W H L
  · rw [if_neg (by decide)]
    refine (c_l02Give_no W H a n c zs w o.row (by rw [hv, h])).mono ?_
    rintro _ w' ⟨rfl, b⟩
    exact ⟨none, 0, rfl, Nat.zero_le _, b, Own.nil _ _ _⟩
  · rw [if_pos rfl]
    obtain rfl := near_eq hz (valid_fin h)
    refine (c_l02Give_yes W H a n c zs w o.row h).mono ?_
    rintro _ w' ⟨rfl, b⟩
    exact ⟨a, c, by rw [hn], by rw [hn]; exact hl, b, by rw [hn]; exact o.below b⟩
/-! ### l02Blank -/
theorem c_l02Blank (W H : Int) (w : World) : Calls Try.prog 83 #[.int .i64 W, .int .i64 H] w (fun e w' => ∃ g, e = .returned (.agg #[.int .i64 W, .int .i64 H, .slice (some ⟨g, 0, none⟩) 0 0]) ∧ Below w.heap.size w w' ∧ Own 43 w' w.heap.size (some ⟨g, 0, none⟩) 0 0 []) := by
  go_enter Try.func83, Try.ntmps83
  go_wp2
  refine bodyPost_ret (v := .agg #[.int .i64 W, .int .i64 H, .slice (some ⟨w.heap.size + 1, 0, none⟩) 0 0]) (by simp [results, Try.results83, go_sem]) rfl ⟨w.heap.size + 1, rfl, ?_, ?_⟩
  · exact ((Below.refl _ _).alloc (Nat.le_refl _) _).alloc (by simp) _
  · refine ⟨rfl, ⟨rfl, .inr ⟨w.heap.size + 1, 0, #[], rfl, by omega, ?_, Nat.le_refl _, Nat.zero_le _, rfl, rfl⟩⟩, by simp⟩
    have h := heap_alloc_new (w.alloc (Obj.cells #[Value.int IntKind.i64 W, Value.int IntKind.i64 H, Value.slice (some ⟨w.heap.size + 1, 0, none⟩) 0 0] 29)) (Obj.cells #[] 43)
    simpa using h
/-! ### infoF2 -/
theorem infoF2 : (Try.prog.info? 43).map (fun i => (i.zero, i.size, i.bytes)) = some (some (.float .f32 0), 1, 4) := by kernel_rfl
/-! ### sEdge -/
theorem c_l02Above0 (v n : Nat) (w : World) : Calls Try.prog 75 #[.float .f32 (pick .f32 v n)] w (RetV (.bool (aboveB v)) w) := by
  have h := c_l02Above v n w 0
  rwa [w.drewN_zero] at h
theorem c_sEdgeFilter (WA HA : Int) (zA : List Nat) (aA : Option Addr) (cA : Nat) (r : Int) (v n : Nat) (w : World) (rA : IsRowF .f32 w aA zA.length cA zA) (hr : (Lit.int .i64 r).wf = true) (hv0 : v < 2 ^ FloatKind.f32.format.width) : Calls Try.prog 35 #[.agg #[.int .i64 WA, .int .i64 HA, .slice aA zA.length cA], .int .i64 r, .float .f32 (pick .f32 v n)] w (RetP 43 (resEdge WA HA zA r v) w) := by
  have RA := Lib.hid rA
  generalize hw0 : (w.alloc (Obj.cells #[.int .i64 WA, .int .i64 HA, .slice aA zA.length cA] 29)).alloc (Obj.cells #[.int .i64 0, .int .i64 0, .slice none 0 0] 29) = w0
  have X0 : Var w0 w.heap.size #[.int .i64 WA, .int .i64 HA, .slice aA zA.length cA] := by subst hw0; exact (Var.new _ _ _).alloc _
  have X1 : Var w0 (w.heap.size + 1) #[.int .i64 0, .int .i64 0, .slice none 0 0] := by subst hw0; exact Var.new' _ _ _ _ (by simp)
  have X2 : Free w0 (w.heap.size + 1) := by subst hw0; exact Free.new' _ _ _ _ (by simp)
  have X3 : Below w.heap.size w w0 := by subst hw0; exact ((Below.refl _ _).alloc (Nat.le_refl _) _).alloc (by simp) _
  have X4 : w0.heap.size = w.heap.size + 1 + 1 := by subst hw0; simp
  have HW := Lib.hid hw0
  have V0 := Lib.hid X0
  have V1 := Lib.hid X1
  have F1 := Lib.hid X2
  have B0 := Lib.hid X3
  have RX := Lib.hid (rA.below X3)
  clear hw0 X0 X1 X2 X3 rA
  have CI := Lib.hid (c_l04Can0 WA HA _ aA _ cA zA r _ V0.out RX.out)
  have CA := Lib.hid (fun w => c_l02Above0 v n w)
  unfold resEdge resFil
  unfold canB at CI
  cases hc : (validB WA HA zA && (decide (0 ≤ r) && decide (r ≤ 8)))
  · have e : (if aboveB v = true then (if false = true then giveP WA HA (makeL ((fun Wn Hn x y => edgeF zA v Wn Hn r x y) WA.toNat HA.toNat) WA.toNat HA.toNat) else PRes.no) else PRes.no) = PRes.no := by split <;> rfl
    rw [e]
    rw [hc] at CI
    clear hc e
    go_enter Try.func35, Try.ntmps35
    go_wp2_with fail
    rw [HW.out]
    refine CI.out.mono ?_
    rintro _ _ ⟨m1, rfl, rfl⟩
    have bb_w1 := below_drewN (Below.refl w0.heap.size w0) m1
    have VV := Lib.hid (V1.out.keep bb_w1)
    have FF := Lib.hid (F1.out.below V1.out.lt bb_w1)
    have BB := Lib.hid (B0.out.trans (bb_w1.mono (by omega)))
    have UU := Lib.hid (V0.out.keep bb_w1)
    have RR := Lib.hid (RX.out.below bb_w1)
    clear bb_w1
    generalize World.drewN w0 m1 = w1 at *
    have zz : w.heap.size + 1 < w1.heap.size := VV.out.lt
    obtain ⟨q0, q1, q2⟩ := VV.out.three
    have f0 := FF.out 0
    have f1 := FF.out 1
    have f2 := FF.out 2
    go_wp2_with fail
    refine bodyPost_ret (v := .tuple #[.agg #[.int .i64 0, .int .i64 0, .slice none 0 0], .bool false]) (by simp [results, Try.results35, q0, q1, q2, go_sem]) rfl (show RetP _ PRes.no _ _ _ from ⟨none, 0, rfl, Nat.zero_le _, ((BB.out.setCell (by simp <;> omega) _).setCell (by simp <;> omega) _).setCell (by simp <;> omega) _, Own.nil _ _ _⟩)
  · cases ha : aboveB v
    · rw [if_neg (by decide)]
      rw [hc] at CI
      rw [ha] at CA
      clear hc ha
      go_enter Try.func35, Try.ntmps35
      go_wp2_with fail
      rw [HW.out]
      refine CI.out.mono ?_
      rintro _ _ ⟨m1, rfl, rfl⟩
      have bb_w1 := below_drewN (Below.refl w0.heap.size w0) m1
      have VV := Lib.hid (V1.out.keep bb_w1)
      have FF := Lib.hid (F1.out.below V1.out.lt bb_w1)
      have BB := Lib.hid (B0.out.trans (bb_w1.mono (by omega)))
      have UU := Lib.hid (V0.out.keep bb_w1)
      have RR := Lib.hid (RX.out.below bb_w1)
      clear bb_w1
      generalize World.drewN w0 m1 = w1 at *
      have zz : w.heap.size + 1 < w1.heap.size := VV.out.lt
      go_wp2_with fail
      refine (CA.out w1).mono ?_
      rintro _ _ ⟨m2, rfl, rfl⟩
      have bb2 := below_drewN (Below.refl w1.heap.size w1) m2
      have VV := Lib.hid (VV.out.keep bb2)
      have FF := Lib.hid (FF.out.below zz bb2)
      have BB := Lib.hid (BB.out.trans (bb2.mono (by omega)))
      have UU := Lib.hid (UU.out.keep bb2)
      have RR := Lib.hid (RR.out.below bb2)
      clear bb2 zz
      generalize World.drewN w1 m2 = w2 at *
      have zz : w.heap.size + 1 < w2.heap.size := VV.out.lt
      obtain ⟨q0, q1, q2⟩ := VV.out.three
      have f0 := FF.out 0
      have f1 := FF.out 1
      have f2 := FF.out 2
      go_wp2_with fail
      refine bodyPost_ret (v := .tuple #[.agg #[.int .i64 0, .int .i64 0, .slice none 0 0], .bool false]) (by simp [results, Try.results35, q0, q1, q2, go_sem]) rfl (show RetP _ PRes.no _ _ _ from ⟨none, 0, rfl, Nat.zero_le _, ((BB.out.setCell (by simp <;> omega) _).setCell (by simp <;> omega) _).setCell (by simp <;> omega) _, Own.nil _ _ _⟩)
    · rw [if_pos rfl, if_pos rfl]
      rw [hc] at CI
      rw [ha] at CA
      clear ha
      simp only [Bool.and_eq_true, decide_eq_true_eq] at hc
      obtain ⟨hv, hra, hrb⟩ := hc
      have hlen := (valid_len hv).1
      have hl1 := (valid_len hv).2.2
      have hsb : sideB WA HA = true := by have h := hv; simp only [validB, Bool.and_eq_true] at h; exact h.1.1
      obtain ⟨⟨s1, s2⟩, s3, s4⟩ := sideB_true hsb
      obtain ⟨Wn, rfl⟩ : ∃ n : Nat, WA = n := ⟨WA.toNat, by omega⟩
      obtain ⟨Hn, rfl⟩ : ∃ n : Nat, HA = n := ⟨HA.toNat, by omega⟩
      have hln : zA.length = Wn * Hn := by rw [← Int.natCast_mul] at hlen; omega
      rw [Int.toNat_natCast, Int.toNat_natCast]
      show Calls _ _ _ _ (RetP _ (giveP (Wn : Int) (Hn : Int) (makeL (edgeF zA v Wn Hn r) Wn Hn)) _)
      have HN : Wn * Hn ≤ 256 := Nat.le_trans (Nat.mul_le_mul (show Wn ≤ 16 by omega) (show Hn ≤ 16 by omega)) (by decide)
      obtain ⟨N, hN⟩ : ∃ N, N = Wn * Hn := ⟨_, rfl⟩
      have HAt := Lib.hid (fun (k : Nat) (hk : k < N) => (by rw [hN] at hk ⊢; simp only [fat, makeL, List.getD, List.getElem?_map, List.getElem?_range hk, edgeF]; show edgeV Wn zA v (k / Wn * Wn + k % Wn) _ = _; rw [show k / Wn * Wn + k % Wn = k by rw [Nat.mul_comm]; exact Nat.div_add_mod k Wn]; rfl : fat (makeL (edgeF zA v Wn Hn r) Wn Hn) k = edgeV Wn zA v k (winI Wn N k r)))
      have HLen := Lib.hid (show (makeL (edgeF zA v Wn Hn r) Wn Hn).length = N by rw [makeL_len, hN])
      generalize makeL (edgeF zA v Wn Hn r) Wn Hn = L at *
      have WC := Lib.hid (fun (k : Nat) (wz : World) (hv : Var wz w.heap.size #[.int .i64 (Wn : Int), .int .i64 (Hn : Int), .slice aA zA.length cA]) (hk : k < 256) => c_l04Window Wn Hn w.heap.size aA cA zA k r wz hv (by omega) (by omega) (by omega) hk hra hrb)
      have hlN : zA.length = N := by rw [hln, hN]
      have WL := Lib.hid (fun (i k : Nat) (wz : World) (j0 : Nat) (hv : Var wz w.heap.size #[.int .i64 (Wn : Int), .int .i64 (Hn : Int), .slice aA N cA]) (hr : IsRowF .f32 wz aA N cA zA) (hi : i < N) (hk : k < N) => c_l04Weight Wn w.heap.size aA N cA (.int .i64 (Hn : Int)) zA i k v n wz j0 hv hr (by omega) hi hk (by omega))
      have MW := Lib.hid (show IntKind.i64.wrap ((Wn : Int) * (Hn : Int)) = (N : Int) by rw [hN]; rw [show ((Wn : Int) * (Hn : Int)) = ((Wn * Hn : Nat) : Int) by rw [Int.natCast_mul]]; exact IntWalk.i64_in _ (by omega))
      rw [← hN] at HN WC
      rw [hlN] at WC RX RA V0 HW
      have HN' : N ≤ 1048576 := by omega
      have CG2 := Lib.hid (fun (a : Option Addr) (c : Nat) (zs : List Nat) (B : Nat) (w : World) (o : Own 43 w B a N c zs) (hz : near zs L) => c_give (Wn : Int) (Hn : Int) a N c zs L B w o hz HN')
      clear hv hlen hl1 hsb hN HN' hr
      generalize giveP (Wn : Int) (Hn : Int) L = res at *
      obtain ⟨i0, hinf, hz0, hz1, hz2⟩ := info_parts infoF2
      rw [hlN]
      clear hlN hln
      go_enter Try.func35, Try.ntmps35
      go_wp2_with fail
      rw [HW.out]
      refine CI.out.mono ?_
      rintro _ _ ⟨m1, rfl, rfl⟩
      have bb_w1 := below_drewN (Below.refl w0.heap.size w0) m1
      have VV := Lib.hid (V1.out.keep bb_w1)
      have FF := Lib.hid (F1.out.below V1.out.lt bb_w1)
      have BB := Lib.hid (B0.out.trans (bb_w1.mono (by omega)))
      have UU := Lib.hid (V0.out.keep bb_w1)
      have RR := Lib.hid (RX.out.below bb_w1)
      clear bb_w1
      generalize World.drewN w0 m1 = w1 at *
      have zz : w.heap.size + 1 < w1.heap.size := VV.out.lt
      go_wp2_with fail
      refine (CA.out w1).mono ?_
      rintro _ _ ⟨m2, rfl, rfl⟩
      have bb2 := below_drewN (Below.refl w1.heap.size w1) m2
      have VV := Lib.hid (VV.out.keep bb2)
      have FF := Lib.hid (FF.out.below zz bb2)
      have BB := Lib.hid (BB.out.trans (bb2.mono (by omega)))
      have UU := Lib.hid (UU.out.keep bb2)
      have RR := Lib.hid (RR.out.below bb2)
      clear bb2 zz
      generalize World.drewN w1 m2 = w2 at *
      have zz : w.heap.size + 1 < w2.heap.size := VV.out.lt
      obtain ⟨u0, u1, u2⟩ := UU.out.three
      go_wp2_with fail
      refine (c_l02Blank _ _ _).mono ?_
      rintro _ w3 ⟨gu, rfl, b3, o3⟩
      have hgu := o3.in gu rfl
      generalize hw5 : w3.alloc (Obj.cells #[.int .i64 (Wn : Int), .int .i64 (Hn : Int), .slice (some ⟨gu, 0, none⟩) 0 0] 29) = w5
      have HW5 := Lib.hid hw5
      have s3 : w2.heap.size ≤ w3.heap.size := b3.size
      have b5 : Below w3.heap.size w3 w5 := by subst hw5; exact (Below.refl _ _).alloc (Nat.le_refl _) _
      have z5 : w5.heap.size = w3.heap.size + 1 := by subst hw5; simp
      obtain ⟨bo, hbo⟩ : ∃ bo, bo = w3.heap.size := ⟨_, rfl⟩
      have V5 := Lib.hid (show Var w5 bo #[.int .i64 (Wn : Int), .int .i64 (Hn : Int), .slice (some ⟨gu, 0, none⟩) 0 0] by subst hbo; subst hw5; exact Var.new _ _ _)
      have F5 := Lib.hid (show Free w5 bo by subst hbo; subst hw5; exact Free.new _ _ _)
      have O5 := Lib.hid (show Own 43 w5 (w.heap.size + 1 + 1) (some ⟨gu, 0, none⟩) 0 0 [] from (o3.below b5).mono (by omega))
      have BZ := Lib.hid ((BB.out.trans (b3.mono (by omega))).trans (b5.mono (by omega)))
      have VZ := Lib.hid ((VV.out.keep b3).keep b5)
      have FZ := Lib.hid ((FF.out.below zz b3).below (by omega) b5)
      have PX := Lib.hid ((UU.out.keep b3).keep b5)
      have hbo1 : w.heap.size + 1 + 1 ≤ bo := by omega
      have hbo2 : bo < w5.heap.size := by omega
      have hbgu : gu < bo := by omega
      have zb5 : bo < w5.heap.size := V5.out.lt
      have sz5 : w.heap.size + 1 + 1 ≤ w5.heap.size := by omega
      rw [← hbo] at z5 s3
      have HBo := Lib.hid hbo
      clear hw5 b3 b5 o3 u0 u1 u2 hbo
      go_wp2_with fail
      rw [HW5.out, ← HBo.out]
      go_loopw [9] (fun i wr => ∃ (k : Nat) (a : Option Addr) (c : Nat) (zs : List Nat), k ≤ N ∧ i = .int .i64 (k : Int) ∧ Var wr bo #[.int .i64 (Wn : Int), .int .i64 (Hn : Int), .slice a k c] ∧ Own 43 wr (w.heap.size + 1 + 1) a k c zs ∧ near zs (L.take k) ∧ Below (w.heap.size + 1 + 1) w5 wr ∧ Free wr bo ∧ blk a ≠ some bo) (fun i _ => N - (intOf i).toNat)
      case atStart => exact ⟨0, _, 0, [], Nat.zero_le _, rfl, V5.out, O5.out, by simpa using near_nil, Below.refl _ _, F5.out, by simp [blk]; omega⟩
      case round =>
        obtain ⟨k, a, c, zs, hk, rfl, hV, hO, hnear, hBl, hfree, hne⟩ := hrel
        have HV := Lib.hid hV
        have HO := Lib.hid hO
        have HNr := Lib.hid hnear
        have HB := Lib.hid hBl
        have HF := Lib.hid hfree
        have HNe := Lib.hid hne
        have PXr := Lib.hid (PX.out.below HB.out (by omega))
        have BR := Lib.hid (BZ.out.trans (HB.out.mono (by omega)))
        have zr : w5.heap.size ≤ wr.heap.size := HB.out.size
        clear hV hO hnear hBl hfree hne
        have mw := MW.out
        obtain ⟨d0, d1, d2⟩ := PXr.out.three
        by_cases hlt : k < N
        · have hlt2 : (k : Int) < (N : Int) := by omega
          rw [← wr.drewN_zero]
          have b6 := below_drewN (Below.refl wr.heap.size wr) 0
          have HV6 := Lib.hid (HV.out.keep b6)
          have HO6 := Lib.hid (HO.out.below b6)
          have HB6 := Lib.hid (HB.out.trans (b6.mono (by have := HB.out.size; omega)))
          have HF6 := Lib.hid (HF.out.below HV.out.lt b6)
          have PX6 := Lib.hid (PXr.out.keep b6)
          have BR6 := Lib.hid (BR.out.trans (b6.mono (by omega)))
          have zr6 : wr.heap.size ≤ (wr.drewN 0).heap.size := b6.size
          clear b6 d0 d1 d2
          generalize World.drewN wr 0 = w6 at *
          obtain ⟨d0, d1, d2⟩ := PX6.out.three
          go_wp2_with fail
          clear mw d0 d1 d2
          refine (WC.out k w6 PX6.out (by omega)).mono ?_
          rintro _ w7 ⟨v7, rfl, b7, hI⟩
          have HV7 := Lib.hid (HV6.out.keep b7)
          have HO7 := Lib.hid (HO6.out.below b7)
          have HB7 := Lib.hid (HB6.out.trans (b7.mono (by omega)))
          have HF7 := Lib.hid (HF6.out.below HV6.out.lt b7)
          have PX7 := Lib.hid (PX6.out.keep b7)
          have BR7 := Lib.hid (BR6.out.trans (b7.mono (by omega)))
          have RX7 := Lib.hid (RA.out.below BR7.out)
          have zr7 : w6.heap.size ≤ w7.heap.size := b7.size
          have HI := Lib.hid hI
          have hsub : ∀ x ∈ winI Wn N k r, x < N := fun x hx => winL_lt hx
          have hlen7 : (winI Wn N k r).length ≤ 256 := by unfold winI; exact Nat.le_trans (winL_len _ _ _ _ _ _) (by omega)
          have HAt7 := Lib.hid (HAt.out k hlt)
          have WLk := Lib.hid (fun (k' j0 : Nat) (hk' : k' < N) => WL.out k k' w7 j0 PX7.out RX7.out hlt hk')
          have HSub := Lib.hid hsub
          clear b7 hI hsub
          generalize winI Wn N k r = idx at *
          obtain ⟨n, hn⟩ : ∃ n, n = idx.length := ⟨_, rfl⟩
          obtain ⟨q7, c7, e7⟩ := HI.out.isSlice
          subst e7
          rw [← hn] at hlen7 ⊢
          have HN7 := Lib.hid hn
          have HI7 : Hid (Idx 2 w7 w6.heap.size (.slice q7 n c7) idx) := by rw [hn]; exact HI
          clear HI hn
          go_wp2_with fail
          go_loopw [11, 12, 13] (fun s11 s12 s13 wq => ∃ j m m2 q : Nat, j ≤ n ∧ s13 = .int .i64 (j : Int) ∧ s11 = .float .f32 (pick .f32 (eL1 Wn zA v k (idx.take j)) m) ∧ s12 = .float .f32 (pick .f32 (eL2 Wn zA v k (idx.take j)) m2) ∧ wq = w7.drewN q) (fun _ _ s13 _ => n - (intOf s13).toNat)
          case atStart => exact ⟨0, 0, 0, 0, Nat.zero_le _, rfl, by rw [List.take_zero]; exact congrArg _ (pick_not (by decide +kernel) 0).symm, by rw [List.take_zero]; exact congrArg _ (pick_not (by decide +kernel) 0).symm, rfl⟩
          case round =>
            obtain ⟨j, m, m2, q, hj, rfl, rfl, rfl, rfl⟩ := hrel
            by_cases hjn : j < n
            · have hjn2 : (j : Int) < (n : Int) := by omega
              obtain ⟨g7, c9, e9, _, _, hcap1, hcap2, hcellI⟩ := HI7.out.at (j := j) (by rw [← HN7.out]; exact hjn)
              simp only [Value.slice.injEq] at e9
              obtain ⟨rfl, e9, rfl⟩ := e9
              clear e9
              have hxlt : fat idx j < N := HSub.out _ (fat_mem (by rw [← HN7.out]; exact hjn))
              obtain ⟨bb, oo, nn, hab, hbl, hcl⟩ := RX7.out.at hxlt
              have HT := Lib.hid (take_snoc (idx := idx) (j := j) (by rw [← HN7.out]; exact hjn))
              subst hab
              obtain ⟨d0, d1, d2⟩ := PX7.out.three
              have hxlt2 : ((fat idx j : Nat) : Int) < (N : Int) := by omega
              have hcell2 : w7.cell? ⟨bb, oo + fat idx j, none⟩ = some (.float .f32 (pick .f32 (fat zA (fat idx j)) nn)) := hcl
              clear hcl
              go_wp2_with fail
              refine (WLk.out (fat idx j) q hxlt).mono ?_
              rintro _ _ ⟨mw, jw, rfl, rfl⟩
              generalize hwk : wtI Wn zA v k (fat idx j) = wk at *
              have HWk := Lib.hid hwk
              clear hwk
              go_wp2_with fail
              refine wp_region_N (fun _ _ _ => True) (by kernel_rfl) (by kernel_rfl) ?_; (repeat (first | ((with_reducible show wpN _ _ _ _ _ (Oper.mk _ (Op.binOp _ _ _ _ _) _ _ _ none :: _) _); refine wpN_fop rfl _ _ _ _ _ rfl _ _ _ rfl rfl (by decide) ?_; intro _) | ((with_reducible show wpN _ _ _ _ _ (Oper.mk _ (Op.convert _ _ _) _ _ _ none :: _) _); refine wpN_cvU rfl 43 49 _ rfl (Option.isSome_iff_exists.2 ⟨_, Try.underlying43⟩) Try.underlying49 _ rfl ?_; intro _) | ((with_reducible show wpN _ _ _ _ _ (Oper.mk _ _ _ _ _ (some _) :: _) _); (with_reducible refine wpN_off ?_ ?_); focus rfl; (simp only [Act.put, List.setIfInBounds_toArray, List.set_cons_zero, List.set_cons_succ])) | ((with_reducible show wpN _ _ _ _ _ (Oper.mk _ _ _ _ _ (some _) :: _) _); ((with_reducible refine wpN_on ?_ (fun K hK => ?_)); (focus rfl); intro _; go_simp; first | (refine uponN_value (hK _ ?_)) | (fail; refine hK _ ?_)); clear hK K) | (((with_reducible refine wpN_plain rfl (fun K hK => ?_)); intro _; go_simp; first | (refine uponN_value (hK _ ?_)) | (fail; refine hK _ ?_)); clear hK K) | ((with_reducible refine wpN_step (fun K hK => ?_)); go_simp; first | (refine hK _ ?_) | (intro _; first | (refine uponN_value (hK _ ?_)) | (fail; refine hK _ ?_)); clear hK K))); refine wpN_nil ?_; intro _
              go_wp2_with (first | (refine wpList_fop rfl _ _ _ _ _ rfl _ _ _ rfl rfl (by decide) _ ?_; intro _ _) | (refine upon_fop _ _ _ _ _ (by decide) ?_; intro _ _))
              go_roundw
              case rel => exact ⟨j + 1, _, _, _, by omega, by go_num, by rw [HT.out, eL1_snoc, HWk.out], by rw [HT.out, eL2_snoc, HWk.out], rfl⟩
              case measure => simp [intOf]; omega
            · obtain rfl : j = n := by omega
              have HM := Lib.hid (show fop .quo .f32 (eL1 Wn zA v k (idx.take j)) (eL2 Wn zA v k (idx.take j)) = fat L k by rw [List.take_of_length_le (by rw [← HN7.out]; exact Nat.le_refl _), HAt7.out]; rfl)
              have b8 := below_drewN (Below.refl w7.heap.size w7) q
              have HV8 := Lib.hid (HV7.out.keep b8)
              have HO8 := Lib.hid (HO7.out.below b8)
              have HB8 := Lib.hid (HB7.out.trans (b8.mono (by omega)))
              have HF8 := Lib.hid (HF7.out.below HV7.out.lt b8)
              have zr8 : w7.heap.size ≤ (w7.drewN q).heap.size := b8.size
              clear b8
              generalize World.drewN w7 q = w8 at *
              obtain ⟨co0, co1, co2⟩ := HV8.out.three
              go_wp2_with fail
              first | (refine wpList_fop0 rfl _ _ _ _ _ rfl _ _ _ rfl rfl (by decide) ?_) | (refine upon_fop0 _ _ _ _ _ (by decide) ?_)
              intro n9 m9
              have b9 := below_drewN (Below.refl w8.heap.size w8) m9
              have HV9 := Lib.hid (HV8.out.keep b9)
              have HO9 := Lib.hid (HO8.out.below b9)
              have HB9 := Lib.hid (HB8.out.trans (b9.mono (by omega)))
              have HF9 := Lib.hid (HF8.out.below HV8.out.lt b9)
              have zr9 : w8.heap.size ≤ (w8.drewN m9).heap.size := b9.size
              clear b9 co0 co1 co2
              generalize World.drewN w8 m9 = w9 at *
              rw [show fop .quo .f32 (pick .f32 (eL1 Wn zA v k (idx.take j)) m) (pick .f32 (eL2 Wn zA v k (idx.take j)) m2) = fat L k from (fop_pick_l _ _ _ _ _).trans ((fop_pick_r _ _ _ _ _).trans HM.out)]
              go_wp2_with (at_builtin; refine wpList_append_own _ rfl _ _ 22 rfl (w.heap.size + 1 + 1) 43 i0 (.float .f32 0) 1 4 Try.underlying22 hinf hz0 hz1 hz2 rfl (by decide) _ _ _ rfl ((HO9.out.alloc _).2.1) ⟨w9.heap.size, 0, none⟩ 1 1 [.float .f32 (pick .f32 (fat L k) n9)] rfl rfl (cell1_new w9 _ _ _ rfl) (by intro u hu; simp at hu; subst hu; rfl) (by unfold maxLen; omega) (by omega) (by simp; omega) ?_)
              intro v' w6 hown' hgrow _
              have hwfL : fat L k < 2 ^ FloatKind.f32.format.width := by rw [← HM.out]; exact fop_lt _ _ _ _
              obtain ⟨a', c', rfl, hV2, hO2, hne2, hB2, hF2, hs2, hc2, hf2⟩ := own_round HV9.out HO9.out HB9.out (by omega) HF9.out HNe.out hown' hgrow (pick_wf hwfL n9)
              have GV := Lib.hid hV2
              have GO := Lib.hid hO2
              have GN := Lib.hid hne2
              have GB := Lib.hid hB2
              have GF := Lib.hid hF2
              clear hV2 hO2 hne2 hB2 hF2 hs2 hown' hgrow hwfL
              go_wp2_with fail
              go_roundw
              case rel => exact ⟨k + 1, a', c', _, by omega, by go_num, GV.out, GO.out, near_snoc HNr.out (by rw [HLen.out]; exact hlt) n9, GB.out, GF.out, GN.out⟩
              case measure => simp [intOf]; omega
        · obtain rfl : k = N := by omega
          have HZ := Lib.hid (show near zs L by have h := HNr.out; rwa [List.take_of_length_le (by rw [HLen.out]; exact Nat.le_refl _)] at h)
          rw [← wr.drewN_zero]
          have b6 := below_drewN (Below.refl wr.heap.size wr) 0
          have HV6 := Lib.hid (HV.out.keep b6)
          have HO6 := Lib.hid (HO.out.below b6)
          have BR6 := Lib.hid (BR.out.trans (b6.mono (by omega)))
          have PX6 := Lib.hid (PXr.out.keep b6)
          have RV6 := Lib.hid ((VZ.out.below HB.out (by omega)).keep b6)
          have RF6 := Lib.hid ((FZ.out.keep HB.out (by omega)).below (by omega) b6)
          have zr6 : wr.heap.size ≤ (wr.drewN 0).heap.size := b6.size
          clear b6 d0 d1 d2
          generalize World.drewN wr 0 = w6 at *
          obtain ⟨co0, co1, co2⟩ := HV6.out.three
          obtain ⟨d0, d1, d2⟩ := PX6.out.three
          go_wp2_with fail
          clear mw d0 d1 d2
          refine (CG2.out a c zs _ w6 HO6.out HZ.out).mono ?_
          rintro _ w9 ⟨a9, cap9, rfl, hl9, b9, o9⟩
          have V9 := Lib.hid (RV6.out.keep b9)
          have F9 := Lib.hid (RF6.out.below (by omega) b9)
          have B9 := Lib.hid (BR6.out.trans (b9.mono (by omega)))
          have z9 : w6.heap.size ≤ w9.heap.size := b9.size
          have O9 := Lib.hid o9
          have HL9 := Lib.hid hl9
          clear b9 o9 hl9 co0 co1 co2
          obtain ⟨q0, q1, q2⟩ := V9.out.three
          have f0 := F9.out 0
          have f1 := F9.out 1
          have f2 := F9.out 2
          go_wp2_with fail
          have hrow : blk a9 ≠ some (w.heap.size + 1) := fun e => by have := O9.out.in _ e; omega
          refine bodyPost_ret (v := .tuple #[.agg #[.int .i64 res.W, .int .i64 res.H, .slice a9 res.zs.length cap9], .bool res.ok]) (by simp [results, Try.results35, q0, q1, q2, go_sem]) rfl ⟨a9, cap9, rfl, HL9.out, ((B9.out.setCell (by simp <;> omega) _).setCell (by simp <;> omega) _).setCell (by simp <;> omega) _, (((O9.out.setCell hrow _).setCell hrow _).setCell hrow _).mono (by omega)⟩
/-! ### sidesOf -/
theorem c_sidesOf (W H : Int) (s : Value) (w : World) : Calls Try.prog 118 #[.agg #[.int .i64 W, .int .i64 H, s]] w (RetB (.agg #[.int .i64 W, .int .i64 H]) w) := by
  go_enter Try.func118, Try.ntmps118
  go_wp2
  exact bodyPost_ret (v := .agg #[.int .i64 W, .int .i64 H]) (by simp [results, Try.results118, go_sem]) rfl ⟨rfl, ((Below.refl _ _).alloc (Nat.le_refl _) _).alloc (by simp) _⟩
/-! ### allowed -/
theorem c_allowed (W H : Int) (w : World) : Calls Try.prog 134 #[.agg #[.int .i64 W, .int .i64 H]] w (RetB (.bool (sideB W H)) w) := by
  unfold sideB
  by_cases h1 : 1 ≤ W
  · by_cases h2 : W ≤ 16
    · by_cases h3 : 1 ≤ H
      · by_cases h4 : H ≤ 16
        all_goals
          go_enter Try.func134, Try.ntmps134
          go_wp2
          go_ret
          exact ⟨by simp [*] <;> (intros; omega), (Below.refl _ _).alloc (Nat.le_refl _) _⟩
      · go_enter Try.func134, Try.ntmps134
        go_wp2
        go_ret
        exact ⟨by simp [*] <;> (intros; omega), (Below.refl _ _).alloc (Nat.le_refl _) _⟩
    · go_enter Try.func134, Try.ntmps134
      go_wp2
      go_ret
      exact ⟨by simp [*] <;> (intros; omega), (Below.refl _ _).alloc (Nat.le_refl _) _⟩
  · go_enter Try.func134, Try.ntmps134
    go_wp2
    go_ret
    exact ⟨by simp [*] <;> (intros; omega), (Below.refl _ _).alloc (Nat.le_refl _) _⟩
/-! ### IsNaN -/
theorem c_IsNaN (v n : Nat) (w : World) (j : Nat) : Calls Try.prog 138 #[.float .f64 (pick .f64 v n)] (w.drewN j) (RetV (.bool (isN .f64 v)) w) := by
  go_enter Try.func138, Try.ntmps138
  go_wp2
  go_ret
  exact ⟨_, rfl, rfl⟩
/-! ### f64bits -/
@[go_sem] theorem e_f64bits (b : Nat) (w : World) : (callFunc 149 #[.float .f64 b]).run Try.prog w = .ok (.value (.int .u64 b)) w := by kernel_rfl
/-! ### f64from -/
@[go_sem] theorem e_f64from (n : Int) (w : World) : (callFunc 148 #[.int .u64 n]).run Try.prog w = .ok (.value (.float .f64 n.toNat)) w := by kernel_rfl
/-! ### Abs -/
theorem c_Abs (v n : Nat) (w : World) (j : Nat) (hv : v < 2 ^ FloatKind.f64.format.width) : Calls Try.prog 144 #[.float .f64 (pick .f64 v n)] (w.drewN j) (RetF .f64 (fabs .f64 v) w) := by
  have hb := abs_bits hv n
  go_enter Try.func144, Try.ntmps144
  go_wp2
  go_ret
  exact ⟨_, _, rfl, rfl⟩
/-! ### IsInf0 -/
theorem c_IsInf0 (v n : Nat) (w : World) (j : Nat) (hv : v < 2 ^ FloatKind.f64.format.width) : Calls Try.prog 139 #[.float .f64 (pick .f64 v n), .int .i64 0] (w.drewN j) (RetV (.bool (FloatKind.f64.format.order (fabs .f64 v) 9218868437227405311 == some .gt)) w) := by
  go_enter Try.func139, Try.ntmps139
  go_wp2_with ((go_at_call 144; refine (c_Abs _ _ _ _ hv).mono ?_; rintro _ _ ⟨_, _, rfl, rfl⟩))
  go_ret
  exact ⟨_, rfl, rfl⟩
/-! ### isFinite64 -/
theorem c_isFinite64 (v n : Nat) (w : World) (j : Nat) (hv : v < 2 ^ FloatKind.f64.format.width) : Calls Try.prog 126 #[.float .f64 (pick .f64 v n)] (w.drewN j) (RetV (.bool (finB .f64 v)) w) := by
  go_enter Try.func126, Try.ntmps126
  go_wp2_with (first | (go_at_call 138; refine (c_IsNaN _ _ _ _).mono ?_; rintro _ _ ⟨_, rfl, rfl⟩) | (go_at_call 139; refine (c_IsInf0 _ _ _ _ hv).mono ?_; rintro _ _ ⟨_, rfl, rfl⟩))
  all_goals
    go_ret
    refine ⟨_, ?_, rfl⟩
    rw [← abs_gt_max]
    simp [*]
/-! ### iIsFinite -/
theorem c_iIsFinite (v n : Nat) (w : World) (j : Nat) : Calls Try.prog 77 #[.float .f32 (pick .f32 v n)] (w.drewN j) (RetV (.bool (finB .f32 v)) w) := by
  go_enter Try.func77, Try.ntmps77
  go_wp2_with (first | (refine wpList_cvU rfl 43 49 _ rfl (Option.isSome_iff_exists.2 ⟨_, Try.underlying43⟩) Try.underlying49 _ rfl _ ?_; intro _ _) | (go_at_call 126; refine (c_isFinite64 _ _ _ _ (cvU_lt _)).mono ?_; rintro _ _ ⟨_, rfl, rfl⟩))
  go_ret
  rw [← finB_cvU]
  exact ⟨_, rfl, rfl⟩
/-! ### areFinite -/
theorem c_areFinite (a : Option Addr) (len cap : Nat) (zs : List Nat) (w : World) (j0 : Nat) (hr : IsRowF .f32 w a len cap zs) : Calls Try.prog 135 #[.slice a len cap] (w.drewN j0) (RetV (.bool (finL zs)) w) := by
  obtain ⟨h1, h2, h3, h4, h5⟩ := hr
  unfold maxLen at h3
  have H1 := Lib.hid h1
  clear h1
  go_enter Try.func135, Try.ntmps135
  go_wp2
  go_loopw [4, 7] (fun _ i wr => ∃ k m : Nat, k ≤ len ∧ i = .int .i64 k ∧ wr = w.drewN m ∧ finL (zs.take k) = true) (fun _ i _ => len - (intOf i).toNat)
  case atStart => exact ⟨0, j0, Nat.zero_le _, rfl, rfl, rfl⟩
  case round =>
    obtain ⟨k, m, hk, rfl, rfl, hfin⟩ := hrel
    have HFin := Lib.hid hfin
    clear hfin
    by_cases hlt : k < len
    · rcases h5 with h5 | ⟨b, off, rfl, hbl, hc⟩
      · omega
      have hcell : w.cell? ⟨b, off + k, none⟩ = some (.float .f32 (fat zs k)) := hc k hlt
      obtain ⟨n, hn⟩ := pick0 .f32 (fat zs k) (lt_of_wf (h4 _ (by unfold fat; rw [List.getD, List.getElem?_eq_getElem (by have := H1.out; omega)]; exact List.getElem_mem _)))
      rw [hn] at hcell
      have HS := Lib.hid (finL_snoc zs k (by have := H1.out; omega))
      cases hf : finB .f32 (fat zs k)
      · have HO := Lib.hid (finL_of zs k (by have := H1.out; omega) hf)
        clear hc h4 hn
        go_wp2_with ((go_at_call 77; refine (c_iIsFinite _ _ _ _).mono ?_; rintro _ _ ⟨_, rfl, rfl⟩))
        go_ret
        exact ⟨_, by rw [HO.out]; rfl, rfl⟩
      · have HF := Lib.hid hf
        clear hc h4 hn
        go_wp2_with ((go_at_call 77; refine (c_iIsFinite _ _ _ _).mono ?_; rintro _ _ ⟨_, rfl, rfl⟩))
        go_roundw
        case rel => exact ⟨k + 1, _, by omega, by go_num, rfl, by rw [HS.out, HFin.out, HF.out]; rfl⟩
        case measure => simp [intOf]; omega
    · have e : zs.take k = zs := List.take_of_length_le (by have := H1.out; omega)
      have HE := Lib.hid e
      clear h5 h4 e
      go_wp2
      go_ret
      exact ⟨_, by have h := HFin.out; rw [HE.out] at h; rw [h]; rfl, rfl⟩
/-! ### iValid -/
theorem c_areFinite0 (a : Option Addr) (len cap : Nat) (zs : List Nat) (w : World) (hr : IsRowF .f32 w a len cap zs) : Calls Try.prog 135 #[.slice a len cap] w (RetV (.bool (finL zs)) w) := by
  have h := c_areFinite a len cap zs w 0 hr
  rwa [w.drewN_zero] at h
theorem c_iValid (W H : Int) (a : Option Addr) (len cap : Nat) (zs : List Nat) (w : World) (hr : IsRowF .f32 w a len cap zs) :
    Calls Try.prog 108 #[.agg #[.int .i64 W, .int .i64 H, .slice a len cap]] w (RetB (.bool (validB W H zs)) w) := by
  have H1 := Lib.hid hr.1
  have HR := Lib.hid hr
  clear hr
  have two : ∀ s : Bool, sideB W H = s → (s = true → ∀ t : Bool, ((len : Int) == W * H) = t → (Calls Try.prog 108 #[.agg #[.int .i64 W, .int .i64 H, .slice a len cap]] w (RetB (.bool (validB W H zs)) w))) → (s = false → Calls Try.prog 108 #[.agg #[.int .i64 W, .int .i64 H, .slice a len cap]] w (RetB (.bool (validB W H zs)) w)) → Calls Try.prog 108 #[.agg #[.int .i64 W, .int .i64 H, .slice a len cap]] w (RetB (.bool (validB W H zs)) w) := by
    intro s hs h1 h2
    cases s
    · exact h2 rfl
    · exact h1 rfl _ rfl
  refine two _ rfl ?_ ?_
  · intro hs t ht
    obtain ⟨m1, m2⟩ := side_mul hs
    have mw : IntKind.i64.wrap (W * H) = W * H := IntWalk.i64_in _ (by omega)
    clear two
    cases t
    · have e : validB W H zs = false := by simp at ht; simp [validB, hs, H1.out, ht]
      have E := Lib.hid e
      have HT := Lib.hid hs
      clear e
      go_enter Try.func108, Try.ntmps108
      go_wp2_with fail
      refine (c_sidesOf W H _ _).mono ?_
      rintro _ w1 ⟨rfl, b1⟩
      obtain ⟨p0, p1, p2⟩ := ((Var.new _ _ _).keep b1).three
      have z1 : w.heap.size < w1.heap.size := by have := b1.size; simp at this; omega
      have B1 := Lib.hid (((Below.refl w.heap.size w).alloc (Nat.le_refl _) _).trans (b1.mono (by simp)))
      clear b1
      go_wp2_with fail
      refine (c_allowed W H _).mono ?_
      rintro _ w2 ⟨rfl, b2⟩
      rw [HT.out]
      have q0 := (b2.cell (p := ⟨w.heap.size, 0, none⟩) z1).trans p0
      have q1 := (b2.cell (p := ⟨w.heap.size, 1, none⟩) z1).trans p1
      have q2 := (b2.cell (p := ⟨w.heap.size, 2, none⟩) z1).trans p2
      have B2 := Lib.hid (B1.out.trans (b2.mono (by omega)))
      clear p0 p1 p2 b2 hs
      go_wp2_with fail
      go_ret
      exact ⟨by rw [E.out]; rfl, B2.out⟩
    · have e : validB W H zs = finL zs := by simp at ht; simp [validB, hs, H1.out, ht]
      have E := Lib.hid e
      have HT := Lib.hid hs
      clear e
      go_enter Try.func108, Try.ntmps108
      go_wp2_with fail
      refine (c_sidesOf W H _ _).mono ?_
      rintro _ w1 ⟨rfl, b1⟩
      obtain ⟨p0, p1, p2⟩ := ((Var.new _ _ _).keep b1).three
      have z1 : w.heap.size < w1.heap.size := by have := b1.size; simp at this; omega
      have B1 := Lib.hid (((Below.refl w.heap.size w).alloc (Nat.le_refl _) _).trans (b1.mono (by simp)))
      clear b1
      go_wp2_with fail
      refine (c_allowed W H _).mono ?_
      rintro _ w2 ⟨rfl, b2⟩
      rw [HT.out]
      have q0 := (b2.cell (p := ⟨w.heap.size, 0, none⟩) z1).trans p0
      have q1 := (b2.cell (p := ⟨w.heap.size, 1, none⟩) z1).trans p1
      have q2 := (b2.cell (p := ⟨w.heap.size, 2, none⟩) z1).trans p2
      have B2 := Lib.hid (B1.out.trans (b2.mono (by omega)))
      clear p0 p1 p2 b2 hs
      go_wp2_with fail
      refine (c_areFinite0 a len cap zs _ (HR.out.below B2.out)).mono ?_
      rintro _ w3 ⟨m, rfl, rfl⟩
      rw [← E.out]
      go_wp2_with fail
      go_ret
      exact ⟨rfl, below_drewN B2.out _⟩
  · intro hs
    have e : validB W H zs = false := by simp [validB, hs]
    have E := Lib.hid e
    have HT := Lib.hid hs
    clear e two
    go_enter Try.func108, Try.ntmps108
    go_wp2_with fail
    refine (c_sidesOf W H _ _).mono ?_
    rintro _ w1 ⟨rfl, b1⟩
    have B1 := Lib.hid (((Below.refl w.heap.size w).alloc (Nat.le_refl _) _).trans (b1.mono (by simp)))
    have z1 : w.heap.size < w1.heap.size := by have := b1.size; simp at this; omega
    clear b1
    go_wp2_with fail
    refine (c_allowed W H _).mono ?_
    rintro _ w2 ⟨rfl, b2⟩
    rw [HT.out]
    have B2 := Lib.hid (B1.out.trans (b2.mono (by omega)))
    clear b2 hs
    go_wp2_with fail
    go_ret
    exact ⟨by rw [E.out]; rfl, B2.out⟩
/-! ### ifValid -/
theorem c_ifValid_yes (W H : Int) (a : Option Addr) (len cap : Nat) (zs : List Nat) (w : World) (hr : IsRowF .f32 w a len cap zs) (hv : validB W H zs = true) : Calls Try.prog 111 #[.agg #[.int .i64 W, .int .i64 H, .slice a len cap]] w (RetB (.tuple #[.agg #[.int .i64 W, .int .i64 H, .slice a len cap], .bool true]) w) := by
  have HR := Lib.hid hr
  have HV := Lib.hid hv
  clear hr hv
  go_enter Try.func111, Try.ntmps111
  go_wp2_with fail
  refine (c_iValid W H a len cap zs _ ((HR.out.alloc _).alloc _)).mono ?_
  rintro _ w1 ⟨rfl, b⟩
  rw [HV.out]
  have V1 := Lib.hid ((((Var.new' _ _ _ (w.heap.size) rfl).alloc _)).keep b)
  have V2 := Lib.hid ((Var.new' _ _ _ (w.heap.size + 1) (by simp)).keep b)
  have z1 : w.heap.size + 1 < w1.heap.size := by have := b.size; simp at this; omega
  have B1 := Lib.hid ((((Below.refl w.heap.size w).alloc (Nat.le_refl _) _).alloc (by simp) _).trans (b.mono (by simp; omega)))
  have Fr := Lib.hid ((Free.new' _ _ _ (w.heap.size + 1) (by simp)).below (by simp <;> omega) b)
  clear b
  obtain ⟨p0, p1, p2⟩ := V1.out.three
  obtain ⟨q0, q1, q2⟩ := V2.out.three
  have f0 := Fr.out 0
  have f1 := Fr.out 1
  have f2 := Fr.out 2
  go_wp2_with fail
  refine bodyPost_ret (v := .tuple #[.agg #[.int .i64 W, .int .i64 H, .slice a len cap], .bool true]) (by simp [results, Try.results111, q0, q1, q2, go_sem]) rfl ⟨rfl, ?_⟩
  exact ((B1.out.setCell (by simp <;> omega) _).setCell (by simp <;> omega) _).setCell (by simp <;> omega) _
theorem c_ifValid_no (W H : Int) (a : Option Addr) (len cap : Nat) (zs : List Nat) (w : World) (hr : IsRowF .f32 w a len cap zs) (hv : validB W H zs = false) : Calls Try.prog 111 #[.agg #[.int .i64 W, .int .i64 H, .slice a len cap]] w (RetB (.tuple #[.agg #[.int .i64 0, .int .i64 0, .slice none 0 0], .bool false]) w) := by
  have HR := Lib.hid hr
  have HV := Lib.hid hv
  clear hr hv
  go_enter Try.func111, Try.ntmps111
  go_wp2_with fail
  refine (c_iValid W H a len cap zs _ ((HR.out.alloc _).alloc _)).mono ?_
  rintro _ w1 ⟨rfl, b⟩
  rw [HV.out]
  have V2 := Lib.hid ((Var.new' _ _ _ (w.heap.size + 1) (by simp)).keep b)
  have z1 : w.heap.size + 1 < w1.heap.size := by have := b.size; simp at this; omega
  have B1 := Lib.hid ((((Below.refl w.heap.size w).alloc (Nat.le_refl _) _).alloc (by simp) _).trans (b.mono (by simp; omega)))
  have Fr := Lib.hid ((Free.new' _ _ _ (w.heap.size + 1) (by simp)).below (by simp <;> omega) b)
  clear b
  obtain ⟨q0, q1, q2⟩ := V2.out.three
  have f0 := Fr.out 0
  have f1 := Fr.out 1
  have f2 := Fr.out 2
  go_wp2_with fail
  refine bodyPost_ret (v := .tuple #[.agg #[.int .i64 0, .int .i64 0, .slice none 0 0], .bool false]) (by simp [results, Try.results111, q0, q1, q2, go_sem]) rfl ⟨rfl, ?_⟩
  exact ((B1.out.setCell (by simp <;> omega) _).setCell (by simp <;> omega) _).setCell (by simp <;> omega) _

/-! ### makeEMean -/
theorem c_makeEMean (W H : Int) (cv0 : Value) (F : Nat → Nat → Nat) (w : World) (hlt : ∀ x y, F x y < 2 ^ FloatKind.f32.format.width)
    (hF : ∀ (x y : Nat) (wr : World), (x : Int) < W → (y : Int) < H → W ≤ 16 → H ≤ 16 → Below w.heap.size w wr → Calls Try.prog 86 #[cv0, .int .i64 x, .int .i64 y] wr (fun e w' => ∃ n, e = .returned (.float .f32 (pick .f32 (F x y) n)) ∧ Below wr.heap.size wr w')) :
    Calls Try.prog 117 #[.agg #[.int .i64 W, .int .i64 H], .func (.func 86) #[cv0] #[]] w (RetP 43 (resMake F W H) w) := by
  generalize hw2 : (w.alloc (Obj.cells #[.int .i64 W, .int .i64 H] 105)).alloc (Obj.cells #[.int .i64 0, .int .i64 0, .slice none 0 0] 29) = w2
  have B0 : Below w.heap.size w w2 := by subst hw2; exact ((Below.refl _ _).alloc (Nat.le_refl _) _).alloc (by simp) _
  have VA' : Var w2 w.heap.size #[.int .i64 W, .int .i64 H] := by subst hw2; exact (Var.new _ _ _).alloc _
  have VR := Lib.hid (show Var w2 (w.heap.size + 1) #[.int .i64 0, .int .i64 0, .slice none 0 0] from by subst hw2; exact Var.new' _ _ _ _ (by simp))
  have FR := Lib.hid (show Free w2 (w.heap.size + 1) from by subst hw2; exact Free.new' _ _ _ _ (by simp))
  have BW := Lib.hid B0
  have HW2 := Lib.hid hw2
  have SZ : w2.heap.size = w.heap.size + 1 + 1 := by subst hw2; simp
  have KS := Lib.hid (fun (w' : World) (hE : Below w2.heap.size w2 w') => (⟨(hE.cell (p := ⟨w.heap.size, 0, none⟩) (by show w.heap.size < _; omega)).trans (VA'.2 0 (by simp)), (hE.cell (p := ⟨w.heap.size, 1, none⟩) (by show w.heap.size < _; omega)).trans (VA'.2 1 (by simp))⟩ : w'.cell? ⟨w.heap.size, 0, none⟩ = some (.int .i64 W) ∧ w'.cell? ⟨w.heap.size, 1, none⟩ = some (.int .i64 H)))
  clear B0 VA' hw2
  have HFF := Lib.hid hF
  have HLT := Lib.hid hlt
  clear hF hlt
  unfold resMake
  cases hs : sideB W H
  · rw [if_neg (by decide)]
    have HS := Lib.hid hs
    clear hs
    obtain ⟨d0, d1⟩ := KS.out w2 (Below.refl _ _)
    go_enter Try.func117, Try.ntmps117
    go_wp2_with fail
    rw [HW2.out]
    refine (c_allowed W H _).mono ?_
    rintro _ w3 ⟨rfl, hE⟩
    rw [HS.out]
    have BX := Lib.hid (BW.out.trans (hE.mono (by omega)))
    have VX := Lib.hid (VR.out.keep hE)
    have FX := Lib.hid (FR.out.below (by omega) hE)
    have S2 : w.heap.size + 1 < w3.heap.size := by have := hE.size; omega
    clear hE d0 d1
    obtain ⟨q0, q1, q2⟩ := VX.out.three
    have f0 := FX.out 0
    have f1 := FX.out 1
    have f2 := FX.out 2
    go_wp2_with fail
    refine bodyPost_ret (v := .tuple #[.agg #[.int .i64 0, .int .i64 0, .slice none 0 0], .bool false]) (by simp [results, Try.results117, q0, q1, q2, go_sem]) rfl (show RetP _ PRes.no _ _ _ from ⟨none, 0, rfl, Nat.zero_le _, ((BX.out.setCell (by simp <;> omega) _).setCell (by simp <;> omega) _).setCell (by simp <;> omega) _, Own.nil _ _ _⟩)
  · rw [if_pos rfl]
    obtain ⟨⟨s1, s2⟩, s3, s4⟩ := sideB_true hs
    have HS := Lib.hid hs
    clear hs
    obtain ⟨Wn, rfl⟩ : ∃ n : Nat, W = n := ⟨W.toNat, by omega⟩
    obtain ⟨Hn, rfl⟩ : ∃ n : Nat, H = n := ⟨H.toNat, by omega⟩
    rw [Int.toNat_natCast, Int.toNat_natCast]
    have hN : Wn * Hn ≤ 16 * 16 := Nat.mul_le_mul (by omega) (by omega)
    obtain ⟨N, hNN⟩ : ∃ N, N = Wn * Hn := ⟨_, rfl⟩
    have HN := Lib.hid hNN
    have hN2 : N ≤ 256 := by rw [hNN]; exact hN
    have mw : IntKind.i64.wrap ((Wn : Int) * (Hn : Int)) = (N : Int) := by rw [hNN]; rw [show ((Wn : Int) * (Hn : Int)) = ((Wn * Hn : Nat) : Int) by rw [Int.natCast_mul]]; exact IntWalk.i64_in _ (by omega)
    obtain ⟨L, hL⟩ : ∃ L, L = makeL F Wn Hn := ⟨_, rfl⟩
    have HAt := Lib.hid (fun (x y k : Nat) (hk : k = y * Wn + x) (hx : x < Wn) (hy : y < Hn) => (by rw [hL]; exact makeL_at hk hx hy : fat L k = F x y))
    have HLen := Lib.hid (show L.length = N by rw [hL, makeL_len, hNN])
    rw [← hL]
    clear hNN hN hL
    obtain ⟨i0, hinf, hz0, hz1, hz2⟩ := info_parts infoFo
    obtain ⟨d0, d1⟩ := KS.out w2 (Below.refl _ _)
    go_enter Try.func117, Try.ntmps117
    go_wp2_with fail
    rw [HW2.out]
    refine (c_allowed _ _ _).mono ?_
    rintro _ w3 ⟨rfl, hE⟩
    rw [HS.out]
    have BX := Lib.hid (BW.out.trans (hE.mono (by omega)))
    have VX := Lib.hid (VR.out.keep hE)
    have FX := Lib.hid (FR.out.below (by omega) hE)
    have S2 : w.heap.size + 1 < w3.heap.size := by have := hE.size; omega
    have K3 := Lib.hid (KS.out w3 hE)
    clear hE d0 d1 KS VR FR BW
    have KX := Lib.hid (fun (wr : World) (hB : Below w3.heap.size w3 wr) => (by obtain ⟨d0, d1⟩ := K3.out; exact ⟨(hB.cell (p := ⟨w.heap.size, 0, none⟩) (by show w.heap.size < _; omega)).trans d0, (hB.cell (p := ⟨w.heap.size, 1, none⟩) (by show w.heap.size < _; omega)).trans d1⟩ : wr.cell? ⟨w.heap.size, 0, none⟩ = some (.int .i64 (Wn : Int)) ∧ wr.cell? ⟨w.heap.size, 1, none⟩ = some (.int .i64 (Hn : Int))))
    obtain ⟨d0, d1⟩ := K3.out
    go_wp2_with (at_make; refine wpList_make_own _ rfl _ _ 22 rfl w3.heap.size 43 i0 (.float .f32 0) 1 Try.underlying22 hinf hz0 hz1 _ _ _ N rfl rfl rfl (by rw [hz2]; omega) (by unfold maxLen; omega) (by simp) ?_; intro w4 hown hgrow; have B4 : Below w3.heap.size w3 w4 := (Below.refl _ _).grown hgrow (Nat.le_refl _) (by simp); obtain ⟨g0, g1⟩ := KX.out w4 B4)
    have OW : Own 43 w4 w3.heap.size (some ⟨w3.heap.size, 0, none⟩) 0 N [] := ⟨rfl, hown, by simp⟩
    have HO4 := Lib.hid OW
    have HB4 := Lib.hid B4
    clear hown hgrow B4 OW d0 d1 g0 g1 mw
    go_loopw [6, 7, 8, 21] (fun l _ _ i wr => ∃ (y k : Nat) (a : Option Addr) (c : Nat) (zs : List Nat), y ≤ Hn ∧ k = y * Wn ∧ i = .int .i64 y ∧ l = .slice a k c ∧ Own 43 wr w3.heap.size a k c zs ∧ near zs (L.take k) ∧ Below w3.heap.size w3 wr) (fun _ _ _ i _ => Hn - (intOf i).toNat)
    case atStart => exact ⟨0, 0, _, _, [], Nat.zero_le _, by simp, rfl, rfl, HO4.out, by simpa using near_nil, HB4.out⟩
    case round =>
      obtain ⟨y, k, a, c, zs, hy, hk, rfl, rfl, hO, hnear, hB⟩ := hrel
      have HO := Lib.hid hO
      have HNr := Lib.hid hnear
      have HB := Lib.hid hB
      have HK := Lib.hid hk
      clear hO hnear hB hk
      obtain ⟨d0, d1⟩ := KX.out wr HB.out
      by_cases hly : y < Hn
      · go_wp2_with fail
        clear d0 d1
        go_loopw [6, 8, 26] (fun l _ i wr => ∃ (x k : Nat) (a : Option Addr) (c : Nat) (zs : List Nat), x ≤ Wn ∧ k = y * Wn + x ∧ i = .int .i64 x ∧ l = .slice a k c ∧ Own 43 wr w3.heap.size a k c zs ∧ near zs (L.take k) ∧ Below w3.heap.size w3 wr) (fun _ _ i _ => Wn - (intOf i).toNat)
        case atStart => exact ⟨0, k, a, c, zs, Nat.zero_le _, HK.out, rfl, rfl, HO.out, HNr.out, HB.out⟩
        case round =>
          obtain ⟨x, k2, a2, c2, zs2, hx, hk2, rfl, rfl, hO2, hnear2, hB2⟩ := hrel
          have HO2 := Lib.hid hO2
          have HN2 := Lib.hid hnear2
          have HB2 := Lib.hid hB2
          have HK2 := Lib.hid hk2
          clear hO2 hnear2 hB2 hk2
          by_cases hlx : x < Wn
          · have hk1 : k2 + 1 ≤ N := by rw [HN.out]; exact make_lt HK2.out hlx hly
            go_wp2_with fail
            refine (HFF.out x y _ (by omega) (by omega) (by omega) (by omega) (BX.out.trans (HB2.out.mono (by omega)))).mono ?_
            rintro _ w5 ⟨n5, rfl, b5⟩
            have HO5 := Lib.hid (HO2.out.below b5)
            have HB5 := Lib.hid (HB2.out.trans (b5.mono HB2.out.size))
            have z5 : w3.heap.size ≤ w5.heap.size := HB5.out.size
            clear b5
            go_wp2_with (at_builtin; refine wpList_append_own _ rfl _ _ 22 rfl w3.heap.size 43 i0 (.float .f32 0) 1 4 Try.underlying22 hinf hz0 hz1 hz2 rfl (by decide) _ _ _ rfl ((HO5.out.alloc _).2.1) ⟨w5.heap.size, 0, none⟩ 1 1 [.float .f32 (pick .f32 (F x y) n5)] rfl rfl ?c1 ?c2 ?c3 ?c4 ?c5 ?_)
            case c1 =>
              intro j u hj
              match j, hj with
              | 0, hj => simp at hj; subst hj; simp [Addr.add]
            case c2 => intro u hu; simp at hu; subst hu; rfl
            case c3 => unfold maxLen; omega
            case c4 => omega
            case c5 => simp; omega
            intro v' w6 hown' hgrow _
            have hB6 : Below w3.heap.size w3 w6 := (HB5.out.alloc z5 _).grown hgrow (by simp; omega) (fun g e => by have := HO5.out.in g (by rw [← own_blk _ k2 c2]; exact e); exact this.1)
            obtain ⟨a', c', rfl, hO6⟩ := own_app hown' HO5.out.1 HO5.out.2.2 (pick_wf (HLT.out x y) n5)
            have HO6 := Lib.hid hO6
            have HB6 := Lib.hid hB6
            clear hown' hgrow hB6 hO6
            go_wp2_with fail
            go_roundw
            case rel => exact ⟨x + 1, k2 + 1, a', c', _, by omega, by rw [HK2.out]; omega, by go_num, rfl, HO6.out, by rw [← HAt.out x y k2 HK2.out hlx hly]; exact near_snoc HN2.out (by rw [HLen.out]; omega) n5, HB6.out⟩
            case measure => simp [intOf]; omega
          · obtain rfl : x = Wn := by omega
            go_wp2_with fail
            go_roundw
            case rel => exact ⟨y + 1, k2, a2, c2, zs2, by omega, by rw [HK2.out, Nat.succ_mul], by go_num, rfl, HO2.out, HN2.out, HB2.out⟩
            case measure => simp [intOf]; omega
      · obtain rfl : y = Hn := by omega
        have hkN : k = N := by rw [HK.out, HN.out, Nat.mul_comm]
        subst hkN
        have hz : near zs L := by have h := HNr.out; rwa [List.take_of_length_le (by rw [HLen.out]; exact Nat.le_refl _)] at h
        have HZN := Lib.hid hz
        have VR := Lib.hid (VX.out.keep HB.out)
        have FR := Lib.hid (FX.out.below (by omega) HB.out)
        have BW := Lib.hid (BX.out.trans (HB.out.mono (by omega)))
        have SW : w3.heap.size ≤ wr.heap.size := HB.out.size
        have HVZ := Lib.hid (near_valid (W := (Wn : Int)) (H := (y : Int)) hz)
        have hl0 : zs.length = k := HO.out.1
        have HL0 := Lib.hid hl0
        clear hz hl0
        go_wp2_with fail
        cases hv2 : validB (Wn : Int) (y : Int) L
        · have HG2 := Lib.hid (show giveP (Wn : Int) (y : Int) L = PRes.no from by unfold giveP; rw [hv2]; rfl)
          have HV2 := Lib.hid hv2
          clear hv2
          refine (c_ifValid_no _ _ _ _ _ zs wr HO.out.row (by rw [HVZ.out]; exact HV2.out)).mono ?_
          rintro _ wz ⟨rfl, b⟩
          obtain ⟨cr0, cr1, cr2⟩ := (VR.out.keep b).three
          have fr := FR.out.below (by omega) b
          have f0 := fr 0
          have f1 := fr 1
          have f2 := fr 2
          have hsz := b.size
          have HB2 := Lib.hid (BW.out.trans (b.mono (by omega)))
          clear fr b
          go_wp2_with fail
          refine bodyPost_ret (v := .tuple #[.agg #[.int .i64 0, .int .i64 0, .slice none 0 0], .bool false]) (by simp [results, Try.results117, cr0, cr1, cr2, go_sem]) rfl (by rw [HG2.out]; exact ⟨none, 0, rfl, Nat.zero_le _, ((HB2.out.setCell (by simp <;> omega) _).setCell (by simp <;> omega) _).setCell (by simp <;> omega) _, Own.nil _ _ _⟩)
        · have HG2 := Lib.hid (show giveP (Wn : Int) (y : Int) L = ⟨Wn, y, L, true⟩ from by unfold giveP; rw [hv2]; rfl)
          have hfin := valid_fin hv2
          obtain rfl := near_eq HZN.out hfin
          clear hfin
          have HV2 := Lib.hid hv2
          clear hv2
          refine (c_ifValid_yes _ _ _ _ _ _ wr HO.out.row HV2.out).mono ?_
          rintro _ wz ⟨rfl, b⟩
          obtain ⟨cr0, cr1, cr2⟩ := (VR.out.keep b).three
          have fr := FR.out.below (by omega) b
          have f0 := fr 0
          have f1 := fr 1
          have f2 := fr 2
          have hsz := b.size
          have HB2 := Lib.hid (BW.out.trans (b.mono (by omega)))
          have HO2 := Lib.hid (HO.out.below b)
          clear fr b
          go_wp2_with fail
          have hrow : blk a ≠ some (w.heap.size + 1) := fun e => by have := HO2.out.in _ e; omega
          refine bodyPost_ret (v := .tuple #[.agg #[.int .i64 (Wn : Int), .int .i64 (y : Int), .slice a k c], .bool true]) (by simp [results, Try.results117, cr0, cr1, cr2, go_sem]) rfl (by rw [HG2.out]; exact ⟨_, _, by rw [HL0.out], by (show zs.length ≤ 1048576); rw [HL0.out]; omega, ((HB2.out.setCell (by simp <;> omega) _).setCell (by simp <;> omega) _).setCell (by simp <;> omega) _, (((Own.re HL0.out.symm HO2.out).setCell hrow _).setCell hrow _).setCell hrow _ |>.mono (by omega)⟩)
/-! ### vEMean -/
theorem c_vEMean (Wn Hn : Nat) (a : Option Addr) (cap : Nat) (zs : List Nat) (r : Int) (v n : Nat) (x y : Nat) (w : World) (hr : IsRowF .f32 w a zs.length cap zs) (hW1 : 1 ≤ Wn) (hW2 : Wn ≤ 16) (hH2 : Hn ≤ 16) (hl : zs.length = Wn * Hn) (hx : x < Wn) (hy : y < Hn) (hr0 : 0 ≤ r) (hr8 : r ≤ 8) :
    Calls Try.prog 86 #[.agg #[.int .i64 (Wn : Int), .int .i64 (Hn : Int), .slice a zs.length cap, .int .i64 r, .float .f32 (pick .f32 v n)], .int .i64 (x : Int), .int .i64 (y : Int)] w
      (fun e w' => ∃ n, e = .returned (.float .f32 (pick .f32 (edgeF zs v Wn Hn r x y) n)) ∧ Below w.heap.size w w') := by
  unfold edgeF
  have HN : Wn * Hn ≤ 256 := Nat.le_trans (Nat.mul_le_mul hW2 hH2) (by decide)
  have hlen := winL_len Wn (Wn * Hn) ((x : Int) - r) ((y : Int) - r) ((x : Int) + r) ((y : Int) + r)
  have HLT0 : ∀ k ∈ winL Wn (Wn * Hn) ((x : Int) - r) ((y : Int) - r) ((x : Int) + r) ((y : Int) + r), k < Wn * Hn := fun k h => winL_lt h
  generalize hw0 : w.alloc (Obj.cells #[.int .i64 (Wn : Int), .int .i64 (Hn : Int), .slice a zs.length cap, .int .i64 r, .float .f32 (pick .f32 v n)] 85) = w0
  have VA := Lib.hid (show Var w0 w.heap.size #[.int .i64 (Wn : Int), .int .i64 (Hn : Int), .slice a zs.length cap, .int .i64 r, .float .f32 (pick .f32 v n)] by subst hw0; exact Var.new _ _ _)
  have B0 := Lib.hid (show Below w.heap.size w w0 by subst hw0; exact (Below.refl _ _).alloc (Nat.le_refl _) _)
  have z0 : w0.heap.size = w.heap.size + 1 := by subst hw0; simp
  have HW := Lib.hid hw0
  have R0 := Lib.hid (hr.below B0.out)
  have CR := Lib.hid (c_rowOf Wn Hn a cap zs y w0 (hr.below B0.out) hW1 hW2 hH2 hl hy)
  have CS := Lib.hid (fun (w1 : World) (hB : Below w0.heap.size w0 w1) => c_window Wn Hn a cap zs r x y w1 (R0.out.below hB) hW1 hW2 hH2 hl (by omega) (by omega) hr0 hr8)
  obtain ⟨i, hi⟩ : ∃ i, i = y * Wn + x := ⟨_, rfl⟩
  obtain ⟨hi1, hi2⟩ := row_div hi hx
  have hmb := mul_bound hy hW2 hH2
  have hiN : i < zs.length := by rw [hl, hi]; exact make_lt rfl hx hy
  obtain ⟨N, hN⟩ : ∃ N, N = Wn * Hn := ⟨_, rfl⟩
  rw [← hN] at HN HLT0 CS
  rw [← hi]
  rw [← hN]
  have hlN : zs.length = N := by rw [hl, hN]
  have HI := Lib.hid hi
  have HX1 := Lib.hid hi1
  have HX2 := Lib.hid hi2
  rw [← hN] at hlen
  have HP := Lib.hid (fun (k : Nat) (hk : k < N) => pick_onto .f32 (fat zs k) (lt_of_wf (hr.2.2.2.1 _ (fat_mem (by omega)))))
  clear hr hl hw0 hi hN hlN
  generalize winL Wn N ((x : Int) - r) ((y : Int) - r) ((x : Int) + r) ((y : Int) + r) = idx at *
  have HLT := Lib.hid HLT0
  clear HLT0
  obtain ⟨n2, hn2⟩ : ∃ n, n = idx.length := ⟨_, rfl⟩
  rw [← hn2] at hlen
  have HN2 := Lib.hid hn2
  clear hn2
  have CW := Lib.hid (fun (k n1 n3 : Nat) (hk : k < N) (w : World) => (by
    have h1 : k % Wn < 16 := by have := Nat.mod_lt k (show Wn > 0 by omega); omega
    have h2 : k / Wn < 256 := Nat.lt_of_le_of_lt (Nat.div_le_self _ _) (by omega)
    have h := c_iWeight (Wn : Int) (Hn : Int) a zs.length cap r v n ((k % Wn : Nat) : Int) ((k / Wn : Nat) : Int) (x : Int) (y : Int) (fat zs k) n1 (fat zs i) n3 w (by have h3 := Nat.zero_le (k % Wn); generalize k % Wn = p at *; clear hi1 hi2 h2; omega) (by have h3 := Nat.zero_le (k / Wn); generalize k / Wn = p at *; clear hi1 hi2 h1; omega)
    unfold wtI
    rw [HX1.out, HX2.out]
    exact h : Calls Try.prog 127 #[.agg #[.int .i64 (Wn : Int), .int .i64 (Hn : Int), .slice a zs.length cap, .int .i64 r, .float .f32 (pick .f32 v n)], .agg #[.int .i64 ((k % Wn : Nat) : Int), .int .i64 ((k / Wn : Nat) : Int), .float .f32 (pick .f32 (fat zs k) n1)], .agg #[.int .i64 (x : Int), .int .i64 (y : Int), .float .f32 (pick .f32 (fat zs i) n3)]] w (fun e w' => ∃ m, e = .returned (.float .f32 (pick .f32 (wtI Wn zs v i k) m)) ∧ Below w.heap.size w w')))
  clear hi1 hi2
  unfold edgeV
  obtain ⟨c0, c1, c2, c3, c4⟩ : w0.cell? ⟨w.heap.size, 0, none⟩ = some (.int .i64 (Wn : Int)) ∧ w0.cell? ⟨w.heap.size, 1, none⟩ = some (.int .i64 (Hn : Int)) ∧ w0.cell? ⟨w.heap.size, 2, none⟩ = some (.slice a zs.length cap) ∧ w0.cell? ⟨w.heap.size, 3, none⟩ = some (.int .i64 r) ∧ w0.cell? ⟨w.heap.size, 4, none⟩ = some (.float .f32 (pick .f32 v n)) := ⟨VA.out.2 0 (by simp), VA.out.2 1 (by simp), VA.out.2 2 (by simp), VA.out.2 3 (by simp), VA.out.2 4 (by simp)⟩
  go_enter Try.func86, Try.ntmps86
  go_wp2_with fail
  rw [HW.out]
  refine CR.out.mono ?_
  rintro _ w1 ⟨bb, off, hab, rfl, b1⟩
  have VA1 := Lib.hid (VA.out.keep b1)
  have B1 := Lib.hid (B0.out.trans (b1.mono (by omega)))
  have Bz1 := Lib.hid b1
  have R1 := Lib.hid (R0.out.below b1)
  have z1 : w0.heap.size ≤ w1.heap.size := b1.size
  have HAB := Lib.hid hab
  clear b1 hab c0 c1 c2 c3 c4
  obtain ⟨b2, o2, nl, hab2, hbl2, hcl⟩ := R1.out.at hiN
  have e := HAB.out.symm.trans hab2
  simp only [Option.some.injEq, Addr.mk.injEq, and_true] at e
  obtain ⟨rfl, rfl⟩ := e
  clear hab2
  have hcell : w1.cell? ⟨bb, off + y * Wn + x, none⟩ = some (.float .f32 (pick .f32 (fat zs i) nl)) := by rw [Nat.add_assoc, ← HI.out]; exact hcl
  clear hcl
  have hxi : (x : Int) < (Wn : Int) := by omega
  generalize hw2 : w1.alloc (Obj.cells #[.int .i64 (x : Int), .int .i64 (y : Int), .float .f32 (pick .f32 (fat zs i) nl)] 113) = w2
  have b2 : Below w1.heap.size w1 w2 := by subst hw2; exact (Below.refl _ _).alloc (Nat.le_refl _) _
  have VF := Lib.hid (show Var w2 w1.heap.size #[.int .i64 (x : Int), .int .i64 (y : Int), .float .f32 (pick .f32 (fat zs i) nl)] by subst hw2; exact Var.new _ _ _)
  have VA2 := Lib.hid (VA1.out.keep b2)
  have B2 := Lib.hid (B1.out.trans (b2.mono (by omega)))
  have CSx := Lib.hid (CS.out w2 (Bz1.out.trans (b2.mono (by omega))))
  have z2 : w1.heap.size < w2.heap.size := VF.out.lt
  have HW2 := Lib.hid hw2
  clear b2 hw2
  obtain ⟨c0, c1, c2, c3, c4⟩ : w1.cell? ⟨w.heap.size, 0, none⟩ = some (.int .i64 (Wn : Int)) ∧ w1.cell? ⟨w.heap.size, 1, none⟩ = some (.int .i64 (Hn : Int)) ∧ w1.cell? ⟨w.heap.size, 2, none⟩ = some (.slice a zs.length cap) ∧ w1.cell? ⟨w.heap.size, 3, none⟩ = some (.int .i64 r) ∧ w1.cell? ⟨w.heap.size, 4, none⟩ = some (.float .f32 (pick .f32 v n)) := ⟨VA1.out.2 0 (by simp), VA1.out.2 1 (by simp), VA1.out.2 2 (by simp), VA1.out.2 3 (by simp), VA1.out.2 4 (by simp)⟩
  have zw1 : w.heap.size < w1.heap.size := by omega
  go_wp2_with fail
  rw [HW2.out]
  refine CSx.out.mono ?_
  rintro _ w3 ⟨q, rfl, b3, hs⟩
  have VA3 := Lib.hid (VA2.out.keep b3)
  have VF3 := Lib.hid (VF.out.keep b3)
  have B3 := Lib.hid (B2.out.trans (b3.mono (by omega)))
  have z3 : w2.heap.size ≤ w3.heap.size := b3.size
  have HS2 := Lib.hid hs
  clear b3 hs c0 c1 c2 c3 c4 hcell
  obtain ⟨qa, qc, rfl⟩ := HS2.out.isSlice
  have HS3 : Hid (Spots 113 Wn zs w3 w2.heap.size (.slice qa n2 qc) idx) := by rw [HN2.out]; exact HS2
  rw [← HN2.out]
  clear HS2
  go_wp2_with fail
  go_loopw [8, 9, 30] (fun s8 s9 s30 wr => ∃ j m8 m9 : Nat, j ≤ n2 ∧ s30 = .int .i64 (j : Int) ∧ s8 = .float .f32 (pick .f32 (eL1 Wn zs v i (idx.take j)) m8) ∧ s9 = .float .f32 (pick .f32 (eL2 Wn zs v i (idx.take j)) m9) ∧ Below w3.heap.size w3 wr) (fun _ _ s30 _ => n2 - (intOf s30).toNat)
  case atStart => exact ⟨0, 0, 0, Nat.zero_le _, rfl, by rw [List.take_zero]; exact congrArg _ (pick_not (by decide +kernel) 0).symm, by rw [List.take_zero]; exact congrArg _ (pick_not (by decide +kernel) 0).symm, Below.refl _ _⟩
  case round =>
    obtain ⟨j, m8, m9, hj, rfl, rfl, rfl, hB⟩ := hrel
    by_cases hlt : j < n2
    · obtain ⟨g, c2, e, hg, hc1, hc2, h0, h1, h2⟩ := (HS3.out.below hB).at (j := j) (by rw [← HN2.out]; exact hlt)
      have HT := Lib.hid (take_snoc (idx := idx) (j := j) (by rw [← HN2.out]; exact hlt))
      have hkN : fat idx j < N := HLT.out _ (fat_mem (by rw [← HN2.out]; exact hlt))
      have VAr := Lib.hid (VA3.out.keep hB)
      have VFr := Lib.hid (VF3.out.keep hB)
      have HB := Lib.hid hB
      have hsz := hB.size
      clear hB
      simp only [Value.slice.injEq] at e
      obtain ⟨rfl, e1, rfl⟩ := e
      clear e1
      generalize hk : fat idx j = k at *
      have HK := Lib.hid hk
      clear hk
      obtain ⟨nk, hnk⟩ := HP.out k hkN
      rw [hnk] at h2
      clear hnk
      obtain ⟨c0, c1, c2', c3, c4⟩ : wr.cell? ⟨w.heap.size, 0, none⟩ = some (.int .i64 (Wn : Int)) ∧ wr.cell? ⟨w.heap.size, 1, none⟩ = some (.int .i64 (Hn : Int)) ∧ wr.cell? ⟨w.heap.size, 2, none⟩ = some (.slice a zs.length cap) ∧ wr.cell? ⟨w.heap.size, 3, none⟩ = some (.int .i64 r) ∧ wr.cell? ⟨w.heap.size, 4, none⟩ = some (.float .f32 (pick .f32 v n)) := ⟨VAr.out.2 0 (by simp), VAr.out.2 1 (by simp), VAr.out.2 2 (by simp), VAr.out.2 3 (by simp), VAr.out.2 4 (by simp)⟩
      obtain ⟨f0, f1, f2⟩ := VFr.out.three
      have CWk := (fun w => CW.out k nk nl hkN w)
      generalize hwk : wtI Wn zs v i k = wk at *
      have HWk := Lib.hid hwk
      clear hwk
      generalize k % Wn = kx at *
      generalize k / Wn = ky at *
      have CWh := Lib.hid CWk
      clear CWk
      generalize hw4 : wr.alloc (Obj.cells #[.int .i64 (kx : Int), .int .i64 (ky : Int), .float .f32 (pick .f32 (fat zs k) nk)] 113) = w4
      have HW4 := Lib.hid hw4
      have b4 : Below wr.heap.size wr w4 := by subst hw4; exact (Below.refl _ _).alloc (Nat.le_refl _) _
      have VS4 := Lib.hid (show Var w4 wr.heap.size #[.int .i64 (kx : Int), .int .i64 (ky : Int), .float .f32 (pick .f32 (fat zs k) nk)] by subst hw4; exact Var.new _ _ _)
      have HB4 := Lib.hid (HB.out.trans (b4.mono (by omega)))
      have q4 : wr.heap.size < w4.heap.size := VS4.out.lt
      have q1 : w1.heap.size < wr.heap.size := by omega
      have q2 : w.heap.size < wr.heap.size := by omega
      clear hw4 b4
      go_wp2_with fail
      rw [HW4.out]
      refine (CWh.out w4).mono ?_
      rintro _ w5 ⟨mw, rfl, b5⟩
      have VS5 := Lib.hid (VS4.out.keep b5)
      have HB5 := Lib.hid (HB4.out.trans (b5.mono (by omega)))
      clear b5 c0 c1 c2' c3 c4 f0 f1 f2 h0 h1 h2
      obtain ⟨e0, e1, e2⟩ := VS5.out.three
      go_wp2_with (first | (refine wpList_fop rfl _ _ _ _ _ rfl _ _ _ rfl rfl (by decide) _ ?_; intro _ _) | (refine wpList_fop0 rfl _ _ _ _ _ rfl _ _ _ rfl rfl (by decide) ?_; intro _ _) | (refine upon_fop _ _ _ _ _ (by decide) ?_; intro _ _) | (refine upon_fop0 _ _ _ _ _ (by decide) ?_; intro _ _))
      go_roundw
      case rel => exact ⟨j + 1, _, _, by omega, by go_num, by rw [HT.out, eL1_snoc, HWk.out], by rw [HT.out, eL2_snoc, HWk.out], below_drewN HB5.out _⟩
      case measure => simp [intOf]; omega
    · obtain rfl : j = n2 := by omega
      have HB := Lib.hid (B3.out.trans (hB.mono (by omega)))
      have HT := Lib.hid (show idx.take j = idx from List.take_of_length_le (by rw [← HN2.out]; exact Nat.le_refl _))
      clear hB
      go_wp2_with (first | (refine wpList_fop rfl _ _ _ _ _ rfl _ _ _ rfl rfl (by decide) _ ?_; intro _ _) | (refine wpList_fop0 rfl _ _ _ _ _ rfl _ _ _ rfl rfl (by decide) ?_; intro _ _) | (refine upon_fop _ _ _ _ _ (by decide) ?_; intro _ _) | (refine upon_fop0 _ _ _ _ _ (by decide) ?_; intro _ _))
      go_ret
      exact ⟨_, by rw [HT.out]; rfl, below_drewN HB.out _⟩
/-! ### filteredEMean -/
theorem c_filteredEMean (WA HA : Int) (zA : List Nat) (aA : Option Addr) (cA : Nat) (r : Int) (v n : Nat) (w : World) (rA : IsRowF .f32 w aA zA.length cA zA) :
    Calls Try.prog 71 #[.agg #[.int .i64 WA, .int .i64 HA, .slice aA zA.length cA, .int .i64 r], .func (.func 86) #[.agg #[.int .i64 WA, .int .i64 HA, .slice aA zA.length cA, .int .i64 r, .float .f32 (pick .f32 v n)]] #[]] w (RetP 43 (resFil WA HA zA r (fun Wn Hn x y => edgeF zA v Wn Hn r x y)) w) := by
  generalize hw0 : (w.alloc (Obj.cells #[.int .i64 WA, .int .i64 HA, .slice aA zA.length cA, .int .i64 r] 70)).alloc (Obj.cells #[.int .i64 0, .int .i64 0, .slice none 0 0] 29) = w0
  have X0 : Var w0 w.heap.size #[.int .i64 WA, .int .i64 HA, .slice aA zA.length cA, .int .i64 r] := by subst hw0; exact (Var.new _ _ _).alloc _
  have X1 : Var w0 (w.heap.size + 1) #[.int .i64 0, .int .i64 0, .slice none 0 0] := by subst hw0; exact Var.new' _ _ _ _ (by simp)
  have X2 : Free w0 (w.heap.size + 1) := by subst hw0; exact Free.new' _ _ _ _ (by simp)
  have X3 : Below w.heap.size w w0 := by subst hw0; exact ((Below.refl _ _).alloc (Nat.le_refl _) _).alloc (by simp) _
  have X4 : w0.heap.size = w.heap.size + 1 + 1 := by subst hw0; simp
  have HW := Lib.hid hw0
  have V0 := Lib.hid X0
  have V1 := Lib.hid X1
  have F1 := Lib.hid X2
  have B0 := Lib.hid X3
  have RX := Lib.hid (rA.below X3)
  have CV := Lib.hid (c_iValid WA HA aA _ cA zA w0 (rA.below X3))
  clear hw0 X0 X1 X2 X3 rA
  unfold resFil
  cases hv : validB WA HA zA
  · rw [Bool.false_and, if_neg (by decide)]
    have HS := Lib.hid hv
    clear hv
    obtain ⟨c0, c1, c2, c3⟩ := var_four V0.out
    go_enter Try.func71, Try.ntmps71
    go_wp2_with fail
    rw [HW.out]
    refine CV.out.mono ?_
    rintro _ w1 ⟨rfl, b⟩
    rw [HS.out]
    have VV := Lib.hid (V1.out.keep b)
    have FF := Lib.hid (F1.out.below V1.out.lt b)
    have BB := Lib.hid (B0.out.trans (b.mono (by omega)))
    clear b c0 c1 c2 c3
    obtain ⟨q0, q1, q2⟩ := VV.out.three
    have f0 := FF.out 0
    have f1 := FF.out 1
    have f2 := FF.out 2
    go_wp2_with fail
    refine bodyPost_ret (v := .tuple #[.agg #[.int .i64 0, .int .i64 0, .slice none 0 0], .bool false]) (by simp [results, Try.results71, q0, q1, q2, go_sem]) rfl (show RetP _ PRes.no _ _ _ from ⟨none, 0, rfl, Nat.zero_le _, ((BB.out.setCell (by simp <;> omega) _).setCell (by simp <;> omega) _).setCell (by simp <;> omega) _, Own.nil _ _ _⟩)
  · rw [Bool.true_and]
    have hl1 := (valid_len hv).2.2
    have hlen := (valid_len hv).1
    have hsb : sideB WA HA = true := by have h := hv; simp only [validB, Bool.and_eq_true] at h; exact h.1.1
    obtain ⟨⟨s1, s2⟩, s3, s4⟩ := sideB_true hsb
    by_cases hr1 : 0 ≤ r ∧ r ≤ 8
    · rw [if_pos (by simp only [Bool.and_eq_true, decide_eq_true_eq]; exact hr1)]
      obtain ⟨hra, hrb⟩ := hr1
      obtain ⟨Wn, rfl⟩ : ∃ n : Nat, WA = n := ⟨WA.toNat, by omega⟩
      obtain ⟨Hn, rfl⟩ : ∃ n : Nat, HA = n := ⟨HA.toNat, by omega⟩
      rw [Int.toNat_natCast, Int.toNat_natCast]
      have hln : zA.length = Wn * Hn := by rw [← Int.natCast_mul] at hlen; omega
      have CM := Lib.hid (fun (w1 : World) (hr2 : IsRowF .f32 w1 aA zA.length cA zA) => c_makeEMean (Wn : Int) (Hn : Int) (.agg #[.int .i64 (Wn : Int), .int .i64 (Hn : Int), .slice aA zA.length cA, .int .i64 r, .float .f32 (pick .f32 v n)]) (fun x y => edgeF zA v Wn Hn r x y) w1 (fun x y => fop_lt _ _ _ _) (fun x y wr hx hy hW hH hB => c_vEMean Wn Hn aA cA zA r v n x y wr (hr2.below hB) (by omega) (by omega) (by omega) hln (by omega) (by omega) hra hrb))
      unfold resMake at CM
      rw [hsb, if_pos rfl, Int.toNat_natCast, Int.toNat_natCast] at CM
      have HS := Lib.hid hv
      have d1 : ¬ (r < 0) := by omega
      have d2 : ¬ (r > 8) := by omega
      clear hv hlen hln hsb
      generalize giveP (Wn : Int) (Hn : Int) (makeL (fun x y => edgeF zA v Wn Hn r x y) Wn Hn) = res at *
      obtain ⟨c0, c1, c2, c3⟩ := var_four V0.out
      go_enter Try.func71, Try.ntmps71
      go_wp2_with fail
      rw [HW.out]
      refine CV.out.mono ?_
      rintro _ w1 ⟨rfl, b⟩
      rw [HS.out]
      have UU := Lib.hid (V0.out.keep b)
      have VV := Lib.hid (V1.out.keep b)
      have FF := Lib.hid (F1.out.below V1.out.lt b)
      have BB := Lib.hid (B0.out.trans (b.mono (by omega)))
      have RR := Lib.hid (RX.out.below b)
      have zz : w.heap.size + 1 < w1.heap.size := VV.out.lt
      clear b c0 c1 c2 c3
      obtain ⟨c0, c1, c2, c3⟩ := var_four UU.out
      go_wp2_with fail
      refine (c_sidesOf _ _ _ _).mono ?_
      rintro _ w2 ⟨rfl, b⟩
      have VV2 := Lib.hid (VV.out.keep b)
      have FF2 := Lib.hid (FF.out.below zz b)
      have BB2 := Lib.hid (BB.out.trans (b.mono (by omega)))
      have RR2 := Lib.hid (RR.out.below b)
      have zz2 : w.heap.size + 1 < w2.heap.size := VV2.out.lt
      clear b c0 c1 c2 c3
      go_wp2_with fail
      refine (CM.out w2 RR2.out).mono ?_
      rintro _ w9 ⟨a9, cap9, rfl, hl9, b9, o9⟩
      have V9 := Lib.hid (VV2.out.keep b9)
      have F9 := Lib.hid (FF2.out.below zz2 b9)
      have B9 := Lib.hid (BB2.out.trans (b9.mono (by omega)))
      have z9 : w2.heap.size ≤ w9.heap.size := b9.size
      have O9 := Lib.hid o9
      have HL9 := Lib.hid hl9
      clear b9 o9 hl9 
      obtain ⟨q0, q1, q2⟩ := V9.out.three
      have f0 := F9.out 0
      have f1 := F9.out 1
      have f2 := F9.out 2
      go_wp2_with fail
      have hrow : blk a9 ≠ some (w.heap.size + 1) := fun e => by have := O9.out.in _ e; omega
      refine bodyPost_ret (v := .tuple #[.agg #[.int .i64 res.W, .int .i64 res.H, .slice a9 res.zs.length cap9], .bool res.ok]) (by simp [results, Try.results71, q0, q1, q2, go_sem]) rfl ⟨a9, cap9, rfl, HL9.out, ((B9.out.setCell (by simp <;> omega) _).setCell (by simp <;> omega) _).setCell (by simp <;> omega) _, (((O9.out.setCell hrow _).setCell hrow _).setCell hrow _).mono (by omega)⟩
    · rw [if_neg (by simp only [Bool.and_eq_true, decide_eq_true_eq]; exact hr1)]
      have HS := Lib.hid hv
      clear hv hlen hsb
      have hr2 : r < 0 ∨ 8 < r := by omega
      clear hr1
      obtain ⟨c0, c1, c2, c3⟩ := var_four V0.out
      rcases hr2 with hr2 | hr2
      · go_enter Try.func71, Try.ntmps71
        go_wp2_with fail
        rw [HW.out]
        refine CV.out.mono ?_
        rintro _ w1 ⟨rfl, b⟩
        rw [HS.out]
        have UU := Lib.hid (V0.out.keep b)
        have VV := Lib.hid (V1.out.keep b)
        have FF := Lib.hid (F1.out.below V1.out.lt b)
        have BB := Lib.hid (B0.out.trans (b.mono (by omega)))
        clear b c0 c1 c2 c3
        obtain ⟨c0, c1, c2, c3⟩ := var_four UU.out
        obtain ⟨q0, q1, q2⟩ := VV.out.three
        have f0 := FF.out 0
        have f1 := FF.out 1
        have f2 := FF.out 2
        go_wp2_with fail
        refine bodyPost_ret (v := .tuple #[.agg #[.int .i64 0, .int .i64 0, .slice none 0 0], .bool false]) (by simp [results, Try.results71, q0, q1, q2, go_sem]) rfl (show RetP _ PRes.no _ _ _ from ⟨none, 0, rfl, Nat.zero_le _, ((BB.out.setCell (by simp <;> omega) _).setCell (by simp <;> omega) _).setCell (by simp <;> omega) _, Own.nil _ _ _⟩)
      · have hr3 : ¬ (r < 0) := by omega
        go_enter Try.func71, Try.ntmps71
        go_wp2_with fail
        rw [HW.out]
        refine CV.out.mono ?_
        rintro _ w1 ⟨rfl, b⟩
        rw [HS.out]
        have UU := Lib.hid (V0.out.keep b)
        have VV := Lib.hid (V1.out.keep b)
        have FF := Lib.hid (F1.out.below V1.out.lt b)
        have BB := Lib.hid (B0.out.trans (b.mono (by omega)))
        clear b c0 c1 c2 c3
        obtain ⟨c0, c1, c2, c3⟩ := var_four UU.out
        obtain ⟨q0, q1, q2⟩ := VV.out.three
        have f0 := FF.out 0
        have f1 := FF.out 1
        have f2 := FF.out 2
        go_wp2_with fail
        refine bodyPost_ret (v := .tuple #[.agg #[.int .i64 0, .int .i64 0, .slice none 0 0], .bool false]) (by simp [results, Try.results71, q0, q1, q2, go_sem]) rfl (show RetP _ PRes.no _ _ _ from ⟨none, 0, rfl, Nat.zero_le _, ((BB.out.setCell (by simp <;> omega) _).setCell (by simp <;> omega) _).setCell (by simp <;> omega) _, Own.nil _ _ _⟩)
/-! ### iEdge -/
theorem c_iEdgeFilter (WA HA : Int) (zA : List Nat) (aA : Option Addr) (cA : Nat) (r : Int) (v n : Nat) (w : World) (rA : IsRowF .f32 w aA zA.length cA zA) (hr : (Lit.int .i64 r).wf = true) (hv : v < 2 ^ FloatKind.f32.format.width) : Calls Try.prog 36 #[.agg #[.int .i64 WA, .int .i64 HA, .slice aA zA.length cA], .int .i64 r, .float .f32 (pick .f32 v n)] w (RetP 43 (resEdge WA HA zA r v) w) := by
  generalize hw0 : (w.alloc (Obj.cells #[.int .i64 WA, .int .i64 HA, .slice aA zA.length cA] 29)).alloc (Obj.cells #[.int .i64 0, .int .i64 0, .slice none 0 0] 29) = w0
  have X0 : Var w0 w.heap.size #[.int .i64 WA, .int .i64 HA, .slice aA zA.length cA] := by subst hw0; exact (Var.new _ _ _).alloc _
  have X1 : Var w0 (w.heap.size + 1) #[.int .i64 0, .int .i64 0, .slice none 0 0] := by subst hw0; exact Var.new' _ _ _ _ (by simp)
  have X2 : Free w0 (w.heap.size + 1) := by subst hw0; exact Free.new' _ _ _ _ (by simp)
  have X3 : Below w.heap.size w w0 := by subst hw0; exact ((Below.refl _ _).alloc (Nat.le_refl _) _).alloc (by simp) _
  have X4 : w0.heap.size = w.heap.size + 1 + 1 := by subst hw0; simp
  have HW := Lib.hid hw0
  have V0 := Lib.hid X0
  have V1 := Lib.hid X1
  have F1 := Lib.hid X2
  have B0 := Lib.hid X3
  have RX := Lib.hid (rA.below X3)
  have CE := Lib.hid (fun (w : World) (rA : IsRowF .f32 w aA zA.length cA zA) => c_filteredEMean WA HA zA aA cA r v n w rA)
  have CF := Lib.hid (by have h := c_iIsFinite v n w0 0; rwa [w0.drewN_zero] at h : Calls Try.prog 77 #[.float .f32 (pick .f32 v n)] w0 (RetV (.bool (finB .f32 v)) w0))
  clear hw0 X0 X1 X2 X3 rA
  unfold resEdge
  rw [above_le]
  generalize resFil WA HA zA r (fun Wn Hn x y => edgeF zA v Wn Hn r x y) = res at *
  cases hs : finB .f32 v
  · rw [Bool.false_and, if_neg (by decide)]
    rw [hs] at CF
    clear hs
    go_enter Try.func36, Try.ntmps36
    go_wp2_with fail
    rw [HW.out]
    refine CF.out.mono ?_
    rintro _ _ ⟨m1, rfl, rfl⟩
    have b1 := below_drewN (Below.refl w0.heap.size w0) m1
    have VV := Lib.hid (V1.out.keep b1)
    have FF := Lib.hid (F1.out.below V1.out.lt b1)
    have BB := Lib.hid (B0.out.trans (b1.mono (by omega)))
    clear b1
    generalize World.drewN w0 m1 = w1 at *
    obtain ⟨q0, q1, q2⟩ := VV.out.three
    have f0 := FF.out 0
    have f1 := FF.out 1
    have f2 := FF.out 2
    go_wp2_with fail
    refine bodyPost_ret (v := .tuple #[.agg #[.int .i64 0, .int .i64 0, .slice none 0 0], .bool false]) (by simp [results, Try.results36, q0, q1, q2, go_sem]) rfl (show RetP _ PRes.no _ _ _ from ⟨none, 0, rfl, Nat.zero_le _, ((BB.out.setCell (by simp <;> omega) _).setCell (by simp <;> omega) _).setCell (by simp <;> omega) _, Own.nil _ _ _⟩)
  · rw [Bool.true_and]
    rw [hs] at CF
    clear hs
    cases hle : (FloatKind.f32.format.order v 0 == some .lt || FloatKind.f32.format.order v 0 == some .eq)
    · rw [if_pos (by rfl)]
      have EC1 : ∀ (w : World), w.heap.size < (w.alloc (Obj.cells #[.int .i64 WA, .int .i64 HA, .slice aA zA.length cA, .int .i64 r, .float .f32 (pick .f32 v n)] 85)).heap.size := fun w => by simp
      clear EC1
      go_enter Try.func36, Try.ntmps36
      go_wp2_with fail
      rw [HW.out]
      refine CF.out.mono ?_
      rintro _ _ ⟨m1, rfl, rfl⟩
      have b1 := below_drewN (Below.refl w0.heap.size w0) m1
      have UU := Lib.hid (V0.out.keep b1)
      have VV := Lib.hid (V1.out.keep b1)
      have FF := Lib.hid (F1.out.below V1.out.lt b1)
      have BB := Lib.hid (B0.out.trans (b1.mono (by omega)))
      have RR := Lib.hid (RX.out.below b1)
      have s1 : w0.heap.size ≤ (w0.drewN m1).heap.size := b1.size
      clear b1
      generalize World.drewN w0 m1 = w1 at *
      generalize hw2 : w1.alloc (Obj.cells #[.int .i64 WA, .int .i64 HA, .slice aA zA.length cA, .int .i64 r, .float .f32 (pick .f32 v n)] 85) = w2
      have b2 : Below w1.heap.size w1 w2 := by subst hw2; exact (Below.refl _ _).alloc (Nat.le_refl _) _
      have VE := Lib.hid (show Var w2 w1.heap.size #[.int .i64 WA, .int .i64 HA, .slice aA zA.length cA, .int .i64 r, .float .f32 (pick .f32 v n)] by subst hw2; exact Var.new _ _ _)
      have HW2 := Lib.hid hw2
      have VV2 := Lib.hid (VV.out.keep b2)
      have FF2 := Lib.hid (FF.out.below (by omega) b2)
      have BB2 := Lib.hid (BB.out.trans (b2.mono (by omega)))
      have RR2 := Lib.hid (RR.out.below b2)
      have s2 : w1.heap.size ≤ w2.heap.size := b2.size
      clear b2 hw2
      obtain ⟨u0, u1, u2⟩ := UU.out.three
      go_wp2_with fail
      rw [HW2.out]
      refine (CE.out w2 RR2.out).mono ?_
      rintro _ w9 ⟨a9, cap9, rfl, hl9, b9, o9⟩
      have V9 := Lib.hid (VV2.out.keep b9)
      have F9 := Lib.hid (FF2.out.below (by omega) b9)
      have B9 := Lib.hid (BB2.out.trans (b9.mono (by omega)))
      have z9 : w2.heap.size ≤ w9.heap.size := b9.size
      have O9 := Lib.hid o9
      have HL9 := Lib.hid hl9
      clear b9 o9 hl9 u0 u1 u2
      obtain ⟨q0, q1, q2⟩ := V9.out.three
      have f0 := F9.out 0
      have f1 := F9.out 1
      have f2 := F9.out 2
      go_wp2_with fail
      have hrow : blk a9 ≠ some (w.heap.size + 1) := fun e => by have := O9.out.in _ e; omega
      refine bodyPost_ret (v := .tuple #[.agg #[.int .i64 res.W, .int .i64 res.H, .slice a9 res.zs.length cap9], .bool res.ok]) (by simp [results, Try.results36, q0, q1, q2, go_sem]) rfl ⟨a9, cap9, rfl, HL9.out, ((B9.out.setCell (by simp <;> omega) _).setCell (by simp <;> omega) _).setCell (by simp <;> omega) _, (((O9.out.setCell hrow _).setCell hrow _).setCell hrow _).mono (by omega)⟩
    · rw [if_neg (by decide)]
      go_enter Try.func36, Try.ntmps36
      go_wp2_with fail
      rw [HW.out]
      refine CF.out.mono ?_
      rintro _ _ ⟨m1, rfl, rfl⟩
      have b1 := below_drewN (Below.refl w0.heap.size w0) m1
      have VV := Lib.hid (V1.out.keep b1)
      have FF := Lib.hid (F1.out.below V1.out.lt b1)
      have BB := Lib.hid (B0.out.trans (b1.mono (by omega)))
      clear b1
      generalize World.drewN w0 m1 = w1 at *
      obtain ⟨q0, q1, q2⟩ := VV.out.three
      have f0 := FF.out 0
      have f1 := FF.out 1
      have f2 := FF.out 2
      go_wp2_with fail
      refine bodyPost_ret (v := .tuple #[.agg #[.int .i64 0, .int .i64 0, .slice none 0 0], .bool false]) (by simp [results, Try.results36, q0, q1, q2, go_sem]) rfl (show RetP _ PRes.no _ _ _ from ⟨none, 0, rfl, Nat.zero_le _, ((BB.out.setCell (by simp <;> omega) _).setCell (by simp <;> omega) _).setCell (by simp <;> omega) _, Own.nil _ _ _⟩)
/-! ### lawEdge -/

/-! ### FnExactEdgeFilter -/
set_option maxHeartbeats 8000000 in
theorem walkG (WP HP : Int) (zP : List Nat) (aP : Option Addr) (cP : Nat) (xR : Int) (vN nN : Nat) (w : World) (r : PRes) (cS : ∀ (aP : Option Addr) (cP : Nat) (w : World), IsRowF .f32 w aP zP.length cP zP → Calls Try.prog 35 #[.agg #[.int .i64 WP, .int .i64 HP, .slice aP zP.length cP], .int .i64 xR, .float .f32 (pick .f32 vN nN)] w (RetP 43 r w)) (cI : ∀ (aP : Option Addr) (cP : Nat) (w : World), IsRowF .f32 w aP zP.length cP zP → Calls Try.prog 36 #[.agg #[.int .i64 WP, .int .i64 HP, .slice aP zP.length cP], .int .i64 xR, .float .f32 (pick .f32 vN nN)] w (RetP 43 r w)) (rP : IsRowF .f32 w aP zP.length cP zP) (hl : zP.length ≤ 1048576) : Calls Try.prog 8 #[.agg #[.int .i64 WP, .int .i64 HP, .slice aP zP.length cP], .int .i64 xR, .float .f32 (pick .f32 vN nN)] w fun e w' => e = .returned (.bool true) ∧ Below w.heap.size w w' := by
  have CS := Lib.hid cS
  have CI := Lib.hid cI
  clear cS cI
  have RP := Lib.hid rP
  clear rP
  go_enter Try.func8, Try.ntmps8
  go_wp2_with fail
  refine (c_szP WP HP aP zP.length cP (1048576 : Int) _ (by omega) (by omega)).mono ?_
  rintro _ w1 ⟨rfl, b⟩
  have VpP_1 := Lib.hid ((Var.new' _ _ _ (w.heap.size) (by first | rfl | simp)).keep b)
  have B_1 := Lib.hid (((Below.refl w.heap.size w).alloc (Nat.le_refl _) _).trans (b.mono (by simp)))
  have S_1 : w.heap.size + 1 ≤ w1.heap.size := by have := b.size; simp at this; omega
  have zpP_1 : w.heap.size < w1.heap.size := by omega
  clear b
  have hzP : ¬ (((1048576 : Int) - (zP.length : Int)) < 0) := by omega
  obtain ⟨cpP0, cpP1, cpP2⟩ := VpP_1.out.three
  go_wp2_with fail
  clear cpP0 cpP1 cpP2
  refine (c_toP WP HP aP zP.length cP zP _ (RP.out.below B_1.out) (by omega)).mono ?_
  rintro _ w2 ⟨gt, rfl, b, o⟩
  have Lt := Lib.hid o.in
  have Ot_2 := Lib.hid o
  clear o
  have VpP_2 := Lib.hid (VpP_1.out.keep b)
  have B_2 := Lib.hid (B_1.out.trans (b.mono (by omega)))
  have S_2 : w1.heap.size + 0 ≤ w2.heap.size := by have := b.size; omega
  have zpP_2 : w.heap.size < w2.heap.size := by omega
  clear b
  clear VpP_1 zpP_1 B_1
  go_wp2_with fail
  refine (CS.out _ _ _ Ot_2.out.row).mono ?_
  rintro _ w3 ⟨au, cu, rfl, hrl, b, o⟩
  have Lu := Lib.hid o.in
  have Ou_3 := Lib.hid o
  clear o
  have VpP_3 := Lib.hid (VpP_2.out.keep b)
  have Ot_3 := Lib.hid (Ot_2.out.below b)
  have B_3 := Lib.hid (B_2.out.trans (b.mono (by omega)))
  have S_3 : w2.heap.size + 0 ≤ w3.heap.size := by have := b.size; omega
  have zpP_3 : w.heap.size < w3.heap.size := by omega
  clear b
  clear VpP_2 zpP_2 Ot_2 B_2
  clear Ot_3 Lt
  obtain ⟨cpP0, cpP1, cpP2⟩ := VpP_3.out.three
  go_wp2_with fail
  clear cpP0 cpP1 cpP2
  refine (c_toP WP HP aP zP.length cP zP _ ((RP.out.below B_3.out).alloc _) (by omega)).mono ?_
  rintro _ w4 ⟨gxP, rfl, b, o⟩
  have LxP := Lib.hid o.in
  have LxP := Lib.hid (by have h := LxP.out; simp only [World.size_alloc] at h; exact h)
  have OxP_4 := Lib.hid o
  clear o
  have VpP_4 := Lib.hid ((VpP_3.out.alloc _).keep b)
  have Vu_4 := Lib.hid ((Var.new' _ _ _ (w3.heap.size) (by first | rfl | simp)).keep b)
  have Ou_4 := Lib.hid ((Ou_3.out.alloc _).below b)
  have B_4 := Lib.hid ((B_3.out.alloc (by omega) _).trans (b.mono (by simp; omega)))
  have S_4 : w3.heap.size + 1 ≤ w4.heap.size := by have := b.size; simp at this; omega
  have zpP_4 : w.heap.size < w4.heap.size := by omega
  have zu_4 : w3.heap.size < w4.heap.size := by omega
  clear b
  clear VpP_3 zpP_3 Ou_3 B_3
  go_wp2_with fail
  refine (CI.out _ _ _ (OxP_4.out.alloc _).row).mono ?_
  rintro _ w5 ⟨ag, cg, rfl, hrl, b, o⟩
  clear hrl
  have Lg := Lib.hid o.in
  have Lg := Lib.hid (by have h := Lg.out; simp only [World.size_alloc] at h; exact h)
  have Og_5 := Lib.hid o
  clear o
  have VpP_5 := Lib.hid ((VpP_4.out.alloc _).keep b)
  have Vu_5 := Lib.hid ((Vu_4.out.alloc _).keep b)
  have VxP_5 := Lib.hid ((Var.new' _ _ _ (w4.heap.size) (by first | rfl | simp)).keep b)
  have Ou_5 := Lib.hid ((Ou_4.out.alloc _).below b)
  have OxP_5 := Lib.hid ((OxP_4.out.alloc _).below b)
  have B_5 := Lib.hid ((B_4.out.alloc (by omega) _).trans (b.mono (by simp; omega)))
  have S_5 : w4.heap.size + 1 ≤ w5.heap.size := by have := b.size; simp at this; omega
  have zpP_5 : w.heap.size < w5.heap.size := by omega
  have zu_5 : w3.heap.size < w5.heap.size := by omega
  have zxP_5 : w4.heap.size < w5.heap.size := by omega
  clear b
  clear VpP_4 zpP_4 Vu_4 zu_4 Ou_4 OxP_4 B_4
  obtain ⟨cu0, cu1, cu2⟩ := Vu_5.out.three
  go_wp2_with fail
  clear cu0 cu1 cu2
  refine (c_eqP _ _ _ _ _ _ _ _ _ (Og_5.out.alloc _).row (Ou_5.out.alloc _).row).mono ?_
  rintro _ w6 ⟨rfl, b⟩
  have VpP_6 := Lib.hid ((VpP_5.out.alloc _).keep b)
  have Vu_6 := Lib.hid ((Vu_5.out.alloc _).keep b)
  have VxP_6 := Lib.hid ((VxP_5.out.alloc _).keep b)
  have Vg_6 := Lib.hid ((Var.new' _ _ _ (w5.heap.size) (by first | rfl | simp)).keep b)
  have Ou_6 := Lib.hid ((Ou_5.out.alloc _).below b)
  have OxP_6 := Lib.hid ((OxP_5.out.alloc _).below b)
  have Og_6 := Lib.hid ((Og_5.out.alloc _).below b)
  have B_6 := Lib.hid ((B_5.out.alloc (by omega) _).trans (b.mono (by simp; omega)))
  have S_6 : w5.heap.size + 1 ≤ w6.heap.size := by have := b.size; simp at this; omega
  have zpP_6 : w.heap.size < w6.heap.size := by omega
  have zu_6 : w3.heap.size < w6.heap.size := by omega
  have zxP_6 : w4.heap.size < w6.heap.size := by omega
  have zg_6 : w5.heap.size < w6.heap.size := by omega
  clear b
  clear VpP_5 zpP_5 Vu_5 zu_5 VxP_5 zxP_5 Ou_5 OxP_5 Og_5 B_5
  obtain ⟨cpP0, cpP1, cpP2⟩ := VpP_6.out.three
  obtain ⟨cxP0, cxP1, cxP2⟩ := VxP_6.out.three
  go_wp2_with fail
  have D : Below w6.heap.size w6 w6.drew := (Below.refl _ _).drew
  have RD := Lib.hid ((RP.out.below B_6.out).below D)
  have XD := Lib.hid (OxP_6.out.below D)
  have HD := Lib.hid D
  clear D
  go_region_held3 (fun w' => w'.cell? ⟨w.heap.size, 0, none⟩ = some (.int .i64 WP) ∧ w'.cell? ⟨w.heap.size, 1, none⟩ = some (.int .i64 HP) ∧ w'.cell? ⟨w.heap.size, 2, none⟩ = some (.slice aP zP.length cP) ∧ w'.cell? ⟨w4.heap.size, 0, none⟩ = some (.int .i64 WP) ∧ w'.cell? ⟨w4.heap.size, 1, none⟩ = some (.int .i64 HP) ∧ w'.cell? ⟨w4.heap.size, 2, none⟩ = some (.slice (some ⟨gxP, 0, none⟩) zP.length zP.length)) (first | exact ⟨cpP0, cpP1, cpP2, cxP0, cxP1, cxP2⟩ | (have e1 := ((VpP_6.out.keep HD.out).keep b7).three; have e2 := ((VxP_6.out.keep HD.out).keep b7).three; exact ⟨e1.1, e1.2.1, e1.2.2, e2.1, e2.2.1, e2.2.2⟩) | (have e1 := (((VpP_6.out.keep HD.out).keep b7).keep b8).three; have e2 := (((VxP_6.out.keep HD.out).keep b7).keep b8).three; exact ⟨e1.1, e1.2.1, e1.2.2, e2.1, e2.2.1, e2.2.2⟩)) (first | (go_at_call 17; refine (c_toP WP HP aP zP.length cP zP _ RD.out (by omega)).mono ?_; rintro _ wt ⟨g7, rfl, b7, o7⟩) | (go_at_call 20; refine (c_eqP _ _ _ _ _ _ _ _ _ (XD.out.below b7).row o7.row).mono ?_; rintro _ w7 ⟨rfl, b8⟩))
  have b := HD.out.trans (b7.trans (b8.mono b7.size))
  clear RD XD HD b7 b8 o7
  clear cpP0 cpP1 cpP2 cxP0 cxP1 cxP2
  have VpP_7 := Lib.hid (VpP_6.out.keep b)
  have Vu_7 := Lib.hid (Vu_6.out.keep b)
  have VxP_7 := Lib.hid (VxP_6.out.keep b)
  have Vg_7 := Lib.hid (Vg_6.out.keep b)
  have Ou_7 := Lib.hid (Ou_6.out.below b)
  have OxP_7 := Lib.hid (OxP_6.out.below b)
  have Og_7 := Lib.hid (Og_6.out.below b)
  have B_7 := Lib.hid (B_6.out.trans (b.mono (by omega)))
  have S_7 : w6.heap.size + 0 ≤ w7.heap.size := by have := b.size; omega
  have zpP_7 : w.heap.size < w7.heap.size := by omega
  have zu_7 : w3.heap.size < w7.heap.size := by omega
  have zxP_7 : w4.heap.size < w7.heap.size := by omega
  have zg_7 : w5.heap.size < w7.heap.size := by omega
  clear b
  clear VpP_6 zpP_6 Vu_6 zu_6 VxP_6 zxP_6 Vg_6 zg_6 Ou_6 OxP_6 Og_6 B_6
  obtain ⟨cxP0, cxP1, cxP2⟩ := VxP_7.out.three
  go_wp2_with fail
  clear cxP0 cxP1 cxP2
  refine (c_markP _ _ _ _ _ _ 1 _ _ OxP_7.out (by omega)).mono ?_
  rintro _ w8 ⟨rfl, b, o⟩
  have On := Lib.hid o
  clear o
  have VpP_8 := Lib.hid (VpP_7.out.kept b (by intro e; have := LxP.out _ e.symm; omega))
  have Vu_8 := Lib.hid (Vu_7.out.kept b (by intro e; have := LxP.out _ e.symm; omega))
  have VxP_8 := Lib.hid (VxP_7.out.kept b (by intro e; have := LxP.out _ e.symm; omega))
  have Vg_8 := Lib.hid (Vg_7.out.kept b (by intro e; have := LxP.out _ e.symm; omega))
  have Ou_8 := Lib.hid (Ou_7.out.kept b (blk_apart Lu.out LxP.out (by omega)))
  have Og_8 := Lib.hid (Og_7.out.kept b (blk_apart Lg.out LxP.out (by omega)))
  have B_8 := Lib.hid (B_7.out.grown b (by omega) (fun k e => by have := LxP.out k e; omega))
  have S_8 : w7.heap.size ≤ w8.heap.size := b.size
  have zpP_8 : w.heap.size < w8.heap.size := by omega
  have zu_8 : w3.heap.size < w8.heap.size := by omega
  have zxP_8 : w4.heap.size < w8.heap.size := by omega
  have zg_8 : w5.heap.size < w8.heap.size := by omega
  clear b
  clear VpP_7 zpP_7 Vu_7 zu_7 VxP_7 zxP_7 Vg_7 zg_7 Ou_7 OxP_7 Og_7 B_7
  have OxP_8 := Lib.hid On.out
  clear On
  have hk : ¬ ((((1 + zP.length) : Nat) : Int) < 0) := by omega
  clear OxP_8 LxP
  obtain ⟨cg0, cg1, cg2⟩ := Vg_8.out.three
  obtain ⟨cu0, cu1, cu2⟩ := Vu_8.out.three
  go_wp2_with fail
  clear cg0 cg1 cg2 cu0 cu1 cu2
  refine (c_eqP _ _ _ _ _ _ _ _ _ Og_8.out.row Ou_8.out.row).mono ?_
  rintro _ w9 ⟨rfl, b⟩
  have VpP_9 := Lib.hid (VpP_8.out.keep b)
  have Vu_9 := Lib.hid (Vu_8.out.keep b)
  have VxP_9 := Lib.hid (VxP_8.out.keep b)
  have Vg_9 := Lib.hid (Vg_8.out.keep b)
  have Ou_9 := Lib.hid (Ou_8.out.below b)
  have Og_9 := Lib.hid (Og_8.out.below b)
  have B_9 := Lib.hid (B_8.out.trans (b.mono (by omega)))
  have S_9 : w8.heap.size + 0 ≤ w9.heap.size := by have := b.size; omega
  have zpP_9 : w.heap.size < w9.heap.size := by omega
  have zu_9 : w3.heap.size < w9.heap.size := by omega
  have zxP_9 : w4.heap.size < w9.heap.size := by omega
  have zg_9 : w5.heap.size < w9.heap.size := by omega
  clear b
  clear VpP_8 zpP_8 Vu_8 zu_8 VxP_8 zxP_8 Vg_8 zg_8 Ou_8 Og_8 B_8
  obtain ⟨cg0, cg1, cg2⟩ := Vg_9.out.three
  go_wp2_with fail
  clear cg0 cg1 cg2
  refine (c_markP _ _ _ _ _ _ 1 _ _ Og_9.out (by omega)).mono ?_
  rintro _ w10 ⟨rfl, b, o⟩
  have On := Lib.hid o
  clear o
  have VpP_10 := Lib.hid (VpP_9.out.kept b (by intro e; have := Lg.out _ e.symm; omega))
  have Vu_10 := Lib.hid (Vu_9.out.kept b (by intro e; have := Lg.out _ e.symm; omega))
  have VxP_10 := Lib.hid (VxP_9.out.kept b (by intro e; have := Lg.out _ e.symm; omega))
  have Vg_10 := Lib.hid (Vg_9.out.kept b (by intro e; have := Lg.out _ e.symm; omega))
  have Ou_10 := Lib.hid (Ou_9.out.kept b (blk_apart Lu.out Lg.out (by omega)))
  have B_10 := Lib.hid (B_9.out.grown b (by omega) (fun k e => by have := Lg.out k e; omega))
  have S_10 : w9.heap.size ≤ w10.heap.size := b.size
  have zpP_10 : w.heap.size < w10.heap.size := by omega
  have zu_10 : w3.heap.size < w10.heap.size := by omega
  have zxP_10 : w4.heap.size < w10.heap.size := by omega
  have zg_10 : w5.heap.size < w10.heap.size := by omega
  clear b
  clear VpP_9 zpP_9 Vu_9 zu_9 VxP_9 zxP_9 Vg_9 zg_9 Ou_9 Og_9 B_9
  have Og_10 := Lib.hid On.out
  clear On
  obtain ⟨cg0, cg1, cg2⟩ := Vg_10.out.three
  go_wp2_with fail
  clear cg0 cg1 cg2
  refine (c_heldP _ _ _ _ _ 1 _ Og_10.out.row (by omega)).mono ?_
  rintro _ w11 ⟨rfl, b⟩
  have VpP_11 := Lib.hid (VpP_10.out.keep b)
  have Vu_11 := Lib.hid (Vu_10.out.keep b)
  have VxP_11 := Lib.hid (VxP_10.out.keep b)
  have Vg_11 := Lib.hid (Vg_10.out.keep b)
  have Ou_11 := Lib.hid (Ou_10.out.below b)
  have Og_11 := Lib.hid (Og_10.out.below b)
  have B_11 := Lib.hid (B_10.out.trans (b.mono (by omega)))
  have S_11 : w10.heap.size + 0 ≤ w11.heap.size := by have := b.size; omega
  have zpP_11 : w.heap.size < w11.heap.size := by omega
  have zu_11 : w3.heap.size < w11.heap.size := by omega
  have zxP_11 : w4.heap.size < w11.heap.size := by omega
  have zg_11 : w5.heap.size < w11.heap.size := by omega
  clear b
  clear VpP_10 zpP_10 Vu_10 zu_10 VxP_10 zxP_10 Vg_10 zg_10 Ou_10 Og_10 B_10
  have hq : ¬ (((1 + r.zs.length : Nat) : Int) < 0) := by omega
  obtain ⟨cpP0, cpP1, cpP2⟩ := VpP_11.out.three
  go_wp2_with fail
  clear cpP0 cpP1 cpP2
  refine (c_toP WP HP aP zP.length cP zP _ (RP.out.below B_11.out) (by omega)).mono ?_
  rintro _ w12 ⟨gt, rfl, b, o⟩
  have Lt := Lib.hid o.in
  have Ot_12 := Lib.hid o
  clear o
  have VpP_12 := Lib.hid (VpP_11.out.keep b)
  have Vu_12 := Lib.hid (Vu_11.out.keep b)
  have VxP_12 := Lib.hid (VxP_11.out.keep b)
  have Vg_12 := Lib.hid (Vg_11.out.keep b)
  have Ou_12 := Lib.hid (Ou_11.out.below b)
  have Og_12 := Lib.hid (Og_11.out.below b)
  have B_12 := Lib.hid (B_11.out.trans (b.mono (by omega)))
  have S_12 : w11.heap.size + 0 ≤ w12.heap.size := by have := b.size; omega
  have zpP_12 : w.heap.size < w12.heap.size := by omega
  have zu_12 : w3.heap.size < w12.heap.size := by omega
  have zxP_12 : w4.heap.size < w12.heap.size := by omega
  have zg_12 : w5.heap.size < w12.heap.size := by omega
  clear b
  clear VpP_11 zpP_11 Vu_11 zu_11 VxP_11 zxP_11 Vg_11 zg_11 Ou_11 Og_11 B_11
  go_wp2_with fail
  refine (CI.out _ _ _ Ot_12.out.row).mono ?_
  rintro _ w13 ⟨ah, ch, rfl, hrl, b, o⟩
  clear hrl
  have Lh := Lib.hid o.in
  have Oh_13 := Lib.hid o
  clear o
  have VpP_13 := Lib.hid (VpP_12.out.keep b)
  have Vu_13 := Lib.hid (Vu_12.out.keep b)
  have VxP_13 := Lib.hid (VxP_12.out.keep b)
  have Vg_13 := Lib.hid (Vg_12.out.keep b)
  have Ou_13 := Lib.hid (Ou_12.out.below b)
  have Og_13 := Lib.hid (Og_12.out.below b)
  have Ot_13 := Lib.hid (Ot_12.out.below b)
  have B_13 := Lib.hid (B_12.out.trans (b.mono (by omega)))
  have S_13 : w12.heap.size + 0 ≤ w13.heap.size := by have := b.size; omega
  have zpP_13 : w.heap.size < w13.heap.size := by omega
  have zu_13 : w3.heap.size < w13.heap.size := by omega
  have zxP_13 : w4.heap.size < w13.heap.size := by omega
  have zg_13 : w5.heap.size < w13.heap.size := by omega
  clear b
  clear VpP_12 zpP_12 Vu_12 zu_12 VxP_12 zxP_12 Vg_12 zg_12 Ou_12 Og_12 Ot_12 B_12
  clear Ot_13 Lt
  obtain ⟨cu0, cu1, cu2⟩ := Vu_13.out.three
  go_wp2_with fail
  clear cu0 cu1 cu2
  refine (c_eqP _ _ _ _ _ _ _ _ _ (Oh_13.out.alloc _).row (Ou_13.out.alloc _).row).mono ?_
  rintro _ w14 ⟨rfl, b⟩
  have VpP_14 := Lib.hid ((VpP_13.out.alloc _).keep b)
  have Vu_14 := Lib.hid ((Vu_13.out.alloc _).keep b)
  have VxP_14 := Lib.hid ((VxP_13.out.alloc _).keep b)
  have Vg_14 := Lib.hid ((Vg_13.out.alloc _).keep b)
  have Vh_14 := Lib.hid ((Var.new' _ _ _ (w13.heap.size) (by first | rfl | simp)).keep b)
  have Ou_14 := Lib.hid ((Ou_13.out.alloc _).below b)
  have Og_14 := Lib.hid ((Og_13.out.alloc _).below b)
  have Oh_14 := Lib.hid ((Oh_13.out.alloc _).below b)
  have B_14 := Lib.hid ((B_13.out.alloc (by omega) _).trans (b.mono (by simp; omega)))
  have S_14 : w13.heap.size + 1 ≤ w14.heap.size := by have := b.size; simp at this; omega
  have zpP_14 : w.heap.size < w14.heap.size := by omega
  have zu_14 : w3.heap.size < w14.heap.size := by omega
  have zxP_14 : w4.heap.size < w14.heap.size := by omega
  have zg_14 : w5.heap.size < w14.heap.size := by omega
  have zh_14 : w13.heap.size < w14.heap.size := by omega
  clear b
  clear VpP_13 zpP_13 Vu_13 zu_13 VxP_13 zxP_13 Vg_13 zg_13 Ou_13 Og_13 Oh_13 B_13
  obtain ⟨cg0, cg1, cg2⟩ := Vg_14.out.three
  go_wp2_with fail
  clear cg0 cg1 cg2
  refine (c_heldP _ _ _ _ _ 1 _ Og_14.out.row (by omega)).mono ?_
  rintro _ w15 ⟨rfl, b⟩
  have VpP_15 := Lib.hid (VpP_14.out.keep b)
  have Vu_15 := Lib.hid (Vu_14.out.keep b)
  have VxP_15 := Lib.hid (VxP_14.out.keep b)
  have Vg_15 := Lib.hid (Vg_14.out.keep b)
  have Vh_15 := Lib.hid (Vh_14.out.keep b)
  have Ou_15 := Lib.hid (Ou_14.out.below b)
  have Og_15 := Lib.hid (Og_14.out.below b)
  have Oh_15 := Lib.hid (Oh_14.out.below b)
  have B_15 := Lib.hid (B_14.out.trans (b.mono (by omega)))
  have S_15 : w14.heap.size + 0 ≤ w15.heap.size := by have := b.size; omega
  have zpP_15 : w.heap.size < w15.heap.size := by omega
  have zu_15 : w3.heap.size < w15.heap.size := by omega
  have zxP_15 : w4.heap.size < w15.heap.size := by omega
  have zg_15 : w5.heap.size < w15.heap.size := by omega
  have zh_15 : w13.heap.size < w15.heap.size := by omega
  clear b
  clear VpP_14 zpP_14 Vu_14 zu_14 VxP_14 zxP_14 Vg_14 zg_14 Vh_14 zh_14 Ou_14 Og_14 Oh_14 B_14
  go_wp2_with fail
  go_ret
  exact ⟨rfl, B_15.out⟩
theorem walkL0 (WP HP : Int) (zP : List Nat) (aP : Option Addr) (cP : Nat) (xR : Int) (vN nN : Nat) (w : World) (rP : IsRowF .f32 w aP zP.length cP zP)  (hm : zP.length ≤ maxLen) (hl : 1048576 < zP.length) : Calls Try.prog 8 #[.agg #[.int .i64 WP, .int .i64 HP, .slice aP zP.length cP], .int .i64 xR, .float .f32 (pick .f32 vN nN)] w fun e w' => e = .returned (.bool true) ∧ Below w.heap.size w w' := by
  unfold maxLen at hm
  have RP := Lib.hid rP
  clear rP
  go_enter Try.func8, Try.ntmps8
  go_wp2_with fail
  refine (c_szP_no WP HP aP zP.length cP (1048576 : Int) _ (by omega) (by omega)).mono ?_
  rintro _ w1 ⟨rfl, b⟩
  have VpP_1 := Lib.hid ((Var.new' _ _ _ (w.heap.size) (by first | rfl | simp)).keep b)
  have B_1 := Lib.hid (((Below.refl w.heap.size w).alloc (Nat.le_refl _) _).trans (b.mono (by simp)))
  have S_1 : w.heap.size + 1 ≤ w1.heap.size := by have := b.size; simp at this; omega
  have zpP_1 : w.heap.size < w1.heap.size := by omega
  clear b
  go_wp2_with fail
  go_ret
  exact ⟨rfl, B_1.out⟩
theorem walk (WP HP : Int) (zP : List Nat) (aP : Option Addr) (cP : Nat) (xR : Int) (vN nN : Nat) (w : World) (rP : IsRowF .f32 w aP zP.length cP zP) (hR : (Lit.int .i64 xR).wf = true) (hN : vN < 2 ^ FloatKind.f32.format.width) : Calls Try.prog 8 #[.agg #[.int .i64 WP, .int .i64 HP, .slice aP zP.length cP], .int .i64 xR, .float .f32 (pick .f32 vN nN)] w fun e w' => e = .returned (.bool true) ∧ Below w.heap.size w w' := by
  have mP : zP.length ≤ maxLen := Nat.le_trans rP.2.1 rP.2.2.1
  by_cases g0 : 1048576 < zP.length
  · exact walkL0 WP HP zP aP cP xR vN nN w rP  mP g0
  exact walkG WP HP zP aP cP xR vN nN w (resEdge WP HP zP xR vN) (fun aP cP w rP => c_sEdgeFilter WP HP zP aP cP xR vN nN w rP hR hN) (fun aP cP w rP => c_iEdgeFilter WP HP zP aP cP xR vN nN w rP hR hN) rP (by omega)
theorem own : ownKnob Try.prog.godebug = none := by kernel_rfl
theorem laidOut : laidOutB Try.prog = true := by kernel_rfl
set_option maxRecDepth 100000 in
theorem lifted (os : Os) (started : os.Started) (H : Type) (enc : TypeId × Value → H) :
    ReturnsInHanded {} Try.checked os 8 .any (Rows.fnExactEdgeFilterSpec.pre6 enc Try.prog Try.f8 Rows.fnExactEdgeFilterRow.domain false) (Rows.fnExactEdgeFilterSpec.post enc Try.prog Try.f8 false true false false) := by
  refine returnsInHanded_of_change (C := Try.checked) own started (by kernel_rfl) Try.func8
    (ChangeSpec.witness6 (enc := enc) (C := Try.checked) false ⟨#[], #[.agg #[.int .i64 0, .int .i64 0, .slice none 0 0], .int .i64 0, .float .f32 0], []⟩ 8 (by kernel_rfl) (by kernel_rfl) (by kernel_rfl) (by kernel_rfl)) ?_
  intro W base args ds gs before hval0 hW hcnd _
  have hval : ∀ (j : Nat) t v, Try.f8.params[j]? = some t → args[j]? = some v → Value.okWide Try.prog W .any base t v := hval0
  have hW' := hW
  obtain ⟨p, q, hA0, hV, rfl, hfz, hnd⟩ := hW
  have hA : DataW.TrodAll enc Try.prog W 0 (fun _ => true) true Try.f8.params.toList args.toList ds p := hA0
  rw [Try.params8] at hA hval
  obtain ⟨v0, vs0, d0, ds0, p0, q0, hargs, rfl, rfl, h0, r0⟩ := trodAll_cons hA
  obtain ⟨v1, vs1, d1, ds1, p1, q1, rfl, rfl, rfl, h1, r1⟩ := trodAll_cons r0
  obtain ⟨v2, vs2, d2, ds2, p2, q2, rfl, rfl, rfl, h2, r2⟩ := trodAll_cons r1
  obtain ⟨rfl, rfl, rfl⟩ := trodAll_nil r2
  obtain rfl : args = #[v0, v1, v2] := by cases args; simp_all
  obtain ⟨rfl, rfl⟩ := trodVars_none hV
  have k0 := h0
  have lt0 : ∀ x ∈ p0, x.block < W.heap.size := by obtain ⟨m, hm⟩ := k0; exact DataW.trod_lt m _ _ _ hm
  obtain ⟨W0, H0, z0, a0, c0, rfl, wW0, wH0, w0⟩ := open_pic Try.underlying24 (by kernel_rfl) (by kernel_rfl) Try.underlying2 Try.underlying2 Try.underlying22 Try.underlying43 (by kernel_rfl) (hval 0 24 v0 rfl rfl) h0
  obtain ⟨a1, rfl, rfl, rfl, w1⟩ := open_int Try.underlying2 (hval 1 2 v1 rfl rfl) h1
  obtain ⟨b2, rfl, rfl, rfl, w2⟩ := open_float Try.underlying43 (hval 2 43 v2 rfl rfl) h2
  obtain ⟨n2, en2⟩ := pick_onto .f32 b2 (lt_of_wf w2)
  clear hA0 hval0
  have hcall2 := en2
  have hw0 : Calls Try.prog 8 #[.agg #[.int .i64 W0, .int .i64 H0, .slice a0 z0.length c0], .int .i64 a1, .float .f32 b2] W fun e w' => e = .returned (.bool true) ∧ Below W.heap.size W w' := by
    rw [en2]
    exact walk W0 H0 z0 a0 c0 a1 b2 n2 W w0 w1 (lt_of_wf w2)
  refine hw0.mono fun e W' ⟨he, bel⟩ => ?_
  subst he
  exact ⟨_, rfl, _, _, _, [], _, [], hW', trodAll_mk1 (shut_bool Try.underlying4 _), (trodAll_cons_mk (Below.trod laidOut (by kernel_rfl) (of_decide_eq_true (by kernel_rfl)) k0 bel lt0) (trodAll_cons_mk (shut_int Try.underlying2 w1) (trodAll_cons_mk (shut_float Try.underlying43 w2) trodAll_mk0))), rfl, bel.frame _, fun h => by cases h⟩

theorem over : Rows.fnExactEdgeFilterRow.holds Try.pinned (OpenSpec.ofChange Rows.fnExactEdgeFilterSpec) :=
  OpenClaim.holds_of_wide 8 Try.f8 rfl rfl rfl rfl rfl rfl rfl ⟨rfl, rfl, rfl, rfl, rfl⟩ rfl rfl rfl rfl rfl (by kernel_rfl) Try.func8 (by kernel_rfl)
    (of_decide_eq_true (by kernel_rfl)) (by unfold Func.isWrapper; first | (rw [if_pos (by decide +kernel)]; kernel_rfl) | (rw [if_neg (by decide +kernel)]; exact ⟨rfl, rfl⟩))
    (fun os started H enc _ => lifted os started H enc)

theorem proved : Rows.FnExactEdgeFilterSaid := over
#print axioms proved

end Go.Proofs.Ytpjbbmeebnbdlab.fnExactEdgeFilter

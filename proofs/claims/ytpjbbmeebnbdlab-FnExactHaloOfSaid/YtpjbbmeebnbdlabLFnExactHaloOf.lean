/-
  FnExactHaloOf: for every input this law of the program returns true, and each argument reads as before. No condition.
-/
import Derived.Test.YtpjbbmeebnbdlabRows
import Derived.Test.YtpjbbmeebnbdlabRow
import Derived.Test.YtpjbbmeebnbdlabMn
import Derived.Test.YtpjbbmeebnbdlabAp
import Derived.ProofKit
import Derived.OpenShut
import Derived.ShutString
import Derived.ChangeOld
import Derived.Below
import Derived.Lib.Hide
import Derived.Outline
import Derived.Deep.RegionHeld3
import Derived.Deep.DeepCutAuto
import Derived.Deep.LoopGhost
import Derived.WalkMore
set_option linter.unusedSimpArgs false
set_option linter.unusedVariables false
set_option exponentiation.threshold 2000
set_option maxRecDepth 20000
set_option maxHeartbeats 4000000
namespace Go.Proofs.Ytpjbbmeebnbdlab.fnExactHaloOf
open Go Go.Proofs.Ytpjbbmeebnbdlab Go.Proofs
open Go.ChangeShapes Go.WideShapes Go.ChangeAt Go.RowKit
open Go.ChangeMaps (open_string shut_string)
/-! ### szPicture -/
theorem c_szF (a : Option Addr) (len cap : Nat) (L : Int) (w : World) (h : (len : Int) ≤ L) (hL : L ≤ 1048576) : Calls Try.prog 53 #[.slice a len cap, .int .i64 L] w (fun e w' => e = .returned (.int .i64 (L - (len : Int))) ∧ w' = w) := by
  have h' : ¬ (L - (len : Int) < 0) := by omega
  go_enter Try.func53, Try.ntmps53
  go_wp2
  go_ret
  exact ⟨rfl, rfl⟩
theorem c_szF_no (a : Option Addr) (len cap : Nat) (L : Int) (w : World) (h : L < len) (hL : 0 ≤ L) (hm : len ≤ 9223372036854775807) : Calls Try.prog 53 #[.slice a len cap, .int .i64 L] w (fun e w' => e = .returned (.int .i64 (-1)) ∧ w' = w) := by
  have h' : L - (len : Int) < 0 := by omega
  go_enter Try.func53, Try.ntmps53
  go_wp2
  go_ret
  exact ⟨rfl, rfl⟩
theorem c_szP (W H : Int) (a : Option Addr) (len cap : Nat) (L : Int) (w : World) (h : (len : Int) ≤ L) (hL : L ≤ 1048576) : Calls Try.prog 15 #[.agg #[.int .i64 W, .int .i64 H, .slice a len cap], .int .i64 L] w (RetB (.int .i64 (L - (len : Int))) w) := by
  have h' : ¬ (L - (len : Int) < 0) := by omega
  go_enter Try.func15, Try.ntmps15
  go_wp2_with (go_at_call 53; refine (c_szF a len cap L _ h hL).mono ?_; rintro _ _ ⟨rfl, rfl⟩)
  go_ret
  exact ⟨rfl, (Below.refl _ _).alloc (Nat.le_refl _) _⟩
theorem c_szP_no (W H : Int) (a : Option Addr) (len cap : Nat) (L : Int) (w : World) (h : L < len) (hL : 0 ≤ L ∧ len ≤ 9223372036854775807) : Calls Try.prog 15 #[.agg #[.int .i64 W, .int .i64 H, .slice a len cap], .int .i64 L] w (RetB (.int .i64 (-1)) w) := by
  go_enter Try.func15, Try.ntmps15
  go_wp2_with (go_at_call 53; refine (c_szF_no a len cap L _ h hL.1 hL.2).mono ?_; rintro _ _ ⟨rfl, rfl⟩)
  go_ret
  exact ⟨rfl, (Below.refl _ _).alloc (Nat.le_refl _) _⟩
/-! ### toOwn -/
theorem infoFo : (Try.prog.info? 43).map (fun i => (i.zero, i.size, i.bytes)) = some (some (.float .f32 0), 1, 4) := by kernel_rfl
theorem c_toO (a : Option Addr) (len cap : Nat) (zs : List Nat) (w : World) (hr : IsRowF .f32 w a len cap zs) (hl : len ≤ 1048576) : Calls Try.prog 45 #[.slice a len cap] w (NewO 43 len zs w) := by
  obtain ⟨i0, hi, hz0, hz1, hz2⟩ := info_parts infoFo
  obtain ⟨h1, h2, h3, h4, h5⟩ := hr
  go_enter Try.func45, Try.ntmps45
  go_wp2_with (at_make; refine wpList_make_full _ rfl _ _ 22 rfl w.heap.size 43 i0 (.float .f32 0) 1 Try.underlying22 hi hz0 hz1 _ _ _ _ len rfl rfl rfl rfl (by rw [hz2]; omega) (by unfold maxLen; omega) (by simp) ?_; intro w1 hown hgrow)
  have hblk := block_of_owns hown
  have e0 : (madeCells (Value.float FloatKind.f32 0).cells (len * 1)).toList = List.replicate len (.float .f32 0) := by rw [Nat.mul_one]; exact made_zeros _ _
  rw [e0] at hblk
  have hbel : Below w.heap.size w w1 := (Below.refl _ _).grown hgrow (Nat.le_refl _) (by simp)
  have HB := Lib.hid hblk
  clear hown hgrow hblk e0 hz0 hz1 hz2
  go_loopw [4] (fun i wr => ∃ j : Nat, j ≤ len ∧ i = .int .i64 j ∧ Below w.heap.size w wr ∧ wr.heap[w.heap.size]? = some (.cells (fl .f32 (zs.take j) ++ List.replicate (zs.length - j) (Value.float .f32 0)).toArray 43 (0, 0))) (fun i _ => len - (intOf i).toNat)
  case atStart => exact ⟨0, Nat.zero_le _, rfl, hbel, by rw [HB.out, h1]; rfl⟩
  case round =>
    obtain ⟨j, hj, rfl, hb, hblk⟩ := hrel
    have Hblk := Lib.hid hblk
    clear hblk
    by_cases hlt : j < len
    · rcases h5 with h5 | ⟨b, off, rfl, hbl, hc⟩
      · omega
      have hcell : wr.cell? ⟨b, off + j, none⟩ = some (.float .f32 (fat zs j)) := by rw [hb.cell (p := ⟨b, off + j, none⟩) hbl]; exact hc j hlt
      have hold : wr.cell? ⟨w.heap.size, j, none⟩ = some (.float .f32 0) := by
        rw [cell_of_block Hblk.out, List.getElem?_append_right (by simp [fl]; omega)]
        have e : (fl FloatKind.f32 (List.take j zs)).length = j := by simp [fl]; omega
        rw [e, Nat.sub_self, List.getElem?_replicate, if_pos (by omega)]
      have hfz : wr.frozen? ⟨w.heap.size, j, none⟩ = false := frozen_of_block Hblk.out j
      have hset := block_set Hblk.out j (.float .f32 (fat zs j))
      rw [set_step zs _ j (by omega)] at hset
      have Hset := Lib.hid hset
      clear hset hc
      go_wp2
      go_roundw
      case rel => exact ⟨j + 1, by omega, by go_num, hb.setCell (Nat.le_refl _) _, Hset.out⟩
      case measure => simp [intOf]; omega
    · obtain rfl : j = len := by omega
      have e1 : fl .f32 (zs.take j) ++ List.replicate (zs.length - j) (Value.float .f32 0) = fl .f32 zs := by rw [h1, Nat.sub_self, List.replicate_zero, List.append_nil, List.take_of_length_le (by omega)]
      have hblk2 := Hblk.out
      rw [e1] at hblk2
      have hown : Own 43 wr w.heap.size (some ⟨w.heap.size, 0, none⟩) j j zs :=
        ⟨h1, ⟨by simp [fl, h1], .inr ⟨w.heap.size, j, _, rfl, Nat.le_refl _, hblk2, Nat.le_refl _, by unfold maxLen; omega, by simp [fl, h1], by rw [List.take_of_length_le (by simp [fl, h1])]⟩⟩, h4⟩
      have HO := Lib.hid hown
      clear hown hblk2 e1
      go_wp2
      go_ret
      exact ⟨w.heap.size, rfl, hb, HO.out⟩
/-! ### toPicture -/
theorem c_toP (W H : Int) (a : Option Addr) (len cap : Nat) (zs : List Nat) (w : World) (hr : IsRowF .f32 w a len cap zs) (hl : len ≤ 1048576) : Calls Try.prog 17 #[.agg #[.int .i64 W, .int .i64 H, .slice a len cap]] w (NewP 43 W H zs w) := by
  have HR := Lib.hid hr
  have HL := Lib.hid hr.1
  clear hr
  go_enter Try.func17, Try.ntmps17
  go_wp2_with fail
  refine (c_toO a len cap zs _ (HR.out.below ((((Below.refl _ _).alloc (Nat.le_refl _) _).alloc (by simp) _).alloc (by simp; omega) _)) hl).mono ?_
  rintro _ w1 ⟨g, rfl, hb, hown⟩
  obtain ⟨hc, hf⟩ := bcell hb
  have hz : w.heap.size + 1 + 1 < w1.heap.size := by have := hb.size; simp at this; omega
  have hg' : w.heap.size + 1 + 1 < g := by have := hown.lt.1; simp at this; omega
  have HB := Lib.hid hb
  have HO := Lib.hid hown
  clear hb hown
  go_wp2_with fail
  refine bodyPost_ret (v := .agg #[.int .i64 W, .int .i64 H, .slice (some ⟨g, 0, none⟩) len len]) (by simp [results, Try.results17, hc, hz, go_sem]) rfl ⟨g, by rw [HL.out], ?_, ?_⟩
  · exact ((((((((Below.refl _ _).alloc (Nat.le_refl _) _).alloc (by simp) _).alloc (by simp; omega) _).trans (HB.out.mono (by simp; omega))).setCell (by simp; omega) _).setCell (by simp) _).setCell (by simp) _).setCell (by simp) _
  · rw [HL.out]
    exact ((((HO.out.setCell (by simp [blk]; omega) _).setCell (by simp [blk]; omega) _).setCell (by simp [blk]; omega) _).setCell (by simp [blk]; omega) _).mono (by simp; omega)
/-! ### sameFloat -/
theorem c_sameFloat (v n m : Nat) (w : World) (j : Nat) : Calls Try.prog 43 #[.float .f64 (pick .f64 v n), .float .f64 (pick .f64 v m)] (w.drewN j) (RetV (.bool true) w) := by
  have hs := self_ne .f64 v
  have ht := self_eq .f64 v
  cases h : isN .f64 v
  · rw [h] at hs ht
    cases h2 : (FloatKind.f64.format.order v 0 == some .eq)
    · go_enter Try.func43, Try.ntmps43
      go_wp2_with (first | (refine wpList_fop rfl _ _ _ _ _ rfl _ _ _ rfl rfl (by decide) _ ?_; intro _ _) | (refine upon_fop _ _ _ _ _ (by decide) ?_; intro _ _))
      go_ret
      exact ⟨_, rfl, rfl⟩
    · go_enter Try.func43, Try.ntmps43
      go_wp2_with (first | (refine wpList_fop rfl _ _ _ _ _ rfl _ _ _ rfl rfl (by decide) _ ?_; intro _ _) | (refine upon_fop _ _ _ _ _ (by decide) ?_; intro _ _))
      go_ret
      exact ⟨_, by simp, rfl⟩
  · rw [h] at hs ht
    go_enter Try.func43, Try.ntmps43
    go_wp2_with (first | (refine wpList_fop rfl _ _ _ _ _ rfl _ _ _ rfl rfl (by decide) _ ?_; intro _ _) | (refine upon_fop _ _ _ _ _ (by decide) ?_; intro _ _))
    go_ret
    exact ⟨_, rfl, rfl⟩

/-! ### eqFloat32S -/
theorem c_eqF (a b : Option Addr) (len c d : Nat) (zs : List Nat) (w : World) (j0 : Nat) (hr : IsRowF .f32 w a len c zs) (hs : IsRowF .f32 w b len d zs) : Calls Try.prog 47 #[.slice a len c, .slice b len d] (w.drewN j0) (RetV (.bool true) w) := by
  obtain ⟨h1, h2, h3, h4, h5⟩ := hr
  obtain ⟨g1, g2, g3, g4, g5⟩ := hs
  unfold maxLen at h3
  go_enter Try.func47, Try.ntmps47
  go_wp2
  go_loopw [5] (fun i wr => ∃ k m : Nat, k ≤ len ∧ i = .int .i64 k ∧ wr = w.drewN m) (fun i _ => len - (intOf i).toNat)
  case atStart => exact ⟨0, j0, Nat.zero_le _, rfl, rfl⟩
  case round =>
    obtain ⟨k, m, hk, rfl, rfl⟩ := hrel
    by_cases hlt : k < len
    · rcases h5 with h5 | ⟨x, off, rfl, hbl, hc⟩
      · omega
      rcases g5 with g5 | ⟨y, off2, rfl, gbl, gc⟩
      · omega
      have hcell : w.cell? ⟨x, off + k, none⟩ = some (.float .f32 (fat zs k)) := hc k hlt
      have gcell : w.cell? ⟨y, off2 + k, none⟩ = some (.float .f32 (fat zs k)) := gc k hlt
      clear hc h4 gc g4
      go_wp2
      refine wp_region_N (fun _ _ u => u = .bool true) (by kernel_rfl) (by kernel_rfl) ?_; (repeat (first | ((with_reducible show wpN _ _ _ _ _ (Oper.mk _ (Op.binOp _ _ _ _ _) _ _ _ none :: _) _); refine wpN_fop rfl _ _ _ _ _ rfl _ _ _ rfl rfl (by decide) ?_; intro _) | ((with_reducible show wpN _ _ _ _ _ (Oper.mk _ (Op.convert _ _ _) _ _ _ none :: _) _); refine wpN_cvU rfl 43 49 _ rfl (Option.isSome_iff_exists.2 ⟨_, Try.underlying43⟩) Try.underlying49 _ rfl ?_; intro _) | ((with_reducible show wpN _ _ _ _ _ (Oper.mk _ _ _ _ _ (some _) :: _) _); (with_reducible refine wpN_off ?_ ?_); focus rfl; (simp only [Act.put, List.setIfInBounds_toArray, List.set_cons_zero, List.set_cons_succ])) | ((with_reducible show wpN _ _ _ _ _ (Oper.mk _ _ _ _ _ (some _) :: _) _); ((with_reducible refine wpN_on ?_ (fun K hK => ?_)); (focus rfl); intro _; go_simp; first | (refine uponN_value (hK _ ?_)) | ((refine uponN_call (callN rfl (c_sameFloat _ _ _ _ _)) ?_; intro u hu; obtain rfl : u = _ := hu); refine hK _ ?_)); clear hK K) | (((with_reducible refine wpN_plain rfl (fun K hK => ?_)); intro _; go_simp; first | (refine uponN_value (hK _ ?_)) | ((refine uponN_call (callN rfl (c_sameFloat _ _ _ _ _)) ?_; intro u hu; obtain rfl : u = _ := hu); refine hK _ ?_)); clear hK K) | ((with_reducible refine wpN_step (fun K hK => ?_)); go_simp; first | (refine hK _ ?_) | (intro _; first | (refine uponN_value (hK _ ?_)) | ((refine uponN_call (callN rfl (c_sameFloat _ _ _ _ _)) ?_; intro u hu; obtain rfl : u = _ := hu); refine hK _ ?_)); clear hK K))); refine wpN_nil ?_; intro _
      go_wp2
      go_roundw
      case rel => exact ⟨k + 1, _, by omega, by go_num, rfl⟩
      case measure => simp [intOf]; omega
    · clear h5 h4 g4 g5
      go_wp2
      go_ret
      exact ⟨_, rfl, rfl⟩
/-! ### eqPicture -/
theorem c_eqF0 (a b : Option Addr) (len c d : Nat) (zs : List Nat) (w : World) (hr : IsRowF .f32 w a len c zs) (hs : IsRowF .f32 w b len d zs) : Calls Try.prog 47 #[.slice a len c, .slice b len d] w (RetV (.bool true) w) := by
  have h := c_eqF a b len c d zs w 0 hr hs
  rwa [w.drewN_zero] at h
theorem c_eqP (W H : Int) (a b : Option Addr) (len c d : Nat) (zs : List Nat) (w : World) (hr : IsRowF .f32 w a len c zs) (hs : IsRowF .f32 w b len d zs) : Calls Try.prog 20 #[.agg #[.int .i64 W, .int .i64 H, .slice a len c], .agg #[.int .i64 W, .int .i64 H, .slice b len d]] w (RetB (.bool true) w) := by
  have HR := Lib.hid hr
  have HS := Lib.hid hs
  clear hr hs
  go_enter Try.func20, Try.ntmps20
  go_wp2_with fail
  refine (c_eqF0 a b len c d zs _ ((HR.out.alloc _).alloc _) ((HS.out.alloc _).alloc _)).mono ?_
  rintro _ _ ⟨m, rfl, rfl⟩
  go_wp2_with fail
  go_ret
  exact ⟨rfl, below_drewN (((Below.refl _ _).alloc (Nat.le_refl _) _).alloc (by simp) _) _⟩
/-! ### markFloat32S -/
theorem c_markF (B : Nat) (a : Option Addr) (len cap k : Nat) (zs : List Nat) (w : World) (hr : Own 43 w B a len cap zs) (hk : k + len ≤ 4611686018427387904) : Calls Try.prog 48 #[.slice a len cap, .int .i64 k] w (fun e w' => e = .returned (.int .i64 ((k + len : Nat) : Int)) ∧ w.grownBy w' (blk a) ∧ Own 43 w' B a len cap (marks k len)) := by
  rcases hr.parts with ⟨rfl, rfl, rfl, rfl⟩ | ⟨g, cur, rfl, hb, hg, hl, hm, hs, ht⟩
  · clear hr
    go_enter Try.func48, Try.ntmps48
    go_wp2
    refine wp_loop_rounds 1 ?_; rw [rounds_succ]
    go_wp2
    go_ret
    exact ⟨rfl, ⟨rfl, rfl, rfl, Nat.le_refl _, fun _ _ _ => rfl⟩, Own.nil _ _ _⟩
  · have h0 : Marked w g 43 cap k 0 := ⟨cur, hg, hs, fun i hi => by omega⟩
    have H0 := Lib.hid h0
    unfold maxLen at hm
    clear hr hg hs ht h0
    go_enter Try.func48, Try.ntmps48
    go_wp2
    go_loopw [1, 5] (fun t i wr => ∃ j : Nat, j ≤ len ∧ i = .int .i64 j ∧ t = .int .i64 ((k + j : Nat) : Int) ∧ w.grownBy wr (some g) ∧ Marked wr g 43 cap k j) (fun _ i _ => len - (intOf i).toNat)
    case atStart => exact ⟨0, Nat.zero_le _, rfl, rfl, ⟨rfl, rfl, rfl, Nat.le_refl _, fun _ _ _ => rfl⟩, H0.out⟩
    case round =>
      obtain ⟨j, hj, rfl, rfl, hgr, hM⟩ := hrel
      by_cases hlt : j < len
      · obtain ⟨v, hcell, hfz⟩ := hM.cell (j := j) (by omega)
        have hM2 := Lib.hid (hM.step (by omega : j < cap))
        have hG2 := Lib.hid hgr
        clear hM hgr
        go_wp2
        go_roundw
        case rel => exact ⟨j + 1, by omega, by go_num, by go_num, ⟨hG2.out.os, hG2.out.tape, hG2.out.output, by have := hG2.out.size; simpa using this, fun k' h1 h2 => by rw [Below.heap_setCell _ _ _ _ (fun e => h2 (by rw [e]))]; exact hG2.out.block k' h1 h2⟩, hM2.out⟩
        case measure => simp [intOf]; omega
      · obtain rfl : j = len := by omega
        have hO := Lib.hid (hM.own (B := B) hb hl (by unfold maxLen; omega))
        have hG2 := Lib.hid hgr
        clear hM hgr
        go_wp2
        go_ret
        exact ⟨rfl, hG2.out, hO.out⟩
/-! ### heldFloat32S -/
theorem c_heldF (a : Option Addr) (len cap k : Nat) (w : World) (hr : IsRowF .f32 w a len cap (marks k len)) (hk : k + len ≤ 4611686018427387904) : Calls Try.prog 65 #[.slice a len cap, .int .i64 k] w (fun e w' => e = .returned (.int .i64 ((k + len : Nat) : Int)) ∧ w' = w) := by
  obtain ⟨h1, h2, h3, h4, h5⟩ := hr
  unfold maxLen at h3
  clear h1 h4
  go_enter Try.func65, Try.ntmps65
  go_wp2
  go_loop [1, 5] (fun t i => ∃ j : Nat, j ≤ len ∧ i = .int .i64 j ∧ t = .int .i64 ((k + j : Nat) : Int)) (fun _ i => len - (intOf i).toNat)
  case atStart => exact ⟨0, Nat.zero_le _, rfl, rfl⟩
  case round =>
    obtain ⟨j, hj, rfl, rfl⟩ := hrel
    by_cases hlt : j < len
    · rcases h5 with h5 | ⟨b, off, rfl, hbl, hc⟩
      · omega
      have hcell : w.cell? ⟨b, off + j, none⟩ = some (.float .f32 (markN k j)) := by rw [← marks_at k len j hlt]; exact hc j hlt
      have hne : (FloatKind.f32.format.order (markN k j) (markN k j) != some .eq) = false := by rw [self_ne]; exact markN_notN k j
      have hE : floatOfInt .f32 ((k : Int) + (j : Int)) = markN k j := by unfold markN; rw [Int.natCast_add]
      have hne2 : (FloatKind.f32.format.order (markN k j) (floatOfInt .f32 ((k : Int) + (j : Int))) != some .eq) = false := (congrArg (fun x => FloatKind.f32.format.order (markN k j) x != some .eq) hE).trans hne
      clear hE
      clear hc
      go_wp2
      go_round
      case rel => exact ⟨j + 1, by omega, by go_num, by go_num⟩
      case measure => simp [intOf]; omega
    · obtain rfl : j = len := by omega
      clear h5
      go_wp2
      go_ret
      exact ⟨rfl, rfl⟩
/-! ### markPicture -/
theorem c_markP (W H : Int) (B : Nat) (a : Option Addr) (len cap k : Nat) (zs : List Nat) (w : World) (hr : Own 43 w B a len cap zs) (hk : k + len ≤ 4611686018427387904) : Calls Try.prog 21 #[.agg #[.int .i64 W, .int .i64 H, .slice a len cap], .int .i64 k] w (fun e w' => e = .returned (.int .i64 ((k + len : Nat) : Int)) ∧ w.grownBy w' (blk a) ∧ Own 43 w' B a len cap (marks k len)) := by
  have HR := Lib.hid hr
  clear hr
  go_enter Try.func21, Try.ntmps21
  go_wp2_with fail
  refine (c_markF B a len cap k zs _ (HR.out.alloc _) hk).mono ?_
  rintro _ w1 ⟨rfl, hg, hO⟩
  have HG := Lib.hid hg
  have HO := Lib.hid hO
  clear hg hO
  go_wp2_with fail
  go_ret
  exact ⟨rfl, ⟨HG.out.os, HG.out.tape, HG.out.output, by have := HG.out.size; simp at this; omega, fun k' h1 h2 => by rw [HG.out.block k' (by simp; omega) h2]; exact Below.heap_alloc _ _ _ h1⟩, HO.out⟩
theorem c_heldP (W H : Int) (a : Option Addr) (len cap k : Nat) (w : World) (hr : IsRowF .f32 w a len cap (marks k len)) (hk : k + len ≤ 4611686018427387904) : Calls Try.prog 28 #[.agg #[.int .i64 W, .int .i64 H, .slice a len cap], .int .i64 k] w (RetB (.int .i64 ((k + len : Nat) : Int)) w) := by
  have HR := Lib.hid hr
  clear hr
  have h0 : 0 ≤ ((k + len : Nat) : Int) := by omega
  go_enter Try.func28, Try.ntmps28
  go_wp2_with fail
  refine (c_heldF a len cap k _ (HR.out.alloc _) hk).mono ?_
  rintro _ w1 ⟨rfl, rfl⟩
  go_wp2_with fail
  go_ret
  exact ⟨rfl, (Below.refl _ _).alloc (Nat.le_refl _) _⟩

/-! ### ordDefs -/
theorem cmp_bools (a b : Int) : ((some (compare a b) == some Ordering.lt) = decide (a < b)) ∧ ((some (compare a b) == some Ordering.gt) = decide (b < a)) ∧ ((some (compare a b) == some Ordering.eq) = decide (a = b)) := by
  rcases Int.lt_trichotomy a b with h | h | h
  · rw [cmp_of_lt h, decide_eq_true h, decide_eq_false (by omega), decide_eq_false (by omega)]; exact ⟨rfl, rfl, rfl⟩
  · subst h; rw [Int.compare_eq_eq.2 rfl, decide_eq_false (by omega), decide_eq_true rfl]; exact ⟨rfl, rfl, rfl⟩
  · rw [cmp_of_gt h, decide_eq_false (by omega), decide_eq_true h, decide_eq_false (by omega)]; exact ⟨rfl, rfl, rfl⟩
theorem o_lt {v c : Nat} (h : isN .f32 v = false) (hc : isN .f32 c = false) : (FloatKind.f32.format.order v c == some .lt) = decide (srung FloatKind.f32.format v < srung FloatKind.f32.format c) := by
  rw [order_rungs .f32 v c h hc]; exact (cmp_bools _ _).1
theorem o_gt {v c : Nat} (h : isN .f32 v = false) (hc : isN .f32 c = false) : (FloatKind.f32.format.order v c == some .gt) = decide (srung FloatKind.f32.format c < srung FloatKind.f32.format v) := by
  rw [order_rungs .f32 v c h hc]; exact (cmp_bools _ _).2.1
theorem o_eq {v c : Nat} (h : isN .f32 v = false) (hc : isN .f32 c = false) : (FloatKind.f32.format.order v c == some .eq) = decide (srung FloatKind.f32.format v = srung FloatKind.f32.format c) := by
  rw [order_rungs .f32 v c h hc]; exact (cmp_bools _ _).2.2
theorem o_le {v c : Nat} (h : isN .f32 v = false) (hc : isN .f32 c = false) : (FloatKind.f32.format.order v c == some .lt || FloatKind.f32.format.order v c == some .eq) = decide (srung FloatKind.f32.format v ≤ srung FloatKind.f32.format c) := by
  rw [o_lt h hc, o_eq h hc, ← Bool.decide_or]; exact decide_eq_decide.2 (by omega)
theorem o_ge {v c : Nat} (h : isN .f32 v = false) (hc : isN .f32 c = false) : (FloatKind.f32.format.order v c == some .gt || FloatKind.f32.format.order v c == some .eq) = decide (srung FloatKind.f32.format c ≤ srung FloatKind.f32.format v) := by
  rw [o_gt h hc, o_eq h hc, ← Bool.decide_or]; exact decide_eq_decide.2 (by omega)
theorem s_zero : srung FloatKind.f32.format 0 = 0 := by decide +kernel
theorem s_half : srung FloatKind.f32.format 1056964608 = 1056964608 := by decide +kernel
theorem s_one : srung FloatKind.f32.format 1065353216 = 1065353216 := by decide +kernel
theorem n_zero : isN .f32 0 = false := by decide +kernel
theorem n_half : isN .f32 1056964608 = false := by decide +kernel
theorem n_one : isN .f32 1065353216 = false := by decide +kernel
theorem pick_zero (n : Nat) : pick .f32 0 n = 0 := pick_not n_zero n
/-! ### haloFacts -/
theorem zero_read {g : Nat} (h : rung Ieee.single g = 0) : Ieee.single.read g = .number (sgn Ieee.single g) 0 Ieee.single.leastPlace := by
  unfold Ieee.Format.read
  have hb : g % Ieee.single.signWeight = 0 := h
  dsimp only
  rw [hb, if_pos (by decide +kernel)]
  rfl
theorem rung_word0 (f : Ieee.Format) (s : Bool) : rung f (f.word s 0) = 0 := by
  unfold rung Ieee.Format.word
  cases s <;> simp
theorem srung_of_zero {f : Ieee.Format} {a : Nat} (h : rung f a = 0) : srung f a = 0 := by unfold srung; rw [h]; split <;> rfl
theorem signed_zero (t : Bool) (k : Nat) : Ieee.signed t 0 k = 0 := by unfold Ieee.signed; cases t <;> simp
theorem number_zero (f : Ieee.Format) (s : Bool) (p : Int) : srung f (f.write (.number s 0 p)) = 0 := by
  show srung f (f.nearest s 0 p) = 0
  unfold Ieee.Format.nearest
  rw [if_pos rfl]
  exact srung_of_zero (rung_word0 f s)
/-- A difference doesn't ask for the sign of a zero, but for its own zero's. -/
theorem sub_zeros {x g h : Nat} (hx : rung Ieee.single x < Ieee.single.infRung) (hg : rung Ieee.single g = 0) (hh : rung Ieee.single h = 0) :
    srung Ieee.single (fop .sub .f32 x g) = srung Ieee.single (fop .sub .f32 x h) := by
  obtain ⟨m, e, r1, _, _⟩ := read_fin Ieee.single x hx
  have hf : FloatKind.f32.format = Ieee.single := rfl
  unfold fop floatBits
  rw [hf]
  simp only [Ieee.Format.sub, r1, zero_read hg, zero_read hh, Ieee.Datum.opposite, Ieee.Datum.sum, signed_zero, Int.add_zero, Option.map_some, Option.getD_some]
  generalize Ieee.signed (sgn Ieee.single x) m (e - min e Ieee.single.leastPlace).toNat = t
  by_cases ht : t = 0
  · subst ht; exact (number_zero _ _ _).trans (number_zero _ _ _).symm
  · rw [if_neg ht, if_neg ht]
theorem zeros_sub {x g h : Nat} (hx : rung Ieee.single x < Ieee.single.infRung) (hg : rung Ieee.single g = 0) (hh : rung Ieee.single h = 0) :
    srung Ieee.single (fop .sub .f32 g x) = srung Ieee.single (fop .sub .f32 h x) := by
  obtain ⟨m, e, r1, _, _⟩ := read_fin Ieee.single x hx
  have hf : FloatKind.f32.format = Ieee.single := rfl
  unfold fop floatBits
  rw [hf]
  simp only [Ieee.Format.sub, r1, zero_read hg, zero_read hh, Ieee.Datum.opposite, Ieee.Datum.sum, signed_zero, Int.zero_add, Option.map_some, Option.getD_some]
  generalize Ieee.signed (!sgn Ieee.single x) m (e - min Ieee.single.leastPlace e).toNat = t
  by_cases ht : t = 0
  · subst ht; exact (number_zero _ _ _).trans (number_zero _ _ _).symm
  · rw [if_neg ht, if_neg ht]
theorem srung_inj {a b : Nat} (ha : a < 2 ^ 32) (hb : b < 2 ^ 32) (h : srung Ieee.single a = srung Ieee.single b) : a = b ∨ (rung Ieee.single a = 0 ∧ rung Ieee.single b = 0) := by
  have hw : Ieee.single.signWeight = 2147483648 := by decide +kernel
  unfold srung rung sgn at h
  unfold rung
  rw [hw] at h ⊢
  have e1 : a / 2147483648 = 0 ∨ a / 2147483648 = 1 := by omega
  have e2 : b / 2147483648 = 0 ∨ b / 2147483648 = 1 := by omega
  rcases e1 with e1 | e1 <;> rcases e2 with e2 | e2 <;> simp [e1, e2] at h <;> omega
theorem maxV_cases {x y : Nat} (hx : isN .f32 x = false) (hy : isN .f32 y = false) : (maxV .f32 x y = x ∨ maxV .f32 x y = y) ∧ srung Ieee.single (maxV .f32 x y) = max (srung Ieee.single x) (srung Ieee.single y) := by
  unfold maxV
  rw [hx, hy, if_neg (by decide), o_lt hx hy, o_gt hx hy]
  have hf : FloatKind.f32.format = Ieee.single := rfl
  rw [hf]
  by_cases h1 : srung Ieee.single x < srung Ieee.single y
  · rw [if_pos (decide_eq_true h1)]; exact ⟨.inr rfl, by omega⟩
  · rw [if_neg (by rw [decide_eq_true_eq]; exact h1)]
    by_cases h2 : srung Ieee.single y < srung Ieee.single x
    · rw [if_pos (decide_eq_true h2)]; exact ⟨.inl rfl, by omega⟩
    · rw [if_neg (by rw [decide_eq_true_eq]; exact h2)]
      split
      · exact ⟨.inr rfl, by omega⟩
      · exact ⟨.inl rfl, by omega⟩
theorem minV_cases {x y : Nat} (hx : isN .f32 x = false) (hy : isN .f32 y = false) : (minV .f32 x y = x ∨ minV .f32 x y = y) ∧ srung Ieee.single (minV .f32 x y) = min (srung Ieee.single x) (srung Ieee.single y) := by
  unfold minV
  rw [hx, hy, if_neg (by decide), o_lt hx hy, o_gt hx hy]
  have hf : FloatKind.f32.format = Ieee.single := rfl
  rw [hf]
  by_cases h1 : srung Ieee.single x < srung Ieee.single y
  · rw [if_pos (decide_eq_true h1)]; exact ⟨.inl rfl, by omega⟩
  · rw [if_neg (by rw [decide_eq_true_eq]; exact h1)]
    by_cases h2 : srung Ieee.single y < srung Ieee.single x
    · rw [if_pos (decide_eq_true h2)]; exact ⟨.inr rfl, by omega⟩
    · rw [if_neg (by rw [decide_eq_true_eq]; exact h2)]
      split
      · exact ⟨.inl rfl, by omega⟩
      · exact ⟨.inr rfl, by omega⟩
/-! ### picDefs -/
def sideB (W H : Int) : Bool := decide (1 ≤ W) && decide (W ≤ 16) && (decide (1 ≤ H) && decide (H ≤ 16))
def finL (zs : List Nat) : Bool := zs.all (finB .f32)
def validB (W H : Int) (zs : List Nat) : Bool := sideB W H && decide ((zs.length : Int) = W * H) && finL zs
theorem sideB_true {W H : Int} (h : sideB W H = true) : (1 ≤ W ∧ W ≤ 16) ∧ 1 ≤ H ∧ H ≤ 16 := by simpa [sideB, and_assoc] using h
theorem side_mul {W H : Int} (h : sideB W H = true) : 1 ≤ W * H ∧ W * H ≤ 256 := by
  obtain ⟨⟨h1, h2⟩, h3, h4⟩ := sideB_true h
  have : W * H ≤ 16 * 16 := Int.mul_le_mul h2 h4 (by omega) (by omega)
  have h5 : 1 * 1 ≤ W * H := Int.mul_le_mul h1 h3 (by omega) (by omega)
  omega
theorem sideB_false {W H : Int} (h : sideB W H = false) : W < 1 ∨ 16 < W ∨ H < 1 ∨ 16 < H := by
  simp [sideB] at h; omega
theorem finL_snoc (zs : List Nat) (k : Nat) (hk : k < zs.length) : finL (zs.take (k + 1)) = (finL (zs.take k) && finB .f32 (fat zs k)) := by
  unfold finL fat
  rw [List.take_succ_eq_append_getElem hk, List.all_append, List.getD, List.getElem?_eq_getElem hk]; simp
theorem finL_of (zs : List Nat) (k : Nat) (hk : k < zs.length) (h : finB .f32 (fat zs k) = false) : finL zs = false := by
  unfold finL
  rw [List.all_eq_false]
  refine ⟨zs[k], List.getElem_mem hk, ?_⟩
  unfold fat at h
  rw [List.getD, List.getElem?_eq_getElem hk] at h
  simpa using h
theorem pick0 (k : FloatKind) (v : Nat) (hv : v < 2 ^ k.format.width) : ∃ n, v = pick k v n := pick_onto k v hv
/-! ### rangeDefs -/
def lowF (m x : Nat) : Nat := if (FloatKind.f32.format.order x m == some .lt) = true then x else m
def highF (m x : Nat) : Nat := if (FloatKind.f32.format.order x m == some .gt) = true then x else m
def lowK (zs : List Nat) (k : Nat) : Nat := (zs.take k).foldl lowF (fat zs 0)
def highK (zs : List Nat) (k : Nat) : Nat := (zs.take k).foldl highF (fat zs 0)
def rangeR (W H : Int) (zs : List Nat) : Nat × Nat × Bool := if validB W H zs = true then (lowK zs zs.length, highK zs zs.length, true) else (0, 0, false)
theorem pick00r : pick .f32 0 0 = 0 := pick_not (show isN .f32 0 = false from by decide +kernel) 0
theorem lowK_succ {zs : List Nat} {k : Nat} (hk : k < zs.length) : lowK zs (k + 1) = lowF (lowK zs k) (fat zs k) := by
  have e : fat zs k = zs[k] := by unfold fat; rw [List.getD, List.getElem?_eq_getElem hk]; rfl
  unfold lowK
  rw [List.take_succ_eq_append_getElem hk, List.foldl_append, e]; rfl
theorem highK_succ {zs : List Nat} {k : Nat} (hk : k < zs.length) : highK zs (k + 1) = highF (highK zs k) (fat zs k) := by
  have e : fat zs k = zs[k] := by unfold fat; rw [List.getD, List.getElem?_eq_getElem hk]; rfl
  unfold highK
  rw [List.take_succ_eq_append_getElem hk, List.foldl_append, e]; rfl
theorem order_same {x : Nat} : (FloatKind.f32.format.order x x == some .lt) = false ∧ (FloatKind.f32.format.order x x == some .gt) = false := by
  cases h : isN .f32 x
  · rw [order_rungs .f32 x x h h, Int.compare_eq_eq.2 rfl]; exact ⟨rfl, rfl⟩
  · rw [order_nan_l _ h]; exact ⟨rfl, rfl⟩
theorem lowK_one {zs : List Nat} (h : 0 < zs.length) : lowK zs 1 = fat zs 0 := by
  rw [lowK_succ h]; unfold lowF lowK; simp [order_same.1]
theorem highK_one {zs : List Nat} (h : 0 < zs.length) : highK zs 1 = fat zs 0 := by
  rw [highK_succ h]; unfold highF highK; simp [order_same.2]
theorem lowK_zero {zs : List Nat} : lowK zs 0 = fat zs 0 := rfl
theorem highK_zero {zs : List Nat} : highK zs 0 = fat zs 0 := rfl
theorem some_len {W H : Int} {zs : List Nat} (h : validB W H zs = true) : 1 ≤ zs.length := by
  simp only [validB, Bool.and_eq_true, decide_eq_true_eq] at h
  obtain ⟨⟨h1, h2⟩, h3⟩ := h
  have := side_mul h1
  omega
/-! ### mulInf -/
theorem inf_notfin (s : Bool) : finB .f32 (FloatKind.f32.format.write (.infinity s)) = false := by cases s <;> decide +kernel
theorem rung_split {v : Nat} (h : finB .f32 v = false) (hn : isN .f32 v = false) : FloatKind.f32.format.read v = .infinity (sgn FloatKind.f32.format v) := by
  have h1 : ¬ rung FloatKind.f32.format v < FloatKind.f32.format.infRung := of_decide_eq_false h
  have h2 := isN_rung' .f32 v
  rw [hn] at h2
  have h3 := of_decide_eq_false h2.symm
  exact read_inf .f32 v (by omega)
/-- A product with a factor that isn't finite isn't finite. -/
theorem mul_notfin (x : Nat) {v : Nat} (hv : finB .f32 v = false) : finB .f32 (fop .mul .f32 x v) = false := by
  cases h : isN .f32 v
  · have h3 := rung_split hv h
    cases hx : isN .f32 x
    · cases hf : finB .f32 x
      · have h4 := rung_split hf hx
        have e : fop .mul .f32 x v = FloatKind.f32.format.write (.infinity (sgn FloatKind.f32.format x ^^ sgn FloatKind.f32.format v)) := by
          unfold fop floatBits Ieee.Format.mul
          simp only [h3, h4, Ieee.Datum.product]
          rfl
        rw [e]; exact inf_notfin _
      · obtain ⟨m, e, h4, _, _⟩ := read_fin FloatKind.f32.format x (of_decide_eq_true hf)
        by_cases hm : m = 0
        · have e : fop .mul .f32 x v = qn .f32 := by
            unfold fop floatBits Ieee.Format.mul
            simp only [h3, h4, Ieee.Datum.product, hm, if_true]
            rfl
          rw [e]; exact finB_nan (isN_qn .f32)
        · have e : fop .mul .f32 x v = FloatKind.f32.format.write (.infinity (sgn FloatKind.f32.format v ^^ sgn FloatKind.f32.format x)) := by
            unfold fop floatBits Ieee.Format.mul
            simp only [h3, h4, Ieee.Datum.product, hm, if_false]
            rfl
          rw [e]; exact inf_notfin _
    · exact finB_nan (isN_fop_l v hx)
  · exact finB_nan (isN_fop_r x h)

/-! ### notFin -/
theorem notfin_cases {v : Nat} (h : finB .f32 v = false) : isN .f32 v = true ∨ FloatKind.f32.format.read v = .infinity (sgn FloatKind.f32.format v) := by
  cases hn : isN .f32 v
  · exact .inr (rung_split h hn)
  · exact .inl rfl
theorem fin_read {v : Nat} (h : finB .f32 v = true) : ∃ m e, FloatKind.f32.format.read v = .number (sgn FloatKind.f32.format v) m e := by
  obtain ⟨m, e, h4, _, _⟩ := read_fin FloatKind.f32.format v (of_decide_eq_true h)
  exact ⟨m, e, h4⟩
theorem add_notfin_r (x : Nat) {v : Nat} (hv : finB .f32 v = false) : finB .f32 (fop .add .f32 x v) = false := by
  rcases notfin_cases hv with h | h
  · exact finB_nan (isN_fop_r x h)
  · cases hx : finB .f32 x
    · rcases notfin_cases hx with h2 | h2
      · exact finB_nan (isN_fop_l v h2)
      · unfold fop floatBits Ieee.Format.add
        simp only [h, h2, Ieee.Datum.sum]
        split
        · exact inf_notfin _
        · exact finB_nan (isN_qn .f32)
    · obtain ⟨m, e, h2⟩ := fin_read hx
      unfold fop floatBits Ieee.Format.add
      simp only [h, h2, Ieee.Datum.sum]
      exact inf_notfin _
theorem add_notfin_l {x : Nat} (v : Nat) (hx : finB .f32 x = false) : finB .f32 (fop .add .f32 x v) = false := by
  cases hv : finB .f32 v
  · exact add_notfin_r x hv
  · rcases notfin_cases hx with h | h
    · exact finB_nan (isN_fop_l v h)
    · obtain ⟨m, e, h2⟩ := fin_read hv
      unfold fop floatBits Ieee.Format.add
      simp only [h, h2, Ieee.Datum.sum]
      exact inf_notfin _
theorem sub_notfin_r (x : Nat) {v : Nat} (hv : finB .f32 v = false) : finB .f32 (fop .sub .f32 x v) = false := by
  rcases notfin_cases hv with h | h
  · exact finB_nan (isN_fop_r x h)
  · cases hx : finB .f32 x
    · rcases notfin_cases hx with h2 | h2
      · exact finB_nan (isN_fop_l v h2)
      · unfold fop floatBits Ieee.Format.sub
        simp only [h, h2, Ieee.Datum.opposite, Ieee.Datum.sum]
        split
        · exact inf_notfin _
        · exact finB_nan (isN_qn .f32)
    · obtain ⟨m, e, h2⟩ := fin_read hx
      unfold fop floatBits Ieee.Format.sub
      simp only [h, h2, Ieee.Datum.opposite, Ieee.Datum.sum]
      exact inf_notfin _
theorem quo_notfin_l {x v : Nat} (hx : finB .f32 x = false) (hv : finB .f32 v = true) : finB .f32 (fop .quo .f32 x v) = false := by
  rcases notfin_cases hx with h | h
  · exact finB_nan (isN_fop_l v h)
  · obtain ⟨m, e, h2⟩ := fin_read hv
    unfold fop floatBits Ieee.Format.div
    simp only [h, h2, Ieee.Datum.quotient]
    exact inf_notfin _
theorem ofInt_fin {n : Nat} (h : n ≤ 256) : finB .f32 (floatOfInt .f32 (n : Int)) = true := by
  have : (List.range 257).all (fun n => finB .f32 (floatOfInt .f32 (n : Int))) = true := by decide +kernel
  rw [List.all_eq_true] at this
  exact this n (List.mem_range.2 (by omega))
/-! ### haloDefs -/
/-- A word of 32 bits that is finite. -/
def Ok32 (a : Nat) : Prop := a < 2 ^ 32 ∧ rung Ieee.single a < Ieee.single.infRung
theorem Ok32.notN {a : Nat} (h : Ok32 a) : isN .f32 a = false := notN_fin (k := .f32) h.2
def loM (zs : List Nat) (idx : List Nat) : Nat := idx.foldl (fun m k => minV .f32 m (fat zs k)) (fat zs (fat idx 0))
def hiM (zs : List Nat) (idx : List Nat) : Nat := idx.foldl (fun m k => maxV .f32 m (fat zs k)) (fat zs (fat idx 0))
def loL (zs : List Nat) (idx : List Nat) : Nat := idx.foldl (fun m k => lowF m (fat zs k)) (fat zs (fat idx 0))
def hiL (zs : List Nat) (idx : List Nat) : Nat := idx.foldl (fun m k => highF m (fat zs k)) (fat zs (fat idx 0))
theorem lowF_cases {m x : Nat} (hm : isN .f32 m = false) (hx : isN .f32 x = false) : (lowF m x = m ∨ lowF m x = x) ∧ srung Ieee.single (lowF m x) = min (srung Ieee.single m) (srung Ieee.single x) := by
  unfold lowF
  rw [o_lt hx hm]
  have hf : FloatKind.f32.format = Ieee.single := rfl
  rw [hf]
  by_cases h1 : srung Ieee.single x < srung Ieee.single m
  · rw [if_pos (decide_eq_true h1)]; exact ⟨.inr rfl, by omega⟩
  · rw [if_neg (by rw [decide_eq_true_eq]; exact h1)]; exact ⟨.inl rfl, by omega⟩
theorem highF_cases {m x : Nat} (hm : isN .f32 m = false) (hx : isN .f32 x = false) : (highF m x = m ∨ highF m x = x) ∧ srung Ieee.single (highF m x) = max (srung Ieee.single m) (srung Ieee.single x) := by
  unfold highF
  rw [o_gt hx hm]
  have hf : FloatKind.f32.format = Ieee.single := rfl
  rw [hf]
  by_cases h1 : srung Ieee.single m < srung Ieee.single x
  · rw [if_pos (decide_eq_true h1)]; exact ⟨.inr rfl, by omega⟩
  · rw [if_neg (by rw [decide_eq_true_eq]; exact h1)]; exact ⟨.inl rfl, by omega⟩
theorem fold_same {zs : List Nat} (f g : Nat → Nat → Nat) (o : Int → Int → Int)
    (hf : ∀ m x, isN .f32 m = false → isN .f32 x = false → (f m x = m ∨ f m x = x) ∧ srung Ieee.single (f m x) = o (srung Ieee.single m) (srung Ieee.single x))
    (hg : ∀ m x, isN .f32 m = false → isN .f32 x = false → (g m x = m ∨ g m x = x) ∧ srung Ieee.single (g m x) = o (srung Ieee.single m) (srung Ieee.single x)) :
    ∀ (idx : List Nat) (a b : Nat), (∀ k ∈ idx, Ok32 (fat zs k)) → Ok32 a → Ok32 b → srung Ieee.single a = srung Ieee.single b →
      Ok32 (idx.foldl (fun m k => f m (fat zs k)) a) ∧ Ok32 (idx.foldl (fun m k => g m (fat zs k)) b) ∧ srung Ieee.single (idx.foldl (fun m k => f m (fat zs k)) a) = srung Ieee.single (idx.foldl (fun m k => g m (fat zs k)) b)
  | [], a, b, _, ha, hb, h => ⟨ha, hb, h⟩
  | k :: idx, a, b, hz, ha, hb, h => by
    have hk := hz k List.mem_cons_self
    obtain ⟨f1, f2⟩ := hf a (fat zs k) ha.notN hk.notN
    obtain ⟨g1, g2⟩ := hg b (fat zs k) hb.notN hk.notN
    rw [List.foldl_cons, List.foldl_cons]
    refine fold_same f g o hf hg idx _ _ (fun j hj => hz j (List.mem_cons_of_mem _ hj)) ?_ ?_ (by rw [f2, g2, h])
    · rcases f1 with e | e <;> rw [e] <;> assumption
    · rcases g1 with e | e <;> rw [e] <;> assumption
theorem lo_same {zs idx : List Nat} (hz : ∀ k ∈ idx, Ok32 (fat zs k)) (h0 : Ok32 (fat zs (fat idx 0))) : Ok32 (loM zs idx) ∧ Ok32 (loL zs idx) ∧ srung Ieee.single (loM zs idx) = srung Ieee.single (loL zs idx) :=
  fold_same (minV .f32) lowF min (fun _ _ => minV_cases) (fun _ _ => lowF_cases) idx _ _ hz h0 h0 rfl
theorem hi_same {zs idx : List Nat} (hz : ∀ k ∈ idx, Ok32 (fat zs k)) (h0 : Ok32 (fat zs (fat idx 0))) : Ok32 (hiM zs idx) ∧ Ok32 (hiL zs idx) ∧ srung Ieee.single (hiM zs idx) = srung Ieee.single (hiL zs idx) :=
  fold_same (maxV .f32) highF max (fun _ _ => maxV_cases) (fun _ _ => highF_cases) idx _ _ hz h0 h0 rfl
theorem sub_right {x g h : Nat} (hx : Ok32 x) (hg : Ok32 g) (hh : Ok32 h) (e : srung Ieee.single g = srung Ieee.single h) : srung Ieee.single (fop .sub .f32 x g) = srung Ieee.single (fop .sub .f32 x h) := by
  rcases srung_inj hg.1 hh.1 e with e | ⟨h1, h2⟩
  · rw [e]
  · exact sub_zeros hx.2 h1 h2
theorem sub_left {x g h : Nat} (hx : Ok32 x) (hg : Ok32 g) (hh : Ok32 h) (e : srung Ieee.single g = srung Ieee.single h) : srung Ieee.single (fop .sub .f32 g x) = srung Ieee.single (fop .sub .f32 h x) := by
  rcases srung_inj hg.1 hh.1 e with e | ⟨h1, h2⟩
  · rw [e]
  · exact zeros_sub hx.2 h1 h2
theorem sub_notN {x y : Nat} (hx : Ok32 x) (hy : Ok32 y) : isN .f32 (fop .sub .f32 x y) = false := by
  obtain ⟨m, i, r1, _, _⟩ := read_fin Ieee.single x hx.2
  obtain ⟨n, j, s1, _, _⟩ := read_fin Ieee.single y hy.2
  have hf : FloatKind.f32.format = Ieee.single := rfl
  have hs : ∃ r, floatBits .sub .f32 x y = some r := by
    unfold floatBits
    rw [hf]
    simp only [Ieee.Format.sub, r1, s1, Ieee.Datum.opposite, Ieee.Datum.sum]; exact ⟨_, rfl⟩
  obtain ⟨r, hr⟩ := hs
  unfold fop; rw [hr]; exact bits_notNaN hr
/-- The greatest of a number that isn't negative and of another one: only the other one's place counts. -/
theorem max_same {m a b : Nat} (hm : isN .f32 m = false) (hs : sgn Ieee.single m = false) (ha : a < 2 ^ 32) (hb : b < 2 ^ 32) (ga : isN .f32 a = false) (gb : isN .f32 b = false) (hd : (FloatKind.f32.decode m).neg = false) (e : srung Ieee.single a = srung Ieee.single b) : maxV .f32 m a = highF m b := by
  unfold maxV highF
  rw [hm, ga, if_neg (by decide), o_lt hm ga, o_gt hm ga, o_gt gb hm]
  have hf : FloatKind.f32.format = Ieee.single := rfl
  rw [hf, hd]
  have hp : 0 ≤ srung Ieee.single m := by unfold srung; rw [hs]; simp
  have h4 : (if decide (srung Ieee.single m < srung Ieee.single b) = true then b else m) = (if srung Ieee.single m < srung Ieee.single a then b else m) := by
    rw [e]; by_cases h : srung Ieee.single m < srung Ieee.single b
    · rw [if_pos h, if_pos (decide_eq_true h)]
    · rw [if_neg h, if_neg (by rw [decide_eq_true_eq]; exact h)]
  rw [h4]
  by_cases h1 : srung Ieee.single m < srung Ieee.single a
  · rw [if_pos (decide_eq_true h1), if_pos h1]
    rcases srung_inj ha hb e with h | ⟨h2, h3⟩
    · exact h
    · have := srung_of_zero (f := Ieee.single) h2; omega
  · rw [if_neg (show ¬ decide (srung Ieee.single m < srung Ieee.single a) = true by rw [decide_eq_true_eq]; exact h1), if_neg h1]
    split
    · rfl
    · rw [if_neg (by decide)]
/-- What stays the sign. -/
theorem high_sgn {m b : Nat} (hm : isN .f32 m = false) (hs : sgn Ieee.single m = false) (gb : isN .f32 b = false) : isN .f32 (highF m b) = false ∧ sgn Ieee.single (highF m b) = false := by
  unfold highF
  rw [o_gt gb hm]
  have hf : FloatKind.f32.format = Ieee.single := rfl
  rw [hf]
  by_cases h1 : srung Ieee.single m < srung Ieee.single b
  · rw [if_pos (decide_eq_true h1)]
    refine ⟨gb, ?_⟩
    have hp : 0 ≤ srung Ieee.single m := by unfold srung; rw [hs]; simp
    cases h : sgn Ieee.single b
    · rfl
    · have : srung Ieee.single b ≤ 0 := by unfold srung; rw [h]; simp
      omega
  · rw [if_neg (by rw [decide_eq_true_eq]; exact h1)]; exact ⟨hm, hs⟩
/-! ### give -/
def giveP (W H : Int) (zs : List Nat) : PRes := if validB W H zs = true then ⟨W, H, zs, true⟩ else PRes.no
theorem near_valid {W H : Int} {zs' zs : List Nat} (h : near zs' zs) : validB W H zs' = validB W H zs := by
  unfold validB finL; rw [near_fin h, h.1]
theorem valid_fin {W H : Int} {zs : List Nat} (h : validB W H zs = true) : zs.all (finB .f32) = true := by
  simp [validB, finL] at h ⊢; exact h.2
theorem valid_len {W H : Int} {zs : List Nat} (h : validB W H zs = true) : (zs.length : Int) = W * H ∧ zs.length ≤ 256 ∧ 1 ≤ zs.length := by
  simp only [validB, Bool.and_eq_true, decide_eq_true_eq] at h
  obtain ⟨⟨h1, h2⟩, h3⟩ := h
  have := side_mul h1
  exact ⟨h2, by omega, by omega⟩
/-! ### atDefs -/
def minI (a b : Int) : Int := if a < b then a else b
def maxI (a b : Int) : Int := if b < a then a else b
theorem clamp_in (n : Nat) (h : 1 ≤ n) (i : Int) : ∃ c : Nat, maxI 0 (minI ((n : Int) - 1) i) = (c : Int) ∧ c < n := by
  refine ⟨(maxI 0 (minI ((n : Int) - 1) i)).toNat, ?_, ?_⟩
  · unfold maxI minI; split <;> split <;> omega
  · unfold maxI minI; split <;> split <;> omega
theorem clamp_is {n c : Nat} (h : c < n) : maxI 0 (minI ((n : Int) - 1) (c : Int)) = (c : Int) := by
  unfold maxI minI; split <;> split <;> omega
theorem mul_bound {cy Wn Hn : Nat} (hy : cy < Hn) (hW : Wn ≤ 16) (hH : Hn ≤ 16) : cy * Wn + Wn ≤ Wn * Hn ∧ cy * Wn ≤ 256 := by
  have h1 : (cy + 1) * Wn ≤ Hn * Wn := Nat.mul_le_mul_right _ (by omega)
  rw [Nat.succ_mul, Nat.mul_comm Hn Wn] at h1
  have h2 : Wn * Hn ≤ 16 * 16 := Nat.mul_le_mul hW hH
  exact ⟨h1, by omega⟩
/-! ### winDefs -/
def winB (Wn : Nat) (l t r b : Int) (k : Nat) : Bool := decide (l ≤ ((k % Wn : Nat) : Int)) && decide (((k % Wn : Nat) : Int) ≤ r) && (decide (t ≤ ((k / Wn : Nat) : Int)) && decide (((k / Wn : Nat) : Int) ≤ b))
def winL (Wn N : Nat) (l t r b : Int) : List Nat := (List.range N).filter (winB Wn l t r b)
theorem winL_zero (Wn : Nat) (l t r b : Int) : winL Wn 0 l t r b = [] := rfl
theorem winL_yes {Wn k : Nat} {l t r b : Int} (h : winB Wn l t r b k = true) : winL Wn (k + 1) l t r b = winL Wn k l t r b ++ [k] := by
  unfold winL; rw [List.range_succ, List.filter_append]; simp [h]
theorem winL_no {Wn k : Nat} {l t r b : Int} (h : winB Wn l t r b k = false) : winL Wn (k + 1) l t r b = winL Wn k l t r b := by
  unfold winL; rw [List.range_succ, List.filter_append]; simp [h]
theorem winL_skip {Wn : Nat} {l t r b : Int} (m : Nat) : ∀ n, m ≤ n → (∀ k, m ≤ k → k < n → winB Wn l t r b k = false) → winL Wn n l t r b = winL Wn m l t r b
  | 0, h, _ => by obtain rfl : m = 0 := by omega
                  rfl
  | n + 1, h, hn => by
    by_cases e : m = n + 1
    · rw [e]
    · rw [winL_no (hn n (by omega) (by omega))]
      exact winL_skip m n (by omega) fun k h1 h2 => hn k h1 (by omega)
theorem winL_len (Wn N : Nat) (l t r b : Int) : (winL Wn N l t r b).length ≤ N := by
  unfold winL; have h := List.length_filter_le (winB Wn l t r b) (List.range N); rwa [List.length_range] at h
theorem winL_lt {Wn N : Nat} {l t r b : Int} {k : Nat} (h : k ∈ winL Wn N l t r b) : k < N := by
  unfold winL at h; exact List.mem_range.1 (List.mem_filter.1 h).1
theorem row_div {Wn x y k : Nat} (hk : k = y * Wn + x) (hx : x < Wn) : k % Wn = x ∧ k / Wn = y := by
  subst hk
  exact ⟨by rw [Nat.mul_comm y Wn, Nat.mul_add_mod, Nat.mod_eq_of_lt hx], by rw [Nat.mul_comm y Wn, Nat.mul_add_div (by omega), Nat.div_eq_of_lt hx, Nat.add_zero]⟩
theorem winB_at {Wn x y k : Nat} {l t r b : Int} (hk : k = y * Wn + x) (hx : x < Wn) : winB Wn l t r b k = (decide (l ≤ (x : Int)) && decide ((x : Int) ≤ r) && (decide (t ≤ (y : Int)) && decide ((y : Int) ≤ b))) := by
  obtain ⟨h1, h2⟩ := row_div hk hx
  unfold winB; rw [h1, h2]
/-- The rest of a row lies outside. -/
theorem winL_row {Wn x y : Nat} {l t r b : Int} (hx : x ≤ Wn) (h : (y : Int) < t ∨ r < (x : Int)) : winL Wn ((y + 1) * Wn) l t r b = winL Wn (y * Wn + x) l t r b := by
  refine winL_skip _ _ (by rw [Nat.succ_mul]; omega) fun k h1 h2 => ?_
  rw [Nat.succ_mul] at h2
  obtain ⟨j, rfl⟩ : ∃ j, k = y * Wn + j := ⟨k - y * Wn, by omega⟩
  rw [winB_at rfl (by omega : j < Wn)]
  rcases h with h | h
  · rw [decide_eq_false (by omega : ¬ t ≤ (y : Int))]; simp
  · rw [decide_eq_false (by omega : ¬ ((j : Nat) : Int) ≤ r)]; simp
/-- All that follows lies below. -/
theorem winL_rest {Wn x y N : Nat} {l t r b : Int} (hW : 1 ≤ Wn) (hN : y * Wn + x ≤ N) (h : b < (y : Int)) : winL Wn N l t r b = winL Wn (y * Wn + x) l t r b := by
  refine winL_skip _ _ hN fun k h1 h2 => ?_
  have h3 : y ≤ k / Wn := by
    have : y * Wn / Wn ≤ k / Wn := Nat.div_le_div_right (by omega)
    rwa [Nat.mul_div_cancel _ (by omega)] at this
  unfold winB
  rw [decide_eq_false (by omega : ¬ ((k / Wn : Nat) : Int) ≤ b)]
  simp
/-- Sums from left to right. -/
def sumL (zs : List Nat) (idx : List Nat) : Nat := idx.foldl (fun s k => fop .add .f32 s (fat zs k)) 0
theorem sumL_snoc (zs idx : List Nat) (k : Nat) : sumL zs (idx ++ [k]) = fop .add .f32 (sumL zs idx) (fat zs k) := by unfold sumL; rw [List.foldl_append]; rfl
theorem take_snoc {idx : List Nat} {j : Nat} (h : j < idx.length) : idx.take (j + 1) = idx.take j ++ [fat idx j] := by
  unfold fat
  rw [List.take_succ_eq_append_getElem h, List.getD, List.getElem?_eq_getElem h]; rfl
def wmeanV (zs idx : List Nat) : Nat := fop .quo .f32 (sumL zs idx) (floatOfInt .f32 (idx.length : Int))
/-- Pixels with their places, as they lie in memory. -/
def spotC (Wn : Nat) (zs : List Nat) (k : Nat) : List Value := [.int .i64 ((k % Wn : Nat) : Int), .int .i64 ((k / Wn : Nat) : Int), .float .f32 (fat zs k)]
def spotsC (Wn : Nat) (zs idx : List Nat) : List Value := idx.flatMap (spotC Wn zs)
theorem spotsC_snoc (Wn : Nat) (zs idx : List Nat) (k : Nat) : spotsC Wn zs (idx ++ [k]) = spotsC Wn zs idx ++ spotC Wn zs k := by simp [spotsC]
theorem spotsC_len (Wn : Nat) (zs : List Nat) : ∀ idx : List Nat, (spotsC Wn zs idx).length = idx.length * 3
  | [] => rfl
  | k :: idx => by
    have h := spotsC_len Wn zs idx
    unfold spotsC at h ⊢
    rw [List.flatMap_cons, List.length_append, h]; simp [spotC]; omega
theorem spotsC_at (Wn : Nat) (zs : List Nat) : ∀ (idx : List Nat) (j c : Nat), j < idx.length → c < 3 → (spotsC Wn zs idx)[j * 3 + c]? = (spotC Wn zs (fat idx j))[c]?
  | [], j, c, h, _ => by simp at h
  | k :: idx, 0, c, _, hc => by
    unfold spotsC
    rw [List.flatMap_cons, List.getElem?_append_left (by simp [spotC]; omega), Nat.zero_mul, Nat.zero_add]; rfl
  | k :: idx, j + 1, c, h, hc => by
    have h2 := spotsC_at Wn zs idx j c (by simpa using h) hc
    unfold spotsC at h2 ⊢
    rw [List.flatMap_cons, List.getElem?_append_right (by simp [spotC]; omega)]
    have e : (j + 1) * 3 + c - (spotC Wn zs k).length = j * 3 + c := by simp [spotC]; omega
    rw [e, h2]; rfl
/-- A slice of them, of the call's own. -/
def Spots (T : TypeId) (Wn : Nat) (zs : List Nat) (w : World) (B : Nat) (v : Value) (idx : List Nat) : Prop := w.ownsRow B T 3 v idx.length (spotsC Wn zs idx)
theorem Spots.below {T : TypeId} {Wn : Nat} {zs : List Nat} {w w' : World} {B : Nat} {v : Value} {idx : List Nat} (h : Spots T Wn zs w B v idx) (hb : Below w.heap.size w w') : Spots T Wn zs w' B v idx :=
  World.ownsRow.kept h (grown_of_below hb) (by cases v.ownBlock <;> simp)
theorem Spots.at {T : TypeId} {Wn : Nat} {zs : List Nat} {w : World} {B : Nat} {v : Value} {idx : List Nat} (h : Spots T Wn zs w B v idx) {j : Nat} (hj : j < idx.length) :
    ∃ g c, v = .slice (some ⟨g, 0, none⟩) idx.length c ∧ g < w.heap.size ∧ idx.length ≤ c ∧ c ≤ maxLen ∧ w.cell? ⟨g, j * 3, none⟩ = some (.int .i64 ((fat idx j % Wn : Nat) : Int)) ∧ w.cell? ⟨g, j * 3 + 1, none⟩ = some (.int .i64 ((fat idx j / Wn : Nat) : Int)) ∧ w.cell? ⟨g, j * 3 + 2, none⟩ = some (.float .f32 (fat zs (fat idx j))) := by
  rcases h.2 with ⟨_, h0⟩ | ⟨g, c, cur, e, hb, hg, hc, hm, hs, ht⟩
  · omega
  · have hcell : ∀ i, i < 3 → w.cell? ⟨g, j * 3 + i, none⟩ = (spotC Wn zs (fat idx j))[i]? := by
      intro i hi
      rw [cell_of_row w g _ cur T (0, 0) hg, ← spotsC_at Wn zs idx j i hj hi, ← ht, List.getElem?_take, if_pos (by omega), Array.getElem?_toList]
    exact ⟨g, c, e, (Array.getElem?_eq_some_iff.1 hg).1, hc, hm, hcell 0 (by omega), hcell 1 (by omega), hcell 2 (by omega)⟩
theorem Spots.mono {T : TypeId} {Wn : Nat} {zs : List Nat} {w : World} {B B' : Nat} {v : Value} {idx : List Nat} (h : Spots T Wn zs w B v idx) (hB : B' ≤ B) : Spots T Wn zs w B' v idx := by
  refine ⟨h.1, ?_⟩
  rcases h.2 with h' | ⟨g, c, cur, h1, h2, h3⟩
  · exact .inl h'
  · exact .inr ⟨g, c, cur, h1, Nat.le_trans hB h2, h3⟩
theorem Spots.isSlice {T : TypeId} {Wn : Nat} {zs : List Nat} {w : World} {B : Nat} {v : Value} {idx : List Nat} (h : Spots T Wn zs w B v idx) : ∃ a c, v = .slice a idx.length c := by
  rcases h.2 with ⟨e, h0⟩ | ⟨g, c, cur, e, _⟩
  · exact ⟨_, _, by rw [e, h0]⟩
  · exact ⟨_, _, e⟩
theorem cell1_new (w : World) (T : TypeId) (u0 : Value) (b : Nat) (hb : b = w.heap.size) (j : Nat) (u : Value) (hj : [u0][j]? = some u) : (w.alloc (.cells #[u0] T)).cell? ((⟨b, 0, none⟩ : Addr).add j) = some u := by
  subst hb
  have e : (⟨w.heap.size, 0, none⟩ : Addr).add j = ⟨w.heap.size, j, none⟩ := by cases j <;> simp [Addr.add]
  rw [e, cell_of_row _ w.heap.size j _ T (0, 0) (heap_alloc_new w _)]
  simpa using hj
theorem cells3_new (w : World) (T : TypeId) (u0 u1 u2 : Value) (b : Nat) (hb : b = w.heap.size) (j : Nat) (u : Value) (hj : [u0, u1, u2][j]? = some u) : (w.alloc (.cells #[u0, u1, u2] T)).cell? ((⟨b, 0, none⟩ : Addr).add j) = some u := by
  subst hb
  have e : (⟨w.heap.size, 0, none⟩ : Addr).add j = ⟨w.heap.size, j, none⟩ := by cases j <;> simp [Addr.add]
  rw [e, cell_of_row _ w.heap.size j _ T (0, 0) (heap_alloc_new w _)]
  simpa using hj
/-! ### bounds -/
def loP (zs idx : List Nat) (j : Nat) : Nat := (idx.take j).foldl (fun m k => minV .f32 m (fat zs k)) (fat zs (fat idx 0))
def hiP (zs idx : List Nat) (j : Nat) : Nat := (idx.take j).foldl (fun m k => maxV .f32 m (fat zs k)) (fat zs (fat idx 0))
theorem loP_succ {zs idx : List Nat} {j : Nat} (h : idx.take (j + 1) = idx.take j ++ [fat idx j]) : loP zs idx (j + 1) = minV .f32 (loP zs idx j) (fat zs (fat idx j)) := by unfold loP; rw [h, List.foldl_append]; rfl
theorem hiP_succ {zs idx : List Nat} {j : Nat} (h : idx.take (j + 1) = idx.take j ++ [fat idx j]) : hiP zs idx (j + 1) = maxV .f32 (hiP zs idx j) (fat zs (fat idx j)) := by unfold hiP; rw [h, List.foldl_append]; rfl
theorem c_boundsOf (Wn : Nat) (zs idx : List Nat) (B : Nat) (v : Value) (w : World) (hs : Spots 113 Wn zs w B v idx) (hn : idx.length ≤ 256) (h1 : 1 ≤ idx.length) (hz : ∀ k ∈ idx, Ok32 (fat zs k)) :
    Calls Try.prog 97 #[v] w (fun e w' => ∃ n m, e = .returned (.tuple #[.float .f32 (pick .f32 (loM zs idx) n), .float .f32 (pick .f32 (hiM zs idx) m)]) ∧ Below w.heap.size w w') := by
  obtain ⟨g, c, e, hg, hc1, hc2, h00, h01, h02⟩ := hs.at (j := 0) (by omega)
  subst e
  obtain ⟨n, hn2⟩ : ∃ n, n = idx.length := ⟨_, rfl⟩
  have hnn := (hz _ (fat_mem (show 0 < idx.length by omega))).notN
  have E1 := Lib.hid (show loP zs idx n = loM zs idx by unfold loP loM; rw [List.take_of_length_le (by omega)])
  have E2 := Lib.hid (show hiP zs idx n = hiM zs idx by unfold hiP hiM; rw [List.take_of_length_le (by omega)])
  rw [← E1.out, ← E2.out]
  rw [← hn2] at hn h1 hs hc1 ⊢
  have HT := Lib.hid (fun (j : Nat) (hj : j < n) => take_snoc (idx := idx) (j := j) (by omega))
  have HSp := Lib.hid (fun (j : Nat) (hj : j < n) (wr : World) (hB : Below w.heap.size w wr) => (by
    obtain ⟨g', c', e', hg', _, _, q0, q1, q2⟩ := (Spots.below (v := .slice (some ⟨g, 0, none⟩) n c) (idx := idx) (by exact hs) hB).at (j := j) (by omega)
    simp only [Value.slice.injEq, Option.some.injEq, Addr.mk.injEq, and_true] at e'
    obtain ⟨rfl, _⟩ := e'
    exact ⟨q0, q1, q2⟩ : wr.cell? ⟨g, j * 3, none⟩ = some (.int .i64 ((fat idx j % Wn : Nat) : Int)) ∧ wr.cell? ⟨g, j * 3 + 1, none⟩ = some (.int .i64 ((fat idx j / Wn : Nat) : Int)) ∧ wr.cell? ⟨g, j * 3 + 2, none⟩ = some (.float .f32 (fat zs (fat idx j)))))
  have HG := Lib.hid hg
  have hm2 : n ≤ c := hc1
  clear hn2 hs hz hc1
  have l0 : loP zs idx 0 = fat zs (fat idx 0) := rfl
  have l1 : hiP zs idx 0 = fat zs (fat idx 0) := rfl
  have L0 := Lib.hid l0
  have L1 := Lib.hid l1
  have NN := Lib.hid hnn
  clear l0 l1 hnn
  simp only [Nat.zero_mul, Nat.zero_add] at h00 h01 h02
  have h02' : w.cell? ⟨g, 2, none⟩ = some (.float .f32 (fat zs (fat idx 0))) := h02
  have hpos : (0 : Int) < (n : Int) := by omega
  have hpos2 : ¬ (n = 0) := by omega
  have hpos3 : 0 < n := by omega
  go_enter Try.func97, Try.ntmps97
  rw [← w.drewN_zero]
  go_wp2_with fail
  refine wp_region_N (fun _ _ _ => True) (by kernel_rfl) (by kernel_rfl) ?_; (repeat (first | ((with_reducible show wpN _ _ _ _ _ (Oper.mk _ (Op.binOp _ _ _ _ _) _ _ _ none :: _) _); refine wpN_fop rfl _ _ _ _ _ rfl _ _ _ rfl rfl (by decide) ?_; intro _) | ((with_reducible show wpN _ _ _ _ _ (Oper.mk _ (Op.convert _ _ _) _ _ _ none :: _) _); refine wpN_cvU rfl 43 49 _ rfl (Option.isSome_iff_exists.2 ⟨_, Try.underlying43⟩) Try.underlying49 _ rfl ?_; intro _) | ((with_reducible show wpN _ _ _ _ _ (Oper.mk _ _ _ _ _ (some _) :: _) _); (with_reducible refine wpN_off ?_ ?_); focus rfl; (simp only [Act.put, List.setIfInBounds_toArray, List.set_cons_zero, List.set_cons_succ])) | ((with_reducible show wpN _ _ _ _ _ (Oper.mk _ _ _ _ _ (some _) :: _) _); ((with_reducible refine wpN_on ?_ (fun K hK => ?_)); (focus rfl); intro _; go_simp; first | (refine uponN_value (hK _ ?_)) | (fail; refine hK _ ?_)); clear hK K) | (((with_reducible refine wpN_plain rfl (fun K hK => ?_)); intro _; go_simp; first | (refine uponN_value (hK _ ?_)) | (fail; refine hK _ ?_)); clear hK K) | ((with_reducible refine wpN_step (fun K hK => ?_)); go_simp; first | (refine hK _ ?_) | (intro _; first | (refine uponN_value (hK _ ?_)) | (fail; refine hK _ ?_)); clear hK K))); refine wpN_nil ?_; intro _
  rename_i m5
  have b5 := below_drewN (Below.refl w.heap.size w) m5
  have z5 : w.heap.size ≤ (w.drewN m5).heap.size := b5.size
  have B5 := Lib.hid b5
  clear b5 h00 h01 h02 h02'
  generalize World.drewN w m5 = w5 at *
  go_wp2_with fail
  go_loopw [4, 5, 18] (fun s4 s5 s18 wr => ∃ j m4 m5 : Nat, j ≤ n ∧ s18 = .int .i64 (j : Int) ∧ s4 = .float .f32 (pick .f32 (loP zs idx j) m4) ∧ s5 = .float .f32 (pick .f32 (hiP zs idx j) m5) ∧ Below w.heap.size w wr) (fun _ _ s18 _ => n - (intOf s18).toNat)
  case atStart => exact ⟨0, 0, 0, Nat.zero_le _, rfl, by rw [L0.out, pick_not NN.out], by rw [L1.out, pick_not NN.out], B5.out⟩
  case round =>
    obtain ⟨j, m4, m5, hj, rfl, rfl, rfl, hB⟩ := hrel
    have HB := Lib.hid hB
    by_cases hlt : j < n
    · obtain ⟨q0, q1, q2⟩ := HSp.out j hlt wr hB
      have T1 := Lib.hid (loP_succ (zs := zs) (HT.out j hlt))
      have T2 := Lib.hid (hiP_succ (zs := zs) (HT.out j hlt))
      have hsz := hB.size
      clear hB
      generalize fat idx j = k at *
      generalize k % Wn = kx at *
      generalize k / Wn = ky at *
      generalize hw4 : wr.alloc (Obj.cells #[.int .i64 (kx : Int), .int .i64 (ky : Int), .float .f32 (fat zs k)] 113) = w4
      have HW4 := Lib.hid hw4
      have b4 : Below wr.heap.size wr w4 := by subst hw4; exact (Below.refl _ _).alloc (Nat.le_refl _) _
      have VS := Lib.hid (show Var w4 wr.heap.size #[.int .i64 (kx : Int), .int .i64 (ky : Int), .float .f32 (fat zs k)] by subst hw4; exact Var.new _ _ _)
      have HB4 := Lib.hid (HB.out.trans (b4.mono (by omega)))
      have z4 : wr.heap.size < w4.heap.size := VS.out.lt
      have KS := Lib.hid (fun (w' : World) (hE : Below w4.heap.size w4 w') => (VS.out.keep hE).three)
      clear hw4 b4
      go_wp2_with fail
      rw [HW4.out]
      refine wp_region_facts 10 (fun a b => Below a.heap.size a b) (fun _ => Below.refl _ _) (fun _ _ _ h h' => h.trans (h'.mono h.size)) (Below.refl _ _).drew (by kernel_rfl) (by kernel_rfl) (by kernel_rfl) (by kernel_rfl) ?_
      simp only [List.take_succ_cons, List.take_zero, List.drop_succ_cons, List.drop_zero]
      (with_reducible apply wpF_val); (focus (intro vs w' hE hk; (obtain ⟨d0, d1, d2⟩ := KS.out w' hE); go_simp; exact ⟨Below.refl _ _, rfl⟩)); (simp only [Act.put, List.setIfInBounds_toArray, List.set_cons_zero, List.set_cons_succ, List.cons_append, List.nil_append])
      (with_reducible apply wpF_val); (focus (intro vs w' hE hk; (obtain ⟨d0, d1, d2⟩ := KS.out w' hE); go_simp; exact ⟨Below.refl _ _, rfl⟩)); (simp only [Act.put, List.setIfInBounds_toArray, List.set_cons_zero, List.set_cons_succ, List.cons_append, List.nil_append])
      (with_reducible apply wpF_val); (focus (intro vs w' hE hk; (obtain ⟨d0, d1, d2⟩ := KS.out w' hE); go_simp; exact ⟨Below.refl _ _, rfl⟩)); (simp only [Act.put, List.setIfInBounds_toArray, List.set_cons_zero, List.set_cons_succ, List.cons_append, List.nil_append])
      refine wpF_fact (fun u _ => ∃ m, u = .float .f32 (pick .f32 (loP zs idx (j + 1)) m)) (fun _ _ _ h _ => h) (fun vs w' hE hk => ?_) ?_; (focus (go_simp; obtain ⟨n', m', hr⟩ := run_fmin (P := Try.prog) (w := w') #[43, 43] 43 .f32 (pick .f32 (loP zs idx j) m4) (fat zs k); rw [hr]; exact ⟨below_drewN (Below.refl _ _) _, n', by rw [T1.out, minV_pick_l]⟩)); (simp only [Act.put, List.setIfInBounds_toArray, List.set_cons_zero, List.set_cons_succ, List.cons_append, List.nil_append])
      (with_reducible apply wpF_val); (focus (intro vs w' hE hk; (obtain ⟨d0, d1, d2⟩ := KS.out w' hE); go_simp; exact ⟨Below.refl _ _, rfl⟩)); (simp only [Act.put, List.setIfInBounds_toArray, List.set_cons_zero, List.set_cons_succ, List.cons_append, List.nil_append])
      (with_reducible apply wpF_val); (focus (intro vs w' hE hk; (obtain ⟨d0, d1, d2⟩ := KS.out w' hE); go_simp; exact ⟨Below.refl _ _, rfl⟩)); (simp only [Act.put, List.setIfInBounds_toArray, List.set_cons_zero, List.set_cons_succ, List.cons_append, List.nil_append])
      (with_reducible apply wpF_val); (focus (intro vs w' hE hk; (obtain ⟨d0, d1, d2⟩ := KS.out w' hE); go_simp; exact ⟨Below.refl _ _, rfl⟩)); (simp only [Act.put, List.setIfInBounds_toArray, List.set_cons_zero, List.set_cons_succ, List.cons_append, List.nil_append])
      refine wpF_fact (fun u _ => ∃ m, u = .float .f32 (pick .f32 (hiP zs idx (j + 1)) m)) (fun _ _ _ h _ => h) (fun vs w' hE hk => ?_) ?_; (focus (go_simp; obtain ⟨n', m', hr⟩ := run_fmax (P := Try.prog) (w := w') #[43, 43] 43 .f32 (pick .f32 (hiP zs idx j) m5) (fat zs k); rw [hr]; exact ⟨below_drewN (Below.refl _ _) _, n', by rw [T2.out, maxV_pick_l]⟩)); (simp only [Act.put, List.setIfInBounds_toArray, List.set_cons_zero, List.set_cons_succ, List.cons_append, List.nil_append])
      refine wpF_fact (fun u _ => ∃ m, u = .float .f32 (pick .f32 (loP zs idx (j + 1)) m)) (fun _ _ _ h _ => h) (fun vs w' hE hk => ?_) ?_; (focus (obtain ⟨n3, h3⟩ := hk 3 (by kernel_rfl); simp only [h3]; go_simp; exact ⟨Below.refl _ _, n3, rfl⟩)); (simp only [Act.put, List.setIfInBounds_toArray, List.set_cons_zero, List.set_cons_succ, List.cons_append, List.nil_append])
      refine wpF_fact (fun u _ => ∃ m, u = .float .f32 (pick .f32 (hiP zs idx (j + 1)) m)) (fun _ _ _ h _ => h) (fun vs w' hE hk => ?_) ?_; (focus (obtain ⟨n3, h3⟩ := hk 7 (by kernel_rfl); simp only [h3]; go_simp; exact ⟨Below.refl _ _, n3, rfl⟩)); (simp only [Act.put, List.setIfInBounds_toArray, List.set_cons_zero, List.set_cons_succ, List.cons_append, List.nil_append])
      refine wpF_nil (fun vs w' hE hk => ?_)
      obtain ⟨nc, hnc⟩ := hk 3
      obtain ⟨nd, hnd⟩ := hk 7
      obtain ⟨na, hna⟩ := hk 8
      obtain ⟨nb, hnb⟩ := hk 9
      simp only [hna, hnb, hnc, hnd]
      have HE := Lib.hid (HB4.out.trans (hE.mono (by omega)))
      clear hk hE
      go_wp2_with fail
      go_roundw
      case rel => exact ⟨j + 1, na, nb, by omega, by go_num, rfl, rfl, HE.out⟩
      case measure => simp [intOf]; omega
    · obtain rfl : j = n := by omega
      clear hB
      go_wp2_with fail
      go_ret2
      exact ⟨_, _, rfl, HB.out⟩
/-! ### l00In -/
theorem c_l00In (x lo hi : Int) (w : World) (j : Nat) : Calls Try.prog 55 #[.int .i64 x, .int .i64 lo, .int .i64 hi] (w.drewN j) (RetV (.bool (decide (lo ≤ x) && decide (x ≤ hi))) w) := by
  by_cases h1 : lo ≤ x
  · by_cases h2 : x ≤ hi
    · have d1 : decide (lo ≤ x) = true := decide_eq_true h1
      have d2 : decide (x ≤ hi) = true := decide_eq_true h2
      go_enter Try.func55, Try.ntmps55
      go_wp2
      go_ret
      exact ⟨_, by simp [*], rfl⟩
    · have d1 : decide (lo ≤ x) = true := decide_eq_true h1
      have d2 : decide (x ≤ hi) = false := decide_eq_false h2
      go_enter Try.func55, Try.ntmps55
      go_wp2
      go_ret
      exact ⟨_, by simp [*], rfl⟩
  · have d1 : decide (lo ≤ x) = false := decide_eq_false h1
    go_enter Try.func55, Try.ntmps55
    go_wp2
    go_ret
    exact ⟨_, by simp [*], rfl⟩
/-! ### l02Sides -/
theorem c_l02Sides (W H : Int) (w : World) (j : Nat) : Calls Try.prog 115 #[.int .i64 W, .int .i64 H] (w.drewN j) (RetV (.bool (sideB W H)) w) := by
  unfold sideB
  cases hw : (decide (1 ≤ W) && decide (W ≤ 16))
  all_goals
    have HW := Lib.hid hw
    go_enter Try.func115, Try.ntmps115
    go_wp2_with (go_at_call 55; refine (c_l00In _ _ _ _ _).mono ?_; rintro _ _ ⟨_, rfl, rfl⟩)
    go_ret
    exact ⟨_, by simp [HW.out], rfl⟩
/-! ### l01Finite -/
theorem c_l01Finite (v n : Nat) (w : World) (j : Nat) : Calls Try.prog 90 #[.float .f32 (pick .f32 v n)] (w.drewN j) (RetV (.bool (finB .f32 v)) w) := by
  go_enter Try.func90, Try.ntmps90
  go_wp2_with (first | (refine wpList_fop rfl _ _ _ _ _ rfl _ _ _ rfl rfl (by decide) _ ?_; intro _ _) | (refine upon_fop _ _ _ _ _ (by decide) ?_; intro _ _))
  go_ret
  rw [← sub_self_zero]
  exact ⟨_, rfl, rfl⟩
/-! ### l02Finite -/
theorem c_l02Finite (a : Option Addr) (len cap : Nat) (zs : List Nat) (w : World) (j0 : Nat) (hr : IsRowF .f32 w a len cap zs) : Calls Try.prog 116 #[.slice a len cap] (w.drewN j0) (RetV (.bool (finL zs)) w) := by
  obtain ⟨h1, h2, h3, h4, h5⟩ := hr
  unfold maxLen at h3
  have H1 := Lib.hid h1
  clear h1
  go_enter Try.func116, Try.ntmps116
  go_wp2
  go_loopw [3] (fun i wr => ∃ k m : Nat, k ≤ len ∧ i = .int .i64 k ∧ wr = w.drewN m ∧ finL (zs.take k) = true) (fun i _ => len - (intOf i).toNat)
  case atStart => exact ⟨0, j0, Nat.zero_le _, rfl, rfl, rfl⟩
  case round =>
    obtain ⟨k, m, hk, rfl, rfl, hfin⟩ := hrel
    have HFin := Lib.hid hfin
    clear hfin
    by_cases hlt : k < len
    · rcases h5 with h5 | ⟨b, off, rfl, hbl, hc⟩
      · omega
      have hcell : w.cell? ⟨b, off + k, none⟩ = some (.float .f32 (fat zs k)) := hc k hlt
      obtain ⟨n, hn⟩ := pick0 .f32 (fat zs k) (lt_of_wf (h4 _ (by unfold fat; rw [List.getD, List.getElem?_eq_getElem (by have := H1.out; omega)]; exact List.getElem_mem _)))
      rw [hn] at hcell
      have HN := Lib.hid hn
      have HS := Lib.hid (finL_snoc zs k (by have := H1.out; omega))
      cases hf : finB .f32 (fat zs k)
      · have HO := Lib.hid (finL_of zs k (by have := H1.out; omega) hf)
        clear hc h4 hn
        go_wp2_with ((go_at_call 90; refine (c_l01Finite _ _ _ _).mono ?_; rintro _ _ ⟨_, rfl, rfl⟩))
        go_ret
        exact ⟨_, by rw [HO.out]; rfl, rfl⟩
      · have HF := Lib.hid hf
        clear hc h4 hn
        go_wp2_with ((go_at_call 90; refine (c_l01Finite _ _ _ _).mono ?_; rintro _ _ ⟨_, rfl, rfl⟩))
        go_roundw
        case rel => exact ⟨k + 1, _, by omega, by go_num, rfl, by rw [HS.out, HFin.out, HF.out]; rfl⟩
        case measure => simp [intOf]; omega
    · have e : zs.take k = zs := List.take_of_length_le (by have := H1.out; omega)
      have HE := Lib.hid e
      clear h5 h4 e
      go_wp2
      go_ret
      exact ⟨_, by have h := HFin.out; rw [HE.out] at h; rw [h]; rfl, rfl⟩
/-! ### l02Is -/
theorem c_l02Is (W H : Int) (b : Nat) (a : Option Addr) (len cap : Nat) (zs : List Nat) (w : World) (j0 : Nat) (hv : Var w b #[.int .i64 W, .int .i64 H, .slice a len cap]) (hr : IsRowF .f32 w a len cap zs) :
    Calls Try.prog 54 #[.pointer (some ⟨b, 0, none⟩)] (w.drewN j0) (RetV (.bool (validB W H zs)) w) := by
  obtain ⟨p0, p1, p2⟩ := hv.three
  have H1 := Lib.hid hr.1
  have HR := Lib.hid hr
  clear hr hv
  cases hs : sideB W H
  · have e : validB W H zs = false := by simp [validB, hs]
    have E := Lib.hid e
    have C1 := Lib.hid (fun n => (by have h := c_l02Sides W H w n; rwa [hs] at h : Calls Try.prog 115 #[.int .i64 W, .int .i64 H] (w.drewN n) (RetV (.bool false) w)))
    clear e hs
    go_enter Try.func54, Try.ntmps54
    go_wp2
    refine wp_region_N (fun f _ u => (f = 115 → u = .bool false)) (by kernel_rfl) (by kernel_rfl) ?_; (repeat (first | ((with_reducible show wpN _ _ _ _ _ (Oper.mk _ (Op.binOp _ _ _ _ _) _ _ _ none :: _) _); refine wpN_fop rfl _ _ _ _ _ rfl _ _ _ rfl rfl (by decide) ?_; intro _) | ((with_reducible show wpN _ _ _ _ _ (Oper.mk _ (Op.convert _ _ _) _ _ _ none :: _) _); refine wpN_cvU rfl 43 49 _ rfl (Option.isSome_iff_exists.2 ⟨_, Try.underlying43⟩) Try.underlying49 _ rfl ?_; intro _) | ((with_reducible show wpN _ _ _ _ _ (Oper.mk _ _ _ _ _ (some _) :: _) _); (with_reducible refine wpN_off ?_ ?_); focus rfl; (simp only [Act.put, List.setIfInBounds_toArray, List.set_cons_zero, List.set_cons_succ])) | ((with_reducible show wpN _ _ _ _ _ (Oper.mk _ _ _ _ _ (some _) :: _) _); ((with_reducible refine wpN_on ?_ (fun K hK => ?_)); (focus rfl); intro _; go_simp; first | (refine uponN_value (hK _ ?_)) | ((refine uponN_call (callN (v := .bool false) (fun _ => rfl) (C1.out _)) ?_; intro u hu; obtain rfl : u = _ := hu rfl; clear hu); refine hK _ ?_)); clear hK K) | (((with_reducible refine wpN_plain rfl (fun K hK => ?_)); intro _; go_simp; first | (refine uponN_value (hK _ ?_)) | ((refine uponN_call (callN (v := .bool false) (fun _ => rfl) (C1.out _)) ?_; intro u hu; obtain rfl : u = _ := hu rfl; clear hu); refine hK _ ?_)); clear hK K) | ((with_reducible refine wpN_step (fun K hK => ?_)); go_simp; first | (refine hK _ ?_) | (intro _; first | (refine uponN_value (hK _ ?_)) | ((refine uponN_call (callN (v := .bool false) (fun _ => rfl) (C1.out _)) ?_; intro u hu; obtain rfl : u = _ := hu rfl; clear hu); refine hK _ ?_)); clear hK K))); refine wpN_nil ?_; intro _
    go_wp2
    go_ret
    exact ⟨_, by rw [E.out]; rfl, rfl⟩
  · obtain ⟨m1, m2⟩ := side_mul hs
    have mw : IntKind.i64.wrap (W * H) = W * H := IntWalk.i64_in _ (by omega)
    have C1 := Lib.hid (fun n => (by have h := c_l02Sides W H w n; rwa [hs] at h : Calls Try.prog 115 #[.int .i64 W, .int .i64 H] (w.drewN n) (RetV (.bool true) w)))
    have C2 := Lib.hid (fun n => c_l02Finite a len cap zs w n HR.out)
    by_cases hl : (len : Int) = W * H
    · have hd : ((len : Int) == W * H) = true := by simpa using hl
      have e : validB W H zs = finL zs := by simp [validB, hs, H1.out, hl]
      have E := Lib.hid e
      have HL := Lib.hid hl
      clear e hs hl
      go_enter Try.func54, Try.ntmps54
      go_wp2
      refine wp_region_N (fun f _ u => (f = 115 → u = .bool true) ∧ (f = 116 → u = .bool (finL zs))) (by kernel_rfl) (by kernel_rfl) ?_; (repeat (first | ((with_reducible show wpN _ _ _ _ _ (Oper.mk _ (Op.binOp _ _ _ _ _) _ _ _ none :: _) _); refine wpN_fop rfl _ _ _ _ _ rfl _ _ _ rfl rfl (by decide) ?_; intro _) | ((with_reducible show wpN _ _ _ _ _ (Oper.mk _ (Op.convert _ _ _) _ _ _ none :: _) _); refine wpN_cvU rfl 43 49 _ rfl (Option.isSome_iff_exists.2 ⟨_, Try.underlying43⟩) Try.underlying49 _ rfl ?_; intro _) | ((with_reducible show wpN _ _ _ _ _ (Oper.mk _ _ _ _ _ (some _) :: _) _); (with_reducible refine wpN_off ?_ ?_); focus rfl; (simp only [Act.put, List.setIfInBounds_toArray, List.set_cons_zero, List.set_cons_succ])) | ((with_reducible show wpN _ _ _ _ _ (Oper.mk _ _ _ _ _ (some _) :: _) _); ((with_reducible refine wpN_on ?_ (fun K hK => ?_)); (focus rfl); intro _; go_simp; first | (refine uponN_value (hK _ ?_)) | ((first | (refine uponN_call (callN (v := .bool true) ⟨fun _ => rfl, fun h => absurd h (by decide)⟩ (C1.out _)) ?_; intro u hu; obtain rfl : u = _ := hu.1 rfl; clear hu) | (refine uponN_call (callN (v := .bool (finL zs)) ⟨fun h => absurd h (by decide), fun _ => rfl⟩ (C2.out _)) ?_; intro u hu; obtain rfl : u = _ := hu.2 rfl; clear hu)); refine hK _ ?_)); clear hK K) | (((with_reducible refine wpN_plain rfl (fun K hK => ?_)); intro _; go_simp; first | (refine uponN_value (hK _ ?_)) | ((first | (refine uponN_call (callN (v := .bool true) ⟨fun _ => rfl, fun h => absurd h (by decide)⟩ (C1.out _)) ?_; intro u hu; obtain rfl : u = _ := hu.1 rfl; clear hu) | (refine uponN_call (callN (v := .bool (finL zs)) ⟨fun h => absurd h (by decide), fun _ => rfl⟩ (C2.out _)) ?_; intro u hu; obtain rfl : u = _ := hu.2 rfl; clear hu)); refine hK _ ?_)); clear hK K) | ((with_reducible refine wpN_step (fun K hK => ?_)); go_simp; first | (refine hK _ ?_) | (intro _; first | (refine uponN_value (hK _ ?_)) | ((first | (refine uponN_call (callN (v := .bool true) ⟨fun _ => rfl, fun h => absurd h (by decide)⟩ (C1.out _)) ?_; intro u hu; obtain rfl : u = _ := hu.1 rfl; clear hu) | (refine uponN_call (callN (v := .bool (finL zs)) ⟨fun h => absurd h (by decide), fun _ => rfl⟩ (C2.out _)) ?_; intro u hu; obtain rfl : u = _ := hu.2 rfl; clear hu)); refine hK _ ?_)); clear hK K))); refine wpN_nil ?_; intro _
      go_wp2
      go_ret
      exact ⟨_, by rw [E.out]; rfl, rfl⟩
    · have hd : ((len : Int) == W * H) = false := by simpa using hl
      have e : validB W H zs = false := by simp [validB, hs, H1.out, hl]
      have E := Lib.hid e
      clear e hs hl
      go_enter Try.func54, Try.ntmps54
      go_wp2
      refine wp_region_N (fun f _ u => (f = 115 → u = .bool true)) (by kernel_rfl) (by kernel_rfl) ?_; (repeat (first | ((with_reducible show wpN _ _ _ _ _ (Oper.mk _ (Op.binOp _ _ _ _ _) _ _ _ none :: _) _); refine wpN_fop rfl _ _ _ _ _ rfl _ _ _ rfl rfl (by decide) ?_; intro _) | ((with_reducible show wpN _ _ _ _ _ (Oper.mk _ (Op.convert _ _ _) _ _ _ none :: _) _); refine wpN_cvU rfl 43 49 _ rfl (Option.isSome_iff_exists.2 ⟨_, Try.underlying43⟩) Try.underlying49 _ rfl ?_; intro _) | ((with_reducible show wpN _ _ _ _ _ (Oper.mk _ _ _ _ _ (some _) :: _) _); (with_reducible refine wpN_off ?_ ?_); focus rfl; (simp only [Act.put, List.setIfInBounds_toArray, List.set_cons_zero, List.set_cons_succ])) | ((with_reducible show wpN _ _ _ _ _ (Oper.mk _ _ _ _ _ (some _) :: _) _); ((with_reducible refine wpN_on ?_ (fun K hK => ?_)); (focus rfl); intro _; go_simp; first | (refine uponN_value (hK _ ?_)) | ((refine uponN_call (callN (v := .bool true) (fun _ => rfl) (C1.out _)) ?_; intro u hu; obtain rfl : u = _ := hu rfl; clear hu); refine hK _ ?_)); clear hK K) | (((with_reducible refine wpN_plain rfl (fun K hK => ?_)); intro _; go_simp; first | (refine uponN_value (hK _ ?_)) | ((refine uponN_call (callN (v := .bool true) (fun _ => rfl) (C1.out _)) ?_; intro u hu; obtain rfl : u = _ := hu rfl; clear hu); refine hK _ ?_)); clear hK K) | ((with_reducible refine wpN_step (fun K hK => ?_)); go_simp; first | (refine hK _ ?_) | (intro _; first | (refine uponN_value (hK _ ?_)) | ((refine uponN_call (callN (v := .bool true) (fun _ => rfl) (C1.out _)) ?_; intro u hu; obtain rfl : u = _ := hu rfl; clear hu); refine hK _ ?_)); clear hK K))); refine wpN_nil ?_; intro _
      go_wp2
      go_ret
      exact ⟨_, by rw [E.out]; rfl, rfl⟩
/-! ### l02Both -/
def bothB (WA HA : Int) (zA : List Nat) (WB HB : Int) (zB : List Nat) : Bool := validB WA HA zA && validB WB HB zB && WA == WB && HA == HB
theorem c_l02Both (WA HA : Int) (zA : List Nat) (aA : Option Addr) (cA : Nat) (WB HB : Int) (zB : List Nat) (aB : Option Addr) (cB : Nat) (x y : Nat) (w : World) (j : Nat) (vx : Var w x #[.int .i64 WA, .int .i64 HA, .slice aA zA.length cA]) (vy : Var w y #[.int .i64 WB, .int .i64 HB, .slice aB zB.length cB])
    (rA : IsRowF .f32 w aA zA.length cA zA) (rB : IsRowF .f32 w aB zB.length cB zB) (hxy : x ≠ y) : Calls Try.prog 92 #[.pointer (some ⟨x, 0, none⟩), .pointer (some ⟨y, 0, none⟩)] (w.drewN j) (RetV (.bool (bothB WA HA zA WB HB zB)) w) := by
  obtain ⟨p0, p1, p2⟩ := vx.three
  obtain ⟨q0, q1, q2⟩ := vy.three
  have CA := Lib.hid (fun n => c_l02Is WA HA x aA zA.length cA zA w n vx rA)
  have CB := Lib.hid (fun n => c_l02Is WB HB y aB zB.length cB zB w n vy rB)
  clear vx vy rA rB
  unfold bothB
  have hx : ∀ u, (#[Value.pointer (some ⟨x, 0, none⟩)] : Array Value) = #[.pointer (some ⟨y, 0, none⟩)] → u := fun u h => absurd h (by simp <;> omega)
  have hy : ∀ u, (#[Value.pointer (some ⟨y, 0, none⟩)] : Array Value) = #[.pointer (some ⟨x, 0, none⟩)] → u := fun u h => absurd h (by simp <;> omega)
  have HX := Lib.hid hx
  have HY := Lib.hid hy
  clear hx hy
  cases hA : validB WA HA zA
  · have C1 := Lib.hid (fun n => (by have h := CA.out n; rwa [hA] at h : Calls Try.prog 54 #[.pointer (some ⟨x, 0, none⟩)] (w.drewN n) (RetV (.bool false) w)))
    clear CA CB hA
    go_enter Try.func92, Try.ntmps92
    go_wp2
    refine wp_region_N (fun f args u => args = #[.pointer (some ⟨x, 0, none⟩)] → u = .bool false) (by kernel_rfl) (by kernel_rfl) ?_; (repeat (first | ((with_reducible show wpN _ _ _ _ _ (Oper.mk _ (Op.binOp _ _ _ _ _) _ _ _ none :: _) _); refine wpN_fop rfl _ _ _ _ _ rfl _ _ _ rfl rfl (by decide) ?_; intro _) | ((with_reducible show wpN _ _ _ _ _ (Oper.mk _ (Op.convert _ _ _) _ _ _ none :: _) _); refine wpN_cvU rfl 43 49 _ rfl (Option.isSome_iff_exists.2 ⟨_, Try.underlying43⟩) Try.underlying49 _ rfl ?_; intro _) | ((with_reducible show wpN _ _ _ _ _ (Oper.mk _ _ _ _ _ (some _) :: _) _); (with_reducible refine wpN_off ?_ ?_); focus rfl; (simp only [Act.put, List.setIfInBounds_toArray, List.set_cons_zero, List.set_cons_succ])) | ((with_reducible show wpN _ _ _ _ _ (Oper.mk _ _ _ _ _ (some _) :: _) _); ((with_reducible refine wpN_on ?_ (fun K hK => ?_)); (focus rfl); intro _; go_simp; first | (refine uponN_value (hK _ ?_)) | ((refine uponN_call (callN (v := .bool false) (fun _ => rfl) (C1.out _)) ?_; intro u hu; obtain rfl : u = _ := hu rfl; clear hu); refine hK _ ?_)); clear hK K) | (((with_reducible refine wpN_plain rfl (fun K hK => ?_)); intro _; go_simp; first | (refine uponN_value (hK _ ?_)) | ((refine uponN_call (callN (v := .bool false) (fun _ => rfl) (C1.out _)) ?_; intro u hu; obtain rfl : u = _ := hu rfl; clear hu); refine hK _ ?_)); clear hK K) | ((with_reducible refine wpN_step (fun K hK => ?_)); go_simp; first | (refine hK _ ?_) | (intro _; first | (refine uponN_value (hK _ ?_)) | ((refine uponN_call (callN (v := .bool false) (fun _ => rfl) (C1.out _)) ?_; intro u hu; obtain rfl : u = _ := hu rfl; clear hu); refine hK _ ?_)); clear hK K))); refine wpN_nil ?_; intro _
    go_wp2
    go_ret
    exact ⟨_, by simp, rfl⟩
  · have C1 := Lib.hid (fun n => (by have h := CA.out n; rwa [hA] at h : Calls Try.prog 54 #[.pointer (some ⟨x, 0, none⟩)] (w.drewN n) (RetV (.bool true) w)))
    cases hB : validB WB HB zB
    · have C2 := Lib.hid (fun n => (by have h := CB.out n; rwa [hB] at h : Calls Try.prog 54 #[.pointer (some ⟨y, 0, none⟩)] (w.drewN n) (RetV (.bool false) w)))
      clear CA CB hA hB
      go_enter Try.func92, Try.ntmps92
      go_wp2
      refine wp_region_N (fun f args u => (args = #[.pointer (some ⟨x, 0, none⟩)] → u = .bool true) ∧ (args = #[.pointer (some ⟨y, 0, none⟩)] → u = .bool false)) (by kernel_rfl) (by kernel_rfl) ?_; (repeat (first | ((with_reducible show wpN _ _ _ _ _ (Oper.mk _ (Op.binOp _ _ _ _ _) _ _ _ none :: _) _); refine wpN_fop rfl _ _ _ _ _ rfl _ _ _ rfl rfl (by decide) ?_; intro _) | ((with_reducible show wpN _ _ _ _ _ (Oper.mk _ (Op.convert _ _ _) _ _ _ none :: _) _); refine wpN_cvU rfl 43 49 _ rfl (Option.isSome_iff_exists.2 ⟨_, Try.underlying43⟩) Try.underlying49 _ rfl ?_; intro _) | ((with_reducible show wpN _ _ _ _ _ (Oper.mk _ _ _ _ _ (some _) :: _) _); (with_reducible refine wpN_off ?_ ?_); focus rfl; (simp only [Act.put, List.setIfInBounds_toArray, List.set_cons_zero, List.set_cons_succ])) | ((with_reducible show wpN _ _ _ _ _ (Oper.mk _ _ _ _ _ (some _) :: _) _); ((with_reducible refine wpN_on ?_ (fun K hK => ?_)); (focus rfl); intro _; go_simp; first | (refine uponN_value (hK _ ?_)) | ((first | ((with_reducible show uponN _ _ _ _ (Result.ok (Next.enter _ #[Value.pointer (some ⟨x, 0, none⟩)]) _)); refine uponN_call (callN (v := .bool true) ⟨fun _ => rfl, HX.out _⟩ (C1.out _)) ?_; intro u hu; obtain rfl : u = _ := hu.1 rfl; clear hu) | ((with_reducible show uponN _ _ _ _ (Result.ok (Next.enter _ #[Value.pointer (some ⟨y, 0, none⟩)]) _)); refine uponN_call (callN (v := .bool false) ⟨HY.out _, fun _ => rfl⟩ (C2.out _)) ?_; intro u hu; obtain rfl : u = _ := hu.2 rfl; clear hu)); refine hK _ ?_)); clear hK K) | (((with_reducible refine wpN_plain rfl (fun K hK => ?_)); intro _; go_simp; first | (refine uponN_value (hK _ ?_)) | ((first | ((with_reducible show uponN _ _ _ _ (Result.ok (Next.enter _ #[Value.pointer (some ⟨x, 0, none⟩)]) _)); refine uponN_call (callN (v := .bool true) ⟨fun _ => rfl, HX.out _⟩ (C1.out _)) ?_; intro u hu; obtain rfl : u = _ := hu.1 rfl; clear hu) | ((with_reducible show uponN _ _ _ _ (Result.ok (Next.enter _ #[Value.pointer (some ⟨y, 0, none⟩)]) _)); refine uponN_call (callN (v := .bool false) ⟨HY.out _, fun _ => rfl⟩ (C2.out _)) ?_; intro u hu; obtain rfl : u = _ := hu.2 rfl; clear hu)); refine hK _ ?_)); clear hK K) | ((with_reducible refine wpN_step (fun K hK => ?_)); go_simp; first | (refine hK _ ?_) | (intro _; first | (refine uponN_value (hK _ ?_)) | ((first | ((with_reducible show uponN _ _ _ _ (Result.ok (Next.enter _ #[Value.pointer (some ⟨x, 0, none⟩)]) _)); refine uponN_call (callN (v := .bool true) ⟨fun _ => rfl, HX.out _⟩ (C1.out _)) ?_; intro u hu; obtain rfl : u = _ := hu.1 rfl; clear hu) | ((with_reducible show uponN _ _ _ _ (Result.ok (Next.enter _ #[Value.pointer (some ⟨y, 0, none⟩)]) _)); refine uponN_call (callN (v := .bool false) ⟨HY.out _, fun _ => rfl⟩ (C2.out _)) ?_; intro u hu; obtain rfl : u = _ := hu.2 rfl; clear hu)); refine hK _ ?_)); clear hK K))); refine wpN_nil ?_; intro _
      go_wp2
      go_ret
      exact ⟨_, by simp, rfl⟩
    · have C2 := Lib.hid (fun n => (by have h := CB.out n; rwa [hB] at h : Calls Try.prog 54 #[.pointer (some ⟨y, 0, none⟩)] (w.drewN n) (RetV (.bool true) w)))
      clear CA CB hA hB
      cases hW : (WA == WB) <;> cases hH : (HA == HB)
      all_goals
        go_enter Try.func92, Try.ntmps92
        go_wp2
        refine wp_region_N (fun f args u => (args = #[.pointer (some ⟨x, 0, none⟩)] → u = .bool true) ∧ (args = #[.pointer (some ⟨y, 0, none⟩)] → u = .bool true)) (by kernel_rfl) (by kernel_rfl) ?_; (repeat (first | ((with_reducible show wpN _ _ _ _ _ (Oper.mk _ (Op.binOp _ _ _ _ _) _ _ _ none :: _) _); refine wpN_fop rfl _ _ _ _ _ rfl _ _ _ rfl rfl (by decide) ?_; intro _) | ((with_reducible show wpN _ _ _ _ _ (Oper.mk _ (Op.convert _ _ _) _ _ _ none :: _) _); refine wpN_cvU rfl 43 49 _ rfl (Option.isSome_iff_exists.2 ⟨_, Try.underlying43⟩) Try.underlying49 _ rfl ?_; intro _) | ((with_reducible show wpN _ _ _ _ _ (Oper.mk _ _ _ _ _ (some _) :: _) _); (with_reducible refine wpN_off ?_ ?_); focus rfl; (simp only [Act.put, List.setIfInBounds_toArray, List.set_cons_zero, List.set_cons_succ])) | ((with_reducible show wpN _ _ _ _ _ (Oper.mk _ _ _ _ _ (some _) :: _) _); ((with_reducible refine wpN_on ?_ (fun K hK => ?_)); (focus rfl); intro _; go_simp; first | (refine uponN_value (hK _ ?_)) | ((first | ((with_reducible show uponN _ _ _ _ (Result.ok (Next.enter _ #[Value.pointer (some ⟨x, 0, none⟩)]) _)); refine uponN_call (callN (v := .bool true) ⟨fun _ => rfl, HX.out _⟩ (C1.out _)) ?_; intro u hu; obtain rfl : u = _ := hu.1 rfl; clear hu) | ((with_reducible show uponN _ _ _ _ (Result.ok (Next.enter _ #[Value.pointer (some ⟨y, 0, none⟩)]) _)); refine uponN_call (callN (v := .bool true) ⟨HY.out _, fun _ => rfl⟩ (C2.out _)) ?_; intro u hu; obtain rfl : u = _ := hu.2 rfl; clear hu)); refine hK _ ?_)); clear hK K) | (((with_reducible refine wpN_plain rfl (fun K hK => ?_)); intro _; go_simp; first | (refine uponN_value (hK _ ?_)) | ((first | ((with_reducible show uponN _ _ _ _ (Result.ok (Next.enter _ #[Value.pointer (some ⟨x, 0, none⟩)]) _)); refine uponN_call (callN (v := .bool true) ⟨fun _ => rfl, HX.out _⟩ (C1.out _)) ?_; intro u hu; obtain rfl : u = _ := hu.1 rfl; clear hu) | ((with_reducible show uponN _ _ _ _ (Result.ok (Next.enter _ #[Value.pointer (some ⟨y, 0, none⟩)]) _)); refine uponN_call (callN (v := .bool true) ⟨HY.out _, fun _ => rfl⟩ (C2.out _)) ?_; intro u hu; obtain rfl : u = _ := hu.2 rfl; clear hu)); refine hK _ ?_)); clear hK K) | ((with_reducible refine wpN_step (fun K hK => ?_)); go_simp; first | (refine hK _ ?_) | (intro _; first | (refine uponN_value (hK _ ?_)) | ((first | ((with_reducible show uponN _ _ _ _ (Result.ok (Next.enter _ #[Value.pointer (some ⟨x, 0, none⟩)]) _)); refine uponN_call (callN (v := .bool true) ⟨fun _ => rfl, HX.out _⟩ (C1.out _)) ?_; intro u hu; obtain rfl : u = _ := hu.1 rfl; clear hu) | ((with_reducible show uponN _ _ _ _ (Result.ok (Next.enter _ #[Value.pointer (some ⟨y, 0, none⟩)]) _)); refine uponN_call (callN (v := .bool true) ⟨HY.out _, fun _ => rfl⟩ (C2.out _)) ?_; intro u hu; obtain rfl : u = _ := hu.2 rfl; clear hu)); refine hK _ ?_)); clear hK K))); refine wpN_nil ?_; intro _
        go_wp2
        go_ret
        exact ⟨_, by simp, rfl⟩
/-! ### bothDefs -/
theorem bothB_spec {WA HA : Int} {zA : List Nat} {WB HB : Int} {zB : List Nat} (h : bothB WA HA zA WB HB zB = true) : validB WA HA zA = true ∧ validB WB HB zB = true ∧ WA = WB ∧ HA = HB ∧ zA.length = zB.length := by
  simp only [bothB, Bool.and_eq_true, beq_iff_eq] at h
  obtain ⟨⟨⟨h1, h2⟩, rfl⟩, rfl⟩ := h
  have a := (valid_len h1).1
  have b := (valid_len h2).1
  exact ⟨h1, h2, rfl, rfl, by omega⟩
/-! ### meanDefs -/
def meanV (zs : List Nat) : Nat := fop .quo .f32 (sumF .add .f32 0 zs) (floatOfInt .f32 (zs.length : Int))
def numR (v : Nat) : Nat × Bool := if finB .f32 v = true then (v, true) else (0, false)
def meanR (W H : Int) (zs : List Nat) : Nat × Bool := if validB W H zs = true then numR (meanV zs) else (0, false)
theorem mean_len {W H : Int} {zs : List Nat} (h : validB W H zs = true) : zs.length ≤ 256 := by
  simp only [validB, Bool.and_eq_true, decide_eq_true_eq] at h
  obtain ⟨⟨h1, h2⟩, h3⟩ := h
  have := side_mul h1
  omega
theorem pick00 : pick .f32 0 0 = 0 := pick_not (show isN .f32 0 = false from by decide +kernel) 0
/-! ### l04Window -/
/-- A slice of indices, of the call's own. -/
def Idx (T : TypeId) (w : World) (B : Nat) (v : Value) (idx : List Nat) : Prop := w.ownsRow B T 1 v idx.length (idx.map fun (k : Nat) => Value.int .i64 (k : Int))
theorem Idx.below {T : TypeId} {w w' : World} {B : Nat} {v : Value} {idx : List Nat} (h : Idx T w B v idx) (hb : Below w.heap.size w w') : Idx T w' B v idx :=
  World.ownsRow.kept h (grown_of_below hb) (by cases v.ownBlock <;> simp)
theorem Idx.at {T : TypeId} {w : World} {B : Nat} {v : Value} {idx : List Nat} (h : Idx T w B v idx) {j : Nat} (hj : j < idx.length) :
    ∃ g c, v = .slice (some ⟨g, 0, none⟩) idx.length c ∧ g < w.heap.size ∧ B ≤ g ∧ idx.length ≤ c ∧ c ≤ maxLen ∧ w.cell? ⟨g, j, none⟩ = some (.int .i64 ((fat idx j : Nat) : Int)) := by
  rcases h.2 with ⟨_, h0⟩ | ⟨g, c, cur, e, hb, hg, hc, hm, hs, ht⟩
  · omega
  · refine ⟨g, c, e, (Array.getElem?_eq_some_iff.1 hg).1, hb, hc, hm, ?_⟩
    have e2 : (cur.toList.take (idx.length * 1))[j]? = (idx.map fun (k : Nat) => Value.int .i64 (k : Int))[j]? := by rw [ht]
    rw [List.getElem?_take, if_pos (by omega), Array.getElem?_toList] at e2
    rw [cell_of_row w g _ cur T (0, 0) hg, e2, List.getElem?_map]
    unfold fat
    rw [List.getD, List.getElem?_eq_getElem hj]; rfl
theorem Idx.isSlice {T : TypeId} {w : World} {B : Nat} {v : Value} {idx : List Nat} (h : Idx T w B v idx) : ∃ a c, v = .slice a idx.length c := by
  rcases h.2 with ⟨e, h0⟩ | ⟨g, c, cur, e, _⟩
  · exact ⟨_, _, by rw [e, h0]⟩
  · exact ⟨_, _, e⟩
theorem Idx.mono {T : TypeId} {w : World} {B B' : Nat} {v : Value} {idx : List Nat} (h : Idx T w B v idx) (hB : B' ≤ B) : Idx T w B' v idx := by
  refine ⟨h.1, ?_⟩
  rcases h.2 with h' | ⟨g, c, cur, h1, h2, h3⟩
  · exact .inl h'
  · exact .inr ⟨g, c, cur, h1, Nat.le_trans hB h2, h3⟩
theorem infoIdx : (Try.prog.info? 2).map (fun i => (i.zero, i.size, i.bytes)) = some (some (.int .i64 0), 1, 8) := by kernel_rfl
def winI (Wn N : Nat) (i : Nat) (r : Int) : List Nat := winL Wn N (((i % Wn : Nat) : Int) - r) (((i / Wn : Nat) : Int) - r) (((i % Wn : Nat) : Int) + r) (((i / Wn : Nat) : Int) + r)
def inB (d r : Int) : Bool := decide (-r ≤ d) && decide (d ≤ r)
theorem winB_in (Wn i k : Nat) (r : Int) : winB Wn (((i % Wn : Nat) : Int) - r) (((i / Wn : Nat) : Int) - r) (((i % Wn : Nat) : Int) + r) (((i / Wn : Nat) : Int) + r) k = (inB (((k % Wn : Nat) : Int) - ((i % Wn : Nat) : Int)) r && inB (((k / Wn : Nat) : Int) - ((i / Wn : Nat) : Int)) r) := by
  unfold winB inB
  generalize k % Wn = a
  generalize i % Wn = b
  generalize k / Wn = c
  generalize i / Wn = d
  rw [Bool.eq_iff_iff]
  simp only [Bool.and_eq_true, decide_eq_true_eq]
  omega
theorem c_l04Window (Wn Hn : Nat) (b : Nat) (a : Option Addr) (cap : Nat) (zs : List Nat) (i : Nat) (r : Int) (w : World) (hv : Var w b #[.int .i64 (Wn : Int), .int .i64 (Hn : Int), .slice a zs.length cap]) (hW1 : 1 ≤ Wn) (hW2 : Wn ≤ 16) (hH2 : Hn ≤ 16) (hi : i < 256) (hr0 : 0 ≤ r) (hr8 : r ≤ 8) :
    Calls Try.prog 84 #[.pointer (some ⟨b, 0, none⟩), .int .i64 (i : Int), .int .i64 r] w
      (fun e w' => ∃ v, e = .returned v ∧ Below w.heap.size w w' ∧ Idx 2 w' w.heap.size v (winI Wn (Wn * Hn) i r)) := by
  obtain ⟨i0, hinf, hz0, hz1, hz2⟩ := info_parts infoIdx
  have HN : Wn * Hn ≤ 256 := Nat.le_trans (Nat.mul_le_mul hW2 hH2) (by decide)
  obtain ⟨N, hN⟩ : ∃ N, N = Wn * Hn := ⟨_, rfl⟩
  rw [← hN] at HN ⊢
  have mw : IntKind.i64.wrap ((Wn : Int) * (Hn : Int)) = (N : Int) := by rw [hN]; rw [show ((Wn : Int) * (Hn : Int)) = ((Wn * Hn : Nat) : Int) by rw [Int.natCast_mul]]; exact IntWalk.i64_in _ (by omega)
  have MW := Lib.hid mw
  obtain ⟨ix, hix⟩ : ∃ x, x = i % Wn := ⟨_, rfl⟩
  obtain ⟨iy, hiy⟩ : ∃ x, x = i / Wn := ⟨_, rfl⟩
  have hix2 : ix < 16 := by rw [hix]; have := Nat.mod_lt i (show Wn > 0 by omega); omega
  have hiy2 : iy < 256 := by rw [hiy]; exact Nat.lt_of_le_of_lt (Nat.div_le_self _ _) hi
  have HIX := Lib.hid hix
  have HIY := Lib.hid hiy
  have MI := Lib.hid (show (i : Int).tmod (Wn : Int) = (ix : Int) ∧ (i : Int) / (Wn : Int) = (iy : Int) by
    rw [hix, hiy]; exact ⟨by rw [Int.tmod_eq_emod_of_nonneg (by omega), Int.natCast_emod], by rw [Int.natCast_ediv]⟩)
  have KS := Lib.hid (fun (w' : World) (hE : Below w.heap.size w w') => (hv.keep hE).three)
  have CI := Lib.hid (fun (d : Int) (w : World) (n : Nat) => @id (Calls Try.prog 55 #[.int .i64 d, .int .i64 (-r), .int .i64 r] (w.drewN n) (RetV (.bool (inB d r)) w)) (c_l00In d (-r) r w n))
  have mr : IntKind.i64.wrap (-r) = -r := IntWalk.i64_in _ (by omega)
  have HH := Lib.hid hN
  clear hv hN mw hix hiy
  obtain ⟨d0, d1, d2⟩ := KS.out w (Below.refl _ _)
  have hz : ¬ (Wn = 0) := by omega
  go_enter Try.func84, Try.ntmps84
  go_wp2_with fail
  clear d0 d1 d2
  go_loopw [7, 8] (fun s7 s8 wr => ∃ k : Nat, k ≤ N ∧ s8 = .int .i64 (k : Int) ∧ Hid (Idx 2 wr w.heap.size s7 (winI Wn k i r)) ∧ Below w.heap.size w wr) (fun _ s8 _ => N - (intOf s8).toNat)
  case atStart => exact ⟨0, Nat.zero_le _, rfl, Lib.hid (by
    refine ⟨rfl, .inr ⟨w.heap.size, 0, #[], rfl, Nat.le_refl _, ?_, Nat.le_refl _, Nat.zero_le _, rfl, rfl⟩⟩
    have h := heap_alloc_new w (Obj.cells #[] 2)
    simpa using h), (Below.refl _ _).alloc (Nat.le_refl _) _⟩
  case round =>
    obtain ⟨k, hk, rfl, HS, hB⟩ := hrel
    obtain ⟨d0, d1, d2⟩ := KS.out wr hB
    have HB := Lib.hid hB
    have SW := hB.size
    have KD := Lib.hid (fun n => KS.out (wr.drewN n) (below_drewN hB n))
    clear hB
    obtain ⟨u7, c7, e7⟩ := HS.out.isSlice
    subst e7
    obtain ⟨n7, hn7⟩ : ∃ n, n = (winI Wn k i r).length := ⟨_, rfl⟩
    have hlen7 : n7 ≤ 256 := by rw [hn7]; unfold winI; exact Nat.le_trans (winL_len _ _ _ _ _ _) (by omega)
    have HS7 : Hid (Idx 2 wr w.heap.size (.slice u7 n7 c7) (winI Wn k i r)) := by rw [hn7]; exact HS
    rw [← hn7]
    have HN7 := Lib.hid hn7
    clear HS hn7
    have mw := MW.out
    by_cases hlt : k < N
    · have hlt2 : (k : Int) < (N : Int) := by omega
      rw [← wr.drewN_zero]
      go_wp2_with fail
      refine wp_region_N (fun _ _ _ => True) (by kernel_rfl) (by kernel_rfl) ?_; (repeat (first | ((with_reducible show wpN _ _ _ _ _ (Oper.mk _ (Op.binOp _ _ _ _ _) _ _ _ none :: _) _); refine wpN_fop rfl _ _ _ _ _ rfl _ _ _ rfl rfl (by decide) ?_; intro _) | ((with_reducible show wpN _ _ _ _ _ (Oper.mk _ (Op.convert _ _ _) _ _ _ none :: _) _); refine wpN_cvU rfl 43 49 _ rfl (Option.isSome_iff_exists.2 ⟨_, Try.underlying43⟩) Try.underlying49 _ rfl ?_; intro _) | ((with_reducible show wpN _ _ _ _ _ (Oper.mk _ _ _ _ _ (some _) :: _) _); (with_reducible refine wpN_off ?_ ?_); focus rfl; (simp only [Act.put, List.setIfInBounds_toArray, List.set_cons_zero, List.set_cons_succ])) | ((with_reducible show wpN _ _ _ _ _ (Oper.mk _ _ _ _ _ (some _) :: _) _); ((with_reducible refine wpN_on ?_ (fun K hK => ?_)); (focus rfl); intro _; go_simp; first | (refine uponN_value (hK _ ?_)) | (fail; refine hK _ ?_)); clear hK K) | (((with_reducible refine wpN_plain rfl (fun K hK => ?_)); intro _; go_simp; first | (refine uponN_value (hK _ ?_)) | (fail; refine hK _ ?_)); clear hK K) | ((with_reducible refine wpN_step (fun K hK => ?_)); go_simp; first | (refine hK _ ?_) | (intro _; first | (refine uponN_value (hK _ ?_)) | (fail; refine hK _ ?_)); clear hK K))); refine wpN_nil ?_; intro _
      clear mw
      obtain ⟨kx, hkx⟩ : ∃ x, x = k % Wn := ⟨_, rfl⟩
      obtain ⟨ky, hky⟩ : ∃ x, x = k / Wn := ⟨_, rfl⟩
      have hkx2 : kx < 16 := by rw [hkx]; have := Nat.mod_lt k (show Wn > 0 by omega); omega
      have hky2 : ky < 256 := by rw [hky]; exact Nat.lt_of_le_of_lt (Nat.div_le_self _ _) (by omega)
      have mk1 : (k : Int).tmod (Wn : Int) = (kx : Int) := by rw [hkx, Int.tmod_eq_emod_of_nonneg (by omega), Int.natCast_emod]
      have mk2 : (k : Int) / (Wn : Int) = (ky : Int) := by rw [hky, Int.natCast_ediv]
      obtain ⟨mi1, mi2⟩ := MI.out
      have hwb : winB Wn (((i % Wn : Nat) : Int) - r) (((i / Wn : Nat) : Int) - r) (((i % Wn : Nat) : Int) + r) (((i / Wn : Nat) : Int) + r) k = (inB ((kx : Int) - (ix : Int)) r && inB ((ky : Int) - (iy : Int)) r) := by rw [winB_in, hkx, hky, HIX.out, HIY.out]
      have HWB := Lib.hid hwb
      clear hwb
      have v1 : IntKind.i64.wrap ((kx : Int) - (ix : Int)) = (kx : Int) - (ix : Int) := IntWalk.i64_in _ (by omega)
      have v2 : IntKind.i64.wrap ((ky : Int) - (iy : Int)) = (ky : Int) - (iy : Int) := IntWalk.i64_in _ (by omega)
      have v3 : IntKind.i64.wrap (ky : Int) = (ky : Int) := IntWalk.i64_in _ (by omega)
      have v4 : IntKind.i64.wrap (iy : Int) = (iy : Int) := IntWalk.i64_in _ (by omega)
      clear hkx hky
      cases hb1 : inB ((kx : Int) - (ix : Int)) r
      · have CX := Lib.hid (fun n => (by have h := CI.out ((kx : Int) - (ix : Int)) wr n; rwa [hb1] at h : Calls Try.prog 55 #[.int .i64 ((kx : Int) - (ix : Int)), .int .i64 (-r), .int .i64 r] (wr.drewN n) (RetV (.bool false) wr)))
        rw [hb1, Bool.false_and] at HWB
        clear hb1
        go_wp2_with fail
        refine wp_region_N (fun _ _ u => u = .bool false) (by kernel_rfl) (by kernel_rfl) ?_; (repeat (first | ((with_reducible show wpN _ _ _ _ _ (Oper.mk _ (Op.binOp _ _ _ _ _) _ _ _ none :: _) _); refine wpN_fop rfl _ _ _ _ _ rfl _ _ _ rfl rfl (by decide) ?_; intro _) | ((with_reducible show wpN _ _ _ _ _ (Oper.mk _ (Op.convert _ _ _) _ _ _ none :: _) _); refine wpN_cvU rfl 43 49 _ rfl (Option.isSome_iff_exists.2 ⟨_, Try.underlying43⟩) Try.underlying49 _ rfl ?_; intro _) | ((with_reducible show wpN _ _ _ _ _ (Oper.mk _ _ _ _ _ (some _) :: _) _); (with_reducible refine wpN_off ?_ ?_); focus rfl; (simp only [Act.put, List.setIfInBounds_toArray, List.set_cons_zero, List.set_cons_succ])) | ((with_reducible show wpN _ _ _ _ _ (Oper.mk _ _ _ _ _ (some _) :: _) _); ((with_reducible refine wpN_on ?_ (fun K hK => ?_)); (focus rfl); intro _; go_simp; first | (refine uponN_value (hK _ ?_)) | ((refine uponN_call (callN (v := .bool false) rfl (CX.out _)) ?_; intro u hu; obtain rfl : u = _ := hu); refine hK _ ?_)); clear hK K) | (((with_reducible refine wpN_plain rfl (fun K hK => ?_)); intro _; go_simp; first | (refine uponN_value (hK _ ?_)) | ((refine uponN_call (callN (v := .bool false) rfl (CX.out _)) ?_; intro u hu; obtain rfl : u = _ := hu); refine hK _ ?_)); clear hK K) | ((with_reducible refine wpN_step (fun K hK => ?_)); go_simp; first | (refine hK _ ?_) | (intro _; first | (refine uponN_value (hK _ ?_)) | ((refine uponN_call (callN (v := .bool false) rfl (CX.out _)) ?_; intro u hu; obtain rfl : u = _ := hu); refine hK _ ?_)); clear hK K))); refine wpN_nil ?_; intro _
        go_wp2_with fail
        go_roundw
        case rel => exact ⟨k + 1, by omega, by go_num, by
          have e : winI Wn (k + 1) i r = winI Wn k i r := by unfold winI; exact winL_no HWB.out
          rw [e]; exact Idx.below HS7 (below_drewN (Below.refl _ _) _), below_drewN HB.out _⟩
        case measure => simp [intOf]; omega
      · cases hb2 : inB ((ky : Int) - (iy : Int)) r
        · have CX := Lib.hid (fun n => (by have h := CI.out ((kx : Int) - (ix : Int)) wr n; rwa [hb1] at h : Calls Try.prog 55 #[.int .i64 ((kx : Int) - (ix : Int)), .int .i64 (-r), .int .i64 r] (wr.drewN n) (RetV (.bool true) wr)))
          have CY := Lib.hid (fun n => (by have h := CI.out ((ky : Int) - (iy : Int)) wr n; rwa [hb2] at h : Calls Try.prog 55 #[.int .i64 ((ky : Int) - (iy : Int)), .int .i64 (-r), .int .i64 r] (wr.drewN n) (RetV (.bool false) wr)))
          have HC := Lib.hid (show ∀ d, (#[Value.int .i64 ((kx : Int) - (ix : Int)), .int .i64 (-r), .int .i64 r] : Array Value) = #[.int .i64 d, .int .i64 (-r), .int .i64 r] → Value.bool true = .bool (inB d r) from fun d e => by simp at e; rw [← e, hb1])
          have HD := Lib.hid (show ∀ d, (#[Value.int .i64 ((ky : Int) - (iy : Int)), .int .i64 (-r), .int .i64 r] : Array Value) = #[.int .i64 d, .int .i64 (-r), .int .i64 r] → Value.bool false = .bool (inB d r) from fun d e => by simp at e; rw [← e, hb2])
          rw [hb1, hb2, Bool.true_and] at HWB
          have H1 := Lib.hid hb1
          have H2 := Lib.hid hb2
          clear hb1 hb2
          go_wp2_with fail
          refine wp_region_N (fun _ args u => ∀ d, args = #[.int .i64 d, .int .i64 (-r), .int .i64 r] → u = .bool (inB d r)) (by kernel_rfl) (by kernel_rfl) ?_; (repeat (first | ((with_reducible show wpN _ _ _ _ _ (Oper.mk _ (Op.binOp _ _ _ _ _) _ _ _ none :: _) _); refine wpN_fop rfl _ _ _ _ _ rfl _ _ _ rfl rfl (by decide) ?_; intro _) | ((with_reducible show wpN _ _ _ _ _ (Oper.mk _ (Op.convert _ _ _) _ _ _ none :: _) _); refine wpN_cvU rfl 43 49 _ rfl (Option.isSome_iff_exists.2 ⟨_, Try.underlying43⟩) Try.underlying49 _ rfl ?_; intro _) | ((with_reducible show wpN _ _ _ _ _ (Oper.mk _ _ _ _ _ (some _) :: _) _); (with_reducible refine wpN_off ?_ ?_); focus rfl; (simp only [Act.put, List.setIfInBounds_toArray, List.set_cons_zero, List.set_cons_succ])) | ((with_reducible show wpN _ _ _ _ _ (Oper.mk _ _ _ _ _ (some _) :: _) _); ((with_reducible refine wpN_on ?_ (fun K hK => ?_)); (focus rfl); intro _; go_simp; first | (refine uponN_value (hK _ ?_)) | ((first | ((with_reducible refine uponN_call (callN (v := .bool true) HC.out (CX.out _)) ?_); intro u hu; obtain rfl : u = .bool true := (hu _ rfl).trans (by rw [H1.out]); clear hu) | ((with_reducible refine uponN_call (callN (v := .bool false) HD.out (CY.out _)) ?_); intro u hu; obtain rfl : u = .bool false := (hu _ rfl).trans (by rw [H2.out]); clear hu)); refine hK _ ?_)); clear hK K) | (((with_reducible refine wpN_plain rfl (fun K hK => ?_)); intro _; go_simp; first | (refine uponN_value (hK _ ?_)) | ((first | ((with_reducible refine uponN_call (callN (v := .bool true) HC.out (CX.out _)) ?_); intro u hu; obtain rfl : u = .bool true := (hu _ rfl).trans (by rw [H1.out]); clear hu) | ((with_reducible refine uponN_call (callN (v := .bool false) HD.out (CY.out _)) ?_); intro u hu; obtain rfl : u = .bool false := (hu _ rfl).trans (by rw [H2.out]); clear hu)); refine hK _ ?_)); clear hK K) | ((with_reducible refine wpN_step (fun K hK => ?_)); go_simp; first | (refine hK _ ?_) | (intro _; first | (refine uponN_value (hK _ ?_)) | ((first | ((with_reducible refine uponN_call (callN (v := .bool true) HC.out (CX.out _)) ?_); intro u hu; obtain rfl : u = .bool true := (hu _ rfl).trans (by rw [H1.out]); clear hu) | ((with_reducible refine uponN_call (callN (v := .bool false) HD.out (CY.out _)) ?_); intro u hu; obtain rfl : u = .bool false := (hu _ rfl).trans (by rw [H2.out]); clear hu)); refine hK _ ?_)); clear hK K))); refine wpN_nil ?_; intro _
          go_wp2_with fail
          go_roundw
          case rel => exact ⟨k + 1, by omega, by go_num, by
            have e : winI Wn (k + 1) i r = winI Wn k i r := by unfold winI; exact winL_no HWB.out
            rw [e]; exact Idx.below HS7 (below_drewN (Below.refl _ _) _), below_drewN HB.out _⟩
          case measure => simp [intOf]; omega
        · have CX := Lib.hid (fun n => (by have h := CI.out ((kx : Int) - (ix : Int)) wr n; rwa [hb1] at h : Calls Try.prog 55 #[.int .i64 ((kx : Int) - (ix : Int)), .int .i64 (-r), .int .i64 r] (wr.drewN n) (RetV (.bool true) wr)))
          have CY := Lib.hid (fun n => (by have h := CI.out ((ky : Int) - (iy : Int)) wr n; rwa [hb2] at h : Calls Try.prog 55 #[.int .i64 ((ky : Int) - (iy : Int)), .int .i64 (-r), .int .i64 r] (wr.drewN n) (RetV (.bool true) wr)))
          rw [hb1, hb2, Bool.true_and] at HWB
          clear hb1 hb2
          go_wp2_with fail
          refine wp_region_N (fun _ args u => u = .bool true) (by kernel_rfl) (by kernel_rfl) ?_; (repeat (first | ((with_reducible show wpN _ _ _ _ _ (Oper.mk _ (Op.binOp _ _ _ _ _) _ _ _ none :: _) _); refine wpN_fop rfl _ _ _ _ _ rfl _ _ _ rfl rfl (by decide) ?_; intro _) | ((with_reducible show wpN _ _ _ _ _ (Oper.mk _ (Op.convert _ _ _) _ _ _ none :: _) _); refine wpN_cvU rfl 43 49 _ rfl (Option.isSome_iff_exists.2 ⟨_, Try.underlying43⟩) Try.underlying49 _ rfl ?_; intro _) | ((with_reducible show wpN _ _ _ _ _ (Oper.mk _ _ _ _ _ (some _) :: _) _); (with_reducible refine wpN_off ?_ ?_); focus rfl; (simp only [Act.put, List.setIfInBounds_toArray, List.set_cons_zero, List.set_cons_succ])) | ((with_reducible show wpN _ _ _ _ _ (Oper.mk _ _ _ _ _ (some _) :: _) _); ((with_reducible refine wpN_on ?_ (fun K hK => ?_)); (focus rfl); intro _; go_simp; first | (refine uponN_value (hK _ ?_)) | ((first | ((with_reducible refine uponN_call (callN (v := .bool true) ?_ (CX.out _)) ?_); (focus rfl); intro u hu; obtain rfl : u = _ := hu) | ((with_reducible refine uponN_call (callN (v := .bool true) ?_ (CY.out _)) ?_); (focus rfl); intro u hu; obtain rfl : u = _ := hu)); refine hK _ ?_)); clear hK K) | (((with_reducible refine wpN_plain rfl (fun K hK => ?_)); intro _; go_simp; first | (refine uponN_value (hK _ ?_)) | ((first | ((with_reducible refine uponN_call (callN (v := .bool true) ?_ (CX.out _)) ?_); (focus rfl); intro u hu; obtain rfl : u = _ := hu) | ((with_reducible refine uponN_call (callN (v := .bool true) ?_ (CY.out _)) ?_); (focus rfl); intro u hu; obtain rfl : u = _ := hu)); refine hK _ ?_)); clear hK K) | ((with_reducible refine wpN_step (fun K hK => ?_)); go_simp; first | (refine hK _ ?_) | (intro _; first | (refine uponN_value (hK _ ?_)) | ((first | ((with_reducible refine uponN_call (callN (v := .bool true) ?_ (CX.out _)) ?_); (focus rfl); intro u hu; obtain rfl : u = _ := hu) | ((with_reducible refine uponN_call (callN (v := .bool true) ?_ (CY.out _)) ?_); (focus rfl); intro u hu; obtain rfl : u = _ := hu)); refine hK _ ?_)); clear hK K))); refine wpN_nil ?_; intro _
          rename_i m5
          have HB5 := Lib.hid (below_drewN HB.out m5)
          have HS5 := Lib.hid (Idx.below HS7 (below_drewN (Below.refl _ _) m5))
          have SW5 : w.heap.size ≤ (wr.drewN m5).heap.size := HB5.out.size
          generalize World.drewN wr m5 = w5 at *
          go_wp2_with (at_builtin; refine wpList_append_own _ rfl _ _ 81 rfl w.heap.size 2 i0 (.int .i64 0) 1 8 Try.underlying81 hinf hz0 hz1 hz2 rfl (by decide) _ n7 ((winI Wn k i r).map fun (k : Nat) => Value.int .i64 (k : Int)) rfl (by have h := HS5.out.below ((Below.refl w5.heap.size w5).alloc (Nat.le_refl _) (.cells #[.int .i64 (k : Int)] 2)); unfold Idx at h; rwa [← HN7.out] at h) ⟨w5.heap.size, 0, none⟩ 1 1 [.int .i64 (k : Int)] rfl rfl (cell1_new w5 _ _ _ rfl) (by intro u hu; simp at hu; subst hu; rfl) (by unfold maxLen; omega) (by omega) (by simp; omega) ?_)
          intro v' w6 hown' hgrow _
          have hB6 : Below w.heap.size w w6 := (HB5.out.alloc SW5 _).grown hgrow (by simp; omega) (fun g e => by have := HS5.out.lt g e; exact this.1)
          have HS6 : Hid (Idx 2 w6 w.heap.size v' (winI Wn (k + 1) i r)) := by
            have e : winI Wn (k + 1) i r = winI Wn k i r ++ [k] := by unfold winI; exact winL_yes HWB.out
            show Idx _ _ _ _ _
            unfold Idx
            rw [e, List.map_append, List.length_append, ← HN7.out]
            exact hown'
          have HB6 := Lib.hid hB6
          clear hown' hgrow hB6
          go_wp2_with fail
          go_roundw
          case rel => exact ⟨k + 1, by omega, by go_num, HS6, HB6.out⟩
          case measure => simp [intOf]; omega
    · obtain rfl : k = N := by omega
      rw [← wr.drewN_zero]
      go_wp2_with fail
      refine wp_region_N (fun _ _ _ => True) (by kernel_rfl) (by kernel_rfl) ?_; (repeat (first | ((with_reducible show wpN _ _ _ _ _ (Oper.mk _ (Op.binOp _ _ _ _ _) _ _ _ none :: _) _); refine wpN_fop rfl _ _ _ _ _ rfl _ _ _ rfl rfl (by decide) ?_; intro _) | ((with_reducible show wpN _ _ _ _ _ (Oper.mk _ (Op.convert _ _ _) _ _ _ none :: _) _); refine wpN_cvU rfl 43 49 _ rfl (Option.isSome_iff_exists.2 ⟨_, Try.underlying43⟩) Try.underlying49 _ rfl ?_; intro _) | ((with_reducible show wpN _ _ _ _ _ (Oper.mk _ _ _ _ _ (some _) :: _) _); (with_reducible refine wpN_off ?_ ?_); focus rfl; (simp only [Act.put, List.setIfInBounds_toArray, List.set_cons_zero, List.set_cons_succ])) | ((with_reducible show wpN _ _ _ _ _ (Oper.mk _ _ _ _ _ (some _) :: _) _); ((with_reducible refine wpN_on ?_ (fun K hK => ?_)); (focus rfl); intro _; go_simp; first | (refine uponN_value (hK _ ?_)) | (fail; refine hK _ ?_)); clear hK K) | (((with_reducible refine wpN_plain rfl (fun K hK => ?_)); intro _; go_simp; first | (refine uponN_value (hK _ ?_)) | (fail; refine hK _ ?_)); clear hK K) | ((with_reducible refine wpN_step (fun K hK => ?_)); go_simp; first | (refine hK _ ?_) | (intro _; first | (refine uponN_value (hK _ ?_)) | (fail; refine hK _ ?_)); clear hK K))); refine wpN_nil ?_; intro _
      go_wp2_with fail
      go_ret
      exact ⟨_, rfl, below_drewN HB.out _, Idx.below HS7 (below_drewN (Below.refl _ _) _)⟩
/-! ### haloR -/
def haloP (zA zB : List Nat) (Wn N : Nat) : Nat → Nat
  | 0 => 0
  | k + 1 => maxV .f32 (maxV .f32 (haloP zA zB Wn N k) (fop .sub .f32 (fat zB k) (hiM zA (winI Wn N k 1)))) (fop .sub .f32 (loM zA (winI Wn N k 1)) (fat zB k))
def haloR (WA HA : Int) (zA : List Nat) (WB HB : Int) (zB : List Nat) : Nat × Bool := if bothB WA HA zA WB HB zB = true then numR (haloP zA zB WA.toNat zA.length zA.length) else (0, false)
theorem win_self {Wn N k : Nat} {r : Int} (hk : k < N) (hr : 0 ≤ r) : k ∈ winI Wn N k r := by
  unfold winI winL
  rw [List.mem_filter]
  refine ⟨List.mem_range.2 hk, ?_⟩
  unfold winB
  simp only [Bool.and_eq_true, decide_eq_true_eq]
  omega
theorem win_pos {Wn N k : Nat} {r : Int} (hk : k < N) (hr : 0 ≤ r) : 1 ≤ (winI Wn N k r).length := by
  have := List.length_pos_of_mem (win_self (Wn := Wn) hk hr)
  omega
theorem valid_ok {W H : Int} {zs : List Nat} (h : validB W H zs = true) (hw : ∀ x ∈ zs, (Lit.float .f32 x).wf = true) {k : Nat} (hk : k < zs.length) : Ok32 (fat zs k) := by
  have hf := valid_fin h
  rw [List.all_eq_true] at hf
  exact ⟨lt_of_wf (hw _ (fat_mem hk)), of_decide_eq_true (hf _ (fat_mem hk))⟩
theorem run_fmax3 {P : Program} {w : World} (ts : Array TypeId) (t : TypeId) (x y z : Nat) : ∃ n m, (Builtin.max_ ts t #[.float .f32 x, .float .f32 y, .float .f32 z]).run P w = .ok (.float .f32 (pick .f32 (maxV .f32 (maxV .f32 x y) z) n)) (w.drewN m) := by
  obtain ⟨n1, m1, h1⟩ := run_fmax (P := P) (w := w) ts t .f32 x y
  obtain ⟨n2, m2, h2⟩ := run_fmax (P := P) (w := w.drewN m1) ts t .f32 (pick .f32 (maxV .f32 x y) n1) z
  rw [maxV_pick_l] at h2
  refine ⟨n2, m1 + m2, ?_⟩
  simp [Builtin.max_] at h1 h2 ⊢
  rw [h1]
  simp [Result.andThen]
  rw [h2]
theorem wpList_fmax3 {P : Program} {w : World} {ops : Array Oper} {rest : List Oper} {o : Oper} {a : Act} {Q : Exit → Act → World → Prop}
    (hg : o.guard = none) (x y z : Operand) (ts : Array TypeId) (hop : o.op = .call { callee := .builtin .max, args := #[x, y, z], argTypes := ts }) (bx by' bz : Nat)
    (hx : a.eval x = .float .f32 bx) (hy : a.eval y = .float .f32 by') (hz : a.eval z = .float .f32 bz) (j : Nat)
    (hK : ∀ n m, wpList P ops Q rest (a.put o.dst (.float .f32 (pick .f32 (maxV .f32 (maxV .f32 bx by') bz) n))) (w.drewN m)) :
    wpList P ops Q (o :: rest) a (w.drewN j) := by
  refine wpList_plain hg fun K hK' => ?_
  obtain ⟨n, m, hrun⟩ := run_fmax3 (P := P) (w := w.drewN j) ts o.type bx by' bz
  unfold Oper.wp execOp
  simp only [hop, resolve, invoke, builtin, Sem.run_bind, Sem.run_pure, Result.andThen_ok, List.map_toArray, List.map_cons, List.map_nil, hx, hy, hz, hrun]
  exact hK' _ _ (by rw [World.drewN_drewN]; exact hK n _)
/-! ### haloSame -/
def haloQ (zA zB : List Nat) (Wn N : Nat) : Nat → Nat
  | 0 => 0
  | k + 1 => highF (highF (haloQ zA zB Wn N k) (fop .sub .f32 (fat zB k) (hiL zA (winI Wn N k 1)))) (fop .sub .f32 (loL zA (winI Wn N k 1)) (fat zB k))
theorem dec_neg {m : Nat} (hn : isN .f32 m = false) (hs : sgn Ieee.single m = false) : (FloatKind.f32.decode m).neg = false := by
  have hf : FloatKind.f32.format = Ieee.single := rfl
  cases h : finB .f32 m
  · rcases notfin_cases h with h2 | h2
    · rw [hn] at h2; cases h2
    · have e : FloatKind.f32.decode m = .infinity (sgn FloatKind.f32.format m) := h2
      rw [e, hf, hs]; rfl
  · obtain ⟨a, b, e⟩ := fin_read h
    have e : FloatKind.f32.decode m = .number (sgn FloatKind.f32.format m) a b := e
    rw [e, hf, hs]; rfl
theorem fop_lt32 (op : BinOp) (x y : Nat) : fop op .f32 x y < 2 ^ 32 := fop_lt op .f32 x y
theorem halo_same {zA zB : List Nat} {Wn N : Nat} (hA : ∀ k, k < N → Ok32 (fat zA k)) (hB : ∀ k, k < N → Ok32 (fat zB k)) : ∀ k, k ≤ N → haloP zA zB Wn N k = haloQ zA zB Wn N k ∧ isN .f32 (haloQ zA zB Wn N k) = false ∧ sgn Ieee.single (haloQ zA zB Wn N k) = false
  | 0, _ => ⟨rfl, n_zero, show sgn Ieee.single 0 = false by decide +kernel⟩
  | k + 1, h => by
    obtain ⟨h1, h2, h3⟩ := halo_same hA hB k (by omega)
    have hz : ∀ j ∈ winI Wn N k 1, Ok32 (fat zA j) := fun j hj => hA j (winL_lt hj)
    have h0 := hz _ (fat_mem (show 0 < (winI Wn N k 1).length from win_pos (by omega) (by decide)))
    obtain ⟨l1, l2, l3⟩ := lo_same hz h0
    obtain ⟨g1, g2, g3⟩ := hi_same hz h0
    have b := hB k (by omega)
    have e1 := max_same h2 h3 (fop_lt32 .sub (fat zB k) (hiM zA (winI Wn N k 1))) (fop_lt32 .sub (fat zB k) (hiL zA (winI Wn N k 1))) (sub_notN b g1) (sub_notN b g2) (dec_neg h2 h3) (sub_right b g1 g2 g3)
    obtain ⟨q1, q2⟩ := high_sgn h2 h3 (sub_notN b g2)
    have e2 := max_same q1 q2 (fop_lt32 .sub (loM zA (winI Wn N k 1)) (fat zB k)) (fop_lt32 .sub (loL zA (winI Wn N k 1)) (fat zB k)) (sub_notN l1 b) (sub_notN l2 b) (dec_neg q1 q2) (sub_left b l1 l2 l3)
    obtain ⟨r1, r2⟩ := high_sgn q1 q2 (sub_notN l2 b)
    refine ⟨?_, r1, r2⟩
    rw [haloP, haloQ, h1, e1, e2]
theorem lowK_map {zs idx : List Nat} (h : 1 ≤ idx.length) : lowK (idx.map (fat zs)) (idx.map (fat zs)).length = loL zs idx ∧ highK (idx.map (fat zs)) (idx.map (fat zs)).length = hiL zs idx := by
  have e : fat (idx.map (fat zs)) 0 = fat zs (fat idx 0) := by
    cases idx with
    | nil => simp at h
    | cons k t => rfl
  unfold lowK highK loL hiL
  rw [List.take_of_length_le (Nat.le_refl _), e, List.foldl_map, List.foldl_map]
  exact ⟨rfl, rfl⟩
/-! ### l02Both0 -/
theorem c_l02Both0 (WA HA : Int) (zA : List Nat) (aA : Option Addr) (cA : Nat) (WB HB : Int) (zB : List Nat) (aB : Option Addr) (cB : Nat) (x y : Nat) (w : World) (vx : Var w x #[.int .i64 WA, .int .i64 HA, .slice aA zA.length cA]) (vy : Var w y #[.int .i64 WB, .int .i64 HB, .slice aB zB.length cB])
    (rA : IsRowF .f32 w aA zA.length cA zA) (rB : IsRowF .f32 w aB zB.length cB zB) (hxy : x ≠ y) : Calls Try.prog 92 #[.pointer (some ⟨x, 0, none⟩), .pointer (some ⟨y, 0, none⟩)] w (RetV (.bool (bothB WA HA zA WB HB zB)) w) := by
  have h := c_l02Both WA HA zA aA cA WB HB zB aB cB x y w 0 vx vy rA rB hxy
  rwa [w.drewN_zero] at h
/-! ### l02Range -/
theorem c_l02Range (a : Option Addr) (cap : Nat) (zs : List Nat) (w : World) (j0 : Nat) (hr : IsRowF .f32 w a zs.length cap zs) (h1 : 1 ≤ zs.length) : Calls Try.prog 93 #[.slice a zs.length cap] (w.drewN j0) (fun e w' => ∃ n m k, e = .returned (.tuple #[.float .f32 (pick .f32 (lowK zs zs.length) n), .float .f32 (pick .f32 (highK zs zs.length) m)]) ∧ w' = w.drewN k) := by
  have mA : zs.length ≤ maxLen := Nat.le_trans hr.2.1 hr.2.2.1
  unfold maxLen at mA
  have RA := Lib.hid hr
  clear hr
  obtain ⟨b0, o0, n0, rfl, hb0, e0⟩ := RA.out.at (k := 0) (by omega)
  rw [Nat.add_zero] at e0
  have L1 := Lib.hid (lowK_one (zs := zs) (by omega))
  have L2 := Lib.hid (highK_one (zs := zs) (by omega))
  go_enter Try.func93, Try.ntmps93
  go_wp2
  go_loopw [4, 5, 6] (fun s t i wr => ∃ k n m l : Nat, 1 ≤ k ∧ k ≤ zs.length ∧ i = .int .i64 k ∧ s = .float .f32 (pick .f32 (lowK zs k) n) ∧ t = .float .f32 (pick .f32 (highK zs k) m) ∧ wr = w.drewN l) (fun _ _ i _ => zs.length - (intOf i).toNat)
  case atStart => exact ⟨1, n0, n0, j0, by omega, h1, rfl, by rw [L1.out], by rw [L2.out], rfl⟩
  case round =>
    obtain ⟨k, n, m, l, hk1, hk, rfl, rfl, rfl, rfl⟩ := hrel
    by_cases hlt : k < zs.length
    · obtain ⟨bA, oA, nA, hab, hbA, eA⟩ := RA.out.at hlt
      cases hab
      have HS := Lib.hid (lowK_succ hlt)
      have HT := Lib.hid (highK_succ hlt)
      cases hl : (FloatKind.f32.format.order (fat zs k) (lowK zs k) == some .lt) <;> cases hh : (FloatKind.f32.format.order (fat zs k) (highK zs k) == some .gt)
      all_goals
        have HL := Lib.hid hl
        have HH := Lib.hid hh
        clear e0 hbA hb0
        go_wp2_with (first | (refine wpList_fop rfl _ _ _ _ _ rfl _ _ _ rfl rfl (by decide) _ ?_; intro _ _) | (refine upon_fop _ _ _ _ _ (by decide) ?_; intro _ _))
        go_roundw
        case rel => exact ⟨k + 1, _, _, _, by omega, by omega, by go_num, by rw [HS.out]; unfold lowF; rw [HL.out]; rfl, by rw [HT.out]; unfold highF; rw [HH.out]; rfl, rfl⟩
        case measure => simp [intOf]; omega
    · obtain rfl : k = zs.length := by omega
      clear e0 hb0
      go_wp2
      go_ret2
      exact ⟨_, _, _, rfl, rfl⟩
/-! ### l02Number -/
theorem c_l02Number (v n : Nat) (w : World) (j : Nat) : Calls Try.prog 94 #[.float .f32 (pick .f32 v n)] (w.drewN j) (fun e w' => ∃ k m, e = .returned (.tuple #[.float .f32 (pick .f32 (numR v).1 k), .bool (numR v).2]) ∧ w' = w.drewN m) := by
  cases h : finB .f32 v
  · have e : numR v = (0, false) := by unfold numR; rw [if_neg (by rw [h]; decide)]
    rw [e]
    go_enter Try.func94, Try.ntmps94
    go_wp2_with (first | (go_at_call 90; refine (c_l01Finite _ _ _ _).mono ?_; rintro _ _ ⟨_, rfl, rfl⟩))
    go_ret2
    exact ⟨0, _, by simp only [pick00]; rfl, rfl⟩
  · have e : numR v = (v, true) := by unfold numR; rw [if_pos h]
    rw [e]
    go_enter Try.func94, Try.ntmps94
    go_wp2_with (first | (go_at_call 90; refine (c_l01Finite _ _ _ _).mono ?_; rintro _ _ ⟨_, rfl, rfl⟩))
    go_ret2
    exact ⟨n, _, rfl, rfl⟩
theorem c_l02Number0 (v n : Nat) (w : World) : Calls Try.prog 94 #[.float .f32 (pick .f32 v n)] w (fun e w' => ∃ k m, e = .returned (.tuple #[.float .f32 (pick .f32 (numR v).1 k), .bool (numR v).2]) ∧ w' = w.drewN m) := by
  have h := c_l02Number v n w 0
  rwa [w.drewN_zero] at h
/-! ### noiseDefs -/
def sqK (zA zB : List Nat) : Nat → Nat
  | 0 => 0
  | k + 1 => fop .add .f32 (sqK zA zB k) (fop .mul .f32 (fop .sub .f32 (fat zA k) (fat zB k)) (fop .sub .f32 (fat zA k) (fat zB k)))
def noiseR (WA HA : Int) (zA : List Nat) (WB HB : Int) (zB : List Nat) : Nat × Bool :=
  if bothB WA HA zA WB HB zB = true then numR (cvN (fsqrt (cvU (fop .quo .f32 (sqK zA zB zA.length) (floatOfInt .f32 (2 * (zA.length : Int))))))) else (0, false)
theorem RetF1.no {w : World} {e : Ending} {w' : World} (h : e = .returned (.tuple #[.float .f32 0, .bool false])) (hw : Below w.heap.size w w') : RetF1 (0, false) w e w' := ⟨0, by rw [h]; simp only [pick_zero], hw⟩
/-! ### infoF2 -/
theorem infoF2 : (Try.prog.info? 43).map (fun i => (i.zero, i.size, i.bytes)) = some (some (.float .f32 0), 1, 4) := by kernel_rfl
/-! ### sHalo -/
theorem c_sHaloOf (WA HA : Int) (zA : List Nat) (aA : Option Addr) (cA : Nat) (WB HB : Int) (zB : List Nat) (aB : Option Addr) (cB : Nat) (w : World) (rA : IsRowF .f32 w aA zA.length cA zA) (rB : IsRowF .f32 w aB zB.length cB zB) : Calls Try.prog 41 #[.agg #[.int .i64 WA, .int .i64 HA, .slice aA zA.length cA], .agg #[.int .i64 WB, .int .i64 HB, .slice aB zB.length cB]] w (RetF1 (haloR WA HA zA WB HB zB) w) := by
  have RA := Lib.hid rA
  have RB := Lib.hid rB
  clear rA rB
  generalize hw2 : (w.alloc (Obj.cells #[.int .i64 WA, .int .i64 HA, .slice aA zA.length cA] 29)).alloc (Obj.cells #[.int .i64 WB, .int .i64 HB, .slice aB zB.length cB] 29) = w2
  have BW := Lib.hid (show Below w.heap.size w w2 by subst hw2; exact ((Below.refl _ _).alloc (Nat.le_refl _) _).alloc (by simp) _)
  have VA := Lib.hid (show Var w2 w.heap.size #[.int .i64 WA, .int .i64 HA, .slice aA zA.length cA] by subst hw2; exact (Var.new _ _ _).alloc _)
  have VB := Lib.hid (show Var w2 (w.heap.size + 1) #[.int .i64 WB, .int .i64 HB, .slice aB zB.length cB] by subst hw2; exact Var.new' _ _ _ _ (by simp))
  have HW2 := Lib.hid hw2
  have SZ : w2.heap.size = w.heap.size + 1 + 1 := by subst hw2; simp
  clear hw2
  have CBt := Lib.hid (c_l02Both0 WA HA zA aA cA WB HB zB aB cB w.heap.size (w.heap.size + 1) w2 VA.out VB.out (RA.out.below BW.out) (RB.out.below BW.out) (by omega))
  unfold haloR
  cases hb : bothB WA HA zA WB HB zB
  · rw [if_neg (by decide)]
    rw [hb] at CBt
    clear hb
    go_enter Try.func41, Try.ntmps41
    go_wp2_with fail
    rw [HW2.out]
    refine CBt.out.mono ?_
    rintro _ _ ⟨m1, rfl, rfl⟩
    have BX := Lib.hid (BW.out.trans ((below_drewN (Below.refl w2.heap.size w2) m1).mono (by omega)))
    go_wp2_with fail
    go_ret2
    exact RetF1.no rfl BX.out
  · rw [if_pos rfl]
    have hboth := hb
    obtain ⟨hvA, hvB, hWW, hHH, hlen⟩ := bothB_spec hboth
    have hl256 := (valid_len hvA).2.1
    have hl1 := (valid_len hvA).2.2
    have hlenA := (valid_len hvA).1
    have hsb : sideB WA HA = true := by have h := hvA; simp only [validB, Bool.and_eq_true] at h; exact h.1.1
    obtain ⟨⟨s1, s2⟩, s3, s4⟩ := sideB_true hsb
    have HOk := Lib.hid (fun (k : Nat) (hk : k < zA.length) => valid_ok hvA RA.out.2.2.2.1 hk)
    have HOb := Lib.hid (fun (k : Nat) (hk : k < zB.length) => valid_ok hvB RB.out.2.2.2.1 hk)
    rw [hb] at CBt
    subst hWW
    subst hHH
    obtain ⟨Wn, rfl⟩ : ∃ n : Nat, WA = n := ⟨WA.toNat, by omega⟩
    obtain ⟨Hn, rfl⟩ : ∃ n : Nat, HA = n := ⟨HA.toNat, by omega⟩
    rw [Int.toNat_natCast]
    have hln : zA.length = Wn * Hn := by rw [← Int.natCast_mul] at hlenA; omega
    obtain ⟨N, hN⟩ : ∃ N, N = zA.length := ⟨_, rfl⟩
    have hNW : N = Wn * Hn := by rw [hN, hln]
    have hNB : N = zB.length := by rw [hN, hlen]
    have eN : haloP zA zB Wn zA.length zA.length = haloQ zA zB Wn N N := by
      rw [← hN]; exact (halo_same (fun k hk => HOk.out k (by omega)) (fun k hk => HOb.out k (by omega)) N (Nat.le_refl _)).1
    rw [eN]
    have HNA := Lib.hid hN
    have HNB := Lib.hid hNB
    have MW := Lib.hid (show IntKind.i64.wrap ((Wn : Int) * (Hn : Int)) = (N : Int) by rw [hNW]; rw [show ((Wn : Int) * (Hn : Int)) = ((Wn * Hn : Nat) : Int) by rw [Int.natCast_mul]]; exact IntWalk.i64_in _ (by omega))
    have WC := Lib.hid (fun (k : Nat) (wz : World) (hv : Var wz w.heap.size #[.int .i64 (Wn : Int), .int .i64 (Hn : Int), .slice aA zA.length cA]) (hk : k < N) => (by
      have h := c_l04Window Wn Hn w.heap.size aA cA zA k 1 wz hv (by omega) (by omega) (by omega) (by omega) (by decide) (by decide)
      rwa [← hNW] at h : Calls Try.prog 84 #[.pointer (some ⟨w.heap.size, 0, none⟩), .int .i64 (k : Int), .int .i64 1] wz (fun e w' => ∃ v, e = .returned v ∧ Below wz.heap.size wz w' ∧ Idx 2 w' wz.heap.size v (winI Wn N k 1))))
    rw [← hN] at hl256 hl1
    clear eN hb hboth hvA hvB hlen hlenA hsb hln hN hNW hNB
    obtain ⟨i0, hinf, hz0, hz1, hz2⟩ := info_parts infoF2
    go_enter Try.func41, Try.ntmps41
    go_wp2_with fail
    rw [HW2.out]
    refine CBt.out.mono ?_
    rintro _ _ ⟨m1, rfl, rfl⟩
    have b3 := below_drewN (Below.refl w2.heap.size w2) m1
    have BX := Lib.hid (BW.out.trans (b3.mono (by omega)))
    have VA3 := Lib.hid (VA.out.keep b3)
    have VB3 := Lib.hid (VB.out.keep b3)
    have RA3 := Lib.hid (RA.out.below BX.out)
    have RB3 := Lib.hid (RB.out.below BX.out)
    have z3 : w2.heap.size ≤ (w2.drewN m1).heap.size := b3.size
    clear b3
    generalize World.drewN w2 m1 = w3 at *
    go_wp2_with fail
    go_loopw [6, 7] (fun s6 s7 wr => ∃ k m : Nat, k ≤ N ∧ s7 = .int .i64 (k : Int) ∧ s6 = .float .f32 (pick .f32 (haloQ zA zB Wn N k) m) ∧ Below w3.heap.size w3 wr) (fun _ s7 _ => N - (intOf s7).toNat)
    case atStart => exact ⟨0, 0, Nat.zero_le _, rfl, by exact congrArg _ (pick_not (by decide +kernel) 0).symm, Below.refl _ _⟩
    case round =>
      obtain ⟨k, m, hk, rfl, rfl, hB⟩ := hrel
      have HB := Lib.hid hB
      have VAr := Lib.hid (VA3.out.keep hB)
      have VBr := Lib.hid (VB3.out.keep hB)
      have zr : w3.heap.size ≤ wr.heap.size := hB.size
      clear hB
      have mw := MW.out
      obtain ⟨d0, d1, d2⟩ := VAr.out.three
      by_cases hlt : k < N
      · have hlt2 : (k : Int) < (N : Int) := by omega
        go_wp2_with fail
        clear mw d0 d1 d2
        refine (WC.out k _ VAr.out hlt).mono ?_
        rintro _ w7 ⟨v7, rfl, b7, hI⟩
        have HB7 := Lib.hid (HB.out.trans (b7.mono zr))
        have VA7 := Lib.hid (VAr.out.keep b7)
        have VB7 := Lib.hid (VBr.out.keep b7)
        have zr7 : wr.heap.size ≤ w7.heap.size := b7.size
        have HI := Lib.hid hI
        have hlen7 : (winI Wn N k 1).length ≤ 256 := by unfold winI; exact Nat.le_trans (winL_len _ _ _ _ _ _) (by omega)
        have hpos7 := win_pos (Wn := Wn) (r := 1) hlt (by decide)
        have HSub := Lib.hid (show ∀ x ∈ winI Wn N k 1, x < N from fun x hx => winL_lt hx)
        have HLo := Lib.hid (lowK_map (zs := zA) (idx := winI Wn N k 1) hpos7)
        have HStep := Lib.hid (show haloQ zA zB Wn N (k + 1) = highF (highF (haloQ zA zB Wn N k) (fop .sub .f32 (fat zB k) (hiL zA (winI Wn N k 1)))) (fop .sub .f32 (loL zA (winI Wn N k 1)) (fat zB k)) from rfl)
        clear b7 hI
        generalize winI Wn N k 1 = idx at *
        obtain ⟨n, hn⟩ : ∃ n, n = idx.length := ⟨_, rfl⟩
        obtain ⟨q7, c7, e7⟩ := HI.out.isSlice
        subst e7
        rw [← hn] at hlen7 hpos7 ⊢
        have HN7 := Lib.hid hn
        have HI7 : Hid (Idx 2 w7 wr.heap.size (.slice q7 n c7) idx) := by rw [hn]; exact HI
        have RA7 := Lib.hid (RA3.out.below HB7.out)
        have RB7 := Lib.hid (RB3.out.below HB7.out)
        have HLL := Lib.hid (show (idx.map (fat zA)).length = n by rw [List.length_map, hn])
        have HLA := Lib.hid (fun (j : Nat) (hj : j < n) => (by unfold fat; rw [List.getD, List.getElem?_map, List.getElem?_eq_getElem (show j < idx.length by omega)]; simp [List.getD, List.getElem?_eq_getElem (show j < idx.length by omega)] : fat (idx.map (fat zA)) j = fat zA (fat idx j)))
        have HFL := Lib.hid (show (idx.map (fat zA)).all (finB .f32) = true by
          rw [List.all_eq_true]; intro y hy; obtain ⟨x, hx, rfl⟩ := List.mem_map.1 hy; exact decide_eq_true (HOk.out x (by rw [← HNA.out]; exact HSub.out x hx)).2)
        clear HI hn
        generalize idx.map (fat zA) = L at *
        go_wp2_with fail
        generalize hw8 : w7.alloc (Obj.cells #[] 43) = w8
        have b8 : Below w7.heap.size w7 w8 := by subst hw8; exact (Below.refl _ _).alloc (Nat.le_refl _) _
        have O8 := Lib.hid (show Own 43 w8 w7.heap.size (some ⟨w7.heap.size, 0, none⟩) 0 0 [] by
          refine ⟨rfl, ⟨rfl, .inr ⟨w7.heap.size, 0, #[], rfl, Nat.le_refl _, ?_, Nat.le_refl _, Nat.zero_le _, rfl, rfl⟩⟩, by simp⟩
          subst hw8; have h := heap_alloc_new w7 (Obj.cells #[] 43); simpa using h)
        have HB8 := Lib.hid (HB7.out.trans (b8.mono (by omega)))
        have VA8 := Lib.hid (VA7.out.keep b8)
        have VB8 := Lib.hid (VB7.out.keep b8)
        have RA8 := Lib.hid (RA7.out.below b8)
        have RB8 := Lib.hid (RB7.out.below b8)
        have HI8 := Lib.hid (HI7.out.below b8)
        have z8 : w7.heap.size ≤ w8.heap.size := b8.size
        have HW8 := Lib.hid hw8
        have B78 := Lib.hid b8
        clear hw8 b8
        go_loopw [9, 10] (fun s9 s10 wq => ∃ (j : Nat) (a : Option Addr) (c : Nat) (zs : List Nat), j ≤ n ∧ s10 = .int .i64 (j : Int) ∧ s9 = .slice a j c ∧ Own 43 wq w7.heap.size a j c zs ∧ near zs (L.take j) ∧ Below w7.heap.size w8 wq) (fun _ s10 _ => n - (intOf s10).toNat)
        case atStart => exact ⟨0, _, 0, [], Nat.zero_le _, rfl, rfl, O8.out, by simpa using near_nil, Below.refl _ _⟩
        case round =>
          obtain ⟨j, a, c, zs, hj, rfl, rfl, hO, hnear, hBl⟩ := hrel
          have HO := Lib.hid hO
          have HNr := Lib.hid hnear
          have HBl := Lib.hid hBl
          have zq : w8.heap.size ≤ wr.heap.size := hBl.size
          have BQ := Lib.hid (HB8.out.trans (hBl.mono (by omega)))
          have VAq := Lib.hid (VA3.out.keep BQ.out)
          have VBq := Lib.hid (VB3.out.keep BQ.out)
          have HIq := Lib.hid (HI7.out.below (B78.out.trans hBl))
          clear hO hnear hBl
          by_cases hjn : j < n
          · have hjn2 : (j : Int) < (n : Int) := by omega
            obtain ⟨g7, c9, e9, hg7, _, hcap1, hcap2, hcellI⟩ := HIq.out.at (j := j) (by rw [← HN7.out]; exact hjn)
            obtain ⟨g7', c9', e9', hg7', _, _, _, _⟩ := HI7.out.at (j := j) (by rw [← HN7.out]; exact hjn)
            simp only [Value.slice.injEq] at e9 e9'
            obtain ⟨rfl, e9, rfl⟩ := e9
            obtain ⟨e8, _, _⟩ := e9'
            simp only [Option.some.injEq, Addr.mk.injEq, and_true] at e8
            subst e8
            clear e9
            have hxlt : fat idx j < zA.length := by rw [← HNA.out]; exact HSub.out _ (fat_mem (by rw [← HN7.out]; exact hjn))
            obtain ⟨bb, oo, nn, hab, hbl, hcl3⟩ := RA3.out.at hxlt
            subst hab
            have hcl : wr.cell? ⟨bb, oo + fat idx j, none⟩ = some (.float .f32 (pick .f32 (fat L j) nn)) := by rw [HLA.out j hjn]; exact (BQ.out.cell (p := ⟨bb, oo + fat idx j, none⟩) hbl).trans hcl3
            have FLTH := Lib.hid (show fat L j < 2 ^ FloatKind.f32.format.width by rw [HLA.out j hjn]; exact (HOk.out _ hxlt).1)
            have hxlt2 : ((fat idx j : Nat) : Int) < (zA.length : Int) := by omega
            obtain ⟨d0, d1, d2⟩ := VAq.out.three
            have hrow : ∀ b, b < w7.heap.size → rowOf a j c ≠ some b := fun b hb e => by have := rowOf_in HO.out b e; omega
            have KS := Lib.hid (fun (w' : World) (hE : AppE 43 (rowOf a j c) j (fat L j) wr w') => (⟨hE.cell d0 (hrow _ (by omega)), hE.cell d1 (hrow _ (by omega)), hE.cell d2 (hrow _ (by omega)), hE.cell hcellI (hrow _ (by omega)), hE.cell hcl (hrow _ (by omega))⟩ : _ ∧ _ ∧ _ ∧ _ ∧ _))
            clear hrow d0 d1 d2 hcellI hcl hcl3
            go_wp2_with fail
            refine wp_region_facts 12 (AppE 43 (rowOf a j c) j (fat L j)) AppE.refl AppE.trans (AppE.drew _) (by kernel_rfl) (by kernel_rfl) (by kernel_rfl) (by kernel_rfl) ?_
            simp only [List.take_succ_cons, List.take_zero, List.drop_succ_cons, List.drop_zero]
            (with_reducible apply wpF_val); (focus (intro vs w' hE hk; (obtain ⟨d0, d1, d2, ci, ca⟩ := KS.out w' hE); go_simp; exact ⟨AppE.refl _, rfl⟩)); (simp only [Act.put, List.setIfInBounds_toArray, List.set_cons_zero, List.set_cons_succ, List.cons_append, List.nil_append])
            (with_reducible apply wpF_val); (focus (intro vs w' hE hk; (obtain ⟨d0, d1, d2, ci, ca⟩ := KS.out w' hE); go_simp; exact ⟨AppE.refl _, rfl⟩)); (simp only [Act.put, List.setIfInBounds_toArray, List.set_cons_zero, List.set_cons_succ, List.cons_append, List.nil_append])
            (with_reducible apply wpF_val); (focus (intro vs w' hE hk; (obtain ⟨d0, d1, d2, ci, ca⟩ := KS.out w' hE); go_simp; exact ⟨AppE.refl _, rfl⟩)); (simp only [Act.put, List.setIfInBounds_toArray, List.set_cons_zero, List.set_cons_succ, List.cons_append, List.nil_append])
            (with_reducible apply wpF_val); (focus (intro vs w' hE hk; (obtain ⟨d0, d1, d2, ci, ca⟩ := KS.out w' hE); go_simp; exact ⟨AppE.refl _, rfl⟩)); (simp only [Act.put, List.setIfInBounds_toArray, List.set_cons_zero, List.set_cons_succ, List.cons_append, List.nil_append])
            (with_reducible apply wpF_val); (focus (intro vs w' hE hk; (obtain ⟨d0, d1, d2, ci, ca⟩ := KS.out w' hE); go_simp; exact ⟨AppE.refl _, rfl⟩)); (simp only [Act.put, List.setIfInBounds_toArray, List.set_cons_zero, List.set_cons_succ, List.cons_append, List.nil_append])
            (with_reducible apply wpF_val); (focus (intro vs w' hE hk; (obtain ⟨d0, d1, d2, ci, ca⟩ := KS.out w' hE); go_simp; exact ⟨AppE.refl _, rfl⟩)); (simp only [Act.put, List.setIfInBounds_toArray, List.set_cons_zero, List.set_cons_succ, List.cons_append, List.nil_append])
            (with_reducible apply wpF_val); (focus (intro vs w' hE hk; (obtain ⟨d0, d1, d2, ci, ca⟩ := KS.out w' hE); go_simp; exact ⟨AppE.refl _, rfl⟩)); (simp only [Act.put, List.setIfInBounds_toArray, List.set_cons_zero, List.set_cons_succ, List.cons_append, List.nil_append])
            (with_reducible apply wpF_val); (focus (intro vs w' hE hk; (obtain ⟨d0, d1, d2, ci, ca⟩ := KS.out w' hE); go_simp; exact ⟨AppE.refl _, rfl⟩)); (simp only [Act.put, List.setIfInBounds_toArray, List.set_cons_zero, List.set_cons_succ, List.cons_append, List.nil_append])
            (with_reducible apply wpF_val); (focus (intro vs w' hE hk; (obtain ⟨d0, d1, d2, ci, ca⟩ := KS.out w' hE); go_simp; exact ⟨AppE.refl _, rfl⟩)); (simp only [Act.put, List.setIfInBounds_toArray, List.set_cons_zero, List.set_cons_succ, List.cons_append, List.nil_append])
            refine wpF_fact (Boxd 43 (rowOf a j c) (fat L j)) Boxd.keep (fun vs w' hE hk => ?_) ?_
            · go_simp; exact ⟨AppE.of_below ((Below.refl _ _).alloc (Nat.le_refl _) _), Boxd.new w' nn (fun e => by have := rowOf_in HO.out _ e; have := hE.1.size; omega)⟩
            (simp only [Act.put, List.setIfInBounds_toArray, List.set_cons_zero, List.set_cons_succ, List.cons_append, List.nil_append])
            refine wpF_fact (Appd 43 w7.heap.size wr.heap.size j (fat L j) a c zs) (Appd.keep FLTH.out) (fun vs w' hE hk => ?_) ?_
            · obtain ⟨g, m, hu, _, _, hg4⟩ := hk 9 (by kernel_rfl)
              simp only [hu]
              rw [if_pos (by rfl)]
              refine uponW_append _ _ _ rfl rfl rfl ?_
              exact append_step _ _ i0 _ Try.underlying22 hinf hz0 hz1 hz2 rfl (HO.out.appE hE) (by have := hE.1.size; omega) _ hE.1.size FLTH.out g 1 m _ hg4 (by omega)
            (simp only [Act.put, List.setIfInBounds_toArray, List.set_cons_zero, List.set_cons_succ, List.cons_append, List.nil_append])
            refine wpF_fact (Appd 43 w7.heap.size wr.heap.size j (fat L j) a c zs) (Appd.keep FLTH.out) (fun vs w' hE hk => ?_) ?_
            · obtain ⟨a', c', n', hu, h2⟩ := hk 10 (by kernel_rfl)
              simp only [hu]
              go_simp
              exact ⟨AppE.refl _, a', c', n', rfl, h2⟩
            (simp only [Act.put, List.setIfInBounds_toArray, List.set_cons_zero, List.set_cons_succ, List.cons_append, List.nil_append])
            refine wpF_nil (fun vs w' hE hk => ?_)
            obtain ⟨a1, c1, n1, hu1, _, _, _⟩ := hk 10
            obtain ⟨a2, c2, n2, hu2, hO2, _, _⟩ := hk 11
            simp only [hu1, hu2]
            have HO2 := Lib.hid hO2
            have HB2 := Lib.hid (HBl.out.grown hE.1 (by omega) (fun g e => (rowOf_in HO.out g e).1))
            clear hO2 hk hE
            go_wp2_with fail
            go_roundw
            case rel => exact ⟨j + 1, a2, c2, _, by omega, by go_num, rfl, HO2.out, near_snoc HNr.out (by rw [HLL.out]; exact hjn) n2, HB2.out⟩
            case measure => simp [intOf]; omega
          · obtain rfl : j = n := by omega
            have hz : near zs L := by have h := HNr.out; rwa [List.take_of_length_le (by rw [HLL.out]; exact Nat.le_refl _)] at h
            obtain rfl := near_eq hz HFL.out
            have CR : Calls Try.prog 93 #[.slice a j c] (wr.drewN 0) (fun e w' => ∃ n m k, e = .returned (.tuple #[.float .f32 (pick .f32 (loL zA idx) n), .float .f32 (pick .f32 (hiL zA idx) m)]) ∧ w' = wr.drewN k) := by
              have h := c_l02Range a c zs wr 0 (by rw [HLL.out]; exact HO.out.row) (by rw [HLL.out]; exact hpos7)
              rw [HLo.out.1, HLo.out.2, HLL.out] at h
              exact h
            have CRh := Lib.hid CR
            have hkB : k < zB.length := by rw [← HNB.out]; exact hlt
            obtain ⟨b2, o2, nl, hab2, hbl2, hcl2⟩ := (RB3.out.below BQ.out).at hkB
            subst hab2
            have hkB2 : (k : Int) < (zB.length : Int) := by omega
            obtain ⟨d0, d1, d2⟩ := VBq.out.three
            have BF := Lib.hid (BQ.out)
            clear CR hz
            rw [← wr.drewN_zero]
            cases h1 : (FloatKind.f32.format.order (fop .sub .f32 (fat zB k) (hiL zA idx)) (haloQ zA zB Wn N k) == some .gt)
            · have e1 : highF (haloQ zA zB Wn N k) (fop .sub .f32 (fat zB k) (hiL zA idx)) = haloQ zA zB Wn N k := by unfold highF; rw [h1]; rfl
              have HS2 := Lib.hid (HStep.out.trans (by rw [e1]))
              clear e1
              cases h2 : (FloatKind.f32.format.order (fop .sub .f32 (loL zA idx) (fat zB k)) (haloQ zA zB Wn N k) == some .gt)
              all_goals
                have HS3 := Lib.hid (HS2.out.trans (by unfold highF; rw [h2]))
                go_wp2_with fail
                refine CRh.out.mono ?_
                rintro _ _ ⟨n9, m9, k9, rfl, rfl⟩
                go_wp2_with (first | (refine wpList_fop rfl _ _ _ _ _ rfl _ _ _ rfl rfl (by decide) _ ?_; intro _ _) | (refine upon_fop _ _ _ _ _ (by decide) ?_; intro _ _))
                go_roundw
                case rel => exact ⟨k + 1, _, by omega, by go_num, by rw [HS3.out]; rfl, below_drewN BF.out _⟩
                case measure => simp [intOf]; omega
            · have e1 : highF (haloQ zA zB Wn N k) (fop .sub .f32 (fat zB k) (hiL zA idx)) = fop .sub .f32 (fat zB k) (hiL zA idx) := by unfold highF; rw [h1]; rfl
              have HS2 := Lib.hid (HStep.out.trans (by rw [e1]))
              clear e1
              cases h2 : (FloatKind.f32.format.order (fop .sub .f32 (loL zA idx) (fat zB k)) (fop .sub .f32 (fat zB k) (hiL zA idx)) == some .gt)
              all_goals
                have HS3 := Lib.hid (HS2.out.trans (by unfold highF; rw [h2]))
                go_wp2_with fail
                refine CRh.out.mono ?_
                rintro _ _ ⟨n9, m9, k9, rfl, rfl⟩
                go_wp2_with (first | (refine wpList_fop rfl _ _ _ _ _ rfl _ _ _ rfl rfl (by decide) _ ?_; intro _ _) | (refine upon_fop _ _ _ _ _ (by decide) ?_; intro _ _))
                go_roundw
                case rel => exact ⟨k + 1, _, by omega, by go_num, by rw [HS3.out]; rfl, below_drewN BF.out _⟩
                case measure => simp [intOf]; omega
      · obtain rfl : k = N := by omega
        go_wp2_with fail
        clear mw d0 d1 d2
        rw [← wr.drewN_zero]
        have HB9 := Lib.hid (BX.out.trans (HB.out.mono (by omega)))
        go_wp2_with (first | (first | (refine wpList_fop rfl _ _ _ _ _ rfl _ _ _ rfl rfl (by decide) _ ?_; intro _ _) | (refine upon_fop _ _ _ _ _ (by decide) ?_; intro _ _)) | (go_at_call 94; refine (c_l02Number _ _ _ _).mono ?_; rintro _ _ ⟨_, _, rfl, rfl⟩))
        go_ret2
        exact ⟨_, rfl, below_drewN HB9.out _⟩
/-! ### rowOf -/
theorem c_rowOf (Wn Hn : Nat) (a : Option Addr) (cap : Nat) (zs : List Nat) (y : Nat) (w : World) (hr : IsRowF .f32 w a zs.length cap zs) (hW1 : 1 ≤ Wn) (hW2 : Wn ≤ 16) (hH2 : Hn ≤ 16) (hl : zs.length = Wn * Hn) (hy : y < Hn) :
    Calls Try.prog 96 #[.agg #[.int .i64 (Wn : Int), .int .i64 (Hn : Int), .slice a zs.length cap], .int .i64 (y : Int)] w (fun e w' => ∃ b off, a = some ⟨b, off, none⟩ ∧ e = .returned (.slice (some ⟨b, off + y * Wn, none⟩) Wn Wn) ∧ Below w.heap.size w w') := by
  obtain ⟨hb1, hb2⟩ := mul_bound hy hW2 hH2
  obtain ⟨N, hN⟩ : ∃ N, N = zs.length := ⟨_, rfl⟩
  obtain ⟨P, hP⟩ : ∃ P : Nat, P = y * Wn := ⟨_, rfl⟩
  have hPi : (y : Int) * (Wn : Int) = (P : Int) := by rw [hP, Int.natCast_mul]
  have hPi2 : ((y : Int) + 1) * (Wn : Int) = (P : Int) + (Wn : Int) := by rw [Int.add_mul, hPi, Int.one_mul]
  rw [← hP] at hb1 hb2 ⊢
  rw [← hl, ← hN] at hb1
  rw [← hN] at hr ⊢
  have hcap : N ≤ cap := hr.2.1
  have hcm : cap ≤ maxLen := hr.2.2.1
  unfold maxLen at hcm
  obtain ⟨b, off, n0, rfl, hb, e0⟩ := hr.at (k := 0) (by omega)
  have M1 := Lib.hid (show IntKind.i64.wrap ((y : Int) * (Wn : Int)) = (P : Int) by rw [hPi]; exact IntWalk.i64_in _ (by omega))
  have M2 := Lib.hid (show IntKind.i64.wrap (((y : Int) + 1) * (Wn : Int)) = (P : Int) + (Wn : Int) by rw [hPi2]; exact IntWalk.i64_in _ (by omega))
  have M3 := Lib.hid (show IntKind.i64.wrap ((y : Int) + 1) = (y : Int) + 1 from IntWalk.i64_in _ (by omega))
  have hc2 : P + Wn ≤ cap := by omega
  clear hN hP hPi hPi2 hl hr hb e0 n0
  generalize hw0 : w.alloc (Obj.cells #[.int .i64 (Wn : Int), .int .i64 (Hn : Int), .slice (some ⟨b, off, none⟩) N cap] 29) = w0
  have X0 : Var w0 w.heap.size #[.int .i64 (Wn : Int), .int .i64 (Hn : Int), .slice (some ⟨b, off, none⟩) N cap] := by subst hw0; exact Var.new _ _ _
  have X3 : Below w.heap.size w w0 := by subst hw0; exact (Below.refl _ _).alloc (Nat.le_refl _) _
  have HW := Lib.hid hw0
  have B0 := Lib.hid X3
  obtain ⟨v0, v1, v2⟩ := X0.three
  clear hw0 X0 X3
  go_enter Try.func96, Try.ntmps96
  go_wp2_with fail
  rw [HW.out]
  rw [← w0.drewN_zero]
  have m1 := M1.out
  have m2 := M2.out
  have m3 := M3.out
  refine wp_region_N (fun _ _ _ => True) (by kernel_rfl) (by kernel_rfl) ?_; (repeat (first | ((with_reducible show wpN _ _ _ _ _ (Oper.mk _ (Op.binOp _ _ _ _ _) _ _ _ none :: _) _); refine wpN_fop rfl _ _ _ _ _ rfl _ _ _ rfl rfl (by decide) ?_; intro _) | ((with_reducible show wpN _ _ _ _ _ (Oper.mk _ (Op.convert _ _ _) _ _ _ none :: _) _); refine wpN_cvU rfl 43 49 _ rfl (Option.isSome_iff_exists.2 ⟨_, Try.underlying43⟩) Try.underlying49 _ rfl ?_; intro _) | ((with_reducible show wpN _ _ _ _ _ (Oper.mk _ _ _ _ _ (some _) :: _) _); (with_reducible refine wpN_off ?_ ?_); focus rfl; (simp only [Act.put, List.setIfInBounds_toArray, List.set_cons_zero, List.set_cons_succ])) | ((with_reducible show wpN _ _ _ _ _ (Oper.mk _ _ _ _ _ (some _) :: _) _); ((with_reducible refine wpN_on ?_ (fun K hK => ?_)); (focus rfl); intro _; go_simp; first | (refine uponN_value (hK _ ?_)) | (fail; refine hK _ ?_)); clear hK K) | (((with_reducible refine wpN_plain rfl (fun K hK => ?_)); intro _; go_simp; first | (refine uponN_value (hK _ ?_)) | (fail; refine hK _ ?_)); clear hK K) | ((with_reducible refine wpN_step (fun K hK => ?_)); go_simp; first | (refine hK _ ?_) | (intro _; first | (refine uponN_value (hK _ ?_)) | (fail; refine hK _ ?_)); clear hK K))); refine wpN_nil ?_; intro _
  clear m1 m2 m3
  go_wp2_with fail
  go_ret
  exact ⟨b, off, rfl, by simp, below_drewN B0.out _⟩

/-! ### spotsIn -/
theorem infoSpot : (Try.prog.info? 113).map (fun i => (i.zero, i.size, i.bytes)) = some (some (.agg #[.int .i64 0, .int .i64 0, .float .f32 0]), 3, 24) := by kernel_rfl
theorem c_spotsIn (Wn Hn : Nat) (a : Option Addr) (cap : Nat) (zs : List Nat) (l t r b : Int) (w : World) (hr : IsRowF .f32 w a zs.length cap zs) (hW1 : 1 ≤ Wn) (hW2 : Wn ≤ 16) (hH2 : Hn ≤ 16) (hl : zs.length = Wn * Hn) :
    Calls Try.prog 122 #[.agg #[.int .i64 (Wn : Int), .int .i64 (Hn : Int), .slice a zs.length cap], .agg #[.int .i64 l, .int .i64 t, .int .i64 r, .int .i64 b]] w
      (fun e w' => ∃ v, e = .returned v ∧ Below w.heap.size w w' ∧ Spots 113 Wn zs w' w.heap.size v (winL Wn (Wn * Hn) l t r b)) := by
  obtain ⟨i0, hinf, hz0, hz1, hz2⟩ := info_parts infoSpot
  generalize hw2 : (w.alloc (Obj.cells #[.int .i64 (Wn : Int), .int .i64 (Hn : Int), .slice a zs.length cap] 29)).alloc (Obj.cells #[.int .i64 l, .int .i64 t, .int .i64 r, .int .i64 b] 111) = w2
  have B0 : Below w.heap.size w w2 := by subst hw2; exact ((Below.refl _ _).alloc (Nat.le_refl _) _).alloc (by simp) _
  have VA : Var w2 w.heap.size #[.int .i64 (Wn : Int), .int .i64 (Hn : Int), .slice a zs.length cap] := by subst hw2; exact (Var.new _ _ _).alloc _
  have VB : Var w2 (w.heap.size + 1) #[.int .i64 l, .int .i64 t, .int .i64 r, .int .i64 b] := by subst hw2; exact Var.new' _ _ _ _ (by simp)
  have SZ : w2.heap.size = w.heap.size + 1 + 1 := by subst hw2; simp
  have R2 := hr.below B0
  have HN : Wn * Hn ≤ 256 := Nat.le_trans (Nat.mul_le_mul hW2 hH2) (by decide)
  have HBo := Lib.hid (fun (y : Nat) (hy : y < Hn) => (mul_bound hy hW2 hH2))
  have KS := Lib.hid (fun (w' : World) (hE : Below w2.heap.size w2 w') => (⟨(VA.keep hE).2 0 (by simp), (VA.keep hE).2 1 (by simp), (VA.keep hE).2 2 (by simp), (VB.keep hE).2 0 (by simp), (VB.keep hE).2 1 (by simp), (VB.keep hE).2 2 (by simp), (VB.keep hE).2 3 (by simp)⟩ :
    w'.cell? ⟨w.heap.size, 0, none⟩ = some (.int .i64 (Wn : Int)) ∧ w'.cell? ⟨w.heap.size, 1, none⟩ = some (.int .i64 (Hn : Int)) ∧ w'.cell? ⟨w.heap.size, 2, none⟩ = some (.slice a zs.length cap) ∧ w'.cell? ⟨w.heap.size + 1, 0, none⟩ = some (.int .i64 l) ∧ w'.cell? ⟨w.heap.size + 1, 1, none⟩ = some (.int .i64 t) ∧ w'.cell? ⟨w.heap.size + 1, 2, none⟩ = some (.int .i64 r) ∧ w'.cell? ⟨w.heap.size + 1, 3, none⟩ = some (.int .i64 b)))
  have HW := Lib.hid hw2
  have BW := Lib.hid B0
  have RW := Lib.hid R2
  have HLn := Lib.hid hl
  have RC := Lib.hid (fun (y : Nat) (wr : World) (hE : Below w2.heap.size w2 wr) (hy : y < Hn) => c_rowOf Wn Hn a cap zs y wr (RW.out.below hE) hW1 hW2 hH2 HLn.out hy)
  have HCell := Lib.hid (fun (bb off i : Nat) (wr : World) (hE : Below w2.heap.size w2 wr) (ha : a = some ⟨bb, off, none⟩) (hi : i < Wn * Hn) => (by
    rcases (RW.out.below hE).2.2.2.2 with h0 | ⟨b', off', e, _, hc⟩
    · rw [HLn.out] at h0; omega
    · rw [ha] at e; cases e; exact hc i (by rw [HLn.out]; exact hi) : wr.cell? ⟨bb, off + i, none⟩ = some (.float .f32 (fat zs i))))
  have HWi := Lib.hid (show (Lit.int .i64 (Wn : Int)).wf = true by simp [Lit.wf, IntKind.min, IntKind.max, IntKind.signed, IntKind.bits]; omega)
  clear hw2 B0 VA VB hr R2 hl
  obtain ⟨d0, d1, d2, d3, d4, d5, d6⟩ := KS.out w2 (Below.refl _ _)
  go_enter Try.func122, Try.ntmps122
  go_wp2_with fail
  rw [HW.out]
  go_step3
  go_wp2_with fail
  go_step3
  go_wp2_with fail
  clear d0 d1 d2 d3 d4 d5 d6
  go_loopg [5, 12] Hn (fun g s5 s12 wr => ∃ y : Nat, y + g = Hn ∧ s12 = .int .i64 (y : Int) ∧ Hid (Spots 113 Wn zs wr w2.heap.size s5 (winL Wn (y * Wn) l t r b)) ∧ Below w2.heap.size w2 wr)
  case atStart => exact ⟨0, by omega, rfl, Lib.hid (by rw [Nat.zero_mul]; exact World.ownsRow_nil _ _ _ _), Below.refl _ _⟩
  case round =>
    obtain ⟨y, hyg, rfl, HS, hB⟩ := hrel
    obtain ⟨d0, d1, d2, d3, d4, d5, d6⟩ := KS.out wr hB
    have HB := Lib.hid hB
    clear hB
    obtain ⟨u5, c5, e5⟩ := HS.out.isSlice
    subst e5
    cases gk with
    | zero =>
      have hyz : ¬ ((y : Int) < (Hn : Int)) := by omega
      go_wp2_with fail
      try rw [Exit.noGoto_ret]
      go_ret
      obtain rfl : y = Hn := by omega
      exact ⟨_, rfl, BW.out.trans (HB.out.mono (by omega)), by rw [Nat.mul_comm Wn y]; exact HS.out.mono (by omega)⟩
    | succ g =>
      have hyz : ((y : Int) < (Hn : Int)) := by omega
      have hyn : y < Hn := by omega
      go_wp2_with fail
      refine (RC.out y wr HB.out hyn).mono ?_
      rintro _ w3 ⟨bb, off, hab, rfl, b3⟩
      have HB3 := Lib.hid (HB.out.trans (b3.mono HB.out.size))
      have HS3 := Lib.hid (HS.out.below b3)
      have HAB := Lib.hid hab
      clear hab b3 HS d0 d1 d2 d3 d4 d5 d6
      go_wp2_with fail
      go_loopg [5, 19] Wn (fun g s5 s19 wr => ∃ x : Nat, x + g = Wn ∧ s19 = .int .i64 (x : Int) ∧ Hid (Spots 113 Wn zs wr w2.heap.size s5 (winL Wn (y * Wn + x) l t r b)) ∧ Below w2.heap.size w2 wr)
      case atStart => exact ⟨0, by omega, rfl, HS3, HB3.out⟩
      case round =>
        obtain ⟨x, hxg, rfl, HS4, hB4⟩ := hrel
        obtain ⟨d0, d1, d2, d3, d4, d5, d6⟩ := KS.out _ hB4
        have HB4 := Lib.hid hB4
        clear hB4
        obtain ⟨v5, k5, e5⟩ := HS4.out.isSlice
        subst e5
        obtain ⟨hr1, hr2⟩ := HBo.out y hyn
        have hlen5 := winL_len Wn (y * Wn + x) l t r b
        obtain ⟨n5, hn5⟩ : ∃ n, n = (winL Wn (y * Wn + x) l t r b).length := ⟨_, rfl⟩
        have HS5 : Hid (Spots 113 Wn zs wr w2.heap.size (.slice v5 n5 k5) (winL Wn (y * Wn + x) l t r b)) := by rw [hn5]; exact HS4
        rw [← hn5] at hlen5 ⊢
        have HN5 := Lib.hid hn5
        clear HS4 hn5
        cases gk with
        | zero =>
          have hxz : ¬ ((x : Int) < (Wn : Int)) := by omega
          go_wp2_with fail
          go_roundg g
          case measure => omega
          case rel => exact ⟨y + 1, by omega, by go_num, by obtain rfl : x = Wn := by omega
                                                            rw [Nat.succ_mul]; exact HS5, HB4.out⟩
        | succ g4 =>
          have hxz : ((x : Int) < (Wn : Int)) := by omega
          have hxn : x < Wn := by omega
          have hcell := HCell.out bb off (y * Wn + x) _ HB4.out HAB.out (by omega)
          rw [← Nat.add_assoc] at hcell
          by_cases hb1 : b < (y : Int)
          · go_wp2_with fail
            try rw [Exit.noGoto_ret]
            go_ret
            exact ⟨_, rfl, BW.out.trans (HB4.out.mono (by omega)), by rw [winL_rest hW1 (show y * Wn + x ≤ Wn * Hn by omega) hb1]; exact HS5.out.mono (by omega)⟩
          by_cases ht1 : (y : Int) < t
          · go_wp2_with fail
            go_roundg g
            case measure => omega
            case rel => exact ⟨y + 1, by omega, by go_num, by rw [winL_row (Nat.le_of_lt hxn) (.inl ht1)]; exact HS5, HB4.out⟩
          by_cases hr3 : r < (x : Int)
          · go_wp2_with fail
            go_roundg g
            case measure => omega
            case rel => exact ⟨y + 1, by omega, by go_num, by rw [winL_row (Nat.le_of_lt hxn) (.inr hr3)]; exact HS5, HB4.out⟩
          by_cases hlx : l ≤ (x : Int)
          · have hbel : Below w2.heap.size w2 _ := HB4.out
            have hsz : w2.heap.size ≤ wr.heap.size := HB4.out.size
            have hw : winB Wn l t r b (y * Wn + x) = true := by rw [winB_at rfl hxn]; simp only [Bool.and_eq_true, decide_eq_true_eq]; omega
            have HWB := Lib.hid hw
            have hdm := row_div (rfl : y * Wn + x = y * Wn + x) hxn
            have HDM := Lib.hid hdm
            clear hbel hw hdm
            go_wp2_with (at_builtin; refine wpList_append_own _ rfl _ _ 93 rfl w2.heap.size 113 i0 (.agg #[.int .i64 0, .int .i64 0, .float .f32 0]) 3 24 Try.underlying93 hinf hz0 hz1 hz2 rfl (by decide) _ n5 (spotsC Wn zs (winL Wn (y * Wn + x) l t r b)) rfl (by have h := HS5.out.below ((Below.refl wr.heap.size wr).alloc (Nat.le_refl _) (.cells #[.int .i64 (x : Int), .int .i64 (y : Int), .float .f32 (fat zs (y * Wn + x))] 113)); unfold Spots at h; rwa [← HN5.out] at h) ⟨wr.heap.size, 0, none⟩ 1 1 [.int .i64 (x : Int), .int .i64 (y : Int), .float .f32 (fat zs (y * Wn + x))] rfl rfl (cells3_new wr _ _ _ _ _ rfl) (by intro u hu; simp at hu; rcases hu with rfl | rfl | rfl <;> rfl) (by unfold maxLen; omega) (by omega) (by simp; omega) ?_)
            intro v' w6 hown' hgrow _
            have hB6 : Below w2.heap.size w2 w6 := (HB4.out.alloc hsz _).grown hgrow (by simp; omega) (fun g e => by have := HS5.out.lt g e; exact this.1)
            have HS6 : Hid (Spots 113 Wn zs w6 w2.heap.size v' (winL Wn (y * Wn + (x + 1)) l t r b)) := by
              show Spots _ _ _ _ _ _ _
              unfold Spots
              rw [← Nat.add_assoc, winL_yes HWB.out, spotsC_snoc, List.length_append, ← HN5.out]
              have e : spotC Wn zs (y * Wn + x) = [.int .i64 (x : Int), .int .i64 (y : Int), .float .f32 (fat zs (y * Wn + x))] := by unfold spotC; rw [HDM.out.1, HDM.out.2]
              rw [e, SZ]; exact hown'
            have HB6 := Lib.hid hB6
            clear hown' hgrow hB6
            go_wp2_with fail
            go_roundg g4
            case measure => omega
            case rel => exact ⟨x + 1, by omega, by go_num, HS6, HB6.out⟩
          · have hw : winB Wn l t r b (y * Wn + x) = false := by rw [winB_at rfl hxn, decide_eq_false hlx]; simp
            have HWB := Lib.hid hw
            clear hw
            go_wp2_with fail
            go_roundg g4
            case measure => omega
            case rel => exact ⟨x + 1, by omega, by go_num, by rw [← Nat.add_assoc, winL_no HWB.out]; exact HS5, HB4.out⟩
/-! ### meanOf -/
theorem c_meanOf (Wn : Nat) (zs idx : List Nat) (B : Nat) (v : Value) (w : World) (hs : Spots 113 Wn zs w B v idx) (hn : idx.length ≤ 256) :
    Calls Try.prog 121 #[v] w (fun e w' => ∃ m, e = .returned (.float .f32 (pick .f32 (wmeanV zs idx) m)) ∧ Below w.heap.size w w') := by
  obtain ⟨a, c, rfl⟩ := hs.isSlice
  obtain ⟨n, hn2⟩ : ∃ n, n = idx.length := ⟨_, rfl⟩
  unfold wmeanV
  rw [← hn2] at hs hn ⊢
  have HN := Lib.hid hn2
  have HS := Lib.hid hs
  clear hs hn2
  go_enter Try.func121, Try.ntmps121
  go_wp2_with fail
  go_loopw [3, 8] (fun s3 s8 wr => ∃ j m : Nat, j ≤ n ∧ s8 = .int .i64 (j : Int) ∧ s3 = .float .f32 (pick .f32 (sumL zs (idx.take j)) m) ∧ Below w.heap.size w wr) (fun _ s8 _ => n - (intOf s8).toNat)
  case atStart => exact ⟨0, 0, Nat.zero_le _, rfl, by rw [List.take_zero]; exact congrArg _ (pick_not (by decide +kernel) 0).symm, Below.refl _ _⟩
  case round =>
    obtain ⟨j, m, hj, rfl, rfl, hB⟩ := hrel
    by_cases hlt : j < n
    · obtain ⟨g, c2, e, hg, hc1, hc2, h0, h1, h2⟩ := (HS.out.below hB).at (j := j) (by rw [← HN.out]; exact hlt)
      have HB := Lib.hid hB
      have HT := Lib.hid (take_snoc (idx := idx) (j := j) (by rw [← HN.out]; exact hlt))
      have hsz := hB.size
      clear hB
      simp only [Value.slice.injEq] at e
      obtain ⟨rfl, e1, rfl⟩ := e
      clear e1
      go_wp2_with (first | (refine wpList_fop rfl _ _ _ _ _ rfl _ _ _ rfl rfl (by decide) _ ?_; intro _ _) | (refine wpList_fop0 rfl _ _ _ _ _ rfl _ _ _ rfl rfl (by decide) ?_; intro _ _) | (refine upon_fop _ _ _ _ _ (by decide) ?_; intro _ _) | (refine upon_fop0 _ _ _ _ _ (by decide) ?_; intro _ _))
      go_roundw
      case rel => exact ⟨j + 1, _, by omega, by go_num, by rw [HT.out, sumL_snoc], below_drewN (HB.out.alloc hsz _) _⟩
      case measure => simp [intOf]; omega
    · obtain rfl : j = n := by omega
      have HB := Lib.hid hB
      have HT := Lib.hid (show idx.take j = idx from List.take_of_length_le (by rw [← HN.out]; exact Nat.le_refl _))
      clear hB
      go_wp2_with (first | (refine wpList_fop rfl _ _ _ _ _ rfl _ _ _ rfl rfl (by decide) _ ?_; intro _ _) | (refine wpList_fop0 rfl _ _ _ _ _ rfl _ _ _ rfl rfl (by decide) ?_; intro _ _) | (refine upon_fop _ _ _ _ _ (by decide) ?_; intro _ _) | (refine upon_fop0 _ _ _ _ _ (by decide) ?_; intro _ _))
      go_ret
      exact ⟨_, by rw [HT.out]; rfl, below_drewN HB.out _⟩
/-! ### window -/
theorem c_window (Wn Hn : Nat) (a : Option Addr) (cap : Nat) (zs : List Nat) (r : Int) (x y : Nat) (w : World) (hr : IsRowF .f32 w a zs.length cap zs) (hW1 : 1 ≤ Wn) (hW2 : Wn ≤ 16) (hH2 : Hn ≤ 16) (hl : zs.length = Wn * Hn) (hx : x < 16) (hy : y < 16) (hr0 : 0 ≤ r) (hr8 : r ≤ 8) :
    Calls Try.prog 98 #[.agg #[.int .i64 (Wn : Int), .int .i64 (Hn : Int), .slice a zs.length cap, .int .i64 r], .int .i64 (x : Int), .int .i64 (y : Int)] w
      (fun e w' => ∃ v, e = .returned v ∧ Below w.heap.size w w' ∧ Spots 113 Wn zs w' w.heap.size v (winL Wn (Wn * Hn) ((x : Int) - r) ((y : Int) - r) ((x : Int) + r) ((y : Int) + r))) := by
  have m1 : IntKind.i64.wrap ((x : Int) - r) = (x : Int) - r := IntWalk.i64_in _ (by omega)
  have m2 : IntKind.i64.wrap ((y : Int) - r) = (y : Int) - r := IntWalk.i64_in _ (by omega)
  have m3 : IntKind.i64.wrap ((x : Int) + r) = (x : Int) + r := IntWalk.i64_in _ (by omega)
  have m4 : IntKind.i64.wrap ((y : Int) + r) = (y : Int) + r := IntWalk.i64_in _ (by omega)
  have B0 := Lib.hid ((Below.refl w.heap.size w).alloc (Nat.le_refl _) (.cells #[.int .i64 (Wn : Int), .int .i64 (Hn : Int), .slice a zs.length cap, .int .i64 r] 70))
  have CS := Lib.hid (c_spotsIn Wn Hn a cap zs ((x : Int) - r) ((y : Int) - r) ((x : Int) + r) ((y : Int) + r) _ (hr.below B0.out) hW1 hW2 hH2 hl)
  clear hr hl
  go_enter Try.func98, Try.ntmps98
  go_wp2_with fail
  refine CS.out.mono ?_
  rintro _ w1 ⟨v, rfl, b, hs⟩
  have B1 := Lib.hid (B0.out.trans (b.mono (by simp)))
  have HS := Lib.hid (hs.mono (B' := w.heap.size) (by simp))
  clear b hs
  go_wp2_with fail
  go_ret
  exact ⟨_, rfl, B1.out, HS.out⟩
def boxF (zs : List Nat) (Wn Hn : Nat) (r : Int) (x y : Nat) : Nat := wmeanV zs (winL Wn (Wn * Hn) ((x : Int) - r) ((y : Int) - r) ((x : Int) + r) ((y : Int) + r))
theorem c_vMean (Wn Hn : Nat) (a : Option Addr) (cap : Nat) (zs : List Nat) (r : Int) (x y : Nat) (w : World) (hr : IsRowF .f32 w a zs.length cap zs) (hW1 : 1 ≤ Wn) (hW2 : Wn ≤ 16) (hH2 : Hn ≤ 16) (hl : zs.length = Wn * Hn) (hx : x < 16) (hy : y < 16) (hr0 : 0 ≤ r) (hr8 : r ≤ 8) :
    Calls Try.prog 72 #[.agg #[.int .i64 (Wn : Int), .int .i64 (Hn : Int), .slice a zs.length cap, .int .i64 r], .int .i64 (x : Int), .int .i64 (y : Int)] w
      (fun e w' => ∃ n, e = .returned (.float .f32 (pick .f32 (boxF zs Wn Hn r x y) n)) ∧ Below w.heap.size w w') := by
  unfold boxF
  have HN : Wn * Hn ≤ 256 := Nat.le_trans (Nat.mul_le_mul hW2 hH2) (by decide)
  have hlen := winL_len Wn (Wn * Hn) ((x : Int) - r) ((y : Int) - r) ((x : Int) + r) ((y : Int) + r)
  have B0 := Lib.hid ((Below.refl w.heap.size w).alloc (Nat.le_refl _) (.cells #[.int .i64 (Wn : Int), .int .i64 (Hn : Int), .slice a zs.length cap, .int .i64 r] 70))
  have CS := Lib.hid (c_window Wn Hn a cap zs r x y _ (hr.below B0.out) hW1 hW2 hH2 hl hx hy hr0 hr8)
  clear hr hl
  generalize winL Wn (Wn * Hn) ((x : Int) - r) ((y : Int) - r) ((x : Int) + r) ((y : Int) + r) = idx at *
  go_enter Try.func72, Try.ntmps72
  go_wp2_with fail
  refine CS.out.mono ?_
  rintro _ w1 ⟨v, rfl, b, hs⟩
  have B1 := Lib.hid (B0.out.trans (b.mono (by simp)))
  have HS := Lib.hid hs
  clear b hs
  go_wp2_with fail
  refine (c_meanOf Wn zs idx _ v w1 HS.out (by omega)).mono ?_
  rintro _ w2 ⟨m, rfl, b⟩
  have B2 := Lib.hid (B1.out.trans (b.mono B1.out.size))
  clear b
  go_wp2_with fail
  go_ret
  exact ⟨_, rfl, B2.out⟩
/-! ### sidesOf -/
theorem c_sidesOf (W H : Int) (s : Value) (w : World) : Calls Try.prog 118 #[.agg #[.int .i64 W, .int .i64 H, s]] w (RetB (.agg #[.int .i64 W, .int .i64 H]) w) := by
  go_enter Try.func118, Try.ntmps118
  go_wp2
  exact bodyPost_ret (v := .agg #[.int .i64 W, .int .i64 H]) (by simp [results, Try.results118, go_sem]) rfl ⟨rfl, ((Below.refl _ _).alloc (Nat.le_refl _) _).alloc (by simp) _⟩
/-! ### allowed -/
theorem c_allowed (W H : Int) (w : World) : Calls Try.prog 134 #[.agg #[.int .i64 W, .int .i64 H]] w (RetB (.bool (sideB W H)) w) := by
  unfold sideB
  by_cases h1 : 1 ≤ W
  · by_cases h2 : W ≤ 16
    · by_cases h3 : 1 ≤ H
      · by_cases h4 : H ≤ 16
        all_goals
          go_enter Try.func134, Try.ntmps134
          go_wp2
          go_ret
          exact ⟨by simp [*] <;> (intros; omega), (Below.refl _ _).alloc (Nat.le_refl _) _⟩
      · go_enter Try.func134, Try.ntmps134
        go_wp2
        go_ret
        exact ⟨by simp [*] <;> (intros; omega), (Below.refl _ _).alloc (Nat.le_refl _) _⟩
    · go_enter Try.func134, Try.ntmps134
      go_wp2
      go_ret
      exact ⟨by simp [*] <;> (intros; omega), (Below.refl _ _).alloc (Nat.le_refl _) _⟩
  · go_enter Try.func134, Try.ntmps134
    go_wp2
    go_ret
    exact ⟨by simp [*] <;> (intros; omega), (Below.refl _ _).alloc (Nat.le_refl _) _⟩
/-! ### IsNaN -/
theorem c_IsNaN (v n : Nat) (w : World) (j : Nat) : Calls Try.prog 138 #[.float .f64 (pick .f64 v n)] (w.drewN j) (RetV (.bool (isN .f64 v)) w) := by
  go_enter Try.func138, Try.ntmps138
  go_wp2
  go_ret
  exact ⟨_, rfl, rfl⟩
/-! ### f64bits -/
@[go_sem] theorem e_f64bits (b : Nat) (w : World) : (callFunc 149 #[.float .f64 b]).run Try.prog w = .ok (.value (.int .u64 b)) w := by kernel_rfl
/-! ### f64from -/
@[go_sem] theorem e_f64from (n : Int) (w : World) : (callFunc 148 #[.int .u64 n]).run Try.prog w = .ok (.value (.float .f64 n.toNat)) w := by kernel_rfl
/-! ### Abs -/
theorem c_Abs (v n : Nat) (w : World) (j : Nat) (hv : v < 2 ^ FloatKind.f64.format.width) : Calls Try.prog 144 #[.float .f64 (pick .f64 v n)] (w.drewN j) (RetF .f64 (fabs .f64 v) w) := by
  have hb := abs_bits hv n
  go_enter Try.func144, Try.ntmps144
  go_wp2
  go_ret
  exact ⟨_, _, rfl, rfl⟩
/-! ### IsInf0 -/
theorem c_IsInf0 (v n : Nat) (w : World) (j : Nat) (hv : v < 2 ^ FloatKind.f64.format.width) : Calls Try.prog 139 #[.float .f64 (pick .f64 v n), .int .i64 0] (w.drewN j) (RetV (.bool (FloatKind.f64.format.order (fabs .f64 v) 9218868437227405311 == some .gt)) w) := by
  go_enter Try.func139, Try.ntmps139
  go_wp2_with ((go_at_call 144; refine (c_Abs _ _ _ _ hv).mono ?_; rintro _ _ ⟨_, _, rfl, rfl⟩))
  go_ret
  exact ⟨_, rfl, rfl⟩
/-! ### isFinite64 -/
theorem c_isFinite64 (v n : Nat) (w : World) (j : Nat) (hv : v < 2 ^ FloatKind.f64.format.width) : Calls Try.prog 126 #[.float .f64 (pick .f64 v n)] (w.drewN j) (RetV (.bool (finB .f64 v)) w) := by
  go_enter Try.func126, Try.ntmps126
  go_wp2_with (first | (go_at_call 138; refine (c_IsNaN _ _ _ _).mono ?_; rintro _ _ ⟨_, rfl, rfl⟩) | (go_at_call 139; refine (c_IsInf0 _ _ _ _ hv).mono ?_; rintro _ _ ⟨_, rfl, rfl⟩))
  all_goals
    go_ret
    refine ⟨_, ?_, rfl⟩
    rw [← abs_gt_max]
    simp [*]
/-! ### iIsFinite -/
theorem c_iIsFinite (v n : Nat) (w : World) (j : Nat) : Calls Try.prog 77 #[.float .f32 (pick .f32 v n)] (w.drewN j) (RetV (.bool (finB .f32 v)) w) := by
  go_enter Try.func77, Try.ntmps77
  go_wp2_with (first | (refine wpList_cvU rfl 43 49 _ rfl (Option.isSome_iff_exists.2 ⟨_, Try.underlying43⟩) Try.underlying49 _ rfl _ ?_; intro _ _) | (go_at_call 126; refine (c_isFinite64 _ _ _ _ (cvU_lt _)).mono ?_; rintro _ _ ⟨_, rfl, rfl⟩))
  go_ret
  rw [← finB_cvU]
  exact ⟨_, rfl, rfl⟩
/-! ### areFinite -/
theorem c_areFinite (a : Option Addr) (len cap : Nat) (zs : List Nat) (w : World) (j0 : Nat) (hr : IsRowF .f32 w a len cap zs) : Calls Try.prog 135 #[.slice a len cap] (w.drewN j0) (RetV (.bool (finL zs)) w) := by
  obtain ⟨h1, h2, h3, h4, h5⟩ := hr
  unfold maxLen at h3
  have H1 := Lib.hid h1
  clear h1
  go_enter Try.func135, Try.ntmps135
  go_wp2
  go_loopw [4, 7] (fun _ i wr => ∃ k m : Nat, k ≤ len ∧ i = .int .i64 k ∧ wr = w.drewN m ∧ finL (zs.take k) = true) (fun _ i _ => len - (intOf i).toNat)
  case atStart => exact ⟨0, j0, Nat.zero_le _, rfl, rfl, rfl⟩
  case round =>
    obtain ⟨k, m, hk, rfl, rfl, hfin⟩ := hrel
    have HFin := Lib.hid hfin
    clear hfin
    by_cases hlt : k < len
    · rcases h5 with h5 | ⟨b, off, rfl, hbl, hc⟩
      · omega
      have hcell : w.cell? ⟨b, off + k, none⟩ = some (.float .f32 (fat zs k)) := hc k hlt
      obtain ⟨n, hn⟩ := pick0 .f32 (fat zs k) (lt_of_wf (h4 _ (by unfold fat; rw [List.getD, List.getElem?_eq_getElem (by have := H1.out; omega)]; exact List.getElem_mem _)))
      rw [hn] at hcell
      have HS := Lib.hid (finL_snoc zs k (by have := H1.out; omega))
      cases hf : finB .f32 (fat zs k)
      · have HO := Lib.hid (finL_of zs k (by have := H1.out; omega) hf)
        clear hc h4 hn
        go_wp2_with ((go_at_call 77; refine (c_iIsFinite _ _ _ _).mono ?_; rintro _ _ ⟨_, rfl, rfl⟩))
        go_ret
        exact ⟨_, by rw [HO.out]; rfl, rfl⟩
      · have HF := Lib.hid hf
        clear hc h4 hn
        go_wp2_with ((go_at_call 77; refine (c_iIsFinite _ _ _ _).mono ?_; rintro _ _ ⟨_, rfl, rfl⟩))
        go_roundw
        case rel => exact ⟨k + 1, _, by omega, by go_num, rfl, by rw [HS.out, HFin.out, HF.out]; rfl⟩
        case measure => simp [intOf]; omega
    · have e : zs.take k = zs := List.take_of_length_le (by have := H1.out; omega)
      have HE := Lib.hid e
      clear h5 h4 e
      go_wp2
      go_ret
      exact ⟨_, by have h := HFin.out; rw [HE.out] at h; rw [h]; rfl, rfl⟩
/-! ### iValid -/
theorem c_areFinite0 (a : Option Addr) (len cap : Nat) (zs : List Nat) (w : World) (hr : IsRowF .f32 w a len cap zs) : Calls Try.prog 135 #[.slice a len cap] w (RetV (.bool (finL zs)) w) := by
  have h := c_areFinite a len cap zs w 0 hr
  rwa [w.drewN_zero] at h
theorem c_iValid (W H : Int) (a : Option Addr) (len cap : Nat) (zs : List Nat) (w : World) (hr : IsRowF .f32 w a len cap zs) :
    Calls Try.prog 108 #[.agg #[.int .i64 W, .int .i64 H, .slice a len cap]] w (RetB (.bool (validB W H zs)) w) := by
  have H1 := Lib.hid hr.1
  have HR := Lib.hid hr
  clear hr
  have two : ∀ s : Bool, sideB W H = s → (s = true → ∀ t : Bool, ((len : Int) == W * H) = t → (Calls Try.prog 108 #[.agg #[.int .i64 W, .int .i64 H, .slice a len cap]] w (RetB (.bool (validB W H zs)) w))) → (s = false → Calls Try.prog 108 #[.agg #[.int .i64 W, .int .i64 H, .slice a len cap]] w (RetB (.bool (validB W H zs)) w)) → Calls Try.prog 108 #[.agg #[.int .i64 W, .int .i64 H, .slice a len cap]] w (RetB (.bool (validB W H zs)) w) := by
    intro s hs h1 h2
    cases s
    · exact h2 rfl
    · exact h1 rfl _ rfl
  refine two _ rfl ?_ ?_
  · intro hs t ht
    obtain ⟨m1, m2⟩ := side_mul hs
    have mw : IntKind.i64.wrap (W * H) = W * H := IntWalk.i64_in _ (by omega)
    clear two
    cases t
    · have e : validB W H zs = false := by simp at ht; simp [validB, hs, H1.out, ht]
      have E := Lib.hid e
      have HT := Lib.hid hs
      clear e
      go_enter Try.func108, Try.ntmps108
      go_wp2_with fail
      refine (c_sidesOf W H _ _).mono ?_
      rintro _ w1 ⟨rfl, b1⟩
      obtain ⟨p0, p1, p2⟩ := ((Var.new _ _ _).keep b1).three
      have z1 : w.heap.size < w1.heap.size := by have := b1.size; simp at this; omega
      have B1 := Lib.hid (((Below.refl w.heap.size w).alloc (Nat.le_refl _) _).trans (b1.mono (by simp)))
      clear b1
      go_wp2_with fail
      refine (c_allowed W H _).mono ?_
      rintro _ w2 ⟨rfl, b2⟩
      rw [HT.out]
      have q0 := (b2.cell (p := ⟨w.heap.size, 0, none⟩) z1).trans p0
      have q1 := (b2.cell (p := ⟨w.heap.size, 1, none⟩) z1).trans p1
      have q2 := (b2.cell (p := ⟨w.heap.size, 2, none⟩) z1).trans p2
      have B2 := Lib.hid (B1.out.trans (b2.mono (by omega)))
      clear p0 p1 p2 b2 hs
      go_wp2_with fail
      go_ret
      exact ⟨by rw [E.out]; rfl, B2.out⟩
    · have e : validB W H zs = finL zs := by simp at ht; simp [validB, hs, H1.out, ht]
      have E := Lib.hid e
      have HT := Lib.hid hs
      clear e
      go_enter Try.func108, Try.ntmps108
      go_wp2_with fail
      refine (c_sidesOf W H _ _).mono ?_
      rintro _ w1 ⟨rfl, b1⟩
      obtain ⟨p0, p1, p2⟩ := ((Var.new _ _ _).keep b1).three
      have z1 : w.heap.size < w1.heap.size := by have := b1.size; simp at this; omega
      have B1 := Lib.hid (((Below.refl w.heap.size w).alloc (Nat.le_refl _) _).trans (b1.mono (by simp)))
      clear b1
      go_wp2_with fail
      refine (c_allowed W H _).mono ?_
      rintro _ w2 ⟨rfl, b2⟩
      rw [HT.out]
      have q0 := (b2.cell (p := ⟨w.heap.size, 0, none⟩) z1).trans p0
      have q1 := (b2.cell (p := ⟨w.heap.size, 1, none⟩) z1).trans p1
      have q2 := (b2.cell (p := ⟨w.heap.size, 2, none⟩) z1).trans p2
      have B2 := Lib.hid (B1.out.trans (b2.mono (by omega)))
      clear p0 p1 p2 b2 hs
      go_wp2_with fail
      refine (c_areFinite0 a len cap zs _ (HR.out.below B2.out)).mono ?_
      rintro _ w3 ⟨m, rfl, rfl⟩
      rw [← E.out]
      go_wp2_with fail
      go_ret
      exact ⟨rfl, below_drewN B2.out _⟩
  · intro hs
    have e : validB W H zs = false := by simp [validB, hs]
    have E := Lib.hid e
    have HT := Lib.hid hs
    clear e two
    go_enter Try.func108, Try.ntmps108
    go_wp2_with fail
    refine (c_sidesOf W H _ _).mono ?_
    rintro _ w1 ⟨rfl, b1⟩
    have B1 := Lib.hid (((Below.refl w.heap.size w).alloc (Nat.le_refl _) _).trans (b1.mono (by simp)))
    have z1 : w.heap.size < w1.heap.size := by have := b1.size; simp at this; omega
    clear b1
    go_wp2_with fail
    refine (c_allowed W H _).mono ?_
    rintro _ w2 ⟨rfl, b2⟩
    rw [HT.out]
    have B2 := Lib.hid (B1.out.trans (b2.mono (by omega)))
    clear b2 hs
    go_wp2_with fail
    go_ret
    exact ⟨by rw [E.out]; rfl, B2.out⟩
/-! ### areAlike -/
theorem c_areAlike (WA HA : Int) (zA : List Nat) (aA : Option Addr) (cA : Nat) (WB HB : Int) (zB : List Nat) (aB : Option Addr) (cB : Nat) (w : World) (rA : IsRowF .f32 w aA zA.length cA zA) (rB : IsRowF .f32 w aB zB.length cB zB) : Calls Try.prog 95 #[.agg #[.int .i64 WA, .int .i64 HA, .slice aA zA.length cA], .agg #[.int .i64 WB, .int .i64 HB, .slice aB zB.length cB]] w (RetB (.bool (bothB WA HA zA WB HB zB)) w) := by
  have RA := Lib.hid rA
  have RB := Lib.hid rB
  clear rA rB
  generalize hw2 : (w.alloc (Obj.cells #[.int .i64 WA, .int .i64 HA, .slice aA zA.length cA] 29)).alloc (Obj.cells #[.int .i64 WB, .int .i64 HB, .slice aB zB.length cB] 29) = w2
  have B0 : Below w.heap.size w w2 := by subst hw2; exact ((Below.refl _ _).alloc (Nat.le_refl _) _).alloc (by simp) _
  have VA' : Var w2 w.heap.size #[.int .i64 WA, .int .i64 HA, .slice aA zA.length cA] := by subst hw2; exact (Var.new _ _ _).alloc _
  have VB' : Var w2 (w.heap.size + 1) #[.int .i64 WB, .int .i64 HB, .slice aB zB.length cB] := by subst hw2; exact Var.new' _ _ _ _ (by simp)
  have BW := Lib.hid B0
  have HW2 := Lib.hid hw2
  have SZ : w2.heap.size = w.heap.size + 1 + 1 := by subst hw2; simp
  have KS := Lib.hid (fun (w' : World) (hE : Below w2.heap.size w2 w') => (⟨(VA'.keep hE).three.1, (VA'.keep hE).three.2.1, (VA'.keep hE).three.2.2, (VB'.keep hE).three.1, (VB'.keep hE).three.2.1, (VB'.keep hE).three.2.2⟩ : w'.cell? ⟨w.heap.size, 0, none⟩ = some (.int .i64 WA) ∧ w'.cell? ⟨w.heap.size, 1, none⟩ = some (.int .i64 HA) ∧ w'.cell? ⟨w.heap.size, 2, none⟩ = some (.slice aA zA.length cA) ∧ w'.cell? ⟨w.heap.size + 1, 0, none⟩ = some (.int .i64 WB) ∧ w'.cell? ⟨w.heap.size + 1, 1, none⟩ = some (.int .i64 HB) ∧ w'.cell? ⟨w.heap.size + 1, 2, none⟩ = some (.slice aB zB.length cB)))
  clear B0 VA' VB' hw2
  unfold bothB
  cases hA : validB WA HA zA
  · have HVA := Lib.hid hA
    clear hA
    go_enter Try.func95, Try.ntmps95
    go_wp2_with fail
    rw [HW2.out]
    refine wp_region_facts 13 (Below w2.heap.size) (Below.refl _) (fun _ _ _ => Below.trans) (below_drewN (Below.refl _ _) 1) (by kernel_rfl) (by kernel_rfl) (by kernel_rfl) (by kernel_rfl) ?_
    simp only [List.take_succ_cons, List.take_zero, List.drop_succ_cons, List.drop_zero]
    (with_reducible apply wpF_val); (focus (intro vs w' hE hk; (obtain ⟨d0, d1, d2, e0, e1, e2⟩ := KS.out w' hE); go_simp; exact ⟨Below.refl _ _, rfl⟩)); (simp only [Act.put, List.setIfInBounds_toArray, List.set_cons_zero, List.set_cons_succ, List.cons_append, List.nil_append])
    (with_reducible apply wpF_val); (focus (intro vs w' hE hk; (obtain ⟨d0, d1, d2, e0, e1, e2⟩ := KS.out w' hE); go_simp; refine (c_iValid WA HA aA _ cA zA _ (RA.out.below (BW.out.trans (hE.mono (by omega))))).mono ?_; rintro _ w9 ⟨rfl, b⟩; rw [HVA.out]; exact ⟨_, rfl, b.mono (by have := hE.size; omega), rfl⟩)); (simp only [Act.put, List.setIfInBounds_toArray, List.set_cons_zero, List.set_cons_succ, List.cons_append, List.nil_append])
    (with_reducible apply wpF_val); (focus (intro vs w' hE hk; (obtain ⟨d0, d1, d2, e0, e1, e2⟩ := KS.out w' hE); go_simp; exact ⟨Below.refl _ _, rfl⟩)); (simp only [Act.put, List.setIfInBounds_toArray, List.set_cons_zero, List.set_cons_succ, List.cons_append, List.nil_append])
    (with_reducible apply wpF_val); (focus (intro vs w' hE hk; (obtain ⟨d0, d1, d2, e0, e1, e2⟩ := KS.out w' hE); go_simp; rfl)); (simp only [Act.put, List.setIfInBounds_toArray, List.set_cons_zero, List.set_cons_succ, List.cons_append, List.nil_append])
    (with_reducible apply wpF_val); (focus (intro vs w' hE hk; (obtain ⟨d0, d1, d2, e0, e1, e2⟩ := KS.out w' hE); go_simp; rfl)); (simp only [Act.put, List.setIfInBounds_toArray, List.set_cons_zero, List.set_cons_succ, List.cons_append, List.nil_append])
    (with_reducible apply wpF_val); (focus (intro vs w' hE hk; (obtain ⟨d0, d1, d2, e0, e1, e2⟩ := KS.out w' hE); go_simp; exact ⟨Below.refl _ _, rfl⟩)); (simp only [Act.put, List.setIfInBounds_toArray, List.set_cons_zero, List.set_cons_succ, List.cons_append, List.nil_append])
    (with_reducible apply wpF_val); (focus (intro vs w' hE hk; (obtain ⟨d0, d1, d2, e0, e1, e2⟩ := KS.out w' hE); go_simp; exact ⟨Below.refl _ _, rfl⟩)); (simp only [Act.put, List.setIfInBounds_toArray, List.set_cons_zero, List.set_cons_succ, List.cons_append, List.nil_append])
    (with_reducible apply wpF_val); (focus (intro vs w' hE hk; (obtain ⟨d0, d1, d2, e0, e1, e2⟩ := KS.out w' hE); go_simp; rfl)); (simp only [Act.put, List.setIfInBounds_toArray, List.set_cons_zero, List.set_cons_succ, List.cons_append, List.nil_append])
    (with_reducible apply wpF_val); (focus (intro vs w' hE hk; (obtain ⟨d0, d1, d2, e0, e1, e2⟩ := KS.out w' hE); go_simp; rfl)); (simp only [Act.put, List.setIfInBounds_toArray, List.set_cons_zero, List.set_cons_succ, List.cons_append, List.nil_append])
    (with_reducible apply wpF_val); (focus (intro vs w' hE hk; (obtain ⟨d0, d1, d2, e0, e1, e2⟩ := KS.out w' hE); go_simp; rfl)); (simp only [Act.put, List.setIfInBounds_toArray, List.set_cons_zero, List.set_cons_succ, List.cons_append, List.nil_append])
    (with_reducible apply wpF_val); (focus (intro vs w' hE hk; (obtain ⟨d0, d1, d2, e0, e1, e2⟩ := KS.out w' hE); go_simp; rfl)); (simp only [Act.put, List.setIfInBounds_toArray, List.set_cons_zero, List.set_cons_succ, List.cons_append, List.nil_append])
    (with_reducible apply wpF_val); (focus (intro vs w' hE hk; (obtain ⟨d0, d1, d2, e0, e1, e2⟩ := KS.out w' hE); go_simp; rfl)); (simp only [Act.put, List.setIfInBounds_toArray, List.set_cons_zero, List.set_cons_succ, List.cons_append, List.nil_append])
    (with_reducible apply wpF_val); (focus (intro vs w' hE hk; (obtain ⟨d0, d1, d2, e0, e1, e2⟩ := KS.out w' hE); go_simp; exact ⟨Below.refl _ _, rfl⟩)); (simp only [Act.put, List.setIfInBounds_toArray, List.set_cons_zero, List.set_cons_succ, List.cons_append, List.nil_append])
    refine wpF_nil (fun vs w' hE hk => ?_)
    have BX := Lib.hid (BW.out.trans (hE.mono (by omega)))
    clear hE hk
    go_wp2_with fail
    go_ret
    exact ⟨by simp only [Bool.false_and]; rfl, BX.out⟩
  cases hB : validB WB HB zB
  · have HVA := Lib.hid hA
    have HVB := Lib.hid hB
    clear hA hB
    go_enter Try.func95, Try.ntmps95
    go_wp2_with fail
    rw [HW2.out]
    refine wp_region_facts 13 (Below w2.heap.size) (Below.refl _) (fun _ _ _ => Below.trans) (below_drewN (Below.refl _ _) 1) (by kernel_rfl) (by kernel_rfl) (by kernel_rfl) (by kernel_rfl) ?_
    simp only [List.take_succ_cons, List.take_zero, List.drop_succ_cons, List.drop_zero]
    (with_reducible apply wpF_val); (focus (intro vs w' hE hk; (obtain ⟨d0, d1, d2, e0, e1, e2⟩ := KS.out w' hE); go_simp; exact ⟨Below.refl _ _, rfl⟩)); (simp only [Act.put, List.setIfInBounds_toArray, List.set_cons_zero, List.set_cons_succ, List.cons_append, List.nil_append])
    (with_reducible apply wpF_val); (focus (intro vs w' hE hk; (obtain ⟨d0, d1, d2, e0, e1, e2⟩ := KS.out w' hE); go_simp; refine (c_iValid WA HA aA _ cA zA _ (RA.out.below (BW.out.trans (hE.mono (by omega))))).mono ?_; rintro _ w9 ⟨rfl, b⟩; rw [HVA.out]; exact ⟨_, rfl, b.mono (by have := hE.size; omega), rfl⟩)); (simp only [Act.put, List.setIfInBounds_toArray, List.set_cons_zero, List.set_cons_succ, List.cons_append, List.nil_append])
    (with_reducible apply wpF_val); (focus (intro vs w' hE hk; (obtain ⟨d0, d1, d2, e0, e1, e2⟩ := KS.out w' hE); go_simp; exact ⟨Below.refl _ _, rfl⟩)); (simp only [Act.put, List.setIfInBounds_toArray, List.set_cons_zero, List.set_cons_succ, List.cons_append, List.nil_append])
    (with_reducible apply wpF_val); (focus (intro vs w' hE hk; (obtain ⟨d0, d1, d2, e0, e1, e2⟩ := KS.out w' hE); go_simp; exact ⟨Below.refl _ _, rfl⟩)); (simp only [Act.put, List.setIfInBounds_toArray, List.set_cons_zero, List.set_cons_succ, List.cons_append, List.nil_append])
    (with_reducible apply wpF_val); (focus (intro vs w' hE hk; (obtain ⟨d0, d1, d2, e0, e1, e2⟩ := KS.out w' hE); go_simp; refine (c_iValid WB HB aB _ cB zB _ (RB.out.below (BW.out.trans (hE.mono (by omega))))).mono ?_; rintro _ w9 ⟨rfl, b⟩; rw [HVB.out]; exact ⟨_, rfl, b.mono (by have := hE.size; omega), rfl⟩)); (simp only [Act.put, List.setIfInBounds_toArray, List.set_cons_zero, List.set_cons_succ, List.cons_append, List.nil_append])
    (with_reducible apply wpF_val); (focus (intro vs w' hE hk; (obtain ⟨d0, d1, d2, e0, e1, e2⟩ := KS.out w' hE); go_simp; exact ⟨Below.refl _ _, rfl⟩)); (simp only [Act.put, List.setIfInBounds_toArray, List.set_cons_zero, List.set_cons_succ, List.cons_append, List.nil_append])
    (with_reducible apply wpF_val); (focus (intro vs w' hE hk; (obtain ⟨d0, d1, d2, e0, e1, e2⟩ := KS.out w' hE); go_simp; exact ⟨Below.refl _ _, rfl⟩)); (simp only [Act.put, List.setIfInBounds_toArray, List.set_cons_zero, List.set_cons_succ, List.cons_append, List.nil_append])
    (with_reducible apply wpF_val); (focus (intro vs w' hE hk; (obtain ⟨d0, d1, d2, e0, e1, e2⟩ := KS.out w' hE); go_simp; rfl)); (simp only [Act.put, List.setIfInBounds_toArray, List.set_cons_zero, List.set_cons_succ, List.cons_append, List.nil_append])
    (with_reducible apply wpF_val); (focus (intro vs w' hE hk; (obtain ⟨d0, d1, d2, e0, e1, e2⟩ := KS.out w' hE); go_simp; rfl)); (simp only [Act.put, List.setIfInBounds_toArray, List.set_cons_zero, List.set_cons_succ, List.cons_append, List.nil_append])
    (with_reducible apply wpF_val); (focus (intro vs w' hE hk; (obtain ⟨d0, d1, d2, e0, e1, e2⟩ := KS.out w' hE); go_simp; rfl)); (simp only [Act.put, List.setIfInBounds_toArray, List.set_cons_zero, List.set_cons_succ, List.cons_append, List.nil_append])
    (with_reducible apply wpF_val); (focus (intro vs w' hE hk; (obtain ⟨d0, d1, d2, e0, e1, e2⟩ := KS.out w' hE); go_simp; rfl)); (simp only [Act.put, List.setIfInBounds_toArray, List.set_cons_zero, List.set_cons_succ, List.cons_append, List.nil_append])
    (with_reducible apply wpF_val); (focus (intro vs w' hE hk; (obtain ⟨d0, d1, d2, e0, e1, e2⟩ := KS.out w' hE); go_simp; rfl)); (simp only [Act.put, List.setIfInBounds_toArray, List.set_cons_zero, List.set_cons_succ, List.cons_append, List.nil_append])
    (with_reducible apply wpF_val); (focus (intro vs w' hE hk; (obtain ⟨d0, d1, d2, e0, e1, e2⟩ := KS.out w' hE); go_simp; exact ⟨Below.refl _ _, rfl⟩)); (simp only [Act.put, List.setIfInBounds_toArray, List.set_cons_zero, List.set_cons_succ, List.cons_append, List.nil_append])
    refine wpF_nil (fun vs w' hE hk => ?_)
    have BX := Lib.hid (BW.out.trans (hE.mono (by omega)))
    clear hE hk
    go_wp2_with fail
    go_ret
    exact ⟨by simp only [Bool.true_and, Bool.false_and]; rfl, BX.out⟩
  have HVA := Lib.hid hA
  have HVB := Lib.hid hB
  clear hA hB
  cases hW : (WA == WB) <;> cases hH : (HA == HB)
  all_goals
    go_enter Try.func95, Try.ntmps95
    go_wp2_with fail
    rw [HW2.out]
    refine wp_region_facts 13 (Below w2.heap.size) (Below.refl _) (fun _ _ _ => Below.trans) (below_drewN (Below.refl _ _) 1) (by kernel_rfl) (by kernel_rfl) (by kernel_rfl) (by kernel_rfl) ?_
    simp only [List.take_succ_cons, List.take_zero, List.drop_succ_cons, List.drop_zero]
    (with_reducible apply wpF_val); (focus (intro vs w' hE hk; (obtain ⟨d0, d1, d2, e0, e1, e2⟩ := KS.out w' hE); go_simp; exact ⟨Below.refl _ _, rfl⟩)); (simp only [Act.put, List.setIfInBounds_toArray, List.set_cons_zero, List.set_cons_succ, List.cons_append, List.nil_append])
    (with_reducible apply wpF_val); (focus (intro vs w' hE hk; (obtain ⟨d0, d1, d2, e0, e1, e2⟩ := KS.out w' hE); go_simp; refine (c_iValid WA HA aA _ cA zA _ (RA.out.below (BW.out.trans (hE.mono (by omega))))).mono ?_; rintro _ w9 ⟨rfl, b⟩; rw [HVA.out]; exact ⟨_, rfl, b.mono (by have := hE.size; omega), rfl⟩)); (simp only [Act.put, List.setIfInBounds_toArray, List.set_cons_zero, List.set_cons_succ, List.cons_append, List.nil_append])
    (with_reducible apply wpF_val); (focus (intro vs w' hE hk; (obtain ⟨d0, d1, d2, e0, e1, e2⟩ := KS.out w' hE); go_simp; exact ⟨Below.refl _ _, rfl⟩)); (simp only [Act.put, List.setIfInBounds_toArray, List.set_cons_zero, List.set_cons_succ, List.cons_append, List.nil_append])
    (with_reducible apply wpF_val); (focus (intro vs w' hE hk; (obtain ⟨d0, d1, d2, e0, e1, e2⟩ := KS.out w' hE); go_simp; exact ⟨Below.refl _ _, rfl⟩)); (simp only [Act.put, List.setIfInBounds_toArray, List.set_cons_zero, List.set_cons_succ, List.cons_append, List.nil_append])
    (with_reducible apply wpF_val); (focus (intro vs w' hE hk; (obtain ⟨d0, d1, d2, e0, e1, e2⟩ := KS.out w' hE); go_simp; refine (c_iValid WB HB aB _ cB zB _ (RB.out.below (BW.out.trans (hE.mono (by omega))))).mono ?_; rintro _ w9 ⟨rfl, b⟩; rw [HVB.out]; exact ⟨_, rfl, b.mono (by have := hE.size; omega), rfl⟩)); (simp only [Act.put, List.setIfInBounds_toArray, List.set_cons_zero, List.set_cons_succ, List.cons_append, List.nil_append])
    (with_reducible apply wpF_val); (focus (intro vs w' hE hk; (obtain ⟨d0, d1, d2, e0, e1, e2⟩ := KS.out w' hE); go_simp; exact ⟨Below.refl _ _, rfl⟩)); (simp only [Act.put, List.setIfInBounds_toArray, List.set_cons_zero, List.set_cons_succ, List.cons_append, List.nil_append])
    (with_reducible apply wpF_val); (focus (intro vs w' hE hk; (obtain ⟨d0, d1, d2, e0, e1, e2⟩ := KS.out w' hE); go_simp; exact ⟨Below.refl _ _, rfl⟩)); (simp only [Act.put, List.setIfInBounds_toArray, List.set_cons_zero, List.set_cons_succ, List.cons_append, List.nil_append])
    (with_reducible apply wpF_val); (focus (intro vs w' hE hk; (obtain ⟨d0, d1, d2, e0, e1, e2⟩ := KS.out w' hE); go_simp; exact ⟨Below.refl _ _, rfl⟩)); (simp only [Act.put, List.setIfInBounds_toArray, List.set_cons_zero, List.set_cons_succ, List.cons_append, List.nil_append])
    (with_reducible apply wpF_val); (focus (intro vs w' hE hk; (obtain ⟨d0, d1, d2, e0, e1, e2⟩ := KS.out w' hE); go_simp; refine (c_sidesOf WA HA _ _).mono ?_; rintro _ w9 ⟨rfl, b⟩; exact ⟨_, rfl, b.mono (by have := hE.size; omega), rfl⟩)); (simp only [Act.put, List.setIfInBounds_toArray, List.set_cons_zero, List.set_cons_succ, List.cons_append, List.nil_append])
    (with_reducible apply wpF_val); (focus (intro vs w' hE hk; (obtain ⟨d0, d1, d2, e0, e1, e2⟩ := KS.out w' hE); go_simp; exact ⟨Below.refl _ _, rfl⟩)); (simp only [Act.put, List.setIfInBounds_toArray, List.set_cons_zero, List.set_cons_succ, List.cons_append, List.nil_append])
    (with_reducible apply wpF_val); (focus (intro vs w' hE hk; (obtain ⟨d0, d1, d2, e0, e1, e2⟩ := KS.out w' hE); go_simp; refine (c_sidesOf WB HB _ _).mono ?_; rintro _ w9 ⟨rfl, b⟩; exact ⟨_, rfl, b.mono (by have := hE.size; omega), rfl⟩)); (simp only [Act.put, List.setIfInBounds_toArray, List.set_cons_zero, List.set_cons_succ, List.cons_append, List.nil_append])
    (with_reducible apply wpF_val); (focus (intro vs w' hE hk; (obtain ⟨d0, d1, d2, e0, e1, e2⟩ := KS.out w' hE); go_simp; exact ⟨Below.refl _ _, rfl⟩)); (simp only [Act.put, List.setIfInBounds_toArray, List.set_cons_zero, List.set_cons_succ, List.cons_append, List.nil_append])
    (with_reducible apply wpF_val); (focus (intro vs w' hE hk; (obtain ⟨d0, d1, d2, e0, e1, e2⟩ := KS.out w' hE); go_simp; exact ⟨Below.refl _ _, rfl⟩)); (simp only [Act.put, List.setIfInBounds_toArray, List.set_cons_zero, List.set_cons_succ, List.cons_append, List.nil_append])
    refine wpF_nil (fun vs w' hE hk => ?_)
    have BX := Lib.hid (BW.out.trans (hE.mono (by omega)))
    clear hE hk
    go_wp2_with fail
    go_ret
    exact ⟨by simp only [Bool.true_and, Bool.and_true, Bool.and_false]; rfl, BX.out⟩
/-! ### ifFinite -/
theorem c_ifFinite (v n : Nat) (w : World) (j : Nat) : Calls Try.prog 99 #[.float .f32 (pick .f32 v n)] (w.drewN j) (fun e w' => ∃ k m, e = .returned (.tuple #[.float .f32 (pick .f32 (numR v).1 k), .bool (numR v).2]) ∧ w' = w.drewN m) := by
  cases h : finB .f32 v
  · have e : numR v = (0, false) := by unfold numR; rw [if_neg (by rw [h]; decide)]
    rw [e]
    go_enter Try.func99, Try.ntmps99
    go_wp2_with (first | (go_at_call 77; refine (c_iIsFinite _ _ _ _).mono ?_; rintro _ _ ⟨_, rfl, rfl⟩))
    go_ret2
    exact ⟨0, _, by simp only [pick00]; rfl, rfl⟩
  · have e : numR v = (v, true) := by unfold numR; rw [if_pos h]
    rw [e]
    go_enter Try.func99, Try.ntmps99
    go_wp2_with (first | (go_at_call 77; refine (c_iIsFinite _ _ _ _).mono ?_; rintro _ _ ⟨_, rfl, rfl⟩))
    go_ret2
    exact ⟨n, _, rfl, rfl⟩
/-! ### makeDefs -/
def makeL (F : Nat → Nat → Nat) (Wn Hn : Nat) : List Nat := (List.range (Wn * Hn)).map fun i => F (i % Wn) (i / Wn)
theorem makeL_len {F : Nat → Nat → Nat} {Wn Hn : Nat} : (makeL F Wn Hn).length = Wn * Hn := by simp [makeL]
theorem makeL_at {F : Nat → Nat → Nat} {Wn Hn x y k : Nat} (hk : k = y * Wn + x) (hx : x < Wn) (hy : y < Hn) : fat (makeL F Wn Hn) k = F x y := by
  have h1 : k < Wn * Hn := by
    have : (y + 1) * Wn ≤ Hn * Wn := Nat.mul_le_mul_right _ (by omega)
    rw [Nat.succ_mul] at this
    rw [Nat.mul_comm Wn Hn]; omega
  have h2 : k % Wn = x := by rw [hk, Nat.mul_comm y Wn, Nat.mul_add_mod, Nat.mod_eq_of_lt hx]
  have h3 : k / Wn = y := by rw [hk, Nat.mul_comm y Wn, Nat.mul_add_div (by omega), Nat.div_eq_of_lt hx, Nat.add_zero]
  simp [fat, makeL, h1, h2, h3]
theorem make_lt {Wn Hn x y k : Nat} (hk : k = y * Wn + x) (hx : x < Wn) (hy : y < Hn) : k + 1 ≤ Wn * Hn := by
  have : (y + 1) * Wn ≤ Hn * Wn := Nat.mul_le_mul_right _ (by omega)
  rw [Nat.succ_mul] at this
  rw [Nat.mul_comm Wn Hn]; omega
def resMake (F : Nat → Nat → Nat) (W H : Int) : PRes := if sideB W H = true then giveP W H (makeL F W.toNat H.toNat) else PRes.no
/-! ### iHalo -/
theorem c_iHaloOf (WA HA : Int) (zA : List Nat) (aA : Option Addr) (cA : Nat) (WB HB : Int) (zB : List Nat) (aB : Option Addr) (cB : Nat) (w : World) (rA : IsRowF .f32 w aA zA.length cA zA) (rB : IsRowF .f32 w aB zB.length cB zB) : Calls Try.prog 42 #[.agg #[.int .i64 WA, .int .i64 HA, .slice aA zA.length cA], .agg #[.int .i64 WB, .int .i64 HB, .slice aB zB.length cB]] w (RetF1 (haloR WA HA zA WB HB zB) w) := by
  have RA := Lib.hid rA
  have RB := Lib.hid rB
  clear rA rB
  generalize hw2 : (w.alloc (Obj.cells #[.int .i64 WA, .int .i64 HA, .slice aA zA.length cA] 29)).alloc (Obj.cells #[.int .i64 WB, .int .i64 HB, .slice aB zB.length cB] 29) = w2
  have B0 : Below w.heap.size w w2 := by subst hw2; exact ((Below.refl _ _).alloc (Nat.le_refl _) _).alloc (by simp) _
  have VA' : Var w2 w.heap.size #[.int .i64 WA, .int .i64 HA, .slice aA zA.length cA] := by subst hw2; exact (Var.new _ _ _).alloc _
  have VB' : Var w2 (w.heap.size + 1) #[.int .i64 WB, .int .i64 HB, .slice aB zB.length cB] := by subst hw2; exact Var.new' _ _ _ _ (by simp)
  have BW := Lib.hid B0
  have HW2 := Lib.hid hw2
  have SZ : w2.heap.size = w.heap.size + 1 + 1 := by subst hw2; simp
  have KS := Lib.hid (fun (w' : World) (hE : Below w2.heap.size w2 w') => (⟨(hE.cell (p := ⟨w.heap.size, 0, none⟩) (by show w.heap.size < _; omega)).trans VA'.three.1, (hE.cell (p := ⟨w.heap.size, 1, none⟩) (by show w.heap.size < _; omega)).trans VA'.three.2.1, (hE.cell (p := ⟨w.heap.size, 2, none⟩) (by show w.heap.size < _; omega)).trans VA'.three.2.2, (hE.cell (p := ⟨w.heap.size + 1, 0, none⟩) (by show w.heap.size + 1 < _; omega)).trans VB'.three.1, (hE.cell (p := ⟨w.heap.size + 1, 1, none⟩) (by show w.heap.size + 1 < _; omega)).trans VB'.three.2.1, (hE.cell (p := ⟨w.heap.size + 1, 2, none⟩) (by show w.heap.size + 1 < _; omega)).trans VB'.three.2.2⟩ : w'.cell? ⟨w.heap.size, 0, none⟩ = some (.int .i64 WA) ∧ w'.cell? ⟨w.heap.size, 1, none⟩ = some (.int .i64 HA) ∧ w'.cell? ⟨w.heap.size, 2, none⟩ = some (.slice aA zA.length cA) ∧ w'.cell? ⟨w.heap.size + 1, 0, none⟩ = some (.int .i64 WB) ∧ w'.cell? ⟨w.heap.size + 1, 1, none⟩ = some (.int .i64 HB) ∧ w'.cell? ⟨w.heap.size + 1, 2, none⟩ = some (.slice aB zB.length cB)))
  clear B0 VA' VB' hw2
  have CAl := Lib.hid (c_areAlike WA HA zA aA cA WB HB zB aB cB w2 (RA.out.below BW.out) (RB.out.below BW.out))
  unfold haloR
  cases hb : bothB WA HA zA WB HB zB
  · rw [if_neg (by decide)]
    rw [hb] at CAl
    clear hb
    obtain ⟨p0, p1, p2, q0, q1, q2⟩ := KS.out w2 (Below.refl _ _)
    go_enter Try.func42, Try.ntmps42
    go_wp2_with fail
    rw [HW2.out]
    refine CAl.out.mono ?_
    rintro _ w3 ⟨rfl, hE⟩
    have BX := Lib.hid (BW.out.trans (hE.mono (by omega)))
    clear hE p0 p1 p2 q0 q1 q2
    go_wp2_with fail
    go_ret2
    exact RetF1.no rfl BX.out
  · rw [if_pos rfl]
    have hboth := hb
    obtain ⟨hvA, hvB, hWW, hHH, hlen⟩ := bothB_spec hboth
    have hl256 := (valid_len hvA).2.1
    have hl1 := (valid_len hvA).2.2
    have hlenA := (valid_len hvA).1
    have hsb : sideB WA HA = true := by have h := hvA; simp only [validB, Bool.and_eq_true] at h; exact h.1.1
    obtain ⟨⟨s1, s2⟩, s3, s4⟩ := sideB_true hsb
    have HOk := Lib.hid (fun (k : Nat) (hk : k < zA.length) => valid_ok hvA RA.out.2.2.2.1 hk)
    rw [hb] at CAl
    subst hWW
    subst hHH
    obtain ⟨Wn, rfl⟩ : ∃ n : Nat, WA = n := ⟨WA.toNat, by omega⟩
    obtain ⟨Hn, rfl⟩ : ∃ n : Nat, HA = n := ⟨HA.toNat, by omega⟩
    rw [Int.toNat_natCast]
    have hln : zA.length = Wn * Hn := by rw [← Int.natCast_mul] at hlenA; omega
    obtain ⟨N, hN⟩ : ∃ N, N = zA.length := ⟨_, rfl⟩
    have hNW : N = Wn * Hn := by rw [hN, hln]
    have HLB := Lib.hid (show zB.length = Wn * Hn by rw [← hlen, hln])
    have HLA := Lib.hid hln
    have HNW := Lib.hid hNW
    have HNA := Lib.hid hN
    have CWi := Lib.hid (fun (x y : Nat) (wr : World) (hx : x < Wn) (hy : y < Hn) (r : IsRowF .f32 wr aA zA.length cA zA) => (by
      have h := c_window Wn Hn aA cA zA 1 x y wr r (by omega) (by omega) (by omega) HLA.out (by omega) (by omega) (by decide) (by decide)
      have e : winL Wn (Wn * Hn) ((x : Int) - 1) ((y : Int) - 1) ((x : Int) + 1) ((y : Int) + 1) = winI Wn N (y * Wn + x) 1 := by
        obtain ⟨e1, e2⟩ := row_div (rfl : y * Wn + x = y * Wn + x) hx
        unfold winI; rw [e1, e2, ← HNW.out]
      rwa [e] at h : Calls Try.prog 98 #[.agg #[.int .i64 (Wn : Int), .int .i64 (Hn : Int), .slice aA zA.length cA, .int .i64 1], .int .i64 (x : Int), .int .i64 (y : Int)] wr
      (fun e w' => ∃ v, e = .returned v ∧ Below wr.heap.size wr w' ∧ Spots 113 Wn zA w' wr.heap.size v (winI Wn N (y * Wn + x) 1))))
    have CBo := Lib.hid (fun (k : Nat) (hk : k < N) (B : Nat) (v : Value) (wr : World) (hs : Spots 113 Wn zA wr B v (winI Wn N k 1)) => c_boundsOf Wn zA (winI Wn N k 1) B v wr hs (by unfold winI; exact Nat.le_trans (winL_len _ _ _ _ _ _) (by omega)) (win_pos hk (by decide)) (fun j hj => HOk.out j (by rw [← HNA.out]; exact winL_lt hj)))
    have CRo := Lib.hid (fun (y : Nat) (wr : World) (r : IsRowF .f32 wr aB zB.length cB zB) (hy : y < Hn) => c_rowOf Wn Hn aB cB zB y wr r (by omega) (by omega) (by omega) HLB.out hy)
    have HMk := Lib.hid (fun (x y : Nat) (hx : x < Wn) (hy : y < Hn) => (by rw [HNW.out]; exact make_lt rfl hx hy : y * Wn + x < N))
    have HMb := Lib.hid (fun (y : Nat) (hy : y < Hn) => (by have := mul_bound hy (show Wn ≤ 16 by omega) (show Hn ≤ 16 by omega); exact this.2 : y * Wn ≤ 256))
    have eN : haloP zA zB Wn zA.length zA.length = haloP zA zB Wn N N := by rw [hN]
    rw [eN]
    rw [← hN] at hl256 hl1
    clear eN
    clear hb hboth hvA hvB hlen hlenA hsb hln hN hNW
    obtain ⟨p0, p1, p2, q0, q1, q2⟩ := KS.out w2 (Below.refl _ _)
    go_enter Try.func42, Try.ntmps42
    go_wp2_with fail
    rw [HW2.out]
    refine CAl.out.mono ?_
    rintro _ w3 ⟨rfl, hE⟩
    have BX := Lib.hid (BW.out.trans (hE.mono (by omega)))
    clear p0 p1 p2 q0 q1 q2
    have K3 := Lib.hid (KS.out w3 hE)
    have z3 : w2.heap.size ≤ w3.heap.size := hE.size
    have RA3 := Lib.hid (RA.out.below BX.out)
    have RB3 := Lib.hid (RB.out.below BX.out)
    clear hE KS BW
    generalize hw4 : w3.alloc (Obj.cells #[.int .i64 (Wn : Int), .int .i64 (Hn : Int), .slice aA zA.length cA, .int .i64 1] 70) = w4
    have HW4 := Lib.hid hw4
    have b4 : Below w3.heap.size w3 w4 := by subst hw4; exact (Below.refl _ _).alloc (Nat.le_refl _) _
    have VV := Lib.hid (show Var w4 w3.heap.size #[.int .i64 (Wn : Int), .int .i64 (Hn : Int), .slice aA zA.length cA, .int .i64 1] by subst hw4; exact Var.new _ _ _)
    have B4 := Lib.hid (BX.out.trans (b4.mono (by omega)))
    have RA4 := Lib.hid (RA3.out.below b4)
    have RB4 := Lib.hid (RB3.out.below b4)
    have z4 : w3.heap.size < w4.heap.size := VV.out.lt
    have KX := Lib.hid (fun (wr : World) (hB : Below w4.heap.size w4 wr) => (by
      obtain ⟨p0, p1, p2, q0, q1, q2⟩ := K3.out
      have g : ∀ {p v}, w3.cell? p = some v → p.block < w3.heap.size → wr.cell? p = some v := fun h hp => (hB.cell (by omega)).trans ((b4.cell hp).trans h)
      exact ⟨g q0 (by show w.heap.size + 1 < _; omega), g q1 (by show w.heap.size + 1 < _; omega), g q2 (by show w.heap.size + 1 < _; omega), (VV.out.keep hB).2 0 (by simp), (VV.out.keep hB).2 1 (by simp), (VV.out.keep hB).2 2 (by simp), (VV.out.keep hB).2 3 (by simp)⟩ :
      wr.cell? ⟨w.heap.size + 1, 0, none⟩ = some (.int .i64 (Wn : Int)) ∧ wr.cell? ⟨w.heap.size + 1, 1, none⟩ = some (.int .i64 (Hn : Int)) ∧ wr.cell? ⟨w.heap.size + 1, 2, none⟩ = some (.slice aB zB.length cB) ∧ wr.cell? ⟨w3.heap.size, 0, none⟩ = some (.int .i64 (Wn : Int)) ∧ wr.cell? ⟨w3.heap.size, 1, none⟩ = some (.int .i64 (Hn : Int)) ∧ wr.cell? ⟨w3.heap.size, 2, none⟩ = some (.slice aA zA.length cA) ∧ wr.cell? ⟨w3.heap.size, 3, none⟩ = some (.int .i64 1)))
    clear hw4 b4
    obtain ⟨p0, p1, p2, q0, q1, q2⟩ := K3.out
    have zw3 : w.heap.size + 1 < w3.heap.size := by omega
    have zw4 : w.heap.size < w3.heap.size := by omega
    go_wp2_with fail
    rw [HW4.out]
    clear p0 p1 p2 q0 q1 q2
    go_loopw [7, 21] (fun s7 s21 wr => ∃ y m : Nat, y ≤ Hn ∧ s21 = .int .i64 (y : Int) ∧ s7 = .float .f32 (pick .f32 (haloP zA zB Wn N (y * Wn)) m) ∧ Below w4.heap.size w4 wr) (fun _ s21 _ => Hn - (intOf s21).toNat)
    case atStart => exact ⟨0, 0, Nat.zero_le _, rfl, by rw [Nat.zero_mul]; exact congrArg _ (pick_not (by decide +kernel) 0).symm, Below.refl _ _⟩
    case round =>
      obtain ⟨y, m, hy, rfl, rfl, hB⟩ := hrel
      have HB := Lib.hid hB
      clear hB
      by_cases hyn : y < Hn
      · obtain ⟨q0, q1, q2, v0, v1, v2, v3⟩ := KX.out _ HB.out
        go_wp2_with fail
        refine (CRo.out y _ (RB4.out.below HB.out) hyn).mono ?_
        rintro _ w5 ⟨bb, off, hab, rfl, b5⟩
        have HB5 := Lib.hid (HB.out.trans (b5.mono HB.out.size))
        have HAB := Lib.hid hab
        clear b5 hab q0 q1 q2 v0 v1 v2 v3
        go_wp2_with fail
        go_loopw [7, 28] (fun s7 s28 wr => ∃ x m : Nat, x ≤ Wn ∧ s28 = .int .i64 (x : Int) ∧ s7 = .float .f32 (pick .f32 (haloP zA zB Wn N (y * Wn + x)) m) ∧ Below w4.heap.size w4 wr) (fun _ s28 _ => Wn - (intOf s28).toNat)
        case atStart => exact ⟨0, m, Nat.zero_le _, rfl, rfl, HB5.out⟩
        case round =>
          obtain ⟨x, m6, hx, rfl, rfl, hB⟩ := hrel
          have HB6 := Lib.hid hB
          have z6 := hB.size
          clear hB
          by_cases hxn : x < Wn
          · have hk := HMk.out x y hxn hyn
            have hmb := HMb.out y hyn
            have HStep := Lib.hid (show haloP zA zB Wn N (y * Wn + (x + 1)) = maxV .f32 (maxV .f32 (haloP zA zB Wn N (y * Wn + x)) (fop .sub .f32 (fat zB (y * Wn + x)) (hiM zA (winI Wn N (y * Wn + x) 1)))) (fop .sub .f32 (loM zA (winI Wn N (y * Wn + x) 1)) (fat zB (y * Wn + x))) from rfl)
            have CW := Lib.hid (CWi.out x y wr hxn hyn (RA4.out.below HB6.out))
            have CB := Lib.hid (CBo.out (y * Wn + x) hk)
            have hkB : y * Wn + x < zB.length := by rw [HLB.out, ← HNW.out]; exact hk
            obtain ⟨b2, o2, nl, hab2, hbl2, hcl⟩ := (RB4.out.below HB6.out).at hkB
            have e := HAB.out.symm.trans hab2
            simp only [Option.some.injEq, Addr.mk.injEq, and_true] at e
            obtain ⟨rfl, rfl⟩ := e
            clear hab2
            have hcell : wr.cell? ⟨bb, off + y * Wn + x, none⟩ = some (.float .f32 (pick .f32 (fat zB (y * Wn + x)) nl)) := by rw [Nat.add_assoc]; exact hcl
            clear hcl
            generalize winI Wn N (y * Wn + x) 1 = idx at *
            generalize hkk : y * Wn + x = k at *
            have HKK := Lib.hid hkk
            have hxi : (x : Int) < (Wn : Int) := by omega
            obtain ⟨q0, q1, q2, v0, v1, v2, v3⟩ := KX.out _ HB6.out
            clear hkk
            go_wp2_with fail
            refine CW.out.mono ?_
            rintro _ w7 ⟨q, rfl, b7, hs⟩
            have HB7 := Lib.hid (HB6.out.trans (b7.mono z6))
            have HS := Lib.hid hs
            clear b7 hs q0 q1 q2 v0 v1 v2 v3 hcell
            go_wp2_with fail
            refine (CB.out _ q w7 HS.out).mono ?_
            rintro _ w8 ⟨n8, m8, rfl, b8⟩
            have HB8 := Lib.hid (HB7.out.trans (b8.mono HB7.out.size))
            clear b8
            rw [← w8.drewN_zero]
            go_wp2_with (first | (first | (refine wpList_fop rfl _ _ _ _ _ rfl _ _ _ rfl rfl (by decide) _ ?_; intro _ _) | (refine upon_fop _ _ _ _ _ (by decide) ?_; intro _ _)) | (refine wpList_fmax3 rfl _ _ _ _ rfl _ _ _ rfl rfl rfl _ ?_; intro _ _))
            go_roundw
            case rel => exact ⟨x + 1, _, by omega, by go_num, by rw [HStep.out], below_drewN HB8.out _⟩
            case measure => simp [intOf]; omega
          · obtain rfl : x = Wn := by omega
            go_wp2_with fail
            go_roundw
            case rel => exact ⟨y + 1, m6, by omega, by go_num, by rw [Nat.succ_mul], HB6.out⟩
            case measure => simp [intOf]; omega
      · obtain rfl : y = Hn := by omega
        have e : y * Wn = N := by rw [HNW.out, Nat.mul_comm]
        have HB9 := Lib.hid (B4.out.trans (HB.out.mono (by omega)))
        rw [e]
        clear e
        rw [← wr.drewN_zero]
        go_wp2_with (first | (first | (refine wpList_fop rfl _ _ _ _ _ rfl _ _ _ rfl rfl (by decide) _ ?_; intro _ _) | (refine upon_fop _ _ _ _ _ (by decide) ?_; intro _ _)) | (go_at_call 99; refine (c_ifFinite _ _ _ _).mono ?_; rintro _ _ ⟨_, _, rfl, rfl⟩))
        go_ret2
        exact ⟨_, rfl, below_drewN HB9.out _⟩
/-! ### lawHalo -/

/-! ### FnExactHaloOf -/
set_option maxHeartbeats 8000000 in
theorem walkG (WA HA : Int) (zA : List Nat) (aA : Option Addr) (cA : Nat) (WB HB : Int) (zB : List Nat) (aB : Option Addr) (cB : Nat) (w : World) (r : Nat × Bool) (cS : ∀ (aA : Option Addr) (cA : Nat) (aB : Option Addr) (cB : Nat) (w : World), IsRowF .f32 w aA zA.length cA zA → IsRowF .f32 w aB zB.length cB zB → Calls Try.prog 41 #[.agg #[.int .i64 WA, .int .i64 HA, .slice aA zA.length cA], .agg #[.int .i64 WB, .int .i64 HB, .slice aB zB.length cB]] w (RetF1 r w)) (cI : ∀ (aA : Option Addr) (cA : Nat) (aB : Option Addr) (cB : Nat) (w : World), IsRowF .f32 w aA zA.length cA zA → IsRowF .f32 w aB zB.length cB zB → Calls Try.prog 42 #[.agg #[.int .i64 WA, .int .i64 HA, .slice aA zA.length cA], .agg #[.int .i64 WB, .int .i64 HB, .slice aB zB.length cB]] w (RetF1 r w)) (rA : IsRowF .f32 w aA zA.length cA zA) (rB : IsRowF .f32 w aB zB.length cB zB) (hl : zA.length + zB.length ≤ 1048576) : Calls Try.prog 11 #[.agg #[.int .i64 WA, .int .i64 HA, .slice aA zA.length cA], .agg #[.int .i64 WB, .int .i64 HB, .slice aB zB.length cB]] w fun e w' => e = .returned (.bool true) ∧ Below w.heap.size w w' := by
  have CS := Lib.hid cS
  have CI := Lib.hid cI
  clear cS cI
  have RA := Lib.hid rA
  have RB := Lib.hid rB
  clear rA rB
  go_enter Try.func11, Try.ntmps11
  go_wp2_with fail
  refine (c_szP WA HA aA zA.length cA (1048576 : Int) _ (by omega) (by omega)).mono ?_
  rintro _ w1 ⟨rfl, b⟩
  have VpA_1 := Lib.hid (((Var.new' _ _ _ (w.heap.size) (by first | rfl | simp)).alloc _).keep b)
  have VpB_1 := Lib.hid ((Var.new' _ _ _ (w.heap.size + 1) (by first | rfl | simp)).keep b)
  have B_1 := Lib.hid ((((Below.refl w.heap.size w).alloc (Nat.le_refl _) _).alloc (by simp) _).trans (b.mono (by simp; omega)))
  have S_1 : w.heap.size + 2 ≤ w1.heap.size := by have := b.size; simp at this; omega
  have zpA_1 : w.heap.size < w1.heap.size := by omega
  have zpB_1 : w.heap.size + 1 < w1.heap.size := by omega
  clear b
  have hzA : ¬ (((1048576 : Int) - (zA.length : Int)) < 0) := by omega
  obtain ⟨cpB0, cpB1, cpB2⟩ := VpB_1.out.three
  go_wp2_with fail
  clear cpB0 cpB1 cpB2
  refine (c_szP WB HB aB zB.length cB ((1048576 : Int) - (zA.length : Int)) _ (by omega) (by omega)).mono ?_
  rintro _ w2 ⟨rfl, b⟩
  have VpA_2 := Lib.hid (VpA_1.out.keep b)
  have VpB_2 := Lib.hid (VpB_1.out.keep b)
  have B_2 := Lib.hid (B_1.out.trans (b.mono (by omega)))
  have S_2 : w1.heap.size + 0 ≤ w2.heap.size := by have := b.size; omega
  have zpA_2 : w.heap.size < w2.heap.size := by omega
  have zpB_2 : w.heap.size + 1 < w2.heap.size := by omega
  clear b
  clear VpA_1 zpA_1 VpB_1 zpB_1 B_1
  have hzB : ¬ ((((1048576 : Int) - (zA.length : Int)) - (zB.length : Int)) < 0) := by omega
  obtain ⟨cpA0, cpA1, cpA2⟩ := VpA_2.out.three
  obtain ⟨cpB0, cpB1, cpB2⟩ := VpB_2.out.three
  go_wp2_with fail
  have QA := Lib.hid (RA.out.below B_2.out)
  have QB := Lib.hid (RB.out.below B_2.out)
  go_cut [6, 7] (fun s6 s7 wx => ∃ n, s6 = .float .f32 (pick .f32 r.1 n) ∧ s7 = .bool r.2 ∧ Below w2.heap.size w2 wx)
  case first =>
    have KS : ∀ w' : World, Below w2.heap.size w2 w' → (Below w2.heap.size w2 w' ∧ w'.cell? ⟨w.heap.size, 0, none⟩ = some (.int .i64 WA) ∧ w'.cell? ⟨w.heap.size, 1, none⟩ = some (.int .i64 HA) ∧ w'.cell? ⟨w.heap.size, 2, none⟩ = some (.slice aA zA.length cA) ∧ w'.cell? ⟨w.heap.size + 1, 0, none⟩ = some (.int .i64 WB) ∧ w'.cell? ⟨w.heap.size + 1, 1, none⟩ = some (.int .i64 HB) ∧ w'.cell? ⟨w.heap.size + 1, 2, none⟩ = some (.slice aB zB.length cB)) := fun w' hB => ⟨hB, (VpA_2.out.keep hB).three.1, (VpA_2.out.keep hB).three.2.1, (VpA_2.out.keep hB).three.2.2, (VpB_2.out.keep hB).three.1, (VpB_2.out.keep hB).three.2.1, (VpB_2.out.keep hB).three.2.2⟩
    have KD := Lib.hid (KS _ (Below.refl _ _).drew)
    have KH := Lib.hid KS
    clear KS
    have eD : Below w2.heap.size w2 w2.drew := (Below.refl _ _).drew
    go_region_held3 (fun w' => Below w2.heap.size w2 w' ∧ w'.cell? ⟨w.heap.size, 0, none⟩ = some (.int .i64 WA) ∧ w'.cell? ⟨w.heap.size, 1, none⟩ = some (.int .i64 HA) ∧ w'.cell? ⟨w.heap.size, 2, none⟩ = some (.slice aA zA.length cA) ∧ w'.cell? ⟨w.heap.size + 1, 0, none⟩ = some (.int .i64 WB) ∧ w'.cell? ⟨w.heap.size + 1, 1, none⟩ = some (.int .i64 HB) ∧ w'.cell? ⟨w.heap.size + 1, 2, none⟩ = some (.slice aB zB.length cB)) (first | exact KD.out | exact KH.out _ eD | exact KH.out _ (eD.alloc eD.size _) | exact KH.out _ eA | exact KH.out _ (eA.alloc eA.size _) | exact KH.out _ eB | exact KH.out _ (eB.alloc eB.size _) | exact KH.out _ ef | exact KH.out _ (ef.alloc ef.size _) | exact KH.out _ (((ef.setCell (by first | omega | (simp <;> omega)) _).setCell (by first | omega | (simp <;> omega)) _).setCell (by first | omega | (simp <;> omega)) _)) (first | (go_at_call 17; ((with_reducible refine (c_toP WA HA aA zA.length cA zA _ (QA.out.below (And.left (by assumption))) (by omega)).mono ?_); rintro _ wwA ⟨gA, rfl, bA, oA⟩; obtain ⟨hcA, hfA⟩ := bcell bA; have eA : Below w2.heap.size w2 wwA := (Below.trans (And.left (by assumption)) (Below.mono bA (Below.size (And.left (by assumption))))); have qA := bA.size; (try (simp at qA)); (try (have tDA : w2.heap.size < wwA.heap.size := by omega)); (try (have tBA : wwB.heap.size < wwA.heap.size := by omega)))) | (go_at_call 17; ((with_reducible refine (c_toP WB HB aB zB.length cB zB _ (QB.out.below (And.left (by assumption))) (by omega)).mono ?_); rintro _ wwB ⟨gB, rfl, bB, oB⟩; obtain ⟨hcB, hfB⟩ := bcell bB; have eB : Below w2.heap.size w2 wwB := (Below.trans (And.left (by assumption)) (Below.mono bB (Below.size (And.left (by assumption))))); have qB := bB.size; (try (simp at qB)); (try (have tDB : w2.heap.size < wwB.heap.size := by omega)); (try (have tAB : wwA.heap.size < wwB.heap.size := by omega)))) | (go_at_call 41; (refine (CS.out _ _ _ _ _ (oA.below (by first | exact Below.refl _ _ | exact (Below.refl _ _).alloc (Nat.le_refl _) _ | exact bB | exact bB.alloc bB.size _ | exact (((Below.refl _ _).alloc (Nat.le_refl _) _).trans (bB.mono (by simp))))).row (oB.below (by first | exact Below.refl _ _ | exact (Below.refl _ _).alloc (Nat.le_refl _) _ | exact bA | exact bA.alloc bA.size _ | exact (((Below.refl _ _).alloc (Nat.le_refl _) _).trans (bA.mono (by simp))))).row).mono ?_); rintro _ wf ⟨nf, rfl, bf⟩; obtain ⟨hcf, hff⟩ := bcell bf; have ef : Below w2.heap.size w2 wf := (Below.trans (And.left (by assumption)) (Below.mono bf (Below.size (And.left (by assumption))))); have qf := bf.size; (try (simp at qf)); (try (have tDf : w2.heap.size < wf.heap.size := by omega)); (try (have tAf : wwA.heap.size < wf.heap.size := by omega)); (try (have tBf : wwB.heap.size < wf.heap.size := by omega))))
    all_goals (go_wp2_with fail; go_meet; exact ⟨_, rfl, rfl, ef⟩)
  obtain ⟨nu, rfl, rfl, b⟩ := hcut
  obtain ⟨w3, rfl⟩ : ∃ x : World, x = wc := ⟨_, rfl⟩
  clear QA QB
  clear cpA0 cpA1 cpA2 cpB0 cpB1 cpB2
  have VpA_3 := Lib.hid (VpA_2.out.keep b)
  have VpB_3 := Lib.hid (VpB_2.out.keep b)
  have B_3 := Lib.hid (B_2.out.trans (b.mono (by omega)))
  have S_3 : w2.heap.size + 0 ≤ w3.heap.size := by have := b.size; omega
  have zpA_3 : w.heap.size < w3.heap.size := by omega
  have zpB_3 : w.heap.size + 1 < w3.heap.size := by omega
  clear b
  clear VpA_2 zpA_2 VpB_2 zpB_2 B_2
  obtain ⟨cpA0, cpA1, cpA2⟩ := VpA_3.out.three
  go_wp2_with fail
  clear cpA0 cpA1 cpA2
  refine (c_toP WA HA aA zA.length cA zA _ (RA.out.below B_3.out) (by omega)).mono ?_
  rintro _ w4 ⟨gxA, rfl, b, o⟩
  have LxA := Lib.hid o.in
  have OxA_4 := Lib.hid o
  clear o
  have VpA_4 := Lib.hid (VpA_3.out.keep b)
  have VpB_4 := Lib.hid (VpB_3.out.keep b)
  have B_4 := Lib.hid (B_3.out.trans (b.mono (by omega)))
  have S_4 : w3.heap.size + 0 ≤ w4.heap.size := by have := b.size; omega
  have zpA_4 : w.heap.size < w4.heap.size := by omega
  have zpB_4 : w.heap.size + 1 < w4.heap.size := by omega
  clear b
  clear VpA_3 zpA_3 VpB_3 zpB_3 B_3
  obtain ⟨cpB0, cpB1, cpB2⟩ := VpB_4.out.three
  go_wp2_with fail
  clear cpB0 cpB1 cpB2
  refine (c_toP WB HB aB zB.length cB zB _ ((RB.out.below B_4.out).alloc _) (by omega)).mono ?_
  rintro _ w5 ⟨gxB, rfl, b, o⟩
  have LxB := Lib.hid o.in
  have LxB := Lib.hid (by have h := LxB.out; simp only [World.size_alloc] at h; exact h)
  have OxB_5 := Lib.hid o
  clear o
  have VpA_5 := Lib.hid ((VpA_4.out.alloc _).keep b)
  have VpB_5 := Lib.hid ((VpB_4.out.alloc _).keep b)
  have VxA_5 := Lib.hid ((Var.new' _ _ _ (w4.heap.size) (by first | rfl | simp)).keep b)
  have OxA_5 := Lib.hid ((OxA_4.out.alloc _).below b)
  have B_5 := Lib.hid ((B_4.out.alloc (by omega) _).trans (b.mono (by simp; omega)))
  have S_5 : w4.heap.size + 1 ≤ w5.heap.size := by have := b.size; simp at this; omega
  have zpA_5 : w.heap.size < w5.heap.size := by omega
  have zpB_5 : w.heap.size + 1 < w5.heap.size := by omega
  have zxA_5 : w4.heap.size < w5.heap.size := by omega
  clear b
  clear VpA_4 zpA_4 VpB_4 zpB_4 OxA_4 B_4
  obtain ⟨cxA0, cxA1, cxA2⟩ := VxA_5.out.three
  go_wp2_with fail
  clear cxA0 cxA1 cxA2
  refine (CI.out _ _ _ _ _ (OxA_5.out.alloc _).row (OxB_5.out.alloc _).row).mono ?_
  rintro _ w6 ⟨mg0, rfl, b⟩
  have VpA_6 := Lib.hid ((VpA_5.out.alloc _).keep b)
  have VpB_6 := Lib.hid ((VpB_5.out.alloc _).keep b)
  have VxA_6 := Lib.hid ((VxA_5.out.alloc _).keep b)
  have VxB_6 := Lib.hid ((Var.new' _ _ _ (w5.heap.size) (by first | rfl | simp)).keep b)
  have OxA_6 := Lib.hid ((OxA_5.out.alloc _).below b)
  have OxB_6 := Lib.hid ((OxB_5.out.alloc _).below b)
  have B_6 := Lib.hid ((B_5.out.alloc (by omega) _).trans (b.mono (by simp; omega)))
  have S_6 : w5.heap.size + 1 ≤ w6.heap.size := by have := b.size; simp at this; omega
  have zpA_6 : w.heap.size < w6.heap.size := by omega
  have zpB_6 : w.heap.size + 1 < w6.heap.size := by omega
  have zxA_6 : w4.heap.size < w6.heap.size := by omega
  have zxB_6 : w5.heap.size < w6.heap.size := by omega
  clear b
  clear VpA_5 zpA_5 VpB_5 zpB_5 VxA_5 zxA_5 OxA_5 OxB_5 B_5
  rw [← w6.drewN_zero]
  go_wp2_with (first | (refine wpList_cvU rfl 43 49 _ rfl (Option.isSome_iff_exists.2 ⟨_, Try.underlying43⟩) Try.underlying49 _ rfl _ ?_; intro _ _) | (go_at_call 43; refine (c_sameFloat _ _ _ _ _).mono ?_; rintro _ _ ⟨jx, rfl, rfl⟩))
  have b : Below w6.heap.size w6 (w6.drewN jx) := below_drewN (Below.refl _ _) _
  generalize w6.drewN jx = w7 at *
  have VpA_7 := Lib.hid (VpA_6.out.keep b)
  have VpB_7 := Lib.hid (VpB_6.out.keep b)
  have VxA_7 := Lib.hid (VxA_6.out.keep b)
  have VxB_7 := Lib.hid (VxB_6.out.keep b)
  have OxA_7 := Lib.hid (OxA_6.out.below b)
  have OxB_7 := Lib.hid (OxB_6.out.below b)
  have B_7 := Lib.hid (B_6.out.trans (b.mono (by omega)))
  have S_7 : w6.heap.size + 0 ≤ w7.heap.size := by have := b.size; omega
  have zpA_7 : w.heap.size < w7.heap.size := by omega
  have zpB_7 : w.heap.size + 1 < w7.heap.size := by omega
  have zxA_7 : w4.heap.size < w7.heap.size := by omega
  have zxB_7 : w5.heap.size < w7.heap.size := by omega
  clear b
  clear VpA_6 zpA_6 VpB_6 zpB_6 VxA_6 zxA_6 VxB_6 zxB_6 OxA_6 OxB_6 B_6
  obtain ⟨cpA0, cpA1, cpA2⟩ := VpA_7.out.three
  obtain ⟨cxA0, cxA1, cxA2⟩ := VxA_7.out.three
  try (go_wp2_with fail)
  have D : Below w7.heap.size w7 w7.drew := (Below.refl _ _).drew
  have RD := Lib.hid ((RA.out.below B_7.out).below D)
  have XD := Lib.hid (OxA_7.out.below D)
  have HD := Lib.hid D
  clear D
  go_region_held3 (fun w' => w'.cell? ⟨w.heap.size, 0, none⟩ = some (.int .i64 WA) ∧ w'.cell? ⟨w.heap.size, 1, none⟩ = some (.int .i64 HA) ∧ w'.cell? ⟨w.heap.size, 2, none⟩ = some (.slice aA zA.length cA) ∧ w'.cell? ⟨w4.heap.size, 0, none⟩ = some (.int .i64 WA) ∧ w'.cell? ⟨w4.heap.size, 1, none⟩ = some (.int .i64 HA) ∧ w'.cell? ⟨w4.heap.size, 2, none⟩ = some (.slice (some ⟨gxA, 0, none⟩) zA.length zA.length)) (first | exact ⟨cpA0, cpA1, cpA2, cxA0, cxA1, cxA2⟩ | (have e1 := ((VpA_7.out.keep HD.out).keep b7).three; have e2 := ((VxA_7.out.keep HD.out).keep b7).three; exact ⟨e1.1, e1.2.1, e1.2.2, e2.1, e2.2.1, e2.2.2⟩) | (have e1 := (((VpA_7.out.keep HD.out).keep b7).keep b8).three; have e2 := (((VxA_7.out.keep HD.out).keep b7).keep b8).three; exact ⟨e1.1, e1.2.1, e1.2.2, e2.1, e2.2.1, e2.2.2⟩)) (first | (go_at_call 17; refine (c_toP WA HA aA zA.length cA zA _ RD.out (by omega)).mono ?_; rintro _ wt ⟨g7, rfl, b7, o7⟩) | (go_at_call 20; refine (c_eqP _ _ _ _ _ _ _ _ _ (XD.out.below b7).row o7.row).mono ?_; rintro _ w8 ⟨rfl, b8⟩))
  have b := HD.out.trans (b7.trans (b8.mono b7.size))
  clear RD XD HD b7 b8 o7
  clear cpA0 cpA1 cpA2 cxA0 cxA1 cxA2
  have VpA_8 := Lib.hid (VpA_7.out.keep b)
  have VpB_8 := Lib.hid (VpB_7.out.keep b)
  have VxA_8 := Lib.hid (VxA_7.out.keep b)
  have VxB_8 := Lib.hid (VxB_7.out.keep b)
  have OxA_8 := Lib.hid (OxA_7.out.below b)
  have OxB_8 := Lib.hid (OxB_7.out.below b)
  have B_8 := Lib.hid (B_7.out.trans (b.mono (by omega)))
  have S_8 : w7.heap.size + 0 ≤ w8.heap.size := by have := b.size; omega
  have zpA_8 : w.heap.size < w8.heap.size := by omega
  have zpB_8 : w.heap.size + 1 < w8.heap.size := by omega
  have zxA_8 : w4.heap.size < w8.heap.size := by omega
  have zxB_8 : w5.heap.size < w8.heap.size := by omega
  clear b
  clear VpA_7 zpA_7 VpB_7 zpB_7 VxA_7 zxA_7 VxB_7 zxB_7 OxA_7 OxB_7 B_7
  obtain ⟨cpB0, cpB1, cpB2⟩ := VpB_8.out.three
  obtain ⟨cxB0, cxB1, cxB2⟩ := VxB_8.out.three
  try (go_wp2_with fail)
  have D : Below w8.heap.size w8 w8.drew := (Below.refl _ _).drew
  have RD := Lib.hid ((RB.out.below B_8.out).below D)
  have XD := Lib.hid (OxB_8.out.below D)
  have HD := Lib.hid D
  clear D
  go_region_held3 (fun w' => w'.cell? ⟨w.heap.size + 1, 0, none⟩ = some (.int .i64 WB) ∧ w'.cell? ⟨w.heap.size + 1, 1, none⟩ = some (.int .i64 HB) ∧ w'.cell? ⟨w.heap.size + 1, 2, none⟩ = some (.slice aB zB.length cB) ∧ w'.cell? ⟨w5.heap.size, 0, none⟩ = some (.int .i64 WB) ∧ w'.cell? ⟨w5.heap.size, 1, none⟩ = some (.int .i64 HB) ∧ w'.cell? ⟨w5.heap.size, 2, none⟩ = some (.slice (some ⟨gxB, 0, none⟩) zB.length zB.length)) (first | exact ⟨cpB0, cpB1, cpB2, cxB0, cxB1, cxB2⟩ | (have e1 := ((VpB_8.out.keep HD.out).keep b7).three; have e2 := ((VxB_8.out.keep HD.out).keep b7).three; exact ⟨e1.1, e1.2.1, e1.2.2, e2.1, e2.2.1, e2.2.2⟩) | (have e1 := (((VpB_8.out.keep HD.out).keep b7).keep b8).three; have e2 := (((VxB_8.out.keep HD.out).keep b7).keep b8).three; exact ⟨e1.1, e1.2.1, e1.2.2, e2.1, e2.2.1, e2.2.2⟩)) (first | (go_at_call 17; refine (c_toP WB HB aB zB.length cB zB _ RD.out (by omega)).mono ?_; rintro _ wt ⟨g7, rfl, b7, o7⟩) | (go_at_call 20; refine (c_eqP _ _ _ _ _ _ _ _ _ (XD.out.below b7).row o7.row).mono ?_; rintro _ w9 ⟨rfl, b8⟩))
  have b := HD.out.trans (b7.trans (b8.mono b7.size))
  clear RD XD HD b7 b8 o7
  clear cpB0 cpB1 cpB2 cxB0 cxB1 cxB2
  have VpA_9 := Lib.hid (VpA_8.out.keep b)
  have VpB_9 := Lib.hid (VpB_8.out.keep b)
  have VxA_9 := Lib.hid (VxA_8.out.keep b)
  have VxB_9 := Lib.hid (VxB_8.out.keep b)
  have OxA_9 := Lib.hid (OxA_8.out.below b)
  have OxB_9 := Lib.hid (OxB_8.out.below b)
  have B_9 := Lib.hid (B_8.out.trans (b.mono (by omega)))
  have S_9 : w8.heap.size + 0 ≤ w9.heap.size := by have := b.size; omega
  have zpA_9 : w.heap.size < w9.heap.size := by omega
  have zpB_9 : w.heap.size + 1 < w9.heap.size := by omega
  have zxA_9 : w4.heap.size < w9.heap.size := by omega
  have zxB_9 : w5.heap.size < w9.heap.size := by omega
  clear b
  clear VpA_8 zpA_8 VpB_8 zpB_8 VxA_8 zxA_8 VxB_8 zxB_8 OxA_8 OxB_8 B_8
  go_wp2_with fail
  go_ret
  exact ⟨rfl, B_9.out⟩
theorem walkL0 (WA HA : Int) (zA : List Nat) (aA : Option Addr) (cA : Nat) (WB HB : Int) (zB : List Nat) (aB : Option Addr) (cB : Nat) (w : World) (rA : IsRowF .f32 w aA zA.length cA zA) (rB : IsRowF .f32 w aB zB.length cB zB)  (hm : zA.length ≤ maxLen) (hl : 1048576 < zA.length) : Calls Try.prog 11 #[.agg #[.int .i64 WA, .int .i64 HA, .slice aA zA.length cA], .agg #[.int .i64 WB, .int .i64 HB, .slice aB zB.length cB]] w fun e w' => e = .returned (.bool true) ∧ Below w.heap.size w w' := by
  unfold maxLen at hm
  have RA := Lib.hid rA
  have RB := Lib.hid rB
  clear rA rB
  go_enter Try.func11, Try.ntmps11
  go_wp2_with fail
  refine (c_szP_no WA HA aA zA.length cA (1048576 : Int) _ (by omega) (by omega)).mono ?_
  rintro _ w1 ⟨rfl, b⟩
  have VpA_1 := Lib.hid (((Var.new' _ _ _ (w.heap.size) (by first | rfl | simp)).alloc _).keep b)
  have VpB_1 := Lib.hid ((Var.new' _ _ _ (w.heap.size + 1) (by first | rfl | simp)).keep b)
  have B_1 := Lib.hid ((((Below.refl w.heap.size w).alloc (Nat.le_refl _) _).alloc (by simp) _).trans (b.mono (by simp; omega)))
  have S_1 : w.heap.size + 2 ≤ w1.heap.size := by have := b.size; simp at this; omega
  have zpA_1 : w.heap.size < w1.heap.size := by omega
  have zpB_1 : w.heap.size + 1 < w1.heap.size := by omega
  clear b
  go_wp2_with fail
  go_ret
  exact ⟨rfl, B_1.out⟩
theorem walkL1 (WA HA : Int) (zA : List Nat) (aA : Option Addr) (cA : Nat) (WB HB : Int) (zB : List Nat) (aB : Option Addr) (cB : Nat) (w : World) (rA : IsRowF .f32 w aA zA.length cA zA) (rB : IsRowF .f32 w aB zB.length cB zB) (hp : zA.length ≤ 1048576) (hm : zB.length ≤ maxLen) (hl : 1048576 < zA.length + zB.length) : Calls Try.prog 11 #[.agg #[.int .i64 WA, .int .i64 HA, .slice aA zA.length cA], .agg #[.int .i64 WB, .int .i64 HB, .slice aB zB.length cB]] w fun e w' => e = .returned (.bool true) ∧ Below w.heap.size w w' := by
  unfold maxLen at hm
  have RA := Lib.hid rA
  have RB := Lib.hid rB
  clear rA rB
  go_enter Try.func11, Try.ntmps11
  go_wp2_with fail
  refine (c_szP WA HA aA zA.length cA (1048576 : Int) _ (by omega) (by omega)).mono ?_
  rintro _ w1 ⟨rfl, b⟩
  have VpA_1 := Lib.hid (((Var.new' _ _ _ (w.heap.size) (by first | rfl | simp)).alloc _).keep b)
  have VpB_1 := Lib.hid ((Var.new' _ _ _ (w.heap.size + 1) (by first | rfl | simp)).keep b)
  have B_1 := Lib.hid ((((Below.refl w.heap.size w).alloc (Nat.le_refl _) _).alloc (by simp) _).trans (b.mono (by simp; omega)))
  have S_1 : w.heap.size + 2 ≤ w1.heap.size := by have := b.size; simp at this; omega
  have zpA_1 : w.heap.size < w1.heap.size := by omega
  have zpB_1 : w.heap.size + 1 < w1.heap.size := by omega
  clear b
  have hzA : ¬ (((1048576 : Int) - (zA.length : Int)) < 0) := by omega
  obtain ⟨cpB0, cpB1, cpB2⟩ := VpB_1.out.three
  go_wp2_with fail
  clear cpB0 cpB1 cpB2
  refine (c_szP_no WB HB aB zB.length cB ((1048576 : Int) - (zA.length : Int)) _ (by omega) (by omega)).mono ?_
  rintro _ w2 ⟨rfl, b⟩
  have VpA_2 := Lib.hid (VpA_1.out.keep b)
  have VpB_2 := Lib.hid (VpB_1.out.keep b)
  have B_2 := Lib.hid (B_1.out.trans (b.mono (by omega)))
  have S_2 : w1.heap.size + 0 ≤ w2.heap.size := by have := b.size; omega
  have zpA_2 : w.heap.size < w2.heap.size := by omega
  have zpB_2 : w.heap.size + 1 < w2.heap.size := by omega
  clear b
  clear VpA_1 zpA_1 VpB_1 zpB_1 B_1
  go_wp2_with fail
  go_ret
  exact ⟨rfl, B_2.out⟩
theorem walk (WA HA : Int) (zA : List Nat) (aA : Option Addr) (cA : Nat) (WB HB : Int) (zB : List Nat) (aB : Option Addr) (cB : Nat) (w : World) (rA : IsRowF .f32 w aA zA.length cA zA) (rB : IsRowF .f32 w aB zB.length cB zB) : Calls Try.prog 11 #[.agg #[.int .i64 WA, .int .i64 HA, .slice aA zA.length cA], .agg #[.int .i64 WB, .int .i64 HB, .slice aB zB.length cB]] w fun e w' => e = .returned (.bool true) ∧ Below w.heap.size w w' := by
  have mA : zA.length ≤ maxLen := Nat.le_trans rA.2.1 rA.2.2.1
  have mB : zB.length ≤ maxLen := Nat.le_trans rB.2.1 rB.2.2.1
  by_cases g0 : 1048576 < zA.length
  · exact walkL0 WA HA zA aA cA WB HB zB aB cB w rA rB  mA g0
  by_cases g1 : 1048576 < zA.length + zB.length
  · exact walkL1 WA HA zA aA cA WB HB zB aB cB w rA rB (by omega) mB g1
  exact walkG WA HA zA aA cA WB HB zB aB cB w (haloR WA HA zA WB HB zB) (fun aA cA aB cB w rA rB => c_sHaloOf WA HA zA aA cA WB HB zB aB cB w rA rB ) (fun aA cA aB cB w rA rB => c_iHaloOf WA HA zA aA cA WB HB zB aB cB w rA rB ) rA rB (by omega)
theorem own : ownKnob Try.prog.godebug = none := by kernel_rfl
theorem laidOut : laidOutB Try.prog = true := by kernel_rfl
set_option maxRecDepth 100000 in
theorem lifted (os : Os) (started : os.Started) (H : Type) (enc : TypeId × Value → H) :
    ReturnsInHanded {} Try.checked os 11 .any (Rows.fnExactHaloOfSpec.pre6 enc Try.prog Try.f11 Rows.fnExactHaloOfRow.domain false) (Rows.fnExactHaloOfSpec.post enc Try.prog Try.f11 false true false false) := by
  refine returnsInHanded_of_change (C := Try.checked) own started (by kernel_rfl) Try.func11
    (ChangeSpec.witness6 (enc := enc) (C := Try.checked) false ⟨#[], #[.agg #[.int .i64 0, .int .i64 0, .slice none 0 0], .agg #[.int .i64 0, .int .i64 0, .slice none 0 0]], []⟩ 8 (by kernel_rfl) (by kernel_rfl) (by kernel_rfl) (by kernel_rfl)) ?_
  intro W base args ds gs before hval0 hW hcnd _
  have hval : ∀ (j : Nat) t v, Try.f11.params[j]? = some t → args[j]? = some v → Value.okWide Try.prog W .any base t v := hval0
  have hW' := hW
  obtain ⟨p, q, hA0, hV, rfl, hfz, hnd⟩ := hW
  have hA : DataW.TrodAll enc Try.prog W 0 (fun _ => true) true Try.f11.params.toList args.toList ds p := hA0
  rw [Try.params11] at hA hval
  obtain ⟨v0, vs0, d0, ds0, p0, q0, hargs, rfl, rfl, h0, r0⟩ := trodAll_cons hA
  obtain ⟨v1, vs1, d1, ds1, p1, q1, rfl, rfl, rfl, h1, r1⟩ := trodAll_cons r0
  obtain ⟨rfl, rfl, rfl⟩ := trodAll_nil r1
  obtain rfl : args = #[v0, v1] := by cases args; simp_all
  obtain ⟨rfl, rfl⟩ := trodVars_none hV
  have k0 := h0
  have lt0 : ∀ x ∈ p0, x.block < W.heap.size := by obtain ⟨m, hm⟩ := k0; exact DataW.trod_lt m _ _ _ hm
  obtain ⟨W0, H0, z0, a0, c0, rfl, wW0, wH0, w0⟩ := open_pic Try.underlying24 (by kernel_rfl) (by kernel_rfl) Try.underlying2 Try.underlying2 Try.underlying22 Try.underlying43 (by kernel_rfl) (hval 0 24 v0 rfl rfl) h0
  have k1 := h1
  have lt1 : ∀ x ∈ p1, x.block < W.heap.size := by obtain ⟨m, hm⟩ := k1; exact DataW.trod_lt m _ _ _ hm
  obtain ⟨W1, H1, z1, a1, c1, rfl, wW1, wH1, w1⟩ := open_pic Try.underlying24 (by kernel_rfl) (by kernel_rfl) Try.underlying2 Try.underlying2 Try.underlying22 Try.underlying43 (by kernel_rfl) (hval 1 24 v1 rfl rfl) h1
  clear hA0 hval0
  have hw0 : Calls Try.prog 11 #[.agg #[.int .i64 W0, .int .i64 H0, .slice a0 z0.length c0], .agg #[.int .i64 W1, .int .i64 H1, .slice a1 z1.length c1]] W fun e w' => e = .returned (.bool true) ∧ Below W.heap.size W w' := by
    exact walk W0 H0 z0 a0 c0 W1 H1 z1 a1 c1 W w0 w1
  refine hw0.mono fun e W' ⟨he, bel⟩ => ?_
  subst he
  exact ⟨_, rfl, _, _, _, [], _, [], hW', trodAll_mk1 (shut_bool Try.underlying4 _), (trodAll_cons_mk (Below.trod laidOut (by kernel_rfl) (of_decide_eq_true (by kernel_rfl)) k0 bel lt0) (trodAll_cons_mk (Below.trod laidOut (by kernel_rfl) (of_decide_eq_true (by kernel_rfl)) k1 bel lt1) trodAll_mk0)), rfl, bel.frame _, fun h => by cases h⟩

theorem over : Rows.fnExactHaloOfRow.holds Try.pinned (OpenSpec.ofChange Rows.fnExactHaloOfSpec) :=
  OpenClaim.holds_of_wide 11 Try.f11 rfl rfl rfl rfl rfl rfl rfl ⟨rfl, rfl, rfl, rfl, rfl⟩ rfl rfl rfl rfl rfl (by kernel_rfl) Try.func11 (by kernel_rfl)
    (of_decide_eq_true (by kernel_rfl)) (by unfold Func.isWrapper; first | (rw [if_pos (by decide +kernel)]; kernel_rfl) | (rw [if_neg (by decide +kernel)]; exact ⟨rfl, rfl⟩))
    (fun os started H enc _ => lifted os started H enc)

theorem proved : Rows.FnExactHaloOfSaid := over
#print axioms proved

end Go.Proofs.Ytpjbbmeebnbdlab.fnExactHaloOf

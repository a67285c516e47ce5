/-
  FnExactDoublePicture: for every input this law of the program returns true, and each argument reads as before. No condition.
-/
import Derived.Test.YtpjbbmeebnbdlaaRows
import Derived.Test.YtpjbbmeebnbdlaaRow
import Derived.Test.YtpjbbmeebnbdlaaOw
import Derived.Test.YtpjbbmeebnbdlaaAp
import Derived.ProofKit
import Derived.OpenShut
import Derived.ShutString
import Derived.ChangeOld
import Derived.Below
import Derived.Lib.Hide
import Derived.Outline
import Derived.Deep.RegionHeld3
import Derived.Deep.DeepCutAuto
set_option linter.unusedSimpArgs false
set_option linter.unusedVariables false
set_option exponentiation.threshold 2000
set_option maxRecDepth 20000
set_option maxHeartbeats 4000000
namespace Go.Proofs.Ytpjbbmeebnbdlaa.fnExactDoublePicture
open Go Go.Proofs.Ytpjbbmeebnbdlaa Go.Proofs
open Go.ChangeShapes Go.WideShapes Go.ChangeAt Go.RowKit
open Go.ChangeMaps (open_string shut_string)
/-! ### szPicture -/
theorem c_szF (a : Option Addr) (len cap : Nat) (L : Int) (w : World) (h : (len : Int) ≤ L) (hL : L ≤ 1048576) : Calls Try.prog 53 #[.slice a len cap, .int .i64 L] w (fun e w' => e = .returned (.int .i64 (L - (len : Int))) ∧ w' = w) := by
  have h' : ¬ (L - (len : Int) < 0) := by omega
  go_enter Try.func53, Try.ntmps53
  go_wp2
  go_ret
  exact ⟨rfl, rfl⟩
theorem c_szF_no (a : Option Addr) (len cap : Nat) (L : Int) (w : World) (h : L < len) (hL : 0 ≤ L) (hm : len ≤ 9223372036854775807) : Calls Try.prog 53 #[.slice a len cap, .int .i64 L] w (fun e w' => e = .returned (.int .i64 (-1)) ∧ w' = w) := by
  have h' : L - (len : Int) < 0 := by omega
  go_enter Try.func53, Try.ntmps53
  go_wp2
  go_ret
  exact ⟨rfl, rfl⟩
theorem c_szP (W H : Int) (a : Option Addr) (len cap : Nat) (L : Int) (w : World) (h : (len : Int) ≤ L) (hL : L ≤ 1048576) : Calls Try.prog 25 #[.agg #[.int .i64 W, .int .i64 H, .slice a len cap], .int .i64 L] w (RetB (.int .i64 (L - (len : Int))) w) := by
  have h' : ¬ (L - (len : Int) < 0) := by omega
  go_enter Try.func25, Try.ntmps25
  go_wp2_with (go_at_call 53; refine (c_szF a len cap L _ h hL).mono ?_; rintro _ _ ⟨rfl, rfl⟩)
  go_ret
  exact ⟨rfl, (Below.refl _ _).alloc (Nat.le_refl _) _⟩
theorem c_szP_no (W H : Int) (a : Option Addr) (len cap : Nat) (L : Int) (w : World) (h : L < len) (hL : 0 ≤ L ∧ len ≤ 9223372036854775807) : Calls Try.prog 25 #[.agg #[.int .i64 W, .int .i64 H, .slice a len cap], .int .i64 L] w (RetB (.int .i64 (-1)) w) := by
  go_enter Try.func25, Try.ntmps25
  go_wp2_with (go_at_call 53; refine (c_szF_no a len cap L _ h hL.1 hL.2).mono ?_; rintro _ _ ⟨rfl, rfl⟩)
  go_ret
  exact ⟨rfl, (Below.refl _ _).alloc (Nat.le_refl _) _⟩
/-! ### toOwn -/
theorem infoFo : (Try.prog.info? 32).map (fun i => (i.zero, i.size, i.bytes)) = some (some (.float .f32 0), 1, 4) := by kernel_rfl
theorem c_toO (a : Option Addr) (len cap : Nat) (zs : List Nat) (w : World) (hr : IsRowF .f32 w a len cap zs) (hl : len ≤ 1048576) : Calls Try.prog 55 #[.slice a len cap] w (NewO 32 len zs w) := by
  obtain ⟨i0, hi, hz0, hz1, hz2⟩ := info_parts infoFo
  obtain ⟨h1, h2, h3, h4, h5⟩ := hr
  go_enter Try.func55, Try.ntmps55
  go_wp2_with (at_make; refine wpList_make_full _ rfl _ _ 22 rfl w.heap.size 32 i0 (.float .f32 0) 1 Try.underlying22 hi hz0 hz1 _ _ _ _ len rfl rfl rfl rfl (by rw [hz2]; omega) (by unfold maxLen; omega) (by simp) ?_; intro w1 hown hgrow)
  have hblk := block_of_owns hown
  have e0 : (madeCells (Value.float FloatKind.f32 0).cells (len * 1)).toList = List.replicate len (.float .f32 0) := by rw [Nat.mul_one]; exact made_zeros _ _
  rw [e0] at hblk
  have hbel : Below w.heap.size w w1 := (Below.refl _ _).grown hgrow (Nat.le_refl _) (by simp)
  have HB := Lib.hid hblk
  clear hown hgrow hblk e0 hz0 hz1 hz2
  go_loopw [4] (fun i wr => ∃ j : Nat, j ≤ len ∧ i = .int .i64 j ∧ Below w.heap.size w wr ∧ wr.heap[w.heap.size]? = some (.cells (fl .f32 (zs.take j) ++ List.replicate (zs.length - j) (Value.float .f32 0)).toArray 32 (0, 0))) (fun i _ => len - (intOf i).toNat)
  case atStart => exact ⟨0, Nat.zero_le _, rfl, hbel, by rw [HB.out, h1]; rfl⟩
  case round =>
    obtain ⟨j, hj, rfl, hb, hblk⟩ := hrel
    have Hblk := Lib.hid hblk
    clear hblk
    by_cases hlt : j < len
    · rcases h5 with h5 | ⟨b, off, rfl, hbl, hc⟩
      · omega
      have hcell : wr.cell? ⟨b, off + j, none⟩ = some (.float .f32 (fat zs j)) := by rw [hb.cell (p := ⟨b, off + j, none⟩) hbl]; exact hc j hlt
      have hold : wr.cell? ⟨w.heap.size, j, none⟩ = some (.float .f32 0) := by
        rw [cell_of_block Hblk.out, List.getElem?_append_right (by simp [fl]; omega)]
        have e : (fl FloatKind.f32 (List.take j zs)).length = j := by simp [fl]; omega
        rw [e, Nat.sub_self, List.getElem?_replicate, if_pos (by omega)]
      have hfz : wr.frozen? ⟨w.heap.size, j, none⟩ = false := frozen_of_block Hblk.out j
      have hset := block_set Hblk.out j (.float .f32 (fat zs j))
      rw [set_step zs _ j (by omega)] at hset
      have Hset := Lib.hid hset
      clear hset hc
      go_wp2
      go_roundw
      case rel => exact ⟨j + 1, by omega, by go_num, hb.setCell (Nat.le_refl _) _, Hset.out⟩
      case measure => simp [intOf]; omega
    · obtain rfl : j = len := by omega
      have e1 : fl .f32 (zs.take j) ++ List.replicate (zs.length - j) (Value.float .f32 0) = fl .f32 zs := by rw [h1, Nat.sub_self, List.replicate_zero, List.append_nil, List.take_of_length_le (by omega)]
      have hblk2 := Hblk.out
      rw [e1] at hblk2
      have hown : Own 32 wr w.heap.size (some ⟨w.heap.size, 0, none⟩) j j zs :=
        ⟨h1, ⟨by simp [fl, h1], .inr ⟨w.heap.size, j, _, rfl, Nat.le_refl _, hblk2, Nat.le_refl _, by unfold maxLen; omega, by simp [fl, h1], by rw [List.take_of_length_le (by simp [fl, h1])]⟩⟩, h4⟩
      have HO := Lib.hid hown
      clear hown hblk2 e1
      go_wp2
      go_ret
      exact ⟨w.heap.size, rfl, hb, HO.out⟩
/-! ### toPicture -/
theorem c_toP (W H : Int) (a : Option Addr) (len cap : Nat) (zs : List Nat) (w : World) (hr : IsRowF .f32 w a len cap zs) (hl : len ≤ 1048576) : Calls Try.prog 27 #[.agg #[.int .i64 W, .int .i64 H, .slice a len cap]] w (NewP 32 W H zs w) := by
  have HR := Lib.hid hr
  have HL := Lib.hid hr.1
  clear hr
  go_enter Try.func27, Try.ntmps27
  go_wp2_with fail
  refine (c_toO a len cap zs _ (HR.out.below ((((Below.refl _ _).alloc (Nat.le_refl _) _).alloc (by simp) _).alloc (by simp; omega) _)) hl).mono ?_
  rintro _ w1 ⟨g, rfl, hb, hown⟩
  obtain ⟨hc, hf⟩ := bcell hb
  have hz : w.heap.size + 1 + 1 < w1.heap.size := by have := hb.size; simp at this; omega
  have hg' : w.heap.size + 1 + 1 < g := by have := hown.lt.1; simp at this; omega
  have HB := Lib.hid hb
  have HO := Lib.hid hown
  clear hb hown
  go_wp2_with fail
  refine bodyPost_ret (v := .agg #[.int .i64 W, .int .i64 H, .slice (some ⟨g, 0, none⟩) len len]) (by simp [results, Try.results27, hc, hz, go_sem]) rfl ⟨g, by rw [HL.out], ?_, ?_⟩
  · exact ((((((((Below.refl _ _).alloc (Nat.le_refl _) _).alloc (by simp) _).alloc (by simp; omega) _).trans (HB.out.mono (by simp; omega))).setCell (by simp; omega) _).setCell (by simp) _).setCell (by simp) _).setCell (by simp) _
  · rw [HL.out]
    exact ((((HO.out.setCell (by simp [blk]; omega) _).setCell (by simp [blk]; omega) _).setCell (by simp [blk]; omega) _).setCell (by simp [blk]; omega) _).mono (by simp; omega)
/-! ### sameFloat -/
theorem c_sameFloat (v n m : Nat) (w : World) (j : Nat) : Calls Try.prog 24 #[.float .f64 (pick .f64 v n), .float .f64 (pick .f64 v m)] (w.drewN j) (RetV (.bool true) w) := by
  have hs := self_ne .f64 v
  have ht := self_eq .f64 v
  cases h : isN .f64 v
  · rw [h] at hs ht
    cases h2 : (FloatKind.f64.format.order v 0 == some .eq)
    · go_enter Try.func24, Try.ntmps24
      go_wp2_with (first | (refine wpList_fop rfl _ _ _ _ _ rfl _ _ _ rfl rfl (by decide) _ ?_; intro _ _) | (refine upon_fop _ _ _ _ _ (by decide) ?_; intro _ _))
      go_ret
      exact ⟨_, rfl, rfl⟩
    · go_enter Try.func24, Try.ntmps24
      go_wp2_with (first | (refine wpList_fop rfl _ _ _ _ _ rfl _ _ _ rfl rfl (by decide) _ ?_; intro _ _) | (refine upon_fop _ _ _ _ _ (by decide) ?_; intro _ _))
      go_ret
      exact ⟨_, by simp, rfl⟩
  · rw [h] at hs ht
    go_enter Try.func24, Try.ntmps24
    go_wp2_with (first | (refine wpList_fop rfl _ _ _ _ _ rfl _ _ _ rfl rfl (by decide) _ ?_; intro _ _) | (refine upon_fop _ _ _ _ _ (by decide) ?_; intro _ _))
    go_ret
    exact ⟨_, rfl, rfl⟩

/-! ### eqFloat32S -/
theorem c_eqF (a b : Option Addr) (len c d : Nat) (zs : List Nat) (w : World) (j0 : Nat) (hr : IsRowF .f32 w a len c zs) (hs : IsRowF .f32 w b len d zs) : Calls Try.prog 58 #[.slice a len c, .slice b len d] (w.drewN j0) (RetV (.bool true) w) := by
  obtain ⟨h1, h2, h3, h4, h5⟩ := hr
  obtain ⟨g1, g2, g3, g4, g5⟩ := hs
  unfold maxLen at h3
  go_enter Try.func58, Try.ntmps58
  go_wp2
  go_loopw [5] (fun i wr => ∃ k m : Nat, k ≤ len ∧ i = .int .i64 k ∧ wr = w.drewN m) (fun i _ => len - (intOf i).toNat)
  case atStart => exact ⟨0, j0, Nat.zero_le _, rfl, rfl⟩
  case round =>
    obtain ⟨k, m, hk, rfl, rfl⟩ := hrel
    by_cases hlt : k < len
    · rcases h5 with h5 | ⟨x, off, rfl, hbl, hc⟩
      · omega
      rcases g5 with g5 | ⟨y, off2, rfl, gbl, gc⟩
      · omega
      have hcell : w.cell? ⟨x, off + k, none⟩ = some (.float .f32 (fat zs k)) := hc k hlt
      have gcell : w.cell? ⟨y, off2 + k, none⟩ = some (.float .f32 (fat zs k)) := gc k hlt
      clear hc h4 gc g4
      go_wp2
      refine wp_region_N (fun _ _ u => u = .bool true) (by kernel_rfl) (by kernel_rfl) ?_; (repeat (first | ((with_reducible show wpN _ _ _ _ _ (Oper.mk _ (Op.binOp _ _ _ _ _) _ _ _ none :: _) _); refine wpN_fop rfl _ _ _ _ _ rfl _ _ _ rfl rfl (by decide) ?_; intro _) | ((with_reducible show wpN _ _ _ _ _ (Oper.mk _ (Op.convert _ _ _) _ _ _ none :: _) _); refine wpN_cvU rfl 32 36 _ rfl (Option.isSome_iff_exists.2 ⟨_, Try.underlying32⟩) Try.underlying36 _ rfl ?_; intro _) | ((with_reducible show wpN _ _ _ _ _ (Oper.mk _ _ _ _ _ (some _) :: _) _); (with_reducible refine wpN_off ?_ ?_); focus rfl; (simp only [Act.put, List.setIfInBounds_toArray, List.set_cons_zero, List.set_cons_succ])) | ((with_reducible show wpN _ _ _ _ _ (Oper.mk _ _ _ _ _ (some _) :: _) _); ((with_reducible refine wpN_on ?_ (fun K hK => ?_)); (focus rfl); intro _; go_simp; first | (refine uponN_value (hK _ ?_)) | ((refine uponN_call (callN rfl (c_sameFloat _ _ _ _ _)) ?_; intro u hu; obtain rfl : u = _ := hu); refine hK _ ?_)); clear hK K) | (((with_reducible refine wpN_plain rfl (fun K hK => ?_)); intro _; go_simp; first | (refine uponN_value (hK _ ?_)) | ((refine uponN_call (callN rfl (c_sameFloat _ _ _ _ _)) ?_; intro u hu; obtain rfl : u = _ := hu); refine hK _ ?_)); clear hK K) | ((with_reducible refine wpN_step (fun K hK => ?_)); go_simp; first | (refine hK _ ?_) | (intro _; first | (refine uponN_value (hK _ ?_)) | ((refine uponN_call (callN rfl (c_sameFloat _ _ _ _ _)) ?_; intro u hu; obtain rfl : u = _ := hu); refine hK _ ?_)); clear hK K))); refine wpN_nil ?_; intro _
      go_wp2
      go_roundw
      case rel => exact ⟨k + 1, _, by omega, by go_num, rfl⟩
      case measure => simp [intOf]; omega
    · clear h5 h4 g4 g5
      go_wp2
      go_ret
      exact ⟨_, rfl, rfl⟩
/-! ### eqPicture -/
theorem c_eqF0 (a b : Option Addr) (len c d : Nat) (zs : List Nat) (w : World) (hr : IsRowF .f32 w a len c zs) (hs : IsRowF .f32 w b len d zs) : Calls Try.prog 58 #[.slice a len c, .slice b len d] w (RetV (.bool true) w) := by
  have h := c_eqF a b len c d zs w 0 hr hs
  rwa [w.drewN_zero] at h
theorem c_eqP (W H : Int) (a b : Option Addr) (len c d : Nat) (zs : List Nat) (w : World) (hr : IsRowF .f32 w a len c zs) (hs : IsRowF .f32 w b len d zs) : Calls Try.prog 29 #[.agg #[.int .i64 W, .int .i64 H, .slice a len c], .agg #[.int .i64 W, .int .i64 H, .slice b len d]] w (RetB (.bool true) w) := by
  have HR := Lib.hid hr
  have HS := Lib.hid hs
  clear hr hs
  go_enter Try.func29, Try.ntmps29
  go_wp2_with fail
  refine (c_eqF0 a b len c d zs _ ((HR.out.alloc _).alloc _) ((HS.out.alloc _).alloc _)).mono ?_
  rintro _ _ ⟨m, rfl, rfl⟩
  go_wp2_with fail
  go_ret
  exact ⟨rfl, below_drewN (((Below.refl _ _).alloc (Nat.le_refl _) _).alloc (by simp) _) _⟩
/-! ### markFloat32S -/
theorem c_markF (B : Nat) (a : Option Addr) (len cap k : Nat) (zs : List Nat) (w : World) (hr : Own 32 w B a len cap zs) (hk : k + len ≤ 4611686018427387904) : Calls Try.prog 72 #[.slice a len cap, .int .i64 k] w (fun e w' => e = .returned (.int .i64 ((k + len : Nat) : Int)) ∧ w.grownBy w' (blk a) ∧ Own 32 w' B a len cap (marks k len)) := by
  rcases hr.parts with ⟨rfl, rfl, rfl, rfl⟩ | ⟨g, cur, rfl, hb, hg, hl, hm, hs, ht⟩
  · clear hr
    go_enter Try.func72, Try.ntmps72
    go_wp2
    refine wp_loop_rounds 1 ?_; rw [rounds_succ]
    go_wp2
    go_ret
    exact ⟨rfl, ⟨rfl, rfl, rfl, Nat.le_refl _, fun _ _ _ => rfl⟩, Own.nil _ _ _⟩
  · have h0 : Marked w g 32 cap k 0 := ⟨cur, hg, hs, fun i hi => by omega⟩
    have H0 := Lib.hid h0
    unfold maxLen at hm
    clear hr hg hs ht h0
    go_enter Try.func72, Try.ntmps72
    go_wp2
    go_loopw [1, 5] (fun t i wr => ∃ j : Nat, j ≤ len ∧ i = .int .i64 j ∧ t = .int .i64 ((k + j : Nat) : Int) ∧ w.grownBy wr (some g) ∧ Marked wr g 32 cap k j) (fun _ i _ => len - (intOf i).toNat)
    case atStart => exact ⟨0, Nat.zero_le _, rfl, rfl, ⟨rfl, rfl, rfl, Nat.le_refl _, fun _ _ _ => rfl⟩, H0.out⟩
    case round =>
      obtain ⟨j, hj, rfl, rfl, hgr, hM⟩ := hrel
      by_cases hlt : j < len
      · obtain ⟨v, hcell, hfz⟩ := hM.cell (j := j) (by omega)
        have hM2 := Lib.hid (hM.step (by omega : j < cap))
        have hG2 := Lib.hid hgr
        clear hM hgr
        go_wp2
        go_roundw
        case rel => exact ⟨j + 1, by omega, by go_num, by go_num, ⟨hG2.out.os, hG2.out.tape, hG2.out.output, by have := hG2.out.size; simpa using this, fun k' h1 h2 => by rw [Below.heap_setCell _ _ _ _ (fun e => h2 (by rw [e]))]; exact hG2.out.block k' h1 h2⟩, hM2.out⟩
        case measure => simp [intOf]; omega
      · obtain rfl : j = len := by omega
        have hO := Lib.hid (hM.own (B := B) hb hl (by unfold maxLen; omega))
        have hG2 := Lib.hid hgr
        clear hM hgr
        go_wp2
        go_ret
        exact ⟨rfl, hG2.out, hO.out⟩
/-! ### heldFloat32S -/
theorem c_heldF (a : Option Addr) (len cap k : Nat) (w : World) (hr : IsRowF .f32 w a len cap (marks k len)) (hk : k + len ≤ 4611686018427387904) : Calls Try.prog 73 #[.slice a len cap, .int .i64 k] w (fun e w' => e = .returned (.int .i64 ((k + len : Nat) : Int)) ∧ w' = w) := by
  obtain ⟨h1, h2, h3, h4, h5⟩ := hr
  unfold maxLen at h3
  clear h1 h4
  go_enter Try.func73, Try.ntmps73
  go_wp2
  go_loop [1, 5] (fun t i => ∃ j : Nat, j ≤ len ∧ i = .int .i64 j ∧ t = .int .i64 ((k + j : Nat) : Int)) (fun _ i => len - (intOf i).toNat)
  case atStart => exact ⟨0, Nat.zero_le _, rfl, rfl⟩
  case round =>
    obtain ⟨j, hj, rfl, rfl⟩ := hrel
    by_cases hlt : j < len
    · rcases h5 with h5 | ⟨b, off, rfl, hbl, hc⟩
      · omega
      have hcell : w.cell? ⟨b, off + j, none⟩ = some (.float .f32 (markN k j)) := by rw [← marks_at k len j hlt]; exact hc j hlt
      have hne : (FloatKind.f32.format.order (markN k j) (markN k j) != some .eq) = false := by rw [self_ne]; exact markN_notN k j
      have hE : floatOfInt .f32 ((k : Int) + (j : Int)) = markN k j := by unfold markN; rw [Int.natCast_add]
      have hne2 : (FloatKind.f32.format.order (markN k j) (floatOfInt .f32 ((k : Int) + (j : Int))) != some .eq) = false := (congrArg (fun x => FloatKind.f32.format.order (markN k j) x != some .eq) hE).trans hne
      clear hE
      clear hc
      go_wp2
      go_round
      case rel => exact ⟨j + 1, by omega, by go_num, by go_num⟩
      case measure => simp [intOf]; omega
    · obtain rfl : j = len := by omega
      clear h5
      go_wp2
      go_ret
      exact ⟨rfl, rfl⟩
/-! ### markPicture -/
theorem c_markP (W H : Int) (B : Nat) (a : Option Addr) (len cap k : Nat) (zs : List Nat) (w : World) (hr : Own 32 w B a len cap zs) (hk : k + len ≤ 4611686018427387904) : Calls Try.prog 30 #[.agg #[.int .i64 W, .int .i64 H, .slice a len cap], .int .i64 k] w (fun e w' => e = .returned (.int .i64 ((k + len : Nat) : Int)) ∧ w.grownBy w' (blk a) ∧ Own 32 w' B a len cap (marks k len)) := by
  have HR := Lib.hid hr
  clear hr
  go_enter Try.func30, Try.ntmps30
  go_wp2_with fail
  refine (c_markF B a len cap k zs _ (HR.out.alloc _) hk).mono ?_
  rintro _ w1 ⟨rfl, hg, hO⟩
  have HG := Lib.hid hg
  have HO := Lib.hid hO
  clear hg hO
  go_wp2_with fail
  go_ret
  exact ⟨rfl, ⟨HG.out.os, HG.out.tape, HG.out.output, by have := HG.out.size; simp at this; omega, fun k' h1 h2 => by rw [HG.out.block k' (by simp; omega) h2]; exact Below.heap_alloc _ _ _ h1⟩, HO.out⟩
theorem c_heldP (W H : Int) (a : Option Addr) (len cap k : Nat) (w : World) (hr : IsRowF .f32 w a len cap (marks k len)) (hk : k + len ≤ 4611686018427387904) : Calls Try.prog 32 #[.agg #[.int .i64 W, .int .i64 H, .slice a len cap], .int .i64 k] w (RetB (.int .i64 ((k + len : Nat) : Int)) w) := by
  have HR := Lib.hid hr
  clear hr
  have h0 : 0 ≤ ((k + len : Nat) : Int) := by omega
  go_enter Try.func32, Try.ntmps32
  go_wp2_with fail
  refine (c_heldF a len cap k _ (HR.out.alloc _) hk).mono ?_
  rintro _ w1 ⟨rfl, rfl⟩
  go_wp2_with fail
  go_ret
  exact ⟨rfl, (Below.refl _ _).alloc (Nat.le_refl _) _⟩

/-! ### picDefs -/
def sideB (W H : Int) : Bool := decide (1 ≤ W) && decide (W ≤ 16) && (decide (1 ≤ H) && decide (H ≤ 16))
def finL (zs : List Nat) : Bool := zs.all (finB .f32)
def validB (W H : Int) (zs : List Nat) : Bool := sideB W H && decide ((zs.length : Int) = W * H) && finL zs
theorem sideB_true {W H : Int} (h : sideB W H = true) : (1 ≤ W ∧ W ≤ 16) ∧ 1 ≤ H ∧ H ≤ 16 := by simpa [sideB, and_assoc] using h
theorem side_mul {W H : Int} (h : sideB W H = true) : 1 ≤ W * H ∧ W * H ≤ 256 := by
  obtain ⟨⟨h1, h2⟩, h3, h4⟩ := sideB_true h
  have : W * H ≤ 16 * 16 := Int.mul_le_mul h2 h4 (by omega) (by omega)
  have h5 : 1 * 1 ≤ W * H := Int.mul_le_mul h1 h3 (by omega) (by omega)
  omega
theorem sideB_false {W H : Int} (h : sideB W H = false) : W < 1 ∨ 16 < W ∨ H < 1 ∨ 16 < H := by
  simp [sideB] at h; omega
theorem finL_snoc (zs : List Nat) (k : Nat) (hk : k < zs.length) : finL (zs.take (k + 1)) = (finL (zs.take k) && finB .f32 (fat zs k)) := by
  unfold finL fat
  rw [List.take_succ_eq_append_getElem hk, List.all_append, List.getD, List.getElem?_eq_getElem hk]; simp
theorem finL_of (zs : List Nat) (k : Nat) (hk : k < zs.length) (h : finB .f32 (fat zs k) = false) : finL zs = false := by
  unfold finL
  rw [List.all_eq_false]
  refine ⟨zs[k], List.getElem_mem hk, ?_⟩
  unfold fat at h
  rw [List.getD, List.getElem?_eq_getElem hk] at h
  simpa using h
theorem pick0 (k : FloatKind) (v : Nat) (hv : v < 2 ^ k.format.width) : ∃ n, v = pick k v n := pick_onto k v hv
/-! ### give -/
def giveP (W H : Int) (zs : List Nat) : PRes := if validB W H zs = true then ⟨W, H, zs, true⟩ else PRes.no
theorem near_valid {W H : Int} {zs' zs : List Nat} (h : near zs' zs) : validB W H zs' = validB W H zs := by
  unfold validB finL; rw [near_fin h, h.1]
theorem valid_fin {W H : Int} {zs : List Nat} (h : validB W H zs = true) : zs.all (finB .f32) = true := by
  simp [validB, finL] at h ⊢; exact h.2
theorem valid_len {W H : Int} {zs : List Nat} (h : validB W H zs = true) : (zs.length : Int) = W * H ∧ zs.length ≤ 256 ∧ 1 ≤ zs.length := by
  simp only [validB, Bool.and_eq_true, decide_eq_true_eq] at h
  obtain ⟨⟨h1, h2⟩, h3⟩ := h
  have := side_mul h1
  exact ⟨h2, by omega, by omega⟩
/-! ### makeDefs -/
def makeL (F : Nat → Nat → Nat) (Wn Hn : Nat) : List Nat := (List.range (Wn * Hn)).map fun i => F (i % Wn) (i / Wn)
theorem makeL_len {F : Nat → Nat → Nat} {Wn Hn : Nat} : (makeL F Wn Hn).length = Wn * Hn := by simp [makeL]
theorem makeL_at {F : Nat → Nat → Nat} {Wn Hn x y k : Nat} (hk : k = y * Wn + x) (hx : x < Wn) (hy : y < Hn) : fat (makeL F Wn Hn) k = F x y := by
  have h1 : k < Wn * Hn := by
    have : (y + 1) * Wn ≤ Hn * Wn := Nat.mul_le_mul_right _ (by omega)
    rw [Nat.succ_mul] at this
    rw [Nat.mul_comm Wn Hn]; omega
  have h2 : k % Wn = x := by rw [hk, Nat.mul_comm y Wn, Nat.mul_add_mod, Nat.mod_eq_of_lt hx]
  have h3 : k / Wn = y := by rw [hk, Nat.mul_comm y Wn, Nat.mul_add_div (by omega), Nat.div_eq_of_lt hx, Nat.add_zero]
  simp [fat, makeL, h1, h2, h3]
theorem make_lt {Wn Hn x y k : Nat} (hk : k = y * Wn + x) (hx : x < Wn) (hy : y < Hn) : k + 1 ≤ Wn * Hn := by
  have : (y + 1) * Wn ≤ Hn * Wn := Nat.mul_le_mul_right _ (by omega)
  rw [Nat.succ_mul] at this
  rw [Nat.mul_comm Wn Hn]; omega
def resMake (F : Nat → Nat → Nat) (W H : Int) : PRes := if sideB W H = true then giveP W H (makeL F W.toNat H.toNat) else PRes.no
/-! ### atDefs -/
def minI (a b : Int) : Int := if a < b then a else b
def maxI (a b : Int) : Int := if b < a then a else b
theorem clamp_in (n : Nat) (h : 1 ≤ n) (i : Int) : ∃ c : Nat, maxI 0 (minI ((n : Int) - 1) i) = (c : Int) ∧ c < n := by
  refine ⟨(maxI 0 (minI ((n : Int) - 1) i)).toNat, ?_, ?_⟩
  · unfold maxI minI; split <;> split <;> omega
  · unfold maxI minI; split <;> split <;> omega
theorem clamp_is {n c : Nat} (h : c < n) : maxI 0 (minI ((n : Int) - 1) (c : Int)) = (c : Int) := by
  unfold maxI minI; split <;> split <;> omega
theorem mul_bound {cy Wn Hn : Nat} (hy : cy < Hn) (hW : Wn ≤ 16) (hH : Hn ≤ 16) : cy * Wn + Wn ≤ Wn * Hn ∧ cy * Wn ≤ 256 := by
  have h1 : (cy + 1) * Wn ≤ Hn * Wn := Nat.mul_le_mul_right _ (by omega)
  rw [Nat.succ_mul, Nat.mul_comm Hn Wn] at h1
  have h2 : Wn * Hn ≤ 16 * 16 := Nat.mul_le_mul hW hH
  exact ⟨h1, by omega⟩
/-! ### winDefs -/
def winB (Wn : Nat) (l t r b : Int) (k : Nat) : Bool := decide (l ≤ ((k % Wn : Nat) : Int)) && decide (((k % Wn : Nat) : Int) ≤ r) && (decide (t ≤ ((k / Wn : Nat) : Int)) && decide (((k / Wn : Nat) : Int) ≤ b))
def winL (Wn N : Nat) (l t r b : Int) : List Nat := (List.range N).filter (winB Wn l t r b)
theorem winL_zero (Wn : Nat) (l t r b : Int) : winL Wn 0 l t r b = [] := rfl
theorem winL_yes {Wn k : Nat} {l t r b : Int} (h : winB Wn l t r b k = true) : winL Wn (k + 1) l t r b = winL Wn k l t r b ++ [k] := by
  unfold winL; rw [List.range_succ, List.filter_append]; simp [h]
theorem winL_no {Wn k : Nat} {l t r b : Int} (h : winB Wn l t r b k = false) : winL Wn (k + 1) l t r b = winL Wn k l t r b := by
  unfold winL; rw [List.range_succ, List.filter_append]; simp [h]
theorem winL_skip {Wn : Nat} {l t r b : Int} (m : Nat) : ∀ n, m ≤ n → (∀ k, m ≤ k → k < n → winB Wn l t r b k = false) → winL Wn n l t r b = winL Wn m l t r b
  | 0, h, _ => by obtain rfl : m = 0 := by omega
                  rfl
  | n + 1, h, hn => by
    by_cases e : m = n + 1
    · rw [e]
    · rw [winL_no (hn n (by omega) (by omega))]
      exact winL_skip m n (by omega) fun k h1 h2 => hn k h1 (by omega)
theorem winL_len (Wn N : Nat) (l t r b : Int) : (winL Wn N l t r b).length ≤ N := by
  unfold winL; have h := List.length_filter_le (winB Wn l t r b) (List.range N); rwa [List.length_range] at h
theorem winL_lt {Wn N : Nat} {l t r b : Int} {k : Nat} (h : k ∈ winL Wn N l t r b) : k < N := by
  unfold winL at h; exact List.mem_range.1 (List.mem_filter.1 h).1
theorem row_div {Wn x y k : Nat} (hk : k = y * Wn + x) (hx : x < Wn) : k % Wn = x ∧ k / Wn = y := by
  subst hk
  exact ⟨by rw [Nat.mul_comm y Wn, Nat.mul_add_mod, Nat.mod_eq_of_lt hx], by rw [Nat.mul_comm y Wn, Nat.mul_add_div (by omega), Nat.div_eq_of_lt hx, Nat.add_zero]⟩
theorem winB_at {Wn x y k : Nat} {l t r b : Int} (hk : k = y * Wn + x) (hx : x < Wn) : winB Wn l t r b k = (decide (l ≤ (x : Int)) && decide ((x : Int) ≤ r) && (decide (t ≤ (y : Int)) && decide ((y : Int) ≤ b))) := by
  obtain ⟨h1, h2⟩ := row_div hk hx
  unfold winB; rw [h1, h2]
/-- The rest of a row lies outside. -/
theorem winL_row {Wn x y : Nat} {l t r b : Int} (hx : x ≤ Wn) (h : (y : Int) < t ∨ r < (x : Int)) : winL Wn ((y + 1) * Wn) l t r b = winL Wn (y * Wn + x) l t r b := by
  refine winL_skip _ _ (by rw [Nat.succ_mul]; omega) fun k h1 h2 => ?_
  rw [Nat.succ_mul] at h2
  obtain ⟨j, rfl⟩ : ∃ j, k = y * Wn + j := ⟨k - y * Wn, by omega⟩
  rw [winB_at rfl (by omega : j < Wn)]
  rcases h with h | h
  · rw [decide_eq_false (by omega : ¬ t ≤ (y : Int))]; simp
  · rw [decide_eq_false (by omega : ¬ ((j : Nat) : Int) ≤ r)]; simp
/-- All that follows lies below. -/
theorem winL_rest {Wn x y N : Nat} {l t r b : Int} (hW : 1 ≤ Wn) (hN : y * Wn + x ≤ N) (h : b < (y : Int)) : winL Wn N l t r b = winL Wn (y * Wn + x) l t r b := by
  refine winL_skip _ _ hN fun k h1 h2 => ?_
  have h3 : y ≤ k / Wn := by
    have : y * Wn / Wn ≤ k / Wn := Nat.div_le_div_right (by omega)
    rwa [Nat.mul_div_cancel _ (by omega)] at this
  unfold winB
  rw [decide_eq_false (by omega : ¬ ((k / Wn : Nat) : Int) ≤ b)]
  simp
/-- Sums from left to right. -/
def sumL (zs : List Nat) (idx : List Nat) : Nat := idx.foldl (fun s k => fop .add .f32 s (fat zs k)) 0
theorem sumL_snoc (zs idx : List Nat) (k : Nat) : sumL zs (idx ++ [k]) = fop .add .f32 (sumL zs idx) (fat zs k) := by unfold sumL; rw [List.foldl_append]; rfl
theorem take_snoc {idx : List Nat} {j : Nat} (h : j < idx.length) : idx.take (j + 1) = idx.take j ++ [fat idx j] := by
  unfold fat
  rw [List.take_succ_eq_append_getElem h, List.getD, List.getElem?_eq_getElem h]; rfl
def meanV (zs idx : List Nat) : Nat := fop .quo .f32 (sumL zs idx) (floatOfInt .f32 (idx.length : Int))
/-- Pixels with their places, as they lie in memory. -/
def spotC (Wn : Nat) (zs : List Nat) (k : Nat) : List Value := [.int .i64 ((k % Wn : Nat) : Int), .int .i64 ((k / Wn : Nat) : Int), .float .f32 (fat zs k)]
def spotsC (Wn : Nat) (zs idx : List Nat) : List Value := idx.flatMap (spotC Wn zs)
theorem spotsC_snoc (Wn : Nat) (zs idx : List Nat) (k : Nat) : spotsC Wn zs (idx ++ [k]) = spotsC Wn zs idx ++ spotC Wn zs k := by simp [spotsC]
theorem spotsC_len (Wn : Nat) (zs : List Nat) : ∀ idx : List Nat, (spotsC Wn zs idx).length = idx.length * 3
  | [] => rfl
  | k :: idx => by
    have h := spotsC_len Wn zs idx
    unfold spotsC at h ⊢
    rw [List.flatMap_cons, List.length_append, h]; simp [spotC]; omega
theorem spotsC_at (Wn : Nat) (zs : List Nat) : ∀ (idx : List Nat) (j c : Nat), j < idx.length → c < 3 → (spotsC Wn zs idx)[j * 3 + c]? = (spotC Wn zs (fat idx j))[c]?
  | [], j, c, h, _ => by simp at h
  | k :: idx, 0, c, _, hc => by
    unfold spotsC
    rw [List.flatMap_cons, List.getElem?_append_left (by simp [spotC]; omega), Nat.zero_mul, Nat.zero_add]; rfl
  | k :: idx, j + 1, c, h, hc => by
    have h2 := spotsC_at Wn zs idx j c (by simpa using h) hc
    unfold spotsC at h2 ⊢
    rw [List.flatMap_cons, List.getElem?_append_right (by simp [spotC]; omega)]
    have e : (j + 1) * 3 + c - (spotC Wn zs k).length = j * 3 + c := by simp [spotC]; omega
    rw [e, h2]; rfl
/-- A slice of them, of the call's own. -/
def Spots (T : TypeId) (Wn : Nat) (zs : List Nat) (w : World) (B : Nat) (v : Value) (idx : List Nat) : Prop := w.ownsRow B T 3 v idx.length (spotsC Wn zs idx)
theorem Spots.below {T : TypeId} {Wn : Nat} {zs : List Nat} {w w' : World} {B : Nat} {v : Value} {idx : List Nat} (h : Spots T Wn zs w B v idx) (hb : Below w.heap.size w w') : Spots T Wn zs w' B v idx :=
  World.ownsRow.kept h (grown_of_below hb) (by cases v.ownBlock <;> simp)
theorem Spots.at {T : TypeId} {Wn : Nat} {zs : List Nat} {w : World} {B : Nat} {v : Value} {idx : List Nat} (h : Spots T Wn zs w B v idx) {j : Nat} (hj : j < idx.length) :
    ∃ g c, v = .slice (some ⟨g, 0, none⟩) idx.length c ∧ g < w.heap.size ∧ idx.length ≤ c ∧ c ≤ maxLen ∧ w.cell? ⟨g, j * 3, none⟩ = some (.int .i64 ((fat idx j % Wn : Nat) : Int)) ∧ w.cell? ⟨g, j * 3 + 1, none⟩ = some (.int .i64 ((fat idx j / Wn : Nat) : Int)) ∧ w.cell? ⟨g, j * 3 + 2, none⟩ = some (.float .f32 (fat zs (fat idx j))) := by
  rcases h.2 with ⟨_, h0⟩ | ⟨g, c, cur, e, hb, hg, hc, hm, hs, ht⟩
  · omega
  · have hcell : ∀ i, i < 3 → w.cell? ⟨g, j * 3 + i, none⟩ = (spotC Wn zs (fat idx j))[i]? := by
      intro i hi
      rw [cell_of_row w g _ cur T (0, 0) hg, ← spotsC_at Wn zs idx j i hj hi, ← ht, List.getElem?_take, if_pos (by omega), Array.getElem?_toList]
    exact ⟨g, c, e, (Array.getElem?_eq_some_iff.1 hg).1, hc, hm, hcell 0 (by omega), hcell 1 (by omega), hcell 2 (by omega)⟩
theorem Spots.mono {T : TypeId} {Wn : Nat} {zs : List Nat} {w : World} {B B' : Nat} {v : Value} {idx : List Nat} (h : Spots T Wn zs w B v idx) (hB : B' ≤ B) : Spots T Wn zs w B' v idx := by
  refine ⟨h.1, ?_⟩
  rcases h.2 with h' | ⟨g, c, cur, h1, h2, h3⟩
  · exact .inl h'
  · exact .inr ⟨g, c, cur, h1, Nat.le_trans hB h2, h3⟩
theorem Spots.isSlice {T : TypeId} {Wn : Nat} {zs : List Nat} {w : World} {B : Nat} {v : Value} {idx : List Nat} (h : Spots T Wn zs w B v idx) : ∃ a c, v = .slice a idx.length c := by
  rcases h.2 with ⟨e, h0⟩ | ⟨g, c, cur, e, _⟩
  · exact ⟨_, _, by rw [e, h0]⟩
  · exact ⟨_, _, e⟩
theorem cell1_new (w : World) (T : TypeId) (u0 : Value) (b : Nat) (hb : b = w.heap.size) (j : Nat) (u : Value) (hj : [u0][j]? = some u) : (w.alloc (.cells #[u0] T)).cell? ((⟨b, 0, none⟩ : Addr).add j) = some u := by
  subst hb
  have e : (⟨w.heap.size, 0, none⟩ : Addr).add j = ⟨w.heap.size, j, none⟩ := by cases j <;> simp [Addr.add]
  rw [e, cell_of_row _ w.heap.size j _ T (0, 0) (heap_alloc_new w _)]
  simpa using hj
theorem cells3_new (w : World) (T : TypeId) (u0 u1 u2 : Value) (b : Nat) (hb : b = w.heap.size) (j : Nat) (u : Value) (hj : [u0, u1, u2][j]? = some u) : (w.alloc (.cells #[u0, u1, u2] T)).cell? ((⟨b, 0, none⟩ : Addr).add j) = some u := by
  subst hb
  have e : (⟨w.heap.size, 0, none⟩ : Addr).add j = ⟨w.heap.size, j, none⟩ := by cases j <;> simp [Addr.add]
  rw [e, cell_of_row _ w.heap.size j _ T (0, 0) (heap_alloc_new w _)]
  simpa using hj
/-! ### halfDefs -/
/-- Nothing lies left of the window in a row. -/
theorem winL_left {Wn y : Nat} {l t r b : Int} (X : Nat) (hX : X ≤ Wn) (h : (X : Int) ≤ l) : winL Wn (y * Wn + X) l t r b = winL Wn (y * Wn) l t r b := by
  refine winL_skip _ _ (by omega) fun k h1 h2 => ?_
  obtain ⟨j, rfl⟩ : ∃ j, k = y * Wn + j := ⟨k - y * Wn, by omega⟩
  rw [winB_at rfl (by omega : j < Wn), decide_eq_false (by omega : ¬ l ≤ ((j : Nat) : Int))]
  simp
/-- Nothing lies above the window. -/
theorem winL_top {Wn Y : Nat} {l t r b : Int} (hW : 1 ≤ Wn) (h : (Y : Int) ≤ t) : winL Wn (Y * Wn) l t r b = [] := by
  have e := winL_skip (Wn := Wn) (l := l) (t := t) (r := r) (b := b) 0 (Y * Wn) (Nat.zero_le _) fun k _ h2 => by
    have h3 : k / Wn < Y := Nat.div_lt_of_lt_mul (by rw [Nat.mul_comm]; exact h2)
    unfold winB
    rw [decide_eq_false (by omega : ¬ t ≤ ((k / Wn : Nat) : Int))]
    simp
  rw [e]; rfl
/-- One row of a window that is two wide. -/
theorem win_two {Wn X y : Nat} {t b : Int} (hX : X < Wn) (ht : t ≤ (y : Int)) (hb : (y : Int) ≤ b) : winL Wn ((y + 1) * Wn) (X : Int) t ((X : Int) + 1) b = winL Wn (y * Wn) (X : Int) t ((X : Int) + 1) b ++ ([y * Wn + X] ++ if X + 1 < Wn then [y * Wn + X + 1] else []) := by
  have h1 : winL Wn (y * Wn + X + 1) (X : Int) t ((X : Int) + 1) b = winL Wn (y * Wn) (X : Int) t ((X : Int) + 1) b ++ [y * Wn + X] := by
    rw [winL_yes (by rw [winB_at rfl hX]; simp only [Bool.and_eq_true, decide_eq_true_eq]; omega), winL_left X (by omega) (Int.le_refl _)]
  by_cases h : X + 1 < Wn
  · rw [if_pos h]
    have h2 : winL Wn (y * Wn + (X + 1) + 1) (X : Int) t ((X : Int) + 1) b = winL Wn (y * Wn + (X + 1)) (X : Int) t ((X : Int) + 1) b ++ [y * Wn + (X + 1)] :=
      winL_yes (by rw [winB_at rfl h]; simp only [Bool.and_eq_true, decide_eq_true_eq]; omega)
    rw [winL_row (x := X + 1 + 1) (by omega) (.inr (by omega)), ← Nat.add_assoc, h2, ← Nat.add_assoc, h1, List.append_assoc]
  · rw [if_neg h, List.append_nil, ← h1]
    have e : X + 1 = Wn := by omega
    rw [Nat.succ_mul, Nat.add_assoc, e]
def candL (Wn Hn X Y : Nat) : Nat → List Nat
  | 0 => []
  | k + 1 => candL Wn Hn X Y k ++ if X + k % 2 < Wn ∧ Y + k / 2 < Hn then [(Y + k / 2) * Wn + (X + k % 2)] else []
theorem cand_win {Wn Hn X Y : Nat} (hX : X < Wn) (hY : Y < Hn) : candL Wn Hn X Y 4 = winL Wn (Wn * Hn) (X : Int) (Y : Int) ((X : Int) + 1) ((Y : Int) + 1) := by
  have hW : 1 ≤ Wn := by omega
  have r1 := win_two (t := (Y : Int)) (b := (Y : Int) + 1) hX (Int.le_refl (Y : Int)) (by omega)
  rw [winL_top hW (Int.le_refl _), List.nil_append] at r1
  have c : candL Wn Hn X Y 4 = ([Y * Wn + X] ++ if X + 1 < Wn then [Y * Wn + X + 1] else []) ++ (if Y + 1 < Hn then ([(Y + 1) * Wn + X] ++ if X + 1 < Wn then [(Y + 1) * Wn + X + 1] else []) else []) := by
    by_cases h1 : X + 1 < Wn <;> by_cases h2 : Y + 1 < Hn <;> simp [candL, h1, h2, hX, hY, Nat.add_assoc]
  rw [c, ← r1]
  by_cases h2 : Y + 1 < Hn
  · rw [if_pos h2]
    have r2 := win_two (y := Y + 1) (t := (Y : Int)) (b := (Y : Int) + 1) hX (by omega) (by omega)
    rw [← r2]
    have h3 : (Y + 1 + 1) * Wn ≤ Hn * Wn := Nat.mul_le_mul_right _ (by omega)
    have h4 := winL_rest (Wn := Wn) (x := 0) (y := Y + 1 + 1) (N := Wn * Hn) (l := (X : Int)) (t := (Y : Int)) (r := (X : Int) + 1) (b := (Y : Int) + 1) hW (by rw [Nat.mul_comm Wn Hn]; omega) (by omega)
    rw [h4]
    exact congrArg (fun n => winL Wn n (X : Int) (Y : Int) ((X : Int) + 1) ((Y : Int) + 1)) (Nat.add_zero _).symm
  · rw [if_neg h2, List.append_nil]
    have e : Hn = Y + 1 := by omega
    rw [e, Nat.mul_comm Wn (Y + 1)]
theorem candL_len (Wn Hn X Y : Nat) : ∀ k, (candL Wn Hn X Y k).length ≤ k
  | 0 => Nat.le_refl _
  | k + 1 => by
    have h := candL_len Wn Hn X Y k
    unfold candL
    rw [List.length_append]
    split <;> simp <;> omega
def halveF (zs : List Nat) (Wn Hn : Nat) (x y : Nat) : Nat := meanV zs (winL Wn (Wn * Hn) ((2 * x : Nat) : Int) ((2 * y : Nat) : Int) (((2 * x : Nat) : Int) + 1) (((2 * y : Nat) : Int) + 1))
def halfN (n : Int) : Int := (n + 1) / 2
def resHalve (W H : Int) (zs : List Nat) : PRes := if validB W H zs = true then giveP (halfN W) (halfN H) (makeL (halveF zs W.toNat H.toNat) (halfN W).toNat (halfN H).toNat) else PRes.no
/-! ### doubleDefs -/
def hv (n : Int) : Int := IntKind.i64.wrap ((IntKind.i64.wrap (n + 1)).tdiv 2)
theorem hv_eq {n : Int} (hn : (Lit.int .i64 n).wf = true) {m : Int} (h1 : 1 ≤ m) (h2 : m ≤ 16) : (hv n == m) = ((n + 1) / 2 == m) := by
  simp only [Lit.wf, IntKind.min, IntKind.max, IntKind.signed, IntKind.bits, Bool.and_eq_true, decide_eq_true_eq] at hn
  have hn : -9223372036854775808 ≤ n ∧ n ≤ 9223372036854775807 := by simpa using hn
  unfold hv
  by_cases hmax : n = 9223372036854775807
  · subst hmax
    have e : IntKind.i64.wrap (9223372036854775807 + 1) = -9223372036854775808 := by decide +kernel
    rw [e]
    have e2 : IntKind.i64.wrap (Int.tdiv (-9223372036854775808) 2) = -4611686018427387904 := by decide +kernel
    rw [e2, Bool.eq_iff_iff]
    simp only [beq_iff_eq]
    omega
  · have e : IntKind.i64.wrap (n + 1) = n + 1 := IntWalk.i64_in _ (by omega)
    rw [e]
    by_cases hp : 0 ≤ n + 1
    · rw [Int.tdiv_eq_ediv_of_nonneg hp, IntWalk.i64_in _ (by omega)]
    · have e3 : (n + 1).tdiv 2 = -((-(n + 1)) / 2) := by
        rw [← Int.tdiv_eq_ediv_of_nonneg (by omega : 0 ≤ -(n + 1)), Int.neg_tdiv, Int.neg_neg]
      rw [e3, IntWalk.i64_in _ (by omega), Bool.eq_iff_iff]
      simp only [beq_iff_eq]
      omega
def doubleF (zs : List Nat) (Wn : Nat) (x y : Nat) : Nat := fat zs (y / 2 * Wn + x / 2)
def fitB (WA HA w h : Int) : Bool := (w + 1) / 2 == WA && (h + 1) / 2 == HA
def resDouble (WA HA : Int) (zA : List Nat) (w h : Int) : PRes := if (validB WA HA zA && (sideB w h && fitB WA HA w h)) = true then ⟨w, h, makeL (doubleF zA WA.toNat) w.toNat h.toNat, true⟩ else PRes.no
theorem fit_nats {WA HA w h : Int} (hs : sideB w h = true) (hf : fitB WA HA w h = true) : ∃ wn hn : Nat, w = wn ∧ h = hn ∧ 1 ≤ wn ∧ wn ≤ 16 ∧ 1 ≤ hn ∧ hn ≤ 16 ∧ WA = (((wn + 1) / 2 : Nat) : Int) ∧ HA = (((hn + 1) / 2 : Nat) : Int) := by
  obtain ⟨⟨s1, s2⟩, s3, s4⟩ := sideB_true hs
  unfold fitB at hf
  simp only [Bool.and_eq_true, beq_iff_eq] at hf
  exact ⟨w.toNat, h.toNat, by omega, by omega, by omega, by omega, by omega, by omega, by omega, by omega⟩
theorem double_idx {wn hn Wn Hn x y : Nat} (hW : Wn = (wn + 1) / 2) (hH : Hn = (hn + 1) / 2) (hx : x < wn) (hy : y < hn) : x / 2 < Wn ∧ y / 2 < Hn ∧ y / 2 * Wn + x / 2 < Wn * Hn := by
  have h1 : x / 2 < Wn := by omega
  have h2 : y / 2 < Hn := by omega
  refine ⟨h1, h2, ?_⟩
  have h3 : (y / 2 + 1) * Wn ≤ Hn * Wn := Nat.mul_le_mul_right _ (by omega)
  rw [Nat.succ_mul, Nat.mul_comm Hn Wn] at h3
  omega
theorem double_mem {zA : List Nat} {wn hn Wn Hn : Nat} (hW : Wn = (wn + 1) / 2) (hH : Hn = (hn + 1) / 2) (hl : zA.length = Wn * Hn) (h1 : 1 ≤ wn) : ∀ y ∈ makeL (doubleF zA Wn) wn hn, y ∈ zA := by
  intro y h
  unfold makeL at h
  obtain ⟨i, hi, rfl⟩ := List.mem_map.1 h
  have hi := List.mem_range.1 hi
  obtain ⟨_, _, h3⟩ := double_idx (x := i % wn) (y := i / wn) hW hH (Nat.mod_lt _ (by omega)) (Nat.div_lt_of_lt_mul hi)
  exact fat_mem (by rw [hl]; exact h3)
theorem double_valid {zA : List Nat} {wn hn Wn Hn : Nat} (hW : Wn = (wn + 1) / 2) (hH : Hn = (hn + 1) / 2) (hl : zA.length = Wn * Hn) (h1 : 1 ≤ wn) (h2 : wn ≤ 16) (h3 : 1 ≤ hn) (h4 : hn ≤ 16) (hf : zA.all (finB .f32) = true) : validB (wn : Int) (hn : Int) (makeL (doubleF zA Wn) wn hn) = true := by
  have hfin : (makeL (doubleF zA Wn) wn hn).all (finB .f32) = true := by
    rw [List.all_eq_true] at hf ⊢
    exact fun y h => hf _ (double_mem hW hH hl h1 y h)
  simp only [validB, finL, sideB, Bool.and_eq_true, decide_eq_true_eq]
  exact ⟨⟨⟨⟨by omega, by omega⟩, by omega, by omega⟩, by rw [makeL_len, Int.natCast_mul]⟩, hfin⟩
/-! ### l00MinMax -/
theorem c_l00Min (x y : Int) (w : World) (j : Nat) : Calls Try.prog 130 #[.int .i64 x, .int .i64 y] (w.drewN j) (RetV (.int .i64 (minI x y)) w) := by
  unfold minI
  by_cases h : x < y
  · rw [if_pos h]
    go_enter Try.func130, Try.ntmps130
    go_wp2
    go_ret
    exact ⟨_, rfl, rfl⟩
  · rw [if_neg h]
    go_enter Try.func130, Try.ntmps130
    go_wp2
    go_ret
    exact ⟨_, rfl, rfl⟩
theorem c_l00Max (x y : Int) (w : World) (j : Nat) : Calls Try.prog 129 #[.int .i64 x, .int .i64 y] (w.drewN j) (RetV (.int .i64 (maxI x y)) w) := by
  unfold maxI
  by_cases h : y < x
  · rw [if_pos h]
    go_enter Try.func129, Try.ntmps129
    go_wp2
    go_ret
    exact ⟨_, rfl, rfl⟩
  · rw [if_neg h]
    go_enter Try.func129, Try.ntmps129
    go_wp2
    go_ret
    exact ⟨_, rfl, rfl⟩
/-! ### l02At -/
theorem c_l02At (Wn Hn : Nat) (x : Nat) (a : Option Addr) (cap : Nat) (zs : List Nat) (i j : Int) (cx cy : Nat) (w : World) (hv : Var w x #[.int .i64 (Wn : Int), .int .i64 (Hn : Int), .slice a zs.length cap]) (hr : IsRowF .f32 w a zs.length cap zs)
    (hW1 : 1 ≤ Wn) (hW2 : Wn ≤ 16) (hH1 : 1 ≤ Hn) (hH2 : Hn ≤ 16) (hl : zs.length = Wn * Hn) (hcx : maxI 0 (minI ((Wn : Int) - 1) i) = (cx : Int)) (hcx2 : cx < Wn) (hcy : maxI 0 (minI ((Hn : Int) - 1) j) = (cy : Int)) (hcy2 : cy < Hn) :
    Calls Try.prog 119 #[.pointer (some ⟨x, 0, none⟩), .int .i64 i, .int .i64 j] w (RetF .f32 (fat zs (cy * Wn + cx)) w) := by
  obtain ⟨hb1, hb2⟩ := mul_bound hcy2 hW2 hH2
  have hm := congrArg (fun n : Nat => (n : Int)) (rfl : cy * Wn = cy * Wn)
  obtain ⟨N, hN⟩ : ∃ N, N = zs.length := ⟨_, rfl⟩
  have hP0 : ∃ P : Nat, P = cy * Wn := ⟨_, rfl⟩
  obtain ⟨P, hP⟩ := hP0
  have hPi : (cy : Int) * (Wn : Int) = (P : Int) := by rw [hP, Int.natCast_mul]
  rw [← hP] at hb1 hb2 ⊢
  rw [← hl, ← hN] at hb1
  rw [← hN] at hv hr
  have hlt : P + cx < N := by omega
  have mw1 : IntKind.i64.wrap ((cy : Int) * (Wn : Int)) = (P : Int) := by rw [hPi]; exact IntWalk.i64_in _ (by omega)
  have mw2 : IntKind.i64.wrap ((P : Int) + (cx : Int)) = (P : Int) + (cx : Int) := IntWalk.i64_in _ (by omega)
  have t1 : ((P : Int) + (cx : Int)).toNat = P + cx := by omega
  have t2 : (0 : Int) ≤ (P : Int) + (cx : Int) := by omega
  have t3 : (P : Int) + (cx : Int) < (N : Int) := by omega
  have CX := Lib.hid (fun n => (by have h := c_l00Max 0 (minI ((Wn : Int) - 1) i) w n; rwa [hcx] at h : Calls Try.prog 129 #[.int .i64 0, .int .i64 (minI ((Wn : Int) - 1) i)] (w.drewN n) (RetV (.int .i64 (cx : Int)) w)))
  have CY := Lib.hid (fun n => (by have h := c_l00Max 0 (minI ((Hn : Int) - 1) j) w n; rwa [hcy] at h : Calls Try.prog 129 #[.int .i64 0, .int .i64 (minI ((Hn : Int) - 1) j)] (w.drewN n) (RetV (.int .i64 (cy : Int)) w)))
  obtain ⟨b, off, n0, rfl, hb, e0⟩ := hr.at hlt
  obtain ⟨v0, v1, v2⟩ := hv.three
  have M1 := Lib.hid mw1
  have M2 := Lib.hid mw2
  have T1 := Lib.hid t1
  have T2 := Lib.hid t2
  have T3 := Lib.hid t3
  clear hcx hcy hm hN hP hPi hl hr hb hb1 hb2 mw1 mw2 t1 t2 t3 hv
  rw [← w.drewN_zero]
  go_enter Try.func119, Try.ntmps119
  go_wp2_with (first | (go_at_call 130; refine (c_l00Min _ _ _ _).mono ?_; rintro _ _ ⟨_, rfl, rfl⟩) | (go_at_call 129; first | ((with_reducible refine (CX.out _).mono ?_); rintro _ _ ⟨_, rfl, rfl⟩) | ((with_reducible refine (CY.out _).mono ?_); rintro _ _ ⟨_, rfl, rfl⟩)))
  have mw1 := M1.out
  have mw2 := M2.out
  have t1 := T1.out
  have t2 := T2.out
  have t3 := T3.out
  refine wp_region_N (fun _ _ _ => True) (by kernel_rfl) (by kernel_rfl) ?_; (repeat (first | ((with_reducible show wpN _ _ _ _ _ (Oper.mk _ (Op.binOp _ _ _ _ _) _ _ _ none :: _) _); refine wpN_fop rfl _ _ _ _ _ rfl _ _ _ rfl rfl (by decide) ?_; intro _) | ((with_reducible show wpN _ _ _ _ _ (Oper.mk _ (Op.convert _ _ _) _ _ _ none :: _) _); refine wpN_cvU rfl 32 36 _ rfl (Option.isSome_iff_exists.2 ⟨_, Try.underlying32⟩) Try.underlying36 _ rfl ?_; intro _) | ((with_reducible show wpN _ _ _ _ _ (Oper.mk _ _ _ _ _ (some _) :: _) _); (with_reducible refine wpN_off ?_ ?_); focus rfl; (simp only [Act.put, List.setIfInBounds_toArray, List.set_cons_zero, List.set_cons_succ])) | ((with_reducible show wpN _ _ _ _ _ (Oper.mk _ _ _ _ _ (some _) :: _) _); ((with_reducible refine wpN_on ?_ (fun K hK => ?_)); (focus rfl); intro _; go_simp; first | (refine uponN_value (hK _ ?_)) | (fail; refine hK _ ?_)); clear hK K) | (((with_reducible refine wpN_plain rfl (fun K hK => ?_)); intro _; go_simp; first | (refine uponN_value (hK _ ?_)) | (fail; refine hK _ ?_)); clear hK K) | ((with_reducible refine wpN_step (fun K hK => ?_)); go_simp; first | (refine hK _ ?_) | (intro _; first | (refine uponN_value (hK _ ?_)) | (fail; refine hK _ ?_)); clear hK K))); refine wpN_nil ?_; intro _
  clear mw1 mw2 t1 t2 t3
  go_wp2_with fail
  go_ret
  exact ⟨_, _, rfl, rfl⟩
/-! ### l02Blank -/
theorem c_l02Blank (W H : Int) (w : World) : Calls Try.prog 69 #[.int .i64 W, .int .i64 H] w (fun e w' => ∃ g, e = .returned (.agg #[.int .i64 W, .int .i64 H, .slice (some ⟨g, 0, none⟩) 0 0]) ∧ Below w.heap.size w w' ∧ Own 32 w' w.heap.size (some ⟨g, 0, none⟩) 0 0 []) := by
  go_enter Try.func69, Try.ntmps69
  go_wp2
  refine bodyPost_ret (v := .agg #[.int .i64 W, .int .i64 H, .slice (some ⟨w.heap.size + 1, 0, none⟩) 0 0]) (by simp [results, Try.results69, go_sem]) rfl ⟨w.heap.size + 1, rfl, ?_, ?_⟩
  · exact ((Below.refl _ _).alloc (Nat.le_refl _) _).alloc (by simp) _
  · refine ⟨rfl, ⟨rfl, .inr ⟨w.heap.size + 1, 0, #[], rfl, by omega, ?_, Nat.le_refl _, Nat.zero_le _, rfl, rfl⟩⟩, by simp⟩
    have h := heap_alloc_new (w.alloc (Obj.cells #[Value.int IntKind.i64 W, Value.int IntKind.i64 H, Value.slice (some ⟨w.heap.size + 1, 0, none⟩) 0 0] 41)) (Obj.cells #[] 32)
    simpa using h
/-! ### l00In -/
theorem c_l00In (x lo hi : Int) (w : World) (j : Nat) : Calls Try.prog 123 #[.int .i64 x, .int .i64 lo, .int .i64 hi] (w.drewN j) (RetV (.bool (decide (lo ≤ x) && decide (x ≤ hi))) w) := by
  by_cases h1 : lo ≤ x
  · by_cases h2 : x ≤ hi
    · have d1 : decide (lo ≤ x) = true := decide_eq_true h1
      have d2 : decide (x ≤ hi) = true := decide_eq_true h2
      go_enter Try.func123, Try.ntmps123
      go_wp2
      go_ret
      exact ⟨_, by simp [*], rfl⟩
    · have d1 : decide (lo ≤ x) = true := decide_eq_true h1
      have d2 : decide (x ≤ hi) = false := decide_eq_false h2
      go_enter Try.func123, Try.ntmps123
      go_wp2
      go_ret
      exact ⟨_, by simp [*], rfl⟩
  · have d1 : decide (lo ≤ x) = false := decide_eq_false h1
    go_enter Try.func123, Try.ntmps123
    go_wp2
    go_ret
    exact ⟨_, by simp [*], rfl⟩
/-! ### l02Sides -/
theorem c_l02Sides (W H : Int) (w : World) (j : Nat) : Calls Try.prog 105 #[.int .i64 W, .int .i64 H] (w.drewN j) (RetV (.bool (sideB W H)) w) := by
  unfold sideB
  cases hw : (decide (1 ≤ W) && decide (W ≤ 16))
  all_goals
    have HW := Lib.hid hw
    go_enter Try.func105, Try.ntmps105
    go_wp2_with (go_at_call 123; refine (c_l00In _ _ _ _ _).mono ?_; rintro _ _ ⟨_, rfl, rfl⟩)
    go_ret
    exact ⟨_, by simp [HW.out], rfl⟩
/-! ### infoF2 -/
theorem infoF2 : (Try.prog.info? 32).map (fun i => (i.zero, i.size, i.bytes)) = some (some (.float .f32 0), 1, 4) := by kernel_rfl
/-! ### cropDefs0 -/
theorem IsRowF.appE {T : TypeId} {w w' : World} {row : Option Nat} {k F : Nat} {a : Option Addr} {len cap : Nat} {zs : List Nat} (h : IsRowF .f32 w a len cap zs) (hE : AppE T row k F w w') (hne : ∀ b off, a = some ⟨b, off, none⟩ → row ≠ some b) : IsRowF .f32 w' a len cap zs := by
  obtain ⟨h1, h2, h3, h4, h5⟩ := h
  refine ⟨h1, h2, h3, h4, ?_⟩
  rcases h5 with h5 | ⟨b, off, e, hb, hc⟩
  · exact .inl h5
  · exact .inr ⟨b, off, e, Nat.lt_of_lt_of_le hb hE.1.size, fun i hi => hE.cell (hc i hi) (hne b off e)⟩
theorem row_lt {w : World} {a : Option Addr} {len cap : Nat} {zs : List Nat} (h : IsRowF .f32 w a len cap zs) (h1 : 1 ≤ len) {b off : Nat} (e : a = some ⟨b, off, none⟩) : b < w.heap.size := by
  rcases h.2.2.2.2 with h' | ⟨b', off', e', hb', _⟩
  · omega
  · rw [e] at e'; cases e'; exact hb'
/-! ### l04Double -/
theorem c_l02SidesD (W H : Int) (w : World) : Calls Try.prog 105 #[.int .i64 W, .int .i64 H] w (RetV (.bool (sideB W H)) w) := by
  have h := c_l02Sides W H w 0
  rwa [w.drewN_zero] at h
theorem c_l02AtD (Wn Hn : Nat) (x : Nat) (a : Option Addr) (cap : Nat) (zs : List Nat) (i j : Int) (cx cy : Nat) (w : World) (hv : Var w x #[.int .i64 (Wn : Int), .int .i64 (Hn : Int), .slice a zs.length cap]) (hr : IsRowF .f32 w a zs.length cap zs)
    (hW1 : 1 ≤ Wn) (hW2 : Wn ≤ 16) (hH1 : 1 ≤ Hn) (hH2 : Hn ≤ 16) (hl : zs.length = Wn * Hn) (V : Nat) (hV : V = fat zs (cy * Wn + cx)) (hcx : maxI 0 (minI ((Wn : Int) - 1) i) = (cx : Int)) (hcx2 : cx < Wn) (hcy : maxI 0 (minI ((Hn : Int) - 1) j) = (cy : Int)) (hcy2 : cy < Hn) :
    Calls Try.prog 119 #[.pointer (some ⟨x, 0, none⟩), .int .i64 i, .int .i64 j] w (RetF .f32 V w) := by
  subst hV
  exact c_l02At Wn Hn x a cap zs i j cx cy w hv hr hW1 hW2 hH1 hH2 hl hcx hcx2 hcy hcy2
theorem c_l04Double_yes (WA HA : Int) (xp : Nat) (aA : Option Addr) (cA : Nat) (zA : List Nat) (wd hg : Int) (w : World) (hv : Var w xp #[.int .i64 WA, .int .i64 HA, .slice aA zA.length cA]) (rA : IsRowF .f32 w aA zA.length cA zA) (hsd : sideB wd hg = true) (hfit : fitB WA HA wd hg = true) (hl : zA.length = WA.toNat * HA.toNat) (hfin : zA.all (finB .f32) = true) :
    Calls Try.prog 97 #[.pointer (some ⟨xp, 0, none⟩), .int .i64 wd, .int .i64 hg] w (RetP 32 ⟨wd, hg, makeL (doubleF zA WA.toNat) wd.toNat hg.toNat, true⟩ w) := by
  obtain ⟨wn, hn, rfl, rfl, i1, i2, i3, i4, rfl, rfl⟩ := fit_nats hsd hfit
  rw [Int.toNat_natCast, Int.toNat_natCast, Int.toNat_natCast]
  obtain ⟨Wn, hWn⟩ : ∃ x, x = (wn + 1) / 2 := ⟨_, rfl⟩
  obtain ⟨Hn, hHn⟩ : ∃ x, x = (hn + 1) / 2 := ⟨_, rfl⟩
  rw [← hWn, ← hHn] at hv
  rw [← hWn]
  rw [Int.toNat_natCast, Int.toNat_natCast, ← hWn, ← hHn] at hl
  obtain ⟨N, hNN⟩ : ∃ N, N = wn * hn := ⟨_, rfl⟩
  have hN2 : N ≤ 256 := by rw [hNN]; exact Nat.le_trans (Nat.mul_le_mul i2 i4) (by decide)
  have mw : IntKind.i64.wrap ((wn : Int) * (hn : Int)) = (N : Int) := by rw [hNN]; rw [show ((wn : Int) * (hn : Int)) = ((wn * hn : Nat) : Int) by rw [Int.natCast_mul]]; exact IntWalk.i64_in _ (by omega)
  have HDx := Lib.hid (fun (k : Nat) (hk : k < N) => double_idx (x := k % wn) (y := k / wn) hWn hHn (Nat.mod_lt _ (by omega)) (Nat.div_lt_of_lt_mul (by rw [← hNN]; exact hk)))
  have HDm := Lib.hid (fun (k : Nat) (hk : k < N) => (⟨Nat.mod_lt _ (by omega), Nat.div_lt_of_lt_mul (by rw [← hNN]; exact hk)⟩ : k % wn < wn ∧ k / wn < hn))
  obtain ⟨L, hL⟩ : ∃ L, L = makeL (doubleF zA Wn) wn hn := ⟨_, rfl⟩
  have HAt := Lib.hid (fun (k : Nat) (hk : k < N) => (by rw [hL]; rw [hNN] at hk; simp only [fat, makeL, List.getD, List.getElem?_map, List.getElem?_range hk]; rfl : fat L k = doubleF zA Wn (k % wn) (k / wn)))
  have HLn := Lib.hid (show L.length = N by rw [hL, makeL_len, hNN])
  have RAw := rA.2.2.2.1
  have HLT := Lib.hid (fun (k : Nat) (hk : k < N) => (by unfold doubleF; exact lt_of_wf (RAw _ (fat_mem (by rw [hl]; exact (HDx.out k hk).2.2))) : doubleF zA Wn (k % wn) (k / wn) < 2 ^ FloatKind.f32.format.width))
  have HFi := Lib.hid (show L.all (finB .f32) = true by rw [hL]; exact (valid_fin (double_valid hWn hHn hl i1 i2 i3 i4 hfin)))
  rw [← hL]
  have w1' : IntKind.i64.wrap ((wn : Int) + 1) = (wn : Int) + 1 := IntWalk.i64_in _ (by omega)
  have w2 : IntKind.i64.wrap ((hn : Int) + 1) = (hn : Int) + 1 := IntWalk.i64_in _ (by omega)
  have w3 : ((wn : Int) + 1).tdiv 2 = (Wn : Int) := by rw [Int.tdiv_eq_ediv_of_nonneg (by omega)]; omega
  have w4 : ((hn : Int) + 1).tdiv 2 = (Hn : Int) := by rw [Int.tdiv_eq_ediv_of_nonneg (by omega)]; omega
  have w5 : IntKind.i64.wrap (Wn : Int) = (Wn : Int) := IntWalk.i64_in _ (by omega)
  have w6 : IntKind.i64.wrap (Hn : Int) = (Hn : Int) := IntWalk.i64_in _ (by omega)
  have HSd := Lib.hid hsd
  have HLL := Lib.hid hl
  have Va_0 := Lib.hid hv
  have za_0 : xp < w.heap.size := hv.lt
  have hxp : xp < w.heap.size := hv.lt
  have hpos : 1 ≤ zA.length := by rw [hl]; exact Nat.mul_pos (by omega) (by omega)
  have hW1 : 1 ≤ Wn := by omega
  have hW2 : Wn ≤ 16 := by omega
  have hH1 : 1 ≤ Hn := by omega
  have hH2 : Hn ≤ 16 := by omega
  have RA := Lib.hid rA
  have hwz : ¬ (wn = 0) := by omega
  clear hL hNN hWn hHn hl rA hsd hv RAw hfin hfit
  go_enter Try.func97, Try.ntmps97
  go_wp2_with fail
  refine ((c_l02SidesD _ _ _).mono (fun _ _ h => RetV.toB h)).mono ?_
  rintro _ w1 ⟨rfl, b⟩
  rw [HSd.out]
  have Va_1 := Lib.hid ((Va_0.out.alloc _).keep b)
  have Vr_1 := Lib.hid ((Var.new' _ _ _ (w.heap.size) (by first | rfl | simp)).keep b)
  have Fr_1 := Lib.hid ((Free.new' _ _ _ (w.heap.size) (by first | rfl | simp)).below (by simp <;> omega) b)
  have B_1 := Lib.hid (((Below.refl w.heap.size w).alloc (Nat.le_refl _) _).trans (b.mono (by simp)))
  have S_1 : w.heap.size + 1 ≤ w1.heap.size := by have := b.size; simp at this; omega
  have za_1 : xp < w1.heap.size := by omega
  have zr_1 : w.heap.size < w1.heap.size := by omega
  clear b
  clear Va_0 za_0
  obtain ⟨ca0, ca1, ca2⟩ := Va_1.out.three
  go_wp2_with fail
  clear ca0 ca1 ca2
  refine (c_l02Blank _ _ _).mono ?_
  rintro _ w2 ⟨gu, rfl, b, o⟩
  have BU := Lib.hid b
  have Lu := Lib.hid o.in
  have Ou_2 := Lib.hid o
  clear o
  have Va_2 := Lib.hid (Va_1.out.keep b)
  have Vr_2 := Lib.hid (Vr_1.out.keep b)
  have Fr_2 := Lib.hid (Fr_1.out.below (by first | omega | (simp <;> omega)) b)
  have B_2 := Lib.hid (B_1.out.trans (b.mono (by omega)))
  have S_2 : w1.heap.size + 0 ≤ w2.heap.size := by have := b.size; omega
  have za_2 : xp < w2.heap.size := by omega
  have zr_2 : w.heap.size < w2.heap.size := by omega
  clear b
  clear Va_1 za_1 Vr_1 zr_1 Fr_1 B_1
  go_wp2_with fail
  have hgo : w1.heap.size ≤ gu ∧ gu < w2.heap.size := Lu.out gu rfl
  go_loopw [9] (fun i wr => ∃ (k : Nat) (a : Option Addr) (c : Nat) (zs : List Nat), k ≤ N ∧ i = .int .i64 k ∧ Var wr w2.heap.size #[.int .i64 (wn : Int), .int .i64 (hn : Int), .slice a k c] ∧ Own 32 wr w1.heap.size a k c zs ∧ near zs ((L).take k) ∧ Below w1.heap.size w2 wr ∧ Free wr w2.heap.size ∧ blk a ≠ some w2.heap.size ∧ w2.heap.size < wr.heap.size) (fun i _ => N - (intOf i).toNat)
  case atStart => exact ⟨0, _, 0, [], Nat.zero_le _, rfl, Var.new _ _ _, Ou_2.out.alloc _, by simpa using near_nil, (Below.refl _ _).alloc (by omega) _, Free.new _ _ _, (by simp [blk]; omega), by simp⟩
  case round =>
    obtain ⟨k, a, c, zs, hk, rfl, hV, hO, hnear, hBl, hfree, hne, hsz⟩ := hrel
    have HV := Lib.hid hV
    have HO := Lib.hid hO
    have HN := Lib.hid hnear
    have HB := Lib.hid hBl
    have HF := Lib.hid hfree
    have HNe := Lib.hid hne
    clear hV hO hnear hBl hfree hne
    have Xa := Lib.hid (Va_2.out.below HB.out (by omega))
    obtain ⟨ca0, ca1, ca2⟩ := Xa.out.three
    obtain ⟨co0, co1, co2⟩ := HV.out.three
    have BW := Lib.hid (B_2.out.trans (HB.out.mono (by omega)))
    by_cases hlt : k < N
    · have hrow : ∀ b, b < w1.heap.size ∨ b = w2.heap.size → rowOf a k c ≠ some b := by
        intro b hb e
        have h1 := rowOf_in HO.out b e
        rcases hb with hb | hb
        · omega
        · subst hb; unfold rowOf at e; split at e
          · exact HNe.out e
          · cases e
      obtain ⟨kx, hkx⟩ : ∃ x, x = k % wn := ⟨_, rfl⟩
      obtain ⟨ky, hky⟩ : ∃ x, x = k / wn := ⟨_, rfl⟩
      obtain ⟨kx2, hkx2⟩ : ∃ x, x = k % wn / 2 := ⟨_, rfl⟩
      obtain ⟨ky2, hky2⟩ : ∃ x, x = k / wn / 2 := ⟨_, rfl⟩
      have g1 : (k : Int).tmod (wn : Int) = (kx : Int) := by rw [hkx, Int.tmod_eq_emod_of_nonneg (by omega), Int.natCast_emod]
      have g2 : (k : Int) / (wn : Int) = (ky : Int) := by rw [hky, Int.natCast_ediv]
      have q1 : kx2 < Wn := by rw [hkx2]; exact (HDx.out k hlt).1
      have q2 : ky2 < Hn := by rw [hky2]; exact (HDx.out k hlt).2.1
      have q3 := (HDm.out k hlt).1
      have q4 := (HDm.out k hlt).2
      have g3 : (kx : Int).tdiv 2 = (kx2 : Int) := by rw [Int.tdiv_eq_ediv_of_nonneg (by omega), hkx2, hkx, Int.natCast_ediv]; rfl
      have g4 : (ky : Int).tdiv 2 = (ky2 : Int) := by rw [Int.tdiv_eq_ediv_of_nonneg (by omega), hky2, hky, Int.natCast_ediv]; rfl
      have g5 : (kx : Int) / 2 = (kx2 : Int) := by rw [hkx2, hkx, Int.natCast_ediv]; rfl
      have g6 : (ky : Int) / 2 = (ky2 : Int) := by rw [hky2, hky, Int.natCast_ediv]; rfl
      have g7 : IntKind.i64.wrap (kx2 : Int) = (kx2 : Int) := IntWalk.i64_in _ (by omega)
      have g8 : IntKind.i64.wrap (ky2 : Int) = (ky2 : Int) := IntWalk.i64_in _ (by omega)
      have g9 : IntKind.i64.wrap (ky : Int) = (ky : Int) := IntWalk.i64_in _ (by rw [hky]; omega)
      have HC1 := Lib.hid (show maxI 0 (minI ((Wn : Int) - 1) (kx2 : Int)) = ((k % wn / 2 : Nat) : Int) by rw [← hkx2]; exact clamp_is q1)
      have HC2 := Lib.hid (show maxI 0 (minI ((Hn : Int) - 1) (ky2 : Int)) = ((k / wn / 2 : Nat) : Int) by rw [← hky2]; exact clamp_is q2)
      have RQ := Lib.hid (RA.out.below BW.out)
      have HRQ := Lib.hid (fun b off (e : aA = some ⟨b, off, none⟩) => hrow b (.inl (by have := row_lt RA.out hpos e; omega)))
      clear hkx hky hkx2 hky2 q3 q4
      have KS := Lib.hid (fun (w' : World) (hE : AppE 32 (rowOf a k c) k (doubleF zA Wn (k % wn) (k / wn)) wr w') => (⟨hE.cell ca0 (hrow _ (by omega)), hE.cell ca1 (hrow _ (by omega)), hE.cell ca2 (hrow _ (by omega)), hE.cell co0 (hrow _ (by omega)), hE.cell co1 (hrow _ (by omega)), hE.cell co2 (hrow _ (by omega))⟩ : _ ∧ _ ∧ _ ∧ _ ∧ _ ∧ _))
      have HRow := Lib.hid hrow
      clear hrow co0 co1 co2
      go_wp2_with fail
      clear ca0 ca1 ca2
      refine wp_region_facts 15 (AppE 32 (rowOf a k c) k (doubleF zA Wn (k % wn) (k / wn))) AppE.refl AppE.trans (AppE.drew _) (by kernel_rfl) (by kernel_rfl) (by kernel_rfl) (by kernel_rfl) ?_
      simp only [List.take_succ_cons, List.take_zero, List.drop_succ_cons, List.drop_zero]
      (with_reducible apply wpF_val); (focus (intro vs w' hE hk; (obtain ⟨dca0, dca1, dca2, dco0, dco1, dco2⟩ := KS.out w' hE); go_simp; exact ⟨AppE.refl _, rfl⟩)); (simp only [Act.put, List.setIfInBounds_toArray, List.set_cons_zero, List.set_cons_succ, List.cons_append, List.nil_append])
      (with_reducible apply wpF_val); (focus (intro vs w' hE hk; (obtain ⟨dca0, dca1, dca2, dco0, dco1, dco2⟩ := KS.out w' hE); go_simp; exact ⟨AppE.refl _, rfl⟩)); (simp only [Act.put, List.setIfInBounds_toArray, List.set_cons_zero, List.set_cons_succ, List.cons_append, List.nil_append])
      (with_reducible apply wpF_val); (focus (intro vs w' hE hk; (obtain ⟨dca0, dca1, dca2, dco0, dco1, dco2⟩ := KS.out w' hE); go_simp; exact ⟨AppE.refl _, rfl⟩)); (simp only [Act.put, List.setIfInBounds_toArray, List.set_cons_zero, List.set_cons_succ, List.cons_append, List.nil_append])
      (with_reducible apply wpF_val); (focus (intro vs w' hE hk; (obtain ⟨dca0, dca1, dca2, dco0, dco1, dco2⟩ := KS.out w' hE); go_simp; exact ⟨AppE.refl _, rfl⟩)); (simp only [Act.put, List.setIfInBounds_toArray, List.set_cons_zero, List.set_cons_succ, List.cons_append, List.nil_append])
      (with_reducible apply wpF_val); (focus (intro vs w' hE hk; (obtain ⟨dca0, dca1, dca2, dco0, dco1, dco2⟩ := KS.out w' hE); go_simp; exact ⟨AppE.refl _, rfl⟩)); (simp only [Act.put, List.setIfInBounds_toArray, List.set_cons_zero, List.set_cons_succ, List.cons_append, List.nil_append])
      (with_reducible apply wpF_val); (focus (intro vs w' hE hk; (obtain ⟨dca0, dca1, dca2, dco0, dco1, dco2⟩ := KS.out w' hE); go_simp; exact ⟨AppE.refl _, rfl⟩)); (simp only [Act.put, List.setIfInBounds_toArray, List.set_cons_zero, List.set_cons_succ, List.cons_append, List.nil_append])
      (with_reducible apply wpF_val); (focus (intro vs w' hE hk; (obtain ⟨dca0, dca1, dca2, dco0, dco1, dco2⟩ := KS.out w' hE); go_simp; exact ⟨AppE.refl _, rfl⟩)); (simp only [Act.put, List.setIfInBounds_toArray, List.set_cons_zero, List.set_cons_succ, List.cons_append, List.nil_append])
      (with_reducible apply wpF_val); (focus (intro vs w' hE hk; (obtain ⟨dca0, dca1, dca2, dco0, dco1, dco2⟩ := KS.out w' hE); go_simp; exact ⟨AppE.refl _, rfl⟩)); (simp only [Act.put, List.setIfInBounds_toArray, List.set_cons_zero, List.set_cons_succ, List.cons_append, List.nil_append])
      (with_reducible apply wpF_val); (focus (intro vs w' hE hk; (obtain ⟨dca0, dca1, dca2, dco0, dco1, dco2⟩ := KS.out w' hE); go_simp; exact ⟨AppE.refl _, rfl⟩)); (simp only [Act.put, List.setIfInBounds_toArray, List.set_cons_zero, List.set_cons_succ, List.cons_append, List.nil_append])
      (with_reducible apply wpF_val); (focus (intro vs w' hE hk; (obtain ⟨dca0, dca1, dca2, dco0, dco1, dco2⟩ := KS.out w' hE); go_simp; exact ⟨AppE.refl _, rfl⟩)); (simp only [Act.put, List.setIfInBounds_toArray, List.set_cons_zero, List.set_cons_succ, List.cons_append, List.nil_append])
      (with_reducible apply wpF_val); (focus (intro vs w' hE hk; (obtain ⟨dca0, dca1, dca2, dco0, dco1, dco2⟩ := KS.out w' hE); go_simp; exact ⟨AppE.refl _, rfl⟩)); (simp only [Act.put, List.setIfInBounds_toArray, List.set_cons_zero, List.set_cons_succ, List.cons_append, List.nil_append])
      refine wpF_fact (fun u _ => ∃ m, u = .float .f32 (pick .f32 (doubleF zA Wn (k % wn) (k / wn)) m)) (fun _ _ _ h _ => h) (fun vs w' hE hk => ?_) ?_; (focus ((obtain ⟨dca0, dca1, dca2, dco0, dco1, dco2⟩ := KS.out w' hE); go_simp; refine (c_l02AtD Wn Hn _ aA cA zA _ _ (k % wn / 2) (k / wn / 2) _ (hE.keepV Xa.out (HRow.out _ (by omega))) (IsRowF.appE RQ.out hE HRQ.out) hW1 hW2 hH1 hH2 HLL.out (doubleF zA Wn (k % wn) (k / wn)) rfl HC1.out (HDx.out k hlt).1 HC2.out (HDx.out k hlt).2.1).mono ?_; rintro _ _ ⟨m1, m2, rfl, rfl⟩; exact ⟨_, rfl, AppE.drewN _ _, m1, rfl⟩)); (simp only [Act.put, List.setIfInBounds_toArray, List.set_cons_zero, List.set_cons_succ, List.cons_append, List.nil_append])
      refine wpF_fact (Boxd 32 (rowOf a k c) (doubleF zA Wn (k % wn) (k / wn))) Boxd.keep (fun vs w' hE hk => ?_) ?_
      · obtain ⟨n1, hn1⟩ := hk 11 (by kernel_rfl); simp only [hn1]; go_simp; exact ⟨AppE.of_below ((Below.refl _ _).alloc (Nat.le_refl _) _), Boxd.new w' n1 (fun e => by have := rowOf_in HO.out _ e; have := hE.1.size; omega)⟩
      (simp only [Act.put, List.setIfInBounds_toArray, List.set_cons_zero, List.set_cons_succ, List.cons_append, List.nil_append])
      refine wpF_fact (Appd 32 w1.heap.size wr.heap.size k (doubleF zA Wn (k % wn) (k / wn)) a c zs) (Appd.keep (HLT.out k hlt)) (fun vs w' hE hk => ?_) ?_
      · obtain ⟨g, m, hu, _, _, hg4⟩ := hk 12 (by kernel_rfl)
        obtain ⟨i0, hi, hz0, hz1, hz2⟩ := info_parts infoF2
        simp only [hu]
        rw [if_pos (by rfl)]
        refine uponW_append _ _ _ rfl rfl rfl ?_
        exact append_step _ _ i0 _ Try.underlying22 hi hz0 hz1 hz2 rfl (HO.out.appE hE) (by have := hE.1.size; omega) _ hE.1.size (HLT.out k hlt) g 1 m _ hg4 (by omega)
      (simp only [Act.put, List.setIfInBounds_toArray, List.set_cons_zero, List.set_cons_succ, List.cons_append, List.nil_append])
      (with_reducible apply wpF_val); (focus (intro vs w' hE hk; (obtain ⟨dca0, dca1, dca2, dco0, dco1, dco2⟩ := KS.out w' hE); go_simp; exact ⟨AppE.refl _, rfl⟩)); (simp only [Act.put, List.setIfInBounds_toArray, List.set_cons_zero, List.set_cons_succ, List.cons_append, List.nil_append])
      refine wpF_nil (fun vs w' hE hk => ?_)
      obtain ⟨a', c', n', hu, hV2, hO2, hne2, hB2, hF2, hz2⟩ := app_round hE HV.out HO.out (hk 13) HB.out (by omega) (by omega) HF.out HNe.out
      obtain ⟨dca0, dca1, dca2, dco0, dco1, dco2⟩ := KS.out w' hE
      have hfr := hE.free HF.out (by omega) (HRow.out _ (by omega)) 2
      simp only [hu]
      have HV2 := Lib.hid hV2
      have HO2 := Lib.hid hO2
      have HN2 := Lib.hid hne2
      have HB2 := Lib.hid hB2
      have HF2 := Lib.hid hF2
      clear hV2 hO2 hne2 hB2 hF2
      go_wp2_with fail
      go_roundw
      case rel => exact ⟨k + 1, a', c', _, by omega, by go_num, HV2.out, HO2.out, by rw [← HAt.out k hlt]; exact near_snoc HN.out (by rw [HLn.out]; exact hlt) n', HB2.out, HF2.out, HN2.out, by omega⟩
      case measure => simp [intOf]; omega
    · obtain rfl : k = N := by omega
      have hz : near zs (L) := by have h := HN.out; rwa [List.take_of_length_le (by rw [HLn.out]; exact Nat.le_refl _)] at h
      have hzl : zs.length = k := by rw [hz.1, HLn.out]
      have HZ := Lib.hid hz
      have HML := Lib.hid (show (L).length = k from by rw [HLn.out])
      have VR := Lib.hid (Vr_2.out.below HB.out (by omega))
      have FR := Lib.hid (Fr_2.out.keep HB.out (by omega))
      have hfin := HFi.out
      obtain rfl := near_eq hz hfin
      clear hfin hz
      obtain ⟨wz, rfl⟩ : ∃ x : World, x = wr := ⟨_, rfl⟩
      have b := Below.refl wz.heap.size wz
      obtain ⟨cr0, cr1, cr2⟩ := (VR.out.keep b).three
      have fr := FR.out.below (by omega) b
      have f0 := fr 0
      have f1 := fr 1
      have f2 := fr 2
      have HB2 := Lib.hid (BW.out.trans (b.mono (by omega)))
      have HO2 := Lib.hid (HO.out.below b)
      clear fr b
      go_wp2_with fail
      have hrow : blk a ≠ some (w.heap.size) := fun e => by have := HO2.out.in _ e; omega
      refine bodyPost_ret (v := .tuple #[.agg #[.int .i64 (wn : Int), .int .i64 (hn : Int), .slice a k c], .bool true]) (by simp [results, Try.results97, cr0, cr1, cr2, go_sem]) rfl (by exact ⟨a, c, by rw [HML.out], by (show (zs).length ≤ 1048576); rw [HML.out]; omega, ((HB2.out.setCell (by simp <;> omega) _).setCell (by simp <;> omega) _).setCell (by simp <;> omega) _, (((Own.re HML.out.symm HO2.out).setCell hrow _).setCell hrow _).setCell hrow _ |>.mono (by omega)⟩)
/-! ### l04DoubleNo -/
theorem c_l04Double_no1 (WA HA : Int) (xp : Nat) (aA : Option Addr) (cA : Nat) (zA : List Nat) (wd hg : Int) (w : World) (hv : Var w xp #[.int .i64 WA, .int .i64 HA, .slice aA zA.length cA]) (hsd : sideB wd hg = false) : Calls Try.prog 97 #[.pointer (some ⟨xp, 0, none⟩), .int .i64 wd, .int .i64 hg] w (RetP 32 PRes.no w) := by
  have HSd := Lib.hid hsd
  have Va_0 := Lib.hid hv
  have za_0 : xp < w.heap.size := hv.lt
  have hxp : xp < w.heap.size := hv.lt
  clear hsd hv
  go_enter Try.func97, Try.ntmps97
  go_wp2_with fail
  refine ((c_l02SidesD _ _ _).mono (fun _ _ h => RetV.toB h)).mono ?_
  rintro _ w1 ⟨rfl, b⟩
  rw [HSd.out]
  have Va_1 := Lib.hid ((Va_0.out.alloc _).keep b)
  have Vr_1 := Lib.hid ((Var.new' _ _ _ (w.heap.size) (by first | rfl | simp)).keep b)
  have Fr_1 := Lib.hid ((Free.new' _ _ _ (w.heap.size) (by first | rfl | simp)).below (by simp <;> omega) b)
  have B_1 := Lib.hid (((Below.refl w.heap.size w).alloc (Nat.le_refl _) _).trans (b.mono (by simp)))
  have S_1 : w.heap.size + 1 ≤ w1.heap.size := by have := b.size; simp at this; omega
  have za_1 : xp < w1.heap.size := by omega
  have zr_1 : w.heap.size < w1.heap.size := by omega
  clear b
  obtain ⟨cr0, cr1, cr2⟩ := Vr_1.out.three
  have f0 := Fr_1.out 0
  have f1 := Fr_1.out 1
  have f2 := Fr_1.out 2
  go_wp2_with fail
  refine bodyPost_ret (v := .tuple #[.agg #[.int .i64 0, .int .i64 0, .slice none 0 0], .bool false]) (by simp [results, Try.results97, cr0, cr1, cr2, zr_1, go_sem]) rfl (show RetP _ PRes.no _ _ _ from ⟨none, 0, rfl, Nat.zero_le _, ?_, Own.nil _ _ _⟩)
  repeat (first | exact B_1.out | exact Nat.le_refl _ | (refine Below.setCell ?_ ?_ _) | (refine Below.alloc ?_ ?_ _) | omega | (simp <;> omega))
theorem c_l04Double_no2 (WA HA : Int) (xp : Nat) (aA : Option Addr) (cA : Nat) (zA : List Nat) (wd hg : Int) (w : World) (hv : Var w xp #[.int .i64 WA, .int .i64 HA, .slice aA zA.length cA]) (hsd : sideB wd hg = true) (hf : ((wd + 1) / 2 == WA) = false) : Calls Try.prog 97 #[.pointer (some ⟨xp, 0, none⟩), .int .i64 wd, .int .i64 hg] w (RetP 32 PRes.no w) := by
  have HSd := Lib.hid hsd
  have Va_0 := Lib.hid hv
  have za_0 : xp < w.heap.size := hv.lt
  have hxp : xp < w.heap.size := hv.lt
  obtain ⟨⟨s1, s2⟩, s3, s4⟩ := sideB_true hsd
  obtain ⟨dw, hdw⟩ : ∃ d, d = (wd + 1) / 2 := ⟨_, rfl⟩
  obtain ⟨dh, hdh⟩ : ∃ d, d = (hg + 1) / 2 := ⟨_, rfl⟩
  have y1 : IntKind.i64.wrap (wd + 1) = wd + 1 := IntWalk.i64_in _ (by omega)
  have y2 : IntKind.i64.wrap (hg + 1) = hg + 1 := IntWalk.i64_in _ (by omega)
  have y3 : (wd + 1).tdiv 2 = dw := by rw [Int.tdiv_eq_ediv_of_nonneg (by omega), hdw]
  have y4 : (hg + 1).tdiv 2 = dh := by rw [Int.tdiv_eq_ediv_of_nonneg (by omega), hdh]
  have y5 : IntKind.i64.wrap dw = dw := IntWalk.i64_in _ (by omega)
  have y6 : IntKind.i64.wrap dh = dh := IntWalk.i64_in _ (by omega)
  have hne : (WA == dw) = false := by rw [hdw]; simp only [beq_eq_false_iff_ne, ne_eq] at hf ⊢; omega
  have hne2 : ¬ (WA = dw) := by simpa using hne
  clear hsd hv hf hdw hdh hne
  go_enter Try.func97, Try.ntmps97
  go_wp2_with fail
  refine ((c_l02SidesD _ _ _).mono (fun _ _ h => RetV.toB h)).mono ?_
  rintro _ w1 ⟨rfl, b⟩
  rw [HSd.out]
  have Va_1 := Lib.hid ((Va_0.out.alloc _).keep b)
  have Vr_1 := Lib.hid ((Var.new' _ _ _ (w.heap.size) (by first | rfl | simp)).keep b)
  have Fr_1 := Lib.hid ((Free.new' _ _ _ (w.heap.size) (by first | rfl | simp)).below (by simp <;> omega) b)
  have B_1 := Lib.hid (((Below.refl w.heap.size w).alloc (Nat.le_refl _) _).trans (b.mono (by simp)))
  have S_1 : w.heap.size + 1 ≤ w1.heap.size := by have := b.size; simp at this; omega
  have za_1 : xp < w1.heap.size := by omega
  have zr_1 : w.heap.size < w1.heap.size := by omega
  clear b
  obtain ⟨cr0, cr1, cr2⟩ := Vr_1.out.three
  have f0 := Fr_1.out 0
  have f1 := Fr_1.out 1
  have f2 := Fr_1.out 2
  obtain ⟨ca0, ca1, ca2⟩ := Va_1.out.three
  go_wp2_with fail
  refine bodyPost_ret (v := .tuple #[.agg #[.int .i64 0, .int .i64 0, .slice none 0 0], .bool false]) (by simp [results, Try.results97, cr0, cr1, cr2, zr_1, go_sem]) rfl (show RetP _ PRes.no _ _ _ from ⟨none, 0, rfl, Nat.zero_le _, ?_, Own.nil _ _ _⟩)
  repeat (first | exact B_1.out | exact Nat.le_refl _ | (refine Below.setCell ?_ ?_ _) | (refine Below.alloc ?_ ?_ _) | omega | (simp <;> omega))
theorem c_l04Double_no3 (WA HA : Int) (xp : Nat) (aA : Option Addr) (cA : Nat) (zA : List Nat) (wd hg : Int) (w : World) (hv : Var w xp #[.int .i64 WA, .int .i64 HA, .slice aA zA.length cA]) (hsd : sideB wd hg = true) (hw : ((wd + 1) / 2 == WA) = true) (hf : ((hg + 1) / 2 == HA) = false) : Calls Try.prog 97 #[.pointer (some ⟨xp, 0, none⟩), .int .i64 wd, .int .i64 hg] w (RetP 32 PRes.no w) := by
  have HSd := Lib.hid hsd
  have Va_0 := Lib.hid hv
  have za_0 : xp < w.heap.size := hv.lt
  have hxp : xp < w.heap.size := hv.lt
  obtain ⟨⟨s1, s2⟩, s3, s4⟩ := sideB_true hsd
  obtain ⟨dw, hdw⟩ : ∃ d, d = (wd + 1) / 2 := ⟨_, rfl⟩
  obtain ⟨dh, hdh⟩ : ∃ d, d = (hg + 1) / 2 := ⟨_, rfl⟩
  have y1 : IntKind.i64.wrap (wd + 1) = wd + 1 := IntWalk.i64_in _ (by omega)
  have y2 : IntKind.i64.wrap (hg + 1) = hg + 1 := IntWalk.i64_in _ (by omega)
  have y3 : (wd + 1).tdiv 2 = dw := by rw [Int.tdiv_eq_ediv_of_nonneg (by omega), hdw]
  have y4 : (hg + 1).tdiv 2 = dh := by rw [Int.tdiv_eq_ediv_of_nonneg (by omega), hdh]
  have y5 : IntKind.i64.wrap dw = dw := IntWalk.i64_in _ (by omega)
  have y6 : IntKind.i64.wrap dh = dh := IntWalk.i64_in _ (by omega)
  have hne2 : ¬ (HA = dh) := by rw [hdh]; simp only [beq_eq_false_iff_ne, ne_eq] at hf; omega
  have heq2 : WA = dw := by rw [hdw]; simp only [beq_iff_eq] at hw; omega
  subst heq2
  clear hsd hv hf hw hdw hdh
  go_enter Try.func97, Try.ntmps97
  go_wp2_with fail
  refine ((c_l02SidesD _ _ _).mono (fun _ _ h => RetV.toB h)).mono ?_
  rintro _ w1 ⟨rfl, b⟩
  rw [HSd.out]
  have Va_1 := Lib.hid ((Va_0.out.alloc _).keep b)
  have Vr_1 := Lib.hid ((Var.new' _ _ _ (w.heap.size) (by first | rfl | simp)).keep b)
  have Fr_1 := Lib.hid ((Free.new' _ _ _ (w.heap.size) (by first | rfl | simp)).below (by simp <;> omega) b)
  have B_1 := Lib.hid (((Below.refl w.heap.size w).alloc (Nat.le_refl _) _).trans (b.mono (by simp)))
  have S_1 : w.heap.size + 1 ≤ w1.heap.size := by have := b.size; simp at this; omega
  have za_1 : xp < w1.heap.size := by omega
  have zr_1 : w.heap.size < w1.heap.size := by omega
  clear b
  obtain ⟨cr0, cr1, cr2⟩ := Vr_1.out.three
  have f0 := Fr_1.out 0
  have f1 := Fr_1.out 1
  have f2 := Fr_1.out 2
  obtain ⟨ca0, ca1, ca2⟩ := Va_1.out.three
  go_wp2_with fail
  refine bodyPost_ret (v := .tuple #[.agg #[.int .i64 0, .int .i64 0, .slice none 0 0], .bool false]) (by simp [results, Try.results97, cr0, cr1, cr2, zr_1, go_sem]) rfl (show RetP _ PRes.no _ _ _ from ⟨none, 0, rfl, Nat.zero_le _, ?_, Own.nil _ _ _⟩)
  repeat (first | exact B_1.out | exact Nat.le_refl _ | (refine Below.setCell ?_ ?_ _) | (refine Below.alloc ?_ ?_ _) | omega | (simp <;> omega))
/-! ### l01Finite -/
theorem c_l01Finite (v n : Nat) (w : World) (j : Nat) : Calls Try.prog 62 #[.float .f32 (pick .f32 v n)] (w.drewN j) (RetV (.bool (finB .f32 v)) w) := by
  go_enter Try.func62, Try.ntmps62
  go_wp2_with (first | (refine wpList_fop rfl _ _ _ _ _ rfl _ _ _ rfl rfl (by decide) _ ?_; intro _ _) | (refine upon_fop _ _ _ _ _ (by decide) ?_; intro _ _))
  go_ret
  rw [← sub_self_zero]
  exact ⟨_, rfl, rfl⟩
/-! ### l02Finite -/
theorem c_l02Finite (a : Option Addr) (len cap : Nat) (zs : List Nat) (w : World) (j0 : Nat) (hr : IsRowF .f32 w a len cap zs) : Calls Try.prog 100 #[.slice a len cap] (w.drewN j0) (RetV (.bool (finL zs)) w) := by
  obtain ⟨h1, h2, h3, h4, h5⟩ := hr
  unfold maxLen at h3
  have H1 := Lib.hid h1
  clear h1
  go_enter Try.func100, Try.ntmps100
  go_wp2
  go_loopw [3] (fun i wr => ∃ k m : Nat, k ≤ len ∧ i = .int .i64 k ∧ wr = w.drewN m ∧ finL (zs.take k) = true) (fun i _ => len - (intOf i).toNat)
  case atStart => exact ⟨0, j0, Nat.zero_le _, rfl, rfl, rfl⟩
  case round =>
    obtain ⟨k, m, hk, rfl, rfl, hfin⟩ := hrel
    have HFin := Lib.hid hfin
    clear hfin
    by_cases hlt : k < len
    · rcases h5 with h5 | ⟨b, off, rfl, hbl, hc⟩
      · omega
      have hcell : w.cell? ⟨b, off + k, none⟩ = some (.float .f32 (fat zs k)) := hc k hlt
      obtain ⟨n, hn⟩ := pick0 .f32 (fat zs k) (lt_of_wf (h4 _ (by unfold fat; rw [List.getD, List.getElem?_eq_getElem (by have := H1.out; omega)]; exact List.getElem_mem _)))
      rw [hn] at hcell
      have HN := Lib.hid hn
      have HS := Lib.hid (finL_snoc zs k (by have := H1.out; omega))
      cases hf : finB .f32 (fat zs k)
      · have HO := Lib.hid (finL_of zs k (by have := H1.out; omega) hf)
        clear hc h4 hn
        go_wp2_with ((go_at_call 62; refine (c_l01Finite _ _ _ _).mono ?_; rintro _ _ ⟨_, rfl, rfl⟩))
        go_ret
        exact ⟨_, by rw [HO.out]; rfl, rfl⟩
      · have HF := Lib.hid hf
        clear hc h4 hn
        go_wp2_with ((go_at_call 62; refine (c_l01Finite _ _ _ _).mono ?_; rintro _ _ ⟨_, rfl, rfl⟩))
        go_roundw
        case rel => exact ⟨k + 1, _, by omega, by go_num, rfl, by rw [HS.out, HFin.out, HF.out]; rfl⟩
        case measure => simp [intOf]; omega
    · have e : zs.take k = zs := List.take_of_length_le (by have := H1.out; omega)
      have HE := Lib.hid e
      clear h5 h4 e
      go_wp2
      go_ret
      exact ⟨_, by have h := HFin.out; rw [HE.out] at h; rw [h]; rfl, rfl⟩
/-! ### l02Is -/
theorem c_l02Is (W H : Int) (b : Nat) (a : Option Addr) (len cap : Nat) (zs : List Nat) (w : World) (j0 : Nat) (hv : Var w b #[.int .i64 W, .int .i64 H, .slice a len cap]) (hr : IsRowF .f32 w a len cap zs) :
    Calls Try.prog 68 #[.pointer (some ⟨b, 0, none⟩)] (w.drewN j0) (RetV (.bool (validB W H zs)) w) := by
  obtain ⟨p0, p1, p2⟩ := hv.three
  have H1 := Lib.hid hr.1
  have HR := Lib.hid hr
  clear hr hv
  cases hs : sideB W H
  · have e : validB W H zs = false := by simp [validB, hs]
    have E := Lib.hid e
    have C1 := Lib.hid (fun n => (by have h := c_l02Sides W H w n; rwa [hs] at h : Calls Try.prog 105 #[.int .i64 W, .int .i64 H] (w.drewN n) (RetV (.bool false) w)))
    clear e hs
    go_enter Try.func68, Try.ntmps68
    go_wp2
    refine wp_region_N (fun f _ u => (f = 105 → u = .bool false)) (by kernel_rfl) (by kernel_rfl) ?_; (repeat (first | ((with_reducible show wpN _ _ _ _ _ (Oper.mk _ (Op.binOp _ _ _ _ _) _ _ _ none :: _) _); refine wpN_fop rfl _ _ _ _ _ rfl _ _ _ rfl rfl (by decide) ?_; intro _) | ((with_reducible show wpN _ _ _ _ _ (Oper.mk _ (Op.convert _ _ _) _ _ _ none :: _) _); refine wpN_cvU rfl 32 36 _ rfl (Option.isSome_iff_exists.2 ⟨_, Try.underlying32⟩) Try.underlying36 _ rfl ?_; intro _) | ((with_reducible show wpN _ _ _ _ _ (Oper.mk _ _ _ _ _ (some _) :: _) _); (with_reducible refine wpN_off ?_ ?_); focus rfl; (simp only [Act.put, List.setIfInBounds_toArray, List.set_cons_zero, List.set_cons_succ])) | ((with_reducible show wpN _ _ _ _ _ (Oper.mk _ _ _ _ _ (some _) :: _) _); ((with_reducible refine wpN_on ?_ (fun K hK => ?_)); (focus rfl); intro _; go_simp; first | (refine uponN_value (hK _ ?_)) | ((refine uponN_call (callN (v := .bool false) (fun _ => rfl) (C1.out _)) ?_; intro u hu; obtain rfl : u = _ := hu rfl; clear hu); refine hK _ ?_)); clear hK K) | (((with_reducible refine wpN_plain rfl (fun K hK => ?_)); intro _; go_simp; first | (refine uponN_value (hK _ ?_)) | ((refine uponN_call (callN (v := .bool false) (fun _ => rfl) (C1.out _)) ?_; intro u hu; obtain rfl : u = _ := hu rfl; clear hu); refine hK _ ?_)); clear hK K) | ((with_reducible refine wpN_step (fun K hK => ?_)); go_simp; first | (refine hK _ ?_) | (intro _; first | (refine uponN_value (hK _ ?_)) | ((refine uponN_call (callN (v := .bool false) (fun _ => rfl) (C1.out _)) ?_; intro u hu; obtain rfl : u = _ := hu rfl; clear hu); refine hK _ ?_)); clear hK K))); refine wpN_nil ?_; intro _
    go_wp2
    go_ret
    exact ⟨_, by rw [E.out]; rfl, rfl⟩
  · obtain ⟨m1, m2⟩ := side_mul hs
    have mw : IntKind.i64.wrap (W * H) = W * H := IntWalk.i64_in _ (by omega)
    have C1 := Lib.hid (fun n => (by have h := c_l02Sides W H w n; rwa [hs] at h : Calls Try.prog 105 #[.int .i64 W, .int .i64 H] (w.drewN n) (RetV (.bool true) w)))
    have C2 := Lib.hid (fun n => c_l02Finite a len cap zs w n HR.out)
    by_cases hl : (len : Int) = W * H
    · have hd : ((len : Int) == W * H) = true := by simpa using hl
      have e : validB W H zs = finL zs := by simp [validB, hs, H1.out, hl]
      have E := Lib.hid e
      have HL := Lib.hid hl
      clear e hs hl
      go_enter Try.func68, Try.ntmps68
      go_wp2
      refine wp_region_N (fun f _ u => (f = 105 → u = .bool true) ∧ (f = 100 → u = .bool (finL zs))) (by kernel_rfl) (by kernel_rfl) ?_; (repeat (first | ((with_reducible show wpN _ _ _ _ _ (Oper.mk _ (Op.binOp _ _ _ _ _) _ _ _ none :: _) _); refine wpN_fop rfl _ _ _ _ _ rfl _ _ _ rfl rfl (by decide) ?_; intro _) | ((with_reducible show wpN _ _ _ _ _ (Oper.mk _ (Op.convert _ _ _) _ _ _ none :: _) _); refine wpN_cvU rfl 32 36 _ rfl (Option.isSome_iff_exists.2 ⟨_, Try.underlying32⟩) Try.underlying36 _ rfl ?_; intro _) | ((with_reducible show wpN _ _ _ _ _ (Oper.mk _ _ _ _ _ (some _) :: _) _); (with_reducible refine wpN_off ?_ ?_); focus rfl; (simp only [Act.put, List.setIfInBounds_toArray, List.set_cons_zero, List.set_cons_succ])) | ((with_reducible show wpN _ _ _ _ _ (Oper.mk _ _ _ _ _ (some _) :: _) _); ((with_reducible refine wpN_on ?_ (fun K hK => ?_)); (focus rfl); intro _; go_simp; first | (refine uponN_value (hK _ ?_)) | ((first | (refine uponN_call (callN (v := .bool true) ⟨fun _ => rfl, fun h => absurd h (by decide)⟩ (C1.out _)) ?_; intro u hu; obtain rfl : u = _ := hu.1 rfl; clear hu) | (refine uponN_call (callN (v := .bool (finL zs)) ⟨fun h => absurd h (by decide), fun _ => rfl⟩ (C2.out _)) ?_; intro u hu; obtain rfl : u = _ := hu.2 rfl; clear hu)); refine hK _ ?_)); clear hK K) | (((with_reducible refine wpN_plain rfl (fun K hK => ?_)); intro _; go_simp; first | (refine uponN_value (hK _ ?_)) | ((first | (refine uponN_call (callN (v := .bool true) ⟨fun _ => rfl, fun h => absurd h (by decide)⟩ (C1.out _)) ?_; intro u hu; obtain rfl : u = _ := hu.1 rfl; clear hu) | (refine uponN_call (callN (v := .bool (finL zs)) ⟨fun h => absurd h (by decide), fun _ => rfl⟩ (C2.out _)) ?_; intro u hu; obtain rfl : u = _ := hu.2 rfl; clear hu)); refine hK _ ?_)); clear hK K) | ((with_reducible refine wpN_step (fun K hK => ?_)); go_simp; first | (refine hK _ ?_) | (intro _; first | (refine uponN_value (hK _ ?_)) | ((first | (refine uponN_call (callN (v := .bool true) ⟨fun _ => rfl, fun h => absurd h (by decide)⟩ (C1.out _)) ?_; intro u hu; obtain rfl : u = _ := hu.1 rfl; clear hu) | (refine uponN_call (callN (v := .bool (finL zs)) ⟨fun h => absurd h (by decide), fun _ => rfl⟩ (C2.out _)) ?_; intro u hu; obtain rfl : u = _ := hu.2 rfl; clear hu)); refine hK _ ?_)); clear hK K))); refine wpN_nil ?_; intro _
      go_wp2
      go_ret
      exact ⟨_, by rw [E.out]; rfl, rfl⟩
    · have hd : ((len : Int) == W * H) = false := by simpa using hl
      have e : validB W H zs = false := by simp [validB, hs, H1.out, hl]
      have E := Lib.hid e
      clear e hs hl
      go_enter Try.func68, Try.ntmps68
      go_wp2
      refine wp_region_N (fun f _ u => (f = 105 → u = .bool true)) (by kernel_rfl) (by kernel_rfl) ?_; (repeat (first | ((with_reducible show wpN _ _ _ _ _ (Oper.mk _ (Op.binOp _ _ _ _ _) _ _ _ none :: _) _); refine wpN_fop rfl _ _ _ _ _ rfl _ _ _ rfl rfl (by decide) ?_; intro _) | ((with_reducible show wpN _ _ _ _ _ (Oper.mk _ (Op.convert _ _ _) _ _ _ none :: _) _); refine wpN_cvU rfl 32 36 _ rfl (Option.isSome_iff_exists.2 ⟨_, Try.underlying32⟩) Try.underlying36 _ rfl ?_; intro _) | ((with_reducible show wpN _ _ _ _ _ (Oper.mk _ _ _ _ _ (some _) :: _) _); (with_reducible refine wpN_off ?_ ?_); focus rfl; (simp only [Act.put, List.setIfInBounds_toArray, List.set_cons_zero, List.set_cons_succ])) | ((with_reducible show wpN _ _ _ _ _ (Oper.mk _ _ _ _ _ (some _) :: _) _); ((with_reducible refine wpN_on ?_ (fun K hK => ?_)); (focus rfl); intro _; go_simp; first | (refine uponN_value (hK _ ?_)) | ((refine uponN_call (callN (v := .bool true) (fun _ => rfl) (C1.out _)) ?_; intro u hu; obtain rfl : u = _ := hu rfl; clear hu); refine hK _ ?_)); clear hK K) | (((with_reducible refine wpN_plain rfl (fun K hK => ?_)); intro _; go_simp; first | (refine uponN_value (hK _ ?_)) | ((refine uponN_call (callN (v := .bool true) (fun _ => rfl) (C1.out _)) ?_; intro u hu; obtain rfl : u = _ := hu rfl; clear hu); refine hK _ ?_)); clear hK K) | ((with_reducible refine wpN_step (fun K hK => ?_)); go_simp; first | (refine hK _ ?_) | (intro _; first | (refine uponN_value (hK _ ?_)) | ((refine uponN_call (callN (v := .bool true) (fun _ => rfl) (C1.out _)) ?_; intro u hu; obtain rfl : u = _ := hu rfl; clear hu); refine hK _ ?_)); clear hK K))); refine wpN_nil ?_; intro _
      go_wp2
      go_ret
      exact ⟨_, by rw [E.out]; rfl, rfl⟩
/-! ### l02Is0 -/
theorem c_l02Is0 (W H : Int) (b : Nat) (a : Option Addr) (len cap : Nat) (zs : List Nat) (w : World) (hv : Var w b #[.int .i64 W, .int .i64 H, .slice a len cap]) (hr : IsRowF .f32 w a len cap zs) :
    Calls Try.prog 68 #[.pointer (some ⟨b, 0, none⟩)] w (RetV (.bool (validB W H zs)) w) := by
  have h := c_l02Is W H b a len cap zs w 0 hv hr
  rwa [w.drewN_zero] at h
/-! ### sDouble -/
theorem c_l04Double (WA HA : Int) (xp : Nat) (aA : Option Addr) (cA : Nat) (zA : List Nat) (wd hg : Int) (w : World) (hv : Var w xp #[.int .i64 WA, .int .i64 HA, .slice aA zA.length cA]) (rA : IsRowF .f32 w aA zA.length cA zA) (hb : validB WA HA zA = true) : Calls Try.prog 97 #[.pointer (some ⟨xp, 0, none⟩), .int .i64 wd, .int .i64 hg] w (RetP 32 (resDouble WA HA zA wd hg) w) := by
  unfold resDouble
  rw [hb, Bool.true_and]
  have hlen := (valid_len hb).1
  have hsb : sideB WA HA = true := by have h := hb; simp only [validB, Bool.and_eq_true] at h; exact h.1.1
  obtain ⟨⟨s1, s2⟩, s3, s4⟩ := sideB_true hsb
  cases h1 : sideB wd hg
  · rw [Bool.false_and, if_neg (by decide)]; exact c_l04Double_no1 WA HA xp aA cA zA wd hg w hv h1
  · rw [Bool.true_and]
    cases h2 : ((wd + 1) / 2 == WA)
    · have e : fitB WA HA wd hg = false := by unfold fitB; rw [h2]; rfl
      rw [e, if_neg (by decide)]; exact c_l04Double_no2 WA HA xp aA cA zA wd hg w hv h1 h2
    · cases h3 : ((hg + 1) / 2 == HA)
      · have e : fitB WA HA wd hg = false := by unfold fitB; rw [h3, Bool.and_false]
        rw [e, if_neg (by decide)]; exact c_l04Double_no3 WA HA xp aA cA zA wd hg w hv h1 h2 h3
      · have e : fitB WA HA wd hg = true := by unfold fitB; rw [h2, h3]; rfl
        rw [e, if_pos rfl]
        exact c_l04Double_yes WA HA xp aA cA zA wd hg w hv rA h1 e (by
          obtain ⟨Wn, rfl⟩ : ∃ n : Nat, WA = n := ⟨WA.toNat, by omega⟩
          obtain ⟨Hn, rfl⟩ : ∃ n : Nat, HA = n := ⟨HA.toNat, by omega⟩
          rw [Int.toNat_natCast, Int.toNat_natCast]
          rw [← Int.natCast_mul] at hlen; omega) (valid_fin hb)
theorem c_sDoublePicture (WA HA : Int) (zA : List Nat) (aA : Option Addr) (cA : Nat) (wd hg : Int) (w : World) (rA : IsRowF .f32 w aA zA.length cA zA) (hwd : (Lit.int .i64 wd).wf = true) (hhg : (Lit.int .i64 hg).wf = true) : Calls Try.prog 51 #[.agg #[.int .i64 WA, .int .i64 HA, .slice aA zA.length cA], .int .i64 wd, .int .i64 hg] w (RetP 32 (resDouble WA HA zA wd hg) w) := by
  generalize hw0 : (w.alloc (Obj.cells #[.int .i64 WA, .int .i64 HA, .slice aA zA.length cA] 41)).alloc (Obj.cells #[.int .i64 0, .int .i64 0, .slice none 0 0] 41) = w0
  have X0 : Var w0 w.heap.size #[.int .i64 WA, .int .i64 HA, .slice aA zA.length cA] := by subst hw0; exact (Var.new _ _ _).alloc _
  have X1 : Var w0 (w.heap.size + 1) #[.int .i64 0, .int .i64 0, .slice none 0 0] := by subst hw0; exact Var.new' _ _ _ _ (by simp)
  have X2 : Free w0 (w.heap.size + 1) := by subst hw0; exact Free.new' _ _ _ _ (by simp)
  have X3 : Below w.heap.size w w0 := by subst hw0; exact ((Below.refl _ _).alloc (Nat.le_refl _) _).alloc (by simp) _
  have X4 : w0.heap.size = w.heap.size + 1 + 1 := by subst hw0; simp
  have HW := Lib.hid hw0
  have V0 := Lib.hid X0
  have V1 := Lib.hid X1
  have F1 := Lib.hid X2
  have B0 := Lib.hid X3
  have RX := Lib.hid (rA.below X3)
  clear hw0 X0 X1 X2 X3 rA
  have CI := Lib.hid (c_l02Is0 WA HA _ aA _ cA zA _ V0.out RX.out)
  cases hv : validB WA HA zA
  · have e : resDouble WA HA zA wd hg = PRes.no := by unfold resDouble; rw [hv]; rfl
    rw [e]
    rw [hv] at CI
    clear hv e
    go_enter Try.func51, Try.ntmps51
    go_wp2_with fail
    rw [HW.out]
    refine CI.out.mono ?_
    rintro _ _ ⟨m1, rfl, rfl⟩
    have bb_w1 := below_drewN (Below.refl w0.heap.size w0) m1
    have VV := Lib.hid (V1.out.keep bb_w1)
    have FF := Lib.hid (F1.out.below V1.out.lt bb_w1)
    have BB := Lib.hid (B0.out.trans (bb_w1.mono (by omega)))
    have UU := Lib.hid (V0.out.keep bb_w1)
    have RR := Lib.hid (RX.out.below bb_w1)
    clear bb_w1
    generalize World.drewN w0 m1 = w1 at *
    have zz : w.heap.size + 1 < w1.heap.size := VV.out.lt
    obtain ⟨q0, q1, q2⟩ := VV.out.three
    have f0 := FF.out 0
    have f1 := FF.out 1
    have f2 := FF.out 2
    go_wp2_with fail
    refine bodyPost_ret (v := .tuple #[.agg #[.int .i64 0, .int .i64 0, .slice none 0 0], .bool false]) (by simp [results, Try.results51, q0, q1, q2, go_sem]) rfl (show RetP _ PRes.no _ _ _ from ⟨none, 0, rfl, Nat.zero_le _, ((BB.out.setCell (by simp <;> omega) _).setCell (by simp <;> omega) _).setCell (by simp <;> omega) _, Own.nil _ _ _⟩)
  · rw [hv] at CI
    have CB := Lib.hid (fun (w : World) (x : Nat) (h1 : Var w x #[.int .i64 WA, .int .i64 HA, .slice aA zA.length cA]) (h2 : IsRowF .f32 w aA zA.length cA zA) => c_l04Double WA HA x aA cA zA wd hg w h1 h2 hv)
    clear hv
    generalize resDouble WA HA zA wd hg = res at *
    go_enter Try.func51, Try.ntmps51
    go_wp2_with fail
    rw [HW.out]
    refine CI.out.mono ?_
    rintro _ _ ⟨m1, rfl, rfl⟩
    have bb_w1 := below_drewN (Below.refl w0.heap.size w0) m1
    have VV := Lib.hid (V1.out.keep bb_w1)
    have FF := Lib.hid (F1.out.below V1.out.lt bb_w1)
    have BB := Lib.hid (B0.out.trans (bb_w1.mono (by omega)))
    have UU := Lib.hid (V0.out.keep bb_w1)
    have RR := Lib.hid (RX.out.below bb_w1)
    clear bb_w1
    generalize World.drewN w0 m1 = w1 at *
    have zz : w.heap.size + 1 < w1.heap.size := VV.out.lt
    go_wp2_with fail
    refine (CB.out w1 _ UU.out RR.out).mono ?_
    rintro _ w9 ⟨a9, cap9, rfl, hl9, b9, o9⟩
    have V9 := Lib.hid (VV.out.keep b9)
    have F9 := Lib.hid (FF.out.below (by omega) b9)
    have B9 := Lib.hid (BB.out.trans (b9.mono (by omega)))
    have z9 : w1.heap.size ≤ w9.heap.size := b9.size
    have O9 := Lib.hid o9
    have HL9 := Lib.hid hl9
    clear b9 o9 hl9 
    obtain ⟨q0, q1, q2⟩ := V9.out.three
    have f0 := F9.out 0
    have f1 := F9.out 1
    have f2 := F9.out 2
    go_wp2_with fail
    have hrow : blk a9 ≠ some (w.heap.size + 1) := fun e => by have := O9.out.in _ e; omega
    refine bodyPost_ret (v := .tuple #[.agg #[.int .i64 res.W, .int .i64 res.H, .slice a9 res.zs.length cap9], .bool res.ok]) (by simp [results, Try.results51, q0, q1, q2, go_sem]) rfl ⟨a9, cap9, rfl, HL9.out, ((B9.out.setCell (by simp <;> omega) _).setCell (by simp <;> omega) _).setCell (by simp <;> omega) _, (((O9.out.setCell hrow _).setCell hrow _).setCell hrow _).mono (by omega)⟩
/-! ### sidesOf -/
theorem c_sidesOf (W H : Int) (s : Value) (w : World) : Calls Try.prog 92 #[.agg #[.int .i64 W, .int .i64 H, s]] w (RetB (.agg #[.int .i64 W, .int .i64 H]) w) := by
  go_enter Try.func92, Try.ntmps92
  go_wp2
  exact bodyPost_ret (v := .agg #[.int .i64 W, .int .i64 H]) (by simp [results, Try.results92, go_sem]) rfl ⟨rfl, ((Below.refl _ _).alloc (Nat.le_refl _) _).alloc (by simp) _⟩
/-! ### allowed -/
theorem c_allowed (W H : Int) (w : World) : Calls Try.prog 112 #[.agg #[.int .i64 W, .int .i64 H]] w (RetB (.bool (sideB W H)) w) := by
  unfold sideB
  by_cases h1 : 1 ≤ W
  · by_cases h2 : W ≤ 16
    · by_cases h3 : 1 ≤ H
      · by_cases h4 : H ≤ 16
        all_goals
          go_enter Try.func112, Try.ntmps112
          go_wp2
          go_ret
          exact ⟨by simp [*] <;> (intros; omega), (Below.refl _ _).alloc (Nat.le_refl _) _⟩
      · go_enter Try.func112, Try.ntmps112
        go_wp2
        go_ret
        exact ⟨by simp [*] <;> (intros; omega), (Below.refl _ _).alloc (Nat.le_refl _) _⟩
    · go_enter Try.func112, Try.ntmps112
      go_wp2
      go_ret
      exact ⟨by simp [*] <;> (intros; omega), (Below.refl _ _).alloc (Nat.le_refl _) _⟩
  · go_enter Try.func112, Try.ntmps112
    go_wp2
    go_ret
    exact ⟨by simp [*] <;> (intros; omega), (Below.refl _ _).alloc (Nat.le_refl _) _⟩
/-! ### IsNaN -/
theorem c_IsNaN (v n : Nat) (w : World) (j : Nat) : Calls Try.prog 113 #[.float .f64 (pick .f64 v n)] (w.drewN j) (RetV (.bool (isN .f64 v)) w) := by
  go_enter Try.func113, Try.ntmps113
  go_wp2
  go_ret
  exact ⟨_, rfl, rfl⟩
/-! ### f64bits -/
@[go_sem] theorem e_f64bits (b : Nat) (w : World) : (callFunc 109 #[.float .f64 b]).run Try.prog w = .ok (.value (.int .u64 b)) w := by kernel_rfl
/-! ### f64from -/
@[go_sem] theorem e_f64from (n : Int) (w : World) : (callFunc 108 #[.int .u64 n]).run Try.prog w = .ok (.value (.float .f64 n.toNat)) w := by kernel_rfl
/-! ### Abs -/
theorem c_Abs (v n : Nat) (w : World) (j : Nat) (hv : v < 2 ^ FloatKind.f64.format.width) : Calls Try.prog 80 #[.float .f64 (pick .f64 v n)] (w.drewN j) (RetF .f64 (fabs .f64 v) w) := by
  have hb := abs_bits hv n
  go_enter Try.func80, Try.ntmps80
  go_wp2
  go_ret
  exact ⟨_, _, rfl, rfl⟩
/-! ### IsInf0 -/
theorem c_IsInf0 (v n : Nat) (w : World) (j : Nat) (hv : v < 2 ^ FloatKind.f64.format.width) : Calls Try.prog 114 #[.float .f64 (pick .f64 v n), .int .i64 0] (w.drewN j) (RetV (.bool (FloatKind.f64.format.order (fabs .f64 v) 9218868437227405311 == some .gt)) w) := by
  go_enter Try.func114, Try.ntmps114
  go_wp2_with ((go_at_call 80; refine (c_Abs _ _ _ _ hv).mono ?_; rintro _ _ ⟨_, _, rfl, rfl⟩))
  go_ret
  exact ⟨_, rfl, rfl⟩
/-! ### isFinite64 -/
theorem c_isFinite64 (v n : Nat) (w : World) (j : Nat) (hv : v < 2 ^ FloatKind.f64.format.width) : Calls Try.prog 103 #[.float .f64 (pick .f64 v n)] (w.drewN j) (RetV (.bool (finB .f64 v)) w) := by
  go_enter Try.func103, Try.ntmps103
  go_wp2_with (first | (go_at_call 113; refine (c_IsNaN _ _ _ _).mono ?_; rintro _ _ ⟨_, rfl, rfl⟩) | (go_at_call 114; refine (c_IsInf0 _ _ _ _ hv).mono ?_; rintro _ _ ⟨_, rfl, rfl⟩))
  all_goals
    go_ret
    refine ⟨_, ?_, rfl⟩
    rw [← abs_gt_max]
    simp [*]
/-! ### iIsFinite -/
theorem c_iIsFinite (v n : Nat) (w : World) (j : Nat) : Calls Try.prog 65 #[.float .f32 (pick .f32 v n)] (w.drewN j) (RetV (.bool (finB .f32 v)) w) := by
  go_enter Try.func65, Try.ntmps65
  go_wp2_with (first | (refine wpList_cvU rfl 32 36 _ rfl (Option.isSome_iff_exists.2 ⟨_, Try.underlying32⟩) Try.underlying36 _ rfl _ ?_; intro _ _) | (go_at_call 103; refine (c_isFinite64 _ _ _ _ (cvU_lt _)).mono ?_; rintro _ _ ⟨_, rfl, rfl⟩))
  go_ret
  rw [← finB_cvU]
  exact ⟨_, rfl, rfl⟩
/-! ### areFinite -/
theorem c_areFinite (a : Option Addr) (len cap : Nat) (zs : List Nat) (w : World) (j0 : Nat) (hr : IsRowF .f32 w a len cap zs) : Calls Try.prog 57 #[.slice a len cap] (w.drewN j0) (RetV (.bool (finL zs)) w) := by
  obtain ⟨h1, h2, h3, h4, h5⟩ := hr
  unfold maxLen at h3
  have H1 := Lib.hid h1
  clear h1
  go_enter Try.func57, Try.ntmps57
  go_wp2
  go_loopw [4, 7] (fun _ i wr => ∃ k m : Nat, k ≤ len ∧ i = .int .i64 k ∧ wr = w.drewN m ∧ finL (zs.take k) = true) (fun _ i _ => len - (intOf i).toNat)
  case atStart => exact ⟨0, j0, Nat.zero_le _, rfl, rfl, rfl⟩
  case round =>
    obtain ⟨k, m, hk, rfl, rfl, hfin⟩ := hrel
    have HFin := Lib.hid hfin
    clear hfin
    by_cases hlt : k < len
    · rcases h5 with h5 | ⟨b, off, rfl, hbl, hc⟩
      · omega
      have hcell : w.cell? ⟨b, off + k, none⟩ = some (.float .f32 (fat zs k)) := hc k hlt
      obtain ⟨n, hn⟩ := pick0 .f32 (fat zs k) (lt_of_wf (h4 _ (by unfold fat; rw [List.getD, List.getElem?_eq_getElem (by have := H1.out; omega)]; exact List.getElem_mem _)))
      rw [hn] at hcell
      have HS := Lib.hid (finL_snoc zs k (by have := H1.out; omega))
      cases hf : finB .f32 (fat zs k)
      · have HO := Lib.hid (finL_of zs k (by have := H1.out; omega) hf)
        clear hc h4 hn
        go_wp2_with ((go_at_call 65; refine (c_iIsFinite _ _ _ _).mono ?_; rintro _ _ ⟨_, rfl, rfl⟩))
        go_ret
        exact ⟨_, by rw [HO.out]; rfl, rfl⟩
      · have HF := Lib.hid hf
        clear hc h4 hn
        go_wp2_with ((go_at_call 65; refine (c_iIsFinite _ _ _ _).mono ?_; rintro _ _ ⟨_, rfl, rfl⟩))
        go_roundw
        case rel => exact ⟨k + 1, _, by omega, by go_num, rfl, by rw [HS.out, HFin.out, HF.out]; rfl⟩
        case measure => simp [intOf]; omega
    · have e : zs.take k = zs := List.take_of_length_le (by have := H1.out; omega)
      have HE := Lib.hid e
      clear h5 h4 e
      go_wp2
      go_ret
      exact ⟨_, by have h := HFin.out; rw [HE.out] at h; rw [h]; rfl, rfl⟩
/-! ### iValid -/
theorem c_areFinite0 (a : Option Addr) (len cap : Nat) (zs : List Nat) (w : World) (hr : IsRowF .f32 w a len cap zs) : Calls Try.prog 57 #[.slice a len cap] w (RetV (.bool (finL zs)) w) := by
  have h := c_areFinite a len cap zs w 0 hr
  rwa [w.drewN_zero] at h
theorem c_iValid (W H : Int) (a : Option Addr) (len cap : Nat) (zs : List Nat) (w : World) (hr : IsRowF .f32 w a len cap zs) :
    Calls Try.prog 82 #[.agg #[.int .i64 W, .int .i64 H, .slice a len cap]] w (RetB (.bool (validB W H zs)) w) := by
  have H1 := Lib.hid hr.1
  have HR := Lib.hid hr
  clear hr
  have two : ∀ s : Bool, sideB W H = s → (s = true → ∀ t : Bool, ((len : Int) == W * H) = t → (Calls Try.prog 82 #[.agg #[.int .i64 W, .int .i64 H, .slice a len cap]] w (RetB (.bool (validB W H zs)) w))) → (s = false → Calls Try.prog 82 #[.agg #[.int .i64 W, .int .i64 H, .slice a len cap]] w (RetB (.bool (validB W H zs)) w)) → Calls Try.prog 82 #[.agg #[.int .i64 W, .int .i64 H, .slice a len cap]] w (RetB (.bool (validB W H zs)) w) := by
    intro s hs h1 h2
    cases s
    · exact h2 rfl
    · exact h1 rfl _ rfl
  refine two _ rfl ?_ ?_
  · intro hs t ht
    obtain ⟨m1, m2⟩ := side_mul hs
    have mw : IntKind.i64.wrap (W * H) = W * H := IntWalk.i64_in _ (by omega)
    clear two
    cases t
    · have e : validB W H zs = false := by simp at ht; simp [validB, hs, H1.out, ht]
      have E := Lib.hid e
      have HT := Lib.hid hs
      clear e
      go_enter Try.func82, Try.ntmps82
      go_wp2_with fail
      refine (c_sidesOf W H _ _).mono ?_
      rintro _ w1 ⟨rfl, b1⟩
      obtain ⟨p0, p1, p2⟩ := ((Var.new _ _ _).keep b1).three
      have z1 : w.heap.size < w1.heap.size := by have := b1.size; simp at this; omega
      have B1 := Lib.hid (((Below.refl w.heap.size w).alloc (Nat.le_refl _) _).trans (b1.mono (by simp)))
      clear b1
      go_wp2_with fail
      refine (c_allowed W H _).mono ?_
      rintro _ w2 ⟨rfl, b2⟩
      rw [HT.out]
      have q0 := (b2.cell (p := ⟨w.heap.size, 0, none⟩) z1).trans p0
      have q1 := (b2.cell (p := ⟨w.heap.size, 1, none⟩) z1).trans p1
      have q2 := (b2.cell (p := ⟨w.heap.size, 2, none⟩) z1).trans p2
      have B2 := Lib.hid (B1.out.trans (b2.mono (by omega)))
      clear p0 p1 p2 b2 hs
      go_wp2_with fail
      go_ret
      exact ⟨by rw [E.out]; rfl, B2.out⟩
    · have e : validB W H zs = finL zs := by simp at ht; simp [validB, hs, H1.out, ht]
      have E := Lib.hid e
      have HT := Lib.hid hs
      clear e
      go_enter Try.func82, Try.ntmps82
      go_wp2_with fail
      refine (c_sidesOf W H _ _).mono ?_
      rintro _ w1 ⟨rfl, b1⟩
      obtain ⟨p0, p1, p2⟩ := ((Var.new _ _ _).keep b1).three
      have z1 : w.heap.size < w1.heap.size := by have := b1.size; simp at this; omega
      have B1 := Lib.hid (((Below.refl w.heap.size w).alloc (Nat.le_refl _) _).trans (b1.mono (by simp)))
      clear b1
      go_wp2_with fail
      refine (c_allowed W H _).mono ?_
      rintro _ w2 ⟨rfl, b2⟩
      rw [HT.out]
      have q0 := (b2.cell (p := ⟨w.heap.size, 0, none⟩) z1).trans p0
      have q1 := (b2.cell (p := ⟨w.heap.size, 1, none⟩) z1).trans p1
      have q2 := (b2.cell (p := ⟨w.heap.size, 2, none⟩) z1).trans p2
      have B2 := Lib.hid (B1.out.trans (b2.mono (by omega)))
      clear p0 p1 p2 b2 hs
      go_wp2_with fail
      refine (c_areFinite0 a len cap zs _ (HR.out.below B2.out)).mono ?_
      rintro _ w3 ⟨m, rfl, rfl⟩
      rw [← E.out]
      go_wp2_with fail
      go_ret
      exact ⟨rfl, below_drewN B2.out _⟩
  · intro hs
    have e : validB W H zs = false := by simp [validB, hs]
    have E := Lib.hid e
    have HT := Lib.hid hs
    clear e two
    go_enter Try.func82, Try.ntmps82
    go_wp2_with fail
    refine (c_sidesOf W H _ _).mono ?_
    rintro _ w1 ⟨rfl, b1⟩
    have B1 := Lib.hid (((Below.refl w.heap.size w).alloc (Nat.le_refl _) _).trans (b1.mono (by simp)))
    have z1 : w.heap.size < w1.heap.size := by have := b1.size; simp at this; omega
    clear b1
    go_wp2_with fail
    refine (c_allowed W H _).mono ?_
    rintro _ w2 ⟨rfl, b2⟩
    rw [HT.out]
    have B2 := Lib.hid (B1.out.trans (b2.mono (by omega)))
    clear b2 hs
    go_wp2_with fail
    go_ret
    exact ⟨by rw [E.out]; rfl, B2.out⟩
/-! ### ifValid -/
theorem c_ifValid_yes (W H : Int) (a : Option Addr) (len cap : Nat) (zs : List Nat) (w : World) (hr : IsRowF .f32 w a len cap zs) (hv : validB W H zs = true) : Calls Try.prog 106 #[.agg #[.int .i64 W, .int .i64 H, .slice a len cap]] w (RetB (.tuple #[.agg #[.int .i64 W, .int .i64 H, .slice a len cap], .bool true]) w) := by
  have HR := Lib.hid hr
  have HV := Lib.hid hv
  clear hr hv
  go_enter Try.func106, Try.ntmps106
  go_wp2_with fail
  refine (c_iValid W H a len cap zs _ ((HR.out.alloc _).alloc _)).mono ?_
  rintro _ w1 ⟨rfl, b⟩
  rw [HV.out]
  have V1 := Lib.hid ((((Var.new' _ _ _ (w.heap.size) rfl).alloc _)).keep b)
  have V2 := Lib.hid ((Var.new' _ _ _ (w.heap.size + 1) (by simp)).keep b)
  have z1 : w.heap.size + 1 < w1.heap.size := by have := b.size; simp at this; omega
  have B1 := Lib.hid ((((Below.refl w.heap.size w).alloc (Nat.le_refl _) _).alloc (by simp) _).trans (b.mono (by simp; omega)))
  have Fr := Lib.hid ((Free.new' _ _ _ (w.heap.size + 1) (by simp)).below (by simp <;> omega) b)
  clear b
  obtain ⟨p0, p1, p2⟩ := V1.out.three
  obtain ⟨q0, q1, q2⟩ := V2.out.three
  have f0 := Fr.out 0
  have f1 := Fr.out 1
  have f2 := Fr.out 2
  go_wp2_with fail
  refine bodyPost_ret (v := .tuple #[.agg #[.int .i64 W, .int .i64 H, .slice a len cap], .bool true]) (by simp [results, Try.results106, q0, q1, q2, go_sem]) rfl ⟨rfl, ?_⟩
  exact ((B1.out.setCell (by simp <;> omega) _).setCell (by simp <;> omega) _).setCell (by simp <;> omega) _
theorem c_ifValid_no (W H : Int) (a : Option Addr) (len cap : Nat) (zs : List Nat) (w : World) (hr : IsRowF .f32 w a len cap zs) (hv : validB W H zs = false) : Calls Try.prog 106 #[.agg #[.int .i64 W, .int .i64 H, .slice a len cap]] w (RetB (.tuple #[.agg #[.int .i64 0, .int .i64 0, .slice none 0 0], .bool false]) w) := by
  have HR := Lib.hid hr
  have HV := Lib.hid hv
  clear hr hv
  go_enter Try.func106, Try.ntmps106
  go_wp2_with fail
  refine (c_iValid W H a len cap zs _ ((HR.out.alloc _).alloc _)).mono ?_
  rintro _ w1 ⟨rfl, b⟩
  rw [HV.out]
  have V2 := Lib.hid ((Var.new' _ _ _ (w.heap.size + 1) (by simp)).keep b)
  have z1 : w.heap.size + 1 < w1.heap.size := by have := b.size; simp at this; omega
  have B1 := Lib.hid ((((Below.refl w.heap.size w).alloc (Nat.le_refl _) _).alloc (by simp) _).trans (b.mono (by simp; omega)))
  have Fr := Lib.hid ((Free.new' _ _ _ (w.heap.size + 1) (by simp)).below (by simp <;> omega) b)
  clear b
  obtain ⟨q0, q1, q2⟩ := V2.out.three
  have f0 := Fr.out 0
  have f1 := Fr.out 1
  have f2 := Fr.out 2
  go_wp2_with fail
  refine bodyPost_ret (v := .tuple #[.agg #[.int .i64 0, .int .i64 0, .slice none 0 0], .bool false]) (by simp [results, Try.results106, q0, q1, q2, go_sem]) rfl ⟨rfl, ?_⟩
  exact ((B1.out.setCell (by simp <;> omega) _).setCell (by simp <;> omega) _).setCell (by simp <;> omega) _

/-! ### makeDouble -/
theorem c_makeDouble (W H : Int) (cv0 : Value) (F : Nat → Nat → Nat) (w : World) (hlt : ∀ x y, F x y < 2 ^ FloatKind.f32.format.width)
    (hF : ∀ (x y : Nat) (wr : World), (x : Int) < W → (y : Int) < H → W ≤ 16 → H ≤ 16 → Below w.heap.size w wr → Calls Try.prog 98 #[.int .i64 x, .int .i64 y, cv0] wr (fun e w' => ∃ n, e = .returned (.float .f32 (pick .f32 (F x y) n)) ∧ Below wr.heap.size wr w')) :
    Calls Try.prog 91 #[.agg #[.int .i64 W, .int .i64 H], .func (.func 98) #[] #[cv0]] w (RetP 32 (resMake F W H) w) := by
  generalize hw2 : (w.alloc (Obj.cells #[.int .i64 W, .int .i64 H] 93)).alloc (Obj.cells #[.int .i64 0, .int .i64 0, .slice none 0 0] 41) = w2
  have B0 : Below w.heap.size w w2 := by subst hw2; exact ((Below.refl _ _).alloc (Nat.le_refl _) _).alloc (by simp) _
  have VA' : Var w2 w.heap.size #[.int .i64 W, .int .i64 H] := by subst hw2; exact (Var.new _ _ _).alloc _
  have VR := Lib.hid (show Var w2 (w.heap.size + 1) #[.int .i64 0, .int .i64 0, .slice none 0 0] from by subst hw2; exact Var.new' _ _ _ _ (by simp))
  have FR := Lib.hid (show Free w2 (w.heap.size + 1) from by subst hw2; exact Free.new' _ _ _ _ (by simp))
  have BW := Lib.hid B0
  have HW2 := Lib.hid hw2
  have SZ : w2.heap.size = w.heap.size + 1 + 1 := by subst hw2; simp
  have KS := Lib.hid (fun (w' : World) (hE : Below w2.heap.size w2 w') => (⟨(hE.cell (p := ⟨w.heap.size, 0, none⟩) (by show w.heap.size < _; omega)).trans (VA'.2 0 (by simp)), (hE.cell (p := ⟨w.heap.size, 1, none⟩) (by show w.heap.size < _; omega)).trans (VA'.2 1 (by simp))⟩ : w'.cell? ⟨w.heap.size, 0, none⟩ = some (.int .i64 W) ∧ w'.cell? ⟨w.heap.size, 1, none⟩ = some (.int .i64 H)))
  clear B0 VA' hw2
  have HFF := Lib.hid hF
  have HLT := Lib.hid hlt
  clear hF hlt
  unfold resMake
  cases hs : sideB W H
  · rw [if_neg (by decide)]
    have HS := Lib.hid hs
    clear hs
    obtain ⟨d0, d1⟩ := KS.out w2 (Below.refl _ _)
    go_enter Try.func91, Try.ntmps91
    go_wp2_with fail
    rw [HW2.out]
    refine (c_allowed W H _).mono ?_
    rintro _ w3 ⟨rfl, hE⟩
    rw [HS.out]
    have BX := Lib.hid (BW.out.trans (hE.mono (by omega)))
    have VX := Lib.hid (VR.out.keep hE)
    have FX := Lib.hid (FR.out.below (by omega) hE)
    have S2 : w.heap.size + 1 < w3.heap.size := by have := hE.size; omega
    clear hE d0 d1
    obtain ⟨q0, q1, q2⟩ := VX.out.three
    have f0 := FX.out 0
    have f1 := FX.out 1
    have f2 := FX.out 2
    go_wp2_with fail
    refine bodyPost_ret (v := .tuple #[.agg #[.int .i64 0, .int .i64 0, .slice none 0 0], .bool false]) (by simp [results, Try.results91, q0, q1, q2, go_sem]) rfl (show RetP _ PRes.no _ _ _ from ⟨none, 0, rfl, Nat.zero_le _, ((BX.out.setCell (by simp <;> omega) _).setCell (by simp <;> omega) _).setCell (by simp <;> omega) _, Own.nil _ _ _⟩)
  · rw [if_pos rfl]
    obtain ⟨⟨s1, s2⟩, s3, s4⟩ := sideB_true hs
    have HS := Lib.hid hs
    clear hs
    obtain ⟨Wn, rfl⟩ : ∃ n : Nat, W = n := ⟨W.toNat, by omega⟩
    obtain ⟨Hn, rfl⟩ : ∃ n : Nat, H = n := ⟨H.toNat, by omega⟩
    rw [Int.toNat_natCast, Int.toNat_natCast]
    have hN : Wn * Hn ≤ 16 * 16 := Nat.mul_le_mul (by omega) (by omega)
    obtain ⟨N, hNN⟩ : ∃ N, N = Wn * Hn := ⟨_, rfl⟩
    have HN := Lib.hid hNN
    have hN2 : N ≤ 256 := by rw [hNN]; exact hN
    have mw : IntKind.i64.wrap ((Wn : Int) * (Hn : Int)) = (N : Int) := by rw [hNN]; rw [show ((Wn : Int) * (Hn : Int)) = ((Wn * Hn : Nat) : Int) by rw [Int.natCast_mul]]; exact IntWalk.i64_in _ (by omega)
    obtain ⟨L, hL⟩ : ∃ L, L = makeL F Wn Hn := ⟨_, rfl⟩
    have HAt := Lib.hid (fun (x y k : Nat) (hk : k = y * Wn + x) (hx : x < Wn) (hy : y < Hn) => (by rw [hL]; exact makeL_at hk hx hy : fat L k = F x y))
    have HLen := Lib.hid (show L.length = N by rw [hL, makeL_len, hNN])
    rw [← hL]
    clear hNN hN hL
    obtain ⟨i0, hinf, hz0, hz1, hz2⟩ := info_parts infoFo
    obtain ⟨d0, d1⟩ := KS.out w2 (Below.refl _ _)
    go_enter Try.func91, Try.ntmps91
    go_wp2_with fail
    rw [HW2.out]
    refine (c_allowed _ _ _).mono ?_
    rintro _ w3 ⟨rfl, hE⟩
    rw [HS.out]
    have BX := Lib.hid (BW.out.trans (hE.mono (by omega)))
    have VX := Lib.hid (VR.out.keep hE)
    have FX := Lib.hid (FR.out.below (by omega) hE)
    have S2 : w.heap.size + 1 < w3.heap.size := by have := hE.size; omega
    have K3 := Lib.hid (KS.out w3 hE)
    clear hE d0 d1 KS VR FR BW
    have KX := Lib.hid (fun (wr : World) (hB : Below w3.heap.size w3 wr) => (by obtain ⟨d0, d1⟩ := K3.out; exact ⟨(hB.cell (p := ⟨w.heap.size, 0, none⟩) (by show w.heap.size < _; omega)).trans d0, (hB.cell (p := ⟨w.heap.size, 1, none⟩) (by show w.heap.size < _; omega)).trans d1⟩ : wr.cell? ⟨w.heap.size, 0, none⟩ = some (.int .i64 (Wn : Int)) ∧ wr.cell? ⟨w.heap.size, 1, none⟩ = some (.int .i64 (Hn : Int))))
    obtain ⟨d0, d1⟩ := K3.out
    go_wp2_with (at_make; refine wpList_make_own _ rfl _ _ 22 rfl w3.heap.size 32 i0 (.float .f32 0) 1 Try.underlying22 hinf hz0 hz1 _ _ _ N rfl rfl rfl (by rw [hz2]; omega) (by unfold maxLen; omega) (by simp) ?_; intro w4 hown hgrow; have B4 : Below w3.heap.size w3 w4 := (Below.refl _ _).grown hgrow (Nat.le_refl _) (by simp); obtain ⟨g0, g1⟩ := KX.out w4 B4)
    have OW : Own 32 w4 w3.heap.size (some ⟨w3.heap.size, 0, none⟩) 0 N [] := ⟨rfl, hown, by simp⟩
    have HO4 := Lib.hid OW
    have HB4 := Lib.hid B4
    clear hown hgrow B4 OW d0 d1 g0 g1 mw
    go_loopw [6, 7, 8, 21] (fun l _ _ i wr => ∃ (y k : Nat) (a : Option Addr) (c : Nat) (zs : List Nat), y ≤ Hn ∧ k = y * Wn ∧ i = .int .i64 y ∧ l = .slice a k c ∧ Own 32 wr w3.heap.size a k c zs ∧ near zs (L.take k) ∧ Below w3.heap.size w3 wr) (fun _ _ _ i _ => Hn - (intOf i).toNat)
    case atStart => exact ⟨0, 0, _, _, [], Nat.zero_le _, by simp, rfl, rfl, HO4.out, by simpa using near_nil, HB4.out⟩
    case round =>
      obtain ⟨y, k, a, c, zs, hy, hk, rfl, rfl, hO, hnear, hB⟩ := hrel
      have HO := Lib.hid hO
      have HNr := Lib.hid hnear
      have HB := Lib.hid hB
      have HK := Lib.hid hk
      clear hO hnear hB hk
      obtain ⟨d0, d1⟩ := KX.out wr HB.out
      by_cases hly : y < Hn
      · go_wp2_with fail
        clear d0 d1
        go_loopw [6, 8, 26] (fun l _ i wr => ∃ (x k : Nat) (a : Option Addr) (c : Nat) (zs : List Nat), x ≤ Wn ∧ k = y * Wn + x ∧ i = .int .i64 x ∧ l = .slice a k c ∧ Own 32 wr w3.heap.size a k c zs ∧ near zs (L.take k) ∧ Below w3.heap.size w3 wr) (fun _ _ i _ => Wn - (intOf i).toNat)
        case atStart => exact ⟨0, k, a, c, zs, Nat.zero_le _, HK.out, rfl, rfl, HO.out, HNr.out, HB.out⟩
        case round =>
          obtain ⟨x, k2, a2, c2, zs2, hx, hk2, rfl, rfl, hO2, hnear2, hB2⟩ := hrel
          have HO2 := Lib.hid hO2
          have HN2 := Lib.hid hnear2
          have HB2 := Lib.hid hB2
          have HK2 := Lib.hid hk2
          clear hO2 hnear2 hB2 hk2
          by_cases hlx : x < Wn
          · have hk1 : k2 + 1 ≤ N := by rw [HN.out]; exact make_lt HK2.out hlx hly
            go_wp2_with fail
            refine (HFF.out x y _ (by omega) (by omega) (by omega) (by omega) (BX.out.trans (HB2.out.mono (by omega)))).mono ?_
            rintro _ w5 ⟨n5, rfl, b5⟩
            have HO5 := Lib.hid (HO2.out.below b5)
            have HB5 := Lib.hid (HB2.out.trans (b5.mono HB2.out.size))
            have z5 : w3.heap.size ≤ w5.heap.size := HB5.out.size
            clear b5
            go_wp2_with (at_builtin; refine wpList_append_own _ rfl _ _ 22 rfl w3.heap.size 32 i0 (.float .f32 0) 1 4 Try.underlying22 hinf hz0 hz1 hz2 rfl (by decide) _ _ _ rfl ((HO5.out.alloc _).2.1) ⟨w5.heap.size, 0, none⟩ 1 1 [.float .f32 (pick .f32 (F x y) n5)] rfl rfl ?c1 ?c2 ?c3 ?c4 ?c5 ?_)
            case c1 =>
              intro j u hj
              match j, hj with
              | 0, hj => simp at hj; subst hj; simp [Addr.add]
            case c2 => intro u hu; simp at hu; subst hu; rfl
            case c3 => unfold maxLen; omega
            case c4 => omega
            case c5 => simp; omega
            intro v' w6 hown' hgrow _
            have hB6 : Below w3.heap.size w3 w6 := (HB5.out.alloc z5 _).grown hgrow (by simp; omega) (fun g e => by have := HO5.out.in g (by rw [← own_blk _ k2 c2]; exact e); exact this.1)
            obtain ⟨a', c', rfl, hO6⟩ := own_app hown' HO5.out.1 HO5.out.2.2 (pick_wf (HLT.out x y) n5)
            have HO6 := Lib.hid hO6
            have HB6 := Lib.hid hB6
            clear hown' hgrow hB6 hO6
            go_wp2_with fail
            go_roundw
            case rel => exact ⟨x + 1, k2 + 1, a', c', _, by omega, by rw [HK2.out]; omega, by go_num, rfl, HO6.out, by rw [← HAt.out x y k2 HK2.out hlx hly]; exact near_snoc HN2.out (by rw [HLen.out]; omega) n5, HB6.out⟩
            case measure => simp [intOf]; omega
          · obtain rfl : x = Wn := by omega
            go_wp2_with fail
            go_roundw
            case rel => exact ⟨y + 1, k2, a2, c2, zs2, by omega, by rw [HK2.out, Nat.succ_mul], by go_num, rfl, HO2.out, HN2.out, HB2.out⟩
            case measure => simp [intOf]; omega
      · obtain rfl : y = Hn := by omega
        have hkN : k = N := by rw [HK.out, HN.out, Nat.mul_comm]
        subst hkN
        have hz : near zs L := by have h := HNr.out; rwa [List.take_of_length_le (by rw [HLen.out]; exact Nat.le_refl _)] at h
        have HZN := Lib.hid hz
        have VR := Lib.hid (VX.out.keep HB.out)
        have FR := Lib.hid (FX.out.below (by omega) HB.out)
        have BW := Lib.hid (BX.out.trans (HB.out.mono (by omega)))
        have SW : w3.heap.size ≤ wr.heap.size := HB.out.size
        have HVZ := Lib.hid (near_valid (W := (Wn : Int)) (H := (y : Int)) hz)
        have hl0 : zs.length = k := HO.out.1
        have HL0 := Lib.hid hl0
        clear hz hl0
        go_wp2_with fail
        cases hv2 : validB (Wn : Int) (y : Int) L
        · have HG2 := Lib.hid (show giveP (Wn : Int) (y : Int) L = PRes.no from by unfold giveP; rw [hv2]; rfl)
          have HV2 := Lib.hid hv2
          clear hv2
          refine (c_ifValid_no _ _ _ _ _ zs wr HO.out.row (by rw [HVZ.out]; exact HV2.out)).mono ?_
          rintro _ wz ⟨rfl, b⟩
          obtain ⟨cr0, cr1, cr2⟩ := (VR.out.keep b).three
          have fr := FR.out.below (by omega) b
          have f0 := fr 0
          have f1 := fr 1
          have f2 := fr 2
          have hsz := b.size
          have HB2 := Lib.hid (BW.out.trans (b.mono (by omega)))
          clear fr b
          go_wp2_with fail
          refine bodyPost_ret (v := .tuple #[.agg #[.int .i64 0, .int .i64 0, .slice none 0 0], .bool false]) (by simp [results, Try.results91, cr0, cr1, cr2, go_sem]) rfl (by rw [HG2.out]; exact ⟨none, 0, rfl, Nat.zero_le _, ((HB2.out.setCell (by simp <;> omega) _).setCell (by simp <;> omega) _).setCell (by simp <;> omega) _, Own.nil _ _ _⟩)
        · have HG2 := Lib.hid (show giveP (Wn : Int) (y : Int) L = ⟨Wn, y, L, true⟩ from by unfold giveP; rw [hv2]; rfl)
          have hfin := valid_fin hv2
          obtain rfl := near_eq HZN.out hfin
          clear hfin
          have HV2 := Lib.hid hv2
          clear hv2
          refine (c_ifValid_yes _ _ _ _ _ _ wr HO.out.row HV2.out).mono ?_
          rintro _ wz ⟨rfl, b⟩
          obtain ⟨cr0, cr1, cr2⟩ := (VR.out.keep b).three
          have fr := FR.out.below (by omega) b
          have f0 := fr 0
          have f1 := fr 1
          have f2 := fr 2
          have hsz := b.size
          have HB2 := Lib.hid (BW.out.trans (b.mono (by omega)))
          have HO2 := Lib.hid (HO.out.below b)
          clear fr b
          go_wp2_with fail
          have hrow : blk a ≠ some (w.heap.size + 1) := fun e => by have := HO2.out.in _ e; omega
          refine bodyPost_ret (v := .tuple #[.agg #[.int .i64 (Wn : Int), .int .i64 (y : Int), .slice a k c], .bool true]) (by simp [results, Try.results91, cr0, cr1, cr2, go_sem]) rfl (by rw [HG2.out]; exact ⟨_, _, by rw [HL0.out], by (show zs.length ≤ 1048576); rw [HL0.out]; omega, ((HB2.out.setCell (by simp <;> omega) _).setCell (by simp <;> omega) _).setCell (by simp <;> omega) _, (((Own.re HL0.out.symm HO2.out).setCell hrow _).setCell hrow _).setCell hrow _ |>.mono (by omega)⟩)

/-! ### rowOf -/
theorem c_rowOf (Wn Hn : Nat) (a : Option Addr) (cap : Nat) (zs : List Nat) (y : Nat) (w : World) (hr : IsRowF .f32 w a zs.length cap zs) (hW1 : 1 ≤ Wn) (hW2 : Wn ≤ 16) (hH2 : Hn ≤ 16) (hl : zs.length = Wn * Hn) (hy : y < Hn) :
    Calls Try.prog 99 #[.agg #[.int .i64 (Wn : Int), .int .i64 (Hn : Int), .slice a zs.length cap], .int .i64 (y : Int)] w (fun e w' => ∃ b off, a = some ⟨b, off, none⟩ ∧ e = .returned (.slice (some ⟨b, off + y * Wn, none⟩) Wn Wn) ∧ Below w.heap.size w w') := by
  obtain ⟨hb1, hb2⟩ := mul_bound hy hW2 hH2
  obtain ⟨N, hN⟩ : ∃ N, N = zs.length := ⟨_, rfl⟩
  obtain ⟨P, hP⟩ : ∃ P : Nat, P = y * Wn := ⟨_, rfl⟩
  have hPi : (y : Int) * (Wn : Int) = (P : Int) := by rw [hP, Int.natCast_mul]
  have hPi2 : ((y : Int) + 1) * (Wn : Int) = (P : Int) + (Wn : Int) := by rw [Int.add_mul, hPi, Int.one_mul]
  rw [← hP] at hb1 hb2 ⊢
  rw [← hl, ← hN] at hb1
  rw [← hN] at hr ⊢
  have hcap : N ≤ cap := hr.2.1
  have hcm : cap ≤ maxLen := hr.2.2.1
  unfold maxLen at hcm
  obtain ⟨b, off, n0, rfl, hb, e0⟩ := hr.at (k := 0) (by omega)
  have M1 := Lib.hid (show IntKind.i64.wrap ((y : Int) * (Wn : Int)) = (P : Int) by rw [hPi]; exact IntWalk.i64_in _ (by omega))
  have M2 := Lib.hid (show IntKind.i64.wrap (((y : Int) + 1) * (Wn : Int)) = (P : Int) + (Wn : Int) by rw [hPi2]; exact IntWalk.i64_in _ (by omega))
  have M3 := Lib.hid (show IntKind.i64.wrap ((y : Int) + 1) = (y : Int) + 1 from IntWalk.i64_in _ (by omega))
  have hc2 : P + Wn ≤ cap := by omega
  clear hN hP hPi hPi2 hl hr hb e0 n0
  generalize hw0 : w.alloc (Obj.cells #[.int .i64 (Wn : Int), .int .i64 (Hn : Int), .slice (some ⟨b, off, none⟩) N cap] 41) = w0
  have X0 : Var w0 w.heap.size #[.int .i64 (Wn : Int), .int .i64 (Hn : Int), .slice (some ⟨b, off, none⟩) N cap] := by subst hw0; exact Var.new _ _ _
  have X3 : Below w.heap.size w w0 := by subst hw0; exact (Below.refl _ _).alloc (Nat.le_refl _) _
  have HW := Lib.hid hw0
  have B0 := Lib.hid X3
  obtain ⟨v0, v1, v2⟩ := X0.three
  clear hw0 X0 X3
  go_enter Try.func99, Try.ntmps99
  go_wp2_with fail
  rw [HW.out]
  rw [← w0.drewN_zero]
  have m1 := M1.out
  have m2 := M2.out
  have m3 := M3.out
  refine wp_region_N (fun _ _ _ => True) (by kernel_rfl) (by kernel_rfl) ?_; (repeat (first | ((with_reducible show wpN _ _ _ _ _ (Oper.mk _ (Op.binOp _ _ _ _ _) _ _ _ none :: _) _); refine wpN_fop rfl _ _ _ _ _ rfl _ _ _ rfl rfl (by decide) ?_; intro _) | ((with_reducible show wpN _ _ _ _ _ (Oper.mk _ (Op.convert _ _ _) _ _ _ none :: _) _); refine wpN_cvU rfl 32 36 _ rfl (Option.isSome_iff_exists.2 ⟨_, Try.underlying32⟩) Try.underlying36 _ rfl ?_; intro _) | ((with_reducible show wpN _ _ _ _ _ (Oper.mk _ _ _ _ _ (some _) :: _) _); (with_reducible refine wpN_off ?_ ?_); focus rfl; (simp only [Act.put, List.setIfInBounds_toArray, List.set_cons_zero, List.set_cons_succ])) | ((with_reducible show wpN _ _ _ _ _ (Oper.mk _ _ _ _ _ (some _) :: _) _); ((with_reducible refine wpN_on ?_ (fun K hK => ?_)); (focus rfl); intro _; go_simp; first | (refine uponN_value (hK _ ?_)) | (fail; refine hK _ ?_)); clear hK K) | (((with_reducible refine wpN_plain rfl (fun K hK => ?_)); intro _; go_simp; first | (refine uponN_value (hK _ ?_)) | (fail; refine hK _ ?_)); clear hK K) | ((with_reducible refine wpN_step (fun K hK => ?_)); go_simp; first | (refine hK _ ?_) | (intro _; first | (refine uponN_value (hK _ ?_)) | (fail; refine hK _ ?_)); clear hK K))); refine wpN_nil ?_; intro _
  clear m1 m2 m3
  go_wp2_with fail
  go_ret
  exact ⟨b, off, rfl, by simp, below_drewN B0.out _⟩

/-! ### iDouble -/
theorem c_halfAny (W H : Int) (w : World) : Calls Try.prog 93 #[.agg #[.int .i64 W, .int .i64 H]] w (RetB (.agg #[.int .i64 (hv W), .int .i64 (hv H)]) w) := by
  unfold hv
  go_enter Try.func93, Try.ntmps93
  go_wp2_with fail
  exact bodyPost_ret (v := .agg #[.int .i64 (IntKind.i64.wrap ((IntKind.i64.wrap (W + 1)).tdiv 2)), .int .i64 (IntKind.i64.wrap ((IntKind.i64.wrap (H + 1)).tdiv 2))]) (by simp [results, Try.results93, go_sem]; simp only [IntWalk.i64_left, and_self]) rfl ⟨rfl, ((Below.refl _ _).alloc (Nat.le_refl _) _).alloc (by simp) _⟩
theorem c_double1 (Wn Hn x y : Nat) (a : Option Addr) (cap : Nat) (zs : List Nat) (b : Nat) (w : World) (hv : Var w b #[.int .i64 (Wn : Int), .int .i64 (Hn : Int), .slice a zs.length cap]) (hr : IsRowF .f32 w a zs.length cap zs) (hW1 : 1 ≤ Wn) (hW2 : Wn ≤ 16) (hH2 : Hn ≤ 16) (hl : zs.length = Wn * Hn) (hx : x / 2 < Wn) (hy : y / 2 < Hn) (hidx : y / 2 * Wn + x / 2 < Wn * Hn) :
    Calls Try.prog 98 #[.int .i64 (x : Int), .int .i64 (y : Int), .pointer (some ⟨b, 0, none⟩)] w (fun e w' => ∃ n, e = .returned (.float .f32 (pick .f32 (doubleF zs Wn x y) n)) ∧ Below w.heap.size w w') := by
  unfold doubleF
  rw [← hl] at hidx
  obtain ⟨b0, off, n0, rfl, hb, e0⟩ := hr.at hidx
  have CR := Lib.hid (c_rowOf Wn Hn _ cap zs (y / 2) w hr hW1 hW2 hH2 hl hy)
  obtain ⟨xq, hxq⟩ : ∃ q, q = x / 2 := ⟨_, rfl⟩
  obtain ⟨yq, hyq⟩ : ∃ q, q = y / 2 := ⟨_, rfl⟩
  have g1 : (x : Int).tdiv 2 = (xq : Int) := by rw [Int.tdiv_eq_ediv_of_nonneg (by omega)]; omega
  have g2 : (y : Int).tdiv 2 = (yq : Int) := by rw [Int.tdiv_eq_ediv_of_nonneg (by omega)]; omega
  have g3 : (x : Int) / 2 = (xq : Int) := by omega
  have g4 : (y : Int) / 2 = (yq : Int) := by omega
  rw [← hxq, ← hyq] at e0
  rw [← hxq] at hx
  rw [← hyq] at hy CR
  rw [← hxq, ← hyq]
  have w1 : IntKind.i64.wrap (xq : Int) = (xq : Int) := IntWalk.i64_in _ (by omega)
  have w2 : IntKind.i64.wrap (yq : Int) = (yq : Int) := IntWalk.i64_in _ (by omega)
  obtain ⟨P, hP⟩ : ∃ P, P = yq * Wn := ⟨_, rfl⟩
  rw [← hP] at e0 CR ⊢
  rw [← Nat.add_assoc] at e0
  obtain ⟨v0, v1, v2⟩ := hv.three
  have E0 := Lib.hid e0
  clear e0 hP hl hr hidx hv hxq hyq
  have hx2 : (xq : Int) < (Wn : Int) := by omega
  go_enter Try.func98, Try.ntmps98
  go_wp2_with fail
  refine CR.out.mono ?_
  rintro _ w1 ⟨b1, off1, hab, rfl, hbel⟩
  cases hab
  have e1 := (hbel.cell (p := ⟨b0, off + P + xq, none⟩) hb).trans E0.out
  have B1 := Lib.hid hbel
  clear hbel v0 v1 v2
  go_wp2_with fail
  go_ret
  exact ⟨_, rfl, B1.out⟩
theorem c_iDoublePicture (WA HA : Int) (zA : List Nat) (aA : Option Addr) (cA : Nat) (wd hg : Int) (w : World) (rA : IsRowF .f32 w aA zA.length cA zA) (hwd : (Lit.int .i64 wd).wf = true) (hhg : (Lit.int .i64 hg).wf = true) : Calls Try.prog 52 #[.agg #[.int .i64 WA, .int .i64 HA, .slice aA zA.length cA], .int .i64 wd, .int .i64 hg] w (RetP 32 (resDouble WA HA zA wd hg) w) := by
  generalize hw0 : ((w.alloc (Obj.cells #[.int .i64 WA, .int .i64 HA, .slice aA zA.length cA] 41)).alloc (Obj.cells #[.int .i64 0, .int .i64 0, .slice none 0 0] 41)).alloc (Obj.cells #[.int .i64 wd, .int .i64 hg] 93) = w0
  have X0 : Var w0 w.heap.size #[.int .i64 WA, .int .i64 HA, .slice aA zA.length cA] := by subst hw0; exact ((Var.new _ _ _).alloc _).alloc _
  have X1 : Var w0 (w.heap.size + 1) #[.int .i64 0, .int .i64 0, .slice none 0 0] := by subst hw0; exact (Var.new' _ _ _ _ (by simp)).alloc _
  have X5 : Var w0 (w.heap.size + 1 + 1) #[.int .i64 wd, .int .i64 hg] := by subst hw0; exact Var.new' _ _ _ _ (by simp)
  have X2 : Free w0 (w.heap.size + 1) := by subst hw0; exact (Free.new' _ _ _ _ (by simp)).alloc (by simp) _
  have X3 : Below w.heap.size w w0 := by subst hw0; exact (((Below.refl _ _).alloc (Nat.le_refl _) _).alloc (by simp) _).alloc (by simp; omega) _
  have X4 : w0.heap.size = w.heap.size + 1 + 1 + 1 := by subst hw0; simp
  have HW := Lib.hid hw0
  have V0 := Lib.hid X0
  have V1 := Lib.hid X1
  have V2 := Lib.hid X5
  have F1 := Lib.hid X2
  have B0 := Lib.hid X3
  have RX := Lib.hid (rA.below X3)
  have KS := Lib.hid (fun (w' : World) (hE : Below w0.heap.size w0 w') => (⟨(X0.keep hE).three.1, (X0.keep hE).three.2.1, (X0.keep hE).three.2.2, (X5.keep hE).2 0 (by simp), (X5.keep hE).2 1 (by simp)⟩ : w'.cell? ⟨w.heap.size, 0, none⟩ = some (.int .i64 WA) ∧ w'.cell? ⟨w.heap.size, 1, none⟩ = some (.int .i64 HA) ∧ w'.cell? ⟨w.heap.size, 2, none⟩ = some (.slice aA zA.length cA) ∧ w'.cell? ⟨w.heap.size + 1 + 1, 0, none⟩ = some (.int .i64 wd) ∧ w'.cell? ⟨w.heap.size + 1 + 1, 1, none⟩ = some (.int .i64 hg)))
  have HH := Lib.hid (fun w => c_halfAny wd hg w)
  clear hw0 X0 X1 X2 X3 X5 rA
  unfold resDouble
  cases hv1 : validB WA HA zA
  · rw [Bool.false_and, if_neg (by decide)]
    have HVA := Lib.hid hv1
    clear hv1
    go_enter Try.func52, Try.ntmps52
    go_wp2_with fail
    rw [HW.out]
    refine wp_region_facts 10 (Below w0.heap.size) (Below.refl _) (fun _ _ _ => Below.trans) (below_drewN (Below.refl _ _) 1) (by kernel_rfl) (by kernel_rfl) (by kernel_rfl) (by kernel_rfl) ?_
    simp only [List.take_succ_cons, List.take_zero, List.drop_succ_cons, List.drop_zero]
    (with_reducible apply wpF_val); (focus (intro vs w' hE hk; (obtain ⟨d0, d1, d2, s0, s1⟩ := KS.out w' hE); go_simp; exact ⟨Below.refl _ _, rfl⟩)); (simp only [Act.put, List.setIfInBounds_toArray, List.set_cons_zero, List.set_cons_succ, List.cons_append, List.nil_append])
    (with_reducible apply wpF_val); (focus (intro vs w' hE hk; (obtain ⟨d0, d1, d2, s0, s1⟩ := KS.out w' hE); go_simp; refine (c_iValid WA HA aA _ cA zA _ (RX.out.below hE)).mono ?_; rintro _ w9 ⟨rfl, b⟩; rw [HVA.out]; exact ⟨_, rfl, b.mono (by have := hE.size; omega), rfl⟩)); (simp only [Act.put, List.setIfInBounds_toArray, List.set_cons_zero, List.set_cons_succ, List.cons_append, List.nil_append])
    (with_reducible apply wpF_val); (focus (intro vs w' hE hk; (obtain ⟨d0, d1, d2, s0, s1⟩ := KS.out w' hE); go_simp; exact ⟨Below.refl _ _, rfl⟩)); (simp only [Act.put, List.setIfInBounds_toArray, List.set_cons_zero, List.set_cons_succ, List.cons_append, List.nil_append])
    (with_reducible apply wpF_val); (focus (intro vs w' hE hk; (obtain ⟨d0, d1, d2, s0, s1⟩ := KS.out w' hE); go_simp; exact ⟨Below.refl _ _, rfl⟩)); (simp only [Act.put, List.setIfInBounds_toArray, List.set_cons_zero, List.set_cons_succ, List.cons_append, List.nil_append])
    (with_reducible apply wpF_val); (focus (intro vs w' hE hk; (obtain ⟨d0, d1, d2, s0, s1⟩ := KS.out w' hE); go_simp; rfl)); (simp only [Act.put, List.setIfInBounds_toArray, List.set_cons_zero, List.set_cons_succ, List.cons_append, List.nil_append])
    (with_reducible apply wpF_val); (focus (intro vs w' hE hk; (obtain ⟨d0, d1, d2, s0, s1⟩ := KS.out w' hE); go_simp; rfl)); (simp only [Act.put, List.setIfInBounds_toArray, List.set_cons_zero, List.set_cons_succ, List.cons_append, List.nil_append])
    (with_reducible apply wpF_val); (focus (intro vs w' hE hk; (obtain ⟨d0, d1, d2, s0, s1⟩ := KS.out w' hE); go_simp; rfl)); (simp only [Act.put, List.setIfInBounds_toArray, List.set_cons_zero, List.set_cons_succ, List.cons_append, List.nil_append])
    (with_reducible apply wpF_val); (focus (intro vs w' hE hk; (obtain ⟨d0, d1, d2, s0, s1⟩ := KS.out w' hE); go_simp; rfl)); (simp only [Act.put, List.setIfInBounds_toArray, List.set_cons_zero, List.set_cons_succ, List.cons_append, List.nil_append])
    (with_reducible apply wpF_val); (focus (intro vs w' hE hk; (obtain ⟨d0, d1, d2, s0, s1⟩ := KS.out w' hE); go_simp; rfl)); (simp only [Act.put, List.setIfInBounds_toArray, List.set_cons_zero, List.set_cons_succ, List.cons_append, List.nil_append])
    (with_reducible apply wpF_val); (focus (intro vs w' hE hk; (obtain ⟨d0, d1, d2, s0, s1⟩ := KS.out w' hE); go_simp; exact ⟨Below.refl _ _, rfl⟩)); (simp only [Act.put, List.setIfInBounds_toArray, List.set_cons_zero, List.set_cons_succ, List.cons_append, List.nil_append])
    refine wpF_nil (fun vs w1 hE hk => ?_)
    have VV := Lib.hid (V1.out.keep hE)
    have UU := Lib.hid (V0.out.keep hE)
    have TT := Lib.hid (V2.out.keep hE)
    have FF := Lib.hid (F1.out.below V1.out.lt hE)
    have BB := Lib.hid (B0.out.trans (hE.mono (by omega)))
    have RR := Lib.hid (RX.out.below hE)
    have zz : w.heap.size + 1 < w1.heap.size := VV.out.lt
    have zs1 : w0.heap.size ≤ w1.heap.size := hE.size
    clear hE hk
    obtain ⟨q0, q1, q2⟩ := VV.out.three
    have f0 := FF.out 0
    have f1 := FF.out 1
    have f2 := FF.out 2
    go_wp2_with fail
    refine bodyPost_ret (v := .tuple #[.agg #[.int .i64 0, .int .i64 0, .slice none 0 0], .bool false]) (by simp [results, Try.results52, q0, q1, q2, go_sem]) rfl (show RetP _ PRes.no _ _ _ from ⟨none, 0, rfl, Nat.zero_le _, ((BB.out.setCell (by simp <;> omega) _).setCell (by simp <;> omega) _).setCell (by simp <;> omega) _, Own.nil _ _ _⟩)
  rw [Bool.true_and]
  have hb := hv1
  have HVA := Lib.hid hv1
  have hlen := (valid_len hb).1
  have hfin := valid_fin hb
  have hsb : sideB WA HA = true := by have h := hb; simp only [validB, Bool.and_eq_true] at h; exact h.1.1
  obtain ⟨⟨s1, s2⟩, s3, s4⟩ := sideB_true hsb
  have e1 := hv_eq hwd s1 s2
  have e2 := hv_eq hhg s3 s4
  have HFB := Lib.hid (show fitB WA HA wd hg = (hv wd == WA && hv hg == HA) by unfold fitB; rw [e1, e2])
  clear e1 e2 hv1
  cases hf : (hv wd == WA && hv hg == HA)
  · rw [HFB.out, hf, Bool.and_false, if_neg (by decide)]
    generalize hv wd = hw at *
    generalize hv hg = hh at *
    clear HFB hb hlen hfin hsb
    cases h1 : (hw == WA) <;> cases h2 : (hh == HA)
    rotate_left 3
    · rw [h1, h2] at hf; cases hf
    all_goals
      clear hf
      go_enter Try.func52, Try.ntmps52
      go_wp2_with fail
      rw [HW.out]
      refine wp_region_facts 10 (Below w0.heap.size) (Below.refl _) (fun _ _ _ => Below.trans) (below_drewN (Below.refl _ _) 1) (by kernel_rfl) (by kernel_rfl) (by kernel_rfl) (by kernel_rfl) ?_
      simp only [List.take_succ_cons, List.take_zero, List.drop_succ_cons, List.drop_zero]
      (with_reducible apply wpF_val); (focus (intro vs w' hE hk; (obtain ⟨d0, d1, d2, s0, s1⟩ := KS.out w' hE); go_simp; exact ⟨Below.refl _ _, rfl⟩)); (simp only [Act.put, List.setIfInBounds_toArray, List.set_cons_zero, List.set_cons_succ, List.cons_append, List.nil_append])
      (with_reducible apply wpF_val); (focus (intro vs w' hE hk; (obtain ⟨d0, d1, d2, s0, s1⟩ := KS.out w' hE); go_simp; refine (c_iValid WA HA aA _ cA zA _ (RX.out.below hE)).mono ?_; rintro _ w9 ⟨rfl, b⟩; rw [HVA.out]; exact ⟨_, rfl, b.mono (by have := hE.size; omega), rfl⟩)); (simp only [Act.put, List.setIfInBounds_toArray, List.set_cons_zero, List.set_cons_succ, List.cons_append, List.nil_append])
      (with_reducible apply wpF_val); (focus (intro vs w' hE hk; (obtain ⟨d0, d1, d2, s0, s1⟩ := KS.out w' hE); go_simp; exact ⟨Below.refl _ _, rfl⟩)); (simp only [Act.put, List.setIfInBounds_toArray, List.set_cons_zero, List.set_cons_succ, List.cons_append, List.nil_append])
      (with_reducible apply wpF_val); (focus (intro vs w' hE hk; (obtain ⟨d0, d1, d2, s0, s1⟩ := KS.out w' hE); go_simp; exact ⟨Below.refl _ _, rfl⟩)); (simp only [Act.put, List.setIfInBounds_toArray, List.set_cons_zero, List.set_cons_succ, List.cons_append, List.nil_append])
      (with_reducible apply wpF_val); (focus (intro vs w' hE hk; (obtain ⟨d0, d1, d2, s0, s1⟩ := KS.out w' hE); go_simp; exact ⟨Below.refl _ _, rfl⟩)); (simp only [Act.put, List.setIfInBounds_toArray, List.set_cons_zero, List.set_cons_succ, List.cons_append, List.nil_append])
      (with_reducible apply wpF_val); (focus (intro vs w' hE hk; (obtain ⟨d0, d1, d2, s0, s1⟩ := KS.out w' hE); go_simp; refine (HH.out _).mono ?_; rintro _ w9 ⟨rfl, b⟩; exact ⟨_, rfl, b.mono (by have := hE.size; omega), rfl⟩)); (simp only [Act.put, List.setIfInBounds_toArray, List.set_cons_zero, List.set_cons_succ, List.cons_append, List.nil_append])
      (with_reducible apply wpF_val); (focus (intro vs w' hE hk; (obtain ⟨d0, d1, d2, s0, s1⟩ := KS.out w' hE); go_simp; exact ⟨Below.refl _ _, rfl⟩)); (simp only [Act.put, List.setIfInBounds_toArray, List.set_cons_zero, List.set_cons_succ, List.cons_append, List.nil_append])
      (with_reducible apply wpF_val); (focus (intro vs w' hE hk; (obtain ⟨d0, d1, d2, s0, s1⟩ := KS.out w' hE); go_simp; refine (c_sidesOf WA HA _ _).mono ?_; rintro _ w9 ⟨rfl, b⟩; exact ⟨_, rfl, b.mono (by have := hE.size; omega), rfl⟩)); (simp only [Act.put, List.setIfInBounds_toArray, List.set_cons_zero, List.set_cons_succ, List.cons_append, List.nil_append])
      (with_reducible apply wpF_val); (focus (intro vs w' hE hk; (obtain ⟨d0, d1, d2, s0, s1⟩ := KS.out w' hE); go_simp; exact ⟨Below.refl _ _, rfl⟩)); (simp only [Act.put, List.setIfInBounds_toArray, List.set_cons_zero, List.set_cons_succ, List.cons_append, List.nil_append])
      (with_reducible apply wpF_val); (focus (intro vs w' hE hk; (obtain ⟨d0, d1, d2, s0, s1⟩ := KS.out w' hE); go_simp; exact ⟨Below.refl _ _, rfl⟩)); (simp only [Act.put, List.setIfInBounds_toArray, List.set_cons_zero, List.set_cons_succ, List.cons_append, List.nil_append])
      refine wpF_nil (fun vs w1 hE hk => ?_)
      have VV := Lib.hid (V1.out.keep hE)
      have UU := Lib.hid (V0.out.keep hE)
      have TT := Lib.hid (V2.out.keep hE)
      have FF := Lib.hid (F1.out.below V1.out.lt hE)
      have BB := Lib.hid (B0.out.trans (hE.mono (by omega)))
      have RR := Lib.hid (RX.out.below hE)
      have zz : w.heap.size + 1 < w1.heap.size := VV.out.lt
      have zs1 : w0.heap.size ≤ w1.heap.size := hE.size
      clear hE hk
      obtain ⟨q0, q1, q2⟩ := VV.out.three
      have f0 := FF.out 0
      have f1 := FF.out 1
      have f2 := FF.out 2
      go_wp2_with fail
      refine bodyPost_ret (v := .tuple #[.agg #[.int .i64 0, .int .i64 0, .slice none 0 0], .bool false]) (by simp [results, Try.results52, q0, q1, q2, go_sem]) rfl (show RetP _ PRes.no _ _ _ from ⟨none, 0, rfl, Nat.zero_le _, ((BB.out.setCell (by simp <;> omega) _).setCell (by simp <;> omega) _).setCell (by simp <;> omega) _, Own.nil _ _ _⟩)
  · rw [HFB.out, hf, Bool.and_true]
    have hfb := HFB.out
    rw [hf] at hfb
    simp only [Bool.and_eq_true] at hf
    obtain ⟨h1, h2⟩ := hf
    have hres : resMake (doubleF zA WA.toNat) wd hg = (if sideB wd hg = true then ⟨wd, hg, makeL (doubleF zA WA.toNat) wd.toNat hg.toNat, true⟩ else PRes.no) := by
      unfold resMake
      cases hs : sideB wd hg
      · rfl
      · rw [if_pos rfl, if_pos rfl]
        obtain ⟨wn, hn, rfl, rfl, i1, i2, i3, i4, rfl, rfl⟩ := fit_nats hs hfb
        rw [Int.toNat_natCast, Int.toNat_natCast, Int.toNat_natCast]
        have hl : zA.length = (wn + 1) / 2 * ((hn + 1) / 2) := by rw [← Int.natCast_mul] at hlen; omega
        unfold giveP
        rw [if_pos (double_valid rfl rfl hl i1 i2 i3 i4 hfin)]
    rw [← hres]
    have RAw := RX.out.2.2.2.1
    have CM := Lib.hid (fun (w1 : World) (hv1 : Var w1 w.heap.size #[.int .i64 WA, .int .i64 HA, .slice aA zA.length cA]) (hr1 : IsRowF .f32 w1 aA zA.length cA zA) => c_makeDouble wd hg (.pointer (some ⟨w.heap.size, 0, none⟩)) (fun x y => if (x : Int) < wd ∧ (y : Int) < hg ∧ sideB wd hg = true then doubleF zA WA.toNat x y else 0) w1 (fun x y => by
        try dsimp only
        split
        · rename_i h
          obtain ⟨wn, hn, rfl, rfl, i1, i2, i3, i4, rfl, rfl⟩ := fit_nats h.2.2 hfb
          rw [Int.toNat_natCast]
          have hl : zA.length = (wn + 1) / 2 * ((hn + 1) / 2) := by rw [← Int.natCast_mul] at hlen; omega
          obtain ⟨_, _, j3⟩ := double_idx (x := x) (y := y) (wn := wn) (hn := hn) rfl rfl (by omega) (by omega)
          exact lt_of_wf (RAw _ (fat_mem (by rw [hl]; exact j3)))
        · exact (by decide +kernel : 0 < 2 ^ FloatKind.f32.format.width)) (fun x y wr hx hy hW hH hB => by
        have hs : sideB wd hg = true := by simp only [sideB, Bool.and_eq_true, decide_eq_true_eq]; omega
        rw [if_pos ⟨hx, hy, hs⟩]
        obtain ⟨wn, hn, rfl, rfl, i1, i2, i3, i4, rfl, rfl⟩ := fit_nats hs hfb
        rw [Int.toNat_natCast]
        have hl : zA.length = (wn + 1) / 2 * ((hn + 1) / 2) := by rw [← Int.natCast_mul] at hlen; omega
        obtain ⟨j1, j2, j3⟩ := double_idx (x := x) (y := y) (wn := wn) (hn := hn) rfl rfl (by omega) (by omega)
        exact c_double1 _ _ x y aA cA zA w.heap.size wr (hv1.keep hB) (hr1.below hB) (by omega) (by omega) (by omega) hl j1 j2 j3))
    have hsame : resMake (fun x y => if (x : Int) < wd ∧ (y : Int) < hg ∧ sideB wd hg = true then doubleF zA WA.toNat x y else 0) wd hg = resMake (doubleF zA WA.toNat) wd hg := by
      unfold resMake
      cases hs : sideB wd hg
      · rfl
      · rw [if_pos rfl, if_pos rfl]
        obtain ⟨⟨t1, t2⟩, t3, t4⟩ := sideB_true hs
        have : makeL (fun x y => if (x : Int) < wd ∧ (y : Int) < hg ∧ True then doubleF zA WA.toNat x y else 0) wd.toNat hg.toNat = makeL (doubleF zA WA.toNat) wd.toNat hg.toNat := by
          refine fat_ext (by rw [makeL_len, makeL_len]) (fun i hi => ?_)
          rw [makeL_len] at hi
          have h1 : ((i % wd.toNat : Nat) : Int) < wd := by have := Nat.mod_lt i (show wd.toNat > 0 by omega); omega
          have h2 : ((i / wd.toNat : Nat) : Int) < hg := by have := Nat.div_lt_of_lt_mul hi; omega
          have h1' : (i : Int) % (wd.toNat : Int) < wd := by rwa [Int.natCast_emod] at h1
          have h2' : (i : Int) / (wd.toNat : Int) < hg := by rwa [Int.natCast_ediv] at h2
          simp only [fat, makeL, List.getD, List.getElem?_map, List.getElem?_range hi, Option.map_some, Option.getD_some]
          rw [if_pos ⟨h1, h2, trivial⟩]
        simp only [hs] at this ⊢
        rw [this]
    rw [hsame] at CM
    clear hsame hres hlen hsb RAw hfin hb hfb HFB
    generalize resMake (doubleF zA WA.toNat) wd hg = r at *
    generalize hv wd = hw at *
    generalize hv hg = hh at *
    go_enter Try.func52, Try.ntmps52
    go_wp2_with fail
    rw [HW.out]
    refine wp_region_facts 10 (Below w0.heap.size) (Below.refl _) (fun _ _ _ => Below.trans) (below_drewN (Below.refl _ _) 1) (by kernel_rfl) (by kernel_rfl) (by kernel_rfl) (by kernel_rfl) ?_
    simp only [List.take_succ_cons, List.take_zero, List.drop_succ_cons, List.drop_zero]
    (with_reducible apply wpF_val); (focus (intro vs w' hE hk; (obtain ⟨d0, d1, d2, s0, s1⟩ := KS.out w' hE); go_simp; exact ⟨Below.refl _ _, rfl⟩)); (simp only [Act.put, List.setIfInBounds_toArray, List.set_cons_zero, List.set_cons_succ, List.cons_append, List.nil_append])
    (with_reducible apply wpF_val); (focus (intro vs w' hE hk; (obtain ⟨d0, d1, d2, s0, s1⟩ := KS.out w' hE); go_simp; refine (c_iValid WA HA aA _ cA zA _ (RX.out.below hE)).mono ?_; rintro _ w9 ⟨rfl, b⟩; rw [HVA.out]; exact ⟨_, rfl, b.mono (by have := hE.size; omega), rfl⟩)); (simp only [Act.put, List.setIfInBounds_toArray, List.set_cons_zero, List.set_cons_succ, List.cons_append, List.nil_append])
    (with_reducible apply wpF_val); (focus (intro vs w' hE hk; (obtain ⟨d0, d1, d2, s0, s1⟩ := KS.out w' hE); go_simp; exact ⟨Below.refl _ _, rfl⟩)); (simp only [Act.put, List.setIfInBounds_toArray, List.set_cons_zero, List.set_cons_succ, List.cons_append, List.nil_append])
    (with_reducible apply wpF_val); (focus (intro vs w' hE hk; (obtain ⟨d0, d1, d2, s0, s1⟩ := KS.out w' hE); go_simp; exact ⟨Below.refl _ _, rfl⟩)); (simp only [Act.put, List.setIfInBounds_toArray, List.set_cons_zero, List.set_cons_succ, List.cons_append, List.nil_append])
    (with_reducible apply wpF_val); (focus (intro vs w' hE hk; (obtain ⟨d0, d1, d2, s0, s1⟩ := KS.out w' hE); go_simp; exact ⟨Below.refl _ _, rfl⟩)); (simp only [Act.put, List.setIfInBounds_toArray, List.set_cons_zero, List.set_cons_succ, List.cons_append, List.nil_append])
    (with_reducible apply wpF_val); (focus (intro vs w' hE hk; (obtain ⟨d0, d1, d2, s0, s1⟩ := KS.out w' hE); go_simp; refine (HH.out _).mono ?_; rintro _ w9 ⟨rfl, b⟩; exact ⟨_, rfl, b.mono (by have := hE.size; omega), rfl⟩)); (simp only [Act.put, List.setIfInBounds_toArray, List.set_cons_zero, List.set_cons_succ, List.cons_append, List.nil_append])
    (with_reducible apply wpF_val); (focus (intro vs w' hE hk; (obtain ⟨d0, d1, d2, s0, s1⟩ := KS.out w' hE); go_simp; exact ⟨Below.refl _ _, rfl⟩)); (simp only [Act.put, List.setIfInBounds_toArray, List.set_cons_zero, List.set_cons_succ, List.cons_append, List.nil_append])
    (with_reducible apply wpF_val); (focus (intro vs w' hE hk; (obtain ⟨d0, d1, d2, s0, s1⟩ := KS.out w' hE); go_simp; refine (c_sidesOf WA HA _ _).mono ?_; rintro _ w9 ⟨rfl, b⟩; exact ⟨_, rfl, b.mono (by have := hE.size; omega), rfl⟩)); (simp only [Act.put, List.setIfInBounds_toArray, List.set_cons_zero, List.set_cons_succ, List.cons_append, List.nil_append])
    (with_reducible apply wpF_val); (focus (intro vs w' hE hk; (obtain ⟨d0, d1, d2, s0, s1⟩ := KS.out w' hE); go_simp; exact ⟨Below.refl _ _, rfl⟩)); (simp only [Act.put, List.setIfInBounds_toArray, List.set_cons_zero, List.set_cons_succ, List.cons_append, List.nil_append])
    (with_reducible apply wpF_val); (focus (intro vs w' hE hk; (obtain ⟨d0, d1, d2, s0, s1⟩ := KS.out w' hE); go_simp; exact ⟨Below.refl _ _, rfl⟩)); (simp only [Act.put, List.setIfInBounds_toArray, List.set_cons_zero, List.set_cons_succ, List.cons_append, List.nil_append])
    refine wpF_nil (fun vs w1 hE hk => ?_)
    have VV := Lib.hid (V1.out.keep hE)
    have UU := Lib.hid (V0.out.keep hE)
    have TT := Lib.hid (V2.out.keep hE)
    have FF := Lib.hid (F1.out.below V1.out.lt hE)
    have BB := Lib.hid (B0.out.trans (hE.mono (by omega)))
    have RR := Lib.hid (RX.out.below hE)
    have zz : w.heap.size + 1 < w1.heap.size := VV.out.lt
    have zs1 : w0.heap.size ≤ w1.heap.size := hE.size
    clear hE hk
    have t0 : w1.cell? ⟨w.heap.size + 1 + 1, 0, none⟩ = some (.int .i64 wd) := TT.out.2 0 (by simp)
    have t1 : w1.cell? ⟨w.heap.size + 1 + 1, 1, none⟩ = some (.int .i64 hg) := TT.out.2 1 (by simp)
    go_wp2_with fail
    refine (CM.out w1 UU.out RR.out).mono ?_
    rintro _ w9 ⟨a9, cap9, rfl, hl9, b9, o9⟩
    have V9 := Lib.hid (VV.out.keep b9)
    have F9 := Lib.hid (FF.out.below zz b9)
    have B9 := Lib.hid (BB.out.trans (b9.mono (by omega)))
    have z9 : w1.heap.size ≤ w9.heap.size := b9.size
    have O9 := Lib.hid o9
    have HL9 := Lib.hid hl9
    clear b9 o9 hl9 t0 t1
    obtain ⟨q0, q1, q2⟩ := V9.out.three
    have f0 := F9.out 0
    have f1 := F9.out 1
    have f2 := F9.out 2
    go_wp2_with fail
    have hrow : blk a9 ≠ some (w.heap.size + 1) := fun e => by have := O9.out.in _ e; omega
    refine bodyPost_ret (v := .tuple #[.agg #[.int .i64 r.W, .int .i64 r.H, .slice a9 r.zs.length cap9], .bool r.ok]) (by simp [results, Try.results52, q0, q1, q2, go_sem]) rfl ⟨a9, cap9, rfl, HL9.out, ((B9.out.setCell (by simp <;> omega) _).setCell (by simp <;> omega) _).setCell (by simp <;> omega) _, (((O9.out.setCell hrow _).setCell hrow _).setCell hrow _).mono (by omega)⟩
/-! ### lawDouble -/

/-! ### FnExactDoublePicture -/
set_option maxHeartbeats 8000000 in
theorem walkG (WP HP : Int) (zP : List Nat) (aP : Option Addr) (cP : Nat) (xW : Int) (xH : Int) (w : World) (r : PRes) (cS : ∀ (aP : Option Addr) (cP : Nat) (w : World), IsRowF .f32 w aP zP.length cP zP → Calls Try.prog 51 #[.agg #[.int .i64 WP, .int .i64 HP, .slice aP zP.length cP], .int .i64 xW, .int .i64 xH] w (RetP 32 r w)) (cI : ∀ (aP : Option Addr) (cP : Nat) (w : World), IsRowF .f32 w aP zP.length cP zP → Calls Try.prog 52 #[.agg #[.int .i64 WP, .int .i64 HP, .slice aP zP.length cP], .int .i64 xW, .int .i64 xH] w (RetP 32 r w)) (rP : IsRowF .f32 w aP zP.length cP zP) (hl : zP.length ≤ 1048576) : Calls Try.prog 14 #[.agg #[.int .i64 WP, .int .i64 HP, .slice aP zP.length cP], .int .i64 xW, .int .i64 xH] w fun e w' => e = .returned (.bool true) ∧ Below w.heap.size w w' := by
  have CS := Lib.hid cS
  have CI := Lib.hid cI
  clear cS cI
  have RP := Lib.hid rP
  clear rP
  go_enter Try.func14, Try.ntmps14
  go_wp2_with fail
  refine (c_szP WP HP aP zP.length cP (1048576 : Int) _ (by omega) (by omega)).mono ?_
  rintro _ w1 ⟨rfl, b⟩
  have VpP_1 := Lib.hid ((Var.new' _ _ _ (w.heap.size) (by first | rfl | simp)).keep b)
  have B_1 := Lib.hid (((Below.refl w.heap.size w).alloc (Nat.le_refl _) _).trans (b.mono (by simp)))
  have S_1 : w.heap.size + 1 ≤ w1.heap.size := by have := b.size; simp at this; omega
  have zpP_1 : w.heap.size < w1.heap.size := by omega
  clear b
  have hzP : ¬ (((1048576 : Int) - (zP.length : Int)) < 0) := by omega
  obtain ⟨cpP0, cpP1, cpP2⟩ := VpP_1.out.three
  go_wp2_with fail
  clear cpP0 cpP1 cpP2
  refine (c_toP WP HP aP zP.length cP zP _ (RP.out.below B_1.out) (by omega)).mono ?_
  rintro _ w2 ⟨gt, rfl, b, o⟩
  have Lt := Lib.hid o.in
  have Ot_2 := Lib.hid o
  clear o
  have VpP_2 := Lib.hid (VpP_1.out.keep b)
  have B_2 := Lib.hid (B_1.out.trans (b.mono (by omega)))
  have S_2 : w1.heap.size + 0 ≤ w2.heap.size := by have := b.size; omega
  have zpP_2 : w.heap.size < w2.heap.size := by omega
  clear b
  clear VpP_1 zpP_1 B_1
  go_wp2_with fail
  refine (CS.out _ _ _ Ot_2.out.row).mono ?_
  rintro _ w3 ⟨au, cu, rfl, hrl, b, o⟩
  have Lu := Lib.hid o.in
  have Ou_3 := Lib.hid o
  clear o
  have VpP_3 := Lib.hid (VpP_2.out.keep b)
  have Ot_3 := Lib.hid (Ot_2.out.below b)
  have B_3 := Lib.hid (B_2.out.trans (b.mono (by omega)))
  have S_3 : w2.heap.size + 0 ≤ w3.heap.size := by have := b.size; omega
  have zpP_3 : w.heap.size < w3.heap.size := by omega
  clear b
  clear VpP_2 zpP_2 Ot_2 B_2
  clear Ot_3 Lt
  obtain ⟨cpP0, cpP1, cpP2⟩ := VpP_3.out.three
  go_wp2_with fail
  clear cpP0 cpP1 cpP2
  refine (c_toP WP HP aP zP.length cP zP _ ((RP.out.below B_3.out).alloc _) (by omega)).mono ?_
  rintro _ w4 ⟨gxP, rfl, b, o⟩
  have LxP := Lib.hid o.in
  have LxP := Lib.hid (by have h := LxP.out; simp only [World.size_alloc] at h; exact h)
  have OxP_4 := Lib.hid o
  clear o
  have VpP_4 := Lib.hid ((VpP_3.out.alloc _).keep b)
  have Vu_4 := Lib.hid ((Var.new' _ _ _ (w3.heap.size) (by first | rfl | simp)).keep b)
  have Ou_4 := Lib.hid ((Ou_3.out.alloc _).below b)
  have B_4 := Lib.hid ((B_3.out.alloc (by omega) _).trans (b.mono (by simp; omega)))
  have S_4 : w3.heap.size + 1 ≤ w4.heap.size := by have := b.size; simp at this; omega
  have zpP_4 : w.heap.size < w4.heap.size := by omega
  have zu_4 : w3.heap.size < w4.heap.size := by omega
  clear b
  clear VpP_3 zpP_3 Ou_3 B_3
  go_wp2_with fail
  refine (CI.out _ _ _ (OxP_4.out.alloc _).row).mono ?_
  rintro _ w5 ⟨ag, cg, rfl, hrl, b, o⟩
  clear hrl
  have Lg := Lib.hid o.in
  have Lg := Lib.hid (by have h := Lg.out; simp only [World.size_alloc] at h; exact h)
  have Og_5 := Lib.hid o
  clear o
  have VpP_5 := Lib.hid ((VpP_4.out.alloc _).keep b)
  have Vu_5 := Lib.hid ((Vu_4.out.alloc _).keep b)
  have VxP_5 := Lib.hid ((Var.new' _ _ _ (w4.heap.size) (by first | rfl | simp)).keep b)
  have Ou_5 := Lib.hid ((Ou_4.out.alloc _).below b)
  have OxP_5 := Lib.hid ((OxP_4.out.alloc _).below b)
  have B_5 := Lib.hid ((B_4.out.alloc (by omega) _).trans (b.mono (by simp; omega)))
  have S_5 : w4.heap.size + 1 ≤ w5.heap.size := by have := b.size; simp at this; omega
  have zpP_5 : w.heap.size < w5.heap.size := by omega
  have zu_5 : w3.heap.size < w5.heap.size := by omega
  have zxP_5 : w4.heap.size < w5.heap.size := by omega
  clear b
  clear VpP_4 zpP_4 Vu_4 zu_4 Ou_4 OxP_4 B_4
  obtain ⟨cu0, cu1, cu2⟩ := Vu_5.out.three
  go_wp2_with fail
  clear cu0 cu1 cu2
  refine (c_eqP _ _ _ _ _ _ _ _ _ (Og_5.out.alloc _).row (Ou_5.out.alloc _).row).mono ?_
  rintro _ w6 ⟨rfl, b⟩
  have VpP_6 := Lib.hid ((VpP_5.out.alloc _).keep b)
  have Vu_6 := Lib.hid ((Vu_5.out.alloc _).keep b)
  have VxP_6 := Lib.hid ((VxP_5.out.alloc _).keep b)
  have Vg_6 := Lib.hid ((Var.new' _ _ _ (w5.heap.size) (by first | rfl | simp)).keep b)
  have Ou_6 := Lib.hid ((Ou_5.out.alloc _).below b)
  have OxP_6 := Lib.hid ((OxP_5.out.alloc _).below b)
  have Og_6 := Lib.hid ((Og_5.out.alloc _).below b)
  have B_6 := Lib.hid ((B_5.out.alloc (by omega) _).trans (b.mono (by simp; omega)))
  have S_6 : w5.heap.size + 1 ≤ w6.heap.size := by have := b.size; simp at this; omega
  have zpP_6 : w.heap.size < w6.heap.size := by omega
  have zu_6 : w3.heap.size < w6.heap.size := by omega
  have zxP_6 : w4.heap.size < w6.heap.size := by omega
  have zg_6 : w5.heap.size < w6.heap.size := by omega
  clear b
  clear VpP_5 zpP_5 Vu_5 zu_5 VxP_5 zxP_5 Ou_5 OxP_5 Og_5 B_5
  obtain ⟨cpP0, cpP1, cpP2⟩ := VpP_6.out.three
  obtain ⟨cxP0, cxP1, cxP2⟩ := VxP_6.out.three
  go_wp2_with fail
  have D : Below w6.heap.size w6 w6.drew := (Below.refl _ _).drew
  have RD := Lib.hid ((RP.out.below B_6.out).below D)
  have XD := Lib.hid (OxP_6.out.below D)
  have HD := Lib.hid D
  clear D
  go_region_held3 (fun w' => w'.cell? ⟨w.heap.size, 0, none⟩ = some (.int .i64 WP) ∧ w'.cell? ⟨w.heap.size, 1, none⟩ = some (.int .i64 HP) ∧ w'.cell? ⟨w.heap.size, 2, none⟩ = some (.slice aP zP.length cP) ∧ w'.cell? ⟨w4.heap.size, 0, none⟩ = some (.int .i64 WP) ∧ w'.cell? ⟨w4.heap.size, 1, none⟩ = some (.int .i64 HP) ∧ w'.cell? ⟨w4.heap.size, 2, none⟩ = some (.slice (some ⟨gxP, 0, none⟩) zP.length zP.length)) (first | exact ⟨cpP0, cpP1, cpP2, cxP0, cxP1, cxP2⟩ | (have e1 := ((VpP_6.out.keep HD.out).keep b7).three; have e2 := ((VxP_6.out.keep HD.out).keep b7).three; exact ⟨e1.1, e1.2.1, e1.2.2, e2.1, e2.2.1, e2.2.2⟩) | (have e1 := (((VpP_6.out.keep HD.out).keep b7).keep b8).three; have e2 := (((VxP_6.out.keep HD.out).keep b7).keep b8).three; exact ⟨e1.1, e1.2.1, e1.2.2, e2.1, e2.2.1, e2.2.2⟩)) (first | (go_at_call 27; refine (c_toP WP HP aP zP.length cP zP _ RD.out (by omega)).mono ?_; rintro _ wt ⟨g7, rfl, b7, o7⟩) | (go_at_call 29; refine (c_eqP _ _ _ _ _ _ _ _ _ (XD.out.below b7).row o7.row).mono ?_; rintro _ w7 ⟨rfl, b8⟩))
  have b := HD.out.trans (b7.trans (b8.mono b7.size))
  clear RD XD HD b7 b8 o7
  clear cpP0 cpP1 cpP2 cxP0 cxP1 cxP2
  have VpP_7 := Lib.hid (VpP_6.out.keep b)
  have Vu_7 := Lib.hid (Vu_6.out.keep b)
  have VxP_7 := Lib.hid (VxP_6.out.keep b)
  have Vg_7 := Lib.hid (Vg_6.out.keep b)
  have Ou_7 := Lib.hid (Ou_6.out.below b)
  have OxP_7 := Lib.hid (OxP_6.out.below b)
  have Og_7 := Lib.hid (Og_6.out.below b)
  have B_7 := Lib.hid (B_6.out.trans (b.mono (by omega)))
  have S_7 : w6.heap.size + 0 ≤ w7.heap.size := by have := b.size; omega
  have zpP_7 : w.heap.size < w7.heap.size := by omega
  have zu_7 : w3.heap.size < w7.heap.size := by omega
  have zxP_7 : w4.heap.size < w7.heap.size := by omega
  have zg_7 : w5.heap.size < w7.heap.size := by omega
  clear b
  clear VpP_6 zpP_6 Vu_6 zu_6 VxP_6 zxP_6 Vg_6 zg_6 Ou_6 OxP_6 Og_6 B_6
  obtain ⟨cxP0, cxP1, cxP2⟩ := VxP_7.out.three
  go_wp2_with fail
  clear cxP0 cxP1 cxP2
  refine (c_markP _ _ _ _ _ _ 1 _ _ OxP_7.out (by omega)).mono ?_
  rintro _ w8 ⟨rfl, b, o⟩
  have On := Lib.hid o
  clear o
  have VpP_8 := Lib.hid (VpP_7.out.kept b (by intro e; have := LxP.out _ e.symm; omega))
  have Vu_8 := Lib.hid (Vu_7.out.kept b (by intro e; have := LxP.out _ e.symm; omega))
  have VxP_8 := Lib.hid (VxP_7.out.kept b (by intro e; have := LxP.out _ e.symm; omega))
  have Vg_8 := Lib.hid (Vg_7.out.kept b (by intro e; have := LxP.out _ e.symm; omega))
  have Ou_8 := Lib.hid (Ou_7.out.kept b (blk_apart Lu.out LxP.out (by omega)))
  have Og_8 := Lib.hid (Og_7.out.kept b (blk_apart Lg.out LxP.out (by omega)))
  have B_8 := Lib.hid (B_7.out.grown b (by omega) (fun k e => by have := LxP.out k e; omega))
  have S_8 : w7.heap.size ≤ w8.heap.size := b.size
  have zpP_8 : w.heap.size < w8.heap.size := by omega
  have zu_8 : w3.heap.size < w8.heap.size := by omega
  have zxP_8 : w4.heap.size < w8.heap.size := by omega
  have zg_8 : w5.heap.size < w8.heap.size := by omega
  clear b
  clear VpP_7 zpP_7 Vu_7 zu_7 VxP_7 zxP_7 Vg_7 zg_7 Ou_7 OxP_7 Og_7 B_7
  have OxP_8 := Lib.hid On.out
  clear On
  have hk : ¬ ((((1 + zP.length) : Nat) : Int) < 0) := by omega
  clear OxP_8 LxP
  obtain ⟨cg0, cg1, cg2⟩ := Vg_8.out.three
  obtain ⟨cu0, cu1, cu2⟩ := Vu_8.out.three
  go_wp2_with fail
  clear cg0 cg1 cg2 cu0 cu1 cu2
  refine (c_eqP _ _ _ _ _ _ _ _ _ Og_8.out.row Ou_8.out.row).mono ?_
  rintro _ w9 ⟨rfl, b⟩
  have VpP_9 := Lib.hid (VpP_8.out.keep b)
  have Vu_9 := Lib.hid (Vu_8.out.keep b)
  have VxP_9 := Lib.hid (VxP_8.out.keep b)
  have Vg_9 := Lib.hid (Vg_8.out.keep b)
  have Ou_9 := Lib.hid (Ou_8.out.below b)
  have Og_9 := Lib.hid (Og_8.out.below b)
  have B_9 := Lib.hid (B_8.out.trans (b.mono (by omega)))
  have S_9 : w8.heap.size + 0 ≤ w9.heap.size := by have := b.size; omega
  have zpP_9 : w.heap.size < w9.heap.size := by omega
  have zu_9 : w3.heap.size < w9.heap.size := by omega
  have zxP_9 : w4.heap.size < w9.heap.size := by omega
  have zg_9 : w5.heap.size < w9.heap.size := by omega
  clear b
  clear VpP_8 zpP_8 Vu_8 zu_8 VxP_8 zxP_8 Vg_8 zg_8 Ou_8 Og_8 B_8
  obtain ⟨cg0, cg1, cg2⟩ := Vg_9.out.three
  go_wp2_with fail
  clear cg0 cg1 cg2
  refine (c_markP _ _ _ _ _ _ 1 _ _ Og_9.out (by omega)).mono ?_
  rintro _ w10 ⟨rfl, b, o⟩
  have On := Lib.hid o
  clear o
  have VpP_10 := Lib.hid (VpP_9.out.kept b (by intro e; have := Lg.out _ e.symm; omega))
  have Vu_10 := Lib.hid (Vu_9.out.kept b (by intro e; have := Lg.out _ e.symm; omega))
  have VxP_10 := Lib.hid (VxP_9.out.kept b (by intro e; have := Lg.out _ e.symm; omega))
  have Vg_10 := Lib.hid (Vg_9.out.kept b (by intro e; have := Lg.out _ e.symm; omega))
  have Ou_10 := Lib.hid (Ou_9.out.kept b (blk_apart Lu.out Lg.out (by omega)))
  have B_10 := Lib.hid (B_9.out.grown b (by omega) (fun k e => by have := Lg.out k e; omega))
  have S_10 : w9.heap.size ≤ w10.heap.size := b.size
  have zpP_10 : w.heap.size < w10.heap.size := by omega
  have zu_10 : w3.heap.size < w10.heap.size := by omega
  have zxP_10 : w4.heap.size < w10.heap.size := by omega
  have zg_10 : w5.heap.size < w10.heap.size := by omega
  clear b
  clear VpP_9 zpP_9 Vu_9 zu_9 VxP_9 zxP_9 Vg_9 zg_9 Ou_9 Og_9 B_9
  have Og_10 := Lib.hid On.out
  clear On
  obtain ⟨cg0, cg1, cg2⟩ := Vg_10.out.three
  go_wp2_with fail
  clear cg0 cg1 cg2
  refine (c_heldP _ _ _ _ _ 1 _ Og_10.out.row (by omega)).mono ?_
  rintro _ w11 ⟨rfl, b⟩
  have VpP_11 := Lib.hid (VpP_10.out.keep b)
  have Vu_11 := Lib.hid (Vu_10.out.keep b)
  have VxP_11 := Lib.hid (VxP_10.out.keep b)
  have Vg_11 := Lib.hid (Vg_10.out.keep b)
  have Ou_11 := Lib.hid (Ou_10.out.below b)
  have Og_11 := Lib.hid (Og_10.out.below b)
  have B_11 := Lib.hid (B_10.out.trans (b.mono (by omega)))
  have S_11 : w10.heap.size + 0 ≤ w11.heap.size := by have := b.size; omega
  have zpP_11 : w.heap.size < w11.heap.size := by omega
  have zu_11 : w3.heap.size < w11.heap.size := by omega
  have zxP_11 : w4.heap.size < w11.heap.size := by omega
  have zg_11 : w5.heap.size < w11.heap.size := by omega
  clear b
  clear VpP_10 zpP_10 Vu_10 zu_10 VxP_10 zxP_10 Vg_10 zg_10 Ou_10 Og_10 B_10
  have hq : ¬ (((1 + r.zs.length : Nat) : Int) < 0) := by omega
  obtain ⟨cpP0, cpP1, cpP2⟩ := VpP_11.out.three
  go_wp2_with fail
  clear cpP0 cpP1 cpP2
  refine (c_toP WP HP aP zP.length cP zP _ (RP.out.below B_11.out) (by omega)).mono ?_
  rintro _ w12 ⟨gt, rfl, b, o⟩
  have Lt := Lib.hid o.in
  have Ot_12 := Lib.hid o
  clear o
  have VpP_12 := Lib.hid (VpP_11.out.keep b)
  have Vu_12 := Lib.hid (Vu_11.out.keep b)
  have VxP_12 := Lib.hid (VxP_11.out.keep b)
  have Vg_12 := Lib.hid (Vg_11.out.keep b)
  have Ou_12 := Lib.hid (Ou_11.out.below b)
  have Og_12 := Lib.hid (Og_11.out.below b)
  have B_12 := Lib.hid (B_11.out.trans (b.mono (by omega)))
  have S_12 : w11.heap.size + 0 ≤ w12.heap.size := by have := b.size; omega
  have zpP_12 : w.heap.size < w12.heap.size := by omega
  have zu_12 : w3.heap.size < w12.heap.size := by omega
  have zxP_12 : w4.heap.size < w12.heap.size := by omega
  have zg_12 : w5.heap.size < w12.heap.size := by omega
  clear b
  clear VpP_11 zpP_11 Vu_11 zu_11 VxP_11 zxP_11 Vg_11 zg_11 Ou_11 Og_11 B_11
  go_wp2_with fail
  refine (CI.out _ _ _ Ot_12.out.row).mono ?_
  rintro _ w13 ⟨ah, ch, rfl, hrl, b, o⟩
  clear hrl
  have Lh := Lib.hid o.in
  have Oh_13 := Lib.hid o
  clear o
  have VpP_13 := Lib.hid (VpP_12.out.keep b)
  have Vu_13 := Lib.hid (Vu_12.out.keep b)
  have VxP_13 := Lib.hid (VxP_12.out.keep b)
  have Vg_13 := Lib.hid (Vg_12.out.keep b)
  have Ou_13 := Lib.hid (Ou_12.out.below b)
  have Og_13 := Lib.hid (Og_12.out.below b)
  have Ot_13 := Lib.hid (Ot_12.out.below b)
  have B_13 := Lib.hid (B_12.out.trans (b.mono (by omega)))
  have S_13 : w12.heap.size + 0 ≤ w13.heap.size := by have := b.size; omega
  have zpP_13 : w.heap.size < w13.heap.size := by omega
  have zu_13 : w3.heap.size < w13.heap.size := by omega
  have zxP_13 : w4.heap.size < w13.heap.size := by omega
  have zg_13 : w5.heap.size < w13.heap.size := by omega
  clear b
  clear VpP_12 zpP_12 Vu_12 zu_12 VxP_12 zxP_12 Vg_12 zg_12 Ou_12 Og_12 Ot_12 B_12
  clear Ot_13 Lt
  obtain ⟨cu0, cu1, cu2⟩ := Vu_13.out.three
  go_wp2_with fail
  clear cu0 cu1 cu2
  refine (c_eqP _ _ _ _ _ _ _ _ _ (Oh_13.out.alloc _).row (Ou_13.out.alloc _).row).mono ?_
  rintro _ w14 ⟨rfl, b⟩
  have VpP_14 := Lib.hid ((VpP_13.out.alloc _).keep b)
  have Vu_14 := Lib.hid ((Vu_13.out.alloc _).keep b)
  have VxP_14 := Lib.hid ((VxP_13.out.alloc _).keep b)
  have Vg_14 := Lib.hid ((Vg_13.out.alloc _).keep b)
  have Vh_14 := Lib.hid ((Var.new' _ _ _ (w13.heap.size) (by first | rfl | simp)).keep b)
  have Ou_14 := Lib.hid ((Ou_13.out.alloc _).below b)
  have Og_14 := Lib.hid ((Og_13.out.alloc _).below b)
  have Oh_14 := Lib.hid ((Oh_13.out.alloc _).below b)
  have B_14 := Lib.hid ((B_13.out.alloc (by omega) _).trans (b.mono (by simp; omega)))
  have S_14 : w13.heap.size + 1 ≤ w14.heap.size := by have := b.size; simp at this; omega
  have zpP_14 : w.heap.size < w14.heap.size := by omega
  have zu_14 : w3.heap.size < w14.heap.size := by omega
  have zxP_14 : w4.heap.size < w14.heap.size := by omega
  have zg_14 : w5.heap.size < w14.heap.size := by omega
  have zh_14 : w13.heap.size < w14.heap.size := by omega
  clear b
  clear VpP_13 zpP_13 Vu_13 zu_13 VxP_13 zxP_13 Vg_13 zg_13 Ou_13 Og_13 Oh_13 B_13
  obtain ⟨cg0, cg1, cg2⟩ := Vg_14.out.three
  go_wp2_with fail
  clear cg0 cg1 cg2
  refine (c_heldP _ _ _ _ _ 1 _ Og_14.out.row (by omega)).mono ?_
  rintro _ w15 ⟨rfl, b⟩
  have VpP_15 := Lib.hid (VpP_14.out.keep b)
  have Vu_15 := Lib.hid (Vu_14.out.keep b)
  have VxP_15 := Lib.hid (VxP_14.out.keep b)
  have Vg_15 := Lib.hid (Vg_14.out.keep b)
  have Vh_15 := Lib.hid (Vh_14.out.keep b)
  have Ou_15 := Lib.hid (Ou_14.out.below b)
  have Og_15 := Lib.hid (Og_14.out.below b)
  have Oh_15 := Lib.hid (Oh_14.out.below b)
  have B_15 := Lib.hid (B_14.out.trans (b.mono (by omega)))
  have S_15 : w14.heap.size + 0 ≤ w15.heap.size := by have := b.size; omega
  have zpP_15 : w.heap.size < w15.heap.size := by omega
  have zu_15 : w3.heap.size < w15.heap.size := by omega
  have zxP_15 : w4.heap.size < w15.heap.size := by omega
  have zg_15 : w5.heap.size < w15.heap.size := by omega
  have zh_15 : w13.heap.size < w15.heap.size := by omega
  clear b
  clear VpP_14 zpP_14 Vu_14 zu_14 VxP_14 zxP_14 Vg_14 zg_14 Vh_14 zh_14 Ou_14 Og_14 Oh_14 B_14
  go_wp2_with fail
  go_ret
  exact ⟨rfl, B_15.out⟩
theorem walkL0 (WP HP : Int) (zP : List Nat) (aP : Option Addr) (cP : Nat) (xW : Int) (xH : Int) (w : World) (rP : IsRowF .f32 w aP zP.length cP zP)  (hm : zP.length ≤ maxLen) (hl : 1048576 < zP.length) : Calls Try.prog 14 #[.agg #[.int .i64 WP, .int .i64 HP, .slice aP zP.length cP], .int .i64 xW, .int .i64 xH] w fun e w' => e = .returned (.bool true) ∧ Below w.heap.size w w' := by
  unfold maxLen at hm
  have RP := Lib.hid rP
  clear rP
  go_enter Try.func14, Try.ntmps14
  go_wp2_with fail
  refine (c_szP_no WP HP aP zP.length cP (1048576 : Int) _ (by omega) (by omega)).mono ?_
  rintro _ w1 ⟨rfl, b⟩
  have VpP_1 := Lib.hid ((Var.new' _ _ _ (w.heap.size) (by first | rfl | simp)).keep b)
  have B_1 := Lib.hid (((Below.refl w.heap.size w).alloc (Nat.le_refl _) _).trans (b.mono (by simp)))
  have S_1 : w.heap.size + 1 ≤ w1.heap.size := by have := b.size; simp at this; omega
  have zpP_1 : w.heap.size < w1.heap.size := by omega
  clear b
  go_wp2_with fail
  go_ret
  exact ⟨rfl, B_1.out⟩
theorem walk (WP HP : Int) (zP : List Nat) (aP : Option Addr) (cP : Nat) (xW : Int) (xH : Int) (w : World) (rP : IsRowF .f32 w aP zP.length cP zP) (hW : (Lit.int .i64 xW).wf = true) (hH : (Lit.int .i64 xH).wf = true) : Calls Try.prog 14 #[.agg #[.int .i64 WP, .int .i64 HP, .slice aP zP.length cP], .int .i64 xW, .int .i64 xH] w fun e w' => e = .returned (.bool true) ∧ Below w.heap.size w w' := by
  have mP : zP.length ≤ maxLen := Nat.le_trans rP.2.1 rP.2.2.1
  by_cases g0 : 1048576 < zP.length
  · exact walkL0 WP HP zP aP cP xW xH w rP  mP g0
  exact walkG WP HP zP aP cP xW xH w (resDouble WP HP zP xW xH) (fun aP cP w rP => c_sDoublePicture WP HP zP aP cP xW xH w rP hW hH) (fun aP cP w rP => c_iDoublePicture WP HP zP aP cP xW xH w rP hW hH) rP (by omega)
theorem own : ownKnob Try.prog.godebug = none := by kernel_rfl
theorem laidOut : laidOutB Try.prog = true := by kernel_rfl
set_option maxRecDepth 100000 in
theorem lifted (os : Os) (started : os.Started) (H : Type) (enc : TypeId × Value → H) :
    ReturnsInHanded {} Try.checked os 14 .any (Rows.fnExactDoublePictureSpec.pre6 enc Try.prog Try.f14 Rows.fnExactDoublePictureRow.domain false) (Rows.fnExactDoublePictureSpec.post enc Try.prog Try.f14 false true false false) := by
  refine returnsInHanded_of_change (C := Try.checked) own started (by kernel_rfl) Try.func14
    (ChangeSpec.witness6 (enc := enc) (C := Try.checked) false ⟨#[], #[.agg #[.int .i64 0, .int .i64 0, .slice none 0 0], .int .i64 0, .int .i64 0], []⟩ 8 (by kernel_rfl) (by kernel_rfl) (by kernel_rfl) (by kernel_rfl)) ?_
  intro W base args ds gs before hval0 hW hcnd _
  have hval : ∀ (j : Nat) t v, Try.f14.params[j]? = some t → args[j]? = some v → Value.okWide Try.prog W .any base t v := hval0
  have hW' := hW
  obtain ⟨p, q, hA0, hV, rfl, hfz, hnd⟩ := hW
  have hA : DataW.TrodAll enc Try.prog W 0 (fun _ => true) true Try.f14.params.toList args.toList ds p := hA0
  rw [Try.params14] at hA hval
  obtain ⟨v0, vs0, d0, ds0, p0, q0, hargs, rfl, rfl, h0, r0⟩ := trodAll_cons hA
  obtain ⟨v1, vs1, d1, ds1, p1, q1, rfl, rfl, rfl, h1, r1⟩ := trodAll_cons r0
  obtain ⟨v2, vs2, d2, ds2, p2, q2, rfl, rfl, rfl, h2, r2⟩ := trodAll_cons r1
  obtain ⟨rfl, rfl, rfl⟩ := trodAll_nil r2
  obtain rfl : args = #[v0, v1, v2] := by cases args; simp_all
  obtain ⟨rfl, rfl⟩ := trodVars_none hV
  have k0 := h0
  have lt0 : ∀ x ∈ p0, x.block < W.heap.size := by obtain ⟨m, hm⟩ := k0; exact DataW.trod_lt m _ _ _ hm
  obtain ⟨W0, H0, z0, a0, c0, rfl, wW0, wH0, w0⟩ := open_pic Try.underlying39 (by kernel_rfl) (by kernel_rfl) Try.underlying2 Try.underlying2 Try.underlying22 Try.underlying32 (by kernel_rfl) (hval 0 39 v0 rfl rfl) h0
  obtain ⟨a1, rfl, rfl, rfl, w1⟩ := open_int Try.underlying2 (hval 1 2 v1 rfl rfl) h1
  obtain ⟨a2, rfl, rfl, rfl, w2⟩ := open_int Try.underlying2 (hval 2 2 v2 rfl rfl) h2
  clear hA0 hval0
  have hw0 : Calls Try.prog 14 #[.agg #[.int .i64 W0, .int .i64 H0, .slice a0 z0.length c0], .int .i64 a1, .int .i64 a2] W fun e w' => e = .returned (.bool true) ∧ Below W.heap.size W w' := by
    exact walk W0 H0 z0 a0 c0 a1 a2 W w0 w1 w2
  refine hw0.mono fun e W' ⟨he, bel⟩ => ?_
  subst he
  exact ⟨_, rfl, _, _, _, [], _, [], hW', trodAll_mk1 (shut_bool Try.underlying4 _), (trodAll_cons_mk (Below.trod laidOut (by kernel_rfl) (of_decide_eq_true (by kernel_rfl)) k0 bel lt0) (trodAll_cons_mk (shut_int Try.underlying2 w1) (trodAll_cons_mk (shut_int Try.underlying2 w2) trodAll_mk0))), rfl, bel.frame _, fun h => by cases h⟩

theorem over : Rows.fnExactDoublePictureRow.holds Try.pinned (OpenSpec.ofChange Rows.fnExactDoublePictureSpec) :=
  OpenClaim.holds_of_wide 14 Try.f14 rfl rfl rfl rfl rfl rfl rfl ⟨rfl, rfl, rfl, rfl, rfl⟩ rfl rfl rfl rfl rfl (by kernel_rfl) Try.func14 (by kernel_rfl)
    (of_decide_eq_true (by kernel_rfl)) (by unfold Func.isWrapper; first | (rw [if_pos (by decide +kernel)]; kernel_rfl) | (rw [if_neg (by decide +kernel)]; exact ⟨rfl, rfl⟩))
    (fun os started H enc _ => lifted os started H enc)

theorem proved : Rows.FnExactDoublePictureSaid := over
#print axioms proved

end Go.Proofs.Ytpjbbmeebnbdlaa.fnExactDoublePicture

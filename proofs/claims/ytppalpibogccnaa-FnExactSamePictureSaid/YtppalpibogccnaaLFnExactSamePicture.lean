/-
  FnExactSamePicture: for every input this law of the program returns true, and each argument reads as before. No condition.
-/
import Derived.Test.YtppalpibogccnaaRows
import Derived.Test.YtppalpibogccnaaRow
import Derived.Test.YtppalpibogccnaaOg
import Derived.ProofKit
import Derived.OpenShut
import Derived.ShutString
import Derived.ChangeOld
import Derived.Below
import Derived.Lib.Hide
import Derived.Outline
import Derived.Deep.RegionHeld3
import Derived.Deep.DeepCutAuto
set_option linter.unusedSimpArgs false
set_option linter.unusedVariables false
set_option exponentiation.threshold 2000
set_option maxRecDepth 20000
set_option maxHeartbeats 4000000
namespace Go.Proofs.Ytppalpibogccnaa.fnExactSamePicture
open Go Go.Proofs.Ytppalpibogccnaa Go.Proofs
open Go.ChangeShapes Go.WideShapes Go.ChangeAt Go.RowKit
open Go.ChangeMaps (open_string shut_string)
/-! ### szPicture -/
theorem c_szF (a : Option Addr) (len cap : Nat) (L : Int) (w : World) (h : (len : Int) ≤ L) (hL : L ≤ 1048576) : Calls Try.prog 111 #[.slice a len cap, .int .i64 L] w (fun e w' => e = .returned (.int .i64 (L - (len : Int))) ∧ w' = w) := by
  have h' : ¬ (L - (len : Int) < 0) := by omega
  go_enter Try.func111, Try.ntmps111
  go_wp2
  go_ret
  exact ⟨rfl, rfl⟩
theorem c_szF_no (a : Option Addr) (len cap : Nat) (L : Int) (w : World) (h : L < len) (hL : 0 ≤ L) (hm : len ≤ 9223372036854775807) : Calls Try.prog 111 #[.slice a len cap, .int .i64 L] w (fun e w' => e = .returned (.int .i64 (-1)) ∧ w' = w) := by
  have h' : L - (len : Int) < 0 := by omega
  go_enter Try.func111, Try.ntmps111
  go_wp2
  go_ret
  exact ⟨rfl, rfl⟩
theorem c_szP (W H : Int) (a : Option Addr) (len cap : Nat) (L : Int) (w : World) (h : (len : Int) ≤ L) (hL : L ≤ 1048576) : Calls Try.prog 47 #[.agg #[.int .i64 W, .int .i64 H, .slice a len cap], .int .i64 L] w (RetB (.int .i64 (L - (len : Int))) w) := by
  have h' : ¬ (L - (len : Int) < 0) := by omega
  go_enter Try.func47, Try.ntmps47
  go_wp2_with (go_at_call 111; refine (c_szF a len cap L _ h hL).mono ?_; rintro _ _ ⟨rfl, rfl⟩)
  go_ret
  exact ⟨rfl, (Below.refl _ _).alloc (Nat.le_refl _) _⟩
theorem c_szP_no (W H : Int) (a : Option Addr) (len cap : Nat) (L : Int) (w : World) (h : L < len) (hL : 0 ≤ L ∧ len ≤ 9223372036854775807) : Calls Try.prog 47 #[.agg #[.int .i64 W, .int .i64 H, .slice a len cap], .int .i64 L] w (RetB (.int .i64 (-1)) w) := by
  go_enter Try.func47, Try.ntmps47
  go_wp2_with (go_at_call 111; refine (c_szF_no a len cap L _ h hL.1 hL.2).mono ?_; rintro _ _ ⟨rfl, rfl⟩)
  go_ret
  exact ⟨rfl, (Below.refl _ _).alloc (Nat.le_refl _) _⟩
/-! ### toOwn -/
theorem infoFo : (Try.prog.info? 25).map (fun i => (i.zero, i.size, i.bytes)) = some (some (.float .f32 0), 1, 4) := by kernel_rfl
theorem c_toO (a : Option Addr) (len cap : Nat) (zs : List Nat) (w : World) (hr : IsRowF .f32 w a len cap zs) (hl : len ≤ 1048576) : Calls Try.prog 113 #[.slice a len cap] w (NewO 25 len zs w) := by
  obtain ⟨i0, hi, hz0, hz1, hz2⟩ := info_parts infoFo
  obtain ⟨h1, h2, h3, h4, h5⟩ := hr
  go_enter Try.func113, Try.ntmps113
  go_wp2_with (at_make; refine wpList_make_full _ rfl _ _ 33 rfl w.heap.size 25 i0 (.float .f32 0) 1 Try.underlying33 hi hz0 hz1 _ _ _ _ len rfl rfl rfl rfl (by rw [hz2]; omega) (by unfold maxLen; omega) (by simp) ?_; intro w1 hown hgrow)
  have hblk := block_of_owns hown
  have e0 : (madeCells (Value.float FloatKind.f32 0).cells (len * 1)).toList = List.replicate len (.float .f32 0) := by rw [Nat.mul_one]; exact made_zeros _ _
  rw [e0] at hblk
  have hbel : Below w.heap.size w w1 := (Below.refl _ _).grown hgrow (Nat.le_refl _) (by simp)
  have HB := Lib.hid hblk
  clear hown hgrow hblk e0 hz0 hz1 hz2
  go_loopw [4] (fun i wr => ∃ j : Nat, j ≤ len ∧ i = .int .i64 j ∧ Below w.heap.size w wr ∧ wr.heap[w.heap.size]? = some (.cells (fl .f32 (zs.take j) ++ List.replicate (zs.length - j) (Value.float .f32 0)).toArray 25 (0, 0))) (fun i _ => len - (intOf i).toNat)
  case atStart => exact ⟨0, Nat.zero_le _, rfl, hbel, by rw [HB.out, h1]; rfl⟩
  case round =>
    obtain ⟨j, hj, rfl, hb, hblk⟩ := hrel
    have Hblk := Lib.hid hblk
    clear hblk
    by_cases hlt : j < len
    · rcases h5 with h5 | ⟨b, off, rfl, hbl, hc⟩
      · omega
      have hcell : wr.cell? ⟨b, off + j, none⟩ = some (.float .f32 (fat zs j)) := by rw [hb.cell (p := ⟨b, off + j, none⟩) hbl]; exact hc j hlt
      have hold : wr.cell? ⟨w.heap.size, j, none⟩ = some (.float .f32 0) := by
        rw [cell_of_block Hblk.out, List.getElem?_append_right (by simp [fl]; omega)]
        have e : (fl FloatKind.f32 (List.take j zs)).length = j := by simp [fl]; omega
        rw [e, Nat.sub_self, List.getElem?_replicate, if_pos (by omega)]
      have hfz : wr.frozen? ⟨w.heap.size, j, none⟩ = false := frozen_of_block Hblk.out j
      have hset := block_set Hblk.out j (.float .f32 (fat zs j))
      rw [set_step zs _ j (by omega)] at hset
      have Hset := Lib.hid hset
      clear hset hc
      go_wp2
      go_roundw
      case rel => exact ⟨j + 1, by omega, by go_num, hb.setCell (Nat.le_refl _) _, Hset.out⟩
      case measure => simp [intOf]; omega
    · obtain rfl : j = len := by omega
      have e1 : fl .f32 (zs.take j) ++ List.replicate (zs.length - j) (Value.float .f32 0) = fl .f32 zs := by rw [h1, Nat.sub_self, List.replicate_zero, List.append_nil, List.take_of_length_le (by omega)]
      have hblk2 := Hblk.out
      rw [e1] at hblk2
      have hown : Own 25 wr w.heap.size (some ⟨w.heap.size, 0, none⟩) j j zs :=
        ⟨h1, ⟨by simp [fl, h1], .inr ⟨w.heap.size, j, _, rfl, Nat.le_refl _, hblk2, Nat.le_refl _, by unfold maxLen; omega, by simp [fl, h1], by rw [List.take_of_length_le (by simp [fl, h1])]⟩⟩, h4⟩
      have HO := Lib.hid hown
      clear hown hblk2 e1
      go_wp2
      go_ret
      exact ⟨w.heap.size, rfl, hb, HO.out⟩
/-! ### toPicture -/
theorem c_toP (W H : Int) (a : Option Addr) (len cap : Nat) (zs : List Nat) (w : World) (hr : IsRowF .f32 w a len cap zs) (hl : len ≤ 1048576) : Calls Try.prog 49 #[.agg #[.int .i64 W, .int .i64 H, .slice a len cap]] w (NewP 25 W H zs w) := by
  have HR := Lib.hid hr
  have HL := Lib.hid hr.1
  clear hr
  go_enter Try.func49, Try.ntmps49
  go_wp2_with fail
  refine (c_toO a len cap zs _ (HR.out.below ((((Below.refl _ _).alloc (Nat.le_refl _) _).alloc (by simp) _).alloc (by simp; omega) _)) hl).mono ?_
  rintro _ w1 ⟨g, rfl, hb, hown⟩
  obtain ⟨hc, hf⟩ := bcell hb
  have hz : w.heap.size + 1 + 1 < w1.heap.size := by have := hb.size; simp at this; omega
  have hg' : w.heap.size + 1 + 1 < g := by have := hown.lt.1; simp at this; omega
  have HB := Lib.hid hb
  have HO := Lib.hid hown
  clear hb hown
  go_wp2_with fail
  refine bodyPost_ret (v := .agg #[.int .i64 W, .int .i64 H, .slice (some ⟨g, 0, none⟩) len len]) (by simp [results, Try.results49, hc, hz, go_sem]) rfl ⟨g, by rw [HL.out], ?_, ?_⟩
  · exact ((((((((Below.refl _ _).alloc (Nat.le_refl _) _).alloc (by simp) _).alloc (by simp; omega) _).trans (HB.out.mono (by simp; omega))).setCell (by simp; omega) _).setCell (by simp) _).setCell (by simp) _).setCell (by simp) _
  · rw [HL.out]
    exact ((((HO.out.setCell (by simp [blk]; omega) _).setCell (by simp [blk]; omega) _).setCell (by simp [blk]; omega) _).setCell (by simp [blk]; omega) _).mono (by simp; omega)
/-! ### sameFloat -/
theorem c_sameFloat (v n m : Nat) (w : World) (j : Nat) : Calls Try.prog 144 #[.float .f64 (pick .f64 v n), .float .f64 (pick .f64 v m)] (w.drewN j) (RetV (.bool true) w) := by
  have hs := self_ne .f64 v
  have ht := self_eq .f64 v
  cases h : isN .f64 v
  · rw [h] at hs ht
    cases h2 : (FloatKind.f64.format.order v 0 == some .eq)
    · go_enter Try.func144, Try.ntmps144
      go_wp2_with (first | (refine wpList_fop rfl _ _ _ _ _ rfl _ _ _ rfl rfl (by decide) _ ?_; intro _ _) | (refine upon_fop _ _ _ _ _ (by decide) ?_; intro _ _))
      go_ret
      exact ⟨_, rfl, rfl⟩
    · go_enter Try.func144, Try.ntmps144
      go_wp2_with (first | (refine wpList_fop rfl _ _ _ _ _ rfl _ _ _ rfl rfl (by decide) _ ?_; intro _ _) | (refine upon_fop _ _ _ _ _ (by decide) ?_; intro _ _))
      go_ret
      exact ⟨_, by simp, rfl⟩
  · rw [h] at hs ht
    go_enter Try.func144, Try.ntmps144
    go_wp2_with (first | (refine wpList_fop rfl _ _ _ _ _ rfl _ _ _ rfl rfl (by decide) _ ?_; intro _ _) | (refine upon_fop _ _ _ _ _ (by decide) ?_; intro _ _))
    go_ret
    exact ⟨_, rfl, rfl⟩

/-! ### eqFloat32S -/
theorem c_eqF (a b : Option Addr) (len c d : Nat) (zs : List Nat) (w : World) (j0 : Nat) (hr : IsRowF .f32 w a len c zs) (hs : IsRowF .f32 w b len d zs) : Calls Try.prog 114 #[.slice a len c, .slice b len d] (w.drewN j0) (RetV (.bool true) w) := by
  obtain ⟨h1, h2, h3, h4, h5⟩ := hr
  obtain ⟨g1, g2, g3, g4, g5⟩ := hs
  unfold maxLen at h3
  go_enter Try.func114, Try.ntmps114
  go_wp2
  go_loopw [5] (fun i wr => ∃ k m : Nat, k ≤ len ∧ i = .int .i64 k ∧ wr = w.drewN m) (fun i _ => len - (intOf i).toNat)
  case atStart => exact ⟨0, j0, Nat.zero_le _, rfl, rfl⟩
  case round =>
    obtain ⟨k, m, hk, rfl, rfl⟩ := hrel
    by_cases hlt : k < len
    · rcases h5 with h5 | ⟨x, off, rfl, hbl, hc⟩
      · omega
      rcases g5 with g5 | ⟨y, off2, rfl, gbl, gc⟩
      · omega
      have hcell : w.cell? ⟨x, off + k, none⟩ = some (.float .f32 (fat zs k)) := hc k hlt
      have gcell : w.cell? ⟨y, off2 + k, none⟩ = some (.float .f32 (fat zs k)) := gc k hlt
      clear hc h4 gc g4
      go_wp2
      refine wp_region_N (fun _ _ u => u = .bool true) (by kernel_rfl) (by kernel_rfl) ?_; (repeat (first | ((with_reducible show wpN _ _ _ _ _ (Oper.mk _ (Op.binOp _ _ _ _ _) _ _ _ none :: _) _); refine wpN_fop rfl _ _ _ _ _ rfl _ _ _ rfl rfl (by decide) ?_; intro _) | ((with_reducible show wpN _ _ _ _ _ (Oper.mk _ (Op.convert _ _ _) _ _ _ none :: _) _); refine wpN_cvU rfl 25 31 _ rfl (Option.isSome_iff_exists.2 ⟨_, Try.underlying25⟩) Try.underlying31 _ rfl ?_; intro _) | ((with_reducible show wpN _ _ _ _ _ (Oper.mk _ _ _ _ _ (some _) :: _) _); (with_reducible refine wpN_off ?_ ?_); focus rfl; (simp only [Act.put, List.setIfInBounds_toArray, List.set_cons_zero, List.set_cons_succ])) | ((with_reducible show wpN _ _ _ _ _ (Oper.mk _ _ _ _ _ (some _) :: _) _); ((with_reducible refine wpN_on ?_ (fun K hK => ?_)); (focus rfl); intro _; go_simp; first | (refine uponN_value (hK _ ?_)) | ((refine uponN_call (callN rfl (c_sameFloat _ _ _ _ _)) ?_; intro u hu; obtain rfl : u = _ := hu); refine hK _ ?_)); clear hK K) | (((with_reducible refine wpN_plain rfl (fun K hK => ?_)); intro _; go_simp; first | (refine uponN_value (hK _ ?_)) | ((refine uponN_call (callN rfl (c_sameFloat _ _ _ _ _)) ?_; intro u hu; obtain rfl : u = _ := hu); refine hK _ ?_)); clear hK K) | ((with_reducible refine wpN_step (fun K hK => ?_)); go_simp; first | (refine hK _ ?_) | (intro _; first | (refine uponN_value (hK _ ?_)) | ((refine uponN_call (callN rfl (c_sameFloat _ _ _ _ _)) ?_; intro u hu; obtain rfl : u = _ := hu); refine hK _ ?_)); clear hK K))); refine wpN_nil ?_; intro _
      go_wp2
      go_roundw
      case rel => exact ⟨k + 1, _, by omega, by go_num, rfl⟩
      case measure => simp [intOf]; omega
    · clear h5 h4 g4 g5
      go_wp2
      go_ret
      exact ⟨_, rfl, rfl⟩
/-! ### eqPicture -/
theorem c_eqF0 (a b : Option Addr) (len c d : Nat) (zs : List Nat) (w : World) (hr : IsRowF .f32 w a len c zs) (hs : IsRowF .f32 w b len d zs) : Calls Try.prog 114 #[.slice a len c, .slice b len d] w (RetV (.bool true) w) := by
  have h := c_eqF a b len c d zs w 0 hr hs
  rwa [w.drewN_zero] at h
theorem c_eqP (W H : Int) (a b : Option Addr) (len c d : Nat) (zs : List Nat) (w : World) (hr : IsRowF .f32 w a len c zs) (hs : IsRowF .f32 w b len d zs) : Calls Try.prog 51 #[.agg #[.int .i64 W, .int .i64 H, .slice a len c], .agg #[.int .i64 W, .int .i64 H, .slice b len d]] w (RetB (.bool true) w) := by
  have HR := Lib.hid hr
  have HS := Lib.hid hs
  clear hr hs
  go_enter Try.func51, Try.ntmps51
  go_wp2_with fail
  refine (c_eqF0 a b len c d zs _ ((HR.out.alloc _).alloc _) ((HS.out.alloc _).alloc _)).mono ?_
  rintro _ _ ⟨m, rfl, rfl⟩
  go_wp2_with fail
  go_ret
  exact ⟨rfl, below_drewN (((Below.refl _ _).alloc (Nat.le_refl _) _).alloc (by simp) _) _⟩
/-! ### markFloat32S -/
theorem c_markF (B : Nat) (a : Option Addr) (len cap k : Nat) (zs : List Nat) (w : World) (hr : Own 25 w B a len cap zs) (hk : k + len ≤ 4611686018427387904) : Calls Try.prog 119 #[.slice a len cap, .int .i64 k] w (fun e w' => e = .returned (.int .i64 ((k + len : Nat) : Int)) ∧ w.grownBy w' (blk a) ∧ Own 25 w' B a len cap (marks k len)) := by
  rcases hr.parts with ⟨rfl, rfl, rfl, rfl⟩ | ⟨g, cur, rfl, hb, hg, hl, hm, hs, ht⟩
  · clear hr
    go_enter Try.func119, Try.ntmps119
    go_wp2
    refine wp_loop_rounds 1 ?_; rw [rounds_succ]
    go_wp2
    go_ret
    exact ⟨rfl, ⟨rfl, rfl, rfl, Nat.le_refl _, fun _ _ _ => rfl⟩, Own.nil _ _ _⟩
  · have h0 : Marked w g 25 cap k 0 := ⟨cur, hg, hs, fun i hi => by omega⟩
    have H0 := Lib.hid h0
    unfold maxLen at hm
    clear hr hg hs ht h0
    go_enter Try.func119, Try.ntmps119
    go_wp2
    go_loopw [1, 5] (fun t i wr => ∃ j : Nat, j ≤ len ∧ i = .int .i64 j ∧ t = .int .i64 ((k + j : Nat) : Int) ∧ w.grownBy wr (some g) ∧ Marked wr g 25 cap k j) (fun _ i _ => len - (intOf i).toNat)
    case atStart => exact ⟨0, Nat.zero_le _, rfl, rfl, ⟨rfl, rfl, rfl, Nat.le_refl _, fun _ _ _ => rfl⟩, H0.out⟩
    case round =>
      obtain ⟨j, hj, rfl, rfl, hgr, hM⟩ := hrel
      by_cases hlt : j < len
      · obtain ⟨v, hcell, hfz⟩ := hM.cell (j := j) (by omega)
        have hM2 := Lib.hid (hM.step (by omega : j < cap))
        have hG2 := Lib.hid hgr
        clear hM hgr
        go_wp2
        go_roundw
        case rel => exact ⟨j + 1, by omega, by go_num, by go_num, ⟨hG2.out.os, hG2.out.tape, hG2.out.output, by have := hG2.out.size; simpa using this, fun k' h1 h2 => by rw [Below.heap_setCell _ _ _ _ (fun e => h2 (by rw [e]))]; exact hG2.out.block k' h1 h2⟩, hM2.out⟩
        case measure => simp [intOf]; omega
      · obtain rfl : j = len := by omega
        have hO := Lib.hid (hM.own (B := B) hb hl (by unfold maxLen; omega))
        have hG2 := Lib.hid hgr
        clear hM hgr
        go_wp2
        go_ret
        exact ⟨rfl, hG2.out, hO.out⟩
/-! ### heldFloat32S -/
theorem c_heldF (a : Option Addr) (len cap k : Nat) (w : World) (hr : IsRowF .f32 w a len cap (marks k len)) (hk : k + len ≤ 4611686018427387904) : Calls Try.prog 120 #[.slice a len cap, .int .i64 k] w (fun e w' => e = .returned (.int .i64 ((k + len : Nat) : Int)) ∧ w' = w) := by
  obtain ⟨h1, h2, h3, h4, h5⟩ := hr
  unfold maxLen at h3
  clear h1 h4
  go_enter Try.func120, Try.ntmps120
  go_wp2
  go_loop [1, 5] (fun t i => ∃ j : Nat, j ≤ len ∧ i = .int .i64 j ∧ t = .int .i64 ((k + j : Nat) : Int)) (fun _ i => len - (intOf i).toNat)
  case atStart => exact ⟨0, Nat.zero_le _, rfl, rfl⟩
  case round =>
    obtain ⟨j, hj, rfl, rfl⟩ := hrel
    by_cases hlt : j < len
    · rcases h5 with h5 | ⟨b, off, rfl, hbl, hc⟩
      · omega
      have hcell : w.cell? ⟨b, off + j, none⟩ = some (.float .f32 (markN k j)) := by rw [← marks_at k len j hlt]; exact hc j hlt
      have hne : (FloatKind.f32.format.order (markN k j) (markN k j) != some .eq) = false := by rw [self_ne]; exact markN_notN k j
      have hE : floatOfInt .f32 ((k : Int) + (j : Int)) = markN k j := by unfold markN; rw [Int.natCast_add]
      have hne2 : (FloatKind.f32.format.order (markN k j) (floatOfInt .f32 ((k : Int) + (j : Int))) != some .eq) = false := (congrArg (fun x => FloatKind.f32.format.order (markN k j) x != some .eq) hE).trans hne
      clear hE
      clear hc
      go_wp2
      go_round
      case rel => exact ⟨j + 1, by omega, by go_num, by go_num⟩
      case measure => simp [intOf]; omega
    · obtain rfl : j = len := by omega
      clear h5
      go_wp2
      go_ret
      exact ⟨rfl, rfl⟩
/-! ### markPicture -/
theorem c_markP (W H : Int) (B : Nat) (a : Option Addr) (len cap k : Nat) (zs : List Nat) (w : World) (hr : Own 25 w B a len cap zs) (hk : k + len ≤ 4611686018427387904) : Calls Try.prog 54 #[.agg #[.int .i64 W, .int .i64 H, .slice a len cap], .int .i64 k] w (fun e w' => e = .returned (.int .i64 ((k + len : Nat) : Int)) ∧ w.grownBy w' (blk a) ∧ Own 25 w' B a len cap (marks k len)) := by
  have HR := Lib.hid hr
  clear hr
  go_enter Try.func54, Try.ntmps54
  go_wp2_with fail
  refine (c_markF B a len cap k zs _ (HR.out.alloc _) hk).mono ?_
  rintro _ w1 ⟨rfl, hg, hO⟩
  have HG := Lib.hid hg
  have HO := Lib.hid hO
  clear hg hO
  go_wp2_with fail
  go_ret
  exact ⟨rfl, ⟨HG.out.os, HG.out.tape, HG.out.output, by have := HG.out.size; simp at this; omega, fun k' h1 h2 => by rw [HG.out.block k' (by simp; omega) h2]; exact Below.heap_alloc _ _ _ h1⟩, HO.out⟩
theorem c_heldP (W H : Int) (a : Option Addr) (len cap k : Nat) (w : World) (hr : IsRowF .f32 w a len cap (marks k len)) (hk : k + len ≤ 4611686018427387904) : Calls Try.prog 55 #[.agg #[.int .i64 W, .int .i64 H, .slice a len cap], .int .i64 k] w (RetB (.int .i64 ((k + len : Nat) : Int)) w) := by
  have HR := Lib.hid hr
  clear hr
  have h0 : 0 ≤ ((k + len : Nat) : Int) := by omega
  go_enter Try.func55, Try.ntmps55
  go_wp2_with fail
  refine (c_heldF a len cap k _ (HR.out.alloc _) hk).mono ?_
  rintro _ w1 ⟨rfl, rfl⟩
  go_wp2_with fail
  go_ret
  exact ⟨rfl, (Below.refl _ _).alloc (Nat.le_refl _) _⟩

/-! ### picDefs -/
def sideB (W H : Int) : Bool := decide (1 ≤ W) && decide (W ≤ 16) && (decide (1 ≤ H) && decide (H ≤ 16))
def finL (zs : List Nat) : Bool := zs.all (finB .f32)
def validB (W H : Int) (zs : List Nat) : Bool := sideB W H && decide ((zs.length : Int) = W * H) && finL zs
theorem sideB_true {W H : Int} (h : sideB W H = true) : (1 ≤ W ∧ W ≤ 16) ∧ 1 ≤ H ∧ H ≤ 16 := by simpa [sideB, and_assoc] using h
theorem side_mul {W H : Int} (h : sideB W H = true) : 1 ≤ W * H ∧ W * H ≤ 256 := by
  obtain ⟨⟨h1, h2⟩, h3, h4⟩ := sideB_true h
  have : W * H ≤ 16 * 16 := Int.mul_le_mul h2 h4 (by omega) (by omega)
  have h5 : 1 * 1 ≤ W * H := Int.mul_le_mul h1 h3 (by omega) (by omega)
  omega
theorem sideB_false {W H : Int} (h : sideB W H = false) : W < 1 ∨ 16 < W ∨ H < 1 ∨ 16 < H := by
  simp [sideB] at h; omega
theorem finL_snoc (zs : List Nat) (k : Nat) (hk : k < zs.length) : finL (zs.take (k + 1)) = (finL (zs.take k) && finB .f32 (fat zs k)) := by
  unfold finL fat
  rw [List.take_succ_eq_append_getElem hk, List.all_append, List.getD, List.getElem?_eq_getElem hk]; simp
theorem finL_of (zs : List Nat) (k : Nat) (hk : k < zs.length) (h : finB .f32 (fat zs k) = false) : finL zs = false := by
  unfold finL
  rw [List.all_eq_false]
  refine ⟨zs[k], List.getElem_mem hk, ?_⟩
  unfold fat at h
  rw [List.getD, List.getElem?_eq_getElem hk] at h
  simpa using h
theorem pick0 (k : FloatKind) (v : Nat) (hv : v < 2 ^ k.format.width) : ∃ n, v = pick k v n := pick_onto k v hv
/-! ### sameDefs -/
def sm (a b : Nat) : Bool := bitsI a == bitsI b
def sameK (zA zB : List Nat) (k : Nat) : Bool := ((zA.zip zB).take k).all (fun p => sm p.1 p.2)
def sameL (zA zB : List Nat) : Bool := zA.length == zB.length && (zA.zip zB).all (fun p => sm p.1 p.2)
def sameP (WA HA : Int) (zA : List Nat) (WB HB : Int) (zB : List Nat) : Bool := WA == WB && HA == HB && sameL zA zB
theorem sameK_succ {zA zB : List Nat} (h : zA.length = zB.length) {k : Nat} (hk : k < zA.length) : sameK zA zB (k + 1) = (sameK zA zB k && sm (fat zA k) (fat zB k)) := by
  have hl : k < (zA.zip zB).length := by simp; omega
  have hk2 : k < zB.length := by omega
  unfold sameK fat
  rw [List.take_succ_eq_append_getElem hl, List.all_append, List.getD, List.getElem?_eq_getElem hk, List.getD, List.getElem?_eq_getElem hk2]
  simp
theorem sameK_full {zA zB : List Nat} (h : zA.length = zB.length) : sameK zA zB zA.length = sameL zA zB := by
  unfold sameK sameL
  rw [List.take_of_length_le (by simp; omega), h]
  simp
theorem sameK_not {zA zB : List Nat} (h : zA.length = zB.length) {k : Nat} (hk : k < zA.length) (hs : sm (fat zA k) (fat zB k) = false) : sameL zA zB = false := by
  have hl : k < (zA.zip zB).length := by simp; omega
  have hk2 : k < zB.length := by omega
  have : (zA.zip zB).all (fun p => sm p.1 p.2) = false := by
    rw [List.all_eq_false]
    refine ⟨(zA.zip zB)[k], List.getElem_mem hl, ?_⟩
    unfold fat at hs
    rw [List.getD, List.getElem?_eq_getElem hk, List.getD, List.getElem?_eq_getElem hk2] at hs
    simpa using hs
  unfold sameL
  rw [this, Bool.and_false]
theorem sameL_len {zA zB : List Nat} (h : zA.length ≠ zB.length) : sameL zA zB = false := by
  unfold sameL
  rw [beq_false_of_ne h, Bool.false_and]
theorem row_lt {w : World} {a : Option Addr} {len cap : Nat} {zs : List Nat} (h : IsRowF .f32 w a len cap zs) {k : Nat} (hk : k < len) : fat zs k < 2 ^ FloatKind.f32.format.width := lt_of_wf (h.2.2.2.1 _ (fat_mem (by have := h.1; omega)))
/-! ### f32bits -/
@[go_sem] theorem e_f32bits (b : Nat) (w : World) : (callFunc 66 #[.float .f32 b]).run Try.prog w = .ok (.value (.int .u32 b)) w := by kernel_rfl
/-! ### l01Bits -/
theorem c_l01Bits (v n : Nat) (w : World) (j : Nat) (hv : v < 2 ^ FloatKind.f32.format.width) : Calls Try.prog 165 #[.float .f32 (pick .f32 v n)] (w.drewN j) (RetV (.int .i64 (bitsI v)) w) := by
  have hv' : v < 4294967296 := hv
  cases h : isN .f32 v
  · have e : bitsI v = v := by simp [bitsI, h]
    rw [e, pick_not h]
    have hs := self_ne .f32 v
    rw [h] at hs
    go_enter Try.func165, Try.ntmps165
    go_wp2
    go_ret
    exact ⟨_, rfl, rfl⟩
  · have e : bitsI v = 2143289344 := by simp [bitsI, h]
    rw [e]
    go_enter Try.func165, Try.ntmps165
    go_wp2
    go_ret
    exact ⟨_, rfl, rfl⟩
/-! ### l01SameF -/
theorem c_l01Same (a n b m : Nat) (w : World) (j : Nat) (ha : a < 2 ^ FloatKind.f32.format.width) (hb : b < 2 ^ FloatKind.f32.format.width) : Calls Try.prog 160 #[.float .f32 (pick .f32 a n), .float .f32 (pick .f32 b m)] (w.drewN j) (RetV (.bool (bitsI a == bitsI b)) w) := by
  go_enter Try.func160, Try.ntmps160
  go_wp2_with (first | (go_at_call 165; refine (c_l01Bits _ _ _ _ (by assumption)).mono ?_; rintro _ _ ⟨_, rfl, rfl⟩))
  go_ret
  exact ⟨_, rfl, rfl⟩
/-! ### l01SameAll -/
theorem c_l01SameAll (zA : List Nat) (aA : Option Addr) (cA : Nat) (zB : List Nat) (aB : Option Addr) (cB : Nat) (w : World) (j0 : Nat) (rA : IsRowF .f32 w aA zA.length cA zA) (rB : IsRowF .f32 w aB zB.length cB zB) :
    Calls Try.prog 145 #[.slice aA zA.length cA, .slice aB zB.length cB] (w.drewN j0) (RetV (.bool (sameL zA zB)) w) := by
  have RA := Lib.hid rA
  have RB := Lib.hid rB
  have mA : zA.length ≤ maxLen := Nat.le_trans rA.2.1 rA.2.2.1
  unfold maxLen at mA
  clear rA rB
  by_cases hl : (zA.length : Int) = zB.length
  · have hd : ((zA.length : Int) != zB.length) = false := by simp [hl]
    have HL : Hid (zA.length = zB.length) := by unfold Hid; omega
    clear hl
    go_enter Try.func145, Try.ntmps145
    go_wp2
    go_loopw [5] (fun i wr => ∃ k m : Nat, k ≤ zA.length ∧ i = .int .i64 k ∧ wr = w.drewN m ∧ sameK zA zB k = true) (fun i _ => zA.length - (intOf i).toNat)
    case atStart => exact ⟨0, j0, Nat.zero_le _, rfl, rfl, rfl⟩
    case round =>
      obtain ⟨k, m, hk, rfl, rfl, hfin⟩ := hrel
      have HFin := Lib.hid hfin
      clear hfin
      by_cases hlt : k < zA.length
      · have hltB : k < zB.length := by have := HL.out; omega
        obtain ⟨bA, oA, nA, rfl, hbA, eA⟩ := RA.out.at hlt
        obtain ⟨bB, oB, nB, rfl, hbB, eB⟩ := RB.out.at hltB
        have C1 := Lib.hid (fun n => c_l01Same (fat zA k) nA (fat zB k) nB w n (row_lt RA.out hlt) (row_lt RB.out hltB))
        have HS := Lib.hid (sameK_succ HL.out hlt)
        have HX := Lib.hid (sameK_not HL.out hlt)
        clear hbA hbB
        cases hs : sm (fat zA k) (fat zB k)
        · have H1 := Lib.hid hs
          have C2 := Lib.hid (fun n => (by have h := C1.out n; rwa [show (bitsI (fat zA k) == bitsI (fat zB k)) = false from hs] at h))
          clear hs C1
          go_wp2
          refine wp_region_N (fun f _ u => f = 160 → u = .bool false) (by kernel_rfl) (by kernel_rfl) ?_; (repeat (first | ((with_reducible show wpN _ _ _ _ _ (Oper.mk _ (Op.binOp _ _ _ _ _) _ _ _ none :: _) _); refine wpN_fop rfl _ _ _ _ _ rfl _ _ _ rfl rfl (by decide) ?_; intro _) | ((with_reducible show wpN _ _ _ _ _ (Oper.mk _ (Op.convert _ _ _) _ _ _ none :: _) _); refine wpN_cvU rfl 25 31 _ rfl (Option.isSome_iff_exists.2 ⟨_, Try.underlying25⟩) Try.underlying31 _ rfl ?_; intro _) | ((with_reducible show wpN _ _ _ _ _ (Oper.mk _ _ _ _ _ (some _) :: _) _); (with_reducible refine wpN_off ?_ ?_); focus rfl; (simp only [Act.put, List.setIfInBounds_toArray, List.set_cons_zero, List.set_cons_succ])) | ((with_reducible show wpN _ _ _ _ _ (Oper.mk _ _ _ _ _ (some _) :: _) _); ((with_reducible refine wpN_on ?_ (fun K hK => ?_)); (focus rfl); intro _; go_simp; first | (refine uponN_value (hK _ ?_)) | ((refine uponN_call (callN (v := .bool false) (fun _ => rfl) (C2.out _)) ?_; intro u hu; obtain rfl : u = _ := hu rfl; clear hu); refine hK _ ?_)); clear hK K) | (((with_reducible refine wpN_plain rfl (fun K hK => ?_)); intro _; go_simp; first | (refine uponN_value (hK _ ?_)) | ((refine uponN_call (callN (v := .bool false) (fun _ => rfl) (C2.out _)) ?_; intro u hu; obtain rfl : u = _ := hu rfl; clear hu); refine hK _ ?_)); clear hK K) | ((with_reducible refine wpN_step (fun K hK => ?_)); go_simp; first | (refine hK _ ?_) | (intro _; first | (refine uponN_value (hK _ ?_)) | ((refine uponN_call (callN (v := .bool false) (fun _ => rfl) (C2.out _)) ?_; intro u hu; obtain rfl : u = _ := hu rfl; clear hu); refine hK _ ?_)); clear hK K))); refine wpN_nil ?_; intro _
          go_wp2
          go_ret
          exact ⟨_, by rw [HX.out H1.out]; rfl, rfl⟩
        · have H1 := Lib.hid hs
          have C2 := Lib.hid (fun n => (by have h := C1.out n; rwa [show (bitsI (fat zA k) == bitsI (fat zB k)) = true from hs] at h))
          clear hs C1
          go_wp2
          refine wp_region_N (fun f _ u => f = 160 → u = .bool true) (by kernel_rfl) (by kernel_rfl) ?_; (repeat (first | ((with_reducible show wpN _ _ _ _ _ (Oper.mk _ (Op.binOp _ _ _ _ _) _ _ _ none :: _) _); refine wpN_fop rfl _ _ _ _ _ rfl _ _ _ rfl rfl (by decide) ?_; intro _) | ((with_reducible show wpN _ _ _ _ _ (Oper.mk _ (Op.convert _ _ _) _ _ _ none :: _) _); refine wpN_cvU rfl 25 31 _ rfl (Option.isSome_iff_exists.2 ⟨_, Try.underlying25⟩) Try.underlying31 _ rfl ?_; intro _) | ((with_reducible show wpN _ _ _ _ _ (Oper.mk _ _ _ _ _ (some _) :: _) _); (with_reducible refine wpN_off ?_ ?_); focus rfl; (simp only [Act.put, List.setIfInBounds_toArray, List.set_cons_zero, List.set_cons_succ])) | ((with_reducible show wpN _ _ _ _ _ (Oper.mk _ _ _ _ _ (some _) :: _) _); ((with_reducible refine wpN_on ?_ (fun K hK => ?_)); (focus rfl); intro _; go_simp; first | (refine uponN_value (hK _ ?_)) | ((refine uponN_call (callN (v := .bool true) (fun _ => rfl) (C2.out _)) ?_; intro u hu; obtain rfl : u = _ := hu rfl; clear hu); refine hK _ ?_)); clear hK K) | (((with_reducible refine wpN_plain rfl (fun K hK => ?_)); intro _; go_simp; first | (refine uponN_value (hK _ ?_)) | ((refine uponN_call (callN (v := .bool true) (fun _ => rfl) (C2.out _)) ?_; intro u hu; obtain rfl : u = _ := hu rfl; clear hu); refine hK _ ?_)); clear hK K) | ((with_reducible refine wpN_step (fun K hK => ?_)); go_simp; first | (refine hK _ ?_) | (intro _; first | (refine uponN_value (hK _ ?_)) | ((refine uponN_call (callN (v := .bool true) (fun _ => rfl) (C2.out _)) ?_; intro u hu; obtain rfl : u = _ := hu rfl; clear hu); refine hK _ ?_)); clear hK K))); refine wpN_nil ?_; intro _
          go_wp2
          go_roundw
          case rel => exact ⟨k + 1, _, by omega, by go_num, rfl, by rw [HS.out, HFin.out, H1.out]; rfl⟩
          case measure => simp [intOf]; omega
      · obtain rfl : k = zA.length := by omega
        have HK := Lib.hid (sameK_full HL.out)
        go_wp2
        go_ret
        exact ⟨_, by rw [← HK.out, HFin.out]; rfl, rfl⟩
  · have hd : ((zA.length : Int) != zB.length) = true := by simpa using hl
    have HE := Lib.hid (sameL_len (zA := zA) (zB := zB) (by omega))
    clear hl
    go_enter Try.func145, Try.ntmps145
    go_wp2
    go_ret
    exact ⟨_, by rw [HE.out]; rfl, rfl⟩
/-! ### l02Same -/
theorem c_l02SameJ (WA HA : Int) (zA : List Nat) (aA : Option Addr) (cA : Nat) (WB HB : Int) (zB : List Nat) (aB : Option Addr) (cB : Nat) (x y : Nat) (w : World) (j0 : Nat) (vx : Var w x #[.int .i64 WA, .int .i64 HA, .slice aA zA.length cA]) (vy : Var w y #[.int .i64 WB, .int .i64 HB, .slice aB zB.length cB])
    (rA : IsRowF .f32 w aA zA.length cA zA) (rB : IsRowF .f32 w aB zB.length cB zB) : Calls Try.prog 115 #[.pointer (some ⟨x, 0, none⟩), .pointer (some ⟨y, 0, none⟩)] (w.drewN j0) (RetV (.bool (sameP WA HA zA WB HB zB)) w) := by
  obtain ⟨p0, p1, p2⟩ := vx.three
  obtain ⟨q0, q1, q2⟩ := vy.three
  have C1 := Lib.hid (fun n => c_l01SameAll zA aA cA zB aB cB w n rA rB)
  clear vx vy rA rB
  unfold sameP
  cases hW : (WA == WB) <;> cases hH : (HA == HB)
  all_goals
    go_enter Try.func115, Try.ntmps115
    go_wp2
    refine wp_region_N (fun f _ u => f = 145 → u = .bool (sameL zA zB)) (by kernel_rfl) (by kernel_rfl) ?_; (repeat (first | ((with_reducible show wpN _ _ _ _ _ (Oper.mk _ (Op.binOp _ _ _ _ _) _ _ _ none :: _) _); refine wpN_fop rfl _ _ _ _ _ rfl _ _ _ rfl rfl (by decide) ?_; intro _) | ((with_reducible show wpN _ _ _ _ _ (Oper.mk _ (Op.convert _ _ _) _ _ _ none :: _) _); refine wpN_cvU rfl 25 31 _ rfl (Option.isSome_iff_exists.2 ⟨_, Try.underlying25⟩) Try.underlying31 _ rfl ?_; intro _) | ((with_reducible show wpN _ _ _ _ _ (Oper.mk _ _ _ _ _ (some _) :: _) _); (with_reducible refine wpN_off ?_ ?_); focus rfl; (simp only [Act.put, List.setIfInBounds_toArray, List.set_cons_zero, List.set_cons_succ])) | ((with_reducible show wpN _ _ _ _ _ (Oper.mk _ _ _ _ _ (some _) :: _) _); ((with_reducible refine wpN_on ?_ (fun K hK => ?_)); (focus rfl); intro _; go_simp; first | (refine uponN_value (hK _ ?_)) | ((refine uponN_call (callN (v := .bool (sameL zA zB)) (fun _ => rfl) (C1.out _)) ?_; intro u hu; obtain rfl : u = _ := hu rfl; clear hu); refine hK _ ?_)); clear hK K) | (((with_reducible refine wpN_plain rfl (fun K hK => ?_)); intro _; go_simp; first | (refine uponN_value (hK _ ?_)) | ((refine uponN_call (callN (v := .bool (sameL zA zB)) (fun _ => rfl) (C1.out _)) ?_; intro u hu; obtain rfl : u = _ := hu rfl; clear hu); refine hK _ ?_)); clear hK K) | ((with_reducible refine wpN_step (fun K hK => ?_)); go_simp; first | (refine hK _ ?_) | (intro _; first | (refine uponN_value (hK _ ?_)) | ((refine uponN_call (callN (v := .bool (sameL zA zB)) (fun _ => rfl) (C1.out _)) ?_; intro u hu; obtain rfl : u = _ := hu rfl; clear hu); refine hK _ ?_)); clear hK K))); refine wpN_nil ?_; intro _
    go_wp2
    go_ret
    exact ⟨_, by simp, rfl⟩
theorem c_l02Same (WA HA : Int) (zA : List Nat) (aA : Option Addr) (cA : Nat) (WB HB : Int) (zB : List Nat) (aB : Option Addr) (cB : Nat) (x y : Nat) (w : World) (vx : Var w x #[.int .i64 WA, .int .i64 HA, .slice aA zA.length cA]) (vy : Var w y #[.int .i64 WB, .int .i64 HB, .slice aB zB.length cB])
    (rA : IsRowF .f32 w aA zA.length cA zA) (rB : IsRowF .f32 w aB zB.length cB zB) : Calls Try.prog 115 #[.pointer (some ⟨x, 0, none⟩), .pointer (some ⟨y, 0, none⟩)] w (RetV (.bool (sameP WA HA zA WB HB zB)) w) := by
  have h := c_l02SameJ WA HA zA aA cA WB HB zB aB cB x y w 0 vx vy rA rB
  rwa [w.drewN_zero] at h
/-! ### sSame -/
theorem c_sSamePicture (WA HA : Int) (zA : List Nat) (aA : Option Addr) (cA : Nat) (WB HB : Int) (zB : List Nat) (aB : Option Addr) (cB : Nat) (w : World) (rA : IsRowF .f32 w aA zA.length cA zA) (rB : IsRowF .f32 w aB zB.length cB zB) : Calls Try.prog 52 #[.agg #[.int .i64 WA, .int .i64 HA, .slice aA zA.length cA], .agg #[.int .i64 WB, .int .i64 HB, .slice aB zB.length cB]] w (RetB (.bool (sameP WA HA zA WB HB zB)) w) := by
  have RA := Lib.hid rA
  have RB := Lib.hid rB
  clear rA rB
  go_enter Try.func52, Try.ntmps52
  go_wp2_with fail
  refine (c_l02Same WA HA zA aA cA WB HB zB aB cB w.heap.size (w.heap.size + 1) _ ((Var.new _ _ _).alloc _) (Var.new' _ _ _ _ (by simp)) ((RA.out.alloc _).alloc _) ((RB.out.alloc _).alloc _)).mono ?_
  rintro _ w1 ⟨m, rfl, rfl⟩
  go_wp2_with fail
  go_ret
  exact ⟨rfl, below_drewN (((Below.refl _ _).alloc (Nat.le_refl _) _).alloc (by simp) _) _⟩
/-! ### sidesOf -/
theorem c_sidesOf (W H : Int) (s : Value) (w : World) : Calls Try.prog 79 #[.agg #[.int .i64 W, .int .i64 H, s]] w (RetB (.agg #[.int .i64 W, .int .i64 H]) w) := by
  go_enter Try.func79, Try.ntmps79
  go_wp2
  exact bodyPost_ret (v := .agg #[.int .i64 W, .int .i64 H]) (by simp [results, Try.results79, go_sem]) rfl ⟨rfl, ((Below.refl _ _).alloc (Nat.le_refl _) _).alloc (by simp) _⟩
/-! ### IsNaN -/
theorem c_IsNaN (v n : Nat) (w : World) (j : Nat) : Calls Try.prog 64 #[.float .f64 (pick .f64 v n)] (w.drewN j) (RetV (.bool (isN .f64 v)) w) := by
  go_enter Try.func64, Try.ntmps64
  go_wp2
  go_ret
  exact ⟨_, rfl, rfl⟩
/-! ### f32from -/
@[go_sem] theorem e_f32from (n : Int) (w : World) : (callFunc 68 #[.int .u32 n]).run Try.prog w = .ok (.value (.float .f32 n.toNat)) w := by kernel_rfl
/-! ### notANumber -/
theorem c_notANumber (w : World) (j : Nat) : Calls Try.prog 127 #[] (w.drewN j) (RetV (.float .f32 2143289344) w) := by
  go_enter Try.func127, Try.ntmps127
  go_wp2
  go_ret
  exact ⟨_, rfl, rfl⟩
/-! ### iBitsOf -/
theorem c_iBitsOf (v n : Nat) (w : World) (j : Nat) (hv : v < 2 ^ FloatKind.f32.format.width) : Calls Try.prog 133 #[.float .f32 (pick .f32 v n)] (w.drewN j) (RetV (.int .i64 (bitsI v)) w) := by
  have hv' : v < 4294967296 := hv
  have hc := isN_cvU v
  cases h : isN .f32 v
  · rw [h] at hc
    have e : bitsI v = v := by simp [bitsI, h]
    rw [e, pick_not h]
    go_enter Try.func133, Try.ntmps133
    go_wp2_with (first | (refine wpList_cvU rfl 25 31 _ rfl (Option.isSome_iff_exists.2 ⟨_, Try.underlying25⟩) Try.underlying31 _ rfl _ ?_; intro _ _) | (go_at_call 64; refine (c_IsNaN _ _ _ _).mono ?_; rintro _ _ ⟨_, rfl, rfl⟩) | (go_at_call 127; refine (c_notANumber _ _).mono ?_; rintro _ _ ⟨_, rfl, rfl⟩))
    go_ret
    exact ⟨_, rfl, rfl⟩
  · rw [h] at hc
    have e : bitsI v = 2143289344 := by simp [bitsI, h]
    rw [e]
    go_enter Try.func133, Try.ntmps133
    go_wp2_with (first | (refine wpList_cvU rfl 25 31 _ rfl (Option.isSome_iff_exists.2 ⟨_, Try.underlying25⟩) Try.underlying31 _ rfl _ ?_; intro _ _) | (go_at_call 64; refine (c_IsNaN _ _ _ _).mono ?_; rintro _ _ ⟨_, rfl, rfl⟩) | (go_at_call 127; refine (c_notANumber _ _).mono ?_; rintro _ _ ⟨_, rfl, rfl⟩))
    go_ret
    exact ⟨_, rfl, rfl⟩
/-! ### iSameNumber -/
theorem c_iSameNumber (a n b m : Nat) (w : World) (j : Nat) (ha : a < 2 ^ FloatKind.f32.format.width) (hb : b < 2 ^ FloatKind.f32.format.width) : Calls Try.prog 81 #[.float .f32 (pick .f32 a n), .float .f32 (pick .f32 b m)] (w.drewN j) (RetV (.bool (bitsI a == bitsI b)) w) := by
  go_enter Try.func81, Try.ntmps81
  go_wp2_with (first | (go_at_call 133; refine (c_iBitsOf _ _ _ _ (by assumption)).mono ?_; rintro _ _ ⟨_, rfl, rfl⟩))
  go_ret
  exact ⟨_, rfl, rfl⟩
/-! ### equalFunc -/
theorem c_equalFunc (zA : List Nat) (aA : Option Addr) (cA : Nat) (zB : List Nat) (aB : Option Addr) (cB : Nat) (w : World) (j0 : Nat) (rA : IsRowF .f32 w aA zA.length cA zA) (rB : IsRowF .f32 w aB zB.length cB zB) :
    Calls Try.prog 80 #[.slice aA zA.length cA, .slice aB zB.length cB, .func (.func 81) #[] #[]] (w.drewN j0) (RetV (.bool (sameL zA zB)) w) := by
  have RA := Lib.hid rA
  have RB := Lib.hid rB
  have mA : zA.length ≤ maxLen := Nat.le_trans rA.2.1 rA.2.2.1
  unfold maxLen at mA
  clear rA rB
  by_cases hl : (zA.length : Int) = zB.length
  · have hd : ((zA.length : Int) != zB.length) = false := by simp [hl]
    have HL : Hid (zA.length = zB.length) := by unfold Hid; omega
    clear hl
    go_enter Try.func80, Try.ntmps80
    go_wp2
    go_loopw [7, 8, 9, 17] (fun _ _ _ i wr => ∃ k m : Nat, k ≤ zA.length ∧ i = .int .i64 k ∧ wr = w.drewN m ∧ sameK zA zB k = true) (fun _ _ _ i _ => zA.length - (intOf i).toNat)
    case atStart => exact ⟨0, j0, Nat.zero_le _, rfl, rfl, rfl⟩
    case round =>
      obtain ⟨k, m, hk, rfl, rfl, hfin⟩ := hrel
      have HFin := Lib.hid hfin
      clear hfin
      by_cases hlt : k < zA.length
      · have hltB : k < zB.length := by have := HL.out; omega
        obtain ⟨bA, oA, nA, rfl, hbA, eA⟩ := RA.out.at hlt
        obtain ⟨bB, oB, nB, rfl, hbB, eB⟩ := RB.out.at hltB
        have C1 := Lib.hid (fun n => c_iSameNumber (fat zA k) nA (fat zB k) nB w n (row_lt RA.out hlt) (row_lt RB.out hltB))
        have HS := Lib.hid (sameK_succ HL.out hlt)
        have HX := Lib.hid (sameK_not HL.out hlt)
        clear hbA hbB
        cases hs : sm (fat zA k) (fat zB k)
        · have H1 := Lib.hid hs
          have C2 := Lib.hid (fun n => (by have h := C1.out n; rwa [show (bitsI (fat zA k) == bitsI (fat zB k)) = false from hs] at h))
          clear hs C1
          go_wp2_with ((go_at_call 81; refine (C2.out _).mono ?_; rintro _ _ ⟨_, rfl, rfl⟩))
          go_ret
          exact ⟨_, by rw [HX.out H1.out]; rfl, rfl⟩
        · have H1 := Lib.hid hs
          have C2 := Lib.hid (fun n => (by have h := C1.out n; rwa [show (bitsI (fat zA k) == bitsI (fat zB k)) = true from hs] at h))
          clear hs C1
          go_wp2_with ((go_at_call 81; refine (C2.out _).mono ?_; rintro _ _ ⟨_, rfl, rfl⟩))
          go_roundw
          case rel => exact ⟨k + 1, _, by omega, by go_num, rfl, by rw [HS.out, HFin.out, H1.out]; rfl⟩
          case measure => simp [intOf]; omega
      · obtain rfl : k = zA.length := by omega
        have HK := Lib.hid (sameK_full HL.out)
        go_wp2
        go_ret
        exact ⟨_, by rw [← HK.out, HFin.out]; rfl, rfl⟩
  · have hd : ((zA.length : Int) != zB.length) = true := by simpa using hl
    have HE := Lib.hid (sameL_len (zA := zA) (zB := zB) (by omega))
    clear hl
    go_enter Try.func80, Try.ntmps80
    go_wp2
    go_ret
    exact ⟨_, by rw [HE.out]; rfl, rfl⟩
theorem c_equalFunc0 (zA : List Nat) (aA : Option Addr) (cA : Nat) (zB : List Nat) (aB : Option Addr) (cB : Nat) (w : World) (rA : IsRowF .f32 w aA zA.length cA zA) (rB : IsRowF .f32 w aB zB.length cB zB) :
    Calls Try.prog 80 #[.slice aA zA.length cA, .slice aB zB.length cB, .func (.func 81) #[] #[]] w (RetV (.bool (sameL zA zB)) w) := by
  have h := c_equalFunc zA aA cA zB aB cB w 0 rA rB
  rwa [w.drewN_zero] at h
/-! ### iSamePic -/
theorem c_iSamePicture (WA HA : Int) (zA : List Nat) (aA : Option Addr) (cA : Nat) (WB HB : Int) (zB : List Nat) (aB : Option Addr) (cB : Nat) (w : World) (rA : IsRowF .f32 w aA zA.length cA zA) (rB : IsRowF .f32 w aB zB.length cB zB) : Calls Try.prog 27 #[.agg #[.int .i64 WA, .int .i64 HA, .slice aA zA.length cA], .agg #[.int .i64 WB, .int .i64 HB, .slice aB zB.length cB]] w (RetB (.bool (sameP WA HA zA WB HB zB)) w) := by
  have RA := Lib.hid rA
  have RB := Lib.hid rB
  clear rA rB
  unfold sameP
  generalize hw2 : (w.alloc (Obj.cells #[.int .i64 WA, .int .i64 HA, .slice aA zA.length cA] 35)).alloc (Obj.cells #[.int .i64 WB, .int .i64 HB, .slice aB zB.length cB] 35) = w2
  have B0 : Below w.heap.size w w2 := by subst hw2; exact ((Below.refl _ _).alloc (Nat.le_refl _) _).alloc (by simp) _
  have VA : Var w2 w.heap.size #[.int .i64 WA, .int .i64 HA, .slice aA zA.length cA] := by subst hw2; exact (Var.new _ _ _).alloc _
  have VB : Var w2 (w.heap.size + 1) #[.int .i64 WB, .int .i64 HB, .slice aB zB.length cB] := by subst hw2; exact Var.new' _ _ _ _ (by simp)
  have BW := Lib.hid B0
  have HW2 := Lib.hid hw2
  have SZ : w2.heap.size = w.heap.size + 1 + 1 := by subst hw2; simp
  have KS := Lib.hid (fun (w' : World) (hE : Below w2.heap.size w2 w') => (⟨(hE.cell (p := ⟨w.heap.size, 0, none⟩) (by show w.heap.size < _; omega)).trans VA.three.1, (hE.cell (p := ⟨w.heap.size, 1, none⟩) (by show w.heap.size < _; omega)).trans VA.three.2.1, (hE.cell (p := ⟨w.heap.size, 2, none⟩) (by show w.heap.size < _; omega)).trans VA.three.2.2, (hE.cell (p := ⟨w.heap.size + 1, 0, none⟩) (by show w.heap.size + 1 < _; omega)).trans VB.three.1, (hE.cell (p := ⟨w.heap.size + 1, 1, none⟩) (by show w.heap.size + 1 < _; omega)).trans VB.three.2.1, (hE.cell (p := ⟨w.heap.size + 1, 2, none⟩) (by show w.heap.size + 1 < _; omega)).trans VB.three.2.2⟩ : w'.cell? ⟨w.heap.size, 0, none⟩ = some (.int .i64 WA) ∧ w'.cell? ⟨w.heap.size, 1, none⟩ = some (.int .i64 HA) ∧ w'.cell? ⟨w.heap.size, 2, none⟩ = some (.slice aA zA.length cA) ∧ w'.cell? ⟨w.heap.size + 1, 0, none⟩ = some (.int .i64 WB) ∧ w'.cell? ⟨w.heap.size + 1, 1, none⟩ = some (.int .i64 HB) ∧ w'.cell? ⟨w.heap.size + 1, 2, none⟩ = some (.slice aB zB.length cB)))
  clear B0 VA VB hw2
  cases hW : (WA == WB) <;> cases hH : (HA == HB)
  · go_enter Try.func27, Try.ntmps27
    go_wp2_with fail
    rw [HW2.out]
    refine wp_region_facts 12 (Below w2.heap.size) (Below.refl _) (fun _ _ _ => Below.trans) (below_drewN (Below.refl _ _) 1) (by kernel_rfl) (by kernel_rfl) (by kernel_rfl) (by kernel_rfl) ?_
    simp only [List.take_succ_cons, List.take_zero, List.drop_succ_cons, List.drop_zero]
    (with_reducible apply wpF_val); (focus (intro vs w' hE hk; (obtain ⟨d0, d1, d2, e0, e1, e2⟩ := KS.out w' hE); go_simp; exact ⟨Below.refl _ _, rfl⟩)); (simp only [Act.put, List.setIfInBounds_toArray, List.set_cons_zero, List.set_cons_succ, List.cons_append, List.nil_append])
    (with_reducible apply wpF_val); (focus (intro vs w' hE hk; (obtain ⟨d0, d1, d2, e0, e1, e2⟩ := KS.out w' hE); go_simp; refine (c_sidesOf WA HA _ _).mono ?_; rintro _ w3 ⟨rfl, b⟩; exact ⟨_, rfl, b.mono (by have := hE.size; omega), rfl⟩)); (simp only [Act.put, List.setIfInBounds_toArray, List.set_cons_zero, List.set_cons_succ, List.cons_append, List.nil_append])
    (with_reducible apply wpF_val); (focus (intro vs w' hE hk; (obtain ⟨d0, d1, d2, e0, e1, e2⟩ := KS.out w' hE); go_simp; exact ⟨Below.refl _ _, rfl⟩)); (simp only [Act.put, List.setIfInBounds_toArray, List.set_cons_zero, List.set_cons_succ, List.cons_append, List.nil_append])
    (with_reducible apply wpF_val); (focus (intro vs w' hE hk; (obtain ⟨d0, d1, d2, e0, e1, e2⟩ := KS.out w' hE); go_simp; refine (c_sidesOf WB HB _ _).mono ?_; rintro _ w3 ⟨rfl, b⟩; exact ⟨_, rfl, b.mono (by have := hE.size; omega), rfl⟩)); (simp only [Act.put, List.setIfInBounds_toArray, List.set_cons_zero, List.set_cons_succ, List.cons_append, List.nil_append])
    (with_reducible apply wpF_val); (focus (intro vs w' hE hk; (obtain ⟨d0, d1, d2, e0, e1, e2⟩ := KS.out w' hE); go_simp; exact ⟨Below.refl _ _, rfl⟩)); (simp only [Act.put, List.setIfInBounds_toArray, List.set_cons_zero, List.set_cons_succ, List.cons_append, List.nil_append])
    (with_reducible apply wpF_val); (focus (intro vs w' hE hk; (obtain ⟨d0, d1, d2, e0, e1, e2⟩ := KS.out w' hE); go_simp; exact ⟨Below.refl _ _, rfl⟩)); (simp only [Act.put, List.setIfInBounds_toArray, List.set_cons_zero, List.set_cons_succ, List.cons_append, List.nil_append])
    (with_reducible apply wpF_val); (focus (intro vs w' hE hk; (obtain ⟨d0, d1, d2, e0, e1, e2⟩ := KS.out w' hE); go_simp; rfl)); (simp only [Act.put, List.setIfInBounds_toArray, List.set_cons_zero, List.set_cons_succ, List.cons_append, List.nil_append])
    (with_reducible apply wpF_val); (focus (intro vs w' hE hk; (obtain ⟨d0, d1, d2, e0, e1, e2⟩ := KS.out w' hE); go_simp; rfl)); (simp only [Act.put, List.setIfInBounds_toArray, List.set_cons_zero, List.set_cons_succ, List.cons_append, List.nil_append])
    (with_reducible apply wpF_val); (focus (intro vs w' hE hk; (obtain ⟨d0, d1, d2, e0, e1, e2⟩ := KS.out w' hE); go_simp; rfl)); (simp only [Act.put, List.setIfInBounds_toArray, List.set_cons_zero, List.set_cons_succ, List.cons_append, List.nil_append])
    (with_reducible apply wpF_val); (focus (intro vs w' hE hk; (obtain ⟨d0, d1, d2, e0, e1, e2⟩ := KS.out w' hE); go_simp; rfl)); (simp only [Act.put, List.setIfInBounds_toArray, List.set_cons_zero, List.set_cons_succ, List.cons_append, List.nil_append])
    (with_reducible apply wpF_val); (focus (intro vs w' hE hk; (obtain ⟨d0, d1, d2, e0, e1, e2⟩ := KS.out w' hE); go_simp; rfl)); (simp only [Act.put, List.setIfInBounds_toArray, List.set_cons_zero, List.set_cons_succ, List.cons_append, List.nil_append])
    (with_reducible apply wpF_val); (focus (intro vs w' hE hk; (obtain ⟨d0, d1, d2, e0, e1, e2⟩ := KS.out w' hE); go_simp; exact ⟨Below.refl _ _, rfl⟩)); (simp only [Act.put, List.setIfInBounds_toArray, List.set_cons_zero, List.set_cons_succ, List.cons_append, List.nil_append])
    refine wpF_nil (fun vs w' hE hk => ?_)
    have BX := Lib.hid (BW.out.trans (hE.mono (by omega)))
    clear hE hk
    go_wp2_with fail
    go_ret
    exact ⟨by simp, BX.out⟩
  · go_enter Try.func27, Try.ntmps27
    go_wp2_with fail
    rw [HW2.out]
    refine wp_region_facts 12 (Below w2.heap.size) (Below.refl _) (fun _ _ _ => Below.trans) (below_drewN (Below.refl _ _) 1) (by kernel_rfl) (by kernel_rfl) (by kernel_rfl) (by kernel_rfl) ?_
    simp only [List.take_succ_cons, List.take_zero, List.drop_succ_cons, List.drop_zero]
    (with_reducible apply wpF_val); (focus (intro vs w' hE hk; (obtain ⟨d0, d1, d2, e0, e1, e2⟩ := KS.out w' hE); go_simp; exact ⟨Below.refl _ _, rfl⟩)); (simp only [Act.put, List.setIfInBounds_toArray, List.set_cons_zero, List.set_cons_succ, List.cons_append, List.nil_append])
    (with_reducible apply wpF_val); (focus (intro vs w' hE hk; (obtain ⟨d0, d1, d2, e0, e1, e2⟩ := KS.out w' hE); go_simp; refine (c_sidesOf WA HA _ _).mono ?_; rintro _ w3 ⟨rfl, b⟩; exact ⟨_, rfl, b.mono (by have := hE.size; omega), rfl⟩)); (simp only [Act.put, List.setIfInBounds_toArray, List.set_cons_zero, List.set_cons_succ, List.cons_append, List.nil_append])
    (with_reducible apply wpF_val); (focus (intro vs w' hE hk; (obtain ⟨d0, d1, d2, e0, e1, e2⟩ := KS.out w' hE); go_simp; exact ⟨Below.refl _ _, rfl⟩)); (simp only [Act.put, List.setIfInBounds_toArray, List.set_cons_zero, List.set_cons_succ, List.cons_append, List.nil_append])
    (with_reducible apply wpF_val); (focus (intro vs w' hE hk; (obtain ⟨d0, d1, d2, e0, e1, e2⟩ := KS.out w' hE); go_simp; refine (c_sidesOf WB HB _ _).mono ?_; rintro _ w3 ⟨rfl, b⟩; exact ⟨_, rfl, b.mono (by have := hE.size; omega), rfl⟩)); (simp only [Act.put, List.setIfInBounds_toArray, List.set_cons_zero, List.set_cons_succ, List.cons_append, List.nil_append])
    (with_reducible apply wpF_val); (focus (intro vs w' hE hk; (obtain ⟨d0, d1, d2, e0, e1, e2⟩ := KS.out w' hE); go_simp; exact ⟨Below.refl _ _, rfl⟩)); (simp only [Act.put, List.setIfInBounds_toArray, List.set_cons_zero, List.set_cons_succ, List.cons_append, List.nil_append])
    (with_reducible apply wpF_val); (focus (intro vs w' hE hk; (obtain ⟨d0, d1, d2, e0, e1, e2⟩ := KS.out w' hE); go_simp; exact ⟨Below.refl _ _, rfl⟩)); (simp only [Act.put, List.setIfInBounds_toArray, List.set_cons_zero, List.set_cons_succ, List.cons_append, List.nil_append])
    (with_reducible apply wpF_val); (focus (intro vs w' hE hk; (obtain ⟨d0, d1, d2, e0, e1, e2⟩ := KS.out w' hE); go_simp; rfl)); (simp only [Act.put, List.setIfInBounds_toArray, List.set_cons_zero, List.set_cons_succ, List.cons_append, List.nil_append])
    (with_reducible apply wpF_val); (focus (intro vs w' hE hk; (obtain ⟨d0, d1, d2, e0, e1, e2⟩ := KS.out w' hE); go_simp; rfl)); (simp only [Act.put, List.setIfInBounds_toArray, List.set_cons_zero, List.set_cons_succ, List.cons_append, List.nil_append])
    (with_reducible apply wpF_val); (focus (intro vs w' hE hk; (obtain ⟨d0, d1, d2, e0, e1, e2⟩ := KS.out w' hE); go_simp; rfl)); (simp only [Act.put, List.setIfInBounds_toArray, List.set_cons_zero, List.set_cons_succ, List.cons_append, List.nil_append])
    (with_reducible apply wpF_val); (focus (intro vs w' hE hk; (obtain ⟨d0, d1, d2, e0, e1, e2⟩ := KS.out w' hE); go_simp; rfl)); (simp only [Act.put, List.setIfInBounds_toArray, List.set_cons_zero, List.set_cons_succ, List.cons_append, List.nil_append])
    (with_reducible apply wpF_val); (focus (intro vs w' hE hk; (obtain ⟨d0, d1, d2, e0, e1, e2⟩ := KS.out w' hE); go_simp; rfl)); (simp only [Act.put, List.setIfInBounds_toArray, List.set_cons_zero, List.set_cons_succ, List.cons_append, List.nil_append])
    (with_reducible apply wpF_val); (focus (intro vs w' hE hk; (obtain ⟨d0, d1, d2, e0, e1, e2⟩ := KS.out w' hE); go_simp; exact ⟨Below.refl _ _, rfl⟩)); (simp only [Act.put, List.setIfInBounds_toArray, List.set_cons_zero, List.set_cons_succ, List.cons_append, List.nil_append])
    refine wpF_nil (fun vs w' hE hk => ?_)
    have BX := Lib.hid (BW.out.trans (hE.mono (by omega)))
    clear hE hk
    go_wp2_with fail
    go_ret
    exact ⟨by simp, BX.out⟩
  · go_enter Try.func27, Try.ntmps27
    go_wp2_with fail
    rw [HW2.out]
    refine wp_region_facts 12 (Below w2.heap.size) (Below.refl _) (fun _ _ _ => Below.trans) (below_drewN (Below.refl _ _) 1) (by kernel_rfl) (by kernel_rfl) (by kernel_rfl) (by kernel_rfl) ?_
    simp only [List.take_succ_cons, List.take_zero, List.drop_succ_cons, List.drop_zero]
    (with_reducible apply wpF_val); (focus (intro vs w' hE hk; (obtain ⟨d0, d1, d2, e0, e1, e2⟩ := KS.out w' hE); go_simp; exact ⟨Below.refl _ _, rfl⟩)); (simp only [Act.put, List.setIfInBounds_toArray, List.set_cons_zero, List.set_cons_succ, List.cons_append, List.nil_append])
    (with_reducible apply wpF_val); (focus (intro vs w' hE hk; (obtain ⟨d0, d1, d2, e0, e1, e2⟩ := KS.out w' hE); go_simp; refine (c_sidesOf WA HA _ _).mono ?_; rintro _ w3 ⟨rfl, b⟩; exact ⟨_, rfl, b.mono (by have := hE.size; omega), rfl⟩)); (simp only [Act.put, List.setIfInBounds_toArray, List.set_cons_zero, List.set_cons_succ, List.cons_append, List.nil_append])
    (with_reducible apply wpF_val); (focus (intro vs w' hE hk; (obtain ⟨d0, d1, d2, e0, e1, e2⟩ := KS.out w' hE); go_simp; exact ⟨Below.refl _ _, rfl⟩)); (simp only [Act.put, List.setIfInBounds_toArray, List.set_cons_zero, List.set_cons_succ, List.cons_append, List.nil_append])
    (with_reducible apply wpF_val); (focus (intro vs w' hE hk; (obtain ⟨d0, d1, d2, e0, e1, e2⟩ := KS.out w' hE); go_simp; refine (c_sidesOf WB HB _ _).mono ?_; rintro _ w3 ⟨rfl, b⟩; exact ⟨_, rfl, b.mono (by have := hE.size; omega), rfl⟩)); (simp only [Act.put, List.setIfInBounds_toArray, List.set_cons_zero, List.set_cons_succ, List.cons_append, List.nil_append])
    (with_reducible apply wpF_val); (focus (intro vs w' hE hk; (obtain ⟨d0, d1, d2, e0, e1, e2⟩ := KS.out w' hE); go_simp; exact ⟨Below.refl _ _, rfl⟩)); (simp only [Act.put, List.setIfInBounds_toArray, List.set_cons_zero, List.set_cons_succ, List.cons_append, List.nil_append])
    (with_reducible apply wpF_val); (focus (intro vs w' hE hk; (obtain ⟨d0, d1, d2, e0, e1, e2⟩ := KS.out w' hE); go_simp; exact ⟨Below.refl _ _, rfl⟩)); (simp only [Act.put, List.setIfInBounds_toArray, List.set_cons_zero, List.set_cons_succ, List.cons_append, List.nil_append])
    (with_reducible apply wpF_val); (focus (intro vs w' hE hk; (obtain ⟨d0, d1, d2, e0, e1, e2⟩ := KS.out w' hE); go_simp; rfl)); (simp only [Act.put, List.setIfInBounds_toArray, List.set_cons_zero, List.set_cons_succ, List.cons_append, List.nil_append])
    (with_reducible apply wpF_val); (focus (intro vs w' hE hk; (obtain ⟨d0, d1, d2, e0, e1, e2⟩ := KS.out w' hE); go_simp; rfl)); (simp only [Act.put, List.setIfInBounds_toArray, List.set_cons_zero, List.set_cons_succ, List.cons_append, List.nil_append])
    (with_reducible apply wpF_val); (focus (intro vs w' hE hk; (obtain ⟨d0, d1, d2, e0, e1, e2⟩ := KS.out w' hE); go_simp; rfl)); (simp only [Act.put, List.setIfInBounds_toArray, List.set_cons_zero, List.set_cons_succ, List.cons_append, List.nil_append])
    (with_reducible apply wpF_val); (focus (intro vs w' hE hk; (obtain ⟨d0, d1, d2, e0, e1, e2⟩ := KS.out w' hE); go_simp; rfl)); (simp only [Act.put, List.setIfInBounds_toArray, List.set_cons_zero, List.set_cons_succ, List.cons_append, List.nil_append])
    (with_reducible apply wpF_val); (focus (intro vs w' hE hk; (obtain ⟨d0, d1, d2, e0, e1, e2⟩ := KS.out w' hE); go_simp; rfl)); (simp only [Act.put, List.setIfInBounds_toArray, List.set_cons_zero, List.set_cons_succ, List.cons_append, List.nil_append])
    (with_reducible apply wpF_val); (focus (intro vs w' hE hk; (obtain ⟨d0, d1, d2, e0, e1, e2⟩ := KS.out w' hE); go_simp; exact ⟨Below.refl _ _, rfl⟩)); (simp only [Act.put, List.setIfInBounds_toArray, List.set_cons_zero, List.set_cons_succ, List.cons_append, List.nil_append])
    refine wpF_nil (fun vs w' hE hk => ?_)
    have BX := Lib.hid (BW.out.trans (hE.mono (by omega)))
    clear hE hk
    go_wp2_with fail
    go_ret
    exact ⟨by simp, BX.out⟩
  · go_enter Try.func27, Try.ntmps27
    go_wp2_with fail
    rw [HW2.out]
    refine wp_region_facts 12 (Below w2.heap.size) (Below.refl _) (fun _ _ _ => Below.trans) (below_drewN (Below.refl _ _) 1) (by kernel_rfl) (by kernel_rfl) (by kernel_rfl) (by kernel_rfl) ?_
    simp only [List.take_succ_cons, List.take_zero, List.drop_succ_cons, List.drop_zero]
    (with_reducible apply wpF_val); (focus (intro vs w' hE hk; (obtain ⟨d0, d1, d2, e0, e1, e2⟩ := KS.out w' hE); go_simp; exact ⟨Below.refl _ _, rfl⟩)); (simp only [Act.put, List.setIfInBounds_toArray, List.set_cons_zero, List.set_cons_succ, List.cons_append, List.nil_append])
    (with_reducible apply wpF_val); (focus (intro vs w' hE hk; (obtain ⟨d0, d1, d2, e0, e1, e2⟩ := KS.out w' hE); go_simp; refine (c_sidesOf WA HA _ _).mono ?_; rintro _ w3 ⟨rfl, b⟩; exact ⟨_, rfl, b.mono (by have := hE.size; omega), rfl⟩)); (simp only [Act.put, List.setIfInBounds_toArray, List.set_cons_zero, List.set_cons_succ, List.cons_append, List.nil_append])
    (with_reducible apply wpF_val); (focus (intro vs w' hE hk; (obtain ⟨d0, d1, d2, e0, e1, e2⟩ := KS.out w' hE); go_simp; exact ⟨Below.refl _ _, rfl⟩)); (simp only [Act.put, List.setIfInBounds_toArray, List.set_cons_zero, List.set_cons_succ, List.cons_append, List.nil_append])
    (with_reducible apply wpF_val); (focus (intro vs w' hE hk; (obtain ⟨d0, d1, d2, e0, e1, e2⟩ := KS.out w' hE); go_simp; refine (c_sidesOf WB HB _ _).mono ?_; rintro _ w3 ⟨rfl, b⟩; exact ⟨_, rfl, b.mono (by have := hE.size; omega), rfl⟩)); (simp only [Act.put, List.setIfInBounds_toArray, List.set_cons_zero, List.set_cons_succ, List.cons_append, List.nil_append])
    (with_reducible apply wpF_val); (focus (intro vs w' hE hk; (obtain ⟨d0, d1, d2, e0, e1, e2⟩ := KS.out w' hE); go_simp; exact ⟨Below.refl _ _, rfl⟩)); (simp only [Act.put, List.setIfInBounds_toArray, List.set_cons_zero, List.set_cons_succ, List.cons_append, List.nil_append])
    (with_reducible apply wpF_val); (focus (intro vs w' hE hk; (obtain ⟨d0, d1, d2, e0, e1, e2⟩ := KS.out w' hE); go_simp; exact ⟨Below.refl _ _, rfl⟩)); (simp only [Act.put, List.setIfInBounds_toArray, List.set_cons_zero, List.set_cons_succ, List.cons_append, List.nil_append])
    (with_reducible apply wpF_val); (focus (intro vs w' hE hk; (obtain ⟨d0, d1, d2, e0, e1, e2⟩ := KS.out w' hE); go_simp; exact ⟨Below.refl _ _, rfl⟩)); (simp only [Act.put, List.setIfInBounds_toArray, List.set_cons_zero, List.set_cons_succ, List.cons_append, List.nil_append])
    (with_reducible apply wpF_val); (focus (intro vs w' hE hk; (obtain ⟨d0, d1, d2, e0, e1, e2⟩ := KS.out w' hE); go_simp; exact ⟨Below.refl _ _, rfl⟩)); (simp only [Act.put, List.setIfInBounds_toArray, List.set_cons_zero, List.set_cons_succ, List.cons_append, List.nil_append])
    (with_reducible apply wpF_val); (focus (intro vs w' hE hk; (obtain ⟨d0, d1, d2, e0, e1, e2⟩ := KS.out w' hE); go_simp; exact ⟨Below.refl _ _, rfl⟩)); (simp only [Act.put, List.setIfInBounds_toArray, List.set_cons_zero, List.set_cons_succ, List.cons_append, List.nil_append])
    (with_reducible apply wpF_val); (focus (intro vs w' hE hk; (obtain ⟨d0, d1, d2, e0, e1, e2⟩ := KS.out w' hE); go_simp; exact ⟨Below.refl _ _, rfl⟩)); (simp only [Act.put, List.setIfInBounds_toArray, List.set_cons_zero, List.set_cons_succ, List.cons_append, List.nil_append])
    (with_reducible apply wpF_val); (focus (intro vs w' hE hk; (obtain ⟨d0, d1, d2, e0, e1, e2⟩ := KS.out w' hE); go_simp; refine (c_equalFunc0 zA aA cA zB aB cB _ (RA.out.below (BW.out.trans (hE.mono (by omega)))) (RB.out.below (BW.out.trans (hE.mono (by omega))))).mono ?_; rintro _ w3 ⟨m, rfl, rfl⟩; exact ⟨_, rfl, below_drewN (Below.refl _ _) _, rfl⟩)); (simp only [Act.put, List.setIfInBounds_toArray, List.set_cons_zero, List.set_cons_succ, List.cons_append, List.nil_append])
    (with_reducible apply wpF_val); (focus (intro vs w' hE hk; (obtain ⟨d0, d1, d2, e0, e1, e2⟩ := KS.out w' hE); go_simp; exact ⟨Below.refl _ _, rfl⟩)); (simp only [Act.put, List.setIfInBounds_toArray, List.set_cons_zero, List.set_cons_succ, List.cons_append, List.nil_append])
    refine wpF_nil (fun vs w' hE hk => ?_)
    have BX := Lib.hid (BW.out.trans (hE.mono (by omega)))
    clear hE hk
    go_wp2_with fail
    go_ret
    exact ⟨by simp, BX.out⟩
/-! ### lawSame -/

/-! ### FnExactSamePicture -/
set_option maxHeartbeats 8000000 in
theorem walkG (WA HA : Int) (zA : List Nat) (aA : Option Addr) (cA : Nat) (WB HB : Int) (zB : List Nat) (aB : Option Addr) (cB : Nat) (w : World) (r : Bool) (cS : ∀ (aA : Option Addr) (cA : Nat) (aB : Option Addr) (cB : Nat) (w : World), IsRowF .f32 w aA zA.length cA zA → IsRowF .f32 w aB zB.length cB zB → Calls Try.prog 52 #[.agg #[.int .i64 WA, .int .i64 HA, .slice aA zA.length cA], .agg #[.int .i64 WB, .int .i64 HB, .slice aB zB.length cB]] w (RetB (.bool r) w)) (cI : ∀ (aA : Option Addr) (cA : Nat) (aB : Option Addr) (cB : Nat) (w : World), IsRowF .f32 w aA zA.length cA zA → IsRowF .f32 w aB zB.length cB zB → Calls Try.prog 27 #[.agg #[.int .i64 WA, .int .i64 HA, .slice aA zA.length cA], .agg #[.int .i64 WB, .int .i64 HB, .slice aB zB.length cB]] w (RetB (.bool r) w)) (rA : IsRowF .f32 w aA zA.length cA zA) (rB : IsRowF .f32 w aB zB.length cB zB) (hl : zA.length + zB.length ≤ 1048576) : Calls Try.prog 7 #[.agg #[.int .i64 WA, .int .i64 HA, .slice aA zA.length cA], .agg #[.int .i64 WB, .int .i64 HB, .slice aB zB.length cB]] w fun e w' => e = .returned (.bool true) ∧ Below w.heap.size w w' := by
  have CS := Lib.hid cS
  have CI := Lib.hid cI
  clear cS cI
  have RA := Lib.hid rA
  have RB := Lib.hid rB
  clear rA rB
  go_enter Try.func7, Try.ntmps7
  go_wp2_with fail
  refine (c_szP WA HA aA zA.length cA (1048576 : Int) _ (by omega) (by omega)).mono ?_
  rintro _ w1 ⟨rfl, b⟩
  have VpA_1 := Lib.hid (((Var.new' _ _ _ (w.heap.size) (by first | rfl | simp)).alloc _).keep b)
  have VpB_1 := Lib.hid ((Var.new' _ _ _ (w.heap.size + 1) (by first | rfl | simp)).keep b)
  have B_1 := Lib.hid ((((Below.refl w.heap.size w).alloc (Nat.le_refl _) _).alloc (by simp) _).trans (b.mono (by simp; omega)))
  have S_1 : w.heap.size + 2 ≤ w1.heap.size := by have := b.size; simp at this; omega
  have zpA_1 : w.heap.size < w1.heap.size := by omega
  have zpB_1 : w.heap.size + 1 < w1.heap.size := by omega
  clear b
  have hzA : ¬ (((1048576 : Int) - (zA.length : Int)) < 0) := by omega
  obtain ⟨cpB0, cpB1, cpB2⟩ := VpB_1.out.three
  go_wp2_with fail
  clear cpB0 cpB1 cpB2
  refine (c_szP WB HB aB zB.length cB ((1048576 : Int) - (zA.length : Int)) _ (by omega) (by omega)).mono ?_
  rintro _ w2 ⟨rfl, b⟩
  have VpA_2 := Lib.hid (VpA_1.out.keep b)
  have VpB_2 := Lib.hid (VpB_1.out.keep b)
  have B_2 := Lib.hid (B_1.out.trans (b.mono (by omega)))
  have S_2 : w1.heap.size + 0 ≤ w2.heap.size := by have := b.size; omega
  have zpA_2 : w.heap.size < w2.heap.size := by omega
  have zpB_2 : w.heap.size + 1 < w2.heap.size := by omega
  clear b
  clear VpA_1 zpA_1 VpB_1 zpB_1 B_1
  have hzB : ¬ ((((1048576 : Int) - (zA.length : Int)) - (zB.length : Int)) < 0) := by omega
  obtain ⟨cpA0, cpA1, cpA2⟩ := VpA_2.out.three
  obtain ⟨cpB0, cpB1, cpB2⟩ := VpB_2.out.three
  go_wp2_with fail
  have QA := Lib.hid (RA.out.below B_2.out)
  have QB := Lib.hid (RB.out.below B_2.out)
  go_cut [6] (fun s6 wx => s6 = .bool r ∧ Below w2.heap.size w2 wx)
  case first =>
    have KS : ∀ w' : World, Below w2.heap.size w2 w' → (Below w2.heap.size w2 w' ∧ w'.cell? ⟨w.heap.size, 0, none⟩ = some (.int .i64 WA) ∧ w'.cell? ⟨w.heap.size, 1, none⟩ = some (.int .i64 HA) ∧ w'.cell? ⟨w.heap.size, 2, none⟩ = some (.slice aA zA.length cA) ∧ w'.cell? ⟨w.heap.size + 1, 0, none⟩ = some (.int .i64 WB) ∧ w'.cell? ⟨w.heap.size + 1, 1, none⟩ = some (.int .i64 HB) ∧ w'.cell? ⟨w.heap.size + 1, 2, none⟩ = some (.slice aB zB.length cB)) := fun w' hB => ⟨hB, (VpA_2.out.keep hB).three.1, (VpA_2.out.keep hB).three.2.1, (VpA_2.out.keep hB).three.2.2, (VpB_2.out.keep hB).three.1, (VpB_2.out.keep hB).three.2.1, (VpB_2.out.keep hB).three.2.2⟩
    have KD := Lib.hid (KS _ (Below.refl _ _).drew)
    have KH := Lib.hid KS
    clear KS
    have eD : Below w2.heap.size w2 w2.drew := (Below.refl _ _).drew
    go_region_held3 (fun w' => Below w2.heap.size w2 w' ∧ w'.cell? ⟨w.heap.size, 0, none⟩ = some (.int .i64 WA) ∧ w'.cell? ⟨w.heap.size, 1, none⟩ = some (.int .i64 HA) ∧ w'.cell? ⟨w.heap.size, 2, none⟩ = some (.slice aA zA.length cA) ∧ w'.cell? ⟨w.heap.size + 1, 0, none⟩ = some (.int .i64 WB) ∧ w'.cell? ⟨w.heap.size + 1, 1, none⟩ = some (.int .i64 HB) ∧ w'.cell? ⟨w.heap.size + 1, 2, none⟩ = some (.slice aB zB.length cB)) (first | exact KD.out | exact KH.out _ eD | exact KH.out _ (eD.alloc eD.size _) | exact KH.out _ eA | exact KH.out _ (eA.alloc eA.size _) | exact KH.out _ eB | exact KH.out _ (eB.alloc eB.size _) | exact KH.out _ ef | exact KH.out _ (ef.alloc ef.size _) | exact KH.out _ (((ef.setCell (by first | omega | (simp <;> omega)) _).setCell (by first | omega | (simp <;> omega)) _).setCell (by first | omega | (simp <;> omega)) _)) (first | (go_at_call 49; ((with_reducible refine (c_toP WA HA aA zA.length cA zA _ (QA.out.below (And.left (by assumption))) (by omega)).mono ?_); rintro _ wwA ⟨gA, rfl, bA, oA⟩; obtain ⟨hcA, hfA⟩ := bcell bA; have eA : Below w2.heap.size w2 wwA := (Below.trans (And.left (by assumption)) (Below.mono bA (Below.size (And.left (by assumption))))); have qA := bA.size; (try (simp at qA)); (try (have tDA : w2.heap.size < wwA.heap.size := by omega)); (try (have tBA : wwB.heap.size < wwA.heap.size := by omega)))) | (go_at_call 49; ((with_reducible refine (c_toP WB HB aB zB.length cB zB _ (QB.out.below (And.left (by assumption))) (by omega)).mono ?_); rintro _ wwB ⟨gB, rfl, bB, oB⟩; obtain ⟨hcB, hfB⟩ := bcell bB; have eB : Below w2.heap.size w2 wwB := (Below.trans (And.left (by assumption)) (Below.mono bB (Below.size (And.left (by assumption))))); have qB := bB.size; (try (simp at qB)); (try (have tDB : w2.heap.size < wwB.heap.size := by omega)); (try (have tAB : wwA.heap.size < wwB.heap.size := by omega)))) | (go_at_call 52; (refine (CS.out _ _ _ _ _ (oA.below (by first | exact Below.refl _ _ | exact (Below.refl _ _).alloc (Nat.le_refl _) _ | exact bB | exact bB.alloc bB.size _ | exact (((Below.refl _ _).alloc (Nat.le_refl _) _).trans (bB.mono (by simp))))).row (oB.below (by first | exact Below.refl _ _ | exact (Below.refl _ _).alloc (Nat.le_refl _) _ | exact bA | exact bA.alloc bA.size _ | exact (((Below.refl _ _).alloc (Nat.le_refl _) _).trans (bA.mono (by simp))))).row).mono ?_); rintro _ wf ⟨rfl, bf⟩; obtain ⟨hcf, hff⟩ := bcell bf; have ef : Below w2.heap.size w2 wf := (Below.trans (And.left (by assumption)) (Below.mono bf (Below.size (And.left (by assumption))))); have qf := bf.size; (try (simp at qf)); (try (have tDf : w2.heap.size < wf.heap.size := by omega)); (try (have tAf : wwA.heap.size < wf.heap.size := by omega)); (try (have tBf : wwB.heap.size < wf.heap.size := by omega))))
    all_goals (go_wp2_with fail; go_meet; exact ⟨rfl, ef⟩)
  obtain ⟨rfl, b⟩ := hcut
  obtain ⟨w3, rfl⟩ : ∃ x : World, x = wc := ⟨_, rfl⟩
  clear QA QB
  clear cpA0 cpA1 cpA2 cpB0 cpB1 cpB2
  have VpA_3 := Lib.hid (VpA_2.out.keep b)
  have VpB_3 := Lib.hid (VpB_2.out.keep b)
  have B_3 := Lib.hid (B_2.out.trans (b.mono (by omega)))
  have S_3 : w2.heap.size + 0 ≤ w3.heap.size := by have := b.size; omega
  have zpA_3 : w.heap.size < w3.heap.size := by omega
  have zpB_3 : w.heap.size + 1 < w3.heap.size := by omega
  clear b
  clear VpA_2 zpA_2 VpB_2 zpB_2 B_2
  obtain ⟨cpA0, cpA1, cpA2⟩ := VpA_3.out.three
  go_wp2_with fail
  clear cpA0 cpA1 cpA2
  refine (c_toP WA HA aA zA.length cA zA _ (RA.out.below B_3.out) (by omega)).mono ?_
  rintro _ w4 ⟨gxA, rfl, b, o⟩
  have LxA := Lib.hid o.in
  have OxA_4 := Lib.hid o
  clear o
  have VpA_4 := Lib.hid (VpA_3.out.keep b)
  have VpB_4 := Lib.hid (VpB_3.out.keep b)
  have B_4 := Lib.hid (B_3.out.trans (b.mono (by omega)))
  have S_4 : w3.heap.size + 0 ≤ w4.heap.size := by have := b.size; omega
  have zpA_4 : w.heap.size < w4.heap.size := by omega
  have zpB_4 : w.heap.size + 1 < w4.heap.size := by omega
  clear b
  clear VpA_3 zpA_3 VpB_3 zpB_3 B_3
  obtain ⟨cpB0, cpB1, cpB2⟩ := VpB_4.out.three
  go_wp2_with fail
  clear cpB0 cpB1 cpB2
  refine (c_toP WB HB aB zB.length cB zB _ ((RB.out.below B_4.out).alloc _) (by omega)).mono ?_
  rintro _ w5 ⟨gxB, rfl, b, o⟩
  have LxB := Lib.hid o.in
  have LxB := Lib.hid (by have h := LxB.out; simp only [World.size_alloc] at h; exact h)
  have OxB_5 := Lib.hid o
  clear o
  have VpA_5 := Lib.hid ((VpA_4.out.alloc _).keep b)
  have VpB_5 := Lib.hid ((VpB_4.out.alloc _).keep b)
  have VxA_5 := Lib.hid ((Var.new' _ _ _ (w4.heap.size) (by first | rfl | simp)).keep b)
  have OxA_5 := Lib.hid ((OxA_4.out.alloc _).below b)
  have B_5 := Lib.hid ((B_4.out.alloc (by omega) _).trans (b.mono (by simp; omega)))
  have S_5 : w4.heap.size + 1 ≤ w5.heap.size := by have := b.size; simp at this; omega
  have zpA_5 : w.heap.size < w5.heap.size := by omega
  have zpB_5 : w.heap.size + 1 < w5.heap.size := by omega
  have zxA_5 : w4.heap.size < w5.heap.size := by omega
  clear b
  clear VpA_4 zpA_4 VpB_4 zpB_4 OxA_4 B_4
  obtain ⟨cxA0, cxA1, cxA2⟩ := VxA_5.out.three
  go_wp2_with fail
  clear cxA0 cxA1 cxA2
  refine (CI.out _ _ _ _ _ (OxA_5.out.alloc _).row (OxB_5.out.alloc _).row).mono ?_
  rintro _ w6 ⟨rfl, b⟩
  have VpA_6 := Lib.hid ((VpA_5.out.alloc _).keep b)
  have VpB_6 := Lib.hid ((VpB_5.out.alloc _).keep b)
  have VxA_6 := Lib.hid ((VxA_5.out.alloc _).keep b)
  have VxB_6 := Lib.hid ((Var.new' _ _ _ (w5.heap.size) (by first | rfl | simp)).keep b)
  have OxA_6 := Lib.hid ((OxA_5.out.alloc _).below b)
  have OxB_6 := Lib.hid ((OxB_5.out.alloc _).below b)
  have B_6 := Lib.hid ((B_5.out.alloc (by omega) _).trans (b.mono (by simp; omega)))
  have S_6 : w5.heap.size + 1 ≤ w6.heap.size := by have := b.size; simp at this; omega
  have zpA_6 : w.heap.size < w6.heap.size := by omega
  have zpB_6 : w.heap.size + 1 < w6.heap.size := by omega
  have zxA_6 : w4.heap.size < w6.heap.size := by omega
  have zxB_6 : w5.heap.size < w6.heap.size := by omega
  clear b
  clear VpA_5 zpA_5 VpB_5 zpB_5 VxA_5 zxA_5 OxA_5 OxB_5 B_5
  obtain ⟨cpA0, cpA1, cpA2⟩ := VpA_6.out.three
  obtain ⟨cxA0, cxA1, cxA2⟩ := VxA_6.out.three
  go_wp2_with fail
  have D : Below w6.heap.size w6 w6.drew := (Below.refl _ _).drew
  have RD := Lib.hid ((RA.out.below B_6.out).below D)
  have XD := Lib.hid (OxA_6.out.below D)
  have HD := Lib.hid D
  clear D
  go_region_held3 (fun w' => w'.cell? ⟨w.heap.size, 0, none⟩ = some (.int .i64 WA) ∧ w'.cell? ⟨w.heap.size, 1, none⟩ = some (.int .i64 HA) ∧ w'.cell? ⟨w.heap.size, 2, none⟩ = some (.slice aA zA.length cA) ∧ w'.cell? ⟨w4.heap.size, 0, none⟩ = some (.int .i64 WA) ∧ w'.cell? ⟨w4.heap.size, 1, none⟩ = some (.int .i64 HA) ∧ w'.cell? ⟨w4.heap.size, 2, none⟩ = some (.slice (some ⟨gxA, 0, none⟩) zA.length zA.length)) (first | exact ⟨cpA0, cpA1, cpA2, cxA0, cxA1, cxA2⟩ | (have e1 := ((VpA_6.out.keep HD.out).keep b7).three; have e2 := ((VxA_6.out.keep HD.out).keep b7).three; exact ⟨e1.1, e1.2.1, e1.2.2, e2.1, e2.2.1, e2.2.2⟩) | (have e1 := (((VpA_6.out.keep HD.out).keep b7).keep b8).three; have e2 := (((VxA_6.out.keep HD.out).keep b7).keep b8).three; exact ⟨e1.1, e1.2.1, e1.2.2, e2.1, e2.2.1, e2.2.2⟩)) (first | (go_at_call 49; refine (c_toP WA HA aA zA.length cA zA _ RD.out (by omega)).mono ?_; rintro _ wt ⟨g7, rfl, b7, o7⟩) | (go_at_call 51; refine (c_eqP _ _ _ _ _ _ _ _ _ (XD.out.below b7).row o7.row).mono ?_; rintro _ w7 ⟨rfl, b8⟩))
  have b := HD.out.trans (b7.trans (b8.mono b7.size))
  clear RD XD HD b7 b8 o7
  clear cpA0 cpA1 cpA2 cxA0 cxA1 cxA2
  have VpA_7 := Lib.hid (VpA_6.out.keep b)
  have VpB_7 := Lib.hid (VpB_6.out.keep b)
  have VxA_7 := Lib.hid (VxA_6.out.keep b)
  have VxB_7 := Lib.hid (VxB_6.out.keep b)
  have OxA_7 := Lib.hid (OxA_6.out.below b)
  have OxB_7 := Lib.hid (OxB_6.out.below b)
  have B_7 := Lib.hid (B_6.out.trans (b.mono (by omega)))
  have S_7 : w6.heap.size + 0 ≤ w7.heap.size := by have := b.size; omega
  have zpA_7 : w.heap.size < w7.heap.size := by omega
  have zpB_7 : w.heap.size + 1 < w7.heap.size := by omega
  have zxA_7 : w4.heap.size < w7.heap.size := by omega
  have zxB_7 : w5.heap.size < w7.heap.size := by omega
  clear b
  clear VpA_6 zpA_6 VpB_6 zpB_6 VxA_6 zxA_6 VxB_6 zxB_6 OxA_6 OxB_6 B_6
  obtain ⟨cpB0, cpB1, cpB2⟩ := VpB_7.out.three
  obtain ⟨cxB0, cxB1, cxB2⟩ := VxB_7.out.three
  go_wp2_with fail
  have D : Below w7.heap.size w7 w7.drew := (Below.refl _ _).drew
  have RD := Lib.hid ((RB.out.below B_7.out).below D)
  have XD := Lib.hid (OxB_7.out.below D)
  have HD := Lib.hid D
  clear D
  go_region_held3 (fun w' => w'.cell? ⟨w.heap.size + 1, 0, none⟩ = some (.int .i64 WB) ∧ w'.cell? ⟨w.heap.size + 1, 1, none⟩ = some (.int .i64 HB) ∧ w'.cell? ⟨w.heap.size + 1, 2, none⟩ = some (.slice aB zB.length cB) ∧ w'.cell? ⟨w5.heap.size, 0, none⟩ = some (.int .i64 WB) ∧ w'.cell? ⟨w5.heap.size, 1, none⟩ = some (.int .i64 HB) ∧ w'.cell? ⟨w5.heap.size, 2, none⟩ = some (.slice (some ⟨gxB, 0, none⟩) zB.length zB.length)) (first | exact ⟨cpB0, cpB1, cpB2, cxB0, cxB1, cxB2⟩ | (have e1 := ((VpB_7.out.keep HD.out).keep b7).three; have e2 := ((VxB_7.out.keep HD.out).keep b7).three; exact ⟨e1.1, e1.2.1, e1.2.2, e2.1, e2.2.1, e2.2.2⟩) | (have e1 := (((VpB_7.out.keep HD.out).keep b7).keep b8).three; have e2 := (((VxB_7.out.keep HD.out).keep b7).keep b8).three; exact ⟨e1.1, e1.2.1, e1.2.2, e2.1, e2.2.1, e2.2.2⟩)) (first | (go_at_call 49; refine (c_toP WB HB aB zB.length cB zB _ RD.out (by omega)).mono ?_; rintro _ wt ⟨g7, rfl, b7, o7⟩) | (go_at_call 51; refine (c_eqP _ _ _ _ _ _ _ _ _ (XD.out.below b7).row o7.row).mono ?_; rintro _ w8 ⟨rfl, b8⟩))
  have b := HD.out.trans (b7.trans (b8.mono b7.size))
  clear RD XD HD b7 b8 o7
  clear cpB0 cpB1 cpB2 cxB0 cxB1 cxB2
  have VpA_8 := Lib.hid (VpA_7.out.keep b)
  have VpB_8 := Lib.hid (VpB_7.out.keep b)
  have VxA_8 := Lib.hid (VxA_7.out.keep b)
  have VxB_8 := Lib.hid (VxB_7.out.keep b)
  have OxA_8 := Lib.hid (OxA_7.out.below b)
  have OxB_8 := Lib.hid (OxB_7.out.below b)
  have B_8 := Lib.hid (B_7.out.trans (b.mono (by omega)))
  have S_8 : w7.heap.size + 0 ≤ w8.heap.size := by have := b.size; omega
  have zpA_8 : w.heap.size < w8.heap.size := by omega
  have zpB_8 : w.heap.size + 1 < w8.heap.size := by omega
  have zxA_8 : w4.heap.size < w8.heap.size := by omega
  have zxB_8 : w5.heap.size < w8.heap.size := by omega
  clear b
  clear VpA_7 zpA_7 VpB_7 zpB_7 VxA_7 zxA_7 VxB_7 zxB_7 OxA_7 OxB_7 B_7
  go_wp2_with fail
  go_ret
  exact ⟨rfl, B_8.out⟩
theorem walkL0 (WA HA : Int) (zA : List Nat) (aA : Option Addr) (cA : Nat) (WB HB : Int) (zB : List Nat) (aB : Option Addr) (cB : Nat) (w : World) (rA : IsRowF .f32 w aA zA.length cA zA) (rB : IsRowF .f32 w aB zB.length cB zB)  (hm : zA.length ≤ maxLen) (hl : 1048576 < zA.length) : Calls Try.prog 7 #[.agg #[.int .i64 WA, .int .i64 HA, .slice aA zA.length cA], .agg #[.int .i64 WB, .int .i64 HB, .slice aB zB.length cB]] w fun e w' => e = .returned (.bool true) ∧ Below w.heap.size w w' := by
  unfold maxLen at hm
  have RA := Lib.hid rA
  have RB := Lib.hid rB
  clear rA rB
  go_enter Try.func7, Try.ntmps7
  go_wp2_with fail
  refine (c_szP_no WA HA aA zA.length cA (1048576 : Int) _ (by omega) (by omega)).mono ?_
  rintro _ w1 ⟨rfl, b⟩
  have VpA_1 := Lib.hid (((Var.new' _ _ _ (w.heap.size) (by first | rfl | simp)).alloc _).keep b)
  have VpB_1 := Lib.hid ((Var.new' _ _ _ (w.heap.size + 1) (by first | rfl | simp)).keep b)
  have B_1 := Lib.hid ((((Below.refl w.heap.size w).alloc (Nat.le_refl _) _).alloc (by simp) _).trans (b.mono (by simp; omega)))
  have S_1 : w.heap.size + 2 ≤ w1.heap.size := by have := b.size; simp at this; omega
  have zpA_1 : w.heap.size < w1.heap.size := by omega
  have zpB_1 : w.heap.size + 1 < w1.heap.size := by omega
  clear b
  go_wp2_with fail
  go_ret
  exact ⟨rfl, B_1.out⟩
theorem walkL1 (WA HA : Int) (zA : List Nat) (aA : Option Addr) (cA : Nat) (WB HB : Int) (zB : List Nat) (aB : Option Addr) (cB : Nat) (w : World) (rA : IsRowF .f32 w aA zA.length cA zA) (rB : IsRowF .f32 w aB zB.length cB zB) (hp : zA.length ≤ 1048576) (hm : zB.length ≤ maxLen) (hl : 1048576 < zA.length + zB.length) : Calls Try.prog 7 #[.agg #[.int .i64 WA, .int .i64 HA, .slice aA zA.length cA], .agg #[.int .i64 WB, .int .i64 HB, .slice aB zB.length cB]] w fun e w' => e = .returned (.bool true) ∧ Below w.heap.size w w' := by
  unfold maxLen at hm
  have RA := Lib.hid rA
  have RB := Lib.hid rB
  clear rA rB
  go_enter Try.func7, Try.ntmps7
  go_wp2_with fail
  refine (c_szP WA HA aA zA.length cA (1048576 : Int) _ (by omega) (by omega)).mono ?_
  rintro _ w1 ⟨rfl, b⟩
  have VpA_1 := Lib.hid (((Var.new' _ _ _ (w.heap.size) (by first | rfl | simp)).alloc _).keep b)
  have VpB_1 := Lib.hid ((Var.new' _ _ _ (w.heap.size + 1) (by first | rfl | simp)).keep b)
  have B_1 := Lib.hid ((((Below.refl w.heap.size w).alloc (Nat.le_refl _) _).alloc (by simp) _).trans (b.mono (by simp; omega)))
  have S_1 : w.heap.size + 2 ≤ w1.heap.size := by have := b.size; simp at this; omega
  have zpA_1 : w.heap.size < w1.heap.size := by omega
  have zpB_1 : w.heap.size + 1 < w1.heap.size := by omega
  clear b
  have hzA : ¬ (((1048576 : Int) - (zA.length : Int)) < 0) := by omega
  obtain ⟨cpB0, cpB1, cpB2⟩ := VpB_1.out.three
  go_wp2_with fail
  clear cpB0 cpB1 cpB2
  refine (c_szP_no WB HB aB zB.length cB ((1048576 : Int) - (zA.length : Int)) _ (by omega) (by omega)).mono ?_
  rintro _ w2 ⟨rfl, b⟩
  have VpA_2 := Lib.hid (VpA_1.out.keep b)
  have VpB_2 := Lib.hid (VpB_1.out.keep b)
  have B_2 := Lib.hid (B_1.out.trans (b.mono (by omega)))
  have S_2 : w1.heap.size + 0 ≤ w2.heap.size := by have := b.size; omega
  have zpA_2 : w.heap.size < w2.heap.size := by omega
  have zpB_2 : w.heap.size + 1 < w2.heap.size := by omega
  clear b
  clear VpA_1 zpA_1 VpB_1 zpB_1 B_1
  go_wp2_with fail
  go_ret
  exact ⟨rfl, B_2.out⟩
theorem walk (WA HA : Int) (zA : List Nat) (aA : Option Addr) (cA : Nat) (WB HB : Int) (zB : List Nat) (aB : Option Addr) (cB : Nat) (w : World) (rA : IsRowF .f32 w aA zA.length cA zA) (rB : IsRowF .f32 w aB zB.length cB zB) : Calls Try.prog 7 #[.agg #[.int .i64 WA, .int .i64 HA, .slice aA zA.length cA], .agg #[.int .i64 WB, .int .i64 HB, .slice aB zB.length cB]] w fun e w' => e = .returned (.bool true) ∧ Below w.heap.size w w' := by
  have mA : zA.length ≤ maxLen := Nat.le_trans rA.2.1 rA.2.2.1
  have mB : zB.length ≤ maxLen := Nat.le_trans rB.2.1 rB.2.2.1
  by_cases g0 : 1048576 < zA.length
  · exact walkL0 WA HA zA aA cA WB HB zB aB cB w rA rB  mA g0
  by_cases g1 : 1048576 < zA.length + zB.length
  · exact walkL1 WA HA zA aA cA WB HB zB aB cB w rA rB (by omega) mB g1
  exact walkG WA HA zA aA cA WB HB zB aB cB w (sameP WA HA zA WB HB zB) (fun aA cA aB cB w rA rB => c_sSamePicture WA HA zA aA cA WB HB zB aB cB w rA rB ) (fun aA cA aB cB w rA rB => c_iSamePicture WA HA zA aA cA WB HB zB aB cB w rA rB ) rA rB (by omega)

theorem own : ownKnob Try.prog.godebug = none := by kernel_rfl
theorem laidOut : laidOutB Try.prog = true := by kernel_rfl
set_option maxRecDepth 100000 in
theorem lifted (os : Os) (started : os.Started) (H : Type) (enc : TypeId × Value → H) :
    ReturnsInHanded {} Try.checked os 7 .any (Rows.fnExactSamePictureSpec.pre6 enc Try.prog Try.f7 Rows.fnExactSamePictureRow.domain false) (Rows.fnExactSamePictureSpec.post enc Try.prog Try.f7 false true false false) := by
  refine returnsInHanded_of_change (C := Try.checked) own started (by kernel_rfl) Try.func7
    (ChangeSpec.witness6 (enc := enc) (C := Try.checked) false ⟨#[], #[.agg #[.int .i64 0, .int .i64 0, .slice none 0 0], .agg #[.int .i64 0, .int .i64 0, .slice none 0 0]], []⟩ 8 (by kernel_rfl) (by kernel_rfl) (by kernel_rfl) (by kernel_rfl)) ?_
  intro W base args ds gs before hval0 hW hcnd _
  have hval : ∀ (j : Nat) t v, Try.f7.params[j]? = some t → args[j]? = some v → Value.okWide Try.prog W .any base t v := hval0
  have hW' := hW
  obtain ⟨p, q, hA0, hV, rfl, hfz, hnd⟩ := hW
  have hA : DataW.TrodAll enc Try.prog W 0 (fun _ => true) true Try.f7.params.toList args.toList ds p := hA0
  rw [Try.params7] at hA hval
  obtain ⟨v0, vs0, d0, ds0, p0, q0, hargs, rfl, rfl, h0, r0⟩ := trodAll_cons hA
  obtain ⟨v1, vs1, d1, ds1, p1, q1, rfl, rfl, rfl, h1, r1⟩ := trodAll_cons r0
  obtain ⟨rfl, rfl, rfl⟩ := trodAll_nil r1
  obtain rfl : args = #[v0, v1] := by cases args; simp_all
  obtain ⟨rfl, rfl⟩ := trodVars_none hV
  have k0 := h0
  have lt0 : ∀ x ∈ p0, x.block < W.heap.size := by obtain ⟨m, hm⟩ := k0; exact DataW.trod_lt m _ _ _ hm
  obtain ⟨W0, H0, z0, a0, c0, rfl, wW0, wH0, w0⟩ := open_pic Try.underlying61 (by kernel_rfl) (by kernel_rfl) Try.underlying2 Try.underlying2 Try.underlying33 Try.underlying25 (by kernel_rfl) (hval 0 61 v0 rfl rfl) h0
  have k1 := h1
  have lt1 : ∀ x ∈ p1, x.block < W.heap.size := by obtain ⟨m, hm⟩ := k1; exact DataW.trod_lt m _ _ _ hm
  obtain ⟨W1, H1, z1, a1, c1, rfl, wW1, wH1, w1⟩ := open_pic Try.underlying61 (by kernel_rfl) (by kernel_rfl) Try.underlying2 Try.underlying2 Try.underlying33 Try.underlying25 (by kernel_rfl) (hval 1 61 v1 rfl rfl) h1
  clear hA0 hval0
  have hw0 : Calls Try.prog 7 #[.agg #[.int .i64 W0, .int .i64 H0, .slice a0 z0.length c0], .agg #[.int .i64 W1, .int .i64 H1, .slice a1 z1.length c1]] W fun e w' => e = .returned (.bool true) ∧ Below W.heap.size W w' := by
    exact walk W0 H0 z0 a0 c0 W1 H1 z1 a1 c1 W w0 w1
  refine hw0.mono fun e W' ⟨he, bel⟩ => ?_
  subst he
  exact ⟨_, rfl, _, _, _, [], _, [], hW', trodAll_mk1 (shut_bool Try.underlying4 _), (trodAll_cons_mk (Below.trod laidOut (by kernel_rfl) (of_decide_eq_true (by kernel_rfl)) k0 bel lt0) (trodAll_cons_mk (Below.trod laidOut (by kernel_rfl) (of_decide_eq_true (by kernel_rfl)) k1 bel lt1) trodAll_mk0)), rfl, bel.frame _, fun h => by cases h⟩

theorem over : Rows.fnExactSamePictureRow.holds Try.pinned (OpenSpec.ofChange Rows.fnExactSamePictureSpec) :=
  OpenClaim.holds_of_wide 7 Try.f7 rfl rfl rfl rfl rfl rfl rfl ⟨rfl, rfl, rfl, rfl, rfl⟩ rfl rfl rfl rfl rfl (by kernel_rfl) Try.func7 (by kernel_rfl)
    (of_decide_eq_true (by kernel_rfl)) (by unfold Func.isWrapper; first | (rw [if_pos (by decide +kernel)]; kernel_rfl) | (rw [if_neg (by decide +kernel)]; exact ⟨rfl, rfl⟩))
    (fun os started H enc _ => lifted os started H enc)

theorem proved : Rows.FnExactSamePictureSaid := over
#print axioms proved

end Go.Proofs.Ytppalpibogccnaa.fnExactSamePicture

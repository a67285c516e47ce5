/-
  FnExactBandPowers: for every input this law of the program returns true, and each argument reads as before. No condition.
-/
import Derived.Test.YtclbliflmhjebaaRows
import Derived.Test.YtclbliflmhjebaaRow
import Derived.Test.YtclbliflmhjebaaLg
import Derived.Test.YtclbliflmhjebaaTi
import Derived.Test.YtclbliflmhjebaaMn
import Derived.Test.YtclbliflmhjebaaLv
import Derived.Test.YtclbliflmhjebaaOw
import Derived.Test.YtclbliflmhjebaaAp
import Derived.ProofKit
import Derived.OpenShut
import Derived.ShutString
import Derived.ChangeOld
import Derived.Below
import Derived.Lib.Hide
import Derived.Outline
import Derived.Deep.RegionHeld3
import Derived.Deep.DeepCutAuto
set_option linter.unusedSimpArgs false
set_option linter.unusedVariables false
set_option exponentiation.threshold 2000
set_option maxRecDepth 20000
set_option maxHeartbeats 4000000
namespace Go.Proofs.Ytclbliflmhjebaa.fnExactBandPowers
open Go Go.Proofs.Ytclbliflmhjebaa Go.Proofs
open Go.ChangeShapes Go.WideShapes Go.ChangeAt Go.RowKit
open Go.ChangeMaps (open_string shut_string)
/-! ### listDefs -/
/-- Of a new list of floats and a bool. -/
def RetL (T : TypeId) (r : List Nat × Bool) (w : World) (e : Ending) (w' : World) : Prop :=
  ∃ a cap, e = .returned (.tuple #[.slice a r.1.length cap, .bool r.2]) ∧ r.1.length ≤ 1048576 ∧ Below w.heap.size w w' ∧ Own T w' w.heap.size a r.1.length cap r.1
def TupL (T : TypeId) (B : Nat) (r : List Nat × Bool) (u : Value) (w : World) : Prop := ∃ a c, u = .tuple #[.slice a r.1.length c, .bool r.2] ∧ r.1.length ≤ 1048576 ∧ Own T w B a r.1.length c r.1
def SlcL (T : TypeId) (B : Nat) (r : List Nat × Bool) (u : Value) (w : World) : Prop := ∃ a c, u = .slice a r.1.length c ∧ r.1.length ≤ 1048576 ∧ Own T w B a r.1.length c r.1
def BooL (r : List Nat × Bool) (u : Value) : Prop := ∃ x : Bool, u = .bool x ∧ x = r.2
theorem RetL.no {T : TypeId} {w : World} {e : Ending} {w' : World} (h : e = .returned (.tuple #[.slice none 0 0, .bool false])) (b : Below w.heap.size w w') : RetL T ([], false) w e w' :=
  ⟨none, 0, h, Nat.zero_le _, b, Own.nil _ _ _⟩
/-! ### toOwn -/
theorem infoFo : (Try.prog.info? 38).map (fun i => (i.zero, i.size, i.bytes)) = some (some (.float .f32 0), 1, 4) := by kernel_rfl
theorem c_toO (a : Option Addr) (len cap : Nat) (zs : List Nat) (w : World) (hr : IsRowF .f32 w a len cap zs) (hl : len ≤ 1048576) : Calls Try.prog 44 #[.slice a len cap] w (NewO 38 len zs w) := by
  obtain ⟨i0, hi, hz0, hz1, hz2⟩ := info_parts infoFo
  obtain ⟨h1, h2, h3, h4, h5⟩ := hr
  go_enter Try.func44, Try.ntmps44
  go_wp2_with (at_make; refine wpList_make_full _ rfl _ _ 22 rfl w.heap.size 38 i0 (.float .f32 0) 1 Try.underlying22 hi hz0 hz1 _ _ _ _ len rfl rfl rfl rfl (by rw [hz2]; omega) (by unfold maxLen; omega) (by simp) ?_; intro w1 hown hgrow)
  have hblk := block_of_owns hown
  have e0 : (madeCells (Value.float FloatKind.f32 0).cells (len * 1)).toList = List.replicate len (.float .f32 0) := by rw [Nat.mul_one]; exact made_zeros _ _
  rw [e0] at hblk
  have hbel : Below w.heap.size w w1 := (Below.refl _ _).grown hgrow (Nat.le_refl _) (by simp)
  have HB := Lib.hid hblk
  clear hown hgrow hblk e0 hz0 hz1 hz2
  go_loopw [4] (fun i wr => ∃ j : Nat, j ≤ len ∧ i = .int .i64 j ∧ Below w.heap.size w wr ∧ wr.heap[w.heap.size]? = some (.cells (fl .f32 (zs.take j) ++ List.replicate (zs.length - j) (Value.float .f32 0)).toArray 38 (0, 0))) (fun i _ => len - (intOf i).toNat)
  case atStart => exact ⟨0, Nat.zero_le _, rfl, hbel, by rw [HB.out, h1]; rfl⟩
  case round =>
    obtain ⟨j, hj, rfl, hb, hblk⟩ := hrel
    have Hblk := Lib.hid hblk
    clear hblk
    by_cases hlt : j < len
    · rcases h5 with h5 | ⟨b, off, rfl, hbl, hc⟩
      · omega
      have hcell : wr.cell? ⟨b, off + j, none⟩ = some (.float .f32 (fat zs j)) := by rw [hb.cell (p := ⟨b, off + j, none⟩) hbl]; exact hc j hlt
      have hold : wr.cell? ⟨w.heap.size, j, none⟩ = some (.float .f32 0) := by
        rw [cell_of_block Hblk.out, List.getElem?_append_right (by simp [fl]; omega)]
        have e : (fl FloatKind.f32 (List.take j zs)).length = j := by simp [fl]; omega
        rw [e, Nat.sub_self, List.getElem?_replicate, if_pos (by omega)]
      have hfz : wr.frozen? ⟨w.heap.size, j, none⟩ = false := frozen_of_block Hblk.out j
      have hset := block_set Hblk.out j (.float .f32 (fat zs j))
      rw [set_step zs _ j (by omega)] at hset
      have Hset := Lib.hid hset
      clear hset hc
      go_wp2
      go_roundw
      case rel => exact ⟨j + 1, by omega, by go_num, hb.setCell (Nat.le_refl _) _, Hset.out⟩
      case measure => simp [intOf]; omega
    · obtain rfl : j = len := by omega
      have e1 : fl .f32 (zs.take j) ++ List.replicate (zs.length - j) (Value.float .f32 0) = fl .f32 zs := by rw [h1, Nat.sub_self, List.replicate_zero, List.append_nil, List.take_of_length_le (by omega)]
      have hblk2 := Hblk.out
      rw [e1] at hblk2
      have hown : Own 38 wr w.heap.size (some ⟨w.heap.size, 0, none⟩) j j zs :=
        ⟨h1, ⟨by simp [fl, h1], .inr ⟨w.heap.size, j, _, rfl, Nat.le_refl _, hblk2, Nat.le_refl _, by unfold maxLen; omega, by simp [fl, h1], by rw [List.take_of_length_le (by simp [fl, h1])]⟩⟩, h4⟩
      have HO := Lib.hid hown
      clear hown hblk2 e1
      go_wp2
      go_ret
      exact ⟨w.heap.size, rfl, hb, HO.out⟩
/-! ### sameFloat -/
theorem c_sameFloat (v n m : Nat) (w : World) (j : Nat) : Calls Try.prog 28 #[.float .f64 (pick .f64 v n), .float .f64 (pick .f64 v m)] (w.drewN j) (RetV (.bool true) w) := by
  have hs := self_ne .f64 v
  have ht := self_eq .f64 v
  cases h : isN .f64 v
  · rw [h] at hs ht
    cases h2 : (FloatKind.f64.format.order v 0 == some .eq)
    · go_enter Try.func28, Try.ntmps28
      go_wp2_with (first | (refine wpList_fop rfl _ _ _ _ _ rfl _ _ _ rfl rfl (by decide) _ ?_; intro _ _) | (refine upon_fop _ _ _ _ _ (by decide) ?_; intro _ _))
      go_ret
      exact ⟨_, rfl, rfl⟩
    · go_enter Try.func28, Try.ntmps28
      go_wp2_with (first | (refine wpList_fop rfl _ _ _ _ _ rfl _ _ _ rfl rfl (by decide) _ ?_; intro _ _) | (refine upon_fop _ _ _ _ _ (by decide) ?_; intro _ _))
      go_ret
      exact ⟨_, by simp, rfl⟩
  · rw [h] at hs ht
    go_enter Try.func28, Try.ntmps28
    go_wp2_with (first | (refine wpList_fop rfl _ _ _ _ _ rfl _ _ _ rfl rfl (by decide) _ ?_; intro _ _) | (refine upon_fop _ _ _ _ _ (by decide) ?_; intro _ _))
    go_ret
    exact ⟨_, rfl, rfl⟩

/-! ### eqFloat32S -/
theorem c_eqF (a b : Option Addr) (len c d : Nat) (zs : List Nat) (w : World) (j0 : Nat) (hr : IsRowF .f32 w a len c zs) (hs : IsRowF .f32 w b len d zs) : Calls Try.prog 46 #[.slice a len c, .slice b len d] (w.drewN j0) (RetV (.bool true) w) := by
  obtain ⟨h1, h2, h3, h4, h5⟩ := hr
  obtain ⟨g1, g2, g3, g4, g5⟩ := hs
  unfold maxLen at h3
  go_enter Try.func46, Try.ntmps46
  go_wp2
  go_loopw [5] (fun i wr => ∃ k m : Nat, k ≤ len ∧ i = .int .i64 k ∧ wr = w.drewN m) (fun i _ => len - (intOf i).toNat)
  case atStart => exact ⟨0, j0, Nat.zero_le _, rfl, rfl⟩
  case round =>
    obtain ⟨k, m, hk, rfl, rfl⟩ := hrel
    by_cases hlt : k < len
    · rcases h5 with h5 | ⟨x, off, rfl, hbl, hc⟩
      · omega
      rcases g5 with g5 | ⟨y, off2, rfl, gbl, gc⟩
      · omega
      have hcell : w.cell? ⟨x, off + k, none⟩ = some (.float .f32 (fat zs k)) := hc k hlt
      have gcell : w.cell? ⟨y, off2 + k, none⟩ = some (.float .f32 (fat zs k)) := gc k hlt
      clear hc h4 gc g4
      go_wp2
      refine wp_region_N (fun _ _ u => u = .bool true) (by kernel_rfl) (by kernel_rfl) ?_; (repeat (first | ((with_reducible show wpN _ _ _ _ _ (Oper.mk _ (Op.binOp _ _ _ _ _) _ _ _ none :: _) _); refine wpN_fop rfl _ _ _ _ _ rfl _ _ _ rfl rfl (by decide) ?_; intro _) | ((with_reducible show wpN _ _ _ _ _ (Oper.mk _ (Op.convert _ _ _) _ _ _ none :: _) _); refine wpN_cvU rfl 38 42 _ rfl (Option.isSome_iff_exists.2 ⟨_, Try.underlying38⟩) Try.underlying42 _ rfl ?_; intro _) | ((with_reducible show wpN _ _ _ _ _ (Oper.mk _ _ _ _ _ (some _) :: _) _); (with_reducible refine wpN_off ?_ ?_); focus rfl; (simp only [Act.put, List.setIfInBounds_toArray, List.set_cons_zero, List.set_cons_succ])) | ((with_reducible show wpN _ _ _ _ _ (Oper.mk _ _ _ _ _ (some _) :: _) _); ((with_reducible refine wpN_on ?_ (fun K hK => ?_)); (focus rfl); intro _; go_simp; first | (refine uponN_value (hK _ ?_)) | ((refine uponN_call (callN rfl (c_sameFloat _ _ _ _ _)) ?_; intro u hu; obtain rfl : u = _ := hu); refine hK _ ?_)); clear hK K) | (((with_reducible refine wpN_plain rfl (fun K hK => ?_)); intro _; go_simp; first | (refine uponN_value (hK _ ?_)) | ((refine uponN_call (callN rfl (c_sameFloat _ _ _ _ _)) ?_; intro u hu; obtain rfl : u = _ := hu); refine hK _ ?_)); clear hK K) | ((with_reducible refine wpN_step (fun K hK => ?_)); go_simp; first | (refine hK _ ?_) | (intro _; first | (refine uponN_value (hK _ ?_)) | ((refine uponN_call (callN rfl (c_sameFloat _ _ _ _ _)) ?_; intro u hu; obtain rfl : u = _ := hu); refine hK _ ?_)); clear hK K))); refine wpN_nil ?_; intro _
      go_wp2
      go_roundw
      case rel => exact ⟨k + 1, _, by omega, by go_num, rfl⟩
      case measure => simp [intOf]; omega
    · clear h5 h4 g4 g5
      go_wp2
      go_ret
      exact ⟨_, rfl, rfl⟩
/-! ### eqPicture -/
theorem c_eqF0 (a b : Option Addr) (len c d : Nat) (zs : List Nat) (w : World) (hr : IsRowF .f32 w a len c zs) (hs : IsRowF .f32 w b len d zs) : Calls Try.prog 46 #[.slice a len c, .slice b len d] w (RetV (.bool true) w) := by
  have h := c_eqF a b len c d zs w 0 hr hs
  rwa [w.drewN_zero] at h
theorem c_eqP (W H : Int) (a b : Option Addr) (len c d : Nat) (zs : List Nat) (w : World) (hr : IsRowF .f32 w a len c zs) (hs : IsRowF .f32 w b len d zs) : Calls Try.prog 19 #[.agg #[.int .i64 W, .int .i64 H, .slice a len c], .agg #[.int .i64 W, .int .i64 H, .slice b len d]] w (RetB (.bool true) w) := by
  have HR := Lib.hid hr
  have HS := Lib.hid hs
  clear hr hs
  go_enter Try.func19, Try.ntmps19
  go_wp2_with fail
  refine (c_eqF0 a b len c d zs _ ((HR.out.alloc _).alloc _) ((HS.out.alloc _).alloc _)).mono ?_
  rintro _ _ ⟨m, rfl, rfl⟩
  go_wp2_with fail
  go_ret
  exact ⟨rfl, below_drewN (((Below.refl _ _).alloc (Nat.le_refl _) _).alloc (by simp) _) _⟩
/-! ### markFloat32S -/
theorem c_markF {T : TypeId} (B : Nat) (a : Option Addr) (len cap k : Nat) (zs : List Nat) (w : World) (hr : Own T w B a len cap zs) (hk : k + len ≤ 4611686018427387904) : Calls Try.prog 47 #[.slice a len cap, .int .i64 k] w (fun e w' => e = .returned (.int .i64 ((k + len : Nat) : Int)) ∧ w.grownBy w' (blk a) ∧ Own T w' B a len cap (marks k len)) := by
  rcases hr.parts with ⟨rfl, rfl, rfl, rfl⟩ | ⟨g, cur, rfl, hb, hg, hl, hm, hs, ht⟩
  · clear hr
    go_enter Try.func47, Try.ntmps47
    go_wp2
    refine wp_loop_rounds 1 ?_; rw [rounds_succ]
    go_wp2
    go_ret
    exact ⟨rfl, ⟨rfl, rfl, rfl, Nat.le_refl _, fun _ _ _ => rfl⟩, Own.nil _ _ _⟩
  · have h0 : Marked w g T cap k 0 := ⟨cur, hg, hs, fun i hi => by omega⟩
    have H0 := Lib.hid h0
    unfold maxLen at hm
    clear hr hg hs ht h0
    go_enter Try.func47, Try.ntmps47
    go_wp2
    go_loopw [1, 5] (fun t i wr => ∃ j : Nat, j ≤ len ∧ i = .int .i64 j ∧ t = .int .i64 ((k + j : Nat) : Int) ∧ w.grownBy wr (some g) ∧ Marked wr g T cap k j) (fun _ i _ => len - (intOf i).toNat)
    case atStart => exact ⟨0, Nat.zero_le _, rfl, rfl, ⟨rfl, rfl, rfl, Nat.le_refl _, fun _ _ _ => rfl⟩, H0.out⟩
    case round =>
      obtain ⟨j, hj, rfl, rfl, hgr, hM⟩ := hrel
      by_cases hlt : j < len
      · obtain ⟨v, hcell, hfz⟩ := hM.cell (j := j) (by omega)
        have hM2 := Lib.hid (hM.step (by omega : j < cap))
        have hG2 := Lib.hid hgr
        clear hM hgr
        go_wp2
        go_roundw
        case rel => exact ⟨j + 1, by omega, by go_num, by go_num, ⟨hG2.out.os, hG2.out.tape, hG2.out.output, by have := hG2.out.size; simpa using this, fun k' h1 h2 => by rw [Below.heap_setCell _ _ _ _ (fun e => h2 (by rw [e]))]; exact hG2.out.block k' h1 h2⟩, hM2.out⟩
        case measure => simp [intOf]; omega
      · obtain rfl : j = len := by omega
        have hO := Lib.hid (hM.own (B := B) hb hl (by unfold maxLen; omega))
        have hG2 := Lib.hid hgr
        clear hM hgr
        go_wp2
        go_ret
        exact ⟨rfl, hG2.out, hO.out⟩
/-! ### heldFloat32S -/
theorem c_heldF (a : Option Addr) (len cap k : Nat) (w : World) (hr : IsRowF .f32 w a len cap (marks k len)) (hk : k + len ≤ 4611686018427387904) : Calls Try.prog 48 #[.slice a len cap, .int .i64 k] w (fun e w' => e = .returned (.int .i64 ((k + len : Nat) : Int)) ∧ w' = w) := by
  obtain ⟨h1, h2, h3, h4, h5⟩ := hr
  unfold maxLen at h3
  clear h1 h4
  go_enter Try.func48, Try.ntmps48
  go_wp2
  go_loop [1, 5] (fun t i => ∃ j : Nat, j ≤ len ∧ i = .int .i64 j ∧ t = .int .i64 ((k + j : Nat) : Int)) (fun _ i => len - (intOf i).toNat)
  case atStart => exact ⟨0, Nat.zero_le _, rfl, rfl⟩
  case round =>
    obtain ⟨j, hj, rfl, rfl⟩ := hrel
    by_cases hlt : j < len
    · rcases h5 with h5 | ⟨b, off, rfl, hbl, hc⟩
      · omega
      have hcell : w.cell? ⟨b, off + j, none⟩ = some (.float .f32 (markN k j)) := by rw [← marks_at k len j hlt]; exact hc j hlt
      have hne : (FloatKind.f32.format.order (markN k j) (markN k j) != some .eq) = false := by rw [self_ne]; exact markN_notN k j
      have hE : floatOfInt .f32 ((k : Int) + (j : Int)) = markN k j := by unfold markN; rw [Int.natCast_add]
      have hne2 : (FloatKind.f32.format.order (markN k j) (floatOfInt .f32 ((k : Int) + (j : Int))) != some .eq) = false := (congrArg (fun x => FloatKind.f32.format.order (markN k j) x != some .eq) hE).trans hne
      clear hE
      clear hc
      go_wp2
      go_round
      case rel => exact ⟨j + 1, by omega, by go_num, by go_num⟩
      case measure => simp [intOf]; omega
    · obtain rfl : j = len := by omega
      clear h5
      go_wp2
      go_ret
      exact ⟨rfl, rfl⟩
/-! ### picDefs -/
def sideB (W H : Int) : Bool := decide (1 ≤ W) && decide (W ≤ 16) && (decide (1 ≤ H) && decide (H ≤ 16))
def finL (zs : List Nat) : Bool := zs.all (finB .f32)
def validB (W H : Int) (zs : List Nat) : Bool := sideB W H && decide ((zs.length : Int) = W * H) && finL zs
theorem sideB_true {W H : Int} (h : sideB W H = true) : (1 ≤ W ∧ W ≤ 16) ∧ 1 ≤ H ∧ H ≤ 16 := by simpa [sideB, and_assoc] using h
theorem side_mul {W H : Int} (h : sideB W H = true) : 1 ≤ W * H ∧ W * H ≤ 256 := by
  obtain ⟨⟨h1, h2⟩, h3, h4⟩ := sideB_true h
  have : W * H ≤ 16 * 16 := Int.mul_le_mul h2 h4 (by omega) (by omega)
  have h5 : 1 * 1 ≤ W * H := Int.mul_le_mul h1 h3 (by omega) (by omega)
  omega
theorem sideB_false {W H : Int} (h : sideB W H = false) : W < 1 ∨ 16 < W ∨ H < 1 ∨ 16 < H := by
  simp [sideB] at h; omega
theorem finL_snoc (zs : List Nat) (k : Nat) (hk : k < zs.length) : finL (zs.take (k + 1)) = (finL (zs.take k) && finB .f32 (fat zs k)) := by
  unfold finL fat
  rw [List.take_succ_eq_append_getElem hk, List.all_append, List.getD, List.getElem?_eq_getElem hk]; simp
theorem finL_of (zs : List Nat) (k : Nat) (hk : k < zs.length) (h : finB .f32 (fat zs k) = false) : finL zs = false := by
  unfold finL
  rw [List.all_eq_false]
  refine ⟨zs[k], List.getElem_mem hk, ?_⟩
  unfold fat at h
  rw [List.getD, List.getElem?_eq_getElem hk] at h
  simpa using h
theorem pick0 (k : FloatKind) (v : Nat) (hv : v < 2 ^ k.format.width) : ∃ n, v = pick k v n := pick_onto k v hv
/-! ### meanDefs -/
def meanV (zs : List Nat) : Nat := fop .quo .f32 (sumF .add .f32 0 zs) (floatOfInt .f32 (zs.length : Int))
def numR (v : Nat) : Nat × Bool := if finB .f32 v = true then (v, true) else (0, false)
def meanR (W H : Int) (zs : List Nat) : Nat × Bool := if validB W H zs = true then numR (meanV zs) else (0, false)
theorem mean_len {W H : Int} {zs : List Nat} (h : validB W H zs = true) : zs.length ≤ 256 := by
  simp only [validB, Bool.and_eq_true, decide_eq_true_eq] at h
  obtain ⟨⟨h1, h2⟩, h3⟩ := h
  have := side_mul h1
  omega
theorem pick00 : pick .f32 0 0 = 0 := pick_not (show isN .f32 0 = false from by decide +kernel) 0
/-! ### colDefs -/
def colB (r g b : Nat) : Bool := finB .f32 r && (finB .f32 g && finB .f32 b)
def greyV (r g b : Nat) : Nat := fop .add .f32 (fop .add .f32 (fop .mul .f32 1046066128 r) (fop .mul .f32 1060575065 g)) (fop .mul .f32 1033100696 b)
def greyR (r g b : Nat) : Nat × Bool := if colB r g b = true then numR (greyV r g b) else (0, false)
theorem retF1no {w : World} {e : Ending} {w' : World} (h : e = .returned (.tuple #[.float .f32 0, .bool false])) (hw : Below w.heap.size w w') : RetF1 (0, false) w e w' := ⟨0, by rw [h]; simp only [pick00], hw⟩
theorem fin3 (a b c n m l : Nat) : finL [pick .f32 a n, pick .f32 b m, pick .f32 c l] = colB a b c := by simp [finL, finB_pick, colB]
/-! ### matDefs -/
def fin9 (z : List Nat) : Bool := finB .f32 (fat z 0) && finB .f32 (fat z 1) && finB .f32 (fat z 2) && finB .f32 (fat z 3) && finB .f32 (fat z 4) && finB .f32 (fat z 5) && finB .f32 (fat z 6) && finB .f32 (fat z 7) && finB .f32 (fat z 8)
def matB (zs : List Nat) : Bool := decide (zs.length = 9) && finL zs
theorem fin9_eq {zs : List Nat} (h : zs.length = 9) : fin9 zs = finL zs := by
  obtain ⟨a0, a1, a2, a3, a4, a5, a6, a7, a8, rfl⟩ : ∃ a0 a1 a2 a3 a4 a5 a6 a7 a8, zs = [a0, a1, a2, a3, a4, a5, a6, a7, a8] := by
    match zs, h with
    | [a0, a1, a2, a3, a4, a5, a6, a7, a8], _ => exact ⟨a0, a1, a2, a3, a4, a5, a6, a7, a8, rfl⟩
  simp [fin9, finL, fat, Bool.and_assoc]
/-! ### backDefs -/
def listR (l : List Nat) : List Nat × Bool := if finL l = true then (l, true) else ([], false)
def lessV (a b c d : Nat) : Nat := fop .sub .f32 (fop .mul .f32 a b) (fop .mul .f32 c d)
def backS (p q r a b c : Nat) : Nat := fop .add .f32 (fop .add .f32 (fop .mul .f32 a p) (fop .mul .f32 b q)) (fop .mul .f32 c r)
theorem own_new9 {T : TypeId} {w : World} {B g : Nat} {zs : List Nat} (hg : g = w.heap.size) (hB : B ≤ g) (hl : zs.length ≤ 1000) (hw : ∀ b ∈ zs, (Lit.float .f32 b).wf = true) : Own T (w.alloc (.cells (fl .f32 zs).toArray T)) B (some ⟨g, 0, none⟩) zs.length zs.length zs := by
  subst hg
  refine ⟨rfl, ⟨by simp [fl], .inr ⟨_, _, (fl .f32 zs).toArray, rfl, hB, heap_alloc_new w _, Nat.le_refl _, by unfold maxLen; omega, by simp [fl], by simp [fl, List.take_of_length_le]⟩⟩, hw⟩
theorem wf_lt {v : Nat} (h : v < 2 ^ FloatKind.f32.format.width) : (Lit.float .f32 v).wf = true := by
  have := pick_wf h 0
  cases hn : isN .f32 v
  · rwa [pick_not hn] at this
  · have hw : (2 : Nat) ^ FloatKind.f32.format.width = 4294967296 := by decide +kernel
    rw [hw] at h
    simp [Lit.wf, h]
/-! ### fbFacts -/
theorem nearest_sgn' (f : Ieee.Format) (neg : Bool) (m : Nat) (e : Int) : sgn f (f.write (.number neg m e)) = neg := nearest_sgn f neg m e
theorem mul_self_sgn {t : Nat} (ht : rung Ieee.double t < Ieee.double.infRung) : sgn Ieee.double (fop .mul .f64 t t) = false := by
  obtain ⟨m, e, r1, _, _⟩ := read_fin Ieee.double t ht
  have hf : FloatKind.f64.format = Ieee.double := rfl
  have h : fop .mul .f64 t t = Ieee.double.write (.number (sgn Ieee.double t ^^ sgn Ieee.double t) (m * m) (e + e)) := by
    unfold fop floatBits
    rw [hf]
    simp only [Ieee.Format.mul, r1, Ieee.Datum.product, Option.map_some, Option.getD_some]
  rw [h, nearest_sgn', Bool.xor_self]
theorem one_read : ∃ M : Nat, M = 2 ^ 52 ∧ Ieee.double.read one64 = .number false M (-52) := ⟨4503599627370496, by decide, by decide +kernel⟩
theorem one_add_sgn {p : Nat} (hp : rung Ieee.double p < Ieee.double.infRung) (hs : sgn Ieee.double p = false) : sgn Ieee.double (fop .add .f64 one64 p) = false := by
  obtain ⟨m, e, r1, _, _⟩ := read_fin Ieee.double p hp
  obtain ⟨M, hM, r2⟩ := one_read
  rw [hs] at r1
  have hf : FloatKind.f64.format = Ieee.double := rfl
  have h : ∃ t : Nat, fop .add .f64 one64 p = Ieee.double.write (.number (if (t : Int) = 0 then false && false else decide ((t : Int) < 0)) (t : Int).natAbs (min (-52) e)) := by
    refine ⟨M <<< (-52 - min (-52) e).toNat + m <<< (e - min (-52) e).toNat, ?_⟩
    unfold fop floatBits
    rw [hf]
    simp only [Ieee.Format.add, r1, r2, Ieee.Datum.sum, Ieee.signed, Option.map_some, Option.getD_some, Bool.false_eq_true, if_false, Int.natCast_add]
  obtain ⟨t, h⟩ := h
  rw [h, nearest_sgn']
  split
  · rfl
  · exact decide_eq_false (by omega)
theorem sqrt_num {x : Nat} (hx : rung Ieee.double x < Ieee.double.infRung) (hs : sgn Ieee.double x = false) : isN .f64 (fsqrt x) = false := by
  obtain ⟨m, e, r1, _, _⟩ := read_fin Ieee.double x hx
  rw [hs] at r1
  have h : ∃ r, Ieee.double.sqrt x = some r := by
    unfold Ieee.Format.sqrt
    rw [r1]
    unfold Ieee.Datum.root
    dsimp only
    by_cases hm : m = 0
    · rw [if_pos hm]; exact ⟨_, rfl⟩
    · rw [if_neg hm, if_neg (by decide)]; exact ⟨_, rfl⟩
  obtain ⟨r, hr⟩ := h
  unfold fsqrt
  rw [hr]
  exact sqrt_notNaN hr
theorem stepT_fb {t : Nat} (h : Fb 1074 t) : Fb 1074 (stepT t) := by
  have h1 := mulF (c := 1074) h h (by omega) (by omega)
  have s1 := mul_self_sgn h.1
  have h2 : Fb 1075 (fop .add .f64 one64 (fop .mul .f64 t t)) := addF (a := 1074) (Fb_const (by decide +kernel)) h1 (by omega) (by omega) (by omega)
  have s2 := one_add_sgn h1.1 s1
  have h3 : Fb 1075 (fsqrt (fop .add .f64 one64 (fop .mul .f64 t t))) := Fb_of (sqrtD (c := 1075) h2.bd (by omega) (by omega)) (sqrt_num h2.1 s2)
  have h4 := sqrt_sign h2.1
  unfold stepT
  rcases one_add h3.bd h4 (by omega) (by omega) with h5 | h5
  · rw [fop_fin_notN (.inl rfl) (Fb_const (c := 1074) (x := one64) (by decide +kernel)).1 h3.1] at h5; cases h5
  · exact quoF h h5 (by omega) (by omega)
theorem iterT_fb {t : Nat} (h : Fb 1074 t) : ∀ i, Fb 1074 (iterT t i)
  | 0 => h
  | i + 1 => stepT_fb (iterT_fb h i)
theorem aser_fb {u : Nat} (hu : Fb 1074 u) : ∀ i, i ≤ 8 → Fb (1074 + i) (aser u i)
  | 0, _ => Fb_const (c := 1074) (x := 0) (by decide +kernel)
  | i + 1, hi => by
    have h1 := mulF (c := 1074 + i) hu (aser_fb hu i (by omega)) (by omega) (by omega)
    have h2 := quoF (a := 1074) (c := 1074) (x := one64) (Fb_const (by decide +kernel)) (odd_lb i (by omega)) (by omega) (by omega)
    exact subF h2 h1 (by omega) (by omega) (by omega)
theorem flatA_fb {t : Nat} (h : Fb 1074 t) : Fb 1085 (flatA t) := by
  have h3 := iterT_fb h 3
  have hu := mulF (c := 1074) h3 h3 (by omega) (by omega)
  have hp := aser_fb hu 8 (by omega)
  have h4 := mulF (c := 1082) h3 hp (by omega) (by omega)
  have h5 := mulF (a := 1077) (c := 1085) (x := eight64) (Fb_const (by decide +kernel)) h4 (by omega) (by omega)
  exact quoF (b := 1074) h5 (Lb_const (by decide +kernel)) (by omega) (by omega)
theorem angW_fb {y x : Nat} (hy : rung Ieee.double y < Ieee.double.infRung) (hx : rung Ieee.double x < Ieee.double.infRung) (h0 : ¬ (rung Ieee.double y = 0 ∧ rung Ieee.double x = 0)) : Fb 1087 (angW y x) := by
  have hyn : isN .f64 y = false := notN_fin (k := .f64) hy
  have hxn : isN .f64 x = false := notN_fin (k := .f64) hx
  have hq : ∀ p q : Nat, rung Ieee.double p < Ieee.double.infRung → rung Ieee.double q < Ieee.double.infRung → rung Ieee.double p ≤ rung Ieee.double q → rung Ieee.double q ≠ 0 → Fb 1074 (fop .quo .f64 (fabs .f64 p) (fabs .f64 q)) := by
    intro p q hp hqq hle hne
    have e1 := fin_abs p hp
    have e2 := fin_abs q hqq
    have hm0 : mg Ieee.double (rung Ieee.double (fabs .f64 q)) ≠ 0 := by
      rw [e2]
      have := mg_lt Ieee.double (r := 0) (s := rung Ieee.double q) (by omega)
      omega
    have hlb : Lb .f64 0 (fabs .f64 q) := ⟨by show rung Ieee.double _ < _; rw [e2]; exact hqq, by show 2 ^ 0 ≤ mg Ieee.double (rung Ieee.double _); omega⟩
    refine Fb_of (Bd_quo' (k := .f64) (by show rung Ieee.double _ < _; rw [e1]; exact hp) (by show rung Ieee.double _ < _; rw [e2]; exact hqq) hm0 ?_ (pr_ok (by omega))) (quo_fin_notN (by rw [e1]; exact hp) hlb)
    show mg Ieee.double (rung Ieee.double _) * _ ≤ mg Ieee.double (rung Ieee.double _) * _
    rw [e1, e2, LL64]
    refine Nat.mul_le_mul_right _ ?_
    rcases Nat.lt_or_eq_of_le hle with h | h
    · exact Nat.le_of_lt (mg_lt _ h)
    · rw [h]; exact Nat.le_refl _
  have hov := overB_rungs hyn hxn
  have r1 : Fb 1086 (if overB y x = true then fop .sub .f64 quarter64 (flatA (fop .quo .f64 (fabs .f64 x) (fabs .f64 y))) else flatA (fop .quo .f64 (fabs .f64 y) (fabs .f64 x))) := by
    split
    · rename_i h
      rw [hov] at h
      have h := of_decide_eq_true h
      exact subF (a := 1074) (Fb_const (by decide +kernel)) (flatA_fb (hq x y hx hy (by omega) (by omega))) (by omega) (by omega) (by omega)
    · rename_i h
      rw [hov, decide_eq_true_eq] at h
      exact Fb_mono (flatA_fb (hq y x hy hx (by omega) (by omega))) (by omega)
  have r2 : Fb 1087 (if ltz x = true then fop .sub .f64 half64 (if overB y x = true then fop .sub .f64 quarter64 (flatA (fop .quo .f64 (fabs .f64 x) (fabs .f64 y))) else flatA (fop .quo .f64 (fabs .f64 y) (fabs .f64 x))) else (if overB y x = true then fop .sub .f64 quarter64 (flatA (fop .quo .f64 (fabs .f64 x) (fabs .f64 y))) else flatA (fop .quo .f64 (fabs .f64 y) (fabs .f64 x)))) := by
    split
    · exact subF (a := 1074) (Fb_const (by decide +kernel)) r1 (by omega) (by omega) (by omega)
    · exact Fb_mono r1 (by omega)
  unfold angW
  dsimp only
  split
  · exact Fb_of (Bd_neg r2.bd) (by rw [isN_fneg]; exact r2.notN)
  · exact r2
/-! ### ftFacts -/
/-- A float32 that is a number, of at most 2^(c-149). -/
def Ft (c v : Nat) : Prop := isN .f32 v = false ∧ Bd .f32 c v
theorem Ft.fin {c v : Nat} (h : Ft c v) : rung Ieee.single v < Ieee.single.infRung := by
  rcases h.2 with h2 | h2
  · rw [h.1] at h2; cases h2
  · exact h2.1
theorem Ft.mg {c v : Nat} (h : Ft c v) : mg Ieee.single (rung Ieee.single v) ≤ 2 ^ c := by
  rcases h.2 with h2 | h2
  · rw [h.1] at h2; cases h2
  · exact h2.2
theorem cvN_bd {x : Nat} (h : Bd .f64 1087 x) : Bd .f32 162 (cvN x) := by
  rcases h with h | ⟨h1, h2⟩
  · left; rw [cvN_qn h]; exact isN_qn .f32
  obtain ⟨m, e, r1, r2, r3⟩ := read_fin FloatKind.f64.format x h1
  rw [← r3] at h2
  have d1 : FloatKind.f64.format.leastPlace = -1074 := by decide +kernel
  have d2 : Ieee.single.leastPlace = -149 := by decide +kernel
  have d3 : pr Ieee.single 162 < Ieee.single.infRung := by decide +kernel
  rw [d1] at h2 r2
  have hle : leRung Ieee.single m e (pr Ieee.single 162) := by
    unfold leRung
    rw [mg_pr, d2]
    have hpow : (2 : Nat) ^ 1087 = 2 ^ 162 * 2 ^ 925 := by rw [← Nat.pow_add]
    rw [hpow] at h2
    by_cases hp : -149 ≤ e
    · have e1 : (e - -1074).toNat = (e - -149).toNat + 925 := by omega
      have e2 : (-149 - e).toNat = 0 := by omega
      rw [e1, Nat.pow_add, ← Nat.mul_assoc] at h2
      rw [e2, Nat.pow_zero, Nat.mul_one]
      exact Nat.le_of_mul_le_mul_right h2 (Nat.two_pow_pos _)
    · have e1 : (e - -149).toNat = 0 := by omega
      have e2 : 925 = (-149 - e).toNat + (e - -1074).toNat := by omega
      have e3 : (2 : Nat) ^ 925 = 2 ^ (-149 - e).toNat * 2 ^ (e - -1074).toNat := by
        rw [← Nat.pow_add]; exact congrArg _ e2
      rw [e3, ← Nat.mul_assoc] at h2
      rw [e1, Nat.pow_zero, Nat.mul_one]
      exact Nat.le_of_mul_le_mul_right h2 (Nat.two_pow_pos _)
  have hF : Fits x := Fits_of_Bd (.inr ⟨h1, by rw [← r3, d1]; exact Nat.le_trans h2 (Nat.pow_le_pow_right (by decide) (by decide))⟩)
  have hN : isN .f64 x = false := notN_fin h1
  have hb := narrow_bits hN hF
  have hc : cvN x = Ieee.single.nearest (sgn FloatKind.f64.format x) m e := by
    have hb2 := hb
    unfold floatToFloatBits at hb2
    rw [if_neg (by decide)] at hb2
    have e' : FloatKind.f64.decode x = .number (sgn FloatKind.f64.format x) m e := r1
    rw [e'] at hb2
    dsimp only at hb2
    split at hb2
    · cases hb2
    · exact (Option.some.inj hb2).symm
  rw [hc]
  exact Bd_nearest (k := .f32) d3 _ _ _ hle
theorem fop_fin_notN32 {op : BinOp} {x y : Nat} (hop : op = .add ∨ op = .mul) (hx : rung Ieee.single x < Ieee.single.infRung) (hy : rung Ieee.single y < Ieee.single.infRung) : isN .f32 (fop op .f32 x y) = false := by
  obtain ⟨m, i, r1, _, _⟩ := read_fin Ieee.single x hx
  obtain ⟨n, j, s1, _, _⟩ := read_fin Ieee.single y hy
  have hf : FloatKind.f32.format = Ieee.single := rfl
  have hs : ∃ r, floatBits op .f32 x y = some r := by
    rcases hop with rfl | rfl
    · unfold floatBits
      rw [hf]
      simp only [Ieee.Format.add, r1, s1, Ieee.Datum.sum]; exact ⟨_, rfl⟩
    · unfold floatBits
      rw [hf]
      simp only [Ieee.Format.mul, r1, s1, Ieee.Datum.product]; exact ⟨_, rfl⟩
  obtain ⟨r, hr⟩ := hs
  unfold fop; rw [hr]; exact bits_notNaN hr
theorem angT_ft {y x : Nat} (hy : finB .f32 y = true) (hx : finB .f32 x = true) : Ft 162 (angT y x) := by
  unfold angT
  rw [hy, hx, if_pos (show (true && true) = true from rfl)]
  split
  · exact ⟨by decide +kernel, .inr (by decide +kernel)⟩
  · rename_i hz
    have hz := Bool.eq_false_iff.2 hz
    have hy1 : rung Ieee.single y < Ieee.single.infRung := of_decide_eq_true hy
    have hx1 : rung Ieee.single x < Ieee.single.infRung := of_decide_eq_true hx
    have hy2 := (cvU_spec (notN_fin (k := .f32) hy1)).2.2.2.1.2 hy1
    have hx2 := (cvU_spec (notN_fin (k := .f32) hx1)).2.2.2.1.2 hx1
    have hF := angW_fb hy2 hx2 (by
      rintro ⟨h1, h2⟩
      rw [rung_zero_eq (cvU_rung0 hy1 h1), rung_zero_eq (cvU_rung0 hx1 h2)] at hz
      cases hz)
    refine ⟨?_, cvN_bd hF.bd⟩
    exact cvN_notNaN (narrow_bits hF.notN (ang_fits hy hx hz))
def one32 : Nat := 1065353216
def turnFix (t : Nat) : Nat := if (FloatKind.f32.format.order t 0 == some .lt) = true then fop .add .f32 t 1065353216 else t
theorem turnFix_ft {t : Nat} (h : Ft 162 t) : Ft 163 (turnFix t) := by
  unfold turnFix
  split
  · exact ⟨fop_fin_notN32 (.inl rfl) h.fin (by decide +kernel), Bd_add (a := 162) h.2 (.inr (by decide +kernel)) (by decide +kernel)⟩
  · exact ⟨h.1, Bd_mono h.2 (by omega)⟩
theorem int16_ok {n : Nat} (hn : n ≤ 16) : rung Ieee.single (floatOfInt .f32 (n : Int)) < Ieee.single.infRung ∧ mg Ieee.single (rung Ieee.single (floatOfInt .f32 (n : Int))) ≤ 2 ^ 153 := by
  have h := consts_ok
  rw [List.all_eq_true] at h
  have := of_decide_eq_true (h n (by simp; omega))
  exact ⟨this.1, this.2.1⟩
theorem place_ft {t n : Nat} (h : Ft 163 t) (hn : n ≤ 16) : Ft 168 (fop .mul .f32 t (floatOfInt .f32 (n : Int))) :=
  ⟨fop_fin_notN32 (.inr rfl) h.fin (int16_ok hn).1, Bd_mul (a := 163) (b := 153) h.2 (.inr (int16_ok hn)) (by decide +kernel) (by decide +kernel)⟩
theorem twice_ft {t : Nat} (h : Ft 162 t) : Ft 163 (fop .mul .f32 1073741824 t) :=
  ⟨fop_fin_notN32 (.inr rfl) (by decide +kernel) h.fin, Bd_mul (a := 150) (b := 162) (.inr (by decide +kernel)) h.2 (by decide +kernel) (by decide +kernel)⟩
/-! ### give -/
def giveP (W H : Int) (zs : List Nat) : PRes := if validB W H zs = true then ⟨W, H, zs, true⟩ else PRes.no
theorem near_valid {W H : Int} {zs' zs : List Nat} (h : near zs' zs) : validB W H zs' = validB W H zs := by
  unfold validB finL; rw [near_fin h, h.1]
theorem valid_fin {W H : Int} {zs : List Nat} (h : validB W H zs = true) : zs.all (finB .f32) = true := by
  simp [validB, finL] at h ⊢; exact h.2
theorem valid_len {W H : Int} {zs : List Nat} (h : validB W H zs = true) : (zs.length : Int) = W * H ∧ zs.length ≤ 256 ∧ 1 ≤ zs.length := by
  simp only [validB, Bool.and_eq_true, decide_eq_true_eq] at h
  obtain ⟨⟨h1, h2⟩, h3⟩ := h
  have := side_mul h1
  exact ⟨h2, by omega, by omega⟩
/-! ### atDefs -/
def minI (a b : Int) : Int := if a < b then a else b
def maxI (a b : Int) : Int := if b < a then a else b
theorem clamp_in (n : Nat) (h : 1 ≤ n) (i : Int) : ∃ c : Nat, maxI 0 (minI ((n : Int) - 1) i) = (c : Int) ∧ c < n := by
  refine ⟨(maxI 0 (minI ((n : Int) - 1) i)).toNat, ?_, ?_⟩
  · unfold maxI minI; split <;> split <;> omega
  · unfold maxI minI; split <;> split <;> omega
theorem clamp_is {n c : Nat} (h : c < n) : maxI 0 (minI ((n : Int) - 1) (c : Int)) = (c : Int) := by
  unfold maxI minI; split <;> split <;> omega
theorem mul_bound {cy Wn Hn : Nat} (hy : cy < Hn) (hW : Wn ≤ 16) (hH : Hn ≤ 16) : cy * Wn + Wn ≤ Wn * Hn ∧ cy * Wn ≤ 256 := by
  have h1 : (cy + 1) * Wn ≤ Hn * Wn := Nat.mul_le_mul_right _ (by omega)
  rw [Nat.succ_mul, Nat.mul_comm Hn Wn] at h1
  have h2 : Wn * Hn ≤ 16 * 16 := Nat.mul_le_mul hW hH
  exact ⟨h1, by omega⟩
/-! ### ordDefs -/
theorem cmp_bools (a b : Int) : ((some (compare a b) == some Ordering.lt) = decide (a < b)) ∧ ((some (compare a b) == some Ordering.gt) = decide (b < a)) ∧ ((some (compare a b) == some Ordering.eq) = decide (a = b)) := by
  rcases Int.lt_trichotomy a b with h | h | h
  · rw [cmp_of_lt h, decide_eq_true h, decide_eq_false (by omega), decide_eq_false (by omega)]; exact ⟨rfl, rfl, rfl⟩
  · subst h; rw [Int.compare_eq_eq.2 rfl, decide_eq_false (by omega), decide_eq_true rfl]; exact ⟨rfl, rfl, rfl⟩
  · rw [cmp_of_gt h, decide_eq_false (by omega), decide_eq_true h, decide_eq_false (by omega)]; exact ⟨rfl, rfl, rfl⟩
theorem o_lt {v c : Nat} (h : isN .f32 v = false) (hc : isN .f32 c = false) : (FloatKind.f32.format.order v c == some .lt) = decide (srung FloatKind.f32.format v < srung FloatKind.f32.format c) := by
  rw [order_rungs .f32 v c h hc]; exact (cmp_bools _ _).1
theorem o_gt {v c : Nat} (h : isN .f32 v = false) (hc : isN .f32 c = false) : (FloatKind.f32.format.order v c == some .gt) = decide (srung FloatKind.f32.format c < srung FloatKind.f32.format v) := by
  rw [order_rungs .f32 v c h hc]; exact (cmp_bools _ _).2.1
theorem o_eq {v c : Nat} (h : isN .f32 v = false) (hc : isN .f32 c = false) : (FloatKind.f32.format.order v c == some .eq) = decide (srung FloatKind.f32.format v = srung FloatKind.f32.format c) := by
  rw [order_rungs .f32 v c h hc]; exact (cmp_bools _ _).2.2
theorem o_le {v c : Nat} (h : isN .f32 v = false) (hc : isN .f32 c = false) : (FloatKind.f32.format.order v c == some .lt || FloatKind.f32.format.order v c == some .eq) = decide (srung FloatKind.f32.format v ≤ srung FloatKind.f32.format c) := by
  rw [o_lt h hc, o_eq h hc, ← Bool.decide_or]; exact decide_eq_decide.2 (by omega)
theorem o_ge {v c : Nat} (h : isN .f32 v = false) (hc : isN .f32 c = false) : (FloatKind.f32.format.order v c == some .gt || FloatKind.f32.format.order v c == some .eq) = decide (srung FloatKind.f32.format c ≤ srung FloatKind.f32.format v) := by
  rw [o_gt h hc, o_eq h hc, ← Bool.decide_or]; exact decide_eq_decide.2 (by omega)
theorem s_zero : srung FloatKind.f32.format 0 = 0 := by decide +kernel
theorem s_half : srung FloatKind.f32.format 1056964608 = 1056964608 := by decide +kernel
theorem s_one : srung FloatKind.f32.format 1065353216 = 1065353216 := by decide +kernel
theorem n_zero : isN .f32 0 = false := by decide +kernel
theorem n_half : isN .f32 1056964608 = false := by decide +kernel
theorem n_one : isN .f32 1065353216 = false := by decide +kernel
theorem pick_zero (n : Nat) : pick .f32 0 n = 0 := pick_not n_zero n
/-! ### downFacts -/
theorem quiet_bit (t : Nat) : 0 < (t ||| 2 ^ 51) % 2 ^ 52 := by
  rcases Nat.eq_zero_or_pos ((t ||| 2 ^ 51) % 2 ^ 52) with h | h
  · exfalso
    have h1 : ((t ||| 2 ^ 51) % 2 ^ 52).testBit 51 = true := by
      rw [Nat.testBit_mod_two_pow, Nat.testBit_or, Nat.testBit_two_pow_self]; simp
    rw [h, Nat.zero_testBit] at h1; cases h1
  · exact h
theorem isN_quiet (s : Bool) (t : Nat) : isN .f64 (FloatKind.f64.encode (.nan s (FloatKind.f64.format.quiet t))) = true := by
  have e : FloatKind.f64.encode (.nan s (FloatKind.f64.format.quiet t)) = Ieee.double.word s (Ieee.double.infRung + (t ||| 2 ^ 51) % 2 ^ 52) := rfl
  rw [e, isN_rung']
  have h1 : (t ||| 2 ^ 51) % 2 ^ 52 < 2 ^ 52 := Nat.mod_lt _ (Nat.two_pow_pos _)
  have h2 := quiet_bit t
  have hsw : Ieee.double.infRung + 2 ^ 52 = Ieee.double.signWeight := by decide +kernel
  have hf : FloatKind.f64.format = Ieee.double := rfl
  rw [hf, (word_signs Ieee.double s _ (by omega)).2]
  exact decide_eq_true (by omega)
def downN (x last : Nat) : Nat := if isN .f32 x = true then 0 else (maxI 0 (minI (last : Int) (ti32 x))).toNat
theorem downN_nan {x last : Nat} (h : isN .f32 x = true) : downN x last = 0 := by unfold downN; rw [h]; rfl
theorem maxmin (a : Int) (n : Nat) : 0 ≤ maxI 0 (minI (n : Int) a) ∧ maxI 0 (minI (n : Int) a) ≤ n := by unfold maxI minI; split <;> split <;> omega
theorem downN_num {x last : Nat} (h : isN .f32 x = false) : ((downN x last : Nat) : Int) = maxI 0 (minI (last : Int) (ti32 x)) ∧ downN x last ≤ last := by
  have := maxmin (ti32 x) last
  unfold downN; rw [h, if_neg (by decide)]; omega
theorem downN_le (x last : Nat) : downN x last ≤ last := by
  cases h : isN .f32 x
  · exact (downN_num h).2
  · rw [downN_nan h]; omega
theorem whole_ft {x : Nat} (h : Ft 168 x) : whole32 x < 2 ^ 53 := by
  unfold whole32
  have h1 : mg Ieee.single (rung Ieee.single x) / 2 ^ 149 ≤ 2 ^ 168 / 2 ^ 149 := Nat.div_le_div_right h.mg
  have h2 : (2 : Nat) ^ 168 / 2 ^ 149 = 2 ^ 19 := by decide +kernel
  rw [h2] at h1
  exact Nat.lt_of_le_of_lt h1 (by decide)
theorem ofInt_gt (a b : Nat) (ha : a < 2 ^ 53) (hb : b < 2 ^ 53) : (FloatKind.f64.format.order (floatOfInt .f64 (a : Int)) (floatOfInt .f64 (b : Int)) == some .gt) = decide (b < a) ∧ (FloatKind.f64.format.order (floatOfInt .f64 (a : Int)) (floatOfInt .f64 (b : Int)) == some .gt || FloatKind.f64.format.order (floatOfInt .f64 (a : Int)) (floatOfInt .f64 (b : Int)) == some .eq) = decide (b ≤ a) := by
  obtain ⟨a1, a2, a3⟩ := ofInt_read (t := (a : Int)) (by omega)
  obtain ⟨b1, b2, b3⟩ := ofInt_read (t := (b : Int)) (by omega)
  have na : isN .f64 (floatOfInt .f64 (a : Int)) = false := notN_fin (k := .f64) a1
  have nb : isN .f64 (floatOfInt .f64 (b : Int)) = false := notN_fin (k := .f64) b1
  have hf : FloatKind.f64.format = Ieee.double := rfl
  rw [order_rungs .f64 _ _ na nb, hf]
  have sa : srung Ieee.double (floatOfInt .f64 (a : Int)) = rung Ieee.double (floatOfInt .f64 (a : Int)) := by
    unfold srung; rw [show sgn Ieee.double (floatOfInt .f64 (a : Int)) = false from by rw [a3]; exact decide_eq_false (by omega)]; simp
  have sb : srung Ieee.double (floatOfInt .f64 (b : Int)) = rung Ieee.double (floatOfInt .f64 (b : Int)) := by
    unfold srung; rw [show sgn Ieee.double (floatOfInt .f64 (b : Int)) = false from by rw [b3]; exact decide_eq_false (by omega)]; simp
  rw [sa, sb]
  have hc := mg_cmp Ieee.double (rung Ieee.double (floatOfInt .f64 (a : Int))) (rung Ieee.double (floatOfInt .f64 (b : Int)))
  rw [a2, b2, Int.natAbs_natCast, Int.natAbs_natCast] at hc
  generalize rung Ieee.double (floatOfInt .f64 (a : Int)) = ra at *
  generalize rung Ieee.double (floatOfInt .f64 (b : Int)) = rb at *
  have hlt : ∀ p q : Nat, (p * 2 ^ 1074 < q * 2 ^ 1074) ↔ p < q := fun p q => Nat.mul_lt_mul_right (Nat.two_pow_pos _)
  rcases Nat.lt_trichotomy a b with h | h | h
  · rw [Nat.compare_eq_lt.2 ((hlt a b).2 h)] at hc
    have := Nat.compare_eq_lt.1 hc.symm
    rw [cmp_of_lt (by omega), decide_eq_false (by omega), decide_eq_false (by omega)]; exact ⟨rfl, rfl⟩
  · subst h
    rw [Nat.compare_eq_eq.2 rfl] at hc
    have := Nat.compare_eq_eq.1 hc.symm
    subst this
    rw [Int.compare_eq_eq.2 rfl, decide_eq_false (by omega), decide_eq_true (by omega)]; exact ⟨rfl, rfl⟩
  · rw [Nat.compare_eq_gt.2 ((hlt b a).2 h)] at hc
    have := Nat.compare_eq_gt.1 hc.symm
    rw [cmp_of_gt (by omega), decide_eq_true (by omega), decide_eq_true (by omega)]; exact ⟨rfl, rfl⟩
theorem floor_sgn {v : Nat} (h : rung Ieee.double v < Ieee.double.infRung) : sgn Ieee.double (floorF v) = sgn Ieee.double v ∧ isN .f64 (floorF v) = false := by
  obtain ⟨m, e, r1, _, _⟩ := read_fin Ieee.double v h
  have hk : ∃ m' : Nat, floorF v = Ieee.double.write (.number (sgn Ieee.double v) m' 0) := by
    unfold floorF; rw [r1]; exact ⟨_, rfl⟩
  obtain ⟨m', hk⟩ := hk
  rw [hk]
  exact ⟨nearest_sgn' _ _ _ _, write_notNaN _ _ rfl⟩
theorem floor_eq {v : Nat} (h : rung Ieee.double v < Ieee.double.infRung) (hs : sgn Ieee.double v = false) : floorF v = floatOfInt .f64 (whole v : Int) := by
  obtain ⟨m, e, r1, r2, r3⟩ := read_fin Ieee.double v h
  have d1 : Ieee.double.leastPlace = -1074 := by decide +kernel
  rw [d1] at r2 r3
  rw [hs] at r1
  unfold floorF
  rw [r1]
  show Ieee.double.nearest false (Ieee.Toward.down.cut false (m <<< e.toNat) (-e).toNat) 0 = _
  rw [cut_down_way, whole_cut r2 r3]
  have ef : floatOfInt .f64 (whole v : Int) = Ieee.double.nearest (decide ((whole v : Int) < 0)) (whole v : Int).natAbs 0 := rfl
  rw [ef, decide_eq_false (by omega), Int.natAbs_natCast]
theorem whole_cvU {x : Nat} (h : mg Ieee.double (rung Ieee.double (cvU x)) = mg Ieee.single (rung Ieee.single x) * 2 ^ 925) : whole (cvU x) = whole32 x := by
  unfold whole whole32
  rw [h]
  have e : (2 : Nat) ^ 1074 = 2 ^ 149 * 2 ^ 925 := by rw [← Nat.pow_add]
  rw [e, Nat.mul_div_mul_right _ _ (Nat.two_pow_pos _)]
theorem zero64 : floatOfInt .f64 ((0 : Nat) : Int) = 0 := by decide +kernel
/-- The reference's floor, with its tests, and the program's cut: the same pixel. -/
theorem down_cases {x last : Nat} (h : Ft 168 x) (hl : last ≤ 15) :
    ((FloatKind.f64.format.order (floorF (cvU x)) 0 == some .gt) = false ∧ downN x last = 0) ∨
    ((FloatKind.f64.format.order (floorF (cvU x)) 0 == some .gt) = true ∧ (FloatKind.f64.format.order (floorF (cvU x)) (floatOfInt .f64 (last : Int)) == some .gt || FloatKind.f64.format.order (floorF (cvU x)) (floatOfInt .f64 (last : Int)) == some .eq) = true ∧ downN x last = last) ∨
    ((FloatKind.f64.format.order (floorF (cvU x)) 0 == some .gt) = true ∧ (FloatKind.f64.format.order (floorF (cvU x)) (floatOfInt .f64 (last : Int)) == some .gt || FloatKind.f64.format.order (floorF (cvU x)) (floatOfInt .f64 (last : Int)) == some .eq) = false ∧ floatToIntVal .f64 (floorF (cvU x)) .i64 = some ((downN x last : Nat) : Int)) := by
  have hfin := h.fin
  obtain ⟨hd, _⟩ := downN_num (last := last) h.1
  obtain ⟨_, c2, c3, c4, c5, _⟩ := cvU_spec h.1
  have hU := c4.2 hfin
  have hff : FloatKind.f64.format = Ieee.double := rfl
  by_cases hs : sgn Ieee.single x = false
  · obtain ⟨b1, b2, b3, b4⟩ := both_whole hfin (.inl hs) (Nat.le_trans h.mg (Nat.pow_le_pow_right (by decide) (by decide)))
    have hw := whole_ft h
    have ht : ti32 x = (whole32 x : Int) := by
      have := toInt32 hfin hw
      rw [this] at b1; exact Option.some.inj b1
    have e1 : floorF (cvU x) = floatOfInt .f64 (whole32 x : Int) := by rw [floor_eq hU (by rw [c3]; exact hs), whole_cvU (c5 hfin)]
    rw [e1] at b4 ⊢
    rw [ht] at hd
    have g0 := (ofInt_gt (whole32 x) 0 hw (by decide)).1
    rw [zero64] at g0
    have g1 := (ofInt_gt (whole32 x) last hw (by omega)).2
    rw [g0, g1]
    by_cases k0 : 0 < whole32 x
    · rw [decide_eq_true k0]
      by_cases k1 : last ≤ whole32 x
      · right; left
        refine ⟨rfl, decide_eq_true k1, ?_⟩
        unfold maxI minI at hd; split at hd <;> split at hd <;> omega
      · right; right
        refine ⟨rfl, decide_eq_false k1, ?_⟩
        rw [b4]
        congr 1
        rw [hd]; unfold maxI minI; split <;> split <;> omega
    · left
      refine ⟨decide_eq_false k0, ?_⟩
      unfold maxI minI at hd; split at hd <;> split at hd <;> omega
  · left
    have hs1 : sgn Ieee.single x = true := by cases hq : sgn Ieee.single x <;> simp_all
    obtain ⟨f1, f2⟩ := floor_sgn hU
    have f3 : sgn Ieee.double (floorF (cvU x)) = true := by rw [f1, c3]; exact hs1
    refine ⟨?_, ?_⟩
    · rw [order_rungs .f64 _ _ f2 (by decide +kernel), hff]
      have z : srung Ieee.double 0 = 0 := by decide +kernel
      have : srung Ieee.double (floorF (cvU x)) ≤ 0 := by unfold srung; rw [f3]; simp
      rw [z]
      rcases Int.lt_or_eq_of_le this with h3 | h3
      · rw [cmp_of_lt h3]; rfl
      · rw [h3, Int.compare_eq_eq.2 rfl]; rfl
    · have ht : ti32 x ≤ 0 := by unfold ti32; rw [hs1]; simp
      unfold maxI minI at hd; split at hd <;> split at hd <;> omega
/-! ### wayDefs -/
def nzB (v : Nat) : Bool := FloatKind.f32.format.order v 0 != some .eq
def wayB (r g b : Nat) : Bool := colB r g b && (nzB r || (nzB g || nzB b))
/-! ### mulInf -/
theorem inf_notfin (s : Bool) : finB .f32 (FloatKind.f32.format.write (.infinity s)) = false := by cases s <;> decide +kernel
theorem rung_split {v : Nat} (h : finB .f32 v = false) (hn : isN .f32 v = false) : FloatKind.f32.format.read v = .infinity (sgn FloatKind.f32.format v) := by
  have h1 : ¬ rung FloatKind.f32.format v < FloatKind.f32.format.infRung := of_decide_eq_false h
  have h2 := isN_rung' .f32 v
  rw [hn] at h2
  have h3 := of_decide_eq_false h2.symm
  exact read_inf .f32 v (by omega)
/-- A product with a factor that isn't finite isn't finite. -/
theorem mul_notfin (x : Nat) {v : Nat} (hv : finB .f32 v = false) : finB .f32 (fop .mul .f32 x v) = false := by
  cases h : isN .f32 v
  · have h3 := rung_split hv h
    cases hx : isN .f32 x
    · cases hf : finB .f32 x
      · have h4 := rung_split hf hx
        have e : fop .mul .f32 x v = FloatKind.f32.format.write (.infinity (sgn FloatKind.f32.format x ^^ sgn FloatKind.f32.format v)) := by
          unfold fop floatBits Ieee.Format.mul
          simp only [h3, h4, Ieee.Datum.product]
          rfl
        rw [e]; exact inf_notfin _
      · obtain ⟨m, e, h4, _, _⟩ := read_fin FloatKind.f32.format x (of_decide_eq_true hf)
        by_cases hm : m = 0
        · have e : fop .mul .f32 x v = qn .f32 := by
            unfold fop floatBits Ieee.Format.mul
            simp only [h3, h4, Ieee.Datum.product, hm, if_true]
            rfl
          rw [e]; exact finB_nan (isN_qn .f32)
        · have e : fop .mul .f32 x v = FloatKind.f32.format.write (.infinity (sgn FloatKind.f32.format v ^^ sgn FloatKind.f32.format x)) := by
            unfold fop floatBits Ieee.Format.mul
            simp only [h3, h4, Ieee.Datum.product, hm, if_false]
            rfl
          rw [e]; exact inf_notfin _
    · exact finB_nan (isN_fop_l v hx)
  · exact finB_nan (isN_fop_r x h)

/-! ### wayFacts -/
theorem quo_inf {x v : Nat} (hx : finB .f32 x = true) (hv : finB .f32 v = false) (hn : isN .f32 v = false) : nzB (fop .quo .f32 x v) = false := by
  have h3 := rung_split hv hn
  obtain ⟨m, e, h4, _, _⟩ := read_fin FloatKind.f32.format x (of_decide_eq_true hx)
  have e : fop .quo .f32 x v = FloatKind.f32.format.write (.number (sgn FloatKind.f32.format x ^^ sgn FloatKind.f32.format v) 0 0) := by
    unfold fop floatBits Ieee.Format.div
    simp only [h3, h4, Ieee.Datum.quotient]
    rfl
  rw [e]
  generalize (sgn FloatKind.f32.format x ^^ sgn FloatKind.f32.format v) = s
  cases s <;> decide +kernel
def rootV (v : Nat) : Nat := cvN (fsqrt (cvU v))
theorem root_notfin {v : Nat} (h : finB .f32 v = false) : finB .f32 (rootV v) = false := by
  unfold rootV
  cases hn : isN .f32 v
  · have h1 : ¬ rung FloatKind.f32.format v < FloatKind.f32.format.infRung := of_decide_eq_false h
    have h2 := isN_rung' .f32 v
    rw [hn] at h2
    have h3 := of_decide_eq_false h2.symm
    have h4 : rung Ieee.single v = Ieee.single.infRung := by
      have : rung FloatKind.f32.format v = FloatKind.f32.format.infRung := by omega
      exact this
    have h5 : cvU v = Ieee.double.word (sgn Ieee.single v) Ieee.double.infRung := by unfold cvU; rw [cvU_inf h4]; rfl
    rw [h5]
    generalize sgn Ieee.single v = s
    cases s <;> decide +kernel
  · rw [cvU_qn hn]; decide +kernel
def t0 : (Nat × Nat × Nat) × Bool := ((0, 0, 0), false)
def giveW (t : Nat × Nat × Nat) : (Nat × Nat × Nat) × Bool := if wayB t.1 t.2.1 t.2.2 = true then (t, true) else t0
theorem unit_no {x y z r : Nat} (hx : finB .f32 x = true) (hy : finB .f32 y = true) (hz : finB .f32 z = true) (hr : finB .f32 r = false) : wayB (fop .quo .f32 x r) (fop .quo .f32 y r) (fop .quo .f32 z r) = false := by
  unfold wayB
  cases hn : isN .f32 r
  · rw [quo_inf hx hr hn, quo_inf hy hr hn, quo_inf hz hr hn]; simp
  · have : colB (fop .quo .f32 x r) (fop .quo .f32 y r) (fop .quo .f32 z r) = false := by
      unfold colB; rw [finB_nan (isN_fop_r x hn)]; rfl
    rw [this]; rfl
def innV (x y z a b c : Nat) : Nat := fop .add .f32 (fop .add .f32 (fop .mul .f32 x a) (fop .mul .f32 y b)) (fop .mul .f32 z c)
def unitT (x y z r : Nat) : Nat × Nat × Nat := (fop .quo .f32 x r, fop .quo .f32 y r, fop .quo .f32 z r)
def unitW (x y z : Nat) : (Nat × Nat × Nat) × Bool := if wayB x y z = true then giveW (unitT x y z (rootV (innV x y z x y z))) else t0
theorem unitW_no {x y z : Nat} (h : wayB x y z = false ∨ finB .f32 (innV x y z x y z) = false) : unitW x y z = t0 := by
  unfold unitW
  cases hw : wayB x y z
  · rfl
  · rcases h with h | h
    · rw [h] at hw; cases hw
    · rw [if_pos rfl]
      have hc : colB x y z = true := by unfold wayB at hw; rw [Bool.and_eq_true] at hw; exact hw.1
      unfold colB at hc
      simp only [Bool.and_eq_true] at hc
      have := unit_no hc.1 hc.2.1 hc.2.2 (root_notfin h)
      unfold giveW unitT
      rw [this]; rfl
def innR (x y z a b c : Nat) : Nat × Bool := if (wayB x y z && wayB a b c) = true then numR (innV x y z a b c) else (0, false)
/-! ### way2Defs -/
def WayB2 (t : (Nat × Nat × Nat) × Bool) (w : World) (e : Ending) (w' : World) : Prop := ∃ n m k, e = .returned (.tuple #[.agg #[.float .f32 (pick .f32 t.1.1 n), .float .f32 (pick .f32 t.1.2.1 m), .float .f32 (pick .f32 t.1.2.2 k)], .bool t.2]) ∧ Below w.heap.size w w'
def WayR (t : Nat × Nat × Nat) (w : World) (e : Ending) (w' : World) : Prop := ∃ n m k, e = .returned (.agg #[.float .f32 (pick .f32 t.1 n), .float .f32 (pick .f32 t.2.1 m), .float .f32 (pick .f32 t.2.2 k)]) ∧ Below w.heap.size w w'
theorem WayB2.no {w : World} {e : Ending} {w' : World} (h : e = .returned (.tuple #[.agg #[.float .f32 0, .float .f32 0, .float .f32 0], .bool false])) (b : Below w.heap.size w w') : WayB2 t0 w e w' := ⟨0, 0, 0, by rw [h]; simp only [t0, pick00], b⟩
def RetN (v : Nat) (w : World) (e : Ending) (w' : World) : Prop := ∃ n, e = .returned (.float .f32 (pick .f32 v n)) ∧ Below w.heap.size w w'
theorem giveW_lt_no {r g b : Nat} (h : wayB r g b = false) : giveW (r, g, b) = t0 := by unfold giveW; rw [h]; rfl
theorem giveW_yes {r g b : Nat} (h : wayB r g b = true) : giveW (r, g, b) = ((r, g, b), true) := by unfold giveW; rw [h]; rfl
/-! ### sineFacts -/
theorem fin_small {v : Nat} (h : finB .f32 v = true) (hb : decide (4841369599423283200 ≤ rung Ieee.double (cvU v)) = false) :
    isN .f64 (cvU v) = false ∧ floatToIntVal .f64 (cvU v) .i64 = some (ti (cvU v)) ∧ Bd .f64 1184 (sinF (cvU v)) := by
  have h1 : rung Ieee.single v < Ieee.single.infRung := of_decide_eq_true h
  have h2 : isN .f32 v = false := notN_fin (k := .f32) h1
  obtain ⟨_, c2, _, c4, _, _⟩ := cvU_spec h2
  have h3 := c4.2 h1
  have h4 := whole_small (v := cvU v) (by have := of_decide_eq_false hb; omega)
  exact ⟨c2, toInt64 h3 h4, sinF_bd (partF_bd h3 h4)⟩
theorem Fits_sin {v : Nat} (h : Bd .f64 1184 v) : Fits v := Fits_of_Bd (Bd_mono h (by decide))
theorem raw_nan {b : Nat} (h1 : isN .f64 b = true) (h2 : b < 2 ^ FloatKind.f64.format.width) : ∃ n, b = pick .f64 (qn .f64) n := by
  obtain ⟨n, e⟩ := nanOf_onto .f64 b h2 h1
  exact ⟨n, by rw [e]; simp [pick, isN_qn]⟩
def sineT (v : Nat) : Nat := if finB .f32 v = true then (if decide (4841369599423283200 ≤ rung Ieee.double (cvU v)) = true then 0 else cvN (sinF (cvU v))) else qn .f32
/-! ### turnDefs6 -/
def cosT (v : Nat) : Nat := sineT (fop .add .f32 v 1048576000)
def sumV (s x c y : Nat) : Nat := fop .add .f32 (fop .mul .f32 s x) (fop .mul .f32 c y)
def turT (x y z c s : Nat) : Nat × Nat × Nat := (lessV c x s y, sumV s x c y, z)
def tilT (x y z c s : Nat) : Nat × Nat × Nat := (x, lessV c y s z, sumV s y c z)
def turnW (x y z t : Nat) : (Nat × Nat × Nat) × Bool := if (wayB x y z && finB .f32 t) = true then giveW (turT x y z (cosT t) (sineT t)) else t0
def tiltW (x y z t : Nat) : (Nat × Nat × Nat) × Bool := if (wayB x y z && finB .f32 t) = true then giveW (tilT x y z (cosT t) (sineT t)) else t0
theorem turnW_no {x y z t : Nat} (h : wayB x y z = false ∨ finB .f32 t = false) : turnW x y z t = t0 ∧ tiltW x y z t = t0 := by
  unfold turnW tiltW
  rcases h with h | h <;> rw [h] <;> simp
/-! ### pixDefs -/
def HF : Nat := 1056964608
def atT (x wide : Int) : Nat := fop .quo .f32 (fop .add .f32 (floatOfInt .f32 x) 1056964608) (floatOfInt .f32 wide)
def wayT (t u : Nat) : Nat × Nat × Nat := (fop .mul .f32 (sineT u) (cosT t), fop .mul .f32 (sineT u) (sineT t), cosT u)
def wayV (W H x y : Int) : Nat × Nat × Nat := wayT (atT x W) (atT y (2 * H))
def hiV (H y : Int) : Nat := cosT (fop .quo .f32 (floatOfInt .f32 y) (floatOfInt .f32 (2 * H)))
def solV (W H y : Int) : Nat := fop .quo .f32 (fop .mul .f32 1086918619 (fop .sub .f32 (hiV H y) (hiV H (y + 1)))) (floatOfInt .f32 W)
/-! ### wayOfDefs -/
def inB (x H : Int) : Bool := decide (0 ≤ x) && decide (x ≤ H - 1)
def solidR (W H : Int) (z : List Nat) (y : Int) : Nat × Bool := if (validB W H z && inB y H) = true then (solV W H y, true) else (0, false)
def wayR (W H : Int) (z : List Nat) (x y : Int) : (Nat × Nat × Nat) × Bool := if (validB W H z && (inB x W && inB y H)) = true then (wayV W H x y, true) else t0
theorem valid_nat {W H : Int} {z : List Nat} (h : validB W H z = true) : ∃ Wn Hn : Nat, W = (Wn : Int) ∧ H = (Hn : Int) ∧ 1 ≤ Wn ∧ Wn ≤ 16 ∧ 1 ≤ Hn ∧ Hn ≤ 16 := by
  simp only [validB, sideB, Bool.and_eq_true, decide_eq_true_eq] at h
  obtain ⟨⟨⟨⟨h1, h2⟩, h3, h4⟩, _⟩, _⟩ := h
  exact ⟨W.toNat, H.toNat, by omega, by omega, by omega, by omega, by omega, by omega⟩
theorem inB_nat {x : Int} {Wn : Nat} (h : inB x (Wn : Int) = true) : ∃ n : Nat, x = (n : Int) ∧ n < Wn := by
  simp only [inB, Bool.and_eq_true, decide_eq_true_eq] at h
  exact ⟨x.toNat, by omega, by omega⟩
/-! ### pixelDefs -/
def flatV (x y : Nat) : Nat := rootV (fop .add .f32 (fop .mul .f32 x x) (fop .mul .f32 y y))
def colP (W x y : Nat) : Nat := fop .mul .f32 (turnFix (angT y x)) (floatOfInt .f32 (W : Int))
def rowP (H x y z : Nat) : Nat := fop .mul .f32 (fop .mul .f32 1073741824 (angT (flatV x y) z)) (floatOfInt .f32 (H : Int))
def colN (W x y : Nat) : Nat := downN (colP W x y) (W - 1)
def rowN (H x y z : Nat) : Nat := downN (rowP H x y z) (H - 1)
theorem colP_ok {W x y : Nat} (hx : finB .f32 x = true) (hy : finB .f32 y = true) (hW : W ≤ 16) : Ft 168 (colP W x y) := place_ft (turnFix_ft (angT_ft hy hx)) hW
theorem rowP_ok {H x y z : Nat} (hz : finB .f32 z = true) (hH : H ≤ 16) (hf : finB .f32 (flatV x y) = true) : Ft 163 (fop .mul .f32 1073741824 (angT (flatV x y) z)) := twice_ft (angT_ft hf hz)
theorem rowP_any {H x y z : Nat} (hz : finB .f32 z = true) (hH : H ≤ 16) : isN .f32 (rowP H x y z) = true ∨ Ft 168 (rowP H x y z) := by
  cases hf : finB .f32 (flatV x y)
  · left
    unfold rowP angT
    rw [hf]
    exact isN_fop_l _ (isN_fop_r _ (isN_qn .f32))
  · right; exact place_ft (rowP_ok (H := H) hz hH hf) hH
/-! ### pixelRes -/
def pixR (W H x y z : Nat) : Nat × Nat × Bool := if (wayB x y z && finB .f32 (flatV x y)) = true then (colN W x y, rowN H x y z, true) else (0, 0, false)
def RetIIB (r : Nat × Nat × Bool) (w : World) (e : Ending) (w' : World) : Prop := e = .returned (.tuple #[.int .i64 ((r.1 : Nat) : Int), .int .i64 ((r.2.1 : Nat) : Int), .bool r.2.2]) ∧ Below w.heap.size w w'
theorem wayB_col {x y z : Nat} (h : wayB x y z = true) : colB x y z = true := by unfold wayB at h; rw [Bool.and_eq_true] at h; exact h.1
/-! ### pixelOfDefs -/
def pixelR (W H : Int) (zs : List Nat) (x y z : Nat) : Nat × Nat × Bool := if validB W H zs = true then pixR W.toNat H.toNat x y z else (0, 0, false)
theorem pixR_no {W H x y z : Nat} (h : wayB x y z = false ∨ finB .f32 (flatV x y) = false) : pixR W H x y z = (0, 0, false) := by
  unfold pixR; rcases h with h | h <;> rw [h] <;> simp
theorem pixR_yes {W H x y z : Nat} (h : wayB x y z = true) (h2 : finB .f32 (flatV x y) = true) : pixR W H x y z = (colN W x y, rowN H x y z, true) := by
  unfold pixR; rw [h, h2]; rfl
theorem colN_lt {W x y : Nat} (h : 1 ≤ W) : colN W x y < W := Nat.lt_of_le_of_lt (downN_le _ _) (by omega)
theorem rowN_lt {H x y z : Nat} (h : 1 ≤ H) : rowN H x y z < H := Nat.lt_of_le_of_lt (downN_le _ _) (by omega)
/-! ### lightAtDefs -/
def lightK (W H : Nat) (zs : List Nat) (x y z : Nat) : Nat × Bool := if finB .f32 (flatV x y) = true then (fat zs (rowN H x y z * W + colN W x y), true) else (0, false)
def lightR (W H : Int) (zs : List Nat) (x y z : Nat) : Nat × Bool := if validB W H zs = true then (if wayB x y z = true then lightK W.toNat H.toNat zs x y z else (0, false)) else (0, false)
def towardV (W H : Nat) (zs : List Nat) (x y z : Nat) : Nat := if (wayB x y z && finB .f32 (flatV x y)) = true then fat zs (rowN H x y z * W + colN W x y) else qn .f32
theorem idx_lt {W H x y z : Nat} (hW : 1 ≤ W) (hH : 1 ≤ H) : rowN H x y z * W + colN W x y < W * H := by
  have h1 := colN_lt (x := x) (y := y) hW
  have h2 := rowN_lt (x := x) (y := y) (z := z) hH
  have h3 : (rowN H x y z + 1) * W ≤ H * W := Nat.mul_le_mul_right W h2
  rw [Nat.succ_mul, Nat.mul_comm H W] at h3
  omega
theorem numR_qn : numR (qn .f32) = (0, false) := by decide +kernel
theorem valid_at {W H : Int} {zs : List Nat} (h : validB W H zs = true) {k : Nat} (hk : k < zs.length) : finB .f32 (fat zs k) = true := by
  unfold validB at h
  rw [Bool.and_eq_true] at h
  have h2 := h.2
  unfold finL at h2
  rw [List.all_eq_true] at h2
  exact h2 _ (fat_mem hk)
theorem valid_nlen {Wn Hn : Nat} {zs : List Nat} (h : validB (Wn : Int) (Hn : Int) zs = true) : zs.length = Wn * Hn := by
  simp only [validB, Bool.and_eq_true, decide_eq_true_eq] at h
  have h2 := h.1.2
  rw [← Int.natCast_mul] at h2
  omega
theorem toward_light {Wn Hn x y z : Nat} {zs : List Nat} (h : validB (Wn : Int) (Hn : Int) zs = true) (hW : 1 ≤ Wn) (hH : 1 ≤ Hn) : numR (towardV Wn Hn zs x y z) = lightR (Wn : Int) (Hn : Int) zs x y z := by
  unfold lightR towardV lightK
  rw [h, if_pos rfl, Int.toNat_natCast, Int.toNat_natCast]
  cases wayB x y z
  · simp [numR_qn]
  · cases finB .f32 (flatV x y)
    · simp [numR_qn]
    · have hk : rowN Hn x y z * Wn + colN Wn x y < zs.length := by rw [valid_nlen h]; exact idx_lt hW hH
      simp only [Bool.and_self, if_true]
      unfold numR
      rw [valid_at h hk]; rfl

/-! ### makeDefs -/
def makeL (F : Nat → Nat → Nat) (Wn Hn : Nat) : List Nat := (List.range (Wn * Hn)).map fun i => F (i % Wn) (i / Wn)
theorem makeL_len {F : Nat → Nat → Nat} {Wn Hn : Nat} : (makeL F Wn Hn).length = Wn * Hn := by simp [makeL]
theorem makeL_at {F : Nat → Nat → Nat} {Wn Hn x y k : Nat} (hk : k = y * Wn + x) (hx : x < Wn) (hy : y < Hn) : fat (makeL F Wn Hn) k = F x y := by
  have h1 : k < Wn * Hn := by
    have : (y + 1) * Wn ≤ Hn * Wn := Nat.mul_le_mul_right _ (by omega)
    rw [Nat.succ_mul] at this
    rw [Nat.mul_comm Wn Hn]; omega
  have h2 : k % Wn = x := by rw [hk, Nat.mul_comm y Wn, Nat.mul_add_mod, Nat.mod_eq_of_lt hx]
  have h3 : k / Wn = y := by rw [hk, Nat.mul_comm y Wn, Nat.mul_add_div (by omega), Nat.div_eq_of_lt hx, Nat.add_zero]
  simp [fat, makeL, h1, h2, h3]
theorem make_lt {Wn Hn x y k : Nat} (hk : k = y * Wn + x) (hx : x < Wn) (hy : y < Hn) : k + 1 ≤ Wn * Hn := by
  have : (y + 1) * Wn ≤ Hn * Wn := Nat.mul_le_mul_right _ (by omega)
  rw [Nat.succ_mul] at this
  rw [Nat.mul_comm Wn Hn]; omega
def resMake (F : Nat → Nat → Nat) (W H : Int) : PRes := if sideB W H = true then giveP W H (makeL F W.toNat H.toNat) else PRes.no
/-! ### sphDefs -/
@[go_sem] theorem run_store_complex {P : Program} {w : World} {a : Addr} (k : FloatKind) (x y : Nat) (m : Mode) : (store a (.complex k x y) m).run P w = stored P w a (.complex k x y) m := run_store P w a _ m rfl
theorem sineT_lt (v : Nat) : sineT v < 2 ^ FloatKind.f32.format.width := by
  unfold sineT
  split
  · split
    · exact Nat.two_pow_pos _
    · exact cvN_lt _
  · exact qn_lt .f32
def sphF (tt : Nat → Nat → Nat → Nat → Nat → Nat × Nat × Nat) (zs : List Nat) (Wn Hn c s : Nat) (x y : Nat) : Nat :=
  towardV Wn Hn zs (tt (wayV Wn Hn x y).1 (wayV Wn Hn x y).2.1 (wayV Wn Hn x y).2.2 c s).1 (tt (wayV Wn Hn x y).1 (wayV Wn Hn x y).2.1 (wayV Wn Hn x y).2.2 c s).2.1 (tt (wayV Wn Hn x y).1 (wayV Wn Hn x y).2.1 (wayV Wn Hn x y).2.2 c s).2.2
def resSph (tt : Nat → Nat → Nat → Nat → Nat → Nat × Nat × Nat) (W H : Int) (zs : List Nat) (t : Nat) : PRes := if (validB W H zs && finB .f32 t) = true then giveP W H (makeL (sphF tt zs W.toNat H.toNat (cosT t) (sineT t)) W.toNat H.toNat) else PRes.no
theorem resSph_no {tt : Nat → Nat → Nat → Nat → Nat → Nat × Nat × Nat} {W H : Int} {zs : List Nat} {t : Nat} (h : validB W H zs = false ∨ finB .f32 t = false) : resSph tt W H zs t = PRes.no := by
  unfold resSph; rcases h with h | h <;> rw [h] <;> simp
theorem resSph_yes {tt : Nat → Nat → Nat → Nat → Nat → Nat × Nat × Nat} {Wn Hn : Nat} {zs : List Nat} {t : Nat} (h : validB (Wn : Int) (Hn : Int) zs = true) (h2 : finB .f32 t = true) : resSph tt (Wn : Int) (Hn : Int) zs t = giveP Wn Hn (makeL (sphF tt zs Wn Hn (cosT t) (sineT t)) Wn Hn) := by
  unfold resSph; rw [h, h2, if_pos (by rfl), Int.toNat_natCast, Int.toNat_natCast]
theorem resSph_make {tt : Nat → Nat → Nat → Nat → Nat → Nat × Nat × Nat} {Wn Hn : Nat} {zs : List Nat} {t : Nat} (h : validB (Wn : Int) (Hn : Int) zs = true) (h2 : finB .f32 t = true) : resMake (sphF tt zs Wn Hn (cosT t) (sineT t)) (Wn : Int) (Hn : Int) = resSph tt (Wn : Int) (Hn : Int) zs t := by
  rw [resSph_yes h h2]
  unfold resMake
  have hs : sideB (Wn : Int) (Hn : Int) = true := by unfold validB at h; simp only [Bool.and_eq_true] at h; exact h.1.1
  rw [hs, if_pos rfl, Int.toNat_natCast, Int.toNat_natCast]
theorem toward_lt {Wn Hn x y z : Nat} {zs : List Nat} (hz : ∀ k, fat zs k < 2 ^ FloatKind.f32.format.width) : towardV Wn Hn zs x y z < 2 ^ FloatKind.f32.format.width := by
  unfold towardV; split
  · exact hz _
  · exact qn_lt .f32
theorem fat_lt {w : World} {a : Option Addr} {len cap : Nat} {zs : List Nat} (h : IsRowF .f32 w a len cap zs) (k : Nat) : fat zs k < 2 ^ FloatKind.f32.format.width := by
  by_cases hk : k < zs.length
  · obtain ⟨h1, h2, h3, h4, h5⟩ := h
    exact lt_of_wf (h4 _ (fat_mem hk))
  · have : fat zs k = 0 := by unfold fat; rw [List.getD, List.getElem?_eq_none (by omega)]; rfl
    rw [this]; exact Nat.two_pow_pos _
/-! ### notFin -/
theorem notfin_cases {v : Nat} (h : finB .f32 v = false) : isN .f32 v = true ∨ FloatKind.f32.format.read v = .infinity (sgn FloatKind.f32.format v) := by
  cases hn : isN .f32 v
  · exact .inr (rung_split h hn)
  · exact .inl rfl
theorem fin_read {v : Nat} (h : finB .f32 v = true) : ∃ m e, FloatKind.f32.format.read v = .number (sgn FloatKind.f32.format v) m e := by
  obtain ⟨m, e, h4, _, _⟩ := read_fin FloatKind.f32.format v (of_decide_eq_true h)
  exact ⟨m, e, h4⟩
theorem add_notfin_r (x : Nat) {v : Nat} (hv : finB .f32 v = false) : finB .f32 (fop .add .f32 x v) = false := by
  rcases notfin_cases hv with h | h
  · exact finB_nan (isN_fop_r x h)
  · cases hx : finB .f32 x
    · rcases notfin_cases hx with h2 | h2
      · exact finB_nan (isN_fop_l v h2)
      · unfold fop floatBits Ieee.Format.add
        simp only [h, h2, Ieee.Datum.sum]
        split
        · exact inf_notfin _
        · exact finB_nan (isN_qn .f32)
    · obtain ⟨m, e, h2⟩ := fin_read hx
      unfold fop floatBits Ieee.Format.add
      simp only [h, h2, Ieee.Datum.sum]
      exact inf_notfin _
theorem add_notfin_l {x : Nat} (v : Nat) (hx : finB .f32 x = false) : finB .f32 (fop .add .f32 x v) = false := by
  cases hv : finB .f32 v
  · exact add_notfin_r x hv
  · rcases notfin_cases hx with h | h
    · exact finB_nan (isN_fop_l v h)
    · obtain ⟨m, e, h2⟩ := fin_read hv
      unfold fop floatBits Ieee.Format.add
      simp only [h, h2, Ieee.Datum.sum]
      exact inf_notfin _
theorem sub_notfin_r (x : Nat) {v : Nat} (hv : finB .f32 v = false) : finB .f32 (fop .sub .f32 x v) = false := by
  rcases notfin_cases hv with h | h
  · exact finB_nan (isN_fop_r x h)
  · cases hx : finB .f32 x
    · rcases notfin_cases hx with h2 | h2
      · exact finB_nan (isN_fop_l v h2)
      · unfold fop floatBits Ieee.Format.sub
        simp only [h, h2, Ieee.Datum.opposite, Ieee.Datum.sum]
        split
        · exact inf_notfin _
        · exact finB_nan (isN_qn .f32)
    · obtain ⟨m, e, h2⟩ := fin_read hx
      unfold fop floatBits Ieee.Format.sub
      simp only [h, h2, Ieee.Datum.opposite, Ieee.Datum.sum]
      exact inf_notfin _
theorem quo_notfin_l {x v : Nat} (hx : finB .f32 x = false) (hv : finB .f32 v = true) : finB .f32 (fop .quo .f32 x v) = false := by
  rcases notfin_cases hx with h | h
  · exact finB_nan (isN_fop_l v h)
  · obtain ⟨m, e, h2⟩ := fin_read hv
    unfold fop floatBits Ieee.Format.div
    simp only [h, h2, Ieee.Datum.quotient]
    exact inf_notfin _
theorem ofInt_fin {n : Nat} (h : n ≤ 256) : finB .f32 (floatOfInt .f32 (n : Int)) = true := by
  have : (List.range 257).all (fun n => finB .f32 (floatOfInt .f32 (n : Int))) = true := by decide +kernel
  rw [List.all_eq_true] at this
  exact this n (List.mem_range.2 (by omega))
/-! ### sphFacts -/
theorem write_zero (s : Bool) (e : Int) : nzB (FloatKind.f32.format.write (.number s 0 e)) = false := by
  have h : FloatKind.f32.format.write (.number s 0 e) = FloatKind.f32.format.write (.number s 0 0) := by
    unfold Ieee.Format.write Ieee.Format.nearest; simp
  rw [h]; cases s <;> decide +kernel
theorem zero_read {v : Nat} (hf : finB .f32 v = true) (hz : nzB v = false) : ∃ e, FloatKind.f32.format.read v = .number (sgn FloatKind.f32.format v) 0 e := by
  unfold nzB bne at hz
  rw [o_eq (fin_notN hf) n_zero, s_zero] at hz
  simp only [Bool.not_eq_false', decide_eq_true_eq] at hz
  have h0 : rung FloatKind.f32.format v = 0 := by unfold srung at hz; split at hz <;> omega
  obtain ⟨m, e, h1, h2, h3⟩ := read_fin FloatKind.f32.format v (of_decide_eq_true hf)
  rw [h0] at h3
  have h4 : mg FloatKind.f32.format 0 = 0 := by decide +kernel
  rw [h4] at h3
  have h5 : m = 0 := by
    rcases Nat.mul_eq_zero.1 h3 with h | h
    · exact h
    · exact absurd h (Nat.ne_of_gt (Nat.two_pow_pos _))
  subst h5
  exact ⟨e, h1⟩
theorem mul_zero {x v : Nat} (hf : finB .f32 v = true) (hz : nzB v = false) : finB .f32 (fop .mul .f32 x v) = false ∨ nzB (fop .mul .f32 x v) = false := by
  obtain ⟨e, h1⟩ := zero_read hf hz
  cases hx : finB .f32 x
  · rcases notfin_cases hx with h2 | h2
    · exact .inl (finB_nan (isN_fop_l v h2))
    · have e : fop .mul .f32 x v = qn .f32 := by
        unfold fop floatBits Ieee.Format.mul
        simp only [h1, h2, Ieee.Datum.product, if_true]
        rfl
      rw [e]; exact .inl (finB_nan (isN_qn .f32))
  · obtain ⟨m, e2, h2⟩ := fin_read hx
    refine .inr ?_
    unfold fop floatBits Ieee.Format.mul
    simp only [h1, h2, Ieee.Datum.product, Nat.mul_zero]
    exact write_zero _ _
theorem signed0 (b : Bool) (n : Nat) : Ieee.signed b 0 n = 0 := by cases b <;> simp [Ieee.signed]
theorem add_zero' {x v : Nat} (hf : finB .f32 v = true) (hz : nzB v = false) (hf2 : finB .f32 x = true) (hz2 : nzB x = false) : nzB (fop .add .f32 x v) = false := by
  obtain ⟨e, h1⟩ := zero_read hf hz
  obtain ⟨e2, h2⟩ := zero_read hf2 hz2
  unfold fop floatBits Ieee.Format.add
  simp only [h1, h2, Ieee.Datum.sum]
  simp [signed0, write_zero]
theorem sub_zero' {x v : Nat} (hf : finB .f32 v = true) (hz : nzB v = false) (hf2 : finB .f32 x = true) (hz2 : nzB x = false) : nzB (fop .sub .f32 x v) = false := by
  obtain ⟨e, h1⟩ := zero_read hf hz
  obtain ⟨e2, h2⟩ := zero_read hf2 hz2
  unfold fop floatBits Ieee.Format.sub
  simp only [h1, h2, Ieee.Datum.opposite, Ieee.Datum.sum]
  simp [signed0, write_zero]
theorem pair_zero {c s x y : Nat} (hx : finB .f32 x = true) (zx : nzB x = false) (hy : finB .f32 y = true) (zy : nzB y = false) : (finB .f32 (lessV c x s y) = false ∨ nzB (lessV c x s y) = false) ∧ (finB .f32 (sumV s x c y) = false ∨ nzB (sumV s x c y) = false) := by
  have sub_l : ∀ {a b : Nat}, finB .f32 a = false → finB .f32 (fop .sub .f32 a b) = false := by
    intro a b ha
    rcases notfin_cases ha with h | h
    · exact finB_nan (isN_fop_l b h)
    · cases hb : finB .f32 b
      · exact sub_notfin_r a hb
      · obtain ⟨m, e, h2⟩ := fin_read hb
        unfold fop floatBits Ieee.Format.sub
        simp only [h, h2, Ieee.Datum.opposite, Ieee.Datum.sum]
        exact inf_notfin _
  unfold lessV sumV
  constructor
  · cases f1 : finB .f32 (fop .mul .f32 c x)
    · exact .inl (sub_l f1)
    · cases f2 : finB .f32 (fop .mul .f32 s y)
      · exact .inl (sub_notfin_r _ f2)
      · have z1 := (mul_zero (x := c) hx zx).resolve_left (by rw [f1]; simp)
        have z2 := (mul_zero (x := s) hy zy).resolve_left (by rw [f2]; simp)
        exact .inr (sub_zero' f2 z2 f1 z1)
  · cases f1 : finB .f32 (fop .mul .f32 s x)
    · exact .inl (add_notfin_l _ f1)
    · cases f2 : finB .f32 (fop .mul .f32 c y)
      · exact .inl (add_notfin_r _ f2)
      · have z1 := (mul_zero (x := s) hx zx).resolve_left (by rw [f1]; simp)
        have z2 := (mul_zero (x := c) hy zy).resolve_left (by rw [f2]; simp)
        exact .inr (add_zero' f2 z2 f1 z1)
theorem sum_notfin {c s x y : Nat} (h : finB .f32 x = false ∨ finB .f32 y = false) : finB .f32 (sumV s x c y) = false := by
  unfold sumV
  rcases h with h | h
  · exact add_notfin_l _ (mul_notfin _ h)
  · exact add_notfin_r _ (mul_notfin _ h)
theorem turT_way {x y z c s : Nat} (h : wayB (turT x y z c s).1 (turT x y z c s).2.1 (turT x y z c s).2.2 = true) : wayB x y z = true := by
  unfold wayB colB turT at *
  dsimp only at h
  simp only [Bool.and_eq_true, Bool.or_eq_true] at h ⊢
  obtain ⟨⟨h1, h2, h3⟩, h4⟩ := h
  have fx : finB .f32 x = true := by
    cases hx : finB .f32 x
    · rw [sum_notfin (.inl hx)] at h2; cases h2
    · rfl
  have fy : finB .f32 y = true := by
    cases hy : finB .f32 y
    · rw [sum_notfin (.inr hy)] at h2; cases h2
    · rfl
  refine ⟨⟨fx, fy, h3⟩, ?_⟩
  cases zx : nzB x
  · cases zy : nzB y
    · obtain ⟨p1, p2⟩ := pair_zero (c := c) (s := s) fx zx fy zy
      rw [h1] at p1
      rw [h2] at p2
      simp only [Bool.true_eq_false, false_or] at p1 p2
      rw [p1, p2] at h4
      simpa using h4
    · simp
  · simp
theorem tilT_way {x y z c s : Nat} (h : wayB (tilT x y z c s).1 (tilT x y z c s).2.1 (tilT x y z c s).2.2 = true) : wayB x y z = true := by
  unfold wayB colB tilT at *
  dsimp only at h
  simp only [Bool.and_eq_true, Bool.or_eq_true] at h ⊢
  obtain ⟨⟨h1, h2, h3⟩, h4⟩ := h
  have fy : finB .f32 y = true := by
    cases hx : finB .f32 y
    · rw [sum_notfin (.inl hx)] at h3; cases h3
    · rfl
  have fz : finB .f32 z = true := by
    cases hy : finB .f32 z
    · rw [sum_notfin (.inr hy)] at h3; cases h3
    · rfl
  refine ⟨⟨h1, fy, fz⟩, ?_⟩
  cases zx : nzB y
  · cases zy : nzB z
    · obtain ⟨p1, p2⟩ := pair_zero (c := c) (s := s) fy zx fz zy
      rw [h2] at p1
      rw [h3] at p2
      simp only [Bool.true_eq_false, false_or] at p1 p2
      rw [p1, p2] at h4
      simpa using h4
    · simp
  · simp
theorem giveW_col {t : Nat × Nat × Nat} : colB (giveW t).1.1 (giveW t).1.2.1 (giveW t).1.2.2 = true := by
  unfold giveW
  cases h : wayB t.1 t.2.1 t.2.2
  · exact (by decide +kernel : colB 0 0 0 = true)
  · rw [if_pos rfl]; unfold wayB at h; rw [Bool.and_eq_true] at h; exact h.1
theorem no_no {F : Nat → Nat → Nat} {Wn Hn k : Nat} (hk : k < Wn * Hn) (h : finB .f32 (fat (makeL F Wn Hn) k) = false) : giveP (Wn : Int) (Hn : Int) (makeL F Wn Hn) = PRes.no := by
  have h2 := finL_of (makeL F Wn Hn) k (by rw [makeL_len]; exact hk) h
  unfold giveP validB
  rw [h2, Bool.and_false]; rfl
theorem turnW_col {x y z t : Nat} : colB (turnW x y z t).1.1 (turnW x y z t).1.2.1 (turnW x y z t).1.2.2 = true := by
  unfold turnW
  split
  · exact giveW_col
  · exact (by decide +kernel : colB 0 0 0 = true)
theorem turnW_round {Wn Hn x y t : Nat} {zs : List Nat} {wv : Nat × Nat × Nat} {r : (Nat × Nat × Nat) × Bool} {l : Nat × Bool} (hwv : wv = wayV (Wn : Int) (Hn : Int) (x : Int) (y : Int)) (hr : r = turnW wv.1 wv.2.1 wv.2.2 t) (hl : l = lightK Wn Hn zs r.1.1 r.1.2.1 r.1.2.2) (hf : finB .f32 t = true) : ((r.2 && l.2) = true → l.1 = sphF turT zs Wn Hn (cosT t) (sineT t) x y) ∧ ((r.2 && l.2) = false → finB .f32 (sphF turT zs Wn Hn (cosT t) (sineT t) x y) = false) := by
  unfold sphF towardV
  rw [← hwv]
  unfold turnW at hr
  rw [hf, Bool.and_true] at hr
  have hq : finB .f32 (qn .f32) = false := finB_nan (isN_qn .f32)
  generalize hT : turT wv.1 wv.2.1 wv.2.2 (cosT t) (sineT t) = T at *
  have hway : wayB T.1 T.2.1 T.2.2 = true → wayB wv.1 wv.2.1 wv.2.2 = true := by rw [← hT]; exact turT_way
  cases h2 : wayB T.1 T.2.1 T.2.2
  · have hr2 : r.2 = false := by
      rw [hr]
      split
      · unfold giveW; rw [h2]; rfl
      · rfl
    rw [hr2, Bool.false_and, Bool.false_and]
    refine ⟨fun h => (by cases h), fun _ => ?_⟩
    exact hq
  · rw [hway h2, if_pos rfl, giveW_yes h2] at hr
    subst hr
    subst hl
    unfold lightK
    dsimp only
    rw [Bool.true_and, Bool.true_and]
    cases h3 : finB .f32 (flatV T.1 T.2.1)
    · refine ⟨fun h => (by cases h), fun _ => hq⟩
    · refine ⟨fun _ => rfl, fun h => (by cases h)⟩
theorem tiltW_col {x y z t : Nat} : colB (tiltW x y z t).1.1 (tiltW x y z t).1.2.1 (tiltW x y z t).1.2.2 = true := by
  unfold tiltW
  split
  · exact giveW_col
  · exact (by decide +kernel : colB 0 0 0 = true)
theorem tiltW_round {Wn Hn x y t : Nat} {zs : List Nat} {wv : Nat × Nat × Nat} {r : (Nat × Nat × Nat) × Bool} {l : Nat × Bool} (hwv : wv = wayV (Wn : Int) (Hn : Int) (x : Int) (y : Int)) (hr : r = tiltW wv.1 wv.2.1 wv.2.2 t) (hl : l = lightK Wn Hn zs r.1.1 r.1.2.1 r.1.2.2) (hf : finB .f32 t = true) : ((r.2 && l.2) = true → l.1 = sphF tilT zs Wn Hn (cosT t) (sineT t) x y) ∧ ((r.2 && l.2) = false → finB .f32 (sphF tilT zs Wn Hn (cosT t) (sineT t) x y) = false) := by
  unfold sphF towardV
  rw [← hwv]
  unfold tiltW at hr
  rw [hf, Bool.and_true] at hr
  have hq : finB .f32 (qn .f32) = false := finB_nan (isN_qn .f32)
  generalize hT : tilT wv.1 wv.2.1 wv.2.2 (cosT t) (sineT t) = T at *
  have hway : wayB T.1 T.2.1 T.2.2 = true → wayB wv.1 wv.2.1 wv.2.2 = true := by rw [← hT]; exact tilT_way
  cases h2 : wayB T.1 T.2.1 T.2.2
  · have hr2 : r.2 = false := by
      rw [hr]
      split
      · unfold giveW; rw [h2]; rfl
      · rfl
    rw [hr2, Bool.false_and, Bool.false_and]
    refine ⟨fun h => (by cases h), fun _ => ?_⟩
    exact hq
  · rw [hway h2, if_pos rfl, giveW_yes h2] at hr
    subst hr
    subst hl
    unfold lightK
    dsimp only
    rw [Bool.true_and, Bool.true_and]
    cases h3 : finB .f32 (flatV T.1 T.2.1)
    · refine ⟨fun h => (by cases h), fun _ => hq⟩
    · refine ⟨fun _ => rfl, fun h => (by cases h)⟩
theorem yes_yes {F : Nat → Nat → Nat} {Wn Hn : Nat} {zs : List Nat} (hv : validB (Wn : Int) (Hn : Int) zs = true) (h : ∀ k, k < Wn * Hn → finB .f32 (fat (makeL F Wn Hn) k) = true) : (makeL F Wn Hn).all (finB .f32) = true ∧ giveP (Wn : Int) (Hn : Int) (makeL F Wn Hn) = ⟨(Wn : Int), (Hn : Int), makeL F Wn Hn, true⟩ := by
  have hall : (makeL F Wn Hn).all (finB .f32) = true := by
    rw [List.all_eq_true]
    intro x hx
    obtain ⟨k, hk, rfl⟩ := List.mem_iff_getElem.1 hx
    have h2 := h k (by rw [← makeL_len (F := F)]; exact hk)
    unfold fat at h2
    rwa [List.getD, List.getElem?_eq_getElem hk] at h2
  refine ⟨hall, ?_⟩
  have hs : sideB (Wn : Int) (Hn : Int) = true := by unfold validB at hv; simp only [Bool.and_eq_true] at hv; exact hv.1.1
  unfold giveP validB finL
  rw [hs, hall, makeL_len]
  simp

/-! ### bpowDefs -/
def bpowL (zs : List Nat) : List Nat := [fop .mul .f32 (fat zs 0) (fat zs 0), dotF .f32 0 ((zs.drop 1).take 3) ((zs.drop 1).take 3), dotF .f32 0 (zs.drop 4) (zs.drop 4)]
def bpowR (zs : List Nat) : List Nat × Bool := if matB zs = true then listR (bpowL zs) else ([], false)
theorem IsRowF.part {k : FloatKind} {w : World} {b off len cap : Nat} {zs : List Nat} (h : IsRowF k w (some ⟨b, off, none⟩) len cap zs) {lo n : Nat} (hn : lo + n ≤ len) (h1 : 1 ≤ n) : IsRowF k w (some ⟨b, off + lo, none⟩) n (cap - lo) ((zs.drop lo).take n) := by
  obtain ⟨e1, e2, e3, e4, e5⟩ := h
  have hl : ((zs.drop lo).take n).length = n := by rw [List.length_take, List.length_drop]; omega
  refine ⟨hl, by omega, by omega, fun x hx => e4 x (List.mem_of_mem_drop (List.mem_of_mem_take hx)), .inr ?_⟩
  rcases e5 with e5 | ⟨b', o', e, hb, hc⟩
  · omega
  · cases e
    refine ⟨b, off + lo, rfl, hb, fun i hi => ?_⟩
    have hfat : fat ((zs.drop lo).take n) i = fat zs (lo + i) := by
      unfold fat
      simp only [List.getD, List.getElem?_take, List.getElem?_drop]
      rw [if_pos hi]
    rw [hfat, Nat.add_assoc]
    exact hc (lo + i) (by omega)
/-! ### dotLt -/
theorem dot_lt : ∀ (xs ys : List Nat) (s : Nat), s < 2 ^ FloatKind.f32.format.width → dotF .f32 s xs ys < 2 ^ FloatKind.f32.format.width := by
  intro xs
  induction xs with
  | nil => intro ys s h; unfold dotF; exact h
  | cons x xs ih =>
    intro ys s h
    cases ys with
    | nil => unfold dotF; exact h
    | cons y ys => unfold dotF; exact ih ys _ (fop_lt _ _ _ _)
/-! ### l01Finite -/
theorem c_l01Finite (v n : Nat) (w : World) (j : Nat) : Calls Try.prog 114 #[.float .f32 (pick .f32 v n)] (w.drewN j) (RetV (.bool (finB .f32 v)) w) := by
  go_enter Try.func114, Try.ntmps114
  go_wp2_with (first | (refine wpList_fop rfl _ _ _ _ _ rfl _ _ _ rfl rfl (by decide) _ ?_; intro _ _) | (refine upon_fop _ _ _ _ _ (by decide) ?_; intro _ _))
  go_ret
  rw [← sub_self_zero]
  exact ⟨_, rfl, rfl⟩
/-! ### l02Finite -/
theorem c_l02Finite (a : Option Addr) (len cap : Nat) (zs : List Nat) (w : World) (j0 : Nat) (hr : IsRowF .f32 w a len cap zs) : Calls Try.prog 110 #[.slice a len cap] (w.drewN j0) (RetV (.bool (finL zs)) w) := by
  obtain ⟨h1, h2, h3, h4, h5⟩ := hr
  unfold maxLen at h3
  have H1 := Lib.hid h1
  clear h1
  go_enter Try.func110, Try.ntmps110
  go_wp2
  go_loopw [3] (fun i wr => ∃ k m : Nat, k ≤ len ∧ i = .int .i64 k ∧ wr = w.drewN m ∧ finL (zs.take k) = true) (fun i _ => len - (intOf i).toNat)
  case atStart => exact ⟨0, j0, Nat.zero_le _, rfl, rfl, rfl⟩
  case round =>
    obtain ⟨k, m, hk, rfl, rfl, hfin⟩ := hrel
    have HFin := Lib.hid hfin
    clear hfin
    by_cases hlt : k < len
    · rcases h5 with h5 | ⟨b, off, rfl, hbl, hc⟩
      · omega
      have hcell : w.cell? ⟨b, off + k, none⟩ = some (.float .f32 (fat zs k)) := hc k hlt
      obtain ⟨n, hn⟩ := pick0 .f32 (fat zs k) (lt_of_wf (h4 _ (by unfold fat; rw [List.getD, List.getElem?_eq_getElem (by have := H1.out; omega)]; exact List.getElem_mem _)))
      rw [hn] at hcell
      have HN := Lib.hid hn
      have HS := Lib.hid (finL_snoc zs k (by have := H1.out; omega))
      cases hf : finB .f32 (fat zs k)
      · have HO := Lib.hid (finL_of zs k (by have := H1.out; omega) hf)
        clear hc h4 hn
        go_wp2_with ((go_at_call 114; refine (c_l01Finite _ _ _ _).mono ?_; rintro _ _ ⟨_, rfl, rfl⟩))
        go_ret
        exact ⟨_, by rw [HO.out]; rfl, rfl⟩
      · have HF := Lib.hid hf
        clear hc h4 hn
        go_wp2_with ((go_at_call 114; refine (c_l01Finite _ _ _ _).mono ?_; rintro _ _ ⟨_, rfl, rfl⟩))
        go_roundw
        case rel => exact ⟨k + 1, _, by omega, by go_num, rfl, by rw [HS.out, HFin.out, HF.out]; rfl⟩
        case measure => simp [intOf]; omega
    · have e : zs.take k = zs := List.take_of_length_le (by have := H1.out; omega)
      have HE := Lib.hid e
      clear h5 h4 e
      go_wp2
      go_ret
      exact ⟨_, by have h := HFin.out; rw [HE.out] at h; rw [h]; rfl, rfl⟩
/-! ### l06Bands -/
theorem c_l06Bands (zs : List Nat) (a : Option Addr) (c : Nat) (w : World) (j : Nat) (hr : IsRowF .f32 w a zs.length c zs) : Calls Try.prog 93 #[.slice a zs.length c] (w.drewN j) (RetV (.bool (matB zs)) w) := by
  have CF := Lib.hid (fun j => c_l02Finite a zs.length c zs w j hr)
  have mA : zs.length ≤ maxLen := Nat.le_trans hr.2.1 hr.2.2.1
  unfold maxLen at mA
  clear hr
  unfold matB
  by_cases h9 : zs.length = 9
  · have e : ((zs.length : Int) == 9) = true := by rw [beq_iff_eq]; omega
    rw [decide_eq_true h9, Bool.true_and]
    generalize finL zs = q at *
    clear h9
    go_enter Try.func93, Try.ntmps93
    go_wp2_with ((go_at_call 110; refine (CF.out _).mono ?_; rintro _ _ ⟨_, rfl, rfl⟩))
    go_ret
    exact ⟨_, rfl, rfl⟩
  · have e : ((zs.length : Int) == 9) = false := by rw [beq_eq_false_iff_ne]; omega
    rw [decide_eq_false h9, Bool.false_and]
    clear h9
    go_enter Try.func93, Try.ntmps93
    go_wp2_with fail
    go_ret
    exact ⟨_, rfl, rfl⟩
/-! ### l06Powers -/
theorem c_l06Powers (a : Option Addr) (len c : Nat) (xs : List Nat) (w : World) (j0 : Nat) (hr : IsRowF .f32 w a len c xs) : Calls Try.prog 95 #[.slice a len c] (w.drewN j0) (RetF .f32 (dotF .f32 0 xs xs) w) := by
  obtain ⟨h1, h2, h3, h4, h5⟩ := hr
  unfold maxLen at h3
  have H1 := Lib.hid h1
  clear h1
  go_enter Try.func95, Try.ntmps95
  go_wp2
  go_loopw [3, 4] (fun s i wr => ∃ k n m : Nat, k ≤ len ∧ i = .int .i64 k ∧ s = .float .f32 (pick .f32 (dotF .f32 0 (xs.take k) (xs.take k)) n) ∧ wr = w.drewN m) (fun _ i _ => len - (intOf i).toNat)
  case atStart => exact ⟨0, 0, j0, Nat.zero_le _, rfl, rfl, rfl⟩
  case round =>
    obtain ⟨k, n, m, hk, rfl, rfl, rfl⟩ := hrel
    by_cases hlt : k < len
    · rcases h5 with h5 | ⟨x, off, rfl, hbl, hc⟩
      · omega
      have hcell : w.cell? ⟨x, off + k, none⟩ = some (.float .f32 (fat xs k)) := hc k hlt
      have HS := Lib.hid (dotF_snoc .f32 xs xs 0 k (by have := H1.out; omega) (by have := H1.out; omega))
      clear hc h4
      go_wp2
      refine wp_region_N (fun _ _ _ => False) (by kernel_rfl) (by kernel_rfl) ?_; (repeat (first | ((with_reducible show wpN _ _ _ _ _ (Oper.mk _ (Op.binOp _ _ _ _ _) _ _ _ none :: _) _); refine wpN_fop rfl _ _ _ _ _ rfl _ _ _ rfl rfl (by decide) ?_; intro _) | ((with_reducible show wpN _ _ _ _ _ (Oper.mk _ (Op.convert _ _ _) _ _ _ none :: _) _); refine wpN_cvU rfl 38 42 _ rfl (Option.isSome_iff_exists.2 ⟨_, Try.underlying38⟩) Try.underlying42 _ rfl ?_; intro _) | ((with_reducible show wpN _ _ _ _ _ (Oper.mk _ _ _ _ _ (some _) :: _) _); (with_reducible refine wpN_off ?_ ?_); focus rfl; (simp only [Act.put, List.setIfInBounds_toArray, List.set_cons_zero, List.set_cons_succ])) | ((with_reducible show wpN _ _ _ _ _ (Oper.mk _ _ _ _ _ (some _) :: _) _); ((with_reducible refine wpN_on ?_ (fun K hK => ?_)); (focus rfl); intro _; go_simp; first | (refine uponN_value (hK _ ?_)) | (fail; refine hK _ ?_)); clear hK K) | (((with_reducible refine wpN_plain rfl (fun K hK => ?_)); intro _; go_simp; first | (refine uponN_value (hK _ ?_)) | (fail; refine hK _ ?_)); clear hK K) | ((with_reducible refine wpN_step (fun K hK => ?_)); go_simp; first | (refine hK _ ?_) | (intro _; first | (refine uponN_value (hK _ ?_)) | (fail; refine hK _ ?_)); clear hK K))); refine wpN_nil ?_; intro _
      go_wp2
      go_roundw
      case rel => exact ⟨k + 1, _, _, by omega, by go_num, by rw [HS.out], rfl⟩
      case measure => simp [intOf]; omega
    · have e : xs.take k = xs := List.take_of_length_le (by have := H1.out; omega)
      rw [e]
      clear h5 h4 e
      go_wp2
      go_ret
      exact ⟨_, _, rfl, rfl⟩

/-! ### l02ListN -/
theorem c_l02ListN (g cap B N : Nat) (zs' zs : List Nat) (w : World) (ho : Own 38 w B (some ⟨g, 0, none⟩) N cap zs') (hn : near zs' zs) (h9 : zs.length = N) (hN : N ≤ 1048576) : Calls Try.prog 94 #[.slice (some ⟨g, 0, none⟩) N cap] w (fun e w' => ∃ a' c', e = .returned (.tuple #[.slice a' (listR zs).1.length c', .bool (listR zs).2]) ∧ (listR zs).1.length ≤ 1048576 ∧ Below w.heap.size w w' ∧ Own 38 w' B a' (listR zs).1.length c' (listR zs).1) := by
  have hl : zs'.length = N := hn.1.trans h9
  have CF := Lib.hid (by have h := c_l02Finite (some ⟨g, 0, none⟩) N cap zs' w 0 ho.row; rwa [w.drewN_zero] at h : Calls Try.prog 110 #[.slice (some ⟨g, 0, none⟩) N cap] w (RetV (.bool (finL zs')) w))
  have hf : finL zs' = finL zs := by unfold finL; exact near_fin hn
  rw [hf] at CF
  have HO := Lib.hid ho
  have HN := Lib.hid hn
  have H9 := Lib.hid h9
  clear ho hn h9 hl hf
  unfold listR
  cases hz : finL zs
  all_goals rw [hz] at CF
  · rw [if_neg (by decide)]
    clear hz
    go_enter Try.func94, Try.ntmps94
    go_wp2_with fail
    refine CF.out.mono ?_
    rintro _ _ ⟨m1, rfl, rfl⟩
    go_wp2_with fail
    go_ret2
    exact ⟨none, 0, rfl, Nat.zero_le _, below_drewN (Below.refl _ _) _, Own.nil _ _ _⟩
  · rw [if_pos rfl]
    have e := near_eq HN.out (by unfold finL at hz; exact hz)
    have HE := Lib.hid e
    clear hz e
    go_enter Try.func94, Try.ntmps94
    go_wp2_with fail
    refine CF.out.mono ?_
    rintro _ _ ⟨m1, rfl, rfl⟩
    go_wp2_with fail
    go_ret2
    refine ⟨some ⟨g, 0, none⟩, cap, ?_, ?_, below_drewN (Below.refl _ _) _, ?_⟩
    · show _ = Ending.returned (.tuple #[.slice (some ⟨g, 0, none⟩) zs.length cap, .bool true])
      rw [H9.out]; rfl
    · show zs.length ≤ 1048576
      rw [H9.out]; exact hN
    · show Own _ _ _ _ zs.length _ zs
      rw [H9.out, ← HE.out]; exact HO.out.below (below_drewN (Below.refl _ _) _)
/-! ### sBandPowers -/
theorem c_sBandPowers (zs : List Nat) (a : Option Addr) (c : Nat) (w : World) (hr : IsRowF .f32 w a zs.length c zs) : Calls Try.prog 43 #[.slice a zs.length c] w (RetL 38 (bpowR zs) w) := by
  have CM := Lib.hid (fun j => c_l06Bands zs a c w j hr)
  obtain ⟨res, hres⟩ : ∃ q, q = bpowR zs := ⟨_, rfl⟩
  rw [← hres]
  unfold bpowR at hres
  cases hm : matB zs
  all_goals rw [hm] at CM hres
  · have RES := Lib.hid (show res = ([], false) from hres)
    clear hres hm hr
    rw [← w.drewN_zero]
    go_enter Try.func43, Try.ntmps43
    go_wp2_with (go_at_call 93; refine (CM.out _).mono ?_; rintro _ _ ⟨_, rfl, rfl⟩)
    go_ret2
    rw [RES.out]
    exact RetL.no rfl (below_drewN (Below.refl _ _) _)
  have h9 : zs.length = 9 := by unfold matB at hm; simp only [Bool.and_eq_true, decide_eq_true_eq] at hm; exact hm.1
  have RES := Lib.hid (show res = listR (bpowL zs) from hres)
  obtain ⟨b0, off, n0, rfl, hb0, e0⟩ := hr.at (k := 0) (by omega)
  have hcap : 9 ≤ c := by have := hr.2.1; omega
  have hcm : c ≤ maxLen := hr.2.2.1
  unfold maxLen at hcm
  rw [h9] at CM hr ⊢
  have HR1 := Lib.hid (IsRowF.part hr (lo := 1) (n := 3) (by decide) (by decide))
  have HR2 := Lib.hid (by have h := IsRowF.part hr (lo := 4) (n := 5) (by decide) (by decide); rwa [List.take_of_length_le (by rw [List.length_drop]; omega)] at h : IsRowF .f32 w (some ⟨b0, off + 4, none⟩) 5 (c - 4) (zs.drop 4))
  have KA := Lib.hid (fun (w' : World) (hE : Below w.heap.size w w') => (hE.cell (p := ⟨b0, off + 0, none⟩) hb0).trans e0)
  have zb : b0 < w.heap.size := hb0
  have q1 : (4 : Int) ≤ (c : Int) := by omega
  have q2 : ¬ (c = 1) := by omega
  have q3 : ¬ (c = 4) := by omega
  have q4 : (9 : Int) ≤ (c : Int) := by omega
  have H9 := Lib.hid h9
  clear hres hm hr h9 e0 hb0
  simp only [Nat.add_zero] at KA
  rw [← w.drewN_zero]
  go_enter Try.func43, Try.ntmps43
  go_upto_region 3 with (go_at_call 93; refine (CM.out _).mono ?_; rintro _ _ ⟨_, rfl, rfl⟩)
  rw [w.drewN_zero]
  generalize hw1 : World.drewN w _ = w1
  have B1 : Below w.heap.size w w1 := by subst hw1; exact below_drewN (Below.refl _ _) _
  have HB1 := Lib.hid B1
  have zw : w.heap.size ≤ w1.heap.size := B1.size
  have KS := Lib.hid (fun (w' : World) (hE : Below w1.heap.size w1 w') => KA.out w' (HB1.out.trans (hE.mono HB1.out.size)))
  clear hw1 B1 CM
  refine wp_region_facts 8 (fun a b => Below a.heap.size a b) (fun _ => Below.refl _ _) (fun _ _ _ h h' => h.trans (h'.mono h.size)) (Below.refl _ _).drew (by kernel_rfl) (by kernel_rfl) (by kernel_rfl) (by kernel_rfl) ?_
  simp only [List.take_succ_cons, List.take_zero, List.drop_succ_cons, List.drop_zero]
  (with_reducible apply wpF_val); (focus (intro vs w' hE hk; have e0 := KS.out w' hE; go_simp; exact ⟨Below.refl _ _, rfl⟩)); (simp only [Act.put, List.setIfInBounds_toArray, List.set_cons_zero, List.set_cons_succ, List.cons_append, List.nil_append])
  (with_reducible apply wpF_val); (focus (intro vs w' hE hk; have e0 := KS.out w' hE; go_simp; exact ⟨Below.refl _ _, rfl⟩)); (simp only [Act.put, List.setIfInBounds_toArray, List.set_cons_zero, List.set_cons_succ, List.cons_append, List.nil_append])
  (with_reducible apply wpF_val); (focus (intro vs w' hE hk; have e0 := KS.out w' hE; go_simp; exact ⟨Below.refl _ _, rfl⟩)); (simp only [Act.put, List.setIfInBounds_toArray, List.set_cons_zero, List.set_cons_succ, List.cons_append, List.nil_append])
  (with_reducible apply wpF_val); (focus (intro vs w' hE hk; have e0 := KS.out w' hE; go_simp; exact ⟨Below.refl _ _, rfl⟩)); (simp only [Act.put, List.setIfInBounds_toArray, List.set_cons_zero, List.set_cons_succ, List.cons_append, List.nil_append])
  (with_reducible apply wpF_val); (focus (intro vs w' hE hk; have e0 := KS.out w' hE; go_simp; exact ⟨Below.refl _ _, rfl⟩)); (simp only [Act.put, List.setIfInBounds_toArray, List.set_cons_zero, List.set_cons_succ, List.cons_append, List.nil_append])
  (with_reducible apply wpF_val); (focus (intro vs w' hE hk; have e0 := KS.out w' hE; go_simp; exact ⟨Below.refl _ _, rfl⟩)); (simp only [Act.put, List.setIfInBounds_toArray, List.set_cons_zero, List.set_cons_succ, List.cons_append, List.nil_append])
  refine wpF_fact (fun u _ => ∃ m, u = .float .f32 (pick .f32 (fop .mul .f32 (fat zs 0) (fat zs 0)) m)) (fun _ _ _ h _ => h) (fun vs w' hE hk => ?_) ?_; (focus (rw [if_pos (by rfl)]; refine uponW_fop _ _ _ _ _ rfl .f32 _ _ rfl rfl (by decide) (fun n' m' => ⟨below_drewN (Below.refl _ _) _, n', by simp only [fop_pick_l, fop_pick_r]⟩))); (simp only [Act.put, List.setIfInBounds_toArray, List.set_cons_zero, List.set_cons_succ, List.cons_append, List.nil_append])
  refine wpF_fact (fun u _ => ∃ m, u = .float .f32 (pick .f32 (fop .mul .f32 (fat zs 0) (fat zs 0)) m)) (fun _ _ _ h _ => h) (fun vs w' hE hk => ?_) ?_; (focus (obtain ⟨n9, h9⟩ := hk 6 (by kernel_rfl); simp only [h9]; go_simp; exact ⟨Below.refl _ _, n9, rfl⟩)); (simp only [Act.put, List.setIfInBounds_toArray, List.set_cons_zero, List.set_cons_succ, List.cons_append, List.nil_append])
  refine wpF_nil (fun vs w2 hE hk => ?_)
  obtain ⟨_, h6⟩ := hk 6
  obtain ⟨p0, h7⟩ := hk 7
  simp only [h6, h7]
  have HB2 := Lib.hid (HB1.out.trans (hE.mono HB1.out.size))
  clear hE hk KS h6 h7
  have KS := Lib.hid (fun (w' : World) (hE : Below w2.heap.size w2 w') => KA.out w' (HB2.out.trans (hE.mono HB2.out.size)))
  have C1 := Lib.hid (fun (w' : World) (hE : Below w2.heap.size w2 w') => (by have h := c_l06Powers _ _ _ _ w' 0 (HR1.out.below (HB2.out.trans (hE.mono HB2.out.size))); rwa [w'.drewN_zero] at h : Calls Try.prog 95 #[.slice (some ⟨b0, off + 1, none⟩) 3 (c - 1)] w' (RetF .f32 (dotF .f32 0 ((zs.drop 1).take 3) ((zs.drop 1).take 3)) w')))
  have C2 := Lib.hid (fun (w' : World) (hE : Below w2.heap.size w2 w') => (by have h := c_l06Powers _ _ _ _ w' 0 (HR2.out.below (HB2.out.trans (hE.mono HB2.out.size))); rwa [w'.drewN_zero] at h : Calls Try.prog 95 #[.slice (some ⟨b0, off + 4, none⟩) 5 (c - 4)] w' (RetF .f32 (dotF .f32 0 (zs.drop 4) (zs.drop 4)) w')))
  have HPW := Lib.hid (fop_lt .mul .f32 (fat zs 0) (fat zs 0))
  have HW1 := Lib.hid (dot_lt ((zs.drop 1).take 3) ((zs.drop 1).take 3) 0 (Nat.two_pow_pos _))
  have HW2 := Lib.hid (dot_lt (zs.drop 4) (zs.drop 4) 0 (Nat.two_pow_pos _))
  have HNear := Lib.hid (fun n1 n2 => (⟨rfl, fun i hi => by
    have hi3 : i < 3 := hi
    match i, hi3 with
    | 0, _ => exact ⟨p0, rfl⟩
    | 1, _ => exact ⟨n1, rfl⟩
    | 2, _ => exact ⟨n2, rfl⟩⟩ : near [pick .f32 (fop .mul .f32 (fat zs 0) (fat zs 0)) p0, pick .f32 (dotF .f32 0 ((zs.drop 1).take 3) ((zs.drop 1).take 3)) n1, pick .f32 (dotF .f32 0 (zs.drop 4) (zs.drop 4)) n2] (bpowL zs)))
  generalize fop .mul .f32 (fat zs 0) (fat zs 0) = p at *
  generalize dotF .f32 0 ((zs.drop 1).take 3) ((zs.drop 1).take 3) = d1 at *
  generalize dotF .f32 0 (zs.drop 4) (zs.drop 4) = d2 at *
  go_upto_region 4 with fail
  refine wp_region_facts 13 (fun a b => Below a.heap.size a b) (fun _ => Below.refl _ _) (fun _ _ _ h h' => h.trans (h'.mono h.size)) (Below.refl _ _).drew (by kernel_rfl) (by kernel_rfl) (by kernel_rfl) (by kernel_rfl) ?_
  simp only [List.take_succ_cons, List.take_zero, List.drop_succ_cons, List.drop_zero]
  (with_reducible apply wpF_val); (focus (intro vs w' hE hk; have e0 := KS.out w' hE; go_simp; exact ⟨Below.refl _ _, rfl⟩)); (simp only [Act.put, List.setIfInBounds_toArray, List.set_cons_zero, List.set_cons_succ, List.cons_append, List.nil_append])
  (with_reducible apply wpF_val); (focus (intro vs w' hE hk; have e0 := KS.out w' hE; go_simp; exact ⟨Below.refl _ _, rfl⟩)); (simp only [Act.put, List.setIfInBounds_toArray, List.set_cons_zero, List.set_cons_succ, List.cons_append, List.nil_append])
  (with_reducible apply wpF_val); (focus (intro vs w' hE hk; have e0 := KS.out w' hE; go_simp; exact ⟨Below.refl _ _, rfl⟩)); (simp only [Act.put, List.setIfInBounds_toArray, List.set_cons_zero, List.set_cons_succ, List.cons_append, List.nil_append])
  refine wpF_fact (fun u _ => ∃ m, u = .float .f32 (pick .f32 (d1) m)) (fun _ _ _ h _ => h) (fun vs w' hE hk => ?_) ?_; (focus (go_simp; refine (C1.out w' hE).mono ?_; rintro _ _ ⟨n9, j9, rfl, rfl⟩; exact ⟨_, rfl, below_drewN (Below.refl _ _) _, n9, rfl⟩)); (simp only [Act.put, List.setIfInBounds_toArray, List.set_cons_zero, List.set_cons_succ, List.cons_append, List.nil_append])
  (with_reducible apply wpF_val); (focus (intro vs w' hE hk; have e0 := KS.out w' hE; go_simp; exact ⟨Below.refl _ _, rfl⟩)); (simp only [Act.put, List.setIfInBounds_toArray, List.set_cons_zero, List.set_cons_succ, List.cons_append, List.nil_append])
  (with_reducible apply wpF_val); (focus (intro vs w' hE hk; have e0 := KS.out w' hE; go_simp; exact ⟨Below.refl _ _, rfl⟩)); (simp only [Act.put, List.setIfInBounds_toArray, List.set_cons_zero, List.set_cons_succ, List.cons_append, List.nil_append])
  refine wpF_fact (fun u _ => ∃ m, u = .float .f32 (pick .f32 (d2) m)) (fun _ _ _ h _ => h) (fun vs w' hE hk => ?_) ?_; (focus (go_simp; refine (C2.out w' hE).mono ?_; rintro _ _ ⟨n9, j9, rfl, rfl⟩; exact ⟨_, rfl, below_drewN (Below.refl _ _) _, n9, rfl⟩)); (simp only [Act.put, List.setIfInBounds_toArray, List.set_cons_zero, List.set_cons_succ, List.cons_append, List.nil_append])
  refine wpF_fact (fun u wx => ∃ g, u = .slice (some ⟨g, 0, none⟩) 3 3 ∧ ∃ n1 n2, Own 38 wx w2.heap.size (some ⟨g, 0, none⟩) 3 3 [pick .f32 p p0, pick .f32 d1 n1, pick .f32 d2 n2]) (fun u wa wb h hE => by obtain ⟨g, h1, n1, n2, h2⟩ := h; exact ⟨g, h1, n1, n2, h2.below hE⟩) (fun vs w' hE hk => ?_) ?_; (focus (obtain ⟨n1, h3⟩ := hk 3 (by kernel_rfl); obtain ⟨n2, h6⟩ := hk 6 (by kernel_rfl); simp only [h3, h6]; have zl := hE.size; go_simp; exact ⟨(Below.refl _ _).alloc (Nat.le_refl _) _, _, rfl, n1, n2, own_new9 (zs := [pick .f32 p p0, pick .f32 (d1) n1, pick .f32 (d2) n2]) rfl zl (by simp) (by intro b hb; simp only [List.mem_cons, List.not_mem_nil, or_false] at hb; rcases hb with rfl | rfl | rfl; exact pick_wf HPW.out _; exact pick_wf HW1.out _; exact pick_wf HW2.out _)⟩)); (simp only [Act.put, List.setIfInBounds_toArray, List.set_cons_zero, List.set_cons_succ, List.cons_append, List.nil_append])
  refine wpF_fact (TupL 38 w2.heap.size res) (fun u wa wb h hE => by obtain ⟨a, c, h1, h2, h3⟩ := h; exact ⟨a, c, h1, h2, h3.below hE⟩) (fun vs w' hE hk => ?_) ?_; (focus (obtain ⟨g, h7, n1, n2, o7⟩ := hk 7 (by kernel_rfl); simp only [h7]; go_simp; refine (c_l02ListN g 3 w2.heap.size 3 _ (bpowL zs) w' o7 (HNear.out n1 n2) rfl (by decide)).mono ?_; rw [← RES.out]; rintro _ w9 ⟨a9, c9, rfl, hl9, b9, o9⟩; exact ⟨_, rfl, b9, a9, c9, rfl, hl9, o9⟩)); (simp only [Act.put, List.setIfInBounds_toArray, List.set_cons_zero, List.set_cons_succ, List.cons_append, List.nil_append])
  refine wpF_fact (SlcL 38 w2.heap.size res) (fun u wa wb h hE => by obtain ⟨a, c, h1, h2, h3⟩ := h; exact ⟨a, c, h1, h2, h3.below hE⟩) (fun vs w' hE hk => ?_) ?_; (focus (obtain ⟨a9, c9, h8, l9, o9⟩ := hk 8 (by kernel_rfl); simp only [h8]; go_simp; exact ⟨Below.refl _ _, a9, c9, rfl, l9, o9⟩)); (simp only [Act.put, List.setIfInBounds_toArray, List.set_cons_zero, List.set_cons_succ, List.cons_append, List.nil_append])
  refine wpF_fact (fun u _ => BooL res u) (fun _ _ _ h _ => h) (fun vs w' hE hk => ?_) ?_; (focus (obtain ⟨a9, c9, h8, l9, o9⟩ := hk 8 (by kernel_rfl); simp only [h8]; go_simp; exact ⟨Below.refl _ _, _, rfl, rfl⟩)); (simp only [Act.put, List.setIfInBounds_toArray, List.set_cons_zero, List.set_cons_succ, List.cons_append, List.nil_append])
  refine wpF_fact (SlcL 38 w2.heap.size res) (fun u wa wb h hE => by obtain ⟨a, c, h1, h2, h3⟩ := h; exact ⟨a, c, h1, h2, h3.below hE⟩) (fun vs w' hE hk => ?_) ?_; (focus (obtain ⟨a9, c9, h8, l9, o9⟩ := hk 9 (by kernel_rfl); simp only [h8]; go_simp; exact ⟨Below.refl _ _, a9, c9, rfl, l9, o9⟩)); (simp only [Act.put, List.setIfInBounds_toArray, List.set_cons_zero, List.set_cons_succ, List.cons_append, List.nil_append])
  refine wpF_fact (fun u _ => BooL res u) (fun _ _ _ h _ => h) (fun vs w' hE hk => ?_) ?_; (focus (obtain ⟨x9, h8, e9⟩ := hk 10 (by kernel_rfl); subst e9; simp only [h8]; go_simp; exact ⟨Below.refl _ _, _, rfl, rfl⟩)); (simp only [Act.put, List.setIfInBounds_toArray, List.set_cons_zero, List.set_cons_succ, List.cons_append, List.nil_append])
  refine wpF_nil (fun vs w3 hE hk => ?_)
  obtain ⟨_, h3⟩ := hk 3
  obtain ⟨_, h6⟩ := hk 6
  obtain ⟨_, h7, _⟩ := hk 7
  obtain ⟨_, _, h8, _, _⟩ := hk 8
  obtain ⟨_, _, h9, _, _⟩ := hk 9
  obtain ⟨_, h10, _⟩ := hk 10
  obtain ⟨a9, c9, h11, hl9, o9⟩ := hk 11
  obtain ⟨x9, h12, e9⟩ := hk 12
  simp only [h3, h6, h7, h8, h9, h10, h11, h12]
  have HB3 := Lib.hid (HB2.out.trans (hE.mono HB2.out.size))
  have O9 := Lib.hid (o9.mono (B' := w.heap.size) HB2.out.size)
  subst e9
  clear hE hk h3 h6 h7 h8 h9 h10 h11 h12 o9
  go_wp2_with fail
  go_ret2
  exact ⟨_, _, rfl, hl9, HB3.out, O9.out⟩

/-! ### sqFacts -/
theorem sq_zero {g : Nat} (h : rung Ieee.single g = 0) : Ieee.single.read g = .number (sgn Ieee.single g) 0 Ieee.single.leastPlace := by
  unfold Ieee.Format.read
  have hb : g % Ieee.single.signWeight = 0 := h
  dsimp only
  rw [hb, if_pos (by decide +kernel)]
  rfl
theorem sq_sig0 (t : Bool) (k : Nat) : Ieee.signed t 0 k = 0 := by unfold Ieee.signed; cases t <;> simp
theorem add0_pos {v : Nat} (hv : v < 2 ^ 32) (hn : isN .f32 v = false) (hs0 : sgn Ieee.single v = false) : fop .add .f32 0 v = v := by
  have hsw0 : FloatKind.f32.format.signWeight = 2147483648 := by decide +kernel
  have hinf : FloatKind.f32.format.infRung = 2139095040 := by decide +kernel
  have hlt : v < 2147483648 := by
    have e : sgn Ieee.single v = (v / 2147483648 % 2 == 1) := rfl
    rw [e] at hs0
    have h1 : v / 2147483648 = 0 ∨ v / 2147483648 = 1 := by omega
    rcases h1 with h1 | h1
    · omega
    · rw [h1] at hs0; simp at hs0
  have hr : rung Ieee.single v = v := Nat.mod_eq_of_lt hlt
  by_cases h0 : v = 0
  · subst h0; decide +kernel
  by_cases hi : v = 2139095040
  · subst hi; decide +kernel
  have hx : rung Ieee.single v < Ieee.single.infRung := by
    have h2 : ¬ (2139095040 < rung FloatKind.f32.format v) := by rw [isN_rung', hinf] at hn; exact of_decide_eq_false hn
    have h3 : rung FloatKind.f32.format v = v := hr
    rw [hr, show Ieee.single.infRung = 2139095040 from hinf]; omega
  obtain ⟨m, e, r1, hlp, hmg⟩ := read_fin Ieee.single v hx
  have hf : FloatKind.f32.format = Ieee.single := rfl
  have hz0 : rung Ieee.single 0 = 0 := by decide +kernel
  have s0 : sgn Ieee.single 0 = false := by decide +kernel
  have hb : min Ieee.single.leastPlace e = Ieee.single.leastPlace := by omega
  have hs : Ieee.signed (sgn Ieee.single v) m (e - Ieee.single.leastPlace).toNat = ((mg Ieee.single (rung Ieee.single v) : Nat) : Int) := by
    unfold Ieee.signed
    rw [Nat.shiftLeft_eq, hmg, hs0]
    simp
  have Mpos : 0 < mg Ieee.single (rung Ieee.single v) := by
    have := mg_lt Ieee.single (r := 0) (s := rung Ieee.single v) (by omega)
    omega
  have key : fop .add .f32 0 v = Ieee.single.write (.number (decide (((mg Ieee.single (rung Ieee.single v) : Nat) : Int) < 0)) (((mg Ieee.single (rung Ieee.single v) : Nat) : Int)).natAbs Ieee.single.leastPlace) := by
    unfold fop floatBits
    rw [hf]
    simp only [Ieee.Format.add, r1, sq_zero hz0, s0, Ieee.Datum.sum, sq_sig0, Int.zero_add, Option.map_some, Option.getD_some, hb, hs]
    rw [if_neg (by omega)]
  rw [key, decide_eq_false (by omega), Int.natAbs_natCast]
  show Ieee.single.nearest false (mg Ieee.single (rung Ieee.single v)) Ieee.single.leastPlace = v
  have hsw : Ieee.single.infRung < Ieee.single.signWeight := by decide +kernel
  obtain ⟨q, e1, h1, h3⟩ := nearest_le Ieee.single false (mg Ieee.single (rung Ieee.single v)) Ieee.single.leastPlace (rung Ieee.single v) (by unfold leRung; exact Nat.le_refl _)
  obtain ⟨q', e2, h2, h4⟩ := nearest_ge Ieee.single false (mg Ieee.single (rung Ieee.single v)) Ieee.single.leastPlace (rung Ieee.single v) (by omega) (by unfold geRung; exact Nat.le_refl _)
  have h5 := (word_signs Ieee.single false q (by omega)).2
  have h6 := (word_signs Ieee.single false q' (by omega)).2
  rw [← e1, e2, h6] at h5
  rw [e1]
  have e3 : q = v := by omega
  rw [e3]
  rfl
theorem sq_pos {x : Nat} (hx : finB .f32 x = true) : isN .f32 (fop .mul .f32 x x) = false ∧ sgn Ieee.single (fop .mul .f32 x x) = false := by
  have hx' : rung Ieee.single x < Ieee.single.infRung := of_decide_eq_true hx
  obtain ⟨m, i, r1, r2, _⟩ := read_fin Ieee.single x hx'
  have hf : FloatKind.f32.format = Ieee.single := rfl
  unfold fop floatBits
  rw [hf]
  simp only [Ieee.Format.mul, r1, Ieee.Datum.product, Option.map_some, Option.getD_some, Bool.xor_self, bne_self_eq_false]
  exact ⟨nearest_notNaN _ _ _ _, nearest_sgn _ _ _ _⟩
theorem add0_sq {x : Nat} (hx : finB .f32 x = true) : fop .add .f32 0 (fop .mul .f32 x x) = fop .mul .f32 x x :=
  add0_pos (fop_lt _ .f32 _ _) (sq_pos hx).1 (sq_pos hx).2
theorem nine_of {zs : List Nat} (h : zs.length = 9) : ∃ z0 z1 z2 z3 z4 z5 z6 z7 z8, zs = [z0, z1, z2, z3, z4, z5, z6, z7, z8] := by
  match zs, h with
  | [z0, z1, z2, z3, z4, z5, z6, z7, z8], _ => exact ⟨z0, z1, z2, z3, z4, z5, z6, z7, z8, rfl⟩
/-! ### varSet -/
theorem var_setAt {w : World} {b i : Nat} {cs : Array Value} (h : Var w b cs) (hi : i < cs.size) (v : Value) : Var (w.setCell ⟨b, i, none⟩ v) b (cs.set i v hi) := by
  refine ⟨by simpa using h.1, fun j hj => ?_⟩
  have hj' : j < cs.size := by simpa using hj
  by_cases e : i = j
  · subst e
    rw [Array.getElem_set_self]
    exact World.cell?_setCell_same w _ _ (h.2 i hi)
  · rw [Array.getElem_set_ne _ _ e]
    rw [World.cell?_setCell_other w ⟨b, i, none⟩ ⟨b, j, none⟩ v (fun h2 => e (by have := congrArg Addr.off h2; simpa using this))]
    exact h.2 j hj'
/-! ### matEq -/
theorem eqMat (x0 x1 x2 x3 x4 x5 x6 x7 x8 : Nat) (w : World) : (Op.equalIn 10000 108 (.agg #[.float .f32 x0, .float .f32 x1, .float .f32 x2, .float .f32 x3, .float .f32 x4, .float .f32 x5, .float .f32 x6, .float .f32 x7, .float .f32 x8]) (.agg #[.float .f32 0, .float .f32 0, .float .f32 0, .float .f32 0, .float .f32 0, .float .f32 0, .float .f32 0, .float .f32 0, .float .f32 0])).run Try.prog w = .ok ((FloatKind.f32.format.order x0 0 == some .eq) && (FloatKind.f32.format.order x1 0 == some .eq) && (FloatKind.f32.format.order x2 0 == some .eq) && (FloatKind.f32.format.order x3 0 == some .eq) && (FloatKind.f32.format.order x4 0 == some .eq) && (FloatKind.f32.format.order x5 0 == some .eq) && (FloatKind.f32.format.order x6 0 == some .eq) && (FloatKind.f32.format.order x7 0 == some .eq) && (FloatKind.f32.format.order x8 0 == some .eq)) w := by
  have u3 := Try.underlying38
  rw [show (10000 : Nat) = 9999 + 1 from rfl, Op.equalIn]
  simp only [Sem.run_bind, run_underlying Try.underlying108, Result.andThen_ok]
  simp only [Std.Legacy.Range.forIn_eq_forIn_range', Std.Legacy.Range.size, Nat.sub_zero, Nat.add_sub_cancel, Nat.div_one, List.range'_succ, List.range'_zero, List.forIn_cons, List.forIn_nil]
  have hE : ∀ (x : Nat) (w : World), (Op.equalIn 9999 38 (.float .f32 x) (.float .f32 0)).run Try.prog w = .ok (FloatKind.f32.format.order x 0 == some .eq) w := fun x w => by
    rw [show (9999 : Nat) = 9998 + 1 from rfl, Op.equalIn]
    simp [run_underlying u3, Op.floatEq]
  go_simp
  by_cases h0 : FloatKind.f32.format.order x0 0 = some Ordering.eq
  case neg => simp [h0]
  by_cases h1 : FloatKind.f32.format.order x1 0 = some Ordering.eq
  case neg => simp [h0, h1]
  by_cases h2 : FloatKind.f32.format.order x2 0 = some Ordering.eq
  case neg => simp [h0, h1, h2]
  by_cases h3 : FloatKind.f32.format.order x3 0 = some Ordering.eq
  case neg => simp [h0, h1, h2, h3]
  by_cases h4 : FloatKind.f32.format.order x4 0 = some Ordering.eq
  case neg => simp [h0, h1, h2, h3, h4]
  by_cases h5 : FloatKind.f32.format.order x5 0 = some Ordering.eq
  case neg => simp [h0, h1, h2, h3, h4, h5]
  by_cases h6 : FloatKind.f32.format.order x6 0 = some Ordering.eq
  case neg => simp [h0, h1, h2, h3, h4, h5, h6]
  by_cases h7 : FloatKind.f32.format.order x7 0 = some Ordering.eq
  case neg => simp [h0, h1, h2, h3, h4, h5, h6, h7]
  by_cases h8 : FloatKind.f32.format.order x8 0 = some Ordering.eq
  case neg => simp [h0, h1, h2, h3, h4, h5, h6, h7, h8]
  simp [h0, h1, h2, h3, h4, h5, h6, h7, h8]
/-! ### matFin -/
theorem c_matFin9 (v0 v1 v2 v3 v4 v5 v6 v7 v8 n0 n1 n2 n3 n4 n5 n6 n7 n8 : Nat) (w : World) : Calls Try.prog 125 #[.agg #[.float .f32 (pick .f32 v0 n0), .float .f32 (pick .f32 v1 n1), .float .f32 (pick .f32 v2 n2), .float .f32 (pick .f32 v3 n3), .float .f32 (pick .f32 v4 n4), .float .f32 (pick .f32 v5 n5), .float .f32 (pick .f32 v6 n6), .float .f32 (pick .f32 v7 n7), .float .f32 (pick .f32 v8 n8)]] w (RetB (.bool (finB .f32 v0 && finB .f32 v1 && finB .f32 v2 && finB .f32 v3 && finB .f32 v4 && finB .f32 v5 && finB .f32 v6 && finB .f32 v7 && finB .f32 v8)) w) := by
  generalize hw0 : (w.alloc (Obj.cells #[.float .f32 (pick .f32 v0 n0), .float .f32 (pick .f32 v1 n1), .float .f32 (pick .f32 v2 n2), .float .f32 (pick .f32 v3 n3), .float .f32 (pick .f32 v4 n4), .float .f32 (pick .f32 v5 n5), .float .f32 (pick .f32 v6 n6), .float .f32 (pick .f32 v7 n7), .float .f32 (pick .f32 v8 n8)] 108)).alloc (Obj.cells #[.float .f32 0, .float .f32 0, .float .f32 0, .float .f32 0, .float .f32 0, .float .f32 0, .float .f32 0, .float .f32 0, .float .f32 0] 108) = w0
  have X0 : Var w0 w.heap.size #[.float .f32 (pick .f32 v0 n0), .float .f32 (pick .f32 v1 n1), .float .f32 (pick .f32 v2 n2), .float .f32 (pick .f32 v3 n3), .float .f32 (pick .f32 v4 n4), .float .f32 (pick .f32 v5 n5), .float .f32 (pick .f32 v6 n6), .float .f32 (pick .f32 v7 n7), .float .f32 (pick .f32 v8 n8)] := by subst hw0; exact (Var.new _ _ _).alloc _
  have X1 : Var w0 (w.heap.size + 1) #[.float .f32 0, .float .f32 0, .float .f32 0, .float .f32 0, .float .f32 0, .float .f32 0, .float .f32 0, .float .f32 0, .float .f32 0] := by subst hw0; exact Var.new' _ _ _ _ (by simp)
  have X2 : Free w0 (w.heap.size + 1) := by subst hw0; exact Free.new' _ _ _ _ (by simp)
  have B0 := Lib.hid (show Below w.heap.size w w0 from by subst hw0; exact ((Below.refl _ _).alloc (Nat.le_refl _) _).alloc (by simp) _)
  have HW := Lib.hid hw0
  have c0 : w0.cell? ⟨w.heap.size, 0, none⟩ = some (.float .f32 (pick .f32 v0 n0)) := X0.2 0 (by simp)
  have c1 : w0.cell? ⟨w.heap.size, 1, none⟩ = some (.float .f32 (pick .f32 v1 n1)) := X0.2 1 (by simp)
  have c2 : w0.cell? ⟨w.heap.size, 2, none⟩ = some (.float .f32 (pick .f32 v2 n2)) := X0.2 2 (by simp)
  have c3 : w0.cell? ⟨w.heap.size, 3, none⟩ = some (.float .f32 (pick .f32 v3 n3)) := X0.2 3 (by simp)
  have c4 : w0.cell? ⟨w.heap.size, 4, none⟩ = some (.float .f32 (pick .f32 v4 n4)) := X0.2 4 (by simp)
  have c5 : w0.cell? ⟨w.heap.size, 5, none⟩ = some (.float .f32 (pick .f32 v5 n5)) := X0.2 5 (by simp)
  have c6 : w0.cell? ⟨w.heap.size, 6, none⟩ = some (.float .f32 (pick .f32 v6 n6)) := X0.2 6 (by simp)
  have c7 : w0.cell? ⟨w.heap.size, 7, none⟩ = some (.float .f32 (pick .f32 v7 n7)) := X0.2 7 (by simp)
  have c8 : w0.cell? ⟨w.heap.size, 8, none⟩ = some (.float .f32 (pick .f32 v8 n8)) := X0.2 8 (by simp)
  have i0 : ∀ w : World, (Instr.index 108 (.agg #[.float .f32 (pick .f32 v0 n0), .float .f32 (pick .f32 v1 n1), .float .f32 (pick .f32 v2 n2), .float .f32 (pick .f32 v3 n3), .float .f32 (pick .f32 v4 n4), .float .f32 (pick .f32 v5 n5), .float .f32 (pick .f32 v6 n6), .float .f32 (pick .f32 v7 n7), .float .f32 (pick .f32 v8 n8)]) (.int .i64 0)).run Try.prog w = .ok (.float .f32 (pick .f32 v0 n0)) w := fun _ => by kernel_rfl
  have i1 : ∀ w : World, (Instr.index 108 (.agg #[.float .f32 (pick .f32 v0 n0), .float .f32 (pick .f32 v1 n1), .float .f32 (pick .f32 v2 n2), .float .f32 (pick .f32 v3 n3), .float .f32 (pick .f32 v4 n4), .float .f32 (pick .f32 v5 n5), .float .f32 (pick .f32 v6 n6), .float .f32 (pick .f32 v7 n7), .float .f32 (pick .f32 v8 n8)]) (.int .i64 1)).run Try.prog w = .ok (.float .f32 (pick .f32 v1 n1)) w := fun _ => by kernel_rfl
  have i2 : ∀ w : World, (Instr.index 108 (.agg #[.float .f32 (pick .f32 v0 n0), .float .f32 (pick .f32 v1 n1), .float .f32 (pick .f32 v2 n2), .float .f32 (pick .f32 v3 n3), .float .f32 (pick .f32 v4 n4), .float .f32 (pick .f32 v5 n5), .float .f32 (pick .f32 v6 n6), .float .f32 (pick .f32 v7 n7), .float .f32 (pick .f32 v8 n8)]) (.int .i64 2)).run Try.prog w = .ok (.float .f32 (pick .f32 v2 n2)) w := fun _ => by kernel_rfl
  have i3 : ∀ w : World, (Instr.index 108 (.agg #[.float .f32 (pick .f32 v0 n0), .float .f32 (pick .f32 v1 n1), .float .f32 (pick .f32 v2 n2), .float .f32 (pick .f32 v3 n3), .float .f32 (pick .f32 v4 n4), .float .f32 (pick .f32 v5 n5), .float .f32 (pick .f32 v6 n6), .float .f32 (pick .f32 v7 n7), .float .f32 (pick .f32 v8 n8)]) (.int .i64 3)).run Try.prog w = .ok (.float .f32 (pick .f32 v3 n3)) w := fun _ => by kernel_rfl
  have i4 : ∀ w : World, (Instr.index 108 (.agg #[.float .f32 (pick .f32 v0 n0), .float .f32 (pick .f32 v1 n1), .float .f32 (pick .f32 v2 n2), .float .f32 (pick .f32 v3 n3), .float .f32 (pick .f32 v4 n4), .float .f32 (pick .f32 v5 n5), .float .f32 (pick .f32 v6 n6), .float .f32 (pick .f32 v7 n7), .float .f32 (pick .f32 v8 n8)]) (.int .i64 4)).run Try.prog w = .ok (.float .f32 (pick .f32 v4 n4)) w := fun _ => by kernel_rfl
  have i5 : ∀ w : World, (Instr.index 108 (.agg #[.float .f32 (pick .f32 v0 n0), .float .f32 (pick .f32 v1 n1), .float .f32 (pick .f32 v2 n2), .float .f32 (pick .f32 v3 n3), .float .f32 (pick .f32 v4 n4), .float .f32 (pick .f32 v5 n5), .float .f32 (pick .f32 v6 n6), .float .f32 (pick .f32 v7 n7), .float .f32 (pick .f32 v8 n8)]) (.int .i64 5)).run Try.prog w = .ok (.float .f32 (pick .f32 v5 n5)) w := fun _ => by kernel_rfl
  have i6 : ∀ w : World, (Instr.index 108 (.agg #[.float .f32 (pick .f32 v0 n0), .float .f32 (pick .f32 v1 n1), .float .f32 (pick .f32 v2 n2), .float .f32 (pick .f32 v3 n3), .float .f32 (pick .f32 v4 n4), .float .f32 (pick .f32 v5 n5), .float .f32 (pick .f32 v6 n6), .float .f32 (pick .f32 v7 n7), .float .f32 (pick .f32 v8 n8)]) (.int .i64 6)).run Try.prog w = .ok (.float .f32 (pick .f32 v6 n6)) w := fun _ => by kernel_rfl
  have i7 : ∀ w : World, (Instr.index 108 (.agg #[.float .f32 (pick .f32 v0 n0), .float .f32 (pick .f32 v1 n1), .float .f32 (pick .f32 v2 n2), .float .f32 (pick .f32 v3 n3), .float .f32 (pick .f32 v4 n4), .float .f32 (pick .f32 v5 n5), .float .f32 (pick .f32 v6 n6), .float .f32 (pick .f32 v7 n7), .float .f32 (pick .f32 v8 n8)]) (.int .i64 7)).run Try.prog w = .ok (.float .f32 (pick .f32 v7 n7)) w := fun _ => by kernel_rfl
  have i8 : ∀ w : World, (Instr.index 108 (.agg #[.float .f32 (pick .f32 v0 n0), .float .f32 (pick .f32 v1 n1), .float .f32 (pick .f32 v2 n2), .float .f32 (pick .f32 v3 n3), .float .f32 (pick .f32 v4 n4), .float .f32 (pick .f32 v5 n5), .float .f32 (pick .f32 v6 n6), .float .f32 (pick .f32 v7 n7), .float .f32 (pick .f32 v8 n8)]) (.int .i64 8)).run Try.prog w = .ok (.float .f32 (pick .f32 v8 n8)) w := fun _ => by kernel_rfl
  have V0 := Lib.hid X1
  have F0 := Lib.hid X2
  have z0 : w.heap.size + 1 < w0.heap.size := X1.lt
  clear X0 X1 X2 hw0
  go_enter Try.func125, Try.ntmps125
  go_wp2_with fail
  rw [HW.out, ← w0.drewN_zero]
  go_wp2_with fail
  rw [w0.drewN_zero]
  clear c0 c1 c2 c3 c4 c5 c6 c7 c8 HW
  refine wp_loop_rounds 10 ?_
  rw [rounds_succ]
  have f := F0.out 0
  go_wp2_with (refine upon_fop0 _ _ _ _ _ (by decide) ?_; intro k0 j0; have b := below_drewN (Below.refl w0.heap.size w0) j0; generalize w0.drewN j0 = u0 at b ⊢; have f := (F0.out.below (by omega) b) 0; have l := (V0.out.keep b).2 0 (by simp))
  have V1 : Hid (Var (u0.setCell ⟨w.heap.size + 1, 0, none⟩ (.float .f32 (pick .f32 (fop .sub .f32 v0 v0) k0))) (w.heap.size + 1) #[.float .f32 (pick .f32 (fop .sub .f32 v0 v0) k0), .float .f32 0, .float .f32 0, .float .f32 0, .float .f32 0, .float .f32 0, .float .f32 0, .float .f32 0, .float .f32 0]) := Lib.hid (var_setAt (V0.out.keep b) (i := 0) (by simp) (.float .f32 (pick .f32 (fop .sub .f32 v0 v0) k0)))
  have F1 := Lib.hid ((F0.out.below (by omega) b).setCell ⟨w.heap.size + 1, 0, none⟩ (.float .f32 (pick .f32 (fop .sub .f32 v0 v0) k0)))
  have B1 := Lib.hid ((B0.out.trans (b.mono (by omega))).setCell (p := ⟨w.heap.size + 1, 0, none⟩) (by show _ ≤ w.heap.size + 1; omega) (.float .f32 (pick .f32 (fop .sub .f32 v0 v0) k0)))
  have z1 : w.heap.size + 1 < (u0.setCell ⟨w.heap.size + 1, 0, none⟩ (.float .f32 (pick .f32 (fop .sub .f32 v0 v0) k0))).heap.size := V1.out.lt
  clear b f l i0 V0 F0 B0
  generalize u0.setCell ⟨w.heap.size + 1, 0, none⟩ (.float .f32 (pick .f32 (fop .sub .f32 v0 v0) k0)) = w1 at *
  rw [rounds_succ]
  have f := F1.out 1
  go_wp2_with (refine upon_fop0 _ _ _ _ _ (by decide) ?_; intro k1 j1; have b := below_drewN (Below.refl w1.heap.size w1) j1; generalize w1.drewN j1 = u1 at b ⊢; have f := (F1.out.below (by omega) b) 1; have l := (V1.out.keep b).2 1 (by simp))
  have V2 : Hid (Var (u1.setCell ⟨w.heap.size + 1, 1, none⟩ (.float .f32 (pick .f32 (fop .sub .f32 v1 v1) k1))) (w.heap.size + 1) #[.float .f32 (pick .f32 (fop .sub .f32 v0 v0) k0), .float .f32 (pick .f32 (fop .sub .f32 v1 v1) k1), .float .f32 0, .float .f32 0, .float .f32 0, .float .f32 0, .float .f32 0, .float .f32 0, .float .f32 0]) := Lib.hid (var_setAt (V1.out.keep b) (i := 1) (by simp) (.float .f32 (pick .f32 (fop .sub .f32 v1 v1) k1)))
  have F2 := Lib.hid ((F1.out.below (by omega) b).setCell ⟨w.heap.size + 1, 1, none⟩ (.float .f32 (pick .f32 (fop .sub .f32 v1 v1) k1)))
  have B2 := Lib.hid ((B1.out.trans (b.mono (by omega))).setCell (p := ⟨w.heap.size + 1, 1, none⟩) (by show _ ≤ w.heap.size + 1; omega) (.float .f32 (pick .f32 (fop .sub .f32 v1 v1) k1)))
  have z2 : w.heap.size + 1 < (u1.setCell ⟨w.heap.size + 1, 1, none⟩ (.float .f32 (pick .f32 (fop .sub .f32 v1 v1) k1))).heap.size := V2.out.lt
  clear b f l i1 V1 F1 B1
  generalize u1.setCell ⟨w.heap.size + 1, 1, none⟩ (.float .f32 (pick .f32 (fop .sub .f32 v1 v1) k1)) = w2 at *
  rw [rounds_succ]
  have f := F2.out 2
  go_wp2_with (refine upon_fop0 _ _ _ _ _ (by decide) ?_; intro k2 j2; have b := below_drewN (Below.refl w2.heap.size w2) j2; generalize w2.drewN j2 = u2 at b ⊢; have f := (F2.out.below (by omega) b) 2; have l := (V2.out.keep b).2 2 (by simp))
  have V3 : Hid (Var (u2.setCell ⟨w.heap.size + 1, 2, none⟩ (.float .f32 (pick .f32 (fop .sub .f32 v2 v2) k2))) (w.heap.size + 1) #[.float .f32 (pick .f32 (fop .sub .f32 v0 v0) k0), .float .f32 (pick .f32 (fop .sub .f32 v1 v1) k1), .float .f32 (pick .f32 (fop .sub .f32 v2 v2) k2), .float .f32 0, .float .f32 0, .float .f32 0, .float .f32 0, .float .f32 0, .float .f32 0]) := Lib.hid (var_setAt (V2.out.keep b) (i := 2) (by simp) (.float .f32 (pick .f32 (fop .sub .f32 v2 v2) k2)))
  have F3 := Lib.hid ((F2.out.below (by omega) b).setCell ⟨w.heap.size + 1, 2, none⟩ (.float .f32 (pick .f32 (fop .sub .f32 v2 v2) k2)))
  have B3 := Lib.hid ((B2.out.trans (b.mono (by omega))).setCell (p := ⟨w.heap.size + 1, 2, none⟩) (by show _ ≤ w.heap.size + 1; omega) (.float .f32 (pick .f32 (fop .sub .f32 v2 v2) k2)))
  have z3 : w.heap.size + 1 < (u2.setCell ⟨w.heap.size + 1, 2, none⟩ (.float .f32 (pick .f32 (fop .sub .f32 v2 v2) k2))).heap.size := V3.out.lt
  clear b f l i2 V2 F2 B2
  generalize u2.setCell ⟨w.heap.size + 1, 2, none⟩ (.float .f32 (pick .f32 (fop .sub .f32 v2 v2) k2)) = w3 at *
  rw [rounds_succ]
  have f := F3.out 3
  go_wp2_with (refine upon_fop0 _ _ _ _ _ (by decide) ?_; intro k3 j3; have b := below_drewN (Below.refl w3.heap.size w3) j3; generalize w3.drewN j3 = u3 at b ⊢; have f := (F3.out.below (by omega) b) 3; have l := (V3.out.keep b).2 3 (by simp))
  have V4 : Hid (Var (u3.setCell ⟨w.heap.size + 1, 3, none⟩ (.float .f32 (pick .f32 (fop .sub .f32 v3 v3) k3))) (w.heap.size + 1) #[.float .f32 (pick .f32 (fop .sub .f32 v0 v0) k0), .float .f32 (pick .f32 (fop .sub .f32 v1 v1) k1), .float .f32 (pick .f32 (fop .sub .f32 v2 v2) k2), .float .f32 (pick .f32 (fop .sub .f32 v3 v3) k3), .float .f32 0, .float .f32 0, .float .f32 0, .float .f32 0, .float .f32 0]) := Lib.hid (var_setAt (V3.out.keep b) (i := 3) (by simp) (.float .f32 (pick .f32 (fop .sub .f32 v3 v3) k3)))
  have F4 := Lib.hid ((F3.out.below (by omega) b).setCell ⟨w.heap.size + 1, 3, none⟩ (.float .f32 (pick .f32 (fop .sub .f32 v3 v3) k3)))
  have B4 := Lib.hid ((B3.out.trans (b.mono (by omega))).setCell (p := ⟨w.heap.size + 1, 3, none⟩) (by show _ ≤ w.heap.size + 1; omega) (.float .f32 (pick .f32 (fop .sub .f32 v3 v3) k3)))
  have z4 : w.heap.size + 1 < (u3.setCell ⟨w.heap.size + 1, 3, none⟩ (.float .f32 (pick .f32 (fop .sub .f32 v3 v3) k3))).heap.size := V4.out.lt
  clear b f l i3 V3 F3 B3
  generalize u3.setCell ⟨w.heap.size + 1, 3, none⟩ (.float .f32 (pick .f32 (fop .sub .f32 v3 v3) k3)) = w4 at *
  rw [rounds_succ]
  have f := F4.out 4
  go_wp2_with (refine upon_fop0 _ _ _ _ _ (by decide) ?_; intro k4 j4; have b := below_drewN (Below.refl w4.heap.size w4) j4; generalize w4.drewN j4 = u4 at b ⊢; have f := (F4.out.below (by omega) b) 4; have l := (V4.out.keep b).2 4 (by simp))
  have V5 : Hid (Var (u4.setCell ⟨w.heap.size + 1, 4, none⟩ (.float .f32 (pick .f32 (fop .sub .f32 v4 v4) k4))) (w.heap.size + 1) #[.float .f32 (pick .f32 (fop .sub .f32 v0 v0) k0), .float .f32 (pick .f32 (fop .sub .f32 v1 v1) k1), .float .f32 (pick .f32 (fop .sub .f32 v2 v2) k2), .float .f32 (pick .f32 (fop .sub .f32 v3 v3) k3), .float .f32 (pick .f32 (fop .sub .f32 v4 v4) k4), .float .f32 0, .float .f32 0, .float .f32 0, .float .f32 0]) := Lib.hid (var_setAt (V4.out.keep b) (i := 4) (by simp) (.float .f32 (pick .f32 (fop .sub .f32 v4 v4) k4)))
  have F5 := Lib.hid ((F4.out.below (by omega) b).setCell ⟨w.heap.size + 1, 4, none⟩ (.float .f32 (pick .f32 (fop .sub .f32 v4 v4) k4)))
  have B5 := Lib.hid ((B4.out.trans (b.mono (by omega))).setCell (p := ⟨w.heap.size + 1, 4, none⟩) (by show _ ≤ w.heap.size + 1; omega) (.float .f32 (pick .f32 (fop .sub .f32 v4 v4) k4)))
  have z5 : w.heap.size + 1 < (u4.setCell ⟨w.heap.size + 1, 4, none⟩ (.float .f32 (pick .f32 (fop .sub .f32 v4 v4) k4))).heap.size := V5.out.lt
  clear b f l i4 V4 F4 B4
  generalize u4.setCell ⟨w.heap.size + 1, 4, none⟩ (.float .f32 (pick .f32 (fop .sub .f32 v4 v4) k4)) = w5 at *
  rw [rounds_succ]
  have f := F5.out 5
  go_wp2_with (refine upon_fop0 _ _ _ _ _ (by decide) ?_; intro k5 j5; have b := below_drewN (Below.refl w5.heap.size w5) j5; generalize w5.drewN j5 = u5 at b ⊢; have f := (F5.out.below (by omega) b) 5; have l := (V5.out.keep b).2 5 (by simp))
  have V6 : Hid (Var (u5.setCell ⟨w.heap.size + 1, 5, none⟩ (.float .f32 (pick .f32 (fop .sub .f32 v5 v5) k5))) (w.heap.size + 1) #[.float .f32 (pick .f32 (fop .sub .f32 v0 v0) k0), .float .f32 (pick .f32 (fop .sub .f32 v1 v1) k1), .float .f32 (pick .f32 (fop .sub .f32 v2 v2) k2), .float .f32 (pick .f32 (fop .sub .f32 v3 v3) k3), .float .f32 (pick .f32 (fop .sub .f32 v4 v4) k4), .float .f32 (pick .f32 (fop .sub .f32 v5 v5) k5), .float .f32 0, .float .f32 0, .float .f32 0]) := Lib.hid (var_setAt (V5.out.keep b) (i := 5) (by simp) (.float .f32 (pick .f32 (fop .sub .f32 v5 v5) k5)))
  have F6 := Lib.hid ((F5.out.below (by omega) b).setCell ⟨w.heap.size + 1, 5, none⟩ (.float .f32 (pick .f32 (fop .sub .f32 v5 v5) k5)))
  have B6 := Lib.hid ((B5.out.trans (b.mono (by omega))).setCell (p := ⟨w.heap.size + 1, 5, none⟩) (by show _ ≤ w.heap.size + 1; omega) (.float .f32 (pick .f32 (fop .sub .f32 v5 v5) k5)))
  have z6 : w.heap.size + 1 < (u5.setCell ⟨w.heap.size + 1, 5, none⟩ (.float .f32 (pick .f32 (fop .sub .f32 v5 v5) k5))).heap.size := V6.out.lt
  clear b f l i5 V5 F5 B5
  generalize u5.setCell ⟨w.heap.size + 1, 5, none⟩ (.float .f32 (pick .f32 (fop .sub .f32 v5 v5) k5)) = w6 at *
  rw [rounds_succ]
  have f := F6.out 6
  go_wp2_with (refine upon_fop0 _ _ _ _ _ (by decide) ?_; intro k6 j6; have b := below_drewN (Below.refl w6.heap.size w6) j6; generalize w6.drewN j6 = u6 at b ⊢; have f := (F6.out.below (by omega) b) 6; have l := (V6.out.keep b).2 6 (by simp))
  have V7 : Hid (Var (u6.setCell ⟨w.heap.size + 1, 6, none⟩ (.float .f32 (pick .f32 (fop .sub .f32 v6 v6) k6))) (w.heap.size + 1) #[.float .f32 (pick .f32 (fop .sub .f32 v0 v0) k0), .float .f32 (pick .f32 (fop .sub .f32 v1 v1) k1), .float .f32 (pick .f32 (fop .sub .f32 v2 v2) k2), .float .f32 (pick .f32 (fop .sub .f32 v3 v3) k3), .float .f32 (pick .f32 (fop .sub .f32 v4 v4) k4), .float .f32 (pick .f32 (fop .sub .f32 v5 v5) k5), .float .f32 (pick .f32 (fop .sub .f32 v6 v6) k6), .float .f32 0, .float .f32 0]) := Lib.hid (var_setAt (V6.out.keep b) (i := 6) (by simp) (.float .f32 (pick .f32 (fop .sub .f32 v6 v6) k6)))
  have F7 := Lib.hid ((F6.out.below (by omega) b).setCell ⟨w.heap.size + 1, 6, none⟩ (.float .f32 (pick .f32 (fop .sub .f32 v6 v6) k6)))
  have B7 := Lib.hid ((B6.out.trans (b.mono (by omega))).setCell (p := ⟨w.heap.size + 1, 6, none⟩) (by show _ ≤ w.heap.size + 1; omega) (.float .f32 (pick .f32 (fop .sub .f32 v6 v6) k6)))
  have z7 : w.heap.size + 1 < (u6.setCell ⟨w.heap.size + 1, 6, none⟩ (.float .f32 (pick .f32 (fop .sub .f32 v6 v6) k6))).heap.size := V7.out.lt
  clear b f l i6 V6 F6 B6
  generalize u6.setCell ⟨w.heap.size + 1, 6, none⟩ (.float .f32 (pick .f32 (fop .sub .f32 v6 v6) k6)) = w7 at *
  rw [rounds_succ]
  have f := F7.out 7
  go_wp2_with (refine upon_fop0 _ _ _ _ _ (by decide) ?_; intro k7 j7; have b := below_drewN (Below.refl w7.heap.size w7) j7; generalize w7.drewN j7 = u7 at b ⊢; have f := (F7.out.below (by omega) b) 7; have l := (V7.out.keep b).2 7 (by simp))
  have V8 : Hid (Var (u7.setCell ⟨w.heap.size + 1, 7, none⟩ (.float .f32 (pick .f32 (fop .sub .f32 v7 v7) k7))) (w.heap.size + 1) #[.float .f32 (pick .f32 (fop .sub .f32 v0 v0) k0), .float .f32 (pick .f32 (fop .sub .f32 v1 v1) k1), .float .f32 (pick .f32 (fop .sub .f32 v2 v2) k2), .float .f32 (pick .f32 (fop .sub .f32 v3 v3) k3), .float .f32 (pick .f32 (fop .sub .f32 v4 v4) k4), .float .f32 (pick .f32 (fop .sub .f32 v5 v5) k5), .float .f32 (pick .f32 (fop .sub .f32 v6 v6) k6), .float .f32 (pick .f32 (fop .sub .f32 v7 v7) k7), .float .f32 0]) := Lib.hid (var_setAt (V7.out.keep b) (i := 7) (by simp) (.float .f32 (pick .f32 (fop .sub .f32 v7 v7) k7)))
  have F8 := Lib.hid ((F7.out.below (by omega) b).setCell ⟨w.heap.size + 1, 7, none⟩ (.float .f32 (pick .f32 (fop .sub .f32 v7 v7) k7)))
  have B8 := Lib.hid ((B7.out.trans (b.mono (by omega))).setCell (p := ⟨w.heap.size + 1, 7, none⟩) (by show _ ≤ w.heap.size + 1; omega) (.float .f32 (pick .f32 (fop .sub .f32 v7 v7) k7)))
  have z8 : w.heap.size + 1 < (u7.setCell ⟨w.heap.size + 1, 7, none⟩ (.float .f32 (pick .f32 (fop .sub .f32 v7 v7) k7))).heap.size := V8.out.lt
  clear b f l i7 V7 F7 B7
  generalize u7.setCell ⟨w.heap.size + 1, 7, none⟩ (.float .f32 (pick .f32 (fop .sub .f32 v7 v7) k7)) = w8 at *
  rw [rounds_succ]
  have f := F8.out 8
  go_wp2_with (refine upon_fop0 _ _ _ _ _ (by decide) ?_; intro k8 j8; have b := below_drewN (Below.refl w8.heap.size w8) j8; generalize w8.drewN j8 = u8 at b ⊢; have f := (F8.out.below (by omega) b) 8; have l := (V8.out.keep b).2 8 (by simp))
  have V9 : Hid (Var (u8.setCell ⟨w.heap.size + 1, 8, none⟩ (.float .f32 (pick .f32 (fop .sub .f32 v8 v8) k8))) (w.heap.size + 1) #[.float .f32 (pick .f32 (fop .sub .f32 v0 v0) k0), .float .f32 (pick .f32 (fop .sub .f32 v1 v1) k1), .float .f32 (pick .f32 (fop .sub .f32 v2 v2) k2), .float .f32 (pick .f32 (fop .sub .f32 v3 v3) k3), .float .f32 (pick .f32 (fop .sub .f32 v4 v4) k4), .float .f32 (pick .f32 (fop .sub .f32 v5 v5) k5), .float .f32 (pick .f32 (fop .sub .f32 v6 v6) k6), .float .f32 (pick .f32 (fop .sub .f32 v7 v7) k7), .float .f32 (pick .f32 (fop .sub .f32 v8 v8) k8)]) := Lib.hid (var_setAt (V8.out.keep b) (i := 8) (by simp) (.float .f32 (pick .f32 (fop .sub .f32 v8 v8) k8)))
  have F9 := Lib.hid ((F8.out.below (by omega) b).setCell ⟨w.heap.size + 1, 8, none⟩ (.float .f32 (pick .f32 (fop .sub .f32 v8 v8) k8)))
  have B9 := Lib.hid ((B8.out.trans (b.mono (by omega))).setCell (p := ⟨w.heap.size + 1, 8, none⟩) (by show _ ≤ w.heap.size + 1; omega) (.float .f32 (pick .f32 (fop .sub .f32 v8 v8) k8)))
  have z9 : w.heap.size + 1 < (u8.setCell ⟨w.heap.size + 1, 8, none⟩ (.float .f32 (pick .f32 (fop .sub .f32 v8 v8) k8))).heap.size := V9.out.lt
  clear b f l i8 V8 F8 B8
  generalize u8.setCell ⟨w.heap.size + 1, 8, none⟩ (.float .f32 (pick .f32 (fop .sub .f32 v8 v8) k8)) = w9 at *
  rw [rounds_succ]
  have l0 : w9.cell? ⟨w.heap.size + 1, 0, none⟩ = some (.float .f32 (pick .f32 (fop .sub .f32 v0 v0) k0)) := V9.out.2 0 (by simp)
  have l1 : w9.cell? ⟨w.heap.size + 1, 1, none⟩ = some (.float .f32 (pick .f32 (fop .sub .f32 v1 v1) k1)) := V9.out.2 1 (by simp)
  have l2 : w9.cell? ⟨w.heap.size + 1, 2, none⟩ = some (.float .f32 (pick .f32 (fop .sub .f32 v2 v2) k2)) := V9.out.2 2 (by simp)
  have l3 : w9.cell? ⟨w.heap.size + 1, 3, none⟩ = some (.float .f32 (pick .f32 (fop .sub .f32 v3 v3) k3)) := V9.out.2 3 (by simp)
  have l4 : w9.cell? ⟨w.heap.size + 1, 4, none⟩ = some (.float .f32 (pick .f32 (fop .sub .f32 v4 v4) k4)) := V9.out.2 4 (by simp)
  have l5 : w9.cell? ⟨w.heap.size + 1, 5, none⟩ = some (.float .f32 (pick .f32 (fop .sub .f32 v5 v5) k5)) := V9.out.2 5 (by simp)
  have l6 : w9.cell? ⟨w.heap.size + 1, 6, none⟩ = some (.float .f32 (pick .f32 (fop .sub .f32 v6 v6) k6)) := V9.out.2 6 (by simp)
  have l7 : w9.cell? ⟨w.heap.size + 1, 7, none⟩ = some (.float .f32 (pick .f32 (fop .sub .f32 v7 v7) k7)) := V9.out.2 7 (by simp)
  have l8 : w9.cell? ⟨w.heap.size + 1, 8, none⟩ = some (.float .f32 (pick .f32 (fop .sub .f32 v8 v8) k8)) := V9.out.2 8 (by simp)
  clear V9 F9
  have hq := fun w => eqMat (pick .f32 (fop .sub .f32 v0 v0) k0) (pick .f32 (fop .sub .f32 v1 v1) k1) (pick .f32 (fop .sub .f32 v2 v2) k2) (pick .f32 (fop .sub .f32 v3 v3) k3) (pick .f32 (fop .sub .f32 v4 v4) k4) (pick .f32 (fop .sub .f32 v5 v5) k5) (pick .f32 (fop .sub .f32 v6 v6) k6) (pick .f32 (fop .sub .f32 v7 v7) k7) (pick .f32 (fop .sub .f32 v8 v8) k8) w
  simp only [order_pick_l, sub_self_zero] at hq
  go_wp2_with fail
  go_ret
  exact ⟨rfl, B9.out⟩
/-! ### matrixOf -/
theorem c_matrixOf (zs : List Nat) (a : Option Addr) (c : Nat) (w : World) (hr : IsRowF .f32 w a zs.length c zs) : Calls Try.prog 96 #[.slice a zs.length c] w (fun e w' => ∃ (z : List Nat) (m : Nat → Nat), e = .returned (.tuple #[.agg #[.float .f32 (pick .f32 (fat z 0) (m 0)), .float .f32 (pick .f32 (fat z 1) (m 1)), .float .f32 (pick .f32 (fat z 2) (m 2)), .float .f32 (pick .f32 (fat z 3) (m 3)), .float .f32 (pick .f32 (fat z 4) (m 4)), .float .f32 (pick .f32 (fat z 5) (m 5)), .float .f32 (pick .f32 (fat z 6) (m 6)), .float .f32 (pick .f32 (fat z 7) (m 7)), .float .f32 (pick .f32 (fat z 8) (m 8))], .bool (matB zs)]) ∧ (matB zs = true → z = zs) ∧ Below w.heap.size w w') := by
  generalize hw0 : w.alloc (Obj.cells #[.float .f32 0, .float .f32 0, .float .f32 0, .float .f32 0, .float .f32 0, .float .f32 0, .float .f32 0, .float .f32 0, .float .f32 0] 108) = w0
  have X1 : Var w0 w.heap.size #[.float .f32 0, .float .f32 0, .float .f32 0, .float .f32 0, .float .f32 0, .float .f32 0, .float .f32 0, .float .f32 0, .float .f32 0] := by subst hw0; exact Var.new _ _ _
  have X2 : Free w0 w.heap.size := by subst hw0; exact Free.new _ _ _
  have X3 : Below w.heap.size w w0 := by subst hw0; exact (Below.refl _ _).alloc (Nat.le_refl _) _
  have sz : w0.heap.size = w.heap.size + 1 := by subst hw0; simp
  have HW := Lib.hid hw0
  have V0 := Lib.hid X1
  have F0 := Lib.hid X2
  have BB := Lib.hid X3
  have z0 : w.heap.size < w0.heap.size := X1.lt
  have R0 := Lib.hid (hr.below X3)
  have mA : zs.length ≤ maxLen := Nat.le_trans hr.2.1 hr.2.2.1
  unfold maxLen at mA
  clear hw0 hr
  by_cases h9 : zs.length = 9
  case neg =>
    have hm : matB zs = false := by unfold matB; rw [decide_eq_false h9]; rfl
    rw [hm]
    have h9' : ¬ ((zs.length : Int) = 9) := by omega
    have q0 : w0.cell? ⟨w.heap.size, 0, none⟩ = some (.float .f32 0) := X1.2 0 (by simp)
    have q1 : w0.cell? ⟨w.heap.size, 1, none⟩ = some (.float .f32 0) := X1.2 1 (by simp)
    have q2 : w0.cell? ⟨w.heap.size, 2, none⟩ = some (.float .f32 0) := X1.2 2 (by simp)
    have q3 : w0.cell? ⟨w.heap.size, 3, none⟩ = some (.float .f32 0) := X1.2 3 (by simp)
    have q4 : w0.cell? ⟨w.heap.size, 4, none⟩ = some (.float .f32 0) := X1.2 4 (by simp)
    have q5 : w0.cell? ⟨w.heap.size, 5, none⟩ = some (.float .f32 0) := X1.2 5 (by simp)
    have q6 : w0.cell? ⟨w.heap.size, 6, none⟩ = some (.float .f32 0) := X1.2 6 (by simp)
    have q7 : w0.cell? ⟨w.heap.size, 7, none⟩ = some (.float .f32 0) := X1.2 7 (by simp)
    have q8 : w0.cell? ⟨w.heap.size, 8, none⟩ = some (.float .f32 0) := X1.2 8 (by simp)
    have f0 := X2 0
    have f1 := X2 1
    have f2 := X2 2
    have f3 := X2 3
    have f4 := X2 4
    have f5 := X2 5
    have f6 := X2 6
    have f7 := X2 7
    have f8 := X2 8
    clear X1 X2 X3
    go_enter Try.func96, Try.ntmps96
    go_wp2_with fail
    rw [HW.out]
    go_wp2_with fail
    refine bodyPost_ret (v := .tuple #[.agg #[.float .f32 0, .float .f32 0, .float .f32 0, .float .f32 0, .float .f32 0, .float .f32 0, .float .f32 0, .float .f32 0, .float .f32 0], .bool false]) (by simp [results, Try.results96, q0, q1, q2, q3, q4, q5, q6, q7, q8, go_sem]) rfl ⟨List.replicate 9 0, fun _ => 0, by simp [fat, pick00], fun h => by simp at h, ?_⟩
    repeat (first | exact Below.refl _ _ | exact BB.out | exact Nat.le_refl _ | (refine Below.setCell ?_ ?_ _) | (refine below_drewN ?_ _) | (refine Below.alloc ?_ ?_ _) | (simp <;> omega))
  case pos =>
  obtain ⟨b, off, n0, rfl, hb, e0⟩ := R0.out.at (k := 0) (by omega)
  obtain ⟨b1, o1, n1, hab1, hb1, e1⟩ := R0.out.at (k := 1) (by omega)
  cases hab1
  obtain ⟨b2, o2, n2, hab2, hb2, e2⟩ := R0.out.at (k := 2) (by omega)
  cases hab2
  obtain ⟨b3, o3, n3, hab3, hb3, e3⟩ := R0.out.at (k := 3) (by omega)
  cases hab3
  obtain ⟨b4, o4, n4, hab4, hb4, e4⟩ := R0.out.at (k := 4) (by omega)
  cases hab4
  obtain ⟨b5, o5, n5, hab5, hb5, e5⟩ := R0.out.at (k := 5) (by omega)
  cases hab5
  obtain ⟨b6, o6, n6, hab6, hb6, e6⟩ := R0.out.at (k := 6) (by omega)
  cases hab6
  obtain ⟨b7, o7, n7, hab7, hb7, e7⟩ := R0.out.at (k := 7) (by omega)
  cases hab7
  obtain ⟨b8, o8, n8, hab8, hb8, e8⟩ := R0.out.at (k := 8) (by omega)
  cases hab8
  simp only [Nat.add_zero] at e0
  rw [← HW.out] at e0 e1 e2 e3 e4 e5 e6 e7 e8
  have HM := Lib.hid (show matB zs = fin9 zs by unfold matB; rw [decide_eq_true h9, Bool.true_and, fin9_eq h9])
  have CF := Lib.hid (fun (w : World) => (c_matFin9 (fat zs 0) (fat zs 1) (fat zs 2) (fat zs 3) (fat zs 4) (fat zs 5) (fat zs 6) (fat zs 7) (fat zs 8) n0 n1 n2 n3 n4 n5 n6 n7 n8 w : Calls Try.prog 125 #[.agg #[.float .f32 (pick .f32 (fat zs 0) n0), .float .f32 (pick .f32 (fat zs 1) n1), .float .f32 (pick .f32 (fat zs 2) n2), .float .f32 (pick .f32 (fat zs 3) n3), .float .f32 (pick .f32 (fat zs 4) n4), .float .f32 (pick .f32 (fat zs 5) n5), .float .f32 (pick .f32 (fat zs 6) n6), .float .f32 (pick .f32 (fat zs 7) n7), .float .f32 (pick .f32 (fat zs 8) n8)]] w (RetB (.bool (fin9 zs)) w)))
  have hc9 : 9 ≤ c := by have := R0.out.2.1; omega
  have hcm : c ≤ maxLen := R0.out.2.2.1
  unfold maxLen at hcm
  rw [h9]
  clear X1 X2 X3 h9
  have hat : ∀ w, (Instr.arrayAt 108 (.slice (some ⟨b, off, none⟩) 9 c)).run Try.prog w = .ok (.pointer (some ⟨b, off, none⟩)) w := fun w => by simp [Instr.arrayAt, run_underlying Try.underlying108]
  go_enter Try.func96, Try.ntmps96
  go_wp2_with fail
  rw [HW.out]
  clear HW hat hb hb1 hb2 hb3 hb4 hb5 hb6 hb7 hb8 e0 e1 e2 e3 e4 e5 e6 e7 e8
  generalize hw1 : w0.alloc (Obj.cells #[.float .f32 (pick .f32 (fat zs 0) n0), .float .f32 (pick .f32 (fat zs 1) n1), .float .f32 (pick .f32 (fat zs 2) n2), .float .f32 (pick .f32 (fat zs 3) n3), .float .f32 (pick .f32 (fat zs 4) n4), .float .f32 (pick .f32 (fat zs 5) n5), .float .f32 (pick .f32 (fat zs 6) n6), .float .f32 (pick .f32 (fat zs 7) n7), .float .f32 (pick .f32 (fat zs 8) n8)] 108) = w1
  have X1 : Var w1 (w.heap.size + 1) #[.float .f32 (pick .f32 (fat zs 0) n0), .float .f32 (pick .f32 (fat zs 1) n1), .float .f32 (pick .f32 (fat zs 2) n2), .float .f32 (pick .f32 (fat zs 3) n3), .float .f32 (pick .f32 (fat zs 4) n4), .float .f32 (pick .f32 (fat zs 5) n5), .float .f32 (pick .f32 (fat zs 6) n6), .float .f32 (pick .f32 (fat zs 7) n7), .float .f32 (pick .f32 (fat zs 8) n8)] := by subst hw1; exact Var.new' _ _ _ _ sz.symm
  have X3 : Below w0.heap.size w0 w1 := by subst hw1; exact (Below.refl _ _).alloc (Nat.le_refl _) _
  have V1 := Lib.hid (V0.out.keep X3)
  have F1 := Lib.hid (F0.out.below z0 X3)
  have B1 := Lib.hid (BB.out.trans (X3.mono (by omega)))
  have z1 : w0.heap.size < w1.heap.size := by rw [sz]; exact X1.lt
  have U1 := Lib.hid X1
  clear hw1 X1 X3
  have KS := Lib.hid (fun (w' : World) (hE : Below w1.heap.size w1 w') => (⟨(U1.out.keep hE).2 0 (by simp), (U1.out.keep hE).2 1 (by simp), (U1.out.keep hE).2 2 (by simp), (U1.out.keep hE).2 3 (by simp), (U1.out.keep hE).2 4 (by simp), (U1.out.keep hE).2 5 (by simp), (U1.out.keep hE).2 6 (by simp), (U1.out.keep hE).2 7 (by simp), (U1.out.keep hE).2 8 (by simp)⟩ : w'.cell? ⟨w.heap.size + 1, 0, none⟩ = some (.float .f32 (pick .f32 (fat zs 0) n0)) ∧ w'.cell? ⟨w.heap.size + 1, 1, none⟩ = some (.float .f32 (pick .f32 (fat zs 1) n1)) ∧ w'.cell? ⟨w.heap.size + 1, 2, none⟩ = some (.float .f32 (pick .f32 (fat zs 2) n2)) ∧ w'.cell? ⟨w.heap.size + 1, 3, none⟩ = some (.float .f32 (pick .f32 (fat zs 3) n3)) ∧ w'.cell? ⟨w.heap.size + 1, 4, none⟩ = some (.float .f32 (pick .f32 (fat zs 4) n4)) ∧ w'.cell? ⟨w.heap.size + 1, 5, none⟩ = some (.float .f32 (pick .f32 (fat zs 5) n5)) ∧ w'.cell? ⟨w.heap.size + 1, 6, none⟩ = some (.float .f32 (pick .f32 (fat zs 6) n6)) ∧ w'.cell? ⟨w.heap.size + 1, 7, none⟩ = some (.float .f32 (pick .f32 (fat zs 7) n7)) ∧ w'.cell? ⟨w.heap.size + 1, 8, none⟩ = some (.float .f32 (pick .f32 (fat zs 8) n8))))
  refine wp_region_facts 3 (fun a b => Below a.heap.size a b) (fun _ => Below.refl _ _) (fun _ _ _ h h' => h.trans (h'.mono h.size)) (Below.refl _ _).drew (by kernel_rfl) (by kernel_rfl) (by kernel_rfl) (by kernel_rfl) ?_
  simp only [List.take_succ_cons, List.take_zero, List.drop_succ_cons, List.drop_zero]
  (with_reducible apply wpF_val); (focus (intro vs w' hE hk; (obtain ⟨d0, d1, d2, d3, d4, d5, d6, d7, d8⟩ := KS.out w' hE); go_simp; exact ⟨Below.refl _ _, rfl⟩)); (simp only [Act.put, List.setIfInBounds_toArray, List.set_cons_zero, List.set_cons_succ, List.cons_append, List.nil_append])
  (with_reducible apply wpF_val); (focus (intro vs w' hE hk; (obtain ⟨d0, d1, d2, d3, d4, d5, d6, d7, d8⟩ := KS.out w' hE); go_simp; exact ⟨Below.refl _ _, rfl⟩)); (simp only [Act.put, List.setIfInBounds_toArray, List.set_cons_zero, List.set_cons_succ, List.cons_append, List.nil_append])
  (with_reducible apply wpF_val); (focus (intro vs w' hE hk; (obtain ⟨d0, d1, d2, d3, d4, d5, d6, d7, d8⟩ := KS.out w' hE); go_simp; refine (CF.out _).mono ?_; rintro _ w9 ⟨rfl, b⟩; exact ⟨_, rfl, b, rfl⟩)); (simp only [Act.put, List.setIfInBounds_toArray, List.set_cons_zero, List.set_cons_succ, List.cons_append, List.nil_append])
  refine wpF_nil (fun vs w' hE hk => ?_)
  have V2 := Lib.hid (V1.out.keep hE)
  have F2 := Lib.hid (F1.out.below (by omega) hE)
  have B2 := Lib.hid (B1.out.trans (hE.mono (by omega)))
  have z2 : w1.heap.size ≤ w'.heap.size := hE.size
  clear hE hk
  have q0 : w'.cell? ⟨w.heap.size, 0, none⟩ = some (.float .f32 0) := V2.out.2 0 (by simp)
  have q1 : w'.cell? ⟨w.heap.size, 1, none⟩ = some (.float .f32 0) := V2.out.2 1 (by simp)
  have q2 : w'.cell? ⟨w.heap.size, 2, none⟩ = some (.float .f32 0) := V2.out.2 2 (by simp)
  have q3 : w'.cell? ⟨w.heap.size, 3, none⟩ = some (.float .f32 0) := V2.out.2 3 (by simp)
  have q4 : w'.cell? ⟨w.heap.size, 4, none⟩ = some (.float .f32 0) := V2.out.2 4 (by simp)
  have q5 : w'.cell? ⟨w.heap.size, 5, none⟩ = some (.float .f32 0) := V2.out.2 5 (by simp)
  have q6 : w'.cell? ⟨w.heap.size, 6, none⟩ = some (.float .f32 0) := V2.out.2 6 (by simp)
  have q7 : w'.cell? ⟨w.heap.size, 7, none⟩ = some (.float .f32 0) := V2.out.2 7 (by simp)
  have q8 : w'.cell? ⟨w.heap.size, 8, none⟩ = some (.float .f32 0) := V2.out.2 8 (by simp)
  have f0 := F2.out 0
  have f1 := F2.out 1
  have f2 := F2.out 2
  have f3 := F2.out 3
  have f4 := F2.out 4
  have f5 := F2.out 5
  have f6 := F2.out 6
  have f7 := F2.out 7
  have f8 := F2.out 8
  go_wp2_with fail
  refine bodyPost_ret (v := .tuple #[.agg #[.float .f32 (pick .f32 (fat zs 0) n0), .float .f32 (pick .f32 (fat zs 1) n1), .float .f32 (pick .f32 (fat zs 2) n2), .float .f32 (pick .f32 (fat zs 3) n3), .float .f32 (pick .f32 (fat zs 4) n4), .float .f32 (pick .f32 (fat zs 5) n5), .float .f32 (pick .f32 (fat zs 6) n6), .float .f32 (pick .f32 (fat zs 7) n7), .float .f32 (pick .f32 (fat zs 8) n8)], .bool (fin9 zs)]) (by simp [results, fin9, Try.results96, q0, q1, q2, q3, q4, q5, q6, q7, q8, go_sem]) rfl ⟨zs, (fun i => ([n0, n1, n2, n3, n4, n5, n6, n7, n8] : List Nat).getD i 0), by rw [HM.out]; rfl, fun _ => rfl, (((((((((B2.out.setCell (Nat.le_refl _) _).setCell (Nat.le_refl _) _).setCell (Nat.le_refl _) _).setCell (Nat.le_refl _) _).setCell (Nat.le_refl _) _).setCell (Nat.le_refl _) _).setCell (Nat.le_refl _) _).setCell (Nat.le_refl _) _).setCell (Nat.le_refl _) _)⟩

/-! ### iDotNumbers -/
theorem c_iDot_no (a b : Option Addr) (len c len2 d : Nat) (w : World) (j0 : Nat) (h : 256 < len ∨ len ≠ len2) : Calls Try.prog 97 #[.slice a len c, .slice b len2 d] (w.drewN j0) (RetV (.tuple #[.float .f32 0, .bool false]) w) := by
  by_cases h1 : len ≠ len2
  · have he : ((len : Int) != (len2 : Int)) = true := by rw [bne_iff_ne]; omega
    clear h
    go_enter Try.func97, Try.ntmps97
    go_wp2
    go_ret2
    exact ⟨_, rfl, rfl⟩
  · obtain rfl : len = len2 := by omega
    have h2 : 256 < len := by omega
    clear h h1
    go_enter Try.func97, Try.ntmps97
    go_wp2
    go_ret2
    exact ⟨_, rfl, rfl⟩
theorem c_iDot_yes (a b : Option Addr) (len c d : Nat) (xs ys : List Nat) (w : World) (j0 : Nat) (hr : IsRowF .f32 w a len c xs) (hs : IsRowF .f32 w b len d ys) (h : len ≤ 256) : Calls Try.prog 97 #[.slice a len c, .slice b len d] (w.drewN j0) (RetFB .f32 (dotF .f32 0 xs ys) w) := by
  obtain ⟨h1, h2, h3, h4, h5⟩ := hr
  obtain ⟨g1, g2, g3, g4, g5⟩ := hs
  unfold maxLen at h3
  have G1 := Lib.hid g1
  have H1 := Lib.hid h1
  clear g1 h1
  go_enter Try.func97, Try.ntmps97
  go_wp2
  go_loopw [6, 21] (fun s i wr => ∃ k n m : Nat, k ≤ len ∧ i = .int .i64 k ∧ s = .float .f32 (pick .f32 (dotF .f32 0 (xs.take k) (ys.take k)) n) ∧ wr = w.drewN m) (fun _ i _ => len - (intOf i).toNat)
  case atStart => exact ⟨0, 0, j0, Nat.zero_le _, rfl, rfl, rfl⟩
  case round =>
    obtain ⟨k, n, m, hk, rfl, rfl, rfl⟩ := hrel
    by_cases hlt : k < len
    · rcases h5 with h5 | ⟨x, off, rfl, hbl, hc⟩
      · omega
      rcases g5 with g5 | ⟨y, off2, rfl, gbl, gc⟩
      · omega
      have hcell : w.cell? ⟨x, off + k, none⟩ = some (.float .f32 (fat xs k)) := hc k hlt
      have gcell : w.cell? ⟨y, off2 + k, none⟩ = some (.float .f32 (fat ys k)) := gc k hlt
      have HS := Lib.hid (dotF_snoc .f32 xs ys 0 k (by have := H1.out; omega) (by have := G1.out; omega))
      clear hc h4 gc g4
      go_wp2_with (refine wpList_fop rfl _ _ _ _ _ rfl _ _ _ rfl rfl (by decide) _ ?_; intro _ _)
      go_roundw
      case rel => exact ⟨k + 1, _, _, by omega, by go_num, by rw [HS.out], rfl⟩
      case measure => simp [intOf]; omega
    · have e : xs.take k = xs := List.take_of_length_le (by have := H1.out; omega)
      have e2 : ys.take k = ys := List.take_of_length_le (by have := G1.out; omega)
      rw [e, e2]
      clear h5 h4 g5 g4 e e2
      go_wp2
      go_ret2
      exact ⟨_, _, rfl, rfl⟩
/-! ### IsNaN -/
theorem c_IsNaN (v n : Nat) (w : World) (j : Nat) : Calls Try.prog 131 #[.float .f64 (pick .f64 v n)] (w.drewN j) (RetV (.bool (isN .f64 v)) w) := by
  go_enter Try.func131, Try.ntmps131
  go_wp2
  go_ret
  exact ⟨_, rfl, rfl⟩
/-! ### f64bits -/
@[go_sem] theorem e_f64bits (b : Nat) (w : World) : (callFunc 135 #[.float .f64 b]).run Try.prog w = .ok (.value (.int .u64 b)) w := by kernel_rfl
/-! ### f64from -/
@[go_sem] theorem e_f64from (n : Int) (w : World) : (callFunc 134 #[.int .u64 n]).run Try.prog w = .ok (.value (.float .f64 n.toNat)) w := by kernel_rfl
/-! ### Abs -/
theorem c_Abs (v n : Nat) (w : World) (j : Nat) (hv : v < 2 ^ FloatKind.f64.format.width) : Calls Try.prog 133 #[.float .f64 (pick .f64 v n)] (w.drewN j) (RetF .f64 (fabs .f64 v) w) := by
  have hb := abs_bits hv n
  go_enter Try.func133, Try.ntmps133
  go_wp2
  go_ret
  exact ⟨_, _, rfl, rfl⟩
/-! ### IsInf0 -/
theorem c_IsInf0 (v n : Nat) (w : World) (j : Nat) (hv : v < 2 ^ FloatKind.f64.format.width) : Calls Try.prog 132 #[.float .f64 (pick .f64 v n), .int .i64 0] (w.drewN j) (RetV (.bool (FloatKind.f64.format.order (fabs .f64 v) 9218868437227405311 == some .gt)) w) := by
  go_enter Try.func132, Try.ntmps132
  go_wp2_with ((go_at_call 133; refine (c_Abs _ _ _ _ hv).mono ?_; rintro _ _ ⟨_, _, rfl, rfl⟩))
  go_ret
  exact ⟨_, rfl, rfl⟩
/-! ### isFinite64 -/
theorem c_isFinite64 (v n : Nat) (w : World) (j : Nat) (hv : v < 2 ^ FloatKind.f64.format.width) : Calls Try.prog 129 #[.float .f64 (pick .f64 v n)] (w.drewN j) (RetV (.bool (finB .f64 v)) w) := by
  go_enter Try.func129, Try.ntmps129
  go_wp2_with (first | (go_at_call 131; refine (c_IsNaN _ _ _ _).mono ?_; rintro _ _ ⟨_, rfl, rfl⟩) | (go_at_call 132; refine (c_IsInf0 _ _ _ _ hv).mono ?_; rintro _ _ ⟨_, rfl, rfl⟩))
  all_goals
    go_ret
    refine ⟨_, ?_, rfl⟩
    rw [← abs_gt_max]
    simp [*]
/-! ### iIsFinite -/
theorem c_iIsFinite (v n : Nat) (w : World) (j : Nat) : Calls Try.prog 115 #[.float .f32 (pick .f32 v n)] (w.drewN j) (RetV (.bool (finB .f32 v)) w) := by
  go_enter Try.func115, Try.ntmps115
  go_wp2_with (first | (refine wpList_cvU rfl 38 42 _ rfl (Option.isSome_iff_exists.2 ⟨_, Try.underlying38⟩) Try.underlying42 _ rfl _ ?_; intro _ _) | (go_at_call 129; refine (c_isFinite64 _ _ _ _ (cvU_lt _)).mono ?_; rintro _ _ ⟨_, rfl, rfl⟩))
  go_ret
  rw [← finB_cvU]
  exact ⟨_, rfl, rfl⟩
/-! ### areFinite -/
theorem c_areFinite (a : Option Addr) (len cap : Nat) (zs : List Nat) (w : World) (j0 : Nat) (hr : IsRowF .f32 w a len cap zs) : Calls Try.prog 98 #[.slice a len cap] (w.drewN j0) (RetV (.bool (finL zs)) w) := by
  obtain ⟨h1, h2, h3, h4, h5⟩ := hr
  unfold maxLen at h3
  have H1 := Lib.hid h1
  clear h1
  go_enter Try.func98, Try.ntmps98
  go_wp2
  go_loopw [4, 7] (fun _ i wr => ∃ k m : Nat, k ≤ len ∧ i = .int .i64 k ∧ wr = w.drewN m ∧ finL (zs.take k) = true) (fun _ i _ => len - (intOf i).toNat)
  case atStart => exact ⟨0, j0, Nat.zero_le _, rfl, rfl, rfl⟩
  case round =>
    obtain ⟨k, m, hk, rfl, rfl, hfin⟩ := hrel
    have HFin := Lib.hid hfin
    clear hfin
    by_cases hlt : k < len
    · rcases h5 with h5 | ⟨b, off, rfl, hbl, hc⟩
      · omega
      have hcell : w.cell? ⟨b, off + k, none⟩ = some (.float .f32 (fat zs k)) := hc k hlt
      obtain ⟨n, hn⟩ := pick0 .f32 (fat zs k) (lt_of_wf (h4 _ (by unfold fat; rw [List.getD, List.getElem?_eq_getElem (by have := H1.out; omega)]; exact List.getElem_mem _)))
      rw [hn] at hcell
      have HS := Lib.hid (finL_snoc zs k (by have := H1.out; omega))
      cases hf : finB .f32 (fat zs k)
      · have HO := Lib.hid (finL_of zs k (by have := H1.out; omega) hf)
        clear hc h4 hn
        go_wp2_with ((go_at_call 115; refine (c_iIsFinite _ _ _ _).mono ?_; rintro _ _ ⟨_, rfl, rfl⟩))
        go_ret
        exact ⟨_, by rw [HO.out]; rfl, rfl⟩
      · have HF := Lib.hid hf
        clear hc h4 hn
        go_wp2_with ((go_at_call 115; refine (c_iIsFinite _ _ _ _).mono ?_; rintro _ _ ⟨_, rfl, rfl⟩))
        go_roundw
        case rel => exact ⟨k + 1, _, by omega, by go_num, rfl, by rw [HS.out, HFin.out, HF.out]; rfl⟩
        case measure => simp [intOf]; omega
    · have e : zs.take k = zs := List.take_of_length_le (by have := H1.out; omega)
      have HE := Lib.hid e
      clear h5 h4 e
      go_wp2
      go_ret
      exact ⟨_, by have h := HFin.out; rw [HE.out] at h; rw [h]; rfl, rfl⟩
/-! ### areFinN -/
theorem c_areFinW (a : Option Addr) (len cap : Nat) (zs : List Nat) (w : World) (hr : IsRowF .f32 w a len cap zs) : Calls Try.prog 98 #[.slice a len cap] w (RetV (.bool (finL zs)) w) := by
  have h := c_areFinite a len cap zs w 0 hr
  rwa [w.drewN_zero] at h
theorem row_new (w : World) (b : Nat) (vs : List Nat) (T : TypeId) (hb : b = w.heap.size) (hl : vs.length ≤ 1000) (hwf : ∀ x ∈ vs, (Lit.float .f32 x).wf = true) : IsRowF .f32 (w.alloc (.cells (fl .f32 vs).toArray T)) (some ⟨b, 0, none⟩) vs.length vs.length vs := by
  subst hb
  exact rowF_of_block (heap_alloc_new w _) (by unfold maxLen; omega) hwf

/-! ### iBandPowers -/
theorem c_iBandPowers (zs : List Nat) (a : Option Addr) (c : Nat) (w : World) (hr : IsRowF .f32 w a zs.length c zs) : Calls Try.prog 45 #[.slice a zs.length c] w (RetL 38 (bpowR zs) w) := by
  have CM := Lib.hid (c_matrixOf zs a c w hr)
  have RAw := hr.2.2.2.1
  obtain ⟨res, hres⟩ : ∃ q, q = bpowR zs := ⟨_, rfl⟩
  rw [← hres]
  unfold bpowR at hres
  obtain ⟨i0, hinf, hz0, hz1, hz2⟩ := info_parts infoFo
  cases hm : matB zs
  all_goals rw [hm] at CM hres
  · have RES := Lib.hid (show res = ([], false) from hres)
    clear hres hm hr RAw
    go_enter Try.func45, Try.ntmps45
    go_wp2_with fail
    refine CM.out.mono ?_
    rintro _ w1 ⟨z, m, rfl, _, b⟩
    have B1 := Lib.hid b
    clear b
    go_wp2_with fail
    go_ret2
    rw [RES.out]
    exact RetL.no rfl (B1.out.alloc B1.out.size _)
  have h9 : zs.length = 9 := by unfold matB at hm; simp only [Bool.and_eq_true, decide_eq_true_eq] at hm; exact hm.1
  have hfin : finL zs = true := by unfold matB at hm; simp only [Bool.and_eq_true, decide_eq_true_eq] at hm; exact hm.2
  obtain ⟨z0, z1, z2, z3, z4, z5, z6, z7, z8, rfl⟩ := nine_of h9
  have hF : finB .f32 z0 = true ∧ finB .f32 z1 = true ∧ finB .f32 z2 = true ∧ finB .f32 z3 = true ∧ finB .f32 z4 = true ∧ finB .f32 z5 = true ∧ finB .f32 z6 = true ∧ finB .f32 z7 = true ∧ finB .f32 z8 = true := by unfold finL at hfin; simpa [and_assoc] using hfin
  obtain ⟨f0, f1, f2, f3, f4, f5, f6, f7, f8⟩ := hF
  have HWf := Lib.hid RAw
  have RES := Lib.hid (show res = listR [fop .mul .f32 z0 z0, dotF .f32 0 [z1, z2, z3] [z1, z2, z3], dotF .f32 0 [z4, z5, z6, z7, z8] [z4, z5, z6, z7, z8]] from hres)
  have HSq := Lib.hid (show dotF .f32 0 [z0] [z0] = fop .mul .f32 z0 z0 from add0_sq f0)
  have HP := Lib.hid (fop_lt .mul .f32 z0 z0)
  have HD1 := Lib.hid (dot_lt [z1, z2, z3] [z1, z2, z3] 0 (Nat.two_pow_pos _))
  have HD2 := Lib.hid (dot_lt [z4, z5, z6, z7, z8] [z4, z5, z6, z7, z8] 0 (Nat.two_pow_pos _))
  have p0 := Lib.hid (fun j => (pick_not (fin_notN f0) j : pick .f32 z0 j = z0))
  have p1 := Lib.hid (fun j => (pick_not (fin_notN f1) j : pick .f32 z1 j = z1))
  have p2 := Lib.hid (fun j => (pick_not (fin_notN f2) j : pick .f32 z2 j = z2))
  have p3 := Lib.hid (fun j => (pick_not (fin_notN f3) j : pick .f32 z3 j = z3))
  have p4 := Lib.hid (fun j => (pick_not (fin_notN f4) j : pick .f32 z4 j = z4))
  have p5 := Lib.hid (fun j => (pick_not (fin_notN f5) j : pick .f32 z5 j = z5))
  have p6 := Lib.hid (fun j => (pick_not (fin_notN f6) j : pick .f32 z6 j = z6))
  have p7 := Lib.hid (fun j => (pick_not (fin_notN f7) j : pick .f32 z7 j = z7))
  have p8 := Lib.hid (fun j => (pick_not (fin_notN f8) j : pick .f32 z8 j = z8))
  clear hres hm hr h9 hfin RAw f0 f1 f2 f3 f4 f5 f6 f7 f8
  go_enter Try.func45, Try.ntmps45
  go_wp2_with fail
  refine CM.out.mono ?_
  rintro _ w1 ⟨z, m, rfl, hz, b⟩
  obtain rfl := hz (by first | rfl | trivial)
  rw [show pick .f32 (fat [z0, z1, z2, z3, z4, z5, z6, z7, z8] 0) (m 0) = z0 from p0.out _, show pick .f32 (fat [z0, z1, z2, z3, z4, z5, z6, z7, z8] 1) (m 1) = z1 from p1.out _, show pick .f32 (fat [z0, z1, z2, z3, z4, z5, z6, z7, z8] 2) (m 2) = z2 from p2.out _, show pick .f32 (fat [z0, z1, z2, z3, z4, z5, z6, z7, z8] 3) (m 3) = z3 from p3.out _, show pick .f32 (fat [z0, z1, z2, z3, z4, z5, z6, z7, z8] 4) (m 4) = z4 from p4.out _, show pick .f32 (fat [z0, z1, z2, z3, z4, z5, z6, z7, z8] 5) (m 5) = z5 from p5.out _, show pick .f32 (fat [z0, z1, z2, z3, z4, z5, z6, z7, z8] 6) (m 6) = z6 from p6.out _, show pick .f32 (fat [z0, z1, z2, z3, z4, z5, z6, z7, z8] 7) (m 7) = z7 from p7.out _, show pick .f32 (fat [z0, z1, z2, z3, z4, z5, z6, z7, z8] 8) (m 8) = z8 from p8.out _]
  have B1 := Lib.hid b
  clear b hz CM p0 p1 p2 p3 p4 p5 p6 p7 p8
  go_upto_region 5 with fail
  generalize hw2 : w1.alloc (Obj.cells #[.float .f32 z0, .float .f32 z1, .float .f32 z2, .float .f32 z3, .float .f32 z4, .float .f32 z5, .float .f32 z6, .float .f32 z7, .float .f32 z8] 108) = w2
  have R9 : IsRowF .f32 w2 (some ⟨w1.heap.size, 0, none⟩) 9 9 [z0, z1, z2, z3, z4, z5, z6, z7, z8] := by subst hw2; exact row_new w1 _ [z0, z1, z2, z3, z4, z5, z6, z7, z8] _ rfl (by simp) HWf.out
  have B2 := Lib.hid (show Below w.heap.size w w2 from by subst hw2; exact B1.out.alloc B1.out.size _)
  have zb : w1.heap.size < w2.heap.size := by subst hw2; simp
  have R1 := Lib.hid (show IsRowF .f32 w2 (some ⟨w1.heap.size, 0, none⟩) 1 9 [z0] from IsRowF.part R9 (lo := 0) (n := 1) (by decide) (by decide))
  have R2 := Lib.hid (show IsRowF .f32 w2 (some ⟨w1.heap.size, 1, none⟩) 3 8 [z1, z2, z3] from IsRowF.part R9 (lo := 1) (n := 3) (by decide) (by decide))
  have R3 := Lib.hid (show IsRowF .f32 w2 (some ⟨w1.heap.size, 4, none⟩) 5 5 [z4, z5, z6, z7, z8] from IsRowF.part R9 (lo := 4) (n := 5) (by decide) (by decide))
  have z12 : w.heap.size ≤ w2.heap.size := B2.out.size
  obtain ⟨q, hq⟩ : ∃ q, q = w1.heap.size := ⟨_, rfl⟩
  rw [← hq] at R1 R2 R3 zb ⊢
  clear hw2 R9 B1 hq HWf
  have CD1 := Lib.hid (fun (w' : World) (hE : Below w2.heap.size w2 w') => (by have h := c_iDot_yes _ _ 1 9 9 [z0] [z0] w' 0 (R1.out.below hE) (R1.out.below hE) (by decide); rw [w'.drewN_zero] at h; rwa [HSq.out] at h : Calls Try.prog 97 #[.slice (some ⟨q, 0, none⟩) 1 9, .slice (some ⟨q, 0, none⟩) 1 9] w' (RetFB .f32 (fop .mul .f32 z0 z0) w')))
  have CD2 := Lib.hid (fun (w' : World) (hE : Below w2.heap.size w2 w') => (by have h := c_iDot_yes _ _ 3 8 8 [z1, z2, z3] [z1, z2, z3] w' 0 (R2.out.below hE) (R2.out.below hE) (by decide); rwa [w'.drewN_zero] at h : Calls Try.prog 97 #[.slice (some ⟨q, 1, none⟩) 3 8, .slice (some ⟨q, 1, none⟩) 3 8] w' (RetFB .f32 (dotF .f32 0 [z1, z2, z3] [z1, z2, z3]) w')))
  have CD3 := Lib.hid (fun (w' : World) (hE : Below w2.heap.size w2 w') => (by have h := c_iDot_yes _ _ 5 5 5 [z4, z5, z6, z7, z8] [z4, z5, z6, z7, z8] w' 0 (R3.out.below hE) (R3.out.below hE) (by decide); rwa [w'.drewN_zero] at h : Calls Try.prog 97 #[.slice (some ⟨q, 4, none⟩) 5 5, .slice (some ⟨q, 4, none⟩) 5 5] w' (RetFB .f32 (dotF .f32 0 [z4, z5, z6, z7, z8] [z4, z5, z6, z7, z8]) w')))
  generalize fop .mul .f32 z0 z0 = v0 at *
  generalize dotF .f32 0 [z1, z2, z3] [z1, z2, z3] = v1 at *
  generalize dotF .f32 0 [z4, z5, z6, z7, z8] [z4, z5, z6, z7, z8] = v2 at *
  clear HSq R1 R2 R3
  refine wp_region_facts 6 (fun a b => Below a.heap.size a b) (fun _ => Below.refl _ _) (fun _ _ _ h h' => h.trans (h'.mono h.size)) (Below.refl _ _).drew (by kernel_rfl) (by kernel_rfl) (by kernel_rfl) (by kernel_rfl) ?_
  simp only [List.take_succ_cons, List.take_zero, List.drop_succ_cons, List.drop_zero]
  (with_reducible apply wpF_val); (focus (intro vs w' hE hk; go_simp; exact ⟨Below.refl _ _, rfl⟩)); (simp only [Act.put, List.setIfInBounds_toArray, List.set_cons_zero, List.set_cons_succ, List.cons_append, List.nil_append])
  (with_reducible apply wpF_val); (focus (intro vs w' hE hk; go_simp; exact ⟨Below.refl _ _, rfl⟩)); (simp only [Act.put, List.setIfInBounds_toArray, List.set_cons_zero, List.set_cons_succ, List.cons_append, List.nil_append])
  (with_reducible apply wpF_val); (focus (intro vs w' hE hk; go_simp; exact ⟨Below.refl _ _, rfl⟩)); (simp only [Act.put, List.setIfInBounds_toArray, List.set_cons_zero, List.set_cons_succ, List.cons_append, List.nil_append])
  refine wpF_fact (fun u wx => ∃ g, u = .slice (some ⟨g, 0, none⟩) 3 3 ∧ w2.heap.size ≤ g ∧ Var wx g #[.slice (some ⟨q, 0, none⟩) 1 9, .slice (some ⟨q, 1, none⟩) 3 8, .slice (some ⟨q, 4, none⟩) 5 5]) (fun u wa wb h hE => by obtain ⟨g, h1, h2, h3⟩ := h; exact ⟨g, h1, h2, h3.keep hE⟩) (fun vs w' hE hk => ?_) ?_; (focus (go_simp; exact ⟨(Below.refl _ _).alloc (Nat.le_refl _) _, _, rfl, hE.size, Var.new _ _ _⟩)); (simp only [Act.put, List.setIfInBounds_toArray, List.set_cons_zero, List.set_cons_succ, List.cons_append, List.nil_append])
  (with_reducible apply wpF_val); (focus (intro vs w' hE hk; obtain ⟨g, h3, _, _⟩ := hk 3 (by kernel_rfl); simp only [h3]; go_simp; exact ⟨Below.refl _ _, rfl⟩)); (simp only [Act.put, List.setIfInBounds_toArray, List.set_cons_zero, List.set_cons_succ, List.cons_append, List.nil_append])
  (with_reducible apply wpF_val); (focus (intro vs w' hE hk; go_simp; exact ⟨Below.refl _ _, rfl⟩)); (simp only [Act.put, List.setIfInBounds_toArray, List.set_cons_zero, List.set_cons_succ, List.cons_append, List.nil_append])
  refine wpF_nil (fun vs w3 hE hk => ?_)
  obtain ⟨g, h3, hg, V3⟩ := hk 3
  simp only [h3]
  have HB3 := Lib.hid hE
  have B3 := Lib.hid (B2.out.trans (hE.mono z12))
  have HV3 := Lib.hid V3
  have zg : g < w3.heap.size := V3.lt
  have z23 : w2.heap.size ≤ w3.heap.size := hE.size
  obtain ⟨L, hL⟩ : ∃ L, L = [v0, v1, v2] := ⟨_, rfl⟩
  have HLen := Lib.hid (show L.length = 3 by rw [hL]; rfl)
  have L0 := Lib.hid (show fat L 0 = v0 by rw [hL]; rfl)
  have L1 := Lib.hid (show fat L 1 = v1 by rw [hL]; rfl)
  have L2 := Lib.hid (show fat L 2 = v2 by rw [hL]; rfl)
  rw [← hL] at RES
  clear hE hk h3 V3 hL B2
  go_wp2_with fail
  go_loopw [6, 8, 9, 10, 23] (fun l _ _ _ i wr => ∃ (k : Nat) (a : Option Addr) (c : Nat) (zs : List Nat), k ≤ 3 ∧ i = .int .i64 k ∧ l = .slice a k c ∧ Own 38 wr w3.heap.size a k c zs ∧ near zs (L.take k) ∧ Below w3.heap.size w3 wr) (fun _ _ _ _ i _ => 3 - (intOf i).toNat)
  case atStart => exact ⟨0, none, 0, [], Nat.zero_le _, rfl, rfl, Own.nil _ _ _, by simpa using near_nil, Below.refl _ _⟩
  case round =>
    obtain ⟨k, a, c, zs, hk, rfl, rfl, hO, hnear, hB⟩ := hrel
    have HO := Lib.hid hO
    have HN := Lib.hid hnear
    have HB := Lib.hid hB
    have zr : w3.heap.size ≤ wr.heap.size := hB.size
    clear hO hnear hB
    by_cases hlt : k < 3
    · obtain ⟨g0, g1, g2⟩ := (HV3.out.keep HB.out).three
      have hk3 : k = 0 ∨ k = 1 ∨ k = 2 := by omega
      rcases hk3 with rfl | rfl | rfl
      · go_wp2_with fail
        refine (CD1.out wr (HB3.out.trans (HB.out.mono z23))).mono ?_
        rintro _ _ ⟨n5, m5, rfl, rfl⟩
        have b5 := below_drewN (Below.refl wr.heap.size wr) m5
        generalize wr.drewN m5 = w5 at b5 ⊢
        have HO5 := Lib.hid (HO.out.below b5)
        have HB5 := Lib.hid (HB.out.trans (b5.mono zr))
        have z5 : w3.heap.size ≤ w5.heap.size := HB5.out.size
        clear b5 g0 g1 g2
        go_wp2_with (at_builtin; refine wpList_append_own _ rfl _ _ 22 rfl w3.heap.size 38 i0 (.float .f32 0) 1 4 Try.underlying22 hinf hz0 hz1 hz2 rfl (by decide) _ _ _ rfl ((HO5.out.alloc _).2.1) ⟨w5.heap.size, 0, none⟩ 1 1 [.float .f32 (pick .f32 (v0) n5)] rfl rfl ?c1 ?c2 ?c3 ?c4 ?c5 ?_)
        case c1 =>
          intro j u hj
          match j, hj with
          | 0, hj => simp at hj; subst hj; simp [Addr.add]
        case c2 => intro u hu; simp at hu; subst hu; rfl
        case c3 => unfold maxLen; omega
        case c4 => omega
        case c5 => simp; omega
        intro v' w6 hown' hgrow _
        have hB6 : Below w3.heap.size w3 w6 := (HB5.out.alloc z5 _).grown hgrow (by simp; omega) (fun g e => by have := HO5.out.in g (by rw [← own_blk _ 0 c]; exact e); exact this.1)
        obtain ⟨a', c', rfl, hO6⟩ := own_app hown' HO5.out.1 HO5.out.2.2 (pick_wf HP.out n5)
        have HO6 := Lib.hid hO6
        have HB6 := Lib.hid hB6
        clear hown' hgrow hB6 hO6
        go_wp2_with fail
        go_roundw
        case rel => exact ⟨1, a', c', _, by omega, by go_num, rfl, HO6.out, by rw [← L0.out]; exact near_snoc HN.out (by rw [HLen.out]; decide) n5, HB6.out⟩
        case measure => simp [intOf]
      · go_wp2_with fail
        refine (CD2.out wr (HB3.out.trans (HB.out.mono z23))).mono ?_
        rintro _ _ ⟨n5, m5, rfl, rfl⟩
        have b5 := below_drewN (Below.refl wr.heap.size wr) m5
        generalize wr.drewN m5 = w5 at b5 ⊢
        have HO5 := Lib.hid (HO.out.below b5)
        have HB5 := Lib.hid (HB.out.trans (b5.mono zr))
        have z5 : w3.heap.size ≤ w5.heap.size := HB5.out.size
        clear b5 g0 g1 g2
        go_wp2_with (at_builtin; refine wpList_append_own _ rfl _ _ 22 rfl w3.heap.size 38 i0 (.float .f32 0) 1 4 Try.underlying22 hinf hz0 hz1 hz2 rfl (by decide) _ _ _ rfl ((HO5.out.alloc _).2.1) ⟨w5.heap.size, 0, none⟩ 1 1 [.float .f32 (pick .f32 (v1) n5)] rfl rfl ?c1 ?c2 ?c3 ?c4 ?c5 ?_)
        case c1 =>
          intro j u hj
          match j, hj with
          | 0, hj => simp at hj; subst hj; simp [Addr.add]
        case c2 => intro u hu; simp at hu; subst hu; rfl
        case c3 => unfold maxLen; omega
        case c4 => omega
        case c5 => simp; omega
        intro v' w6 hown' hgrow _
        have hB6 : Below w3.heap.size w3 w6 := (HB5.out.alloc z5 _).grown hgrow (by simp; omega) (fun g e => by have := HO5.out.in g (by rw [← own_blk _ 1 c]; exact e); exact this.1)
        obtain ⟨a', c', rfl, hO6⟩ := own_app hown' HO5.out.1 HO5.out.2.2 (pick_wf HD1.out n5)
        have HO6 := Lib.hid hO6
        have HB6 := Lib.hid hB6
        clear hown' hgrow hB6 hO6
        go_wp2_with fail
        go_roundw
        case rel => exact ⟨2, a', c', _, by omega, by go_num, rfl, HO6.out, by rw [← L1.out]; exact near_snoc HN.out (by rw [HLen.out]; decide) n5, HB6.out⟩
        case measure => simp [intOf]
      · go_wp2_with fail
        refine (CD3.out wr (HB3.out.trans (HB.out.mono z23))).mono ?_
        rintro _ _ ⟨n5, m5, rfl, rfl⟩
        have b5 := below_drewN (Below.refl wr.heap.size wr) m5
        generalize wr.drewN m5 = w5 at b5 ⊢
        have HO5 := Lib.hid (HO.out.below b5)
        have HB5 := Lib.hid (HB.out.trans (b5.mono zr))
        have z5 : w3.heap.size ≤ w5.heap.size := HB5.out.size
        clear b5 g0 g1 g2
        go_wp2_with (at_builtin; refine wpList_append_own _ rfl _ _ 22 rfl w3.heap.size 38 i0 (.float .f32 0) 1 4 Try.underlying22 hinf hz0 hz1 hz2 rfl (by decide) _ _ _ rfl ((HO5.out.alloc _).2.1) ⟨w5.heap.size, 0, none⟩ 1 1 [.float .f32 (pick .f32 (v2) n5)] rfl rfl ?c1 ?c2 ?c3 ?c4 ?c5 ?_)
        case c1 =>
          intro j u hj
          match j, hj with
          | 0, hj => simp at hj; subst hj; simp [Addr.add]
        case c2 => intro u hu; simp at hu; subst hu; rfl
        case c3 => unfold maxLen; omega
        case c4 => omega
        case c5 => simp; omega
        intro v' w6 hown' hgrow _
        have hB6 : Below w3.heap.size w3 w6 := (HB5.out.alloc z5 _).grown hgrow (by simp; omega) (fun g e => by have := HO5.out.in g (by rw [← own_blk _ 2 c]; exact e); exact this.1)
        obtain ⟨a', c', rfl, hO6⟩ := own_app hown' HO5.out.1 HO5.out.2.2 (pick_wf HD2.out n5)
        have HO6 := Lib.hid hO6
        have HB6 := Lib.hid hB6
        clear hown' hgrow hB6 hO6
        go_wp2_with fail
        go_roundw
        case rel => exact ⟨3, a', c', _, by omega, by go_num, rfl, HO6.out, by rw [← L2.out]; exact near_snoc HN.out (by rw [HLen.out]; decide) n5, HB6.out⟩
        case measure => simp [intOf]
    · obtain rfl : k = 3 := by omega
      have hz : near zs L := by have h := HN.out; rwa [List.take_of_length_le (by rw [HLen.out]; exact Nat.le_refl _)] at h
      have HF := Lib.hid (near_fin hz)
      have HZ := Lib.hid hz
      have BW := Lib.hid (B3.out.trans (HB.out.mono (by omega)))
      have CA := c_areFinW a 3 c zs wr HO.out.row
      have e : finL zs = finL L := HF.out
      rw [e] at CA
      have CA := Lib.hid CA
      clear hz e
      go_wp2_with fail
      refine CA.out.mono ?_
      rintro _ _ ⟨m9, rfl, rfl⟩
      have b9 := below_drewN (Below.refl wr.heap.size wr) m9
      generalize wr.drewN m9 = w9 at b9 ⊢
      have HO9 := Lib.hid ((HO.out.below b9).mono (B' := w.heap.size) (by have := B3.out.size; omega))
      have BW9 := Lib.hid (BW.out.trans (b9.mono BW.out.size))
      clear b9 CA
      cases hf : finL L
      · have RE := Lib.hid (show res = ([], false) by rw [RES.out]; unfold listR; rw [hf]; rfl)
        have HFF := Lib.hid hf
        go_wp2_with fail
        go_ret2
        rw [RE.out]
        exact RetL.no rfl BW9.out
      · have RE := Lib.hid (show res = (L, true) by rw [RES.out]; unfold listR; rw [hf]; rfl)
        obtain rfl := near_eq HZ.out hf
        go_wp2_with fail
        go_ret2
        rw [RE.out]
        exact ⟨a, c, by rw [HLen.out]; rfl, by (show zs.length ≤ 1048576); rw [HLen.out]; decide, BW9.out, by (show Own _ _ _ _ zs.length _ zs); rw [HLen.out]; exact HO9.out⟩

/-! ### FnExactBandPowers -/
set_option maxHeartbeats 8000000 in
theorem walkG (zB : List Nat) (aB : Option Addr) (cB : Nat) (w : World) (r : List Nat × Bool) (cS : ∀ (aB : Option Addr) (cB : Nat) (w : World), IsRowF .f32 w aB zB.length cB zB → Calls Try.prog 43 #[.slice aB zB.length cB] w (RetL 38 r w)) (cI : ∀ (aB : Option Addr) (cB : Nat) (w : World), IsRowF .f32 w aB zB.length cB zB → Calls Try.prog 45 #[.slice aB zB.length cB] w (RetL 38 r w)) (rB : IsRowF .f32 w aB zB.length cB zB) (hlB : zB.length ≤ 1048576) : Calls Try.prog 11 #[.slice aB zB.length cB] w fun e w' => e = .returned (.bool true) ∧ Below w.heap.size w w' := by
  have CS := Lib.hid cS
  have CI := Lib.hid cI
  clear cS cI
  have RB := Lib.hid rB
  clear rB
  go_enter Try.func11, Try.ntmps11
  go_wp2_with fail
  refine (c_toO aB zB.length cB zB _ RB.out (by omega)).mono ?_
  rintro _ w1 ⟨gtB, rfl, b, o⟩
  have LtB := Lib.hid o.in
  have OtB_1 := Lib.hid o
  clear o
  have B_1 := Lib.hid ((Below.refl w.heap.size w).trans (b.mono (by omega)))
  have S_1 : w.heap.size ≤ w1.heap.size := b.size
  clear b
  go_wp2_with fail
  refine (CS.out _ _ _ OtB_1.out.row).mono ?_
  rintro _ w2 ⟨au, cu, rfl, hrlu, b, o⟩
  have Lu := Lib.hid o.in
  have Ou_2 := Lib.hid o
  clear o
  have OtB_2 := Lib.hid (OtB_1.out.below b)
  have B_2 := Lib.hid (B_1.out.trans (b.mono (by omega)))
  have S_2 : w1.heap.size ≤ w2.heap.size := b.size
  clear b
  clear OtB_1 B_1
  clear OtB_2 LtB
  go_wp2_with fail
  refine (c_toO aB zB.length cB zB _ (RB.out.below B_2.out) (by omega)).mono ?_
  rintro _ w3 ⟨gxB, rfl, b, o⟩
  have LxB := Lib.hid o.in
  have OxB_3 := Lib.hid o
  clear o
  have Ou_3 := Lib.hid (Ou_2.out.below b)
  have B_3 := Lib.hid (B_2.out.trans (b.mono (by omega)))
  have S_3 : w2.heap.size ≤ w3.heap.size := b.size
  clear b
  clear Ou_2 B_2
  go_wp2_with fail
  refine (CI.out _ _ _ OxB_3.out.row).mono ?_
  rintro _ w4 ⟨ag, cg, rfl, hrlg, b, o⟩
  have Lg := Lib.hid o.in
  have Og_4 := Lib.hid o
  clear o
  have Ou_4 := Lib.hid (Ou_3.out.below b)
  have OxB_4 := Lib.hid (OxB_3.out.below b)
  have B_4 := Lib.hid (B_3.out.trans (b.mono (by omega)))
  have S_4 : w3.heap.size ≤ w4.heap.size := b.size
  clear b
  clear Ou_3 OxB_3 B_3
  go_wp2_with fail
  refine (c_eqF0 _ _ _ _ _ _ _ Og_4.out.row Ou_4.out.row).mono ?_
  rintro _ _ ⟨jx, rfl, rfl⟩
  have b : Below w4.heap.size w4 (w4.drewN jx) := below_drewN (Below.refl _ _) _
  generalize w4.drewN jx = w5 at *
  have Ou_5 := Lib.hid (Ou_4.out.below b)
  have OxB_5 := Lib.hid (OxB_4.out.below b)
  have Og_5 := Lib.hid (Og_4.out.below b)
  have B_5 := Lib.hid (B_4.out.trans (b.mono (by omega)))
  have S_5 : w4.heap.size ≤ w5.heap.size := b.size
  clear b
  clear Ou_4 OxB_4 Og_4 B_4
  go_wp2_with fail
  refine (c_toO aB zB.length cB zB _ (RB.out.below B_5.out) (by omega)).mono ?_
  rintro _ w6 ⟨gtc, rfl, b, o⟩
  have Ltc := Lib.hid o.in
  have Otc_6 := Lib.hid o
  clear o
  have Ou_6 := Lib.hid (Ou_5.out.below b)
  have OxB_6 := Lib.hid (OxB_5.out.below b)
  have Og_6 := Lib.hid (Og_5.out.below b)
  have B_6 := Lib.hid (B_5.out.trans (b.mono (by omega)))
  have S_6 : w5.heap.size ≤ w6.heap.size := b.size
  clear b
  clear Ou_5 OxB_5 Og_5 B_5
  go_wp2_with fail
  refine (c_eqF0 _ _ _ _ _ _ _ OxB_6.out.row Otc_6.out.row).mono ?_
  rintro _ _ ⟨jx, rfl, rfl⟩
  have b : Below w6.heap.size w6 (w6.drewN jx) := below_drewN (Below.refl _ _) _
  generalize w6.drewN jx = w7 at *
  have Ou_7 := Lib.hid (Ou_6.out.below b)
  have OxB_7 := Lib.hid (OxB_6.out.below b)
  have Og_7 := Lib.hid (Og_6.out.below b)
  have Otc_7 := Lib.hid (Otc_6.out.below b)
  have B_7 := Lib.hid (B_6.out.trans (b.mono (by omega)))
  have S_7 : w6.heap.size ≤ w7.heap.size := b.size
  clear b
  clear Ou_6 OxB_6 Og_6 Otc_6 B_6
  clear Otc_7 Ltc
  go_wp2_with fail
  refine (c_markF _ _ _ _ (1) _ _ OxB_7.out (by omega)).mono ?_
  rintro _ w8 ⟨rfl, b, o⟩
  have On := Lib.hid o
  clear o
  have Ou_8 := Lib.hid (Ou_7.out.kept b (blk_apart Lu.out LxB.out (by omega)))
  have Og_8 := Lib.hid (Og_7.out.kept b (blk_apart Lg.out LxB.out (by omega)))
  have B_8 := Lib.hid (B_7.out.grown b (by omega) (fun k e => by have := LxB.out k e; omega))
  have S_8 : w7.heap.size ≤ w8.heap.size := b.size
  clear b
  clear Ou_7 OxB_7 Og_7 B_7
  have OxB_8 := Lib.hid On.out
  clear On
  have hk : ¬ ((((1 + zB.length) : Nat) : Int) < 0) := by omega
  clear OxB_8 LxB
  go_wp2_with fail
  refine (c_eqF0 _ _ _ _ _ _ _ Og_8.out.row Ou_8.out.row).mono ?_
  rintro _ _ ⟨jx, rfl, rfl⟩
  have b : Below w8.heap.size w8 (w8.drewN jx) := below_drewN (Below.refl _ _) _
  generalize w8.drewN jx = w9 at *
  have Ou_9 := Lib.hid (Ou_8.out.below b)
  have Og_9 := Lib.hid (Og_8.out.below b)
  have B_9 := Lib.hid (B_8.out.trans (b.mono (by omega)))
  have S_9 : w8.heap.size ≤ w9.heap.size := b.size
  clear b
  clear Ou_8 Og_8 B_8
  go_wp2_with fail
  refine (c_markF _ _ _ _ (1) _ _ Og_9.out (by omega)).mono ?_
  rintro _ w10 ⟨rfl, b, o⟩
  have On := Lib.hid o
  clear o
  have Ou_10 := Lib.hid (Ou_9.out.kept b (blk_apart Lu.out Lg.out (by omega)))
  have B_10 := Lib.hid (B_9.out.grown b (by omega) (fun k e => by have := Lg.out k e; omega))
  have S_10 : w9.heap.size ≤ w10.heap.size := b.size
  clear b
  clear Ou_9 Og_9 B_9
  have Og_10 := Lib.hid On.out
  clear On
  go_wp2_with fail
  refine (c_heldF _ _ _ (1) _ Og_10.out.row (by omega)).mono ?_
  rintro _ wq ⟨rfl, eq⟩
  rw [eq]
  clear eq wq
  have hq : ¬ (((1 + r.1.length : Nat) : Int) < 0) := by omega
  go_wp2_with fail
  refine (c_toO aB zB.length cB zB _ (RB.out.below B_10.out) (by omega)).mono ?_
  rintro _ w11 ⟨gtB, rfl, b, o⟩
  have LtB := Lib.hid o.in
  have OtB_11 := Lib.hid o
  clear o
  have Ou_11 := Lib.hid (Ou_10.out.below b)
  have Og_11 := Lib.hid (Og_10.out.below b)
  have B_11 := Lib.hid (B_10.out.trans (b.mono (by omega)))
  have S_11 : w10.heap.size ≤ w11.heap.size := b.size
  clear b
  clear Ou_10 Og_10 B_10
  go_wp2_with fail
  refine (CI.out _ _ _ OtB_11.out.row).mono ?_
  rintro _ w12 ⟨ah, ch, rfl, hrlh, b, o⟩
  have Lh := Lib.hid o.in
  have Oh_12 := Lib.hid o
  clear o
  have Ou_12 := Lib.hid (Ou_11.out.below b)
  have Og_12 := Lib.hid (Og_11.out.below b)
  have OtB_12 := Lib.hid (OtB_11.out.below b)
  have B_12 := Lib.hid (B_11.out.trans (b.mono (by omega)))
  have S_12 : w11.heap.size ≤ w12.heap.size := b.size
  clear b
  clear Ou_11 Og_11 OtB_11 B_11
  clear OtB_12 LtB
  go_wp2_with fail
  refine (c_eqF0 _ _ _ _ _ _ _ Oh_12.out.row Ou_12.out.row).mono ?_
  rintro _ _ ⟨jx, rfl, rfl⟩
  have b : Below w12.heap.size w12 (w12.drewN jx) := below_drewN (Below.refl _ _) _
  generalize w12.drewN jx = w13 at *
  have Ou_13 := Lib.hid (Ou_12.out.below b)
  have Og_13 := Lib.hid (Og_12.out.below b)
  have Oh_13 := Lib.hid (Oh_12.out.below b)
  have B_13 := Lib.hid (B_12.out.trans (b.mono (by omega)))
  have S_13 : w12.heap.size ≤ w13.heap.size := b.size
  clear b
  clear Ou_12 Og_12 Oh_12 B_12
  go_wp2_with fail
  refine (c_heldF _ _ _ (1) _ Og_13.out.row (by omega)).mono ?_
  rintro _ wq ⟨rfl, eq⟩
  rw [eq]
  clear eq wq
  go_wp2_with fail
  go_ret
  exact ⟨rfl, B_13.out⟩
theorem walkRB (zB : List Nat) (aB : Option Addr) (cB : Nat) (w : World) (rB : IsRowF .f32 w aB zB.length cB zB) (gC : 1048576 < zB.length) : Calls Try.prog 11 #[.slice aB zB.length cB] w fun e w' => e = .returned (.bool true) ∧ Below w.heap.size w w' := by
  go_enter Try.func11, Try.ntmps11
  go_wp2_with fail
  go_ret
  exact ⟨rfl, by first | exact Below.refl _ _ | exact (Below.refl _ _).alloc (Nat.le_refl _) _ | exact ((Below.refl _ _).alloc (Nat.le_refl _) _).alloc (by simp) _⟩
theorem walk (aB : Option Addr) (lenB cB : Nat) (zB : List Nat) (w : World) (rB : IsRowF .f32 w aB lenB cB zB) : Calls Try.prog 11 #[.slice aB lenB cB] w fun e w' => e = .returned (.bool true) ∧ Below w.heap.size w w' := by
  obtain rfl := rB.1
  by_cases gCB : 1048576 < zB.length
  · exact walkRB zB aB cB w rB gCB
  exact walkG zB aB cB w (bpowR zB) (fun aB cB w rB => c_sBandPowers zB aB cB w rB ) (fun aB cB w rB => c_iBandPowers zB aB cB w rB ) rB (by omega)
theorem own : ownKnob Try.prog.godebug = none := by kernel_rfl
theorem laidOut : laidOutB Try.prog = true := by kernel_rfl
set_option maxRecDepth 100000 in
theorem lifted (os : Os) (started : os.Started) (H : Type) (enc : TypeId × Value → H) :
    ReturnsInHanded {} Try.checked os 11 .any (Rows.fnExactBandPowersSpec.pre6 enc Try.prog Try.f11 Rows.fnExactBandPowersRow.domain false) (Rows.fnExactBandPowersSpec.post enc Try.prog Try.f11 false true false false) := by
  refine returnsInHanded_of_change (C := Try.checked) own started (by kernel_rfl) Try.func11
    (ChangeSpec.witness6 (enc := enc) (C := Try.checked) false ⟨#[], #[.slice none 0 0], []⟩ 8 (by kernel_rfl) (by kernel_rfl) (by kernel_rfl) (by kernel_rfl)) ?_
  intro W base args ds gs before hval0 hW hcnd _
  have hval : ∀ (j : Nat) t v, Try.f11.params[j]? = some t → args[j]? = some v → Value.okWide Try.prog W .any base t v := hval0
  have hW' := hW
  obtain ⟨p, q, hA0, hV, rfl, hfz, hnd⟩ := hW
  have hA : DataW.TrodAll enc Try.prog W 0 (fun _ => true) true Try.f11.params.toList args.toList ds p := hA0
  rw [Try.params11] at hA hval
  obtain ⟨v0, vs0, d0, ds0, p0, q0, hargs, rfl, rfl, h0, r0⟩ := trodAll_cons hA
  obtain ⟨rfl, rfl, rfl⟩ := trodAll_nil r0
  obtain rfl : args = #[v0] := by cases args; simp_all
  obtain ⟨rfl, rfl⟩ := trodVars_none hV
  obtain ⟨a0, len0, cap0, rfl⟩ := okWide_slice Try.underlying22 (hval 0 22 v0 rfl rfl)
  have k0 := h0
  have lt0 : ∀ x ∈ p0, x.block < W.heap.size := by obtain ⟨m, hm⟩ := k0; exact DataW.trod_lt m _ _ _ hm
  obtain ⟨z0, w0⟩ := rowF_of Try.underlying22 Try.underlying38 (by kernel_rfl) h0
  clear hA0 hval0
  have hw0 : Calls Try.prog 11 #[.slice a0 len0 cap0] W fun e w' => e = .returned (.bool true) ∧ Below W.heap.size W w' := by
    exact walk a0 len0 cap0 z0 W w0
  refine hw0.mono fun e W' ⟨he, bel⟩ => ?_
  subst he
  exact ⟨_, rfl, _, _, _, [], _, [], hW', trodAll_mk1 (shut_bool Try.underlying4 _), (trodAll_cons_mk (Below.trod laidOut (by kernel_rfl) (of_decide_eq_true (by kernel_rfl)) k0 bel lt0) trodAll_mk0), rfl, bel.frame _, fun h => by cases h⟩

theorem over : Rows.fnExactBandPowersRow.holds Try.pinned (OpenSpec.ofChange Rows.fnExactBandPowersSpec) :=
  OpenClaim.holds_of_wide 11 Try.f11 rfl rfl rfl rfl rfl rfl rfl ⟨rfl, rfl, rfl, rfl, rfl⟩ rfl rfl rfl rfl rfl (by kernel_rfl) Try.func11 (by kernel_rfl)
    (of_decide_eq_true (by kernel_rfl)) (by unfold Func.isWrapper; first | (rw [if_pos (by decide +kernel)]; kernel_rfl) | (rw [if_neg (by decide +kernel)]; exact ⟨rfl, rfl⟩))
    (fun os started H enc _ => lifted os started H enc)

theorem proved : Rows.FnExactBandPowersSaid := over
#print axioms proved

end Go.Proofs.Ytclbliflmhjebaa.fnExactBandPowers

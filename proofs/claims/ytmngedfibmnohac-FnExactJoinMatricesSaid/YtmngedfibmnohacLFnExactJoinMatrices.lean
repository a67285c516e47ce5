/-
  FnExactJoinMatrices: for every input this law of the program returns true, and each argument reads as before. No condition.
-/
import Derived.Test.YtmngedfibmnohacRows
import Derived.Test.YtmngedfibmnohacRow
import Derived.Test.YtmngedfibmnohacMn
import Derived.Test.YtmngedfibmnohacOw
import Derived.Test.YtmngedfibmnohacAp
import Derived.ProofKit
import Derived.OpenShut
import Derived.ShutString
import Derived.ChangeOld
import Derived.Below
import Derived.Lib.Hide
import Derived.Outline
import Derived.Deep.RegionHeld3
import Derived.Deep.DeepCutAuto
set_option linter.unusedSimpArgs false
set_option linter.unusedVariables false
set_option exponentiation.threshold 2000
set_option maxRecDepth 20000
set_option maxHeartbeats 4000000
namespace Go.Proofs.Ytmngedfibmnohac.fnExactJoinMatrices
open Go Go.Proofs.Ytmngedfibmnohac Go.Proofs
open Go.ChangeShapes Go.WideShapes Go.ChangeAt Go.RowKit
open Go.ChangeMaps (open_string shut_string)
/-! ### listDefs -/
/-- Of a new list of floats and a bool. -/
def RetL (T : TypeId) (r : List Nat × Bool) (w : World) (e : Ending) (w' : World) : Prop :=
  ∃ a cap, e = .returned (.tuple #[.slice a r.1.length cap, .bool r.2]) ∧ r.1.length ≤ 1048576 ∧ Below w.heap.size w w' ∧ Own T w' w.heap.size a r.1.length cap r.1
def TupL (T : TypeId) (B : Nat) (r : List Nat × Bool) (u : Value) (w : World) : Prop := ∃ a c, u = .tuple #[.slice a r.1.length c, .bool r.2] ∧ r.1.length ≤ 1048576 ∧ Own T w B a r.1.length c r.1
def SlcL (T : TypeId) (B : Nat) (r : List Nat × Bool) (u : Value) (w : World) : Prop := ∃ a c, u = .slice a r.1.length c ∧ r.1.length ≤ 1048576 ∧ Own T w B a r.1.length c r.1
def BooL (r : List Nat × Bool) (u : Value) : Prop := ∃ x : Bool, u = .bool x ∧ x = r.2
theorem RetL.no {T : TypeId} {w : World} {e : Ending} {w' : World} (h : e = .returned (.tuple #[.slice none 0 0, .bool false])) (b : Below w.heap.size w w') : RetL T ([], false) w e w' :=
  ⟨none, 0, h, Nat.zero_le _, b, Own.nil _ _ _⟩
/-! ### toOwn -/
theorem infoFo : (Try.prog.info? 23).map (fun i => (i.zero, i.size, i.bytes)) = some (some (.float .f32 0), 1, 4) := by kernel_rfl
theorem c_toO (a : Option Addr) (len cap : Nat) (zs : List Nat) (w : World) (hr : IsRowF .f32 w a len cap zs) (hl : len ≤ 1048576) : Calls Try.prog 16 #[.slice a len cap] w (NewO 23 len zs w) := by
  obtain ⟨i0, hi, hz0, hz1, hz2⟩ := info_parts infoFo
  obtain ⟨h1, h2, h3, h4, h5⟩ := hr
  go_enter Try.func16, Try.ntmps16
  go_wp2_with (at_make; refine wpList_make_full _ rfl _ _ 22 rfl w.heap.size 23 i0 (.float .f32 0) 1 Try.underlying22 hi hz0 hz1 _ _ _ _ len rfl rfl rfl rfl (by rw [hz2]; omega) (by unfold maxLen; omega) (by simp) ?_; intro w1 hown hgrow)
  have hblk := block_of_owns hown
  have e0 : (madeCells (Value.float FloatKind.f32 0).cells (len * 1)).toList = List.replicate len (.float .f32 0) := by rw [Nat.mul_one]; exact made_zeros _ _
  rw [e0] at hblk
  have hbel : Below w.heap.size w w1 := (Below.refl _ _).grown hgrow (Nat.le_refl _) (by simp)
  have HB := Lib.hid hblk
  clear hown hgrow hblk e0 hz0 hz1 hz2
  go_loopw [4] (fun i wr => ∃ j : Nat, j ≤ len ∧ i = .int .i64 j ∧ Below w.heap.size w wr ∧ wr.heap[w.heap.size]? = some (.cells (fl .f32 (zs.take j) ++ List.replicate (zs.length - j) (Value.float .f32 0)).toArray 23 (0, 0))) (fun i _ => len - (intOf i).toNat)
  case atStart => exact ⟨0, Nat.zero_le _, rfl, hbel, by rw [HB.out, h1]; rfl⟩
  case round =>
    obtain ⟨j, hj, rfl, hb, hblk⟩ := hrel
    have Hblk := Lib.hid hblk
    clear hblk
    by_cases hlt : j < len
    · rcases h5 with h5 | ⟨b, off, rfl, hbl, hc⟩
      · omega
      have hcell : wr.cell? ⟨b, off + j, none⟩ = some (.float .f32 (fat zs j)) := by rw [hb.cell (p := ⟨b, off + j, none⟩) hbl]; exact hc j hlt
      have hold : wr.cell? ⟨w.heap.size, j, none⟩ = some (.float .f32 0) := by
        rw [cell_of_block Hblk.out, List.getElem?_append_right (by simp [fl]; omega)]
        have e : (fl FloatKind.f32 (List.take j zs)).length = j := by simp [fl]; omega
        rw [e, Nat.sub_self, List.getElem?_replicate, if_pos (by omega)]
      have hfz : wr.frozen? ⟨w.heap.size, j, none⟩ = false := frozen_of_block Hblk.out j
      have hset := block_set Hblk.out j (.float .f32 (fat zs j))
      rw [set_step zs _ j (by omega)] at hset
      have Hset := Lib.hid hset
      clear hset hc
      go_wp2
      go_roundw
      case rel => exact ⟨j + 1, by omega, by go_num, hb.setCell (Nat.le_refl _) _, Hset.out⟩
      case measure => simp [intOf]; omega
    · obtain rfl : j = len := by omega
      have e1 : fl .f32 (zs.take j) ++ List.replicate (zs.length - j) (Value.float .f32 0) = fl .f32 zs := by rw [h1, Nat.sub_self, List.replicate_zero, List.append_nil, List.take_of_length_le (by omega)]
      have hblk2 := Hblk.out
      rw [e1] at hblk2
      have hown : Own 23 wr w.heap.size (some ⟨w.heap.size, 0, none⟩) j j zs :=
        ⟨h1, ⟨by simp [fl, h1], .inr ⟨w.heap.size, j, _, rfl, Nat.le_refl _, hblk2, Nat.le_refl _, by unfold maxLen; omega, by simp [fl, h1], by rw [List.take_of_length_le (by simp [fl, h1])]⟩⟩, h4⟩
      have HO := Lib.hid hown
      clear hown hblk2 e1
      go_wp2
      go_ret
      exact ⟨w.heap.size, rfl, hb, HO.out⟩
/-! ### sameFloat -/
theorem c_sameFloat (v n m : Nat) (w : World) (j : Nat) : Calls Try.prog 51 #[.float .f64 (pick .f64 v n), .float .f64 (pick .f64 v m)] (w.drewN j) (RetV (.bool true) w) := by
  have hs := self_ne .f64 v
  have ht := self_eq .f64 v
  cases h : isN .f64 v
  · rw [h] at hs ht
    cases h2 : (FloatKind.f64.format.order v 0 == some .eq)
    · go_enter Try.func51, Try.ntmps51
      go_wp2_with (first | (refine wpList_fop rfl _ _ _ _ _ rfl _ _ _ rfl rfl (by decide) _ ?_; intro _ _) | (refine upon_fop _ _ _ _ _ (by decide) ?_; intro _ _))
      go_ret
      exact ⟨_, rfl, rfl⟩
    · go_enter Try.func51, Try.ntmps51
      go_wp2_with (first | (refine wpList_fop rfl _ _ _ _ _ rfl _ _ _ rfl rfl (by decide) _ ?_; intro _ _) | (refine upon_fop _ _ _ _ _ (by decide) ?_; intro _ _))
      go_ret
      exact ⟨_, by simp, rfl⟩
  · rw [h] at hs ht
    go_enter Try.func51, Try.ntmps51
    go_wp2_with (first | (refine wpList_fop rfl _ _ _ _ _ rfl _ _ _ rfl rfl (by decide) _ ?_; intro _ _) | (refine upon_fop _ _ _ _ _ (by decide) ?_; intro _ _))
    go_ret
    exact ⟨_, rfl, rfl⟩

/-! ### eqFloat32S -/
theorem c_eqF (a b : Option Addr) (len c d : Nat) (zs : List Nat) (w : World) (j0 : Nat) (hr : IsRowF .f32 w a len c zs) (hs : IsRowF .f32 w b len d zs) : Calls Try.prog 20 #[.slice a len c, .slice b len d] (w.drewN j0) (RetV (.bool true) w) := by
  obtain ⟨h1, h2, h3, h4, h5⟩ := hr
  obtain ⟨g1, g2, g3, g4, g5⟩ := hs
  unfold maxLen at h3
  go_enter Try.func20, Try.ntmps20
  go_wp2
  go_loopw [5] (fun i wr => ∃ k m : Nat, k ≤ len ∧ i = .int .i64 k ∧ wr = w.drewN m) (fun i _ => len - (intOf i).toNat)
  case atStart => exact ⟨0, j0, Nat.zero_le _, rfl, rfl⟩
  case round =>
    obtain ⟨k, m, hk, rfl, rfl⟩ := hrel
    by_cases hlt : k < len
    · rcases h5 with h5 | ⟨x, off, rfl, hbl, hc⟩
      · omega
      rcases g5 with g5 | ⟨y, off2, rfl, gbl, gc⟩
      · omega
      have hcell : w.cell? ⟨x, off + k, none⟩ = some (.float .f32 (fat zs k)) := hc k hlt
      have gcell : w.cell? ⟨y, off2 + k, none⟩ = some (.float .f32 (fat zs k)) := gc k hlt
      clear hc h4 gc g4
      go_wp2
      refine wp_region_N (fun _ _ u => u = .bool true) (by kernel_rfl) (by kernel_rfl) ?_; (repeat (first | ((with_reducible show wpN _ _ _ _ _ (Oper.mk _ (Op.binOp _ _ _ _ _) _ _ _ none :: _) _); refine wpN_fop rfl _ _ _ _ _ rfl _ _ _ rfl rfl (by decide) ?_; intro _) | ((with_reducible show wpN _ _ _ _ _ (Oper.mk _ (Op.convert _ _ _) _ _ _ none :: _) _); refine wpN_cvU rfl 23 70 _ rfl (Option.isSome_iff_exists.2 ⟨_, Try.underlying23⟩) Try.underlying70 _ rfl ?_; intro _) | ((with_reducible show wpN _ _ _ _ _ (Oper.mk _ _ _ _ _ (some _) :: _) _); (with_reducible refine wpN_off ?_ ?_); focus rfl; (simp only [Act.put, List.setIfInBounds_toArray, List.set_cons_zero, List.set_cons_succ])) | ((with_reducible show wpN _ _ _ _ _ (Oper.mk _ _ _ _ _ (some _) :: _) _); ((with_reducible refine wpN_on ?_ (fun K hK => ?_)); (focus rfl); intro _; go_simp; first | (refine uponN_value (hK _ ?_)) | ((refine uponN_call (callN rfl (c_sameFloat _ _ _ _ _)) ?_; intro u hu; obtain rfl : u = _ := hu); refine hK _ ?_)); clear hK K) | (((with_reducible refine wpN_plain rfl (fun K hK => ?_)); intro _; go_simp; first | (refine uponN_value (hK _ ?_)) | ((refine uponN_call (callN rfl (c_sameFloat _ _ _ _ _)) ?_; intro u hu; obtain rfl : u = _ := hu); refine hK _ ?_)); clear hK K) | ((with_reducible refine wpN_step (fun K hK => ?_)); go_simp; first | (refine hK _ ?_) | (intro _; first | (refine uponN_value (hK _ ?_)) | ((refine uponN_call (callN rfl (c_sameFloat _ _ _ _ _)) ?_; intro u hu; obtain rfl : u = _ := hu); refine hK _ ?_)); clear hK K))); refine wpN_nil ?_; intro _
      go_wp2
      go_roundw
      case rel => exact ⟨k + 1, _, by omega, by go_num, rfl⟩
      case measure => simp [intOf]; omega
    · clear h5 h4 g4 g5
      go_wp2
      go_ret
      exact ⟨_, rfl, rfl⟩
/-! ### eqPicture -/
theorem c_eqF0 (a b : Option Addr) (len c d : Nat) (zs : List Nat) (w : World) (hr : IsRowF .f32 w a len c zs) (hs : IsRowF .f32 w b len d zs) : Calls Try.prog 20 #[.slice a len c, .slice b len d] w (RetV (.bool true) w) := by
  have h := c_eqF a b len c d zs w 0 hr hs
  rwa [w.drewN_zero] at h
theorem c_eqP (W H : Int) (a b : Option Addr) (len c d : Nat) (zs : List Nat) (w : World) (hr : IsRowF .f32 w a len c zs) (hs : IsRowF .f32 w b len d zs) : Calls Try.prog 35 #[.agg #[.int .i64 W, .int .i64 H, .slice a len c], .agg #[.int .i64 W, .int .i64 H, .slice b len d]] w (RetB (.bool true) w) := by
  have HR := Lib.hid hr
  have HS := Lib.hid hs
  clear hr hs
  go_enter Try.func35, Try.ntmps35
  go_wp2_with fail
  refine (c_eqF0 a b len c d zs _ ((HR.out.alloc _).alloc _) ((HS.out.alloc _).alloc _)).mono ?_
  rintro _ _ ⟨m, rfl, rfl⟩
  go_wp2_with fail
  go_ret
  exact ⟨rfl, below_drewN (((Below.refl _ _).alloc (Nat.le_refl _) _).alloc (by simp) _) _⟩
/-! ### markFloat32S -/
theorem c_markF {T : TypeId} (B : Nat) (a : Option Addr) (len cap k : Nat) (zs : List Nat) (w : World) (hr : Own T w B a len cap zs) (hk : k + len ≤ 4611686018427387904) : Calls Try.prog 23 #[.slice a len cap, .int .i64 k] w (fun e w' => e = .returned (.int .i64 ((k + len : Nat) : Int)) ∧ w.grownBy w' (blk a) ∧ Own T w' B a len cap (marks k len)) := by
  rcases hr.parts with ⟨rfl, rfl, rfl, rfl⟩ | ⟨g, cur, rfl, hb, hg, hl, hm, hs, ht⟩
  · clear hr
    go_enter Try.func23, Try.ntmps23
    go_wp2
    refine wp_loop_rounds 1 ?_; rw [rounds_succ]
    go_wp2
    go_ret
    exact ⟨rfl, ⟨rfl, rfl, rfl, Nat.le_refl _, fun _ _ _ => rfl⟩, Own.nil _ _ _⟩
  · have h0 : Marked w g T cap k 0 := ⟨cur, hg, hs, fun i hi => by omega⟩
    have H0 := Lib.hid h0
    unfold maxLen at hm
    clear hr hg hs ht h0
    go_enter Try.func23, Try.ntmps23
    go_wp2
    go_loopw [1, 5] (fun t i wr => ∃ j : Nat, j ≤ len ∧ i = .int .i64 j ∧ t = .int .i64 ((k + j : Nat) : Int) ∧ w.grownBy wr (some g) ∧ Marked wr g T cap k j) (fun _ i _ => len - (intOf i).toNat)
    case atStart => exact ⟨0, Nat.zero_le _, rfl, rfl, ⟨rfl, rfl, rfl, Nat.le_refl _, fun _ _ _ => rfl⟩, H0.out⟩
    case round =>
      obtain ⟨j, hj, rfl, rfl, hgr, hM⟩ := hrel
      by_cases hlt : j < len
      · obtain ⟨v, hcell, hfz⟩ := hM.cell (j := j) (by omega)
        have hM2 := Lib.hid (hM.step (by omega : j < cap))
        have hG2 := Lib.hid hgr
        clear hM hgr
        go_wp2
        go_roundw
        case rel => exact ⟨j + 1, by omega, by go_num, by go_num, ⟨hG2.out.os, hG2.out.tape, hG2.out.output, by have := hG2.out.size; simpa using this, fun k' h1 h2 => by rw [Below.heap_setCell _ _ _ _ (fun e => h2 (by rw [e]))]; exact hG2.out.block k' h1 h2⟩, hM2.out⟩
        case measure => simp [intOf]; omega
      · obtain rfl : j = len := by omega
        have hO := Lib.hid (hM.own (B := B) hb hl (by unfold maxLen; omega))
        have hG2 := Lib.hid hgr
        clear hM hgr
        go_wp2
        go_ret
        exact ⟨rfl, hG2.out, hO.out⟩
/-! ### heldFloat32S -/
theorem c_heldF (a : Option Addr) (len cap k : Nat) (w : World) (hr : IsRowF .f32 w a len cap (marks k len)) (hk : k + len ≤ 4611686018427387904) : Calls Try.prog 24 #[.slice a len cap, .int .i64 k] w (fun e w' => e = .returned (.int .i64 ((k + len : Nat) : Int)) ∧ w' = w) := by
  obtain ⟨h1, h2, h3, h4, h5⟩ := hr
  unfold maxLen at h3
  clear h1 h4
  go_enter Try.func24, Try.ntmps24
  go_wp2
  go_loop [1, 5] (fun t i => ∃ j : Nat, j ≤ len ∧ i = .int .i64 j ∧ t = .int .i64 ((k + j : Nat) : Int)) (fun _ i => len - (intOf i).toNat)
  case atStart => exact ⟨0, Nat.zero_le _, rfl, rfl⟩
  case round =>
    obtain ⟨j, hj, rfl, rfl⟩ := hrel
    by_cases hlt : j < len
    · rcases h5 with h5 | ⟨b, off, rfl, hbl, hc⟩
      · omega
      have hcell : w.cell? ⟨b, off + j, none⟩ = some (.float .f32 (markN k j)) := by rw [← marks_at k len j hlt]; exact hc j hlt
      have hne : (FloatKind.f32.format.order (markN k j) (markN k j) != some .eq) = false := by rw [self_ne]; exact markN_notN k j
      have hE : floatOfInt .f32 ((k : Int) + (j : Int)) = markN k j := by unfold markN; rw [Int.natCast_add]
      have hne2 : (FloatKind.f32.format.order (markN k j) (floatOfInt .f32 ((k : Int) + (j : Int))) != some .eq) = false := (congrArg (fun x => FloatKind.f32.format.order (markN k j) x != some .eq) hE).trans hne
      clear hE
      clear hc
      go_wp2
      go_round
      case rel => exact ⟨j + 1, by omega, by go_num, by go_num⟩
      case measure => simp [intOf]; omega
    · obtain rfl : j = len := by omega
      clear h5
      go_wp2
      go_ret
      exact ⟨rfl, rfl⟩
/-! ### picDefs -/
def sideB (W H : Int) : Bool := decide (1 ≤ W) && decide (W ≤ 16) && (decide (1 ≤ H) && decide (H ≤ 16))
def finL (zs : List Nat) : Bool := zs.all (finB .f32)
def validB (W H : Int) (zs : List Nat) : Bool := sideB W H && decide ((zs.length : Int) = W * H) && finL zs
theorem sideB_true {W H : Int} (h : sideB W H = true) : (1 ≤ W ∧ W ≤ 16) ∧ 1 ≤ H ∧ H ≤ 16 := by simpa [sideB, and_assoc] using h
theorem side_mul {W H : Int} (h : sideB W H = true) : 1 ≤ W * H ∧ W * H ≤ 256 := by
  obtain ⟨⟨h1, h2⟩, h3, h4⟩ := sideB_true h
  have : W * H ≤ 16 * 16 := Int.mul_le_mul h2 h4 (by omega) (by omega)
  have h5 : 1 * 1 ≤ W * H := Int.mul_le_mul h1 h3 (by omega) (by omega)
  omega
theorem sideB_false {W H : Int} (h : sideB W H = false) : W < 1 ∨ 16 < W ∨ H < 1 ∨ 16 < H := by
  simp [sideB] at h; omega
theorem finL_snoc (zs : List Nat) (k : Nat) (hk : k < zs.length) : finL (zs.take (k + 1)) = (finL (zs.take k) && finB .f32 (fat zs k)) := by
  unfold finL fat
  rw [List.take_succ_eq_append_getElem hk, List.all_append, List.getD, List.getElem?_eq_getElem hk]; simp
theorem finL_of (zs : List Nat) (k : Nat) (hk : k < zs.length) (h : finB .f32 (fat zs k) = false) : finL zs = false := by
  unfold finL
  rw [List.all_eq_false]
  refine ⟨zs[k], List.getElem_mem hk, ?_⟩
  unfold fat at h
  rw [List.getD, List.getElem?_eq_getElem hk] at h
  simpa using h
theorem pick0 (k : FloatKind) (v : Nat) (hv : v < 2 ^ k.format.width) : ∃ n, v = pick k v n := pick_onto k v hv
/-! ### meanDefs -/
def meanV (zs : List Nat) : Nat := fop .quo .f32 (sumF .add .f32 0 zs) (floatOfInt .f32 (zs.length : Int))
def numR (v : Nat) : Nat × Bool := if finB .f32 v = true then (v, true) else (0, false)
def meanR (W H : Int) (zs : List Nat) : Nat × Bool := if validB W H zs = true then numR (meanV zs) else (0, false)
theorem mean_len {W H : Int} {zs : List Nat} (h : validB W H zs = true) : zs.length ≤ 256 := by
  simp only [validB, Bool.and_eq_true, decide_eq_true_eq] at h
  obtain ⟨⟨h1, h2⟩, h3⟩ := h
  have := side_mul h1
  omega
theorem pick00 : pick .f32 0 0 = 0 := pick_not (show isN .f32 0 = false from by decide +kernel) 0
/-! ### colDefs -/
def colB (r g b : Nat) : Bool := finB .f32 r && (finB .f32 g && finB .f32 b)
def greyV (r g b : Nat) : Nat := fop .add .f32 (fop .add .f32 (fop .mul .f32 1046066128 r) (fop .mul .f32 1060575065 g)) (fop .mul .f32 1033100696 b)
def greyR (r g b : Nat) : Nat × Bool := if colB r g b = true then numR (greyV r g b) else (0, false)
theorem retF1no {w : World} {e : Ending} {w' : World} (h : e = .returned (.tuple #[.float .f32 0, .bool false])) (hw : Below w.heap.size w w') : RetF1 (0, false) w e w' := ⟨0, by rw [h]; simp only [pick00], hw⟩
theorem fin3 (a b c n m l : Nat) : finL [pick .f32 a n, pick .f32 b m, pick .f32 c l] = colB a b c := by simp [finL, finB_pick, colB]
/-! ### matDefs -/
def fin9 (z : List Nat) : Bool := finB .f32 (fat z 0) && finB .f32 (fat z 1) && finB .f32 (fat z 2) && finB .f32 (fat z 3) && finB .f32 (fat z 4) && finB .f32 (fat z 5) && finB .f32 (fat z 6) && finB .f32 (fat z 7) && finB .f32 (fat z 8)
def matB (zs : List Nat) : Bool := decide (zs.length = 9) && finL zs
theorem fin9_eq {zs : List Nat} (h : zs.length = 9) : fin9 zs = finL zs := by
  obtain ⟨a0, a1, a2, a3, a4, a5, a6, a7, a8, rfl⟩ : ∃ a0 a1 a2 a3 a4 a5 a6 a7 a8, zs = [a0, a1, a2, a3, a4, a5, a6, a7, a8] := by
    match zs, h with
    | [a0, a1, a2, a3, a4, a5, a6, a7, a8], _ => exact ⟨a0, a1, a2, a3, a4, a5, a6, a7, a8, rfl⟩
  simp [fin9, finL, fat, Bool.and_assoc]
/-! ### l01Finite -/
theorem c_l01Finite (v n : Nat) (w : World) (j : Nat) : Calls Try.prog 93 #[.float .f32 (pick .f32 v n)] (w.drewN j) (RetV (.bool (finB .f32 v)) w) := by
  go_enter Try.func93, Try.ntmps93
  go_wp2_with (first | (refine wpList_fop rfl _ _ _ _ _ rfl _ _ _ rfl rfl (by decide) _ ?_; intro _ _) | (refine upon_fop _ _ _ _ _ (by decide) ?_; intro _ _))
  go_ret
  rw [← sub_self_zero]
  exact ⟨_, rfl, rfl⟩
/-! ### l02Finite -/
theorem c_l02Finite (a : Option Addr) (len cap : Nat) (zs : List Nat) (w : World) (j0 : Nat) (hr : IsRowF .f32 w a len cap zs) : Calls Try.prog 66 #[.slice a len cap] (w.drewN j0) (RetV (.bool (finL zs)) w) := by
  obtain ⟨h1, h2, h3, h4, h5⟩ := hr
  unfold maxLen at h3
  have H1 := Lib.hid h1
  clear h1
  go_enter Try.func66, Try.ntmps66
  go_wp2
  go_loopw [3] (fun i wr => ∃ k m : Nat, k ≤ len ∧ i = .int .i64 k ∧ wr = w.drewN m ∧ finL (zs.take k) = true) (fun i _ => len - (intOf i).toNat)
  case atStart => exact ⟨0, j0, Nat.zero_le _, rfl, rfl, rfl⟩
  case round =>
    obtain ⟨k, m, hk, rfl, rfl, hfin⟩ := hrel
    have HFin := Lib.hid hfin
    clear hfin
    by_cases hlt : k < len
    · rcases h5 with h5 | ⟨b, off, rfl, hbl, hc⟩
      · omega
      have hcell : w.cell? ⟨b, off + k, none⟩ = some (.float .f32 (fat zs k)) := hc k hlt
      obtain ⟨n, hn⟩ := pick0 .f32 (fat zs k) (lt_of_wf (h4 _ (by unfold fat; rw [List.getD, List.getElem?_eq_getElem (by have := H1.out; omega)]; exact List.getElem_mem _)))
      rw [hn] at hcell
      have HN := Lib.hid hn
      have HS := Lib.hid (finL_snoc zs k (by have := H1.out; omega))
      cases hf : finB .f32 (fat zs k)
      · have HO := Lib.hid (finL_of zs k (by have := H1.out; omega) hf)
        clear hc h4 hn
        go_wp2_with ((go_at_call 93; refine (c_l01Finite _ _ _ _).mono ?_; rintro _ _ ⟨_, rfl, rfl⟩))
        go_ret
        exact ⟨_, by rw [HO.out]; rfl, rfl⟩
      · have HF := Lib.hid hf
        clear hc h4 hn
        go_wp2_with ((go_at_call 93; refine (c_l01Finite _ _ _ _).mono ?_; rintro _ _ ⟨_, rfl, rfl⟩))
        go_roundw
        case rel => exact ⟨k + 1, _, by omega, by go_num, rfl, by rw [HS.out, HFin.out, HF.out]; rfl⟩
        case measure => simp [intOf]; omega
    · have e : zs.take k = zs := List.take_of_length_le (by have := H1.out; omega)
      have HE := Lib.hid e
      clear h5 h4 e
      go_wp2
      go_ret
      exact ⟨_, by have h := HFin.out; rw [HE.out] at h; rw [h]; rfl, rfl⟩
/-! ### l05Matrix -/
theorem c_l05Matrix (zs : List Nat) (a : Option Addr) (c : Nat) (w : World) (j : Nat) (hr : IsRowF .f32 w a zs.length c zs) : Calls Try.prog 60 #[.slice a zs.length c] (w.drewN j) (RetV (.bool (matB zs)) w) := by
  have CF := Lib.hid (fun j => c_l02Finite a zs.length c zs w j hr)
  have mA : zs.length ≤ maxLen := Nat.le_trans hr.2.1 hr.2.2.1
  unfold maxLen at mA
  clear hr
  unfold matB
  by_cases h9 : zs.length = 9
  · have e : ((zs.length : Int) == 9) = true := by rw [beq_iff_eq]; omega
    rw [decide_eq_true h9, Bool.true_and]
    generalize finL zs = q at *
    clear h9
    go_enter Try.func60, Try.ntmps60
    go_wp2_with ((go_at_call 66; refine (CF.out _).mono ?_; rintro _ _ ⟨_, rfl, rfl⟩))
    go_ret
    exact ⟨_, rfl, rfl⟩
  · have e : ((zs.length : Int) == 9) = false := by rw [beq_eq_false_iff_ne]; omega
    rw [decide_eq_false h9, Bool.false_and]
    clear h9
    go_enter Try.func60, Try.ntmps60
    go_wp2_with fail
    go_ret
    exact ⟨_, rfl, rfl⟩
/-! ### backDefs -/
def listR (l : List Nat) : List Nat × Bool := if finL l = true then (l, true) else ([], false)
def lessV (a b c d : Nat) : Nat := fop .sub .f32 (fop .mul .f32 a b) (fop .mul .f32 c d)
def backS (p q r a b c : Nat) : Nat := fop .add .f32 (fop .add .f32 (fop .mul .f32 a p) (fop .mul .f32 b q)) (fop .mul .f32 c r)
theorem own_new9 {T : TypeId} {w : World} {B g : Nat} {zs : List Nat} (hg : g = w.heap.size) (hB : B ≤ g) (hl : zs.length ≤ 1000) (hw : ∀ b ∈ zs, (Lit.float .f32 b).wf = true) : Own T (w.alloc (.cells (fl .f32 zs).toArray T)) B (some ⟨g, 0, none⟩) zs.length zs.length zs := by
  subst hg
  refine ⟨rfl, ⟨by simp [fl], .inr ⟨_, _, (fl .f32 zs).toArray, rfl, hB, heap_alloc_new w _, Nat.le_refl _, by unfold maxLen; omega, by simp [fl], by simp [fl, List.take_of_length_le]⟩⟩, hw⟩
theorem wf_lt {v : Nat} (h : v < 2 ^ FloatKind.f32.format.width) : (Lit.float .f32 v).wf = true := by
  have := pick_wf h 0
  cases hn : isN .f32 v
  · rwa [pick_not hn] at this
  · have hw : (2 : Nat) ^ FloatKind.f32.format.width = 4294967296 := by decide +kernel
    rw [hw] at h
    simp [Lit.wf, h]
/-! ### varSet -/
theorem var_setAt {w : World} {b i : Nat} {cs : Array Value} (h : Var w b cs) (hi : i < cs.size) (v : Value) : Var (w.setCell ⟨b, i, none⟩ v) b (cs.set i v hi) := by
  refine ⟨by simpa using h.1, fun j hj => ?_⟩
  have hj' : j < cs.size := by simpa using hj
  by_cases e : i = j
  · subst e
    rw [Array.getElem_set_self]
    exact World.cell?_setCell_same w _ _ (h.2 i hi)
  · rw [Array.getElem_set_ne _ _ e]
    rw [World.cell?_setCell_other w ⟨b, i, none⟩ ⟨b, j, none⟩ v (fun h2 => e (by have := congrArg Addr.off h2; simpa using this))]
    exact h.2 j hj'
/-! ### jmDefs -/
theorem jcell1_new (w : World) (T : TypeId) (u0 : Value) (b : Nat) (hb : b = w.heap.size) (j : Nat) (u : Value) (hj : [u0][j]? = some u) : (w.alloc (.cells #[u0] T)).cell? ((⟨b, 0, none⟩ : Addr).add j) = some u := by
  subst hb
  have e : (⟨w.heap.size, 0, none⟩ : Addr).add j = ⟨w.heap.size, j, none⟩ := by cases j <;> simp [Addr.add]
  rw [e, cell_of_row _ w.heap.size j _ T (0, 0) (heap_alloc_new w _)]
  simpa using hj
def sumJ (a b : List Nat) (i k : Nat) : Nat → Nat
  | 0 => 0
  | j + 1 => fop .add .f32 (sumJ a b i k j) (fop .mul .f32 (fat a (3 * i + j)) (fat b (3 * j + k)))
def joinML (a b : List Nat) : List Nat := [sumJ a b 0 0 3, sumJ a b 0 1 3, sumJ a b 0 2 3, sumJ a b 1 0 3, sumJ a b 1 1 3, sumJ a b 1 2 3, sumJ a b 2 0 3, sumJ a b 2 1 3, sumJ a b 2 2 3]
def joinM (zA zB : List Nat) : List Nat × Bool := if (matB zA && matB zB) = true then listR (joinML zA zB) else ([], false)
def PJ (a b : List Nat) (t j c : Nat) : Nat := if c < t then sumJ a b (c / 3) (c % 3) 3 else if c = t then sumJ a b (t / 3) (t % 3) j else 0
theorem PJ_next (a b : List Nat) (t c : Nat) : PJ a b t 3 c = PJ a b (t + 1) 0 c := by
  unfold PJ
  by_cases h1 : c < t
  · rw [if_pos h1, if_pos (by omega)]
  · by_cases h2 : c = t
    · subst h2; rw [if_neg (by omega), if_pos rfl, if_pos (by omega)]
    · rw [if_neg h1, if_neg h2, if_neg (by omega)]
      split <;> rfl
theorem PJ_at (a b : List Nat) (t j : Nat) : PJ a b t j t = sumJ a b (t / 3) (t % 3) j := by unfold PJ; rw [if_neg (by omega), if_pos rfl]
theorem PJ_other (a b : List Nat) {t j c : Nat} (h : c ≠ t) : PJ a b t (j + 1) c = PJ a b t j c := by
  unfold PJ
  by_cases h1 : c < t
  · rw [if_pos h1, if_pos h1]
  · rw [if_neg h1, if_neg h1, if_neg h, if_neg h]
theorem sumJ_lt (a b : List Nat) (i k : Nat) : sumJ a b i k 3 < 2 ^ FloatKind.f32.format.width := fop_lt _ _ _ _
theorem joinM_no {zA zB : List Nat} (h : matB zA = false ∨ matB zB = false) : joinM zA zB = ([], false) := by
  unfold joinM
  rcases h with h | h <;> rw [h] <;> simp
theorem var9 {w : World} {b : Nat} {z : List Nat} {m : Nat → Nat} (h : Var w b #[.float .f32 (pick .f32 (fat z 0) (m 0)), .float .f32 (pick .f32 (fat z 1) (m 1)), .float .f32 (pick .f32 (fat z 2) (m 2)), .float .f32 (pick .f32 (fat z 3) (m 3)), .float .f32 (pick .f32 (fat z 4) (m 4)), .float .f32 (pick .f32 (fat z 5) (m 5)), .float .f32 (pick .f32 (fat z 6) (m 6)), .float .f32 (pick .f32 (fat z 7) (m 7)), .float .f32 (pick .f32 (fat z 8) (m 8))]) : ∀ c, c < 9 → w.cell? ⟨b, c, none⟩ = some (.float .f32 (pick .f32 (fat z c) (m c))) := fun c hc => by
  match c, hc with
  | 0, _ => exact h.2 0 (by simp)
  | 1, _ => exact h.2 1 (by simp)
  | 2, _ => exact h.2 2 (by simp)
  | 3, _ => exact h.2 3 (by simp)
  | 4, _ => exact h.2 4 (by simp)
  | 5, _ => exact h.2 5 (by simp)
  | 6, _ => exact h.2 6 (by simp)
  | 7, _ => exact h.2 7 (by simp)
  | 8, _ => exact h.2 8 (by simp)
  | n + 9, h => exact absurd h (by omega)
theorem var9z {w : World} {b : Nat} (h : Var w b #[.float .f32 0, .float .f32 0, .float .f32 0, .float .f32 0, .float .f32 0, .float .f32 0, .float .f32 0, .float .f32 0, .float .f32 0]) : ∀ c, c < 9 → w.cell? ⟨b, c, none⟩ = some (.float .f32 0) := fun c hc => by
  match c, hc with
  | 0, _ => exact h.2 0 (by simp)
  | 1, _ => exact h.2 1 (by simp)
  | 2, _ => exact h.2 2 (by simp)
  | 3, _ => exact h.2 3 (by simp)
  | 4, _ => exact h.2 4 (by simp)
  | 5, _ => exact h.2 5 (by simp)
  | 6, _ => exact h.2 6 (by simp)
  | 7, _ => exact h.2 7 (by simp)
  | 8, _ => exact h.2 8 (by simp)
  | n + 9, h => exact absurd h (by omega)
/-- The joined numbers under way. -/
def JP (a b : List Nat) (J : Nat) (w0 : World) (t j : Nat) (w : World) : Prop :=
  Below J w0 w ∧ Free w J ∧ J < w.heap.size ∧ ∀ c, c < 9 → ∃ n, w.cell? ⟨J, c, none⟩ = some (.float .f32 (pick .f32 (PJ a b t j c) n))
theorem JP.next {a b : List Nat} {J : Nat} {w0 w : World} {t : Nat} (h : JP a b J w0 t 3 w) : JP a b J w0 (t + 1) 0 w :=
  ⟨h.1, h.2.1, h.2.2.1, fun c hc => by rw [← PJ_next]; exact h.2.2.2 c hc⟩
theorem JP.step {a b : List Nat} {J : Nat} {w0 w w' : World} {t j n : Nat} (h : JP a b J w0 t j w) (hb : Below w.heap.size w w') (ht : t < 9) (v : Nat) (hv : v = PJ a b t (j + 1) t) : JP a b J w0 t (j + 1) (w'.setCell ⟨J, t, none⟩ (.float .f32 (pick .f32 v n))) := by
  obtain ⟨h1, h2, h3, h4⟩ := h
  have h3' : J < w'.heap.size := Nat.lt_of_lt_of_le h3 hb.size
  refine ⟨(h1.trans (hb.mono (Nat.le_of_lt h3))).setCell (p := ⟨J, t, none⟩) (Nat.le_refl _) _, (h2.below h3 hb).setCell _ _, by simpa using h3', fun c hc => ?_⟩
  obtain ⟨q, hq⟩ := h4 c hc
  have hq' := (hb.cell (p := ⟨J, c, none⟩) h3).trans hq
  by_cases e : c = t
  · subst e
    exact ⟨n, by rw [← hv]; exact World.cell?_setCell_same _ _ _ hq'⟩
  · refine ⟨q, ?_⟩
    rw [PJ_other a b e, World.cell?_setCell_other _ _ _ _ (fun h5 => e (by have := congrArg Addr.off h5; simpa using this.symm))]
    exact hq'
/-! ### infoF2 -/
theorem infoF2 : (Try.prog.info? 23).map (fun i => (i.zero, i.size, i.bytes)) = some (some (.float .f32 0), 1, 4) := by kernel_rfl
/-! ### sJoinM -/
theorem joinML_at (a b : List Nat) : ∀ i k, i < 3 → k < 3 → fat (joinML a b) (3 * i + k) = sumJ a b i k 3 := fun i k hi hk => by
  match i, hi, k, hk with
  | 0, _, 0, _ => rfl
  | 0, _, 1, _ => rfl
  | 0, _, 2, _ => rfl
  | 1, _, 0, _ => rfl
  | 1, _, 1, _ => rfl
  | 1, _, 2, _ => rfl
  | 2, _, 0, _ => rfl
  | 2, _, 1, _ => rfl
  | 2, _, 2, _ => rfl
  | n + 3, h, _, _ => exact absurd h (by omega)
  | _, _, n + 3, h => exact absurd h (by omega)
theorem joinML_len (a b : List Nat) : (joinML a b).length = 9 := rfl
/-- The list under way. -/
def JL (a b : List Nat) (B : Nat) (w0 : World) (n : Nat) (v : Value) (w : World) : Prop :=
  ∃ (r : Option Addr) (c : Nat) (zs : List Nat), v = .slice r n c ∧ Own 23 w B r n c zs ∧ near zs ((joinML a b).take n) ∧ Below B w0 w
theorem c_sJoinMatrices (zA : List Nat) (aA : Option Addr) (cA : Nat) (zB : List Nat) (aB : Option Addr) (cB : Nat) (w : World) (rA : IsRowF .f32 w aA zA.length cA zA) (rB : IsRowF .f32 w aB zB.length cB zB) : Calls Try.prog 21 #[.slice aA zA.length cA, .slice aB zB.length cB] w (RetL 23 (joinM zA zB) w) := by
  have CA := Lib.hid (fun j => c_l05Matrix zA aA cA w j rA)
  have CB := Lib.hid (fun j => c_l05Matrix zB aB cB w j rB)
  obtain ⟨res, hres0⟩ : ∃ q, q = joinM zA zB := ⟨_, rfl⟩
  rw [← hres0]
  have HR := Lib.hid hres0
  clear hres0
  cases hA : matB zA
  all_goals rw [hA] at CA
  · have HX := Lib.hid (HR.out.trans (joinM_no (.inl hA)))
    clear rA rB hA
    rw [← w.drewN_zero]
    go_enter Try.func21, Try.ntmps21
    go_wp2_with (go_at_call 60; (refine (CA.out _).mono ?_); rintro _ _ ⟨_, rfl, rfl⟩)
    go_ret2
    rw [HX.out]
    exact RetL.no rfl (below_drewN (Below.refl _ _) _)
  cases hB : matB zB
  all_goals rw [hB] at CB
  · have HX := Lib.hid (HR.out.trans (joinM_no (.inr hB)))
    clear rA rB hA hB
    rw [← w.drewN_zero]
    go_enter Try.func21, Try.ntmps21
    go_wp2_with (go_at_call 60; first | ((with_reducible refine (CA.out _).mono ?_); rintro _ _ ⟨_, rfl, rfl⟩) | ((with_reducible refine (CB.out _).mono ?_); rintro _ _ ⟨_, rfl, rfl⟩))
    go_ret2
    rw [HX.out]
    exact RetL.no rfl (below_drewN (Below.refl _ _) _)
  have HX := Lib.hid (show res = listR (joinML zA zB) by rw [HR.out]; unfold joinM; rw [hA, hB]; rfl)
  have h9A : zA.length = 9 := by unfold matB at hA; simp only [Bool.and_eq_true, decide_eq_true_eq] at hA; exact hA.1
  have h9B : zB.length = 9 := by unfold matB at hB; simp only [Bool.and_eq_true, decide_eq_true_eq] at hB; exact hB.1
  have RA := Lib.hid rA
  have RB := Lib.hid rB
  obtain ⟨i0, hinf, hz0, hz1, hz2⟩ := info_parts infoF2
  obtain ⟨bA, oA, n0, rfl, hbA, e0⟩ := rA.at (k := 0) (by omega)
  obtain ⟨bB, oB, n1, rfl, hbB, e1⟩ := rB.at (k := 0) (by omega)
  have KA := Lib.hid (fun (k : Nat) (hk : k < 9) => (by
    obtain ⟨b, o, n, hab, _, e⟩ := RA.out.at (k := k) (by omega)
    cases hab
    exact ⟨n, e⟩ : ∃ n, w.cell? ⟨bA, oA + k, none⟩ = some (.float .f32 (pick .f32 (fat zA k) n))))
  have KB := Lib.hid (fun (k : Nat) (hk : k < 9) => (by
    obtain ⟨b, o, n, hab, _, e⟩ := RB.out.at (k := k) (by omega)
    cases hab
    exact ⟨n, e⟩ : ∃ n, w.cell? ⟨bB, oB + k, none⟩ = some (.float .f32 (pick .f32 (fat zB k) n))))
  have hcA : 9 ≤ cA := by have := rA.2.1; omega
  have hcB : 9 ≤ cB := by have := rB.2.1; omega
  rw [h9A, h9B] at *
  clear rA rB RA RB e0 e1 hA hB HR h9A h9B n0 n1
  rw [← w.drewN_zero]
  go_enter Try.func21, Try.ntmps21
  go_wp2_with (go_at_call 60; first | ((with_reducible refine (CA.out _).mono ?_); rintro _ _ ⟨j1, rfl, rfl⟩) | ((with_reducible refine (CB.out _).mono ?_); rintro _ _ ⟨j2, rfl, rfl⟩))
  go_loopw [6, 7, 8, 9, 10] (fun v i _ _ _ wr => ∃ I : Nat, I ≤ 3 ∧ i = .int .i64 I ∧ JL zA zB w.heap.size w (3 * I) v wr) (fun _ i _ _ _ _ => 3 - (intOf i).toNat)
  case atStart => exact ⟨0, by omega, rfl, _, _, [], rfl, own_new9 (zs := []) (by simp) (by simp) (by simp) (by simp), by simpa using near_nil, (below_drewN (Below.refl _ _) _).alloc (by simp) _⟩
  case round =>
    obtain ⟨I, hI, rfl, r1, c1, zs1, rfl, hO1, hN1, hB1⟩ := hrel
    have HO1 := Lib.hid hO1
    have HN1 := Lib.hid hN1
    have HB1 := Lib.hid hB1
    clear hO1 hN1 hB1
    by_cases hi : I < 3
    · have hi' : (I : Int) < 3 := by omega
      go_wp2_with fail
      go_loopw [6, 8, 9, 10] (fun v k _ _ wx => ∃ K : Nat, K ≤ 3 ∧ k = .int .i64 K ∧ JL zA zB w.heap.size w (3 * I + K) v wx) (fun _ k _ _ _ => 3 - (intOf k).toNat)
      case atStart => exact ⟨0, by omega, rfl, r1, c1, zs1, rfl, HO1.out, HN1.out, HB1.out⟩
      case round =>
        obtain ⟨K, hK, rfl, r2, c2, zs2, rfl, hO2, hN2, hB2⟩ := hrel
        obtain ⟨wm, rfl⟩ : ∃ x : World, x = wr := ⟨_, rfl⟩
        have HO2 := Lib.hid hO2
        have HN2 := Lib.hid hN2
        have HB2 := Lib.hid hB2
        clear hO2 hN2 hB2 HO1 HN1 HB1
        by_cases hk : K < 3
        · have hk' : (K : Int) < 3 := by omega
          go_wp2_with fail
          go_loopw [9, 10] (fun s j wi => ∃ J n : Nat, J ≤ 3 ∧ j = .int .i64 J ∧ s = .float .f32 (pick .f32 (sumJ zA zB I K J) n) ∧ Below wm.heap.size wm wi) (fun _ j _ => 3 - (intOf j).toNat)
          case atStart => exact ⟨0, 0, by omega, rfl, by rw [show sumJ zA zB I K 0 = 0 from rfl, pick00], Below.refl _ _⟩
          case round =>
            obtain ⟨J, n5, hJ, rfl, rfl, hb⟩ := hrel
            have HB := Lib.hid hb
            clear hb
            by_cases hj : J < 3
            · have HS := Lib.hid (show sumJ zA zB I K (J + 1) = fop .add .f32 (sumJ zA zB I K J) (fop .mul .f32 (fat zA (3 * I + J)) (fat zB (3 * J + K))) from rfl)
              have hP1 : 3 * I + J < 9 := by omega
              have hP2 : 3 * J + K < 9 := by omega
              obtain ⟨nA, eA⟩ := KA.out _ hP1
              obtain ⟨nB, eB⟩ := KB.out _ hP2
              have W1 : IntKind.i64.wrap (3 * (I : Int)) = ((3 * I : Nat) : Int) := by rw [IntWalk.i64_in _ (by omega)]; omega
              have W3 : IntKind.i64.wrap (3 * (J : Int)) = ((3 * J : Nat) : Int) := by rw [IntWalk.i64_in _ (by omega)]; omega
              have W2 : IntKind.i64.wrap (((3 * I : Nat) : Int) + (J : Int)) = ((3 * I + J : Nat) : Int) := by rw [IntWalk.i64_in _ (by omega)]; omega
              have W4 : IntKind.i64.wrap (((3 * J : Nat) : Int) + (K : Int)) = ((3 * J + K : Nat) : Int) := by rw [IntWalk.i64_in _ (by omega)]; omega
              generalize sumJ zA zB I K J = S at *
              generalize 3 * I + J = P1 at *
              generalize 3 * J + K = P2 at *
              generalize 3 * J = Q2 at *
              generalize hQ1 : 3 * I = Q1 at W1 W2
              have KS := Lib.hid (fun (w' : World) (hE : Below wr.heap.size wr w') => (by
                have q := HB2.out.trans ((HB.out.trans (hE.mono HB.out.size)).mono HB2.out.size)
                exact ⟨(q.cell (p := ⟨bA, oA + P1, none⟩) hbA).trans eA, (q.cell (p := ⟨bB, oB + P2, none⟩) hbB).trans eB⟩ : w'.cell? ⟨bA, oA + P1, none⟩ = some (.float .f32 (pick .f32 (fat zA P1) nA)) ∧ w'.cell? ⟨bB, oB + P2, none⟩ = some (.float .f32 (pick .f32 (fat zB P2) nB))))
              have g2 : (P1 : Int) < 9 := by omega
              have g3 : (P2 : Int) < 9 := by omega
              clear eA eB
              go_wp2_with fail
              refine wp_region_facts 17 (fun a b => Below a.heap.size a b) (fun _ => Below.refl _ _) (fun _ _ _ h h' => h.trans (h'.mono h.size)) (Below.refl _ _).drew (by kernel_rfl) (by kernel_rfl) (by kernel_rfl) (by kernel_rfl) ?_
              simp only [List.take_succ_cons, List.take_zero, List.drop_succ_cons, List.drop_zero]
              (with_reducible apply wpF_val); (focus (intro vs w' hE hk; (obtain ⟨ca, cb⟩ := KS.out w' hE); go_simp; exact ⟨Below.refl _ _, rfl⟩)); (simp only [Act.put, List.setIfInBounds_toArray, List.set_cons_zero, List.set_cons_succ, List.cons_append, List.nil_append])
              (with_reducible apply wpF_val); (focus (intro vs w' hE hk; (obtain ⟨ca, cb⟩ := KS.out w' hE); go_simp; exact ⟨Below.refl _ _, rfl⟩)); (simp only [Act.put, List.setIfInBounds_toArray, List.set_cons_zero, List.set_cons_succ, List.cons_append, List.nil_append])
              (with_reducible apply wpF_val); (focus (intro vs w' hE hk; (obtain ⟨ca, cb⟩ := KS.out w' hE); go_simp; exact ⟨Below.refl _ _, rfl⟩)); (simp only [Act.put, List.setIfInBounds_toArray, List.set_cons_zero, List.set_cons_succ, List.cons_append, List.nil_append])
              (with_reducible apply wpF_val); (focus (intro vs w' hE hk; (obtain ⟨ca, cb⟩ := KS.out w' hE); go_simp; exact ⟨Below.refl _ _, rfl⟩)); (simp only [Act.put, List.setIfInBounds_toArray, List.set_cons_zero, List.set_cons_succ, List.cons_append, List.nil_append])
              (with_reducible apply wpF_val); (focus (intro vs w' hE hk; (obtain ⟨ca, cb⟩ := KS.out w' hE); go_simp; exact ⟨Below.refl _ _, rfl⟩)); (simp only [Act.put, List.setIfInBounds_toArray, List.set_cons_zero, List.set_cons_succ, List.cons_append, List.nil_append])
              (with_reducible apply wpF_val); (focus (intro vs w' hE hk; (obtain ⟨ca, cb⟩ := KS.out w' hE); go_simp; exact ⟨Below.refl _ _, rfl⟩)); (simp only [Act.put, List.setIfInBounds_toArray, List.set_cons_zero, List.set_cons_succ, List.cons_append, List.nil_append])
              (with_reducible apply wpF_val); (focus (intro vs w' hE hk; (obtain ⟨ca, cb⟩ := KS.out w' hE); go_simp; exact ⟨Below.refl _ _, rfl⟩)); (simp only [Act.put, List.setIfInBounds_toArray, List.set_cons_zero, List.set_cons_succ, List.cons_append, List.nil_append])
              (with_reducible apply wpF_val); (focus (intro vs w' hE hk; (obtain ⟨ca, cb⟩ := KS.out w' hE); go_simp; exact ⟨Below.refl _ _, rfl⟩)); (simp only [Act.put, List.setIfInBounds_toArray, List.set_cons_zero, List.set_cons_succ, List.cons_append, List.nil_append])
              (with_reducible apply wpF_val); (focus (intro vs w' hE hk; (obtain ⟨ca, cb⟩ := KS.out w' hE); go_simp; exact ⟨Below.refl _ _, rfl⟩)); (simp only [Act.put, List.setIfInBounds_toArray, List.set_cons_zero, List.set_cons_succ, List.cons_append, List.nil_append])
              (with_reducible apply wpF_val); (focus (intro vs w' hE hk; (obtain ⟨ca, cb⟩ := KS.out w' hE); go_simp; exact ⟨Below.refl _ _, rfl⟩)); (simp only [Act.put, List.setIfInBounds_toArray, List.set_cons_zero, List.set_cons_succ, List.cons_append, List.nil_append])
              (with_reducible apply wpF_val); (focus (intro vs w' hE hk; (obtain ⟨ca, cb⟩ := KS.out w' hE); go_simp; exact ⟨Below.refl _ _, rfl⟩)); (simp only [Act.put, List.setIfInBounds_toArray, List.set_cons_zero, List.set_cons_succ, List.cons_append, List.nil_append])
              (with_reducible apply wpF_val); (focus (intro vs w' hE hk; (obtain ⟨ca, cb⟩ := KS.out w' hE); go_simp; exact ⟨Below.refl _ _, rfl⟩)); (simp only [Act.put, List.setIfInBounds_toArray, List.set_cons_zero, List.set_cons_succ, List.cons_append, List.nil_append])
              (with_reducible apply wpF_val); (focus (intro vs w' hE hk; (obtain ⟨ca, cb⟩ := KS.out w' hE); go_simp; exact ⟨Below.refl _ _, rfl⟩)); (simp only [Act.put, List.setIfInBounds_toArray, List.set_cons_zero, List.set_cons_succ, List.cons_append, List.nil_append])
              (with_reducible apply wpF_val); (focus (intro vs w' hE hk; (obtain ⟨ca, cb⟩ := KS.out w' hE); go_simp; exact ⟨Below.refl _ _, rfl⟩)); (simp only [Act.put, List.setIfInBounds_toArray, List.set_cons_zero, List.set_cons_succ, List.cons_append, List.nil_append])
              (with_reducible apply wpF_val); (focus (intro vs w' hE hk; (obtain ⟨ca, cb⟩ := KS.out w' hE); go_simp; exact ⟨Below.refl _ _, rfl⟩)); (simp only [Act.put, List.setIfInBounds_toArray, List.set_cons_zero, List.set_cons_succ, List.cons_append, List.nil_append])
              refine wpF_fact (fun u _ => ∃ m, u = .float .f32 (pick .f32 (fop .mul .f32 (fat zA P1) (fat zB P2)) m)) (fun _ _ _ h _ => h) (fun vs w' hE hk => ?_) ?_; (focus (rw [if_pos (by rfl)]; refine uponW_fop _ _ _ _ _ rfl .f32 _ _ rfl rfl (by decide) (fun n' m' => ⟨below_drewN (Below.refl _ _) _, n', by simp only [fop_pick_l, fop_pick_r]⟩))); (simp only [Act.put, List.setIfInBounds_toArray, List.set_cons_zero, List.set_cons_succ, List.cons_append, List.nil_append])
              refine wpF_fact (fun u _ => ∃ m, u = .float .f32 (pick .f32 (fop .add .f32 S (fop .mul .f32 (fat zA P1) (fat zB P2))) m)) (fun _ _ _ h _ => h) (fun vs w' hE hk => ?_) ?_; (focus (obtain ⟨n1, hn1⟩ := hk 15 (by kernel_rfl); simp only [hn1]; rw [if_pos (by rfl)]; refine uponW_fop _ _ _ _ _ rfl .f32 _ _ rfl rfl (by decide) (fun n' m' => ⟨below_drewN (Below.refl _ _) _, n', by simp only [fop_pick_l, fop_pick_r]⟩))); (simp only [Act.put, List.setIfInBounds_toArray, List.set_cons_zero, List.set_cons_succ, List.cons_append, List.nil_append])
              refine wpF_nil (fun vs w' hE hk => ?_)
              obtain ⟨m5, h5⟩ := hk 16
              simp only [h5]
              have BX := Lib.hid (HB.out.trans (hE.mono HB.out.size))
              clear hE hk h5
              go_wp2_with fail
              go_roundw
              case rel => exact ⟨J + 1, m5, by omega, by go_num, by rw [HS.out], BX.out⟩
              case measure => simp [intOf]; omega
            · obtain rfl : J = 3 := by omega
              have HO3 := Lib.hid (HO2.out.below HB.out)
              have HBi := Lib.hid (HB2.out.trans (HB.out.mono HB2.out.size))
              have zi : w.heap.size ≤ wr.heap.size := HBi.out.size
              have hl9 : 3 * I + K < 9 := by omega
              clear HB HO2 HB2
              go_wp2_with (at_builtin; refine wpList_append_own _ rfl _ _ 22 rfl w.heap.size 23 i0 (.float .f32 0) 1 4 Try.underlying22 hinf hz0 hz1 hz2 rfl (by decide) _ _ _ rfl ((HO3.out.alloc _).2.1) ⟨wr.heap.size, 0, none⟩ 1 1 [.float .f32 (pick .f32 (sumJ zA zB I K 3) n5)] rfl rfl (jcell1_new wr _ _ _ rfl) (by intro u hu; simp at hu; subst hu; rfl) (by unfold maxLen; omega) (by omega) (by simp; omega) ?_)
              intro v' w6 hown' hgrow _
              obtain ⟨a', c', rfl, hO6⟩ := own_app hown' HO3.out.1 HO3.out.2.2 (pick_wf (sumJ_lt zA zB I K) n5)
              have O6 := Lib.hid hO6
              have B6 := Lib.hid ((HBi.out.alloc zi _).grown hgrow (by simp; omega) (fun g e => by rw [own_blk] at e; exact (HO3.out.in g e).1))
              have N6 := Lib.hid (by have h := near_snoc HN2.out (by rw [joinML_len]; exact hl9) n5; rwa [joinML_at _ _ _ _ hi hk] at h : near (zs2 ++ [pick .f32 (sumJ zA zB I K 3) n5]) ((joinML zA zB).take (3 * I + K + 1)))
              clear hown' hgrow hO6
              go_wp2_with fail
              go_roundw
              case rel => exact ⟨K + 1, by omega, by go_num, a', c', _, rfl, O6.out, N6.out, B6.out⟩
              case measure => simp [intOf]; omega
        · obtain rfl : K = 3 := by omega
          go_wp2_with fail
          go_roundw
          case rel => exact ⟨I + 1, by omega, by go_num, r2, c2, zs2, rfl, HO2.out, HN2.out, HB2.out⟩
          case measure => simp [intOf]; omega
    · obtain rfl : I = 3 := by omega
      have hnear : near zs1 (joinML zA zB) := by
        have h := HN1.out
        rwa [List.take_of_length_le (by rw [joinML_len]; decide)] at h
      have CF := Lib.hid (fun j => c_l02Finite r1 9 c1 zs1 wr j HO1.out.row)
      have hfe : finL zs1 = finL (joinML zA zB) := near_fin hnear
      rw [hfe] at CF
      rw [← wr.drewN_zero]
      cases hq : finL (joinML zA zB)
      all_goals rw [hq] at CF
      · have HY := Lib.hid (show res = ([], false) by rw [HX.out]; unfold listR; rw [hq]; rfl)
        clear hnear hfe hq
        go_wp2_with (go_at_call 66; refine (CF.out _).mono ?_; rintro _ _ ⟨_, rfl, rfl⟩)
        go_ret2
        rw [HY.out]
        exact RetL.no rfl (below_drewN HB1.out _)
      · have HY := Lib.hid (show res = (joinML zA zB, true) by rw [HX.out]; unfold listR; rw [hq]; rfl)
        obtain rfl : zs1 = joinML zA zB := near_eq hnear hq
        clear hnear hfe hq
        go_wp2_with (go_at_call 66; refine (CF.out _).mono ?_; rintro _ _ ⟨_, rfl, rfl⟩)
        go_ret2
        rw [HY.out]
        exact ⟨_, _, rfl, by rw [joinML_len]; decide, below_drewN HB1.out _, HO1.out.drewN _⟩
/-! ### matEq -/
theorem eqMat (x0 x1 x2 x3 x4 x5 x6 x7 x8 : Nat) (w : World) : (Op.equalIn 10000 87 (.agg #[.float .f32 x0, .float .f32 x1, .float .f32 x2, .float .f32 x3, .float .f32 x4, .float .f32 x5, .float .f32 x6, .float .f32 x7, .float .f32 x8]) (.agg #[.float .f32 0, .float .f32 0, .float .f32 0, .float .f32 0, .float .f32 0, .float .f32 0, .float .f32 0, .float .f32 0, .float .f32 0])).run Try.prog w = .ok ((FloatKind.f32.format.order x0 0 == some .eq) && (FloatKind.f32.format.order x1 0 == some .eq) && (FloatKind.f32.format.order x2 0 == some .eq) && (FloatKind.f32.format.order x3 0 == some .eq) && (FloatKind.f32.format.order x4 0 == some .eq) && (FloatKind.f32.format.order x5 0 == some .eq) && (FloatKind.f32.format.order x6 0 == some .eq) && (FloatKind.f32.format.order x7 0 == some .eq) && (FloatKind.f32.format.order x8 0 == some .eq)) w := by
  have u3 := Try.underlying23
  rw [show (10000 : Nat) = 9999 + 1 from rfl, Op.equalIn]
  simp only [Sem.run_bind, run_underlying Try.underlying87, Result.andThen_ok]
  simp only [Std.Legacy.Range.forIn_eq_forIn_range', Std.Legacy.Range.size, Nat.sub_zero, Nat.add_sub_cancel, Nat.div_one, List.range'_succ, List.range'_zero, List.forIn_cons, List.forIn_nil]
  have hE : ∀ (x : Nat) (w : World), (Op.equalIn 9999 23 (.float .f32 x) (.float .f32 0)).run Try.prog w = .ok (FloatKind.f32.format.order x 0 == some .eq) w := fun x w => by
    rw [show (9999 : Nat) = 9998 + 1 from rfl, Op.equalIn]
    simp [run_underlying u3, Op.floatEq]
  go_simp
  by_cases h0 : FloatKind.f32.format.order x0 0 = some Ordering.eq
  case neg => simp [h0]
  by_cases h1 : FloatKind.f32.format.order x1 0 = some Ordering.eq
  case neg => simp [h0, h1]
  by_cases h2 : FloatKind.f32.format.order x2 0 = some Ordering.eq
  case neg => simp [h0, h1, h2]
  by_cases h3 : FloatKind.f32.format.order x3 0 = some Ordering.eq
  case neg => simp [h0, h1, h2, h3]
  by_cases h4 : FloatKind.f32.format.order x4 0 = some Ordering.eq
  case neg => simp [h0, h1, h2, h3, h4]
  by_cases h5 : FloatKind.f32.format.order x5 0 = some Ordering.eq
  case neg => simp [h0, h1, h2, h3, h4, h5]
  by_cases h6 : FloatKind.f32.format.order x6 0 = some Ordering.eq
  case neg => simp [h0, h1, h2, h3, h4, h5, h6]
  by_cases h7 : FloatKind.f32.format.order x7 0 = some Ordering.eq
  case neg => simp [h0, h1, h2, h3, h4, h5, h6, h7]
  by_cases h8 : FloatKind.f32.format.order x8 0 = some Ordering.eq
  case neg => simp [h0, h1, h2, h3, h4, h5, h6, h7, h8]
  simp [h0, h1, h2, h3, h4, h5, h6, h7, h8]
/-! ### matFin -/
theorem c_matFin9 (v0 v1 v2 v3 v4 v5 v6 v7 v8 n0 n1 n2 n3 n4 n5 n6 n7 n8 : Nat) (w : World) : Calls Try.prog 129 #[.agg #[.float .f32 (pick .f32 v0 n0), .float .f32 (pick .f32 v1 n1), .float .f32 (pick .f32 v2 n2), .float .f32 (pick .f32 v3 n3), .float .f32 (pick .f32 v4 n4), .float .f32 (pick .f32 v5 n5), .float .f32 (pick .f32 v6 n6), .float .f32 (pick .f32 v7 n7), .float .f32 (pick .f32 v8 n8)]] w (RetB (.bool (finB .f32 v0 && finB .f32 v1 && finB .f32 v2 && finB .f32 v3 && finB .f32 v4 && finB .f32 v5 && finB .f32 v6 && finB .f32 v7 && finB .f32 v8)) w) := by
  generalize hw0 : (w.alloc (Obj.cells #[.float .f32 (pick .f32 v0 n0), .float .f32 (pick .f32 v1 n1), .float .f32 (pick .f32 v2 n2), .float .f32 (pick .f32 v3 n3), .float .f32 (pick .f32 v4 n4), .float .f32 (pick .f32 v5 n5), .float .f32 (pick .f32 v6 n6), .float .f32 (pick .f32 v7 n7), .float .f32 (pick .f32 v8 n8)] 87)).alloc (Obj.cells #[.float .f32 0, .float .f32 0, .float .f32 0, .float .f32 0, .float .f32 0, .float .f32 0, .float .f32 0, .float .f32 0, .float .f32 0] 87) = w0
  have X0 : Var w0 w.heap.size #[.float .f32 (pick .f32 v0 n0), .float .f32 (pick .f32 v1 n1), .float .f32 (pick .f32 v2 n2), .float .f32 (pick .f32 v3 n3), .float .f32 (pick .f32 v4 n4), .float .f32 (pick .f32 v5 n5), .float .f32 (pick .f32 v6 n6), .float .f32 (pick .f32 v7 n7), .float .f32 (pick .f32 v8 n8)] := by subst hw0; exact (Var.new _ _ _).alloc _
  have X1 : Var w0 (w.heap.size + 1) #[.float .f32 0, .float .f32 0, .float .f32 0, .float .f32 0, .float .f32 0, .float .f32 0, .float .f32 0, .float .f32 0, .float .f32 0] := by subst hw0; exact Var.new' _ _ _ _ (by simp)
  have X2 : Free w0 (w.heap.size + 1) := by subst hw0; exact Free.new' _ _ _ _ (by simp)
  have B0 := Lib.hid (show Below w.heap.size w w0 from by subst hw0; exact ((Below.refl _ _).alloc (Nat.le_refl _) _).alloc (by simp) _)
  have HW := Lib.hid hw0
  have c0 : w0.cell? ⟨w.heap.size, 0, none⟩ = some (.float .f32 (pick .f32 v0 n0)) := X0.2 0 (by simp)
  have c1 : w0.cell? ⟨w.heap.size, 1, none⟩ = some (.float .f32 (pick .f32 v1 n1)) := X0.2 1 (by simp)
  have c2 : w0.cell? ⟨w.heap.size, 2, none⟩ = some (.float .f32 (pick .f32 v2 n2)) := X0.2 2 (by simp)
  have c3 : w0.cell? ⟨w.heap.size, 3, none⟩ = some (.float .f32 (pick .f32 v3 n3)) := X0.2 3 (by simp)
  have c4 : w0.cell? ⟨w.heap.size, 4, none⟩ = some (.float .f32 (pick .f32 v4 n4)) := X0.2 4 (by simp)
  have c5 : w0.cell? ⟨w.heap.size, 5, none⟩ = some (.float .f32 (pick .f32 v5 n5)) := X0.2 5 (by simp)
  have c6 : w0.cell? ⟨w.heap.size, 6, none⟩ = some (.float .f32 (pick .f32 v6 n6)) := X0.2 6 (by simp)
  have c7 : w0.cell? ⟨w.heap.size, 7, none⟩ = some (.float .f32 (pick .f32 v7 n7)) := X0.2 7 (by simp)
  have c8 : w0.cell? ⟨w.heap.size, 8, none⟩ = some (.float .f32 (pick .f32 v8 n8)) := X0.2 8 (by simp)
  have i0 : ∀ w : World, (Instr.index 87 (.agg #[.float .f32 (pick .f32 v0 n0), .float .f32 (pick .f32 v1 n1), .float .f32 (pick .f32 v2 n2), .float .f32 (pick .f32 v3 n3), .float .f32 (pick .f32 v4 n4), .float .f32 (pick .f32 v5 n5), .float .f32 (pick .f32 v6 n6), .float .f32 (pick .f32 v7 n7), .float .f32 (pick .f32 v8 n8)]) (.int .i64 0)).run Try.prog w = .ok (.float .f32 (pick .f32 v0 n0)) w := fun _ => by kernel_rfl
  have i1 : ∀ w : World, (Instr.index 87 (.agg #[.float .f32 (pick .f32 v0 n0), .float .f32 (pick .f32 v1 n1), .float .f32 (pick .f32 v2 n2), .float .f32 (pick .f32 v3 n3), .float .f32 (pick .f32 v4 n4), .float .f32 (pick .f32 v5 n5), .float .f32 (pick .f32 v6 n6), .float .f32 (pick .f32 v7 n7), .float .f32 (pick .f32 v8 n8)]) (.int .i64 1)).run Try.prog w = .ok (.float .f32 (pick .f32 v1 n1)) w := fun _ => by kernel_rfl
  have i2 : ∀ w : World, (Instr.index 87 (.agg #[.float .f32 (pick .f32 v0 n0), .float .f32 (pick .f32 v1 n1), .float .f32 (pick .f32 v2 n2), .float .f32 (pick .f32 v3 n3), .float .f32 (pick .f32 v4 n4), .float .f32 (pick .f32 v5 n5), .float .f32 (pick .f32 v6 n6), .float .f32 (pick .f32 v7 n7), .float .f32 (pick .f32 v8 n8)]) (.int .i64 2)).run Try.prog w = .ok (.float .f32 (pick .f32 v2 n2)) w := fun _ => by kernel_rfl
  have i3 : ∀ w : World, (Instr.index 87 (.agg #[.float .f32 (pick .f32 v0 n0), .float .f32 (pick .f32 v1 n1), .float .f32 (pick .f32 v2 n2), .float .f32 (pick .f32 v3 n3), .float .f32 (pick .f32 v4 n4), .float .f32 (pick .f32 v5 n5), .float .f32 (pick .f32 v6 n6), .float .f32 (pick .f32 v7 n7), .float .f32 (pick .f32 v8 n8)]) (.int .i64 3)).run Try.prog w = .ok (.float .f32 (pick .f32 v3 n3)) w := fun _ => by kernel_rfl
  have i4 : ∀ w : World, (Instr.index 87 (.agg #[.float .f32 (pick .f32 v0 n0), .float .f32 (pick .f32 v1 n1), .float .f32 (pick .f32 v2 n2), .float .f32 (pick .f32 v3 n3), .float .f32 (pick .f32 v4 n4), .float .f32 (pick .f32 v5 n5), .float .f32 (pick .f32 v6 n6), .float .f32 (pick .f32 v7 n7), .float .f32 (pick .f32 v8 n8)]) (.int .i64 4)).run Try.prog w = .ok (.float .f32 (pick .f32 v4 n4)) w := fun _ => by kernel_rfl
  have i5 : ∀ w : World, (Instr.index 87 (.agg #[.float .f32 (pick .f32 v0 n0), .float .f32 (pick .f32 v1 n1), .float .f32 (pick .f32 v2 n2), .float .f32 (pick .f32 v3 n3), .float .f32 (pick .f32 v4 n4), .float .f32 (pick .f32 v5 n5), .float .f32 (pick .f32 v6 n6), .float .f32 (pick .f32 v7 n7), .float .f32 (pick .f32 v8 n8)]) (.int .i64 5)).run Try.prog w = .ok (.float .f32 (pick .f32 v5 n5)) w := fun _ => by kernel_rfl
  have i6 : ∀ w : World, (Instr.index 87 (.agg #[.float .f32 (pick .f32 v0 n0), .float .f32 (pick .f32 v1 n1), .float .f32 (pick .f32 v2 n2), .float .f32 (pick .f32 v3 n3), .float .f32 (pick .f32 v4 n4), .float .f32 (pick .f32 v5 n5), .float .f32 (pick .f32 v6 n6), .float .f32 (pick .f32 v7 n7), .float .f32 (pick .f32 v8 n8)]) (.int .i64 6)).run Try.prog w = .ok (.float .f32 (pick .f32 v6 n6)) w := fun _ => by kernel_rfl
  have i7 : ∀ w : World, (Instr.index 87 (.agg #[.float .f32 (pick .f32 v0 n0), .float .f32 (pick .f32 v1 n1), .float .f32 (pick .f32 v2 n2), .float .f32 (pick .f32 v3 n3), .float .f32 (pick .f32 v4 n4), .float .f32 (pick .f32 v5 n5), .float .f32 (pick .f32 v6 n6), .float .f32 (pick .f32 v7 n7), .float .f32 (pick .f32 v8 n8)]) (.int .i64 7)).run Try.prog w = .ok (.float .f32 (pick .f32 v7 n7)) w := fun _ => by kernel_rfl
  have i8 : ∀ w : World, (Instr.index 87 (.agg #[.float .f32 (pick .f32 v0 n0), .float .f32 (pick .f32 v1 n1), .float .f32 (pick .f32 v2 n2), .float .f32 (pick .f32 v3 n3), .float .f32 (pick .f32 v4 n4), .float .f32 (pick .f32 v5 n5), .float .f32 (pick .f32 v6 n6), .float .f32 (pick .f32 v7 n7), .float .f32 (pick .f32 v8 n8)]) (.int .i64 8)).run Try.prog w = .ok (.float .f32 (pick .f32 v8 n8)) w := fun _ => by kernel_rfl
  have V0 := Lib.hid X1
  have F0 := Lib.hid X2
  have z0 : w.heap.size + 1 < w0.heap.size := X1.lt
  clear X0 X1 X2 hw0
  go_enter Try.func129, Try.ntmps129
  go_wp2_with fail
  rw [HW.out, ← w0.drewN_zero]
  go_wp2_with fail
  rw [w0.drewN_zero]
  clear c0 c1 c2 c3 c4 c5 c6 c7 c8 HW
  refine wp_loop_rounds 10 ?_
  rw [rounds_succ]
  have f := F0.out 0
  go_wp2_with (refine upon_fop0 _ _ _ _ _ (by decide) ?_; intro k0 j0; have b := below_drewN (Below.refl w0.heap.size w0) j0; generalize w0.drewN j0 = u0 at b ⊢; have f := (F0.out.below (by omega) b) 0; have l := (V0.out.keep b).2 0 (by simp))
  have V1 : Hid (Var (u0.setCell ⟨w.heap.size + 1, 0, none⟩ (.float .f32 (pick .f32 (fop .sub .f32 v0 v0) k0))) (w.heap.size + 1) #[.float .f32 (pick .f32 (fop .sub .f32 v0 v0) k0), .float .f32 0, .float .f32 0, .float .f32 0, .float .f32 0, .float .f32 0, .float .f32 0, .float .f32 0, .float .f32 0]) := Lib.hid (var_setAt (V0.out.keep b) (i := 0) (by simp) (.float .f32 (pick .f32 (fop .sub .f32 v0 v0) k0)))
  have F1 := Lib.hid ((F0.out.below (by omega) b).setCell ⟨w.heap.size + 1, 0, none⟩ (.float .f32 (pick .f32 (fop .sub .f32 v0 v0) k0)))
  have B1 := Lib.hid ((B0.out.trans (b.mono (by omega))).setCell (p := ⟨w.heap.size + 1, 0, none⟩) (by show _ ≤ w.heap.size + 1; omega) (.float .f32 (pick .f32 (fop .sub .f32 v0 v0) k0)))
  have z1 : w.heap.size + 1 < (u0.setCell ⟨w.heap.size + 1, 0, none⟩ (.float .f32 (pick .f32 (fop .sub .f32 v0 v0) k0))).heap.size := V1.out.lt
  clear b f l i0 V0 F0 B0
  generalize u0.setCell ⟨w.heap.size + 1, 0, none⟩ (.float .f32 (pick .f32 (fop .sub .f32 v0 v0) k0)) = w1 at *
  rw [rounds_succ]
  have f := F1.out 1
  go_wp2_with (refine upon_fop0 _ _ _ _ _ (by decide) ?_; intro k1 j1; have b := below_drewN (Below.refl w1.heap.size w1) j1; generalize w1.drewN j1 = u1 at b ⊢; have f := (F1.out.below (by omega) b) 1; have l := (V1.out.keep b).2 1 (by simp))
  have V2 : Hid (Var (u1.setCell ⟨w.heap.size + 1, 1, none⟩ (.float .f32 (pick .f32 (fop .sub .f32 v1 v1) k1))) (w.heap.size + 1) #[.float .f32 (pick .f32 (fop .sub .f32 v0 v0) k0), .float .f32 (pick .f32 (fop .sub .f32 v1 v1) k1), .float .f32 0, .float .f32 0, .float .f32 0, .float .f32 0, .float .f32 0, .float .f32 0, .float .f32 0]) := Lib.hid (var_setAt (V1.out.keep b) (i := 1) (by simp) (.float .f32 (pick .f32 (fop .sub .f32 v1 v1) k1)))
  have F2 := Lib.hid ((F1.out.below (by omega) b).setCell ⟨w.heap.size + 1, 1, none⟩ (.float .f32 (pick .f32 (fop .sub .f32 v1 v1) k1)))
  have B2 := Lib.hid ((B1.out.trans (b.mono (by omega))).setCell (p := ⟨w.heap.size + 1, 1, none⟩) (by show _ ≤ w.heap.size + 1; omega) (.float .f32 (pick .f32 (fop .sub .f32 v1 v1) k1)))
  have z2 : w.heap.size + 1 < (u1.setCell ⟨w.heap.size + 1, 1, none⟩ (.float .f32 (pick .f32 (fop .sub .f32 v1 v1) k1))).heap.size := V2.out.lt
  clear b f l i1 V1 F1 B1
  generalize u1.setCell ⟨w.heap.size + 1, 1, none⟩ (.float .f32 (pick .f32 (fop .sub .f32 v1 v1) k1)) = w2 at *
  rw [rounds_succ]
  have f := F2.out 2
  go_wp2_with (refine upon_fop0 _ _ _ _ _ (by decide) ?_; intro k2 j2; have b := below_drewN (Below.refl w2.heap.size w2) j2; generalize w2.drewN j2 = u2 at b ⊢; have f := (F2.out.below (by omega) b) 2; have l := (V2.out.keep b).2 2 (by simp))
  have V3 : Hid (Var (u2.setCell ⟨w.heap.size + 1, 2, none⟩ (.float .f32 (pick .f32 (fop .sub .f32 v2 v2) k2))) (w.heap.size + 1) #[.float .f32 (pick .f32 (fop .sub .f32 v0 v0) k0), .float .f32 (pick .f32 (fop .sub .f32 v1 v1) k1), .float .f32 (pick .f32 (fop .sub .f32 v2 v2) k2), .float .f32 0, .float .f32 0, .float .f32 0, .float .f32 0, .float .f32 0, .float .f32 0]) := Lib.hid (var_setAt (V2.out.keep b) (i := 2) (by simp) (.float .f32 (pick .f32 (fop .sub .f32 v2 v2) k2)))
  have F3 := Lib.hid ((F2.out.below (by omega) b).setCell ⟨w.heap.size + 1, 2, none⟩ (.float .f32 (pick .f32 (fop .sub .f32 v2 v2) k2)))
  have B3 := Lib.hid ((B2.out.trans (b.mono (by omega))).setCell (p := ⟨w.heap.size + 1, 2, none⟩) (by show _ ≤ w.heap.size + 1; omega) (.float .f32 (pick .f32 (fop .sub .f32 v2 v2) k2)))
  have z3 : w.heap.size + 1 < (u2.setCell ⟨w.heap.size + 1, 2, none⟩ (.float .f32 (pick .f32 (fop .sub .f32 v2 v2) k2))).heap.size := V3.out.lt
  clear b f l i2 V2 F2 B2
  generalize u2.setCell ⟨w.heap.size + 1, 2, none⟩ (.float .f32 (pick .f32 (fop .sub .f32 v2 v2) k2)) = w3 at *
  rw [rounds_succ]
  have f := F3.out 3
  go_wp2_with (refine upon_fop0 _ _ _ _ _ (by decide) ?_; intro k3 j3; have b := below_drewN (Below.refl w3.heap.size w3) j3; generalize w3.drewN j3 = u3 at b ⊢; have f := (F3.out.below (by omega) b) 3; have l := (V3.out.keep b).2 3 (by simp))
  have V4 : Hid (Var (u3.setCell ⟨w.heap.size + 1, 3, none⟩ (.float .f32 (pick .f32 (fop .sub .f32 v3 v3) k3))) (w.heap.size + 1) #[.float .f32 (pick .f32 (fop .sub .f32 v0 v0) k0), .float .f32 (pick .f32 (fop .sub .f32 v1 v1) k1), .float .f32 (pick .f32 (fop .sub .f32 v2 v2) k2), .float .f32 (pick .f32 (fop .sub .f32 v3 v3) k3), .float .f32 0, .float .f32 0, .float .f32 0, .float .f32 0, .float .f32 0]) := Lib.hid (var_setAt (V3.out.keep b) (i := 3) (by simp) (.float .f32 (pick .f32 (fop .sub .f32 v3 v3) k3)))
  have F4 := Lib.hid ((F3.out.below (by omega) b).setCell ⟨w.heap.size + 1, 3, none⟩ (.float .f32 (pick .f32 (fop .sub .f32 v3 v3) k3)))
  have B4 := Lib.hid ((B3.out.trans (b.mono (by omega))).setCell (p := ⟨w.heap.size + 1, 3, none⟩) (by show _ ≤ w.heap.size + 1; omega) (.float .f32 (pick .f32 (fop .sub .f32 v3 v3) k3)))
  have z4 : w.heap.size + 1 < (u3.setCell ⟨w.heap.size + 1, 3, none⟩ (.float .f32 (pick .f32 (fop .sub .f32 v3 v3) k3))).heap.size := V4.out.lt
  clear b f l i3 V3 F3 B3
  generalize u3.setCell ⟨w.heap.size + 1, 3, none⟩ (.float .f32 (pick .f32 (fop .sub .f32 v3 v3) k3)) = w4 at *
  rw [rounds_succ]
  have f := F4.out 4
  go_wp2_with (refine upon_fop0 _ _ _ _ _ (by decide) ?_; intro k4 j4; have b := below_drewN (Below.refl w4.heap.size w4) j4; generalize w4.drewN j4 = u4 at b ⊢; have f := (F4.out.below (by omega) b) 4; have l := (V4.out.keep b).2 4 (by simp))
  have V5 : Hid (Var (u4.setCell ⟨w.heap.size + 1, 4, none⟩ (.float .f32 (pick .f32 (fop .sub .f32 v4 v4) k4))) (w.heap.size + 1) #[.float .f32 (pick .f32 (fop .sub .f32 v0 v0) k0), .float .f32 (pick .f32 (fop .sub .f32 v1 v1) k1), .float .f32 (pick .f32 (fop .sub .f32 v2 v2) k2), .float .f32 (pick .f32 (fop .sub .f32 v3 v3) k3), .float .f32 (pick .f32 (fop .sub .f32 v4 v4) k4), .float .f32 0, .float .f32 0, .float .f32 0, .float .f32 0]) := Lib.hid (var_setAt (V4.out.keep b) (i := 4) (by simp) (.float .f32 (pick .f32 (fop .sub .f32 v4 v4) k4)))
  have F5 := Lib.hid ((F4.out.below (by omega) b).setCell ⟨w.heap.size + 1, 4, none⟩ (.float .f32 (pick .f32 (fop .sub .f32 v4 v4) k4)))
  have B5 := Lib.hid ((B4.out.trans (b.mono (by omega))).setCell (p := ⟨w.heap.size + 1, 4, none⟩) (by show _ ≤ w.heap.size + 1; omega) (.float .f32 (pick .f32 (fop .sub .f32 v4 v4) k4)))
  have z5 : w.heap.size + 1 < (u4.setCell ⟨w.heap.size + 1, 4, none⟩ (.float .f32 (pick .f32 (fop .sub .f32 v4 v4) k4))).heap.size := V5.out.lt
  clear b f l i4 V4 F4 B4
  generalize u4.setCell ⟨w.heap.size + 1, 4, none⟩ (.float .f32 (pick .f32 (fop .sub .f32 v4 v4) k4)) = w5 at *
  rw [rounds_succ]
  have f := F5.out 5
  go_wp2_with (refine upon_fop0 _ _ _ _ _ (by decide) ?_; intro k5 j5; have b := below_drewN (Below.refl w5.heap.size w5) j5; generalize w5.drewN j5 = u5 at b ⊢; have f := (F5.out.below (by omega) b) 5; have l := (V5.out.keep b).2 5 (by simp))
  have V6 : Hid (Var (u5.setCell ⟨w.heap.size + 1, 5, none⟩ (.float .f32 (pick .f32 (fop .sub .f32 v5 v5) k5))) (w.heap.size + 1) #[.float .f32 (pick .f32 (fop .sub .f32 v0 v0) k0), .float .f32 (pick .f32 (fop .sub .f32 v1 v1) k1), .float .f32 (pick .f32 (fop .sub .f32 v2 v2) k2), .float .f32 (pick .f32 (fop .sub .f32 v3 v3) k3), .float .f32 (pick .f32 (fop .sub .f32 v4 v4) k4), .float .f32 (pick .f32 (fop .sub .f32 v5 v5) k5), .float .f32 0, .float .f32 0, .float .f32 0]) := Lib.hid (var_setAt (V5.out.keep b) (i := 5) (by simp) (.float .f32 (pick .f32 (fop .sub .f32 v5 v5) k5)))
  have F6 := Lib.hid ((F5.out.below (by omega) b).setCell ⟨w.heap.size + 1, 5, none⟩ (.float .f32 (pick .f32 (fop .sub .f32 v5 v5) k5)))
  have B6 := Lib.hid ((B5.out.trans (b.mono (by omega))).setCell (p := ⟨w.heap.size + 1, 5, none⟩) (by show _ ≤ w.heap.size + 1; omega) (.float .f32 (pick .f32 (fop .sub .f32 v5 v5) k5)))
  have z6 : w.heap.size + 1 < (u5.setCell ⟨w.heap.size + 1, 5, none⟩ (.float .f32 (pick .f32 (fop .sub .f32 v5 v5) k5))).heap.size := V6.out.lt
  clear b f l i5 V5 F5 B5
  generalize u5.setCell ⟨w.heap.size + 1, 5, none⟩ (.float .f32 (pick .f32 (fop .sub .f32 v5 v5) k5)) = w6 at *
  rw [rounds_succ]
  have f := F6.out 6
  go_wp2_with (refine upon_fop0 _ _ _ _ _ (by decide) ?_; intro k6 j6; have b := below_drewN (Below.refl w6.heap.size w6) j6; generalize w6.drewN j6 = u6 at b ⊢; have f := (F6.out.below (by omega) b) 6; have l := (V6.out.keep b).2 6 (by simp))
  have V7 : Hid (Var (u6.setCell ⟨w.heap.size + 1, 6, none⟩ (.float .f32 (pick .f32 (fop .sub .f32 v6 v6) k6))) (w.heap.size + 1) #[.float .f32 (pick .f32 (fop .sub .f32 v0 v0) k0), .float .f32 (pick .f32 (fop .sub .f32 v1 v1) k1), .float .f32 (pick .f32 (fop .sub .f32 v2 v2) k2), .float .f32 (pick .f32 (fop .sub .f32 v3 v3) k3), .float .f32 (pick .f32 (fop .sub .f32 v4 v4) k4), .float .f32 (pick .f32 (fop .sub .f32 v5 v5) k5), .float .f32 (pick .f32 (fop .sub .f32 v6 v6) k6), .float .f32 0, .float .f32 0]) := Lib.hid (var_setAt (V6.out.keep b) (i := 6) (by simp) (.float .f32 (pick .f32 (fop .sub .f32 v6 v6) k6)))
  have F7 := Lib.hid ((F6.out.below (by omega) b).setCell ⟨w.heap.size + 1, 6, none⟩ (.float .f32 (pick .f32 (fop .sub .f32 v6 v6) k6)))
  have B7 := Lib.hid ((B6.out.trans (b.mono (by omega))).setCell (p := ⟨w.heap.size + 1, 6, none⟩) (by show _ ≤ w.heap.size + 1; omega) (.float .f32 (pick .f32 (fop .sub .f32 v6 v6) k6)))
  have z7 : w.heap.size + 1 < (u6.setCell ⟨w.heap.size + 1, 6, none⟩ (.float .f32 (pick .f32 (fop .sub .f32 v6 v6) k6))).heap.size := V7.out.lt
  clear b f l i6 V6 F6 B6
  generalize u6.setCell ⟨w.heap.size + 1, 6, none⟩ (.float .f32 (pick .f32 (fop .sub .f32 v6 v6) k6)) = w7 at *
  rw [rounds_succ]
  have f := F7.out 7
  go_wp2_with (refine upon_fop0 _ _ _ _ _ (by decide) ?_; intro k7 j7; have b := below_drewN (Below.refl w7.heap.size w7) j7; generalize w7.drewN j7 = u7 at b ⊢; have f := (F7.out.below (by omega) b) 7; have l := (V7.out.keep b).2 7 (by simp))
  have V8 : Hid (Var (u7.setCell ⟨w.heap.size + 1, 7, none⟩ (.float .f32 (pick .f32 (fop .sub .f32 v7 v7) k7))) (w.heap.size + 1) #[.float .f32 (pick .f32 (fop .sub .f32 v0 v0) k0), .float .f32 (pick .f32 (fop .sub .f32 v1 v1) k1), .float .f32 (pick .f32 (fop .sub .f32 v2 v2) k2), .float .f32 (pick .f32 (fop .sub .f32 v3 v3) k3), .float .f32 (pick .f32 (fop .sub .f32 v4 v4) k4), .float .f32 (pick .f32 (fop .sub .f32 v5 v5) k5), .float .f32 (pick .f32 (fop .sub .f32 v6 v6) k6), .float .f32 (pick .f32 (fop .sub .f32 v7 v7) k7), .float .f32 0]) := Lib.hid (var_setAt (V7.out.keep b) (i := 7) (by simp) (.float .f32 (pick .f32 (fop .sub .f32 v7 v7) k7)))
  have F8 := Lib.hid ((F7.out.below (by omega) b).setCell ⟨w.heap.size + 1, 7, none⟩ (.float .f32 (pick .f32 (fop .sub .f32 v7 v7) k7)))
  have B8 := Lib.hid ((B7.out.trans (b.mono (by omega))).setCell (p := ⟨w.heap.size + 1, 7, none⟩) (by show _ ≤ w.heap.size + 1; omega) (.float .f32 (pick .f32 (fop .sub .f32 v7 v7) k7)))
  have z8 : w.heap.size + 1 < (u7.setCell ⟨w.heap.size + 1, 7, none⟩ (.float .f32 (pick .f32 (fop .sub .f32 v7 v7) k7))).heap.size := V8.out.lt
  clear b f l i7 V7 F7 B7
  generalize u7.setCell ⟨w.heap.size + 1, 7, none⟩ (.float .f32 (pick .f32 (fop .sub .f32 v7 v7) k7)) = w8 at *
  rw [rounds_succ]
  have f := F8.out 8
  go_wp2_with (refine upon_fop0 _ _ _ _ _ (by decide) ?_; intro k8 j8; have b := below_drewN (Below.refl w8.heap.size w8) j8; generalize w8.drewN j8 = u8 at b ⊢; have f := (F8.out.below (by omega) b) 8; have l := (V8.out.keep b).2 8 (by simp))
  have V9 : Hid (Var (u8.setCell ⟨w.heap.size + 1, 8, none⟩ (.float .f32 (pick .f32 (fop .sub .f32 v8 v8) k8))) (w.heap.size + 1) #[.float .f32 (pick .f32 (fop .sub .f32 v0 v0) k0), .float .f32 (pick .f32 (fop .sub .f32 v1 v1) k1), .float .f32 (pick .f32 (fop .sub .f32 v2 v2) k2), .float .f32 (pick .f32 (fop .sub .f32 v3 v3) k3), .float .f32 (pick .f32 (fop .sub .f32 v4 v4) k4), .float .f32 (pick .f32 (fop .sub .f32 v5 v5) k5), .float .f32 (pick .f32 (fop .sub .f32 v6 v6) k6), .float .f32 (pick .f32 (fop .sub .f32 v7 v7) k7), .float .f32 (pick .f32 (fop .sub .f32 v8 v8) k8)]) := Lib.hid (var_setAt (V8.out.keep b) (i := 8) (by simp) (.float .f32 (pick .f32 (fop .sub .f32 v8 v8) k8)))
  have F9 := Lib.hid ((F8.out.below (by omega) b).setCell ⟨w.heap.size + 1, 8, none⟩ (.float .f32 (pick .f32 (fop .sub .f32 v8 v8) k8)))
  have B9 := Lib.hid ((B8.out.trans (b.mono (by omega))).setCell (p := ⟨w.heap.size + 1, 8, none⟩) (by show _ ≤ w.heap.size + 1; omega) (.float .f32 (pick .f32 (fop .sub .f32 v8 v8) k8)))
  have z9 : w.heap.size + 1 < (u8.setCell ⟨w.heap.size + 1, 8, none⟩ (.float .f32 (pick .f32 (fop .sub .f32 v8 v8) k8))).heap.size := V9.out.lt
  clear b f l i8 V8 F8 B8
  generalize u8.setCell ⟨w.heap.size + 1, 8, none⟩ (.float .f32 (pick .f32 (fop .sub .f32 v8 v8) k8)) = w9 at *
  rw [rounds_succ]
  have l0 : w9.cell? ⟨w.heap.size + 1, 0, none⟩ = some (.float .f32 (pick .f32 (fop .sub .f32 v0 v0) k0)) := V9.out.2 0 (by simp)
  have l1 : w9.cell? ⟨w.heap.size + 1, 1, none⟩ = some (.float .f32 (pick .f32 (fop .sub .f32 v1 v1) k1)) := V9.out.2 1 (by simp)
  have l2 : w9.cell? ⟨w.heap.size + 1, 2, none⟩ = some (.float .f32 (pick .f32 (fop .sub .f32 v2 v2) k2)) := V9.out.2 2 (by simp)
  have l3 : w9.cell? ⟨w.heap.size + 1, 3, none⟩ = some (.float .f32 (pick .f32 (fop .sub .f32 v3 v3) k3)) := V9.out.2 3 (by simp)
  have l4 : w9.cell? ⟨w.heap.size + 1, 4, none⟩ = some (.float .f32 (pick .f32 (fop .sub .f32 v4 v4) k4)) := V9.out.2 4 (by simp)
  have l5 : w9.cell? ⟨w.heap.size + 1, 5, none⟩ = some (.float .f32 (pick .f32 (fop .sub .f32 v5 v5) k5)) := V9.out.2 5 (by simp)
  have l6 : w9.cell? ⟨w.heap.size + 1, 6, none⟩ = some (.float .f32 (pick .f32 (fop .sub .f32 v6 v6) k6)) := V9.out.2 6 (by simp)
  have l7 : w9.cell? ⟨w.heap.size + 1, 7, none⟩ = some (.float .f32 (pick .f32 (fop .sub .f32 v7 v7) k7)) := V9.out.2 7 (by simp)
  have l8 : w9.cell? ⟨w.heap.size + 1, 8, none⟩ = some (.float .f32 (pick .f32 (fop .sub .f32 v8 v8) k8)) := V9.out.2 8 (by simp)
  clear V9 F9
  have hq := fun w => eqMat (pick .f32 (fop .sub .f32 v0 v0) k0) (pick .f32 (fop .sub .f32 v1 v1) k1) (pick .f32 (fop .sub .f32 v2 v2) k2) (pick .f32 (fop .sub .f32 v3 v3) k3) (pick .f32 (fop .sub .f32 v4 v4) k4) (pick .f32 (fop .sub .f32 v5 v5) k5) (pick .f32 (fop .sub .f32 v6 v6) k6) (pick .f32 (fop .sub .f32 v7 v7) k7) (pick .f32 (fop .sub .f32 v8 v8) k8) w
  simp only [order_pick_l, sub_self_zero] at hq
  go_wp2_with fail
  go_ret
  exact ⟨rfl, B9.out⟩
/-! ### listOf -/
theorem c_listOf (v0 v1 v2 v3 v4 v5 v6 v7 v8 n0 n1 n2 n3 n4 n5 n6 n7 n8 : Nat) (w : World) (hlt : ∀ x ∈ [v0, v1, v2, v3, v4, v5, v6, v7, v8], x < 2 ^ FloatKind.f32.format.width) : Calls Try.prog 67 #[.agg #[.float .f32 (pick .f32 v0 n0), .float .f32 (pick .f32 v1 n1), .float .f32 (pick .f32 v2 n2), .float .f32 (pick .f32 v3 n3), .float .f32 (pick .f32 v4 n4), .float .f32 (pick .f32 v5 n5), .float .f32 (pick .f32 v6 n6), .float .f32 (pick .f32 v7 n7), .float .f32 (pick .f32 v8 n8)]] w (RetL 87 (listR [v0, v1, v2, v3, v4, v5, v6, v7, v8]) w) := by
  have hfin : finL [v0, v1, v2, v3, v4, v5, v6, v7, v8] = (finB .f32 v0 && finB .f32 v1 && finB .f32 v2 && finB .f32 v3 && finB .f32 v4 && finB .f32 v5 && finB .f32 v6 && finB .f32 v7 && finB .f32 v8) := by simp [finL, Bool.and_assoc]
  unfold listR
  rw [hfin]
  have CF := Lib.hid (fun (w : World) => c_matFin9 v0 v1 v2 v3 v4 v5 v6 v7 v8 n0 n1 n2 n3 n4 n5 n6 n7 n8 w)
  generalize hw0 : w.alloc (Obj.cells #[.float .f32 (pick .f32 v0 n0), .float .f32 (pick .f32 v1 n1), .float .f32 (pick .f32 v2 n2), .float .f32 (pick .f32 v3 n3), .float .f32 (pick .f32 v4 n4), .float .f32 (pick .f32 v5 n5), .float .f32 (pick .f32 v6 n6), .float .f32 (pick .f32 v7 n7), .float .f32 (pick .f32 v8 n8)] 87) = w0
  have X0 : Var w0 w.heap.size #[.float .f32 (pick .f32 v0 n0), .float .f32 (pick .f32 v1 n1), .float .f32 (pick .f32 v2 n2), .float .f32 (pick .f32 v3 n3), .float .f32 (pick .f32 v4 n4), .float .f32 (pick .f32 v5 n5), .float .f32 (pick .f32 v6 n6), .float .f32 (pick .f32 v7 n7), .float .f32 (pick .f32 v8 n8)] := by subst hw0; exact Var.new _ _ _
  have X1 : Below w.heap.size w w0 := by subst hw0; exact (Below.refl _ _).alloc (Nat.le_refl _) _
  have HW := Lib.hid hw0
  have B0 := Lib.hid X1
  have c0 : w0.cell? ⟨w.heap.size, 0, none⟩ = some (.float .f32 (pick .f32 v0 n0)) := X0.2 0 (by simp)
  have c1 : w0.cell? ⟨w.heap.size, 1, none⟩ = some (.float .f32 (pick .f32 v1 n1)) := X0.2 1 (by simp)
  have c2 : w0.cell? ⟨w.heap.size, 2, none⟩ = some (.float .f32 (pick .f32 v2 n2)) := X0.2 2 (by simp)
  have c3 : w0.cell? ⟨w.heap.size, 3, none⟩ = some (.float .f32 (pick .f32 v3 n3)) := X0.2 3 (by simp)
  have c4 : w0.cell? ⟨w.heap.size, 4, none⟩ = some (.float .f32 (pick .f32 v4 n4)) := X0.2 4 (by simp)
  have c5 : w0.cell? ⟨w.heap.size, 5, none⟩ = some (.float .f32 (pick .f32 v5 n5)) := X0.2 5 (by simp)
  have c6 : w0.cell? ⟨w.heap.size, 6, none⟩ = some (.float .f32 (pick .f32 v6 n6)) := X0.2 6 (by simp)
  have c7 : w0.cell? ⟨w.heap.size, 7, none⟩ = some (.float .f32 (pick .f32 v7 n7)) := X0.2 7 (by simp)
  have c8 : w0.cell? ⟨w.heap.size, 8, none⟩ = some (.float .f32 (pick .f32 v8 n8)) := X0.2 8 (by simp)
  cases hf : (finB .f32 v0 && finB .f32 v1 && finB .f32 v2 && finB .f32 v3 && finB .f32 v4 && finB .f32 v5 && finB .f32 v6 && finB .f32 v7 && finB .f32 v8)
  · rw [if_neg (by decide)]
    rw [hf] at CF
    clear hw0 X0 X1 hfin hf
    go_enter Try.func67, Try.ntmps67
    go_wp2_with fail
    rw [HW.out]
    go_wp2_with fail
    refine (CF.out _).mono ?_
    rintro _ w1 ⟨rfl, b⟩
    have B1 := Lib.hid (B0.out.trans (b.mono B0.out.size))
    clear b c0 c1 c2 c3 c4 c5 c6 c7 c8
    go_wp2_with fail
    go_ret2
    exact RetL.no rfl B1.out
  · rw [if_pos rfl]
    rw [hf] at CF
    have hO : Own 87 w0 w.heap.size (some ⟨w.heap.size, 0, none⟩) 9 9 [v0, v1, v2, v3, v4, v5, v6, v7, v8] := by
      simp only [Bool.and_eq_true] at hf
      obtain ⟨⟨⟨⟨⟨⟨⟨⟨h0, h1⟩, h2⟩, h3⟩, h4⟩, h5⟩, h6⟩, h7⟩, h8⟩ := hf
      rw [← hw0, pick_not (fin_notN h0), pick_not (fin_notN h1), pick_not (fin_notN h2), pick_not (fin_notN h3), pick_not (fin_notN h4), pick_not (fin_notN h5), pick_not (fin_notN h6), pick_not (fin_notN h7), pick_not (fin_notN h8)]
      exact own_new9 (zs := [v0, v1, v2, v3, v4, v5, v6, v7, v8]) rfl (Nat.le_refl _) (by simp) (fun b hb => wf_lt (hlt b hb))
    have HO := Lib.hid hO
    have z0 : w.heap.size ≤ w0.heap.size := X1.size
    clear hw0 X0 X1 hfin hf hO
    go_enter Try.func67, Try.ntmps67
    go_wp2_with fail
    rw [HW.out]
    go_wp2_with fail
    refine (CF.out _).mono ?_
    rintro _ w1 ⟨rfl, b⟩
    have B1 := Lib.hid (B0.out.trans (b.mono B0.out.size))
    have O1 := Lib.hid (HO.out.below b)
    clear b c0 c1 c2 c3 c4 c5 c6 c7 c8
    go_wp2_with fail
    go_ret2
    exact ⟨_, _, rfl, by simp, B1.out, O1.out⟩
/-! ### matrixOf -/
theorem c_matrixOf (zs : List Nat) (a : Option Addr) (c : Nat) (w : World) (hr : IsRowF .f32 w a zs.length c zs) : Calls Try.prog 63 #[.slice a zs.length c] w (fun e w' => ∃ (z : List Nat) (m : Nat → Nat), e = .returned (.tuple #[.agg #[.float .f32 (pick .f32 (fat z 0) (m 0)), .float .f32 (pick .f32 (fat z 1) (m 1)), .float .f32 (pick .f32 (fat z 2) (m 2)), .float .f32 (pick .f32 (fat z 3) (m 3)), .float .f32 (pick .f32 (fat z 4) (m 4)), .float .f32 (pick .f32 (fat z 5) (m 5)), .float .f32 (pick .f32 (fat z 6) (m 6)), .float .f32 (pick .f32 (fat z 7) (m 7)), .float .f32 (pick .f32 (fat z 8) (m 8))], .bool (matB zs)]) ∧ (matB zs = true → z = zs) ∧ Below w.heap.size w w') := by
  generalize hw0 : w.alloc (Obj.cells #[.float .f32 0, .float .f32 0, .float .f32 0, .float .f32 0, .float .f32 0, .float .f32 0, .float .f32 0, .float .f32 0, .float .f32 0] 87) = w0
  have X1 : Var w0 w.heap.size #[.float .f32 0, .float .f32 0, .float .f32 0, .float .f32 0, .float .f32 0, .float .f32 0, .float .f32 0, .float .f32 0, .float .f32 0] := by subst hw0; exact Var.new _ _ _
  have X2 : Free w0 w.heap.size := by subst hw0; exact Free.new _ _ _
  have X3 : Below w.heap.size w w0 := by subst hw0; exact (Below.refl _ _).alloc (Nat.le_refl _) _
  have sz : w0.heap.size = w.heap.size + 1 := by subst hw0; simp
  have HW := Lib.hid hw0
  have V0 := Lib.hid X1
  have F0 := Lib.hid X2
  have BB := Lib.hid X3
  have z0 : w.heap.size < w0.heap.size := X1.lt
  have R0 := Lib.hid (hr.below X3)
  have mA : zs.length ≤ maxLen := Nat.le_trans hr.2.1 hr.2.2.1
  unfold maxLen at mA
  clear hw0 hr
  by_cases h9 : zs.length = 9
  case neg =>
    have hm : matB zs = false := by unfold matB; rw [decide_eq_false h9]; rfl
    rw [hm]
    have h9' : ¬ ((zs.length : Int) = 9) := by omega
    have q0 : w0.cell? ⟨w.heap.size, 0, none⟩ = some (.float .f32 0) := X1.2 0 (by simp)
    have q1 : w0.cell? ⟨w.heap.size, 1, none⟩ = some (.float .f32 0) := X1.2 1 (by simp)
    have q2 : w0.cell? ⟨w.heap.size, 2, none⟩ = some (.float .f32 0) := X1.2 2 (by simp)
    have q3 : w0.cell? ⟨w.heap.size, 3, none⟩ = some (.float .f32 0) := X1.2 3 (by simp)
    have q4 : w0.cell? ⟨w.heap.size, 4, none⟩ = some (.float .f32 0) := X1.2 4 (by simp)
    have q5 : w0.cell? ⟨w.heap.size, 5, none⟩ = some (.float .f32 0) := X1.2 5 (by simp)
    have q6 : w0.cell? ⟨w.heap.size, 6, none⟩ = some (.float .f32 0) := X1.2 6 (by simp)
    have q7 : w0.cell? ⟨w.heap.size, 7, none⟩ = some (.float .f32 0) := X1.2 7 (by simp)
    have q8 : w0.cell? ⟨w.heap.size, 8, none⟩ = some (.float .f32 0) := X1.2 8 (by simp)
    have f0 := X2 0
    have f1 := X2 1
    have f2 := X2 2
    have f3 := X2 3
    have f4 := X2 4
    have f5 := X2 5
    have f6 := X2 6
    have f7 := X2 7
    have f8 := X2 8
    clear X1 X2 X3
    go_enter Try.func63, Try.ntmps63
    go_wp2_with fail
    rw [HW.out]
    go_wp2_with fail
    refine bodyPost_ret (v := .tuple #[.agg #[.float .f32 0, .float .f32 0, .float .f32 0, .float .f32 0, .float .f32 0, .float .f32 0, .float .f32 0, .float .f32 0, .float .f32 0], .bool false]) (by simp [results, Try.results63, q0, q1, q2, q3, q4, q5, q6, q7, q8, go_sem]) rfl ⟨List.replicate 9 0, fun _ => 0, by simp [fat, pick00], fun h => by simp at h, ?_⟩
    repeat (first | exact Below.refl _ _ | exact BB.out | exact Nat.le_refl _ | (refine Below.setCell ?_ ?_ _) | (refine below_drewN ?_ _) | (refine Below.alloc ?_ ?_ _) | (simp <;> omega))
  case pos =>
  obtain ⟨b, off, n0, rfl, hb, e0⟩ := R0.out.at (k := 0) (by omega)
  obtain ⟨b1, o1, n1, hab1, hb1, e1⟩ := R0.out.at (k := 1) (by omega)
  cases hab1
  obtain ⟨b2, o2, n2, hab2, hb2, e2⟩ := R0.out.at (k := 2) (by omega)
  cases hab2
  obtain ⟨b3, o3, n3, hab3, hb3, e3⟩ := R0.out.at (k := 3) (by omega)
  cases hab3
  obtain ⟨b4, o4, n4, hab4, hb4, e4⟩ := R0.out.at (k := 4) (by omega)
  cases hab4
  obtain ⟨b5, o5, n5, hab5, hb5, e5⟩ := R0.out.at (k := 5) (by omega)
  cases hab5
  obtain ⟨b6, o6, n6, hab6, hb6, e6⟩ := R0.out.at (k := 6) (by omega)
  cases hab6
  obtain ⟨b7, o7, n7, hab7, hb7, e7⟩ := R0.out.at (k := 7) (by omega)
  cases hab7
  obtain ⟨b8, o8, n8, hab8, hb8, e8⟩ := R0.out.at (k := 8) (by omega)
  cases hab8
  simp only [Nat.add_zero] at e0
  rw [← HW.out] at e0 e1 e2 e3 e4 e5 e6 e7 e8
  have HM := Lib.hid (show matB zs = fin9 zs by unfold matB; rw [decide_eq_true h9, Bool.true_and, fin9_eq h9])
  have CF := Lib.hid (fun (w : World) => (c_matFin9 (fat zs 0) (fat zs 1) (fat zs 2) (fat zs 3) (fat zs 4) (fat zs 5) (fat zs 6) (fat zs 7) (fat zs 8) n0 n1 n2 n3 n4 n5 n6 n7 n8 w : Calls Try.prog 129 #[.agg #[.float .f32 (pick .f32 (fat zs 0) n0), .float .f32 (pick .f32 (fat zs 1) n1), .float .f32 (pick .f32 (fat zs 2) n2), .float .f32 (pick .f32 (fat zs 3) n3), .float .f32 (pick .f32 (fat zs 4) n4), .float .f32 (pick .f32 (fat zs 5) n5), .float .f32 (pick .f32 (fat zs 6) n6), .float .f32 (pick .f32 (fat zs 7) n7), .float .f32 (pick .f32 (fat zs 8) n8)]] w (RetB (.bool (fin9 zs)) w)))
  have hc9 : 9 ≤ c := by have := R0.out.2.1; omega
  have hcm : c ≤ maxLen := R0.out.2.2.1
  unfold maxLen at hcm
  rw [h9]
  clear X1 X2 X3 h9
  have hat : ∀ w, (Instr.arrayAt 87 (.slice (some ⟨b, off, none⟩) 9 c)).run Try.prog w = .ok (.pointer (some ⟨b, off, none⟩)) w := fun w => by simp [Instr.arrayAt, run_underlying Try.underlying87]
  go_enter Try.func63, Try.ntmps63
  go_wp2_with fail
  rw [HW.out]
  clear HW hat hb hb1 hb2 hb3 hb4 hb5 hb6 hb7 hb8 e0 e1 e2 e3 e4 e5 e6 e7 e8
  generalize hw1 : w0.alloc (Obj.cells #[.float .f32 (pick .f32 (fat zs 0) n0), .float .f32 (pick .f32 (fat zs 1) n1), .float .f32 (pick .f32 (fat zs 2) n2), .float .f32 (pick .f32 (fat zs 3) n3), .float .f32 (pick .f32 (fat zs 4) n4), .float .f32 (pick .f32 (fat zs 5) n5), .float .f32 (pick .f32 (fat zs 6) n6), .float .f32 (pick .f32 (fat zs 7) n7), .float .f32 (pick .f32 (fat zs 8) n8)] 87) = w1
  have X1 : Var w1 (w.heap.size + 1) #[.float .f32 (pick .f32 (fat zs 0) n0), .float .f32 (pick .f32 (fat zs 1) n1), .float .f32 (pick .f32 (fat zs 2) n2), .float .f32 (pick .f32 (fat zs 3) n3), .float .f32 (pick .f32 (fat zs 4) n4), .float .f32 (pick .f32 (fat zs 5) n5), .float .f32 (pick .f32 (fat zs 6) n6), .float .f32 (pick .f32 (fat zs 7) n7), .float .f32 (pick .f32 (fat zs 8) n8)] := by subst hw1; exact Var.new' _ _ _ _ sz.symm
  have X3 : Below w0.heap.size w0 w1 := by subst hw1; exact (Below.refl _ _).alloc (Nat.le_refl _) _
  have V1 := Lib.hid (V0.out.keep X3)
  have F1 := Lib.hid (F0.out.below z0 X3)
  have B1 := Lib.hid (BB.out.trans (X3.mono (by omega)))
  have z1 : w0.heap.size < w1.heap.size := by rw [sz]; exact X1.lt
  have U1 := Lib.hid X1
  clear hw1 X1 X3
  have KS := Lib.hid (fun (w' : World) (hE : Below w1.heap.size w1 w') => (⟨(U1.out.keep hE).2 0 (by simp), (U1.out.keep hE).2 1 (by simp), (U1.out.keep hE).2 2 (by simp), (U1.out.keep hE).2 3 (by simp), (U1.out.keep hE).2 4 (by simp), (U1.out.keep hE).2 5 (by simp), (U1.out.keep hE).2 6 (by simp), (U1.out.keep hE).2 7 (by simp), (U1.out.keep hE).2 8 (by simp)⟩ : w'.cell? ⟨w.heap.size + 1, 0, none⟩ = some (.float .f32 (pick .f32 (fat zs 0) n0)) ∧ w'.cell? ⟨w.heap.size + 1, 1, none⟩ = some (.float .f32 (pick .f32 (fat zs 1) n1)) ∧ w'.cell? ⟨w.heap.size + 1, 2, none⟩ = some (.float .f32 (pick .f32 (fat zs 2) n2)) ∧ w'.cell? ⟨w.heap.size + 1, 3, none⟩ = some (.float .f32 (pick .f32 (fat zs 3) n3)) ∧ w'.cell? ⟨w.heap.size + 1, 4, none⟩ = some (.float .f32 (pick .f32 (fat zs 4) n4)) ∧ w'.cell? ⟨w.heap.size + 1, 5, none⟩ = some (.float .f32 (pick .f32 (fat zs 5) n5)) ∧ w'.cell? ⟨w.heap.size + 1, 6, none⟩ = some (.float .f32 (pick .f32 (fat zs 6) n6)) ∧ w'.cell? ⟨w.heap.size + 1, 7, none⟩ = some (.float .f32 (pick .f32 (fat zs 7) n7)) ∧ w'.cell? ⟨w.heap.size + 1, 8, none⟩ = some (.float .f32 (pick .f32 (fat zs 8) n8))))
  refine wp_region_facts 3 (fun a b => Below a.heap.size a b) (fun _ => Below.refl _ _) (fun _ _ _ h h' => h.trans (h'.mono h.size)) (Below.refl _ _).drew (by kernel_rfl) (by kernel_rfl) (by kernel_rfl) (by kernel_rfl) ?_
  simp only [List.take_succ_cons, List.take_zero, List.drop_succ_cons, List.drop_zero]
  (with_reducible apply wpF_val); (focus (intro vs w' hE hk; (obtain ⟨d0, d1, d2, d3, d4, d5, d6, d7, d8⟩ := KS.out w' hE); go_simp; exact ⟨Below.refl _ _, rfl⟩)); (simp only [Act.put, List.setIfInBounds_toArray, List.set_cons_zero, List.set_cons_succ, List.cons_append, List.nil_append])
  (with_reducible apply wpF_val); (focus (intro vs w' hE hk; (obtain ⟨d0, d1, d2, d3, d4, d5, d6, d7, d8⟩ := KS.out w' hE); go_simp; exact ⟨Below.refl _ _, rfl⟩)); (simp only [Act.put, List.setIfInBounds_toArray, List.set_cons_zero, List.set_cons_succ, List.cons_append, List.nil_append])
  (with_reducible apply wpF_val); (focus (intro vs w' hE hk; (obtain ⟨d0, d1, d2, d3, d4, d5, d6, d7, d8⟩ := KS.out w' hE); go_simp; refine (CF.out _).mono ?_; rintro _ w9 ⟨rfl, b⟩; exact ⟨_, rfl, b, rfl⟩)); (simp only [Act.put, List.setIfInBounds_toArray, List.set_cons_zero, List.set_cons_succ, List.cons_append, List.nil_append])
  refine wpF_nil (fun vs w' hE hk => ?_)
  have V2 := Lib.hid (V1.out.keep hE)
  have F2 := Lib.hid (F1.out.below (by omega) hE)
  have B2 := Lib.hid (B1.out.trans (hE.mono (by omega)))
  have z2 : w1.heap.size ≤ w'.heap.size := hE.size
  clear hE hk
  have q0 : w'.cell? ⟨w.heap.size, 0, none⟩ = some (.float .f32 0) := V2.out.2 0 (by simp)
  have q1 : w'.cell? ⟨w.heap.size, 1, none⟩ = some (.float .f32 0) := V2.out.2 1 (by simp)
  have q2 : w'.cell? ⟨w.heap.size, 2, none⟩ = some (.float .f32 0) := V2.out.2 2 (by simp)
  have q3 : w'.cell? ⟨w.heap.size, 3, none⟩ = some (.float .f32 0) := V2.out.2 3 (by simp)
  have q4 : w'.cell? ⟨w.heap.size, 4, none⟩ = some (.float .f32 0) := V2.out.2 4 (by simp)
  have q5 : w'.cell? ⟨w.heap.size, 5, none⟩ = some (.float .f32 0) := V2.out.2 5 (by simp)
  have q6 : w'.cell? ⟨w.heap.size, 6, none⟩ = some (.float .f32 0) := V2.out.2 6 (by simp)
  have q7 : w'.cell? ⟨w.heap.size, 7, none⟩ = some (.float .f32 0) := V2.out.2 7 (by simp)
  have q8 : w'.cell? ⟨w.heap.size, 8, none⟩ = some (.float .f32 0) := V2.out.2 8 (by simp)
  have f0 := F2.out 0
  have f1 := F2.out 1
  have f2 := F2.out 2
  have f3 := F2.out 3
  have f4 := F2.out 4
  have f5 := F2.out 5
  have f6 := F2.out 6
  have f7 := F2.out 7
  have f8 := F2.out 8
  go_wp2_with fail
  refine bodyPost_ret (v := .tuple #[.agg #[.float .f32 (pick .f32 (fat zs 0) n0), .float .f32 (pick .f32 (fat zs 1) n1), .float .f32 (pick .f32 (fat zs 2) n2), .float .f32 (pick .f32 (fat zs 3) n3), .float .f32 (pick .f32 (fat zs 4) n4), .float .f32 (pick .f32 (fat zs 5) n5), .float .f32 (pick .f32 (fat zs 6) n6), .float .f32 (pick .f32 (fat zs 7) n7), .float .f32 (pick .f32 (fat zs 8) n8)], .bool (fin9 zs)]) (by simp [results, fin9, Try.results63, q0, q1, q2, q3, q4, q5, q6, q7, q8, go_sem]) rfl ⟨zs, (fun i => ([n0, n1, n2, n3, n4, n5, n6, n7, n8] : List Nat).getD i 0), by rw [HM.out]; rfl, fun _ => rfl, (((((((((B2.out.setCell (Nat.le_refl _) _).setCell (Nat.le_refl _) _).setCell (Nat.le_refl _) _).setCell (Nat.le_refl _) _).setCell (Nat.le_refl _) _).setCell (Nat.le_refl _) _).setCell (Nat.le_refl _) _).setCell (Nat.le_refl _) _).setCell (Nat.le_refl _) _)⟩

/-! ### iJoinM -/
theorem c_iJoinMatrices (zA : List Nat) (aA : Option Addr) (cA : Nat) (zB : List Nat) (aB : Option Addr) (cB : Nat) (w : World) (rA : IsRowF .f32 w aA zA.length cA zA) (rB : IsRowF .f32 w aB zB.length cB zB) : Calls Try.prog 22 #[.slice aA zA.length cA, .slice aB zB.length cB] w (RetL 87 (joinM zA zB) w) := by
  have CA := Lib.hid (c_matrixOf zA aA cA w rA)
  have RB := Lib.hid rB
  obtain ⟨res, hres0⟩ : ∃ q, q = joinM zA zB := ⟨_, rfl⟩
  rw [← hres0]
  have HR := Lib.hid hres0
  clear hres0 rA rB
  go_enter Try.func22, Try.ntmps22
  go_wp2_with fail
  refine CA.out.mono ?_
  rintro _ w1 ⟨z1, p1, rfl, hz1, b1⟩
  have HZ1 := Lib.hid hz1
  obtain ⟨N1, hN1⟩ : ∃ N, N = w1.alloc (.cells #[.float .f32 (pick .f32 (fat z1 0) (p1 0)), .float .f32 (pick .f32 (fat z1 1) (p1 1)), .float .f32 (pick .f32 (fat z1 2) (p1 2)), .float .f32 (pick .f32 (fat z1 3) (p1 3)), .float .f32 (pick .f32 (fat z1 4) (p1 4)), .float .f32 (pick .f32 (fat z1 5) (p1 5)), .float .f32 (pick .f32 (fat z1 6) (p1 6)), .float .f32 (pick .f32 (fat z1 7) (p1 7)), .float .f32 (pick .f32 (fat z1 8) (p1 8))] 87) := ⟨_, rfl⟩
  have VA := Lib.hid (hN1 ▸ Var.new w1 #[.float .f32 (pick .f32 (fat z1 0) (p1 0)), .float .f32 (pick .f32 (fat z1 1) (p1 1)), .float .f32 (pick .f32 (fat z1 2) (p1 2)), .float .f32 (pick .f32 (fat z1 3) (p1 3)), .float .f32 (pick .f32 (fat z1 4) (p1 4)), .float .f32 (pick .f32 (fat z1 5) (p1 5)), .float .f32 (pick .f32 (fat z1 6) (p1 6)), .float .f32 (pick .f32 (fat z1 7) (p1 7)), .float .f32 (pick .f32 (fat z1 8) (p1 8))] 87)
  have B1 := Lib.hid (b1.trans (show Below w.heap.size w1 N1 from hN1 ▸ (Below.refl _ _).alloc b1.size _))
  have sz1 : N1.heap.size = w1.heap.size + 1 := by rw [hN1]; simp
  have HN1 := Lib.hid hN1.symm
  have zw : w.heap.size ≤ w1.heap.size := b1.size
  clear b1 hz1 hN1 CA
  go_wp2_with fail
  rw [HN1.out]
  refine (c_matrixOf zB aB cB N1 (RB.out.below B1.out)).mono ?_
  rintro _ w2 ⟨z2, p2, rfl, hz2, b2⟩
  have HZ2 := Lib.hid hz2
  have VA2 := Lib.hid (VA.out.keep b2)
  have zz : N1.heap.size ≤ w2.heap.size := b2.size
  have B2 := Lib.hid (B1.out.trans (b2.mono B1.out.size))
  clear b2 hz2 HN1 VA B1
  cases hA : matB zA
  · have HX := Lib.hid (HR.out.trans (joinM_no (.inl hA)))
    clear hA
    go_wp2_with fail
    go_ret2
    rw [HX.out]
    exact RetL.no rfl (B2.out.alloc B2.out.size _)
  cases hB : matB zB
  · have HX := Lib.hid (HR.out.trans (joinM_no (.inr hB)))
    clear hA hB
    go_wp2_with fail
    go_ret2
    rw [HX.out]
    exact RetL.no rfl (B2.out.alloc B2.out.size _)
  obtain rfl : z1 = zA := HZ1.out hA
  obtain rfl : z2 = zB := HZ2.out hB
  have HX := Lib.hid (show res = listR (joinML z1 z2) by rw [HR.out]; unfold joinM; rw [hA, hB]; rfl)
  clear hA hB HZ1 HZ2 HR
  obtain ⟨N2, hN2⟩ : ∃ N, N = w2.alloc (.cells #[.float .f32 (pick .f32 (fat z2 0) (p2 0)), .float .f32 (pick .f32 (fat z2 1) (p2 1)), .float .f32 (pick .f32 (fat z2 2) (p2 2)), .float .f32 (pick .f32 (fat z2 3) (p2 3)), .float .f32 (pick .f32 (fat z2 4) (p2 4)), .float .f32 (pick .f32 (fat z2 5) (p2 5)), .float .f32 (pick .f32 (fat z2 6) (p2 6)), .float .f32 (pick .f32 (fat z2 7) (p2 7)), .float .f32 (pick .f32 (fat z2 8) (p2 8))] 87) := ⟨_, rfl⟩
  have VB := Lib.hid (hN2 ▸ Var.new w2 #[.float .f32 (pick .f32 (fat z2 0) (p2 0)), .float .f32 (pick .f32 (fat z2 1) (p2 1)), .float .f32 (pick .f32 (fat z2 2) (p2 2)), .float .f32 (pick .f32 (fat z2 3) (p2 3)), .float .f32 (pick .f32 (fat z2 4) (p2 4)), .float .f32 (pick .f32 (fat z2 5) (p2 5)), .float .f32 (pick .f32 (fat z2 6) (p2 6)), .float .f32 (pick .f32 (fat z2 7) (p2 7)), .float .f32 (pick .f32 (fat z2 8) (p2 8))] 87)
  have E2 : Below w2.heap.size w2 N2 := hN2 ▸ (Below.refl _ _).alloc (Nat.le_refl _) _
  have sz2 : N2.heap.size = w2.heap.size + 1 := by rw [hN2]; simp
  have VA3 := Lib.hid (VA2.out.keep E2)
  have B3 := Lib.hid (B2.out.trans (E2.mono B2.out.size))
  obtain ⟨N3, hN3⟩ : ∃ N, N = N2.alloc (.cells #[.float .f32 0, .float .f32 0, .float .f32 0, .float .f32 0, .float .f32 0, .float .f32 0, .float .f32 0, .float .f32 0, .float .f32 0] 87) := ⟨_, rfl⟩
  have VJ : Var N3 (w2.heap.size + 1) #[.float .f32 0, .float .f32 0, .float .f32 0, .float .f32 0, .float .f32 0, .float .f32 0, .float .f32 0, .float .f32 0, .float .f32 0] := hN3 ▸ Var.new' N2 #[.float .f32 0, .float .f32 0, .float .f32 0, .float .f32 0, .float .f32 0, .float .f32 0, .float .f32 0, .float .f32 0, .float .f32 0] 87 _ sz2.symm
  have FJ : Free N3 (w2.heap.size + 1) := hN3 ▸ Free.new' N2 #[.float .f32 0, .float .f32 0, .float .f32 0, .float .f32 0, .float .f32 0, .float .f32 0, .float .f32 0, .float .f32 0, .float .f32 0] 87 _ sz2.symm
  have hJ0 : JP z1 z2 (w2.heap.size + 1) N2 0 0 N3 := ⟨hN3 ▸ (Below.refl _ _).alloc (by omega) _, FJ, VJ.lt, fun c hc => ⟨0, by
    have e : PJ z1 z2 0 0 c = 0 := by unfold PJ; rw [if_neg (by omega)]; split <;> rfl
    rw [e, pick00]; exact var9z VJ c hc⟩⟩
  have J0 := Lib.hid hJ0
  rw [hN2] at hN3
  have HN := Lib.hid hN3.symm
  clear hJ0 VJ FJ hN3 hN2 E2 VA2 B2
  go_wp2_with fail
  rw [HN.out]
  clear HN
  go_loopw [11, 12, 13, 14, 31] (fun _ _ _ _ i wr => ∃ t : Nat, t ≤ 9 ∧ i = .int .i64 t ∧ JP z1 z2 (w2.heap.size + 1) N2 t 0 wr) (fun _ _ _ _ i _ => 9 - (intOf i).toNat)
  case atStart => exact ⟨0, by omega, rfl, J0.out⟩
  case round =>
    obtain ⟨t, ht, rfl, hJ⟩ := hrel
    have HJ := Lib.hid hJ
    clear hJ
    by_cases hlt : t < 9
    · have mt : (t : Int).tmod 3 = ((t % 3 : Nat) : Int) := by rw [Int.tmod_eq_emod_of_nonneg (by omega), Int.natCast_emod]; rfl
      have mt2 : (t : Int) % 3 = ((t % 3 : Nat) : Int) := by omega
      have mq0 : (t : Int).tdiv 3 = ((t / 3 : Nat) : Int) := by rw [Int.tdiv_eq_ediv_of_nonneg (by omega), Int.natCast_ediv]; rfl
      have mq2 : (t : Int) / 3 = ((t / 3 : Nat) : Int) := by omega
      have hI : t / 3 < 3 := by omega
      have hK : t % 3 < 3 := by omega
      have HA := Lib.hid (fun j => PJ_at z1 z2 t j)
      generalize t / 3 = I at *
      generalize t % 3 = K at *
      have mq : IntKind.i64.wrap (I : Int) = (I : Int) := IntWalk.i64_in _ (by omega)
      go_wp2_with fail
      go_loopw [14, 38] (fun _ i wr => ∃ j : Nat, j ≤ 3 ∧ i = .int .i64 j ∧ JP z1 z2 (w2.heap.size + 1) N2 t j wr) (fun _ i _ => 3 - (intOf i).toNat)
      case atStart => exact ⟨0, by omega, rfl, HJ.out⟩
      case round =>
        obtain ⟨j, hj, rfl, hJ⟩ := hrel
        have HJ2 := Lib.hid hJ
        clear hJ
        by_cases hlj : j < 3
        · obtain ⟨nJ, cJ⟩ := HJ2.out.2.2.2 t hlt
          rw [HA.out j] at cJ
          have HS := Lib.hid (show PJ z1 z2 t (j + 1) t = fop .add .f32 (sumJ z1 z2 I K j) (fop .mul .f32 (fat z1 (3 * I + j)) (fat z2 (3 * j + K))) from HA.out (j + 1))
          have hP1 : 3 * I + j < 9 := by omega
          have hP2 : 3 * j + K < 9 := by omega
          have bA : w1.heap.size < w2.heap.size + 1 := by omega
          have cA := var9 (VA3.out.below HJ2.out.1 bA) (3 * I + j) hP1
          have cB := var9 (VB.out.below HJ2.out.1 (by omega)) (3 * j + K) hP2
          have fJ := HJ2.out.2.1 t
          have hJs := HJ2.out.2.2.1
          have W1 : IntKind.i64.wrap (3 * (I : Int)) = ((3 * I : Nat) : Int) := by rw [IntWalk.i64_in _ (by omega)]; omega
          have W3 : IntKind.i64.wrap (3 * (j : Int)) = ((3 * j : Nat) : Int) := by rw [IntWalk.i64_in _ (by omega)]; omega
          generalize sumJ z1 z2 I K j = S at *
          have W2 : IntKind.i64.wrap (((3 * I : Nat) : Int) + (j : Int)) = ((3 * I + j : Nat) : Int) := by rw [IntWalk.i64_in _ (by omega)]; omega
          have W4 : IntKind.i64.wrap (((3 * j : Nat) : Int) + (K : Int)) = ((3 * j + K : Nat) : Int) := by rw [IntWalk.i64_in _ (by omega)]; omega
          generalize 3 * I + j = P1 at *
          generalize 3 * j + K = P2 at *
          generalize 3 * I = Q1 at *
          generalize 3 * j = Q2 at *
          have KS := Lib.hid (fun (w' : World) (hE : Below wr.heap.size wr w') => (⟨(hE.cell (p := ⟨w2.heap.size + 1, t, none⟩) hJs).trans cJ, (hE.cell (p := ⟨w1.heap.size, P1, none⟩) (by show w1.heap.size < _; omega)).trans cA, (hE.cell (p := ⟨w2.heap.size, P2, none⟩) (by show w2.heap.size < _; omega)).trans cB, (hE.frozen (p := ⟨w2.heap.size + 1, t, none⟩) hJs).trans fJ⟩ : _ ∧ _ ∧ _ ∧ _))
          have g1 : (t : Int) < 9 := by omega
          have g2 : (P1 : Int) < 9 := by omega
          have g3 : (P2 : Int) < 9 := by omega
          clear cA cB cJ fJ
          go_wp2_with fail
          refine wp_region_facts 18 (fun a b => Below a.heap.size a b) (fun _ => Below.refl _ _) (fun _ _ _ h h' => h.trans (h'.mono h.size)) (Below.refl _ _).drew (by kernel_rfl) (by kernel_rfl) (by kernel_rfl) (by kernel_rfl) ?_
          simp only [List.take_succ_cons, List.take_zero, List.drop_succ_cons, List.drop_zero]
          (with_reducible apply wpF_val); (focus (intro vs w' hE hk; (obtain ⟨cj, ca, cb, fj⟩ := KS.out w' hE); go_simp; exact ⟨Below.refl _ _, rfl⟩)); (simp only [Act.put, List.setIfInBounds_toArray, List.set_cons_zero, List.set_cons_succ, List.cons_append, List.nil_append])
          (with_reducible apply wpF_val); (focus (intro vs w' hE hk; (obtain ⟨cj, ca, cb, fj⟩ := KS.out w' hE); go_simp; exact ⟨Below.refl _ _, rfl⟩)); (simp only [Act.put, List.setIfInBounds_toArray, List.set_cons_zero, List.set_cons_succ, List.cons_append, List.nil_append])
          (with_reducible apply wpF_val); (focus (intro vs w' hE hk; (obtain ⟨cj, ca, cb, fj⟩ := KS.out w' hE); go_simp; exact ⟨Below.refl _ _, rfl⟩)); (simp only [Act.put, List.setIfInBounds_toArray, List.set_cons_zero, List.set_cons_succ, List.cons_append, List.nil_append])
          (with_reducible apply wpF_val); (focus (intro vs w' hE hk; (obtain ⟨cj, ca, cb, fj⟩ := KS.out w' hE); go_simp; exact ⟨Below.refl _ _, rfl⟩)); (simp only [Act.put, List.setIfInBounds_toArray, List.set_cons_zero, List.set_cons_succ, List.cons_append, List.nil_append])
          (with_reducible apply wpF_val); (focus (intro vs w' hE hk; (obtain ⟨cj, ca, cb, fj⟩ := KS.out w' hE); go_simp; exact ⟨Below.refl _ _, rfl⟩)); (simp only [Act.put, List.setIfInBounds_toArray, List.set_cons_zero, List.set_cons_succ, List.cons_append, List.nil_append])
          (with_reducible apply wpF_val); (focus (intro vs w' hE hk; (obtain ⟨cj, ca, cb, fj⟩ := KS.out w' hE); go_simp; exact ⟨Below.refl _ _, rfl⟩)); (simp only [Act.put, List.setIfInBounds_toArray, List.set_cons_zero, List.set_cons_succ, List.cons_append, List.nil_append])
          (with_reducible apply wpF_val); (focus (intro vs w' hE hk; (obtain ⟨cj, ca, cb, fj⟩ := KS.out w' hE); go_simp; exact ⟨Below.refl _ _, rfl⟩)); (simp only [Act.put, List.setIfInBounds_toArray, List.set_cons_zero, List.set_cons_succ, List.cons_append, List.nil_append])
          (with_reducible apply wpF_val); (focus (intro vs w' hE hk; (obtain ⟨cj, ca, cb, fj⟩ := KS.out w' hE); go_simp; exact ⟨Below.refl _ _, rfl⟩)); (simp only [Act.put, List.setIfInBounds_toArray, List.set_cons_zero, List.set_cons_succ, List.cons_append, List.nil_append])
          (with_reducible apply wpF_val); (focus (intro vs w' hE hk; (obtain ⟨cj, ca, cb, fj⟩ := KS.out w' hE); go_simp; exact ⟨Below.refl _ _, rfl⟩)); (simp only [Act.put, List.setIfInBounds_toArray, List.set_cons_zero, List.set_cons_succ, List.cons_append, List.nil_append])
          (with_reducible apply wpF_val); (focus (intro vs w' hE hk; (obtain ⟨cj, ca, cb, fj⟩ := KS.out w' hE); go_simp; exact ⟨Below.refl _ _, rfl⟩)); (simp only [Act.put, List.setIfInBounds_toArray, List.set_cons_zero, List.set_cons_succ, List.cons_append, List.nil_append])
          (with_reducible apply wpF_val); (focus (intro vs w' hE hk; (obtain ⟨cj, ca, cb, fj⟩ := KS.out w' hE); go_simp; exact ⟨Below.refl _ _, rfl⟩)); (simp only [Act.put, List.setIfInBounds_toArray, List.set_cons_zero, List.set_cons_succ, List.cons_append, List.nil_append])
          (with_reducible apply wpF_val); (focus (intro vs w' hE hk; (obtain ⟨cj, ca, cb, fj⟩ := KS.out w' hE); go_simp; exact ⟨Below.refl _ _, rfl⟩)); (simp only [Act.put, List.setIfInBounds_toArray, List.set_cons_zero, List.set_cons_succ, List.cons_append, List.nil_append])
          (with_reducible apply wpF_val); (focus (intro vs w' hE hk; (obtain ⟨cj, ca, cb, fj⟩ := KS.out w' hE); go_simp; exact ⟨Below.refl _ _, rfl⟩)); (simp only [Act.put, List.setIfInBounds_toArray, List.set_cons_zero, List.set_cons_succ, List.cons_append, List.nil_append])
          (with_reducible apply wpF_val); (focus (intro vs w' hE hk; (obtain ⟨cj, ca, cb, fj⟩ := KS.out w' hE); go_simp; exact ⟨Below.refl _ _, rfl⟩)); (simp only [Act.put, List.setIfInBounds_toArray, List.set_cons_zero, List.set_cons_succ, List.cons_append, List.nil_append])
          (with_reducible apply wpF_val); (focus (intro vs w' hE hk; (obtain ⟨cj, ca, cb, fj⟩ := KS.out w' hE); go_simp; exact ⟨Below.refl _ _, rfl⟩)); (simp only [Act.put, List.setIfInBounds_toArray, List.set_cons_zero, List.set_cons_succ, List.cons_append, List.nil_append])
          refine wpF_fact (fun u _ => ∃ m, u = .float .f32 (pick .f32 (fop .mul .f32 (fat z1 P1) (fat z2 P2)) m)) (fun _ _ _ h _ => h) (fun vs w' hE hk => ?_) ?_; (focus (rw [if_pos (by rfl)]; refine uponW_fop _ _ _ _ _ rfl .f32 _ _ rfl rfl (by decide) (fun n' m' => ⟨below_drewN (Below.refl _ _) _, n', by simp only [fop_pick_l, fop_pick_r]⟩))); (simp only [Act.put, List.setIfInBounds_toArray, List.set_cons_zero, List.set_cons_succ, List.cons_append, List.nil_append])
          refine wpF_fact (fun u _ => ∃ m, u = .float .f32 (pick .f32 (fop .add .f32 S (fop .mul .f32 (fat z1 P1) (fat z2 P2))) m)) (fun _ _ _ h _ => h) (fun vs w' hE hk => ?_) ?_; (focus (obtain ⟨n1, hn1⟩ := hk 15 (by kernel_rfl); simp only [hn1]; rw [if_pos (by rfl)]; refine uponW_fop _ _ _ _ _ rfl .f32 _ _ rfl rfl (by decide) (fun n' m' => ⟨below_drewN (Below.refl _ _) _, n', by simp only [fop_pick_l, fop_pick_r]⟩))); (simp only [Act.put, List.setIfInBounds_toArray, List.set_cons_zero, List.set_cons_succ, List.cons_append, List.nil_append])
          (with_reducible apply wpF_val); (focus (intro vs w' hE hk; (obtain ⟨cj, ca, cb, fj⟩ := KS.out w' hE); go_simp; exact ⟨Below.refl _ _, rfl⟩)); (simp only [Act.put, List.setIfInBounds_toArray, List.set_cons_zero, List.set_cons_succ, List.cons_append, List.nil_append])
          refine wpF_nil (fun vs w' hE hk => ?_)
          obtain ⟨m5, h5⟩ := hk 16
          obtain ⟨cj, ca, cb, fj⟩ := KS.out w' hE
          have J2 := Lib.hid (HJ2.out.step hE hlt (n := m5) (fop .add .f32 S (fop .mul .f32 (fat z1 P1) (fat z2 P2))) HS.out.symm)
          simp only [h5]
          clear hE hk h5
          go_wp2_with fail
          go_roundw
          case rel => exact ⟨j + 1, by omega, by go_num, J2.out⟩
          case measure => simp [intOf]; omega
        · obtain rfl : j = 3 := by omega
          go_wp2_with fail
          go_roundw
          case rel => exact ⟨t + 1, by omega, by go_num, HJ2.out.next⟩
          case measure => simp [intOf]; omega
    · obtain rfl : t = 9 := by omega
      have hb := HJ.out.1
      obtain ⟨n0, c0⟩ := HJ.out.2.2.2 0 (by omega)
      rw [show PJ z1 z2 9 0 0 = sumJ z1 z2 0 0 3 from rfl] at c0
      obtain ⟨n1, c1⟩ := HJ.out.2.2.2 1 (by omega)
      rw [show PJ z1 z2 9 0 1 = sumJ z1 z2 0 1 3 from rfl] at c1
      obtain ⟨n2, c2⟩ := HJ.out.2.2.2 2 (by omega)
      rw [show PJ z1 z2 9 0 2 = sumJ z1 z2 0 2 3 from rfl] at c2
      obtain ⟨n3, c3⟩ := HJ.out.2.2.2 3 (by omega)
      rw [show PJ z1 z2 9 0 3 = sumJ z1 z2 1 0 3 from rfl] at c3
      obtain ⟨n4, c4⟩ := HJ.out.2.2.2 4 (by omega)
      rw [show PJ z1 z2 9 0 4 = sumJ z1 z2 1 1 3 from rfl] at c4
      obtain ⟨n5, c5⟩ := HJ.out.2.2.2 5 (by omega)
      rw [show PJ z1 z2 9 0 5 = sumJ z1 z2 1 2 3 from rfl] at c5
      obtain ⟨n6, c6⟩ := HJ.out.2.2.2 6 (by omega)
      rw [show PJ z1 z2 9 0 6 = sumJ z1 z2 2 0 3 from rfl] at c6
      obtain ⟨n7, c7⟩ := HJ.out.2.2.2 7 (by omega)
      rw [show PJ z1 z2 9 0 7 = sumJ z1 z2 2 1 3 from rfl] at c7
      obtain ⟨n8, c8⟩ := HJ.out.2.2.2 8 (by omega)
      rw [show PJ z1 z2 9 0 8 = sumJ z1 z2 2 2 3 from rfl] at c8
      have B9 := Lib.hid (B3.out.trans (hb.mono (by omega)))
      have zr : w2.heap.size + 1 < wr.heap.size := HJ.out.2.2.1
      have CL := Lib.hid (c_listOf (sumJ z1 z2 0 0 3) (sumJ z1 z2 0 1 3) (sumJ z1 z2 0 2 3) (sumJ z1 z2 1 0 3) (sumJ z1 z2 1 1 3) (sumJ z1 z2 1 2 3) (sumJ z1 z2 2 0 3) (sumJ z1 z2 2 1 3) (sumJ z1 z2 2 2 3) n0 n1 n2 n3 n4 n5 n6 n7 n8 wr (by intro x hx; simp only [List.mem_cons, List.not_mem_nil, or_false] at hx; rcases hx with rfl | rfl | rfl | rfl | rfl | rfl | rfl | rfl | rfl <;> exact sumJ_lt _ _ _ _))
      clear hb
      go_wp2_with fail
      refine CL.out.mono ?_
      rintro _ w9 ⟨a9, cap9, rfl, hl9, b9, o9⟩
      have B10 := Lib.hid (B9.out.trans (b9.mono (by omega)))
      have O9 := Lib.hid (o9.mono (B' := w.heap.size) (by omega))
      clear b9 o9 c0 c1 c2 c3 c4 c5 c6 c7 c8
      go_wp2_with fail
      go_ret2
      rw [HX.out]
      exact ⟨_, _, rfl, hl9, B10.out, O9.out⟩
/-! ### FnExactJoinMatrices -/
set_option maxHeartbeats 8000000 in
theorem walkG (zA : List Nat) (aA : Option Addr) (cA : Nat) (zB : List Nat) (aB : Option Addr) (cB : Nat) (w : World) (r : List Nat × Bool) (cS : ∀ (aA : Option Addr) (cA : Nat) (aB : Option Addr) (cB : Nat) (w : World), IsRowF .f32 w aA zA.length cA zA → IsRowF .f32 w aB zB.length cB zB → Calls Try.prog 21 #[.slice aA zA.length cA, .slice aB zB.length cB] w (RetL 23 r w)) (cI : ∀ (aA : Option Addr) (cA : Nat) (aB : Option Addr) (cB : Nat) (w : World), IsRowF .f32 w aA zA.length cA zA → IsRowF .f32 w aB zB.length cB zB → Calls Try.prog 22 #[.slice aA zA.length cA, .slice aB zB.length cB] w (RetL 87 r w)) (rA : IsRowF .f32 w aA zA.length cA zA) (hlA : zA.length ≤ 1048576) (rB : IsRowF .f32 w aB zB.length cB zB) (hlB : zB.length ≤ 1048576) : Calls Try.prog 4 #[.slice aA zA.length cA, .slice aB zB.length cB] w fun e w' => e = .returned (.bool true) ∧ Below w.heap.size w w' := by
  have CS := Lib.hid cS
  have CI := Lib.hid cI
  clear cS cI
  have RA := Lib.hid rA
  have RB := Lib.hid rB
  clear rA rB
  go_enter Try.func4, Try.ntmps4
  go_wp2_with fail
  refine (c_toO aA zA.length cA zA _ RA.out (by omega)).mono ?_
  rintro _ w1 ⟨gtA, rfl, b, o⟩
  have LtA := Lib.hid o.in
  have OtA_1 := Lib.hid o
  clear o
  have B_1 := Lib.hid ((Below.refl w.heap.size w).trans (b.mono (by omega)))
  have S_1 : w.heap.size ≤ w1.heap.size := b.size
  clear b
  go_wp2_with fail
  refine (c_toO aB zB.length cB zB _ (RB.out.below B_1.out) (by omega)).mono ?_
  rintro _ w2 ⟨gtB, rfl, b, o⟩
  have LtB := Lib.hid o.in
  have OtB_2 := Lib.hid o
  clear o
  have OtA_2 := Lib.hid (OtA_1.out.below b)
  have B_2 := Lib.hid (B_1.out.trans (b.mono (by omega)))
  have S_2 : w1.heap.size ≤ w2.heap.size := b.size
  clear b
  clear OtA_1 B_1
  go_wp2_with fail
  refine (CS.out _ _ _ _ _ OtA_2.out.row OtB_2.out.row).mono ?_
  rintro _ w3 ⟨au, cu, rfl, hrlu, b, o⟩
  have Lu := Lib.hid o.in
  have Ou_3 := Lib.hid o
  clear o
  have OtA_3 := Lib.hid (OtA_2.out.below b)
  have OtB_3 := Lib.hid (OtB_2.out.below b)
  have B_3 := Lib.hid (B_2.out.trans (b.mono (by omega)))
  have S_3 : w2.heap.size ≤ w3.heap.size := b.size
  clear b
  clear OtA_2 OtB_2 B_2
  clear OtA_3 LtA
  clear OtB_3 LtB
  go_wp2_with fail
  refine (c_toO aA zA.length cA zA _ (RA.out.below B_3.out) (by omega)).mono ?_
  rintro _ w4 ⟨gxA, rfl, b, o⟩
  have LxA := Lib.hid o.in
  have OxA_4 := Lib.hid o
  clear o
  have Ou_4 := Lib.hid (Ou_3.out.below b)
  have B_4 := Lib.hid (B_3.out.trans (b.mono (by omega)))
  have S_4 : w3.heap.size ≤ w4.heap.size := b.size
  clear b
  clear Ou_3 B_3
  go_wp2_with fail
  refine (c_toO aB zB.length cB zB _ (RB.out.below B_4.out) (by omega)).mono ?_
  rintro _ w5 ⟨gxB, rfl, b, o⟩
  have LxB := Lib.hid o.in
  have OxB_5 := Lib.hid o
  clear o
  have Ou_5 := Lib.hid (Ou_4.out.below b)
  have OxA_5 := Lib.hid (OxA_4.out.below b)
  have B_5 := Lib.hid (B_4.out.trans (b.mono (by omega)))
  have S_5 : w4.heap.size ≤ w5.heap.size := b.size
  clear b
  clear Ou_4 OxA_4 B_4
  go_wp2_with fail
  refine (CI.out _ _ _ _ _ OxA_5.out.row OxB_5.out.row).mono ?_
  rintro _ w6 ⟨ag, cg, rfl, hrlg, b, o⟩
  have Lg := Lib.hid o.in
  have Og_6 := Lib.hid o
  clear o
  have Ou_6 := Lib.hid (Ou_5.out.below b)
  have OxA_6 := Lib.hid (OxA_5.out.below b)
  have OxB_6 := Lib.hid (OxB_5.out.below b)
  have B_6 := Lib.hid (B_5.out.trans (b.mono (by omega)))
  have S_6 : w5.heap.size ≤ w6.heap.size := b.size
  clear b
  clear Ou_5 OxA_5 OxB_5 B_5
  go_wp2_with fail
  refine (c_eqF0 _ _ _ _ _ _ _ Og_6.out.row Ou_6.out.row).mono ?_
  rintro _ _ ⟨jx, rfl, rfl⟩
  have b : Below w6.heap.size w6 (w6.drewN jx) := below_drewN (Below.refl _ _) _
  generalize w6.drewN jx = w7 at *
  have Ou_7 := Lib.hid (Ou_6.out.below b)
  have OxA_7 := Lib.hid (OxA_6.out.below b)
  have OxB_7 := Lib.hid (OxB_6.out.below b)
  have Og_7 := Lib.hid (Og_6.out.below b)
  have B_7 := Lib.hid (B_6.out.trans (b.mono (by omega)))
  have S_7 : w6.heap.size ≤ w7.heap.size := b.size
  clear b
  clear Ou_6 OxA_6 OxB_6 Og_6 B_6
  go_wp2_with fail
  refine (c_toO aA zA.length cA zA _ (RA.out.below B_7.out) (by omega)).mono ?_
  rintro _ w8 ⟨gtc, rfl, b, o⟩
  have Ltc := Lib.hid o.in
  have Otc_8 := Lib.hid o
  clear o
  have Ou_8 := Lib.hid (Ou_7.out.below b)
  have OxA_8 := Lib.hid (OxA_7.out.below b)
  have OxB_8 := Lib.hid (OxB_7.out.below b)
  have Og_8 := Lib.hid (Og_7.out.below b)
  have B_8 := Lib.hid (B_7.out.trans (b.mono (by omega)))
  have S_8 : w7.heap.size ≤ w8.heap.size := b.size
  clear b
  clear Ou_7 OxA_7 OxB_7 Og_7 B_7
  go_wp2_with fail
  refine (c_eqF0 _ _ _ _ _ _ _ OxA_8.out.row Otc_8.out.row).mono ?_
  rintro _ _ ⟨jx, rfl, rfl⟩
  have b : Below w8.heap.size w8 (w8.drewN jx) := below_drewN (Below.refl _ _) _
  generalize w8.drewN jx = w9 at *
  have Ou_9 := Lib.hid (Ou_8.out.below b)
  have OxA_9 := Lib.hid (OxA_8.out.below b)
  have OxB_9 := Lib.hid (OxB_8.out.below b)
  have Og_9 := Lib.hid (Og_8.out.below b)
  have Otc_9 := Lib.hid (Otc_8.out.below b)
  have B_9 := Lib.hid (B_8.out.trans (b.mono (by omega)))
  have S_9 : w8.heap.size ≤ w9.heap.size := b.size
  clear b
  clear Ou_8 OxA_8 OxB_8 Og_8 Otc_8 B_8
  clear Otc_9 Ltc
  go_wp2_with fail
  refine (c_toO aB zB.length cB zB _ (RB.out.below B_9.out) (by omega)).mono ?_
  rintro _ w10 ⟨gtc, rfl, b, o⟩
  have Ltc := Lib.hid o.in
  have Otc_10 := Lib.hid o
  clear o
  have Ou_10 := Lib.hid (Ou_9.out.below b)
  have OxA_10 := Lib.hid (OxA_9.out.below b)
  have OxB_10 := Lib.hid (OxB_9.out.below b)
  have Og_10 := Lib.hid (Og_9.out.below b)
  have B_10 := Lib.hid (B_9.out.trans (b.mono (by omega)))
  have S_10 : w9.heap.size ≤ w10.heap.size := b.size
  clear b
  clear Ou_9 OxA_9 OxB_9 Og_9 B_9
  go_wp2_with fail
  refine (c_eqF0 _ _ _ _ _ _ _ OxB_10.out.row Otc_10.out.row).mono ?_
  rintro _ _ ⟨jx, rfl, rfl⟩
  have b : Below w10.heap.size w10 (w10.drewN jx) := below_drewN (Below.refl _ _) _
  generalize w10.drewN jx = w11 at *
  have Ou_11 := Lib.hid (Ou_10.out.below b)
  have OxA_11 := Lib.hid (OxA_10.out.below b)
  have OxB_11 := Lib.hid (OxB_10.out.below b)
  have Og_11 := Lib.hid (Og_10.out.below b)
  have Otc_11 := Lib.hid (Otc_10.out.below b)
  have B_11 := Lib.hid (B_10.out.trans (b.mono (by omega)))
  have S_11 : w10.heap.size ≤ w11.heap.size := b.size
  clear b
  clear Ou_10 OxA_10 OxB_10 Og_10 Otc_10 B_10
  clear Otc_11 Ltc
  go_wp2_with fail
  refine (c_markF _ _ _ _ (1) _ _ OxA_11.out (by omega)).mono ?_
  rintro _ w12 ⟨rfl, b, o⟩
  have On := Lib.hid o
  clear o
  have Ou_12 := Lib.hid (Ou_11.out.kept b (blk_apart Lu.out LxA.out (by omega)))
  have OxB_12 := Lib.hid (OxB_11.out.kept b (blk_apart LxB.out LxA.out (by omega)))
  have Og_12 := Lib.hid (Og_11.out.kept b (blk_apart Lg.out LxA.out (by omega)))
  have B_12 := Lib.hid (B_11.out.grown b (by omega) (fun k e => by have := LxA.out k e; omega))
  have S_12 : w11.heap.size ≤ w12.heap.size := b.size
  clear b
  clear Ou_11 OxA_11 OxB_11 Og_11 B_11
  have OxA_12 := Lib.hid On.out
  clear On
  go_wp2_with fail
  refine (c_markF _ _ _ _ ((1 + zA.length)) _ _ OxB_12.out (by omega)).mono ?_
  rintro _ w13 ⟨rfl, b, o⟩
  have On := Lib.hid o
  clear o
  have Ou_13 := Lib.hid (Ou_12.out.kept b (blk_apart Lu.out LxB.out (by omega)))
  have OxA_13 := Lib.hid (OxA_12.out.kept b (blk_apart LxA.out LxB.out (by omega)))
  have Og_13 := Lib.hid (Og_12.out.kept b (blk_apart Lg.out LxB.out (by omega)))
  have B_13 := Lib.hid (B_12.out.grown b (by omega) (fun k e => by have := LxB.out k e; omega))
  have S_13 : w12.heap.size ≤ w13.heap.size := b.size
  clear b
  clear Ou_12 OxA_12 OxB_12 Og_12 B_12
  have OxB_13 := Lib.hid On.out
  clear On
  have hk : ¬ (((((1 + zA.length) + zB.length) : Nat) : Int) < 0) := by omega
  clear OxA_13 LxA
  clear OxB_13 LxB
  go_wp2_with fail
  refine (c_eqF0 _ _ _ _ _ _ _ Og_13.out.row Ou_13.out.row).mono ?_
  rintro _ _ ⟨jx, rfl, rfl⟩
  have b : Below w13.heap.size w13 (w13.drewN jx) := below_drewN (Below.refl _ _) _
  generalize w13.drewN jx = w14 at *
  have Ou_14 := Lib.hid (Ou_13.out.below b)
  have Og_14 := Lib.hid (Og_13.out.below b)
  have B_14 := Lib.hid (B_13.out.trans (b.mono (by omega)))
  have S_14 : w13.heap.size ≤ w14.heap.size := b.size
  clear b
  clear Ou_13 Og_13 B_13
  go_wp2_with fail
  refine (c_markF _ _ _ _ (1) _ _ Og_14.out (by omega)).mono ?_
  rintro _ w15 ⟨rfl, b, o⟩
  have On := Lib.hid o
  clear o
  have Ou_15 := Lib.hid (Ou_14.out.kept b (blk_apart Lu.out Lg.out (by omega)))
  have B_15 := Lib.hid (B_14.out.grown b (by omega) (fun k e => by have := Lg.out k e; omega))
  have S_15 : w14.heap.size ≤ w15.heap.size := b.size
  clear b
  clear Ou_14 Og_14 B_14
  have Og_15 := Lib.hid On.out
  clear On
  go_wp2_with fail
  refine (c_heldF _ _ _ (1) _ Og_15.out.row (by omega)).mono ?_
  rintro _ wq ⟨rfl, eq⟩
  rw [eq]
  clear eq wq
  have hq : ¬ (((1 + r.1.length : Nat) : Int) < 0) := by omega
  go_wp2_with fail
  refine (c_toO aA zA.length cA zA _ (RA.out.below B_15.out) (by omega)).mono ?_
  rintro _ w16 ⟨gtA, rfl, b, o⟩
  have LtA := Lib.hid o.in
  have OtA_16 := Lib.hid o
  clear o
  have Ou_16 := Lib.hid (Ou_15.out.below b)
  have Og_16 := Lib.hid (Og_15.out.below b)
  have B_16 := Lib.hid (B_15.out.trans (b.mono (by omega)))
  have S_16 : w15.heap.size ≤ w16.heap.size := b.size
  clear b
  clear Ou_15 Og_15 B_15
  go_wp2_with fail
  refine (c_toO aB zB.length cB zB _ (RB.out.below B_16.out) (by omega)).mono ?_
  rintro _ w17 ⟨gtB, rfl, b, o⟩
  have LtB := Lib.hid o.in
  have OtB_17 := Lib.hid o
  clear o
  have Ou_17 := Lib.hid (Ou_16.out.below b)
  have Og_17 := Lib.hid (Og_16.out.below b)
  have OtA_17 := Lib.hid (OtA_16.out.below b)
  have B_17 := Lib.hid (B_16.out.trans (b.mono (by omega)))
  have S_17 : w16.heap.size ≤ w17.heap.size := b.size
  clear b
  clear Ou_16 Og_16 OtA_16 B_16
  go_wp2_with fail
  refine (CI.out _ _ _ _ _ OtA_17.out.row OtB_17.out.row).mono ?_
  rintro _ w18 ⟨ah, ch, rfl, hrlh, b, o⟩
  have Lh := Lib.hid o.in
  have Oh_18 := Lib.hid o
  clear o
  have Ou_18 := Lib.hid (Ou_17.out.below b)
  have Og_18 := Lib.hid (Og_17.out.below b)
  have OtA_18 := Lib.hid (OtA_17.out.below b)
  have OtB_18 := Lib.hid (OtB_17.out.below b)
  have B_18 := Lib.hid (B_17.out.trans (b.mono (by omega)))
  have S_18 : w17.heap.size ≤ w18.heap.size := b.size
  clear b
  clear Ou_17 Og_17 OtA_17 OtB_17 B_17
  clear OtA_18 LtA
  clear OtB_18 LtB
  go_wp2_with fail
  refine (c_eqF0 _ _ _ _ _ _ _ Oh_18.out.row Ou_18.out.row).mono ?_
  rintro _ _ ⟨jx, rfl, rfl⟩
  have b : Below w18.heap.size w18 (w18.drewN jx) := below_drewN (Below.refl _ _) _
  generalize w18.drewN jx = w19 at *
  have Ou_19 := Lib.hid (Ou_18.out.below b)
  have Og_19 := Lib.hid (Og_18.out.below b)
  have Oh_19 := Lib.hid (Oh_18.out.below b)
  have B_19 := Lib.hid (B_18.out.trans (b.mono (by omega)))
  have S_19 : w18.heap.size ≤ w19.heap.size := b.size
  clear b
  clear Ou_18 Og_18 Oh_18 B_18
  go_wp2_with fail
  refine (c_heldF _ _ _ (1) _ Og_19.out.row (by omega)).mono ?_
  rintro _ wq ⟨rfl, eq⟩
  rw [eq]
  clear eq wq
  go_wp2_with fail
  go_ret
  exact ⟨rfl, B_19.out⟩
theorem walkRA (zA : List Nat) (aA : Option Addr) (cA : Nat) (zB : List Nat) (aB : Option Addr) (cB : Nat) (w : World) (rA : IsRowF .f32 w aA zA.length cA zA) (rB : IsRowF .f32 w aB zB.length cB zB) (gC : 1048576 < zA.length) : Calls Try.prog 4 #[.slice aA zA.length cA, .slice aB zB.length cB] w fun e w' => e = .returned (.bool true) ∧ Below w.heap.size w w' := by
  go_enter Try.func4, Try.ntmps4
  go_wp2_with fail
  go_ret
  exact ⟨rfl, by first | exact Below.refl _ _ | exact (Below.refl _ _).alloc (Nat.le_refl _) _ | exact ((Below.refl _ _).alloc (Nat.le_refl _) _).alloc (by simp) _⟩
theorem walkRB (zA : List Nat) (aA : Option Addr) (cA : Nat) (zB : List Nat) (aB : Option Addr) (cB : Nat) (w : World) (rA : IsRowF .f32 w aA zA.length cA zA) (rB : IsRowF .f32 w aB zB.length cB zB) (hlA : ¬ 1048576 < zA.length) (gC : 1048576 < zB.length) : Calls Try.prog 4 #[.slice aA zA.length cA, .slice aB zB.length cB] w fun e w' => e = .returned (.bool true) ∧ Below w.heap.size w w' := by
  go_enter Try.func4, Try.ntmps4
  go_wp2_with fail
  go_ret
  exact ⟨rfl, by first | exact Below.refl _ _ | exact (Below.refl _ _).alloc (Nat.le_refl _) _ | exact ((Below.refl _ _).alloc (Nat.le_refl _) _).alloc (by simp) _⟩
theorem walk (aA : Option Addr) (lenA cA : Nat) (zA : List Nat) (aB : Option Addr) (lenB cB : Nat) (zB : List Nat) (w : World) (rA : IsRowF .f32 w aA lenA cA zA) (rB : IsRowF .f32 w aB lenB cB zB) : Calls Try.prog 4 #[.slice aA lenA cA, .slice aB lenB cB] w fun e w' => e = .returned (.bool true) ∧ Below w.heap.size w w' := by
  obtain rfl := rA.1
  obtain rfl := rB.1
  by_cases gCA : 1048576 < zA.length
  · exact walkRA zA aA cA zB aB cB w rA rB gCA
  by_cases gCB : 1048576 < zB.length
  · exact walkRB zA aA cA zB aB cB w rA rB gCA gCB
  exact walkG zA aA cA zB aB cB w (joinM zA zB) (fun aA cA aB cB w rA rB => c_sJoinMatrices zA aA cA zB aB cB w rA rB ) (fun aA cA aB cB w rA rB => c_iJoinMatrices zA aA cA zB aB cB w rA rB ) rA (by omega) rB (by omega)
theorem own : ownKnob Try.prog.godebug = none := by kernel_rfl
theorem laidOut : laidOutB Try.prog = true := by kernel_rfl
set_option maxRecDepth 100000 in
theorem lifted (os : Os) (started : os.Started) (H : Type) (enc : TypeId × Value → H) :
    ReturnsInHanded {} Try.checked os 4 .any (Rows.fnExactJoinMatricesSpec.pre6 enc Try.prog Try.f4 Rows.fnExactJoinMatricesRow.domain false) (Rows.fnExactJoinMatricesSpec.post enc Try.prog Try.f4 false true false false) := by
  refine returnsInHanded_of_change (C := Try.checked) own started (by kernel_rfl) Try.func4
    (ChangeSpec.witness6 (enc := enc) (C := Try.checked) false ⟨#[], #[.slice none 0 0, .slice none 0 0], []⟩ 8 (by kernel_rfl) (by kernel_rfl) (by kernel_rfl) (by kernel_rfl)) ?_
  intro W base args ds gs before hval0 hW hcnd _
  have hval : ∀ (j : Nat) t v, Try.f4.params[j]? = some t → args[j]? = some v → Value.okWide Try.prog W .any base t v := hval0
  have hW' := hW
  obtain ⟨p, q, hA0, hV, rfl, hfz, hnd⟩ := hW
  have hA : DataW.TrodAll enc Try.prog W 0 (fun _ => true) true Try.f4.params.toList args.toList ds p := hA0
  rw [Try.params4] at hA hval
  obtain ⟨v0, vs0, d0, ds0, p0, q0, hargs, rfl, rfl, h0, r0⟩ := trodAll_cons hA
  obtain ⟨v1, vs1, d1, ds1, p1, q1, rfl, rfl, rfl, h1, r1⟩ := trodAll_cons r0
  obtain ⟨rfl, rfl, rfl⟩ := trodAll_nil r1
  obtain rfl : args = #[v0, v1] := by cases args; simp_all
  obtain ⟨rfl, rfl⟩ := trodVars_none hV
  obtain ⟨a0, len0, cap0, rfl⟩ := okWide_slice Try.underlying22 (hval 0 22 v0 rfl rfl)
  have k0 := h0
  have lt0 : ∀ x ∈ p0, x.block < W.heap.size := by obtain ⟨m, hm⟩ := k0; exact DataW.trod_lt m _ _ _ hm
  obtain ⟨z0, w0⟩ := rowF_of Try.underlying22 Try.underlying23 (by kernel_rfl) h0
  obtain ⟨a1, len1, cap1, rfl⟩ := okWide_slice Try.underlying22 (hval 1 22 v1 rfl rfl)
  have k1 := h1
  have lt1 : ∀ x ∈ p1, x.block < W.heap.size := by obtain ⟨m, hm⟩ := k1; exact DataW.trod_lt m _ _ _ hm
  obtain ⟨z1, w1⟩ := rowF_of Try.underlying22 Try.underlying23 (by kernel_rfl) h1
  clear hA0 hval0
  have hw0 : Calls Try.prog 4 #[.slice a0 len0 cap0, .slice a1 len1 cap1] W fun e w' => e = .returned (.bool true) ∧ Below W.heap.size W w' := by
    exact walk a0 len0 cap0 z0 a1 len1 cap1 z1 W w0 w1
  refine hw0.mono fun e W' ⟨he, bel⟩ => ?_
  subst he
  exact ⟨_, rfl, _, _, _, [], _, [], hW', trodAll_mk1 (shut_bool Try.underlying4 _), (trodAll_cons_mk (Below.trod laidOut (by kernel_rfl) (of_decide_eq_true (by kernel_rfl)) k0 bel lt0) (trodAll_cons_mk (Below.trod laidOut (by kernel_rfl) (of_decide_eq_true (by kernel_rfl)) k1 bel lt1) trodAll_mk0)), rfl, bel.frame _, fun h => by cases h⟩

theorem over : Rows.fnExactJoinMatricesRow.holds Try.pinned (OpenSpec.ofChange Rows.fnExactJoinMatricesSpec) :=
  OpenClaim.holds_of_wide 4 Try.f4 rfl rfl rfl rfl rfl rfl rfl ⟨rfl, rfl, rfl, rfl, rfl⟩ rfl rfl rfl rfl rfl (by kernel_rfl) Try.func4 (by kernel_rfl)
    (of_decide_eq_true (by kernel_rfl)) (by unfold Func.isWrapper; first | (rw [if_pos (by decide +kernel)]; kernel_rfl) | (rw [if_neg (by decide +kernel)]; exact ⟨rfl, rfl⟩))
    (fun os started H enc _ => lifted os started H enc)

theorem proved : Rows.FnExactJoinMatricesSaid := over
#print axioms proved

end Go.Proofs.Ytmngedfibmnohac.fnExactJoinMatrices

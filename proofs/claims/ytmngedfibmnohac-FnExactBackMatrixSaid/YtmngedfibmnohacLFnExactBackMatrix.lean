/-
  FnExactBackMatrix: for every input this law of the program returns true, and each argument reads as before. No condition.
-/
import Derived.Test.YtmngedfibmnohacRows
import Derived.Test.YtmngedfibmnohacRow
import Derived.Test.YtmngedfibmnohacMn
import Derived.Test.YtmngedfibmnohacOw
import Derived.Test.YtmngedfibmnohacAp
import Derived.ProofKit
import Derived.OpenShut
import Derived.ShutString
import Derived.ChangeOld
import Derived.Below
import Derived.Lib.Hide
import Derived.Outline
import Derived.Deep.RegionHeld3
import Derived.Deep.DeepCutAuto
set_option linter.unusedSimpArgs false
set_option linter.unusedVariables false
set_option exponentiation.threshold 2000
set_option maxRecDepth 20000
set_option maxHeartbeats 4000000
namespace Go.Proofs.Ytmngedfibmnohac.fnExactBackMatrix
open Go Go.Proofs.Ytmngedfibmnohac Go.Proofs
open Go.ChangeShapes Go.WideShapes Go.ChangeAt Go.RowKit
open Go.ChangeMaps (open_string shut_string)
/-! ### listDefs -/
/-- Of a new list of floats and a bool. -/
def RetL (T : TypeId) (r : List Nat × Bool) (w : World) (e : Ending) (w' : World) : Prop :=
  ∃ a cap, e = .returned (.tuple #[.slice a r.1.length cap, .bool r.2]) ∧ r.1.length ≤ 1048576 ∧ Below w.heap.size w w' ∧ Own T w' w.heap.size a r.1.length cap r.1
def TupL (T : TypeId) (B : Nat) (r : List Nat × Bool) (u : Value) (w : World) : Prop := ∃ a c, u = .tuple #[.slice a r.1.length c, .bool r.2] ∧ r.1.length ≤ 1048576 ∧ Own T w B a r.1.length c r.1
def SlcL (T : TypeId) (B : Nat) (r : List Nat × Bool) (u : Value) (w : World) : Prop := ∃ a c, u = .slice a r.1.length c ∧ r.1.length ≤ 1048576 ∧ Own T w B a r.1.length c r.1
def BooL (r : List Nat × Bool) (u : Value) : Prop := ∃ x : Bool, u = .bool x ∧ x = r.2
theorem RetL.no {T : TypeId} {w : World} {e : Ending} {w' : World} (h : e = .returned (.tuple #[.slice none 0 0, .bool false])) (b : Below w.heap.size w w') : RetL T ([], false) w e w' :=
  ⟨none, 0, h, Nat.zero_le _, b, Own.nil _ _ _⟩
/-! ### toOwn -/
theorem infoFo : (Try.prog.info? 23).map (fun i => (i.zero, i.size, i.bytes)) = some (some (.float .f32 0), 1, 4) := by kernel_rfl
theorem c_toO (a : Option Addr) (len cap : Nat) (zs : List Nat) (w : World) (hr : IsRowF .f32 w a len cap zs) (hl : len ≤ 1048576) : Calls Try.prog 16 #[.slice a len cap] w (NewO 23 len zs w) := by
  obtain ⟨i0, hi, hz0, hz1, hz2⟩ := info_parts infoFo
  obtain ⟨h1, h2, h3, h4, h5⟩ := hr
  go_enter Try.func16, Try.ntmps16
  go_wp2_with (at_make; refine wpList_make_full _ rfl _ _ 22 rfl w.heap.size 23 i0 (.float .f32 0) 1 Try.underlying22 hi hz0 hz1 _ _ _ _ len rfl rfl rfl rfl (by rw [hz2]; omega) (by unfold maxLen; omega) (by simp) ?_; intro w1 hown hgrow)
  have hblk := block_of_owns hown
  have e0 : (madeCells (Value.float FloatKind.f32 0).cells (len * 1)).toList = List.replicate len (.float .f32 0) := by rw [Nat.mul_one]; exact made_zeros _ _
  rw [e0] at hblk
  have hbel : Below w.heap.size w w1 := (Below.refl _ _).grown hgrow (Nat.le_refl _) (by simp)
  have HB := Lib.hid hblk
  clear hown hgrow hblk e0 hz0 hz1 hz2
  go_loopw [4] (fun i wr => ∃ j : Nat, j ≤ len ∧ i = .int .i64 j ∧ Below w.heap.size w wr ∧ wr.heap[w.heap.size]? = some (.cells (fl .f32 (zs.take j) ++ List.replicate (zs.length - j) (Value.float .f32 0)).toArray 23 (0, 0))) (fun i _ => len - (intOf i).toNat)
  case atStart => exact ⟨0, Nat.zero_le _, rfl, hbel, by rw [HB.out, h1]; rfl⟩
  case round =>
    obtain ⟨j, hj, rfl, hb, hblk⟩ := hrel
    have Hblk := Lib.hid hblk
    clear hblk
    by_cases hlt : j < len
    · rcases h5 with h5 | ⟨b, off, rfl, hbl, hc⟩
      · omega
      have hcell : wr.cell? ⟨b, off + j, none⟩ = some (.float .f32 (fat zs j)) := by rw [hb.cell (p := ⟨b, off + j, none⟩) hbl]; exact hc j hlt
      have hold : wr.cell? ⟨w.heap.size, j, none⟩ = some (.float .f32 0) := by
        rw [cell_of_block Hblk.out, List.getElem?_append_right (by simp [fl]; omega)]
        have e : (fl FloatKind.f32 (List.take j zs)).length = j := by simp [fl]; omega
        rw [e, Nat.sub_self, List.getElem?_replicate, if_pos (by omega)]
      have hfz : wr.frozen? ⟨w.heap.size, j, none⟩ = false := frozen_of_block Hblk.out j
      have hset := block_set Hblk.out j (.float .f32 (fat zs j))
      rw [set_step zs _ j (by omega)] at hset
      have Hset := Lib.hid hset
      clear hset hc
      go_wp2
      go_roundw
      case rel => exact ⟨j + 1, by omega, by go_num, hb.setCell (Nat.le_refl _) _, Hset.out⟩
      case measure => simp [intOf]; omega
    · obtain rfl : j = len := by omega
      have e1 : fl .f32 (zs.take j) ++ List.replicate (zs.length - j) (Value.float .f32 0) = fl .f32 zs := by rw [h1, Nat.sub_self, List.replicate_zero, List.append_nil, List.take_of_length_le (by omega)]
      have hblk2 := Hblk.out
      rw [e1] at hblk2
      have hown : Own 23 wr w.heap.size (some ⟨w.heap.size, 0, none⟩) j j zs :=
        ⟨h1, ⟨by simp [fl, h1], .inr ⟨w.heap.size, j, _, rfl, Nat.le_refl _, hblk2, Nat.le_refl _, by unfold maxLen; omega, by simp [fl, h1], by rw [List.take_of_length_le (by simp [fl, h1])]⟩⟩, h4⟩
      have HO := Lib.hid hown
      clear hown hblk2 e1
      go_wp2
      go_ret
      exact ⟨w.heap.size, rfl, hb, HO.out⟩
/-! ### sameFloat -/
theorem c_sameFloat (v n m : Nat) (w : World) (j : Nat) : Calls Try.prog 51 #[.float .f64 (pick .f64 v n), .float .f64 (pick .f64 v m)] (w.drewN j) (RetV (.bool true) w) := by
  have hs := self_ne .f64 v
  have ht := self_eq .f64 v
  cases h : isN .f64 v
  · rw [h] at hs ht
    cases h2 : (FloatKind.f64.format.order v 0 == some .eq)
    · go_enter Try.func51, Try.ntmps51
      go_wp2_with (first | (refine wpList_fop rfl _ _ _ _ _ rfl _ _ _ rfl rfl (by decide) _ ?_; intro _ _) | (refine upon_fop _ _ _ _ _ (by decide) ?_; intro _ _))
      go_ret
      exact ⟨_, rfl, rfl⟩
    · go_enter Try.func51, Try.ntmps51
      go_wp2_with (first | (refine wpList_fop rfl _ _ _ _ _ rfl _ _ _ rfl rfl (by decide) _ ?_; intro _ _) | (refine upon_fop _ _ _ _ _ (by decide) ?_; intro _ _))
      go_ret
      exact ⟨_, by simp, rfl⟩
  · rw [h] at hs ht
    go_enter Try.func51, Try.ntmps51
    go_wp2_with (first | (refine wpList_fop rfl _ _ _ _ _ rfl _ _ _ rfl rfl (by decide) _ ?_; intro _ _) | (refine upon_fop _ _ _ _ _ (by decide) ?_; intro _ _))
    go_ret
    exact ⟨_, rfl, rfl⟩

/-! ### eqFloat32S -/
theorem c_eqF (a b : Option Addr) (len c d : Nat) (zs : List Nat) (w : World) (j0 : Nat) (hr : IsRowF .f32 w a len c zs) (hs : IsRowF .f32 w b len d zs) : Calls Try.prog 20 #[.slice a len c, .slice b len d] (w.drewN j0) (RetV (.bool true) w) := by
  obtain ⟨h1, h2, h3, h4, h5⟩ := hr
  obtain ⟨g1, g2, g3, g4, g5⟩ := hs
  unfold maxLen at h3
  go_enter Try.func20, Try.ntmps20
  go_wp2
  go_loopw [5] (fun i wr => ∃ k m : Nat, k ≤ len ∧ i = .int .i64 k ∧ wr = w.drewN m) (fun i _ => len - (intOf i).toNat)
  case atStart => exact ⟨0, j0, Nat.zero_le _, rfl, rfl⟩
  case round =>
    obtain ⟨k, m, hk, rfl, rfl⟩ := hrel
    by_cases hlt : k < len
    · rcases h5 with h5 | ⟨x, off, rfl, hbl, hc⟩
      · omega
      rcases g5 with g5 | ⟨y, off2, rfl, gbl, gc⟩
      · omega
      have hcell : w.cell? ⟨x, off + k, none⟩ = some (.float .f32 (fat zs k)) := hc k hlt
      have gcell : w.cell? ⟨y, off2 + k, none⟩ = some (.float .f32 (fat zs k)) := gc k hlt
      clear hc h4 gc g4
      go_wp2
      refine wp_region_N (fun _ _ u => u = .bool true) (by kernel_rfl) (by kernel_rfl) ?_; (repeat (first | ((with_reducible show wpN _ _ _ _ _ (Oper.mk _ (Op.binOp _ _ _ _ _) _ _ _ none :: _) _); refine wpN_fop rfl _ _ _ _ _ rfl _ _ _ rfl rfl (by decide) ?_; intro _) | ((with_reducible show wpN _ _ _ _ _ (Oper.mk _ (Op.convert _ _ _) _ _ _ none :: _) _); refine wpN_cvU rfl 23 70 _ rfl (Option.isSome_iff_exists.2 ⟨_, Try.underlying23⟩) Try.underlying70 _ rfl ?_; intro _) | ((with_reducible show wpN _ _ _ _ _ (Oper.mk _ _ _ _ _ (some _) :: _) _); (with_reducible refine wpN_off ?_ ?_); focus rfl; (simp only [Act.put, List.setIfInBounds_toArray, List.set_cons_zero, List.set_cons_succ])) | ((with_reducible show wpN _ _ _ _ _ (Oper.mk _ _ _ _ _ (some _) :: _) _); ((with_reducible refine wpN_on ?_ (fun K hK => ?_)); (focus rfl); intro _; go_simp; first | (refine uponN_value (hK _ ?_)) | ((refine uponN_call (callN rfl (c_sameFloat _ _ _ _ _)) ?_; intro u hu; obtain rfl : u = _ := hu); refine hK _ ?_)); clear hK K) | (((with_reducible refine wpN_plain rfl (fun K hK => ?_)); intro _; go_simp; first | (refine uponN_value (hK _ ?_)) | ((refine uponN_call (callN rfl (c_sameFloat _ _ _ _ _)) ?_; intro u hu; obtain rfl : u = _ := hu); refine hK _ ?_)); clear hK K) | ((with_reducible refine wpN_step (fun K hK => ?_)); go_simp; first | (refine hK _ ?_) | (intro _; first | (refine uponN_value (hK _ ?_)) | ((refine uponN_call (callN rfl (c_sameFloat _ _ _ _ _)) ?_; intro u hu; obtain rfl : u = _ := hu); refine hK _ ?_)); clear hK K))); refine wpN_nil ?_; intro _
      go_wp2
      go_roundw
      case rel => exact ⟨k + 1, _, by omega, by go_num, rfl⟩
      case measure => simp [intOf]; omega
    · clear h5 h4 g4 g5
      go_wp2
      go_ret
      exact ⟨_, rfl, rfl⟩
/-! ### eqPicture -/
theorem c_eqF0 (a b : Option Addr) (len c d : Nat) (zs : List Nat) (w : World) (hr : IsRowF .f32 w a len c zs) (hs : IsRowF .f32 w b len d zs) : Calls Try.prog 20 #[.slice a len c, .slice b len d] w (RetV (.bool true) w) := by
  have h := c_eqF a b len c d zs w 0 hr hs
  rwa [w.drewN_zero] at h
theorem c_eqP (W H : Int) (a b : Option Addr) (len c d : Nat) (zs : List Nat) (w : World) (hr : IsRowF .f32 w a len c zs) (hs : IsRowF .f32 w b len d zs) : Calls Try.prog 35 #[.agg #[.int .i64 W, .int .i64 H, .slice a len c], .agg #[.int .i64 W, .int .i64 H, .slice b len d]] w (RetB (.bool true) w) := by
  have HR := Lib.hid hr
  have HS := Lib.hid hs
  clear hr hs
  go_enter Try.func35, Try.ntmps35
  go_wp2_with fail
  refine (c_eqF0 a b len c d zs _ ((HR.out.alloc _).alloc _) ((HS.out.alloc _).alloc _)).mono ?_
  rintro _ _ ⟨m, rfl, rfl⟩
  go_wp2_with fail
  go_ret
  exact ⟨rfl, below_drewN (((Below.refl _ _).alloc (Nat.le_refl _) _).alloc (by simp) _) _⟩
/-! ### markFloat32S -/
theorem c_markF {T : TypeId} (B : Nat) (a : Option Addr) (len cap k : Nat) (zs : List Nat) (w : World) (hr : Own T w B a len cap zs) (hk : k + len ≤ 4611686018427387904) : Calls Try.prog 23 #[.slice a len cap, .int .i64 k] w (fun e w' => e = .returned (.int .i64 ((k + len : Nat) : Int)) ∧ w.grownBy w' (blk a) ∧ Own T w' B a len cap (marks k len)) := by
  rcases hr.parts with ⟨rfl, rfl, rfl, rfl⟩ | ⟨g, cur, rfl, hb, hg, hl, hm, hs, ht⟩
  · clear hr
    go_enter Try.func23, Try.ntmps23
    go_wp2
    refine wp_loop_rounds 1 ?_; rw [rounds_succ]
    go_wp2
    go_ret
    exact ⟨rfl, ⟨rfl, rfl, rfl, Nat.le_refl _, fun _ _ _ => rfl⟩, Own.nil _ _ _⟩
  · have h0 : Marked w g T cap k 0 := ⟨cur, hg, hs, fun i hi => by omega⟩
    have H0 := Lib.hid h0
    unfold maxLen at hm
    clear hr hg hs ht h0
    go_enter Try.func23, Try.ntmps23
    go_wp2
    go_loopw [1, 5] (fun t i wr => ∃ j : Nat, j ≤ len ∧ i = .int .i64 j ∧ t = .int .i64 ((k + j : Nat) : Int) ∧ w.grownBy wr (some g) ∧ Marked wr g T cap k j) (fun _ i _ => len - (intOf i).toNat)
    case atStart => exact ⟨0, Nat.zero_le _, rfl, rfl, ⟨rfl, rfl, rfl, Nat.le_refl _, fun _ _ _ => rfl⟩, H0.out⟩
    case round =>
      obtain ⟨j, hj, rfl, rfl, hgr, hM⟩ := hrel
      by_cases hlt : j < len
      · obtain ⟨v, hcell, hfz⟩ := hM.cell (j := j) (by omega)
        have hM2 := Lib.hid (hM.step (by omega : j < cap))
        have hG2 := Lib.hid hgr
        clear hM hgr
        go_wp2
        go_roundw
        case rel => exact ⟨j + 1, by omega, by go_num, by go_num, ⟨hG2.out.os, hG2.out.tape, hG2.out.output, by have := hG2.out.size; simpa using this, fun k' h1 h2 => by rw [Below.heap_setCell _ _ _ _ (fun e => h2 (by rw [e]))]; exact hG2.out.block k' h1 h2⟩, hM2.out⟩
        case measure => simp [intOf]; omega
      · obtain rfl : j = len := by omega
        have hO := Lib.hid (hM.own (B := B) hb hl (by unfold maxLen; omega))
        have hG2 := Lib.hid hgr
        clear hM hgr
        go_wp2
        go_ret
        exact ⟨rfl, hG2.out, hO.out⟩
/-! ### heldFloat32S -/
theorem c_heldF (a : Option Addr) (len cap k : Nat) (w : World) (hr : IsRowF .f32 w a len cap (marks k len)) (hk : k + len ≤ 4611686018427387904) : Calls Try.prog 24 #[.slice a len cap, .int .i64 k] w (fun e w' => e = .returned (.int .i64 ((k + len : Nat) : Int)) ∧ w' = w) := by
  obtain ⟨h1, h2, h3, h4, h5⟩ := hr
  unfold maxLen at h3
  clear h1 h4
  go_enter Try.func24, Try.ntmps24
  go_wp2
  go_loop [1, 5] (fun t i => ∃ j : Nat, j ≤ len ∧ i = .int .i64 j ∧ t = .int .i64 ((k + j : Nat) : Int)) (fun _ i => len - (intOf i).toNat)
  case atStart => exact ⟨0, Nat.zero_le _, rfl, rfl⟩
  case round =>
    obtain ⟨j, hj, rfl, rfl⟩ := hrel
    by_cases hlt : j < len
    · rcases h5 with h5 | ⟨b, off, rfl, hbl, hc⟩
      · omega
      have hcell : w.cell? ⟨b, off + j, none⟩ = some (.float .f32 (markN k j)) := by rw [← marks_at k len j hlt]; exact hc j hlt
      have hne : (FloatKind.f32.format.order (markN k j) (markN k j) != some .eq) = false := by rw [self_ne]; exact markN_notN k j
      have hE : floatOfInt .f32 ((k : Int) + (j : Int)) = markN k j := by unfold markN; rw [Int.natCast_add]
      have hne2 : (FloatKind.f32.format.order (markN k j) (floatOfInt .f32 ((k : Int) + (j : Int))) != some .eq) = false := (congrArg (fun x => FloatKind.f32.format.order (markN k j) x != some .eq) hE).trans hne
      clear hE
      clear hc
      go_wp2
      go_round
      case rel => exact ⟨j + 1, by omega, by go_num, by go_num⟩
      case measure => simp [intOf]; omega
    · obtain rfl : j = len := by omega
      clear h5
      go_wp2
      go_ret
      exact ⟨rfl, rfl⟩
/-! ### picDefs -/
def sideB (W H : Int) : Bool := decide (1 ≤ W) && decide (W ≤ 16) && (decide (1 ≤ H) && decide (H ≤ 16))
def finL (zs : List Nat) : Bool := zs.all (finB .f32)
def validB (W H : Int) (zs : List Nat) : Bool := sideB W H && decide ((zs.length : Int) = W * H) && finL zs
theorem sideB_true {W H : Int} (h : sideB W H = true) : (1 ≤ W ∧ W ≤ 16) ∧ 1 ≤ H ∧ H ≤ 16 := by simpa [sideB, and_assoc] using h
theorem side_mul {W H : Int} (h : sideB W H = true) : 1 ≤ W * H ∧ W * H ≤ 256 := by
  obtain ⟨⟨h1, h2⟩, h3, h4⟩ := sideB_true h
  have : W * H ≤ 16 * 16 := Int.mul_le_mul h2 h4 (by omega) (by omega)
  have h5 : 1 * 1 ≤ W * H := Int.mul_le_mul h1 h3 (by omega) (by omega)
  omega
theorem sideB_false {W H : Int} (h : sideB W H = false) : W < 1 ∨ 16 < W ∨ H < 1 ∨ 16 < H := by
  simp [sideB] at h; omega
theorem finL_snoc (zs : List Nat) (k : Nat) (hk : k < zs.length) : finL (zs.take (k + 1)) = (finL (zs.take k) && finB .f32 (fat zs k)) := by
  unfold finL fat
  rw [List.take_succ_eq_append_getElem hk, List.all_append, List.getD, List.getElem?_eq_getElem hk]; simp
theorem finL_of (zs : List Nat) (k : Nat) (hk : k < zs.length) (h : finB .f32 (fat zs k) = false) : finL zs = false := by
  unfold finL
  rw [List.all_eq_false]
  refine ⟨zs[k], List.getElem_mem hk, ?_⟩
  unfold fat at h
  rw [List.getD, List.getElem?_eq_getElem hk] at h
  simpa using h
theorem pick0 (k : FloatKind) (v : Nat) (hv : v < 2 ^ k.format.width) : ∃ n, v = pick k v n := pick_onto k v hv
/-! ### meanDefs -/
def meanV (zs : List Nat) : Nat := fop .quo .f32 (sumF .add .f32 0 zs) (floatOfInt .f32 (zs.length : Int))
def numR (v : Nat) : Nat × Bool := if finB .f32 v = true then (v, true) else (0, false)
def meanR (W H : Int) (zs : List Nat) : Nat × Bool := if validB W H zs = true then numR (meanV zs) else (0, false)
theorem mean_len {W H : Int} {zs : List Nat} (h : validB W H zs = true) : zs.length ≤ 256 := by
  simp only [validB, Bool.and_eq_true, decide_eq_true_eq] at h
  obtain ⟨⟨h1, h2⟩, h3⟩ := h
  have := side_mul h1
  omega
theorem pick00 : pick .f32 0 0 = 0 := pick_not (show isN .f32 0 = false from by decide +kernel) 0
/-! ### colDefs -/
def colB (r g b : Nat) : Bool := finB .f32 r && (finB .f32 g && finB .f32 b)
def greyV (r g b : Nat) : Nat := fop .add .f32 (fop .add .f32 (fop .mul .f32 1046066128 r) (fop .mul .f32 1060575065 g)) (fop .mul .f32 1033100696 b)
def greyR (r g b : Nat) : Nat × Bool := if colB r g b = true then numR (greyV r g b) else (0, false)
theorem retF1no {w : World} {e : Ending} {w' : World} (h : e = .returned (.tuple #[.float .f32 0, .bool false])) (hw : Below w.heap.size w w') : RetF1 (0, false) w e w' := ⟨0, by rw [h]; simp only [pick00], hw⟩
theorem fin3 (a b c n m l : Nat) : finL [pick .f32 a n, pick .f32 b m, pick .f32 c l] = colB a b c := by simp [finL, finB_pick, colB]
/-! ### matDefs -/
def fin9 (z : List Nat) : Bool := finB .f32 (fat z 0) && finB .f32 (fat z 1) && finB .f32 (fat z 2) && finB .f32 (fat z 3) && finB .f32 (fat z 4) && finB .f32 (fat z 5) && finB .f32 (fat z 6) && finB .f32 (fat z 7) && finB .f32 (fat z 8)
def matB (zs : List Nat) : Bool := decide (zs.length = 9) && finL zs
theorem fin9_eq {zs : List Nat} (h : zs.length = 9) : fin9 zs = finL zs := by
  obtain ⟨a0, a1, a2, a3, a4, a5, a6, a7, a8, rfl⟩ : ∃ a0 a1 a2 a3 a4 a5 a6 a7 a8, zs = [a0, a1, a2, a3, a4, a5, a6, a7, a8] := by
    match zs, h with
    | [a0, a1, a2, a3, a4, a5, a6, a7, a8], _ => exact ⟨a0, a1, a2, a3, a4, a5, a6, a7, a8, rfl⟩
  simp [fin9, finL, fat, Bool.and_assoc]
/-! ### l01Finite -/
theorem c_l01Finite (v n : Nat) (w : World) (j : Nat) : Calls Try.prog 93 #[.float .f32 (pick .f32 v n)] (w.drewN j) (RetV (.bool (finB .f32 v)) w) := by
  go_enter Try.func93, Try.ntmps93
  go_wp2_with (first | (refine wpList_fop rfl _ _ _ _ _ rfl _ _ _ rfl rfl (by decide) _ ?_; intro _ _) | (refine upon_fop _ _ _ _ _ (by decide) ?_; intro _ _))
  go_ret
  rw [← sub_self_zero]
  exact ⟨_, rfl, rfl⟩
/-! ### l02Finite -/
theorem c_l02Finite (a : Option Addr) (len cap : Nat) (zs : List Nat) (w : World) (j0 : Nat) (hr : IsRowF .f32 w a len cap zs) : Calls Try.prog 66 #[.slice a len cap] (w.drewN j0) (RetV (.bool (finL zs)) w) := by
  obtain ⟨h1, h2, h3, h4, h5⟩ := hr
  unfold maxLen at h3
  have H1 := Lib.hid h1
  clear h1
  go_enter Try.func66, Try.ntmps66
  go_wp2
  go_loopw [3] (fun i wr => ∃ k m : Nat, k ≤ len ∧ i = .int .i64 k ∧ wr = w.drewN m ∧ finL (zs.take k) = true) (fun i _ => len - (intOf i).toNat)
  case atStart => exact ⟨0, j0, Nat.zero_le _, rfl, rfl, rfl⟩
  case round =>
    obtain ⟨k, m, hk, rfl, rfl, hfin⟩ := hrel
    have HFin := Lib.hid hfin
    clear hfin
    by_cases hlt : k < len
    · rcases h5 with h5 | ⟨b, off, rfl, hbl, hc⟩
      · omega
      have hcell : w.cell? ⟨b, off + k, none⟩ = some (.float .f32 (fat zs k)) := hc k hlt
      obtain ⟨n, hn⟩ := pick0 .f32 (fat zs k) (lt_of_wf (h4 _ (by unfold fat; rw [List.getD, List.getElem?_eq_getElem (by have := H1.out; omega)]; exact List.getElem_mem _)))
      rw [hn] at hcell
      have HN := Lib.hid hn
      have HS := Lib.hid (finL_snoc zs k (by have := H1.out; omega))
      cases hf : finB .f32 (fat zs k)
      · have HO := Lib.hid (finL_of zs k (by have := H1.out; omega) hf)
        clear hc h4 hn
        go_wp2_with ((go_at_call 93; refine (c_l01Finite _ _ _ _).mono ?_; rintro _ _ ⟨_, rfl, rfl⟩))
        go_ret
        exact ⟨_, by rw [HO.out]; rfl, rfl⟩
      · have HF := Lib.hid hf
        clear hc h4 hn
        go_wp2_with ((go_at_call 93; refine (c_l01Finite _ _ _ _).mono ?_; rintro _ _ ⟨_, rfl, rfl⟩))
        go_roundw
        case rel => exact ⟨k + 1, _, by omega, by go_num, rfl, by rw [HS.out, HFin.out, HF.out]; rfl⟩
        case measure => simp [intOf]; omega
    · have e : zs.take k = zs := List.take_of_length_le (by have := H1.out; omega)
      have HE := Lib.hid e
      clear h5 h4 e
      go_wp2
      go_ret
      exact ⟨_, by have h := HFin.out; rw [HE.out] at h; rw [h]; rfl, rfl⟩
/-! ### l05Matrix -/
theorem c_l05Matrix (zs : List Nat) (a : Option Addr) (c : Nat) (w : World) (j : Nat) (hr : IsRowF .f32 w a zs.length c zs) : Calls Try.prog 60 #[.slice a zs.length c] (w.drewN j) (RetV (.bool (matB zs)) w) := by
  have CF := Lib.hid (fun j => c_l02Finite a zs.length c zs w j hr)
  have mA : zs.length ≤ maxLen := Nat.le_trans hr.2.1 hr.2.2.1
  unfold maxLen at mA
  clear hr
  unfold matB
  by_cases h9 : zs.length = 9
  · have e : ((zs.length : Int) == 9) = true := by rw [beq_iff_eq]; omega
    rw [decide_eq_true h9, Bool.true_and]
    generalize finL zs = q at *
    clear h9
    go_enter Try.func60, Try.ntmps60
    go_wp2_with ((go_at_call 66; refine (CF.out _).mono ?_; rintro _ _ ⟨_, rfl, rfl⟩))
    go_ret
    exact ⟨_, rfl, rfl⟩
  · have e : ((zs.length : Int) == 9) = false := by rw [beq_eq_false_iff_ne]; omega
    rw [decide_eq_false h9, Bool.false_and]
    clear h9
    go_enter Try.func60, Try.ntmps60
    go_wp2_with fail
    go_ret
    exact ⟨_, rfl, rfl⟩
/-! ### backDefs -/
def listR (l : List Nat) : List Nat × Bool := if finL l = true then (l, true) else ([], false)
def lessV (a b c d : Nat) : Nat := fop .sub .f32 (fop .mul .f32 a b) (fop .mul .f32 c d)
def backS (p q r a b c : Nat) : Nat := fop .add .f32 (fop .add .f32 (fop .mul .f32 a p) (fop .mul .f32 b q)) (fop .mul .f32 c r)
theorem own_new9 {T : TypeId} {w : World} {B g : Nat} {zs : List Nat} (hg : g = w.heap.size) (hB : B ≤ g) (hl : zs.length ≤ 1000) (hw : ∀ b ∈ zs, (Lit.float .f32 b).wf = true) : Own T (w.alloc (.cells (fl .f32 zs).toArray T)) B (some ⟨g, 0, none⟩) zs.length zs.length zs := by
  subst hg
  refine ⟨rfl, ⟨by simp [fl], .inr ⟨_, _, (fl .f32 zs).toArray, rfl, hB, heap_alloc_new w _, Nat.le_refl _, by unfold maxLen; omega, by simp [fl], by simp [fl, List.take_of_length_le]⟩⟩, hw⟩
theorem wf_lt {v : Nat} (h : v < 2 ^ FloatKind.f32.format.width) : (Lit.float .f32 v).wf = true := by
  have := pick_wf h 0
  cases hn : isN .f32 v
  · rwa [pick_not hn] at this
  · have hw : (2 : Nat) ^ FloatKind.f32.format.width = 4294967296 := by decide +kernel
    rw [hw] at h
    simp [Lit.wf, h]
/-! ### backRes -/
def backDet (z : List Nat) : Nat := backS (lessV (fat z 4) (fat z 8) (fat z 5) (fat z 7)) (lessV (fat z 5) (fat z 6) (fat z 3) (fat z 8)) (lessV (fat z 3) (fat z 7) (fat z 4) (fat z 6)) (fat z 0) (fat z 1) (fat z 2)
def backL (z : List Nat) : List Nat := [fop .quo .f32 (lessV (fat z 4) (fat z 8) (fat z 5) (fat z 7)) (backDet z), fop .quo .f32 (lessV (fat z 2) (fat z 7) (fat z 1) (fat z 8)) (backDet z), fop .quo .f32 (lessV (fat z 1) (fat z 5) (fat z 2) (fat z 4)) (backDet z), fop .quo .f32 (lessV (fat z 5) (fat z 6) (fat z 3) (fat z 8)) (backDet z), fop .quo .f32 (lessV (fat z 0) (fat z 8) (fat z 2) (fat z 6)) (backDet z), fop .quo .f32 (lessV (fat z 2) (fat z 3) (fat z 0) (fat z 5)) (backDet z), fop .quo .f32 (lessV (fat z 3) (fat z 7) (fat z 4) (fat z 6)) (backDet z), fop .quo .f32 (lessV (fat z 1) (fat z 6) (fat z 0) (fat z 7)) (backDet z), fop .quo .f32 (lessV (fat z 0) (fat z 4) (fat z 1) (fat z 3)) (backDet z)]
def backM (zs : List Nat) : List Nat × Bool := if (matB zs && !(FloatKind.f32.format.order (backDet zs) 0 == some .eq)) = true then listR (backL zs) else ([], false)
theorem backM_no {zs : List Nat} (h : matB zs = false ∨ (FloatKind.f32.format.order (backDet zs) 0 == some .eq) = true) : backM zs = ([], false) := by
  unfold backM
  rcases h with h | h <;> rw [h] <;> simp
/-! ### sLess -/
theorem c_sLess (a n b m c k d l : Nat) (w : World) (j : Nat) : Calls Try.prog 68 #[.float .f32 (pick .f32 a n), .float .f32 (pick .f32 b m), .float .f32 (pick .f32 c k), .float .f32 (pick .f32 d l)] (w.drewN j) (RetF .f32 (lessV a b c d) w) := by
  unfold lessV
  go_enter Try.func68, Try.ntmps68
  go_wp2_with (first | (refine wpList_fop rfl _ _ _ _ _ rfl _ _ _ rfl rfl (by decide) _ ?_; intro _ _) | (refine upon_fop _ _ _ _ _ (by decide) ?_; intro _ _))
  go_ret
  exact ⟨_, _, rfl, rfl⟩
theorem c_sLess0 (a n b m c k d l : Nat) (w : World) : Calls Try.prog 68 #[.float .f32 (pick .f32 a n), .float .f32 (pick .f32 b m), .float .f32 (pick .f32 c k), .float .f32 (pick .f32 d l)] w (RetF .f32 (lessV a b c d) w) := by
  have h := c_sLess a n b m c k d l w 0
  rwa [w.drewN_zero] at h
/-! ### sBackM -/
theorem c_sBackMatrix (zs : List Nat) (a : Option Addr) (c : Nat) (w : World) (hr : IsRowF .f32 w a zs.length c zs) : Calls Try.prog 25 #[.slice a zs.length c] w (RetL 23 (backM zs) w) := by
  have CM := Lib.hid (fun j => c_l05Matrix zs a c w j hr)
  obtain ⟨res, hres0⟩ : ∃ q, q = backM zs := ⟨_, rfl⟩
  rw [← hres0]
  have HR := Lib.hid hres0
  clear hres0
  cases hm : matB zs
  all_goals rw [hm] at CM
  · have HX := Lib.hid (HR.out.trans (backM_no (.inl hm)))
    clear hr hm
    rw [← w.drewN_zero]
    go_enter Try.func25, Try.ntmps25
    go_wp2_with (go_at_call 60; refine (CM.out _).mono ?_; rintro _ _ ⟨_, rfl, rfl⟩)
    go_ret2
    rw [HX.out]
    exact RetL.no rfl (below_drewN (Below.refl _ _) _)
  have h9 : zs.length = 9 := by unfold matB at hm; simp only [Bool.and_eq_true, decide_eq_true_eq] at hm; exact hm.1
  obtain ⟨bb, off, n0, rfl, hb, e0⟩ := hr.at (k := 0) (by omega)
  obtain ⟨b1, o1, n1, hab1, hb1, e1⟩ := hr.at (k := 1) (by omega)
  cases hab1
  obtain ⟨b2, o2, n2, hab2, hb2, e2⟩ := hr.at (k := 2) (by omega)
  cases hab2
  obtain ⟨b3, o3, n3, hab3, hb3, e3⟩ := hr.at (k := 3) (by omega)
  cases hab3
  obtain ⟨b4, o4, n4, hab4, hb4, e4⟩ := hr.at (k := 4) (by omega)
  cases hab4
  obtain ⟨b5, o5, n5, hab5, hb5, e5⟩ := hr.at (k := 5) (by omega)
  cases hab5
  obtain ⟨b6, o6, n6, hab6, hb6, e6⟩ := hr.at (k := 6) (by omega)
  cases hab6
  obtain ⟨b7, o7, n7, hab7, hb7, e7⟩ := hr.at (k := 7) (by omega)
  cases hab7
  obtain ⟨b8, o8, n8, hab8, hb8, e8⟩ := hr.at (k := 8) (by omega)
  cases hab8
  simp only [Nat.add_zero] at e0
  have hcap : 9 ≤ c := by have := hr.2.1; omega
  rw [h9] at CM ⊢
  have KS := Lib.hid (fun (w' : World) (hE : Below w.heap.size w w') => (⟨(hE.cell (p := ⟨bb, off, none⟩) hb).trans e0, (hE.cell (p := ⟨bb, off + 1, none⟩) hb).trans e1, (hE.cell (p := ⟨bb, off + 2, none⟩) hb).trans e2, (hE.cell (p := ⟨bb, off + 3, none⟩) hb).trans e3, (hE.cell (p := ⟨bb, off + 4, none⟩) hb).trans e4, (hE.cell (p := ⟨bb, off + 5, none⟩) hb).trans e5, (hE.cell (p := ⟨bb, off + 6, none⟩) hb).trans e6, (hE.cell (p := ⟨bb, off + 7, none⟩) hb).trans e7, (hE.cell (p := ⟨bb, off + 8, none⟩) hb).trans e8⟩ : w'.cell? ⟨bb, off, none⟩ = some (.float .f32 (pick .f32 (fat zs 0) n0)) ∧ w'.cell? ⟨bb, off + 1, none⟩ = some (.float .f32 (pick .f32 (fat zs 1) n1)) ∧ w'.cell? ⟨bb, off + 2, none⟩ = some (.float .f32 (pick .f32 (fat zs 2) n2)) ∧ w'.cell? ⟨bb, off + 3, none⟩ = some (.float .f32 (pick .f32 (fat zs 3) n3)) ∧ w'.cell? ⟨bb, off + 4, none⟩ = some (.float .f32 (pick .f32 (fat zs 4) n4)) ∧ w'.cell? ⟨bb, off + 5, none⟩ = some (.float .f32 (pick .f32 (fat zs 5) n5)) ∧ w'.cell? ⟨bb, off + 6, none⟩ = some (.float .f32 (pick .f32 (fat zs 6) n6)) ∧ w'.cell? ⟨bb, off + 7, none⟩ = some (.float .f32 (pick .f32 (fat zs 7) n7)) ∧ w'.cell? ⟨bb, off + 8, none⟩ = some (.float .f32 (pick .f32 (fat zs 8) n8))))
  obtain ⟨P, hP⟩ : ∃ P, P = lessV (fat zs 4) (fat zs 8) (fat zs 5) (fat zs 7) := ⟨_, rfl⟩
  obtain ⟨Q, hQ⟩ : ∃ Q, Q = lessV (fat zs 5) (fat zs 6) (fat zs 3) (fat zs 8) := ⟨_, rfl⟩
  obtain ⟨R, hR⟩ : ∃ R, R = lessV (fat zs 3) (fat zs 7) (fat zs 4) (fat zs 6) := ⟨_, rfl⟩
  have HP := Lib.hid hP
  have HQ := Lib.hid hQ
  have HRr := Lib.hid hR
  have HS := Lib.hid (show backDet zs = (fop .add .f32 (fop .add .f32 (fop .mul .f32 (fat zs 0) P) (fop .mul .f32 (fat zs 1) Q)) (fop .mul .f32 (fat zs 2) R)) by unfold backDet backS; rw [hP, hQ, hR])
  have HM := Lib.hid hm
  clear hP hQ hR hr hb h9 hm e0 e1 e2 e3 e4 e5 e6 e7 e8 hb1 hb2 hb3 hb4 hb5 hb6 hb7 hb8
  rw [← w.drewN_zero]
  go_enter Try.func25, Try.ntmps25
  go_wp2_with (go_at_call 60; refine (CM.out _).mono ?_; rintro _ _ ⟨j0, rfl, rfl⟩)
  have CX0 := Lib.hid (fun n1 n2 n3 n4 w => (HP.out ▸ c_sLess0 (fat zs 4) n1 (fat zs 8) n2 (fat zs 5) n3 (fat zs 7) n4 w : Calls Try.prog 68 #[.float .f32 (pick .f32 (fat zs 4) n1), .float .f32 (pick .f32 (fat zs 8) n2), .float .f32 (pick .f32 (fat zs 5) n3), .float .f32 (pick .f32 (fat zs 7) n4)] w (RetF .f32 (P) w)))
  have BQ := Lib.hid (below_drewN (Below.refl w.heap.size w) j0)
  generalize w.drewN j0 = u0 at BQ ⊢
  refine wp_region_facts 13 (fun a b => Below a.heap.size a b) (fun _ => Below.refl _ _) (fun _ _ _ h h' => h.trans (h'.mono h.size)) (Below.refl _ _).drew (by kernel_rfl) (by kernel_rfl) (by kernel_rfl) (by kernel_rfl) ?_
  simp only [List.take_succ_cons, List.take_zero, List.drop_succ_cons, List.drop_zero]
  (with_reducible apply wpF_val); (focus (intro vs w' hE hk; (obtain ⟨s0, s1, s2, s3, s4, s5, s6, s7, s8⟩ := KS.out w' (BQ.out.trans (hE.mono BQ.out.size))); go_simp; exact ⟨Below.refl _ _, rfl⟩)); (simp only [Act.put, List.setIfInBounds_toArray, List.set_cons_zero, List.set_cons_succ, List.cons_append, List.nil_append])
  (with_reducible apply wpF_val); (focus (intro vs w' hE hk; (obtain ⟨s0, s1, s2, s3, s4, s5, s6, s7, s8⟩ := KS.out w' (BQ.out.trans (hE.mono BQ.out.size))); go_simp; exact ⟨Below.refl _ _, rfl⟩)); (simp only [Act.put, List.setIfInBounds_toArray, List.set_cons_zero, List.set_cons_succ, List.cons_append, List.nil_append])
  (with_reducible apply wpF_val); (focus (intro vs w' hE hk; (obtain ⟨s0, s1, s2, s3, s4, s5, s6, s7, s8⟩ := KS.out w' (BQ.out.trans (hE.mono BQ.out.size))); go_simp; exact ⟨Below.refl _ _, rfl⟩)); (simp only [Act.put, List.setIfInBounds_toArray, List.set_cons_zero, List.set_cons_succ, List.cons_append, List.nil_append])
  (with_reducible apply wpF_val); (focus (intro vs w' hE hk; (obtain ⟨s0, s1, s2, s3, s4, s5, s6, s7, s8⟩ := KS.out w' (BQ.out.trans (hE.mono BQ.out.size))); go_simp; exact ⟨Below.refl _ _, rfl⟩)); (simp only [Act.put, List.setIfInBounds_toArray, List.set_cons_zero, List.set_cons_succ, List.cons_append, List.nil_append])
  (with_reducible apply wpF_val); (focus (intro vs w' hE hk; (obtain ⟨s0, s1, s2, s3, s4, s5, s6, s7, s8⟩ := KS.out w' (BQ.out.trans (hE.mono BQ.out.size))); go_simp; exact ⟨Below.refl _ _, rfl⟩)); (simp only [Act.put, List.setIfInBounds_toArray, List.set_cons_zero, List.set_cons_succ, List.cons_append, List.nil_append])
  (with_reducible apply wpF_val); (focus (intro vs w' hE hk; (obtain ⟨s0, s1, s2, s3, s4, s5, s6, s7, s8⟩ := KS.out w' (BQ.out.trans (hE.mono BQ.out.size))); go_simp; exact ⟨Below.refl _ _, rfl⟩)); (simp only [Act.put, List.setIfInBounds_toArray, List.set_cons_zero, List.set_cons_succ, List.cons_append, List.nil_append])
  (with_reducible apply wpF_val); (focus (intro vs w' hE hk; (obtain ⟨s0, s1, s2, s3, s4, s5, s6, s7, s8⟩ := KS.out w' (BQ.out.trans (hE.mono BQ.out.size))); go_simp; exact ⟨Below.refl _ _, rfl⟩)); (simp only [Act.put, List.setIfInBounds_toArray, List.set_cons_zero, List.set_cons_succ, List.cons_append, List.nil_append])
  (with_reducible apply wpF_val); (focus (intro vs w' hE hk; (obtain ⟨s0, s1, s2, s3, s4, s5, s6, s7, s8⟩ := KS.out w' (BQ.out.trans (hE.mono BQ.out.size))); go_simp; exact ⟨Below.refl _ _, rfl⟩)); (simp only [Act.put, List.setIfInBounds_toArray, List.set_cons_zero, List.set_cons_succ, List.cons_append, List.nil_append])
  (with_reducible apply wpF_val); (focus (intro vs w' hE hk; (obtain ⟨s0, s1, s2, s3, s4, s5, s6, s7, s8⟩ := KS.out w' (BQ.out.trans (hE.mono BQ.out.size))); go_simp; exact ⟨Below.refl _ _, rfl⟩)); (simp only [Act.put, List.setIfInBounds_toArray, List.set_cons_zero, List.set_cons_succ, List.cons_append, List.nil_append])
  (with_reducible apply wpF_val); (focus (intro vs w' hE hk; (obtain ⟨s0, s1, s2, s3, s4, s5, s6, s7, s8⟩ := KS.out w' (BQ.out.trans (hE.mono BQ.out.size))); go_simp; exact ⟨Below.refl _ _, rfl⟩)); (simp only [Act.put, List.setIfInBounds_toArray, List.set_cons_zero, List.set_cons_succ, List.cons_append, List.nil_append])
  (with_reducible apply wpF_val); (focus (intro vs w' hE hk; (obtain ⟨s0, s1, s2, s3, s4, s5, s6, s7, s8⟩ := KS.out w' (BQ.out.trans (hE.mono BQ.out.size))); go_simp; exact ⟨Below.refl _ _, rfl⟩)); (simp only [Act.put, List.setIfInBounds_toArray, List.set_cons_zero, List.set_cons_succ, List.cons_append, List.nil_append])
  (with_reducible apply wpF_val); (focus (intro vs w' hE hk; (obtain ⟨s0, s1, s2, s3, s4, s5, s6, s7, s8⟩ := KS.out w' (BQ.out.trans (hE.mono BQ.out.size))); go_simp; exact ⟨Below.refl _ _, rfl⟩)); (simp only [Act.put, List.setIfInBounds_toArray, List.set_cons_zero, List.set_cons_succ, List.cons_append, List.nil_append])
  refine wpF_fact (fun u _ => ∃ m, u = .float .f32 (pick .f32 (P) m)) (fun _ _ _ h _ => h) (fun vs w' hE hk => ?_) ?_; (focus ((obtain ⟨s0, s1, s2, s3, s4, s5, s6, s7, s8⟩ := KS.out w' (BQ.out.trans (hE.mono BQ.out.size))); go_simp; refine (CX0.out _ _ _ _ _).mono ?_; rintro _ _ ⟨m1, m2, rfl, rfl⟩; exact ⟨_, rfl, below_drewN (Below.refl _ _) _, m1, rfl⟩)); (simp only [Act.put, List.setIfInBounds_toArray, List.set_cons_zero, List.set_cons_succ, List.cons_append, List.nil_append])
  refine wpF_nil (fun vs u1 hE hk => ?_)
  obtain ⟨kP, h5⟩ := hk 12
  simp only [h5]
  have BQ' := Lib.hid (BQ.out.trans (hE.mono BQ.out.size))
  clear hE hk h5 BQ CX0
  have BQ := Lib.hid BQ'.out
  clear BQ'
  go_wp2_with fail
  have CX1 := Lib.hid (fun n1 n2 n3 n4 w => (HQ.out ▸ c_sLess0 (fat zs 5) n1 (fat zs 6) n2 (fat zs 3) n3 (fat zs 8) n4 w : Calls Try.prog 68 #[.float .f32 (pick .f32 (fat zs 5) n1), .float .f32 (pick .f32 (fat zs 6) n2), .float .f32 (pick .f32 (fat zs 3) n3), .float .f32 (pick .f32 (fat zs 8) n4)] w (RetF .f32 (Q) w)))
  refine wp_region_facts 13 (fun a b => Below a.heap.size a b) (fun _ => Below.refl _ _) (fun _ _ _ h h' => h.trans (h'.mono h.size)) (Below.refl _ _).drew (by kernel_rfl) (by kernel_rfl) (by kernel_rfl) (by kernel_rfl) ?_
  simp only [List.take_succ_cons, List.take_zero, List.drop_succ_cons, List.drop_zero]
  (with_reducible apply wpF_val); (focus (intro vs w' hE hk; (obtain ⟨s0, s1, s2, s3, s4, s5, s6, s7, s8⟩ := KS.out w' (BQ.out.trans (hE.mono BQ.out.size))); go_simp; exact ⟨Below.refl _ _, rfl⟩)); (simp only [Act.put, List.setIfInBounds_toArray, List.set_cons_zero, List.set_cons_succ, List.cons_append, List.nil_append])
  (with_reducible apply wpF_val); (focus (intro vs w' hE hk; (obtain ⟨s0, s1, s2, s3, s4, s5, s6, s7, s8⟩ := KS.out w' (BQ.out.trans (hE.mono BQ.out.size))); go_simp; exact ⟨Below.refl _ _, rfl⟩)); (simp only [Act.put, List.setIfInBounds_toArray, List.set_cons_zero, List.set_cons_succ, List.cons_append, List.nil_append])
  (with_reducible apply wpF_val); (focus (intro vs w' hE hk; (obtain ⟨s0, s1, s2, s3, s4, s5, s6, s7, s8⟩ := KS.out w' (BQ.out.trans (hE.mono BQ.out.size))); go_simp; exact ⟨Below.refl _ _, rfl⟩)); (simp only [Act.put, List.setIfInBounds_toArray, List.set_cons_zero, List.set_cons_succ, List.cons_append, List.nil_append])
  (with_reducible apply wpF_val); (focus (intro vs w' hE hk; (obtain ⟨s0, s1, s2, s3, s4, s5, s6, s7, s8⟩ := KS.out w' (BQ.out.trans (hE.mono BQ.out.size))); go_simp; exact ⟨Below.refl _ _, rfl⟩)); (simp only [Act.put, List.setIfInBounds_toArray, List.set_cons_zero, List.set_cons_succ, List.cons_append, List.nil_append])
  (with_reducible apply wpF_val); (focus (intro vs w' hE hk; (obtain ⟨s0, s1, s2, s3, s4, s5, s6, s7, s8⟩ := KS.out w' (BQ.out.trans (hE.mono BQ.out.size))); go_simp; exact ⟨Below.refl _ _, rfl⟩)); (simp only [Act.put, List.setIfInBounds_toArray, List.set_cons_zero, List.set_cons_succ, List.cons_append, List.nil_append])
  (with_reducible apply wpF_val); (focus (intro vs w' hE hk; (obtain ⟨s0, s1, s2, s3, s4, s5, s6, s7, s8⟩ := KS.out w' (BQ.out.trans (hE.mono BQ.out.size))); go_simp; exact ⟨Below.refl _ _, rfl⟩)); (simp only [Act.put, List.setIfInBounds_toArray, List.set_cons_zero, List.set_cons_succ, List.cons_append, List.nil_append])
  (with_reducible apply wpF_val); (focus (intro vs w' hE hk; (obtain ⟨s0, s1, s2, s3, s4, s5, s6, s7, s8⟩ := KS.out w' (BQ.out.trans (hE.mono BQ.out.size))); go_simp; exact ⟨Below.refl _ _, rfl⟩)); (simp only [Act.put, List.setIfInBounds_toArray, List.set_cons_zero, List.set_cons_succ, List.cons_append, List.nil_append])
  (with_reducible apply wpF_val); (focus (intro vs w' hE hk; (obtain ⟨s0, s1, s2, s3, s4, s5, s6, s7, s8⟩ := KS.out w' (BQ.out.trans (hE.mono BQ.out.size))); go_simp; exact ⟨Below.refl _ _, rfl⟩)); (simp only [Act.put, List.setIfInBounds_toArray, List.set_cons_zero, List.set_cons_succ, List.cons_append, List.nil_append])
  (with_reducible apply wpF_val); (focus (intro vs w' hE hk; (obtain ⟨s0, s1, s2, s3, s4, s5, s6, s7, s8⟩ := KS.out w' (BQ.out.trans (hE.mono BQ.out.size))); go_simp; exact ⟨Below.refl _ _, rfl⟩)); (simp only [Act.put, List.setIfInBounds_toArray, List.set_cons_zero, List.set_cons_succ, List.cons_append, List.nil_append])
  (with_reducible apply wpF_val); (focus (intro vs w' hE hk; (obtain ⟨s0, s1, s2, s3, s4, s5, s6, s7, s8⟩ := KS.out w' (BQ.out.trans (hE.mono BQ.out.size))); go_simp; exact ⟨Below.refl _ _, rfl⟩)); (simp only [Act.put, List.setIfInBounds_toArray, List.set_cons_zero, List.set_cons_succ, List.cons_append, List.nil_append])
  (with_reducible apply wpF_val); (focus (intro vs w' hE hk; (obtain ⟨s0, s1, s2, s3, s4, s5, s6, s7, s8⟩ := KS.out w' (BQ.out.trans (hE.mono BQ.out.size))); go_simp; exact ⟨Below.refl _ _, rfl⟩)); (simp only [Act.put, List.setIfInBounds_toArray, List.set_cons_zero, List.set_cons_succ, List.cons_append, List.nil_append])
  (with_reducible apply wpF_val); (focus (intro vs w' hE hk; (obtain ⟨s0, s1, s2, s3, s4, s5, s6, s7, s8⟩ := KS.out w' (BQ.out.trans (hE.mono BQ.out.size))); go_simp; exact ⟨Below.refl _ _, rfl⟩)); (simp only [Act.put, List.setIfInBounds_toArray, List.set_cons_zero, List.set_cons_succ, List.cons_append, List.nil_append])
  refine wpF_fact (fun u _ => ∃ m, u = .float .f32 (pick .f32 (Q) m)) (fun _ _ _ h _ => h) (fun vs w' hE hk => ?_) ?_; (focus ((obtain ⟨s0, s1, s2, s3, s4, s5, s6, s7, s8⟩ := KS.out w' (BQ.out.trans (hE.mono BQ.out.size))); go_simp; refine (CX1.out _ _ _ _ _).mono ?_; rintro _ _ ⟨m1, m2, rfl, rfl⟩; exact ⟨_, rfl, below_drewN (Below.refl _ _) _, m1, rfl⟩)); (simp only [Act.put, List.setIfInBounds_toArray, List.set_cons_zero, List.set_cons_succ, List.cons_append, List.nil_append])
  refine wpF_nil (fun vs u2 hE hk => ?_)
  obtain ⟨kQ, h5⟩ := hk 12
  simp only [h5]
  have BQ' := Lib.hid (BQ.out.trans (hE.mono BQ.out.size))
  clear hE hk h5 BQ CX1
  have BQ := Lib.hid BQ'.out
  clear BQ'
  go_wp2_with fail
  have CX2 := Lib.hid (fun n1 n2 n3 n4 w => (HRr.out ▸ c_sLess0 (fat zs 3) n1 (fat zs 7) n2 (fat zs 4) n3 (fat zs 6) n4 w : Calls Try.prog 68 #[.float .f32 (pick .f32 (fat zs 3) n1), .float .f32 (pick .f32 (fat zs 7) n2), .float .f32 (pick .f32 (fat zs 4) n3), .float .f32 (pick .f32 (fat zs 6) n4)] w (RetF .f32 (R) w)))
  refine wp_region_facts 13 (fun a b => Below a.heap.size a b) (fun _ => Below.refl _ _) (fun _ _ _ h h' => h.trans (h'.mono h.size)) (Below.refl _ _).drew (by kernel_rfl) (by kernel_rfl) (by kernel_rfl) (by kernel_rfl) ?_
  simp only [List.take_succ_cons, List.take_zero, List.drop_succ_cons, List.drop_zero]
  (with_reducible apply wpF_val); (focus (intro vs w' hE hk; (obtain ⟨s0, s1, s2, s3, s4, s5, s6, s7, s8⟩ := KS.out w' (BQ.out.trans (hE.mono BQ.out.size))); go_simp; exact ⟨Below.refl _ _, rfl⟩)); (simp only [Act.put, List.setIfInBounds_toArray, List.set_cons_zero, List.set_cons_succ, List.cons_append, List.nil_append])
  (with_reducible apply wpF_val); (focus (intro vs w' hE hk; (obtain ⟨s0, s1, s2, s3, s4, s5, s6, s7, s8⟩ := KS.out w' (BQ.out.trans (hE.mono BQ.out.size))); go_simp; exact ⟨Below.refl _ _, rfl⟩)); (simp only [Act.put, List.setIfInBounds_toArray, List.set_cons_zero, List.set_cons_succ, List.cons_append, List.nil_append])
  (with_reducible apply wpF_val); (focus (intro vs w' hE hk; (obtain ⟨s0, s1, s2, s3, s4, s5, s6, s7, s8⟩ := KS.out w' (BQ.out.trans (hE.mono BQ.out.size))); go_simp; exact ⟨Below.refl _ _, rfl⟩)); (simp only [Act.put, List.setIfInBounds_toArray, List.set_cons_zero, List.set_cons_succ, List.cons_append, List.nil_append])
  (with_reducible apply wpF_val); (focus (intro vs w' hE hk; (obtain ⟨s0, s1, s2, s3, s4, s5, s6, s7, s8⟩ := KS.out w' (BQ.out.trans (hE.mono BQ.out.size))); go_simp; exact ⟨Below.refl _ _, rfl⟩)); (simp only [Act.put, List.setIfInBounds_toArray, List.set_cons_zero, List.set_cons_succ, List.cons_append, List.nil_append])
  (with_reducible apply wpF_val); (focus (intro vs w' hE hk; (obtain ⟨s0, s1, s2, s3, s4, s5, s6, s7, s8⟩ := KS.out w' (BQ.out.trans (hE.mono BQ.out.size))); go_simp; exact ⟨Below.refl _ _, rfl⟩)); (simp only [Act.put, List.setIfInBounds_toArray, List.set_cons_zero, List.set_cons_succ, List.cons_append, List.nil_append])
  (with_reducible apply wpF_val); (focus (intro vs w' hE hk; (obtain ⟨s0, s1, s2, s3, s4, s5, s6, s7, s8⟩ := KS.out w' (BQ.out.trans (hE.mono BQ.out.size))); go_simp; exact ⟨Below.refl _ _, rfl⟩)); (simp only [Act.put, List.setIfInBounds_toArray, List.set_cons_zero, List.set_cons_succ, List.cons_append, List.nil_append])
  (with_reducible apply wpF_val); (focus (intro vs w' hE hk; (obtain ⟨s0, s1, s2, s3, s4, s5, s6, s7, s8⟩ := KS.out w' (BQ.out.trans (hE.mono BQ.out.size))); go_simp; exact ⟨Below.refl _ _, rfl⟩)); (simp only [Act.put, List.setIfInBounds_toArray, List.set_cons_zero, List.set_cons_succ, List.cons_append, List.nil_append])
  (with_reducible apply wpF_val); (focus (intro vs w' hE hk; (obtain ⟨s0, s1, s2, s3, s4, s5, s6, s7, s8⟩ := KS.out w' (BQ.out.trans (hE.mono BQ.out.size))); go_simp; exact ⟨Below.refl _ _, rfl⟩)); (simp only [Act.put, List.setIfInBounds_toArray, List.set_cons_zero, List.set_cons_succ, List.cons_append, List.nil_append])
  (with_reducible apply wpF_val); (focus (intro vs w' hE hk; (obtain ⟨s0, s1, s2, s3, s4, s5, s6, s7, s8⟩ := KS.out w' (BQ.out.trans (hE.mono BQ.out.size))); go_simp; exact ⟨Below.refl _ _, rfl⟩)); (simp only [Act.put, List.setIfInBounds_toArray, List.set_cons_zero, List.set_cons_succ, List.cons_append, List.nil_append])
  (with_reducible apply wpF_val); (focus (intro vs w' hE hk; (obtain ⟨s0, s1, s2, s3, s4, s5, s6, s7, s8⟩ := KS.out w' (BQ.out.trans (hE.mono BQ.out.size))); go_simp; exact ⟨Below.refl _ _, rfl⟩)); (simp only [Act.put, List.setIfInBounds_toArray, List.set_cons_zero, List.set_cons_succ, List.cons_append, List.nil_append])
  (with_reducible apply wpF_val); (focus (intro vs w' hE hk; (obtain ⟨s0, s1, s2, s3, s4, s5, s6, s7, s8⟩ := KS.out w' (BQ.out.trans (hE.mono BQ.out.size))); go_simp; exact ⟨Below.refl _ _, rfl⟩)); (simp only [Act.put, List.setIfInBounds_toArray, List.set_cons_zero, List.set_cons_succ, List.cons_append, List.nil_append])
  (with_reducible apply wpF_val); (focus (intro vs w' hE hk; (obtain ⟨s0, s1, s2, s3, s4, s5, s6, s7, s8⟩ := KS.out w' (BQ.out.trans (hE.mono BQ.out.size))); go_simp; exact ⟨Below.refl _ _, rfl⟩)); (simp only [Act.put, List.setIfInBounds_toArray, List.set_cons_zero, List.set_cons_succ, List.cons_append, List.nil_append])
  refine wpF_fact (fun u _ => ∃ m, u = .float .f32 (pick .f32 (R) m)) (fun _ _ _ h _ => h) (fun vs w' hE hk => ?_) ?_; (focus ((obtain ⟨s0, s1, s2, s3, s4, s5, s6, s7, s8⟩ := KS.out w' (BQ.out.trans (hE.mono BQ.out.size))); go_simp; refine (CX2.out _ _ _ _ _).mono ?_; rintro _ _ ⟨m1, m2, rfl, rfl⟩; exact ⟨_, rfl, below_drewN (Below.refl _ _) _, m1, rfl⟩)); (simp only [Act.put, List.setIfInBounds_toArray, List.set_cons_zero, List.set_cons_succ, List.cons_append, List.nil_append])
  refine wpF_nil (fun vs u3 hE hk => ?_)
  obtain ⟨kR, h5⟩ := hk 12
  simp only [h5]
  have BQ' := Lib.hid (BQ.out.trans (hE.mono BQ.out.size))
  clear hE hk h5 BQ CX2
  have BQ := Lib.hid BQ'.out
  clear BQ'
  go_wp2_with fail
  refine wp_region_facts 17 (fun a b => Below a.heap.size a b) (fun _ => Below.refl _ _) (fun _ _ _ h h' => h.trans (h'.mono h.size)) (Below.refl _ _).drew (by kernel_rfl) (by kernel_rfl) (by kernel_rfl) (by kernel_rfl) ?_
  simp only [List.take_succ_cons, List.take_zero, List.drop_succ_cons, List.drop_zero]
  (with_reducible apply wpF_val); (focus (intro vs w' hE hk; (obtain ⟨s0, s1, s2, s3, s4, s5, s6, s7, s8⟩ := KS.out w' (BQ.out.trans (hE.mono BQ.out.size))); go_simp; exact ⟨Below.refl _ _, rfl⟩)); (simp only [Act.put, List.setIfInBounds_toArray, List.set_cons_zero, List.set_cons_succ, List.cons_append, List.nil_append])
  (with_reducible apply wpF_val); (focus (intro vs w' hE hk; (obtain ⟨s0, s1, s2, s3, s4, s5, s6, s7, s8⟩ := KS.out w' (BQ.out.trans (hE.mono BQ.out.size))); go_simp; exact ⟨Below.refl _ _, rfl⟩)); (simp only [Act.put, List.setIfInBounds_toArray, List.set_cons_zero, List.set_cons_succ, List.cons_append, List.nil_append])
  (with_reducible apply wpF_val); (focus (intro vs w' hE hk; (obtain ⟨s0, s1, s2, s3, s4, s5, s6, s7, s8⟩ := KS.out w' (BQ.out.trans (hE.mono BQ.out.size))); go_simp; exact ⟨Below.refl _ _, rfl⟩)); (simp only [Act.put, List.setIfInBounds_toArray, List.set_cons_zero, List.set_cons_succ, List.cons_append, List.nil_append])
  (with_reducible apply wpF_val); (focus (intro vs w' hE hk; (obtain ⟨s0, s1, s2, s3, s4, s5, s6, s7, s8⟩ := KS.out w' (BQ.out.trans (hE.mono BQ.out.size))); go_simp; exact ⟨Below.refl _ _, rfl⟩)); (simp only [Act.put, List.setIfInBounds_toArray, List.set_cons_zero, List.set_cons_succ, List.cons_append, List.nil_append])
  refine wpF_fact (fun u _ => ∃ m, u = .float .f32 (pick .f32 (fop .mul .f32 (fat zs 0) P) m)) (fun _ _ _ h _ => h) (fun vs w' hE hk => ?_) ?_; (focus (rw [if_pos (by rfl)]; refine uponW_fop _ _ _ _ _ rfl .f32 _ _ rfl rfl (by decide) (fun n' m' => ⟨below_drewN (Below.refl _ _) _, n', by simp only [fop_pick_l, fop_pick_r]⟩))); (simp only [Act.put, List.setIfInBounds_toArray, List.set_cons_zero, List.set_cons_succ, List.cons_append, List.nil_append])
  (with_reducible apply wpF_val); (focus (intro vs w' hE hk; (obtain ⟨s0, s1, s2, s3, s4, s5, s6, s7, s8⟩ := KS.out w' (BQ.out.trans (hE.mono BQ.out.size))); go_simp; exact ⟨Below.refl _ _, rfl⟩)); (simp only [Act.put, List.setIfInBounds_toArray, List.set_cons_zero, List.set_cons_succ, List.cons_append, List.nil_append])
  (with_reducible apply wpF_val); (focus (intro vs w' hE hk; (obtain ⟨s0, s1, s2, s3, s4, s5, s6, s7, s8⟩ := KS.out w' (BQ.out.trans (hE.mono BQ.out.size))); go_simp; exact ⟨Below.refl _ _, rfl⟩)); (simp only [Act.put, List.setIfInBounds_toArray, List.set_cons_zero, List.set_cons_succ, List.cons_append, List.nil_append])
  (with_reducible apply wpF_val); (focus (intro vs w' hE hk; (obtain ⟨s0, s1, s2, s3, s4, s5, s6, s7, s8⟩ := KS.out w' (BQ.out.trans (hE.mono BQ.out.size))); go_simp; exact ⟨Below.refl _ _, rfl⟩)); (simp only [Act.put, List.setIfInBounds_toArray, List.set_cons_zero, List.set_cons_succ, List.cons_append, List.nil_append])
  (with_reducible apply wpF_val); (focus (intro vs w' hE hk; (obtain ⟨s0, s1, s2, s3, s4, s5, s6, s7, s8⟩ := KS.out w' (BQ.out.trans (hE.mono BQ.out.size))); go_simp; exact ⟨Below.refl _ _, rfl⟩)); (simp only [Act.put, List.setIfInBounds_toArray, List.set_cons_zero, List.set_cons_succ, List.cons_append, List.nil_append])
  refine wpF_fact (fun u _ => ∃ m, u = .float .f32 (pick .f32 (fop .mul .f32 (fat zs 1) Q) m)) (fun _ _ _ h _ => h) (fun vs w' hE hk => ?_) ?_; (focus (rw [if_pos (by rfl)]; refine uponW_fop _ _ _ _ _ rfl .f32 _ _ rfl rfl (by decide) (fun n' m' => ⟨below_drewN (Below.refl _ _) _, n', by simp only [fop_pick_l, fop_pick_r]⟩))); (simp only [Act.put, List.setIfInBounds_toArray, List.set_cons_zero, List.set_cons_succ, List.cons_append, List.nil_append])
  refine wpF_fact (fun u _ => ∃ m, u = .float .f32 (pick .f32 (fop .add .f32 (fop .mul .f32 (fat zs 0) P) (fop .mul .f32 (fat zs 1) Q)) m)) (fun _ _ _ h _ => h) (fun vs w' hE hk => ?_) ?_; (focus (obtain ⟨n1, hn1⟩ := hk 4 (by kernel_rfl); simp only [hn1]; obtain ⟨n2, hn2⟩ := hk 9 (by kernel_rfl); simp only [hn2]; rw [if_pos (by rfl)]; refine uponW_fop _ _ _ _ _ rfl .f32 _ _ rfl rfl (by decide) (fun n' m' => ⟨below_drewN (Below.refl _ _) _, n', by simp only [fop_pick_l, fop_pick_r]⟩))); (simp only [Act.put, List.setIfInBounds_toArray, List.set_cons_zero, List.set_cons_succ, List.cons_append, List.nil_append])
  (with_reducible apply wpF_val); (focus (intro vs w' hE hk; (obtain ⟨s0, s1, s2, s3, s4, s5, s6, s7, s8⟩ := KS.out w' (BQ.out.trans (hE.mono BQ.out.size))); go_simp; exact ⟨Below.refl _ _, rfl⟩)); (simp only [Act.put, List.setIfInBounds_toArray, List.set_cons_zero, List.set_cons_succ, List.cons_append, List.nil_append])
  (with_reducible apply wpF_val); (focus (intro vs w' hE hk; (obtain ⟨s0, s1, s2, s3, s4, s5, s6, s7, s8⟩ := KS.out w' (BQ.out.trans (hE.mono BQ.out.size))); go_simp; exact ⟨Below.refl _ _, rfl⟩)); (simp only [Act.put, List.setIfInBounds_toArray, List.set_cons_zero, List.set_cons_succ, List.cons_append, List.nil_append])
  (with_reducible apply wpF_val); (focus (intro vs w' hE hk; (obtain ⟨s0, s1, s2, s3, s4, s5, s6, s7, s8⟩ := KS.out w' (BQ.out.trans (hE.mono BQ.out.size))); go_simp; exact ⟨Below.refl _ _, rfl⟩)); (simp only [Act.put, List.setIfInBounds_toArray, List.set_cons_zero, List.set_cons_succ, List.cons_append, List.nil_append])
  (with_reducible apply wpF_val); (focus (intro vs w' hE hk; (obtain ⟨s0, s1, s2, s3, s4, s5, s6, s7, s8⟩ := KS.out w' (BQ.out.trans (hE.mono BQ.out.size))); go_simp; exact ⟨Below.refl _ _, rfl⟩)); (simp only [Act.put, List.setIfInBounds_toArray, List.set_cons_zero, List.set_cons_succ, List.cons_append, List.nil_append])
  refine wpF_fact (fun u _ => ∃ m, u = .float .f32 (pick .f32 (fop .mul .f32 (fat zs 2) R) m)) (fun _ _ _ h _ => h) (fun vs w' hE hk => ?_) ?_; (focus (rw [if_pos (by rfl)]; refine uponW_fop _ _ _ _ _ rfl .f32 _ _ rfl rfl (by decide) (fun n' m' => ⟨below_drewN (Below.refl _ _) _, n', by simp only [fop_pick_l, fop_pick_r]⟩))); (simp only [Act.put, List.setIfInBounds_toArray, List.set_cons_zero, List.set_cons_succ, List.cons_append, List.nil_append])
  refine wpF_fact (fun u _ => ∃ m, u = .float .f32 (pick .f32 (fop .add .f32 (fop .add .f32 (fop .mul .f32 (fat zs 0) P) (fop .mul .f32 (fat zs 1) Q)) (fop .mul .f32 (fat zs 2) R)) m)) (fun _ _ _ h _ => h) (fun vs w' hE hk => ?_) ?_; (focus (obtain ⟨n1, hn1⟩ := hk 10 (by kernel_rfl); simp only [hn1]; obtain ⟨n2, hn2⟩ := hk 15 (by kernel_rfl); simp only [hn2]; rw [if_pos (by rfl)]; refine uponW_fop _ _ _ _ _ rfl .f32 _ _ rfl rfl (by decide) (fun n' m' => ⟨below_drewN (Below.refl _ _) _, n', by simp only [fop_pick_l, fop_pick_r]⟩))); (simp only [Act.put, List.setIfInBounds_toArray, List.set_cons_zero, List.set_cons_succ, List.cons_append, List.nil_append])
  refine wpF_nil (fun vs u4 hE hk => ?_)
  obtain ⟨kS, h5⟩ := hk 16
  simp only [h5]
  have BQ' := Lib.hid (BQ.out.trans (hE.mono BQ.out.size))
  clear hE hk h5 BQ
  have BQ := Lib.hid BQ'.out
  clear BQ'
  cases hd : (FloatKind.f32.format.order (fop .add .f32 (fop .add .f32 (fop .mul .f32 (fat zs 0) P) (fop .mul .f32 (fat zs 1) Q)) (fop .mul .f32 (fat zs 2) R)) 0 == some .eq)
  case true =>
    have HX := Lib.hid (HR.out.trans (backM_no (.inr (by rw [HS.out]; exact hd))))
    go_wp2_with fail
    go_ret2
    rw [HX.out]
    exact RetL.no rfl BQ.out
  have HX := Lib.hid (show res = listR (backL zs) by rw [HR.out]; unfold backM; rw [HM.out, HS.out, hd]; rfl)
  have HL := Lib.hid (show backL zs = [fop .quo .f32 (P) (fop .add .f32 (fop .add .f32 (fop .mul .f32 (fat zs 0) P) (fop .mul .f32 (fat zs 1) Q)) (fop .mul .f32 (fat zs 2) R)), fop .quo .f32 (lessV (fat zs 2) (fat zs 7) (fat zs 1) (fat zs 8)) (fop .add .f32 (fop .add .f32 (fop .mul .f32 (fat zs 0) P) (fop .mul .f32 (fat zs 1) Q)) (fop .mul .f32 (fat zs 2) R)), fop .quo .f32 (lessV (fat zs 1) (fat zs 5) (fat zs 2) (fat zs 4)) (fop .add .f32 (fop .add .f32 (fop .mul .f32 (fat zs 0) P) (fop .mul .f32 (fat zs 1) Q)) (fop .mul .f32 (fat zs 2) R)), fop .quo .f32 (Q) (fop .add .f32 (fop .add .f32 (fop .mul .f32 (fat zs 0) P) (fop .mul .f32 (fat zs 1) Q)) (fop .mul .f32 (fat zs 2) R)), fop .quo .f32 (lessV (fat zs 0) (fat zs 8) (fat zs 2) (fat zs 6)) (fop .add .f32 (fop .add .f32 (fop .mul .f32 (fat zs 0) P) (fop .mul .f32 (fat zs 1) Q)) (fop .mul .f32 (fat zs 2) R)), fop .quo .f32 (lessV (fat zs 2) (fat zs 3) (fat zs 0) (fat zs 5)) (fop .add .f32 (fop .add .f32 (fop .mul .f32 (fat zs 0) P) (fop .mul .f32 (fat zs 1) Q)) (fop .mul .f32 (fat zs 2) R)), fop .quo .f32 (R) (fop .add .f32 (fop .add .f32 (fop .mul .f32 (fat zs 0) P) (fop .mul .f32 (fat zs 1) Q)) (fop .mul .f32 (fat zs 2) R)), fop .quo .f32 (lessV (fat zs 1) (fat zs 6) (fat zs 0) (fat zs 7)) (fop .add .f32 (fop .add .f32 (fop .mul .f32 (fat zs 0) P) (fop .mul .f32 (fat zs 1) Q)) (fop .mul .f32 (fat zs 2) R)), fop .quo .f32 (lessV (fat zs 0) (fat zs 4) (fat zs 1) (fat zs 3)) (fop .add .f32 (fop .add .f32 (fop .mul .f32 (fat zs 0) P) (fop .mul .f32 (fat zs 1) Q)) (fop .mul .f32 (fat zs 2) R))] by unfold backL; rw [HS.out, HP.out, HQ.out, HRr.out])
  obtain ⟨S, hS⟩ : ∃ S, S = fop .add .f32 (fop .add .f32 (fop .mul .f32 (fat zs 0) P) (fop .mul .f32 (fat zs 1) Q)) (fop .mul .f32 (fat zs 2) R) := ⟨_, rfl⟩
  rw [← hS] at HL hd ⊢
  clear hS HS HM HR
  have CX1 := Lib.hid (fun n1 n2 n3 n4 w => ( c_sLess0 (fat zs 2) n1 (fat zs 7) n2 (fat zs 1) n3 (fat zs 8) n4 w : Calls Try.prog 68 #[.float .f32 (pick .f32 (fat zs 2) n1), .float .f32 (pick .f32 (fat zs 7) n2), .float .f32 (pick .f32 (fat zs 1) n3), .float .f32 (pick .f32 (fat zs 8) n4)] w (RetF .f32 (lessV (fat zs 2) (fat zs 7) (fat zs 1) (fat zs 8)) w)))
  have CX2 := Lib.hid (fun n1 n2 n3 n4 w => ( c_sLess0 (fat zs 1) n1 (fat zs 5) n2 (fat zs 2) n3 (fat zs 4) n4 w : Calls Try.prog 68 #[.float .f32 (pick .f32 (fat zs 1) n1), .float .f32 (pick .f32 (fat zs 5) n2), .float .f32 (pick .f32 (fat zs 2) n3), .float .f32 (pick .f32 (fat zs 4) n4)] w (RetF .f32 (lessV (fat zs 1) (fat zs 5) (fat zs 2) (fat zs 4)) w)))
  have CX4 := Lib.hid (fun n1 n2 n3 n4 w => ( c_sLess0 (fat zs 0) n1 (fat zs 8) n2 (fat zs 2) n3 (fat zs 6) n4 w : Calls Try.prog 68 #[.float .f32 (pick .f32 (fat zs 0) n1), .float .f32 (pick .f32 (fat zs 8) n2), .float .f32 (pick .f32 (fat zs 2) n3), .float .f32 (pick .f32 (fat zs 6) n4)] w (RetF .f32 (lessV (fat zs 0) (fat zs 8) (fat zs 2) (fat zs 6)) w)))
  have CX5 := Lib.hid (fun n1 n2 n3 n4 w => ( c_sLess0 (fat zs 2) n1 (fat zs 3) n2 (fat zs 0) n3 (fat zs 5) n4 w : Calls Try.prog 68 #[.float .f32 (pick .f32 (fat zs 2) n1), .float .f32 (pick .f32 (fat zs 3) n2), .float .f32 (pick .f32 (fat zs 0) n3), .float .f32 (pick .f32 (fat zs 5) n4)] w (RetF .f32 (lessV (fat zs 2) (fat zs 3) (fat zs 0) (fat zs 5)) w)))
  have CX7 := Lib.hid (fun n1 n2 n3 n4 w => ( c_sLess0 (fat zs 1) n1 (fat zs 6) n2 (fat zs 0) n3 (fat zs 7) n4 w : Calls Try.prog 68 #[.float .f32 (pick .f32 (fat zs 1) n1), .float .f32 (pick .f32 (fat zs 6) n2), .float .f32 (pick .f32 (fat zs 0) n3), .float .f32 (pick .f32 (fat zs 7) n4)] w (RetF .f32 (lessV (fat zs 1) (fat zs 6) (fat zs 0) (fat zs 7)) w)))
  have CX8 := Lib.hid (fun n1 n2 n3 n4 w => ( c_sLess0 (fat zs 0) n1 (fat zs 4) n2 (fat zs 1) n3 (fat zs 3) n4 w : Calls Try.prog 68 #[.float .f32 (pick .f32 (fat zs 0) n1), .float .f32 (pick .f32 (fat zs 4) n2), .float .f32 (pick .f32 (fat zs 1) n3), .float .f32 (pick .f32 (fat zs 3) n4)] w (RetF .f32 (lessV (fat zs 0) (fat zs 4) (fat zs 1) (fat zs 3)) w)))
  go_wp2_with fail
  refine wp_region_facts 81 (fun a b => Below a.heap.size a b) (fun _ => Below.refl _ _) (fun _ _ _ h h' => h.trans (h'.mono h.size)) (Below.refl _ _).drew (by kernel_rfl) (by kernel_rfl) (by kernel_rfl) (by kernel_rfl) ?_
  simp only [List.append_eq, List.cons_append, List.nil_append, List.take_succ_cons, List.take_zero, List.drop_succ_cons, List.drop_zero]
  (with_reducible apply wpF_val); (focus (intro vs w' hE hk; (obtain ⟨s0, s1, s2, s3, s4, s5, s6, s7, s8⟩ := KS.out w' (BQ.out.trans (hE.mono BQ.out.size))); go_simp; exact ⟨Below.refl _ _, rfl⟩)); (simp only [Act.put, List.setIfInBounds_toArray, List.set_cons_zero, List.set_cons_succ, List.cons_append, List.nil_append])
  (with_reducible apply wpF_val); (focus (intro vs w' hE hk; (obtain ⟨s0, s1, s2, s3, s4, s5, s6, s7, s8⟩ := KS.out w' (BQ.out.trans (hE.mono BQ.out.size))); go_simp; exact ⟨Below.refl _ _, rfl⟩)); (simp only [Act.put, List.setIfInBounds_toArray, List.set_cons_zero, List.set_cons_succ, List.cons_append, List.nil_append])
  (with_reducible apply wpF_val); (focus (intro vs w' hE hk; (obtain ⟨s0, s1, s2, s3, s4, s5, s6, s7, s8⟩ := KS.out w' (BQ.out.trans (hE.mono BQ.out.size))); go_simp; exact ⟨Below.refl _ _, rfl⟩)); (simp only [Act.put, List.setIfInBounds_toArray, List.set_cons_zero, List.set_cons_succ, List.cons_append, List.nil_append])
  (with_reducible apply wpF_val); (focus (intro vs w' hE hk; (obtain ⟨s0, s1, s2, s3, s4, s5, s6, s7, s8⟩ := KS.out w' (BQ.out.trans (hE.mono BQ.out.size))); go_simp; exact ⟨Below.refl _ _, rfl⟩)); (simp only [Act.put, List.setIfInBounds_toArray, List.set_cons_zero, List.set_cons_succ, List.cons_append, List.nil_append])
  (with_reducible apply wpF_val); (focus (intro vs w' hE hk; (obtain ⟨s0, s1, s2, s3, s4, s5, s6, s7, s8⟩ := KS.out w' (BQ.out.trans (hE.mono BQ.out.size))); go_simp; exact ⟨Below.refl _ _, rfl⟩)); (simp only [Act.put, List.setIfInBounds_toArray, List.set_cons_zero, List.set_cons_succ, List.cons_append, List.nil_append])
  (with_reducible apply wpF_val); (focus (intro vs w' hE hk; (obtain ⟨s0, s1, s2, s3, s4, s5, s6, s7, s8⟩ := KS.out w' (BQ.out.trans (hE.mono BQ.out.size))); go_simp; exact ⟨Below.refl _ _, rfl⟩)); (simp only [Act.put, List.setIfInBounds_toArray, List.set_cons_zero, List.set_cons_succ, List.cons_append, List.nil_append])
  (with_reducible apply wpF_val); (focus (intro vs w' hE hk; (obtain ⟨s0, s1, s2, s3, s4, s5, s6, s7, s8⟩ := KS.out w' (BQ.out.trans (hE.mono BQ.out.size))); go_simp; exact ⟨Below.refl _ _, rfl⟩)); (simp only [Act.put, List.setIfInBounds_toArray, List.set_cons_zero, List.set_cons_succ, List.cons_append, List.nil_append])
  (with_reducible apply wpF_val); (focus (intro vs w' hE hk; (obtain ⟨s0, s1, s2, s3, s4, s5, s6, s7, s8⟩ := KS.out w' (BQ.out.trans (hE.mono BQ.out.size))); go_simp; exact ⟨Below.refl _ _, rfl⟩)); (simp only [Act.put, List.setIfInBounds_toArray, List.set_cons_zero, List.set_cons_succ, List.cons_append, List.nil_append])
  (with_reducible apply wpF_val); (focus (intro vs w' hE hk; (obtain ⟨s0, s1, s2, s3, s4, s5, s6, s7, s8⟩ := KS.out w' (BQ.out.trans (hE.mono BQ.out.size))); go_simp; exact ⟨Below.refl _ _, rfl⟩)); (simp only [Act.put, List.setIfInBounds_toArray, List.set_cons_zero, List.set_cons_succ, List.cons_append, List.nil_append])
  (with_reducible apply wpF_val); (focus (intro vs w' hE hk; (obtain ⟨s0, s1, s2, s3, s4, s5, s6, s7, s8⟩ := KS.out w' (BQ.out.trans (hE.mono BQ.out.size))); go_simp; exact ⟨Below.refl _ _, rfl⟩)); (simp only [Act.put, List.setIfInBounds_toArray, List.set_cons_zero, List.set_cons_succ, List.cons_append, List.nil_append])
  (with_reducible apply wpF_val); (focus (intro vs w' hE hk; (obtain ⟨s0, s1, s2, s3, s4, s5, s6, s7, s8⟩ := KS.out w' (BQ.out.trans (hE.mono BQ.out.size))); go_simp; exact ⟨Below.refl _ _, rfl⟩)); (simp only [Act.put, List.setIfInBounds_toArray, List.set_cons_zero, List.set_cons_succ, List.cons_append, List.nil_append])
  (with_reducible apply wpF_val); (focus (intro vs w' hE hk; (obtain ⟨s0, s1, s2, s3, s4, s5, s6, s7, s8⟩ := KS.out w' (BQ.out.trans (hE.mono BQ.out.size))); go_simp; exact ⟨Below.refl _ _, rfl⟩)); (simp only [Act.put, List.setIfInBounds_toArray, List.set_cons_zero, List.set_cons_succ, List.cons_append, List.nil_append])
  (with_reducible apply wpF_val); (focus (intro vs w' hE hk; (obtain ⟨s0, s1, s2, s3, s4, s5, s6, s7, s8⟩ := KS.out w' (BQ.out.trans (hE.mono BQ.out.size))); go_simp; exact ⟨Below.refl _ _, rfl⟩)); (simp only [Act.put, List.setIfInBounds_toArray, List.set_cons_zero, List.set_cons_succ, List.cons_append, List.nil_append])
  refine wpF_fact (fun u _ => ∃ m, u = .float .f32 (pick .f32 (lessV (fat zs 2) (fat zs 7) (fat zs 1) (fat zs 8)) m)) (fun _ _ _ h _ => h) (fun vs w' hE hk => ?_) ?_; (focus ((obtain ⟨s0, s1, s2, s3, s4, s5, s6, s7, s8⟩ := KS.out w' (BQ.out.trans (hE.mono BQ.out.size))); go_simp; refine (CX1.out _ _ _ _ _).mono ?_; rintro _ _ ⟨m1, m2, rfl, rfl⟩; exact ⟨_, rfl, below_drewN (Below.refl _ _) _, m1, rfl⟩)); (simp only [Act.put, List.setIfInBounds_toArray, List.set_cons_zero, List.set_cons_succ, List.cons_append, List.nil_append])
  (with_reducible apply wpF_val); (focus (intro vs w' hE hk; (obtain ⟨s0, s1, s2, s3, s4, s5, s6, s7, s8⟩ := KS.out w' (BQ.out.trans (hE.mono BQ.out.size))); go_simp; exact ⟨Below.refl _ _, rfl⟩)); (simp only [Act.put, List.setIfInBounds_toArray, List.set_cons_zero, List.set_cons_succ, List.cons_append, List.nil_append])
  (with_reducible apply wpF_val); (focus (intro vs w' hE hk; (obtain ⟨s0, s1, s2, s3, s4, s5, s6, s7, s8⟩ := KS.out w' (BQ.out.trans (hE.mono BQ.out.size))); go_simp; exact ⟨Below.refl _ _, rfl⟩)); (simp only [Act.put, List.setIfInBounds_toArray, List.set_cons_zero, List.set_cons_succ, List.cons_append, List.nil_append])
  (with_reducible apply wpF_val); (focus (intro vs w' hE hk; (obtain ⟨s0, s1, s2, s3, s4, s5, s6, s7, s8⟩ := KS.out w' (BQ.out.trans (hE.mono BQ.out.size))); go_simp; exact ⟨Below.refl _ _, rfl⟩)); (simp only [Act.put, List.setIfInBounds_toArray, List.set_cons_zero, List.set_cons_succ, List.cons_append, List.nil_append])
  (with_reducible apply wpF_val); (focus (intro vs w' hE hk; (obtain ⟨s0, s1, s2, s3, s4, s5, s6, s7, s8⟩ := KS.out w' (BQ.out.trans (hE.mono BQ.out.size))); go_simp; exact ⟨Below.refl _ _, rfl⟩)); (simp only [Act.put, List.setIfInBounds_toArray, List.set_cons_zero, List.set_cons_succ, List.cons_append, List.nil_append])
  (with_reducible apply wpF_val); (focus (intro vs w' hE hk; (obtain ⟨s0, s1, s2, s3, s4, s5, s6, s7, s8⟩ := KS.out w' (BQ.out.trans (hE.mono BQ.out.size))); go_simp; exact ⟨Below.refl _ _, rfl⟩)); (simp only [Act.put, List.setIfInBounds_toArray, List.set_cons_zero, List.set_cons_succ, List.cons_append, List.nil_append])
  (with_reducible apply wpF_val); (focus (intro vs w' hE hk; (obtain ⟨s0, s1, s2, s3, s4, s5, s6, s7, s8⟩ := KS.out w' (BQ.out.trans (hE.mono BQ.out.size))); go_simp; exact ⟨Below.refl _ _, rfl⟩)); (simp only [Act.put, List.setIfInBounds_toArray, List.set_cons_zero, List.set_cons_succ, List.cons_append, List.nil_append])
  (with_reducible apply wpF_val); (focus (intro vs w' hE hk; (obtain ⟨s0, s1, s2, s3, s4, s5, s6, s7, s8⟩ := KS.out w' (BQ.out.trans (hE.mono BQ.out.size))); go_simp; exact ⟨Below.refl _ _, rfl⟩)); (simp only [Act.put, List.setIfInBounds_toArray, List.set_cons_zero, List.set_cons_succ, List.cons_append, List.nil_append])
  (with_reducible apply wpF_val); (focus (intro vs w' hE hk; (obtain ⟨s0, s1, s2, s3, s4, s5, s6, s7, s8⟩ := KS.out w' (BQ.out.trans (hE.mono BQ.out.size))); go_simp; exact ⟨Below.refl _ _, rfl⟩)); (simp only [Act.put, List.setIfInBounds_toArray, List.set_cons_zero, List.set_cons_succ, List.cons_append, List.nil_append])
  (with_reducible apply wpF_val); (focus (intro vs w' hE hk; (obtain ⟨s0, s1, s2, s3, s4, s5, s6, s7, s8⟩ := KS.out w' (BQ.out.trans (hE.mono BQ.out.size))); go_simp; exact ⟨Below.refl _ _, rfl⟩)); (simp only [Act.put, List.setIfInBounds_toArray, List.set_cons_zero, List.set_cons_succ, List.cons_append, List.nil_append])
  (with_reducible apply wpF_val); (focus (intro vs w' hE hk; (obtain ⟨s0, s1, s2, s3, s4, s5, s6, s7, s8⟩ := KS.out w' (BQ.out.trans (hE.mono BQ.out.size))); go_simp; exact ⟨Below.refl _ _, rfl⟩)); (simp only [Act.put, List.setIfInBounds_toArray, List.set_cons_zero, List.set_cons_succ, List.cons_append, List.nil_append])
  (with_reducible apply wpF_val); (focus (intro vs w' hE hk; (obtain ⟨s0, s1, s2, s3, s4, s5, s6, s7, s8⟩ := KS.out w' (BQ.out.trans (hE.mono BQ.out.size))); go_simp; exact ⟨Below.refl _ _, rfl⟩)); (simp only [Act.put, List.setIfInBounds_toArray, List.set_cons_zero, List.set_cons_succ, List.cons_append, List.nil_append])
  (with_reducible apply wpF_val); (focus (intro vs w' hE hk; (obtain ⟨s0, s1, s2, s3, s4, s5, s6, s7, s8⟩ := KS.out w' (BQ.out.trans (hE.mono BQ.out.size))); go_simp; exact ⟨Below.refl _ _, rfl⟩)); (simp only [Act.put, List.setIfInBounds_toArray, List.set_cons_zero, List.set_cons_succ, List.cons_append, List.nil_append])
  refine wpF_fact (fun u _ => ∃ m, u = .float .f32 (pick .f32 (lessV (fat zs 1) (fat zs 5) (fat zs 2) (fat zs 4)) m)) (fun _ _ _ h _ => h) (fun vs w' hE hk => ?_) ?_; (focus ((obtain ⟨s0, s1, s2, s3, s4, s5, s6, s7, s8⟩ := KS.out w' (BQ.out.trans (hE.mono BQ.out.size))); go_simp; refine (CX2.out _ _ _ _ _).mono ?_; rintro _ _ ⟨m1, m2, rfl, rfl⟩; exact ⟨_, rfl, below_drewN (Below.refl _ _) _, m1, rfl⟩)); (simp only [Act.put, List.setIfInBounds_toArray, List.set_cons_zero, List.set_cons_succ, List.cons_append, List.nil_append])
  (with_reducible apply wpF_val); (focus (intro vs w' hE hk; (obtain ⟨s0, s1, s2, s3, s4, s5, s6, s7, s8⟩ := KS.out w' (BQ.out.trans (hE.mono BQ.out.size))); go_simp; exact ⟨Below.refl _ _, rfl⟩)); (simp only [Act.put, List.setIfInBounds_toArray, List.set_cons_zero, List.set_cons_succ, List.cons_append, List.nil_append])
  (with_reducible apply wpF_val); (focus (intro vs w' hE hk; (obtain ⟨s0, s1, s2, s3, s4, s5, s6, s7, s8⟩ := KS.out w' (BQ.out.trans (hE.mono BQ.out.size))); go_simp; exact ⟨Below.refl _ _, rfl⟩)); (simp only [Act.put, List.setIfInBounds_toArray, List.set_cons_zero, List.set_cons_succ, List.cons_append, List.nil_append])
  (with_reducible apply wpF_val); (focus (intro vs w' hE hk; (obtain ⟨s0, s1, s2, s3, s4, s5, s6, s7, s8⟩ := KS.out w' (BQ.out.trans (hE.mono BQ.out.size))); go_simp; exact ⟨Below.refl _ _, rfl⟩)); (simp only [Act.put, List.setIfInBounds_toArray, List.set_cons_zero, List.set_cons_succ, List.cons_append, List.nil_append])
  (with_reducible apply wpF_val); (focus (intro vs w' hE hk; (obtain ⟨s0, s1, s2, s3, s4, s5, s6, s7, s8⟩ := KS.out w' (BQ.out.trans (hE.mono BQ.out.size))); go_simp; exact ⟨Below.refl _ _, rfl⟩)); (simp only [Act.put, List.setIfInBounds_toArray, List.set_cons_zero, List.set_cons_succ, List.cons_append, List.nil_append])
  (with_reducible apply wpF_val); (focus (intro vs w' hE hk; (obtain ⟨s0, s1, s2, s3, s4, s5, s6, s7, s8⟩ := KS.out w' (BQ.out.trans (hE.mono BQ.out.size))); go_simp; exact ⟨Below.refl _ _, rfl⟩)); (simp only [Act.put, List.setIfInBounds_toArray, List.set_cons_zero, List.set_cons_succ, List.cons_append, List.nil_append])
  (with_reducible apply wpF_val); (focus (intro vs w' hE hk; (obtain ⟨s0, s1, s2, s3, s4, s5, s6, s7, s8⟩ := KS.out w' (BQ.out.trans (hE.mono BQ.out.size))); go_simp; exact ⟨Below.refl _ _, rfl⟩)); (simp only [Act.put, List.setIfInBounds_toArray, List.set_cons_zero, List.set_cons_succ, List.cons_append, List.nil_append])
  (with_reducible apply wpF_val); (focus (intro vs w' hE hk; (obtain ⟨s0, s1, s2, s3, s4, s5, s6, s7, s8⟩ := KS.out w' (BQ.out.trans (hE.mono BQ.out.size))); go_simp; exact ⟨Below.refl _ _, rfl⟩)); (simp only [Act.put, List.setIfInBounds_toArray, List.set_cons_zero, List.set_cons_succ, List.cons_append, List.nil_append])
  (with_reducible apply wpF_val); (focus (intro vs w' hE hk; (obtain ⟨s0, s1, s2, s3, s4, s5, s6, s7, s8⟩ := KS.out w' (BQ.out.trans (hE.mono BQ.out.size))); go_simp; exact ⟨Below.refl _ _, rfl⟩)); (simp only [Act.put, List.setIfInBounds_toArray, List.set_cons_zero, List.set_cons_succ, List.cons_append, List.nil_append])
  (with_reducible apply wpF_val); (focus (intro vs w' hE hk; (obtain ⟨s0, s1, s2, s3, s4, s5, s6, s7, s8⟩ := KS.out w' (BQ.out.trans (hE.mono BQ.out.size))); go_simp; exact ⟨Below.refl _ _, rfl⟩)); (simp only [Act.put, List.setIfInBounds_toArray, List.set_cons_zero, List.set_cons_succ, List.cons_append, List.nil_append])
  (with_reducible apply wpF_val); (focus (intro vs w' hE hk; (obtain ⟨s0, s1, s2, s3, s4, s5, s6, s7, s8⟩ := KS.out w' (BQ.out.trans (hE.mono BQ.out.size))); go_simp; exact ⟨Below.refl _ _, rfl⟩)); (simp only [Act.put, List.setIfInBounds_toArray, List.set_cons_zero, List.set_cons_succ, List.cons_append, List.nil_append])
  (with_reducible apply wpF_val); (focus (intro vs w' hE hk; (obtain ⟨s0, s1, s2, s3, s4, s5, s6, s7, s8⟩ := KS.out w' (BQ.out.trans (hE.mono BQ.out.size))); go_simp; exact ⟨Below.refl _ _, rfl⟩)); (simp only [Act.put, List.setIfInBounds_toArray, List.set_cons_zero, List.set_cons_succ, List.cons_append, List.nil_append])
  (with_reducible apply wpF_val); (focus (intro vs w' hE hk; (obtain ⟨s0, s1, s2, s3, s4, s5, s6, s7, s8⟩ := KS.out w' (BQ.out.trans (hE.mono BQ.out.size))); go_simp; exact ⟨Below.refl _ _, rfl⟩)); (simp only [Act.put, List.setIfInBounds_toArray, List.set_cons_zero, List.set_cons_succ, List.cons_append, List.nil_append])
  (with_reducible apply wpF_val); (focus (intro vs w' hE hk; (obtain ⟨s0, s1, s2, s3, s4, s5, s6, s7, s8⟩ := KS.out w' (BQ.out.trans (hE.mono BQ.out.size))); go_simp; exact ⟨Below.refl _ _, rfl⟩)); (simp only [Act.put, List.setIfInBounds_toArray, List.set_cons_zero, List.set_cons_succ, List.cons_append, List.nil_append])
  refine wpF_fact (fun u _ => ∃ m, u = .float .f32 (pick .f32 (lessV (fat zs 0) (fat zs 8) (fat zs 2) (fat zs 6)) m)) (fun _ _ _ h _ => h) (fun vs w' hE hk => ?_) ?_; (focus ((obtain ⟨s0, s1, s2, s3, s4, s5, s6, s7, s8⟩ := KS.out w' (BQ.out.trans (hE.mono BQ.out.size))); go_simp; refine (CX4.out _ _ _ _ _).mono ?_; rintro _ _ ⟨m1, m2, rfl, rfl⟩; exact ⟨_, rfl, below_drewN (Below.refl _ _) _, m1, rfl⟩)); (simp only [Act.put, List.setIfInBounds_toArray, List.set_cons_zero, List.set_cons_succ, List.cons_append, List.nil_append])
  (with_reducible apply wpF_val); (focus (intro vs w' hE hk; (obtain ⟨s0, s1, s2, s3, s4, s5, s6, s7, s8⟩ := KS.out w' (BQ.out.trans (hE.mono BQ.out.size))); go_simp; exact ⟨Below.refl _ _, rfl⟩)); (simp only [Act.put, List.setIfInBounds_toArray, List.set_cons_zero, List.set_cons_succ, List.cons_append, List.nil_append])
  (with_reducible apply wpF_val); (focus (intro vs w' hE hk; (obtain ⟨s0, s1, s2, s3, s4, s5, s6, s7, s8⟩ := KS.out w' (BQ.out.trans (hE.mono BQ.out.size))); go_simp; exact ⟨Below.refl _ _, rfl⟩)); (simp only [Act.put, List.setIfInBounds_toArray, List.set_cons_zero, List.set_cons_succ, List.cons_append, List.nil_append])
  (with_reducible apply wpF_val); (focus (intro vs w' hE hk; (obtain ⟨s0, s1, s2, s3, s4, s5, s6, s7, s8⟩ := KS.out w' (BQ.out.trans (hE.mono BQ.out.size))); go_simp; exact ⟨Below.refl _ _, rfl⟩)); (simp only [Act.put, List.setIfInBounds_toArray, List.set_cons_zero, List.set_cons_succ, List.cons_append, List.nil_append])
  (with_reducible apply wpF_val); (focus (intro vs w' hE hk; (obtain ⟨s0, s1, s2, s3, s4, s5, s6, s7, s8⟩ := KS.out w' (BQ.out.trans (hE.mono BQ.out.size))); go_simp; exact ⟨Below.refl _ _, rfl⟩)); (simp only [Act.put, List.setIfInBounds_toArray, List.set_cons_zero, List.set_cons_succ, List.cons_append, List.nil_append])
  (with_reducible apply wpF_val); (focus (intro vs w' hE hk; (obtain ⟨s0, s1, s2, s3, s4, s5, s6, s7, s8⟩ := KS.out w' (BQ.out.trans (hE.mono BQ.out.size))); go_simp; exact ⟨Below.refl _ _, rfl⟩)); (simp only [Act.put, List.setIfInBounds_toArray, List.set_cons_zero, List.set_cons_succ, List.cons_append, List.nil_append])
  (with_reducible apply wpF_val); (focus (intro vs w' hE hk; (obtain ⟨s0, s1, s2, s3, s4, s5, s6, s7, s8⟩ := KS.out w' (BQ.out.trans (hE.mono BQ.out.size))); go_simp; exact ⟨Below.refl _ _, rfl⟩)); (simp only [Act.put, List.setIfInBounds_toArray, List.set_cons_zero, List.set_cons_succ, List.cons_append, List.nil_append])
  (with_reducible apply wpF_val); (focus (intro vs w' hE hk; (obtain ⟨s0, s1, s2, s3, s4, s5, s6, s7, s8⟩ := KS.out w' (BQ.out.trans (hE.mono BQ.out.size))); go_simp; exact ⟨Below.refl _ _, rfl⟩)); (simp only [Act.put, List.setIfInBounds_toArray, List.set_cons_zero, List.set_cons_succ, List.cons_append, List.nil_append])
  (with_reducible apply wpF_val); (focus (intro vs w' hE hk; (obtain ⟨s0, s1, s2, s3, s4, s5, s6, s7, s8⟩ := KS.out w' (BQ.out.trans (hE.mono BQ.out.size))); go_simp; exact ⟨Below.refl _ _, rfl⟩)); (simp only [Act.put, List.setIfInBounds_toArray, List.set_cons_zero, List.set_cons_succ, List.cons_append, List.nil_append])
  (with_reducible apply wpF_val); (focus (intro vs w' hE hk; (obtain ⟨s0, s1, s2, s3, s4, s5, s6, s7, s8⟩ := KS.out w' (BQ.out.trans (hE.mono BQ.out.size))); go_simp; exact ⟨Below.refl _ _, rfl⟩)); (simp only [Act.put, List.setIfInBounds_toArray, List.set_cons_zero, List.set_cons_succ, List.cons_append, List.nil_append])
  (with_reducible apply wpF_val); (focus (intro vs w' hE hk; (obtain ⟨s0, s1, s2, s3, s4, s5, s6, s7, s8⟩ := KS.out w' (BQ.out.trans (hE.mono BQ.out.size))); go_simp; exact ⟨Below.refl _ _, rfl⟩)); (simp only [Act.put, List.setIfInBounds_toArray, List.set_cons_zero, List.set_cons_succ, List.cons_append, List.nil_append])
  (with_reducible apply wpF_val); (focus (intro vs w' hE hk; (obtain ⟨s0, s1, s2, s3, s4, s5, s6, s7, s8⟩ := KS.out w' (BQ.out.trans (hE.mono BQ.out.size))); go_simp; exact ⟨Below.refl _ _, rfl⟩)); (simp only [Act.put, List.setIfInBounds_toArray, List.set_cons_zero, List.set_cons_succ, List.cons_append, List.nil_append])
  (with_reducible apply wpF_val); (focus (intro vs w' hE hk; (obtain ⟨s0, s1, s2, s3, s4, s5, s6, s7, s8⟩ := KS.out w' (BQ.out.trans (hE.mono BQ.out.size))); go_simp; exact ⟨Below.refl _ _, rfl⟩)); (simp only [Act.put, List.setIfInBounds_toArray, List.set_cons_zero, List.set_cons_succ, List.cons_append, List.nil_append])
  refine wpF_fact (fun u _ => ∃ m, u = .float .f32 (pick .f32 (lessV (fat zs 2) (fat zs 3) (fat zs 0) (fat zs 5)) m)) (fun _ _ _ h _ => h) (fun vs w' hE hk => ?_) ?_; (focus ((obtain ⟨s0, s1, s2, s3, s4, s5, s6, s7, s8⟩ := KS.out w' (BQ.out.trans (hE.mono BQ.out.size))); go_simp; refine (CX5.out _ _ _ _ _).mono ?_; rintro _ _ ⟨m1, m2, rfl, rfl⟩; exact ⟨_, rfl, below_drewN (Below.refl _ _) _, m1, rfl⟩)); (simp only [Act.put, List.setIfInBounds_toArray, List.set_cons_zero, List.set_cons_succ, List.cons_append, List.nil_append])
  (with_reducible apply wpF_val); (focus (intro vs w' hE hk; (obtain ⟨s0, s1, s2, s3, s4, s5, s6, s7, s8⟩ := KS.out w' (BQ.out.trans (hE.mono BQ.out.size))); go_simp; exact ⟨Below.refl _ _, rfl⟩)); (simp only [Act.put, List.setIfInBounds_toArray, List.set_cons_zero, List.set_cons_succ, List.cons_append, List.nil_append])
  (with_reducible apply wpF_val); (focus (intro vs w' hE hk; (obtain ⟨s0, s1, s2, s3, s4, s5, s6, s7, s8⟩ := KS.out w' (BQ.out.trans (hE.mono BQ.out.size))); go_simp; exact ⟨Below.refl _ _, rfl⟩)); (simp only [Act.put, List.setIfInBounds_toArray, List.set_cons_zero, List.set_cons_succ, List.cons_append, List.nil_append])
  (with_reducible apply wpF_val); (focus (intro vs w' hE hk; (obtain ⟨s0, s1, s2, s3, s4, s5, s6, s7, s8⟩ := KS.out w' (BQ.out.trans (hE.mono BQ.out.size))); go_simp; exact ⟨Below.refl _ _, rfl⟩)); (simp only [Act.put, List.setIfInBounds_toArray, List.set_cons_zero, List.set_cons_succ, List.cons_append, List.nil_append])
  (with_reducible apply wpF_val); (focus (intro vs w' hE hk; (obtain ⟨s0, s1, s2, s3, s4, s5, s6, s7, s8⟩ := KS.out w' (BQ.out.trans (hE.mono BQ.out.size))); go_simp; exact ⟨Below.refl _ _, rfl⟩)); (simp only [Act.put, List.setIfInBounds_toArray, List.set_cons_zero, List.set_cons_succ, List.cons_append, List.nil_append])
  (with_reducible apply wpF_val); (focus (intro vs w' hE hk; (obtain ⟨s0, s1, s2, s3, s4, s5, s6, s7, s8⟩ := KS.out w' (BQ.out.trans (hE.mono BQ.out.size))); go_simp; exact ⟨Below.refl _ _, rfl⟩)); (simp only [Act.put, List.setIfInBounds_toArray, List.set_cons_zero, List.set_cons_succ, List.cons_append, List.nil_append])
  (with_reducible apply wpF_val); (focus (intro vs w' hE hk; (obtain ⟨s0, s1, s2, s3, s4, s5, s6, s7, s8⟩ := KS.out w' (BQ.out.trans (hE.mono BQ.out.size))); go_simp; exact ⟨Below.refl _ _, rfl⟩)); (simp only [Act.put, List.setIfInBounds_toArray, List.set_cons_zero, List.set_cons_succ, List.cons_append, List.nil_append])
  (with_reducible apply wpF_val); (focus (intro vs w' hE hk; (obtain ⟨s0, s1, s2, s3, s4, s5, s6, s7, s8⟩ := KS.out w' (BQ.out.trans (hE.mono BQ.out.size))); go_simp; exact ⟨Below.refl _ _, rfl⟩)); (simp only [Act.put, List.setIfInBounds_toArray, List.set_cons_zero, List.set_cons_succ, List.cons_append, List.nil_append])
  (with_reducible apply wpF_val); (focus (intro vs w' hE hk; (obtain ⟨s0, s1, s2, s3, s4, s5, s6, s7, s8⟩ := KS.out w' (BQ.out.trans (hE.mono BQ.out.size))); go_simp; exact ⟨Below.refl _ _, rfl⟩)); (simp only [Act.put, List.setIfInBounds_toArray, List.set_cons_zero, List.set_cons_succ, List.cons_append, List.nil_append])
  (with_reducible apply wpF_val); (focus (intro vs w' hE hk; (obtain ⟨s0, s1, s2, s3, s4, s5, s6, s7, s8⟩ := KS.out w' (BQ.out.trans (hE.mono BQ.out.size))); go_simp; exact ⟨Below.refl _ _, rfl⟩)); (simp only [Act.put, List.setIfInBounds_toArray, List.set_cons_zero, List.set_cons_succ, List.cons_append, List.nil_append])
  (with_reducible apply wpF_val); (focus (intro vs w' hE hk; (obtain ⟨s0, s1, s2, s3, s4, s5, s6, s7, s8⟩ := KS.out w' (BQ.out.trans (hE.mono BQ.out.size))); go_simp; exact ⟨Below.refl _ _, rfl⟩)); (simp only [Act.put, List.setIfInBounds_toArray, List.set_cons_zero, List.set_cons_succ, List.cons_append, List.nil_append])
  (with_reducible apply wpF_val); (focus (intro vs w' hE hk; (obtain ⟨s0, s1, s2, s3, s4, s5, s6, s7, s8⟩ := KS.out w' (BQ.out.trans (hE.mono BQ.out.size))); go_simp; exact ⟨Below.refl _ _, rfl⟩)); (simp only [Act.put, List.setIfInBounds_toArray, List.set_cons_zero, List.set_cons_succ, List.cons_append, List.nil_append])
  (with_reducible apply wpF_val); (focus (intro vs w' hE hk; (obtain ⟨s0, s1, s2, s3, s4, s5, s6, s7, s8⟩ := KS.out w' (BQ.out.trans (hE.mono BQ.out.size))); go_simp; exact ⟨Below.refl _ _, rfl⟩)); (simp only [Act.put, List.setIfInBounds_toArray, List.set_cons_zero, List.set_cons_succ, List.cons_append, List.nil_append])
  (with_reducible apply wpF_val); (focus (intro vs w' hE hk; (obtain ⟨s0, s1, s2, s3, s4, s5, s6, s7, s8⟩ := KS.out w' (BQ.out.trans (hE.mono BQ.out.size))); go_simp; exact ⟨Below.refl _ _, rfl⟩)); (simp only [Act.put, List.setIfInBounds_toArray, List.set_cons_zero, List.set_cons_succ, List.cons_append, List.nil_append])
  refine wpF_fact (fun u _ => ∃ m, u = .float .f32 (pick .f32 (lessV (fat zs 1) (fat zs 6) (fat zs 0) (fat zs 7)) m)) (fun _ _ _ h _ => h) (fun vs w' hE hk => ?_) ?_; (focus ((obtain ⟨s0, s1, s2, s3, s4, s5, s6, s7, s8⟩ := KS.out w' (BQ.out.trans (hE.mono BQ.out.size))); go_simp; refine (CX7.out _ _ _ _ _).mono ?_; rintro _ _ ⟨m1, m2, rfl, rfl⟩; exact ⟨_, rfl, below_drewN (Below.refl _ _) _, m1, rfl⟩)); (simp only [Act.put, List.setIfInBounds_toArray, List.set_cons_zero, List.set_cons_succ, List.cons_append, List.nil_append])
  (with_reducible apply wpF_val); (focus (intro vs w' hE hk; (obtain ⟨s0, s1, s2, s3, s4, s5, s6, s7, s8⟩ := KS.out w' (BQ.out.trans (hE.mono BQ.out.size))); go_simp; exact ⟨Below.refl _ _, rfl⟩)); (simp only [Act.put, List.setIfInBounds_toArray, List.set_cons_zero, List.set_cons_succ, List.cons_append, List.nil_append])
  (with_reducible apply wpF_val); (focus (intro vs w' hE hk; (obtain ⟨s0, s1, s2, s3, s4, s5, s6, s7, s8⟩ := KS.out w' (BQ.out.trans (hE.mono BQ.out.size))); go_simp; exact ⟨Below.refl _ _, rfl⟩)); (simp only [Act.put, List.setIfInBounds_toArray, List.set_cons_zero, List.set_cons_succ, List.cons_append, List.nil_append])
  (with_reducible apply wpF_val); (focus (intro vs w' hE hk; (obtain ⟨s0, s1, s2, s3, s4, s5, s6, s7, s8⟩ := KS.out w' (BQ.out.trans (hE.mono BQ.out.size))); go_simp; exact ⟨Below.refl _ _, rfl⟩)); (simp only [Act.put, List.setIfInBounds_toArray, List.set_cons_zero, List.set_cons_succ, List.cons_append, List.nil_append])
  (with_reducible apply wpF_val); (focus (intro vs w' hE hk; (obtain ⟨s0, s1, s2, s3, s4, s5, s6, s7, s8⟩ := KS.out w' (BQ.out.trans (hE.mono BQ.out.size))); go_simp; exact ⟨Below.refl _ _, rfl⟩)); (simp only [Act.put, List.setIfInBounds_toArray, List.set_cons_zero, List.set_cons_succ, List.cons_append, List.nil_append])
  (with_reducible apply wpF_val); (focus (intro vs w' hE hk; (obtain ⟨s0, s1, s2, s3, s4, s5, s6, s7, s8⟩ := KS.out w' (BQ.out.trans (hE.mono BQ.out.size))); go_simp; exact ⟨Below.refl _ _, rfl⟩)); (simp only [Act.put, List.setIfInBounds_toArray, List.set_cons_zero, List.set_cons_succ, List.cons_append, List.nil_append])
  (with_reducible apply wpF_val); (focus (intro vs w' hE hk; (obtain ⟨s0, s1, s2, s3, s4, s5, s6, s7, s8⟩ := KS.out w' (BQ.out.trans (hE.mono BQ.out.size))); go_simp; exact ⟨Below.refl _ _, rfl⟩)); (simp only [Act.put, List.setIfInBounds_toArray, List.set_cons_zero, List.set_cons_succ, List.cons_append, List.nil_append])
  (with_reducible apply wpF_val); (focus (intro vs w' hE hk; (obtain ⟨s0, s1, s2, s3, s4, s5, s6, s7, s8⟩ := KS.out w' (BQ.out.trans (hE.mono BQ.out.size))); go_simp; exact ⟨Below.refl _ _, rfl⟩)); (simp only [Act.put, List.setIfInBounds_toArray, List.set_cons_zero, List.set_cons_succ, List.cons_append, List.nil_append])
  (with_reducible apply wpF_val); (focus (intro vs w' hE hk; (obtain ⟨s0, s1, s2, s3, s4, s5, s6, s7, s8⟩ := KS.out w' (BQ.out.trans (hE.mono BQ.out.size))); go_simp; exact ⟨Below.refl _ _, rfl⟩)); (simp only [Act.put, List.setIfInBounds_toArray, List.set_cons_zero, List.set_cons_succ, List.cons_append, List.nil_append])
  (with_reducible apply wpF_val); (focus (intro vs w' hE hk; (obtain ⟨s0, s1, s2, s3, s4, s5, s6, s7, s8⟩ := KS.out w' (BQ.out.trans (hE.mono BQ.out.size))); go_simp; exact ⟨Below.refl _ _, rfl⟩)); (simp only [Act.put, List.setIfInBounds_toArray, List.set_cons_zero, List.set_cons_succ, List.cons_append, List.nil_append])
  (with_reducible apply wpF_val); (focus (intro vs w' hE hk; (obtain ⟨s0, s1, s2, s3, s4, s5, s6, s7, s8⟩ := KS.out w' (BQ.out.trans (hE.mono BQ.out.size))); go_simp; exact ⟨Below.refl _ _, rfl⟩)); (simp only [Act.put, List.setIfInBounds_toArray, List.set_cons_zero, List.set_cons_succ, List.cons_append, List.nil_append])
  (with_reducible apply wpF_val); (focus (intro vs w' hE hk; (obtain ⟨s0, s1, s2, s3, s4, s5, s6, s7, s8⟩ := KS.out w' (BQ.out.trans (hE.mono BQ.out.size))); go_simp; exact ⟨Below.refl _ _, rfl⟩)); (simp only [Act.put, List.setIfInBounds_toArray, List.set_cons_zero, List.set_cons_succ, List.cons_append, List.nil_append])
  (with_reducible apply wpF_val); (focus (intro vs w' hE hk; (obtain ⟨s0, s1, s2, s3, s4, s5, s6, s7, s8⟩ := KS.out w' (BQ.out.trans (hE.mono BQ.out.size))); go_simp; exact ⟨Below.refl _ _, rfl⟩)); (simp only [Act.put, List.setIfInBounds_toArray, List.set_cons_zero, List.set_cons_succ, List.cons_append, List.nil_append])
  refine wpF_fact (fun u _ => ∃ m, u = .float .f32 (pick .f32 (lessV (fat zs 0) (fat zs 4) (fat zs 1) (fat zs 3)) m)) (fun _ _ _ h _ => h) (fun vs w' hE hk => ?_) ?_; (focus ((obtain ⟨s0, s1, s2, s3, s4, s5, s6, s7, s8⟩ := KS.out w' (BQ.out.trans (hE.mono BQ.out.size))); go_simp; refine (CX8.out _ _ _ _ _).mono ?_; rintro _ _ ⟨m1, m2, rfl, rfl⟩; exact ⟨_, rfl, below_drewN (Below.refl _ _) _, m1, rfl⟩)); (simp only [Act.put, List.setIfInBounds_toArray, List.set_cons_zero, List.set_cons_succ, List.cons_append, List.nil_append])
  refine wpF_nil (fun vs u5 hE hk => ?_)
  obtain ⟨k1, h1⟩ := hk 13
  obtain ⟨k2, h2⟩ := hk 26
  obtain ⟨k4, h4⟩ := hk 40
  obtain ⟨k5, h5⟩ := hk 53
  obtain ⟨k7, h7⟩ := hk 67
  obtain ⟨k8, h8⟩ := hk 80
  simp only [h1, h2, h4, h5, h7, h8]
  have B5 := Lib.hid (BQ.out.trans (hE.mono BQ.out.size))
  clear hE hk BQ KS h1 h2 h4 h5 h7 h8 CX1 CX2 CX4 CX5 CX7 CX8
  have HLT := Lib.hid (show ∀ x ∈ [P, lessV (fat zs 2) (fat zs 7) (fat zs 1) (fat zs 8), lessV (fat zs 1) (fat zs 5) (fat zs 2) (fat zs 4), Q, lessV (fat zs 0) (fat zs 8) (fat zs 2) (fat zs 6), lessV (fat zs 2) (fat zs 3) (fat zs 0) (fat zs 5), R, lessV (fat zs 1) (fat zs 6) (fat zs 0) (fat zs 7), lessV (fat zs 0) (fat zs 4) (fat zs 1) (fat zs 3)], x < 2 ^ FloatKind.f32.format.width from by intro x hx; simp only [List.mem_cons, List.not_mem_nil, or_false] at hx; rcases hx with rfl | rfl | rfl | rfl | rfl | rfl | rfl | rfl | rfl <;> first | exact fop_lt _ _ _ _ | (rw [HP.out]; exact fop_lt _ _ _ _) | (rw [HQ.out]; exact fop_lt _ _ _ _) | (rw [HRr.out]; exact fop_lt _ _ _ _))
  generalize lessV (fat zs 2) (fat zs 7) (fat zs 1) (fat zs 8) = L1 at *
  generalize lessV (fat zs 1) (fat zs 5) (fat zs 2) (fat zs 4) = L2 at *
  generalize lessV (fat zs 0) (fat zs 8) (fat zs 2) (fat zs 6) = L4 at *
  generalize lessV (fat zs 2) (fat zs 3) (fat zs 0) (fat zs 5) = L5 at *
  generalize lessV (fat zs 1) (fat zs 6) (fat zs 0) (fat zs 7) = L7 at *
  generalize lessV (fat zs 0) (fat zs 4) (fat zs 1) (fat zs 3) = L8 at *
  clear CM
  obtain ⟨x0, hx0⟩ : ∃ N, N = u5.alloc (.cells #[.float .f32 (pick .f32 P kP), .float .f32 (pick .f32 L1 k1), .float .f32 (pick .f32 L2 k2), .float .f32 (pick .f32 Q kQ), .float .f32 (pick .f32 L4 k4), .float .f32 (pick .f32 L5 k5), .float .f32 (pick .f32 R kR), .float .f32 (pick .f32 L7 k7), .float .f32 (pick .f32 L8 k8)] 23) := ⟨_, rfl⟩
  have hg : w.heap.size ≤ u5.heap.size := B5.out.size
  have O0 := Lib.hid (show Own 23 x0 w.heap.size (some ⟨u5.heap.size, 0, none⟩) 9 9 [pick .f32 P kP, pick .f32 L1 k1, pick .f32 L2 k2, pick .f32 Q kQ, pick .f32 L4 k4, pick .f32 L5 k5, pick .f32 R kR, pick .f32 L7 k7, pick .f32 L8 k8] from hx0 ▸ own_new9 (zs := [pick .f32 P kP, pick .f32 L1 k1, pick .f32 L2 k2, pick .f32 Q kQ, pick .f32 L4 k4, pick .f32 L5 k5, pick .f32 R kR, pick .f32 L7 k7, pick .f32 L8 k8]) rfl hg (by simp) (fun b hb => by
    simp only [List.mem_cons, List.not_mem_nil, or_false] at hb
    have hh := HLT.out
    rcases hb with rfl | rfl | rfl | rfl | rfl | rfl | rfl | rfl | rfl <;> exact pick_wf (hh _ (by simp)) _))
  have B0 := Lib.hid (show Below w.heap.size w x0 from hx0 ▸ B5.out.alloc hg _)
  have HX0 := Lib.hid hx0.symm
  clear hx0 HLT B5
  go_wp2_with fail
  rw [HX0.out]
  clear HX0
  refine wp_loop_rounds 10 ?_
  rw [rounds_succ]
  have l : x0.cell? ⟨u5.heap.size, 0, none⟩ = some (.float .f32 (pick .f32 P kP)) := O0.out.cellAt (k := 0) (by omega)
  have f := O0.out.frozen 0
  go_wp2_with (refine upon_fop0 _ _ _ _ _ (by decide) ?_; intro m0 j1; have b := below_drewN (Below.refl x0.heap.size x0) j1; generalize x0.drewN j1 = y0 at b ⊢; have f := (O0.out.below b).frozen 0; have l : y0.cell? ⟨u5.heap.size, 0, none⟩ = some (.float .f32 (pick .f32 P kP)) := (O0.out.below b).cellAt (k := 0) (by omega))
  have O1 : Hid (Own 23 (y0.setCell ⟨u5.heap.size, 0, none⟩ (.float .f32 (pick .f32 (fop .quo .f32 P S) m0))) w.heap.size (some ⟨u5.heap.size, 0, none⟩) 9 9 [pick .f32 (fop .quo .f32 P S) m0, pick .f32 L1 k1, pick .f32 L2 k2, pick .f32 Q kQ, pick .f32 L4 k4, pick .f32 L5 k5, pick .f32 R kR, pick .f32 L7 k7, pick .f32 L8 k8]) := Lib.hid ((O0.out.below b).set (k := 0) (by omega) (pick .f32 (fop .quo .f32 P S) m0) (pick_wf (fop_lt _ _ _ _) m0))
  have B1 := Lib.hid ((B0.out.trans (b.mono B0.out.size)).setCell (p := ⟨u5.heap.size, 0, none⟩) hg (.float .f32 (pick .f32 (fop .quo .f32 P S) m0)))
  clear b f l O0 B0
  generalize y0.setCell ⟨u5.heap.size, 0, none⟩ (.float .f32 (pick .f32 (fop .quo .f32 P S) m0)) = x1 at *
  rw [rounds_succ]
  have l : x1.cell? ⟨u5.heap.size, 1, none⟩ = some (.float .f32 (pick .f32 L1 k1)) := O1.out.cellAt (k := 1) (by omega)
  have f := O1.out.frozen 1
  go_wp2_with (refine upon_fop0 _ _ _ _ _ (by decide) ?_; intro m1 j2; have b := below_drewN (Below.refl x1.heap.size x1) j2; generalize x1.drewN j2 = y1 at b ⊢; have f := (O1.out.below b).frozen 1; have l : y1.cell? ⟨u5.heap.size, 1, none⟩ = some (.float .f32 (pick .f32 L1 k1)) := (O1.out.below b).cellAt (k := 1) (by omega))
  have O2 : Hid (Own 23 (y1.setCell ⟨u5.heap.size, 1, none⟩ (.float .f32 (pick .f32 (fop .quo .f32 L1 S) m1))) w.heap.size (some ⟨u5.heap.size, 0, none⟩) 9 9 [pick .f32 (fop .quo .f32 P S) m0, pick .f32 (fop .quo .f32 L1 S) m1, pick .f32 L2 k2, pick .f32 Q kQ, pick .f32 L4 k4, pick .f32 L5 k5, pick .f32 R kR, pick .f32 L7 k7, pick .f32 L8 k8]) := Lib.hid ((O1.out.below b).set (k := 1) (by omega) (pick .f32 (fop .quo .f32 L1 S) m1) (pick_wf (fop_lt _ _ _ _) m1))
  have B2 := Lib.hid ((B1.out.trans (b.mono B1.out.size)).setCell (p := ⟨u5.heap.size, 1, none⟩) hg (.float .f32 (pick .f32 (fop .quo .f32 L1 S) m1)))
  clear b f l O1 B1
  generalize y1.setCell ⟨u5.heap.size, 1, none⟩ (.float .f32 (pick .f32 (fop .quo .f32 L1 S) m1)) = x2 at *
  rw [rounds_succ]
  have l : x2.cell? ⟨u5.heap.size, 2, none⟩ = some (.float .f32 (pick .f32 L2 k2)) := O2.out.cellAt (k := 2) (by omega)
  have f := O2.out.frozen 2
  go_wp2_with (refine upon_fop0 _ _ _ _ _ (by decide) ?_; intro m2 j3; have b := below_drewN (Below.refl x2.heap.size x2) j3; generalize x2.drewN j3 = y2 at b ⊢; have f := (O2.out.below b).frozen 2; have l : y2.cell? ⟨u5.heap.size, 2, none⟩ = some (.float .f32 (pick .f32 L2 k2)) := (O2.out.below b).cellAt (k := 2) (by omega))
  have O3 : Hid (Own 23 (y2.setCell ⟨u5.heap.size, 2, none⟩ (.float .f32 (pick .f32 (fop .quo .f32 L2 S) m2))) w.heap.size (some ⟨u5.heap.size, 0, none⟩) 9 9 [pick .f32 (fop .quo .f32 P S) m0, pick .f32 (fop .quo .f32 L1 S) m1, pick .f32 (fop .quo .f32 L2 S) m2, pick .f32 Q kQ, pick .f32 L4 k4, pick .f32 L5 k5, pick .f32 R kR, pick .f32 L7 k7, pick .f32 L8 k8]) := Lib.hid ((O2.out.below b).set (k := 2) (by omega) (pick .f32 (fop .quo .f32 L2 S) m2) (pick_wf (fop_lt _ _ _ _) m2))
  have B3 := Lib.hid ((B2.out.trans (b.mono B2.out.size)).setCell (p := ⟨u5.heap.size, 2, none⟩) hg (.float .f32 (pick .f32 (fop .quo .f32 L2 S) m2)))
  clear b f l O2 B2
  generalize y2.setCell ⟨u5.heap.size, 2, none⟩ (.float .f32 (pick .f32 (fop .quo .f32 L2 S) m2)) = x3 at *
  rw [rounds_succ]
  have l : x3.cell? ⟨u5.heap.size, 3, none⟩ = some (.float .f32 (pick .f32 Q kQ)) := O3.out.cellAt (k := 3) (by omega)
  have f := O3.out.frozen 3
  go_wp2_with (refine upon_fop0 _ _ _ _ _ (by decide) ?_; intro m3 j4; have b := below_drewN (Below.refl x3.heap.size x3) j4; generalize x3.drewN j4 = y3 at b ⊢; have f := (O3.out.below b).frozen 3; have l : y3.cell? ⟨u5.heap.size, 3, none⟩ = some (.float .f32 (pick .f32 Q kQ)) := (O3.out.below b).cellAt (k := 3) (by omega))
  have O4 : Hid (Own 23 (y3.setCell ⟨u5.heap.size, 3, none⟩ (.float .f32 (pick .f32 (fop .quo .f32 Q S) m3))) w.heap.size (some ⟨u5.heap.size, 0, none⟩) 9 9 [pick .f32 (fop .quo .f32 P S) m0, pick .f32 (fop .quo .f32 L1 S) m1, pick .f32 (fop .quo .f32 L2 S) m2, pick .f32 (fop .quo .f32 Q S) m3, pick .f32 L4 k4, pick .f32 L5 k5, pick .f32 R kR, pick .f32 L7 k7, pick .f32 L8 k8]) := Lib.hid ((O3.out.below b).set (k := 3) (by omega) (pick .f32 (fop .quo .f32 Q S) m3) (pick_wf (fop_lt _ _ _ _) m3))
  have B4 := Lib.hid ((B3.out.trans (b.mono B3.out.size)).setCell (p := ⟨u5.heap.size, 3, none⟩) hg (.float .f32 (pick .f32 (fop .quo .f32 Q S) m3)))
  clear b f l O3 B3
  generalize y3.setCell ⟨u5.heap.size, 3, none⟩ (.float .f32 (pick .f32 (fop .quo .f32 Q S) m3)) = x4 at *
  rw [rounds_succ]
  have l : x4.cell? ⟨u5.heap.size, 4, none⟩ = some (.float .f32 (pick .f32 L4 k4)) := O4.out.cellAt (k := 4) (by omega)
  have f := O4.out.frozen 4
  go_wp2_with (refine upon_fop0 _ _ _ _ _ (by decide) ?_; intro m4 j5; have b := below_drewN (Below.refl x4.heap.size x4) j5; generalize x4.drewN j5 = y4 at b ⊢; have f := (O4.out.below b).frozen 4; have l : y4.cell? ⟨u5.heap.size, 4, none⟩ = some (.float .f32 (pick .f32 L4 k4)) := (O4.out.below b).cellAt (k := 4) (by omega))
  have O5 : Hid (Own 23 (y4.setCell ⟨u5.heap.size, 4, none⟩ (.float .f32 (pick .f32 (fop .quo .f32 L4 S) m4))) w.heap.size (some ⟨u5.heap.size, 0, none⟩) 9 9 [pick .f32 (fop .quo .f32 P S) m0, pick .f32 (fop .quo .f32 L1 S) m1, pick .f32 (fop .quo .f32 L2 S) m2, pick .f32 (fop .quo .f32 Q S) m3, pick .f32 (fop .quo .f32 L4 S) m4, pick .f32 L5 k5, pick .f32 R kR, pick .f32 L7 k7, pick .f32 L8 k8]) := Lib.hid ((O4.out.below b).set (k := 4) (by omega) (pick .f32 (fop .quo .f32 L4 S) m4) (pick_wf (fop_lt _ _ _ _) m4))
  have B5 := Lib.hid ((B4.out.trans (b.mono B4.out.size)).setCell (p := ⟨u5.heap.size, 4, none⟩) hg (.float .f32 (pick .f32 (fop .quo .f32 L4 S) m4)))
  clear b f l O4 B4
  generalize y4.setCell ⟨u5.heap.size, 4, none⟩ (.float .f32 (pick .f32 (fop .quo .f32 L4 S) m4)) = x5 at *
  rw [rounds_succ]
  have l : x5.cell? ⟨u5.heap.size, 5, none⟩ = some (.float .f32 (pick .f32 L5 k5)) := O5.out.cellAt (k := 5) (by omega)
  have f := O5.out.frozen 5
  go_wp2_with (refine upon_fop0 _ _ _ _ _ (by decide) ?_; intro m5 j6; have b := below_drewN (Below.refl x5.heap.size x5) j6; generalize x5.drewN j6 = y5 at b ⊢; have f := (O5.out.below b).frozen 5; have l : y5.cell? ⟨u5.heap.size, 5, none⟩ = some (.float .f32 (pick .f32 L5 k5)) := (O5.out.below b).cellAt (k := 5) (by omega))
  have O6 : Hid (Own 23 (y5.setCell ⟨u5.heap.size, 5, none⟩ (.float .f32 (pick .f32 (fop .quo .f32 L5 S) m5))) w.heap.size (some ⟨u5.heap.size, 0, none⟩) 9 9 [pick .f32 (fop .quo .f32 P S) m0, pick .f32 (fop .quo .f32 L1 S) m1, pick .f32 (fop .quo .f32 L2 S) m2, pick .f32 (fop .quo .f32 Q S) m3, pick .f32 (fop .quo .f32 L4 S) m4, pick .f32 (fop .quo .f32 L5 S) m5, pick .f32 R kR, pick .f32 L7 k7, pick .f32 L8 k8]) := Lib.hid ((O5.out.below b).set (k := 5) (by omega) (pick .f32 (fop .quo .f32 L5 S) m5) (pick_wf (fop_lt _ _ _ _) m5))
  have B6 := Lib.hid ((B5.out.trans (b.mono B5.out.size)).setCell (p := ⟨u5.heap.size, 5, none⟩) hg (.float .f32 (pick .f32 (fop .quo .f32 L5 S) m5)))
  clear b f l O5 B5
  generalize y5.setCell ⟨u5.heap.size, 5, none⟩ (.float .f32 (pick .f32 (fop .quo .f32 L5 S) m5)) = x6 at *
  rw [rounds_succ]
  have l : x6.cell? ⟨u5.heap.size, 6, none⟩ = some (.float .f32 (pick .f32 R kR)) := O6.out.cellAt (k := 6) (by omega)
  have f := O6.out.frozen 6
  go_wp2_with (refine upon_fop0 _ _ _ _ _ (by decide) ?_; intro m6 j7; have b := below_drewN (Below.refl x6.heap.size x6) j7; generalize x6.drewN j7 = y6 at b ⊢; have f := (O6.out.below b).frozen 6; have l : y6.cell? ⟨u5.heap.size, 6, none⟩ = some (.float .f32 (pick .f32 R kR)) := (O6.out.below b).cellAt (k := 6) (by omega))
  have O7 : Hid (Own 23 (y6.setCell ⟨u5.heap.size, 6, none⟩ (.float .f32 (pick .f32 (fop .quo .f32 R S) m6))) w.heap.size (some ⟨u5.heap.size, 0, none⟩) 9 9 [pick .f32 (fop .quo .f32 P S) m0, pick .f32 (fop .quo .f32 L1 S) m1, pick .f32 (fop .quo .f32 L2 S) m2, pick .f32 (fop .quo .f32 Q S) m3, pick .f32 (fop .quo .f32 L4 S) m4, pick .f32 (fop .quo .f32 L5 S) m5, pick .f32 (fop .quo .f32 R S) m6, pick .f32 L7 k7, pick .f32 L8 k8]) := Lib.hid ((O6.out.below b).set (k := 6) (by omega) (pick .f32 (fop .quo .f32 R S) m6) (pick_wf (fop_lt _ _ _ _) m6))
  have B7 := Lib.hid ((B6.out.trans (b.mono B6.out.size)).setCell (p := ⟨u5.heap.size, 6, none⟩) hg (.float .f32 (pick .f32 (fop .quo .f32 R S) m6)))
  clear b f l O6 B6
  generalize y6.setCell ⟨u5.heap.size, 6, none⟩ (.float .f32 (pick .f32 (fop .quo .f32 R S) m6)) = x7 at *
  rw [rounds_succ]
  have l : x7.cell? ⟨u5.heap.size, 7, none⟩ = some (.float .f32 (pick .f32 L7 k7)) := O7.out.cellAt (k := 7) (by omega)
  have f := O7.out.frozen 7
  go_wp2_with (refine upon_fop0 _ _ _ _ _ (by decide) ?_; intro m7 j8; have b := below_drewN (Below.refl x7.heap.size x7) j8; generalize x7.drewN j8 = y7 at b ⊢; have f := (O7.out.below b).frozen 7; have l : y7.cell? ⟨u5.heap.size, 7, none⟩ = some (.float .f32 (pick .f32 L7 k7)) := (O7.out.below b).cellAt (k := 7) (by omega))
  have O8 : Hid (Own 23 (y7.setCell ⟨u5.heap.size, 7, none⟩ (.float .f32 (pick .f32 (fop .quo .f32 L7 S) m7))) w.heap.size (some ⟨u5.heap.size, 0, none⟩) 9 9 [pick .f32 (fop .quo .f32 P S) m0, pick .f32 (fop .quo .f32 L1 S) m1, pick .f32 (fop .quo .f32 L2 S) m2, pick .f32 (fop .quo .f32 Q S) m3, pick .f32 (fop .quo .f32 L4 S) m4, pick .f32 (fop .quo .f32 L5 S) m5, pick .f32 (fop .quo .f32 R S) m6, pick .f32 (fop .quo .f32 L7 S) m7, pick .f32 L8 k8]) := Lib.hid ((O7.out.below b).set (k := 7) (by omega) (pick .f32 (fop .quo .f32 L7 S) m7) (pick_wf (fop_lt _ _ _ _) m7))
  have B8 := Lib.hid ((B7.out.trans (b.mono B7.out.size)).setCell (p := ⟨u5.heap.size, 7, none⟩) hg (.float .f32 (pick .f32 (fop .quo .f32 L7 S) m7)))
  clear b f l O7 B7
  generalize y7.setCell ⟨u5.heap.size, 7, none⟩ (.float .f32 (pick .f32 (fop .quo .f32 L7 S) m7)) = x8 at *
  rw [rounds_succ]
  have l : x8.cell? ⟨u5.heap.size, 8, none⟩ = some (.float .f32 (pick .f32 L8 k8)) := O8.out.cellAt (k := 8) (by omega)
  have f := O8.out.frozen 8
  go_wp2_with (refine upon_fop0 _ _ _ _ _ (by decide) ?_; intro m8 j9; have b := below_drewN (Below.refl x8.heap.size x8) j9; generalize x8.drewN j9 = y8 at b ⊢; have f := (O8.out.below b).frozen 8; have l : y8.cell? ⟨u5.heap.size, 8, none⟩ = some (.float .f32 (pick .f32 L8 k8)) := (O8.out.below b).cellAt (k := 8) (by omega))
  have O9 : Hid (Own 23 (y8.setCell ⟨u5.heap.size, 8, none⟩ (.float .f32 (pick .f32 (fop .quo .f32 L8 S) m8))) w.heap.size (some ⟨u5.heap.size, 0, none⟩) 9 9 [pick .f32 (fop .quo .f32 P S) m0, pick .f32 (fop .quo .f32 L1 S) m1, pick .f32 (fop .quo .f32 L2 S) m2, pick .f32 (fop .quo .f32 Q S) m3, pick .f32 (fop .quo .f32 L4 S) m4, pick .f32 (fop .quo .f32 L5 S) m5, pick .f32 (fop .quo .f32 R S) m6, pick .f32 (fop .quo .f32 L7 S) m7, pick .f32 (fop .quo .f32 L8 S) m8]) := Lib.hid ((O8.out.below b).set (k := 8) (by omega) (pick .f32 (fop .quo .f32 L8 S) m8) (pick_wf (fop_lt _ _ _ _) m8))
  have B9 := Lib.hid ((B8.out.trans (b.mono B8.out.size)).setCell (p := ⟨u5.heap.size, 8, none⟩) hg (.float .f32 (pick .f32 (fop .quo .f32 L8 S) m8)))
  clear b f l O8 B8
  generalize y8.setCell ⟨u5.heap.size, 8, none⟩ (.float .f32 (pick .f32 (fop .quo .f32 L8 S) m8)) = x9 at *
  have hnear : near [pick .f32 (fop .quo .f32 P S) m0, pick .f32 (fop .quo .f32 L1 S) m1, pick .f32 (fop .quo .f32 L2 S) m2, pick .f32 (fop .quo .f32 Q S) m3, pick .f32 (fop .quo .f32 L4 S) m4, pick .f32 (fop .quo .f32 L5 S) m5, pick .f32 (fop .quo .f32 R S) m6, pick .f32 (fop .quo .f32 L7 S) m7, pick .f32 (fop .quo .f32 L8 S) m8] (backL zs) := by
    rw [HL.out]
    exact ⟨rfl, fun i hi => by
      match i, hi with
      | 0, _ => exact ⟨m0, rfl⟩
      | 1, _ => exact ⟨m1, rfl⟩
      | 2, _ => exact ⟨m2, rfl⟩
      | 3, _ => exact ⟨m3, rfl⟩
      | 4, _ => exact ⟨m4, rfl⟩
      | 5, _ => exact ⟨m5, rfl⟩
      | 6, _ => exact ⟨m6, rfl⟩
      | 7, _ => exact ⟨m7, rfl⟩
      | 8, _ => exact ⟨m8, rfl⟩
      | n + 9, h => exact absurd h (by simp)⟩
  have CF := Lib.hid (fun j => c_l02Finite (some ⟨u5.heap.size, 0, none⟩) 9 9 [pick .f32 (fop .quo .f32 P S) m0, pick .f32 (fop .quo .f32 L1 S) m1, pick .f32 (fop .quo .f32 L2 S) m2, pick .f32 (fop .quo .f32 Q S) m3, pick .f32 (fop .quo .f32 L4 S) m4, pick .f32 (fop .quo .f32 L5 S) m5, pick .f32 (fop .quo .f32 R S) m6, pick .f32 (fop .quo .f32 L7 S) m7, pick .f32 (fop .quo .f32 L8 S) m8] x9 j O9.out.row)
  have hfe : finL [pick .f32 (fop .quo .f32 P S) m0, pick .f32 (fop .quo .f32 L1 S) m1, pick .f32 (fop .quo .f32 L2 S) m2, pick .f32 (fop .quo .f32 Q S) m3, pick .f32 (fop .quo .f32 L4 S) m4, pick .f32 (fop .quo .f32 L5 S) m5, pick .f32 (fop .quo .f32 R S) m6, pick .f32 (fop .quo .f32 L7 S) m7, pick .f32 (fop .quo .f32 L8 S) m8] = finL (backL zs) := near_fin hnear
  rw [hfe] at CF
  rw [rounds_succ, ← x9.drewN_zero]
  cases hq : finL (backL zs)
  all_goals rw [hq] at CF
  · have HY := Lib.hid (show res = ([], false) by rw [HX.out]; unfold listR; rw [hq]; rfl)
    clear hnear hfe hq
    go_wp2_with (go_at_call 66; refine (CF.out _).mono ?_; rintro _ _ ⟨_, rfl, rfl⟩)
    go_ret2
    rw [HY.out]
    exact RetL.no rfl (below_drewN B9.out _)
  · have HY := Lib.hid (show res = (backL zs, true) by rw [HX.out]; unfold listR; rw [hq]; rfl)
    have he : [pick .f32 (fop .quo .f32 P S) m0, pick .f32 (fop .quo .f32 L1 S) m1, pick .f32 (fop .quo .f32 L2 S) m2, pick .f32 (fop .quo .f32 Q S) m3, pick .f32 (fop .quo .f32 L4 S) m4, pick .f32 (fop .quo .f32 L5 S) m5, pick .f32 (fop .quo .f32 R S) m6, pick .f32 (fop .quo .f32 L7 S) m7, pick .f32 (fop .quo .f32 L8 S) m8] = backL zs := near_eq hnear hq
    have O10 := Lib.hid (he ▸ O9.out)
    have hlen : (backL zs).length = 9 := rfl
    clear hnear hfe hq he
    go_wp2_with (go_at_call 66; refine (CF.out _).mono ?_; rintro _ _ ⟨_, rfl, rfl⟩)
    go_ret2
    rw [HY.out]
    exact ⟨_, _, rfl, by rw [hlen]; decide, below_drewN B9.out _, O10.out.drewN _⟩
/-! ### varSet -/
theorem var_setAt {w : World} {b i : Nat} {cs : Array Value} (h : Var w b cs) (hi : i < cs.size) (v : Value) : Var (w.setCell ⟨b, i, none⟩ v) b (cs.set i v hi) := by
  refine ⟨by simpa using h.1, fun j hj => ?_⟩
  have hj' : j < cs.size := by simpa using hj
  by_cases e : i = j
  · subst e
    rw [Array.getElem_set_self]
    exact World.cell?_setCell_same w _ _ (h.2 i hi)
  · rw [Array.getElem_set_ne _ _ e]
    rw [World.cell?_setCell_other w ⟨b, i, none⟩ ⟨b, j, none⟩ v (fun h2 => e (by have := congrArg Addr.off h2; simpa using this))]
    exact h.2 j hj'
/-! ### matEq -/
theorem eqMat (x0 x1 x2 x3 x4 x5 x6 x7 x8 : Nat) (w : World) : (Op.equalIn 10000 87 (.agg #[.float .f32 x0, .float .f32 x1, .float .f32 x2, .float .f32 x3, .float .f32 x4, .float .f32 x5, .float .f32 x6, .float .f32 x7, .float .f32 x8]) (.agg #[.float .f32 0, .float .f32 0, .float .f32 0, .float .f32 0, .float .f32 0, .float .f32 0, .float .f32 0, .float .f32 0, .float .f32 0])).run Try.prog w = .ok ((FloatKind.f32.format.order x0 0 == some .eq) && (FloatKind.f32.format.order x1 0 == some .eq) && (FloatKind.f32.format.order x2 0 == some .eq) && (FloatKind.f32.format.order x3 0 == some .eq) && (FloatKind.f32.format.order x4 0 == some .eq) && (FloatKind.f32.format.order x5 0 == some .eq) && (FloatKind.f32.format.order x6 0 == some .eq) && (FloatKind.f32.format.order x7 0 == some .eq) && (FloatKind.f32.format.order x8 0 == some .eq)) w := by
  have u3 := Try.underlying23
  rw [show (10000 : Nat) = 9999 + 1 from rfl, Op.equalIn]
  simp only [Sem.run_bind, run_underlying Try.underlying87, Result.andThen_ok]
  simp only [Std.Legacy.Range.forIn_eq_forIn_range', Std.Legacy.Range.size, Nat.sub_zero, Nat.add_sub_cancel, Nat.div_one, List.range'_succ, List.range'_zero, List.forIn_cons, List.forIn_nil]
  have hE : ∀ (x : Nat) (w : World), (Op.equalIn 9999 23 (.float .f32 x) (.float .f32 0)).run Try.prog w = .ok (FloatKind.f32.format.order x 0 == some .eq) w := fun x w => by
    rw [show (9999 : Nat) = 9998 + 1 from rfl, Op.equalIn]
    simp [run_underlying u3, Op.floatEq]
  go_simp
  by_cases h0 : FloatKind.f32.format.order x0 0 = some Ordering.eq
  case neg => simp [h0]
  by_cases h1 : FloatKind.f32.format.order x1 0 = some Ordering.eq
  case neg => simp [h0, h1]
  by_cases h2 : FloatKind.f32.format.order x2 0 = some Ordering.eq
  case neg => simp [h0, h1, h2]
  by_cases h3 : FloatKind.f32.format.order x3 0 = some Ordering.eq
  case neg => simp [h0, h1, h2, h3]
  by_cases h4 : FloatKind.f32.format.order x4 0 = some Ordering.eq
  case neg => simp [h0, h1, h2, h3, h4]
  by_cases h5 : FloatKind.f32.format.order x5 0 = some Ordering.eq
  case neg => simp [h0, h1, h2, h3, h4, h5]
  by_cases h6 : FloatKind.f32.format.order x6 0 = some Ordering.eq
  case neg => simp [h0, h1, h2, h3, h4, h5, h6]
  by_cases h7 : FloatKind.f32.format.order x7 0 = some Ordering.eq
  case neg => simp [h0, h1, h2, h3, h4, h5, h6, h7]
  by_cases h8 : FloatKind.f32.format.order x8 0 = some Ordering.eq
  case neg => simp [h0, h1, h2, h3, h4, h5, h6, h7, h8]
  simp [h0, h1, h2, h3, h4, h5, h6, h7, h8]
/-! ### matFin -/
theorem c_matFin9 (v0 v1 v2 v3 v4 v5 v6 v7 v8 n0 n1 n2 n3 n4 n5 n6 n7 n8 : Nat) (w : World) : Calls Try.prog 129 #[.agg #[.float .f32 (pick .f32 v0 n0), .float .f32 (pick .f32 v1 n1), .float .f32 (pick .f32 v2 n2), .float .f32 (pick .f32 v3 n3), .float .f32 (pick .f32 v4 n4), .float .f32 (pick .f32 v5 n5), .float .f32 (pick .f32 v6 n6), .float .f32 (pick .f32 v7 n7), .float .f32 (pick .f32 v8 n8)]] w (RetB (.bool (finB .f32 v0 && finB .f32 v1 && finB .f32 v2 && finB .f32 v3 && finB .f32 v4 && finB .f32 v5 && finB .f32 v6 && finB .f32 v7 && finB .f32 v8)) w) := by
  generalize hw0 : (w.alloc (Obj.cells #[.float .f32 (pick .f32 v0 n0), .float .f32 (pick .f32 v1 n1), .float .f32 (pick .f32 v2 n2), .float .f32 (pick .f32 v3 n3), .float .f32 (pick .f32 v4 n4), .float .f32 (pick .f32 v5 n5), .float .f32 (pick .f32 v6 n6), .float .f32 (pick .f32 v7 n7), .float .f32 (pick .f32 v8 n8)] 87)).alloc (Obj.cells #[.float .f32 0, .float .f32 0, .float .f32 0, .float .f32 0, .float .f32 0, .float .f32 0, .float .f32 0, .float .f32 0, .float .f32 0] 87) = w0
  have X0 : Var w0 w.heap.size #[.float .f32 (pick .f32 v0 n0), .float .f32 (pick .f32 v1 n1), .float .f32 (pick .f32 v2 n2), .float .f32 (pick .f32 v3 n3), .float .f32 (pick .f32 v4 n4), .float .f32 (pick .f32 v5 n5), .float .f32 (pick .f32 v6 n6), .float .f32 (pick .f32 v7 n7), .float .f32 (pick .f32 v8 n8)] := by subst hw0; exact (Var.new _ _ _).alloc _
  have X1 : Var w0 (w.heap.size + 1) #[.float .f32 0, .float .f32 0, .float .f32 0, .float .f32 0, .float .f32 0, .float .f32 0, .float .f32 0, .float .f32 0, .float .f32 0] := by subst hw0; exact Var.new' _ _ _ _ (by simp)
  have X2 : Free w0 (w.heap.size + 1) := by subst hw0; exact Free.new' _ _ _ _ (by simp)
  have B0 := Lib.hid (show Below w.heap.size w w0 from by subst hw0; exact ((Below.refl _ _).alloc (Nat.le_refl _) _).alloc (by simp) _)
  have HW := Lib.hid hw0
  have c0 : w0.cell? ⟨w.heap.size, 0, none⟩ = some (.float .f32 (pick .f32 v0 n0)) := X0.2 0 (by simp)
  have c1 : w0.cell? ⟨w.heap.size, 1, none⟩ = some (.float .f32 (pick .f32 v1 n1)) := X0.2 1 (by simp)
  have c2 : w0.cell? ⟨w.heap.size, 2, none⟩ = some (.float .f32 (pick .f32 v2 n2)) := X0.2 2 (by simp)
  have c3 : w0.cell? ⟨w.heap.size, 3, none⟩ = some (.float .f32 (pick .f32 v3 n3)) := X0.2 3 (by simp)
  have c4 : w0.cell? ⟨w.heap.size, 4, none⟩ = some (.float .f32 (pick .f32 v4 n4)) := X0.2 4 (by simp)
  have c5 : w0.cell? ⟨w.heap.size, 5, none⟩ = some (.float .f32 (pick .f32 v5 n5)) := X0.2 5 (by simp)
  have c6 : w0.cell? ⟨w.heap.size, 6, none⟩ = some (.float .f32 (pick .f32 v6 n6)) := X0.2 6 (by simp)
  have c7 : w0.cell? ⟨w.heap.size, 7, none⟩ = some (.float .f32 (pick .f32 v7 n7)) := X0.2 7 (by simp)
  have c8 : w0.cell? ⟨w.heap.size, 8, none⟩ = some (.float .f32 (pick .f32 v8 n8)) := X0.2 8 (by simp)
  have i0 : ∀ w : World, (Instr.index 87 (.agg #[.float .f32 (pick .f32 v0 n0), .float .f32 (pick .f32 v1 n1), .float .f32 (pick .f32 v2 n2), .float .f32 (pick .f32 v3 n3), .float .f32 (pick .f32 v4 n4), .float .f32 (pick .f32 v5 n5), .float .f32 (pick .f32 v6 n6), .float .f32 (pick .f32 v7 n7), .float .f32 (pick .f32 v8 n8)]) (.int .i64 0)).run Try.prog w = .ok (.float .f32 (pick .f32 v0 n0)) w := fun _ => by kernel_rfl
  have i1 : ∀ w : World, (Instr.index 87 (.agg #[.float .f32 (pick .f32 v0 n0), .float .f32 (pick .f32 v1 n1), .float .f32 (pick .f32 v2 n2), .float .f32 (pick .f32 v3 n3), .float .f32 (pick .f32 v4 n4), .float .f32 (pick .f32 v5 n5), .float .f32 (pick .f32 v6 n6), .float .f32 (pick .f32 v7 n7), .float .f32 (pick .f32 v8 n8)]) (.int .i64 1)).run Try.prog w = .ok (.float .f32 (pick .f32 v1 n1)) w := fun _ => by kernel_rfl
  have i2 : ∀ w : World, (Instr.index 87 (.agg #[.float .f32 (pick .f32 v0 n0), .float .f32 (pick .f32 v1 n1), .float .f32 (pick .f32 v2 n2), .float .f32 (pick .f32 v3 n3), .float .f32 (pick .f32 v4 n4), .float .f32 (pick .f32 v5 n5), .float .f32 (pick .f32 v6 n6), .float .f32 (pick .f32 v7 n7), .float .f32 (pick .f32 v8 n8)]) (.int .i64 2)).run Try.prog w = .ok (.float .f32 (pick .f32 v2 n2)) w := fun _ => by kernel_rfl
  have i3 : ∀ w : World, (Instr.index 87 (.agg #[.float .f32 (pick .f32 v0 n0), .float .f32 (pick .f32 v1 n1), .float .f32 (pick .f32 v2 n2), .float .f32 (pick .f32 v3 n3), .float .f32 (pick .f32 v4 n4), .float .f32 (pick .f32 v5 n5), .float .f32 (pick .f32 v6 n6), .float .f32 (pick .f32 v7 n7), .float .f32 (pick .f32 v8 n8)]) (.int .i64 3)).run Try.prog w = .ok (.float .f32 (pick .f32 v3 n3)) w := fun _ => by kernel_rfl
  have i4 : ∀ w : World, (Instr.index 87 (.agg #[.float .f32 (pick .f32 v0 n0), .float .f32 (pick .f32 v1 n1), .float .f32 (pick .f32 v2 n2), .float .f32 (pick .f32 v3 n3), .float .f32 (pick .f32 v4 n4), .float .f32 (pick .f32 v5 n5), .float .f32 (pick .f32 v6 n6), .float .f32 (pick .f32 v7 n7), .float .f32 (pick .f32 v8 n8)]) (.int .i64 4)).run Try.prog w = .ok (.float .f32 (pick .f32 v4 n4)) w := fun _ => by kernel_rfl
  have i5 : ∀ w : World, (Instr.index 87 (.agg #[.float .f32 (pick .f32 v0 n0), .float .f32 (pick .f32 v1 n1), .float .f32 (pick .f32 v2 n2), .float .f32 (pick .f32 v3 n3), .float .f32 (pick .f32 v4 n4), .float .f32 (pick .f32 v5 n5), .float .f32 (pick .f32 v6 n6), .float .f32 (pick .f32 v7 n7), .float .f32 (pick .f32 v8 n8)]) (.int .i64 5)).run Try.prog w = .ok (.float .f32 (pick .f32 v5 n5)) w := fun _ => by kernel_rfl
  have i6 : ∀ w : World, (Instr.index 87 (.agg #[.float .f32 (pick .f32 v0 n0), .float .f32 (pick .f32 v1 n1), .float .f32 (pick .f32 v2 n2), .float .f32 (pick .f32 v3 n3), .float .f32 (pick .f32 v4 n4), .float .f32 (pick .f32 v5 n5), .float .f32 (pick .f32 v6 n6), .float .f32 (pick .f32 v7 n7), .float .f32 (pick .f32 v8 n8)]) (.int .i64 6)).run Try.prog w = .ok (.float .f32 (pick .f32 v6 n6)) w := fun _ => by kernel_rfl
  have i7 : ∀ w : World, (Instr.index 87 (.agg #[.float .f32 (pick .f32 v0 n0), .float .f32 (pick .f32 v1 n1), .float .f32 (pick .f32 v2 n2), .float .f32 (pick .f32 v3 n3), .float .f32 (pick .f32 v4 n4), .float .f32 (pick .f32 v5 n5), .float .f32 (pick .f32 v6 n6), .float .f32 (pick .f32 v7 n7), .float .f32 (pick .f32 v8 n8)]) (.int .i64 7)).run Try.prog w = .ok (.float .f32 (pick .f32 v7 n7)) w := fun _ => by kernel_rfl
  have i8 : ∀ w : World, (Instr.index 87 (.agg #[.float .f32 (pick .f32 v0 n0), .float .f32 (pick .f32 v1 n1), .float .f32 (pick .f32 v2 n2), .float .f32 (pick .f32 v3 n3), .float .f32 (pick .f32 v4 n4), .float .f32 (pick .f32 v5 n5), .float .f32 (pick .f32 v6 n6), .float .f32 (pick .f32 v7 n7), .float .f32 (pick .f32 v8 n8)]) (.int .i64 8)).run Try.prog w = .ok (.float .f32 (pick .f32 v8 n8)) w := fun _ => by kernel_rfl
  have V0 := Lib.hid X1
  have F0 := Lib.hid X2
  have z0 : w.heap.size + 1 < w0.heap.size := X1.lt
  clear X0 X1 X2 hw0
  go_enter Try.func129, Try.ntmps129
  go_wp2_with fail
  rw [HW.out, ← w0.drewN_zero]
  go_wp2_with fail
  rw [w0.drewN_zero]
  clear c0 c1 c2 c3 c4 c5 c6 c7 c8 HW
  refine wp_loop_rounds 10 ?_
  rw [rounds_succ]
  have f := F0.out 0
  go_wp2_with (refine upon_fop0 _ _ _ _ _ (by decide) ?_; intro k0 j0; have b := below_drewN (Below.refl w0.heap.size w0) j0; generalize w0.drewN j0 = u0 at b ⊢; have f := (F0.out.below (by omega) b) 0; have l := (V0.out.keep b).2 0 (by simp))
  have V1 : Hid (Var (u0.setCell ⟨w.heap.size + 1, 0, none⟩ (.float .f32 (pick .f32 (fop .sub .f32 v0 v0) k0))) (w.heap.size + 1) #[.float .f32 (pick .f32 (fop .sub .f32 v0 v0) k0), .float .f32 0, .float .f32 0, .float .f32 0, .float .f32 0, .float .f32 0, .float .f32 0, .float .f32 0, .float .f32 0]) := Lib.hid (var_setAt (V0.out.keep b) (i := 0) (by simp) (.float .f32 (pick .f32 (fop .sub .f32 v0 v0) k0)))
  have F1 := Lib.hid ((F0.out.below (by omega) b).setCell ⟨w.heap.size + 1, 0, none⟩ (.float .f32 (pick .f32 (fop .sub .f32 v0 v0) k0)))
  have B1 := Lib.hid ((B0.out.trans (b.mono (by omega))).setCell (p := ⟨w.heap.size + 1, 0, none⟩) (by show _ ≤ w.heap.size + 1; omega) (.float .f32 (pick .f32 (fop .sub .f32 v0 v0) k0)))
  have z1 : w.heap.size + 1 < (u0.setCell ⟨w.heap.size + 1, 0, none⟩ (.float .f32 (pick .f32 (fop .sub .f32 v0 v0) k0))).heap.size := V1.out.lt
  clear b f l i0 V0 F0 B0
  generalize u0.setCell ⟨w.heap.size + 1, 0, none⟩ (.float .f32 (pick .f32 (fop .sub .f32 v0 v0) k0)) = w1 at *
  rw [rounds_succ]
  have f := F1.out 1
  go_wp2_with (refine upon_fop0 _ _ _ _ _ (by decide) ?_; intro k1 j1; have b := below_drewN (Below.refl w1.heap.size w1) j1; generalize w1.drewN j1 = u1 at b ⊢; have f := (F1.out.below (by omega) b) 1; have l := (V1.out.keep b).2 1 (by simp))
  have V2 : Hid (Var (u1.setCell ⟨w.heap.size + 1, 1, none⟩ (.float .f32 (pick .f32 (fop .sub .f32 v1 v1) k1))) (w.heap.size + 1) #[.float .f32 (pick .f32 (fop .sub .f32 v0 v0) k0), .float .f32 (pick .f32 (fop .sub .f32 v1 v1) k1), .float .f32 0, .float .f32 0, .float .f32 0, .float .f32 0, .float .f32 0, .float .f32 0, .float .f32 0]) := Lib.hid (var_setAt (V1.out.keep b) (i := 1) (by simp) (.float .f32 (pick .f32 (fop .sub .f32 v1 v1) k1)))
  have F2 := Lib.hid ((F1.out.below (by omega) b).setCell ⟨w.heap.size + 1, 1, none⟩ (.float .f32 (pick .f32 (fop .sub .f32 v1 v1) k1)))
  have B2 := Lib.hid ((B1.out.trans (b.mono (by omega))).setCell (p := ⟨w.heap.size + 1, 1, none⟩) (by show _ ≤ w.heap.size + 1; omega) (.float .f32 (pick .f32 (fop .sub .f32 v1 v1) k1)))
  have z2 : w.heap.size + 1 < (u1.setCell ⟨w.heap.size + 1, 1, none⟩ (.float .f32 (pick .f32 (fop .sub .f32 v1 v1) k1))).heap.size := V2.out.lt
  clear b f l i1 V1 F1 B1
  generalize u1.setCell ⟨w.heap.size + 1, 1, none⟩ (.float .f32 (pick .f32 (fop .sub .f32 v1 v1) k1)) = w2 at *
  rw [rounds_succ]
  have f := F2.out 2
  go_wp2_with (refine upon_fop0 _ _ _ _ _ (by decide) ?_; intro k2 j2; have b := below_drewN (Below.refl w2.heap.size w2) j2; generalize w2.drewN j2 = u2 at b ⊢; have f := (F2.out.below (by omega) b) 2; have l := (V2.out.keep b).2 2 (by simp))
  have V3 : Hid (Var (u2.setCell ⟨w.heap.size + 1, 2, none⟩ (.float .f32 (pick .f32 (fop .sub .f32 v2 v2) k2))) (w.heap.size + 1) #[.float .f32 (pick .f32 (fop .sub .f32 v0 v0) k0), .float .f32 (pick .f32 (fop .sub .f32 v1 v1) k1), .float .f32 (pick .f32 (fop .sub .f32 v2 v2) k2), .float .f32 0, .float .f32 0, .float .f32 0, .float .f32 0, .float .f32 0, .float .f32 0]) := Lib.hid (var_setAt (V2.out.keep b) (i := 2) (by simp) (.float .f32 (pick .f32 (fop .sub .f32 v2 v2) k2)))
  have F3 := Lib.hid ((F2.out.below (by omega) b).setCell ⟨w.heap.size + 1, 2, none⟩ (.float .f32 (pick .f32 (fop .sub .f32 v2 v2) k2)))
  have B3 := Lib.hid ((B2.out.trans (b.mono (by omega))).setCell (p := ⟨w.heap.size + 1, 2, none⟩) (by show _ ≤ w.heap.size + 1; omega) (.float .f32 (pick .f32 (fop .sub .f32 v2 v2) k2)))
  have z3 : w.heap.size + 1 < (u2.setCell ⟨w.heap.size + 1, 2, none⟩ (.float .f32 (pick .f32 (fop .sub .f32 v2 v2) k2))).heap.size := V3.out.lt
  clear b f l i2 V2 F2 B2
  generalize u2.setCell ⟨w.heap.size + 1, 2, none⟩ (.float .f32 (pick .f32 (fop .sub .f32 v2 v2) k2)) = w3 at *
  rw [rounds_succ]
  have f := F3.out 3
  go_wp2_with (refine upon_fop0 _ _ _ _ _ (by decide) ?_; intro k3 j3; have b := below_drewN (Below.refl w3.heap.size w3) j3; generalize w3.drewN j3 = u3 at b ⊢; have f := (F3.out.below (by omega) b) 3; have l := (V3.out.keep b).2 3 (by simp))
  have V4 : Hid (Var (u3.setCell ⟨w.heap.size + 1, 3, none⟩ (.float .f32 (pick .f32 (fop .sub .f32 v3 v3) k3))) (w.heap.size + 1) #[.float .f32 (pick .f32 (fop .sub .f32 v0 v0) k0), .float .f32 (pick .f32 (fop .sub .f32 v1 v1) k1), .float .f32 (pick .f32 (fop .sub .f32 v2 v2) k2), .float .f32 (pick .f32 (fop .sub .f32 v3 v3) k3), .float .f32 0, .float .f32 0, .float .f32 0, .float .f32 0, .float .f32 0]) := Lib.hid (var_setAt (V3.out.keep b) (i := 3) (by simp) (.float .f32 (pick .f32 (fop .sub .f32 v3 v3) k3)))
  have F4 := Lib.hid ((F3.out.below (by omega) b).setCell ⟨w.heap.size + 1, 3, none⟩ (.float .f32 (pick .f32 (fop .sub .f32 v3 v3) k3)))
  have B4 := Lib.hid ((B3.out.trans (b.mono (by omega))).setCell (p := ⟨w.heap.size + 1, 3, none⟩) (by show _ ≤ w.heap.size + 1; omega) (.float .f32 (pick .f32 (fop .sub .f32 v3 v3) k3)))
  have z4 : w.heap.size + 1 < (u3.setCell ⟨w.heap.size + 1, 3, none⟩ (.float .f32 (pick .f32 (fop .sub .f32 v3 v3) k3))).heap.size := V4.out.lt
  clear b f l i3 V3 F3 B3
  generalize u3.setCell ⟨w.heap.size + 1, 3, none⟩ (.float .f32 (pick .f32 (fop .sub .f32 v3 v3) k3)) = w4 at *
  rw [rounds_succ]
  have f := F4.out 4
  go_wp2_with (refine upon_fop0 _ _ _ _ _ (by decide) ?_; intro k4 j4; have b := below_drewN (Below.refl w4.heap.size w4) j4; generalize w4.drewN j4 = u4 at b ⊢; have f := (F4.out.below (by omega) b) 4; have l := (V4.out.keep b).2 4 (by simp))
  have V5 : Hid (Var (u4.setCell ⟨w.heap.size + 1, 4, none⟩ (.float .f32 (pick .f32 (fop .sub .f32 v4 v4) k4))) (w.heap.size + 1) #[.float .f32 (pick .f32 (fop .sub .f32 v0 v0) k0), .float .f32 (pick .f32 (fop .sub .f32 v1 v1) k1), .float .f32 (pick .f32 (fop .sub .f32 v2 v2) k2), .float .f32 (pick .f32 (fop .sub .f32 v3 v3) k3), .float .f32 (pick .f32 (fop .sub .f32 v4 v4) k4), .float .f32 0, .float .f32 0, .float .f32 0, .float .f32 0]) := Lib.hid (var_setAt (V4.out.keep b) (i := 4) (by simp) (.float .f32 (pick .f32 (fop .sub .f32 v4 v4) k4)))
  have F5 := Lib.hid ((F4.out.below (by omega) b).setCell ⟨w.heap.size + 1, 4, none⟩ (.float .f32 (pick .f32 (fop .sub .f32 v4 v4) k4)))
  have B5 := Lib.hid ((B4.out.trans (b.mono (by omega))).setCell (p := ⟨w.heap.size + 1, 4, none⟩) (by show _ ≤ w.heap.size + 1; omega) (.float .f32 (pick .f32 (fop .sub .f32 v4 v4) k4)))
  have z5 : w.heap.size + 1 < (u4.setCell ⟨w.heap.size + 1, 4, none⟩ (.float .f32 (pick .f32 (fop .sub .f32 v4 v4) k4))).heap.size := V5.out.lt
  clear b f l i4 V4 F4 B4
  generalize u4.setCell ⟨w.heap.size + 1, 4, none⟩ (.float .f32 (pick .f32 (fop .sub .f32 v4 v4) k4)) = w5 at *
  rw [rounds_succ]
  have f := F5.out 5
  go_wp2_with (refine upon_fop0 _ _ _ _ _ (by decide) ?_; intro k5 j5; have b := below_drewN (Below.refl w5.heap.size w5) j5; generalize w5.drewN j5 = u5 at b ⊢; have f := (F5.out.below (by omega) b) 5; have l := (V5.out.keep b).2 5 (by simp))
  have V6 : Hid (Var (u5.setCell ⟨w.heap.size + 1, 5, none⟩ (.float .f32 (pick .f32 (fop .sub .f32 v5 v5) k5))) (w.heap.size + 1) #[.float .f32 (pick .f32 (fop .sub .f32 v0 v0) k0), .float .f32 (pick .f32 (fop .sub .f32 v1 v1) k1), .float .f32 (pick .f32 (fop .sub .f32 v2 v2) k2), .float .f32 (pick .f32 (fop .sub .f32 v3 v3) k3), .float .f32 (pick .f32 (fop .sub .f32 v4 v4) k4), .float .f32 (pick .f32 (fop .sub .f32 v5 v5) k5), .float .f32 0, .float .f32 0, .float .f32 0]) := Lib.hid (var_setAt (V5.out.keep b) (i := 5) (by simp) (.float .f32 (pick .f32 (fop .sub .f32 v5 v5) k5)))
  have F6 := Lib.hid ((F5.out.below (by omega) b).setCell ⟨w.heap.size + 1, 5, none⟩ (.float .f32 (pick .f32 (fop .sub .f32 v5 v5) k5)))
  have B6 := Lib.hid ((B5.out.trans (b.mono (by omega))).setCell (p := ⟨w.heap.size + 1, 5, none⟩) (by show _ ≤ w.heap.size + 1; omega) (.float .f32 (pick .f32 (fop .sub .f32 v5 v5) k5)))
  have z6 : w.heap.size + 1 < (u5.setCell ⟨w.heap.size + 1, 5, none⟩ (.float .f32 (pick .f32 (fop .sub .f32 v5 v5) k5))).heap.size := V6.out.lt
  clear b f l i5 V5 F5 B5
  generalize u5.setCell ⟨w.heap.size + 1, 5, none⟩ (.float .f32 (pick .f32 (fop .sub .f32 v5 v5) k5)) = w6 at *
  rw [rounds_succ]
  have f := F6.out 6
  go_wp2_with (refine upon_fop0 _ _ _ _ _ (by decide) ?_; intro k6 j6; have b := below_drewN (Below.refl w6.heap.size w6) j6; generalize w6.drewN j6 = u6 at b ⊢; have f := (F6.out.below (by omega) b) 6; have l := (V6.out.keep b).2 6 (by simp))
  have V7 : Hid (Var (u6.setCell ⟨w.heap.size + 1, 6, none⟩ (.float .f32 (pick .f32 (fop .sub .f32 v6 v6) k6))) (w.heap.size + 1) #[.float .f32 (pick .f32 (fop .sub .f32 v0 v0) k0), .float .f32 (pick .f32 (fop .sub .f32 v1 v1) k1), .float .f32 (pick .f32 (fop .sub .f32 v2 v2) k2), .float .f32 (pick .f32 (fop .sub .f32 v3 v3) k3), .float .f32 (pick .f32 (fop .sub .f32 v4 v4) k4), .float .f32 (pick .f32 (fop .sub .f32 v5 v5) k5), .float .f32 (pick .f32 (fop .sub .f32 v6 v6) k6), .float .f32 0, .float .f32 0]) := Lib.hid (var_setAt (V6.out.keep b) (i := 6) (by simp) (.float .f32 (pick .f32 (fop .sub .f32 v6 v6) k6)))
  have F7 := Lib.hid ((F6.out.below (by omega) b).setCell ⟨w.heap.size + 1, 6, none⟩ (.float .f32 (pick .f32 (fop .sub .f32 v6 v6) k6)))
  have B7 := Lib.hid ((B6.out.trans (b.mono (by omega))).setCell (p := ⟨w.heap.size + 1, 6, none⟩) (by show _ ≤ w.heap.size + 1; omega) (.float .f32 (pick .f32 (fop .sub .f32 v6 v6) k6)))
  have z7 : w.heap.size + 1 < (u6.setCell ⟨w.heap.size + 1, 6, none⟩ (.float .f32 (pick .f32 (fop .sub .f32 v6 v6) k6))).heap.size := V7.out.lt
  clear b f l i6 V6 F6 B6
  generalize u6.setCell ⟨w.heap.size + 1, 6, none⟩ (.float .f32 (pick .f32 (fop .sub .f32 v6 v6) k6)) = w7 at *
  rw [rounds_succ]
  have f := F7.out 7
  go_wp2_with (refine upon_fop0 _ _ _ _ _ (by decide) ?_; intro k7 j7; have b := below_drewN (Below.refl w7.heap.size w7) j7; generalize w7.drewN j7 = u7 at b ⊢; have f := (F7.out.below (by omega) b) 7; have l := (V7.out.keep b).2 7 (by simp))
  have V8 : Hid (Var (u7.setCell ⟨w.heap.size + 1, 7, none⟩ (.float .f32 (pick .f32 (fop .sub .f32 v7 v7) k7))) (w.heap.size + 1) #[.float .f32 (pick .f32 (fop .sub .f32 v0 v0) k0), .float .f32 (pick .f32 (fop .sub .f32 v1 v1) k1), .float .f32 (pick .f32 (fop .sub .f32 v2 v2) k2), .float .f32 (pick .f32 (fop .sub .f32 v3 v3) k3), .float .f32 (pick .f32 (fop .sub .f32 v4 v4) k4), .float .f32 (pick .f32 (fop .sub .f32 v5 v5) k5), .float .f32 (pick .f32 (fop .sub .f32 v6 v6) k6), .float .f32 (pick .f32 (fop .sub .f32 v7 v7) k7), .float .f32 0]) := Lib.hid (var_setAt (V7.out.keep b) (i := 7) (by simp) (.float .f32 (pick .f32 (fop .sub .f32 v7 v7) k7)))
  have F8 := Lib.hid ((F7.out.below (by omega) b).setCell ⟨w.heap.size + 1, 7, none⟩ (.float .f32 (pick .f32 (fop .sub .f32 v7 v7) k7)))
  have B8 := Lib.hid ((B7.out.trans (b.mono (by omega))).setCell (p := ⟨w.heap.size + 1, 7, none⟩) (by show _ ≤ w.heap.size + 1; omega) (.float .f32 (pick .f32 (fop .sub .f32 v7 v7) k7)))
  have z8 : w.heap.size + 1 < (u7.setCell ⟨w.heap.size + 1, 7, none⟩ (.float .f32 (pick .f32 (fop .sub .f32 v7 v7) k7))).heap.size := V8.out.lt
  clear b f l i7 V7 F7 B7
  generalize u7.setCell ⟨w.heap.size + 1, 7, none⟩ (.float .f32 (pick .f32 (fop .sub .f32 v7 v7) k7)) = w8 at *
  rw [rounds_succ]
  have f := F8.out 8
  go_wp2_with (refine upon_fop0 _ _ _ _ _ (by decide) ?_; intro k8 j8; have b := below_drewN (Below.refl w8.heap.size w8) j8; generalize w8.drewN j8 = u8 at b ⊢; have f := (F8.out.below (by omega) b) 8; have l := (V8.out.keep b).2 8 (by simp))
  have V9 : Hid (Var (u8.setCell ⟨w.heap.size + 1, 8, none⟩ (.float .f32 (pick .f32 (fop .sub .f32 v8 v8) k8))) (w.heap.size + 1) #[.float .f32 (pick .f32 (fop .sub .f32 v0 v0) k0), .float .f32 (pick .f32 (fop .sub .f32 v1 v1) k1), .float .f32 (pick .f32 (fop .sub .f32 v2 v2) k2), .float .f32 (pick .f32 (fop .sub .f32 v3 v3) k3), .float .f32 (pick .f32 (fop .sub .f32 v4 v4) k4), .float .f32 (pick .f32 (fop .sub .f32 v5 v5) k5), .float .f32 (pick .f32 (fop .sub .f32 v6 v6) k6), .float .f32 (pick .f32 (fop .sub .f32 v7 v7) k7), .float .f32 (pick .f32 (fop .sub .f32 v8 v8) k8)]) := Lib.hid (var_setAt (V8.out.keep b) (i := 8) (by simp) (.float .f32 (pick .f32 (fop .sub .f32 v8 v8) k8)))
  have F9 := Lib.hid ((F8.out.below (by omega) b).setCell ⟨w.heap.size + 1, 8, none⟩ (.float .f32 (pick .f32 (fop .sub .f32 v8 v8) k8)))
  have B9 := Lib.hid ((B8.out.trans (b.mono (by omega))).setCell (p := ⟨w.heap.size + 1, 8, none⟩) (by show _ ≤ w.heap.size + 1; omega) (.float .f32 (pick .f32 (fop .sub .f32 v8 v8) k8)))
  have z9 : w.heap.size + 1 < (u8.setCell ⟨w.heap.size + 1, 8, none⟩ (.float .f32 (pick .f32 (fop .sub .f32 v8 v8) k8))).heap.size := V9.out.lt
  clear b f l i8 V8 F8 B8
  generalize u8.setCell ⟨w.heap.size + 1, 8, none⟩ (.float .f32 (pick .f32 (fop .sub .f32 v8 v8) k8)) = w9 at *
  rw [rounds_succ]
  have l0 : w9.cell? ⟨w.heap.size + 1, 0, none⟩ = some (.float .f32 (pick .f32 (fop .sub .f32 v0 v0) k0)) := V9.out.2 0 (by simp)
  have l1 : w9.cell? ⟨w.heap.size + 1, 1, none⟩ = some (.float .f32 (pick .f32 (fop .sub .f32 v1 v1) k1)) := V9.out.2 1 (by simp)
  have l2 : w9.cell? ⟨w.heap.size + 1, 2, none⟩ = some (.float .f32 (pick .f32 (fop .sub .f32 v2 v2) k2)) := V9.out.2 2 (by simp)
  have l3 : w9.cell? ⟨w.heap.size + 1, 3, none⟩ = some (.float .f32 (pick .f32 (fop .sub .f32 v3 v3) k3)) := V9.out.2 3 (by simp)
  have l4 : w9.cell? ⟨w.heap.size + 1, 4, none⟩ = some (.float .f32 (pick .f32 (fop .sub .f32 v4 v4) k4)) := V9.out.2 4 (by simp)
  have l5 : w9.cell? ⟨w.heap.size + 1, 5, none⟩ = some (.float .f32 (pick .f32 (fop .sub .f32 v5 v5) k5)) := V9.out.2 5 (by simp)
  have l6 : w9.cell? ⟨w.heap.size + 1, 6, none⟩ = some (.float .f32 (pick .f32 (fop .sub .f32 v6 v6) k6)) := V9.out.2 6 (by simp)
  have l7 : w9.cell? ⟨w.heap.size + 1, 7, none⟩ = some (.float .f32 (pick .f32 (fop .sub .f32 v7 v7) k7)) := V9.out.2 7 (by simp)
  have l8 : w9.cell? ⟨w.heap.size + 1, 8, none⟩ = some (.float .f32 (pick .f32 (fop .sub .f32 v8 v8) k8)) := V9.out.2 8 (by simp)
  clear V9 F9
  have hq := fun w => eqMat (pick .f32 (fop .sub .f32 v0 v0) k0) (pick .f32 (fop .sub .f32 v1 v1) k1) (pick .f32 (fop .sub .f32 v2 v2) k2) (pick .f32 (fop .sub .f32 v3 v3) k3) (pick .f32 (fop .sub .f32 v4 v4) k4) (pick .f32 (fop .sub .f32 v5 v5) k5) (pick .f32 (fop .sub .f32 v6 v6) k6) (pick .f32 (fop .sub .f32 v7 v7) k7) (pick .f32 (fop .sub .f32 v8 v8) k8) w
  simp only [order_pick_l, sub_self_zero] at hq
  go_wp2_with fail
  go_ret
  exact ⟨rfl, B9.out⟩
/-! ### listOf -/
theorem c_listOf (v0 v1 v2 v3 v4 v5 v6 v7 v8 n0 n1 n2 n3 n4 n5 n6 n7 n8 : Nat) (w : World) (hlt : ∀ x ∈ [v0, v1, v2, v3, v4, v5, v6, v7, v8], x < 2 ^ FloatKind.f32.format.width) : Calls Try.prog 67 #[.agg #[.float .f32 (pick .f32 v0 n0), .float .f32 (pick .f32 v1 n1), .float .f32 (pick .f32 v2 n2), .float .f32 (pick .f32 v3 n3), .float .f32 (pick .f32 v4 n4), .float .f32 (pick .f32 v5 n5), .float .f32 (pick .f32 v6 n6), .float .f32 (pick .f32 v7 n7), .float .f32 (pick .f32 v8 n8)]] w (RetL 87 (listR [v0, v1, v2, v3, v4, v5, v6, v7, v8]) w) := by
  have hfin : finL [v0, v1, v2, v3, v4, v5, v6, v7, v8] = (finB .f32 v0 && finB .f32 v1 && finB .f32 v2 && finB .f32 v3 && finB .f32 v4 && finB .f32 v5 && finB .f32 v6 && finB .f32 v7 && finB .f32 v8) := by simp [finL, Bool.and_assoc]
  unfold listR
  rw [hfin]
  have CF := Lib.hid (fun (w : World) => c_matFin9 v0 v1 v2 v3 v4 v5 v6 v7 v8 n0 n1 n2 n3 n4 n5 n6 n7 n8 w)
  generalize hw0 : w.alloc (Obj.cells #[.float .f32 (pick .f32 v0 n0), .float .f32 (pick .f32 v1 n1), .float .f32 (pick .f32 v2 n2), .float .f32 (pick .f32 v3 n3), .float .f32 (pick .f32 v4 n4), .float .f32 (pick .f32 v5 n5), .float .f32 (pick .f32 v6 n6), .float .f32 (pick .f32 v7 n7), .float .f32 (pick .f32 v8 n8)] 87) = w0
  have X0 : Var w0 w.heap.size #[.float .f32 (pick .f32 v0 n0), .float .f32 (pick .f32 v1 n1), .float .f32 (pick .f32 v2 n2), .float .f32 (pick .f32 v3 n3), .float .f32 (pick .f32 v4 n4), .float .f32 (pick .f32 v5 n5), .float .f32 (pick .f32 v6 n6), .float .f32 (pick .f32 v7 n7), .float .f32 (pick .f32 v8 n8)] := by subst hw0; exact Var.new _ _ _
  have X1 : Below w.heap.size w w0 := by subst hw0; exact (Below.refl _ _).alloc (Nat.le_refl _) _
  have HW := Lib.hid hw0
  have B0 := Lib.hid X1
  have c0 : w0.cell? ⟨w.heap.size, 0, none⟩ = some (.float .f32 (pick .f32 v0 n0)) := X0.2 0 (by simp)
  have c1 : w0.cell? ⟨w.heap.size, 1, none⟩ = some (.float .f32 (pick .f32 v1 n1)) := X0.2 1 (by simp)
  have c2 : w0.cell? ⟨w.heap.size, 2, none⟩ = some (.float .f32 (pick .f32 v2 n2)) := X0.2 2 (by simp)
  have c3 : w0.cell? ⟨w.heap.size, 3, none⟩ = some (.float .f32 (pick .f32 v3 n3)) := X0.2 3 (by simp)
  have c4 : w0.cell? ⟨w.heap.size, 4, none⟩ = some (.float .f32 (pick .f32 v4 n4)) := X0.2 4 (by simp)
  have c5 : w0.cell? ⟨w.heap.size, 5, none⟩ = some (.float .f32 (pick .f32 v5 n5)) := X0.2 5 (by simp)
  have c6 : w0.cell? ⟨w.heap.size, 6, none⟩ = some (.float .f32 (pick .f32 v6 n6)) := X0.2 6 (by simp)
  have c7 : w0.cell? ⟨w.heap.size, 7, none⟩ = some (.float .f32 (pick .f32 v7 n7)) := X0.2 7 (by simp)
  have c8 : w0.cell? ⟨w.heap.size, 8, none⟩ = some (.float .f32 (pick .f32 v8 n8)) := X0.2 8 (by simp)
  cases hf : (finB .f32 v0 && finB .f32 v1 && finB .f32 v2 && finB .f32 v3 && finB .f32 v4 && finB .f32 v5 && finB .f32 v6 && finB .f32 v7 && finB .f32 v8)
  · rw [if_neg (by decide)]
    rw [hf] at CF
    clear hw0 X0 X1 hfin hf
    go_enter Try.func67, Try.ntmps67
    go_wp2_with fail
    rw [HW.out]
    go_wp2_with fail
    refine (CF.out _).mono ?_
    rintro _ w1 ⟨rfl, b⟩
    have B1 := Lib.hid (B0.out.trans (b.mono B0.out.size))
    clear b c0 c1 c2 c3 c4 c5 c6 c7 c8
    go_wp2_with fail
    go_ret2
    exact RetL.no rfl B1.out
  · rw [if_pos rfl]
    rw [hf] at CF
    have hO : Own 87 w0 w.heap.size (some ⟨w.heap.size, 0, none⟩) 9 9 [v0, v1, v2, v3, v4, v5, v6, v7, v8] := by
      simp only [Bool.and_eq_true] at hf
      obtain ⟨⟨⟨⟨⟨⟨⟨⟨h0, h1⟩, h2⟩, h3⟩, h4⟩, h5⟩, h6⟩, h7⟩, h8⟩ := hf
      rw [← hw0, pick_not (fin_notN h0), pick_not (fin_notN h1), pick_not (fin_notN h2), pick_not (fin_notN h3), pick_not (fin_notN h4), pick_not (fin_notN h5), pick_not (fin_notN h6), pick_not (fin_notN h7), pick_not (fin_notN h8)]
      exact own_new9 (zs := [v0, v1, v2, v3, v4, v5, v6, v7, v8]) rfl (Nat.le_refl _) (by simp) (fun b hb => wf_lt (hlt b hb))
    have HO := Lib.hid hO
    have z0 : w.heap.size ≤ w0.heap.size := X1.size
    clear hw0 X0 X1 hfin hf hO
    go_enter Try.func67, Try.ntmps67
    go_wp2_with fail
    rw [HW.out]
    go_wp2_with fail
    refine (CF.out _).mono ?_
    rintro _ w1 ⟨rfl, b⟩
    have B1 := Lib.hid (B0.out.trans (b.mono B0.out.size))
    have O1 := Lib.hid (HO.out.below b)
    clear b c0 c1 c2 c3 c4 c5 c6 c7 c8
    go_wp2_with fail
    go_ret2
    exact ⟨_, _, rfl, by simp, B1.out, O1.out⟩
/-! ### matrixOf -/
theorem c_matrixOf (zs : List Nat) (a : Option Addr) (c : Nat) (w : World) (hr : IsRowF .f32 w a zs.length c zs) : Calls Try.prog 63 #[.slice a zs.length c] w (fun e w' => ∃ (z : List Nat) (m : Nat → Nat), e = .returned (.tuple #[.agg #[.float .f32 (pick .f32 (fat z 0) (m 0)), .float .f32 (pick .f32 (fat z 1) (m 1)), .float .f32 (pick .f32 (fat z 2) (m 2)), .float .f32 (pick .f32 (fat z 3) (m 3)), .float .f32 (pick .f32 (fat z 4) (m 4)), .float .f32 (pick .f32 (fat z 5) (m 5)), .float .f32 (pick .f32 (fat z 6) (m 6)), .float .f32 (pick .f32 (fat z 7) (m 7)), .float .f32 (pick .f32 (fat z 8) (m 8))], .bool (matB zs)]) ∧ (matB zs = true → z = zs) ∧ Below w.heap.size w w') := by
  generalize hw0 : w.alloc (Obj.cells #[.float .f32 0, .float .f32 0, .float .f32 0, .float .f32 0, .float .f32 0, .float .f32 0, .float .f32 0, .float .f32 0, .float .f32 0] 87) = w0
  have X1 : Var w0 w.heap.size #[.float .f32 0, .float .f32 0, .float .f32 0, .float .f32 0, .float .f32 0, .float .f32 0, .float .f32 0, .float .f32 0, .float .f32 0] := by subst hw0; exact Var.new _ _ _
  have X2 : Free w0 w.heap.size := by subst hw0; exact Free.new _ _ _
  have X3 : Below w.heap.size w w0 := by subst hw0; exact (Below.refl _ _).alloc (Nat.le_refl _) _
  have sz : w0.heap.size = w.heap.size + 1 := by subst hw0; simp
  have HW := Lib.hid hw0
  have V0 := Lib.hid X1
  have F0 := Lib.hid X2
  have BB := Lib.hid X3
  have z0 : w.heap.size < w0.heap.size := X1.lt
  have R0 := Lib.hid (hr.below X3)
  have mA : zs.length ≤ maxLen := Nat.le_trans hr.2.1 hr.2.2.1
  unfold maxLen at mA
  clear hw0 hr
  by_cases h9 : zs.length = 9
  case neg =>
    have hm : matB zs = false := by unfold matB; rw [decide_eq_false h9]; rfl
    rw [hm]
    have h9' : ¬ ((zs.length : Int) = 9) := by omega
    have q0 : w0.cell? ⟨w.heap.size, 0, none⟩ = some (.float .f32 0) := X1.2 0 (by simp)
    have q1 : w0.cell? ⟨w.heap.size, 1, none⟩ = some (.float .f32 0) := X1.2 1 (by simp)
    have q2 : w0.cell? ⟨w.heap.size, 2, none⟩ = some (.float .f32 0) := X1.2 2 (by simp)
    have q3 : w0.cell? ⟨w.heap.size, 3, none⟩ = some (.float .f32 0) := X1.2 3 (by simp)
    have q4 : w0.cell? ⟨w.heap.size, 4, none⟩ = some (.float .f32 0) := X1.2 4 (by simp)
    have q5 : w0.cell? ⟨w.heap.size, 5, none⟩ = some (.float .f32 0) := X1.2 5 (by simp)
    have q6 : w0.cell? ⟨w.heap.size, 6, none⟩ = some (.float .f32 0) := X1.2 6 (by simp)
    have q7 : w0.cell? ⟨w.heap.size, 7, none⟩ = some (.float .f32 0) := X1.2 7 (by simp)
    have q8 : w0.cell? ⟨w.heap.size, 8, none⟩ = some (.float .f32 0) := X1.2 8 (by simp)
    have f0 := X2 0
    have f1 := X2 1
    have f2 := X2 2
    have f3 := X2 3
    have f4 := X2 4
    have f5 := X2 5
    have f6 := X2 6
    have f7 := X2 7
    have f8 := X2 8
    clear X1 X2 X3
    go_enter Try.func63, Try.ntmps63
    go_wp2_with fail
    rw [HW.out]
    go_wp2_with fail
    refine bodyPost_ret (v := .tuple #[.agg #[.float .f32 0, .float .f32 0, .float .f32 0, .float .f32 0, .float .f32 0, .float .f32 0, .float .f32 0, .float .f32 0, .float .f32 0], .bool false]) (by simp [results, Try.results63, q0, q1, q2, q3, q4, q5, q6, q7, q8, go_sem]) rfl ⟨List.replicate 9 0, fun _ => 0, by simp [fat, pick00], fun h => by simp at h, ?_⟩
    repeat (first | exact Below.refl _ _ | exact BB.out | exact Nat.le_refl _ | (refine Below.setCell ?_ ?_ _) | (refine below_drewN ?_ _) | (refine Below.alloc ?_ ?_ _) | (simp <;> omega))
  case pos =>
  obtain ⟨b, off, n0, rfl, hb, e0⟩ := R0.out.at (k := 0) (by omega)
  obtain ⟨b1, o1, n1, hab1, hb1, e1⟩ := R0.out.at (k := 1) (by omega)
  cases hab1
  obtain ⟨b2, o2, n2, hab2, hb2, e2⟩ := R0.out.at (k := 2) (by omega)
  cases hab2
  obtain ⟨b3, o3, n3, hab3, hb3, e3⟩ := R0.out.at (k := 3) (by omega)
  cases hab3
  obtain ⟨b4, o4, n4, hab4, hb4, e4⟩ := R0.out.at (k := 4) (by omega)
  cases hab4
  obtain ⟨b5, o5, n5, hab5, hb5, e5⟩ := R0.out.at (k := 5) (by omega)
  cases hab5
  obtain ⟨b6, o6, n6, hab6, hb6, e6⟩ := R0.out.at (k := 6) (by omega)
  cases hab6
  obtain ⟨b7, o7, n7, hab7, hb7, e7⟩ := R0.out.at (k := 7) (by omega)
  cases hab7
  obtain ⟨b8, o8, n8, hab8, hb8, e8⟩ := R0.out.at (k := 8) (by omega)
  cases hab8
  simp only [Nat.add_zero] at e0
  rw [← HW.out] at e0 e1 e2 e3 e4 e5 e6 e7 e8
  have HM := Lib.hid (show matB zs = fin9 zs by unfold matB; rw [decide_eq_true h9, Bool.true_and, fin9_eq h9])
  have CF := Lib.hid (fun (w : World) => (c_matFin9 (fat zs 0) (fat zs 1) (fat zs 2) (fat zs 3) (fat zs 4) (fat zs 5) (fat zs 6) (fat zs 7) (fat zs 8) n0 n1 n2 n3 n4 n5 n6 n7 n8 w : Calls Try.prog 129 #[.agg #[.float .f32 (pick .f32 (fat zs 0) n0), .float .f32 (pick .f32 (fat zs 1) n1), .float .f32 (pick .f32 (fat zs 2) n2), .float .f32 (pick .f32 (fat zs 3) n3), .float .f32 (pick .f32 (fat zs 4) n4), .float .f32 (pick .f32 (fat zs 5) n5), .float .f32 (pick .f32 (fat zs 6) n6), .float .f32 (pick .f32 (fat zs 7) n7), .float .f32 (pick .f32 (fat zs 8) n8)]] w (RetB (.bool (fin9 zs)) w)))
  have hc9 : 9 ≤ c := by have := R0.out.2.1; omega
  have hcm : c ≤ maxLen := R0.out.2.2.1
  unfold maxLen at hcm
  rw [h9]
  clear X1 X2 X3 h9
  have hat : ∀ w, (Instr.arrayAt 87 (.slice (some ⟨b, off, none⟩) 9 c)).run Try.prog w = .ok (.pointer (some ⟨b, off, none⟩)) w := fun w => by simp [Instr.arrayAt, run_underlying Try.underlying87]
  go_enter Try.func63, Try.ntmps63
  go_wp2_with fail
  rw [HW.out]
  clear HW hat hb hb1 hb2 hb3 hb4 hb5 hb6 hb7 hb8 e0 e1 e2 e3 e4 e5 e6 e7 e8
  generalize hw1 : w0.alloc (Obj.cells #[.float .f32 (pick .f32 (fat zs 0) n0), .float .f32 (pick .f32 (fat zs 1) n1), .float .f32 (pick .f32 (fat zs 2) n2), .float .f32 (pick .f32 (fat zs 3) n3), .float .f32 (pick .f32 (fat zs 4) n4), .float .f32 (pick .f32 (fat zs 5) n5), .float .f32 (pick .f32 (fat zs 6) n6), .float .f32 (pick .f32 (fat zs 7) n7), .float .f32 (pick .f32 (fat zs 8) n8)] 87) = w1
  have X1 : Var w1 (w.heap.size + 1) #[.float .f32 (pick .f32 (fat zs 0) n0), .float .f32 (pick .f32 (fat zs 1) n1), .float .f32 (pick .f32 (fat zs 2) n2), .float .f32 (pick .f32 (fat zs 3) n3), .float .f32 (pick .f32 (fat zs 4) n4), .float .f32 (pick .f32 (fat zs 5) n5), .float .f32 (pick .f32 (fat zs 6) n6), .float .f32 (pick .f32 (fat zs 7) n7), .float .f32 (pick .f32 (fat zs 8) n8)] := by subst hw1; exact Var.new' _ _ _ _ sz.symm
  have X3 : Below w0.heap.size w0 w1 := by subst hw1; exact (Below.refl _ _).alloc (Nat.le_refl _) _
  have V1 := Lib.hid (V0.out.keep X3)
  have F1 := Lib.hid (F0.out.below z0 X3)
  have B1 := Lib.hid (BB.out.trans (X3.mono (by omega)))
  have z1 : w0.heap.size < w1.heap.size := by rw [sz]; exact X1.lt
  have U1 := Lib.hid X1
  clear hw1 X1 X3
  have KS := Lib.hid (fun (w' : World) (hE : Below w1.heap.size w1 w') => (⟨(U1.out.keep hE).2 0 (by simp), (U1.out.keep hE).2 1 (by simp), (U1.out.keep hE).2 2 (by simp), (U1.out.keep hE).2 3 (by simp), (U1.out.keep hE).2 4 (by simp), (U1.out.keep hE).2 5 (by simp), (U1.out.keep hE).2 6 (by simp), (U1.out.keep hE).2 7 (by simp), (U1.out.keep hE).2 8 (by simp)⟩ : w'.cell? ⟨w.heap.size + 1, 0, none⟩ = some (.float .f32 (pick .f32 (fat zs 0) n0)) ∧ w'.cell? ⟨w.heap.size + 1, 1, none⟩ = some (.float .f32 (pick .f32 (fat zs 1) n1)) ∧ w'.cell? ⟨w.heap.size + 1, 2, none⟩ = some (.float .f32 (pick .f32 (fat zs 2) n2)) ∧ w'.cell? ⟨w.heap.size + 1, 3, none⟩ = some (.float .f32 (pick .f32 (fat zs 3) n3)) ∧ w'.cell? ⟨w.heap.size + 1, 4, none⟩ = some (.float .f32 (pick .f32 (fat zs 4) n4)) ∧ w'.cell? ⟨w.heap.size + 1, 5, none⟩ = some (.float .f32 (pick .f32 (fat zs 5) n5)) ∧ w'.cell? ⟨w.heap.size + 1, 6, none⟩ = some (.float .f32 (pick .f32 (fat zs 6) n6)) ∧ w'.cell? ⟨w.heap.size + 1, 7, none⟩ = some (.float .f32 (pick .f32 (fat zs 7) n7)) ∧ w'.cell? ⟨w.heap.size + 1, 8, none⟩ = some (.float .f32 (pick .f32 (fat zs 8) n8))))
  refine wp_region_facts 3 (fun a b => Below a.heap.size a b) (fun _ => Below.refl _ _) (fun _ _ _ h h' => h.trans (h'.mono h.size)) (Below.refl _ _).drew (by kernel_rfl) (by kernel_rfl) (by kernel_rfl) (by kernel_rfl) ?_
  simp only [List.take_succ_cons, List.take_zero, List.drop_succ_cons, List.drop_zero]
  (with_reducible apply wpF_val); (focus (intro vs w' hE hk; (obtain ⟨d0, d1, d2, d3, d4, d5, d6, d7, d8⟩ := KS.out w' hE); go_simp; exact ⟨Below.refl _ _, rfl⟩)); (simp only [Act.put, List.setIfInBounds_toArray, List.set_cons_zero, List.set_cons_succ, List.cons_append, List.nil_append])
  (with_reducible apply wpF_val); (focus (intro vs w' hE hk; (obtain ⟨d0, d1, d2, d3, d4, d5, d6, d7, d8⟩ := KS.out w' hE); go_simp; exact ⟨Below.refl _ _, rfl⟩)); (simp only [Act.put, List.setIfInBounds_toArray, List.set_cons_zero, List.set_cons_succ, List.cons_append, List.nil_append])
  (with_reducible apply wpF_val); (focus (intro vs w' hE hk; (obtain ⟨d0, d1, d2, d3, d4, d5, d6, d7, d8⟩ := KS.out w' hE); go_simp; refine (CF.out _).mono ?_; rintro _ w9 ⟨rfl, b⟩; exact ⟨_, rfl, b, rfl⟩)); (simp only [Act.put, List.setIfInBounds_toArray, List.set_cons_zero, List.set_cons_succ, List.cons_append, List.nil_append])
  refine wpF_nil (fun vs w' hE hk => ?_)
  have V2 := Lib.hid (V1.out.keep hE)
  have F2 := Lib.hid (F1.out.below (by omega) hE)
  have B2 := Lib.hid (B1.out.trans (hE.mono (by omega)))
  have z2 : w1.heap.size ≤ w'.heap.size := hE.size
  clear hE hk
  have q0 : w'.cell? ⟨w.heap.size, 0, none⟩ = some (.float .f32 0) := V2.out.2 0 (by simp)
  have q1 : w'.cell? ⟨w.heap.size, 1, none⟩ = some (.float .f32 0) := V2.out.2 1 (by simp)
  have q2 : w'.cell? ⟨w.heap.size, 2, none⟩ = some (.float .f32 0) := V2.out.2 2 (by simp)
  have q3 : w'.cell? ⟨w.heap.size, 3, none⟩ = some (.float .f32 0) := V2.out.2 3 (by simp)
  have q4 : w'.cell? ⟨w.heap.size, 4, none⟩ = some (.float .f32 0) := V2.out.2 4 (by simp)
  have q5 : w'.cell? ⟨w.heap.size, 5, none⟩ = some (.float .f32 0) := V2.out.2 5 (by simp)
  have q6 : w'.cell? ⟨w.heap.size, 6, none⟩ = some (.float .f32 0) := V2.out.2 6 (by simp)
  have q7 : w'.cell? ⟨w.heap.size, 7, none⟩ = some (.float .f32 0) := V2.out.2 7 (by simp)
  have q8 : w'.cell? ⟨w.heap.size, 8, none⟩ = some (.float .f32 0) := V2.out.2 8 (by simp)
  have f0 := F2.out 0
  have f1 := F2.out 1
  have f2 := F2.out 2
  have f3 := F2.out 3
  have f4 := F2.out 4
  have f5 := F2.out 5
  have f6 := F2.out 6
  have f7 := F2.out 7
  have f8 := F2.out 8
  go_wp2_with fail
  refine bodyPost_ret (v := .tuple #[.agg #[.float .f32 (pick .f32 (fat zs 0) n0), .float .f32 (pick .f32 (fat zs 1) n1), .float .f32 (pick .f32 (fat zs 2) n2), .float .f32 (pick .f32 (fat zs 3) n3), .float .f32 (pick .f32 (fat zs 4) n4), .float .f32 (pick .f32 (fat zs 5) n5), .float .f32 (pick .f32 (fat zs 6) n6), .float .f32 (pick .f32 (fat zs 7) n7), .float .f32 (pick .f32 (fat zs 8) n8)], .bool (fin9 zs)]) (by simp [results, fin9, Try.results63, q0, q1, q2, q3, q4, q5, q6, q7, q8, go_sem]) rfl ⟨zs, (fun i => ([n0, n1, n2, n3, n4, n5, n6, n7, n8] : List Nat).getD i 0), by rw [HM.out]; rfl, fun _ => rfl, (((((((((B2.out.setCell (Nat.le_refl _) _).setCell (Nat.le_refl _) _).setCell (Nat.le_refl _) _).setCell (Nat.le_refl _) _).setCell (Nat.le_refl _) _).setCell (Nat.le_refl _) _).setCell (Nat.le_refl _) _).setCell (Nat.le_refl _) _).setCell (Nat.le_refl _) _)⟩

/-! ### iLess -/
theorem c_iLess (a n b m c k d l : Nat) (w : World) (j : Nat) : Calls Try.prog 69 #[.float .f32 (pick .f32 a n), .float .f32 (pick .f32 b m), .float .f32 (pick .f32 c k), .float .f32 (pick .f32 d l)] (w.drewN j) (RetF .f32 (lessV a b c d) w) := by
  unfold lessV
  go_enter Try.func69, Try.ntmps69
  go_wp2_with (first | (refine wpList_fop rfl _ _ _ _ _ rfl _ _ _ rfl rfl (by decide) _ ?_; intro _ _) | (refine upon_fop _ _ _ _ _ (by decide) ?_; intro _ _))
  go_ret
  exact ⟨_, _, rfl, rfl⟩
theorem c_iLess0 (a n b m c k d l : Nat) (w : World) : Calls Try.prog 69 #[.float .f32 (pick .f32 a n), .float .f32 (pick .f32 b m), .float .f32 (pick .f32 c k), .float .f32 (pick .f32 d l)] w (RetF .f32 (lessV a b c d) w) := by
  have h := c_iLess a n b m c k d l w 0
  rwa [w.drewN_zero] at h
/-! ### iBackM -/
theorem c_iBackMatrix (zs : List Nat) (a : Option Addr) (c : Nat) (w : World) (hr : IsRowF .f32 w a zs.length c zs) : Calls Try.prog 26 #[.slice a zs.length c] w (RetL 87 (backM zs) w) := by
  have CM := Lib.hid (c_matrixOf zs a c w hr)
  obtain ⟨res, hres0⟩ : ∃ q, q = backM zs := ⟨_, rfl⟩
  rw [← hres0]
  have HR := Lib.hid hres0
  clear hres0 hr
  have hbuild : ∀ (x0 x1 x2 x3 x4 x5 x6 x7 x8 : Nat) (w : World), (Instr.build 87 #[(0, .float .f32 x0), (1, .float .f32 x1), (2, .float .f32 x2), (3, .float .f32 x3), (4, .float .f32 x4), (5, .float .f32 x5), (6, .float .f32 x6), (7, .float .f32 x7), (8, .float .f32 x8)]).run Try.prog w = .ok (.agg #[.float .f32 x0, .float .f32 x1, .float .f32 x2, .float .f32 x3, .float .f32 x4, .float .f32 x5, .float .f32 x6, .float .f32 x7, .float .f32 x8]) w := fun x0 x1 x2 x3 x4 x5 x6 x7 x8 w => run_build w 87 _ _ (by kernel_rfl)
  go_enter Try.func26, Try.ntmps26
  go_wp2_with fail
  refine CM.out.mono ?_
  rintro _ w1 ⟨z, m, rfl, hz, b1⟩
  have HZ := Lib.hid hz
  obtain ⟨N, hN⟩ : ∃ N, N = w1.alloc (.cells #[.float .f32 (pick .f32 (fat z 0) (m 0)), .float .f32 (pick .f32 (fat z 1) (m 1)), .float .f32 (pick .f32 (fat z 2) (m 2)), .float .f32 (pick .f32 (fat z 3) (m 3)), .float .f32 (pick .f32 (fat z 4) (m 4)), .float .f32 (pick .f32 (fat z 5) (m 5)), .float .f32 (pick .f32 (fat z 6) (m 6)), .float .f32 (pick .f32 (fat z 7) (m 7)), .float .f32 (pick .f32 (fat z 8) (m 8))] 87) := ⟨_, rfl⟩
  have VN := hN ▸ Var.new w1 #[.float .f32 (pick .f32 (fat z 0) (m 0)), .float .f32 (pick .f32 (fat z 1) (m 1)), .float .f32 (pick .f32 (fat z 2) (m 2)), .float .f32 (pick .f32 (fat z 3) (m 3)), .float .f32 (pick .f32 (fat z 4) (m 4)), .float .f32 (pick .f32 (fat z 5) (m 5)), .float .f32 (pick .f32 (fat z 6) (m 6)), .float .f32 (pick .f32 (fat z 7) (m 7)), .float .f32 (pick .f32 (fat z 8) (m 8))] 87
  have B3 := Lib.hid (b1.trans (show Below w.heap.size w1 N from hN ▸ (Below.refl _ _).alloc b1.size _))
  have HN := Lib.hid hN.symm
  have KS := Lib.hid (fun (w' : World) (hE : Below N.heap.size N w') => (⟨(VN.keep hE).2 0 (by simp), (VN.keep hE).2 1 (by simp), (VN.keep hE).2 2 (by simp), (VN.keep hE).2 3 (by simp), (VN.keep hE).2 4 (by simp), (VN.keep hE).2 5 (by simp), (VN.keep hE).2 6 (by simp), (VN.keep hE).2 7 (by simp), (VN.keep hE).2 8 (by simp)⟩ : w'.cell? ⟨w1.heap.size, 0, none⟩ = some (.float .f32 (pick .f32 (fat z 0) (m 0))) ∧ w'.cell? ⟨w1.heap.size, 1, none⟩ = some (.float .f32 (pick .f32 (fat z 1) (m 1))) ∧ w'.cell? ⟨w1.heap.size, 2, none⟩ = some (.float .f32 (pick .f32 (fat z 2) (m 2))) ∧ w'.cell? ⟨w1.heap.size, 3, none⟩ = some (.float .f32 (pick .f32 (fat z 3) (m 3))) ∧ w'.cell? ⟨w1.heap.size, 4, none⟩ = some (.float .f32 (pick .f32 (fat z 4) (m 4))) ∧ w'.cell? ⟨w1.heap.size, 5, none⟩ = some (.float .f32 (pick .f32 (fat z 5) (m 5))) ∧ w'.cell? ⟨w1.heap.size, 6, none⟩ = some (.float .f32 (pick .f32 (fat z 6) (m 6))) ∧ w'.cell? ⟨w1.heap.size, 7, none⟩ = some (.float .f32 (pick .f32 (fat z 7) (m 7))) ∧ w'.cell? ⟨w1.heap.size, 8, none⟩ = some (.float .f32 (pick .f32 (fat z 8) (m 8)))))
  clear b1 hz VN hN
  go_wp2_with fail
  rw [HN.out]
  refine wp_region_facts 9 (fun a b => Below a.heap.size a b) (fun _ => Below.refl _ _) (fun _ _ _ h h' => h.trans (h'.mono h.size)) (Below.refl _ _).drew (by kernel_rfl) (by kernel_rfl) (by kernel_rfl) (by kernel_rfl) ?_
  simp only [List.take_succ_cons, List.take_zero, List.drop_succ_cons, List.drop_zero]
  (with_reducible apply wpF_val); (focus (intro vs w' hE hk; (obtain ⟨d0, d1, d2, d3, d4, d5, d6, d7, d8⟩ := KS.out w' hE); go_simp; exact ⟨Below.refl _ _, rfl⟩)); (simp only [Act.put, List.setIfInBounds_toArray, List.set_cons_zero, List.set_cons_succ, List.cons_append, List.nil_append])
  (with_reducible apply wpF_val); (focus (intro vs w' hE hk; (obtain ⟨d0, d1, d2, d3, d4, d5, d6, d7, d8⟩ := KS.out w' hE); go_simp; exact ⟨Below.refl _ _, rfl⟩)); (simp only [Act.put, List.setIfInBounds_toArray, List.set_cons_zero, List.set_cons_succ, List.cons_append, List.nil_append])
  (with_reducible apply wpF_val); (focus (intro vs w' hE hk; (obtain ⟨d0, d1, d2, d3, d4, d5, d6, d7, d8⟩ := KS.out w' hE); go_simp; exact ⟨Below.refl _ _, rfl⟩)); (simp only [Act.put, List.setIfInBounds_toArray, List.set_cons_zero, List.set_cons_succ, List.cons_append, List.nil_append])
  (with_reducible apply wpF_val); (focus (intro vs w' hE hk; (obtain ⟨d0, d1, d2, d3, d4, d5, d6, d7, d8⟩ := KS.out w' hE); go_simp; exact ⟨Below.refl _ _, rfl⟩)); (simp only [Act.put, List.setIfInBounds_toArray, List.set_cons_zero, List.set_cons_succ, List.cons_append, List.nil_append])
  (with_reducible apply wpF_val); (focus (intro vs w' hE hk; (obtain ⟨d0, d1, d2, d3, d4, d5, d6, d7, d8⟩ := KS.out w' hE); go_simp; exact ⟨Below.refl _ _, rfl⟩)); (simp only [Act.put, List.setIfInBounds_toArray, List.set_cons_zero, List.set_cons_succ, List.cons_append, List.nil_append])
  (with_reducible apply wpF_val); (focus (intro vs w' hE hk; (obtain ⟨d0, d1, d2, d3, d4, d5, d6, d7, d8⟩ := KS.out w' hE); go_simp; exact ⟨Below.refl _ _, rfl⟩)); (simp only [Act.put, List.setIfInBounds_toArray, List.set_cons_zero, List.set_cons_succ, List.cons_append, List.nil_append])
  (with_reducible apply wpF_val); (focus (intro vs w' hE hk; (obtain ⟨d0, d1, d2, d3, d4, d5, d6, d7, d8⟩ := KS.out w' hE); go_simp; exact ⟨Below.refl _ _, rfl⟩)); (simp only [Act.put, List.setIfInBounds_toArray, List.set_cons_zero, List.set_cons_succ, List.cons_append, List.nil_append])
  (with_reducible apply wpF_val); (focus (intro vs w' hE hk; (obtain ⟨d0, d1, d2, d3, d4, d5, d6, d7, d8⟩ := KS.out w' hE); go_simp; exact ⟨Below.refl _ _, rfl⟩)); (simp only [Act.put, List.setIfInBounds_toArray, List.set_cons_zero, List.set_cons_succ, List.cons_append, List.nil_append])
  (with_reducible apply wpF_val); (focus (intro vs w' hE hk; (obtain ⟨d0, d1, d2, d3, d4, d5, d6, d7, d8⟩ := KS.out w' hE); go_simp; exact ⟨Below.refl _ _, rfl⟩)); (simp only [Act.put, List.setIfInBounds_toArray, List.set_cons_zero, List.set_cons_succ, List.cons_append, List.nil_append])
  refine wpF_nil (fun vs u0 hE hk => ?_)
  have BE0 := Lib.hid (hE)
  clear hE hk
  go_wp2_with fail
  refine wp_region_facts 9 (fun a b => Below a.heap.size a b) (fun _ => Below.refl _ _) (fun _ _ _ h h' => h.trans (h'.mono h.size)) (Below.refl _ _).drew (by kernel_rfl) (by kernel_rfl) (by kernel_rfl) (by kernel_rfl) ?_
  simp only [List.take_succ_cons, List.take_zero, List.drop_succ_cons, List.drop_zero]
  (with_reducible apply wpF_val); (focus (intro vs w' hE hk; (obtain ⟨d0, d1, d2, d3, d4, d5, d6, d7, d8⟩ := KS.out w' (BE0.out.trans (hE.mono BE0.out.size))); go_simp; exact ⟨Below.refl _ _, rfl⟩)); (simp only [Act.put, List.setIfInBounds_toArray, List.set_cons_zero, List.set_cons_succ, List.cons_append, List.nil_append])
  (with_reducible apply wpF_val); (focus (intro vs w' hE hk; (obtain ⟨d0, d1, d2, d3, d4, d5, d6, d7, d8⟩ := KS.out w' (BE0.out.trans (hE.mono BE0.out.size))); go_simp; exact ⟨Below.refl _ _, rfl⟩)); (simp only [Act.put, List.setIfInBounds_toArray, List.set_cons_zero, List.set_cons_succ, List.cons_append, List.nil_append])
  (with_reducible apply wpF_val); (focus (intro vs w' hE hk; (obtain ⟨d0, d1, d2, d3, d4, d5, d6, d7, d8⟩ := KS.out w' (BE0.out.trans (hE.mono BE0.out.size))); go_simp; exact ⟨Below.refl _ _, rfl⟩)); (simp only [Act.put, List.setIfInBounds_toArray, List.set_cons_zero, List.set_cons_succ, List.cons_append, List.nil_append])
  (with_reducible apply wpF_val); (focus (intro vs w' hE hk; (obtain ⟨d0, d1, d2, d3, d4, d5, d6, d7, d8⟩ := KS.out w' (BE0.out.trans (hE.mono BE0.out.size))); go_simp; exact ⟨Below.refl _ _, rfl⟩)); (simp only [Act.put, List.setIfInBounds_toArray, List.set_cons_zero, List.set_cons_succ, List.cons_append, List.nil_append])
  (with_reducible apply wpF_val); (focus (intro vs w' hE hk; (obtain ⟨d0, d1, d2, d3, d4, d5, d6, d7, d8⟩ := KS.out w' (BE0.out.trans (hE.mono BE0.out.size))); go_simp; exact ⟨Below.refl _ _, rfl⟩)); (simp only [Act.put, List.setIfInBounds_toArray, List.set_cons_zero, List.set_cons_succ, List.cons_append, List.nil_append])
  (with_reducible apply wpF_val); (focus (intro vs w' hE hk; (obtain ⟨d0, d1, d2, d3, d4, d5, d6, d7, d8⟩ := KS.out w' (BE0.out.trans (hE.mono BE0.out.size))); go_simp; exact ⟨Below.refl _ _, rfl⟩)); (simp only [Act.put, List.setIfInBounds_toArray, List.set_cons_zero, List.set_cons_succ, List.cons_append, List.nil_append])
  (with_reducible apply wpF_val); (focus (intro vs w' hE hk; (obtain ⟨d0, d1, d2, d3, d4, d5, d6, d7, d8⟩ := KS.out w' (BE0.out.trans (hE.mono BE0.out.size))); go_simp; exact ⟨Below.refl _ _, rfl⟩)); (simp only [Act.put, List.setIfInBounds_toArray, List.set_cons_zero, List.set_cons_succ, List.cons_append, List.nil_append])
  (with_reducible apply wpF_val); (focus (intro vs w' hE hk; (obtain ⟨d0, d1, d2, d3, d4, d5, d6, d7, d8⟩ := KS.out w' (BE0.out.trans (hE.mono BE0.out.size))); go_simp; exact ⟨Below.refl _ _, rfl⟩)); (simp only [Act.put, List.setIfInBounds_toArray, List.set_cons_zero, List.set_cons_succ, List.cons_append, List.nil_append])
  (with_reducible apply wpF_val); (focus (intro vs w' hE hk; (obtain ⟨d0, d1, d2, d3, d4, d5, d6, d7, d8⟩ := KS.out w' (BE0.out.trans (hE.mono BE0.out.size))); go_simp; exact ⟨Below.refl _ _, rfl⟩)); (simp only [Act.put, List.setIfInBounds_toArray, List.set_cons_zero, List.set_cons_succ, List.cons_append, List.nil_append])
  refine wpF_nil (fun vs u1 hE hk => ?_)
  have BE1 := Lib.hid ((BE0.out.trans (hE.mono BE0.out.size)))
  clear hE hk
  go_wp2_with fail
  refine wp_region_facts 9 (fun a b => Below a.heap.size a b) (fun _ => Below.refl _ _) (fun _ _ _ h h' => h.trans (h'.mono h.size)) (Below.refl _ _).drew (by kernel_rfl) (by kernel_rfl) (by kernel_rfl) (by kernel_rfl) ?_
  simp only [List.take_succ_cons, List.take_zero, List.drop_succ_cons, List.drop_zero]
  (with_reducible apply wpF_val); (focus (intro vs w' hE hk; (obtain ⟨d0, d1, d2, d3, d4, d5, d6, d7, d8⟩ := KS.out w' (BE1.out.trans (hE.mono BE1.out.size))); go_simp; exact ⟨Below.refl _ _, rfl⟩)); (simp only [Act.put, List.setIfInBounds_toArray, List.set_cons_zero, List.set_cons_succ, List.cons_append, List.nil_append])
  (with_reducible apply wpF_val); (focus (intro vs w' hE hk; (obtain ⟨d0, d1, d2, d3, d4, d5, d6, d7, d8⟩ := KS.out w' (BE1.out.trans (hE.mono BE1.out.size))); go_simp; exact ⟨Below.refl _ _, rfl⟩)); (simp only [Act.put, List.setIfInBounds_toArray, List.set_cons_zero, List.set_cons_succ, List.cons_append, List.nil_append])
  (with_reducible apply wpF_val); (focus (intro vs w' hE hk; (obtain ⟨d0, d1, d2, d3, d4, d5, d6, d7, d8⟩ := KS.out w' (BE1.out.trans (hE.mono BE1.out.size))); go_simp; exact ⟨Below.refl _ _, rfl⟩)); (simp only [Act.put, List.setIfInBounds_toArray, List.set_cons_zero, List.set_cons_succ, List.cons_append, List.nil_append])
  (with_reducible apply wpF_val); (focus (intro vs w' hE hk; (obtain ⟨d0, d1, d2, d3, d4, d5, d6, d7, d8⟩ := KS.out w' (BE1.out.trans (hE.mono BE1.out.size))); go_simp; exact ⟨Below.refl _ _, rfl⟩)); (simp only [Act.put, List.setIfInBounds_toArray, List.set_cons_zero, List.set_cons_succ, List.cons_append, List.nil_append])
  (with_reducible apply wpF_val); (focus (intro vs w' hE hk; (obtain ⟨d0, d1, d2, d3, d4, d5, d6, d7, d8⟩ := KS.out w' (BE1.out.trans (hE.mono BE1.out.size))); go_simp; exact ⟨Below.refl _ _, rfl⟩)); (simp only [Act.put, List.setIfInBounds_toArray, List.set_cons_zero, List.set_cons_succ, List.cons_append, List.nil_append])
  (with_reducible apply wpF_val); (focus (intro vs w' hE hk; (obtain ⟨d0, d1, d2, d3, d4, d5, d6, d7, d8⟩ := KS.out w' (BE1.out.trans (hE.mono BE1.out.size))); go_simp; exact ⟨Below.refl _ _, rfl⟩)); (simp only [Act.put, List.setIfInBounds_toArray, List.set_cons_zero, List.set_cons_succ, List.cons_append, List.nil_append])
  (with_reducible apply wpF_val); (focus (intro vs w' hE hk; (obtain ⟨d0, d1, d2, d3, d4, d5, d6, d7, d8⟩ := KS.out w' (BE1.out.trans (hE.mono BE1.out.size))); go_simp; exact ⟨Below.refl _ _, rfl⟩)); (simp only [Act.put, List.setIfInBounds_toArray, List.set_cons_zero, List.set_cons_succ, List.cons_append, List.nil_append])
  (with_reducible apply wpF_val); (focus (intro vs w' hE hk; (obtain ⟨d0, d1, d2, d3, d4, d5, d6, d7, d8⟩ := KS.out w' (BE1.out.trans (hE.mono BE1.out.size))); go_simp; exact ⟨Below.refl _ _, rfl⟩)); (simp only [Act.put, List.setIfInBounds_toArray, List.set_cons_zero, List.set_cons_succ, List.cons_append, List.nil_append])
  (with_reducible apply wpF_val); (focus (intro vs w' hE hk; (obtain ⟨d0, d1, d2, d3, d4, d5, d6, d7, d8⟩ := KS.out w' (BE1.out.trans (hE.mono BE1.out.size))); go_simp; exact ⟨Below.refl _ _, rfl⟩)); (simp only [Act.put, List.setIfInBounds_toArray, List.set_cons_zero, List.set_cons_succ, List.cons_append, List.nil_append])
  refine wpF_nil (fun vs u2 hE hk => ?_)
  have BE2 := Lib.hid (BE1.out.trans (hE.mono BE1.out.size))
  clear hE hk
  have B4 := Lib.hid (B3.out.trans (BE2.out.mono B3.out.size))
  clear BE0 BE1 BE2 KS HN
  rw [← u2.drewN_zero]
  obtain ⟨P, hP⟩ : ∃ P, P = lessV (fat z 4) (fat z 8) (fat z 5) (fat z 7) := ⟨_, rfl⟩
  obtain ⟨Q, hQ⟩ : ∃ Q, Q = lessV (fat z 5) (fat z 6) (fat z 3) (fat z 8) := ⟨_, rfl⟩
  obtain ⟨R, hR⟩ : ∃ R, R = lessV (fat z 3) (fat z 7) (fat z 4) (fat z 6) := ⟨_, rfl⟩
  have CP := Lib.hid (fun n1 n2 n3 n4 j => (hP ▸ c_iLess (fat z 4) n1 (fat z 8) n2 (fat z 5) n3 (fat z 7) n4 u2 j : Calls Try.prog 69 #[.float .f32 (pick .f32 (fat z 4) n1), .float .f32 (pick .f32 (fat z 8) n2), .float .f32 (pick .f32 (fat z 5) n3), .float .f32 (pick .f32 (fat z 7) n4)] (u2.drewN j) (RetF .f32 P u2)))
  have CQ := Lib.hid (fun n1 n2 n3 n4 j => (hQ ▸ c_iLess (fat z 5) n1 (fat z 6) n2 (fat z 3) n3 (fat z 8) n4 u2 j : Calls Try.prog 69 #[.float .f32 (pick .f32 (fat z 5) n1), .float .f32 (pick .f32 (fat z 6) n2), .float .f32 (pick .f32 (fat z 3) n3), .float .f32 (pick .f32 (fat z 8) n4)] (u2.drewN j) (RetF .f32 Q u2)))
  have CR := Lib.hid (fun n1 n2 n3 n4 j => (hR ▸ c_iLess (fat z 3) n1 (fat z 7) n2 (fat z 4) n3 (fat z 6) n4 u2 j : Calls Try.prog 69 #[.float .f32 (pick .f32 (fat z 3) n1), .float .f32 (pick .f32 (fat z 7) n2), .float .f32 (pick .f32 (fat z 4) n3), .float .f32 (pick .f32 (fat z 6) n4)] (u2.drewN j) (RetF .f32 R u2)))
  have hS : backDet z = fop .add .f32 (fop .add .f32 (fop .mul .f32 (fat z 0) P) (fop .mul .f32 (fat z 1) Q)) (fop .mul .f32 (fat z 2) R) := by unfold backDet backS; rw [hP, hQ, hR]
  have HS := Lib.hid hS
  have HP := Lib.hid hP
  have HQ := Lib.hid hQ
  have HRr := Lib.hid hR
  clear hS hP hQ hR
  cases hm : matB zs
  · have HX := Lib.hid (HR.out.trans (backM_no (.inl hm)))
    clear hm
    go_wp2_with (first | (first | (refine wpList_fop rfl _ _ _ _ _ rfl _ _ _ rfl rfl (by decide) _ ?_; intro _ _) | (refine upon_fop _ _ _ _ _ (by decide) ?_; intro _ _)) | (go_at_call 69; first | ((with_reducible refine (CP.out _ _ _ _ _).mono ?_); rintro _ _ ⟨_, _, rfl, rfl⟩) | ((with_reducible refine (CQ.out _ _ _ _ _).mono ?_); rintro _ _ ⟨_, _, rfl, rfl⟩) | ((with_reducible refine (CR.out _ _ _ _ _).mono ?_); rintro _ _ ⟨_, _, rfl, rfl⟩)))
    go_ret2
    rw [HX.out]
    exact RetL.no rfl (below_drewN B4.out _)
  obtain rfl : z = zs := HZ.out hm
  cases hd : (FloatKind.f32.format.order (fop .add .f32 (fop .add .f32 (fop .mul .f32 (fat z 0) P) (fop .mul .f32 (fat z 1) Q)) (fop .mul .f32 (fat z 2) R)) 0 == some .eq)
  case true =>
    have HX := Lib.hid (HR.out.trans (backM_no (.inr (by rw [HS.out]; exact hd))))
    clear hm
    go_wp2_with (first | (first | (refine wpList_fop rfl _ _ _ _ _ rfl _ _ _ rfl rfl (by decide) _ ?_; intro _ _) | (refine upon_fop _ _ _ _ _ (by decide) ?_; intro _ _)) | (go_at_call 69; first | ((with_reducible refine (CP.out _ _ _ _ _).mono ?_); rintro _ _ ⟨_, _, rfl, rfl⟩) | ((with_reducible refine (CQ.out _ _ _ _ _).mono ?_); rintro _ _ ⟨_, _, rfl, rfl⟩) | ((with_reducible refine (CR.out _ _ _ _ _).mono ?_); rintro _ _ ⟨_, _, rfl, rfl⟩)))
    go_ret2
    rw [HX.out]
    exact RetL.no rfl (below_drewN B4.out _)
  have HX := Lib.hid (show res = listR [fop .quo .f32 (P) (fop .add .f32 (fop .add .f32 (fop .mul .f32 (fat z 0) P) (fop .mul .f32 (fat z 1) Q)) (fop .mul .f32 (fat z 2) R)), fop .quo .f32 (lessV (fat z 2) (fat z 7) (fat z 1) (fat z 8)) (fop .add .f32 (fop .add .f32 (fop .mul .f32 (fat z 0) P) (fop .mul .f32 (fat z 1) Q)) (fop .mul .f32 (fat z 2) R)), fop .quo .f32 (lessV (fat z 1) (fat z 5) (fat z 2) (fat z 4)) (fop .add .f32 (fop .add .f32 (fop .mul .f32 (fat z 0) P) (fop .mul .f32 (fat z 1) Q)) (fop .mul .f32 (fat z 2) R)), fop .quo .f32 (Q) (fop .add .f32 (fop .add .f32 (fop .mul .f32 (fat z 0) P) (fop .mul .f32 (fat z 1) Q)) (fop .mul .f32 (fat z 2) R)), fop .quo .f32 (lessV (fat z 0) (fat z 8) (fat z 2) (fat z 6)) (fop .add .f32 (fop .add .f32 (fop .mul .f32 (fat z 0) P) (fop .mul .f32 (fat z 1) Q)) (fop .mul .f32 (fat z 2) R)), fop .quo .f32 (lessV (fat z 2) (fat z 3) (fat z 0) (fat z 5)) (fop .add .f32 (fop .add .f32 (fop .mul .f32 (fat z 0) P) (fop .mul .f32 (fat z 1) Q)) (fop .mul .f32 (fat z 2) R)), fop .quo .f32 (R) (fop .add .f32 (fop .add .f32 (fop .mul .f32 (fat z 0) P) (fop .mul .f32 (fat z 1) Q)) (fop .mul .f32 (fat z 2) R)), fop .quo .f32 (lessV (fat z 1) (fat z 6) (fat z 0) (fat z 7)) (fop .add .f32 (fop .add .f32 (fop .mul .f32 (fat z 0) P) (fop .mul .f32 (fat z 1) Q)) (fop .mul .f32 (fat z 2) R)), fop .quo .f32 (lessV (fat z 0) (fat z 4) (fat z 1) (fat z 3)) (fop .add .f32 (fop .add .f32 (fop .mul .f32 (fat z 0) P) (fop .mul .f32 (fat z 1) Q)) (fop .mul .f32 (fat z 2) R))] by rw [HR.out]; unfold backM; rw [hm, HS.out, hd]; simp only [Bool.not_false, Bool.and_true, if_true]; unfold backL; rw [HS.out, HP.out, HQ.out, HRr.out])
  have C1 := Lib.hid (fun n1 n2 n3 n4 j => c_iLess (fat z 2) n1 (fat z 7) n2 (fat z 1) n3 (fat z 8) n4 u2 j)
  have C2 := Lib.hid (fun n1 n2 n3 n4 j => c_iLess (fat z 1) n1 (fat z 5) n2 (fat z 2) n3 (fat z 4) n4 u2 j)
  have C4 := Lib.hid (fun n1 n2 n3 n4 j => c_iLess (fat z 0) n1 (fat z 8) n2 (fat z 2) n3 (fat z 6) n4 u2 j)
  have C5 := Lib.hid (fun n1 n2 n3 n4 j => c_iLess (fat z 2) n1 (fat z 3) n2 (fat z 0) n3 (fat z 5) n4 u2 j)
  have C7 := Lib.hid (fun n1 n2 n3 n4 j => c_iLess (fat z 1) n1 (fat z 6) n2 (fat z 0) n3 (fat z 7) n4 u2 j)
  have C8 := Lib.hid (fun n1 n2 n3 n4 j => c_iLess (fat z 0) n1 (fat z 4) n2 (fat z 1) n3 (fat z 3) n4 u2 j)
  have CL := Lib.hid (fun (k0 k1 k2 k3 k4 k5 k6 k7 k8 : Nat) (w : World) => c_listOf (fop .quo .f32 (P) (fop .add .f32 (fop .add .f32 (fop .mul .f32 (fat z 0) P) (fop .mul .f32 (fat z 1) Q)) (fop .mul .f32 (fat z 2) R))) (fop .quo .f32 (lessV (fat z 2) (fat z 7) (fat z 1) (fat z 8)) (fop .add .f32 (fop .add .f32 (fop .mul .f32 (fat z 0) P) (fop .mul .f32 (fat z 1) Q)) (fop .mul .f32 (fat z 2) R))) (fop .quo .f32 (lessV (fat z 1) (fat z 5) (fat z 2) (fat z 4)) (fop .add .f32 (fop .add .f32 (fop .mul .f32 (fat z 0) P) (fop .mul .f32 (fat z 1) Q)) (fop .mul .f32 (fat z 2) R))) (fop .quo .f32 (Q) (fop .add .f32 (fop .add .f32 (fop .mul .f32 (fat z 0) P) (fop .mul .f32 (fat z 1) Q)) (fop .mul .f32 (fat z 2) R))) (fop .quo .f32 (lessV (fat z 0) (fat z 8) (fat z 2) (fat z 6)) (fop .add .f32 (fop .add .f32 (fop .mul .f32 (fat z 0) P) (fop .mul .f32 (fat z 1) Q)) (fop .mul .f32 (fat z 2) R))) (fop .quo .f32 (lessV (fat z 2) (fat z 3) (fat z 0) (fat z 5)) (fop .add .f32 (fop .add .f32 (fop .mul .f32 (fat z 0) P) (fop .mul .f32 (fat z 1) Q)) (fop .mul .f32 (fat z 2) R))) (fop .quo .f32 (R) (fop .add .f32 (fop .add .f32 (fop .mul .f32 (fat z 0) P) (fop .mul .f32 (fat z 1) Q)) (fop .mul .f32 (fat z 2) R))) (fop .quo .f32 (lessV (fat z 1) (fat z 6) (fat z 0) (fat z 7)) (fop .add .f32 (fop .add .f32 (fop .mul .f32 (fat z 0) P) (fop .mul .f32 (fat z 1) Q)) (fop .mul .f32 (fat z 2) R))) (fop .quo .f32 (lessV (fat z 0) (fat z 4) (fat z 1) (fat z 3)) (fop .add .f32 (fop .add .f32 (fop .mul .f32 (fat z 0) P) (fop .mul .f32 (fat z 1) Q)) (fop .mul .f32 (fat z 2) R))) k0 k1 k2 k3 k4 k5 k6 k7 k8 w (by intro x hx; simp only [List.mem_cons, List.not_mem_nil, or_false] at hx; rcases hx with rfl | rfl | rfl | rfl | rfl | rfl | rfl | rfl | rfl <;> exact fop_lt _ _ _ _))
  clear hm HS HP HQ HRr HR HZ CM
  go_wp2_with (first | (first | (refine wpList_fop rfl _ _ _ _ _ rfl _ _ _ rfl rfl (by decide) _ ?_; intro _ _) | (refine upon_fop _ _ _ _ _ (by decide) ?_; intro _ _)) | (go_at_call 69; first | ((with_reducible refine (CP.out _ _ _ _ _).mono ?_); rintro _ _ ⟨_, _, rfl, rfl⟩) | ((with_reducible refine (CQ.out _ _ _ _ _).mono ?_); rintro _ _ ⟨_, _, rfl, rfl⟩) | ((with_reducible refine (CR.out _ _ _ _ _).mono ?_); rintro _ _ ⟨_, _, rfl, rfl⟩) | ((with_reducible refine (C1.out _ _ _ _ _).mono ?_); rintro _ _ ⟨_, _, rfl, rfl⟩) | ((with_reducible refine (C2.out _ _ _ _ _).mono ?_); rintro _ _ ⟨_, _, rfl, rfl⟩) | ((with_reducible refine (C4.out _ _ _ _ _).mono ?_); rintro _ _ ⟨_, _, rfl, rfl⟩) | ((with_reducible refine (C5.out _ _ _ _ _).mono ?_); rintro _ _ ⟨_, _, rfl, rfl⟩) | ((with_reducible refine (C7.out _ _ _ _ _).mono ?_); rintro _ _ ⟨_, _, rfl, rfl⟩) | ((with_reducible refine (C8.out _ _ _ _ _).mono ?_); rintro _ _ ⟨_, _, rfl, rfl⟩)))
  refine (CL.out _ _ _ _ _ _ _ _ _ _).mono ?_
  rintro _ w9 ⟨a9, cap9, rfl, hl9, b9, o9⟩
  have B9 := Lib.hid ((below_drewN B4.out _).trans (b9.mono (by have := B4.out.size; simpa using this)))
  have O9 := Lib.hid (o9.mono (B' := w.heap.size) (by have := B4.out.size; simpa using this))
  clear b9 o9
  go_wp2_with fail
  go_ret2
  rw [HX.out]
  exact ⟨_, _, rfl, hl9, B9.out, O9.out⟩
/-! ### FnExactBackMatrix -/
set_option maxHeartbeats 8000000 in
theorem walkG (zM : List Nat) (aM : Option Addr) (cM : Nat) (w : World) (r : List Nat × Bool) (cS : ∀ (aM : Option Addr) (cM : Nat) (w : World), IsRowF .f32 w aM zM.length cM zM → Calls Try.prog 25 #[.slice aM zM.length cM] w (RetL 23 r w)) (cI : ∀ (aM : Option Addr) (cM : Nat) (w : World), IsRowF .f32 w aM zM.length cM zM → Calls Try.prog 26 #[.slice aM zM.length cM] w (RetL 87 r w)) (rM : IsRowF .f32 w aM zM.length cM zM) (hlM : zM.length ≤ 1048576) : Calls Try.prog 5 #[.slice aM zM.length cM] w fun e w' => e = .returned (.bool true) ∧ Below w.heap.size w w' := by
  have CS := Lib.hid cS
  have CI := Lib.hid cI
  clear cS cI
  have RM := Lib.hid rM
  clear rM
  go_enter Try.func5, Try.ntmps5
  go_wp2_with fail
  refine (c_toO aM zM.length cM zM _ RM.out (by omega)).mono ?_
  rintro _ w1 ⟨gtM, rfl, b, o⟩
  have LtM := Lib.hid o.in
  have OtM_1 := Lib.hid o
  clear o
  have B_1 := Lib.hid ((Below.refl w.heap.size w).trans (b.mono (by omega)))
  have S_1 : w.heap.size ≤ w1.heap.size := b.size
  clear b
  go_wp2_with fail
  refine (CS.out _ _ _ OtM_1.out.row).mono ?_
  rintro _ w2 ⟨au, cu, rfl, hrlu, b, o⟩
  have Lu := Lib.hid o.in
  have Ou_2 := Lib.hid o
  clear o
  have OtM_2 := Lib.hid (OtM_1.out.below b)
  have B_2 := Lib.hid (B_1.out.trans (b.mono (by omega)))
  have S_2 : w1.heap.size ≤ w2.heap.size := b.size
  clear b
  clear OtM_1 B_1
  clear OtM_2 LtM
  go_wp2_with fail
  refine (c_toO aM zM.length cM zM _ (RM.out.below B_2.out) (by omega)).mono ?_
  rintro _ w3 ⟨gxM, rfl, b, o⟩
  have LxM := Lib.hid o.in
  have OxM_3 := Lib.hid o
  clear o
  have Ou_3 := Lib.hid (Ou_2.out.below b)
  have B_3 := Lib.hid (B_2.out.trans (b.mono (by omega)))
  have S_3 : w2.heap.size ≤ w3.heap.size := b.size
  clear b
  clear Ou_2 B_2
  go_wp2_with fail
  refine (CI.out _ _ _ OxM_3.out.row).mono ?_
  rintro _ w4 ⟨ag, cg, rfl, hrlg, b, o⟩
  have Lg := Lib.hid o.in
  have Og_4 := Lib.hid o
  clear o
  have Ou_4 := Lib.hid (Ou_3.out.below b)
  have OxM_4 := Lib.hid (OxM_3.out.below b)
  have B_4 := Lib.hid (B_3.out.trans (b.mono (by omega)))
  have S_4 : w3.heap.size ≤ w4.heap.size := b.size
  clear b
  clear Ou_3 OxM_3 B_3
  go_wp2_with fail
  refine (c_eqF0 _ _ _ _ _ _ _ Og_4.out.row Ou_4.out.row).mono ?_
  rintro _ _ ⟨jx, rfl, rfl⟩
  have b : Below w4.heap.size w4 (w4.drewN jx) := below_drewN (Below.refl _ _) _
  generalize w4.drewN jx = w5 at *
  have Ou_5 := Lib.hid (Ou_4.out.below b)
  have OxM_5 := Lib.hid (OxM_4.out.below b)
  have Og_5 := Lib.hid (Og_4.out.below b)
  have B_5 := Lib.hid (B_4.out.trans (b.mono (by omega)))
  have S_5 : w4.heap.size ≤ w5.heap.size := b.size
  clear b
  clear Ou_4 OxM_4 Og_4 B_4
  go_wp2_with fail
  refine (c_toO aM zM.length cM zM _ (RM.out.below B_5.out) (by omega)).mono ?_
  rintro _ w6 ⟨gtc, rfl, b, o⟩
  have Ltc := Lib.hid o.in
  have Otc_6 := Lib.hid o
  clear o
  have Ou_6 := Lib.hid (Ou_5.out.below b)
  have OxM_6 := Lib.hid (OxM_5.out.below b)
  have Og_6 := Lib.hid (Og_5.out.below b)
  have B_6 := Lib.hid (B_5.out.trans (b.mono (by omega)))
  have S_6 : w5.heap.size ≤ w6.heap.size := b.size
  clear b
  clear Ou_5 OxM_5 Og_5 B_5
  go_wp2_with fail
  refine (c_eqF0 _ _ _ _ _ _ _ OxM_6.out.row Otc_6.out.row).mono ?_
  rintro _ _ ⟨jx, rfl, rfl⟩
  have b : Below w6.heap.size w6 (w6.drewN jx) := below_drewN (Below.refl _ _) _
  generalize w6.drewN jx = w7 at *
  have Ou_7 := Lib.hid (Ou_6.out.below b)
  have OxM_7 := Lib.hid (OxM_6.out.below b)
  have Og_7 := Lib.hid (Og_6.out.below b)
  have Otc_7 := Lib.hid (Otc_6.out.below b)
  have B_7 := Lib.hid (B_6.out.trans (b.mono (by omega)))
  have S_7 : w6.heap.size ≤ w7.heap.size := b.size
  clear b
  clear Ou_6 OxM_6 Og_6 Otc_6 B_6
  clear Otc_7 Ltc
  go_wp2_with fail
  refine (c_markF _ _ _ _ (1) _ _ OxM_7.out (by omega)).mono ?_
  rintro _ w8 ⟨rfl, b, o⟩
  have On := Lib.hid o
  clear o
  have Ou_8 := Lib.hid (Ou_7.out.kept b (blk_apart Lu.out LxM.out (by omega)))
  have Og_8 := Lib.hid (Og_7.out.kept b (blk_apart Lg.out LxM.out (by omega)))
  have B_8 := Lib.hid (B_7.out.grown b (by omega) (fun k e => by have := LxM.out k e; omega))
  have S_8 : w7.heap.size ≤ w8.heap.size := b.size
  clear b
  clear Ou_7 OxM_7 Og_7 B_7
  have OxM_8 := Lib.hid On.out
  clear On
  have hk : ¬ ((((1 + zM.length) : Nat) : Int) < 0) := by omega
  clear OxM_8 LxM
  go_wp2_with fail
  refine (c_eqF0 _ _ _ _ _ _ _ Og_8.out.row Ou_8.out.row).mono ?_
  rintro _ _ ⟨jx, rfl, rfl⟩
  have b : Below w8.heap.size w8 (w8.drewN jx) := below_drewN (Below.refl _ _) _
  generalize w8.drewN jx = w9 at *
  have Ou_9 := Lib.hid (Ou_8.out.below b)
  have Og_9 := Lib.hid (Og_8.out.below b)
  have B_9 := Lib.hid (B_8.out.trans (b.mono (by omega)))
  have S_9 : w8.heap.size ≤ w9.heap.size := b.size
  clear b
  clear Ou_8 Og_8 B_8
  go_wp2_with fail
  refine (c_markF _ _ _ _ (1) _ _ Og_9.out (by omega)).mono ?_
  rintro _ w10 ⟨rfl, b, o⟩
  have On := Lib.hid o
  clear o
  have Ou_10 := Lib.hid (Ou_9.out.kept b (blk_apart Lu.out Lg.out (by omega)))
  have B_10 := Lib.hid (B_9.out.grown b (by omega) (fun k e => by have := Lg.out k e; omega))
  have S_10 : w9.heap.size ≤ w10.heap.size := b.size
  clear b
  clear Ou_9 Og_9 B_9
  have Og_10 := Lib.hid On.out
  clear On
  go_wp2_with fail
  refine (c_heldF _ _ _ (1) _ Og_10.out.row (by omega)).mono ?_
  rintro _ wq ⟨rfl, eq⟩
  rw [eq]
  clear eq wq
  have hq : ¬ (((1 + r.1.length : Nat) : Int) < 0) := by omega
  go_wp2_with fail
  refine (c_toO aM zM.length cM zM _ (RM.out.below B_10.out) (by omega)).mono ?_
  rintro _ w11 ⟨gtM, rfl, b, o⟩
  have LtM := Lib.hid o.in
  have OtM_11 := Lib.hid o
  clear o
  have Ou_11 := Lib.hid (Ou_10.out.below b)
  have Og_11 := Lib.hid (Og_10.out.below b)
  have B_11 := Lib.hid (B_10.out.trans (b.mono (by omega)))
  have S_11 : w10.heap.size ≤ w11.heap.size := b.size
  clear b
  clear Ou_10 Og_10 B_10
  go_wp2_with fail
  refine (CI.out _ _ _ OtM_11.out.row).mono ?_
  rintro _ w12 ⟨ah, ch, rfl, hrlh, b, o⟩
  have Lh := Lib.hid o.in
  have Oh_12 := Lib.hid o
  clear o
  have Ou_12 := Lib.hid (Ou_11.out.below b)
  have Og_12 := Lib.hid (Og_11.out.below b)
  have OtM_12 := Lib.hid (OtM_11.out.below b)
  have B_12 := Lib.hid (B_11.out.trans (b.mono (by omega)))
  have S_12 : w11.heap.size ≤ w12.heap.size := b.size
  clear b
  clear Ou_11 Og_11 OtM_11 B_11
  clear OtM_12 LtM
  go_wp2_with fail
  refine (c_eqF0 _ _ _ _ _ _ _ Oh_12.out.row Ou_12.out.row).mono ?_
  rintro _ _ ⟨jx, rfl, rfl⟩
  have b : Below w12.heap.size w12 (w12.drewN jx) := below_drewN (Below.refl _ _) _
  generalize w12.drewN jx = w13 at *
  have Ou_13 := Lib.hid (Ou_12.out.below b)
  have Og_13 := Lib.hid (Og_12.out.below b)
  have Oh_13 := Lib.hid (Oh_12.out.below b)
  have B_13 := Lib.hid (B_12.out.trans (b.mono (by omega)))
  have S_13 : w12.heap.size ≤ w13.heap.size := b.size
  clear b
  clear Ou_12 Og_12 Oh_12 B_12
  go_wp2_with fail
  refine (c_heldF _ _ _ (1) _ Og_13.out.row (by omega)).mono ?_
  rintro _ wq ⟨rfl, eq⟩
  rw [eq]
  clear eq wq
  go_wp2_with fail
  go_ret
  exact ⟨rfl, B_13.out⟩
theorem walkRM (zM : List Nat) (aM : Option Addr) (cM : Nat) (w : World) (rM : IsRowF .f32 w aM zM.length cM zM) (gC : 1048576 < zM.length) : Calls Try.prog 5 #[.slice aM zM.length cM] w fun e w' => e = .returned (.bool true) ∧ Below w.heap.size w w' := by
  go_enter Try.func5, Try.ntmps5
  go_wp2_with fail
  go_ret
  exact ⟨rfl, by first | exact Below.refl _ _ | exact (Below.refl _ _).alloc (Nat.le_refl _) _ | exact ((Below.refl _ _).alloc (Nat.le_refl _) _).alloc (by simp) _⟩
theorem walk (aM : Option Addr) (lenM cM : Nat) (zM : List Nat) (w : World) (rM : IsRowF .f32 w aM lenM cM zM) : Calls Try.prog 5 #[.slice aM lenM cM] w fun e w' => e = .returned (.bool true) ∧ Below w.heap.size w w' := by
  obtain rfl := rM.1
  by_cases gCM : 1048576 < zM.length
  · exact walkRM zM aM cM w rM gCM
  exact walkG zM aM cM w (backM zM) (fun aM cM w rM => c_sBackMatrix zM aM cM w rM ) (fun aM cM w rM => c_iBackMatrix zM aM cM w rM ) rM (by omega)
theorem own : ownKnob Try.prog.godebug = none := by kernel_rfl
theorem laidOut : laidOutB Try.prog = true := by kernel_rfl
set_option maxRecDepth 100000 in
theorem lifted (os : Os) (started : os.Started) (H : Type) (enc : TypeId × Value → H) :
    ReturnsInHanded {} Try.checked os 5 .any (Rows.fnExactBackMatrixSpec.pre6 enc Try.prog Try.f5 Rows.fnExactBackMatrixRow.domain false) (Rows.fnExactBackMatrixSpec.post enc Try.prog Try.f5 false true false false) := by
  refine returnsInHanded_of_change (C := Try.checked) own started (by kernel_rfl) Try.func5
    (ChangeSpec.witness6 (enc := enc) (C := Try.checked) false ⟨#[], #[.slice none 0 0], []⟩ 8 (by kernel_rfl) (by kernel_rfl) (by kernel_rfl) (by kernel_rfl)) ?_
  intro W base args ds gs before hval0 hW hcnd _
  have hval : ∀ (j : Nat) t v, Try.f5.params[j]? = some t → args[j]? = some v → Value.okWide Try.prog W .any base t v := hval0
  have hW' := hW
  obtain ⟨p, q, hA0, hV, rfl, hfz, hnd⟩ := hW
  have hA : DataW.TrodAll enc Try.prog W 0 (fun _ => true) true Try.f5.params.toList args.toList ds p := hA0
  rw [Try.params5] at hA hval
  obtain ⟨v0, vs0, d0, ds0, p0, q0, hargs, rfl, rfl, h0, r0⟩ := trodAll_cons hA
  obtain ⟨rfl, rfl, rfl⟩ := trodAll_nil r0
  obtain rfl : args = #[v0] := by cases args; simp_all
  obtain ⟨rfl, rfl⟩ := trodVars_none hV
  obtain ⟨a0, len0, cap0, rfl⟩ := okWide_slice Try.underlying22 (hval 0 22 v0 rfl rfl)
  have k0 := h0
  have lt0 : ∀ x ∈ p0, x.block < W.heap.size := by obtain ⟨m, hm⟩ := k0; exact DataW.trod_lt m _ _ _ hm
  obtain ⟨z0, w0⟩ := rowF_of Try.underlying22 Try.underlying23 (by kernel_rfl) h0
  clear hA0 hval0
  have hw0 : Calls Try.prog 5 #[.slice a0 len0 cap0] W fun e w' => e = .returned (.bool true) ∧ Below W.heap.size W w' := by
    exact walk a0 len0 cap0 z0 W w0
  refine hw0.mono fun e W' ⟨he, bel⟩ => ?_
  subst he
  exact ⟨_, rfl, _, _, _, [], _, [], hW', trodAll_mk1 (shut_bool Try.underlying4 _), (trodAll_cons_mk (Below.trod laidOut (by kernel_rfl) (of_decide_eq_true (by kernel_rfl)) k0 bel lt0) trodAll_mk0), rfl, bel.frame _, fun h => by cases h⟩

theorem over : Rows.fnExactBackMatrixRow.holds Try.pinned (OpenSpec.ofChange Rows.fnExactBackMatrixSpec) :=
  OpenClaim.holds_of_wide 5 Try.f5 rfl rfl rfl rfl rfl rfl rfl ⟨rfl, rfl, rfl, rfl, rfl⟩ rfl rfl rfl rfl rfl (by kernel_rfl) Try.func5 (by kernel_rfl)
    (of_decide_eq_true (by kernel_rfl)) (by unfold Func.isWrapper; first | (rw [if_pos (by decide +kernel)]; kernel_rfl) | (rw [if_neg (by decide +kernel)]; exact ⟨rfl, rfl⟩))
    (fun os started H enc _ => lifted os started H enc)

theorem proved : Rows.FnExactBackMatrixSaid := over
#print axioms proved

end Go.Proofs.Ytmngedfibmnohac.fnExactBackMatrix

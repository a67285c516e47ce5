/-
  The first part of what FnExactWhiteMatrix needs.
-/
import Derived.Test.YtehcepibmekooadRows
import Derived.Test.YtehcepibmekooadRow
import Derived.Test.YtehcepibmekooadLg
import Derived.Test.YtehcepibmekooadMn
import Derived.Test.YtehcepibmekooadOw
import Derived.Test.YtehcepibmekooadAp
import Derived.ProofKit
import Derived.OpenShut
import Derived.ShutString
import Derived.ChangeOld
import Derived.Below
import Derived.Lib.Hide
import Derived.Outline
import Derived.Deep.RegionHeld3
import Derived.Deep.DeepCutAuto
set_option linter.unusedSimpArgs false
set_option linter.unusedVariables false
set_option exponentiation.threshold 2000
set_option maxRecDepth 20000
set_option maxHeartbeats 4000000
namespace Go.Proofs.Ytehcepibmekooad.fnExactWhiteMatrix
open Go Go.Proofs.Ytehcepibmekooad Go.Proofs
open Go.ChangeShapes Go.WideShapes Go.ChangeAt Go.RowKit
open Go.ChangeMaps (open_string shut_string)
/-! ### listDefs -/
/-- Of a new list of floats and a bool. -/
def RetL (T : TypeId) (r : List Nat × Bool) (w : World) (e : Ending) (w' : World) : Prop :=
  ∃ a cap, e = .returned (.tuple #[.slice a r.1.length cap, .bool r.2]) ∧ r.1.length ≤ 1048576 ∧ Below w.heap.size w w' ∧ Own T w' w.heap.size a r.1.length cap r.1
def TupL (T : TypeId) (B : Nat) (r : List Nat × Bool) (u : Value) (w : World) : Prop := ∃ a c, u = .tuple #[.slice a r.1.length c, .bool r.2] ∧ r.1.length ≤ 1048576 ∧ Own T w B a r.1.length c r.1
def SlcL (T : TypeId) (B : Nat) (r : List Nat × Bool) (u : Value) (w : World) : Prop := ∃ a c, u = .slice a r.1.length c ∧ r.1.length ≤ 1048576 ∧ Own T w B a r.1.length c r.1
def BooL (r : List Nat × Bool) (u : Value) : Prop := ∃ x : Bool, u = .bool x ∧ x = r.2
theorem RetL.no {T : TypeId} {w : World} {e : Ending} {w' : World} (h : e = .returned (.tuple #[.slice none 0 0, .bool false])) (b : Below w.heap.size w w') : RetL T ([], false) w e w' :=
  ⟨none, 0, h, Nat.zero_le _, b, Own.nil _ _ _⟩
/-! ### toOwn -/
theorem infoFo : (Try.prog.info? 23).map (fun i => (i.zero, i.size, i.bytes)) = some (some (.float .f32 0), 1, 4) := by kernel_rfl
theorem c_toO (a : Option Addr) (len cap : Nat) (zs : List Nat) (w : World) (hr : IsRowF .f32 w a len cap zs) (hl : len ≤ 1048576) : Calls Try.prog 5 #[.slice a len cap] w (NewO 23 len zs w) := by
  obtain ⟨i0, hi, hz0, hz1, hz2⟩ := info_parts infoFo
  obtain ⟨h1, h2, h3, h4, h5⟩ := hr
  go_enter Try.func5, Try.ntmps5
  go_wp2_with (at_make; refine wpList_make_full _ rfl _ _ 22 rfl w.heap.size 23 i0 (.float .f32 0) 1 Try.underlying22 hi hz0 hz1 _ _ _ _ len rfl rfl rfl rfl (by rw [hz2]; omega) (by unfold maxLen; omega) (by simp) ?_; intro w1 hown hgrow)
  have hblk := block_of_owns hown
  have e0 : (madeCells (Value.float FloatKind.f32 0).cells (len * 1)).toList = List.replicate len (.float .f32 0) := by rw [Nat.mul_one]; exact made_zeros _ _
  rw [e0] at hblk
  have hbel : Below w.heap.size w w1 := (Below.refl _ _).grown hgrow (Nat.le_refl _) (by simp)
  have HB := Lib.hid hblk
  clear hown hgrow hblk e0 hz0 hz1 hz2
  go_loopw [4] (fun i wr => ∃ j : Nat, j ≤ len ∧ i = .int .i64 j ∧ Below w.heap.size w wr ∧ wr.heap[w.heap.size]? = some (.cells (fl .f32 (zs.take j) ++ List.replicate (zs.length - j) (Value.float .f32 0)).toArray 23 (0, 0))) (fun i _ => len - (intOf i).toNat)
  case atStart => exact ⟨0, Nat.zero_le _, rfl, hbel, by rw [HB.out, h1]; rfl⟩
  case round =>
    obtain ⟨j, hj, rfl, hb, hblk⟩ := hrel
    have Hblk := Lib.hid hblk
    clear hblk
    by_cases hlt : j < len
    · rcases h5 with h5 | ⟨b, off, rfl, hbl, hc⟩
      · omega
      have hcell : wr.cell? ⟨b, off + j, none⟩ = some (.float .f32 (fat zs j)) := by rw [hb.cell (p := ⟨b, off + j, none⟩) hbl]; exact hc j hlt
      have hold : wr.cell? ⟨w.heap.size, j, none⟩ = some (.float .f32 0) := by
        rw [cell_of_block Hblk.out, List.getElem?_append_right (by simp [fl]; omega)]
        have e : (fl FloatKind.f32 (List.take j zs)).length = j := by simp [fl]; omega
        rw [e, Nat.sub_self, List.getElem?_replicate, if_pos (by omega)]
      have hfz : wr.frozen? ⟨w.heap.size, j, none⟩ = false := frozen_of_block Hblk.out j
      have hset := block_set Hblk.out j (.float .f32 (fat zs j))
      rw [set_step zs _ j (by omega)] at hset
      have Hset := Lib.hid hset
      clear hset hc
      go_wp2
      go_roundw
      case rel => exact ⟨j + 1, by omega, by go_num, hb.setCell (Nat.le_refl _) _, Hset.out⟩
      case measure => simp [intOf]; omega
    · obtain rfl : j = len := by omega
      have e1 : fl .f32 (zs.take j) ++ List.replicate (zs.length - j) (Value.float .f32 0) = fl .f32 zs := by rw [h1, Nat.sub_self, List.replicate_zero, List.append_nil, List.take_of_length_le (by omega)]
      have hblk2 := Hblk.out
      rw [e1] at hblk2
      have hown : Own 23 wr w.heap.size (some ⟨w.heap.size, 0, none⟩) j j zs :=
        ⟨h1, ⟨by simp [fl, h1], .inr ⟨w.heap.size, j, _, rfl, Nat.le_refl _, hblk2, Nat.le_refl _, by unfold maxLen; omega, by simp [fl, h1], by rw [List.take_of_length_le (by simp [fl, h1])]⟩⟩, h4⟩
      have HO := Lib.hid hown
      clear hown hblk2 e1
      go_wp2
      go_ret
      exact ⟨w.heap.size, rfl, hb, HO.out⟩
/-! ### sameFloat -/
theorem c_sameFloat (v n m : Nat) (w : World) (j : Nat) : Calls Try.prog 17 #[.float .f64 (pick .f64 v n), .float .f64 (pick .f64 v m)] (w.drewN j) (RetV (.bool true) w) := by
  have hs := self_ne .f64 v
  have ht := self_eq .f64 v
  cases h : isN .f64 v
  · rw [h] at hs ht
    cases h2 : (FloatKind.f64.format.order v 0 == some .eq)
    · go_enter Try.func17, Try.ntmps17
      go_wp2_with (first | (refine wpList_fop rfl _ _ _ _ _ rfl _ _ _ rfl rfl (by decide) _ ?_; intro _ _) | (refine upon_fop _ _ _ _ _ (by decide) ?_; intro _ _))
      go_ret
      exact ⟨_, rfl, rfl⟩
    · go_enter Try.func17, Try.ntmps17
      go_wp2_with (first | (refine wpList_fop rfl _ _ _ _ _ rfl _ _ _ rfl rfl (by decide) _ ?_; intro _ _) | (refine upon_fop _ _ _ _ _ (by decide) ?_; intro _ _))
      go_ret
      exact ⟨_, by simp, rfl⟩
  · rw [h] at hs ht
    go_enter Try.func17, Try.ntmps17
    go_wp2_with (first | (refine wpList_fop rfl _ _ _ _ _ rfl _ _ _ rfl rfl (by decide) _ ?_; intro _ _) | (refine upon_fop _ _ _ _ _ (by decide) ?_; intro _ _))
    go_ret
    exact ⟨_, rfl, rfl⟩

/-! ### eqFloat32S -/
theorem c_eqF (a b : Option Addr) (len c d : Nat) (zs : List Nat) (w : World) (j0 : Nat) (hr : IsRowF .f32 w a len c zs) (hs : IsRowF .f32 w b len d zs) : Calls Try.prog 8 #[.slice a len c, .slice b len d] (w.drewN j0) (RetV (.bool true) w) := by
  obtain ⟨h1, h2, h3, h4, h5⟩ := hr
  obtain ⟨g1, g2, g3, g4, g5⟩ := hs
  unfold maxLen at h3
  go_enter Try.func8, Try.ntmps8
  go_wp2
  go_loopw [5] (fun i wr => ∃ k m : Nat, k ≤ len ∧ i = .int .i64 k ∧ wr = w.drewN m) (fun i _ => len - (intOf i).toNat)
  case atStart => exact ⟨0, j0, Nat.zero_le _, rfl, rfl⟩
  case round =>
    obtain ⟨k, m, hk, rfl, rfl⟩ := hrel
    by_cases hlt : k < len
    · rcases h5 with h5 | ⟨x, off, rfl, hbl, hc⟩
      · omega
      rcases g5 with g5 | ⟨y, off2, rfl, gbl, gc⟩
      · omega
      have hcell : w.cell? ⟨x, off + k, none⟩ = some (.float .f32 (fat zs k)) := hc k hlt
      have gcell : w.cell? ⟨y, off2 + k, none⟩ = some (.float .f32 (fat zs k)) := gc k hlt
      clear hc h4 gc g4
      go_wp2
      refine wp_region_N (fun _ _ u => u = .bool true) (by kernel_rfl) (by kernel_rfl) ?_; (repeat (first | ((with_reducible show wpN _ _ _ _ _ (Oper.mk _ (Op.binOp _ _ _ _ _) _ _ _ none :: _) _); refine wpN_fop rfl _ _ _ _ _ rfl _ _ _ rfl rfl (by decide) ?_; intro _) | ((with_reducible show wpN _ _ _ _ _ (Oper.mk _ (Op.convert _ _ _) _ _ _ none :: _) _); refine wpN_cvU rfl 23 39 _ rfl (Option.isSome_iff_exists.2 ⟨_, Try.underlying23⟩) Try.underlying39 _ rfl ?_; intro _) | ((with_reducible show wpN _ _ _ _ _ (Oper.mk _ _ _ _ _ (some _) :: _) _); (with_reducible refine wpN_off ?_ ?_); focus rfl; (simp only [Act.put, List.setIfInBounds_toArray, List.set_cons_zero, List.set_cons_succ])) | ((with_reducible show wpN _ _ _ _ _ (Oper.mk _ _ _ _ _ (some _) :: _) _); ((with_reducible refine wpN_on ?_ (fun K hK => ?_)); (focus rfl); intro _; go_simp; first | (refine uponN_value (hK _ ?_)) | ((refine uponN_call (callN rfl (c_sameFloat _ _ _ _ _)) ?_; intro u hu; obtain rfl : u = _ := hu); refine hK _ ?_)); clear hK K) | (((with_reducible refine wpN_plain rfl (fun K hK => ?_)); intro _; go_simp; first | (refine uponN_value (hK _ ?_)) | ((refine uponN_call (callN rfl (c_sameFloat _ _ _ _ _)) ?_; intro u hu; obtain rfl : u = _ := hu); refine hK _ ?_)); clear hK K) | ((with_reducible refine wpN_step (fun K hK => ?_)); go_simp; first | (refine hK _ ?_) | (intro _; first | (refine uponN_value (hK _ ?_)) | ((refine uponN_call (callN rfl (c_sameFloat _ _ _ _ _)) ?_; intro u hu; obtain rfl : u = _ := hu); refine hK _ ?_)); clear hK K))); refine wpN_nil ?_; intro _
      go_wp2
      go_roundw
      case rel => exact ⟨k + 1, _, by omega, by go_num, rfl⟩
      case measure => simp [intOf]; omega
    · clear h5 h4 g4 g5
      go_wp2
      go_ret
      exact ⟨_, rfl, rfl⟩
/-! ### eqF0 -/
theorem c_eqF0 (a b : Option Addr) (len c d : Nat) (zs : List Nat) (w : World) (hr : IsRowF .f32 w a len c zs) (hs : IsRowF .f32 w b len d zs) : Calls Try.prog 8 #[.slice a len c, .slice b len d] w (RetV (.bool true) w) := by
  have h := c_eqF a b len c d zs w 0 hr hs
  rwa [w.drewN_zero] at h
/-! ### markFloat32S -/
theorem c_markF {T : TypeId} (B : Nat) (a : Option Addr) (len cap k : Nat) (zs : List Nat) (w : World) (hr : Own T w B a len cap zs) (hk : k + len ≤ 4611686018427387904) : Calls Try.prog 9 #[.slice a len cap, .int .i64 k] w (fun e w' => e = .returned (.int .i64 ((k + len : Nat) : Int)) ∧ w.grownBy w' (blk a) ∧ Own T w' B a len cap (marks k len)) := by
  rcases hr.parts with ⟨rfl, rfl, rfl, rfl⟩ | ⟨g, cur, rfl, hb, hg, hl, hm, hs, ht⟩
  · clear hr
    go_enter Try.func9, Try.ntmps9
    go_wp2
    refine wp_loop_rounds 1 ?_; rw [rounds_succ]
    go_wp2
    go_ret
    exact ⟨rfl, ⟨rfl, rfl, rfl, Nat.le_refl _, fun _ _ _ => rfl⟩, Own.nil _ _ _⟩
  · have h0 : Marked w g T cap k 0 := ⟨cur, hg, hs, fun i hi => by omega⟩
    have H0 := Lib.hid h0
    unfold maxLen at hm
    clear hr hg hs ht h0
    go_enter Try.func9, Try.ntmps9
    go_wp2
    go_loopw [1, 5] (fun t i wr => ∃ j : Nat, j ≤ len ∧ i = .int .i64 j ∧ t = .int .i64 ((k + j : Nat) : Int) ∧ w.grownBy wr (some g) ∧ Marked wr g T cap k j) (fun _ i _ => len - (intOf i).toNat)
    case atStart => exact ⟨0, Nat.zero_le _, rfl, rfl, ⟨rfl, rfl, rfl, Nat.le_refl _, fun _ _ _ => rfl⟩, H0.out⟩
    case round =>
      obtain ⟨j, hj, rfl, rfl, hgr, hM⟩ := hrel
      by_cases hlt : j < len
      · obtain ⟨v, hcell, hfz⟩ := hM.cell (j := j) (by omega)
        have hM2 := Lib.hid (hM.step (by omega : j < cap))
        have hG2 := Lib.hid hgr
        clear hM hgr
        go_wp2
        go_roundw
        case rel => exact ⟨j + 1, by omega, by go_num, by go_num, ⟨hG2.out.os, hG2.out.tape, hG2.out.output, by have := hG2.out.size; simpa using this, fun k' h1 h2 => by rw [Below.heap_setCell _ _ _ _ (fun e => h2 (by rw [e]))]; exact hG2.out.block k' h1 h2⟩, hM2.out⟩
        case measure => simp [intOf]; omega
      · obtain rfl : j = len := by omega
        have hO := Lib.hid (hM.own (B := B) hb hl (by unfold maxLen; omega))
        have hG2 := Lib.hid hgr
        clear hM hgr
        go_wp2
        go_ret
        exact ⟨rfl, hG2.out, hO.out⟩
/-! ### heldFloat32S -/
theorem c_heldF (a : Option Addr) (len cap k : Nat) (w : World) (hr : IsRowF .f32 w a len cap (marks k len)) (hk : k + len ≤ 4611686018427387904) : Calls Try.prog 10 #[.slice a len cap, .int .i64 k] w (fun e w' => e = .returned (.int .i64 ((k + len : Nat) : Int)) ∧ w' = w) := by
  obtain ⟨h1, h2, h3, h4, h5⟩ := hr
  unfold maxLen at h3
  clear h1 h4
  go_enter Try.func10, Try.ntmps10
  go_wp2
  go_loop [1, 5] (fun t i => ∃ j : Nat, j ≤ len ∧ i = .int .i64 j ∧ t = .int .i64 ((k + j : Nat) : Int)) (fun _ i => len - (intOf i).toNat)
  case atStart => exact ⟨0, Nat.zero_le _, rfl, rfl⟩
  case round =>
    obtain ⟨j, hj, rfl, rfl⟩ := hrel
    by_cases hlt : j < len
    · rcases h5 with h5 | ⟨b, off, rfl, hbl, hc⟩
      · omega
      have hcell : w.cell? ⟨b, off + j, none⟩ = some (.float .f32 (markN k j)) := by rw [← marks_at k len j hlt]; exact hc j hlt
      have hne : (FloatKind.f32.format.order (markN k j) (markN k j) != some .eq) = false := by rw [self_ne]; exact markN_notN k j
      have hE : floatOfInt .f32 ((k : Int) + (j : Int)) = markN k j := by unfold markN; rw [Int.natCast_add]
      have hne2 : (FloatKind.f32.format.order (markN k j) (floatOfInt .f32 ((k : Int) + (j : Int))) != some .eq) = false := (congrArg (fun x => FloatKind.f32.format.order (markN k j) x != some .eq) hE).trans hne
      clear hE
      clear hc
      go_wp2
      go_round
      case rel => exact ⟨j + 1, by omega, by go_num, by go_num⟩
      case measure => simp [intOf]; omega
    · obtain rfl : j = len := by omega
      clear h5
      go_wp2
      go_ret
      exact ⟨rfl, rfl⟩
/-! ### openCol -/
theorem open_col {H : Type} {enc : TypeId × Value → H} {P : Program} {w : World} {base : Nat} {spare : Nat → Bool} {held : Bool} {r : Reach} {b0 : Nat} {t : TypeId} {f0 f1 f2 : Field} {v : Value} {d : DataW H} {p : List MemPlace}
    (hs : P.underlying t = some (.struct #[f0, f1, f2])) (hone : Go.Deep.oneCellFields P #[f0, f1, f2] = true) (hC : P.cellsOf t = 3) (u0 : P.underlying f0.type = some (.float .f32)) (u1 : P.underlying f1.type = some (.float .f32))
    (u2 : P.underlying f2.type = some (.float .f32)) (hv : Value.okWide P w r b0 t v) (h : DataW.Trod enc P w base spare held t v d p) :
    ∃ (x y z : Nat), v = .agg #[.float .f32 x, .float .f32 y, .float .f32 z] ∧ (Lit.float .f32 x).wf = true ∧ (Lit.float .f32 y).wf = true ∧ (Lit.float .f32 z).wf = true := by
  obtain ⟨v0, v1, v2, y0, y1, y2, n, rfl, _, _, h0, h1, h2⟩ := Go.Joins.open_agg3 hs hone hC hv h
  obtain ⟨x, e0, _, w0⟩ := trod_float u0 h0
  obtain ⟨y, e1, _, w1⟩ := trod_float u1 h1
  obtain ⟨z, e2, _, w2⟩ := trod_float u2 h2
  simp only [List.cons.injEq, and_true] at e0 e1 e2
  subst e0 e1 e2
  exact ⟨x, y, z, rfl, w0, w1, w2⟩
/-! ### toColor -/
theorem c_toC (r n g m b k : Nat) (w : World) : Calls Try.prog 6 #[.agg #[.float .f32 (pick .f32 r n), .float .f32 (pick .f32 g m), .float .f32 (pick .f32 b k)]] w (RetB (.agg #[.float .f32 (pick .f32 r n), .float .f32 (pick .f32 g m), .float .f32 (pick .f32 b k)]) w) := by
  go_enter Try.func6, Try.ntmps6
  go_wp2_with fail
  refine bodyPost_ret (v := .agg #[.float .f32 (pick .f32 r n), .float .f32 (pick .f32 g m), .float .f32 (pick .f32 b k)]) (by simp [results, Try.results6, go_sem]) rfl ⟨rfl, ?_⟩
  repeat (first | exact Below.refl _ _ | exact Nat.le_refl _ | (refine Below.setCell ?_ ?_ _) | (refine below_drewN ?_ _) | (refine Below.alloc ?_ ?_ _) | (simp <;> omega))
/-! ### picDefs -/
def sideB (W H : Int) : Bool := decide (1 ≤ W) && decide (W ≤ 16) && (decide (1 ≤ H) && decide (H ≤ 16))
def finL (zs : List Nat) : Bool := zs.all (finB .f32)
def validB (W H : Int) (zs : List Nat) : Bool := sideB W H && decide ((zs.length : Int) = W * H) && finL zs
theorem sideB_true {W H : Int} (h : sideB W H = true) : (1 ≤ W ∧ W ≤ 16) ∧ 1 ≤ H ∧ H ≤ 16 := by simpa [sideB, and_assoc] using h
theorem side_mul {W H : Int} (h : sideB W H = true) : 1 ≤ W * H ∧ W * H ≤ 256 := by
  obtain ⟨⟨h1, h2⟩, h3, h4⟩ := sideB_true h
  have : W * H ≤ 16 * 16 := Int.mul_le_mul h2 h4 (by omega) (by omega)
  have h5 : 1 * 1 ≤ W * H := Int.mul_le_mul h1 h3 (by omega) (by omega)
  omega
theorem sideB_false {W H : Int} (h : sideB W H = false) : W < 1 ∨ 16 < W ∨ H < 1 ∨ 16 < H := by
  simp [sideB] at h; omega
theorem finL_snoc (zs : List Nat) (k : Nat) (hk : k < zs.length) : finL (zs.take (k + 1)) = (finL (zs.take k) && finB .f32 (fat zs k)) := by
  unfold finL fat
  rw [List.take_succ_eq_append_getElem hk, List.all_append, List.getD, List.getElem?_eq_getElem hk]; simp
theorem finL_of (zs : List Nat) (k : Nat) (hk : k < zs.length) (h : finB .f32 (fat zs k) = false) : finL zs = false := by
  unfold finL
  rw [List.all_eq_false]
  refine ⟨zs[k], List.getElem_mem hk, ?_⟩
  unfold fat at h
  rw [List.getD, List.getElem?_eq_getElem hk] at h
  simpa using h
theorem pick0 (k : FloatKind) (v : Nat) (hv : v < 2 ^ k.format.width) : ∃ n, v = pick k v n := pick_onto k v hv
/-! ### meanDefs -/
def meanV (zs : List Nat) : Nat := fop .quo .f32 (sumF .add .f32 0 zs) (floatOfInt .f32 (zs.length : Int))
def numR (v : Nat) : Nat × Bool := if finB .f32 v = true then (v, true) else (0, false)
def meanR (W H : Int) (zs : List Nat) : Nat × Bool := if validB W H zs = true then numR (meanV zs) else (0, false)
theorem mean_len {W H : Int} {zs : List Nat} (h : validB W H zs = true) : zs.length ≤ 256 := by
  simp only [validB, Bool.and_eq_true, decide_eq_true_eq] at h
  obtain ⟨⟨h1, h2⟩, h3⟩ := h
  have := side_mul h1
  omega
theorem pick00 : pick .f32 0 0 = 0 := pick_not (show isN .f32 0 = false from by decide +kernel) 0
/-! ### colDefs -/
def colB (r g b : Nat) : Bool := finB .f32 r && (finB .f32 g && finB .f32 b)
def greyV (r g b : Nat) : Nat := fop .add .f32 (fop .add .f32 (fop .mul .f32 1046066128 r) (fop .mul .f32 1060575065 g)) (fop .mul .f32 1033100696 b)
def greyR (r g b : Nat) : Nat × Bool := if colB r g b = true then numR (greyV r g b) else (0, false)
theorem retF1no {w : World} {e : Ending} {w' : World} (h : e = .returned (.tuple #[.float .f32 0, .bool false])) (hw : Below w.heap.size w w') : RetF1 (0, false) w e w' := ⟨0, by rw [h]; simp only [pick00], hw⟩
theorem fin3 (a b c n m l : Nat) : finL [pick .f32 a n, pick .f32 b m, pick .f32 c l] = colB a b c := by simp [finL, finB_pick, colB]
/-! ### matDefs -/
def fin9 (z : List Nat) : Bool := finB .f32 (fat z 0) && finB .f32 (fat z 1) && finB .f32 (fat z 2) && finB .f32 (fat z 3) && finB .f32 (fat z 4) && finB .f32 (fat z 5) && finB .f32 (fat z 6) && finB .f32 (fat z 7) && finB .f32 (fat z 8)
def matB (zs : List Nat) : Bool := decide (zs.length = 9) && finL zs
theorem fin9_eq {zs : List Nat} (h : zs.length = 9) : fin9 zs = finL zs := by
  obtain ⟨a0, a1, a2, a3, a4, a5, a6, a7, a8, rfl⟩ : ∃ a0 a1 a2 a3 a4 a5 a6 a7 a8, zs = [a0, a1, a2, a3, a4, a5, a6, a7, a8] := by
    match zs, h with
    | [a0, a1, a2, a3, a4, a5, a6, a7, a8], _ => exact ⟨a0, a1, a2, a3, a4, a5, a6, a7, a8, rfl⟩
  simp [fin9, finL, fat, Bool.and_assoc]
/-! ### tcDefs -/
def turnV (x y z r g b : Nat) : Nat := fop .add .f32 (fop .add .f32 (fop .mul .f32 x r) (fop .mul .f32 y g)) (fop .mul .f32 z b)
def turn3 (z : List Nat) (r g b : Nat) : Nat × Nat × Nat := (turnV (fat z 0) (fat z 1) (fat z 2) r g b, turnV (fat z 3) (fat z 4) (fat z 5) r g b, turnV (fat z 6) (fat z 7) (fat z 8) r g b)
def turnC (zs : List Nat) (r g b : Nat) : (Nat × Nat × Nat) × Bool := if (matB zs && colB r g b && colB (turn3 zs r g b).1 (turn3 zs r g b).2.1 (turn3 zs r g b).2.2) = true then (turn3 zs r g b, true) else ((0, 0, 0), false)
/-- Of a color; of a color and a bool. -/
def ColR (t : Nat × Nat × Nat) (w : World) (e : Ending) (w' : World) : Prop := ∃ n m k, e = .returned (.agg #[.float .f32 (pick .f32 t.1 n), .float .f32 (pick .f32 t.2.1 m), .float .f32 (pick .f32 t.2.2 k)]) ∧ Below w.heap.size w w'
def ColB2 (t : (Nat × Nat × Nat) × Bool) (w : World) (e : Ending) (w' : World) : Prop := ∃ n m k, e = .returned (.tuple #[.agg #[.float .f32 (pick .f32 t.1.1 n), .float .f32 (pick .f32 t.1.2.1 m), .float .f32 (pick .f32 t.1.2.2 k)], .bool t.2]) ∧ Below w.heap.size w w'
theorem ColB2.no {w : World} {e : Ending} {w' : World} (h : e = .returned (.tuple #[.agg #[.float .f32 0, .float .f32 0, .float .f32 0], .bool false])) (b : Below w.heap.size w w') : ColB2 ((0, 0, 0), false) w e w' := ⟨0, 0, 0, by rw [h]; simp only [pick00], b⟩
theorem turnV_lt (x y z r g b : Nat) : turnV x y z r g b < 2 ^ FloatKind.f32.format.width := fop_lt _ _ _ _
/-! ### backDefs -/
def listR (l : List Nat) : List Nat × Bool := if finL l = true then (l, true) else ([], false)
def lessV (a b c d : Nat) : Nat := fop .sub .f32 (fop .mul .f32 a b) (fop .mul .f32 c d)
def backS (p q r a b c : Nat) : Nat := fop .add .f32 (fop .add .f32 (fop .mul .f32 a p) (fop .mul .f32 b q)) (fop .mul .f32 c r)
theorem own_new9 {T : TypeId} {w : World} {B g : Nat} {zs : List Nat} (hg : g = w.heap.size) (hB : B ≤ g) (hl : zs.length ≤ 1000) (hw : ∀ b ∈ zs, (Lit.float .f32 b).wf = true) : Own T (w.alloc (.cells (fl .f32 zs).toArray T)) B (some ⟨g, 0, none⟩) zs.length zs.length zs := by
  subst hg
  refine ⟨rfl, ⟨by simp [fl], .inr ⟨_, _, (fl .f32 zs).toArray, rfl, hB, heap_alloc_new w _, Nat.le_refl _, by unfold maxLen; omega, by simp [fl], by simp [fl, List.take_of_length_le]⟩⟩, hw⟩
theorem wf_lt {v : Nat} (h : v < 2 ^ FloatKind.f32.format.width) : (Lit.float .f32 v).wf = true := by
  have := pick_wf h 0
  cases hn : isN .f32 v
  · rwa [pick_not hn] at this
  · have hw : (2 : Nat) ^ FloatKind.f32.format.width = 4294967296 := by decide +kernel
    rw [hw] at h
    simp [Lit.wf, h]
/-! ### varSet -/
theorem var_setAt {w : World} {b i : Nat} {cs : Array Value} (h : Var w b cs) (hi : i < cs.size) (v : Value) : Var (w.setCell ⟨b, i, none⟩ v) b (cs.set i v hi) := by
  refine ⟨by simpa using h.1, fun j hj => ?_⟩
  have hj' : j < cs.size := by simpa using hj
  by_cases e : i = j
  · subst e
    rw [Array.getElem_set_self]
    exact World.cell?_setCell_same w _ _ (h.2 i hi)
  · rw [Array.getElem_set_ne _ _ e]
    rw [World.cell?_setCell_other w ⟨b, i, none⟩ ⟨b, j, none⟩ v (fun h2 => e (by have := congrArg Addr.off h2; simpa using this))]
    exact h.2 j hj'
/-! ### jmDefs -/
theorem jcell1_new (w : World) (T : TypeId) (u0 : Value) (b : Nat) (hb : b = w.heap.size) (j : Nat) (u : Value) (hj : [u0][j]? = some u) : (w.alloc (.cells #[u0] T)).cell? ((⟨b, 0, none⟩ : Addr).add j) = some u := by
  subst hb
  have e : (⟨w.heap.size, 0, none⟩ : Addr).add j = ⟨w.heap.size, j, none⟩ := by cases j <;> simp [Addr.add]
  rw [e, cell_of_row _ w.heap.size j _ T (0, 0) (heap_alloc_new w _)]
  simpa using hj
def sumJ (a b : List Nat) (i k : Nat) : Nat → Nat
  | 0 => 0
  | j + 1 => fop .add .f32 (sumJ a b i k j) (fop .mul .f32 (fat a (3 * i + j)) (fat b (3 * j + k)))
def joinML (a b : List Nat) : List Nat := [sumJ a b 0 0 3, sumJ a b 0 1 3, sumJ a b 0 2 3, sumJ a b 1 0 3, sumJ a b 1 1 3, sumJ a b 1 2 3, sumJ a b 2 0 3, sumJ a b 2 1 3, sumJ a b 2 2 3]
def joinM (zA zB : List Nat) : List Nat × Bool := if (matB zA && matB zB) = true then listR (joinML zA zB) else ([], false)
def PJ (a b : List Nat) (t j c : Nat) : Nat := if c < t then sumJ a b (c / 3) (c % 3) 3 else if c = t then sumJ a b (t / 3) (t % 3) j else 0
theorem PJ_next (a b : List Nat) (t c : Nat) : PJ a b t 3 c = PJ a b (t + 1) 0 c := by
  unfold PJ
  by_cases h1 : c < t
  · rw [if_pos h1, if_pos (by omega)]
  · by_cases h2 : c = t
    · subst h2; rw [if_neg (by omega), if_pos rfl, if_pos (by omega)]
    · rw [if_neg h1, if_neg h2, if_neg (by omega)]
      split <;> rfl
theorem PJ_at (a b : List Nat) (t j : Nat) : PJ a b t j t = sumJ a b (t / 3) (t % 3) j := by unfold PJ; rw [if_neg (by omega), if_pos rfl]
theorem PJ_other (a b : List Nat) {t j c : Nat} (h : c ≠ t) : PJ a b t (j + 1) c = PJ a b t j c := by
  unfold PJ
  by_cases h1 : c < t
  · rw [if_pos h1, if_pos h1]
  · rw [if_neg h1, if_neg h1, if_neg h, if_neg h]
theorem sumJ_lt (a b : List Nat) (i k : Nat) : sumJ a b i k 3 < 2 ^ FloatKind.f32.format.width := fop_lt _ _ _ _
theorem joinM_no {zA zB : List Nat} (h : matB zA = false ∨ matB zB = false) : joinM zA zB = ([], false) := by
  unfold joinM
  rcases h with h | h <;> rw [h] <;> simp
theorem var9 {w : World} {b : Nat} {z : List Nat} {m : Nat → Nat} (h : Var w b #[.float .f32 (pick .f32 (fat z 0) (m 0)), .float .f32 (pick .f32 (fat z 1) (m 1)), .float .f32 (pick .f32 (fat z 2) (m 2)), .float .f32 (pick .f32 (fat z 3) (m 3)), .float .f32 (pick .f32 (fat z 4) (m 4)), .float .f32 (pick .f32 (fat z 5) (m 5)), .float .f32 (pick .f32 (fat z 6) (m 6)), .float .f32 (pick .f32 (fat z 7) (m 7)), .float .f32 (pick .f32 (fat z 8) (m 8))]) : ∀ c, c < 9 → w.cell? ⟨b, c, none⟩ = some (.float .f32 (pick .f32 (fat z c) (m c))) := fun c hc => by
  match c, hc with
  | 0, _ => exact h.2 0 (by simp)
  | 1, _ => exact h.2 1 (by simp)
  | 2, _ => exact h.2 2 (by simp)
  | 3, _ => exact h.2 3 (by simp)
  | 4, _ => exact h.2 4 (by simp)
  | 5, _ => exact h.2 5 (by simp)
  | 6, _ => exact h.2 6 (by simp)
  | 7, _ => exact h.2 7 (by simp)
  | 8, _ => exact h.2 8 (by simp)
  | n + 9, h => exact absurd h (by omega)
theorem var9z {w : World} {b : Nat} (h : Var w b #[.float .f32 0, .float .f32 0, .float .f32 0, .float .f32 0, .float .f32 0, .float .f32 0, .float .f32 0, .float .f32 0, .float .f32 0]) : ∀ c, c < 9 → w.cell? ⟨b, c, none⟩ = some (.float .f32 0) := fun c hc => by
  match c, hc with
  | 0, _ => exact h.2 0 (by simp)
  | 1, _ => exact h.2 1 (by simp)
  | 2, _ => exact h.2 2 (by simp)
  | 3, _ => exact h.2 3 (by simp)
  | 4, _ => exact h.2 4 (by simp)
  | 5, _ => exact h.2 5 (by simp)
  | 6, _ => exact h.2 6 (by simp)
  | 7, _ => exact h.2 7 (by simp)
  | 8, _ => exact h.2 8 (by simp)
  | n + 9, h => exact absurd h (by omega)
/-- The joined numbers under way. -/
def JP (a b : List Nat) (J : Nat) (w0 : World) (t j : Nat) (w : World) : Prop :=
  Below J w0 w ∧ Free w J ∧ J < w.heap.size ∧ ∀ c, c < 9 → ∃ n, w.cell? ⟨J, c, none⟩ = some (.float .f32 (pick .f32 (PJ a b t j c) n))
theorem JP.next {a b : List Nat} {J : Nat} {w0 w : World} {t : Nat} (h : JP a b J w0 t 3 w) : JP a b J w0 (t + 1) 0 w :=
  ⟨h.1, h.2.1, h.2.2.1, fun c hc => by rw [← PJ_next]; exact h.2.2.2 c hc⟩
theorem JP.step {a b : List Nat} {J : Nat} {w0 w w' : World} {t j n : Nat} (h : JP a b J w0 t j w) (hb : Below w.heap.size w w') (ht : t < 9) (v : Nat) (hv : v = PJ a b t (j + 1) t) : JP a b J w0 t (j + 1) (w'.setCell ⟨J, t, none⟩ (.float .f32 (pick .f32 v n))) := by
  obtain ⟨h1, h2, h3, h4⟩ := h
  have h3' : J < w'.heap.size := Nat.lt_of_lt_of_le h3 hb.size
  refine ⟨(h1.trans (hb.mono (Nat.le_of_lt h3))).setCell (p := ⟨J, t, none⟩) (Nat.le_refl _) _, (h2.below h3 hb).setCell _ _, by simpa using h3', fun c hc => ?_⟩
  obtain ⟨q, hq⟩ := h4 c hc
  have hq' := (hb.cell (p := ⟨J, c, none⟩) h3).trans hq
  by_cases e : c = t
  · subst e
    exact ⟨n, by rw [← hv]; exact World.cell?_setCell_same _ _ _ hq'⟩
  · refine ⟨q, ?_⟩
    rw [PJ_other a b e, World.cell?_setCell_other _ _ _ _ (fun h5 => e (by have := congrArg Addr.off h5; simpa using this.symm))]
    exact hq'
/-! ### backRes -/
def backDet (z : List Nat) : Nat := backS (lessV (fat z 4) (fat z 8) (fat z 5) (fat z 7)) (lessV (fat z 5) (fat z 6) (fat z 3) (fat z 8)) (lessV (fat z 3) (fat z 7) (fat z 4) (fat z 6)) (fat z 0) (fat z 1) (fat z 2)
def backL (z : List Nat) : List Nat := [fop .quo .f32 (lessV (fat z 4) (fat z 8) (fat z 5) (fat z 7)) (backDet z), fop .quo .f32 (lessV (fat z 2) (fat z 7) (fat z 1) (fat z 8)) (backDet z), fop .quo .f32 (lessV (fat z 1) (fat z 5) (fat z 2) (fat z 4)) (backDet z), fop .quo .f32 (lessV (fat z 5) (fat z 6) (fat z 3) (fat z 8)) (backDet z), fop .quo .f32 (lessV (fat z 0) (fat z 8) (fat z 2) (fat z 6)) (backDet z), fop .quo .f32 (lessV (fat z 2) (fat z 3) (fat z 0) (fat z 5)) (backDet z), fop .quo .f32 (lessV (fat z 3) (fat z 7) (fat z 4) (fat z 6)) (backDet z), fop .quo .f32 (lessV (fat z 1) (fat z 6) (fat z 0) (fat z 7)) (backDet z), fop .quo .f32 (lessV (fat z 0) (fat z 4) (fat z 1) (fat z 3)) (backDet z)]
def backM (zs : List Nat) : List Nat × Bool := if (matB zs && !(FloatKind.f32.format.order (backDet zs) 0 == some .eq)) = true then listR (backL zs) else ([], false)
theorem backM_no {zs : List Nat} (h : matB zs = false ∨ (FloatKind.f32.format.order (backDet zs) 0 == some .eq) = true) : backM zs = ([], false) := by
  unfold backM
  rcases h with h | h <;> rw [h] <;> simp
/-! ### wmDefs -/
def zB (x : Nat) : Bool := FloatKind.f32.format.order x 0 == some .eq
def midL (u v : Nat × Nat × Nat) : List Nat := [fop .quo .f32 v.1 u.1, 0, 0, 0, fop .quo .f32 v.2.1 u.2.1, 0, 0, 0, fop .quo .f32 v.2.2 u.2.2]
def whiteM (zs : List Nat) (rf gf bf rt gt bt : Nat) : List Nat × Bool :=
  cond ((turnC zs rf gf bf).2 && (turnC zs rt gt bt).2 && !zB (turnC zs rf gf bf).1.1 && !zB (turnC zs rf gf bf).1.2.1 && !zB (turnC zs rf gf bf).1.2.2)
    (joinM (backM zs).1 (joinM (midL (turnC zs rf gf bf).1 (turnC zs rt gt bt).1) zs).1) ([], false)
theorem listR_2 (l : List Nat) : (listR l).2 = finL l := by unfold listR; split <;> simp_all
theorem matB_nil : matB [] = false := rfl
theorem join_nil_l (b : List Nat) : joinM [] b = ([], false) := joinM_no (.inl matB_nil)
theorem join_nil_r (a : List Nat) : joinM a [] = ([], false) := joinM_no (.inr matB_nil)
theorem joinM_cases (a b : List Nat) : (joinM a b).2 = true ∨ joinM a b = ([], false) := by
  unfold joinM listR
  split
  · split
    · exact .inl rfl
    · exact .inr rfl
  · exact .inr rfl
theorem backM_cases (a : List Nat) : (backM a).2 = true ∨ backM a = ([], false) := by
  unfold backM listR
  split
  · split
    · exact .inl rfl
    · exact .inr rfl
  · exact .inr rfl
theorem near_mid (u v : Nat × Nat × Nat) (k0 k1 k2 : Nat) : near [pick .f32 (fop .quo .f32 v.1 u.1) k0, 0, 0, 0, pick .f32 (fop .quo .f32 v.2.1 u.2.1) k1, 0, 0, 0, pick .f32 (fop .quo .f32 v.2.2 u.2.2) k2] (midL u v) :=
  ⟨rfl, fun i hi => by
    match i, hi with
    | 0, _ => exact ⟨k0, rfl⟩
    | 1, _ => exact ⟨0, pick00.symm⟩
    | 2, _ => exact ⟨0, pick00.symm⟩
    | 3, _ => exact ⟨0, pick00.symm⟩
    | 4, _ => exact ⟨k1, rfl⟩
    | 5, _ => exact ⟨0, pick00.symm⟩
    | 6, _ => exact ⟨0, pick00.symm⟩
    | 7, _ => exact ⟨0, pick00.symm⟩
    | 8, _ => exact ⟨k2, rfl⟩
    | n + 9, h => exact absurd h (by simp [midL])⟩
/-- What isn't finite isn't asked for its bits. -/
theorem join_near {z l b : List Nat} (h : near z l) : joinM z b = joinM l b := by
  have hl : z.length = l.length := h.1
  have hf : finL z = finL l := near_fin h
  cases hq : finL l
  · rw [joinM_no (.inl (by unfold matB; rw [hf, hq, Bool.and_false])), joinM_no (.inl (by unfold matB; rw [hq, Bool.and_false]))]
  · rw [near_eq h hq]
/-! ### l05Turn -/
theorem c_l05Turn (zs : List Nat) (a : Option Addr) (c : Nat) (r nr g ng b nb : Nat) (w : World) (hr : IsRowF .f32 w a zs.length c zs) (h9 : zs.length = 9) : Calls Try.prog 20 #[.slice a zs.length c, .agg #[.float .f32 (pick .f32 r nr), .float .f32 (pick .f32 g ng), .float .f32 (pick .f32 b nb)]] w (ColR (turn3 zs r g b) w) := by
  generalize hw0 : (w.alloc (Obj.cells #[.float .f32 (pick .f32 r nr), .float .f32 (pick .f32 g ng), .float .f32 (pick .f32 b nb)] 29)).alloc (Obj.cells #[.float .f32 0, .float .f32 0, .float .f32 0] 29) = w0
  have X0 : Var w0 w.heap.size #[.float .f32 (pick .f32 r nr), .float .f32 (pick .f32 g ng), .float .f32 (pick .f32 b nb)] := by subst hw0; exact (Var.new _ _ _).alloc _
  have X1 : Var w0 (w.heap.size + 1) #[.float .f32 0, .float .f32 0, .float .f32 0] := by subst hw0; exact Var.new' _ _ _ _ (by simp)
  have X2 : Free w0 (w.heap.size + 1) := by subst hw0; exact Free.new' _ _ _ _ (by simp)
  have X3 : Below w.heap.size w w0 := by subst hw0; exact ((Below.refl _ _).alloc (Nat.le_refl _) _).alloc (by simp) _
  have HW := Lib.hid hw0
  have V0 := Lib.hid X0
  have V1 := Lib.hid X1
  have F1 := Lib.hid X2
  have B0 := Lib.hid X3
  have z0 : w.heap.size + 1 < w0.heap.size := X1.lt
  have hR := hr.below X3
  obtain ⟨bb, off, n0, rfl, hb, e0⟩ := hR.at (k := 0) (by omega)
  obtain ⟨b1, o1, n1, hab1, hb1, e1⟩ := hR.at (k := 1) (by omega)
  cases hab1
  obtain ⟨b2, o2, n2, hab2, hb2, e2⟩ := hR.at (k := 2) (by omega)
  cases hab2
  obtain ⟨b3, o3, n3, hab3, hb3, e3⟩ := hR.at (k := 3) (by omega)
  cases hab3
  obtain ⟨b4, o4, n4, hab4, hb4, e4⟩ := hR.at (k := 4) (by omega)
  cases hab4
  obtain ⟨b5, o5, n5, hab5, hb5, e5⟩ := hR.at (k := 5) (by omega)
  cases hab5
  obtain ⟨b6, o6, n6, hab6, hb6, e6⟩ := hR.at (k := 6) (by omega)
  cases hab6
  obtain ⟨b7, o7, n7, hab7, hb7, e7⟩ := hR.at (k := 7) (by omega)
  cases hab7
  obtain ⟨b8, o8, n8, hab8, hb8, e8⟩ := hR.at (k := 8) (by omega)
  cases hab8
  simp only [Nat.add_zero] at e0
  rw [h9]
  have hcap : 9 ≤ c := by have := hR.2.1; omega
  have KS := Lib.hid (fun (w' : World) (hE : Below w0.heap.size w0 w') => (⟨(hE.cell (p := ⟨bb, off, none⟩) hb).trans e0, (hE.cell (p := ⟨bb, off + 1, none⟩) hb).trans e1, (hE.cell (p := ⟨bb, off + 2, none⟩) hb).trans e2, (hE.cell (p := ⟨bb, off + 3, none⟩) hb).trans e3, (hE.cell (p := ⟨bb, off + 4, none⟩) hb).trans e4, (hE.cell (p := ⟨bb, off + 5, none⟩) hb).trans e5, (hE.cell (p := ⟨bb, off + 6, none⟩) hb).trans e6, (hE.cell (p := ⟨bb, off + 7, none⟩) hb).trans e7, (hE.cell (p := ⟨bb, off + 8, none⟩) hb).trans e8, (V0.out.keep hE).three⟩ : w'.cell? ⟨bb, off, none⟩ = some (.float .f32 (pick .f32 (fat zs 0) n0)) ∧ w'.cell? ⟨bb, off + 1, none⟩ = some (.float .f32 (pick .f32 (fat zs 1) n1)) ∧ w'.cell? ⟨bb, off + 2, none⟩ = some (.float .f32 (pick .f32 (fat zs 2) n2)) ∧ w'.cell? ⟨bb, off + 3, none⟩ = some (.float .f32 (pick .f32 (fat zs 3) n3)) ∧ w'.cell? ⟨bb, off + 4, none⟩ = some (.float .f32 (pick .f32 (fat zs 4) n4)) ∧ w'.cell? ⟨bb, off + 5, none⟩ = some (.float .f32 (pick .f32 (fat zs 5) n5)) ∧ w'.cell? ⟨bb, off + 6, none⟩ = some (.float .f32 (pick .f32 (fat zs 6) n6)) ∧ w'.cell? ⟨bb, off + 7, none⟩ = some (.float .f32 (pick .f32 (fat zs 7) n7)) ∧ w'.cell? ⟨bb, off + 8, none⟩ = some (.float .f32 (pick .f32 (fat zs 8) n8)) ∧ _))
  clear hw0 X0 X1 X2 X3 hr hR hb h9 e0 e1 e2 e3 e4 e5 e6 e7 e8 hb1 hb2 hb3 hb4 hb5 hb6 hb7 hb8
  unfold ColR turn3 turnV
  go_enter Try.func20, Try.ntmps20
  go_wp2_with fail
  rw [HW.out]
  refine wp_region_facts 60 (fun a b => Below a.heap.size a b) (fun _ => Below.refl _ _) (fun _ _ _ h h' => h.trans (h'.mono h.size)) (Below.refl _ _).drew (by kernel_rfl) (by kernel_rfl) (by kernel_rfl) (by kernel_rfl) ?_
  simp only [List.take_succ_cons, List.take_zero, List.drop_succ_cons, List.drop_zero]
  (with_reducible apply wpF_val); (focus (intro vs w' hE hk; (obtain ⟨s0, s1, s2, s3, s4, s5, s6, s7, s8, c0, c1, c2⟩ := KS.out w' hE); go_simp; exact ⟨Below.refl _ _, rfl⟩)); (simp only [Act.put, List.setIfInBounds_toArray, List.set_cons_zero, List.set_cons_succ, List.cons_append, List.nil_append])
  (with_reducible apply wpF_val); (focus (intro vs w' hE hk; (obtain ⟨s0, s1, s2, s3, s4, s5, s6, s7, s8, c0, c1, c2⟩ := KS.out w' hE); go_simp; exact ⟨Below.refl _ _, rfl⟩)); (simp only [Act.put, List.setIfInBounds_toArray, List.set_cons_zero, List.set_cons_succ, List.cons_append, List.nil_append])
  (with_reducible apply wpF_val); (focus (intro vs w' hE hk; (obtain ⟨s0, s1, s2, s3, s4, s5, s6, s7, s8, c0, c1, c2⟩ := KS.out w' hE); go_simp; exact ⟨Below.refl _ _, rfl⟩)); (simp only [Act.put, List.setIfInBounds_toArray, List.set_cons_zero, List.set_cons_succ, List.cons_append, List.nil_append])
  (with_reducible apply wpF_val); (focus (intro vs w' hE hk; (obtain ⟨s0, s1, s2, s3, s4, s5, s6, s7, s8, c0, c1, c2⟩ := KS.out w' hE); go_simp; exact ⟨Below.refl _ _, rfl⟩)); (simp only [Act.put, List.setIfInBounds_toArray, List.set_cons_zero, List.set_cons_succ, List.cons_append, List.nil_append])
  (with_reducible apply wpF_val); (focus (intro vs w' hE hk; (obtain ⟨s0, s1, s2, s3, s4, s5, s6, s7, s8, c0, c1, c2⟩ := KS.out w' hE); go_simp; exact ⟨Below.refl _ _, rfl⟩)); (simp only [Act.put, List.setIfInBounds_toArray, List.set_cons_zero, List.set_cons_succ, List.cons_append, List.nil_append])
  refine wpF_fact (fun u _ => ∃ m, u = .float .f32 (pick .f32 (fop .mul .f32 (fat zs 0) r) m)) (fun _ _ _ h _ => h) (fun vs w' hE hk => ?_) ?_; (focus (rw [if_pos (by rfl)]; refine uponW_fop _ _ _ _ _ rfl .f32 _ _ rfl rfl (by decide) (fun n' m' => ⟨below_drewN (Below.refl _ _) _, n', by simp only [fop_pick_l, fop_pick_r]⟩))); (simp only [Act.put, List.setIfInBounds_toArray, List.set_cons_zero, List.set_cons_succ, List.cons_append, List.nil_append])
  (with_reducible apply wpF_val); (focus (intro vs w' hE hk; (obtain ⟨s0, s1, s2, s3, s4, s5, s6, s7, s8, c0, c1, c2⟩ := KS.out w' hE); go_simp; exact ⟨Below.refl _ _, rfl⟩)); (simp only [Act.put, List.setIfInBounds_toArray, List.set_cons_zero, List.set_cons_succ, List.cons_append, List.nil_append])
  (with_reducible apply wpF_val); (focus (intro vs w' hE hk; (obtain ⟨s0, s1, s2, s3, s4, s5, s6, s7, s8, c0, c1, c2⟩ := KS.out w' hE); go_simp; exact ⟨Below.refl _ _, rfl⟩)); (simp only [Act.put, List.setIfInBounds_toArray, List.set_cons_zero, List.set_cons_succ, List.cons_append, List.nil_append])
  (with_reducible apply wpF_val); (focus (intro vs w' hE hk; (obtain ⟨s0, s1, s2, s3, s4, s5, s6, s7, s8, c0, c1, c2⟩ := KS.out w' hE); go_simp; exact ⟨Below.refl _ _, rfl⟩)); (simp only [Act.put, List.setIfInBounds_toArray, List.set_cons_zero, List.set_cons_succ, List.cons_append, List.nil_append])
  (with_reducible apply wpF_val); (focus (intro vs w' hE hk; (obtain ⟨s0, s1, s2, s3, s4, s5, s6, s7, s8, c0, c1, c2⟩ := KS.out w' hE); go_simp; exact ⟨Below.refl _ _, rfl⟩)); (simp only [Act.put, List.setIfInBounds_toArray, List.set_cons_zero, List.set_cons_succ, List.cons_append, List.nil_append])
  (with_reducible apply wpF_val); (focus (intro vs w' hE hk; (obtain ⟨s0, s1, s2, s3, s4, s5, s6, s7, s8, c0, c1, c2⟩ := KS.out w' hE); go_simp; exact ⟨Below.refl _ _, rfl⟩)); (simp only [Act.put, List.setIfInBounds_toArray, List.set_cons_zero, List.set_cons_succ, List.cons_append, List.nil_append])
  refine wpF_fact (fun u _ => ∃ m, u = .float .f32 (pick .f32 (fop .mul .f32 (fat zs 1) g) m)) (fun _ _ _ h _ => h) (fun vs w' hE hk => ?_) ?_; (focus (rw [if_pos (by rfl)]; refine uponW_fop _ _ _ _ _ rfl .f32 _ _ rfl rfl (by decide) (fun n' m' => ⟨below_drewN (Below.refl _ _) _, n', by simp only [fop_pick_l, fop_pick_r]⟩))); (simp only [Act.put, List.setIfInBounds_toArray, List.set_cons_zero, List.set_cons_succ, List.cons_append, List.nil_append])
  refine wpF_fact (fun u _ => ∃ m, u = .float .f32 (pick .f32 (fop .add .f32 (fop .mul .f32 (fat zs 0) r) (fop .mul .f32 (fat zs 1) g)) m)) (fun _ _ _ h _ => h) (fun vs w' hE hk => ?_) ?_; (focus (obtain ⟨n1, hn1⟩ := hk 5 (by kernel_rfl); simp only [hn1]; obtain ⟨n2, hn2⟩ := hk 11 (by kernel_rfl); simp only [hn2]; rw [if_pos (by rfl)]; refine uponW_fop _ _ _ _ _ rfl .f32 _ _ rfl rfl (by decide) (fun n' m' => ⟨below_drewN (Below.refl _ _) _, n', by simp only [fop_pick_l, fop_pick_r]⟩))); (simp only [Act.put, List.setIfInBounds_toArray, List.set_cons_zero, List.set_cons_succ, List.cons_append, List.nil_append])
  (with_reducible apply wpF_val); (focus (intro vs w' hE hk; (obtain ⟨s0, s1, s2, s3, s4, s5, s6, s7, s8, c0, c1, c2⟩ := KS.out w' hE); go_simp; exact ⟨Below.refl _ _, rfl⟩)); (simp only [Act.put, List.setIfInBounds_toArray, List.set_cons_zero, List.set_cons_succ, List.cons_append, List.nil_append])
  (with_reducible apply wpF_val); (focus (intro vs w' hE hk; (obtain ⟨s0, s1, s2, s3, s4, s5, s6, s7, s8, c0, c1, c2⟩ := KS.out w' hE); go_simp; exact ⟨Below.refl _ _, rfl⟩)); (simp only [Act.put, List.setIfInBounds_toArray, List.set_cons_zero, List.set_cons_succ, List.cons_append, List.nil_append])
  (with_reducible apply wpF_val); (focus (intro vs w' hE hk; (obtain ⟨s0, s1, s2, s3, s4, s5, s6, s7, s8, c0, c1, c2⟩ := KS.out w' hE); go_simp; exact ⟨Below.refl _ _, rfl⟩)); (simp only [Act.put, List.setIfInBounds_toArray, List.set_cons_zero, List.set_cons_succ, List.cons_append, List.nil_append])
  (with_reducible apply wpF_val); (focus (intro vs w' hE hk; (obtain ⟨s0, s1, s2, s3, s4, s5, s6, s7, s8, c0, c1, c2⟩ := KS.out w' hE); go_simp; exact ⟨Below.refl _ _, rfl⟩)); (simp only [Act.put, List.setIfInBounds_toArray, List.set_cons_zero, List.set_cons_succ, List.cons_append, List.nil_append])
  (with_reducible apply wpF_val); (focus (intro vs w' hE hk; (obtain ⟨s0, s1, s2, s3, s4, s5, s6, s7, s8, c0, c1, c2⟩ := KS.out w' hE); go_simp; exact ⟨Below.refl _ _, rfl⟩)); (simp only [Act.put, List.setIfInBounds_toArray, List.set_cons_zero, List.set_cons_succ, List.cons_append, List.nil_append])
  refine wpF_fact (fun u _ => ∃ m, u = .float .f32 (pick .f32 (fop .mul .f32 (fat zs 2) b) m)) (fun _ _ _ h _ => h) (fun vs w' hE hk => ?_) ?_; (focus (rw [if_pos (by rfl)]; refine uponW_fop _ _ _ _ _ rfl .f32 _ _ rfl rfl (by decide) (fun n' m' => ⟨below_drewN (Below.refl _ _) _, n', by simp only [fop_pick_l, fop_pick_r]⟩))); (simp only [Act.put, List.setIfInBounds_toArray, List.set_cons_zero, List.set_cons_succ, List.cons_append, List.nil_append])
  refine wpF_fact (fun u _ => ∃ m, u = .float .f32 (pick .f32 (fop .add .f32 (fop .add .f32 (fop .mul .f32 (fat zs 0) r) (fop .mul .f32 (fat zs 1) g)) (fop .mul .f32 (fat zs 2) b)) m)) (fun _ _ _ h _ => h) (fun vs w' hE hk => ?_) ?_; (focus (obtain ⟨n1, hn1⟩ := hk 12 (by kernel_rfl); simp only [hn1]; obtain ⟨n2, hn2⟩ := hk 18 (by kernel_rfl); simp only [hn2]; rw [if_pos (by rfl)]; refine uponW_fop _ _ _ _ _ rfl .f32 _ _ rfl rfl (by decide) (fun n' m' => ⟨below_drewN (Below.refl _ _) _, n', by simp only [fop_pick_l, fop_pick_r]⟩))); (simp only [Act.put, List.setIfInBounds_toArray, List.set_cons_zero, List.set_cons_succ, List.cons_append, List.nil_append])
  (with_reducible apply wpF_val); (focus (intro vs w' hE hk; (obtain ⟨s0, s1, s2, s3, s4, s5, s6, s7, s8, c0, c1, c2⟩ := KS.out w' hE); go_simp; exact ⟨Below.refl _ _, rfl⟩)); (simp only [Act.put, List.setIfInBounds_toArray, List.set_cons_zero, List.set_cons_succ, List.cons_append, List.nil_append])
  (with_reducible apply wpF_val); (focus (intro vs w' hE hk; (obtain ⟨s0, s1, s2, s3, s4, s5, s6, s7, s8, c0, c1, c2⟩ := KS.out w' hE); go_simp; exact ⟨Below.refl _ _, rfl⟩)); (simp only [Act.put, List.setIfInBounds_toArray, List.set_cons_zero, List.set_cons_succ, List.cons_append, List.nil_append])
  (with_reducible apply wpF_val); (focus (intro vs w' hE hk; (obtain ⟨s0, s1, s2, s3, s4, s5, s6, s7, s8, c0, c1, c2⟩ := KS.out w' hE); go_simp; exact ⟨Below.refl _ _, rfl⟩)); (simp only [Act.put, List.setIfInBounds_toArray, List.set_cons_zero, List.set_cons_succ, List.cons_append, List.nil_append])
  (with_reducible apply wpF_val); (focus (intro vs w' hE hk; (obtain ⟨s0, s1, s2, s3, s4, s5, s6, s7, s8, c0, c1, c2⟩ := KS.out w' hE); go_simp; exact ⟨Below.refl _ _, rfl⟩)); (simp only [Act.put, List.setIfInBounds_toArray, List.set_cons_zero, List.set_cons_succ, List.cons_append, List.nil_append])
  (with_reducible apply wpF_val); (focus (intro vs w' hE hk; (obtain ⟨s0, s1, s2, s3, s4, s5, s6, s7, s8, c0, c1, c2⟩ := KS.out w' hE); go_simp; exact ⟨Below.refl _ _, rfl⟩)); (simp only [Act.put, List.setIfInBounds_toArray, List.set_cons_zero, List.set_cons_succ, List.cons_append, List.nil_append])
  refine wpF_fact (fun u _ => ∃ m, u = .float .f32 (pick .f32 (fop .mul .f32 (fat zs 3) r) m)) (fun _ _ _ h _ => h) (fun vs w' hE hk => ?_) ?_; (focus (rw [if_pos (by rfl)]; refine uponW_fop _ _ _ _ _ rfl .f32 _ _ rfl rfl (by decide) (fun n' m' => ⟨below_drewN (Below.refl _ _) _, n', by simp only [fop_pick_l, fop_pick_r]⟩))); (simp only [Act.put, List.setIfInBounds_toArray, List.set_cons_zero, List.set_cons_succ, List.cons_append, List.nil_append])
  (with_reducible apply wpF_val); (focus (intro vs w' hE hk; (obtain ⟨s0, s1, s2, s3, s4, s5, s6, s7, s8, c0, c1, c2⟩ := KS.out w' hE); go_simp; exact ⟨Below.refl _ _, rfl⟩)); (simp only [Act.put, List.setIfInBounds_toArray, List.set_cons_zero, List.set_cons_succ, List.cons_append, List.nil_append])
  (with_reducible apply wpF_val); (focus (intro vs w' hE hk; (obtain ⟨s0, s1, s2, s3, s4, s5, s6, s7, s8, c0, c1, c2⟩ := KS.out w' hE); go_simp; exact ⟨Below.refl _ _, rfl⟩)); (simp only [Act.put, List.setIfInBounds_toArray, List.set_cons_zero, List.set_cons_succ, List.cons_append, List.nil_append])
  (with_reducible apply wpF_val); (focus (intro vs w' hE hk; (obtain ⟨s0, s1, s2, s3, s4, s5, s6, s7, s8, c0, c1, c2⟩ := KS.out w' hE); go_simp; exact ⟨Below.refl _ _, rfl⟩)); (simp only [Act.put, List.setIfInBounds_toArray, List.set_cons_zero, List.set_cons_succ, List.cons_append, List.nil_append])
  (with_reducible apply wpF_val); (focus (intro vs w' hE hk; (obtain ⟨s0, s1, s2, s3, s4, s5, s6, s7, s8, c0, c1, c2⟩ := KS.out w' hE); go_simp; exact ⟨Below.refl _ _, rfl⟩)); (simp only [Act.put, List.setIfInBounds_toArray, List.set_cons_zero, List.set_cons_succ, List.cons_append, List.nil_append])
  (with_reducible apply wpF_val); (focus (intro vs w' hE hk; (obtain ⟨s0, s1, s2, s3, s4, s5, s6, s7, s8, c0, c1, c2⟩ := KS.out w' hE); go_simp; exact ⟨Below.refl _ _, rfl⟩)); (simp only [Act.put, List.setIfInBounds_toArray, List.set_cons_zero, List.set_cons_succ, List.cons_append, List.nil_append])
  refine wpF_fact (fun u _ => ∃ m, u = .float .f32 (pick .f32 (fop .mul .f32 (fat zs 4) g) m)) (fun _ _ _ h _ => h) (fun vs w' hE hk => ?_) ?_; (focus (rw [if_pos (by rfl)]; refine uponW_fop _ _ _ _ _ rfl .f32 _ _ rfl rfl (by decide) (fun n' m' => ⟨below_drewN (Below.refl _ _) _, n', by simp only [fop_pick_l, fop_pick_r]⟩))); (simp only [Act.put, List.setIfInBounds_toArray, List.set_cons_zero, List.set_cons_succ, List.cons_append, List.nil_append])
  refine wpF_fact (fun u _ => ∃ m, u = .float .f32 (pick .f32 (fop .add .f32 (fop .mul .f32 (fat zs 3) r) (fop .mul .f32 (fat zs 4) g)) m)) (fun _ _ _ h _ => h) (fun vs w' hE hk => ?_) ?_; (focus (obtain ⟨n1, hn1⟩ := hk 25 (by kernel_rfl); simp only [hn1]; obtain ⟨n2, hn2⟩ := hk 31 (by kernel_rfl); simp only [hn2]; rw [if_pos (by rfl)]; refine uponW_fop _ _ _ _ _ rfl .f32 _ _ rfl rfl (by decide) (fun n' m' => ⟨below_drewN (Below.refl _ _) _, n', by simp only [fop_pick_l, fop_pick_r]⟩))); (simp only [Act.put, List.setIfInBounds_toArray, List.set_cons_zero, List.set_cons_succ, List.cons_append, List.nil_append])
  (with_reducible apply wpF_val); (focus (intro vs w' hE hk; (obtain ⟨s0, s1, s2, s3, s4, s5, s6, s7, s8, c0, c1, c2⟩ := KS.out w' hE); go_simp; exact ⟨Below.refl _ _, rfl⟩)); (simp only [Act.put, List.setIfInBounds_toArray, List.set_cons_zero, List.set_cons_succ, List.cons_append, List.nil_append])
  (with_reducible apply wpF_val); (focus (intro vs w' hE hk; (obtain ⟨s0, s1, s2, s3, s4, s5, s6, s7, s8, c0, c1, c2⟩ := KS.out w' hE); go_simp; exact ⟨Below.refl _ _, rfl⟩)); (simp only [Act.put, List.setIfInBounds_toArray, List.set_cons_zero, List.set_cons_succ, List.cons_append, List.nil_append])
  (with_reducible apply wpF_val); (focus (intro vs w' hE hk; (obtain ⟨s0, s1, s2, s3, s4, s5, s6, s7, s8, c0, c1, c2⟩ := KS.out w' hE); go_simp; exact ⟨Below.refl _ _, rfl⟩)); (simp only [Act.put, List.setIfInBounds_toArray, List.set_cons_zero, List.set_cons_succ, List.cons_append, List.nil_append])
  (with_reducible apply wpF_val); (focus (intro vs w' hE hk; (obtain ⟨s0, s1, s2, s3, s4, s5, s6, s7, s8, c0, c1, c2⟩ := KS.out w' hE); go_simp; exact ⟨Below.refl _ _, rfl⟩)); (simp only [Act.put, List.setIfInBounds_toArray, List.set_cons_zero, List.set_cons_succ, List.cons_append, List.nil_append])
  (with_reducible apply wpF_val); (focus (intro vs w' hE hk; (obtain ⟨s0, s1, s2, s3, s4, s5, s6, s7, s8, c0, c1, c2⟩ := KS.out w' hE); go_simp; exact ⟨Below.refl _ _, rfl⟩)); (simp only [Act.put, List.setIfInBounds_toArray, List.set_cons_zero, List.set_cons_succ, List.cons_append, List.nil_append])
  refine wpF_fact (fun u _ => ∃ m, u = .float .f32 (pick .f32 (fop .mul .f32 (fat zs 5) b) m)) (fun _ _ _ h _ => h) (fun vs w' hE hk => ?_) ?_; (focus (rw [if_pos (by rfl)]; refine uponW_fop _ _ _ _ _ rfl .f32 _ _ rfl rfl (by decide) (fun n' m' => ⟨below_drewN (Below.refl _ _) _, n', by simp only [fop_pick_l, fop_pick_r]⟩))); (simp only [Act.put, List.setIfInBounds_toArray, List.set_cons_zero, List.set_cons_succ, List.cons_append, List.nil_append])
  refine wpF_fact (fun u _ => ∃ m, u = .float .f32 (pick .f32 (fop .add .f32 (fop .add .f32 (fop .mul .f32 (fat zs 3) r) (fop .mul .f32 (fat zs 4) g)) (fop .mul .f32 (fat zs 5) b)) m)) (fun _ _ _ h _ => h) (fun vs w' hE hk => ?_) ?_; (focus (obtain ⟨n1, hn1⟩ := hk 32 (by kernel_rfl); simp only [hn1]; obtain ⟨n2, hn2⟩ := hk 38 (by kernel_rfl); simp only [hn2]; rw [if_pos (by rfl)]; refine uponW_fop _ _ _ _ _ rfl .f32 _ _ rfl rfl (by decide) (fun n' m' => ⟨below_drewN (Below.refl _ _) _, n', by simp only [fop_pick_l, fop_pick_r]⟩))); (simp only [Act.put, List.setIfInBounds_toArray, List.set_cons_zero, List.set_cons_succ, List.cons_append, List.nil_append])
  (with_reducible apply wpF_val); (focus (intro vs w' hE hk; (obtain ⟨s0, s1, s2, s3, s4, s5, s6, s7, s8, c0, c1, c2⟩ := KS.out w' hE); go_simp; exact ⟨Below.refl _ _, rfl⟩)); (simp only [Act.put, List.setIfInBounds_toArray, List.set_cons_zero, List.set_cons_succ, List.cons_append, List.nil_append])
  (with_reducible apply wpF_val); (focus (intro vs w' hE hk; (obtain ⟨s0, s1, s2, s3, s4, s5, s6, s7, s8, c0, c1, c2⟩ := KS.out w' hE); go_simp; exact ⟨Below.refl _ _, rfl⟩)); (simp only [Act.put, List.setIfInBounds_toArray, List.set_cons_zero, List.set_cons_succ, List.cons_append, List.nil_append])
  (with_reducible apply wpF_val); (focus (intro vs w' hE hk; (obtain ⟨s0, s1, s2, s3, s4, s5, s6, s7, s8, c0, c1, c2⟩ := KS.out w' hE); go_simp; exact ⟨Below.refl _ _, rfl⟩)); (simp only [Act.put, List.setIfInBounds_toArray, List.set_cons_zero, List.set_cons_succ, List.cons_append, List.nil_append])
  (with_reducible apply wpF_val); (focus (intro vs w' hE hk; (obtain ⟨s0, s1, s2, s3, s4, s5, s6, s7, s8, c0, c1, c2⟩ := KS.out w' hE); go_simp; exact ⟨Below.refl _ _, rfl⟩)); (simp only [Act.put, List.setIfInBounds_toArray, List.set_cons_zero, List.set_cons_succ, List.cons_append, List.nil_append])
  (with_reducible apply wpF_val); (focus (intro vs w' hE hk; (obtain ⟨s0, s1, s2, s3, s4, s5, s6, s7, s8, c0, c1, c2⟩ := KS.out w' hE); go_simp; exact ⟨Below.refl _ _, rfl⟩)); (simp only [Act.put, List.setIfInBounds_toArray, List.set_cons_zero, List.set_cons_succ, List.cons_append, List.nil_append])
  refine wpF_fact (fun u _ => ∃ m, u = .float .f32 (pick .f32 (fop .mul .f32 (fat zs 6) r) m)) (fun _ _ _ h _ => h) (fun vs w' hE hk => ?_) ?_; (focus (rw [if_pos (by rfl)]; refine uponW_fop _ _ _ _ _ rfl .f32 _ _ rfl rfl (by decide) (fun n' m' => ⟨below_drewN (Below.refl _ _) _, n', by simp only [fop_pick_l, fop_pick_r]⟩))); (simp only [Act.put, List.setIfInBounds_toArray, List.set_cons_zero, List.set_cons_succ, List.cons_append, List.nil_append])
  (with_reducible apply wpF_val); (focus (intro vs w' hE hk; (obtain ⟨s0, s1, s2, s3, s4, s5, s6, s7, s8, c0, c1, c2⟩ := KS.out w' hE); go_simp; exact ⟨Below.refl _ _, rfl⟩)); (simp only [Act.put, List.setIfInBounds_toArray, List.set_cons_zero, List.set_cons_succ, List.cons_append, List.nil_append])
  (with_reducible apply wpF_val); (focus (intro vs w' hE hk; (obtain ⟨s0, s1, s2, s3, s4, s5, s6, s7, s8, c0, c1, c2⟩ := KS.out w' hE); go_simp; exact ⟨Below.refl _ _, rfl⟩)); (simp only [Act.put, List.setIfInBounds_toArray, List.set_cons_zero, List.set_cons_succ, List.cons_append, List.nil_append])
  (with_reducible apply wpF_val); (focus (intro vs w' hE hk; (obtain ⟨s0, s1, s2, s3, s4, s5, s6, s7, s8, c0, c1, c2⟩ := KS.out w' hE); go_simp; exact ⟨Below.refl _ _, rfl⟩)); (simp only [Act.put, List.setIfInBounds_toArray, List.set_cons_zero, List.set_cons_succ, List.cons_append, List.nil_append])
  (with_reducible apply wpF_val); (focus (intro vs w' hE hk; (obtain ⟨s0, s1, s2, s3, s4, s5, s6, s7, s8, c0, c1, c2⟩ := KS.out w' hE); go_simp; exact ⟨Below.refl _ _, rfl⟩)); (simp only [Act.put, List.setIfInBounds_toArray, List.set_cons_zero, List.set_cons_succ, List.cons_append, List.nil_append])
  (with_reducible apply wpF_val); (focus (intro vs w' hE hk; (obtain ⟨s0, s1, s2, s3, s4, s5, s6, s7, s8, c0, c1, c2⟩ := KS.out w' hE); go_simp; exact ⟨Below.refl _ _, rfl⟩)); (simp only [Act.put, List.setIfInBounds_toArray, List.set_cons_zero, List.set_cons_succ, List.cons_append, List.nil_append])
  refine wpF_fact (fun u _ => ∃ m, u = .float .f32 (pick .f32 (fop .mul .f32 (fat zs 7) g) m)) (fun _ _ _ h _ => h) (fun vs w' hE hk => ?_) ?_; (focus (rw [if_pos (by rfl)]; refine uponW_fop _ _ _ _ _ rfl .f32 _ _ rfl rfl (by decide) (fun n' m' => ⟨below_drewN (Below.refl _ _) _, n', by simp only [fop_pick_l, fop_pick_r]⟩))); (simp only [Act.put, List.setIfInBounds_toArray, List.set_cons_zero, List.set_cons_succ, List.cons_append, List.nil_append])
  refine wpF_fact (fun u _ => ∃ m, u = .float .f32 (pick .f32 (fop .add .f32 (fop .mul .f32 (fat zs 6) r) (fop .mul .f32 (fat zs 7) g)) m)) (fun _ _ _ h _ => h) (fun vs w' hE hk => ?_) ?_; (focus (obtain ⟨n1, hn1⟩ := hk 45 (by kernel_rfl); simp only [hn1]; obtain ⟨n2, hn2⟩ := hk 51 (by kernel_rfl); simp only [hn2]; rw [if_pos (by rfl)]; refine uponW_fop _ _ _ _ _ rfl .f32 _ _ rfl rfl (by decide) (fun n' m' => ⟨below_drewN (Below.refl _ _) _, n', by simp only [fop_pick_l, fop_pick_r]⟩))); (simp only [Act.put, List.setIfInBounds_toArray, List.set_cons_zero, List.set_cons_succ, List.cons_append, List.nil_append])
  (with_reducible apply wpF_val); (focus (intro vs w' hE hk; (obtain ⟨s0, s1, s2, s3, s4, s5, s6, s7, s8, c0, c1, c2⟩ := KS.out w' hE); go_simp; exact ⟨Below.refl _ _, rfl⟩)); (simp only [Act.put, List.setIfInBounds_toArray, List.set_cons_zero, List.set_cons_succ, List.cons_append, List.nil_append])
  (with_reducible apply wpF_val); (focus (intro vs w' hE hk; (obtain ⟨s0, s1, s2, s3, s4, s5, s6, s7, s8, c0, c1, c2⟩ := KS.out w' hE); go_simp; exact ⟨Below.refl _ _, rfl⟩)); (simp only [Act.put, List.setIfInBounds_toArray, List.set_cons_zero, List.set_cons_succ, List.cons_append, List.nil_append])
  (with_reducible apply wpF_val); (focus (intro vs w' hE hk; (obtain ⟨s0, s1, s2, s3, s4, s5, s6, s7, s8, c0, c1, c2⟩ := KS.out w' hE); go_simp; exact ⟨Below.refl _ _, rfl⟩)); (simp only [Act.put, List.setIfInBounds_toArray, List.set_cons_zero, List.set_cons_succ, List.cons_append, List.nil_append])
  (with_reducible apply wpF_val); (focus (intro vs w' hE hk; (obtain ⟨s0, s1, s2, s3, s4, s5, s6, s7, s8, c0, c1, c2⟩ := KS.out w' hE); go_simp; exact ⟨Below.refl _ _, rfl⟩)); (simp only [Act.put, List.setIfInBounds_toArray, List.set_cons_zero, List.set_cons_succ, List.cons_append, List.nil_append])
  (with_reducible apply wpF_val); (focus (intro vs w' hE hk; (obtain ⟨s0, s1, s2, s3, s4, s5, s6, s7, s8, c0, c1, c2⟩ := KS.out w' hE); go_simp; exact ⟨Below.refl _ _, rfl⟩)); (simp only [Act.put, List.setIfInBounds_toArray, List.set_cons_zero, List.set_cons_succ, List.cons_append, List.nil_append])
  refine wpF_fact (fun u _ => ∃ m, u = .float .f32 (pick .f32 (fop .mul .f32 (fat zs 8) b) m)) (fun _ _ _ h _ => h) (fun vs w' hE hk => ?_) ?_; (focus (rw [if_pos (by rfl)]; refine uponW_fop _ _ _ _ _ rfl .f32 _ _ rfl rfl (by decide) (fun n' m' => ⟨below_drewN (Below.refl _ _) _, n', by simp only [fop_pick_l, fop_pick_r]⟩))); (simp only [Act.put, List.setIfInBounds_toArray, List.set_cons_zero, List.set_cons_succ, List.cons_append, List.nil_append])
  refine wpF_fact (fun u _ => ∃ m, u = .float .f32 (pick .f32 (fop .add .f32 (fop .add .f32 (fop .mul .f32 (fat zs 6) r) (fop .mul .f32 (fat zs 7) g)) (fop .mul .f32 (fat zs 8) b)) m)) (fun _ _ _ h _ => h) (fun vs w' hE hk => ?_) ?_; (focus (obtain ⟨n1, hn1⟩ := hk 52 (by kernel_rfl); simp only [hn1]; obtain ⟨n2, hn2⟩ := hk 58 (by kernel_rfl); simp only [hn2]; rw [if_pos (by rfl)]; refine uponW_fop _ _ _ _ _ rfl .f32 _ _ rfl rfl (by decide) (fun n' m' => ⟨below_drewN (Below.refl _ _) _, n', by simp only [fop_pick_l, fop_pick_r]⟩))); (simp only [Act.put, List.setIfInBounds_toArray, List.set_cons_zero, List.set_cons_succ, List.cons_append, List.nil_append])
  refine wpF_nil (fun vs w' hE hk => ?_)
  obtain ⟨k0, h5⟩ := hk 19
  obtain ⟨k1, h6⟩ := hk 39
  obtain ⟨k2, h7⟩ := hk 59
  simp only [h5, h6, h7]
  have BB := Lib.hid (B0.out.trans (hE.mono (by omega)))
  have z3 : w0.heap.size ≤ w'.heap.size := hE.size
  obtain ⟨q0, q1, q2⟩ := (V1.out.keep hE).three
  have fr := F1.out.below z0 hE
  have f0 := fr 0
  have f1 := fr 1
  have f2 := fr 2
  clear hE hk h5 h6 h7 fr
  go_wp2_with fail
  refine bodyPost_ret (v := .agg #[.float .f32 (pick .f32 (fop .add .f32 (fop .add .f32 (fop .mul .f32 (fat zs 0) r) (fop .mul .f32 (fat zs 1) g)) (fop .mul .f32 (fat zs 2) b)) k0), .float .f32 (pick .f32 (fop .add .f32 (fop .add .f32 (fop .mul .f32 (fat zs 3) r) (fop .mul .f32 (fat zs 4) g)) (fop .mul .f32 (fat zs 5) b)) k1), .float .f32 (pick .f32 (fop .add .f32 (fop .add .f32 (fop .mul .f32 (fat zs 6) r) (fop .mul .f32 (fat zs 7) g)) (fop .mul .f32 (fat zs 8) b)) k2)]) (by simp [results, Try.results20, q0, q1, q2, go_sem]) rfl ⟨_, _, _, rfl, ?_⟩
  repeat (first | exact Below.refl _ _ | exact BB.out | exact Nat.le_refl _ | (refine Below.setCell ?_ ?_ _) | (refine below_drewN ?_ _) | (refine Below.alloc ?_ ?_ _) | (simp <;> omega))
/-! ### l01Finite -/
theorem c_l01Finite (v n : Nat) (w : World) (j : Nat) : Calls Try.prog 28 #[.float .f32 (pick .f32 v n)] (w.drewN j) (RetV (.bool (finB .f32 v)) w) := by
  go_enter Try.func28, Try.ntmps28
  go_wp2_with (first | (refine wpList_fop rfl _ _ _ _ _ rfl _ _ _ rfl rfl (by decide) _ ?_; intro _ _) | (refine upon_fop _ _ _ _ _ (by decide) ?_; intro _ _))
  go_ret
  rw [← sub_self_zero]
  exact ⟨_, rfl, rfl⟩
/-! ### l02Finite -/
theorem c_l02Finite (a : Option Addr) (len cap : Nat) (zs : List Nat) (w : World) (j0 : Nat) (hr : IsRowF .f32 w a len cap zs) : Calls Try.prog 21 #[.slice a len cap] (w.drewN j0) (RetV (.bool (finL zs)) w) := by
  obtain ⟨h1, h2, h3, h4, h5⟩ := hr
  unfold maxLen at h3
  have H1 := Lib.hid h1
  clear h1
  go_enter Try.func21, Try.ntmps21
  go_wp2
  go_loopw [3] (fun i wr => ∃ k m : Nat, k ≤ len ∧ i = .int .i64 k ∧ wr = w.drewN m ∧ finL (zs.take k) = true) (fun i _ => len - (intOf i).toNat)
  case atStart => exact ⟨0, j0, Nat.zero_le _, rfl, rfl, rfl⟩
  case round =>
    obtain ⟨k, m, hk, rfl, rfl, hfin⟩ := hrel
    have HFin := Lib.hid hfin
    clear hfin
    by_cases hlt : k < len
    · rcases h5 with h5 | ⟨b, off, rfl, hbl, hc⟩
      · omega
      have hcell : w.cell? ⟨b, off + k, none⟩ = some (.float .f32 (fat zs k)) := hc k hlt
      obtain ⟨n, hn⟩ := pick0 .f32 (fat zs k) (lt_of_wf (h4 _ (by unfold fat; rw [List.getD, List.getElem?_eq_getElem (by have := H1.out; omega)]; exact List.getElem_mem _)))
      rw [hn] at hcell
      have HN := Lib.hid hn
      have HS := Lib.hid (finL_snoc zs k (by have := H1.out; omega))
      cases hf : finB .f32 (fat zs k)
      · have HO := Lib.hid (finL_of zs k (by have := H1.out; omega) hf)
        clear hc h4 hn
        go_wp2_with ((go_at_call 28; refine (c_l01Finite _ _ _ _).mono ?_; rintro _ _ ⟨_, rfl, rfl⟩))
        go_ret
        exact ⟨_, by rw [HO.out]; rfl, rfl⟩
      · have HF := Lib.hid hf
        clear hc h4 hn
        go_wp2_with ((go_at_call 28; refine (c_l01Finite _ _ _ _).mono ?_; rintro _ _ ⟨_, rfl, rfl⟩))
        go_roundw
        case rel => exact ⟨k + 1, _, by omega, by go_num, rfl, by rw [HS.out, HFin.out, HF.out]; rfl⟩
        case measure => simp [intOf]; omega
    · have e : zs.take k = zs := List.take_of_length_le (by have := H1.out; omega)
      have HE := Lib.hid e
      clear h5 h4 e
      go_wp2
      go_ret
      exact ⟨_, by have h := HFin.out; rw [HE.out] at h; rw [h]; rfl, rfl⟩
/-! ### l05Matrix -/
theorem c_l05Matrix (zs : List Nat) (a : Option Addr) (c : Nat) (w : World) (j : Nat) (hr : IsRowF .f32 w a zs.length c zs) : Calls Try.prog 18 #[.slice a zs.length c] (w.drewN j) (RetV (.bool (matB zs)) w) := by
  have CF := Lib.hid (fun j => c_l02Finite a zs.length c zs w j hr)
  have mA : zs.length ≤ maxLen := Nat.le_trans hr.2.1 hr.2.2.1
  unfold maxLen at mA
  clear hr
  unfold matB
  by_cases h9 : zs.length = 9
  · have e : ((zs.length : Int) == 9) = true := by rw [beq_iff_eq]; omega
    rw [decide_eq_true h9, Bool.true_and]
    generalize finL zs = q at *
    clear h9
    go_enter Try.func18, Try.ntmps18
    go_wp2_with ((go_at_call 21; refine (CF.out _).mono ?_; rintro _ _ ⟨_, rfl, rfl⟩))
    go_ret
    exact ⟨_, rfl, rfl⟩
  · have e : ((zs.length : Int) == 9) = false := by rw [beq_eq_false_iff_ne]; omega
    rw [decide_eq_false h9, Bool.false_and]
    clear h9
    go_enter Try.func18, Try.ntmps18
    go_wp2_with fail
    go_ret
    exact ⟨_, rfl, rfl⟩
/-! ### l05Color -/
theorem c_l05Color (r n g m b k x : Nat) (w : World) (j : Nat) (h0 : w.cell? ⟨x, 0, none⟩ = some (.float .f32 (pick .f32 r n))) (h1 : w.cell? ⟨x, 1, none⟩ = some (.float .f32 (pick .f32 g m))) (h2 : w.cell? ⟨x, 2, none⟩ = some (.float .f32 (pick .f32 b k))) : Calls Try.prog 19 #[.pointer (some ⟨x, 0, none⟩)] (w.drewN j) (RetV (.bool (colB r g b)) w) := by
  go_enter Try.func19, Try.ntmps19
  unfold colB
  go_wp2_with ((go_at_call 28; refine (c_l01Finite _ _ _ _).mono ?_; rintro _ _ ⟨_, rfl, rfl⟩))
  all_goals (go_ret; exact ⟨_, by simp [*], rfl⟩)
/-! ### sTurnColor -/
theorem c_sTurnColor (zs : List Nat) (a : Option Addr) (c : Nat) (r nr g ng b nb : Nat) (w : World) (rA : IsRowF .f32 w a zs.length c zs) (hr : r < 2 ^ FloatKind.f32.format.width) (hg : g < 2 ^ FloatKind.f32.format.width) (hb : b < 2 ^ FloatKind.f32.format.width) : Calls Try.prog 11 #[.slice a zs.length c, .agg #[.float .f32 (pick .f32 r nr), .float .f32 (pick .f32 g ng), .float .f32 (pick .f32 b nb)]] w (ColB2 (turnC zs r g b) w) := by
  generalize hw0 : (w.alloc (Obj.cells #[.float .f32 (pick .f32 r nr), .float .f32 (pick .f32 g ng), .float .f32 (pick .f32 b nb)] 29)).alloc (Obj.cells #[.float .f32 0, .float .f32 0, .float .f32 0] 29) = w0
  have X0 : Var w0 w.heap.size #[.float .f32 (pick .f32 r nr), .float .f32 (pick .f32 g ng), .float .f32 (pick .f32 b nb)] := by subst hw0; exact (Var.new _ _ _).alloc _
  have X1 : Var w0 (w.heap.size + 1) #[.float .f32 0, .float .f32 0, .float .f32 0] := by subst hw0; exact Var.new' _ _ _ _ (by simp)
  have X2 : Free w0 (w.heap.size + 1) := by subst hw0; exact Free.new' _ _ _ _ (by simp)
  have X3 : Below w.heap.size w w0 := by subst hw0; exact ((Below.refl _ _).alloc (Nat.le_refl _) _).alloc (by simp) _
  have HW := Lib.hid hw0
  have V0 := Lib.hid X0
  have V1 := Lib.hid X1
  have F1 := Lib.hid X2
  have B0 := Lib.hid X3
  have z0 : w.heap.size + 1 < w0.heap.size := X1.lt
  have R0 := Lib.hid (rA.below X3)
  clear hw0 X0 X1 X2 X3 rA
  obtain ⟨res, hres0⟩ : ∃ q, q = turnC zs r g b := ⟨_, rfl⟩
  rw [← hres0]
  have HR := Lib.hid hres0
  have CM := Lib.hid (fun j => c_l05Matrix zs a c w0 j R0.out)
  have CC := Lib.hid (fun j => c_l05Color r nr g ng b nb _ w0 j V0.out.three.1 V0.out.three.2.1 V0.out.three.2.2)
  have E : ∀ j, Below w0.heap.size w0 (w0.drewN j) := fun j => below_drewN (Below.refl _ _) j
  obtain ⟨c0, c1, c2⟩ := V0.out.three
  clear hres0
  cases hm : matB zs
  all_goals rw [hm] at CM
  · have HQ := Lib.hid (show res = ((0, 0, 0), false) by rw [HR.out]; unfold turnC; rw [hm]; rfl)
    clear hm c0 c1 c2
    obtain ⟨q0, q1, q2⟩ := V1.out.three
    have f0 := F1.out 0
    have f1 := F1.out 1
    have f2 := F1.out 2
    go_enter Try.func11, Try.ntmps11
    go_wp2_with fail
    rw [HW.out, ← w0.drewN_zero]
    go_wp2_with (go_at_call 18; refine (CM.out _).mono ?_; rintro _ _ ⟨_, rfl, rfl⟩)
    refine bodyPost_ret (v := .tuple #[.agg #[.float .f32 0, .float .f32 0, .float .f32 0], .bool false]) (by simp [results, Try.results11, q0, q1, q2, go_sem]) rfl ?_
    rw [HQ.out]
    refine ColB2.no rfl ?_
    repeat (first | exact B0.out | exact Nat.le_refl _ | (refine Below.setCell ?_ ?_ _) | (refine below_drewN ?_ _) | (refine Below.alloc ?_ ?_ _) | (simp <;> omega))
  cases hc : colB r g b
  all_goals rw [hc] at CC
  · have HQ := Lib.hid (show res = ((0, 0, 0), false) by rw [HR.out]; unfold turnC; rw [hm, hc]; rfl)
    clear hm hc c0 c1 c2
    obtain ⟨q0, q1, q2⟩ := V1.out.three
    have f0 := F1.out 0
    have f1 := F1.out 1
    have f2 := F1.out 2
    go_enter Try.func11, Try.ntmps11
    go_wp2_with fail
    rw [HW.out, ← w0.drewN_zero]
    go_wp2_with (first | (go_at_call 18; refine (CM.out _).mono ?_; rintro _ _ ⟨_, rfl, rfl⟩) | (go_at_call 19; refine (CC.out _).mono ?_; rintro _ _ ⟨_, rfl, rfl⟩))
    refine bodyPost_ret (v := .tuple #[.agg #[.float .f32 0, .float .f32 0, .float .f32 0], .bool false]) (by simp [results, Try.results11, q0, q1, q2, go_sem]) rfl ?_
    rw [HQ.out]
    refine ColB2.no rfl ?_
    repeat (first | exact B0.out | exact Nat.le_refl _ | (refine Below.setCell ?_ ?_ _) | (refine below_drewN ?_ _) | (refine Below.alloc ?_ ?_ _) | (simp <;> omega))
  have h9 : zs.length = 9 := by unfold matB at hm; simp only [Bool.and_eq_true, decide_eq_true_eq] at hm; exact hm.1
  obtain ⟨T, hT⟩ : ∃ T, T = turn3 zs r g b := ⟨_, rfl⟩
  have hlt : T.1 < 2 ^ FloatKind.f32.format.width ∧ T.2.1 < 2 ^ FloatKind.f32.format.width ∧ T.2.2 < 2 ^ FloatKind.f32.format.width := by rw [hT]; exact ⟨turnV_lt _ _ _ _ _ _, turnV_lt _ _ _ _ _ _, turnV_lt _ _ _ _ _ _⟩
  have HE := Lib.hid (show res = if colB T.1 T.2.1 T.2.2 = true then (T, true) else ((0, 0, 0), false) by rw [HR.out]; unfold turnC; rw [← hT, hm, hc, Bool.true_and, Bool.true_and])
  have CT := Lib.hid (fun (w1 : World) (hr : IsRowF .f32 w1 a zs.length c zs) => (hT ▸ c_l05Turn zs a c r nr g ng b nb w1 hr h9 : Calls Try.prog 20 #[.slice a zs.length c, .agg #[.float .f32 (pick .f32 r nr), .float .f32 (pick .f32 g ng), .float .f32 (pick .f32 b nb)]] w1 (ColR T w1)))
  clear hm hc hT h9 HR
  obtain ⟨t0, t1, t2⟩ := T
  simp only at hlt HE
  go_enter Try.func11, Try.ntmps11
  go_wp2_with fail
  rw [HW.out, ← w0.drewN_zero]
  go_wp2_with (first | (go_at_call 18; refine (CM.out _).mono ?_; rintro _ _ ⟨_, rfl, rfl⟩) | (go_at_call 19; refine (CC.out _).mono ?_; rintro _ _ ⟨_, rfl, rfl⟩))
  refine (CT.out _ (R0.out.below (E _))).mono ?_
  rintro _ w4 ⟨k0, k1, k2, rfl, b4⟩
  have b4 := (E _).trans (b4.mono (by simp))
  have U4 := Lib.hid (V1.out.keep b4)
  have F4 := Lib.hid (F1.out.below z0 b4)
  have B4 := Lib.hid (B0.out.trans (b4.mono (by omega)))
  have z4 : w0.heap.size ≤ w4.heap.size := b4.size
  generalize hM : w4.alloc (.cells #[.float .f32 (pick .f32 t0 k0), .float .f32 (pick .f32 t1 k1), .float .f32 (pick .f32 t2 k2)] 29) = M
  have VM : Var M w4.heap.size #[.float .f32 (pick .f32 t0 k0), .float .f32 (pick .f32 t1 k1), .float .f32 (pick .f32 t2 k2)] := by subst hM; exact Var.new _ _ _
  have E4 : Below w4.heap.size w4 M := by subst hM; exact (Below.refl _ _).alloc (Nat.le_refl _) _
  have HM := Lib.hid hM
  have U5 := Lib.hid (U4.out.keep E4)
  have F5 := Lib.hid (F4.out.below (by omega) E4)
  have B5 := Lib.hid (B4.out.trans (E4.mono (by omega)))
  have z5 : w4.heap.size < M.heap.size := VM.lt
  have CD := Lib.hid (fun j => c_l05Color t0 k0 t1 k1 t2 k2 _ M j VM.three.1 VM.three.2.1 VM.three.2.2)
  obtain ⟨d0, d1, d2⟩ := VM.three
  obtain ⟨q0, q1, q2⟩ := U5.out.three
  have f0 := F5.out 0
  have f1 := F5.out 1
  have f2 := F5.out 2
  clear b4 VM E4 hM c0 c1 c2 E
  go_wp2_with fail
  rw [HM.out, ← M.drewN_zero]
  cases hd : colB t0 t1 t2
  all_goals rw [hd] at CD
  · have HQ := Lib.hid (show res = ((0, 0, 0), false) by rw [HE.out, hd]; rfl)
    clear hd
    go_wp2_with (go_at_call 19; refine (CD.out _).mono ?_; rintro _ _ ⟨_, rfl, rfl⟩)
    refine bodyPost_ret (v := .tuple #[.agg #[.float .f32 0, .float .f32 0, .float .f32 0], .bool false]) (by simp [results, Try.results11, q0, q1, q2, go_sem]) rfl ?_
    rw [HQ.out]
    refine ColB2.no rfl ?_
    repeat (first | exact B5.out | exact Nat.le_refl _ | (refine Below.setCell ?_ ?_ _) | (refine below_drewN ?_ _) | (refine Below.alloc ?_ ?_ _) | (simp <;> omega))
  · have HQ := Lib.hid (show res = ((t0, t1, t2), true) by rw [HE.out, hd]; rfl)
    clear hd
    go_wp2_with (go_at_call 19; refine (CD.out _).mono ?_; rintro _ _ ⟨_, rfl, rfl⟩)
    refine bodyPost_ret (v := .tuple #[.agg #[.float .f32 (pick .f32 t0 k0), .float .f32 (pick .f32 t1 k1), .float .f32 (pick .f32 t2 k2)], .bool true]) (by simp [results, Try.results11, q0, q1, q2, go_sem]) rfl ?_
    rw [HQ.out]
    refine ⟨_, _, _, rfl, ?_⟩
    repeat (first | exact B5.out | exact Nat.le_refl _ | (refine Below.setCell ?_ ?_ _) | (refine below_drewN ?_ _) | (refine Below.alloc ?_ ?_ _) | (simp <;> omega))
/-! ### infoF2 -/
theorem infoF2 : (Try.prog.info? 23).map (fun i => (i.zero, i.size, i.bytes)) = some (some (.float .f32 0), 1, 4) := by kernel_rfl
/-! ### sJoinM -/
theorem joinML_at (a b : List Nat) : ∀ i k, i < 3 → k < 3 → fat (joinML a b) (3 * i + k) = sumJ a b i k 3 := fun i k hi hk => by
  match i, hi, k, hk with
  | 0, _, 0, _ => rfl
  | 0, _, 1, _ => rfl
  | 0, _, 2, _ => rfl
  | 1, _, 0, _ => rfl
  | 1, _, 1, _ => rfl
  | 1, _, 2, _ => rfl
  | 2, _, 0, _ => rfl
  | 2, _, 1, _ => rfl
  | 2, _, 2, _ => rfl
  | n + 3, h, _, _ => exact absurd h (by omega)
  | _, _, n + 3, h => exact absurd h (by omega)
theorem joinML_len (a b : List Nat) : (joinML a b).length = 9 := rfl
/-- The list under way. -/
def JL (a b : List Nat) (B : Nat) (w0 : World) (n : Nat) (v : Value) (w : World) : Prop :=
  ∃ (r : Option Addr) (c : Nat) (zs : List Nat), v = .slice r n c ∧ Own 23 w B r n c zs ∧ near zs ((joinML a b).take n) ∧ Below B w0 w
theorem c_sJoinMatrices (zA : List Nat) (aA : Option Addr) (cA : Nat) (zB : List Nat) (aB : Option Addr) (cB : Nat) (w : World) (rA : IsRowF .f32 w aA zA.length cA zA) (rB : IsRowF .f32 w aB zB.length cB zB) : Calls Try.prog 12 #[.slice aA zA.length cA, .slice aB zB.length cB] w (RetL 23 (joinM zA zB) w) := by
  have CA := Lib.hid (fun j => c_l05Matrix zA aA cA w j rA)
  have CB := Lib.hid (fun j => c_l05Matrix zB aB cB w j rB)
  obtain ⟨res, hres0⟩ : ∃ q, q = joinM zA zB := ⟨_, rfl⟩
  rw [← hres0]
  have HR := Lib.hid hres0
  clear hres0
  cases hA : matB zA
  all_goals rw [hA] at CA
  · have HX := Lib.hid (HR.out.trans (joinM_no (.inl hA)))
    clear rA rB hA
    rw [← w.drewN_zero]
    go_enter Try.func12, Try.ntmps12
    go_wp2_with (go_at_call 18; (refine (CA.out _).mono ?_); rintro _ _ ⟨_, rfl, rfl⟩)
    go_ret2
    rw [HX.out]
    exact RetL.no rfl (below_drewN (Below.refl _ _) _)
  cases hB : matB zB
  all_goals rw [hB] at CB
  · have HX := Lib.hid (HR.out.trans (joinM_no (.inr hB)))
    clear rA rB hA hB
    rw [← w.drewN_zero]
    go_enter Try.func12, Try.ntmps12
    go_wp2_with (go_at_call 18; first | ((with_reducible refine (CA.out _).mono ?_); rintro _ _ ⟨_, rfl, rfl⟩) | ((with_reducible refine (CB.out _).mono ?_); rintro _ _ ⟨_, rfl, rfl⟩))
    go_ret2
    rw [HX.out]
    exact RetL.no rfl (below_drewN (Below.refl _ _) _)
  have HX := Lib.hid (show res = listR (joinML zA zB) by rw [HR.out]; unfold joinM; rw [hA, hB]; rfl)
  have h9A : zA.length = 9 := by unfold matB at hA; simp only [Bool.and_eq_true, decide_eq_true_eq] at hA; exact hA.1
  have h9B : zB.length = 9 := by unfold matB at hB; simp only [Bool.and_eq_true, decide_eq_true_eq] at hB; exact hB.1
  have RA := Lib.hid rA
  have RB := Lib.hid rB
  obtain ⟨i0, hinf, hz0, hz1, hz2⟩ := info_parts infoF2
  obtain ⟨bA, oA, n0, rfl, hbA, e0⟩ := rA.at (k := 0) (by omega)
  obtain ⟨bB, oB, n1, rfl, hbB, e1⟩ := rB.at (k := 0) (by omega)
  have KA := Lib.hid (fun (k : Nat) (hk : k < 9) => (by
    obtain ⟨b, o, n, hab, _, e⟩ := RA.out.at (k := k) (by omega)
    cases hab
    exact ⟨n, e⟩ : ∃ n, w.cell? ⟨bA, oA + k, none⟩ = some (.float .f32 (pick .f32 (fat zA k) n))))
  have KB := Lib.hid (fun (k : Nat) (hk : k < 9) => (by
    obtain ⟨b, o, n, hab, _, e⟩ := RB.out.at (k := k) (by omega)
    cases hab
    exact ⟨n, e⟩ : ∃ n, w.cell? ⟨bB, oB + k, none⟩ = some (.float .f32 (pick .f32 (fat zB k) n))))
  have hcA : 9 ≤ cA := by have := rA.2.1; omega
  have hcB : 9 ≤ cB := by have := rB.2.1; omega
  rw [h9A, h9B] at *
  clear rA rB RA RB e0 e1 hA hB HR h9A h9B n0 n1
  rw [← w.drewN_zero]
  go_enter Try.func12, Try.ntmps12
  go_wp2_with (go_at_call 18; first | ((with_reducible refine (CA.out _).mono ?_); rintro _ _ ⟨j1, rfl, rfl⟩) | ((with_reducible refine (CB.out _).mono ?_); rintro _ _ ⟨j2, rfl, rfl⟩))
  go_loopw [6, 7, 8, 9, 10] (fun v i _ _ _ wr => ∃ I : Nat, I ≤ 3 ∧ i = .int .i64 I ∧ JL zA zB w.heap.size w (3 * I) v wr) (fun _ i _ _ _ _ => 3 - (intOf i).toNat)
  case atStart => exact ⟨0, by omega, rfl, _, _, [], rfl, own_new9 (zs := []) (by simp) (by simp) (by simp) (by simp), by simpa using near_nil, (below_drewN (Below.refl _ _) _).alloc (by simp) _⟩
  case round =>
    obtain ⟨I, hI, rfl, r1, c1, zs1, rfl, hO1, hN1, hB1⟩ := hrel
    have HO1 := Lib.hid hO1
    have HN1 := Lib.hid hN1
    have HB1 := Lib.hid hB1
    clear hO1 hN1 hB1
    by_cases hi : I < 3
    · have hi' : (I : Int) < 3 := by omega
      go_wp2_with fail
      go_loopw [6, 8, 9, 10] (fun v k _ _ wx => ∃ K : Nat, K ≤ 3 ∧ k = .int .i64 K ∧ JL zA zB w.heap.size w (3 * I + K) v wx) (fun _ k _ _ _ => 3 - (intOf k).toNat)
      case atStart => exact ⟨0, by omega, rfl, r1, c1, zs1, rfl, HO1.out, HN1.out, HB1.out⟩
      case round =>
        obtain ⟨K, hK, rfl, r2, c2, zs2, rfl, hO2, hN2, hB2⟩ := hrel
        obtain ⟨wm, rfl⟩ : ∃ x : World, x = wr := ⟨_, rfl⟩
        have HO2 := Lib.hid hO2
        have HN2 := Lib.hid hN2
        have HB2 := Lib.hid hB2
        clear hO2 hN2 hB2 HO1 HN1 HB1
        by_cases hk : K < 3
        · have hk' : (K : Int) < 3 := by omega
          go_wp2_with fail
          go_loopw [9, 10] (fun s j wi => ∃ J n : Nat, J ≤ 3 ∧ j = .int .i64 J ∧ s = .float .f32 (pick .f32 (sumJ zA zB I K J) n) ∧ Below wm.heap.size wm wi) (fun _ j _ => 3 - (intOf j).toNat)
          case atStart => exact ⟨0, 0, by omega, rfl, by rw [show sumJ zA zB I K 0 = 0 from rfl, pick00], Below.refl _ _⟩
          case round =>
            obtain ⟨J, n5, hJ, rfl, rfl, hb⟩ := hrel
            have HB := Lib.hid hb
            clear hb
            by_cases hj : J < 3
            · have HS := Lib.hid (show sumJ zA zB I K (J + 1) = fop .add .f32 (sumJ zA zB I K J) (fop .mul .f32 (fat zA (3 * I + J)) (fat zB (3 * J + K))) from rfl)
              have hP1 : 3 * I + J < 9 := by omega
              have hP2 : 3 * J + K < 9 := by omega
              obtain ⟨nA, eA⟩ := KA.out _ hP1
              obtain ⟨nB, eB⟩ := KB.out _ hP2
              have W1 : IntKind.i64.wrap (3 * (I : Int)) = ((3 * I : Nat) : Int) := by rw [IntWalk.i64_in _ (by omega)]; omega
              have W3 : IntKind.i64.wrap (3 * (J : Int)) = ((3 * J : Nat) : Int) := by rw [IntWalk.i64_in _ (by omega)]; omega
              have W2 : IntKind.i64.wrap (((3 * I : Nat) : Int) + (J : Int)) = ((3 * I + J : Nat) : Int) := by rw [IntWalk.i64_in _ (by omega)]; omega
              have W4 : IntKind.i64.wrap (((3 * J : Nat) : Int) + (K : Int)) = ((3 * J + K : Nat) : Int) := by rw [IntWalk.i64_in _ (by omega)]; omega
              generalize sumJ zA zB I K J = S at *
              generalize 3 * I + J = P1 at *
              generalize 3 * J + K = P2 at *
              generalize 3 * J = Q2 at *
              generalize hQ1 : 3 * I = Q1 at W1 W2
              have KS := Lib.hid (fun (w' : World) (hE : Below wr.heap.size wr w') => (by
                have q := HB2.out.trans ((HB.out.trans (hE.mono HB.out.size)).mono HB2.out.size)
                exact ⟨(q.cell (p := ⟨bA, oA + P1, none⟩) hbA).trans eA, (q.cell (p := ⟨bB, oB + P2, none⟩) hbB).trans eB⟩ : w'.cell? ⟨bA, oA + P1, none⟩ = some (.float .f32 (pick .f32 (fat zA P1) nA)) ∧ w'.cell? ⟨bB, oB + P2, none⟩ = some (.float .f32 (pick .f32 (fat zB P2) nB))))
              have g2 : (P1 : Int) < 9 := by omega
              have g3 : (P2 : Int) < 9 := by omega
              clear eA eB
              go_wp2_with fail
              refine wp_region_facts 17 (fun a b => Below a.heap.size a b) (fun _ => Below.refl _ _) (fun _ _ _ h h' => h.trans (h'.mono h.size)) (Below.refl _ _).drew (by kernel_rfl) (by kernel_rfl) (by kernel_rfl) (by kernel_rfl) ?_
              simp only [List.take_succ_cons, List.take_zero, List.drop_succ_cons, List.drop_zero]
              (with_reducible apply wpF_val); (focus (intro vs w' hE hk; (obtain ⟨ca, cb⟩ := KS.out w' hE); go_simp; exact ⟨Below.refl _ _, rfl⟩)); (simp only [Act.put, List.setIfInBounds_toArray, List.set_cons_zero, List.set_cons_succ, List.cons_append, List.nil_append])
              (with_reducible apply wpF_val); (focus (intro vs w' hE hk; (obtain ⟨ca, cb⟩ := KS.out w' hE); go_simp; exact ⟨Below.refl _ _, rfl⟩)); (simp only [Act.put, List.setIfInBounds_toArray, List.set_cons_zero, List.set_cons_succ, List.cons_append, List.nil_append])
              (with_reducible apply wpF_val); (focus (intro vs w' hE hk; (obtain ⟨ca, cb⟩ := KS.out w' hE); go_simp; exact ⟨Below.refl _ _, rfl⟩)); (simp only [Act.put, List.setIfInBounds_toArray, List.set_cons_zero, List.set_cons_succ, List.cons_append, List.nil_append])
              (with_reducible apply wpF_val); (focus (intro vs w' hE hk; (obtain ⟨ca, cb⟩ := KS.out w' hE); go_simp; exact ⟨Below.refl _ _, rfl⟩)); (simp only [Act.put, List.setIfInBounds_toArray, List.set_cons_zero, List.set_cons_succ, List.cons_append, List.nil_append])
              (with_reducible apply wpF_val); (focus (intro vs w' hE hk; (obtain ⟨ca, cb⟩ := KS.out w' hE); go_simp; exact ⟨Below.refl _ _, rfl⟩)); (simp only [Act.put, List.setIfInBounds_toArray, List.set_cons_zero, List.set_cons_succ, List.cons_append, List.nil_append])
              (with_reducible apply wpF_val); (focus (intro vs w' hE hk; (obtain ⟨ca, cb⟩ := KS.out w' hE); go_simp; exact ⟨Below.refl _ _, rfl⟩)); (simp only [Act.put, List.setIfInBounds_toArray, List.set_cons_zero, List.set_cons_succ, List.cons_append, List.nil_append])
              (with_reducible apply wpF_val); (focus (intro vs w' hE hk; (obtain ⟨ca, cb⟩ := KS.out w' hE); go_simp; exact ⟨Below.refl _ _, rfl⟩)); (simp only [Act.put, List.setIfInBounds_toArray, List.set_cons_zero, List.set_cons_succ, List.cons_append, List.nil_append])
              (with_reducible apply wpF_val); (focus (intro vs w' hE hk; (obtain ⟨ca, cb⟩ := KS.out w' hE); go_simp; exact ⟨Below.refl _ _, rfl⟩)); (simp only [Act.put, List.setIfInBounds_toArray, List.set_cons_zero, List.set_cons_succ, List.cons_append, List.nil_append])
              (with_reducible apply wpF_val); (focus (intro vs w' hE hk; (obtain ⟨ca, cb⟩ := KS.out w' hE); go_simp; exact ⟨Below.refl _ _, rfl⟩)); (simp only [Act.put, List.setIfInBounds_toArray, List.set_cons_zero, List.set_cons_succ, List.cons_append, List.nil_append])
              (with_reducible apply wpF_val); (focus (intro vs w' hE hk; (obtain ⟨ca, cb⟩ := KS.out w' hE); go_simp; exact ⟨Below.refl _ _, rfl⟩)); (simp only [Act.put, List.setIfInBounds_toArray, List.set_cons_zero, List.set_cons_succ, List.cons_append, List.nil_append])
              (with_reducible apply wpF_val); (focus (intro vs w' hE hk; (obtain ⟨ca, cb⟩ := KS.out w' hE); go_simp; exact ⟨Below.refl _ _, rfl⟩)); (simp only [Act.put, List.setIfInBounds_toArray, List.set_cons_zero, List.set_cons_succ, List.cons_append, List.nil_append])
              (with_reducible apply wpF_val); (focus (intro vs w' hE hk; (obtain ⟨ca, cb⟩ := KS.out w' hE); go_simp; exact ⟨Below.refl _ _, rfl⟩)); (simp only [Act.put, List.setIfInBounds_toArray, List.set_cons_zero, List.set_cons_succ, List.cons_append, List.nil_append])
              (with_reducible apply wpF_val); (focus (intro vs w' hE hk; (obtain ⟨ca, cb⟩ := KS.out w' hE); go_simp; exact ⟨Below.refl _ _, rfl⟩)); (simp only [Act.put, List.setIfInBounds_toArray, List.set_cons_zero, List.set_cons_succ, List.cons_append, List.nil_append])
              (with_reducible apply wpF_val); (focus (intro vs w' hE hk; (obtain ⟨ca, cb⟩ := KS.out w' hE); go_simp; exact ⟨Below.refl _ _, rfl⟩)); (simp only [Act.put, List.setIfInBounds_toArray, List.set_cons_zero, List.set_cons_succ, List.cons_append, List.nil_append])
              (with_reducible apply wpF_val); (focus (intro vs w' hE hk; (obtain ⟨ca, cb⟩ := KS.out w' hE); go_simp; exact ⟨Below.refl _ _, rfl⟩)); (simp only [Act.put, List.setIfInBounds_toArray, List.set_cons_zero, List.set_cons_succ, List.cons_append, List.nil_append])
              refine wpF_fact (fun u _ => ∃ m, u = .float .f32 (pick .f32 (fop .mul .f32 (fat zA P1) (fat zB P2)) m)) (fun _ _ _ h _ => h) (fun vs w' hE hk => ?_) ?_; (focus (rw [if_pos (by rfl)]; refine uponW_fop _ _ _ _ _ rfl .f32 _ _ rfl rfl (by decide) (fun n' m' => ⟨below_drewN (Below.refl _ _) _, n', by simp only [fop_pick_l, fop_pick_r]⟩))); (simp only [Act.put, List.setIfInBounds_toArray, List.set_cons_zero, List.set_cons_succ, List.cons_append, List.nil_append])
              refine wpF_fact (fun u _ => ∃ m, u = .float .f32 (pick .f32 (fop .add .f32 S (fop .mul .f32 (fat zA P1) (fat zB P2))) m)) (fun _ _ _ h _ => h) (fun vs w' hE hk => ?_) ?_; (focus (obtain ⟨n1, hn1⟩ := hk 15 (by kernel_rfl); simp only [hn1]; rw [if_pos (by rfl)]; refine uponW_fop _ _ _ _ _ rfl .f32 _ _ rfl rfl (by decide) (fun n' m' => ⟨below_drewN (Below.refl _ _) _, n', by simp only [fop_pick_l, fop_pick_r]⟩))); (simp only [Act.put, List.setIfInBounds_toArray, List.set_cons_zero, List.set_cons_succ, List.cons_append, List.nil_append])
              refine wpF_nil (fun vs w' hE hk => ?_)
              obtain ⟨m5, h5⟩ := hk 16
              simp only [h5]
              have BX := Lib.hid (HB.out.trans (hE.mono HB.out.size))
              clear hE hk h5
              go_wp2_with fail
              go_roundw
              case rel => exact ⟨J + 1, m5, by omega, by go_num, by rw [HS.out], BX.out⟩
              case measure => simp [intOf]; omega
            · obtain rfl : J = 3 := by omega
              have HO3 := Lib.hid (HO2.out.below HB.out)
              have HBi := Lib.hid (HB2.out.trans (HB.out.mono HB2.out.size))
              have zi : w.heap.size ≤ wr.heap.size := HBi.out.size
              have hl9 : 3 * I + K < 9 := by omega
              clear HB HO2 HB2
              go_wp2_with (at_builtin; refine wpList_append_own _ rfl _ _ 22 rfl w.heap.size 23 i0 (.float .f32 0) 1 4 Try.underlying22 hinf hz0 hz1 hz2 rfl (by decide) _ _ _ rfl ((HO3.out.alloc _).2.1) ⟨wr.heap.size, 0, none⟩ 1 1 [.float .f32 (pick .f32 (sumJ zA zB I K 3) n5)] rfl rfl (jcell1_new wr _ _ _ rfl) (by intro u hu; simp at hu; subst hu; rfl) (by unfold maxLen; omega) (by omega) (by simp; omega) ?_)
              intro v' w6 hown' hgrow _
              obtain ⟨a', c', rfl, hO6⟩ := own_app hown' HO3.out.1 HO3.out.2.2 (pick_wf (sumJ_lt zA zB I K) n5)
              have O6 := Lib.hid hO6
              have B6 := Lib.hid ((HBi.out.alloc zi _).grown hgrow (by simp; omega) (fun g e => by rw [own_blk] at e; exact (HO3.out.in g e).1))
              have N6 := Lib.hid (by have h := near_snoc HN2.out (by rw [joinML_len]; exact hl9) n5; rwa [joinML_at _ _ _ _ hi hk] at h : near (zs2 ++ [pick .f32 (sumJ zA zB I K 3) n5]) ((joinML zA zB).take (3 * I + K + 1)))
              clear hown' hgrow hO6
              go_wp2_with fail
              go_roundw
              case rel => exact ⟨K + 1, by omega, by go_num, a', c', _, rfl, O6.out, N6.out, B6.out⟩
              case measure => simp [intOf]; omega
        · obtain rfl : K = 3 := by omega
          go_wp2_with fail
          go_roundw
          case rel => exact ⟨I + 1, by omega, by go_num, r2, c2, zs2, rfl, HO2.out, HN2.out, HB2.out⟩
          case measure => simp [intOf]; omega
    · obtain rfl : I = 3 := by omega
      have hnear : near zs1 (joinML zA zB) := by
        have h := HN1.out
        rwa [List.take_of_length_le (by rw [joinML_len]; decide)] at h
      have CF := Lib.hid (fun j => c_l02Finite r1 9 c1 zs1 wr j HO1.out.row)
      have hfe : finL zs1 = finL (joinML zA zB) := near_fin hnear
      rw [hfe] at CF
      rw [← wr.drewN_zero]
      cases hq : finL (joinML zA zB)
      all_goals rw [hq] at CF
      · have HY := Lib.hid (show res = ([], false) by rw [HX.out]; unfold listR; rw [hq]; rfl)
        clear hnear hfe hq
        go_wp2_with (go_at_call 21; refine (CF.out _).mono ?_; rintro _ _ ⟨_, rfl, rfl⟩)
        go_ret2
        rw [HY.out]
        exact RetL.no rfl (below_drewN HB1.out _)
      · have HY := Lib.hid (show res = (joinML zA zB, true) by rw [HX.out]; unfold listR; rw [hq]; rfl)
        obtain rfl : zs1 = joinML zA zB := near_eq hnear hq
        clear hnear hfe hq
        go_wp2_with (go_at_call 21; refine (CF.out _).mono ?_; rintro _ _ ⟨_, rfl, rfl⟩)
        go_ret2
        rw [HY.out]
        exact ⟨_, _, rfl, by rw [joinML_len]; decide, below_drewN HB1.out _, HO1.out.drewN _⟩
/-! ### sLess -/
theorem c_sLess (a n b m c k d l : Nat) (w : World) (j : Nat) : Calls Try.prog 22 #[.float .f32 (pick .f32 a n), .float .f32 (pick .f32 b m), .float .f32 (pick .f32 c k), .float .f32 (pick .f32 d l)] (w.drewN j) (RetF .f32 (lessV a b c d) w) := by
  unfold lessV
  go_enter Try.func22, Try.ntmps22
  go_wp2_with (first | (refine wpList_fop rfl _ _ _ _ _ rfl _ _ _ rfl rfl (by decide) _ ?_; intro _ _) | (refine upon_fop _ _ _ _ _ (by decide) ?_; intro _ _))
  go_ret
  exact ⟨_, _, rfl, rfl⟩
theorem c_sLess0 (a n b m c k d l : Nat) (w : World) : Calls Try.prog 22 #[.float .f32 (pick .f32 a n), .float .f32 (pick .f32 b m), .float .f32 (pick .f32 c k), .float .f32 (pick .f32 d l)] w (RetF .f32 (lessV a b c d) w) := by
  have h := c_sLess a n b m c k d l w 0
  rwa [w.drewN_zero] at h
/-! ### sBackM -/
theorem c_sBackMatrix (zs : List Nat) (a : Option Addr) (c : Nat) (w : World) (hr : IsRowF .f32 w a zs.length c zs) : Calls Try.prog 13 #[.slice a zs.length c] w (RetL 23 (backM zs) w) := by
  have CM := Lib.hid (fun j => c_l05Matrix zs a c w j hr)
  obtain ⟨res, hres0⟩ : ∃ q, q = backM zs := ⟨_, rfl⟩
  rw [← hres0]
  have HR := Lib.hid hres0
  clear hres0
  cases hm : matB zs
  all_goals rw [hm] at CM
  · have HX := Lib.hid (HR.out.trans (backM_no (.inl hm)))
    clear hr hm
    rw [← w.drewN_zero]
    go_enter Try.func13, Try.ntmps13
    go_wp2_with (go_at_call 18; refine (CM.out _).mono ?_; rintro _ _ ⟨_, rfl, rfl⟩)
    go_ret2
    rw [HX.out]
    exact RetL.no rfl (below_drewN (Below.refl _ _) _)
  have h9 : zs.length = 9 := by unfold matB at hm; simp only [Bool.and_eq_true, decide_eq_true_eq] at hm; exact hm.1
  obtain ⟨bb, off, n0, rfl, hb, e0⟩ := hr.at (k := 0) (by omega)
  obtain ⟨b1, o1, n1, hab1, hb1, e1⟩ := hr.at (k := 1) (by omega)
  cases hab1
  obtain ⟨b2, o2, n2, hab2, hb2, e2⟩ := hr.at (k := 2) (by omega)
  cases hab2
  obtain ⟨b3, o3, n3, hab3, hb3, e3⟩ := hr.at (k := 3) (by omega)
  cases hab3
  obtain ⟨b4, o4, n4, hab4, hb4, e4⟩ := hr.at (k := 4) (by omega)
  cases hab4
  obtain ⟨b5, o5, n5, hab5, hb5, e5⟩ := hr.at (k := 5) (by omega)
  cases hab5
  obtain ⟨b6, o6, n6, hab6, hb6, e6⟩ := hr.at (k := 6) (by omega)
  cases hab6
  obtain ⟨b7, o7, n7, hab7, hb7, e7⟩ := hr.at (k := 7) (by omega)
  cases hab7
  obtain ⟨b8, o8, n8, hab8, hb8, e8⟩ := hr.at (k := 8) (by omega)
  cases hab8
  simp only [Nat.add_zero] at e0
  have hcap : 9 ≤ c := by have := hr.2.1; omega
  rw [h9] at CM ⊢
  have KS := Lib.hid (fun (w' : World) (hE : Below w.heap.size w w') => (⟨(hE.cell (p := ⟨bb, off, none⟩) hb).trans e0, (hE.cell (p := ⟨bb, off + 1, none⟩) hb).trans e1, (hE.cell (p := ⟨bb, off + 2, none⟩) hb).trans e2, (hE.cell (p := ⟨bb, off + 3, none⟩) hb).trans e3, (hE.cell (p := ⟨bb, off + 4, none⟩) hb).trans e4, (hE.cell (p := ⟨bb, off + 5, none⟩) hb).trans e5, (hE.cell (p := ⟨bb, off + 6, none⟩) hb).trans e6, (hE.cell (p := ⟨bb, off + 7, none⟩) hb).trans e7, (hE.cell (p := ⟨bb, off + 8, none⟩) hb).trans e8⟩ : w'.cell? ⟨bb, off, none⟩ = some (.float .f32 (pick .f32 (fat zs 0) n0)) ∧ w'.cell? ⟨bb, off + 1, none⟩ = some (.float .f32 (pick .f32 (fat zs 1) n1)) ∧ w'.cell? ⟨bb, off + 2, none⟩ = some (.float .f32 (pick .f32 (fat zs 2) n2)) ∧ w'.cell? ⟨bb, off + 3, none⟩ = some (.float .f32 (pick .f32 (fat zs 3) n3)) ∧ w'.cell? ⟨bb, off + 4, none⟩ = some (.float .f32 (pick .f32 (fat zs 4) n4)) ∧ w'.cell? ⟨bb, off + 5, none⟩ = some (.float .f32 (pick .f32 (fat zs 5) n5)) ∧ w'.cell? ⟨bb, off + 6, none⟩ = some (.float .f32 (pick .f32 (fat zs 6) n6)) ∧ w'.cell? ⟨bb, off + 7, none⟩ = some (.float .f32 (pick .f32 (fat zs 7) n7)) ∧ w'.cell? ⟨bb, off + 8, none⟩ = some (.float .f32 (pick .f32 (fat zs 8) n8))))
  obtain ⟨P, hP⟩ : ∃ P, P = lessV (fat zs 4) (fat zs 8) (fat zs 5) (fat zs 7) := ⟨_, rfl⟩
  obtain ⟨Q, hQ⟩ : ∃ Q, Q = lessV (fat zs 5) (fat zs 6) (fat zs 3) (fat zs 8) := ⟨_, rfl⟩
  obtain ⟨R, hR⟩ : ∃ R, R = lessV (fat zs 3) (fat zs 7) (fat zs 4) (fat zs 6) := ⟨_, rfl⟩
  have HP := Lib.hid hP
  have HQ := Lib.hid hQ
  have HRr := Lib.hid hR
  have HS := Lib.hid (show backDet zs = (fop .add .f32 (fop .add .f32 (fop .mul .f32 (fat zs 0) P) (fop .mul .f32 (fat zs 1) Q)) (fop .mul .f32 (fat zs 2) R)) by unfold backDet backS; rw [hP, hQ, hR])
  have HM := Lib.hid hm
  clear hP hQ hR hr hb h9 hm e0 e1 e2 e3 e4 e5 e6 e7 e8 hb1 hb2 hb3 hb4 hb5 hb6 hb7 hb8
  rw [← w.drewN_zero]
  go_enter Try.func13, Try.ntmps13
  go_wp2_with (go_at_call 18; refine (CM.out _).mono ?_; rintro _ _ ⟨j0, rfl, rfl⟩)
  have CX0 := Lib.hid (fun n1 n2 n3 n4 w => (HP.out ▸ c_sLess0 (fat zs 4) n1 (fat zs 8) n2 (fat zs 5) n3 (fat zs 7) n4 w : Calls Try.prog 22 #[.float .f32 (pick .f32 (fat zs 4) n1), .float .f32 (pick .f32 (fat zs 8) n2), .float .f32 (pick .f32 (fat zs 5) n3), .float .f32 (pick .f32 (fat zs 7) n4)] w (RetF .f32 (P) w)))
  have BQ := Lib.hid (below_drewN (Below.refl w.heap.size w) j0)
  generalize w.drewN j0 = u0 at BQ ⊢
  refine wp_region_facts 13 (fun a b => Below a.heap.size a b) (fun _ => Below.refl _ _) (fun _ _ _ h h' => h.trans (h'.mono h.size)) (Below.refl _ _).drew (by kernel_rfl) (by kernel_rfl) (by kernel_rfl) (by kernel_rfl) ?_
  simp only [List.take_succ_cons, List.take_zero, List.drop_succ_cons, List.drop_zero]
  (with_reducible apply wpF_val); (focus (intro vs w' hE hk; (obtain ⟨s0, s1, s2, s3, s4, s5, s6, s7, s8⟩ := KS.out w' (BQ.out.trans (hE.mono BQ.out.size))); go_simp; exact ⟨Below.refl _ _, rfl⟩)); (simp only [Act.put, List.setIfInBounds_toArray, List.set_cons_zero, List.set_cons_succ, List.cons_append, List.nil_append])
  (with_reducible apply wpF_val); (focus (intro vs w' hE hk; (obtain ⟨s0, s1, s2, s3, s4, s5, s6, s7, s8⟩ := KS.out w' (BQ.out.trans (hE.mono BQ.out.size))); go_simp; exact ⟨Below.refl _ _, rfl⟩)); (simp only [Act.put, List.setIfInBounds_toArray, List.set_cons_zero, List.set_cons_succ, List.cons_append, List.nil_append])
  (with_reducible apply wpF_val); (focus (intro vs w' hE hk; (obtain ⟨s0, s1, s2, s3, s4, s5, s6, s7, s8⟩ := KS.out w' (BQ.out.trans (hE.mono BQ.out.size))); go_simp; exact ⟨Below.refl _ _, rfl⟩)); (simp only [Act.put, List.setIfInBounds_toArray, List.set_cons_zero, List.set_cons_succ, List.cons_append, List.nil_append])
  (with_reducible apply wpF_val); (focus (intro vs w' hE hk; (obtain ⟨s0, s1, s2, s3, s4, s5, s6, s7, s8⟩ := KS.out w' (BQ.out.trans (hE.mono BQ.out.size))); go_simp; exact ⟨Below.refl _ _, rfl⟩)); (simp only [Act.put, List.setIfInBounds_toArray, List.set_cons_zero, List.set_cons_succ, List.cons_append, List.nil_append])
  (with_reducible apply wpF_val); (focus (intro vs w' hE hk; (obtain ⟨s0, s1, s2, s3, s4, s5, s6, s7, s8⟩ := KS.out w' (BQ.out.trans (hE.mono BQ.out.size))); go_simp; exact ⟨Below.refl _ _, rfl⟩)); (simp only [Act.put, List.setIfInBounds_toArray, List.set_cons_zero, List.set_cons_succ, List.cons_append, List.nil_append])
  (with_reducible apply wpF_val); (focus (intro vs w' hE hk; (obtain ⟨s0, s1, s2, s3, s4, s5, s6, s7, s8⟩ := KS.out w' (BQ.out.trans (hE.mono BQ.out.size))); go_simp; exact ⟨Below.refl _ _, rfl⟩)); (simp only [Act.put, List.setIfInBounds_toArray, List.set_cons_zero, List.set_cons_succ, List.cons_append, List.nil_append])
  (with_reducible apply wpF_val); (focus (intro vs w' hE hk; (obtain ⟨s0, s1, s2, s3, s4, s5, s6, s7, s8⟩ := KS.out w' (BQ.out.trans (hE.mono BQ.out.size))); go_simp; exact ⟨Below.refl _ _, rfl⟩)); (simp only [Act.put, List.setIfInBounds_toArray, List.set_cons_zero, List.set_cons_succ, List.cons_append, List.nil_append])
  (with_reducible apply wpF_val); (focus (intro vs w' hE hk; (obtain ⟨s0, s1, s2, s3, s4, s5, s6, s7, s8⟩ := KS.out w' (BQ.out.trans (hE.mono BQ.out.size))); go_simp; exact ⟨Below.refl _ _, rfl⟩)); (simp only [Act.put, List.setIfInBounds_toArray, List.set_cons_zero, List.set_cons_succ, List.cons_append, List.nil_append])
  (with_reducible apply wpF_val); (focus (intro vs w' hE hk; (obtain ⟨s0, s1, s2, s3, s4, s5, s6, s7, s8⟩ := KS.out w' (BQ.out.trans (hE.mono BQ.out.size))); go_simp; exact ⟨Below.refl _ _, rfl⟩)); (simp only [Act.put, List.setIfInBounds_toArray, List.set_cons_zero, List.set_cons_succ, List.cons_append, List.nil_append])
  (with_reducible apply wpF_val); (focus (intro vs w' hE hk; (obtain ⟨s0, s1, s2, s3, s4, s5, s6, s7, s8⟩ := KS.out w' (BQ.out.trans (hE.mono BQ.out.size))); go_simp; exact ⟨Below.refl _ _, rfl⟩)); (simp only [Act.put, List.setIfInBounds_toArray, List.set_cons_zero, List.set_cons_succ, List.cons_append, List.nil_append])
  (with_reducible apply wpF_val); (focus (intro vs w' hE hk; (obtain ⟨s0, s1, s2, s3, s4, s5, s6, s7, s8⟩ := KS.out w' (BQ.out.trans (hE.mono BQ.out.size))); go_simp; exact ⟨Below.refl _ _, rfl⟩)); (simp only [Act.put, List.setIfInBounds_toArray, List.set_cons_zero, List.set_cons_succ, List.cons_append, List.nil_append])
  (with_reducible apply wpF_val); (focus (intro vs w' hE hk; (obtain ⟨s0, s1, s2, s3, s4, s5, s6, s7, s8⟩ := KS.out w' (BQ.out.trans (hE.mono BQ.out.size))); go_simp; exact ⟨Below.refl _ _, rfl⟩)); (simp only [Act.put, List.setIfInBounds_toArray, List.set_cons_zero, List.set_cons_succ, List.cons_append, List.nil_append])
  refine wpF_fact (fun u _ => ∃ m, u = .float .f32 (pick .f32 (P) m)) (fun _ _ _ h _ => h) (fun vs w' hE hk => ?_) ?_; (focus ((obtain ⟨s0, s1, s2, s3, s4, s5, s6, s7, s8⟩ := KS.out w' (BQ.out.trans (hE.mono BQ.out.size))); go_simp; refine (CX0.out _ _ _ _ _).mono ?_; rintro _ _ ⟨m1, m2, rfl, rfl⟩; exact ⟨_, rfl, below_drewN (Below.refl _ _) _, m1, rfl⟩)); (simp only [Act.put, List.setIfInBounds_toArray, List.set_cons_zero, List.set_cons_succ, List.cons_append, List.nil_append])
  refine wpF_nil (fun vs u1 hE hk => ?_)
  obtain ⟨kP, h5⟩ := hk 12
  simp only [h5]
  have BQ' := Lib.hid (BQ.out.trans (hE.mono BQ.out.size))
  clear hE hk h5 BQ CX0
  have BQ := Lib.hid BQ'.out
  clear BQ'
  go_wp2_with fail
  have CX1 := Lib.hid (fun n1 n2 n3 n4 w => (HQ.out ▸ c_sLess0 (fat zs 5) n1 (fat zs 6) n2 (fat zs 3) n3 (fat zs 8) n4 w : Calls Try.prog 22 #[.float .f32 (pick .f32 (fat zs 5) n1), .float .f32 (pick .f32 (fat zs 6) n2), .float .f32 (pick .f32 (fat zs 3) n3), .float .f32 (pick .f32 (fat zs 8) n4)] w (RetF .f32 (Q) w)))
  refine wp_region_facts 13 (fun a b => Below a.heap.size a b) (fun _ => Below.refl _ _) (fun _ _ _ h h' => h.trans (h'.mono h.size)) (Below.refl _ _).drew (by kernel_rfl) (by kernel_rfl) (by kernel_rfl) (by kernel_rfl) ?_
  simp only [List.take_succ_cons, List.take_zero, List.drop_succ_cons, List.drop_zero]
  (with_reducible apply wpF_val); (focus (intro vs w' hE hk; (obtain ⟨s0, s1, s2, s3, s4, s5, s6, s7, s8⟩ := KS.out w' (BQ.out.trans (hE.mono BQ.out.size))); go_simp; exact ⟨Below.refl _ _, rfl⟩)); (simp only [Act.put, List.setIfInBounds_toArray, List.set_cons_zero, List.set_cons_succ, List.cons_append, List.nil_append])
  (with_reducible apply wpF_val); (focus (intro vs w' hE hk; (obtain ⟨s0, s1, s2, s3, s4, s5, s6, s7, s8⟩ := KS.out w' (BQ.out.trans (hE.mono BQ.out.size))); go_simp; exact ⟨Below.refl _ _, rfl⟩)); (simp only [Act.put, List.setIfInBounds_toArray, List.set_cons_zero, List.set_cons_succ, List.cons_append, List.nil_append])
  (with_reducible apply wpF_val); (focus (intro vs w' hE hk; (obtain ⟨s0, s1, s2, s3, s4, s5, s6, s7, s8⟩ := KS.out w' (BQ.out.trans (hE.mono BQ.out.size))); go_simp; exact ⟨Below.refl _ _, rfl⟩)); (simp only [Act.put, List.setIfInBounds_toArray, List.set_cons_zero, List.set_cons_succ, List.cons_append, List.nil_append])
  (with_reducible apply wpF_val); (focus (intro vs w' hE hk; (obtain ⟨s0, s1, s2, s3, s4, s5, s6, s7, s8⟩ := KS.out w' (BQ.out.trans (hE.mono BQ.out.size))); go_simp; exact ⟨Below.refl _ _, rfl⟩)); (simp only [Act.put, List.setIfInBounds_toArray, List.set_cons_zero, List.set_cons_succ, List.cons_append, List.nil_append])
  (with_reducible apply wpF_val); (focus (intro vs w' hE hk; (obtain ⟨s0, s1, s2, s3, s4, s5, s6, s7, s8⟩ := KS.out w' (BQ.out.trans (hE.mono BQ.out.size))); go_simp; exact ⟨Below.refl _ _, rfl⟩)); (simp only [Act.put, List.setIfInBounds_toArray, List.set_cons_zero, List.set_cons_succ, List.cons_append, List.nil_append])
  (with_reducible apply wpF_val); (focus (intro vs w' hE hk; (obtain ⟨s0, s1, s2, s3, s4, s5, s6, s7, s8⟩ := KS.out w' (BQ.out.trans (hE.mono BQ.out.size))); go_simp; exact ⟨Below.refl _ _, rfl⟩)); (simp only [Act.put, List.setIfInBounds_toArray, List.set_cons_zero, List.set_cons_succ, List.cons_append, List.nil_append])
  (with_reducible apply wpF_val); (focus (intro vs w' hE hk; (obtain ⟨s0, s1, s2, s3, s4, s5, s6, s7, s8⟩ := KS.out w' (BQ.out.trans (hE.mono BQ.out.size))); go_simp; exact ⟨Below.refl _ _, rfl⟩)); (simp only [Act.put, List.setIfInBounds_toArray, List.set_cons_zero, List.set_cons_succ, List.cons_append, List.nil_append])
  (with_reducible apply wpF_val); (focus (intro vs w' hE hk; (obtain ⟨s0, s1, s2, s3, s4, s5, s6, s7, s8⟩ := KS.out w' (BQ.out.trans (hE.mono BQ.out.size))); go_simp; exact ⟨Below.refl _ _, rfl⟩)); (simp only [Act.put, List.setIfInBounds_toArray, List.set_cons_zero, List.set_cons_succ, List.cons_append, List.nil_append])
  (with_reducible apply wpF_val); (focus (intro vs w' hE hk; (obtain ⟨s0, s1, s2, s3, s4, s5, s6, s7, s8⟩ := KS.out w' (BQ.out.trans (hE.mono BQ.out.size))); go_simp; exact ⟨Below.refl _ _, rfl⟩)); (simp only [Act.put, List.setIfInBounds_toArray, List.set_cons_zero, List.set_cons_succ, List.cons_append, List.nil_append])
  (with_reducible apply wpF_val); (focus (intro vs w' hE hk; (obtain ⟨s0, s1, s2, s3, s4, s5, s6, s7, s8⟩ := KS.out w' (BQ.out.trans (hE.mono BQ.out.size))); go_simp; exact ⟨Below.refl _ _, rfl⟩)); (simp only [Act.put, List.setIfInBounds_toArray, List.set_cons_zero, List.set_cons_succ, List.cons_append, List.nil_append])
  (with_reducible apply wpF_val); (focus (intro vs w' hE hk; (obtain ⟨s0, s1, s2, s3, s4, s5, s6, s7, s8⟩ := KS.out w' (BQ.out.trans (hE.mono BQ.out.size))); go_simp; exact ⟨Below.refl _ _, rfl⟩)); (simp only [Act.put, List.setIfInBounds_toArray, List.set_cons_zero, List.set_cons_succ, List.cons_append, List.nil_append])
  (with_reducible apply wpF_val); (focus (intro vs w' hE hk; (obtain ⟨s0, s1, s2, s3, s4, s5, s6, s7, s8⟩ := KS.out w' (BQ.out.trans (hE.mono BQ.out.size))); go_simp; exact ⟨Below.refl _ _, rfl⟩)); (simp only [Act.put, List.setIfInBounds_toArray, List.set_cons_zero, List.set_cons_succ, List.cons_append, List.nil_append])
  refine wpF_fact (fun u _ => ∃ m, u = .float .f32 (pick .f32 (Q) m)) (fun _ _ _ h _ => h) (fun vs w' hE hk => ?_) ?_; (focus ((obtain ⟨s0, s1, s2, s3, s4, s5, s6, s7, s8⟩ := KS.out w' (BQ.out.trans (hE.mono BQ.out.size))); go_simp; refine (CX1.out _ _ _ _ _).mono ?_; rintro _ _ ⟨m1, m2, rfl, rfl⟩; exact ⟨_, rfl, below_drewN (Below.refl _ _) _, m1, rfl⟩)); (simp only [Act.put, List.setIfInBounds_toArray, List.set_cons_zero, List.set_cons_succ, List.cons_append, List.nil_append])
  refine wpF_nil (fun vs u2 hE hk => ?_)
  obtain ⟨kQ, h5⟩ := hk 12
  simp only [h5]
  have BQ' := Lib.hid (BQ.out.trans (hE.mono BQ.out.size))
  clear hE hk h5 BQ CX1
  have BQ := Lib.hid BQ'.out
  clear BQ'
  go_wp2_with fail
  have CX2 := Lib.hid (fun n1 n2 n3 n4 w => (HRr.out ▸ c_sLess0 (fat zs 3) n1 (fat zs 7) n2 (fat zs 4) n3 (fat zs 6) n4 w : Calls Try.prog 22 #[.float .f32 (pick .f32 (fat zs 3) n1), .float .f32 (pick .f32 (fat zs 7) n2), .float .f32 (pick .f32 (fat zs 4) n3), .float .f32 (pick .f32 (fat zs 6) n4)] w (RetF .f32 (R) w)))
  refine wp_region_facts 13 (fun a b => Below a.heap.size a b) (fun _ => Below.refl _ _) (fun _ _ _ h h' => h.trans (h'.mono h.size)) (Below.refl _ _).drew (by kernel_rfl) (by kernel_rfl) (by kernel_rfl) (by kernel_rfl) ?_
  simp only [List.take_succ_cons, List.take_zero, List.drop_succ_cons, List.drop_zero]
  (with_reducible apply wpF_val); (focus (intro vs w' hE hk; (obtain ⟨s0, s1, s2, s3, s4, s5, s6, s7, s8⟩ := KS.out w' (BQ.out.trans (hE.mono BQ.out.size))); go_simp; exact ⟨Below.refl _ _, rfl⟩)); (simp only [Act.put, List.setIfInBounds_toArray, List.set_cons_zero, List.set_cons_succ, List.cons_append, List.nil_append])
  (with_reducible apply wpF_val); (focus (intro vs w' hE hk; (obtain ⟨s0, s1, s2, s3, s4, s5, s6, s7, s8⟩ := KS.out w' (BQ.out.trans (hE.mono BQ.out.size))); go_simp; exact ⟨Below.refl _ _, rfl⟩)); (simp only [Act.put, List.setIfInBounds_toArray, List.set_cons_zero, List.set_cons_succ, List.cons_append, List.nil_append])
  (with_reducible apply wpF_val); (focus (intro vs w' hE hk; (obtain ⟨s0, s1, s2, s3, s4, s5, s6, s7, s8⟩ := KS.out w' (BQ.out.trans (hE.mono BQ.out.size))); go_simp; exact ⟨Below.refl _ _, rfl⟩)); (simp only [Act.put, List.setIfInBounds_toArray, List.set_cons_zero, List.set_cons_succ, List.cons_append, List.nil_append])
  (with_reducible apply wpF_val); (focus (intro vs w' hE hk; (obtain ⟨s0, s1, s2, s3, s4, s5, s6, s7, s8⟩ := KS.out w' (BQ.out.trans (hE.mono BQ.out.size))); go_simp; exact ⟨Below.refl _ _, rfl⟩)); (simp only [Act.put, List.setIfInBounds_toArray, List.set_cons_zero, List.set_cons_succ, List.cons_append, List.nil_append])
  (with_reducible apply wpF_val); (focus (intro vs w' hE hk; (obtain ⟨s0, s1, s2, s3, s4, s5, s6, s7, s8⟩ := KS.out w' (BQ.out.trans (hE.mono BQ.out.size))); go_simp; exact ⟨Below.refl _ _, rfl⟩)); (simp only [Act.put, List.setIfInBounds_toArray, List.set_cons_zero, List.set_cons_succ, List.cons_append, List.nil_append])
  (with_reducible apply wpF_val); (focus (intro vs w' hE hk; (obtain ⟨s0, s1, s2, s3, s4, s5, s6, s7, s8⟩ := KS.out w' (BQ.out.trans (hE.mono BQ.out.size))); go_simp; exact ⟨Below.refl _ _, rfl⟩)); (simp only [Act.put, List.setIfInBounds_toArray, List.set_cons_zero, List.set_cons_succ, List.cons_append, List.nil_append])
  (with_reducible apply wpF_val); (focus (intro vs w' hE hk; (obtain ⟨s0, s1, s2, s3, s4, s5, s6, s7, s8⟩ := KS.out w' (BQ.out.trans (hE.mono BQ.out.size))); go_simp; exact ⟨Below.refl _ _, rfl⟩)); (simp only [Act.put, List.setIfInBounds_toArray, List.set_cons_zero, List.set_cons_succ, List.cons_append, List.nil_append])
  (with_reducible apply wpF_val); (focus (intro vs w' hE hk; (obtain ⟨s0, s1, s2, s3, s4, s5, s6, s7, s8⟩ := KS.out w' (BQ.out.trans (hE.mono BQ.out.size))); go_simp; exact ⟨Below.refl _ _, rfl⟩)); (simp only [Act.put, List.setIfInBounds_toArray, List.set_cons_zero, List.set_cons_succ, List.cons_append, List.nil_append])
  (with_reducible apply wpF_val); (focus (intro vs w' hE hk; (obtain ⟨s0, s1, s2, s3, s4, s5, s6, s7, s8⟩ := KS.out w' (BQ.out.trans (hE.mono BQ.out.size))); go_simp; exact ⟨Below.refl _ _, rfl⟩)); (simp only [Act.put, List.setIfInBounds_toArray, List.set_cons_zero, List.set_cons_succ, List.cons_append, List.nil_append])
  (with_reducible apply wpF_val); (focus (intro vs w' hE hk; (obtain ⟨s0, s1, s2, s3, s4, s5, s6, s7, s8⟩ := KS.out w' (BQ.out.trans (hE.mono BQ.out.size))); go_simp; exact ⟨Below.refl _ _, rfl⟩)); (simp only [Act.put, List.setIfInBounds_toArray, List.set_cons_zero, List.set_cons_succ, List.cons_append, List.nil_append])
  (with_reducible apply wpF_val); (focus (intro vs w' hE hk; (obtain ⟨s0, s1, s2, s3, s4, s5, s6, s7, s8⟩ := KS.out w' (BQ.out.trans (hE.mono BQ.out.size))); go_simp; exact ⟨Below.refl _ _, rfl⟩)); (simp only [Act.put, List.setIfInBounds_toArray, List.set_cons_zero, List.set_cons_succ, List.cons_append, List.nil_append])
  (with_reducible apply wpF_val); (focus (intro vs w' hE hk; (obtain ⟨s0, s1, s2, s3, s4, s5, s6, s7, s8⟩ := KS.out w' (BQ.out.trans (hE.mono BQ.out.size))); go_simp; exact ⟨Below.refl _ _, rfl⟩)); (simp only [Act.put, List.setIfInBounds_toArray, List.set_cons_zero, List.set_cons_succ, List.cons_append, List.nil_append])
  refine wpF_fact (fun u _ => ∃ m, u = .float .f32 (pick .f32 (R) m)) (fun _ _ _ h _ => h) (fun vs w' hE hk => ?_) ?_; (focus ((obtain ⟨s0, s1, s2, s3, s4, s5, s6, s7, s8⟩ := KS.out w' (BQ.out.trans (hE.mono BQ.out.size))); go_simp; refine (CX2.out _ _ _ _ _).mono ?_; rintro _ _ ⟨m1, m2, rfl, rfl⟩; exact ⟨_, rfl, below_drewN (Below.refl _ _) _, m1, rfl⟩)); (simp only [Act.put, List.setIfInBounds_toArray, List.set_cons_zero, List.set_cons_succ, List.cons_append, List.nil_append])
  refine wpF_nil (fun vs u3 hE hk => ?_)
  obtain ⟨kR, h5⟩ := hk 12
  simp only [h5]
  have BQ' := Lib.hid (BQ.out.trans (hE.mono BQ.out.size))
  clear hE hk h5 BQ CX2
  have BQ := Lib.hid BQ'.out
  clear BQ'
  go_wp2_with fail
  refine wp_region_facts 17 (fun a b => Below a.heap.size a b) (fun _ => Below.refl _ _) (fun _ _ _ h h' => h.trans (h'.mono h.size)) (Below.refl _ _).drew (by kernel_rfl) (by kernel_rfl) (by kernel_rfl) (by kernel_rfl) ?_
  simp only [List.take_succ_cons, List.take_zero, List.drop_succ_cons, List.drop_zero]
  (with_reducible apply wpF_val); (focus (intro vs w' hE hk; (obtain ⟨s0, s1, s2, s3, s4, s5, s6, s7, s8⟩ := KS.out w' (BQ.out.trans (hE.mono BQ.out.size))); go_simp; exact ⟨Below.refl _ _, rfl⟩)); (simp only [Act.put, List.setIfInBounds_toArray, List.set_cons_zero, List.set_cons_succ, List.cons_append, List.nil_append])
  (with_reducible apply wpF_val); (focus (intro vs w' hE hk; (obtain ⟨s0, s1, s2, s3, s4, s5, s6, s7, s8⟩ := KS.out w' (BQ.out.trans (hE.mono BQ.out.size))); go_simp; exact ⟨Below.refl _ _, rfl⟩)); (simp only [Act.put, List.setIfInBounds_toArray, List.set_cons_zero, List.set_cons_succ, List.cons_append, List.nil_append])
  (with_reducible apply wpF_val); (focus (intro vs w' hE hk; (obtain ⟨s0, s1, s2, s3, s4, s5, s6, s7, s8⟩ := KS.out w' (BQ.out.trans (hE.mono BQ.out.size))); go_simp; exact ⟨Below.refl _ _, rfl⟩)); (simp only [Act.put, List.setIfInBounds_toArray, List.set_cons_zero, List.set_cons_succ, List.cons_append, List.nil_append])
  (with_reducible apply wpF_val); (focus (intro vs w' hE hk; (obtain ⟨s0, s1, s2, s3, s4, s5, s6, s7, s8⟩ := KS.out w' (BQ.out.trans (hE.mono BQ.out.size))); go_simp; exact ⟨Below.refl _ _, rfl⟩)); (simp only [Act.put, List.setIfInBounds_toArray, List.set_cons_zero, List.set_cons_succ, List.cons_append, List.nil_append])
  refine wpF_fact (fun u _ => ∃ m, u = .float .f32 (pick .f32 (fop .mul .f32 (fat zs 0) P) m)) (fun _ _ _ h _ => h) (fun vs w' hE hk => ?_) ?_; (focus (rw [if_pos (by rfl)]; refine uponW_fop _ _ _ _ _ rfl .f32 _ _ rfl rfl (by decide) (fun n' m' => ⟨below_drewN (Below.refl _ _) _, n', by simp only [fop_pick_l, fop_pick_r]⟩))); (simp only [Act.put, List.setIfInBounds_toArray, List.set_cons_zero, List.set_cons_succ, List.cons_append, List.nil_append])
  (with_reducible apply wpF_val); (focus (intro vs w' hE hk; (obtain ⟨s0, s1, s2, s3, s4, s5, s6, s7, s8⟩ := KS.out w' (BQ.out.trans (hE.mono BQ.out.size))); go_simp; exact ⟨Below.refl _ _, rfl⟩)); (simp only [Act.put, List.setIfInBounds_toArray, List.set_cons_zero, List.set_cons_succ, List.cons_append, List.nil_append])
  (with_reducible apply wpF_val); (focus (intro vs w' hE hk; (obtain ⟨s0, s1, s2, s3, s4, s5, s6, s7, s8⟩ := KS.out w' (BQ.out.trans (hE.mono BQ.out.size))); go_simp; exact ⟨Below.refl _ _, rfl⟩)); (simp only [Act.put, List.setIfInBounds_toArray, List.set_cons_zero, List.set_cons_succ, List.cons_append, List.nil_append])
  (with_reducible apply wpF_val); (focus (intro vs w' hE hk; (obtain ⟨s0, s1, s2, s3, s4, s5, s6, s7, s8⟩ := KS.out w' (BQ.out.trans (hE.mono BQ.out.size))); go_simp; exact ⟨Below.refl _ _, rfl⟩)); (simp only [Act.put, List.setIfInBounds_toArray, List.set_cons_zero, List.set_cons_succ, List.cons_append, List.nil_append])
  (with_reducible apply wpF_val); (focus (intro vs w' hE hk; (obtain ⟨s0, s1, s2, s3, s4, s5, s6, s7, s8⟩ := KS.out w' (BQ.out.trans (hE.mono BQ.out.size))); go_simp; exact ⟨Below.refl _ _, rfl⟩)); (simp only [Act.put, List.setIfInBounds_toArray, List.set_cons_zero, List.set_cons_succ, List.cons_append, List.nil_append])
  refine wpF_fact (fun u _ => ∃ m, u = .float .f32 (pick .f32 (fop .mul .f32 (fat zs 1) Q) m)) (fun _ _ _ h _ => h) (fun vs w' hE hk => ?_) ?_; (focus (rw [if_pos (by rfl)]; refine uponW_fop _ _ _ _ _ rfl .f32 _ _ rfl rfl (by decide) (fun n' m' => ⟨below_drewN (Below.refl _ _) _, n', by simp only [fop_pick_l, fop_pick_r]⟩))); (simp only [Act.put, List.setIfInBounds_toArray, List.set_cons_zero, List.set_cons_succ, List.cons_append, List.nil_append])
  refine wpF_fact (fun u _ => ∃ m, u = .float .f32 (pick .f32 (fop .add .f32 (fop .mul .f32 (fat zs 0) P) (fop .mul .f32 (fat zs 1) Q)) m)) (fun _ _ _ h _ => h) (fun vs w' hE hk => ?_) ?_; (focus (obtain ⟨n1, hn1⟩ := hk 4 (by kernel_rfl); simp only [hn1]; obtain ⟨n2, hn2⟩ := hk 9 (by kernel_rfl); simp only [hn2]; rw [if_pos (by rfl)]; refine uponW_fop _ _ _ _ _ rfl .f32 _ _ rfl rfl (by decide) (fun n' m' => ⟨below_drewN (Below.refl _ _) _, n', by simp only [fop_pick_l, fop_pick_r]⟩))); (simp only [Act.put, List.setIfInBounds_toArray, List.set_cons_zero, List.set_cons_succ, List.cons_append, List.nil_append])
  (with_reducible apply wpF_val); (focus (intro vs w' hE hk; (obtain ⟨s0, s1, s2, s3, s4, s5, s6, s7, s8⟩ := KS.out w' (BQ.out.trans (hE.mono BQ.out.size))); go_simp; exact ⟨Below.refl _ _, rfl⟩)); (simp only [Act.put, List.setIfInBounds_toArray, List.set_cons_zero, List.set_cons_succ, List.cons_append, List.nil_append])
  (with_reducible apply wpF_val); (focus (intro vs w' hE hk; (obtain ⟨s0, s1, s2, s3, s4, s5, s6, s7, s8⟩ := KS.out w' (BQ.out.trans (hE.mono BQ.out.size))); go_simp; exact ⟨Below.refl _ _, rfl⟩)); (simp only [Act.put, List.setIfInBounds_toArray, List.set_cons_zero, List.set_cons_succ, List.cons_append, List.nil_append])
  (with_reducible apply wpF_val); (focus (intro vs w' hE hk; (obtain ⟨s0, s1, s2, s3, s4, s5, s6, s7, s8⟩ := KS.out w' (BQ.out.trans (hE.mono BQ.out.size))); go_simp; exact ⟨Below.refl _ _, rfl⟩)); (simp only [Act.put, List.setIfInBounds_toArray, List.set_cons_zero, List.set_cons_succ, List.cons_append, List.nil_append])
  (with_reducible apply wpF_val); (focus (intro vs w' hE hk; (obtain ⟨s0, s1, s2, s3, s4, s5, s6, s7, s8⟩ := KS.out w' (BQ.out.trans (hE.mono BQ.out.size))); go_simp; exact ⟨Below.refl _ _, rfl⟩)); (simp only [Act.put, List.setIfInBounds_toArray, List.set_cons_zero, List.set_cons_succ, List.cons_append, List.nil_append])
  refine wpF_fact (fun u _ => ∃ m, u = .float .f32 (pick .f32 (fop .mul .f32 (fat zs 2) R) m)) (fun _ _ _ h _ => h) (fun vs w' hE hk => ?_) ?_; (focus (rw [if_pos (by rfl)]; refine uponW_fop _ _ _ _ _ rfl .f32 _ _ rfl rfl (by decide) (fun n' m' => ⟨below_drewN (Below.refl _ _) _, n', by simp only [fop_pick_l, fop_pick_r]⟩))); (simp only [Act.put, List.setIfInBounds_toArray, List.set_cons_zero, List.set_cons_succ, List.cons_append, List.nil_append])
  refine wpF_fact (fun u _ => ∃ m, u = .float .f32 (pick .f32 (fop .add .f32 (fop .add .f32 (fop .mul .f32 (fat zs 0) P) (fop .mul .f32 (fat zs 1) Q)) (fop .mul .f32 (fat zs 2) R)) m)) (fun _ _ _ h _ => h) (fun vs w' hE hk => ?_) ?_; (focus (obtain ⟨n1, hn1⟩ := hk 10 (by kernel_rfl); simp only [hn1]; obtain ⟨n2, hn2⟩ := hk 15 (by kernel_rfl); simp only [hn2]; rw [if_pos (by rfl)]; refine uponW_fop _ _ _ _ _ rfl .f32 _ _ rfl rfl (by decide) (fun n' m' => ⟨below_drewN (Below.refl _ _) _, n', by simp only [fop_pick_l, fop_pick_r]⟩))); (simp only [Act.put, List.setIfInBounds_toArray, List.set_cons_zero, List.set_cons_succ, List.cons_append, List.nil_append])
  refine wpF_nil (fun vs u4 hE hk => ?_)
  obtain ⟨kS, h5⟩ := hk 16
  simp only [h5]
  have BQ' := Lib.hid (BQ.out.trans (hE.mono BQ.out.size))
  clear hE hk h5 BQ
  have BQ := Lib.hid BQ'.out
  clear BQ'
  cases hd : (FloatKind.f32.format.order (fop .add .f32 (fop .add .f32 (fop .mul .f32 (fat zs 0) P) (fop .mul .f32 (fat zs 1) Q)) (fop .mul .f32 (fat zs 2) R)) 0 == some .eq)
  case true =>
    have HX := Lib.hid (HR.out.trans (backM_no (.inr (by rw [HS.out]; exact hd))))
    go_wp2_with fail
    go_ret2
    rw [HX.out]
    exact RetL.no rfl BQ.out
  have HX := Lib.hid (show res = listR (backL zs) by rw [HR.out]; unfold backM; rw [HM.out, HS.out, hd]; rfl)
  have HL := Lib.hid (show backL zs = [fop .quo .f32 (P) (fop .add .f32 (fop .add .f32 (fop .mul .f32 (fat zs 0) P) (fop .mul .f32 (fat zs 1) Q)) (fop .mul .f32 (fat zs 2) R)), fop .quo .f32 (lessV (fat zs 2) (fat zs 7) (fat zs 1) (fat zs 8)) (fop .add .f32 (fop .add .f32 (fop .mul .f32 (fat zs 0) P) (fop .mul .f32 (fat zs 1) Q)) (fop .mul .f32 (fat zs 2) R)), fop .quo .f32 (lessV (fat zs 1) (fat zs 5) (fat zs 2) (fat zs 4)) (fop .add .f32 (fop .add .f32 (fop .mul .f32 (fat zs 0) P) (fop .mul .f32 (fat zs 1) Q)) (fop .mul .f32 (fat zs 2) R)), fop .quo .f32 (Q) (fop .add .f32 (fop .add .f32 (fop .mul .f32 (fat zs 0) P) (fop .mul .f32 (fat zs 1) Q)) (fop .mul .f32 (fat zs 2) R)), fop .quo .f32 (lessV (fat zs 0) (fat zs 8) (fat zs 2) (fat zs 6)) (fop .add .f32 (fop .add .f32 (fop .mul .f32 (fat zs 0) P) (fop .mul .f32 (fat zs 1) Q)) (fop .mul .f32 (fat zs 2) R)), fop .quo .f32 (lessV (fat zs 2) (fat zs 3) (fat zs 0) (fat zs 5)) (fop .add .f32 (fop .add .f32 (fop .mul .f32 (fat zs 0) P) (fop .mul .f32 (fat zs 1) Q)) (fop .mul .f32 (fat zs 2) R)), fop .quo .f32 (R) (fop .add .f32 (fop .add .f32 (fop .mul .f32 (fat zs 0) P) (fop .mul .f32 (fat zs 1) Q)) (fop .mul .f32 (fat zs 2) R)), fop .quo .f32 (lessV (fat zs 1) (fat zs 6) (fat zs 0) (fat zs 7)) (fop .add .f32 (fop .add .f32 (fop .mul .f32 (fat zs 0) P) (fop .mul .f32 (fat zs 1) Q)) (fop .mul .f32 (fat zs 2) R)), fop .quo .f32 (lessV (fat zs 0) (fat zs 4) (fat zs 1) (fat zs 3)) (fop .add .f32 (fop .add .f32 (fop .mul .f32 (fat zs 0) P) (fop .mul .f32 (fat zs 1) Q)) (fop .mul .f32 (fat zs 2) R))] by unfold backL; rw [HS.out, HP.out, HQ.out, HRr.out])
  obtain ⟨S, hS⟩ : ∃ S, S = fop .add .f32 (fop .add .f32 (fop .mul .f32 (fat zs 0) P) (fop .mul .f32 (fat zs 1) Q)) (fop .mul .f32 (fat zs 2) R) := ⟨_, rfl⟩
  rw [← hS] at HL hd ⊢
  clear hS HS HM HR
  have CX1 := Lib.hid (fun n1 n2 n3 n4 w => ( c_sLess0 (fat zs 2) n1 (fat zs 7) n2 (fat zs 1) n3 (fat zs 8) n4 w : Calls Try.prog 22 #[.float .f32 (pick .f32 (fat zs 2) n1), .float .f32 (pick .f32 (fat zs 7) n2), .float .f32 (pick .f32 (fat zs 1) n3), .float .f32 (pick .f32 (fat zs 8) n4)] w (RetF .f32 (lessV (fat zs 2) (fat zs 7) (fat zs 1) (fat zs 8)) w)))
  have CX2 := Lib.hid (fun n1 n2 n3 n4 w => ( c_sLess0 (fat zs 1) n1 (fat zs 5) n2 (fat zs 2) n3 (fat zs 4) n4 w : Calls Try.prog 22 #[.float .f32 (pick .f32 (fat zs 1) n1), .float .f32 (pick .f32 (fat zs 5) n2), .float .f32 (pick .f32 (fat zs 2) n3), .float .f32 (pick .f32 (fat zs 4) n4)] w (RetF .f32 (lessV (fat zs 1) (fat zs 5) (fat zs 2) (fat zs 4)) w)))
  have CX4 := Lib.hid (fun n1 n2 n3 n4 w => ( c_sLess0 (fat zs 0) n1 (fat zs 8) n2 (fat zs 2) n3 (fat zs 6) n4 w : Calls Try.prog 22 #[.float .f32 (pick .f32 (fat zs 0) n1), .float .f32 (pick .f32 (fat zs 8) n2), .float .f32 (pick .f32 (fat zs 2) n3), .float .f32 (pick .f32 (fat zs 6) n4)] w (RetF .f32 (lessV (fat zs 0) (fat zs 8) (fat zs 2) (fat zs 6)) w)))
  have CX5 := Lib.hid (fun n1 n2 n3 n4 w => ( c_sLess0 (fat zs 2) n1 (fat zs 3) n2 (fat zs 0) n3 (fat zs 5) n4 w : Calls Try.prog 22 #[.float .f32 (pick .f32 (fat zs 2) n1), .float .f32 (pick .f32 (fat zs 3) n2), .float .f32 (pick .f32 (fat zs 0) n3), .float .f32 (pick .f32 (fat zs 5) n4)] w (RetF .f32 (lessV (fat zs 2) (fat zs 3) (fat zs 0) (fat zs 5)) w)))
  have CX7 := Lib.hid (fun n1 n2 n3 n4 w => ( c_sLess0 (fat zs 1) n1 (fat zs 6) n2 (fat zs 0) n3 (fat zs 7) n4 w : Calls Try.prog 22 #[.float .f32 (pick .f32 (fat zs 1) n1), .float .f32 (pick .f32 (fat zs 6) n2), .float .f32 (pick .f32 (fat zs 0) n3), .float .f32 (pick .f32 (fat zs 7) n4)] w (RetF .f32 (lessV (fat zs 1) (fat zs 6) (fat zs 0) (fat zs 7)) w)))
  have CX8 := Lib.hid (fun n1 n2 n3 n4 w => ( c_sLess0 (fat zs 0) n1 (fat zs 4) n2 (fat zs 1) n3 (fat zs 3) n4 w : Calls Try.prog 22 #[.float .f32 (pick .f32 (fat zs 0) n1), .float .f32 (pick .f32 (fat zs 4) n2), .float .f32 (pick .f32 (fat zs 1) n3), .float .f32 (pick .f32 (fat zs 3) n4)] w (RetF .f32 (lessV (fat zs 0) (fat zs 4) (fat zs 1) (fat zs 3)) w)))
  go_wp2_with fail
  refine wp_region_facts 81 (fun a b => Below a.heap.size a b) (fun _ => Below.refl _ _) (fun _ _ _ h h' => h.trans (h'.mono h.size)) (Below.refl _ _).drew (by kernel_rfl) (by kernel_rfl) (by kernel_rfl) (by kernel_rfl) ?_
  simp only [List.append_eq, List.cons_append, List.nil_append, List.take_succ_cons, List.take_zero, List.drop_succ_cons, List.drop_zero]
  (with_reducible apply wpF_val); (focus (intro vs w' hE hk; (obtain ⟨s0, s1, s2, s3, s4, s5, s6, s7, s8⟩ := KS.out w' (BQ.out.trans (hE.mono BQ.out.size))); go_simp; exact ⟨Below.refl _ _, rfl⟩)); (simp only [Act.put, List.setIfInBounds_toArray, List.set_cons_zero, List.set_cons_succ, List.cons_append, List.nil_append])
  (with_reducible apply wpF_val); (focus (intro vs w' hE hk; (obtain ⟨s0, s1, s2, s3, s4, s5, s6, s7, s8⟩ := KS.out w' (BQ.out.trans (hE.mono BQ.out.size))); go_simp; exact ⟨Below.refl _ _, rfl⟩)); (simp only [Act.put, List.setIfInBounds_toArray, List.set_cons_zero, List.set_cons_succ, List.cons_append, List.nil_append])
  (with_reducible apply wpF_val); (focus (intro vs w' hE hk; (obtain ⟨s0, s1, s2, s3, s4, s5, s6, s7, s8⟩ := KS.out w' (BQ.out.trans (hE.mono BQ.out.size))); go_simp; exact ⟨Below.refl _ _, rfl⟩)); (simp only [Act.put, List.setIfInBounds_toArray, List.set_cons_zero, List.set_cons_succ, List.cons_append, List.nil_append])
  (with_reducible apply wpF_val); (focus (intro vs w' hE hk; (obtain ⟨s0, s1, s2, s3, s4, s5, s6, s7, s8⟩ := KS.out w' (BQ.out.trans (hE.mono BQ.out.size))); go_simp; exact ⟨Below.refl _ _, rfl⟩)); (simp only [Act.put, List.setIfInBounds_toArray, List.set_cons_zero, List.set_cons_succ, List.cons_append, List.nil_append])
  (with_reducible apply wpF_val); (focus (intro vs w' hE hk; (obtain ⟨s0, s1, s2, s3, s4, s5, s6, s7, s8⟩ := KS.out w' (BQ.out.trans (hE.mono BQ.out.size))); go_simp; exact ⟨Below.refl _ _, rfl⟩)); (simp only [Act.put, List.setIfInBounds_toArray, List.set_cons_zero, List.set_cons_succ, List.cons_append, List.nil_append])
  (with_reducible apply wpF_val); (focus (intro vs w' hE hk; (obtain ⟨s0, s1, s2, s3, s4, s5, s6, s7, s8⟩ := KS.out w' (BQ.out.trans (hE.mono BQ.out.size))); go_simp; exact ⟨Below.refl _ _, rfl⟩)); (simp only [Act.put, List.setIfInBounds_toArray, List.set_cons_zero, List.set_cons_succ, List.cons_append, List.nil_append])
  (with_reducible apply wpF_val); (focus (intro vs w' hE hk; (obtain ⟨s0, s1, s2, s3, s4, s5, s6, s7, s8⟩ := KS.out w' (BQ.out.trans (hE.mono BQ.out.size))); go_simp; exact ⟨Below.refl _ _, rfl⟩)); (simp only [Act.put, List.setIfInBounds_toArray, List.set_cons_zero, List.set_cons_succ, List.cons_append, List.nil_append])
  (with_reducible apply wpF_val); (focus (intro vs w' hE hk; (obtain ⟨s0, s1, s2, s3, s4, s5, s6, s7, s8⟩ := KS.out w' (BQ.out.trans (hE.mono BQ.out.size))); go_simp; exact ⟨Below.refl _ _, rfl⟩)); (simp only [Act.put, List.setIfInBounds_toArray, List.set_cons_zero, List.set_cons_succ, List.cons_append, List.nil_append])
  (with_reducible apply wpF_val); (focus (intro vs w' hE hk; (obtain ⟨s0, s1, s2, s3, s4, s5, s6, s7, s8⟩ := KS.out w' (BQ.out.trans (hE.mono BQ.out.size))); go_simp; exact ⟨Below.refl _ _, rfl⟩)); (simp only [Act.put, List.setIfInBounds_toArray, List.set_cons_zero, List.set_cons_succ, List.cons_append, List.nil_append])
  (with_reducible apply wpF_val); (focus (intro vs w' hE hk; (obtain ⟨s0, s1, s2, s3, s4, s5, s6, s7, s8⟩ := KS.out w' (BQ.out.trans (hE.mono BQ.out.size))); go_simp; exact ⟨Below.refl _ _, rfl⟩)); (simp only [Act.put, List.setIfInBounds_toArray, List.set_cons_zero, List.set_cons_succ, List.cons_append, List.nil_append])
  (with_reducible apply wpF_val); (focus (intro vs w' hE hk; (obtain ⟨s0, s1, s2, s3, s4, s5, s6, s7, s8⟩ := KS.out w' (BQ.out.trans (hE.mono BQ.out.size))); go_simp; exact ⟨Below.refl _ _, rfl⟩)); (simp only [Act.put, List.setIfInBounds_toArray, List.set_cons_zero, List.set_cons_succ, List.cons_append, List.nil_append])
  (with_reducible apply wpF_val); (focus (intro vs w' hE hk; (obtain ⟨s0, s1, s2, s3, s4, s5, s6, s7, s8⟩ := KS.out w' (BQ.out.trans (hE.mono BQ.out.size))); go_simp; exact ⟨Below.refl _ _, rfl⟩)); (simp only [Act.put, List.setIfInBounds_toArray, List.set_cons_zero, List.set_cons_succ, List.cons_append, List.nil_append])
  (with_reducible apply wpF_val); (focus (intro vs w' hE hk; (obtain ⟨s0, s1, s2, s3, s4, s5, s6, s7, s8⟩ := KS.out w' (BQ.out.trans (hE.mono BQ.out.size))); go_simp; exact ⟨Below.refl _ _, rfl⟩)); (simp only [Act.put, List.setIfInBounds_toArray, List.set_cons_zero, List.set_cons_succ, List.cons_append, List.nil_append])
  refine wpF_fact (fun u _ => ∃ m, u = .float .f32 (pick .f32 (lessV (fat zs 2) (fat zs 7) (fat zs 1) (fat zs 8)) m)) (fun _ _ _ h _ => h) (fun vs w' hE hk => ?_) ?_; (focus ((obtain ⟨s0, s1, s2, s3, s4, s5, s6, s7, s8⟩ := KS.out w' (BQ.out.trans (hE.mono BQ.out.size))); go_simp; refine (CX1.out _ _ _ _ _).mono ?_; rintro _ _ ⟨m1, m2, rfl, rfl⟩; exact ⟨_, rfl, below_drewN (Below.refl _ _) _, m1, rfl⟩)); (simp only [Act.put, List.setIfInBounds_toArray, List.set_cons_zero, List.set_cons_succ, List.cons_append, List.nil_append])
  (with_reducible apply wpF_val); (focus (intro vs w' hE hk; (obtain ⟨s0, s1, s2, s3, s4, s5, s6, s7, s8⟩ := KS.out w' (BQ.out.trans (hE.mono BQ.out.size))); go_simp; exact ⟨Below.refl _ _, rfl⟩)); (simp only [Act.put, List.setIfInBounds_toArray, List.set_cons_zero, List.set_cons_succ, List.cons_append, List.nil_append])
  (with_reducible apply wpF_val); (focus (intro vs w' hE hk; (obtain ⟨s0, s1, s2, s3, s4, s5, s6, s7, s8⟩ := KS.out w' (BQ.out.trans (hE.mono BQ.out.size))); go_simp; exact ⟨Below.refl _ _, rfl⟩)); (simp only [Act.put, List.setIfInBounds_toArray, List.set_cons_zero, List.set_cons_succ, List.cons_append, List.nil_append])
  (with_reducible apply wpF_val); (focus (intro vs w' hE hk; (obtain ⟨s0, s1, s2, s3, s4, s5, s6, s7, s8⟩ := KS.out w' (BQ.out.trans (hE.mono BQ.out.size))); go_simp; exact ⟨Below.refl _ _, rfl⟩)); (simp only [Act.put, List.setIfInBounds_toArray, List.set_cons_zero, List.set_cons_succ, List.cons_append, List.nil_append])
  (with_reducible apply wpF_val); (focus (intro vs w' hE hk; (obtain ⟨s0, s1, s2, s3, s4, s5, s6, s7, s8⟩ := KS.out w' (BQ.out.trans (hE.mono BQ.out.size))); go_simp; exact ⟨Below.refl _ _, rfl⟩)); (simp only [Act.put, List.setIfInBounds_toArray, List.set_cons_zero, List.set_cons_succ, List.cons_append, List.nil_append])
  (with_reducible apply wpF_val); (focus (intro vs w' hE hk; (obtain ⟨s0, s1, s2, s3, s4, s5, s6, s7, s8⟩ := KS.out w' (BQ.out.trans (hE.mono BQ.out.size))); go_simp; exact ⟨Below.refl _ _, rfl⟩)); (simp only [Act.put, List.setIfInBounds_toArray, List.set_cons_zero, List.set_cons_succ, List.cons_append, List.nil_append])
  (with_reducible apply wpF_val); (focus (intro vs w' hE hk; (obtain ⟨s0, s1, s2, s3, s4, s5, s6, s7, s8⟩ := KS.out w' (BQ.out.trans (hE.mono BQ.out.size))); go_simp; exact ⟨Below.refl _ _, rfl⟩)); (simp only [Act.put, List.setIfInBounds_toArray, List.set_cons_zero, List.set_cons_succ, List.cons_append, List.nil_append])
  (with_reducible apply wpF_val); (focus (intro vs w' hE hk; (obtain ⟨s0, s1, s2, s3, s4, s5, s6, s7, s8⟩ := KS.out w' (BQ.out.trans (hE.mono BQ.out.size))); go_simp; exact ⟨Below.refl _ _, rfl⟩)); (simp only [Act.put, List.setIfInBounds_toArray, List.set_cons_zero, List.set_cons_succ, List.cons_append, List.nil_append])
  (with_reducible apply wpF_val); (focus (intro vs w' hE hk; (obtain ⟨s0, s1, s2, s3, s4, s5, s6, s7, s8⟩ := KS.out w' (BQ.out.trans (hE.mono BQ.out.size))); go_simp; exact ⟨Below.refl _ _, rfl⟩)); (simp only [Act.put, List.setIfInBounds_toArray, List.set_cons_zero, List.set_cons_succ, List.cons_append, List.nil_append])
  (with_reducible apply wpF_val); (focus (intro vs w' hE hk; (obtain ⟨s0, s1, s2, s3, s4, s5, s6, s7, s8⟩ := KS.out w' (BQ.out.trans (hE.mono BQ.out.size))); go_simp; exact ⟨Below.refl _ _, rfl⟩)); (simp only [Act.put, List.setIfInBounds_toArray, List.set_cons_zero, List.set_cons_succ, List.cons_append, List.nil_append])
  (with_reducible apply wpF_val); (focus (intro vs w' hE hk; (obtain ⟨s0, s1, s2, s3, s4, s5, s6, s7, s8⟩ := KS.out w' (BQ.out.trans (hE.mono BQ.out.size))); go_simp; exact ⟨Below.refl _ _, rfl⟩)); (simp only [Act.put, List.setIfInBounds_toArray, List.set_cons_zero, List.set_cons_succ, List.cons_append, List.nil_append])
  (with_reducible apply wpF_val); (focus (intro vs w' hE hk; (obtain ⟨s0, s1, s2, s3, s4, s5, s6, s7, s8⟩ := KS.out w' (BQ.out.trans (hE.mono BQ.out.size))); go_simp; exact ⟨Below.refl _ _, rfl⟩)); (simp only [Act.put, List.setIfInBounds_toArray, List.set_cons_zero, List.set_cons_succ, List.cons_append, List.nil_append])
  (with_reducible apply wpF_val); (focus (intro vs w' hE hk; (obtain ⟨s0, s1, s2, s3, s4, s5, s6, s7, s8⟩ := KS.out w' (BQ.out.trans (hE.mono BQ.out.size))); go_simp; exact ⟨Below.refl _ _, rfl⟩)); (simp only [Act.put, List.setIfInBounds_toArray, List.set_cons_zero, List.set_cons_succ, List.cons_append, List.nil_append])
  refine wpF_fact (fun u _ => ∃ m, u = .float .f32 (pick .f32 (lessV (fat zs 1) (fat zs 5) (fat zs 2) (fat zs 4)) m)) (fun _ _ _ h _ => h) (fun vs w' hE hk => ?_) ?_; (focus ((obtain ⟨s0, s1, s2, s3, s4, s5, s6, s7, s8⟩ := KS.out w' (BQ.out.trans (hE.mono BQ.out.size))); go_simp; refine (CX2.out _ _ _ _ _).mono ?_; rintro _ _ ⟨m1, m2, rfl, rfl⟩; exact ⟨_, rfl, below_drewN (Below.refl _ _) _, m1, rfl⟩)); (simp only [Act.put, List.setIfInBounds_toArray, List.set_cons_zero, List.set_cons_succ, List.cons_append, List.nil_append])
  (with_reducible apply wpF_val); (focus (intro vs w' hE hk; (obtain ⟨s0, s1, s2, s3, s4, s5, s6, s7, s8⟩ := KS.out w' (BQ.out.trans (hE.mono BQ.out.size))); go_simp; exact ⟨Below.refl _ _, rfl⟩)); (simp only [Act.put, List.setIfInBounds_toArray, List.set_cons_zero, List.set_cons_succ, List.cons_append, List.nil_append])
  (with_reducible apply wpF_val); (focus (intro vs w' hE hk; (obtain ⟨s0, s1, s2, s3, s4, s5, s6, s7, s8⟩ := KS.out w' (BQ.out.trans (hE.mono BQ.out.size))); go_simp; exact ⟨Below.refl _ _, rfl⟩)); (simp only [Act.put, List.setIfInBounds_toArray, List.set_cons_zero, List.set_cons_succ, List.cons_append, List.nil_append])
  (with_reducible apply wpF_val); (focus (intro vs w' hE hk; (obtain ⟨s0, s1, s2, s3, s4, s5, s6, s7, s8⟩ := KS.out w' (BQ.out.trans (hE.mono BQ.out.size))); go_simp; exact ⟨Below.refl _ _, rfl⟩)); (simp only [Act.put, List.setIfInBounds_toArray, List.set_cons_zero, List.set_cons_succ, List.cons_append, List.nil_append])
  (with_reducible apply wpF_val); (focus (intro vs w' hE hk; (obtain ⟨s0, s1, s2, s3, s4, s5, s6, s7, s8⟩ := KS.out w' (BQ.out.trans (hE.mono BQ.out.size))); go_simp; exact ⟨Below.refl _ _, rfl⟩)); (simp only [Act.put, List.setIfInBounds_toArray, List.set_cons_zero, List.set_cons_succ, List.cons_append, List.nil_append])
  (with_reducible apply wpF_val); (focus (intro vs w' hE hk; (obtain ⟨s0, s1, s2, s3, s4, s5, s6, s7, s8⟩ := KS.out w' (BQ.out.trans (hE.mono BQ.out.size))); go_simp; exact ⟨Below.refl _ _, rfl⟩)); (simp only [Act.put, List.setIfInBounds_toArray, List.set_cons_zero, List.set_cons_succ, List.cons_append, List.nil_append])
  (with_reducible apply wpF_val); (focus (intro vs w' hE hk; (obtain ⟨s0, s1, s2, s3, s4, s5, s6, s7, s8⟩ := KS.out w' (BQ.out.trans (hE.mono BQ.out.size))); go_simp; exact ⟨Below.refl _ _, rfl⟩)); (simp only [Act.put, List.setIfInBounds_toArray, List.set_cons_zero, List.set_cons_succ, List.cons_append, List.nil_append])
  (with_reducible apply wpF_val); (focus (intro vs w' hE hk; (obtain ⟨s0, s1, s2, s3, s4, s5, s6, s7, s8⟩ := KS.out w' (BQ.out.trans (hE.mono BQ.out.size))); go_simp; exact ⟨Below.refl _ _, rfl⟩)); (simp only [Act.put, List.setIfInBounds_toArray, List.set_cons_zero, List.set_cons_succ, List.cons_append, List.nil_append])
  (with_reducible apply wpF_val); (focus (intro vs w' hE hk; (obtain ⟨s0, s1, s2, s3, s4, s5, s6, s7, s8⟩ := KS.out w' (BQ.out.trans (hE.mono BQ.out.size))); go_simp; exact ⟨Below.refl _ _, rfl⟩)); (simp only [Act.put, List.setIfInBounds_toArray, List.set_cons_zero, List.set_cons_succ, List.cons_append, List.nil_append])
  (with_reducible apply wpF_val); (focus (intro vs w' hE hk; (obtain ⟨s0, s1, s2, s3, s4, s5, s6, s7, s8⟩ := KS.out w' (BQ.out.trans (hE.mono BQ.out.size))); go_simp; exact ⟨Below.refl _ _, rfl⟩)); (simp only [Act.put, List.setIfInBounds_toArray, List.set_cons_zero, List.set_cons_succ, List.cons_append, List.nil_append])
  (with_reducible apply wpF_val); (focus (intro vs w' hE hk; (obtain ⟨s0, s1, s2, s3, s4, s5, s6, s7, s8⟩ := KS.out w' (BQ.out.trans (hE.mono BQ.out.size))); go_simp; exact ⟨Below.refl _ _, rfl⟩)); (simp only [Act.put, List.setIfInBounds_toArray, List.set_cons_zero, List.set_cons_succ, List.cons_append, List.nil_append])
  (with_reducible apply wpF_val); (focus (intro vs w' hE hk; (obtain ⟨s0, s1, s2, s3, s4, s5, s6, s7, s8⟩ := KS.out w' (BQ.out.trans (hE.mono BQ.out.size))); go_simp; exact ⟨Below.refl _ _, rfl⟩)); (simp only [Act.put, List.setIfInBounds_toArray, List.set_cons_zero, List.set_cons_succ, List.cons_append, List.nil_append])
  (with_reducible apply wpF_val); (focus (intro vs w' hE hk; (obtain ⟨s0, s1, s2, s3, s4, s5, s6, s7, s8⟩ := KS.out w' (BQ.out.trans (hE.mono BQ.out.size))); go_simp; exact ⟨Below.refl _ _, rfl⟩)); (simp only [Act.put, List.setIfInBounds_toArray, List.set_cons_zero, List.set_cons_succ, List.cons_append, List.nil_append])
  (with_reducible apply wpF_val); (focus (intro vs w' hE hk; (obtain ⟨s0, s1, s2, s3, s4, s5, s6, s7, s8⟩ := KS.out w' (BQ.out.trans (hE.mono BQ.out.size))); go_simp; exact ⟨Below.refl _ _, rfl⟩)); (simp only [Act.put, List.setIfInBounds_toArray, List.set_cons_zero, List.set_cons_succ, List.cons_append, List.nil_append])
  refine wpF_fact (fun u _ => ∃ m, u = .float .f32 (pick .f32 (lessV (fat zs 0) (fat zs 8) (fat zs 2) (fat zs 6)) m)) (fun _ _ _ h _ => h) (fun vs w' hE hk => ?_) ?_; (focus ((obtain ⟨s0, s1, s2, s3, s4, s5, s6, s7, s8⟩ := KS.out w' (BQ.out.trans (hE.mono BQ.out.size))); go_simp; refine (CX4.out _ _ _ _ _).mono ?_; rintro _ _ ⟨m1, m2, rfl, rfl⟩; exact ⟨_, rfl, below_drewN (Below.refl _ _) _, m1, rfl⟩)); (simp only [Act.put, List.setIfInBounds_toArray, List.set_cons_zero, List.set_cons_succ, List.cons_append, List.nil_append])
  (with_reducible apply wpF_val); (focus (intro vs w' hE hk; (obtain ⟨s0, s1, s2, s3, s4, s5, s6, s7, s8⟩ := KS.out w' (BQ.out.trans (hE.mono BQ.out.size))); go_simp; exact ⟨Below.refl _ _, rfl⟩)); (simp only [Act.put, List.setIfInBounds_toArray, List.set_cons_zero, List.set_cons_succ, List.cons_append, List.nil_append])
  (with_reducible apply wpF_val); (focus (intro vs w' hE hk; (obtain ⟨s0, s1, s2, s3, s4, s5, s6, s7, s8⟩ := KS.out w' (BQ.out.trans (hE.mono BQ.out.size))); go_simp; exact ⟨Below.refl _ _, rfl⟩)); (simp only [Act.put, List.setIfInBounds_toArray, List.set_cons_zero, List.set_cons_succ, List.cons_append, List.nil_append])
  (with_reducible apply wpF_val); (focus (intro vs w' hE hk; (obtain ⟨s0, s1, s2, s3, s4, s5, s6, s7, s8⟩ := KS.out w' (BQ.out.trans (hE.mono BQ.out.size))); go_simp; exact ⟨Below.refl _ _, rfl⟩)); (simp only [Act.put, List.setIfInBounds_toArray, List.set_cons_zero, List.set_cons_succ, List.cons_append, List.nil_append])
  (with_reducible apply wpF_val); (focus (intro vs w' hE hk; (obtain ⟨s0, s1, s2, s3, s4, s5, s6, s7, s8⟩ := KS.out w' (BQ.out.trans (hE.mono BQ.out.size))); go_simp; exact ⟨Below.refl _ _, rfl⟩)); (simp only [Act.put, List.setIfInBounds_toArray, List.set_cons_zero, List.set_cons_succ, List.cons_append, List.nil_append])
  (with_reducible apply wpF_val); (focus (intro vs w' hE hk; (obtain ⟨s0, s1, s2, s3, s4, s5, s6, s7, s8⟩ := KS.out w' (BQ.out.trans (hE.mono BQ.out.size))); go_simp; exact ⟨Below.refl _ _, rfl⟩)); (simp only [Act.put, List.setIfInBounds_toArray, List.set_cons_zero, List.set_cons_succ, List.cons_append, List.nil_append])
  (with_reducible apply wpF_val); (focus (intro vs w' hE hk; (obtain ⟨s0, s1, s2, s3, s4, s5, s6, s7, s8⟩ := KS.out w' (BQ.out.trans (hE.mono BQ.out.size))); go_simp; exact ⟨Below.refl _ _, rfl⟩)); (simp only [Act.put, List.setIfInBounds_toArray, List.set_cons_zero, List.set_cons_succ, List.cons_append, List.nil_append])
  (with_reducible apply wpF_val); (focus (intro vs w' hE hk; (obtain ⟨s0, s1, s2, s3, s4, s5, s6, s7, s8⟩ := KS.out w' (BQ.out.trans (hE.mono BQ.out.size))); go_simp; exact ⟨Below.refl _ _, rfl⟩)); (simp only [Act.put, List.setIfInBounds_toArray, List.set_cons_zero, List.set_cons_succ, List.cons_append, List.nil_append])
  (with_reducible apply wpF_val); (focus (intro vs w' hE hk; (obtain ⟨s0, s1, s2, s3, s4, s5, s6, s7, s8⟩ := KS.out w' (BQ.out.trans (hE.mono BQ.out.size))); go_simp; exact ⟨Below.refl _ _, rfl⟩)); (simp only [Act.put, List.setIfInBounds_toArray, List.set_cons_zero, List.set_cons_succ, List.cons_append, List.nil_append])
  (with_reducible apply wpF_val); (focus (intro vs w' hE hk; (obtain ⟨s0, s1, s2, s3, s4, s5, s6, s7, s8⟩ := KS.out w' (BQ.out.trans (hE.mono BQ.out.size))); go_simp; exact ⟨Below.refl _ _, rfl⟩)); (simp only [Act.put, List.setIfInBounds_toArray, List.set_cons_zero, List.set_cons_succ, List.cons_append, List.nil_append])
  (with_reducible apply wpF_val); (focus (intro vs w' hE hk; (obtain ⟨s0, s1, s2, s3, s4, s5, s6, s7, s8⟩ := KS.out w' (BQ.out.trans (hE.mono BQ.out.size))); go_simp; exact ⟨Below.refl _ _, rfl⟩)); (simp only [Act.put, List.setIfInBounds_toArray, List.set_cons_zero, List.set_cons_succ, List.cons_append, List.nil_append])
  (with_reducible apply wpF_val); (focus (intro vs w' hE hk; (obtain ⟨s0, s1, s2, s3, s4, s5, s6, s7, s8⟩ := KS.out w' (BQ.out.trans (hE.mono BQ.out.size))); go_simp; exact ⟨Below.refl _ _, rfl⟩)); (simp only [Act.put, List.setIfInBounds_toArray, List.set_cons_zero, List.set_cons_succ, List.cons_append, List.nil_append])
  (with_reducible apply wpF_val); (focus (intro vs w' hE hk; (obtain ⟨s0, s1, s2, s3, s4, s5, s6, s7, s8⟩ := KS.out w' (BQ.out.trans (hE.mono BQ.out.size))); go_simp; exact ⟨Below.refl _ _, rfl⟩)); (simp only [Act.put, List.setIfInBounds_toArray, List.set_cons_zero, List.set_cons_succ, List.cons_append, List.nil_append])
  refine wpF_fact (fun u _ => ∃ m, u = .float .f32 (pick .f32 (lessV (fat zs 2) (fat zs 3) (fat zs 0) (fat zs 5)) m)) (fun _ _ _ h _ => h) (fun vs w' hE hk => ?_) ?_; (focus ((obtain ⟨s0, s1, s2, s3, s4, s5, s6, s7, s8⟩ := KS.out w' (BQ.out.trans (hE.mono BQ.out.size))); go_simp; refine (CX5.out _ _ _ _ _).mono ?_; rintro _ _ ⟨m1, m2, rfl, rfl⟩; exact ⟨_, rfl, below_drewN (Below.refl _ _) _, m1, rfl⟩)); (simp only [Act.put, List.setIfInBounds_toArray, List.set_cons_zero, List.set_cons_succ, List.cons_append, List.nil_append])
  (with_reducible apply wpF_val); (focus (intro vs w' hE hk; (obtain ⟨s0, s1, s2, s3, s4, s5, s6, s7, s8⟩ := KS.out w' (BQ.out.trans (hE.mono BQ.out.size))); go_simp; exact ⟨Below.refl _ _, rfl⟩)); (simp only [Act.put, List.setIfInBounds_toArray, List.set_cons_zero, List.set_cons_succ, List.cons_append, List.nil_append])
  (with_reducible apply wpF_val); (focus (intro vs w' hE hk; (obtain ⟨s0, s1, s2, s3, s4, s5, s6, s7, s8⟩ := KS.out w' (BQ.out.trans (hE.mono BQ.out.size))); go_simp; exact ⟨Below.refl _ _, rfl⟩)); (simp only [Act.put, List.setIfInBounds_toArray, List.set_cons_zero, List.set_cons_succ, List.cons_append, List.nil_append])
  (with_reducible apply wpF_val); (focus (intro vs w' hE hk; (obtain ⟨s0, s1, s2, s3, s4, s5, s6, s7, s8⟩ := KS.out w' (BQ.out.trans (hE.mono BQ.out.size))); go_simp; exact ⟨Below.refl _ _, rfl⟩)); (simp only [Act.put, List.setIfInBounds_toArray, List.set_cons_zero, List.set_cons_succ, List.cons_append, List.nil_append])
  (with_reducible apply wpF_val); (focus (intro vs w' hE hk; (obtain ⟨s0, s1, s2, s3, s4, s5, s6, s7, s8⟩ := KS.out w' (BQ.out.trans (hE.mono BQ.out.size))); go_simp; exact ⟨Below.refl _ _, rfl⟩)); (simp only [Act.put, List.setIfInBounds_toArray, List.set_cons_zero, List.set_cons_succ, List.cons_append, List.nil_append])
  (with_reducible apply wpF_val); (focus (intro vs w' hE hk; (obtain ⟨s0, s1, s2, s3, s4, s5, s6, s7, s8⟩ := KS.out w' (BQ.out.trans (hE.mono BQ.out.size))); go_simp; exact ⟨Below.refl _ _, rfl⟩)); (simp only [Act.put, List.setIfInBounds_toArray, List.set_cons_zero, List.set_cons_succ, List.cons_append, List.nil_append])
  (with_reducible apply wpF_val); (focus (intro vs w' hE hk; (obtain ⟨s0, s1, s2, s3, s4, s5, s6, s7, s8⟩ := KS.out w' (BQ.out.trans (hE.mono BQ.out.size))); go_simp; exact ⟨Below.refl _ _, rfl⟩)); (simp only [Act.put, List.setIfInBounds_toArray, List.set_cons_zero, List.set_cons_succ, List.cons_append, List.nil_append])
  (with_reducible apply wpF_val); (focus (intro vs w' hE hk; (obtain ⟨s0, s1, s2, s3, s4, s5, s6, s7, s8⟩ := KS.out w' (BQ.out.trans (hE.mono BQ.out.size))); go_simp; exact ⟨Below.refl _ _, rfl⟩)); (simp only [Act.put, List.setIfInBounds_toArray, List.set_cons_zero, List.set_cons_succ, List.cons_append, List.nil_append])
  (with_reducible apply wpF_val); (focus (intro vs w' hE hk; (obtain ⟨s0, s1, s2, s3, s4, s5, s6, s7, s8⟩ := KS.out w' (BQ.out.trans (hE.mono BQ.out.size))); go_simp; exact ⟨Below.refl _ _, rfl⟩)); (simp only [Act.put, List.setIfInBounds_toArray, List.set_cons_zero, List.set_cons_succ, List.cons_append, List.nil_append])
  (with_reducible apply wpF_val); (focus (intro vs w' hE hk; (obtain ⟨s0, s1, s2, s3, s4, s5, s6, s7, s8⟩ := KS.out w' (BQ.out.trans (hE.mono BQ.out.size))); go_simp; exact ⟨Below.refl _ _, rfl⟩)); (simp only [Act.put, List.setIfInBounds_toArray, List.set_cons_zero, List.set_cons_succ, List.cons_append, List.nil_append])
  (with_reducible apply wpF_val); (focus (intro vs w' hE hk; (obtain ⟨s0, s1, s2, s3, s4, s5, s6, s7, s8⟩ := KS.out w' (BQ.out.trans (hE.mono BQ.out.size))); go_simp; exact ⟨Below.refl _ _, rfl⟩)); (simp only [Act.put, List.setIfInBounds_toArray, List.set_cons_zero, List.set_cons_succ, List.cons_append, List.nil_append])
  (with_reducible apply wpF_val); (focus (intro vs w' hE hk; (obtain ⟨s0, s1, s2, s3, s4, s5, s6, s7, s8⟩ := KS.out w' (BQ.out.trans (hE.mono BQ.out.size))); go_simp; exact ⟨Below.refl _ _, rfl⟩)); (simp only [Act.put, List.setIfInBounds_toArray, List.set_cons_zero, List.set_cons_succ, List.cons_append, List.nil_append])
  (with_reducible apply wpF_val); (focus (intro vs w' hE hk; (obtain ⟨s0, s1, s2, s3, s4, s5, s6, s7, s8⟩ := KS.out w' (BQ.out.trans (hE.mono BQ.out.size))); go_simp; exact ⟨Below.refl _ _, rfl⟩)); (simp only [Act.put, List.setIfInBounds_toArray, List.set_cons_zero, List.set_cons_succ, List.cons_append, List.nil_append])
  (with_reducible apply wpF_val); (focus (intro vs w' hE hk; (obtain ⟨s0, s1, s2, s3, s4, s5, s6, s7, s8⟩ := KS.out w' (BQ.out.trans (hE.mono BQ.out.size))); go_simp; exact ⟨Below.refl _ _, rfl⟩)); (simp only [Act.put, List.setIfInBounds_toArray, List.set_cons_zero, List.set_cons_succ, List.cons_append, List.nil_append])
  refine wpF_fact (fun u _ => ∃ m, u = .float .f32 (pick .f32 (lessV (fat zs 1) (fat zs 6) (fat zs 0) (fat zs 7)) m)) (fun _ _ _ h _ => h) (fun vs w' hE hk => ?_) ?_; (focus ((obtain ⟨s0, s1, s2, s3, s4, s5, s6, s7, s8⟩ := KS.out w' (BQ.out.trans (hE.mono BQ.out.size))); go_simp; refine (CX7.out _ _ _ _ _).mono ?_; rintro _ _ ⟨m1, m2, rfl, rfl⟩; exact ⟨_, rfl, below_drewN (Below.refl _ _) _, m1, rfl⟩)); (simp only [Act.put, List.setIfInBounds_toArray, List.set_cons_zero, List.set_cons_succ, List.cons_append, List.nil_append])
  (with_reducible apply wpF_val); (focus (intro vs w' hE hk; (obtain ⟨s0, s1, s2, s3, s4, s5, s6, s7, s8⟩ := KS.out w' (BQ.out.trans (hE.mono BQ.out.size))); go_simp; exact ⟨Below.refl _ _, rfl⟩)); (simp only [Act.put, List.setIfInBounds_toArray, List.set_cons_zero, List.set_cons_succ, List.cons_append, List.nil_append])
  (with_reducible apply wpF_val); (focus (intro vs w' hE hk; (obtain ⟨s0, s1, s2, s3, s4, s5, s6, s7, s8⟩ := KS.out w' (BQ.out.trans (hE.mono BQ.out.size))); go_simp; exact ⟨Below.refl _ _, rfl⟩)); (simp only [Act.put, List.setIfInBounds_toArray, List.set_cons_zero, List.set_cons_succ, List.cons_append, List.nil_append])
  (with_reducible apply wpF_val); (focus (intro vs w' hE hk; (obtain ⟨s0, s1, s2, s3, s4, s5, s6, s7, s8⟩ := KS.out w' (BQ.out.trans (hE.mono BQ.out.size))); go_simp; exact ⟨Below.refl _ _, rfl⟩)); (simp only [Act.put, List.setIfInBounds_toArray, List.set_cons_zero, List.set_cons_succ, List.cons_append, List.nil_append])
  (with_reducible apply wpF_val); (focus (intro vs w' hE hk; (obtain ⟨s0, s1, s2, s3, s4, s5, s6, s7, s8⟩ := KS.out w' (BQ.out.trans (hE.mono BQ.out.size))); go_simp; exact ⟨Below.refl _ _, rfl⟩)); (simp only [Act.put, List.setIfInBounds_toArray, List.set_cons_zero, List.set_cons_succ, List.cons_append, List.nil_append])
  (with_reducible apply wpF_val); (focus (intro vs w' hE hk; (obtain ⟨s0, s1, s2, s3, s4, s5, s6, s7, s8⟩ := KS.out w' (BQ.out.trans (hE.mono BQ.out.size))); go_simp; exact ⟨Below.refl _ _, rfl⟩)); (simp only [Act.put, List.setIfInBounds_toArray, List.set_cons_zero, List.set_cons_succ, List.cons_append, List.nil_append])
  (with_reducible apply wpF_val); (focus (intro vs w' hE hk; (obtain ⟨s0, s1, s2, s3, s4, s5, s6, s7, s8⟩ := KS.out w' (BQ.out.trans (hE.mono BQ.out.size))); go_simp; exact ⟨Below.refl _ _, rfl⟩)); (simp only [Act.put, List.setIfInBounds_toArray, List.set_cons_zero, List.set_cons_succ, List.cons_append, List.nil_append])
  (with_reducible apply wpF_val); (focus (intro vs w' hE hk; (obtain ⟨s0, s1, s2, s3, s4, s5, s6, s7, s8⟩ := KS.out w' (BQ.out.trans (hE.mono BQ.out.size))); go_simp; exact ⟨Below.refl _ _, rfl⟩)); (simp only [Act.put, List.setIfInBounds_toArray, List.set_cons_zero, List.set_cons_succ, List.cons_append, List.nil_append])
  (with_reducible apply wpF_val); (focus (intro vs w' hE hk; (obtain ⟨s0, s1, s2, s3, s4, s5, s6, s7, s8⟩ := KS.out w' (BQ.out.trans (hE.mono BQ.out.size))); go_simp; exact ⟨Below.refl _ _, rfl⟩)); (simp only [Act.put, List.setIfInBounds_toArray, List.set_cons_zero, List.set_cons_succ, List.cons_append, List.nil_append])
  (with_reducible apply wpF_val); (focus (intro vs w' hE hk; (obtain ⟨s0, s1, s2, s3, s4, s5, s6, s7, s8⟩ := KS.out w' (BQ.out.trans (hE.mono BQ.out.size))); go_simp; exact ⟨Below.refl _ _, rfl⟩)); (simp only [Act.put, List.setIfInBounds_toArray, List.set_cons_zero, List.set_cons_succ, List.cons_append, List.nil_append])
  (with_reducible apply wpF_val); (focus (intro vs w' hE hk; (obtain ⟨s0, s1, s2, s3, s4, s5, s6, s7, s8⟩ := KS.out w' (BQ.out.trans (hE.mono BQ.out.size))); go_simp; exact ⟨Below.refl _ _, rfl⟩)); (simp only [Act.put, List.setIfInBounds_toArray, List.set_cons_zero, List.set_cons_succ, List.cons_append, List.nil_append])
  (with_reducible apply wpF_val); (focus (intro vs w' hE hk; (obtain ⟨s0, s1, s2, s3, s4, s5, s6, s7, s8⟩ := KS.out w' (BQ.out.trans (hE.mono BQ.out.size))); go_simp; exact ⟨Below.refl _ _, rfl⟩)); (simp only [Act.put, List.setIfInBounds_toArray, List.set_cons_zero, List.set_cons_succ, List.cons_append, List.nil_append])
  (with_reducible apply wpF_val); (focus (intro vs w' hE hk; (obtain ⟨s0, s1, s2, s3, s4, s5, s6, s7, s8⟩ := KS.out w' (BQ.out.trans (hE.mono BQ.out.size))); go_simp; exact ⟨Below.refl _ _, rfl⟩)); (simp only [Act.put, List.setIfInBounds_toArray, List.set_cons_zero, List.set_cons_succ, List.cons_append, List.nil_append])
  refine wpF_fact (fun u _ => ∃ m, u = .float .f32 (pick .f32 (lessV (fat zs 0) (fat zs 4) (fat zs 1) (fat zs 3)) m)) (fun _ _ _ h _ => h) (fun vs w' hE hk => ?_) ?_; (focus ((obtain ⟨s0, s1, s2, s3, s4, s5, s6, s7, s8⟩ := KS.out w' (BQ.out.trans (hE.mono BQ.out.size))); go_simp; refine (CX8.out _ _ _ _ _).mono ?_; rintro _ _ ⟨m1, m2, rfl, rfl⟩; exact ⟨_, rfl, below_drewN (Below.refl _ _) _, m1, rfl⟩)); (simp only [Act.put, List.setIfInBounds_toArray, List.set_cons_zero, List.set_cons_succ, List.cons_append, List.nil_append])
  refine wpF_nil (fun vs u5 hE hk => ?_)
  obtain ⟨k1, h1⟩ := hk 13
  obtain ⟨k2, h2⟩ := hk 26
  obtain ⟨k4, h4⟩ := hk 40
  obtain ⟨k5, h5⟩ := hk 53
  obtain ⟨k7, h7⟩ := hk 67
  obtain ⟨k8, h8⟩ := hk 80
  simp only [h1, h2, h4, h5, h7, h8]
  have B5 := Lib.hid (BQ.out.trans (hE.mono BQ.out.size))
  clear hE hk BQ KS h1 h2 h4 h5 h7 h8 CX1 CX2 CX4 CX5 CX7 CX8
  have HLT := Lib.hid (show ∀ x ∈ [P, lessV (fat zs 2) (fat zs 7) (fat zs 1) (fat zs 8), lessV (fat zs 1) (fat zs 5) (fat zs 2) (fat zs 4), Q, lessV (fat zs 0) (fat zs 8) (fat zs 2) (fat zs 6), lessV (fat zs 2) (fat zs 3) (fat zs 0) (fat zs 5), R, lessV (fat zs 1) (fat zs 6) (fat zs 0) (fat zs 7), lessV (fat zs 0) (fat zs 4) (fat zs 1) (fat zs 3)], x < 2 ^ FloatKind.f32.format.width from by intro x hx; simp only [List.mem_cons, List.not_mem_nil, or_false] at hx; rcases hx with rfl | rfl | rfl | rfl | rfl | rfl | rfl | rfl | rfl <;> first | exact fop_lt _ _ _ _ | (rw [HP.out]; exact fop_lt _ _ _ _) | (rw [HQ.out]; exact fop_lt _ _ _ _) | (rw [HRr.out]; exact fop_lt _ _ _ _))
  generalize lessV (fat zs 2) (fat zs 7) (fat zs 1) (fat zs 8) = L1 at *
  generalize lessV (fat zs 1) (fat zs 5) (fat zs 2) (fat zs 4) = L2 at *
  generalize lessV (fat zs 0) (fat zs 8) (fat zs 2) (fat zs 6) = L4 at *
  generalize lessV (fat zs 2) (fat zs 3) (fat zs 0) (fat zs 5) = L5 at *
  generalize lessV (fat zs 1) (fat zs 6) (fat zs 0) (fat zs 7) = L7 at *
  generalize lessV (fat zs 0) (fat zs 4) (fat zs 1) (fat zs 3) = L8 at *
  clear CM
  obtain ⟨x0, hx0⟩ : ∃ N, N = u5.alloc (.cells #[.float .f32 (pick .f32 P kP), .float .f32 (pick .f32 L1 k1), .float .f32 (pick .f32 L2 k2), .float .f32 (pick .f32 Q kQ), .float .f32 (pick .f32 L4 k4), .float .f32 (pick .f32 L5 k5), .float .f32 (pick .f32 R kR), .float .f32 (pick .f32 L7 k7), .float .f32 (pick .f32 L8 k8)] 23) := ⟨_, rfl⟩
  have hg : w.heap.size ≤ u5.heap.size := B5.out.size
  have O0 := Lib.hid (show Own 23 x0 w.heap.size (some ⟨u5.heap.size, 0, none⟩) 9 9 [pick .f32 P kP, pick .f32 L1 k1, pick .f32 L2 k2, pick .f32 Q kQ, pick .f32 L4 k4, pick .f32 L5 k5, pick .f32 R kR, pick .f32 L7 k7, pick .f32 L8 k8] from hx0 ▸ own_new9 (zs := [pick .f32 P kP, pick .f32 L1 k1, pick .f32 L2 k2, pick .f32 Q kQ, pick .f32 L4 k4, pick .f32 L5 k5, pick .f32 R kR, pick .f32 L7 k7, pick .f32 L8 k8]) rfl hg (by simp) (fun b hb => by
    simp only [List.mem_cons, List.not_mem_nil, or_false] at hb
    have hh := HLT.out
    rcases hb with rfl | rfl | rfl | rfl | rfl | rfl | rfl | rfl | rfl <;> exact pick_wf (hh _ (by simp)) _))
  have B0 := Lib.hid (show Below w.heap.size w x0 from hx0 ▸ B5.out.alloc hg _)
  have HX0 := Lib.hid hx0.symm
  clear hx0 HLT B5
  go_wp2_with fail
  rw [HX0.out]
  clear HX0
  refine wp_loop_rounds 10 ?_
  rw [rounds_succ]
  have l : x0.cell? ⟨u5.heap.size, 0, none⟩ = some (.float .f32 (pick .f32 P kP)) := O0.out.cellAt (k := 0) (by omega)
  have f := O0.out.frozen 0
  go_wp2_with (refine upon_fop0 _ _ _ _ _ (by decide) ?_; intro m0 j1; have b := below_drewN (Below.refl x0.heap.size x0) j1; generalize x0.drewN j1 = y0 at b ⊢; have f := (O0.out.below b).frozen 0; have l : y0.cell? ⟨u5.heap.size, 0, none⟩ = some (.float .f32 (pick .f32 P kP)) := (O0.out.below b).cellAt (k := 0) (by omega))
  have O1 : Hid (Own 23 (y0.setCell ⟨u5.heap.size, 0, none⟩ (.float .f32 (pick .f32 (fop .quo .f32 P S) m0))) w.heap.size (some ⟨u5.heap.size, 0, none⟩) 9 9 [pick .f32 (fop .quo .f32 P S) m0, pick .f32 L1 k1, pick .f32 L2 k2, pick .f32 Q kQ, pick .f32 L4 k4, pick .f32 L5 k5, pick .f32 R kR, pick .f32 L7 k7, pick .f32 L8 k8]) := Lib.hid ((O0.out.below b).set (k := 0) (by omega) (pick .f32 (fop .quo .f32 P S) m0) (pick_wf (fop_lt _ _ _ _) m0))
  have B1 := Lib.hid ((B0.out.trans (b.mono B0.out.size)).setCell (p := ⟨u5.heap.size, 0, none⟩) hg (.float .f32 (pick .f32 (fop .quo .f32 P S) m0)))
  clear b f l O0 B0
  generalize y0.setCell ⟨u5.heap.size, 0, none⟩ (.float .f32 (pick .f32 (fop .quo .f32 P S) m0)) = x1 at *
  rw [rounds_succ]
  have l : x1.cell? ⟨u5.heap.size, 1, none⟩ = some (.float .f32 (pick .f32 L1 k1)) := O1.out.cellAt (k := 1) (by omega)
  have f := O1.out.frozen 1
  go_wp2_with (refine upon_fop0 _ _ _ _ _ (by decide) ?_; intro m1 j2; have b := below_drewN (Below.refl x1.heap.size x1) j2; generalize x1.drewN j2 = y1 at b ⊢; have f := (O1.out.below b).frozen 1; have l : y1.cell? ⟨u5.heap.size, 1, none⟩ = some (.float .f32 (pick .f32 L1 k1)) := (O1.out.below b).cellAt (k := 1) (by omega))
  have O2 : Hid (Own 23 (y1.setCell ⟨u5.heap.size, 1, none⟩ (.float .f32 (pick .f32 (fop .quo .f32 L1 S) m1))) w.heap.size (some ⟨u5.heap.size, 0, none⟩) 9 9 [pick .f32 (fop .quo .f32 P S) m0, pick .f32 (fop .quo .f32 L1 S) m1, pick .f32 L2 k2, pick .f32 Q kQ, pick .f32 L4 k4, pick .f32 L5 k5, pick .f32 R kR, pick .f32 L7 k7, pick .f32 L8 k8]) := Lib.hid ((O1.out.below b).set (k := 1) (by omega) (pick .f32 (fop .quo .f32 L1 S) m1) (pick_wf (fop_lt _ _ _ _) m1))
  have B2 := Lib.hid ((B1.out.trans (b.mono B1.out.size)).setCell (p := ⟨u5.heap.size, 1, none⟩) hg (.float .f32 (pick .f32 (fop .quo .f32 L1 S) m1)))
  clear b f l O1 B1
  generalize y1.setCell ⟨u5.heap.size, 1, none⟩ (.float .f32 (pick .f32 (fop .quo .f32 L1 S) m1)) = x2 at *
  rw [rounds_succ]
  have l : x2.cell? ⟨u5.heap.size, 2, none⟩ = some (.float .f32 (pick .f32 L2 k2)) := O2.out.cellAt (k := 2) (by omega)
  have f := O2.out.frozen 2
  go_wp2_with (refine upon_fop0 _ _ _ _ _ (by decide) ?_; intro m2 j3; have b := below_drewN (Below.refl x2.heap.size x2) j3; generalize x2.drewN j3 = y2 at b ⊢; have f := (O2.out.below b).frozen 2; have l : y2.cell? ⟨u5.heap.size, 2, none⟩ = some (.float .f32 (pick .f32 L2 k2)) := (O2.out.below b).cellAt (k := 2) (by omega))
  have O3 : Hid (Own 23 (y2.setCell ⟨u5.heap.size, 2, none⟩ (.float .f32 (pick .f32 (fop .quo .f32 L2 S) m2))) w.heap.size (some ⟨u5.heap.size, 0, none⟩) 9 9 [pick .f32 (fop .quo .f32 P S) m0, pick .f32 (fop .quo .f32 L1 S) m1, pick .f32 (fop .quo .f32 L2 S) m2, pick .f32 Q kQ, pick .f32 L4 k4, pick .f32 L5 k5, pick .f32 R kR, pick .f32 L7 k7, pick .f32 L8 k8]) := Lib.hid ((O2.out.below b).set (k := 2) (by omega) (pick .f32 (fop .quo .f32 L2 S) m2) (pick_wf (fop_lt _ _ _ _) m2))
  have B3 := Lib.hid ((B2.out.trans (b.mono B2.out.size)).setCell (p := ⟨u5.heap.size, 2, none⟩) hg (.float .f32 (pick .f32 (fop .quo .f32 L2 S) m2)))
  clear b f l O2 B2
  generalize y2.setCell ⟨u5.heap.size, 2, none⟩ (.float .f32 (pick .f32 (fop .quo .f32 L2 S) m2)) = x3 at *
  rw [rounds_succ]
  have l : x3.cell? ⟨u5.heap.size, 3, none⟩ = some (.float .f32 (pick .f32 Q kQ)) := O3.out.cellAt (k := 3) (by omega)
  have f := O3.out.frozen 3
  go_wp2_with (refine upon_fop0 _ _ _ _ _ (by decide) ?_; intro m3 j4; have b := below_drewN (Below.refl x3.heap.size x3) j4; generalize x3.drewN j4 = y3 at b ⊢; have f := (O3.out.below b).frozen 3; have l : y3.cell? ⟨u5.heap.size, 3, none⟩ = some (.float .f32 (pick .f32 Q kQ)) := (O3.out.below b).cellAt (k := 3) (by omega))
  have O4 : Hid (Own 23 (y3.setCell ⟨u5.heap.size, 3, none⟩ (.float .f32 (pick .f32 (fop .quo .f32 Q S) m3))) w.heap.size (some ⟨u5.heap.size, 0, none⟩) 9 9 [pick .f32 (fop .quo .f32 P S) m0, pick .f32 (fop .quo .f32 L1 S) m1, pick .f32 (fop .quo .f32 L2 S) m2, pick .f32 (fop .quo .f32 Q S) m3, pick .f32 L4 k4, pick .f32 L5 k5, pick .f32 R kR, pick .f32 L7 k7, pick .f32 L8 k8]) := Lib.hid ((O3.out.below b).set (k := 3) (by omega) (pick .f32 (fop .quo .f32 Q S) m3) (pick_wf (fop_lt _ _ _ _) m3))
  have B4 := Lib.hid ((B3.out.trans (b.mono B3.out.size)).setCell (p := ⟨u5.heap.size, 3, none⟩) hg (.float .f32 (pick .f32 (fop .quo .f32 Q S) m3)))
  clear b f l O3 B3
  generalize y3.setCell ⟨u5.heap.size, 3, none⟩ (.float .f32 (pick .f32 (fop .quo .f32 Q S) m3)) = x4 at *
  rw [rounds_succ]
  have l : x4.cell? ⟨u5.heap.size, 4, none⟩ = some (.float .f32 (pick .f32 L4 k4)) := O4.out.cellAt (k := 4) (by omega)
  have f := O4.out.frozen 4
  go_wp2_with (refine upon_fop0 _ _ _ _ _ (by decide) ?_; intro m4 j5; have b := below_drewN (Below.refl x4.heap.size x4) j5; generalize x4.drewN j5 = y4 at b ⊢; have f := (O4.out.below b).frozen 4; have l : y4.cell? ⟨u5.heap.size, 4, none⟩ = some (.float .f32 (pick .f32 L4 k4)) := (O4.out.below b).cellAt (k := 4) (by omega))
  have O5 : Hid (Own 23 (y4.setCell ⟨u5.heap.size, 4, none⟩ (.float .f32 (pick .f32 (fop .quo .f32 L4 S) m4))) w.heap.size (some ⟨u5.heap.size, 0, none⟩) 9 9 [pick .f32 (fop .quo .f32 P S) m0, pick .f32 (fop .quo .f32 L1 S) m1, pick .f32 (fop .quo .f32 L2 S) m2, pick .f32 (fop .quo .f32 Q S) m3, pick .f32 (fop .quo .f32 L4 S) m4, pick .f32 L5 k5, pick .f32 R kR, pick .f32 L7 k7, pick .f32 L8 k8]) := Lib.hid ((O4.out.below b).set (k := 4) (by omega) (pick .f32 (fop .quo .f32 L4 S) m4) (pick_wf (fop_lt _ _ _ _) m4))
  have B5 := Lib.hid ((B4.out.trans (b.mono B4.out.size)).setCell (p := ⟨u5.heap.size, 4, none⟩) hg (.float .f32 (pick .f32 (fop .quo .f32 L4 S) m4)))
  clear b f l O4 B4
  generalize y4.setCell ⟨u5.heap.size, 4, none⟩ (.float .f32 (pick .f32 (fop .quo .f32 L4 S) m4)) = x5 at *
  rw [rounds_succ]
  have l : x5.cell? ⟨u5.heap.size, 5, none⟩ = some (.float .f32 (pick .f32 L5 k5)) := O5.out.cellAt (k := 5) (by omega)
  have f := O5.out.frozen 5
  go_wp2_with (refine upon_fop0 _ _ _ _ _ (by decide) ?_; intro m5 j6; have b := below_drewN (Below.refl x5.heap.size x5) j6; generalize x5.drewN j6 = y5 at b ⊢; have f := (O5.out.below b).frozen 5; have l : y5.cell? ⟨u5.heap.size, 5, none⟩ = some (.float .f32 (pick .f32 L5 k5)) := (O5.out.below b).cellAt (k := 5) (by omega))
  have O6 : Hid (Own 23 (y5.setCell ⟨u5.heap.size, 5, none⟩ (.float .f32 (pick .f32 (fop .quo .f32 L5 S) m5))) w.heap.size (some ⟨u5.heap.size, 0, none⟩) 9 9 [pick .f32 (fop .quo .f32 P S) m0, pick .f32 (fop .quo .f32 L1 S) m1, pick .f32 (fop .quo .f32 L2 S) m2, pick .f32 (fop .quo .f32 Q S) m3, pick .f32 (fop .quo .f32 L4 S) m4, pick .f32 (fop .quo .f32 L5 S) m5, pick .f32 R kR, pick .f32 L7 k7, pick .f32 L8 k8]) := Lib.hid ((O5.out.below b).set (k := 5) (by omega) (pick .f32 (fop .quo .f32 L5 S) m5) (pick_wf (fop_lt _ _ _ _) m5))
  have B6 := Lib.hid ((B5.out.trans (b.mono B5.out.size)).setCell (p := ⟨u5.heap.size, 5, none⟩) hg (.float .f32 (pick .f32 (fop .quo .f32 L5 S) m5)))
  clear b f l O5 B5
  generalize y5.setCell ⟨u5.heap.size, 5, none⟩ (.float .f32 (pick .f32 (fop .quo .f32 L5 S) m5)) = x6 at *
  rw [rounds_succ]
  have l : x6.cell? ⟨u5.heap.size, 6, none⟩ = some (.float .f32 (pick .f32 R kR)) := O6.out.cellAt (k := 6) (by omega)
  have f := O6.out.frozen 6
  go_wp2_with (refine upon_fop0 _ _ _ _ _ (by decide) ?_; intro m6 j7; have b := below_drewN (Below.refl x6.heap.size x6) j7; generalize x6.drewN j7 = y6 at b ⊢; have f := (O6.out.below b).frozen 6; have l : y6.cell? ⟨u5.heap.size, 6, none⟩ = some (.float .f32 (pick .f32 R kR)) := (O6.out.below b).cellAt (k := 6) (by omega))
  have O7 : Hid (Own 23 (y6.setCell ⟨u5.heap.size, 6, none⟩ (.float .f32 (pick .f32 (fop .quo .f32 R S) m6))) w.heap.size (some ⟨u5.heap.size, 0, none⟩) 9 9 [pick .f32 (fop .quo .f32 P S) m0, pick .f32 (fop .quo .f32 L1 S) m1, pick .f32 (fop .quo .f32 L2 S) m2, pick .f32 (fop .quo .f32 Q S) m3, pick .f32 (fop .quo .f32 L4 S) m4, pick .f32 (fop .quo .f32 L5 S) m5, pick .f32 (fop .quo .f32 R S) m6, pick .f32 L7 k7, pick .f32 L8 k8]) := Lib.hid ((O6.out.below b).set (k := 6) (by omega) (pick .f32 (fop .quo .f32 R S) m6) (pick_wf (fop_lt _ _ _ _) m6))
  have B7 := Lib.hid ((B6.out.trans (b.mono B6.out.size)).setCell (p := ⟨u5.heap.size, 6, none⟩) hg (.float .f32 (pick .f32 (fop .quo .f32 R S) m6)))
  clear b f l O6 B6
  generalize y6.setCell ⟨u5.heap.size, 6, none⟩ (.float .f32 (pick .f32 (fop .quo .f32 R S) m6)) = x7 at *
  rw [rounds_succ]
  have l : x7.cell? ⟨u5.heap.size, 7, none⟩ = some (.float .f32 (pick .f32 L7 k7)) := O7.out.cellAt (k := 7) (by omega)
  have f := O7.out.frozen 7
  go_wp2_with (refine upon_fop0 _ _ _ _ _ (by decide) ?_; intro m7 j8; have b := below_drewN (Below.refl x7.heap.size x7) j8; generalize x7.drewN j8 = y7 at b ⊢; have f := (O7.out.below b).frozen 7; have l : y7.cell? ⟨u5.heap.size, 7, none⟩ = some (.float .f32 (pick .f32 L7 k7)) := (O7.out.below b).cellAt (k := 7) (by omega))
  have O8 : Hid (Own 23 (y7.setCell ⟨u5.heap.size, 7, none⟩ (.float .f32 (pick .f32 (fop .quo .f32 L7 S) m7))) w.heap.size (some ⟨u5.heap.size, 0, none⟩) 9 9 [pick .f32 (fop .quo .f32 P S) m0, pick .f32 (fop .quo .f32 L1 S) m1, pick .f32 (fop .quo .f32 L2 S) m2, pick .f32 (fop .quo .f32 Q S) m3, pick .f32 (fop .quo .f32 L4 S) m4, pick .f32 (fop .quo .f32 L5 S) m5, pick .f32 (fop .quo .f32 R S) m6, pick .f32 (fop .quo .f32 L7 S) m7, pick .f32 L8 k8]) := Lib.hid ((O7.out.below b).set (k := 7) (by omega) (pick .f32 (fop .quo .f32 L7 S) m7) (pick_wf (fop_lt _ _ _ _) m7))
  have B8 := Lib.hid ((B7.out.trans (b.mono B7.out.size)).setCell (p := ⟨u5.heap.size, 7, none⟩) hg (.float .f32 (pick .f32 (fop .quo .f32 L7 S) m7)))
  clear b f l O7 B7
  generalize y7.setCell ⟨u5.heap.size, 7, none⟩ (.float .f32 (pick .f32 (fop .quo .f32 L7 S) m7)) = x8 at *
  rw [rounds_succ]
  have l : x8.cell? ⟨u5.heap.size, 8, none⟩ = some (.float .f32 (pick .f32 L8 k8)) := O8.out.cellAt (k := 8) (by omega)
  have f := O8.out.frozen 8
  go_wp2_with (refine upon_fop0 _ _ _ _ _ (by decide) ?_; intro m8 j9; have b := below_drewN (Below.refl x8.heap.size x8) j9; generalize x8.drewN j9 = y8 at b ⊢; have f := (O8.out.below b).frozen 8; have l : y8.cell? ⟨u5.heap.size, 8, none⟩ = some (.float .f32 (pick .f32 L8 k8)) := (O8.out.below b).cellAt (k := 8) (by omega))
  have O9 : Hid (Own 23 (y8.setCell ⟨u5.heap.size, 8, none⟩ (.float .f32 (pick .f32 (fop .quo .f32 L8 S) m8))) w.heap.size (some ⟨u5.heap.size, 0, none⟩) 9 9 [pick .f32 (fop .quo .f32 P S) m0, pick .f32 (fop .quo .f32 L1 S) m1, pick .f32 (fop .quo .f32 L2 S) m2, pick .f32 (fop .quo .f32 Q S) m3, pick .f32 (fop .quo .f32 L4 S) m4, pick .f32 (fop .quo .f32 L5 S) m5, pick .f32 (fop .quo .f32 R S) m6, pick .f32 (fop .quo .f32 L7 S) m7, pick .f32 (fop .quo .f32 L8 S) m8]) := Lib.hid ((O8.out.below b).set (k := 8) (by omega) (pick .f32 (fop .quo .f32 L8 S) m8) (pick_wf (fop_lt _ _ _ _) m8))
  have B9 := Lib.hid ((B8.out.trans (b.mono B8.out.size)).setCell (p := ⟨u5.heap.size, 8, none⟩) hg (.float .f32 (pick .f32 (fop .quo .f32 L8 S) m8)))
  clear b f l O8 B8
  generalize y8.setCell ⟨u5.heap.size, 8, none⟩ (.float .f32 (pick .f32 (fop .quo .f32 L8 S) m8)) = x9 at *
  have hnear : near [pick .f32 (fop .quo .f32 P S) m0, pick .f32 (fop .quo .f32 L1 S) m1, pick .f32 (fop .quo .f32 L2 S) m2, pick .f32 (fop .quo .f32 Q S) m3, pick .f32 (fop .quo .f32 L4 S) m4, pick .f32 (fop .quo .f32 L5 S) m5, pick .f32 (fop .quo .f32 R S) m6, pick .f32 (fop .quo .f32 L7 S) m7, pick .f32 (fop .quo .f32 L8 S) m8] (backL zs) := by
    rw [HL.out]
    exact ⟨rfl, fun i hi => by
      match i, hi with
      | 0, _ => exact ⟨m0, rfl⟩
      | 1, _ => exact ⟨m1, rfl⟩
      | 2, _ => exact ⟨m2, rfl⟩
      | 3, _ => exact ⟨m3, rfl⟩
      | 4, _ => exact ⟨m4, rfl⟩
      | 5, _ => exact ⟨m5, rfl⟩
      | 6, _ => exact ⟨m6, rfl⟩
      | 7, _ => exact ⟨m7, rfl⟩
      | 8, _ => exact ⟨m8, rfl⟩
      | n + 9, h => exact absurd h (by simp)⟩
  have CF := Lib.hid (fun j => c_l02Finite (some ⟨u5.heap.size, 0, none⟩) 9 9 [pick .f32 (fop .quo .f32 P S) m0, pick .f32 (fop .quo .f32 L1 S) m1, pick .f32 (fop .quo .f32 L2 S) m2, pick .f32 (fop .quo .f32 Q S) m3, pick .f32 (fop .quo .f32 L4 S) m4, pick .f32 (fop .quo .f32 L5 S) m5, pick .f32 (fop .quo .f32 R S) m6, pick .f32 (fop .quo .f32 L7 S) m7, pick .f32 (fop .quo .f32 L8 S) m8] x9 j O9.out.row)
  have hfe : finL [pick .f32 (fop .quo .f32 P S) m0, pick .f32 (fop .quo .f32 L1 S) m1, pick .f32 (fop .quo .f32 L2 S) m2, pick .f32 (fop .quo .f32 Q S) m3, pick .f32 (fop .quo .f32 L4 S) m4, pick .f32 (fop .quo .f32 L5 S) m5, pick .f32 (fop .quo .f32 R S) m6, pick .f32 (fop .quo .f32 L7 S) m7, pick .f32 (fop .quo .f32 L8 S) m8] = finL (backL zs) := near_fin hnear
  rw [hfe] at CF
  rw [rounds_succ, ← x9.drewN_zero]
  cases hq : finL (backL zs)
  all_goals rw [hq] at CF
  · have HY := Lib.hid (show res = ([], false) by rw [HX.out]; unfold listR; rw [hq]; rfl)
    clear hnear hfe hq
    go_wp2_with (go_at_call 21; refine (CF.out _).mono ?_; rintro _ _ ⟨_, rfl, rfl⟩)
    go_ret2
    rw [HY.out]
    exact RetL.no rfl (below_drewN B9.out _)
  · have HY := Lib.hid (show res = (backL zs, true) by rw [HX.out]; unfold listR; rw [hq]; rfl)
    have he : [pick .f32 (fop .quo .f32 P S) m0, pick .f32 (fop .quo .f32 L1 S) m1, pick .f32 (fop .quo .f32 L2 S) m2, pick .f32 (fop .quo .f32 Q S) m3, pick .f32 (fop .quo .f32 L4 S) m4, pick .f32 (fop .quo .f32 L5 S) m5, pick .f32 (fop .quo .f32 R S) m6, pick .f32 (fop .quo .f32 L7 S) m7, pick .f32 (fop .quo .f32 L8 S) m8] = backL zs := near_eq hnear hq
    have O10 := Lib.hid (he ▸ O9.out)
    have hlen : (backL zs).length = 9 := rfl
    clear hnear hfe hq he
    go_wp2_with (go_at_call 21; refine (CF.out _).mono ?_; rintro _ _ ⟨_, rfl, rfl⟩)
    go_ret2
    rw [HY.out]
    exact ⟨_, _, rfl, by rw [hlen]; decide, below_drewN B9.out _, O10.out.drewN _⟩
/-! ### IsNaN -/
theorem c_IsNaN (v n : Nat) (w : World) (j : Nat) : Calls Try.prog 34 #[.float .f64 (pick .f64 v n)] (w.drewN j) (RetV (.bool (isN .f64 v)) w) := by
  go_enter Try.func34, Try.ntmps34
  go_wp2
  go_ret
  exact ⟨_, rfl, rfl⟩
/-! ### f64bits -/
@[go_sem] theorem e_f64bits (b : Nat) (w : World) : (callFunc 38 #[.float .f64 b]).run Try.prog w = .ok (.value (.int .u64 b)) w := by kernel_rfl
/-! ### f64from -/
@[go_sem] theorem e_f64from (n : Int) (w : World) : (callFunc 37 #[.int .u64 n]).run Try.prog w = .ok (.value (.float .f64 n.toNat)) w := by kernel_rfl
/-! ### Abs -/
theorem c_Abs (v n : Nat) (w : World) (j : Nat) (hv : v < 2 ^ FloatKind.f64.format.width) : Calls Try.prog 36 #[.float .f64 (pick .f64 v n)] (w.drewN j) (RetF .f64 (fabs .f64 v) w) := by
  have hb := abs_bits hv n
  go_enter Try.func36, Try.ntmps36
  go_wp2
  go_ret
  exact ⟨_, _, rfl, rfl⟩
/-! ### IsInf0 -/
theorem c_IsInf0 (v n : Nat) (w : World) (j : Nat) (hv : v < 2 ^ FloatKind.f64.format.width) : Calls Try.prog 35 #[.float .f64 (pick .f64 v n), .int .i64 0] (w.drewN j) (RetV (.bool (FloatKind.f64.format.order (fabs .f64 v) 9218868437227405311 == some .gt)) w) := by
  go_enter Try.func35, Try.ntmps35
  go_wp2_with ((go_at_call 36; refine (c_Abs _ _ _ _ hv).mono ?_; rintro _ _ ⟨_, _, rfl, rfl⟩))
  go_ret
  exact ⟨_, rfl, rfl⟩
/-! ### isFinite64 -/
theorem c_isFinite64 (v n : Nat) (w : World) (j : Nat) (hv : v < 2 ^ FloatKind.f64.format.width) : Calls Try.prog 33 #[.float .f64 (pick .f64 v n)] (w.drewN j) (RetV (.bool (finB .f64 v)) w) := by
  go_enter Try.func33, Try.ntmps33
  go_wp2_with (first | (go_at_call 34; refine (c_IsNaN _ _ _ _).mono ?_; rintro _ _ ⟨_, rfl, rfl⟩) | (go_at_call 35; refine (c_IsInf0 _ _ _ _ hv).mono ?_; rintro _ _ ⟨_, rfl, rfl⟩))
  all_goals
    go_ret
    refine ⟨_, ?_, rfl⟩
    rw [← abs_gt_max]
    simp [*]
/-! ### iIsFinite -/
theorem c_iIsFinite (v n : Nat) (w : World) (j : Nat) : Calls Try.prog 32 #[.float .f32 (pick .f32 v n)] (w.drewN j) (RetV (.bool (finB .f32 v)) w) := by
  go_enter Try.func32, Try.ntmps32
  go_wp2_with (first | (refine wpList_cvU rfl 23 39 _ rfl (Option.isSome_iff_exists.2 ⟨_, Try.underlying23⟩) Try.underlying39 _ rfl _ ?_; intro _ _) | (go_at_call 33; refine (c_isFinite64 _ _ _ _ (cvU_lt _)).mono ?_; rintro _ _ ⟨_, rfl, rfl⟩))
  go_ret
  rw [← finB_cvU]
  exact ⟨_, rfl, rfl⟩
/-! ### areFinite -/
theorem c_areFinite (a : Option Addr) (len cap : Nat) (zs : List Nat) (w : World) (j0 : Nat) (hr : IsRowF .f32 w a len cap zs) : Calls Try.prog 31 #[.slice a len cap] (w.drewN j0) (RetV (.bool (finL zs)) w) := by
  obtain ⟨h1, h2, h3, h4, h5⟩ := hr
  unfold maxLen at h3
  have H1 := Lib.hid h1
  clear h1
  go_enter Try.func31, Try.ntmps31
  go_wp2
  go_loopw [4, 7] (fun _ i wr => ∃ k m : Nat, k ≤ len ∧ i = .int .i64 k ∧ wr = w.drewN m ∧ finL (zs.take k) = true) (fun _ i _ => len - (intOf i).toNat)
  case atStart => exact ⟨0, j0, Nat.zero_le _, rfl, rfl, rfl⟩
  case round =>
    obtain ⟨k, m, hk, rfl, rfl, hfin⟩ := hrel
    have HFin := Lib.hid hfin
    clear hfin
    by_cases hlt : k < len
    · rcases h5 with h5 | ⟨b, off, rfl, hbl, hc⟩
      · omega
      have hcell : w.cell? ⟨b, off + k, none⟩ = some (.float .f32 (fat zs k)) := hc k hlt
      obtain ⟨n, hn⟩ := pick0 .f32 (fat zs k) (lt_of_wf (h4 _ (by unfold fat; rw [List.getD, List.getElem?_eq_getElem (by have := H1.out; omega)]; exact List.getElem_mem _)))
      rw [hn] at hcell
      have HS := Lib.hid (finL_snoc zs k (by have := H1.out; omega))
      cases hf : finB .f32 (fat zs k)
      · have HO := Lib.hid (finL_of zs k (by have := H1.out; omega) hf)
        clear hc h4 hn
        go_wp2_with ((go_at_call 32; refine (c_iIsFinite _ _ _ _).mono ?_; rintro _ _ ⟨_, rfl, rfl⟩))
        go_ret
        exact ⟨_, by rw [HO.out]; rfl, rfl⟩
      · have HF := Lib.hid hf
        clear hc h4 hn
        go_wp2_with ((go_at_call 32; refine (c_iIsFinite _ _ _ _).mono ?_; rintro _ _ ⟨_, rfl, rfl⟩))
        go_roundw
        case rel => exact ⟨k + 1, _, by omega, by go_num, rfl, by rw [HS.out, HFin.out, HF.out]; rfl⟩
        case measure => simp [intOf]; omega
    · have e : zs.take k = zs := List.take_of_length_le (by have := H1.out; omega)
      have HE := Lib.hid e
      clear h5 h4 e
      go_wp2
      go_ret
      exact ⟨_, by have h := HFin.out; rw [HE.out] at h; rw [h]; rfl, rfl⟩
/-! ### areFinN -/
theorem c_areFinW (a : Option Addr) (len cap : Nat) (zs : List Nat) (w : World) (hr : IsRowF .f32 w a len cap zs) : Calls Try.prog 31 #[.slice a len cap] w (RetV (.bool (finL zs)) w) := by
  have h := c_areFinite a len cap zs w 0 hr
  rwa [w.drewN_zero] at h
theorem row_new (w : World) (b : Nat) (vs : List Nat) (T : TypeId) (hb : b = w.heap.size) (hl : vs.length ≤ 1000) (hwf : ∀ x ∈ vs, (Lit.float .f32 x).wf = true) : IsRowF .f32 (w.alloc (.cells (fl .f32 vs).toArray T)) (some ⟨b, 0, none⟩) vs.length vs.length vs := by
  subst hb
  exact rowF_of_block (heap_alloc_new w _) (by unfold maxLen; omega) hwf


end Go.Proofs.Ytehcepibmekooad.fnExactWhiteMatrix

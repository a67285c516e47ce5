/-
  FnExactFaceOf: for every input this law of the program returns true, and each argument reads as before. No condition.
-/
import Derived.Test.YtmngedfibmnohaaRows
import Derived.Test.YtmngedfibmnohaaRow
import Derived.Test.YtmngedfibmnohaaBy
import Derived.Test.YtmngedfibmnohaaMn
import Derived.Test.YtmngedfibmnohaaAp
import Derived.ProofKit
import Derived.OpenShut
import Derived.ShutString
import Derived.ChangeOld
import Derived.Below
import Derived.Lib.Hide
import Derived.Outline
import Derived.Deep.RegionHeld3
import Derived.Deep.DeepCutAuto
set_option linter.unusedSimpArgs false
set_option linter.unusedVariables false
set_option exponentiation.threshold 2000
set_option maxRecDepth 20000
set_option maxHeartbeats 4000000
namespace Go.Proofs.Ytmngedfibmnohaa.fnExactFaceOf
open Go Go.Proofs.Ytmngedfibmnohaa Go.Proofs
open Go.ChangeShapes Go.WideShapes Go.ChangeAt Go.RowKit
open Go.ChangeMaps (open_string shut_string)
/-! ### openCol -/
theorem open_col {H : Type} {enc : TypeId × Value → H} {P : Program} {w : World} {base : Nat} {spare : Nat → Bool} {held : Bool} {r : Reach} {b0 : Nat} {t : TypeId} {f0 f1 f2 : Field} {v : Value} {d : DataW H} {p : List MemPlace}
    (hs : P.underlying t = some (.struct #[f0, f1, f2])) (hone : Go.Deep.oneCellFields P #[f0, f1, f2] = true) (hC : P.cellsOf t = 3) (u0 : P.underlying f0.type = some (.float .f32)) (u1 : P.underlying f1.type = some (.float .f32))
    (u2 : P.underlying f2.type = some (.float .f32)) (hv : Value.okWide P w r b0 t v) (h : DataW.Trod enc P w base spare held t v d p) :
    ∃ (x y z : Nat), v = .agg #[.float .f32 x, .float .f32 y, .float .f32 z] ∧ (Lit.float .f32 x).wf = true ∧ (Lit.float .f32 y).wf = true ∧ (Lit.float .f32 z).wf = true := by
  obtain ⟨v0, v1, v2, y0, y1, y2, n, rfl, _, _, h0, h1, h2⟩ := Go.Joins.open_agg3 hs hone hC hv h
  obtain ⟨x, e0, _, w0⟩ := trod_float u0 h0
  obtain ⟨y, e1, _, w1⟩ := trod_float u1 h1
  obtain ⟨z, e2, _, w2⟩ := trod_float u2 h2
  simp only [List.cons.injEq, and_true] at e0 e1 e2
  subst e0 e1 e2
  exact ⟨x, y, z, rfl, w0, w1, w2⟩
/-! ### toWay -/
theorem c_toW (r n g m b k : Nat) (w : World) : Calls Try.prog 16 #[.agg #[.float .f32 (pick .f32 r n), .float .f32 (pick .f32 g m), .float .f32 (pick .f32 b k)]] w (RetB (.agg #[.float .f32 (pick .f32 r n), .float .f32 (pick .f32 g m), .float .f32 (pick .f32 b k)]) w) := by
  go_enter Try.func16, Try.ntmps16
  go_wp2_with fail
  refine bodyPost_ret (v := .agg #[.float .f32 (pick .f32 r n), .float .f32 (pick .f32 g m), .float .f32 (pick .f32 b k)]) (by simp [results, Try.results16, go_sem]) rfl ⟨rfl, ?_⟩
  repeat (first | exact Below.refl _ _ | exact Nat.le_refl _ | (refine Below.setCell ?_ ?_ _) | (refine below_drewN ?_ _) | (refine Below.alloc ?_ ?_ _) | (simp <;> omega))
/-! ### sameFloat -/
theorem c_sameFloat (v n m : Nat) (w : World) (j : Nat) : Calls Try.prog 25 #[.float .f64 (pick .f64 v n), .float .f64 (pick .f64 v m)] (w.drewN j) (RetV (.bool true) w) := by
  have hs := self_ne .f64 v
  have ht := self_eq .f64 v
  cases h : isN .f64 v
  · rw [h] at hs ht
    cases h2 : (FloatKind.f64.format.order v 0 == some .eq)
    · go_enter Try.func25, Try.ntmps25
      go_wp2_with (first | (refine wpList_fop rfl _ _ _ _ _ rfl _ _ _ rfl rfl (by decide) _ ?_; intro _ _) | (refine upon_fop _ _ _ _ _ (by decide) ?_; intro _ _))
      go_ret
      exact ⟨_, rfl, rfl⟩
    · go_enter Try.func25, Try.ntmps25
      go_wp2_with (first | (refine wpList_fop rfl _ _ _ _ _ rfl _ _ _ rfl rfl (by decide) _ ?_; intro _ _) | (refine upon_fop _ _ _ _ _ (by decide) ?_; intro _ _))
      go_ret
      exact ⟨_, by simp, rfl⟩
  · rw [h] at hs ht
    go_enter Try.func25, Try.ntmps25
    go_wp2_with (first | (refine wpList_fop rfl _ _ _ _ _ rfl _ _ _ rfl rfl (by decide) _ ?_; intro _ _) | (refine upon_fop _ _ _ _ _ (by decide) ?_; intro _ _))
    go_ret
    exact ⟨_, rfl, rfl⟩

/-! ### picDefs -/
def sideB (W H : Int) : Bool := decide (1 ≤ W) && decide (W ≤ 16) && (decide (1 ≤ H) && decide (H ≤ 16))
def finL (zs : List Nat) : Bool := zs.all (finB .f32)
def validB (W H : Int) (zs : List Nat) : Bool := sideB W H && decide ((zs.length : Int) = W * H) && finL zs
theorem sideB_true {W H : Int} (h : sideB W H = true) : (1 ≤ W ∧ W ≤ 16) ∧ 1 ≤ H ∧ H ≤ 16 := by simpa [sideB, and_assoc] using h
theorem side_mul {W H : Int} (h : sideB W H = true) : 1 ≤ W * H ∧ W * H ≤ 256 := by
  obtain ⟨⟨h1, h2⟩, h3, h4⟩ := sideB_true h
  have : W * H ≤ 16 * 16 := Int.mul_le_mul h2 h4 (by omega) (by omega)
  have h5 : 1 * 1 ≤ W * H := Int.mul_le_mul h1 h3 (by omega) (by omega)
  omega
theorem sideB_false {W H : Int} (h : sideB W H = false) : W < 1 ∨ 16 < W ∨ H < 1 ∨ 16 < H := by
  simp [sideB] at h; omega
theorem finL_snoc (zs : List Nat) (k : Nat) (hk : k < zs.length) : finL (zs.take (k + 1)) = (finL (zs.take k) && finB .f32 (fat zs k)) := by
  unfold finL fat
  rw [List.take_succ_eq_append_getElem hk, List.all_append, List.getD, List.getElem?_eq_getElem hk]; simp
theorem finL_of (zs : List Nat) (k : Nat) (hk : k < zs.length) (h : finB .f32 (fat zs k) = false) : finL zs = false := by
  unfold finL
  rw [List.all_eq_false]
  refine ⟨zs[k], List.getElem_mem hk, ?_⟩
  unfold fat at h
  rw [List.getD, List.getElem?_eq_getElem hk] at h
  simpa using h
theorem pick0 (k : FloatKind) (v : Nat) (hv : v < 2 ^ k.format.width) : ∃ n, v = pick k v n := pick_onto k v hv
/-! ### meanDefs -/
def meanV (zs : List Nat) : Nat := fop .quo .f32 (sumF .add .f32 0 zs) (floatOfInt .f32 (zs.length : Int))
def numR (v : Nat) : Nat × Bool := if finB .f32 v = true then (v, true) else (0, false)
def meanR (W H : Int) (zs : List Nat) : Nat × Bool := if validB W H zs = true then numR (meanV zs) else (0, false)
theorem mean_len {W H : Int} {zs : List Nat} (h : validB W H zs = true) : zs.length ≤ 256 := by
  simp only [validB, Bool.and_eq_true, decide_eq_true_eq] at h
  obtain ⟨⟨h1, h2⟩, h3⟩ := h
  have := side_mul h1
  omega
theorem pick00 : pick .f32 0 0 = 0 := pick_not (show isN .f32 0 = false from by decide +kernel) 0
/-! ### colDefs -/
def colB (r g b : Nat) : Bool := finB .f32 r && (finB .f32 g && finB .f32 b)
def greyV (r g b : Nat) : Nat := fop .add .f32 (fop .add .f32 (fop .mul .f32 1046066128 r) (fop .mul .f32 1060575065 g)) (fop .mul .f32 1033100696 b)
def greyR (r g b : Nat) : Nat × Bool := if colB r g b = true then numR (greyV r g b) else (0, false)
theorem retF1no {w : World} {e : Ending} {w' : World} (h : e = .returned (.tuple #[.float .f32 0, .bool false])) (hw : Below w.heap.size w w') : RetF1 (0, false) w e w' := ⟨0, by rw [h]; simp only [pick00], hw⟩
theorem fin3 (a b c n m l : Nat) : finL [pick .f32 a n, pick .f32 b m, pick .f32 c l] = colB a b c := by simp [finL, finB_pick, colB]
/-! ### wayDefs -/
def nzB (v : Nat) : Bool := FloatKind.f32.format.order v 0 != some .eq
def wayB (r g b : Nat) : Bool := colB r g b && (nzB r || (nzB g || nzB b))
/-! ### l01Finite -/
theorem c_l01Finite (v n : Nat) (w : World) (j : Nat) : Calls Try.prog 56 #[.float .f32 (pick .f32 v n)] (w.drewN j) (RetV (.bool (finB .f32 v)) w) := by
  go_enter Try.func56, Try.ntmps56
  go_wp2_with (first | (refine wpList_fop rfl _ _ _ _ _ rfl _ _ _ rfl rfl (by decide) _ ?_; intro _ _) | (refine upon_fop _ _ _ _ _ (by decide) ?_; intro _ _))
  go_ret
  rw [← sub_self_zero]
  exact ⟨_, rfl, rfl⟩
/-! ### l06Finite -/
theorem c_l06Finite (r n g m b k : Nat) (w : World) : Calls Try.prog 87 #[.agg #[.float .f32 (pick .f32 r n), .float .f32 (pick .f32 g m), .float .f32 (pick .f32 b k)]] w (RetB (.bool (colB r g b)) w) := by
  unfold colB
  generalize hw0 : w.alloc (Obj.cells #[.float .f32 (pick .f32 r n), .float .f32 (pick .f32 g m), .float .f32 (pick .f32 b k)] 26) = w0
  have X0 : Var w0 w.heap.size #[.float .f32 (pick .f32 r n), .float .f32 (pick .f32 g m), .float .f32 (pick .f32 b k)] := by subst hw0; exact Var.new _ _ _
  have X1 : Below w.heap.size w w0 := by subst hw0; exact (Below.refl _ _).alloc (Nat.le_refl _) _
  have SZ := Lib.hid (show w0.heap.size = w.heap.size + 1 from by subst hw0; simp)
  have HW := Lib.hid hw0
  have B0 := Lib.hid X1
  have V0 := Lib.hid X0
  obtain ⟨q0, q1, q2⟩ := X0.three
  clear hw0 X0 X1
  go_enter Try.func87, Try.ntmps87
  go_wp2_with fail
  rw [HW.out, ← w0.drewN_zero]
  go_wp2_with ((go_at_call 56; refine (c_l01Finite _ _ _ _).mono ?_; rintro _ _ ⟨_, rfl, rfl⟩))
  all_goals (go_ret; exact ⟨by simp [*], below_drewN B0.out _⟩)
/-! ### l06Is -/
theorem c_l06Is (r n g m b k : Nat) (w : World) : Calls Try.prog 45 #[.agg #[.float .f32 (pick .f32 r n), .float .f32 (pick .f32 g m), .float .f32 (pick .f32 b k)]] w (RetB (.bool (wayB r g b)) w) := by
  have CF := Lib.hid (fun w => c_l06Finite r n g m b k w)
  unfold wayB
  generalize colB r g b = q at *
  generalize hw0 : w.alloc (Obj.cells #[.float .f32 (pick .f32 r n), .float .f32 (pick .f32 g m), .float .f32 (pick .f32 b k)] 26) = w0
  have X0 : Var w0 w.heap.size #[.float .f32 (pick .f32 r n), .float .f32 (pick .f32 g m), .float .f32 (pick .f32 b k)] := by subst hw0; exact Var.new _ _ _
  have X1 : Below w.heap.size w w0 := by subst hw0; exact (Below.refl _ _).alloc (Nat.le_refl _) _
  have SZ := Lib.hid (show w0.heap.size = w.heap.size + 1 from by subst hw0; simp)
  have HW := Lib.hid hw0
  have B0 := Lib.hid X1
  have V0 := Lib.hid X0
  obtain ⟨q0, q1, q2⟩ := X0.three
  clear hw0 X0 X1
  unfold nzB
  cases h1 : (FloatKind.f32.format.order r 0 != some .eq) <;> cases h2 : (FloatKind.f32.format.order g 0 != some .eq) <;> cases h3 : (FloatKind.f32.format.order b 0 != some .eq) <;> cases q
  all_goals
    go_enter Try.func45, Try.ntmps45
    go_wp2_with fail
    rw [HW.out]
    go_wp2_with fail
    refine (CF.out _).mono ?_
    rintro _ w1 ⟨rfl, b1⟩
    have B1 := Lib.hid (B0.out.trans (b1.mono B0.out.size))
    have V1 := Lib.hid (V0.out.keep b1)
    clear b1 q0 q1 q2
    obtain ⟨q0, q1, q2⟩ := V1.out.three
    go_wp2_with fail
    go_ret
    exact ⟨rfl, B1.out⟩
/-! ### ordDefs -/
theorem cmp_bools (a b : Int) : ((some (compare a b) == some Ordering.lt) = decide (a < b)) ∧ ((some (compare a b) == some Ordering.gt) = decide (b < a)) ∧ ((some (compare a b) == some Ordering.eq) = decide (a = b)) := by
  rcases Int.lt_trichotomy a b with h | h | h
  · rw [cmp_of_lt h, decide_eq_true h, decide_eq_false (by omega), decide_eq_false (by omega)]; exact ⟨rfl, rfl, rfl⟩
  · subst h; rw [Int.compare_eq_eq.2 rfl, decide_eq_false (by omega), decide_eq_true rfl]; exact ⟨rfl, rfl, rfl⟩
  · rw [cmp_of_gt h, decide_eq_false (by omega), decide_eq_true h, decide_eq_false (by omega)]; exact ⟨rfl, rfl, rfl⟩
theorem o_lt {v c : Nat} (h : isN .f32 v = false) (hc : isN .f32 c = false) : (FloatKind.f32.format.order v c == some .lt) = decide (srung FloatKind.f32.format v < srung FloatKind.f32.format c) := by
  rw [order_rungs .f32 v c h hc]; exact (cmp_bools _ _).1
theorem o_gt {v c : Nat} (h : isN .f32 v = false) (hc : isN .f32 c = false) : (FloatKind.f32.format.order v c == some .gt) = decide (srung FloatKind.f32.format c < srung FloatKind.f32.format v) := by
  rw [order_rungs .f32 v c h hc]; exact (cmp_bools _ _).2.1
theorem o_eq {v c : Nat} (h : isN .f32 v = false) (hc : isN .f32 c = false) : (FloatKind.f32.format.order v c == some .eq) = decide (srung FloatKind.f32.format v = srung FloatKind.f32.format c) := by
  rw [order_rungs .f32 v c h hc]; exact (cmp_bools _ _).2.2
theorem o_le {v c : Nat} (h : isN .f32 v = false) (hc : isN .f32 c = false) : (FloatKind.f32.format.order v c == some .lt || FloatKind.f32.format.order v c == some .eq) = decide (srung FloatKind.f32.format v ≤ srung FloatKind.f32.format c) := by
  rw [o_lt h hc, o_eq h hc, ← Bool.decide_or]; exact decide_eq_decide.2 (by omega)
theorem o_ge {v c : Nat} (h : isN .f32 v = false) (hc : isN .f32 c = false) : (FloatKind.f32.format.order v c == some .gt || FloatKind.f32.format.order v c == some .eq) = decide (srung FloatKind.f32.format c ≤ srung FloatKind.f32.format v) := by
  rw [o_gt h hc, o_eq h hc, ← Bool.decide_or]; exact decide_eq_decide.2 (by omega)
theorem s_zero : srung FloatKind.f32.format 0 = 0 := by decide +kernel
theorem s_half : srung FloatKind.f32.format 1056964608 = 1056964608 := by decide +kernel
theorem s_one : srung FloatKind.f32.format 1065353216 = 1065353216 := by decide +kernel
theorem n_zero : isN .f32 0 = false := by decide +kernel
theorem n_half : isN .f32 1056964608 = false := by decide +kernel
theorem n_one : isN .f32 1065353216 = false := by decide +kernel
theorem pick_zero (n : Nat) : pick .f32 0 n = 0 := pick_not n_zero n
/-! ### haloFacts -/
theorem zero_read {g : Nat} (h : rung Ieee.single g = 0) : Ieee.single.read g = .number (sgn Ieee.single g) 0 Ieee.single.leastPlace := by
  unfold Ieee.Format.read
  have hb : g % Ieee.single.signWeight = 0 := h
  dsimp only
  rw [hb, if_pos (by decide +kernel)]
  rfl
theorem rung_word0 (f : Ieee.Format) (s : Bool) : rung f (f.word s 0) = 0 := by
  unfold rung Ieee.Format.word
  cases s <;> simp
theorem srung_of_zero {f : Ieee.Format} {a : Nat} (h : rung f a = 0) : srung f a = 0 := by unfold srung; rw [h]; split <;> rfl
theorem signed_zero (t : Bool) (k : Nat) : Ieee.signed t 0 k = 0 := by unfold Ieee.signed; cases t <;> simp
theorem number_zero (f : Ieee.Format) (s : Bool) (p : Int) : srung f (f.write (.number s 0 p)) = 0 := by
  show srung f (f.nearest s 0 p) = 0
  unfold Ieee.Format.nearest
  rw [if_pos rfl]
  exact srung_of_zero (rung_word0 f s)
/-- A difference doesn't ask for the sign of a zero, but for its own zero's. -/
theorem sub_zeros {x g h : Nat} (hx : rung Ieee.single x < Ieee.single.infRung) (hg : rung Ieee.single g = 0) (hh : rung Ieee.single h = 0) :
    srung Ieee.single (fop .sub .f32 x g) = srung Ieee.single (fop .sub .f32 x h) := by
  obtain ⟨m, e, r1, _, _⟩ := read_fin Ieee.single x hx
  have hf : FloatKind.f32.format = Ieee.single := rfl
  unfold fop floatBits
  rw [hf]
  simp only [Ieee.Format.sub, r1, zero_read hg, zero_read hh, Ieee.Datum.opposite, Ieee.Datum.sum, signed_zero, Int.add_zero, Option.map_some, Option.getD_some]
  generalize Ieee.signed (sgn Ieee.single x) m (e - min e Ieee.single.leastPlace).toNat = t
  by_cases ht : t = 0
  · subst ht; exact (number_zero _ _ _).trans (number_zero _ _ _).symm
  · rw [if_neg ht, if_neg ht]
theorem zeros_sub {x g h : Nat} (hx : rung Ieee.single x < Ieee.single.infRung) (hg : rung Ieee.single g = 0) (hh : rung Ieee.single h = 0) :
    srung Ieee.single (fop .sub .f32 g x) = srung Ieee.single (fop .sub .f32 h x) := by
  obtain ⟨m, e, r1, _, _⟩ := read_fin Ieee.single x hx
  have hf : FloatKind.f32.format = Ieee.single := rfl
  unfold fop floatBits
  rw [hf]
  simp only [Ieee.Format.sub, r1, zero_read hg, zero_read hh, Ieee.Datum.opposite, Ieee.Datum.sum, signed_zero, Int.zero_add, Option.map_some, Option.getD_some]
  generalize Ieee.signed (!sgn Ieee.single x) m (e - min Ieee.single.leastPlace e).toNat = t
  by_cases ht : t = 0
  · subst ht; exact (number_zero _ _ _).trans (number_zero _ _ _).symm
  · rw [if_neg ht, if_neg ht]
theorem srung_inj {a b : Nat} (ha : a < 2 ^ 32) (hb : b < 2 ^ 32) (h : srung Ieee.single a = srung Ieee.single b) : a = b ∨ (rung Ieee.single a = 0 ∧ rung Ieee.single b = 0) := by
  have hw : Ieee.single.signWeight = 2147483648 := by decide +kernel
  unfold srung rung sgn at h
  unfold rung
  rw [hw] at h ⊢
  have e1 : a / 2147483648 = 0 ∨ a / 2147483648 = 1 := by omega
  have e2 : b / 2147483648 = 0 ∨ b / 2147483648 = 1 := by omega
  rcases e1 with e1 | e1 <;> rcases e2 with e2 | e2 <;> simp [e1, e2] at h <;> omega
theorem maxV_cases {x y : Nat} (hx : isN .f32 x = false) (hy : isN .f32 y = false) : (maxV .f32 x y = x ∨ maxV .f32 x y = y) ∧ srung Ieee.single (maxV .f32 x y) = max (srung Ieee.single x) (srung Ieee.single y) := by
  unfold maxV
  rw [hx, hy, if_neg (by decide), o_lt hx hy, o_gt hx hy]
  have hf : FloatKind.f32.format = Ieee.single := rfl
  rw [hf]
  by_cases h1 : srung Ieee.single x < srung Ieee.single y
  · rw [if_pos (decide_eq_true h1)]; exact ⟨.inr rfl, by omega⟩
  · rw [if_neg (by rw [decide_eq_true_eq]; exact h1)]
    by_cases h2 : srung Ieee.single y < srung Ieee.single x
    · rw [if_pos (decide_eq_true h2)]; exact ⟨.inl rfl, by omega⟩
    · rw [if_neg (by rw [decide_eq_true_eq]; exact h2)]
      split
      · exact ⟨.inr rfl, by omega⟩
      · exact ⟨.inl rfl, by omega⟩
theorem minV_cases {x y : Nat} (hx : isN .f32 x = false) (hy : isN .f32 y = false) : (minV .f32 x y = x ∨ minV .f32 x y = y) ∧ srung Ieee.single (minV .f32 x y) = min (srung Ieee.single x) (srung Ieee.single y) := by
  unfold minV
  rw [hx, hy, if_neg (by decide), o_lt hx hy, o_gt hx hy]
  have hf : FloatKind.f32.format = Ieee.single := rfl
  rw [hf]
  by_cases h1 : srung Ieee.single x < srung Ieee.single y
  · rw [if_pos (decide_eq_true h1)]; exact ⟨.inl rfl, by omega⟩
  · rw [if_neg (by rw [decide_eq_true_eq]; exact h1)]
    by_cases h2 : srung Ieee.single y < srung Ieee.single x
    · rw [if_pos (decide_eq_true h2)]; exact ⟨.inr rfl, by omega⟩
    · rw [if_neg (by rw [decide_eq_true_eq]; exact h2)]
      split
      · exact ⟨.inl rfl, by omega⟩
      · exact ⟨.inr rfl, by omega⟩
/-! ### faceFacts -/
theorem fneg_s {v : Nat} (h : isN .f32 v = false) : srung Ieee.single (fneg .f32 v) = - srung Ieee.single v ∧ isN .f32 (fneg .f32 v) = false := by
  refine ⟨?_, by rw [isN_fneg]; exact h⟩
  have e : fneg .f32 v = Op.negFloat .f32 v := by unfold fneg; rw [h]; rfl
  have h1 := rung_neg .f32 v
  have h2 := sgn_neg .f32 v
  have hf : FloatKind.f32.format = Ieee.single := rfl
  rw [hf] at h1 h2
  rw [e]
  unfold srung
  rw [h1, h2]
  cases sgn Ieee.single v <;> simp
theorem fneg_lt {v : Nat} (hv : v < 2 ^ 32) (h : isN .f32 v = false) : fneg .f32 v < 2 ^ 32 := by
  have e : fneg .f32 v = Op.negFloat .f32 v := by unfold fneg; rw [h]; rfl
  have hs : FloatKind.f32.format.signWeight = 2147483648 := by decide +kernel
  rw [e]
  by_cases hlt : v < 2147483648
  · rw [neg_lt .f32 v (by rw [hs]; exact hlt), hs]; omega
  · have h1 := neg_lt .f32 (v - 2147483648) (by rw [hs]; omega)
    have h2 : FloatKind.f32.format.signWeight + (v - 2147483648) = v := by rw [hs]; omega
    rw [h2] at h1
    rw [← h1, neg_neg]; omega
theorem sub0_s {x : Nat} (hx : rung Ieee.single x < Ieee.single.infRung) : srung Ieee.single (fop .sub .f32 0 x) = - srung Ieee.single x ∧ isN .f32 (fop .sub .f32 0 x) = false := by
  obtain ⟨m, e, r1, hlp, hmg⟩ := read_fin Ieee.single x hx
  have hf : FloatKind.f32.format = Ieee.single := rfl
  have h0 : rung Ieee.single 0 = 0 := by decide +kernel
  have s0 : sgn Ieee.single 0 = false := by decide +kernel
  have hb : min Ieee.single.leastPlace e = Ieee.single.leastPlace := by omega
  have hs : Ieee.signed (!sgn Ieee.single x) m (e - Ieee.single.leastPlace).toNat = if sgn Ieee.single x = true then ((mg Ieee.single (rung Ieee.single x) : Nat) : Int) else -((mg Ieee.single (rung Ieee.single x) : Nat) : Int) := by
    unfold Ieee.signed
    rw [Nat.shiftLeft_eq, hmg]
    cases sgn Ieee.single x <;> simp
  have key : fop .sub .f32 0 x = Ieee.single.write (.number (if (if sgn Ieee.single x = true then ((mg Ieee.single (rung Ieee.single x) : Nat) : Int) else -((mg Ieee.single (rung Ieee.single x) : Nat) : Int)) = 0 then false && !sgn Ieee.single x else (if sgn Ieee.single x = true then ((mg Ieee.single (rung Ieee.single x) : Nat) : Int) else -((mg Ieee.single (rung Ieee.single x) : Nat) : Int)) < 0) (if sgn Ieee.single x = true then ((mg Ieee.single (rung Ieee.single x) : Nat) : Int) else -((mg Ieee.single (rung Ieee.single x) : Nat) : Int)).natAbs Ieee.single.leastPlace) := by
    unfold fop floatBits
    rw [hf]
    simp only [Ieee.Format.sub, r1, zero_read h0, s0, Ieee.Datum.opposite, Ieee.Datum.sum, signed_zero, Int.zero_add, Option.map_some, Option.getD_some, hb, hs]
  have hN : isN .f32 (fop .sub .f32 0 x) = false := by
    rw [key]; exact write_notNaN _ _ rfl
  refine ⟨?_, hN⟩
  rw [key]
  clear key hN
  by_cases hz : rung Ieee.single x = 0
  · have M0 : mg Ieee.single (rung Ieee.single x) = 0 := by rw [hz]; exact mg_zero _
    rw [M0, srung_of_zero hz]
    have : (if sgn Ieee.single x = true then ((0 : Nat) : Int) else -((0 : Nat) : Int)) = 0 := by split <;> rfl
    rw [this]
    exact number_zero _ _ _
  · have Mpos : 0 < mg Ieee.single (rung Ieee.single x) := by
      have := mg_lt Ieee.single (r := 0) (s := rung Ieee.single x) (by omega)
      omega
    have hsw : Ieee.single.infRung < Ieee.single.signWeight := by decide +kernel
    have hn : ∀ b, Ieee.single.nearest b (mg Ieee.single (rung Ieee.single x)) Ieee.single.leastPlace = Ieee.single.word b (rung Ieee.single x) := by
      intro b
      obtain ⟨q, e1, h1, h3⟩ := nearest_le Ieee.single b (mg Ieee.single (rung Ieee.single x)) Ieee.single.leastPlace (rung Ieee.single x) (by unfold leRung; exact Nat.le_refl _)
      obtain ⟨q', e2, h2, h4⟩ := nearest_ge Ieee.single b (mg Ieee.single (rung Ieee.single x)) Ieee.single.leastPlace (rung Ieee.single x) (by omega) (by unfold geRung; exact Nat.le_refl _)
      have h5 := (word_signs Ieee.single b q (by omega)).2
      have h6 := (word_signs Ieee.single b q' (by omega)).2
      rw [← e1, e2, h6] at h5
      rw [e1]
      congr 1
      omega
    have hw : ∀ b, srung Ieee.single (Ieee.single.word b (rung Ieee.single x)) = if b = true then -(rung Ieee.single x : Int) else rung Ieee.single x := by
      intro b
      obtain ⟨h1, h2⟩ := word_signs Ieee.single b (rung Ieee.single x) (by omega)
      unfold srung
      rw [h1, h2]
    cases hsx : sgn Ieee.single x
    · simp only [Bool.false_eq_true, if_false]
      rw [if_neg (show ¬ (-((mg Ieee.single (rung Ieee.single x) : Nat) : Int)) = 0 by omega)]
      have e1 : decide (-((mg Ieee.single (rung Ieee.single x) : Nat) : Int) < 0) = true := decide_eq_true (by omega)
      have e2 : (-((mg Ieee.single (rung Ieee.single x) : Nat) : Int)).natAbs = mg Ieee.single (rung Ieee.single x) := by omega
      rw [e1, e2]
      show srung Ieee.single (Ieee.single.nearest true _ _) = _
      rw [hn, hw, if_pos rfl]
      unfold srung
      rw [hsx]; simp
    · simp only [if_true]
      rw [if_neg (show ¬ (((mg Ieee.single (rung Ieee.single x) : Nat) : Int)) = 0 by omega)]
      have e1 : decide (((mg Ieee.single (rung Ieee.single x) : Nat) : Int) < 0) = false := decide_eq_false (by omega)
      have e2 : (((mg Ieee.single (rung Ieee.single x) : Nat) : Int)).natAbs = mg Ieee.single (rung Ieee.single x) := by omega
      rw [e1, e2]
      show srung Ieee.single (Ieee.single.nearest false _ _) = _
      rw [hn, hw, if_neg (by simp)]
      unfold srung
      rw [hsx]; simp
def geB (a b : Nat) : Bool := FloatKind.f32.format.order a b == some .gt || FloatKind.f32.format.order a b == some .eq
def gtB (a b : Nat) : Bool := FloatKind.f32.format.order a b == some .gt
def ltB (a b : Nat) : Bool := FloatKind.f32.format.order a b == some .lt
def leB (a b : Nat) : Bool := FloatKind.f32.format.order a b == some .lt || FloatKind.f32.format.order a b == some .eq
def absP (v : Nat) : Nat := maxV .f32 v (fneg .f32 v)
def absS (v : Nat) : Nat := if leB v 0 = true then fop .sub .f32 0 v else v
structure AbsOk (v u : Nat) : Prop where
  s : srung Ieee.single u = ((srung Ieee.single v).natAbs : Int)
  n : isN .f32 u = false
  lt : u < 2 ^ 32
theorem absP_ok {v : Nat} (hv : v < 2 ^ 32) (hf : finB .f32 v = true) : AbsOk v (absP v) := by
  have h1 : isN .f32 v = false := fin_notN hf
  obtain ⟨h2, h3⟩ := fneg_s h1
  obtain ⟨h4, h5⟩ := maxV_cases h1 h3
  unfold absP
  refine ⟨?_, ?_, ?_⟩
  · rw [h5, h2]; omega
  · rcases h4 with e | e <;> rw [e] <;> assumption
  · rcases h4 with e | e <;> rw [e]
    · exact hv
    · exact fneg_lt hv h1
theorem absS_ok {v : Nat} (hv : v < 2 ^ 32) (hf : finB .f32 v = true) : AbsOk v (absS v) := by
  have h1 : isN .f32 v = false := fin_notN hf
  have hr : rung Ieee.single v < Ieee.single.infRung := of_decide_eq_true hf
  obtain ⟨h2, h3⟩ := sub0_s hr
  unfold absS leB
  rw [o_le h1 n_zero, s_zero]
  have hff : FloatKind.f32.format = Ieee.single := rfl
  rw [hff]
  by_cases hc : srung Ieee.single v ≤ 0
  · rw [decide_eq_true hc, if_pos rfl]
    exact ⟨by rw [h2]; omega, h3, fop_lt _ .f32 _ _⟩
  · rw [decide_eq_false hc, if_neg (by decide)]
    exact ⟨by omega, h1, hv⟩
def faceP (x y z : Nat) : Int × Nat × Nat × Nat := if (geB (absP x) (absP y) && geB (absP x) (absP z)) = true then (0, x, y, z) else if geB (absP y) (absP z) = true then (2, y, x, z) else (4, z, x, y)
def alongP (v : Nat) : Nat := if ltB v 0 = true then fneg .f32 v else v
def faceQ (t : Int × Nat × Nat × Nat) : Int × Nat × Nat × Bool := (if ltB t.2.1 0 = true then t.1 + 1 else t.1, fop .quo .f32 t.2.2.1 (alongP t.2.1), fop .quo .f32 t.2.2.2 (alongP t.2.1), true)
def faceO (x y z : Nat) : Int × Nat × Nat × Bool := if wayB x y z = true then faceQ (faceP x y z) else (0, 0, 0, false)
def specF (x y z : Nat) : Int × Nat × Nat × Nat × Nat := if gtB (absS y) (absS x) = true then (if gtB (absS z) (absS y) = true then (4, z, absS z, x, y) else (2, y, absS y, x, z)) else (if gtB (absS z) (absS x) = true then (4, z, absS z, x, y) else (0, x, absS x, y, z))
def specQ (t : Int × Nat × Nat × Nat × Nat) : Int × Nat × Nat × Bool := (if gtB t.2.1 0 = true then t.1 else t.1 + 1, fop .quo .f32 t.2.2.2.1 t.2.2.1, fop .quo .f32 t.2.2.2.2 t.2.2.1, true)
theorem along_same {v : Nat} (hv : v < 2 ^ 32) (hf : finB .f32 v = true) (h0 : srung Ieee.single v ≠ 0) : alongP v = absS v ∧ (ltB v 0 = !gtB v 0) := by
  have h1 : isN .f32 v = false := fin_notN hf
  have hA := absS_ok hv hf
  obtain ⟨h2, h3⟩ := fneg_s h1
  have hff : FloatKind.f32.format = Ieee.single := rfl
  unfold alongP ltB gtB
  rw [o_lt h1 n_zero, o_gt h1 n_zero, s_zero, hff]
  have nz : ∀ {a : Nat}, srung Ieee.single a = ((srung Ieee.single v).natAbs : Int) → ¬ rung Ieee.single a = 0 := fun h e => by rw [srung_of_zero e] at h; omega
  by_cases hc : srung Ieee.single v < 0
  · rw [decide_eq_true hc, decide_eq_false (by omega), if_pos rfl]
    refine ⟨?_, rfl⟩
    rcases srung_inj (fneg_lt hv h1) hA.lt (by rw [h2, hA.s]; omega) with e | ⟨e, _⟩
    · exact e
    · exact absurd e (nz (by rw [h2]; omega))
  · rw [decide_eq_false hc, decide_eq_true (by omega), if_neg (by decide)]
    refine ⟨?_, rfl⟩
    rcases srung_inj hv hA.lt (by rw [hA.s]; omega) with e | ⟨e, _⟩
    · exact e
    · exact absurd e (nz (by omega))
theorem face_same {x y z : Nat} (hx : x < 2 ^ 32) (hy : y < 2 ^ 32) (hz : z < 2 ^ 32) (h : wayB x y z = true) : faceQ (faceP x y z) = specQ (specF x y z) := by
  unfold wayB colB at h
  simp only [Bool.and_eq_true] at h
  obtain ⟨⟨fx, fy, fz⟩, hnz⟩ := h
  have hff : FloatKind.f32.format = Ieee.single := rfl
  unfold nzB bne at hnz
  rw [o_eq (fin_notN fx) n_zero, o_eq (fin_notN fy) n_zero, o_eq (fin_notN fz) n_zero, s_zero, hff] at hnz
  have hnz' : srung Ieee.single x ≠ 0 ∨ srung Ieee.single y ≠ 0 ∨ srung Ieee.single z ≠ 0 := by
    simp only [Bool.or_eq_true, Bool.not_eq_true', decide_eq_false_iff_not] at hnz
    exact hnz
  have px := absP_ok hx fx
  have py := absP_ok hy fy
  have pz := absP_ok hz fz
  have sx := absS_ok hx fx
  have sy := absS_ok hy fy
  have sz := absS_ok hz fz
  have fin : ∀ (f : Int) (v a b : Nat), v < 2 ^ 32 → finB .f32 v = true → srung Ieee.single v ≠ 0 → faceQ (f, v, a, b) = specQ (f, v, absS v, a, b) := by
    intro f v a b hv hf h0
    obtain ⟨e1, e2⟩ := along_same hv hf h0
    unfold faceQ specQ
    simp only [e1, e2]
    cases gtB v 0 <;> rfl
  unfold faceP specF geB gtB
  rw [o_ge px.n py.n, o_ge px.n pz.n, o_ge py.n pz.n, o_gt sy.n sx.n, o_gt sz.n sy.n, o_gt sz.n sx.n, hff, px.s, py.s, pz.s, sx.s, sy.s, sz.s]
  generalize hX : ((srung Ieee.single x).natAbs : Int) = X
  generalize hY : ((srung Ieee.single y).natAbs : Int) = Y
  generalize hZ : ((srung Ieee.single z).natAbs : Int) = Z
  by_cases c1 : Y ≤ X ∧ Z ≤ X
  · rw [decide_eq_true c1.1, decide_eq_true c1.2, decide_eq_false (show ¬ X < Y by omega), decide_eq_false (show ¬ X < Z by omega)]
    exact fin 0 x y z hx fx (by omega)
  · by_cases c2 : Z ≤ Y
    · have h1 : X < Y := by omega
      rw [decide_eq_false (show ¬ Y ≤ X by omega), decide_eq_true c2, decide_eq_true h1, decide_eq_false (show ¬ Y < Z by omega)]
      exact fin 2 y x z hy fy (by omega)
    · rw [decide_eq_false c2]
      have e1 : (decide (Y ≤ X) && decide (Z ≤ X)) = false := by
        cases h1 : decide (Y ≤ X)
        · rfl
        · rw [decide_eq_true_eq] at h1; rw [decide_eq_false (show ¬ Z ≤ X by omega)]; rfl
      rw [e1, decide_eq_true (show Y < Z by omega)]
      by_cases h2 : X < Y
      · rw [decide_eq_true h2]
        exact fin 4 z x y hz fz (by omega)
      · rw [decide_eq_false h2, decide_eq_true (show X < Z by omega)]
        exact fin 4 z x y hz fz (by omega)

/-! ### mulInf -/
theorem inf_notfin (s : Bool) : finB .f32 (FloatKind.f32.format.write (.infinity s)) = false := by cases s <;> decide +kernel
theorem rung_split {v : Nat} (h : finB .f32 v = false) (hn : isN .f32 v = false) : FloatKind.f32.format.read v = .infinity (sgn FloatKind.f32.format v) := by
  have h1 : ¬ rung FloatKind.f32.format v < FloatKind.f32.format.infRung := of_decide_eq_false h
  have h2 := isN_rung' .f32 v
  rw [hn] at h2
  have h3 := of_decide_eq_false h2.symm
  exact read_inf .f32 v (by omega)
/-- A product with a factor that isn't finite isn't finite. -/
theorem mul_notfin (x : Nat) {v : Nat} (hv : finB .f32 v = false) : finB .f32 (fop .mul .f32 x v) = false := by
  cases h : isN .f32 v
  · have h3 := rung_split hv h
    cases hx : isN .f32 x
    · cases hf : finB .f32 x
      · have h4 := rung_split hf hx
        have e : fop .mul .f32 x v = FloatKind.f32.format.write (.infinity (sgn FloatKind.f32.format x ^^ sgn FloatKind.f32.format v)) := by
          unfold fop floatBits Ieee.Format.mul
          simp only [h3, h4, Ieee.Datum.product]
          rfl
        rw [e]; exact inf_notfin _
      · obtain ⟨m, e, h4, _, _⟩ := read_fin FloatKind.f32.format x (of_decide_eq_true hf)
        by_cases hm : m = 0
        · have e : fop .mul .f32 x v = qn .f32 := by
            unfold fop floatBits Ieee.Format.mul
            simp only [h3, h4, Ieee.Datum.product, hm, if_true]
            rfl
          rw [e]; exact finB_nan (isN_qn .f32)
        · have e : fop .mul .f32 x v = FloatKind.f32.format.write (.infinity (sgn FloatKind.f32.format v ^^ sgn FloatKind.f32.format x)) := by
            unfold fop floatBits Ieee.Format.mul
            simp only [h3, h4, Ieee.Datum.product, hm, if_false]
            rfl
          rw [e]; exact inf_notfin _
    · exact finB_nan (isN_fop_l v hx)
  · exact finB_nan (isN_fop_r x h)

/-! ### wayFacts -/
theorem quo_inf {x v : Nat} (hx : finB .f32 x = true) (hv : finB .f32 v = false) (hn : isN .f32 v = false) : nzB (fop .quo .f32 x v) = false := by
  have h3 := rung_split hv hn
  obtain ⟨m, e, h4, _, _⟩ := read_fin FloatKind.f32.format x (of_decide_eq_true hx)
  have e : fop .quo .f32 x v = FloatKind.f32.format.write (.number (sgn FloatKind.f32.format x ^^ sgn FloatKind.f32.format v) 0 0) := by
    unfold fop floatBits Ieee.Format.div
    simp only [h3, h4, Ieee.Datum.quotient]
    rfl
  rw [e]
  generalize (sgn FloatKind.f32.format x ^^ sgn FloatKind.f32.format v) = s
  cases s <;> decide +kernel
def rootV (v : Nat) : Nat := cvN (fsqrt (cvU v))
theorem root_notfin {v : Nat} (h : finB .f32 v = false) : finB .f32 (rootV v) = false := by
  unfold rootV
  cases hn : isN .f32 v
  · have h1 : ¬ rung FloatKind.f32.format v < FloatKind.f32.format.infRung := of_decide_eq_false h
    have h2 := isN_rung' .f32 v
    rw [hn] at h2
    have h3 := of_decide_eq_false h2.symm
    have h4 : rung Ieee.single v = Ieee.single.infRung := by
      have : rung FloatKind.f32.format v = FloatKind.f32.format.infRung := by omega
      exact this
    have h5 : cvU v = Ieee.double.word (sgn Ieee.single v) Ieee.double.infRung := by unfold cvU; rw [cvU_inf h4]; rfl
    rw [h5]
    generalize sgn Ieee.single v = s
    cases s <;> decide +kernel
  · rw [cvU_qn hn]; decide +kernel
def t0 : (Nat × Nat × Nat) × Bool := ((0, 0, 0), false)
def giveW (t : Nat × Nat × Nat) : (Nat × Nat × Nat) × Bool := if wayB t.1 t.2.1 t.2.2 = true then (t, true) else t0
theorem unit_no {x y z r : Nat} (hx : finB .f32 x = true) (hy : finB .f32 y = true) (hz : finB .f32 z = true) (hr : finB .f32 r = false) : wayB (fop .quo .f32 x r) (fop .quo .f32 y r) (fop .quo .f32 z r) = false := by
  unfold wayB
  cases hn : isN .f32 r
  · rw [quo_inf hx hr hn, quo_inf hy hr hn, quo_inf hz hr hn]; simp
  · have : colB (fop .quo .f32 x r) (fop .quo .f32 y r) (fop .quo .f32 z r) = false := by
      unfold colB; rw [finB_nan (isN_fop_r x hn)]; rfl
    rw [this]; rfl
def innV (x y z a b c : Nat) : Nat := fop .add .f32 (fop .add .f32 (fop .mul .f32 x a) (fop .mul .f32 y b)) (fop .mul .f32 z c)
def unitT (x y z r : Nat) : Nat × Nat × Nat := (fop .quo .f32 x r, fop .quo .f32 y r, fop .quo .f32 z r)
def unitW (x y z : Nat) : (Nat × Nat × Nat) × Bool := if wayB x y z = true then giveW (unitT x y z (rootV (innV x y z x y z))) else t0
theorem unitW_no {x y z : Nat} (h : wayB x y z = false ∨ finB .f32 (innV x y z x y z) = false) : unitW x y z = t0 := by
  unfold unitW
  cases hw : wayB x y z
  · rfl
  · rcases h with h | h
    · rw [h] at hw; cases hw
    · rw [if_pos rfl]
      have hc : colB x y z = true := by unfold wayB at hw; rw [Bool.and_eq_true] at hw; exact hw.1
      unfold colB at hc
      simp only [Bool.and_eq_true] at hc
      have := unit_no hc.1 hc.2.1 hc.2.2 (root_notfin h)
      unfold giveW unitT
      rw [this]; rfl
def innR (x y z a b c : Nat) : Nat × Bool := if (wayB x y z && wayB a b c) = true then numR (innV x y z a b c) else (0, false)
/-! ### way2Defs -/
def WayB2 (t : (Nat × Nat × Nat) × Bool) (w : World) (e : Ending) (w' : World) : Prop := ∃ n m k, e = .returned (.tuple #[.agg #[.float .f32 (pick .f32 t.1.1 n), .float .f32 (pick .f32 t.1.2.1 m), .float .f32 (pick .f32 t.1.2.2 k)], .bool t.2]) ∧ Below w.heap.size w w'
def WayR (t : Nat × Nat × Nat) (w : World) (e : Ending) (w' : World) : Prop := ∃ n m k, e = .returned (.agg #[.float .f32 (pick .f32 t.1 n), .float .f32 (pick .f32 t.2.1 m), .float .f32 (pick .f32 t.2.2 k)]) ∧ Below w.heap.size w w'
theorem WayB2.no {w : World} {e : Ending} {w' : World} (h : e = .returned (.tuple #[.agg #[.float .f32 0, .float .f32 0, .float .f32 0], .bool false])) (b : Below w.heap.size w w') : WayB2 t0 w e w' := ⟨0, 0, 0, by rw [h]; simp only [t0, pick00], b⟩
def RetN (v : Nat) (w : World) (e : Ending) (w' : World) : Prop := ∃ n, e = .returned (.float .f32 (pick .f32 v n)) ∧ Below w.heap.size w w'
theorem giveW_lt_no {r g b : Nat} (h : wayB r g b = false) : giveW (r, g, b) = t0 := by unfold giveW; rw [h]; rfl
theorem giveW_yes {r g b : Nat} (h : wayB r g b = true) : giveW (r, g, b) = ((r, g, b), true) := by unfold giveW; rw [h]; rfl
/-! ### faceOfDefs -/
def RetIFF (r : Int × Nat × Nat × Bool) (w : World) (e : Ending) (w' : World) : Prop := ∃ n m, e = .returned (.tuple #[.int .i64 r.1, .float .f32 (pick .f32 r.2.1 n), .float .f32 (pick .f32 r.2.2.1 m), .bool r.2.2.2]) ∧ Below w.heap.size w w'
theorem RetIFF.no {w : World} {e : Ending} {w' : World} (h : e = .returned (.tuple #[.int .i64 0, .float .f32 0, .float .f32 0, .bool false])) (b : Below w.heap.size w w') : RetIFF (0, 0, 0, false) w e w' := ⟨0, 0, by rw [h]; simp only [pick00], b⟩
/-! ### l02Size -/
theorem c_l02Size (v n : Nat) (w : World) (j : Nat) : Calls Try.prog 103 #[.float .f32 (pick .f32 v n)] (w.drewN j) (RetF .f32 (absS v) w) := by
  unfold absS leB
  cases h : (FloatKind.f32.format.order v 0 == some .lt || FloatKind.f32.format.order v 0 == some .eq)
  · rw [if_neg (by decide)]
    go_enter Try.func103, Try.ntmps103
    go_wp2_with (first | (refine wpList_fop rfl _ _ _ _ _ rfl _ _ _ rfl rfl (by decide) _ ?_; intro _ _) | (refine upon_fop _ _ _ _ _ (by decide) ?_; intro _ _))
    go_ret
    exact ⟨_, _, rfl, rfl⟩
  · rw [if_pos rfl]
    go_enter Try.func103, Try.ntmps103
    go_wp2_with (first | (refine wpList_fop rfl _ _ _ _ _ rfl _ _ _ rfl rfl (by decide) _ ?_; intro _ _) | (refine upon_fop _ _ _ _ _ (by decide) ?_; intro _ _))
    go_ret
    exact ⟨_, _, rfl, rfl⟩
/-! ### l06FaceOf -/
theorem c_l06FaceOf (ar an ag am ab ak : Nat) (w : World) : Calls Try.prog 81 #[.agg #[.float .f32 (pick .f32 ar an), .float .f32 (pick .f32 ag am), .float .f32 (pick .f32 ab ak)]] w (fun e w' => ∃ n m, e = .returned (.tuple #[.int .i64 (specQ (specF ar ag ab)).1, .float .f32 (pick .f32 (specQ (specF ar ag ab)).2.1 n), .float .f32 (pick .f32 (specQ (specF ar ag ab)).2.2.1 m)]) ∧ Below w.heap.size w w') := by
  generalize hw0 : w.alloc (Obj.cells #[.float .f32 (pick .f32 ar an), .float .f32 (pick .f32 ag am), .float .f32 (pick .f32 ab ak)] 26) = w0
  have Va_0 := Lib.hid (show Var w0 (w.heap.size) #[.float .f32 (pick .f32 ar an), .float .f32 (pick .f32 ag am), .float .f32 (pick .f32 ab ak)] from by subst hw0; exact (Var.new' _ _ _ _ (by first | rfl | simp)))
  have B_0 := Lib.hid (show Below w.heap.size w w0 from by subst hw0; exact ((Below.refl _ _).alloc (Nat.le_refl _) _))
  have SZ := Lib.hid (show w0.heap.size = w.heap.size + 1 from by subst hw0; simp)
  have HW := Lib.hid hw0
  clear hw0
  obtain ⟨res, hres⟩ : ∃ q, q = specQ (specF ar ag ab) := ⟨_, rfl⟩
  rw [← hres]
  unfold specF specQ gtB at hres
  have Cr := Lib.hid (fun w k j => c_l02Size ar k w j)
  have Cg := Lib.hid (fun w k j => c_l02Size ag k w j)
  have Cb := Lib.hid (fun w k j => c_l02Size ab k w j)
  generalize absS ar = sr at *
  generalize absS ag = sg at *
  generalize absS ab = sb at *
  have hc : ((FloatKind.f32.format.order sg sr == some .gt) = true ∧ (FloatKind.f32.format.order sb sg == some .gt) = true ∧ (FloatKind.f32.format.order ab 0 == some .gt) = true) ∨ ((FloatKind.f32.format.order sg sr == some .gt) = true ∧ (FloatKind.f32.format.order sb sg == some .gt) = true ∧ (FloatKind.f32.format.order ab 0 == some .gt) = false) ∨ ((FloatKind.f32.format.order sg sr == some .gt) = true ∧ (FloatKind.f32.format.order sb sg == some .gt) = false ∧ (FloatKind.f32.format.order ag 0 == some .gt) = true) ∨ ((FloatKind.f32.format.order sg sr == some .gt) = true ∧ (FloatKind.f32.format.order sb sg == some .gt) = false ∧ (FloatKind.f32.format.order ag 0 == some .gt) = false) ∨ ((FloatKind.f32.format.order sg sr == some .gt) = false ∧ (FloatKind.f32.format.order sb sr == some .gt) = true ∧ (FloatKind.f32.format.order ab 0 == some .gt) = true) ∨ ((FloatKind.f32.format.order sg sr == some .gt) = false ∧ (FloatKind.f32.format.order sb sr == some .gt) = true ∧ (FloatKind.f32.format.order ab 0 == some .gt) = false) ∨ ((FloatKind.f32.format.order sg sr == some .gt) = false ∧ (FloatKind.f32.format.order sb sr == some .gt) = false ∧ (FloatKind.f32.format.order ar 0 == some .gt) = true) ∨ ((FloatKind.f32.format.order sg sr == some .gt) = false ∧ (FloatKind.f32.format.order sb sr == some .gt) = false ∧ (FloatKind.f32.format.order ar 0 == some .gt) = false) := by
    cases (FloatKind.f32.format.order sg sr == some .gt) <;> cases (FloatKind.f32.format.order sb sg == some .gt) <;> cases (FloatKind.f32.format.order sb sr == some .gt) <;> cases (FloatKind.f32.format.order ar 0 == some .gt) <;> cases (FloatKind.f32.format.order ag 0 == some .gt) <;> cases (FloatKind.f32.format.order ab 0 == some .gt) <;> simp
  rcases hc with hc | hc | hc | hc | hc | hc | hc | hc
  · obtain ⟨e0, e1, e2⟩ := hc
    have RES := Lib.hid (show res = (4, fop .quo .f32 ar sb, fop .quo .f32 ag sb, true) from by rw [hres]; simp only [e0, e1, e2, if_true, Bool.false_eq_true, if_false]; try rfl)
    clear hres
    obtain ⟨ca0, ca1, ca2⟩ := Va_0.out.three
    go_enter Try.func81, Try.ntmps81
    go_wp2_with fail
    rw [HW.out]
    rw [← w0.drewN_zero]
    go_wp2_with (first | (first | (refine wpList_fop rfl _ _ _ _ _ rfl _ _ _ rfl rfl (by decide) _ ?_; intro _ _) | (refine upon_fop _ _ _ _ _ (by decide) ?_; intro _ _)) | (go_at_call 103; first | ((with_reducible refine (Cr.out _ _ _).mono ?_); rintro _ _ ⟨_, _, rfl, rfl⟩) | ((with_reducible refine (Cg.out _ _ _).mono ?_); rintro _ _ ⟨_, _, rfl, rfl⟩) | ((with_reducible refine (Cb.out _ _ _).mono ?_); rintro _ _ ⟨_, _, rfl, rfl⟩)))
    rw [RES.out]; refine bodyPost_ret (by simp [results, Try.results81, go_sem]; exact ⟨rfl, rfl⟩) rfl ⟨_, _, rfl, below_drewN B_0.out _⟩
  · obtain ⟨e0, e1, e2⟩ := hc
    have RES := Lib.hid (show res = (5, fop .quo .f32 ar sb, fop .quo .f32 ag sb, true) from by rw [hres]; simp only [e0, e1, e2, if_true, Bool.false_eq_true, if_false]; try rfl)
    clear hres
    obtain ⟨ca0, ca1, ca2⟩ := Va_0.out.three
    go_enter Try.func81, Try.ntmps81
    go_wp2_with fail
    rw [HW.out]
    rw [← w0.drewN_zero]
    go_wp2_with (first | (first | (refine wpList_fop rfl _ _ _ _ _ rfl _ _ _ rfl rfl (by decide) _ ?_; intro _ _) | (refine upon_fop _ _ _ _ _ (by decide) ?_; intro _ _)) | (go_at_call 103; first | ((with_reducible refine (Cr.out _ _ _).mono ?_); rintro _ _ ⟨_, _, rfl, rfl⟩) | ((with_reducible refine (Cg.out _ _ _).mono ?_); rintro _ _ ⟨_, _, rfl, rfl⟩) | ((with_reducible refine (Cb.out _ _ _).mono ?_); rintro _ _ ⟨_, _, rfl, rfl⟩)))
    rw [RES.out]; refine bodyPost_ret (by simp [results, Try.results81, go_sem]; exact ⟨rfl, rfl⟩) rfl ⟨_, _, rfl, below_drewN B_0.out _⟩
  · obtain ⟨e0, e1, e2⟩ := hc
    have RES := Lib.hid (show res = (2, fop .quo .f32 ar sg, fop .quo .f32 ab sg, true) from by rw [hres]; simp only [e0, e1, e2, if_true, Bool.false_eq_true, if_false]; try rfl)
    clear hres
    obtain ⟨ca0, ca1, ca2⟩ := Va_0.out.three
    go_enter Try.func81, Try.ntmps81
    go_wp2_with fail
    rw [HW.out]
    rw [← w0.drewN_zero]
    go_wp2_with (first | (first | (refine wpList_fop rfl _ _ _ _ _ rfl _ _ _ rfl rfl (by decide) _ ?_; intro _ _) | (refine upon_fop _ _ _ _ _ (by decide) ?_; intro _ _)) | (go_at_call 103; first | ((with_reducible refine (Cr.out _ _ _).mono ?_); rintro _ _ ⟨_, _, rfl, rfl⟩) | ((with_reducible refine (Cg.out _ _ _).mono ?_); rintro _ _ ⟨_, _, rfl, rfl⟩) | ((with_reducible refine (Cb.out _ _ _).mono ?_); rintro _ _ ⟨_, _, rfl, rfl⟩)))
    rw [RES.out]; refine bodyPost_ret (by simp [results, Try.results81, go_sem]; exact ⟨rfl, rfl⟩) rfl ⟨_, _, rfl, below_drewN B_0.out _⟩
  · obtain ⟨e0, e1, e2⟩ := hc
    have RES := Lib.hid (show res = (3, fop .quo .f32 ar sg, fop .quo .f32 ab sg, true) from by rw [hres]; simp only [e0, e1, e2, if_true, Bool.false_eq_true, if_false]; try rfl)
    clear hres
    obtain ⟨ca0, ca1, ca2⟩ := Va_0.out.three
    go_enter Try.func81, Try.ntmps81
    go_wp2_with fail
    rw [HW.out]
    rw [← w0.drewN_zero]
    go_wp2_with (first | (first | (refine wpList_fop rfl _ _ _ _ _ rfl _ _ _ rfl rfl (by decide) _ ?_; intro _ _) | (refine upon_fop _ _ _ _ _ (by decide) ?_; intro _ _)) | (go_at_call 103; first | ((with_reducible refine (Cr.out _ _ _).mono ?_); rintro _ _ ⟨_, _, rfl, rfl⟩) | ((with_reducible refine (Cg.out _ _ _).mono ?_); rintro _ _ ⟨_, _, rfl, rfl⟩) | ((with_reducible refine (Cb.out _ _ _).mono ?_); rintro _ _ ⟨_, _, rfl, rfl⟩)))
    rw [RES.out]; refine bodyPost_ret (by simp [results, Try.results81, go_sem]; exact ⟨rfl, rfl⟩) rfl ⟨_, _, rfl, below_drewN B_0.out _⟩
  · obtain ⟨e0, e1, e2⟩ := hc
    have RES := Lib.hid (show res = (4, fop .quo .f32 ar sb, fop .quo .f32 ag sb, true) from by rw [hres]; simp only [e0, e1, e2, if_true, Bool.false_eq_true, if_false]; try rfl)
    clear hres
    obtain ⟨ca0, ca1, ca2⟩ := Va_0.out.three
    go_enter Try.func81, Try.ntmps81
    go_wp2_with fail
    rw [HW.out]
    rw [← w0.drewN_zero]
    go_wp2_with (first | (first | (refine wpList_fop rfl _ _ _ _ _ rfl _ _ _ rfl rfl (by decide) _ ?_; intro _ _) | (refine upon_fop _ _ _ _ _ (by decide) ?_; intro _ _)) | (go_at_call 103; first | ((with_reducible refine (Cr.out _ _ _).mono ?_); rintro _ _ ⟨_, _, rfl, rfl⟩) | ((with_reducible refine (Cg.out _ _ _).mono ?_); rintro _ _ ⟨_, _, rfl, rfl⟩) | ((with_reducible refine (Cb.out _ _ _).mono ?_); rintro _ _ ⟨_, _, rfl, rfl⟩)))
    rw [RES.out]; refine bodyPost_ret (by simp [results, Try.results81, go_sem]; exact ⟨rfl, rfl⟩) rfl ⟨_, _, rfl, below_drewN B_0.out _⟩
  · obtain ⟨e0, e1, e2⟩ := hc
    have RES := Lib.hid (show res = (5, fop .quo .f32 ar sb, fop .quo .f32 ag sb, true) from by rw [hres]; simp only [e0, e1, e2, if_true, Bool.false_eq_true, if_false]; try rfl)
    clear hres
    obtain ⟨ca0, ca1, ca2⟩ := Va_0.out.three
    go_enter Try.func81, Try.ntmps81
    go_wp2_with fail
    rw [HW.out]
    rw [← w0.drewN_zero]
    go_wp2_with (first | (first | (refine wpList_fop rfl _ _ _ _ _ rfl _ _ _ rfl rfl (by decide) _ ?_; intro _ _) | (refine upon_fop _ _ _ _ _ (by decide) ?_; intro _ _)) | (go_at_call 103; first | ((with_reducible refine (Cr.out _ _ _).mono ?_); rintro _ _ ⟨_, _, rfl, rfl⟩) | ((with_reducible refine (Cg.out _ _ _).mono ?_); rintro _ _ ⟨_, _, rfl, rfl⟩) | ((with_reducible refine (Cb.out _ _ _).mono ?_); rintro _ _ ⟨_, _, rfl, rfl⟩)))
    rw [RES.out]; refine bodyPost_ret (by simp [results, Try.results81, go_sem]; exact ⟨rfl, rfl⟩) rfl ⟨_, _, rfl, below_drewN B_0.out _⟩
  · obtain ⟨e0, e1, e2⟩ := hc
    have RES := Lib.hid (show res = (0, fop .quo .f32 ag sr, fop .quo .f32 ab sr, true) from by rw [hres]; simp only [e0, e1, e2, if_true, Bool.false_eq_true, if_false]; try rfl)
    clear hres
    obtain ⟨ca0, ca1, ca2⟩ := Va_0.out.three
    go_enter Try.func81, Try.ntmps81
    go_wp2_with fail
    rw [HW.out]
    rw [← w0.drewN_zero]
    go_wp2_with (first | (first | (refine wpList_fop rfl _ _ _ _ _ rfl _ _ _ rfl rfl (by decide) _ ?_; intro _ _) | (refine upon_fop _ _ _ _ _ (by decide) ?_; intro _ _)) | (go_at_call 103; first | ((with_reducible refine (Cr.out _ _ _).mono ?_); rintro _ _ ⟨_, _, rfl, rfl⟩) | ((with_reducible refine (Cg.out _ _ _).mono ?_); rintro _ _ ⟨_, _, rfl, rfl⟩) | ((with_reducible refine (Cb.out _ _ _).mono ?_); rintro _ _ ⟨_, _, rfl, rfl⟩)))
    rw [RES.out]; refine bodyPost_ret (by simp [results, Try.results81, go_sem]; exact ⟨rfl, rfl⟩) rfl ⟨_, _, rfl, below_drewN B_0.out _⟩
  · obtain ⟨e0, e1, e2⟩ := hc
    have RES := Lib.hid (show res = (1, fop .quo .f32 ag sr, fop .quo .f32 ab sr, true) from by rw [hres]; simp only [e0, e1, e2, if_true, Bool.false_eq_true, if_false]; try rfl)
    clear hres
    obtain ⟨ca0, ca1, ca2⟩ := Va_0.out.three
    go_enter Try.func81, Try.ntmps81
    go_wp2_with fail
    rw [HW.out]
    rw [← w0.drewN_zero]
    go_wp2_with (first | (first | (refine wpList_fop rfl _ _ _ _ _ rfl _ _ _ rfl rfl (by decide) _ ?_; intro _ _) | (refine upon_fop _ _ _ _ _ (by decide) ?_; intro _ _)) | (go_at_call 103; first | ((with_reducible refine (Cr.out _ _ _).mono ?_); rintro _ _ ⟨_, _, rfl, rfl⟩) | ((with_reducible refine (Cg.out _ _ _).mono ?_); rintro _ _ ⟨_, _, rfl, rfl⟩) | ((with_reducible refine (Cb.out _ _ _).mono ?_); rintro _ _ ⟨_, _, rfl, rfl⟩)))
    rw [RES.out]; refine bodyPost_ret (by simp [results, Try.results81, go_sem]; exact ⟨rfl, rfl⟩) rfl ⟨_, _, rfl, below_drewN B_0.out _⟩
/-! ### sFaceOf -/
theorem c_sFaceOf (ar an ag am ab ak : Nat) (w : World) (har : ar < 2 ^ FloatKind.f32.format.width) (hag : ag < 2 ^ FloatKind.f32.format.width) (hab : ab < 2 ^ FloatKind.f32.format.width) : Calls Try.prog 39 #[.agg #[.float .f32 (pick .f32 ar an), .float .f32 (pick .f32 ag am), .float .f32 (pick .f32 ab ak)]] w (RetIFF (faceO ar ag ab) w) := by
  generalize hw0 : w.alloc (Obj.cells #[.float .f32 (pick .f32 ar an), .float .f32 (pick .f32 ag am), .float .f32 (pick .f32 ab ak)] 26) = w0
  have Va_0 := Lib.hid (show Var w0 (w.heap.size) #[.float .f32 (pick .f32 ar an), .float .f32 (pick .f32 ag am), .float .f32 (pick .f32 ab ak)] from by subst hw0; exact (Var.new' _ _ _ _ (by first | rfl | simp)))
  have B_0 := Lib.hid (show Below w.heap.size w w0 from by subst hw0; exact ((Below.refl _ _).alloc (Nat.le_refl _) _))
  have SZ := Lib.hid (show w0.heap.size = w.heap.size + 1 from by subst hw0; simp)
  have HW := Lib.hid hw0
  clear hw0
  obtain ⟨res, hres⟩ : ∃ q, q = faceO ar ag ab := ⟨_, rfl⟩
  rw [← hres]
  unfold faceO at hres
  have CQ := Lib.hid (fun w => c_l06Is ar an ag am ab ak w)
  have CF := Lib.hid (fun w => c_l06FaceOf ar an ag am ab ak w)
  cases hq : wayB ar ag ab
  all_goals rw [hq] at CQ hres
  · have RES := Lib.hid (show res = (0, 0, 0, false) from hres)
    obtain ⟨ca0, ca1, ca2⟩ := Va_0.out.three
    go_enter Try.func39, Try.ntmps39
    go_wp2_with fail
    rw [HW.out]
    go_wp2_with fail
    refine (CQ.out _).mono ?_
    rintro _ w1 ⟨rfl, b⟩
    have Va_1 := Lib.hid (Va_0.out.keep b)
    have B_1 := Lib.hid (B_0.out.trans (b.mono B_0.out.size))
    clear ca0 ca1 ca2
    clear Va_0 B_0 b
    obtain ⟨ca0, ca1, ca2⟩ := Va_1.out.three
    go_wp2_with fail
    rw [RES.out]; refine bodyPost_ret (v := .tuple #[.int .i64 0, .float .f32 0, .float .f32 0, .bool false]) (by simp [results, Try.results39, go_sem]) rfl (RetIFF.no rfl B_1.out)
  · rw [if_pos rfl, face_same har hag hab hq] at hres
    have HT := Lib.hid (show (specQ (specF ar ag ab)).2.2.2 = true from rfl)
    generalize specQ (specF ar ag ab) = t at *
    have RES := Lib.hid hres
    obtain ⟨ca0, ca1, ca2⟩ := Va_0.out.three
    go_enter Try.func39, Try.ntmps39
    go_wp2_with fail
    rw [HW.out]
    go_wp2_with fail
    refine (CQ.out _).mono ?_
    rintro _ w1 ⟨rfl, b⟩
    have Va_1 := Lib.hid (Va_0.out.keep b)
    have B_1 := Lib.hid (B_0.out.trans (b.mono B_0.out.size))
    clear ca0 ca1 ca2
    clear Va_0 B_0 b
    obtain ⟨ca0, ca1, ca2⟩ := Va_1.out.three
    go_wp2_with fail
    refine (CF.out _).mono ?_
    rintro _ w2 ⟨n9, m9, rfl, b⟩
    have Va_2 := Lib.hid (Va_1.out.keep b)
    have B_2 := Lib.hid (B_1.out.trans (b.mono B_1.out.size))
    clear ca0 ca1 ca2
    clear Va_1 B_1 b
    obtain ⟨ca0, ca1, ca2⟩ := Va_2.out.three
    go_wp2_with fail
    rw [RES.out]; refine bodyPost_ret (v := .tuple #[.int .i64 t.1, .float .f32 (pick .f32 t.2.1 n9), .float .f32 (pick .f32 t.2.2.1 m9), .bool true]) (by simp [results, Try.results39, go_sem]) rfl ⟨_, _, by rw [HT.out], B_2.out⟩
/-! ### IsNaN -/
theorem c_IsNaN (v n : Nat) (w : World) (j : Nat) : Calls Try.prog 111 #[.float .f64 (pick .f64 v n)] (w.drewN j) (RetV (.bool (isN .f64 v)) w) := by
  go_enter Try.func111, Try.ntmps111
  go_wp2
  go_ret
  exact ⟨_, rfl, rfl⟩
/-! ### f64bits -/
@[go_sem] theorem e_f64bits (b : Nat) (w : World) : (callFunc 124 #[.float .f64 b]).run Try.prog w = .ok (.value (.int .u64 b)) w := by kernel_rfl
/-! ### f64from -/
@[go_sem] theorem e_f64from (n : Int) (w : World) : (callFunc 123 #[.int .u64 n]).run Try.prog w = .ok (.value (.float .f64 n.toNat)) w := by kernel_rfl
/-! ### Abs -/
theorem c_Abs (v n : Nat) (w : World) (j : Nat) (hv : v < 2 ^ FloatKind.f64.format.width) : Calls Try.prog 116 #[.float .f64 (pick .f64 v n)] (w.drewN j) (RetF .f64 (fabs .f64 v) w) := by
  have hb := abs_bits hv n
  go_enter Try.func116, Try.ntmps116
  go_wp2
  go_ret
  exact ⟨_, _, rfl, rfl⟩
/-! ### IsInf0 -/
theorem c_IsInf0 (v n : Nat) (w : World) (j : Nat) (hv : v < 2 ^ FloatKind.f64.format.width) : Calls Try.prog 114 #[.float .f64 (pick .f64 v n), .int .i64 0] (w.drewN j) (RetV (.bool (FloatKind.f64.format.order (fabs .f64 v) 9218868437227405311 == some .gt)) w) := by
  go_enter Try.func114, Try.ntmps114
  go_wp2_with ((go_at_call 116; refine (c_Abs _ _ _ _ hv).mono ?_; rintro _ _ ⟨_, _, rfl, rfl⟩))
  go_ret
  exact ⟨_, rfl, rfl⟩
/-! ### isFinite64 -/
theorem c_isFinite64 (v n : Nat) (w : World) (j : Nat) (hv : v < 2 ^ FloatKind.f64.format.width) : Calls Try.prog 95 #[.float .f64 (pick .f64 v n)] (w.drewN j) (RetV (.bool (finB .f64 v)) w) := by
  go_enter Try.func95, Try.ntmps95
  go_wp2_with (first | (go_at_call 111; refine (c_IsNaN _ _ _ _).mono ?_; rintro _ _ ⟨_, rfl, rfl⟩) | (go_at_call 114; refine (c_IsInf0 _ _ _ _ hv).mono ?_; rintro _ _ ⟨_, rfl, rfl⟩))
  all_goals
    go_ret
    refine ⟨_, ?_, rfl⟩
    rw [← abs_gt_max]
    simp [*]
/-! ### iIsFinite -/
theorem c_iIsFinite (v n : Nat) (w : World) (j : Nat) : Calls Try.prog 61 #[.float .f32 (pick .f32 v n)] (w.drewN j) (RetV (.bool (finB .f32 v)) w) := by
  go_enter Try.func61, Try.ntmps61
  go_wp2_with (first | (refine wpList_cvU rfl 22 36 _ rfl (Option.isSome_iff_exists.2 ⟨_, Try.underlying22⟩) Try.underlying36 _ rfl _ ?_; intro _ _) | (go_at_call 95; refine (c_isFinite64 _ _ _ _ (cvU_lt _)).mono ?_; rintro _ _ ⟨_, rfl, rfl⟩))
  go_ret
  rw [← finB_cvU]
  exact ⟨_, rfl, rfl⟩
/-! ### areFinite -/
theorem c_areFinite (a : Option Addr) (len cap : Nat) (zs : List Nat) (w : World) (j0 : Nat) (hr : IsRowF .f32 w a len cap zs) : Calls Try.prog 46 #[.slice a len cap] (w.drewN j0) (RetV (.bool (finL zs)) w) := by
  obtain ⟨h1, h2, h3, h4, h5⟩ := hr
  unfold maxLen at h3
  have H1 := Lib.hid h1
  clear h1
  go_enter Try.func46, Try.ntmps46
  go_wp2
  go_loopw [4, 7] (fun _ i wr => ∃ k m : Nat, k ≤ len ∧ i = .int .i64 k ∧ wr = w.drewN m ∧ finL (zs.take k) = true) (fun _ i _ => len - (intOf i).toNat)
  case atStart => exact ⟨0, j0, Nat.zero_le _, rfl, rfl, rfl⟩
  case round =>
    obtain ⟨k, m, hk, rfl, rfl, hfin⟩ := hrel
    have HFin := Lib.hid hfin
    clear hfin
    by_cases hlt : k < len
    · rcases h5 with h5 | ⟨b, off, rfl, hbl, hc⟩
      · omega
      have hcell : w.cell? ⟨b, off + k, none⟩ = some (.float .f32 (fat zs k)) := hc k hlt
      obtain ⟨n, hn⟩ := pick0 .f32 (fat zs k) (lt_of_wf (h4 _ (by unfold fat; rw [List.getD, List.getElem?_eq_getElem (by have := H1.out; omega)]; exact List.getElem_mem _)))
      rw [hn] at hcell
      have HS := Lib.hid (finL_snoc zs k (by have := H1.out; omega))
      cases hf : finB .f32 (fat zs k)
      · have HO := Lib.hid (finL_of zs k (by have := H1.out; omega) hf)
        clear hc h4 hn
        go_wp2_with ((go_at_call 61; refine (c_iIsFinite _ _ _ _).mono ?_; rintro _ _ ⟨_, rfl, rfl⟩))
        go_ret
        exact ⟨_, by rw [HO.out]; rfl, rfl⟩
      · have HF := Lib.hid hf
        clear hc h4 hn
        go_wp2_with ((go_at_call 61; refine (c_iIsFinite _ _ _ _).mono ?_; rintro _ _ ⟨_, rfl, rfl⟩))
        go_roundw
        case rel => exact ⟨k + 1, _, by omega, by go_num, rfl, by rw [HS.out, HFin.out, HF.out]; rfl⟩
        case measure => simp [intOf]; omega
    · have e : zs.take k = zs := List.take_of_length_le (by have := H1.out; omega)
      have HE := Lib.hid e
      clear h5 h4 e
      go_wp2
      go_ret
      exact ⟨_, by have h := HFin.out; rw [HE.out] at h; rw [h]; rfl, rfl⟩
/-! ### areFinN -/
theorem c_areFinW (a : Option Addr) (len cap : Nat) (zs : List Nat) (w : World) (hr : IsRowF .f32 w a len cap zs) : Calls Try.prog 46 #[.slice a len cap] w (RetV (.bool (finL zs)) w) := by
  have h := c_areFinite a len cap zs w 0 hr
  rwa [w.drewN_zero] at h
theorem row_new (w : World) (b : Nat) (vs : List Nat) (T : TypeId) (hb : b = w.heap.size) (hl : vs.length ≤ 1000) (hwf : ∀ x ∈ vs, (Lit.float .f32 x).wf = true) : IsRowF .f32 (w.alloc (.cells (fl .f32 vs).toArray T)) (some ⟨b, 0, none⟩) vs.length vs.length vs := by
  subst hb
  exact rowF_of_block (heap_alloc_new w _) (by unfold maxLen; omega) hwf

/-! ### wayEq -/
theorem eqWay0 (x0 x1 x2 : Nat) (w : World) : (Op.equalIn 10000 26 (.agg #[.float .f32 x0, .float .f32 x1, .float .f32 x2]) (.agg #[.float .f32 0, .float .f32 0, .float .f32 0])).run Try.prog w = .ok ((FloatKind.f32.format.order x0 0 == some .eq) && (FloatKind.f32.format.order x1 0 == some .eq) && (FloatKind.f32.format.order x2 0 == some .eq)) w := by
  have u3 := Try.underlying22
  rw [show (10000 : Nat) = 9999 + 1 from rfl, run_equalIn_struct _ _ _ _ _ (by kernel_rfl) (by kernel_rfl)]
  have hE : ∀ (x : Nat) (w : World), (Op.equalIn 9999 22 (.float .f32 x) (.float .f32 0)).run Try.prog w = .ok (FloatKind.f32.format.order x 0 == some .eq) w := fun x w => by
    rw [show (9999 : Nat) = 9998 + 1 from rfl, Op.equalIn]
    simp [run_underlying u3, Op.floatEq]
  go_simp
  by_cases h0 : FloatKind.f32.format.order x0 0 = some Ordering.eq
  case neg => simp [h0]
  by_cases h1 : FloatKind.f32.format.order x1 0 = some Ordering.eq
  case neg => simp [h0, h1]
  by_cases h2 : FloatKind.f32.format.order x2 0 = some Ordering.eq
  case neg => simp [h0, h1, h2]
  simp [h0, h1, h2]
/-! ### iIsWay -/
theorem c_iIsWay (r n g m b k : Nat) (w : World) (hr : r < 2 ^ FloatKind.f32.format.width) (hg : g < 2 ^ FloatKind.f32.format.width) (hb : b < 2 ^ FloatKind.f32.format.width) : Calls Try.prog 17 #[.agg #[.float .f32 (pick .f32 r n), .float .f32 (pick .f32 g m), .float .f32 (pick .f32 b k)]] w (RetB (.bool (wayB r g b)) w) := by
  have AF := Lib.hid (fun (w : World) (z : Nat) (hz : z = w.heap.size) => @id (Calls Try.prog 46 #[.slice (some ⟨z, 0, none⟩) 3 3] (w.alloc (.cells #[.float .f32 (pick .f32 r n), .float .f32 (pick .f32 g m), .float .f32 (pick .f32 b k)] 22)) (RetV (.bool (colB r g b)) (w.alloc (.cells #[.float .f32 (pick .f32 r n), .float .f32 (pick .f32 g m), .float .f32 (pick .f32 b k)] 22)))) (by
    have h := c_areFinW _ _ _ _ _ (row_new w z [pick .f32 r n, pick .f32 g m, pick .f32 b k] 22 hz (by simp) (by intro x hx; simp at hx; rcases hx with rfl | rfl | rfl <;> exact pick_wf (by assumption) _))
    rwa [fin3] at h))
  have EQ := eqWay0 (pick .f32 r n) (pick .f32 g m) (pick .f32 b k)
  simp only [order_pick_l] at EQ
  unfold wayB nzB bne
  generalize colB r g b = q at *
  generalize hw0 : w.alloc (Obj.cells #[.float .f32 (pick .f32 r n), .float .f32 (pick .f32 g m), .float .f32 (pick .f32 b k)] 26) = w0
  have X0 : Var w0 w.heap.size #[.float .f32 (pick .f32 r n), .float .f32 (pick .f32 g m), .float .f32 (pick .f32 b k)] := by subst hw0; exact Var.new _ _ _
  have X1 : Below w.heap.size w w0 := by subst hw0; exact (Below.refl _ _).alloc (Nat.le_refl _) _
  have SZ := Lib.hid (show w0.heap.size = w.heap.size + 1 from by subst hw0; simp)
  have HW := Lib.hid hw0
  have B0 := Lib.hid X1
  have V0 := Lib.hid X0
  obtain ⟨q0, q1, q2⟩ := X0.three
  clear hw0 X0 X1
  cases h1 : (FloatKind.f32.format.order r 0 == some .eq) <;> cases h2 : (FloatKind.f32.format.order g 0 == some .eq) <;> cases h3 : (FloatKind.f32.format.order b 0 == some .eq)
  all_goals
    simp only [h1, h2, h3, Bool.true_and, Bool.false_and, Bool.and_false, Bool.and_true] at EQ
    go_enter Try.func17, Try.ntmps17
    go_wp2_with fail
    rw [HW.out]
    go_wp2_with fail
    first
      | (refine (AF.out _ _ (by rw [SZ.out])).mono ?_
         rintro _ _ ⟨m1, rfl, rfl⟩
         go_wp2_with fail
         go_ret
         exact ⟨by simp, below_drewN (B0.out.alloc (B0.out.size) _) _⟩)
      | (go_ret; exact ⟨by simp, B0.out⟩)

/-! ### withoutSign -/
theorem c_withoutSign (v n : Nat) (w : World) (j : Nat) : Calls Try.prog 82 #[.float .f32 (pick .f32 v n)] (w.drewN j) (RetF .f32 (absP v) w) := by
  unfold absP
  go_enter Try.func82, Try.ntmps82
  go_wp2_with (first | (refine wpList_fmax rfl _ _ _ rfl _ _ _ rfl rfl _ ?_; intro _ _))
  go_ret
  exact ⟨_, _, rfl, rfl⟩
/-! ### iFaceOf -/
theorem c_iFaceOf (ar an ag am ab ak : Nat) (w : World) (har : ar < 2 ^ FloatKind.f32.format.width) (hag : ag < 2 ^ FloatKind.f32.format.width) (hab : ab < 2 ^ FloatKind.f32.format.width) : Calls Try.prog 40 #[.agg #[.float .f32 (pick .f32 ar an), .float .f32 (pick .f32 ag am), .float .f32 (pick .f32 ab ak)]] w (RetIFF (faceO ar ag ab) w) := by
  generalize hw0 : w.alloc (Obj.cells #[.float .f32 (pick .f32 ar an), .float .f32 (pick .f32 ag am), .float .f32 (pick .f32 ab ak)] 26) = w0
  have Va_0 := Lib.hid (show Var w0 (w.heap.size) #[.float .f32 (pick .f32 ar an), .float .f32 (pick .f32 ag am), .float .f32 (pick .f32 ab ak)] from by subst hw0; exact (Var.new' _ _ _ _ (by first | rfl | simp)))
  have B_0 := Lib.hid (show Below w.heap.size w w0 from by subst hw0; exact ((Below.refl _ _).alloc (Nat.le_refl _) _))
  have SZ := Lib.hid (show w0.heap.size = w.heap.size + 1 from by subst hw0; simp)
  have HW := Lib.hid hw0
  clear hw0
  obtain ⟨res, hres⟩ : ∃ q, q = faceO ar ag ab := ⟨_, rfl⟩
  rw [← hres]
  unfold faceO at hres
  have CQ := Lib.hid (fun w => c_iIsWay ar an ag am ab ak w har hag hab)
  cases hq : wayB ar ag ab
  all_goals rw [hq] at CQ hres
  · have RES := Lib.hid (show res = (0, 0, 0, false) from hres)
    obtain ⟨ca0, ca1, ca2⟩ := Va_0.out.three
    go_enter Try.func40, Try.ntmps40
    go_wp2_with fail
    rw [HW.out]
    go_wp2_with fail
    refine (CQ.out _).mono ?_
    rintro _ w1 ⟨rfl, b⟩
    have Va_1 := Lib.hid (Va_0.out.keep b)
    have B_1 := Lib.hid (B_0.out.trans (b.mono B_0.out.size))
    clear ca0 ca1 ca2
    clear Va_0 B_0 b
    obtain ⟨ca0, ca1, ca2⟩ := Va_1.out.three
    go_wp2_with fail
    rw [RES.out]; refine bodyPost_ret (v := .tuple #[.int .i64 0, .float .f32 0, .float .f32 0, .bool false]) (by simp [results, Try.results40, go_sem]) rfl (RetIFF.no rfl B_1.out)
  · rw [if_pos rfl] at hres
    unfold faceQ faceP geB alongP ltB at hres
    have Cr := Lib.hid (fun w k => (w.drewN_zero ▸ c_withoutSign ar k w 0 : Calls Try.prog 82 #[.float .f32 (pick .f32 ar k)] w (RetF .f32 (absP ar) w)))
    have Cg := Lib.hid (fun w k => (w.drewN_zero ▸ c_withoutSign ag k w 0 : Calls Try.prog 82 #[.float .f32 (pick .f32 ag k)] w (RetF .f32 (absP ag) w)))
    have Cb := Lib.hid (fun w k => (w.drewN_zero ▸ c_withoutSign ab k w 0 : Calls Try.prog 82 #[.float .f32 (pick .f32 ab k)] w (RetF .f32 (absP ab) w)))
    generalize absP ar = pr at *
    generalize absP ag = pg at *
    generalize absP ab = pb at *
    have RES0 := Lib.hid hres
    clear hres
    obtain ⟨ca0, ca1, ca2⟩ := Va_0.out.three
    go_enter Try.func40, Try.ntmps40
    go_wp2_with fail
    rw [HW.out]
    go_wp2_with fail
    refine (CQ.out _).mono ?_
    rintro _ w1 ⟨rfl, b⟩
    have Va_1 := Lib.hid (Va_0.out.keep b)
    have B_1 := Lib.hid (B_0.out.trans (b.mono B_0.out.size))
    clear ca0 ca1 ca2
    clear Va_0 B_0 b
    obtain ⟨ca0, ca1, ca2⟩ := Va_1.out.three
    go_wp2_with fail
    clear ca0 ca1 ca2
    have KS := Lib.hid (fun (w' : World) (hE : Below w1.heap.size w1 w') => (⟨(Va_1.out.keep hE).three.1, (Va_1.out.keep hE).three.2.1, (Va_1.out.keep hE).three.2.2⟩ : _ ∧ _ ∧ _))
    refine wp_region_facts 10 (fun a b => Below a.heap.size a b) (fun _ => Below.refl _ _) (fun _ _ _ h h' => h.trans (h'.mono h.size)) (Below.refl _ _).drew (by kernel_rfl) (by kernel_rfl) (by kernel_rfl) (by kernel_rfl) ?_
    simp only [List.take_succ_cons, List.take_zero, List.drop_succ_cons, List.drop_zero]
    (with_reducible apply wpF_val); (focus (intro vs w' hE hk; (obtain ⟨d0, d1, d2⟩ := KS.out w' hE); go_simp; exact ⟨Below.refl _ _, rfl⟩)); (simp only [Act.put, List.setIfInBounds_toArray, List.set_cons_zero, List.set_cons_succ, List.cons_append, List.nil_append])
    (with_reducible apply wpF_val); (focus (intro vs w' hE hk; (obtain ⟨d0, d1, d2⟩ := KS.out w' hE); go_simp; exact ⟨Below.refl _ _, rfl⟩)); (simp only [Act.put, List.setIfInBounds_toArray, List.set_cons_zero, List.set_cons_succ, List.cons_append, List.nil_append])
    (with_reducible apply wpF_val); (focus (intro vs w' hE hk; (obtain ⟨d0, d1, d2⟩ := KS.out w' hE); go_simp; exact ⟨Below.refl _ _, rfl⟩)); (simp only [Act.put, List.setIfInBounds_toArray, List.set_cons_zero, List.set_cons_succ, List.cons_append, List.nil_append])
    (with_reducible apply wpF_val); (focus (intro vs w' hE hk; (obtain ⟨d0, d1, d2⟩ := KS.out w' hE); go_simp; exact ⟨Below.refl _ _, rfl⟩)); (simp only [Act.put, List.setIfInBounds_toArray, List.set_cons_zero, List.set_cons_succ, List.cons_append, List.nil_append])
    (with_reducible apply wpF_val); (focus (intro vs w' hE hk; (obtain ⟨d0, d1, d2⟩ := KS.out w' hE); go_simp; exact ⟨Below.refl _ _, rfl⟩)); (simp only [Act.put, List.setIfInBounds_toArray, List.set_cons_zero, List.set_cons_succ, List.cons_append, List.nil_append])
    (with_reducible apply wpF_val); (focus (intro vs w' hE hk; (obtain ⟨d0, d1, d2⟩ := KS.out w' hE); go_simp; exact ⟨Below.refl _ _, rfl⟩)); (simp only [Act.put, List.setIfInBounds_toArray, List.set_cons_zero, List.set_cons_succ, List.cons_append, List.nil_append])
    (with_reducible apply wpF_val); (focus (intro vs w' hE hk; (obtain ⟨d0, d1, d2⟩ := KS.out w' hE); go_simp; exact ⟨Below.refl _ _, rfl⟩)); (simp only [Act.put, List.setIfInBounds_toArray, List.set_cons_zero, List.set_cons_succ, List.cons_append, List.nil_append])
    (with_reducible apply wpF_val); (focus (intro vs w' hE hk; (obtain ⟨d0, d1, d2⟩ := KS.out w' hE); go_simp; exact ⟨Below.refl _ _, rfl⟩)); (simp only [Act.put, List.setIfInBounds_toArray, List.set_cons_zero, List.set_cons_succ, List.cons_append, List.nil_append])
    (with_reducible apply wpF_val); (focus (intro vs w' hE hk; (obtain ⟨d0, d1, d2⟩ := KS.out w' hE); go_simp; exact ⟨Below.refl _ _, rfl⟩)); (simp only [Act.put, List.setIfInBounds_toArray, List.set_cons_zero, List.set_cons_succ, List.cons_append, List.nil_append])
    (with_reducible apply wpF_val); (focus (intro vs w' hE hk; (obtain ⟨d0, d1, d2⟩ := KS.out w' hE); go_simp; exact ⟨Below.refl _ _, rfl⟩)); (simp only [Act.put, List.setIfInBounds_toArray, List.set_cons_zero, List.set_cons_succ, List.cons_append, List.nil_append])
    refine wpF_nil (fun vs w2 hE hk => ?_)
    have b := hE
    clear hE hk KS
    have Va_2 := Lib.hid (Va_1.out.keep b)
    have B_2 := Lib.hid (B_1.out.trans (b.mono B_1.out.size))
    clear Va_1 B_1 b
    obtain ⟨ca0, ca1, ca2⟩ := Va_2.out.three
    go_wp2_with fail
    clear ca0 ca1 ca2
    have KS := Lib.hid (fun (w' : World) (hE : Below w2.heap.size w2 w') => (⟨(Va_2.out.keep hE).three.1, (Va_2.out.keep hE).three.2.1, (Va_2.out.keep hE).three.2.2⟩ : _ ∧ _ ∧ _))
    refine wp_region_facts 12 (fun a b => Below a.heap.size a b) (fun _ => Below.refl _ _) (fun _ _ _ h h' => h.trans (h'.mono h.size)) (Below.refl _ _).drew (by kernel_rfl) (by kernel_rfl) (by kernel_rfl) (by kernel_rfl) ?_
    simp only [List.take_succ_cons, List.take_zero, List.drop_succ_cons, List.drop_zero]
    (with_reducible apply wpF_val); (focus (intro vs w' hE hk; (obtain ⟨d0, d1, d2⟩ := KS.out w' hE); go_simp; exact ⟨Below.refl _ _, rfl⟩)); (simp only [Act.put, List.setIfInBounds_toArray, List.set_cons_zero, List.set_cons_succ, List.cons_append, List.nil_append])
    (with_reducible apply wpF_val); (focus (intro vs w' hE hk; (obtain ⟨d0, d1, d2⟩ := KS.out w' hE); go_simp; exact ⟨Below.refl _ _, rfl⟩)); (simp only [Act.put, List.setIfInBounds_toArray, List.set_cons_zero, List.set_cons_succ, List.cons_append, List.nil_append])
    refine wpF_fact (fun u _ => ∃ m, u = .float .f32 (pick .f32 (pr) m)) (fun _ _ _ h _ => h) (fun vs w' hE hk => ?_) ?_; (focus ((obtain ⟨d0, d1, d2⟩ := KS.out w' hE); go_simp; refine (Cr.out _ _).mono ?_; rintro _ _ ⟨m1, m2, rfl, rfl⟩; exact ⟨_, rfl, below_drewN (Below.refl _ _) _, m1, rfl⟩)); (simp only [Act.put, List.setIfInBounds_toArray, List.set_cons_zero, List.set_cons_succ, List.cons_append, List.nil_append])
    (with_reducible apply wpF_val); (focus (intro vs w' hE hk; (obtain ⟨d0, d1, d2⟩ := KS.out w' hE); go_simp; exact ⟨Below.refl _ _, rfl⟩)); (simp only [Act.put, List.setIfInBounds_toArray, List.set_cons_zero, List.set_cons_succ, List.cons_append, List.nil_append])
    (with_reducible apply wpF_val); (focus (intro vs w' hE hk; (obtain ⟨d0, d1, d2⟩ := KS.out w' hE); go_simp; exact ⟨Below.refl _ _, rfl⟩)); (simp only [Act.put, List.setIfInBounds_toArray, List.set_cons_zero, List.set_cons_succ, List.cons_append, List.nil_append])
    refine wpF_fact (fun u _ => ∃ m, u = .float .f32 (pick .f32 (pg) m)) (fun _ _ _ h _ => h) (fun vs w' hE hk => ?_) ?_; (focus ((obtain ⟨d0, d1, d2⟩ := KS.out w' hE); go_simp; refine (Cg.out _ _).mono ?_; rintro _ _ ⟨m1, m2, rfl, rfl⟩; exact ⟨_, rfl, below_drewN (Below.refl _ _) _, m1, rfl⟩)); (simp only [Act.put, List.setIfInBounds_toArray, List.set_cons_zero, List.set_cons_succ, List.cons_append, List.nil_append])
    (with_reducible apply wpF_val); (focus (intro vs w' hE hk; (obtain ⟨d0, d1, d2⟩ := KS.out w' hE); go_simp; exact ⟨Below.refl _ _, rfl⟩)); (simp only [Act.put, List.setIfInBounds_toArray, List.set_cons_zero, List.set_cons_succ, List.cons_append, List.nil_append])
    (with_reducible apply wpF_val); (focus (intro vs w' hE hk; (obtain ⟨d0, d1, d2⟩ := KS.out w' hE); go_simp; exact ⟨Below.refl _ _, rfl⟩)); (simp only [Act.put, List.setIfInBounds_toArray, List.set_cons_zero, List.set_cons_succ, List.cons_append, List.nil_append])
    refine wpF_fact (fun u _ => ∃ m, u = .float .f32 (pick .f32 (pb) m)) (fun _ _ _ h _ => h) (fun vs w' hE hk => ?_) ?_; (focus ((obtain ⟨d0, d1, d2⟩ := KS.out w' hE); go_simp; refine (Cb.out _ _).mono ?_; rintro _ _ ⟨m1, m2, rfl, rfl⟩; exact ⟨_, rfl, below_drewN (Below.refl _ _) _, m1, rfl⟩)); (simp only [Act.put, List.setIfInBounds_toArray, List.set_cons_zero, List.set_cons_succ, List.cons_append, List.nil_append])
    refine wpF_fact (fun u _ => ∃ m, u = .float .f32 (pick .f32 (pr) m)) (fun _ _ _ h _ => h) (fun vs w' hE hk => ?_) ?_; (focus (obtain ⟨m1, h1⟩ := hk 2 (by kernel_rfl); simp only [h1]; go_simp; exact ⟨Below.refl _ _, m1, rfl⟩)); (simp only [Act.put, List.setIfInBounds_toArray, List.set_cons_zero, List.set_cons_succ, List.cons_append, List.nil_append])
    refine wpF_fact (fun u _ => ∃ m, u = .float .f32 (pick .f32 (pg) m)) (fun _ _ _ h _ => h) (fun vs w' hE hk => ?_) ?_; (focus (obtain ⟨m1, h1⟩ := hk 5 (by kernel_rfl); simp only [h1]; go_simp; exact ⟨Below.refl _ _, m1, rfl⟩)); (simp only [Act.put, List.setIfInBounds_toArray, List.set_cons_zero, List.set_cons_succ, List.cons_append, List.nil_append])
    refine wpF_fact (fun u _ => ∃ m, u = .float .f32 (pick .f32 (pb) m)) (fun _ _ _ h _ => h) (fun vs w' hE hk => ?_) ?_; (focus (obtain ⟨m1, h1⟩ := hk 8 (by kernel_rfl); simp only [h1]; go_simp; exact ⟨Below.refl _ _, m1, rfl⟩)); (simp only [Act.put, List.setIfInBounds_toArray, List.set_cons_zero, List.set_cons_succ, List.cons_append, List.nil_append])
    refine wpF_nil (fun vs w3 hE hk => ?_)
    obtain ⟨_, h1⟩ := hk 2
    obtain ⟨_, h2⟩ := hk 5
    obtain ⟨_, h3⟩ := hk 8
    obtain ⟨_, h4⟩ := hk 9
    obtain ⟨_, h5⟩ := hk 10
    obtain ⟨_, h6⟩ := hk 11
    simp only [h1, h2, h3, h4, h5, h6]
    clear h1 h2 h3 h4 h5 h6
    have b := hE
    clear hE hk KS
    have Va_3 := Lib.hid (Va_2.out.keep b)
    have B_3 := Lib.hid (B_2.out.trans (b.mono B_2.out.size))
    clear Va_2 B_2 b
    obtain ⟨ca0, ca1, ca2⟩ := Va_3.out.three
    have hc : ((FloatKind.f32.format.order pr pg == some .gt || FloatKind.f32.format.order pr pg == some .eq) = true ∧ (FloatKind.f32.format.order pr pb == some .gt || FloatKind.f32.format.order pr pb == some .eq) = true ∧ (FloatKind.f32.format.order ar 0 == some .lt) = true) ∨ ((FloatKind.f32.format.order pr pg == some .gt || FloatKind.f32.format.order pr pg == some .eq) = true ∧ (FloatKind.f32.format.order pr pb == some .gt || FloatKind.f32.format.order pr pb == some .eq) = true ∧ (FloatKind.f32.format.order ar 0 == some .lt) = false) ∨ ((FloatKind.f32.format.order pr pg == some .gt || FloatKind.f32.format.order pr pg == some .eq) = true ∧ (FloatKind.f32.format.order pr pb == some .gt || FloatKind.f32.format.order pr pb == some .eq) = false ∧ (FloatKind.f32.format.order pg pb == some .gt || FloatKind.f32.format.order pg pb == some .eq) = true ∧ (FloatKind.f32.format.order ag 0 == some .lt) = true) ∨ ((FloatKind.f32.format.order pr pg == some .gt || FloatKind.f32.format.order pr pg == some .eq) = true ∧ (FloatKind.f32.format.order pr pb == some .gt || FloatKind.f32.format.order pr pb == some .eq) = false ∧ (FloatKind.f32.format.order pg pb == some .gt || FloatKind.f32.format.order pg pb == some .eq) = true ∧ (FloatKind.f32.format.order ag 0 == some .lt) = false) ∨ ((FloatKind.f32.format.order pr pg == some .gt || FloatKind.f32.format.order pr pg == some .eq) = true ∧ (FloatKind.f32.format.order pr pb == some .gt || FloatKind.f32.format.order pr pb == some .eq) = false ∧ (FloatKind.f32.format.order pg pb == some .gt || FloatKind.f32.format.order pg pb == some .eq) = false ∧ (FloatKind.f32.format.order ab 0 == some .lt) = true) ∨ ((FloatKind.f32.format.order pr pg == some .gt || FloatKind.f32.format.order pr pg == some .eq) = true ∧ (FloatKind.f32.format.order pr pb == some .gt || FloatKind.f32.format.order pr pb == some .eq) = false ∧ (FloatKind.f32.format.order pg pb == some .gt || FloatKind.f32.format.order pg pb == some .eq) = false ∧ (FloatKind.f32.format.order ab 0 == some .lt) = false) ∨ ((FloatKind.f32.format.order pr pg == some .gt || FloatKind.f32.format.order pr pg == some .eq) = false ∧ (FloatKind.f32.format.order pg pb == some .gt || FloatKind.f32.format.order pg pb == some .eq) = true ∧ (FloatKind.f32.format.order ag 0 == some .lt) = true) ∨ ((FloatKind.f32.format.order pr pg == some .gt || FloatKind.f32.format.order pr pg == some .eq) = false ∧ (FloatKind.f32.format.order pg pb == some .gt || FloatKind.f32.format.order pg pb == some .eq) = true ∧ (FloatKind.f32.format.order ag 0 == some .lt) = false) ∨ ((FloatKind.f32.format.order pr pg == some .gt || FloatKind.f32.format.order pr pg == some .eq) = false ∧ (FloatKind.f32.format.order pg pb == some .gt || FloatKind.f32.format.order pg pb == some .eq) = false ∧ (FloatKind.f32.format.order ab 0 == some .lt) = true) ∨ ((FloatKind.f32.format.order pr pg == some .gt || FloatKind.f32.format.order pr pg == some .eq) = false ∧ (FloatKind.f32.format.order pg pb == some .gt || FloatKind.f32.format.order pg pb == some .eq) = false ∧ (FloatKind.f32.format.order ab 0 == some .lt) = false) := by
      cases (FloatKind.f32.format.order pr pg == some .gt || FloatKind.f32.format.order pr pg == some .eq) <;> cases (FloatKind.f32.format.order pr pb == some .gt || FloatKind.f32.format.order pr pb == some .eq) <;> cases (FloatKind.f32.format.order pg pb == some .gt || FloatKind.f32.format.order pg pb == some .eq) <;> cases (FloatKind.f32.format.order ar 0 == some .lt) <;> cases (FloatKind.f32.format.order ag 0 == some .lt) <;> cases (FloatKind.f32.format.order ab 0 == some .lt) <;> simp
    rcases hc with ⟨e0, e1, e2⟩ | ⟨e0, e1, e2⟩ | ⟨e0, e1, e2, e3⟩ | ⟨e0, e1, e2, e3⟩ | ⟨e0, e1, e2, e3⟩ | ⟨e0, e1, e2, e3⟩ | ⟨e0, e1, e2⟩ | ⟨e0, e1, e2⟩ | ⟨e0, e1, e2⟩ | ⟨e0, e1, e2⟩
    · have RES := Lib.hid (show res = (1, fop .quo .f32 ag (fneg .f32 ar), fop .quo .f32 ab (fneg .f32 ar), true) from by rw [RES0.out]; simp only [e0, e1, e2, Bool.and_true, Bool.and_false, Bool.true_and, Bool.false_and, if_true, Bool.false_eq_true, if_false]; try rfl)
      go_wp2_with fail
      clear ca0 ca1 ca2
      have KS := Lib.hid (fun (w' : World) (hE : Below w3.heap.size w3 w') => (⟨(Va_3.out.keep hE).three.1, (Va_3.out.keep hE).three.2.1, (Va_3.out.keep hE).three.2.2⟩ : _ ∧ _ ∧ _))
      refine wp_region_facts 10 (fun a b => Below a.heap.size a b) (fun _ => Below.refl _ _) (fun _ _ _ h h' => h.trans (h'.mono h.size)) (Below.refl _ _).drew (by kernel_rfl) (by kernel_rfl) (by kernel_rfl) (by kernel_rfl) ?_
      simp only [List.take_succ_cons, List.take_zero, List.drop_succ_cons, List.drop_zero]
      (with_reducible apply wpF_val); (focus (intro vs w' hE hk; (obtain ⟨d0, d1, d2⟩ := KS.out w' hE); go_simp; exact ⟨Below.refl _ _, rfl⟩)); (simp only [Act.put, List.setIfInBounds_toArray, List.set_cons_zero, List.set_cons_succ, List.cons_append, List.nil_append])
      (with_reducible apply wpF_val); (focus (intro vs w' hE hk; (obtain ⟨d0, d1, d2⟩ := KS.out w' hE); go_simp; exact ⟨Below.refl _ _, rfl⟩)); (simp only [Act.put, List.setIfInBounds_toArray, List.set_cons_zero, List.set_cons_succ, List.cons_append, List.nil_append])
      (with_reducible apply wpF_val); (focus (intro vs w' hE hk; (obtain ⟨d0, d1, d2⟩ := KS.out w' hE); go_simp; exact ⟨Below.refl _ _, rfl⟩)); (simp only [Act.put, List.setIfInBounds_toArray, List.set_cons_zero, List.set_cons_succ, List.cons_append, List.nil_append])
      (with_reducible apply wpF_val); (focus (intro vs w' hE hk; (obtain ⟨d0, d1, d2⟩ := KS.out w' hE); go_simp; exact ⟨Below.refl _ _, rfl⟩)); (simp only [Act.put, List.setIfInBounds_toArray, List.set_cons_zero, List.set_cons_succ, List.cons_append, List.nil_append])
      (with_reducible apply wpF_val); (focus (intro vs w' hE hk; (obtain ⟨d0, d1, d2⟩ := KS.out w' hE); go_simp; exact ⟨Below.refl _ _, rfl⟩)); (simp only [Act.put, List.setIfInBounds_toArray, List.set_cons_zero, List.set_cons_succ, List.cons_append, List.nil_append])
      (with_reducible apply wpF_val); (focus (intro vs w' hE hk; (obtain ⟨d0, d1, d2⟩ := KS.out w' hE); go_simp; exact ⟨Below.refl _ _, rfl⟩)); (simp only [Act.put, List.setIfInBounds_toArray, List.set_cons_zero, List.set_cons_succ, List.cons_append, List.nil_append])
      (with_reducible apply wpF_val); (focus (intro vs w' hE hk; (obtain ⟨d0, d1, d2⟩ := KS.out w' hE); go_simp; exact ⟨Below.refl _ _, rfl⟩)); (simp only [Act.put, List.setIfInBounds_toArray, List.set_cons_zero, List.set_cons_succ, List.cons_append, List.nil_append])
      (with_reducible apply wpF_val); (focus (intro vs w' hE hk; (obtain ⟨d0, d1, d2⟩ := KS.out w' hE); go_simp; exact ⟨Below.refl _ _, rfl⟩)); (simp only [Act.put, List.setIfInBounds_toArray, List.set_cons_zero, List.set_cons_succ, List.cons_append, List.nil_append])
      (with_reducible apply wpF_val); (focus (intro vs w' hE hk; (obtain ⟨d0, d1, d2⟩ := KS.out w' hE); go_simp; exact ⟨Below.refl _ _, rfl⟩)); (simp only [Act.put, List.setIfInBounds_toArray, List.set_cons_zero, List.set_cons_succ, List.cons_append, List.nil_append])
      (with_reducible apply wpF_val); (focus (intro vs w' hE hk; (obtain ⟨d0, d1, d2⟩ := KS.out w' hE); go_simp; exact ⟨Below.refl _ _, rfl⟩)); (simp only [Act.put, List.setIfInBounds_toArray, List.set_cons_zero, List.set_cons_succ, List.cons_append, List.nil_append])
      refine wpF_nil (fun vs w4 hE hk => ?_)
      have b := hE
      clear hE hk KS
      have Va_4 := Lib.hid (Va_3.out.keep b)
      have B_4 := Lib.hid (B_3.out.trans (b.mono B_3.out.size))
      clear Va_3 B_3 b
      obtain ⟨ca0, ca1, ca2⟩ := Va_4.out.three
      rw [← w4.drewN_zero]
      go_wp2_with (first | (refine wpList_fop rfl _ _ _ _ _ rfl _ _ _ rfl rfl (by decide) _ ?_; intro _ _) | (refine upon_fop _ _ _ _ _ (by decide) ?_; intro _ _))
      rw [RES.out]; refine bodyPost_ret (by simp [results, Try.results40, go_sem]; exact ⟨rfl, rfl⟩) rfl ⟨_, _, rfl, below_drewN B_4.out _⟩
    · have RES := Lib.hid (show res = (0, fop .quo .f32 ag (ar), fop .quo .f32 ab (ar), true) from by rw [RES0.out]; simp only [e0, e1, e2, Bool.and_true, Bool.and_false, Bool.true_and, Bool.false_and, if_true, Bool.false_eq_true, if_false]; try rfl)
      go_wp2_with fail
      clear ca0 ca1 ca2
      have KS := Lib.hid (fun (w' : World) (hE : Below w3.heap.size w3 w') => (⟨(Va_3.out.keep hE).three.1, (Va_3.out.keep hE).three.2.1, (Va_3.out.keep hE).three.2.2⟩ : _ ∧ _ ∧ _))
      refine wp_region_facts 10 (fun a b => Below a.heap.size a b) (fun _ => Below.refl _ _) (fun _ _ _ h h' => h.trans (h'.mono h.size)) (Below.refl _ _).drew (by kernel_rfl) (by kernel_rfl) (by kernel_rfl) (by kernel_rfl) ?_
      simp only [List.take_succ_cons, List.take_zero, List.drop_succ_cons, List.drop_zero]
      (with_reducible apply wpF_val); (focus (intro vs w' hE hk; (obtain ⟨d0, d1, d2⟩ := KS.out w' hE); go_simp; exact ⟨Below.refl _ _, rfl⟩)); (simp only [Act.put, List.setIfInBounds_toArray, List.set_cons_zero, List.set_cons_succ, List.cons_append, List.nil_append])
      (with_reducible apply wpF_val); (focus (intro vs w' hE hk; (obtain ⟨d0, d1, d2⟩ := KS.out w' hE); go_simp; exact ⟨Below.refl _ _, rfl⟩)); (simp only [Act.put, List.setIfInBounds_toArray, List.set_cons_zero, List.set_cons_succ, List.cons_append, List.nil_append])
      (with_reducible apply wpF_val); (focus (intro vs w' hE hk; (obtain ⟨d0, d1, d2⟩ := KS.out w' hE); go_simp; exact ⟨Below.refl _ _, rfl⟩)); (simp only [Act.put, List.setIfInBounds_toArray, List.set_cons_zero, List.set_cons_succ, List.cons_append, List.nil_append])
      (with_reducible apply wpF_val); (focus (intro vs w' hE hk; (obtain ⟨d0, d1, d2⟩ := KS.out w' hE); go_simp; exact ⟨Below.refl _ _, rfl⟩)); (simp only [Act.put, List.setIfInBounds_toArray, List.set_cons_zero, List.set_cons_succ, List.cons_append, List.nil_append])
      (with_reducible apply wpF_val); (focus (intro vs w' hE hk; (obtain ⟨d0, d1, d2⟩ := KS.out w' hE); go_simp; exact ⟨Below.refl _ _, rfl⟩)); (simp only [Act.put, List.setIfInBounds_toArray, List.set_cons_zero, List.set_cons_succ, List.cons_append, List.nil_append])
      (with_reducible apply wpF_val); (focus (intro vs w' hE hk; (obtain ⟨d0, d1, d2⟩ := KS.out w' hE); go_simp; exact ⟨Below.refl _ _, rfl⟩)); (simp only [Act.put, List.setIfInBounds_toArray, List.set_cons_zero, List.set_cons_succ, List.cons_append, List.nil_append])
      (with_reducible apply wpF_val); (focus (intro vs w' hE hk; (obtain ⟨d0, d1, d2⟩ := KS.out w' hE); go_simp; exact ⟨Below.refl _ _, rfl⟩)); (simp only [Act.put, List.setIfInBounds_toArray, List.set_cons_zero, List.set_cons_succ, List.cons_append, List.nil_append])
      (with_reducible apply wpF_val); (focus (intro vs w' hE hk; (obtain ⟨d0, d1, d2⟩ := KS.out w' hE); go_simp; exact ⟨Below.refl _ _, rfl⟩)); (simp only [Act.put, List.setIfInBounds_toArray, List.set_cons_zero, List.set_cons_succ, List.cons_append, List.nil_append])
      (with_reducible apply wpF_val); (focus (intro vs w' hE hk; (obtain ⟨d0, d1, d2⟩ := KS.out w' hE); go_simp; exact ⟨Below.refl _ _, rfl⟩)); (simp only [Act.put, List.setIfInBounds_toArray, List.set_cons_zero, List.set_cons_succ, List.cons_append, List.nil_append])
      (with_reducible apply wpF_val); (focus (intro vs w' hE hk; (obtain ⟨d0, d1, d2⟩ := KS.out w' hE); go_simp; exact ⟨Below.refl _ _, rfl⟩)); (simp only [Act.put, List.setIfInBounds_toArray, List.set_cons_zero, List.set_cons_succ, List.cons_append, List.nil_append])
      refine wpF_nil (fun vs w4 hE hk => ?_)
      have b := hE
      clear hE hk KS
      have Va_4 := Lib.hid (Va_3.out.keep b)
      have B_4 := Lib.hid (B_3.out.trans (b.mono B_3.out.size))
      clear Va_3 B_3 b
      obtain ⟨ca0, ca1, ca2⟩ := Va_4.out.three
      rw [← w4.drewN_zero]
      go_wp2_with (first | (refine wpList_fop rfl _ _ _ _ _ rfl _ _ _ rfl rfl (by decide) _ ?_; intro _ _) | (refine upon_fop _ _ _ _ _ (by decide) ?_; intro _ _))
      rw [RES.out]; refine bodyPost_ret (by simp [results, Try.results40, go_sem]; exact ⟨rfl, rfl⟩) rfl ⟨_, _, rfl, below_drewN B_4.out _⟩
    · have RES := Lib.hid (show res = (3, fop .quo .f32 ar (fneg .f32 ag), fop .quo .f32 ab (fneg .f32 ag), true) from by rw [RES0.out]; simp only [e0, e1, e2, e3, Bool.and_true, Bool.and_false, Bool.true_and, Bool.false_and, if_true, Bool.false_eq_true, if_false]; try rfl)
      go_wp2_with fail
      clear ca0 ca1 ca2
      have KS := Lib.hid (fun (w' : World) (hE : Below w3.heap.size w3 w') => (⟨(Va_3.out.keep hE).three.1, (Va_3.out.keep hE).three.2.1, (Va_3.out.keep hE).three.2.2⟩ : _ ∧ _ ∧ _))
      refine wp_region_facts 10 (fun a b => Below a.heap.size a b) (fun _ => Below.refl _ _) (fun _ _ _ h h' => h.trans (h'.mono h.size)) (Below.refl _ _).drew (by kernel_rfl) (by kernel_rfl) (by kernel_rfl) (by kernel_rfl) ?_
      simp only [List.take_succ_cons, List.take_zero, List.drop_succ_cons, List.drop_zero]
      (with_reducible apply wpF_val); (focus (intro vs w' hE hk; (obtain ⟨d0, d1, d2⟩ := KS.out w' hE); go_simp; exact ⟨Below.refl _ _, rfl⟩)); (simp only [Act.put, List.setIfInBounds_toArray, List.set_cons_zero, List.set_cons_succ, List.cons_append, List.nil_append])
      (with_reducible apply wpF_val); (focus (intro vs w' hE hk; (obtain ⟨d0, d1, d2⟩ := KS.out w' hE); go_simp; exact ⟨Below.refl _ _, rfl⟩)); (simp only [Act.put, List.setIfInBounds_toArray, List.set_cons_zero, List.set_cons_succ, List.cons_append, List.nil_append])
      (with_reducible apply wpF_val); (focus (intro vs w' hE hk; (obtain ⟨d0, d1, d2⟩ := KS.out w' hE); go_simp; exact ⟨Below.refl _ _, rfl⟩)); (simp only [Act.put, List.setIfInBounds_toArray, List.set_cons_zero, List.set_cons_succ, List.cons_append, List.nil_append])
      (with_reducible apply wpF_val); (focus (intro vs w' hE hk; (obtain ⟨d0, d1, d2⟩ := KS.out w' hE); go_simp; exact ⟨Below.refl _ _, rfl⟩)); (simp only [Act.put, List.setIfInBounds_toArray, List.set_cons_zero, List.set_cons_succ, List.cons_append, List.nil_append])
      (with_reducible apply wpF_val); (focus (intro vs w' hE hk; (obtain ⟨d0, d1, d2⟩ := KS.out w' hE); go_simp; exact ⟨Below.refl _ _, rfl⟩)); (simp only [Act.put, List.setIfInBounds_toArray, List.set_cons_zero, List.set_cons_succ, List.cons_append, List.nil_append])
      (with_reducible apply wpF_val); (focus (intro vs w' hE hk; (obtain ⟨d0, d1, d2⟩ := KS.out w' hE); go_simp; exact ⟨Below.refl _ _, rfl⟩)); (simp only [Act.put, List.setIfInBounds_toArray, List.set_cons_zero, List.set_cons_succ, List.cons_append, List.nil_append])
      (with_reducible apply wpF_val); (focus (intro vs w' hE hk; (obtain ⟨d0, d1, d2⟩ := KS.out w' hE); go_simp; exact ⟨Below.refl _ _, rfl⟩)); (simp only [Act.put, List.setIfInBounds_toArray, List.set_cons_zero, List.set_cons_succ, List.cons_append, List.nil_append])
      (with_reducible apply wpF_val); (focus (intro vs w' hE hk; (obtain ⟨d0, d1, d2⟩ := KS.out w' hE); go_simp; exact ⟨Below.refl _ _, rfl⟩)); (simp only [Act.put, List.setIfInBounds_toArray, List.set_cons_zero, List.set_cons_succ, List.cons_append, List.nil_append])
      (with_reducible apply wpF_val); (focus (intro vs w' hE hk; (obtain ⟨d0, d1, d2⟩ := KS.out w' hE); go_simp; exact ⟨Below.refl _ _, rfl⟩)); (simp only [Act.put, List.setIfInBounds_toArray, List.set_cons_zero, List.set_cons_succ, List.cons_append, List.nil_append])
      (with_reducible apply wpF_val); (focus (intro vs w' hE hk; (obtain ⟨d0, d1, d2⟩ := KS.out w' hE); go_simp; exact ⟨Below.refl _ _, rfl⟩)); (simp only [Act.put, List.setIfInBounds_toArray, List.set_cons_zero, List.set_cons_succ, List.cons_append, List.nil_append])
      refine wpF_nil (fun vs w4 hE hk => ?_)
      have b := hE
      clear hE hk KS
      have Va_4 := Lib.hid (Va_3.out.keep b)
      have B_4 := Lib.hid (B_3.out.trans (b.mono B_3.out.size))
      clear Va_3 B_3 b
      obtain ⟨ca0, ca1, ca2⟩ := Va_4.out.three
      rw [← w4.drewN_zero]
      go_wp2_with (first | (refine wpList_fop rfl _ _ _ _ _ rfl _ _ _ rfl rfl (by decide) _ ?_; intro _ _) | (refine upon_fop _ _ _ _ _ (by decide) ?_; intro _ _))
      rw [RES.out]; refine bodyPost_ret (by simp [results, Try.results40, go_sem]; exact ⟨rfl, rfl⟩) rfl ⟨_, _, rfl, below_drewN B_4.out _⟩
    · have RES := Lib.hid (show res = (2, fop .quo .f32 ar (ag), fop .quo .f32 ab (ag), true) from by rw [RES0.out]; simp only [e0, e1, e2, e3, Bool.and_true, Bool.and_false, Bool.true_and, Bool.false_and, if_true, Bool.false_eq_true, if_false]; try rfl)
      go_wp2_with fail
      clear ca0 ca1 ca2
      have KS := Lib.hid (fun (w' : World) (hE : Below w3.heap.size w3 w') => (⟨(Va_3.out.keep hE).three.1, (Va_3.out.keep hE).three.2.1, (Va_3.out.keep hE).three.2.2⟩ : _ ∧ _ ∧ _))
      refine wp_region_facts 10 (fun a b => Below a.heap.size a b) (fun _ => Below.refl _ _) (fun _ _ _ h h' => h.trans (h'.mono h.size)) (Below.refl _ _).drew (by kernel_rfl) (by kernel_rfl) (by kernel_rfl) (by kernel_rfl) ?_
      simp only [List.take_succ_cons, List.take_zero, List.drop_succ_cons, List.drop_zero]
      (with_reducible apply wpF_val); (focus (intro vs w' hE hk; (obtain ⟨d0, d1, d2⟩ := KS.out w' hE); go_simp; exact ⟨Below.refl _ _, rfl⟩)); (simp only [Act.put, List.setIfInBounds_toArray, List.set_cons_zero, List.set_cons_succ, List.cons_append, List.nil_append])
      (with_reducible apply wpF_val); (focus (intro vs w' hE hk; (obtain ⟨d0, d1, d2⟩ := KS.out w' hE); go_simp; exact ⟨Below.refl _ _, rfl⟩)); (simp only [Act.put, List.setIfInBounds_toArray, List.set_cons_zero, List.set_cons_succ, List.cons_append, List.nil_append])
      (with_reducible apply wpF_val); (focus (intro vs w' hE hk; (obtain ⟨d0, d1, d2⟩ := KS.out w' hE); go_simp; exact ⟨Below.refl _ _, rfl⟩)); (simp only [Act.put, List.setIfInBounds_toArray, List.set_cons_zero, List.set_cons_succ, List.cons_append, List.nil_append])
      (with_reducible apply wpF_val); (focus (intro vs w' hE hk; (obtain ⟨d0, d1, d2⟩ := KS.out w' hE); go_simp; exact ⟨Below.refl _ _, rfl⟩)); (simp only [Act.put, List.setIfInBounds_toArray, List.set_cons_zero, List.set_cons_succ, List.cons_append, List.nil_append])
      (with_reducible apply wpF_val); (focus (intro vs w' hE hk; (obtain ⟨d0, d1, d2⟩ := KS.out w' hE); go_simp; exact ⟨Below.refl _ _, rfl⟩)); (simp only [Act.put, List.setIfInBounds_toArray, List.set_cons_zero, List.set_cons_succ, List.cons_append, List.nil_append])
      (with_reducible apply wpF_val); (focus (intro vs w' hE hk; (obtain ⟨d0, d1, d2⟩ := KS.out w' hE); go_simp; exact ⟨Below.refl _ _, rfl⟩)); (simp only [Act.put, List.setIfInBounds_toArray, List.set_cons_zero, List.set_cons_succ, List.cons_append, List.nil_append])
      (with_reducible apply wpF_val); (focus (intro vs w' hE hk; (obtain ⟨d0, d1, d2⟩ := KS.out w' hE); go_simp; exact ⟨Below.refl _ _, rfl⟩)); (simp only [Act.put, List.setIfInBounds_toArray, List.set_cons_zero, List.set_cons_succ, List.cons_append, List.nil_append])
      (with_reducible apply wpF_val); (focus (intro vs w' hE hk; (obtain ⟨d0, d1, d2⟩ := KS.out w' hE); go_simp; exact ⟨Below.refl _ _, rfl⟩)); (simp only [Act.put, List.setIfInBounds_toArray, List.set_cons_zero, List.set_cons_succ, List.cons_append, List.nil_append])
      (with_reducible apply wpF_val); (focus (intro vs w' hE hk; (obtain ⟨d0, d1, d2⟩ := KS.out w' hE); go_simp; exact ⟨Below.refl _ _, rfl⟩)); (simp only [Act.put, List.setIfInBounds_toArray, List.set_cons_zero, List.set_cons_succ, List.cons_append, List.nil_append])
      (with_reducible apply wpF_val); (focus (intro vs w' hE hk; (obtain ⟨d0, d1, d2⟩ := KS.out w' hE); go_simp; exact ⟨Below.refl _ _, rfl⟩)); (simp only [Act.put, List.setIfInBounds_toArray, List.set_cons_zero, List.set_cons_succ, List.cons_append, List.nil_append])
      refine wpF_nil (fun vs w4 hE hk => ?_)
      have b := hE
      clear hE hk KS
      have Va_4 := Lib.hid (Va_3.out.keep b)
      have B_4 := Lib.hid (B_3.out.trans (b.mono B_3.out.size))
      clear Va_3 B_3 b
      obtain ⟨ca0, ca1, ca2⟩ := Va_4.out.three
      rw [← w4.drewN_zero]
      go_wp2_with (first | (refine wpList_fop rfl _ _ _ _ _ rfl _ _ _ rfl rfl (by decide) _ ?_; intro _ _) | (refine upon_fop _ _ _ _ _ (by decide) ?_; intro _ _))
      rw [RES.out]; refine bodyPost_ret (by simp [results, Try.results40, go_sem]; exact ⟨rfl, rfl⟩) rfl ⟨_, _, rfl, below_drewN B_4.out _⟩
    · have RES := Lib.hid (show res = (5, fop .quo .f32 ar (fneg .f32 ab), fop .quo .f32 ag (fneg .f32 ab), true) from by rw [RES0.out]; simp only [e0, e1, e2, e3, Bool.and_true, Bool.and_false, Bool.true_and, Bool.false_and, if_true, Bool.false_eq_true, if_false]; try rfl)
      go_wp2_with fail
      rw [← w3.drewN_zero]
      go_wp2_with (first | (refine wpList_fop rfl _ _ _ _ _ rfl _ _ _ rfl rfl (by decide) _ ?_; intro _ _) | (refine upon_fop _ _ _ _ _ (by decide) ?_; intro _ _))
      rw [RES.out]; refine bodyPost_ret (by simp [results, Try.results40, go_sem]; exact ⟨rfl, rfl⟩) rfl ⟨_, _, rfl, below_drewN B_3.out _⟩
    · have RES := Lib.hid (show res = (4, fop .quo .f32 ar (ab), fop .quo .f32 ag (ab), true) from by rw [RES0.out]; simp only [e0, e1, e2, e3, Bool.and_true, Bool.and_false, Bool.true_and, Bool.false_and, if_true, Bool.false_eq_true, if_false]; try rfl)
      go_wp2_with fail
      rw [← w3.drewN_zero]
      go_wp2_with (first | (refine wpList_fop rfl _ _ _ _ _ rfl _ _ _ rfl rfl (by decide) _ ?_; intro _ _) | (refine upon_fop _ _ _ _ _ (by decide) ?_; intro _ _))
      rw [RES.out]; refine bodyPost_ret (by simp [results, Try.results40, go_sem]; exact ⟨rfl, rfl⟩) rfl ⟨_, _, rfl, below_drewN B_3.out _⟩
    · have RES := Lib.hid (show res = (3, fop .quo .f32 ar (fneg .f32 ag), fop .quo .f32 ab (fneg .f32 ag), true) from by rw [RES0.out]; simp only [e0, e1, e2, Bool.and_true, Bool.and_false, Bool.true_and, Bool.false_and, if_true, Bool.false_eq_true, if_false]; try rfl)
      go_wp2_with fail
      clear ca0 ca1 ca2
      have KS := Lib.hid (fun (w' : World) (hE : Below w3.heap.size w3 w') => (⟨(Va_3.out.keep hE).three.1, (Va_3.out.keep hE).three.2.1, (Va_3.out.keep hE).three.2.2⟩ : _ ∧ _ ∧ _))
      refine wp_region_facts 10 (fun a b => Below a.heap.size a b) (fun _ => Below.refl _ _) (fun _ _ _ h h' => h.trans (h'.mono h.size)) (Below.refl _ _).drew (by kernel_rfl) (by kernel_rfl) (by kernel_rfl) (by kernel_rfl) ?_
      simp only [List.take_succ_cons, List.take_zero, List.drop_succ_cons, List.drop_zero]
      (with_reducible apply wpF_val); (focus (intro vs w' hE hk; (obtain ⟨d0, d1, d2⟩ := KS.out w' hE); go_simp; exact ⟨Below.refl _ _, rfl⟩)); (simp only [Act.put, List.setIfInBounds_toArray, List.set_cons_zero, List.set_cons_succ, List.cons_append, List.nil_append])
      (with_reducible apply wpF_val); (focus (intro vs w' hE hk; (obtain ⟨d0, d1, d2⟩ := KS.out w' hE); go_simp; exact ⟨Below.refl _ _, rfl⟩)); (simp only [Act.put, List.setIfInBounds_toArray, List.set_cons_zero, List.set_cons_succ, List.cons_append, List.nil_append])
      (with_reducible apply wpF_val); (focus (intro vs w' hE hk; (obtain ⟨d0, d1, d2⟩ := KS.out w' hE); go_simp; exact ⟨Below.refl _ _, rfl⟩)); (simp only [Act.put, List.setIfInBounds_toArray, List.set_cons_zero, List.set_cons_succ, List.cons_append, List.nil_append])
      (with_reducible apply wpF_val); (focus (intro vs w' hE hk; (obtain ⟨d0, d1, d2⟩ := KS.out w' hE); go_simp; exact ⟨Below.refl _ _, rfl⟩)); (simp only [Act.put, List.setIfInBounds_toArray, List.set_cons_zero, List.set_cons_succ, List.cons_append, List.nil_append])
      (with_reducible apply wpF_val); (focus (intro vs w' hE hk; (obtain ⟨d0, d1, d2⟩ := KS.out w' hE); go_simp; exact ⟨Below.refl _ _, rfl⟩)); (simp only [Act.put, List.setIfInBounds_toArray, List.set_cons_zero, List.set_cons_succ, List.cons_append, List.nil_append])
      (with_reducible apply wpF_val); (focus (intro vs w' hE hk; (obtain ⟨d0, d1, d2⟩ := KS.out w' hE); go_simp; exact ⟨Below.refl _ _, rfl⟩)); (simp only [Act.put, List.setIfInBounds_toArray, List.set_cons_zero, List.set_cons_succ, List.cons_append, List.nil_append])
      (with_reducible apply wpF_val); (focus (intro vs w' hE hk; (obtain ⟨d0, d1, d2⟩ := KS.out w' hE); go_simp; exact ⟨Below.refl _ _, rfl⟩)); (simp only [Act.put, List.setIfInBounds_toArray, List.set_cons_zero, List.set_cons_succ, List.cons_append, List.nil_append])
      (with_reducible apply wpF_val); (focus (intro vs w' hE hk; (obtain ⟨d0, d1, d2⟩ := KS.out w' hE); go_simp; exact ⟨Below.refl _ _, rfl⟩)); (simp only [Act.put, List.setIfInBounds_toArray, List.set_cons_zero, List.set_cons_succ, List.cons_append, List.nil_append])
      (with_reducible apply wpF_val); (focus (intro vs w' hE hk; (obtain ⟨d0, d1, d2⟩ := KS.out w' hE); go_simp; exact ⟨Below.refl _ _, rfl⟩)); (simp only [Act.put, List.setIfInBounds_toArray, List.set_cons_zero, List.set_cons_succ, List.cons_append, List.nil_append])
      (with_reducible apply wpF_val); (focus (intro vs w' hE hk; (obtain ⟨d0, d1, d2⟩ := KS.out w' hE); go_simp; exact ⟨Below.refl _ _, rfl⟩)); (simp only [Act.put, List.setIfInBounds_toArray, List.set_cons_zero, List.set_cons_succ, List.cons_append, List.nil_append])
      refine wpF_nil (fun vs w4 hE hk => ?_)
      have b := hE
      clear hE hk KS
      have Va_4 := Lib.hid (Va_3.out.keep b)
      have B_4 := Lib.hid (B_3.out.trans (b.mono B_3.out.size))
      clear Va_3 B_3 b
      obtain ⟨ca0, ca1, ca2⟩ := Va_4.out.three
      rw [← w4.drewN_zero]
      go_wp2_with (first | (refine wpList_fop rfl _ _ _ _ _ rfl _ _ _ rfl rfl (by decide) _ ?_; intro _ _) | (refine upon_fop _ _ _ _ _ (by decide) ?_; intro _ _))
      rw [RES.out]; refine bodyPost_ret (by simp [results, Try.results40, go_sem]; exact ⟨rfl, rfl⟩) rfl ⟨_, _, rfl, below_drewN B_4.out _⟩
    · have RES := Lib.hid (show res = (2, fop .quo .f32 ar (ag), fop .quo .f32 ab (ag), true) from by rw [RES0.out]; simp only [e0, e1, e2, Bool.and_true, Bool.and_false, Bool.true_and, Bool.false_and, if_true, Bool.false_eq_true, if_false]; try rfl)
      go_wp2_with fail
      clear ca0 ca1 ca2
      have KS := Lib.hid (fun (w' : World) (hE : Below w3.heap.size w3 w') => (⟨(Va_3.out.keep hE).three.1, (Va_3.out.keep hE).three.2.1, (Va_3.out.keep hE).three.2.2⟩ : _ ∧ _ ∧ _))
      refine wp_region_facts 10 (fun a b => Below a.heap.size a b) (fun _ => Below.refl _ _) (fun _ _ _ h h' => h.trans (h'.mono h.size)) (Below.refl _ _).drew (by kernel_rfl) (by kernel_rfl) (by kernel_rfl) (by kernel_rfl) ?_
      simp only [List.take_succ_cons, List.take_zero, List.drop_succ_cons, List.drop_zero]
      (with_reducible apply wpF_val); (focus (intro vs w' hE hk; (obtain ⟨d0, d1, d2⟩ := KS.out w' hE); go_simp; exact ⟨Below.refl _ _, rfl⟩)); (simp only [Act.put, List.setIfInBounds_toArray, List.set_cons_zero, List.set_cons_succ, List.cons_append, List.nil_append])
      (with_reducible apply wpF_val); (focus (intro vs w' hE hk; (obtain ⟨d0, d1, d2⟩ := KS.out w' hE); go_simp; exact ⟨Below.refl _ _, rfl⟩)); (simp only [Act.put, List.setIfInBounds_toArray, List.set_cons_zero, List.set_cons_succ, List.cons_append, List.nil_append])
      (with_reducible apply wpF_val); (focus (intro vs w' hE hk; (obtain ⟨d0, d1, d2⟩ := KS.out w' hE); go_simp; exact ⟨Below.refl _ _, rfl⟩)); (simp only [Act.put, List.setIfInBounds_toArray, List.set_cons_zero, List.set_cons_succ, List.cons_append, List.nil_append])
      (with_reducible apply wpF_val); (focus (intro vs w' hE hk; (obtain ⟨d0, d1, d2⟩ := KS.out w' hE); go_simp; exact ⟨Below.refl _ _, rfl⟩)); (simp only [Act.put, List.setIfInBounds_toArray, List.set_cons_zero, List.set_cons_succ, List.cons_append, List.nil_append])
      (with_reducible apply wpF_val); (focus (intro vs w' hE hk; (obtain ⟨d0, d1, d2⟩ := KS.out w' hE); go_simp; exact ⟨Below.refl _ _, rfl⟩)); (simp only [Act.put, List.setIfInBounds_toArray, List.set_cons_zero, List.set_cons_succ, List.cons_append, List.nil_append])
      (with_reducible apply wpF_val); (focus (intro vs w' hE hk; (obtain ⟨d0, d1, d2⟩ := KS.out w' hE); go_simp; exact ⟨Below.refl _ _, rfl⟩)); (simp only [Act.put, List.setIfInBounds_toArray, List.set_cons_zero, List.set_cons_succ, List.cons_append, List.nil_append])
      (with_reducible apply wpF_val); (focus (intro vs w' hE hk; (obtain ⟨d0, d1, d2⟩ := KS.out w' hE); go_simp; exact ⟨Below.refl _ _, rfl⟩)); (simp only [Act.put, List.setIfInBounds_toArray, List.set_cons_zero, List.set_cons_succ, List.cons_append, List.nil_append])
      (with_reducible apply wpF_val); (focus (intro vs w' hE hk; (obtain ⟨d0, d1, d2⟩ := KS.out w' hE); go_simp; exact ⟨Below.refl _ _, rfl⟩)); (simp only [Act.put, List.setIfInBounds_toArray, List.set_cons_zero, List.set_cons_succ, List.cons_append, List.nil_append])
      (with_reducible apply wpF_val); (focus (intro vs w' hE hk; (obtain ⟨d0, d1, d2⟩ := KS.out w' hE); go_simp; exact ⟨Below.refl _ _, rfl⟩)); (simp only [Act.put, List.setIfInBounds_toArray, List.set_cons_zero, List.set_cons_succ, List.cons_append, List.nil_append])
      (with_reducible apply wpF_val); (focus (intro vs w' hE hk; (obtain ⟨d0, d1, d2⟩ := KS.out w' hE); go_simp; exact ⟨Below.refl _ _, rfl⟩)); (simp only [Act.put, List.setIfInBounds_toArray, List.set_cons_zero, List.set_cons_succ, List.cons_append, List.nil_append])
      refine wpF_nil (fun vs w4 hE hk => ?_)
      have b := hE
      clear hE hk KS
      have Va_4 := Lib.hid (Va_3.out.keep b)
      have B_4 := Lib.hid (B_3.out.trans (b.mono B_3.out.size))
      clear Va_3 B_3 b
      obtain ⟨ca0, ca1, ca2⟩ := Va_4.out.three
      rw [← w4.drewN_zero]
      go_wp2_with (first | (refine wpList_fop rfl _ _ _ _ _ rfl _ _ _ rfl rfl (by decide) _ ?_; intro _ _) | (refine upon_fop _ _ _ _ _ (by decide) ?_; intro _ _))
      rw [RES.out]; refine bodyPost_ret (by simp [results, Try.results40, go_sem]; exact ⟨rfl, rfl⟩) rfl ⟨_, _, rfl, below_drewN B_4.out _⟩
    · have RES := Lib.hid (show res = (5, fop .quo .f32 ar (fneg .f32 ab), fop .quo .f32 ag (fneg .f32 ab), true) from by rw [RES0.out]; simp only [e0, e1, e2, Bool.and_true, Bool.and_false, Bool.true_and, Bool.false_and, if_true, Bool.false_eq_true, if_false]; try rfl)
      go_wp2_with fail
      rw [← w3.drewN_zero]
      go_wp2_with (first | (refine wpList_fop rfl _ _ _ _ _ rfl _ _ _ rfl rfl (by decide) _ ?_; intro _ _) | (refine upon_fop _ _ _ _ _ (by decide) ?_; intro _ _))
      rw [RES.out]; refine bodyPost_ret (by simp [results, Try.results40, go_sem]; exact ⟨rfl, rfl⟩) rfl ⟨_, _, rfl, below_drewN B_3.out _⟩
    · have RES := Lib.hid (show res = (4, fop .quo .f32 ar (ab), fop .quo .f32 ag (ab), true) from by rw [RES0.out]; simp only [e0, e1, e2, Bool.and_true, Bool.and_false, Bool.true_and, Bool.false_and, if_true, Bool.false_eq_true, if_false]; try rfl)
      go_wp2_with fail
      rw [← w3.drewN_zero]
      go_wp2_with (first | (refine wpList_fop rfl _ _ _ _ _ rfl _ _ _ rfl rfl (by decide) _ ?_; intro _ _) | (refine upon_fop _ _ _ _ _ (by decide) ?_; intro _ _))
      rw [RES.out]; refine bodyPost_ret (by simp [results, Try.results40, go_sem]; exact ⟨rfl, rfl⟩) rfl ⟨_, _, rfl, below_drewN B_3.out _⟩

/-! ### FnExactFaceOf -/
theorem walk (vWr nWr vWg nWg vWb nWb : Nat) (w : World) (hWr : vWr < 2 ^ FloatKind.f32.format.width) (hWg : vWg < 2 ^ FloatKind.f32.format.width) (hWb : vWb < 2 ^ FloatKind.f32.format.width) : Calls Try.prog 12 #[.agg #[.float .f32 (pick .f32 vWr nWr), .float .f32 (pick .f32 vWg nWg), .float .f32 (pick .f32 vWb nWb)]] w fun e w' => e = .returned (.bool true) ∧ Below w.heap.size w w' := by
  generalize hw0 : w.alloc (Obj.cells #[.float .f32 (pick .f32 vWr nWr), .float .f32 (pick .f32 vWg nWg), .float .f32 (pick .f32 vWb nWb)] 24) = w0
  have X0 : Var w0 w.heap.size #[.float .f32 (pick .f32 vWr nWr), .float .f32 (pick .f32 vWg nWg), .float .f32 (pick .f32 vWb nWb)] := by subst hw0; exact Var.new _ _ _
  have X1 : Below w.heap.size w w0 := by subst hw0; exact (Below.refl _ _).alloc (Nat.le_refl _) _
  have HW := Lib.hid hw0
  have B_0 := Lib.hid X1
  have V_0 := Lib.hid X0
  have CT := Lib.hid (fun w => c_toW vWr nWr vWg nWg vWb nWb w)
  obtain ⟨q0, q1, q2⟩ := X0.three
  have Cs := Lib.hid (fun w => c_sFaceOf vWr nWr vWg nWg vWb nWb w hWr hWg hWb)
  have Ci := Lib.hid (fun w => c_iFaceOf vWr nWr vWg nWg vWb nWb w hWr hWg hWb)
  generalize faceO vWr vWg vWb = z at *
  clear hw0 X0 X1
  go_enter Try.func12, Try.ntmps12
  go_wp2_with fail
  rw [HW.out]
  go_wp2_with fail
  refine (CT.out _).mono ?_
  rintro _ w1 ⟨rfl, b⟩
  have B_1 := Lib.hid (B_0.out.trans (b.mono B_0.out.size))
  have V_1 := Lib.hid (V_0.out.keep b)
  clear B_0 V_0
  clear b q0 q1 q2
  go_wp2_with fail
  refine (Cs.out _).mono ?_
  rintro _ w2 ⟨ns, ms, rfl, b⟩
  have B_2 := Lib.hid (B_1.out.trans (b.mono B_1.out.size))
  have V_2 := Lib.hid (V_1.out.keep b)
  clear B_1 V_1
  clear b
  obtain ⟨q0, q1, q2⟩ := V_2.out.three
  go_wp2_with fail
  refine (CT.out _).mono ?_
  rintro _ w3 ⟨rfl, b⟩
  have B_3 := Lib.hid (B_2.out.trans (b.mono B_2.out.size))
  have V_3 := Lib.hid (V_2.out.keep b)
  clear B_2 V_2
  clear b q0 q1 q2
  go_wp2_with fail
  refine (Ci.out _).mono ?_
  rintro _ w4 ⟨ni, mi, rfl, b⟩
  have B_4 := Lib.hid (B_3.out.trans (b.mono B_3.out.size))
  have V_4 := Lib.hid (V_3.out.keep b)
  clear B_3 V_3
  clear b
  obtain ⟨q0, q1, q2⟩ := V_4.out.three
  rw [← w4.drewN_zero]
  go_wp2_with (first | (refine wpList_cvU rfl 22 36 _ rfl (Option.isSome_iff_exists.2 ⟨_, Try.underlying22⟩) Try.underlying36 _ rfl _ ?_; intro _ _) | (refine upon_cvUp _ _ _ _ (Option.isSome_iff_exists.2 ⟨_, Try.underlying22⟩) Try.underlying36 ?_; intro _ _) | (go_at_call 25; refine (c_sameFloat _ _ _ _ _).mono ?_; rintro _ _ ⟨_, rfl, rfl⟩))
  go_ret
  exact ⟨rfl, below_drewN B_4.out _⟩

theorem own : ownKnob Try.prog.godebug = none := by kernel_rfl
theorem laidOut : laidOutB Try.prog = true := by kernel_rfl
set_option maxRecDepth 100000 in
theorem lifted (os : Os) (started : os.Started) (H : Type) (enc : TypeId × Value → H) :
    ReturnsInHanded {} Try.checked os 12 .any (Rows.fnExactFaceOfSpec.pre6 enc Try.prog Try.f12 Rows.fnExactFaceOfRow.domain false) (Rows.fnExactFaceOfSpec.post enc Try.prog Try.f12 false true false false) := by
  refine returnsInHanded_of_change (C := Try.checked) own started (by kernel_rfl) Try.func12
    (ChangeSpec.witness6 (enc := enc) (C := Try.checked) false ⟨#[], #[.agg #[.float .f32 0, .float .f32 0, .float .f32 0]], []⟩ 8 (by kernel_rfl) (by kernel_rfl) (by kernel_rfl) (by kernel_rfl)) ?_
  intro W base args ds gs before hval0 hW hcnd _
  have hval : ∀ (j : Nat) t v, Try.f12.params[j]? = some t → args[j]? = some v → Value.okWide Try.prog W .any base t v := hval0
  have hW' := hW
  obtain ⟨p, q, hA0, hV, rfl, hfz, hnd⟩ := hW
  have hA : DataW.TrodAll enc Try.prog W 0 (fun _ => true) true Try.f12.params.toList args.toList ds p := hA0
  rw [Try.params12] at hA hval
  obtain ⟨v0, vs0, d0, ds0, p0, q0, hargs, rfl, rfl, h0, r0⟩ := trodAll_cons hA
  obtain ⟨rfl, rfl, rfl⟩ := trodAll_nil r0
  obtain rfl : args = #[v0] := by cases args; simp_all
  obtain ⟨rfl, rfl⟩ := trodVars_none hV
  have k0 := h0
  have lt0 : ∀ x ∈ p0, x.block < W.heap.size := by obtain ⟨m, hm⟩ := k0; exact DataW.trod_lt m _ _ _ hm
  obtain ⟨br0, bg0, bb0, rfl, wr0, wg0, wb0⟩ := open_col Try.underlying24 (by kernel_rfl) (by kernel_rfl) Try.underlying22 Try.underlying22 Try.underlying22 (hval 0 24 v0 rfl rfl) h0
  obtain ⟨nr0, er0⟩ := pick_onto .f32 br0 (lt_of_wf wr0)
  obtain ⟨ng0, eg0⟩ := pick_onto .f32 bg0 (lt_of_wf wg0)
  obtain ⟨nb0, eb0⟩ := pick_onto .f32 bb0 (lt_of_wf wb0)
  clear hA0 hval0
  have hw0 : Calls Try.prog 12 #[.agg #[.float .f32 br0, .float .f32 bg0, .float .f32 bb0]] W fun e w' => e = .returned (.bool true) ∧ Below W.heap.size W w' := by
    rw [er0, eg0, eb0]
    exact walk br0 nr0 bg0 ng0 bb0 nb0 W (lt_of_wf wr0) (lt_of_wf wg0) (lt_of_wf wb0)
  refine hw0.mono fun e W' ⟨he, bel⟩ => ?_
  subst he
  exact ⟨_, rfl, _, _, _, [], _, [], hW', trodAll_mk1 (shut_bool Try.underlying4 _), (trodAll_cons_mk (Below.trod laidOut (by kernel_rfl) (of_decide_eq_true (by kernel_rfl)) k0 bel lt0) trodAll_mk0), rfl, bel.frame _, fun h => by cases h⟩

theorem over : Rows.fnExactFaceOfRow.holds Try.pinned (OpenSpec.ofChange Rows.fnExactFaceOfSpec) :=
  OpenClaim.holds_of_wide 12 Try.f12 rfl rfl rfl rfl rfl rfl rfl ⟨rfl, rfl, rfl, rfl, rfl⟩ rfl rfl rfl rfl rfl (by kernel_rfl) Try.func12 (by kernel_rfl)
    (of_decide_eq_true (by kernel_rfl)) (by unfold Func.isWrapper; first | (rw [if_pos (by decide +kernel)]; kernel_rfl) | (rw [if_neg (by decide +kernel)]; exact ⟨rfl, rfl⟩))
    (fun os started H enc _ => lifted os started H enc)

theorem proved : Rows.FnExactFaceOfSaid := over
#print axioms proved

end Go.Proofs.Ytmngedfibmnohaa.fnExactFaceOf

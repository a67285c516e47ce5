/- min and max of floats. -/
import Derived.Test.YtehcepibmekooadQn
import Derived.ProofKit
set_option linter.unusedSimpArgs false
set_option linter.unusedVariables false
namespace Go.Proofs.Ytehcepibmekooad
open Go Go.RowKit

def minV (k : FloatKind) (x y : Nat) : Nat :=
  if (isN k x || isN k y) = true then qn k else if (k.format.order x y == some .lt) = true then x else if (k.format.order x y == some .gt) = true then y else if (k.decode x).neg then x else y
def maxV (k : FloatKind) (x y : Nat) : Nat :=
  if (isN k x || isN k y) = true then qn k else if (k.format.order x y == some .lt) = true then y else if (k.format.order x y == some .gt) = true then x else if (k.decode x).neg then y else x

@[go_sem] theorem minV_pick_l (k : FloatKind) (x n y : Nat) : minV k (pick k x n) y = minV k x y := by
  unfold minV
  rw [isN_pick, order_pick_l]
  cases h : isN k x
  · rw [pick_not h]
  · rfl
@[go_sem] theorem minV_pick_r (k : FloatKind) (x n y : Nat) : minV k y (pick k x n) = minV k y x := by
  unfold minV
  rw [isN_pick, order_pick_r]
  cases h : isN k x
  · rw [pick_not h]
  · rw [Bool.or_true]; rfl
@[go_sem] theorem maxV_pick_l (k : FloatKind) (x n y : Nat) : maxV k (pick k x n) y = maxV k x y := by
  unfold maxV
  rw [isN_pick, order_pick_l]
  cases h : isN k x
  · rw [pick_not h]
  · rfl
@[go_sem] theorem maxV_pick_r (k : FloatKind) (x n y : Nat) : maxV k y (pick k x n) = maxV k y x := by
  unfold maxV
  rw [isN_pick, order_pick_r]
  cases h : isN k x
  · rw [pick_not h]
  · rw [Bool.or_true]; rfl

theorem order_none {k : FloatKind} {x y : Nat} (h : k.format.order x y = none) : (isN k x || isN k y) = true := by
  cases hx : isN k x
  · cases hy : isN k y
    · rw [order_rungs k x y hx hy] at h; cases h
    · rfl
  · rfl
theorem order_some {k : FloatKind} {x y : Nat} {o : Ordering} (h : k.format.order x y = some o) : (isN k x || isN k y) = false := by
  cases hx : isN k x
  · cases hy : isN k y
    · rfl
    · rw [order_nan_r _ hy] at h; cases h
  · rw [order_nan_l _ hx] at h; cases h

section
variable {P : Program} (w : World)
theorem run_fmin (ts : Array TypeId) (t : TypeId) (k : FloatKind) (x y : Nat) : ∃ n m, (Builtin.min_ ts t #[.float k x, .float k y]).run P w = .ok (.float k (pick k (minV k x y) n)) (w.drewN m) := by
  cases h : k.format.order x y with
  | none =>
    have e : minV k x y = qn k := by unfold minV; rw [order_none h]; rfl
    refine ⟨w.tape w.drawn (.nanMinMax k false x y), 1, ?_⟩
    have e2 : pick k (qn k) (w.tape w.drawn (.nanMinMax k false x y)) = (Question.nanMinMax k false x y).cut (w.tape w.drawn (.nanMinMax k false x y)) := by
      simp only [pick, isN_qn, if_true]; cases k <;> rfl
    rw [e, e2]
    simp [Builtin.min_, Builtin.min2, h, Question.forced, World.drew_is_drewN]
  | some o =>
    have hn := order_some h
    have hr : isN k (minV k x y) = false := by
      have hn2 := hn
      simp only [Bool.or_eq_false_iff] at hn
      unfold minV; rw [hn2, h]
      cases o
      · exact hn.1
      · show isN k (if (k.decode x).neg then x else y) = false
        split
        · exact hn.1
        · exact hn.2
      · exact hn.2
    refine ⟨0, 0, ?_⟩
    rw [pick_not hr]
    unfold minV; rw [hn]
    cases o <;> simp [Builtin.min_, Builtin.min2, h, World.drewN_zero]
theorem run_fmax (ts : Array TypeId) (t : TypeId) (k : FloatKind) (x y : Nat) : ∃ n m, (Builtin.max_ ts t #[.float k x, .float k y]).run P w = .ok (.float k (pick k (maxV k x y) n)) (w.drewN m) := by
  cases h : k.format.order x y with
  | none =>
    have e : maxV k x y = qn k := by unfold maxV; rw [order_none h]; rfl
    refine ⟨w.tape w.drawn (.nanMinMax k true x y), 1, ?_⟩
    have e2 : pick k (qn k) (w.tape w.drawn (.nanMinMax k true x y)) = (Question.nanMinMax k true x y).cut (w.tape w.drawn (.nanMinMax k true x y)) := by
      simp only [pick, isN_qn, if_true]; cases k <;> rfl
    rw [e, e2]
    simp [Builtin.max_, Builtin.max2, h, Question.forced, World.drew_is_drewN]
  | some o =>
    have hn := order_some h
    have hr : isN k (maxV k x y) = false := by
      have hn2 := hn
      simp only [Bool.or_eq_false_iff] at hn
      unfold maxV; rw [hn2, h]
      cases o
      · exact hn.2
      · show isN k (if (k.decode x).neg then y else x) = false
        split
        · exact hn.2
        · exact hn.1
      · exact hn.1
    refine ⟨0, 0, ?_⟩
    rw [pick_not hr]
    unfold maxV; rw [hn]
    cases o <;> simp [Builtin.max_, Builtin.max2, h, World.drewN_zero]
end

theorem wpList_fmin {P : Program} {w : World} {ops : Array Oper} {rest : List Oper} {o : Oper} {a : Act} {Q : Exit → Act → World → Prop}
    (hg : o.guard = none) (x y : Operand) (ts : Array TypeId) (hop : o.op = .call { callee := .builtin .min, args := #[x, y], argTypes := ts }) (k : FloatKind) (bx by' : Nat)
    (hx : a.eval x = .float k bx) (hy : a.eval y = .float k by') (j : Nat)
    (hK : ∀ n m, wpList P ops Q rest (a.put o.dst (.float k (pick k (minV k bx by') n))) (w.drewN m)) :
    wpList P ops Q (o :: rest) a (w.drewN j) := by
  refine wpList_plain hg fun K hK' => ?_
  obtain ⟨n, m, hrun⟩ := run_fmin (P := P) (w.drewN j) ts o.type k bx by'
  unfold Oper.wp execOp
  simp only [hop, resolve, invoke, builtin, Sem.run_bind, Sem.run_pure, Result.andThen_ok, List.map_toArray, List.map_cons, List.map_nil, hx, hy, hrun]
  exact hK' _ _ (by rw [World.drewN_drewN]; exact hK n _)
theorem wpList_fmax {P : Program} {w : World} {ops : Array Oper} {rest : List Oper} {o : Oper} {a : Act} {Q : Exit → Act → World → Prop}
    (hg : o.guard = none) (x y : Operand) (ts : Array TypeId) (hop : o.op = .call { callee := .builtin .max, args := #[x, y], argTypes := ts }) (k : FloatKind) (bx by' : Nat)
    (hx : a.eval x = .float k bx) (hy : a.eval y = .float k by') (j : Nat)
    (hK : ∀ n m, wpList P ops Q rest (a.put o.dst (.float k (pick k (maxV k bx by') n))) (w.drewN m)) :
    wpList P ops Q (o :: rest) a (w.drewN j) := by
  refine wpList_plain hg fun K hK' => ?_
  obtain ⟨n, m, hrun⟩ := run_fmax (P := P) (w.drewN j) ts o.type k bx by'
  unfold Oper.wp execOp
  simp only [hop, resolve, invoke, builtin, Sem.run_bind, Sem.run_pure, Result.andThen_ok, List.map_toArray, List.map_cons, List.map_nil, hx, hy, hrun]
  exact hK' _ _ (by rw [World.drewN_drewN]; exact hK n _)
/-- '+', '-', '*', '/' in whatever world. -/
theorem wpList_fop0 {P : Program} {w : World} {ops : Array Oper} {rest : List Oper} {o : Oper} {a : Act} {Q : Exit → Act → World → Prop}
    (hg : o.guard = none) (op : BinOp) (t t' : TypeId) (x y : Operand) (hop : o.op = Op.binOp op t x y t') (k : FloatKind) (bx by' : Nat)
    (hx : a.eval x = .float k bx) (hy : a.eval y = .float k by') (har : op = .add ∨ op = .sub ∨ op = .mul ∨ op = .quo)
    (hK : ∀ n m, wpList P ops Q rest (a.put o.dst (.float k (pick k (fop op k bx by') n))) (w.drewN m)) :
    wpList P ops Q (o :: rest) a w := by
  have h := wpList_fop (P := P) (w := w) (ops := ops) (rest := rest) (Q := Q) hg op t t' x y hop k bx by' hx hy har 0 hK
  rwa [World.drewN_zero] at h
theorem upon_fop0 {P : Program} {w : World} {o : Oper} {a : Act} {K : Act → World → Prop} {Q : Exit → Act → World → Prop}
    (op : BinOp) (t : TypeId) (k : FloatKind) (bx by' : Nat) (har : op = .add ∨ op = .sub ∨ op = .mul ∨ op = .quo)
    (hK : ∀ n m, K (a.put o.dst (.float k (pick k (fop op k bx by') n))) (w.drewN m)) :
    o.upon P a K Q (((binOp op t (.float k bx) (.float k by')).run P w).andThen fun v w' => .ok (.value v) w') := by
  have h := upon_fop (P := P) (w := w) (o := o) (a := a) (K := K) (Q := Q) (j := 0) op t k bx by' har hK
  rwa [World.drewN_zero] at h
end Go.Proofs.Ytehcepibmekooad

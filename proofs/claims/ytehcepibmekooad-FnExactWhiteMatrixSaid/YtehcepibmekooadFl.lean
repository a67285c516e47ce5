/- Floats whose NaNs are open: plain lemmas on Ieee and the laws of the walk for float operations. No program in sight. -/
import Derived.WalkKit
import Derived.WalkLawsBesides
import Derived.Deep.Draws
set_option linter.unusedSimpArgs false
set_option linter.unusedVariables false
set_option exponentiation.threshold 2000
namespace Go.Proofs.Ytehcepibmekooad
open Go

/-! ### words -/
theorem sw_eq (f : Ieee.Format) : f.signWeight = 2 ^ f.exponentBits * f.binade := by
  unfold Ieee.Format.signWeight Ieee.Format.binade; rw [Nat.pow_add]

theorem read_word (f : Ieee.Format) (neg : Bool) (rung : Nat) (h : rung < f.signWeight) :
    f.word neg rung / f.signWeight % 2 = (if neg then 1 else 0) ∧ f.word neg rung % f.signWeight = rung := by
  unfold Ieee.Format.word
  cases neg
  · simp [Nat.div_eq_of_lt h, Nat.mod_eq_of_lt h]
  · simp only [if_true]
    have hp : 0 < f.signWeight := Nat.lt_of_le_of_lt (Nat.zero_le _) h
    refine ⟨?_, ?_⟩
    · rw [Nat.add_div_left _ hp, Nat.div_eq_of_lt h]
    · rw [Nat.add_mod_left, Nat.mod_eq_of_lt h]

theorem word_notNaN (f : Ieee.Format) (neg : Bool) (rung : Nat) (h : rung ≤ f.infRung) : (f.read (f.word neg rung)).isNaN = false := by
  have hl := f.infRung_lt
  obtain ⟨_, e2⟩ := read_word f neg rung (by omega)
  unfold Ieee.Format.read
  simp only [e2]
  split
  · rfl
  · split
    · rfl
    · split
      · rfl
      · omega

theorem nearest_notNaN (f : Ieee.Format) (neg : Bool) (mag : Nat) (place : Int) : (f.read (f.nearest neg mag place)).isNaN = false := by
  unfold Ieee.Format.nearest
  split
  · exact word_notNaN f neg 0 (Nat.zero_le _)
  · exact word_notNaN f neg _ (Nat.min_le_right _ _)

theorem write_notNaN (f : Ieee.Format) (d : Ieee.Datum) (h : d.isNaN = false) : (f.read (f.write d)).isNaN = false := by
  cases d with
  | number s m e => exact nearest_notNaN f s m e
  | infinity s => exact word_notNaN f s _ (Nat.le_refl _)
  | nan s t => simp [Ieee.Datum.isNaN] at h

/-! ### NaNs -/
def qn : FloatKind → Nat
  | .f32 => 0x7fc00000
  | .f64 => 0x7ff8000000000000
def isN (k : FloatKind) (b : Nat) : Bool := (k.format.read b).isNaN
def nanOf (k : FloatKind) (t : Nat) : Nat := (Question.nanBits k 0 0).cut t
def pick (k : FloatKind) (v n : Nat) : Nat := if isN k v then nanOf k n else v

theorem isN_qn (k : FloatKind) : isN k (qn k) = true := by cases k <;> decide +kernel

theorem isN_rung (k : FloatKind) (b : Nat) : isN k b = decide (k.format.infRung < b % k.format.signWeight) := by
  unfold isN Ieee.Format.read
  have hb : k.format.binade ≤ k.format.infRung := by cases k <;> decide +kernel
  dsimp only
  split
  · simp only [Ieee.Datum.isNaN]; symm; simp; omega
  · split
    · simp only [Ieee.Datum.isNaN]; symm; simp; omega
    · split
      · simp only [Ieee.Datum.isNaN]; symm; simp; omega
      · simp only [Ieee.Datum.isNaN]; symm; simp; omega

theorem isN_nanOf (k : FloatKind) (t : Nat) : isN k (nanOf k t) = true := by
  rw [isN_rung]
  cases k
  · have h1 : FloatKind.f32.format.signWeight = 2147483648 := by decide +kernel
    have h2 : FloatKind.f32.format.infRung = 2139095040 := by decide +kernel
    rw [h1, h2]
    refine decide_eq_true ?_
    simp only [nanOf, Question.cut]
    have h3 : t / 2 % (2 ^ 23 - 1) < 8388607 := Nat.mod_lt _ (by decide)
    generalize t / 2 % (2 ^ 23 - 1) = u at *
    rcases Nat.mod_two_eq_zero_or_one t with e | e <;> rw [e] <;> omega
  · have h1 : FloatKind.f64.format.signWeight = 9223372036854775808 := by decide +kernel
    have h2 : FloatKind.f64.format.infRung = 9218868437227405312 := by decide +kernel
    rw [h1, h2]
    refine decide_eq_true ?_
    simp only [nanOf, Question.cut]
    have h3 : t / 2 % (2 ^ 52 - 1) < 4503599627370495 := Nat.mod_lt _ (by decide)
    generalize t / 2 % (2 ^ 52 - 1) = u at *
    rcases Nat.mod_two_eq_zero_or_one t with e | e <;> rw [e] <;> omega

theorem isN_pick (k : FloatKind) (v n : Nat) : isN k (pick k v n) = isN k v := by
  unfold pick
  split
  · rw [isN_nanOf]; symm; assumption
  · rfl

theorem pick_not {k : FloatKind} {v : Nat} (h : isN k v = false) (n : Nat) : pick k v n = v := by simp [pick, h]

theorem read_nan {k : FloatKind} {b : Nat} (h : isN k b = true) : ∃ s t, k.format.read b = .nan s t := by
  unfold isN at h
  cases hd : k.format.read b with
  | nan s t => exact ⟨s, t, rfl⟩
  | number => simp [hd, Ieee.Datum.isNaN] at h
  | infinity => simp [hd, Ieee.Datum.isNaN] at h

/-- A NaN among the operands: no answer. -/
theorem bits_nan_l {op : BinOp} {k : FloatKind} {x : Nat} (y : Nat) (h : isN k x = true) : floatBits op k x y = none := by
  obtain ⟨s, t, e⟩ := read_nan h
  unfold floatBits
  cases op <;> simp [Ieee.Format.add, Ieee.Format.sub, Ieee.Format.mul, Ieee.Format.div, e, Ieee.Datum.sum, Ieee.Datum.product, Ieee.Datum.quotient]

theorem bits_nan_r {op : BinOp} {k : FloatKind} {y : Nat} (x : Nat) (h : isN k y = true) : floatBits op k x y = none := by
  obtain ⟨s, t, e⟩ := read_nan h
  unfold floatBits
  cases op <;> simp [Ieee.Format.add, Ieee.Format.sub, Ieee.Format.mul, Ieee.Format.div, e, Ieee.Datum.opposite] <;> cases k.format.read x <;> simp [Ieee.Datum.sum, Ieee.Datum.product, Ieee.Datum.quotient]

theorem order_nan_l {k : FloatKind} {x : Nat} (y : Nat) (h : isN k x = true) : k.format.order x y = none := by
  obtain ⟨s, t, e⟩ := read_nan h
  simp [Ieee.Format.order, e, Ieee.Datum.order]

theorem order_nan_r {k : FloatKind} {y : Nat} (x : Nat) (h : isN k y = true) : k.format.order x y = none := by
  obtain ⟨s, t, e⟩ := read_nan h
  simp only [Ieee.Format.order, e]
  cases k.format.read x <;> simp [Ieee.Datum.order]

theorem sum_notNaN {a b d : Ieee.Datum} (h : a.sum b = some d) : d.isNaN = false := by
  cases a <;> cases b <;> simp only [Ieee.Datum.sum] at h <;> first | (cases h; done) | skip
  · cases h; rfl
  · cases h; rfl
  · cases h; rfl
  · split at h
    · cases h; rfl
    · cases h

theorem product_notNaN {a b d : Ieee.Datum} (h : a.product b = some d) : d.isNaN = false := by
  cases a <;> cases b <;> simp only [Ieee.Datum.product] at h <;> first | (cases h; done) | skip
  · cases h; rfl
  · split at h
    · cases h
    · cases h; rfl
  · split at h
    · cases h
    · cases h; rfl
  · cases h; rfl

theorem quotient_notNaN {n : Nat} {a b d : Ieee.Datum} (h : a.quotient n b = some d) : d.isNaN = false := by
  cases a <;> cases b <;> simp only [Ieee.Datum.quotient] at h <;> first | (cases h; done) | skip
  · split at h
    · split at h
      · cases h
      · cases h; rfl
    · cases h; rfl
  · cases h; rfl
  · cases h; rfl

theorem bits_notNaN {op : BinOp} {k : FloatKind} {x y r : Nat} (h : floatBits op k x y = some r) : isN k r = false := by
  unfold floatBits at h
  split at h
  · simp only [Ieee.Format.add, Option.map_eq_some_iff] at h
    obtain ⟨d, h1, rfl⟩ := h
    exact write_notNaN _ _ (sum_notNaN h1)
  · simp only [Ieee.Format.sub, Option.map_eq_some_iff] at h
    obtain ⟨d, h1, rfl⟩ := h
    exact write_notNaN _ _ (sum_notNaN h1)
  · simp only [Ieee.Format.mul, Option.map_eq_some_iff] at h
    obtain ⟨d, h1, rfl⟩ := h
    exact write_notNaN _ _ (product_notNaN h1)
  · simp only [Ieee.Format.div, Option.map_eq_some_iff] at h
    obtain ⟨d, h1, rfl⟩ := h
    exact write_notNaN _ _ (quotient_notNaN h1)
  · cases h

/-! ### the operations, NaNs made one -/
def fop (op : BinOp) (k : FloatKind) (x y : Nat) : Nat := (floatBits op k x y).getD (qn k)
theorem fop_pick_l (op : BinOp) (k : FloatKind) (v n y : Nat) : fop op k (pick k v n) y = fop op k v y := by
  cases h : isN k v
  · rw [pick_not h]
  · unfold fop; rw [bits_nan_l y h, bits_nan_l y (by rw [isN_pick]; exact h)]
theorem fop_pick_r (op : BinOp) (k : FloatKind) (v n x : Nat) : fop op k x (pick k v n) = fop op k x v := by
  cases h : isN k v
  · rw [pick_not h]
  · unfold fop; rw [bits_nan_r x h, bits_nan_r x (by rw [isN_pick]; exact h)]
theorem order_pick_l (k : FloatKind) (v n y : Nat) : k.format.order (pick k v n) y = k.format.order v y := by
  cases h : isN k v
  · rw [pick_not h]
  · rw [order_nan_l y h, order_nan_l y (by rw [isN_pick]; exact h)]
theorem order_pick_r (k : FloatKind) (v n x : Nat) : k.format.order x (pick k v n) = k.format.order x v := by
  cases h : isN k v
  · rw [pick_not h]
  · rw [order_nan_r x h, order_nan_r x (by rw [isN_pick]; exact h)]
attribute [simp, go_sem] fop_pick_l fop_pick_r order_pick_l order_pick_r isN_pick

/-- Any word is some choice at itself. -/
theorem nanOf_onto (k : FloatKind) (b : Nat) (hb : b < 2 ^ k.format.width) (h : isN k b = true) : ∃ n, b = nanOf k n := by
  rw [isN_rung] at h
  simp only [decide_eq_true_eq] at h
  cases k
  · have h1 : FloatKind.f32.format.signWeight = 2147483648 := by decide +kernel
    have h2 : FloatKind.f32.format.infRung = 2139095040 := by decide +kernel
    have h3 : 2 ^ FloatKind.f32.format.width = 4294967296 := by decide +kernel
    rw [h1, h2] at h
    rw [h3] at hb
    refine ⟨2 * (b % 2147483648 - 2139095041) + b / 2147483648, ?_⟩
    simp only [nanOf, Question.cut]
    have e1 : (2 * (b % 2147483648 - 2139095041) + b / 2147483648) % 2 = b / 2147483648 := by omega
    have e2 : (2 * (b % 2147483648 - 2139095041) + b / 2147483648) / 2 = b % 2147483648 - 2139095041 := by omega
    rw [e1, e2, Nat.mod_eq_of_lt (by omega)]
    omega
  · have h1 : FloatKind.f64.format.signWeight = 9223372036854775808 := by decide +kernel
    have h2 : FloatKind.f64.format.infRung = 9218868437227405312 := by decide +kernel
    have h3 : 2 ^ FloatKind.f64.format.width = 18446744073709551616 := by decide +kernel
    rw [h1, h2] at h
    rw [h3] at hb
    refine ⟨2 * (b % 9223372036854775808 - 9218868437227405313) + b / 9223372036854775808, ?_⟩
    simp only [nanOf, Question.cut]
    have e1 : (2 * (b % 9223372036854775808 - 9218868437227405313) + b / 9223372036854775808) % 2 = b / 9223372036854775808 := by omega
    have e2 : (2 * (b % 9223372036854775808 - 9218868437227405313) + b / 9223372036854775808) / 2 = b % 9223372036854775808 - 9218868437227405313 := by omega
    rw [e1, e2, Nat.mod_eq_of_lt (by omega)]
    omega

theorem pick_onto (k : FloatKind) (b : Nat) (hb : b < 2 ^ k.format.width) : ∃ n, b = pick k b n := by
  cases h : isN k b
  · exact ⟨0, (pick_not h 0).symm⟩
  · obtain ⟨n, e⟩ := nanOf_onto k b hb h
    exact ⟨n, by simp [pick, h]; exact e⟩

/-! ### the run -/
section
variable {P : Program} (w : World)
theorem run_fop (op : BinOp) (hop : op = .add ∨ op = .sub ∨ op = .mul ∨ op = .quo) (t : TypeId) (k : FloatKind) (x y : Nat) :
    ∃ n m, (binOp op t (.float k x) (.float k y)).run P w = .ok (.float k (pick k (fop op k x y) n)) (w.drewN m) := by
  cases h : floatBits op k x y with
  | some r =>
    refine ⟨0, 0, ?_⟩
    rw [run_float_arith w op t k x y r h]
    have e : fop op k x y = r := by simp [fop, h]
    rw [e, pick_not (bits_notNaN h)]
    rfl
  | none =>
    have e : fop op k x y = qn k := by simp [fop, h]
    refine ⟨w.tape w.drawn (.nanBits k x y), 1, ?_⟩
    rw [e]
    have e2 : pick k (qn k) (w.tape w.drawn (.nanBits k x y)) = (Question.nanBits k x y).cut (w.tape w.drawn (.nanBits k x y)) := by
      simp only [pick, isN_qn, if_true]; cases k <;> rfl
    rw [e2]
    unfold floatBits at h
    rcases hop with rfl | rfl | rfl | rfl <;> simp only at h <;> simp [binOp, Op.floatArith, h, Question.forced, World.drew_is_drewN]
end

/-- THE WALK's LAW: '+', '-', '*', '/' on floats, whatever comes of it. -/
theorem wpList_fop {P : Program} {w : World} {ops : Array Oper} {rest : List Oper} {o : Oper} {a : Act} {Q : Exit → Act → World → Prop}
    (hg : o.guard = none) (op : BinOp) (t t' : TypeId) (x y : Operand) (hop : o.op = Op.binOp op t x y t') (k : FloatKind) (bx by' : Nat)
    (hx : a.eval x = .float k bx) (hy : a.eval y = .float k by') (har : op = .add ∨ op = .sub ∨ op = .mul ∨ op = .quo) (j : Nat)
    (hK : ∀ n m, wpList P ops Q rest (a.put o.dst (.float k (pick k (fop op k bx by') n))) (w.drewN m)) :
    wpList P ops Q (o :: rest) a (w.drewN j) := by
  refine wpList_plain hg fun K hK' => ?_
  obtain ⟨n, m, hrun⟩ := run_fop (P := P) (w.drewN j) op har t k bx by'
  unfold Oper.wp
  have hq : op ≠ .eql ∧ op ≠ .neq := by rcases har with rfl | rfl | rfl | rfl <;> decide
  have hgd : (eqGuard op t x y (.float k bx) (.float k by')).run P (w.drewN j) = .ok () (w.drewN j) := by
    rcases har with rfl | rfl | rfl | rfl <;> rfl
  simp [execOp, hop, hx, hy, hrun, hgd, Result.andThen]
  exact hK' _ _ (hK n _)

/-! ### order by rungs -/
/-- A rung's magnitude, in units of the least place. -/
def mg (f : Ieee.Format) (r : Nat) : Nat := if r < f.binade then r else (f.binade + r % f.binade) * 2 ^ (r / f.binade - 1)

theorem binade_pos (f : Ieee.Format) : 0 < f.binade := Nat.two_pow_pos _

theorem mg_step (f : Ieee.Format) (r : Nat) : mg f r < mg f (r + 1) := by
  have hb := binade_pos f
  unfold mg
  generalize f.binade = b at *
  by_cases h1 : r + 1 < b
  · rw [if_pos (by omega), if_pos h1]; omega
  · rw [if_neg h1]
    by_cases h2 : r < b
    · have e : r + 1 = b := by omega
      rw [if_pos h2, e, Nat.mod_self, Nat.div_self hb]; simp; omega
    · rw [if_neg h2]
      have hq : 1 ≤ r / b := (Nat.le_div_iff_mul_le hb).2 (by omega)
      by_cases h3 : (r + 1) % b = 0
      · have hm : r % b = b - 1 := by
          have h4 : r % b < b := Nat.mod_lt _ hb
          rw [Nat.add_mod] at h3
          by_cases h5 : b = 1
          · subst h5; omega
          · rw [Nat.mod_eq_of_lt (by omega : 1 < b)] at h3
            by_cases h6 : r % b + 1 < b
            · rw [Nat.mod_eq_of_lt h6] at h3; omega
            · omega
        have hd : (r + 1) / b = r / b + 1 := by
          have := Nat.div_add_mod r b
          have h4 : r + 1 = b * (r / b + 1) := by rw [Nat.mul_add]; omega
          rw [h4, Nat.mul_div_cancel_left _ hb]
        rw [h3, hm, hd]
        have e : r / b + 1 - 1 = (r / b - 1) + 1 := by omega
        rw [e, Nat.pow_succ]
        have hp : 0 < 2 ^ (r / b - 1) := Nat.two_pow_pos _
        generalize 2 ^ (r / b - 1) = p at *
        have : b + (b - 1) < 2 * b := by omega
        calc (b + (b - 1)) * p < (2 * b) * p := Nat.mul_lt_mul_of_pos_right this hp
          _ = (b + 0) * (p * 2) := by rw [Nat.add_zero, Nat.mul_comm 2 b, Nat.mul_assoc, Nat.mul_comm 2 p]
      · have h4 : r % b < b := Nat.mod_lt _ hb
        have h5 : 1 < b := by
          rcases Nat.lt_or_ge 1 b with h | h
          · exact h
          · have : b = 1 := by omega
            subst this; simp [Nat.mod_one] at h3
        have hm : (r + 1) % b = r % b + 1 := by
          rw [Nat.add_mod, Nat.mod_eq_of_lt h5] at h3 ⊢
          by_cases h6 : r % b + 1 < b
          · rw [Nat.mod_eq_of_lt h6]
          · exfalso
            have h7 : r % b + 1 = b := by omega
            rw [h7, Nat.mod_self] at h3; exact h3 rfl
        have h9 : (r + 1) % b < b := Nat.mod_lt _ hb
        have hd : (r + 1) / b = r / b := by
          have h7 := Nat.div_add_mod r b
          have h10 : r % b + 1 < b := by rw [← hm]; exact h9
          have h8 : r + 1 = b * (r / b) + (r % b + 1) := by rw [← Nat.add_assoc, h7]
          have h11 : (r % b + 1) / b = 0 := Nat.div_eq_of_lt h10
          calc (r + 1) / b = (b * (r / b) + (r % b + 1)) / b := congrArg (· / b) h8
            _ = r / b := by rw [Nat.mul_add_div hb, h11, Nat.add_zero]
        rw [hm, hd]
        exact Nat.mul_lt_mul_of_pos_right (by omega) (Nat.two_pow_pos _)

theorem mg_lt (f : Ieee.Format) {r s : Nat} (h : r < s) : mg f r < mg f s := by
  induction s with
  | zero => omega
  | succ s ih =>
    by_cases e : r = s
    · subst e; exact mg_step f r
    · exact Nat.lt_trans (ih (by omega)) (mg_step f s)
theorem mg_cmp (f : Ieee.Format) (r s : Nat) : compare (mg f r) (mg f s) = compare r s := by
  rcases Nat.lt_trichotomy r s with h | h | h
  · rw [Nat.compare_eq_lt.2 h, Nat.compare_eq_lt.2 (mg_lt f h)]
  · subst h; rw [Nat.compare_eq_eq.2 rfl, Nat.compare_eq_eq.2 rfl]
  · rw [Nat.compare_eq_gt.2 h, Nat.compare_eq_gt.2 (mg_lt f h)]

def sgn (f : Ieee.Format) (x : Nat) : Bool := x / f.signWeight % 2 == 1
def rung (f : Ieee.Format) (x : Nat) : Nat := x % f.signWeight
/-- A word as a signed rung. -/
def srung (f : Ieee.Format) (x : Nat) : Int := if sgn f x then -(rung f x : Int) else rung f x

/-- A finite word's datum: its magnitude, in units of the least place. -/
theorem read_fin (f : Ieee.Format) (x : Nat) (h : rung f x < f.infRung) :
    ∃ m e, f.read x = .number (sgn f x) m e ∧ f.leastPlace ≤ e ∧ m * 2 ^ (e - f.leastPlace).toNat = mg f (rung f x) := by
  unfold Ieee.Format.read rung sgn mg at *
  dsimp only
  by_cases h1 : x % f.signWeight < f.binade
  · rw [if_pos h1]
    refine ⟨_, _, rfl, Int.le_refl _, ?_⟩
    rw [if_pos h1]; simp
  · rw [if_neg h1, if_pos h]
    refine ⟨_, _, rfl, by omega, ?_⟩
    rw [if_neg h1]
    congr 2; omega

theorem signed_mul (s : Bool) (m d c : Nat) : Ieee.signed s m (d + c) = Ieee.signed s m d * 2 ^ c := by
  unfold Ieee.signed
  cases s
  · simp [Nat.shiftLeft_eq, Nat.pow_add, ← Nat.mul_assoc, Int.natCast_mul, Int.natCast_pow]
  · simp [Nat.shiftLeft_eq, Nat.pow_add, ← Nat.mul_assoc, Int.natCast_mul, Int.natCast_pow, Int.neg_mul]

theorem cmp_mul (a b : Int) (c : Nat) : compare (a * 2 ^ c) (b * 2 ^ c) = compare a b := by
  have hp : (0 : Int) < 2 ^ c := Int.pow_pos (by decide)
  rcases Int.lt_trichotomy a b with h | h | h
  · rw [Int.compare_eq_lt.2 h, Int.compare_eq_lt.2 (Int.mul_lt_mul_of_pos_right h hp)]
  · subst h; rw [Int.compare_eq_eq.2 rfl, Int.compare_eq_eq.2 rfl]
  · rw [Int.compare_eq_gt.2 h, Int.compare_eq_gt.2 (Int.mul_lt_mul_of_pos_right h hp)]

/-- Two numbers, compared at any place that is low enough. -/
theorem order_at (s : Bool) (m : Nat) (i : Int) (t : Bool) (n : Nat) (j lp : Int) (hi : lp ≤ i) (hj : lp ≤ j) :
    Ieee.Datum.order (.number s m i) (.number t n j) = some (compare (Ieee.signed s m (i - lp).toNat) (Ieee.signed t n (j - lp).toNat)) := by
  simp only [Ieee.Datum.order]
  congr 1
  have e1 : (i - lp).toNat = (i - min i j).toNat + (min i j - lp).toNat := by omega
  have e2 : (j - lp).toNat = (j - min i j).toNat + (min i j - lp).toNat := by omega
  rw [e1, e2, signed_mul, signed_mul, cmp_mul]

theorem signed_eq (s : Bool) (m d : Nat) : Ieee.signed s m d = if s then -((m * 2 ^ d : Nat) : Int) else ((m * 2 ^ d : Nat) : Int) := by
  unfold Ieee.signed; simp [Nat.shiftLeft_eq]

theorem cmp_srung (f : Ieee.Format) (s t : Bool) (a b : Nat) :
    compare (if s then -((mg f a : Nat) : Int) else (mg f a : Int)) (if t then -((mg f b : Nat) : Int) else (mg f b : Int)) =
    compare (if s then -(a : Int) else (a : Int)) (if t then -(b : Int) else (b : Int)) := by
  have h0 : mg f 0 = 0 := by unfold mg; rw [if_pos (binade_pos f)]
  have hpos : ∀ r, 0 < r → 0 < mg f r := fun r hr => by have := mg_lt f hr; omega
  have hmono : ∀ r q, r < q → mg f r < mg f q := fun r q h => mg_lt f h
  have key : ∀ (x y x' y' : Int), (x < y ↔ x' < y') → (y < x ↔ y' < x') → compare x y = compare x' y' := by
    intro x y x' y' h1 h2
    rcases Int.lt_trichotomy x y with h | h | h
    · rw [Int.compare_eq_lt.2 h, Int.compare_eq_lt.2 (h1.1 h)]
    · have h3 : x' = y' := by
        have := mt h1.2 (by omega); have := mt h2.2 (by omega); omega
      rw [Int.compare_eq_eq.2 h, Int.compare_eq_eq.2 h3]
    · rw [Int.compare_eq_gt.2 h, Int.compare_eq_gt.2 (h2.1 h)]
  have ha := hpos a; have hb := hpos b
  have za : a = 0 → mg f a = 0 := by rintro rfl; exact h0
  have zb : b = 0 → mg f b = 0 := by rintro rfl; exact h0
  have hab := hmono a b; have hba := hmono b a
  have heq : a = b → mg f a = mg f b := by rintro rfl; rfl
  generalize mg f a = A at *
  generalize mg f b = B at *
  apply key <;> cases s <;> cases t <;> simp only [if_true, if_false, Bool.false_eq_true] <;> omega

theorem order_srung (f : Ieee.Format) (x y : Nat) (hx : rung f x < f.infRung) (hy : rung f y < f.infRung) :
    f.order x y = some (compare (srung f x) (srung f y)) := by
  obtain ⟨m, e, h1, h2, h3⟩ := read_fin f x hx
  obtain ⟨n, e', g1, g2, g3⟩ := read_fin f y hy
  unfold Ieee.Format.order
  rw [h1, g1, order_at _ _ _ _ _ _ _ h2 g2, signed_eq, signed_eq, h3, g3, cmp_srung]
  rfl

theorem binade_le (k : FloatKind) : k.format.binade ≤ k.format.infRung := by cases k <;> decide +kernel

theorem read_inf (k : FloatKind) (x : Nat) (h : rung k.format x = k.format.infRung) : k.format.read x = .infinity (sgn k.format x) := by
  have hb := binade_le k
  unfold Ieee.Format.read
  unfold rung at h
  dsimp only
  rw [if_neg (by omega), if_neg (by omega), if_pos h]; rfl

theorem isN_rung' (k : FloatKind) (x : Nat) : isN k x = decide (k.format.infRung < rung k.format x) := isN_rung k x

theorem cmp_of_lt {a b : Int} (h : a < b) : compare a b = .lt := Int.compare_eq_lt.2 h
theorem cmp_of_gt {a b : Int} (h : b < a) : compare a b = .gt := Int.compare_eq_gt.2 h

/-- THE ORDER OF TWO WORDS THAT ARE NO NaN IS THAT OF THEIR SIGNED RUNGS. -/
theorem order_rungs (k : FloatKind) (x y : Nat) (hx : isN k x = false) (hy : isN k y = false) :
    k.format.order x y = some (compare (srung k.format x) (srung k.format y)) := by
  rw [isN_rung', decide_eq_false_iff_not] at hx hy
  by_cases h1 : rung k.format x = k.format.infRung
  · by_cases h2 : rung k.format y = k.format.infRung
    · unfold Ieee.Format.order
      rw [read_inf k x h1, read_inf k y h2]
      simp only [Ieee.Datum.order, srung, h1, h2]
      have : 0 < k.format.infRung := Nat.lt_of_lt_of_le (binade_pos _) (binade_le k)
      cases sgn k.format x <;> cases sgn k.format y <;> simp only [Bool.toNat, if_true, if_false, cond_true, cond_false, Bool.false_eq_true]
      · rw [Nat.compare_eq_eq.2 rfl, Int.compare_eq_eq.2 rfl]
      · rw [Nat.compare_eq_gt.2 (by decide), cmp_of_gt (by omega)]
      · rw [Nat.compare_eq_lt.2 (by decide), cmp_of_lt (by omega)]
      · rw [Nat.compare_eq_eq.2 rfl, Int.compare_eq_eq.2 rfl]
    · obtain ⟨n, e, g1, _, _⟩ := read_fin k.format y (by omega)
      unfold Ieee.Format.order
      rw [read_inf k x h1, g1]
      simp only [Ieee.Datum.order, srung, h1]
      cases sgn k.format x <;> cases sgn k.format y <;> simp only [if_true, if_false, Bool.false_eq_true]
      · rw [cmp_of_gt (by omega)]
      · rw [cmp_of_gt (by omega)]
      · rw [cmp_of_lt (by omega)]
      · rw [cmp_of_lt (by omega)]
  · by_cases h2 : rung k.format y = k.format.infRung
    · obtain ⟨n, e, g1, _, _⟩ := read_fin k.format x (by omega)
      unfold Ieee.Format.order
      rw [read_inf k y h2, g1]
      simp only [Ieee.Datum.order, srung, h2]
      cases sgn k.format x <;> cases sgn k.format y <;> simp only [if_true, if_false, Bool.false_eq_true]
      · rw [cmp_of_lt (by omega)]
      · rw [cmp_of_gt (by omega)]
      · rw [cmp_of_lt (by omega)]
      · rw [cmp_of_gt (by omega)]
    · exact order_srung _ _ _ (by omega) (by omega)

/-! ### float32 to float64 -/
theorem shl_lt_of_log2 {m L fb : Nat} (hL : m.log2 = L) (h : L ≤ fb) (h0 : m ≠ 0) : 2 ^ fb ≤ m * 2 ^ (fb - L) ∧ m * 2 ^ (fb - L) < 2 * 2 ^ fb := by
  subst hL
  have h1 : 2 ^ m.log2 ≤ m := Nat.log2_self_le h0
  have h2 : m < 2 ^ (m.log2 + 1) := Nat.lt_log2_self
  have e : 2 ^ fb = 2 ^ m.log2 * 2 ^ (fb - m.log2) := by rw [← Nat.pow_add]; congr 1; omega
  rw [e]
  refine ⟨Nat.mul_le_mul_right _ h1, ?_⟩
  have hp : 0 < 2 ^ (fb - m.log2) := Nat.two_pow_pos _
  rw [Nat.pow_succ] at h2
  calc m * 2 ^ (fb - m.log2) < (2 ^ m.log2 * 2) * 2 ^ (fb - m.log2) := Nat.mul_lt_mul_of_pos_right h2 hp
    _ = 2 * (2 ^ m.log2 * 2 ^ (fb - m.log2)) := by rw [Nat.mul_comm (2 ^ m.log2) 2, Nat.mul_assoc]

theorem cut_zero (neg : Bool) (n : Nat) : Ieee.Toward.even.cut neg n 0 = n := by
  simp [Ieee.Toward.cut, Nat.mod_one]

theorem mg_normal (f : Ieee.Format) (g kept : Nat) (h1 : f.binade ≤ kept) (h2 : kept < 2 * f.binade) : mg f (g * f.binade + kept) = kept * 2 ^ g := by
  have hb := binade_pos f
  unfold mg
  generalize f.binade = B at *
  have ed : (g * B + kept) / B = g + 1 := by
    have e : g * B + kept = B * (g + 1) + (kept - B) := by rw [Nat.mul_add, Nat.mul_comm]; omega
    have h3 : (kept - B) / B = 0 := Nat.div_eq_of_lt (by omega)
    rw [e, Nat.mul_add_div hb, h3, Nat.add_zero]
  have em : (g * B + kept) % B = kept - B := by
    have e : g * B + kept = (kept - B) + B * (g + 1) := by rw [Nat.mul_add, Nat.mul_comm]; omega
    rw [e, Nat.add_mul_mod_self_left, Nat.mod_eq_of_lt (by omega)]
  have h4 : 0 ≤ g * B := Nat.zero_le _
  rw [if_neg (by omega), ed, em]
  have e5 : B + (kept - B) = kept := by omega
  rw [e5]; rfl

/-- A number that the format has, and that is normal in it, is written as itself. -/
theorem nearest_exact (f : Ieee.Format) (s : Bool) (m : Nat) (e : Int) (h0 : m ≠ 0) (hL : m.log2 ≤ f.fractionBits) (hlp : f.leastPlace ≤ e + m.log2 - f.fractionBits)
    (hr : ((e + m.log2 - f.fractionBits) - f.leastPlace).toNat * f.binade + m * 2 ^ (f.fractionBits - m.log2) < f.infRung) :
    ∃ r, f.nearest s m e = f.word s r ∧ r < f.infRung ∧ mg f r = m * 2 ^ (e - f.leastPlace).toNat := by
  unfold Ieee.Format.nearest
  rw [if_neg h0]
  dsimp only
  have hmax : max (e + m.log2 - f.fractionBits) f.leastPlace = e + m.log2 - f.fractionBits := by omega
  rw [hmax]
  have e1 : (e + (m.log2 : Int) - f.fractionBits - e).toNat = 0 := by omega
  have e2 : (e - (e + (m.log2 : Int) - f.fractionBits)).toNat = f.fractionBits - m.log2 := by omega
  rw [e1, e2, cut_zero, Nat.shiftLeft_eq]
  have hk := shl_lt_of_log2 (fb := f.fractionBits) rfl hL h0
  refine ⟨_, rfl, ?_, ?_⟩
  · rw [Nat.min_eq_left (Nat.le_of_lt hr)]; exact hr
  · rw [Nat.min_eq_left (Nat.le_of_lt hr)]
    have e3 : (e - f.leastPlace).toNat = (f.fractionBits - m.log2) + (e + (m.log2 : Int) - f.fractionBits - f.leastPlace).toNat := by omega
    rw [e3, Nat.pow_add, ← Nat.mul_assoc]
    have hbe : f.binade = 2 ^ f.fractionBits := rfl
    rw [← hbe] at hk
    exact mg_normal f _ _ hk.1 hk.2

/-- The datum of a finite float32: at most 24 digits, at a place from -149 to 104. -/
theorem read32 (x : Nat) (h : rung Ieee.single x < Ieee.single.infRung) :
    ∃ m e, Ieee.single.read x = .number (sgn Ieee.single x) m e ∧ -149 ≤ e ∧ e ≤ 104 ∧ m < 16777216 ∧ m * 2 ^ (e + 149).toNat = mg Ieee.single (rung Ieee.single x) := by
  have e1 : Ieee.single.signWeight = 2147483648 := by decide +kernel
  have e2 : Ieee.single.infRung = 2139095040 := by decide +kernel
  have e3 : Ieee.single.binade = 8388608 := by decide +kernel
  have e4 : Ieee.single.leastPlace = -149 := by decide +kernel
  unfold Ieee.Format.read rung sgn mg at *
  rw [e1, e2] at h
  dsimp only
  rw [e1, e2, e3, e4]
  by_cases h1 : x % 2147483648 < 8388608
  · rw [if_pos h1]
    refine ⟨_, _, rfl, by omega, by omega, by omega, ?_⟩
    rw [if_pos h1]; simp
  · rw [if_neg h1, if_pos h]
    refine ⟨_, _, rfl, by omega, by omega, by omega, ?_⟩
    rw [if_neg h1]
    congr 2; omega

def cvU (x : Nat) : Nat := (floatToFloatBits .f32 x .f64).getD (qn .f64)

theorem cvU_nan {x : Nat} (h : isN .f32 x = true) : floatToFloatBits .f32 x .f64 = none := by
  obtain ⟨s, t, e⟩ := read_nan h
  unfold floatToFloatBits
  rw [if_neg (by decide)]
  have e' : FloatKind.f32.decode x = .nan s t := e
  rw [e']

theorem isInf_rung (k : FloatKind) (x : Nat) : (k.format.read x).isInfinity = decide (rung k.format x = k.format.infRung) := by
  by_cases h : rung k.format x = k.format.infRung
  · rw [read_inf k x h]; simp [Ieee.Datum.isInfinity, h]
  · rw [decide_eq_false h]
    have hb := binade_le k
    unfold Ieee.Format.read
    unfold rung at h
    dsimp only
    split
    · rfl
    · split
      · rfl
      · first | rw [if_neg h] | skip
        rfl

/-- What a float32 that is no NaN becomes: the same sign, and 2^925 times as many units. -/
theorem cvU_fin {x : Nat} (h : rung Ieee.single x < Ieee.single.infRung) :
    ∃ r, floatToFloatBits .f32 x .f64 = some (Ieee.double.word (sgn Ieee.single x) r) ∧ r < Ieee.double.infRung ∧ mg Ieee.double r = mg Ieee.single (rung Ieee.single x) * 2 ^ 925 := by
  obtain ⟨m, e, h1, h2, h3, h4, h5⟩ := read32 x h
  have d1 : Ieee.double.leastPlace = -1074 := by decide +kernel
  have d2 : Ieee.double.fractionBits = 52 := rfl
  have d3 : Ieee.double.infRung = 9218868437227405312 := by decide +kernel
  have d4 : Ieee.double.binade = 4503599627370496 := by decide +kernel
  have key : ∃ r, Ieee.double.nearest (sgn Ieee.single x) m e = Ieee.double.word (sgn Ieee.single x) r ∧ r < Ieee.double.infRung ∧ mg Ieee.double r = mg Ieee.single (rung Ieee.single x) * 2 ^ 925 := by
    by_cases h0 : m = 0
    · refine ⟨0, by unfold Ieee.Format.nearest; rw [if_pos h0], by rw [d3]; decide, ?_⟩
      rw [← h5, h0]; simp [mg, d4]
    · have hL : m.log2 < 24 := (Nat.log2_lt h0).2 (by omega)
      have hk := shl_lt_of_log2 (m := m) (fb := 52) rfl (by omega) h0
      obtain ⟨r, r1, r2, r3⟩ := nearest_exact Ieee.double (sgn Ieee.single x) m e h0 (by rw [d2]; omega) (by rw [d1, d2]; omega) (by
        rw [d1, d2, d3, d4]
        have : (e + (m.log2 : Int) - (52 : Nat) - (-1074)).toNat ≤ 1149 := by omega
        have h6 : (e + (m.log2 : Int) - (52 : Nat) - (-1074)).toNat * 4503599627370496 ≤ 1149 * 4503599627370496 := Nat.mul_le_mul_right _ this
        have h7 : m * 2 ^ (52 - m.log2) < 2 * 4503599627370496 := hk.2
        omega)
      refine ⟨r, r1, r2, ?_⟩
      rw [r3, ← h5, d1]
      have e6 : (e - -1074).toNat = (e + 149).toNat + 925 := by omega
      rw [e6, Nat.pow_add, Nat.mul_assoc]
  obtain ⟨r, r1, r2, r3⟩ := key
  refine ⟨r, ?_, r2, r3⟩
  unfold floatToFloatBits
  rw [if_neg (by decide)]
  have e' : FloatKind.f32.decode x = .number (sgn Ieee.single x) m e := h1
  rw [e']
  dsimp only
  have e'' : FloatKind.f64.encode (.number (sgn Ieee.single x) m e) = Ieee.double.word (sgn Ieee.single x) r := r1
  rw [e'']
  have hw : rung Ieee.double (Ieee.double.word (sgn Ieee.single x) r) = r := (read_word Ieee.double _ r (Nat.lt_trans r2 Ieee.double.infRung_lt)).2
  have hi := isInf_rung .f64 (Ieee.double.word (sgn Ieee.single x) r)
  have hf : FloatKind.f64.format = Ieee.double := rfl
  rw [hf, hw, decide_eq_false (Nat.ne_of_lt r2)] at hi
  have hi' : (FloatKind.f64.decode (Ieee.double.word (sgn Ieee.single x) r)).isInfinity = false := hi
  rw [hi']
  rfl

theorem word_signs (f : Ieee.Format) (s : Bool) (r : Nat) (h : r < f.signWeight) : sgn f (f.word s r) = s ∧ rung f (f.word s r) = r := by
  obtain ⟨h1, h2⟩ := read_word f s r h
  refine ⟨?_, h2⟩
  unfold sgn; rw [h1]; cases s <;> rfl

theorem cvU_inf {x : Nat} (h : rung Ieee.single x = Ieee.single.infRung) : floatToFloatBits .f32 x .f64 = some (Ieee.double.word (sgn Ieee.single x) Ieee.double.infRung) := by
  have e' : FloatKind.f32.decode x = .infinity (sgn Ieee.single x) := read_inf .f32 x h
  unfold floatToFloatBits
  rw [if_neg (by decide), e']
  rfl

/-- A float32 that is no NaN, made a float64: no NaN, of the same sign; finite if it was; its units. -/
theorem cvU_spec {x : Nat} (h : isN .f32 x = false) :
    floatToFloatBits .f32 x .f64 = some (cvU x) ∧ isN .f64 (cvU x) = false ∧ sgn Ieee.double (cvU x) = sgn Ieee.single x ∧
    (rung Ieee.double (cvU x) < Ieee.double.infRung ↔ rung Ieee.single x < Ieee.single.infRung) ∧
    (rung Ieee.single x < Ieee.single.infRung → mg Ieee.double (rung Ieee.double (cvU x)) = mg Ieee.single (rung Ieee.single x) * 2 ^ 925) ∧
    (rung Ieee.double (cvU x) = Ieee.double.infRung ↔ rung Ieee.single x = Ieee.single.infRung) := by
  have hl := Ieee.double.infRung_lt
  have h' : ¬ Ieee.single.infRung < rung Ieee.single x := by
    have := isN_rung' .f32 x; rw [h] at this; have h2 := of_decide_eq_false this.symm; exact h2
  by_cases hi : rung Ieee.single x = Ieee.single.infRung
  · have e := cvU_inf hi
    have ec : cvU x = Ieee.double.word (sgn Ieee.single x) Ieee.double.infRung := by unfold cvU; rw [e]; rfl
    obtain ⟨w1, w2⟩ := word_signs Ieee.double (sgn Ieee.single x) _ hl
    rw [ec]
    refine ⟨e, ?_, w1, ?_, fun hh => by omega, ?_⟩
    · rw [isN_rung']; have hf : FloatKind.f64.format = Ieee.double := rfl
      rw [hf, w2]; simp
    · rw [w2]; omega
    · rw [w2]; omega
  · obtain ⟨r, r1, r2, r3⟩ := cvU_fin (x := x) (by omega)
    have ec : cvU x = Ieee.double.word (sgn Ieee.single x) r := by unfold cvU; rw [r1]; rfl
    obtain ⟨w1, w2⟩ := word_signs Ieee.double (sgn Ieee.single x) r (by omega)
    rw [ec]
    refine ⟨r1, ?_, w1, ?_, fun hh => ?_, ?_⟩
    · rw [isN_rung']; have hf : FloatKind.f64.format = Ieee.double := rfl
      rw [hf, w2]; simp; omega
    · rw [w2]; constructor <;> intro <;> omega
    · rw [w2, r3]
    · rw [w2]; constructor <;> intro <;> omega

theorem cvU_qn {x : Nat} (h : isN .f32 x = true) : cvU x = qn .f64 := by unfold cvU; rw [cvU_nan h]; rfl
theorem isN_cvU (x : Nat) : isN .f64 (cvU x) = isN .f32 x := by
  cases h : isN .f32 x
  · exact (cvU_spec h).2.1
  · rw [cvU_qn h]; exact isN_qn _
theorem cvU_pick (v n : Nat) : cvU (pick .f32 v n) = cvU v := by
  cases h : isN .f32 v
  · rw [pick_not h]
  · rw [cvU_qn h, cvU_qn (by rw [isN_pick]; exact h)]
attribute [simp, go_sem] cvU_pick isN_cvU

theorem srung_mul (a b : Nat) (s t : Bool) (c : Nat) :
    compare (if s then -((a * 2 ^ c : Nat) : Int) else ((a * 2 ^ c : Nat) : Int)) (if t then -((b * 2 ^ c : Nat) : Int) else ((b * 2 ^ c : Nat) : Int)) =
    compare (if s then -(a : Int) else (a : Int)) (if t then -(b : Int) else (b : Int)) := by
  have e : ∀ (s : Bool) (a : Nat), (if s then -((a * 2 ^ c : Nat) : Int) else ((a * 2 ^ c : Nat) : Int)) = (if s then -(a : Int) else (a : Int)) * 2 ^ c := by
    intro s a; cases s <;> simp [Int.natCast_mul, Int.natCast_pow, Int.neg_mul]
  rw [e, e, cmp_mul]

/-- The order of two float32s is that of the float64s that they become. -/
theorem order_cvU (x y : Nat) : Ieee.double.order (cvU x) (cvU y) = Ieee.single.order x y := by
  have hf : FloatKind.f64.format = Ieee.double := rfl
  have hs : FloatKind.f32.format = Ieee.single := rfl
  cases hx : isN .f32 x
  · cases hy : isN .f32 y
    · obtain ⟨_, n1, s1, f1, m1, i1⟩ := cvU_spec hx
      obtain ⟨_, n2, s2, f2, m2, i2⟩ := cvU_spec hy
      have o1 := order_rungs .f64 _ _ n1 n2
      have o2 := order_rungs .f32 _ _ hx hy
      rw [hf] at o1
      rw [hs] at o2
      rw [o1, o2]
      have b1 : ¬ Ieee.single.infRung < rung Ieee.single x := by
        have := isN_rung' .f32 x; rw [hx] at this; exact of_decide_eq_false this.symm
      have b2 : ¬ Ieee.single.infRung < rung Ieee.single y := by
        have := isN_rung' .f32 y; rw [hy] at this; exact of_decide_eq_false this.symm
      have c1 : ¬ Ieee.double.infRung < rung Ieee.double (cvU x) := by
        have := isN_rung' .f64 (cvU x); rw [n1] at this; exact of_decide_eq_false this.symm
      have c2 : ¬ Ieee.double.infRung < rung Ieee.double (cvU y) := by
        have := isN_rung' .f64 (cvU y); rw [n2] at this; exact of_decide_eq_false this.symm
      by_cases ix : rung Ieee.single x = Ieee.single.infRung
      · have jx := i1.2 ix
        by_cases iy : rung Ieee.single y = Ieee.single.infRung
        · have jy := i2.2 iy
          simp only [srung, s1, s2, ix, iy, jx, jy]
          have p1 : 0 < Ieee.single.infRung := by decide +kernel
          have p2 : 0 < Ieee.double.infRung := by decide +kernel
          cases sgn Ieee.single x <;> cases sgn Ieee.single y <;> simp only [if_true, if_false, Bool.false_eq_true]
          · rw [Int.compare_eq_eq.2 rfl, Int.compare_eq_eq.2 rfl]
          · rw [cmp_of_gt (by omega), cmp_of_gt (by omega)]
          · rw [cmp_of_lt (by omega), cmp_of_lt (by omega)]
          · rw [Int.compare_eq_eq.2 rfl, Int.compare_eq_eq.2 rfl]
        · have gy := f2.2 (by omega)
          simp only [srung, s1, s2, ix, jx]
          cases sgn Ieee.single x <;> cases sgn Ieee.single y <;> simp only [if_true, if_false, Bool.false_eq_true]
          · rw [cmp_of_gt (by omega), cmp_of_gt (by omega)]
          · rw [cmp_of_gt (by omega), cmp_of_gt (by omega)]
          · rw [cmp_of_lt (by omega), cmp_of_lt (by omega)]
          · rw [cmp_of_lt (by omega), cmp_of_lt (by omega)]
      · have gx := f1.2 (by omega)
        by_cases iy : rung Ieee.single y = Ieee.single.infRung
        · have jy := i2.2 iy
          simp only [srung, s1, s2, iy, jy]
          cases sgn Ieee.single x <;> cases sgn Ieee.single y <;> simp only [if_true, if_false, Bool.false_eq_true]
          · rw [cmp_of_lt (by omega), cmp_of_lt (by omega)]
          · rw [cmp_of_gt (by omega), cmp_of_gt (by omega)]
          · rw [cmp_of_lt (by omega), cmp_of_lt (by omega)]
          · rw [cmp_of_gt (by omega), cmp_of_gt (by omega)]
        · have gy := f2.2 (by omega)
          unfold srung
          rw [← cmp_srung Ieee.double _ _ (rung Ieee.double (cvU x)) (rung Ieee.double (cvU y)), s1, s2, m1 (by omega), m2 (by omega), srung_mul]
          exact congrArg some (cmp_srung Ieee.single _ _ _ _)
    · rw [← hf, ← hs, order_nan_r x hy, order_nan_r _ (by rw [isN_cvU]; exact hy)]
  · rw [← hf, ← hs, order_nan_l y hx, order_nan_l _ (by rw [isN_cvU]; exact hx)]

/-! ### the run of the conversions -/
section
variable {P : Program} (w : World)
theorem run_cvU (src dst : TypeId) (x : Nat) (hs : (P.underlying src).isSome = true) (hd : P.underlying dst = some (.float .f64)) :
    ∃ n m, (convert src dst (.float .f32 x)).run P w = .ok (.float .f64 (pick .f64 (cvU x) n)) (w.drewN m) := by
  cases h : isN .f32 x
  · obtain ⟨h1, h2, _⟩ := cvU_spec h
    refine ⟨0, 0, ?_⟩
    rw [run_convert_float_float w src dst .f32 .f64 x _ hs hd h1, pick_not h2]; rfl
  · obtain ⟨s, t, e⟩ := read_nan h
    have e' : FloatKind.f32.decode x = .nan s t := e
    refine ⟨w.tape w.drawn (.nanConv .f64 x), 1, ?_⟩
    have e2 : pick .f64 (cvU x) (w.tape w.drawn (.nanConv .f64 x)) = (Question.nanConv .f64 x).cut (w.tape w.drawn (.nanConv .f64 x)) := by
      rw [cvU_qn h]; simp only [pick, isN_qn, if_true]; rfl
    rw [e2]
    obtain ⟨u, hs'⟩ := Option.isSome_iff_exists.1 hs
    cases u <;> simp [convert, run_underlying hs', run_underlying hd, Conv.floatToFloat, e', Question.forced, World.drew_is_drewN]

/-- Narrowing, where the number is not too great. -/
def cvN (x : Nat) : Nat := (floatToFloatBits .f64 x .f32).getD (qn .f32)
def Fits (x : Nat) : Prop := isN .f64 x = true ∨ (floatToFloatBits .f64 x .f32).isSome = true
theorem cvN_nan {x : Nat} (h : isN .f64 x = true) : floatToFloatBits .f64 x .f32 = none := by
  obtain ⟨s, t, e⟩ := read_nan h
  unfold floatToFloatBits
  rw [if_neg (by decide)]
  have e' : FloatKind.f64.decode x = .nan s t := e
  rw [e']
theorem cvN_notNaN {x r : Nat} (h : floatToFloatBits .f64 x .f32 = some r) : isN .f32 r = false := by
  unfold floatToFloatBits at h
  rw [if_neg (by decide)] at h
  split at h
  · cases h
  · cases h; exact write_notNaN _ _ rfl
  · split at h
    · cases h
    · cases h; exact write_notNaN _ _ rfl
theorem cvN_qn {x : Nat} (h : isN .f64 x = true) : cvN x = qn .f32 := by unfold cvN; rw [cvN_nan h]; rfl
theorem cvN_pick (v n : Nat) : cvN (pick .f64 v n) = cvN v := by
  cases h : isN .f64 v
  · rw [pick_not h]
  · rw [cvN_qn h, cvN_qn (by rw [isN_pick]; exact h)]
theorem Fits_pick (v n : Nat) : Fits (pick .f64 v n) = Fits v := by
  cases h : isN .f64 v
  · rw [pick_not h]
  · have h2 : isN .f64 (pick .f64 v n) = true := by rw [isN_pick]; exact h
    exact propext ⟨fun _ => .inl h, fun _ => .inl h2⟩
attribute [simp, go_sem] cvN_pick Fits_pick
theorem run_cvN (src dst : TypeId) (x : Nat) (hs : (P.underlying src).isSome = true) (hd : P.underlying dst = some (.float .f32)) (hx : Fits x) :
    ∃ n m, (convert src dst (.float .f64 x)).run P w = .ok (.float .f32 (pick .f32 (cvN x) n)) (w.drewN m) := by
  cases h : isN .f64 x
  · rcases hx with hx | hx
    · rw [h] at hx; cases hx
    obtain ⟨r, hr⟩ := Option.isSome_iff_exists.1 hx
    refine ⟨0, 0, ?_⟩
    have e : cvN x = r := by unfold cvN; rw [hr]; rfl
    rw [run_convert_float_float w src dst .f64 .f32 x _ hs hd hr, e, pick_not (cvN_notNaN hr)]; rfl
  · obtain ⟨s, t, e⟩ := read_nan h
    have e' : FloatKind.f64.decode x = .nan s t := e
    refine ⟨w.tape w.drawn (.nanConv .f32 x), 1, ?_⟩
    have e2 : pick .f32 (cvN x) (w.tape w.drawn (.nanConv .f32 x)) = (Question.nanConv .f32 x).cut (w.tape w.drawn (.nanConv .f32 x)) := by
      rw [cvN_qn h]; simp only [pick, isN_qn, if_true]; rfl
    rw [e2]
    obtain ⟨u, hs'⟩ := Option.isSome_iff_exists.1 hs
    cases u <;> simp [convert, run_underlying hs', run_underlying hd, Conv.floatToFloat, e', Question.forced, World.drew_is_drewN]
end

theorem wpList_cvU {P : Program} {w : World} {ops : Array Oper} {rest : List Oper} {o : Oper} {a : Act} {Q : Exit → Act → World → Prop}
    (hg : o.guard = none) (src dst : TypeId) (x : Operand) (hop : o.op = Op.convert src dst x) (hs : (P.underlying src).isSome = true) (hd : P.underlying dst = some (.float .f64)) (b : Nat)
    (hx : a.eval x = .float .f32 b) (j : Nat)
    (hK : ∀ n m, wpList P ops Q rest (a.put o.dst (.float .f64 (pick .f64 (cvU b) n))) (w.drewN m)) :
    wpList P ops Q (o :: rest) a (w.drewN j) := by
  refine wpList_plain hg fun K hK' => ?_
  obtain ⟨n, m, hrun⟩ := run_cvU (P := P) (w.drewN j) src dst b hs hd
  unfold Oper.wp
  simp [execOp, hop, hx, hrun, Result.andThen]
  exact hK' _ _ (hK n _)

theorem wpList_cvN {P : Program} {w : World} {ops : Array Oper} {rest : List Oper} {o : Oper} {a : Act} {Q : Exit → Act → World → Prop}
    (hg : o.guard = none) (src dst : TypeId) (x : Operand) (hop : o.op = Op.convert src dst x) (hs : (P.underlying src).isSome = true) (hd : P.underlying dst = some (.float .f32)) (b : Nat)
    (hx : a.eval x = .float .f64 b) (j : Nat) (hfit : Fits b)
    (hK : ∀ n m, wpList P ops Q rest (a.put o.dst (.float .f32 (pick .f32 (cvN b) n))) (w.drewN m)) :
    wpList P ops Q (o :: rest) a (w.drewN j) := by
  refine wpList_plain hg fun K hK' => ?_
  obtain ⟨n, m, hrun⟩ := run_cvN (P := P) (w.drewN j) src dst b hs hd hfit
  unfold Oper.wp
  simp [execOp, hop, hx, hrun, Result.andThen]
  exact hK' _ _ (hK n _)

/-! ### signs -/
def fneg (k : FloatKind) (v : Nat) : Nat := if isN k v then qn k else Op.negFloat k v
def fabs (k : FloatKind) (v : Nat) : Nat := rung k.format v
theorem neg_lt (k : FloatKind) (v : Nat) (h : v < k.format.signWeight) : Op.negFloat k v = k.format.signWeight + v := by
  unfold Op.negFloat Ieee.Format.signWeight at *
  rw [Nat.xor_comm]
  apply Nat.eq_of_testBit_eq
  intro i
  generalize k.format.exponentBits + k.format.fractionBits = e at *
  have h1 := Nat.testBit_two_pow_add_eq v e
  rw [Nat.testBit_xor, Nat.testBit_two_pow]
  by_cases hi : i = e
  · subst hi; rw [h1, Nat.testBit_lt_two_pow h]; simp
  · have hie : ¬ e = i := fun hh => hi hh.symm
    rcases Nat.lt_or_ge i e with h2 | h2
    · rw [Nat.testBit_two_pow_add_gt h2]; simp [hie]
    · have h3 : v < 2 ^ i := Nat.lt_of_lt_of_le h (Nat.pow_le_pow_right (by decide) h2)
      have h4 : 2 ^ e + v < 2 ^ i := by
        have : 2 ^ (e + 1) ≤ 2 ^ i := Nat.pow_le_pow_right (by decide) (by omega)
        rw [Nat.pow_succ] at this; omega
      rw [Nat.testBit_lt_two_pow h3, Nat.testBit_lt_two_pow h4]; simp [hie]

theorem sgn_bit (k : FloatKind) (x : Nat) : sgn k.format x = x.testBit (k.format.exponentBits + k.format.fractionBits) := by
  unfold sgn Ieee.Format.signWeight
  rw [Nat.testBit_eq_decide_div_mod_eq]
  generalize x / 2 ^ (k.format.exponentBits + k.format.fractionBits) % 2 = q
  cases h : decide (q = 1) <;> simp at h <;> simp [h]

theorem rung_neg (k : FloatKind) (x : Nat) : rung k.format (Op.negFloat k x) = rung k.format x := by
  unfold rung Op.negFloat Ieee.Format.signWeight
  generalize k.format.exponentBits + k.format.fractionBits = e
  apply Nat.eq_of_testBit_eq
  intro i
  rw [Nat.testBit_mod_two_pow, Nat.testBit_mod_two_pow, Nat.testBit_xor, Nat.testBit_two_pow]
  by_cases h : i < e
  · have : ¬ e = i := by omega
    simp [h, this]
  · simp [h]

theorem sgn_neg (k : FloatKind) (x : Nat) : sgn k.format (Op.negFloat k x) = !sgn k.format x := by
  rw [sgn_bit, sgn_bit]
  unfold Op.negFloat
  rw [Nat.testBit_xor, Nat.testBit_two_pow]
  simp

theorem isN_neg (k : FloatKind) (x : Nat) : isN k (Op.negFloat k x) = isN k x := by
  rw [isN_rung', isN_rung', rung_neg]

def flip (n : Nat) : Nat := if n % 2 = 0 then n + 1 else n - 1
theorem nanOf_form (k : FloatKind) (n : Nat) : ∃ r, r < k.format.signWeight ∧ nanOf k n = (n % 2) * k.format.signWeight + r ∧ nanOf k (flip n) = ((n + 1) % 2) * k.format.signWeight + r := by
  have ef : flip n / 2 = n / 2 ∧ flip n % 2 = (n + 1) % 2 := by unfold flip; split <;> omega
  cases k
  · have h1 : FloatKind.f32.format.signWeight = 2147483648 := by decide +kernel
    rw [h1]
    have h3 : n / 2 % (2 ^ 23 - 1) < 8388607 := Nat.mod_lt _ (by decide)
    refine ⟨0x7f800000 + 1 + n / 2 % (2 ^ 23 - 1), by omega, ?_, ?_⟩
    · simp only [nanOf, Question.cut]; generalize n / 2 % (2 ^ 23 - 1) = u at *; omega
    · simp only [nanOf, Question.cut, ef.1, ef.2]; generalize n / 2 % (2 ^ 23 - 1) = u at *; omega
  · have h1 : FloatKind.f64.format.signWeight = 9223372036854775808 := by decide +kernel
    rw [h1]
    have h3 : n / 2 % (2 ^ 52 - 1) < 4503599627370495 := Nat.mod_lt _ (by decide)
    refine ⟨0x7ff0000000000000 + 1 + n / 2 % (2 ^ 52 - 1), by omega, ?_, ?_⟩
    · simp only [nanOf, Question.cut]; generalize n / 2 % (2 ^ 52 - 1) = u at *; omega
    · simp only [nanOf, Question.cut, ef.1, ef.2]; generalize n / 2 % (2 ^ 52 - 1) = u at *; omega

theorem neg_neg (k : FloatKind) (x : Nat) : Op.negFloat k (Op.negFloat k x) = x := by
  unfold Op.negFloat; rw [Nat.xor_assoc, Nat.xor_self, Nat.xor_zero]

theorem neg_nanOf (k : FloatKind) (n : Nat) : Op.negFloat k (nanOf k n) = nanOf k (flip n) := by
  obtain ⟨r, hr, h1, h2⟩ := nanOf_form k n
  rw [h1, h2]
  rcases Nat.mod_two_eq_zero_or_one n with e | e
  · have e' : (n + 1) % 2 = 1 := by omega
    rw [e, e', Nat.zero_mul, Nat.one_mul, Nat.zero_add, neg_lt k r hr]
  · have e' : (n + 1) % 2 = 0 := by omega
    rw [e, e', Nat.zero_mul, Nat.one_mul, Nat.zero_add, ← neg_lt k r hr, neg_neg]

theorem neg_pick (k : FloatKind) (v n : Nat) : Op.negFloat k (pick k v n) = pick k (fneg k v) (flip n) := by
  cases h : isN k v
  · rw [pick_not h]; unfold fneg; rw [h, if_neg (by decide), pick_not (by rw [isN_neg]; exact h)]
  · have e : pick k v n = nanOf k n := by simp [pick, h]
    rw [e, neg_nanOf]; unfold fneg; rw [h, if_pos rfl]; simp [pick, isN_qn]

@[go_sem] theorem unary_neg_pick (k : FloatKind) (v n : Nat) : Op.unary .neg (.float k (pick k v n)) = pure (.float k (pick k (fneg k v) (flip n))) := by
  rw [← neg_pick]; rfl

theorem isN_fneg (k : FloatKind) (v : Nat) : isN k (fneg k v) = isN k v := by
  unfold fneg
  cases h : isN k v
  · rw [if_neg (by decide), isN_neg]; exact h
  · rw [if_pos rfl, isN_qn]
theorem fneg_pick (k : FloatKind) (v n : Nat) : fneg k (pick k v n) = fneg k v := by
  cases h : isN k v
  · rw [pick_not h]
  · unfold fneg; rw [isN_pick, h, if_pos rfl, if_pos rfl]
attribute [simp, go_sem] fneg_pick isN_fneg

theorem rung_lt (k : FloatKind) (x : Nat) : rung k.format x < k.format.signWeight := Nat.mod_lt _ (Nat.two_pow_pos _)
theorem rung_rung (k : FloatKind) (x : Nat) : rung k.format (rung k.format x) = rung k.format x := Nat.mod_eq_of_lt (rung_lt k x)
theorem sgn_rung (k : FloatKind) (x : Nat) : sgn k.format (rung k.format x) = false := by
  unfold sgn; rw [Nat.div_eq_of_lt (rung_lt k x)]; rfl
theorem isN_fabs (k : FloatKind) (v : Nat) : isN k (fabs k v) = isN k v := by
  rw [isN_rung', isN_rung']; unfold fabs; rw [rung_rung]
theorem rung_pick (k : FloatKind) (v n : Nat) : rung k.format (pick k v n) = pick k (fabs k v) (n - n % 2) := by
  cases h : isN k v
  · rw [pick_not h, pick_not (by rw [isN_fabs]; exact h)]; rfl
  · have e : pick k v n = nanOf k n := by simp [pick, h]
    have e2 : pick k (fabs k v) (n - n % 2) = nanOf k (n - n % 2) := by simp [pick, isN_fabs, h]
    rw [e, e2]
    obtain ⟨r, hr, h1, h2⟩ := nanOf_form k n
    unfold rung
    rcases Nat.mod_two_eq_zero_or_one n with e | e
    · rw [h1, e]; simp [Nat.mod_eq_of_lt hr]
      rw [h1, e]; simp
    · rw [h1, e]
      have e3 : flip n = n - 1 := by unfold flip; rw [if_neg (by omega)]
      rw [e3] at h2
      rw [h2]
      have e4 : (n + 1) % 2 = 0 := by omega
      rw [e4, Nat.one_mul, Nat.add_mod_left, Nat.mod_eq_of_lt hr]; simp

/-! ### finite numbers -/
def finB (k : FloatKind) (v : Nat) : Bool := decide (rung k.format v < k.format.infRung)
theorem finB_pick (k : FloatKind) (v n : Nat) : finB k (pick k v n) = finB k v := by
  cases h : isN k v
  · rw [pick_not h]
  · have h1 := isN_rung' k v
    have h2 := isN_rung' k (pick k v n)
    rw [isN_pick] at h2
    rw [h] at h1 h2
    have h1' := of_decide_eq_true h1.symm
    have h2' := of_decide_eq_true h2.symm
    unfold finB
    rw [decide_eq_false (by omega), decide_eq_false (by omega)]
attribute [simp, go_sem] finB_pick

theorem finB_nan {k : FloatKind} {v : Nat} (h : isN k v = true) : finB k v = false := by
  have h1 := isN_rung' k v
  rw [h] at h1
  have := of_decide_eq_true h1.symm
  unfold finB; exact decide_eq_false (by omega)

theorem sub_self_zero (k : FloatKind) (v : Nat) : (k.format.order (fop .sub k v v) 0 == some .eq) = finB k v := by
  cases h : isN k v
  · by_cases h2 : rung k.format v < k.format.infRung
    · obtain ⟨m, e, h3, _, _⟩ := read_fin k.format v h2
      have e1 : finB k v = true := decide_eq_true h2
      have e2 : fop .sub k v v = 0 := by
        unfold fop floatBits Ieee.Format.sub
        simp only [h3, Ieee.Datum.opposite, Ieee.Datum.sum]
        have e3 : Ieee.signed (sgn k.format v) m (e - min e e).toNat + Ieee.signed (!sgn k.format v) m (e - min e e).toNat = 0 := by
          unfold Ieee.signed; cases sgn k.format v <;> simp <;> omega
        rw [e3]
        simp [Ieee.Format.write, Ieee.Format.nearest, Ieee.Format.word]
      rw [e1, e2]
      cases k <;> decide +kernel
    · have e1 : finB k v = false := decide_eq_false h2
      have h4 := isN_rung' k v
      rw [h] at h4
      have h5 := of_decide_eq_false h4.symm
      have h3 := read_inf k v (by omega)
      have e2 : fop .sub k v v = qn k := by
        unfold fop floatBits Ieee.Format.sub
        simp only [h3, Ieee.Datum.opposite, Ieee.Datum.sum]
        cases sgn k.format v <;> simp
      rw [e1, e2, order_nan_l _ (isN_qn k)]; rfl
  · rw [finB_nan h]
    have e2 : fop .sub k v v = qn k := by unfold fop; rw [bits_nan_l _ h]; rfl
    rw [e2, order_nan_l _ (isN_qn k)]; rfl

theorem self_ne (k : FloatKind) (v : Nat) : (k.format.order v v != some .eq) = isN k v := by
  cases h : isN k v
  · rw [order_rungs k v v h h, Int.compare_eq_eq.2 rfl]; rfl
  · rw [order_nan_l v h]; rfl
theorem self_eq (k : FloatKind) (v : Nat) : (k.format.order v v == some .eq) = !isN k v := by
  have := self_ne k v
  cases h : isN k v <;> rw [h] at this <;> simp_all [bne]
attribute [simp, go_sem] self_ne self_eq

theorem finB_cvU (v : Nat) : finB .f64 (cvU v) = finB .f32 v := by
  cases h : isN .f32 v
  · obtain ⟨_, _, _, f1, _, _⟩ := cvU_spec h
    unfold finB
    exact decide_eq_decide.2 f1
  · rw [finB_nan h, finB_nan (by rw [isN_cvU]; exact h)]

/-- Above the greatest finite number, without the sign: infinite. -/
theorem abs_gt_max (v : Nat) : (!isN .f64 v && !(FloatKind.f64.format.order (fabs .f64 v) 9218868437227405311 == some .gt)) = finB .f64 v := by
  cases h : isN .f64 v
  · have h4 := isN_rung' .f64 v
    rw [h] at h4
    have h5 := of_decide_eq_false h4.symm
    rw [order_rungs .f64 _ _ (by rw [isN_fabs]; exact h) (by decide +kernel)]
    have e1 : srung FloatKind.f64.format (fabs .f64 v) = rung FloatKind.f64.format v := by
      unfold srung; unfold fabs; rw [sgn_rung, rung_rung]; simp
    have e2 : srung FloatKind.f64.format 9218868437227405311 = 9218868437227405311 := by decide +kernel
    have e3 : FloatKind.f64.format.infRung = 9218868437227405312 := by decide +kernel
    rw [e1, e2]
    unfold finB
    rw [e3] at h5 ⊢
    by_cases h6 : rung FloatKind.f64.format v < 9218868437227405312
    · rw [decide_eq_true h6]
      rcases Int.lt_trichotomy (rung FloatKind.f64.format v : Int) 9218868437227405311 with h7 | h7 | h7
      · rw [cmp_of_lt h7]; rfl
      · rw [Int.compare_eq_eq.2 h7]; rfl
      · omega
    · rw [decide_eq_false h6, cmp_of_gt (by omega)]; rfl
  · rw [finB_nan h]; rfl

/-! ### what a contract of these texts says -/
def RetV (v : Value) (w : World) (e : Ending) (w' : World) : Prop := ∃ m, e = .returned v ∧ w' = w.drewN m
def RetF (k : FloatKind) (F : Nat) (w : World) (e : Ending) (w' : World) : Prop := ∃ n m, e = .returned (.float k (pick k F n)) ∧ w' = w.drewN m
theorem lt_of_wf {k : FloatKind} {b : Nat} (h : (Lit.float k b).wf = true) : b < 2 ^ k.format.width := by
  cases k
  · have h' : b < 4294967296 := by simpa [Lit.wf] using h
    exact h'
  · have h' : b < 18446744073709551616 := by simpa [Lit.wf] using h
    exact h'

/-! ### bounds; the sign bit struck -/
theorem pick_lt {k : FloatKind} {v : Nat} (hv : v < 2 ^ k.format.width) (n : Nat) : pick k v n < 2 ^ k.format.width := by
  unfold pick
  split
  · obtain ⟨r, hr, h1, _⟩ := nanOf_form k n
    have e : 2 ^ k.format.width = 2 * k.format.signWeight := by cases k <;> decide +kernel
    rw [e, h1]
    rcases Nat.mod_two_eq_zero_or_one n with e | e <;> rw [e] <;> omega
  · exact hv
theorem qn_lt (k : FloatKind) : qn k < 2 ^ k.format.width := by cases k <;> decide +kernel
theorem fop_lt (op : BinOp) (k : FloatKind) (x y : Nat) : fop op k x y < 2 ^ k.format.width := by
  unfold fop
  cases h : floatBits op k x y with
  | none => exact qn_lt k
  | some r => exact lt_of_wf (floatBits_wf h)
theorem cvU_lt (x : Nat) : cvU x < 2 ^ FloatKind.f64.format.width := by
  unfold cvU
  cases h : floatToFloatBits .f32 x .f64 with
  | none => exact qn_lt .f64
  | some r =>
    unfold floatToFloatBits at h
    rw [if_neg (by decide)] at h
    split at h
    · cases h
    · cases h; exact lt_of_wf (encode_wf _ _)
    · split at h
      · cases h
      · cases h; exact lt_of_wf (encode_wf _ _)
theorem cvN_lt (x : Nat) : cvN x < 2 ^ FloatKind.f32.format.width := by
  unfold cvN
  cases h : floatToFloatBits .f64 x .f32 with
  | none => exact qn_lt .f32
  | some r =>
    unfold floatToFloatBits at h
    rw [if_neg (by decide)] at h
    split at h
    · cases h
    · cases h; exact lt_of_wf (encode_wf _ _)
    · split at h
      · cases h
      · cases h; exact lt_of_wf (encode_wf _ _)
theorem abs_bits {v : Nat} (hv : v < 2 ^ FloatKind.f64.format.width) (n : Nat) : bits .andNot .u64 (pick .f64 v n : Int) 9223372036854775808 = ((pick .f64 (fabs .f64 v) (n - n % 2) : Nat) : Int) := by
  have h1 : pick .f64 v n < 18446744073709551616 := pick_lt (k := .f64) hv n
  have e := u64_andNot_nat (pick .f64 v n) 9223372036854775808 h1 (by decide)
  rw [← rung_pick]
  have e2 : (pick .f64 v n &&& (18446744073709551615 - 9223372036854775808)) = rung FloatKind.f64.format (pick .f64 v n) := by
    show pick .f64 v n &&& (2 ^ 63 - 1) = _
    rw [Nat.and_two_pow_sub_one_eq_mod]; rfl
  rw [← e2]; exact e

/-- The bits that are told: one for all NaNs. -/
def bitsI (v : Nat) : Int := if isN .f32 v then 2143289344 else v

/-! ### subnormal numbers -/
theorem i64_and_nat (a b : Nat) (ha : a < 2 ^ 63) (hb : b < 2 ^ 63) : bits .and .i64 (a : Int) (b : Int) = ((a &&& b : Nat) : Int) := by
  have key : (BitVec.ofInt 64 (a : Int) &&& BitVec.ofInt 64 (b : Int)).toNat = a &&& b := by
    rw [BitVec.toNat_and, BitVec.toNat_ofInt, BitVec.toNat_ofInt]
    congr 1 <;> omega
  have hlt : a &&& b < 2 ^ 63 := Nat.lt_of_le_of_lt Nat.and_le_left ha
  show IntKind.i64.wrap ((BitVec.ofInt 64 (a : Int) &&& BitVec.ofInt 64 (b : Int)).toNat : Nat) = _
  rw [key, IntKind.wrap_i64]
  generalize a &&& b = c at *
  omega
theorem expo_mask (v : Nat) (hv : v < 4294967296) : (bits .and .i64 (v : Int) 2139095040 == 0) = decide (rung Ieee.single v < 8388608) := by
  have e := i64_and_nat v 2139095040 (by omega) (by decide)
  have e2 : v &&& 2139095040 = v % 2 ^ 31 / 2 ^ 23 * 2 ^ 23 := nat_midmask 31 23 v (by decide)
  have e3 : rung Ieee.single v = v % 2147483648 := rfl
  have e4 : bits .and .i64 (v : Int) 2139095040 = ((v % 2 ^ 31 / 2 ^ 23 * 2 ^ 23 : Nat) : Int) := by rw [← e2]; exact e
  rw [e4, e3]
  by_cases h : v % 2147483648 < 8388608
  · rw [decide_eq_true h]; simp; omega
  · rw [decide_eq_false h]; simp; omega
theorem sign_mask (v : Nat) (hv : v < 4294967296) : bits .and .i64 (v : Int) 2147483648 = (if sgn Ieee.single v then 2147483648 else 0 : Nat) := by
  have e := i64_and_nat v 2147483648 (by omega) (by decide)
  have e2 : v &&& 2147483648 = v % 2 ^ 32 / 2 ^ 31 * 2 ^ 31 := nat_midmask 32 31 v (by decide)
  have e4 : bits .and .i64 (v : Int) 2147483648 = ((v % 2 ^ 32 / 2 ^ 31 * 2 ^ 31 : Nat) : Int) := by rw [← e2]; exact e
  rw [e4]
  have e3 : sgn Ieee.single v = (v / 2147483648 % 2 == 1) := rfl
  rw [e3]
  by_cases h : v / 2147483648 % 2 = 1
  · simp [h]; omega
  · have : (v / 2147483648 % 2 == 1) = false := by simp [h]
    rw [this]; simp; omega

theorem ne_zero_iff (v : Nat) (h : isN .f32 v = false) : (FloatKind.f32.format.order v 0 != some .eq) = decide (0 < rung Ieee.single v) := by
  rw [order_rungs .f32 v 0 h (by decide +kernel)]
  have e0 : srung FloatKind.f32.format 0 = 0 := by decide +kernel
  rw [e0]
  unfold srung
  have hf : FloatKind.f32.format = Ieee.single := rfl
  rw [hf]
  by_cases h0 : 0 < rung Ieee.single v
  · rw [decide_eq_true h0]
    cases sgn Ieee.single v <;> simp only [if_true, if_false, Bool.false_eq_true]
    · rw [cmp_of_gt (by omega)]; rfl
    · rw [cmp_of_lt (by omega)]; rfl
  · rw [decide_eq_false h0]
    have h1 : rung Ieee.single v = 0 := by omega
    rw [h1]
    cases sgn Ieee.single v <;> simp only [if_true, if_false, Bool.false_eq_true] <;> rw [Int.compare_eq_eq.2 (by rfl)] <;> rfl

theorem sub_low (v : Nat) (h : isN .f32 v = false) : ((FloatKind.f32.format.order v 2155872256 == some .gt) && (FloatKind.f32.format.order v 8388608 == some .lt)) = decide (rung Ieee.single v < 8388608) := by
  rw [order_rungs .f32 v _ h (by decide +kernel), order_rungs .f32 v _ h (by decide +kernel)]
  have e1 : srung FloatKind.f32.format 2155872256 = -8388608 := by decide +kernel
  have e2 : srung FloatKind.f32.format 8388608 = 8388608 := by decide +kernel
  rw [e1, e2]
  unfold srung
  have hf : FloatKind.f32.format = Ieee.single := rfl
  rw [hf]
  by_cases h0 : rung Ieee.single v < 8388608
  · rw [decide_eq_true h0]
    cases sgn Ieee.single v <;> simp only [if_true, if_false, Bool.false_eq_true]
    · rw [cmp_of_gt (by omega), cmp_of_lt (by omega)]; rfl
    · rw [cmp_of_gt (by omega), cmp_of_lt (by omega)]; rfl
  · rw [decide_eq_false h0]
    cases sgn Ieee.single v <;> simp only [if_true, if_false, Bool.false_eq_true]
    · by_cases h1 : rung Ieee.single v = 8388608
      · rw [h1, cmp_of_gt (by omega), Int.compare_eq_eq.2 (by rfl)]; rfl
      · rw [cmp_of_gt (by omega), cmp_of_gt (by omega)]; rfl
    · by_cases h1 : rung Ieee.single v = 8388608
      · rw [h1, Int.compare_eq_eq.2 (by rfl), cmp_of_lt (by omega)]; rfl
      · rw [cmp_of_lt (by omega), cmp_of_lt (by omega)]; rfl

/-- Subnormal: not zero, and below the least normal rung. -/
def subB (v : Nat) : Bool := decide (0 < rung Ieee.single v) && decide (rung Ieee.single v < 8388608)
theorem rung_nan {v : Nat} (h : isN .f32 v = true) : 2139095040 < rung Ieee.single v := by
  have h1 := isN_rung' .f32 v
  rw [h] at h1
  have h2 := of_decide_eq_true h1.symm
  have e : FloatKind.f32.format.infRung = 2139095040 := by decide +kernel
  rw [e] at h2; exact h2
theorem subB_nan {v : Nat} (h : isN .f32 v = true) : subB v = false := by
  have := rung_nan h
  unfold subB; rw [decide_eq_false (by omega : ¬ rung Ieee.single v < 8388608)]; simp
def flushF (v : Nat) : Nat := if rung Ieee.single v < 8388608 then (if sgn Ieee.single v then 2147483648 else 0) else v
theorem flush_zero (v : Nat) (hv : v < 4294967296) (h : rung Ieee.single v = 0) : flushF v = v := by
  have e3 : sgn Ieee.single v = (v / 2147483648 % 2 == 1) := rfl
  have e4 : rung Ieee.single v = v % 2147483648 := rfl
  unfold flushF
  rw [if_pos (by omega), e3]
  rw [e4] at h
  by_cases h1 : v / 2147483648 % 2 = 1
  · simp [h1]; omega
  · have : (v / 2147483648 % 2 == 1) = false := by simp [h1]
    rw [this]; simp; omega

def RetFB (k : FloatKind) (F : Nat) (w : World) (e : Ending) (w' : World) : Prop := ∃ n m, e = .returned (.tuple #[.float k (pick k F n), .bool true]) ∧ w' = w.drewN m

/-! ### rounding: the rung of what is written lies between the rungs round the number -/
theorem cut_even (neg : Bool) (n d : Nat) :
    Ieee.Toward.even.cut neg n d = n / 2 ^ d + (if 2 ^ d < 2 * (n % 2 ^ d) ∨ (2 ^ d = 2 * (n % 2 ^ d) ∧ n / 2 ^ d % 2 = 1) then 1 else 0) := by
  unfold Ieee.Toward.cut
  dsimp only
  have hb : ∀ (p q r : Bool), (p || (q && r)).toNat = (if p = true ∨ (q = true ∧ r = true) then 1 else 0) := by decide
  rw [hb]
  by_cases hd : d ≤ n.log2 + 2
  · rw [Nat.min_eq_left hd]
    simp only [Nat.one_shiftLeft, beq_iff_eq, decide_eq_true_eq]
  · rw [Nat.min_eq_right (by omega)]
    simp only [Nat.one_shiftLeft, beq_iff_eq, decide_eq_true_eq]
    have h1 : n < 2 ^ (n.log2 + 1) := Nat.lt_log2_self
    have h2 : 2 ^ (n.log2 + 2) = 2 * 2 ^ (n.log2 + 1) := by rw [Nat.pow_succ, Nat.mul_comm]
    have h3 : 2 ^ (n.log2 + 2) ≤ 2 ^ d := Nat.pow_le_pow_right (by decide) (by omega)
    have d1 : n / 2 ^ (n.log2 + 2) = 0 := Nat.div_eq_of_lt (by omega)
    have d2 : n / 2 ^ d = 0 := Nat.div_eq_of_lt (by omega)
    have m1 : n % 2 ^ (n.log2 + 2) = n := Nat.mod_eq_of_lt (by omega)
    have m2 : n % 2 ^ d = n := Nat.mod_eq_of_lt (by omega)
    rw [d1, d2, m1, m2, if_neg (by omega), if_neg (by omega)]

theorem mg_form (f : Ieee.Format) (g K : Nat) (h : g = 0 ∨ f.binade ≤ K) (h2 : K ≤ 2 * f.binade) : mg f (g * f.binade + K) = K * 2 ^ g := by
  have hb := binade_pos f
  by_cases h3 : f.binade ≤ K
  · by_cases h4 : K < 2 * f.binade
    · exact mg_normal f g K h3 h4
    · have e : K = 2 * f.binade := by omega
      have e2 : g * f.binade + K = (g + 1) * f.binade + f.binade := by rw [Nat.add_mul]; omega
      rw [e2, mg_normal f (g + 1) f.binade (Nat.le_refl _) (by omega), e, Nat.pow_succ, Nat.mul_comm 2 f.binade, Nat.mul_assoc, Nat.mul_comm 2]
  · have e : g = 0 := by omega
    subst e
    unfold mg
    rw [if_pos (by omega)]; simp

/-- The number 'mag * 2 ^ place' against a rung, in units of the lesser place. -/
def leRung (f : Ieee.Format) (mag : Nat) (place : Int) (r : Nat) : Prop := mag * 2 ^ (place - f.leastPlace).toNat ≤ mg f r * 2 ^ (f.leastPlace - place).toNat
def geRung (f : Ieee.Format) (mag : Nat) (place : Int) (r : Nat) : Prop := mg f r * 2 ^ (f.leastPlace - place).toNat ≤ mag * 2 ^ (place - f.leastPlace).toNat

/-- What is written, before it is cut at infinity: a kept part K at place g, with K 2^g near the number. -/
theorem nearest_shape (f : Ieee.Format) (neg : Bool) (mag : Nat) (place : Int) (h0 : mag ≠ 0) :
    ∃ g K low rest gap up : Nat, f.nearest neg mag place = f.word neg (min (g * f.binade + K) f.infRung) ∧ (g = 0 ∨ f.binade ≤ low) ∧ low < 2 * f.binade ∧ K = low + up ∧ up ≤ 1 ∧
      mag * 2 ^ (place - f.leastPlace).toNat = (low * gap + rest) * 2 ^ (g + (f.leastPlace - place).toNat - gap.log2) ∧ rest < gap ∧ gap = 2 ^ gap.log2 ∧ gap.log2 ≤ g + (f.leastPlace - place).toNat ∧ (up = 1 → 0 < rest) := by
  have hb := binade_pos f
  have hL1 : 2 ^ mag.log2 ≤ mag := Nat.log2_self_le h0
  have hL2 : mag < 2 ^ (mag.log2 + 1) := Nat.lt_log2_self
  have hbe : f.binade = 2 ^ f.fractionBits := rfl
  unfold Ieee.Format.nearest
  rw [if_neg h0]
  dsimp only
  generalize hl : max (place + (mag.log2 : Int) - f.fractionBits) f.leastPlace = last
  by_cases hp : last ≤ place
  · -- nothing is dropped
    have e1 : (last - place).toNat = 0 := by omega
    rw [e1, cut_zero, Nat.shiftLeft_eq]
    refine ⟨(last - f.leastPlace).toNat, mag * 2 ^ (place - last).toNat, mag * 2 ^ (place - last).toNat, 0, 1, 0, rfl, ?_, ?_, by omega, by omega, ?_, by omega, by decide, by rw [show Nat.log2 1 = 0 from by decide]; exact Nat.zero_le _, by omega⟩
    · by_cases hg : last = f.leastPlace
      · left; omega
      · right
        have e2 : last = place + (mag.log2 : Int) - f.fractionBits := by omega
        have e3 : (place - last).toNat = f.fractionBits - mag.log2 := by omega
        rw [e3, hbe]; exact (shl_lt_of_log2 rfl (by omega) h0).1
    · have e3 : (place - last).toNat ≤ f.fractionBits - mag.log2 := by omega
      have e4 : mag.log2 ≤ f.fractionBits := by omega
      rw [hbe]
      have h5 := (shl_lt_of_log2 (fb := f.fractionBits) rfl e4 h0).2
      have h6 : mag * 2 ^ (place - last).toNat ≤ mag * 2 ^ (f.fractionBits - mag.log2) := Nat.mul_le_mul_left _ (Nat.pow_le_pow_right (by decide) e3)
      omega
    · have e5 : Nat.log2 1 = 0 := by decide
      rw [e5]
      have e6 : (place - f.leastPlace).toNat = (place - last).toNat + ((last - f.leastPlace).toNat + (f.leastPlace - place).toNat - 0) := by omega
      rw [e6, Nat.pow_add, ← Nat.mul_assoc]; simp
  · -- 'drop' digits go
    have e1 : (place - last).toNat = 0 := by omega
    rw [e1, Nat.shiftLeft_zero, cut_even]
    generalize hdd : (last - place).toNat = d
    have hpd : 0 < 2 ^ d := Nat.two_pow_pos _
    have hlog : (2 ^ d).log2 = d := Nat.log2_two_pow
    refine ⟨(last - f.leastPlace).toNat, _, mag / 2 ^ d, mag % 2 ^ d, 2 ^ d, _, rfl, ?_, ?_, rfl, by split <;> omega, ?_, Nat.mod_lt _ hpd, by rw [hlog], by rw [hlog]; omega, ?_⟩
    · by_cases hg : last = f.leastPlace
      · left; omega
      · right
        have e2 : last = place + (mag.log2 : Int) - f.fractionBits := by omega
        have e3 : mag.log2 = f.fractionBits + d := by omega
        rw [hbe]
        rw [Nat.le_div_iff_mul_le hpd, ← Nat.pow_add, ← e3]; exact hL1
    · have e3 : mag.log2 ≤ f.fractionBits + d := by omega
      rw [hbe, Nat.div_lt_iff_lt_mul hpd]
      have h7 : 2 ^ (mag.log2 + 1) ≤ 2 ^ (f.fractionBits + d + 1) := Nat.pow_le_pow_right (by decide) (by omega)
      have h8 : 2 ^ (f.fractionBits + d + 1) = 2 * 2 ^ f.fractionBits * 2 ^ d := by rw [Nat.pow_succ, Nat.pow_add, Nat.mul_comm, Nat.mul_assoc]
      omega
    · rw [hlog]
      have e9 : mag / 2 ^ d * 2 ^ d + mag % 2 ^ d = mag := by rw [Nat.mul_comm]; exact Nat.div_add_mod mag (2 ^ d)
      rw [e9]
      congr 2; omega
    · intro h
      split at h
      · rename_i hc
        rcases hc with hc | hc <;> omega
      · omega

theorem log_pow_split {gap a : Nat} (h1 : gap = 2 ^ gap.log2) (h2 : gap.log2 ≤ a) : 2 ^ a = gap * 2 ^ (a - gap.log2) := by
  have e : a = gap.log2 + (a - gap.log2) := by omega
  calc 2 ^ a = 2 ^ (gap.log2 + (a - gap.log2)) := congrArg _ e
    _ = 2 ^ gap.log2 * 2 ^ (a - gap.log2) := Nat.pow_add _ _ _
    _ = gap * 2 ^ (a - gap.log2) := by rw [← h1]

/-- A number that is not above a rung is written at most there. -/
theorem nearest_le (f : Ieee.Format) (neg : Bool) (mag : Nat) (place : Int) (r : Nat) (h : leRung f mag place r) :
    ∃ q, f.nearest neg mag place = f.word neg q ∧ q ≤ r ∧ q ≤ f.infRung := by
  by_cases h0 : mag = 0
  · exact ⟨0, by unfold Ieee.Format.nearest; rw [if_pos h0], Nat.zero_le _, Nat.zero_le _⟩
  obtain ⟨g, K, low, rest, gap, up, e1, e2, e3, e4, e5, e6, e7, e8, e9, e10⟩ := nearest_shape f neg mag place h0
  refine ⟨_, e1, ?_, Nat.min_le_right _ _⟩
  refine Nat.le_trans (Nat.min_le_left _ _) ?_
  rcases Nat.lt_or_ge r (g * f.binade + K) with hlt | hge
  · exfalso
    unfold leRung at h
    rw [e6] at h
    have hpos : 0 < 2 ^ (g + (f.leastPlace - place).toNat - gap.log2) := Nat.two_pow_pos _
    have hgp : 0 < gap := by omega
    have hs := log_pow_split e8 e9
    rw [Nat.pow_add] at hs
    have hb := binade_pos f
    -- the rung below
    have hm : ∀ M : Nat, mg f r ≤ M * 2 ^ g → low * gap + rest ≤ M * gap := by
      intro M hM
      have h2 : mg f r * 2 ^ (f.leastPlace - place).toNat ≤ M * 2 ^ g * 2 ^ (f.leastPlace - place).toNat := Nat.mul_le_mul_right _ hM
      rw [Nat.mul_assoc, hs, ← Nat.mul_assoc] at h2
      exact Nat.le_of_mul_le_mul_right (Nat.le_trans h h2) hpos
    by_cases hup : up = 1
    · have hr := e10 hup
      have hM : mg f r ≤ low * 2 ^ g := by
        rw [← mg_form f g low e2 (by omega)]
        rcases Nat.lt_or_eq_of_le (show r ≤ g * f.binade + low by omega) with h3 | h3
        · exact Nat.le_of_lt (mg_lt f h3)
        · rw [h3]; exact Nat.le_refl _
      have := hm low hM
      omega
    · have hK : K = low := by omega
      have hM : mg f r < low * 2 ^ g := by
        rw [← mg_form f g low e2 (by omega), ← hK]; exact mg_lt f hlt
      have h2 : mg f r * 2 ^ (f.leastPlace - place).toNat < low * 2 ^ g * 2 ^ (f.leastPlace - place).toNat := Nat.mul_lt_mul_of_pos_right hM (Nat.two_pow_pos _)
      rw [Nat.mul_assoc, hs, ← Nat.mul_assoc] at h2
      have h3 := Nat.lt_of_mul_lt_mul_right (Nat.lt_of_le_of_lt h h2)
      omega
  · exact hge

/-- A number that is not below a rung is written there at least. -/
theorem nearest_ge (f : Ieee.Format) (neg : Bool) (mag : Nat) (place : Int) (r : Nat) (hr : r ≤ f.infRung) (h : geRung f mag place r) :
    ∃ q, f.nearest neg mag place = f.word neg q ∧ r ≤ q ∧ q ≤ f.infRung := by
  by_cases h0 : mag = 0
  · refine ⟨0, by unfold Ieee.Format.nearest; rw [if_pos h0], ?_, Nat.zero_le _⟩
    unfold geRung at h
    rw [h0, Nat.zero_mul] at h
    have h1 : mg f r = 0 := by
      rcases Nat.mul_eq_zero.1 (Nat.le_zero.1 h) with h1 | h1
      · exact h1
      · have := Nat.two_pow_pos (f.leastPlace - place).toNat; omega
    rcases Nat.eq_zero_or_pos r with h2 | h2
    · omega
    · have := mg_lt f h2; omega
  obtain ⟨g, K, low, rest, gap, up, e1, e2, e3, e4, e5, e6, e7, e8, e9, e10⟩ := nearest_shape f neg mag place h0
  refine ⟨_, e1, ?_, Nat.min_le_right _ _⟩
  refine Nat.le_min.2 ⟨?_, hr⟩
  rcases Nat.lt_or_ge (g * f.binade + K) r with hlt | hge
  · exfalso
    unfold geRung at h
    rw [e6] at h
    have hs := log_pow_split e8 e9
    rw [Nat.pow_add] at hs
    have hb := binade_pos f
    have hM : (low + 1) * 2 ^ g ≤ mg f r := by
      rw [← mg_form f g (low + 1) (by omega) (by omega)]
      rcases Nat.lt_or_eq_of_le (show g * f.binade + (low + 1) ≤ r by omega) with h3 | h3
      · exact Nat.le_of_lt (mg_lt f h3)
      · rw [h3]; exact Nat.le_refl _
    have h2 : (low + 1) * 2 ^ g * 2 ^ (f.leastPlace - place).toNat ≤ mg f r * 2 ^ (f.leastPlace - place).toNat := Nat.mul_le_mul_right _ hM
    rw [Nat.mul_assoc, hs, ← Nat.mul_assoc] at h2
    have h3 := Nat.le_of_mul_le_mul_right (Nat.le_trans h2 h) (Nat.two_pow_pos _)
    rw [Nat.add_mul] at h3
    omega
  · exact hge

/-! ### how great a result may be -/
def pr (f : Ieee.Format) (c : Nat) : Nat := if c < f.fractionBits then 2 ^ c else (c - f.fractionBits) * f.binade + f.binade
theorem mg_pr (f : Ieee.Format) (c : Nat) : mg f (pr f c) = 2 ^ c := by
  have hb := binade_pos f
  unfold pr
  split
  · rename_i h
    unfold mg
    have hlt : 2 ^ c < f.binade := Nat.pow_lt_pow_right (by decide : 1 < 2) h
    rw [if_pos hlt]
  · rename_i h
    rw [mg_normal f _ _ (Nat.le_refl _) (by omega)]
    show 2 ^ f.fractionBits * 2 ^ (c - f.fractionBits) = 2 ^ c
    rw [← Nat.pow_add]; congr 1; omega
def LL (f : Ieee.Format) : Nat := (-f.leastPlace).toNat
theorem lp_neg (k : FloatKind) : k.format.leastPlace = -(LL k.format : Int) := by cases k <;> decide +kernel

/-- At most 2^c units, and finite (or no number). -/
def Bd (k : FloatKind) (c : Nat) (x : Nat) : Prop := isN k x = true ∨ (rung k.format x < k.format.infRung ∧ mg k.format (rung k.format x) ≤ 2 ^ c)
theorem Bd_pick {k : FloatKind} {c v n : Nat} (h : Bd k c v) : Bd k c (pick k v n) := by
  cases hn : isN k v
  · rw [pick_not hn]; exact h
  · exact .inl (by rw [isN_pick]; exact hn)
theorem Bd_mono {k : FloatKind} {c d x : Nat} (h : Bd k c x) (hd : c ≤ d) : Bd k d x := by
  rcases h with h | ⟨h1, h2⟩
  · exact .inl h
  · exact .inr ⟨h1, Nat.le_trans h2 (Nat.pow_le_pow_right (by decide) hd)⟩

theorem Bd_nearest {k : FloatKind} {c : Nat} (hc : pr k.format c < k.format.infRung) (s : Bool) (m : Nat) (e : Int) (h : leRung k.format m e (pr k.format c)) : Bd k c (k.format.nearest s m e) := by
  obtain ⟨q, e1, e2, e3⟩ := nearest_le k.format s m e _ h
  have hl := k.format.infRung_lt
  have hw := (word_signs k.format s q (by omega)).2
  rw [e1]
  refine .inr ⟨by rw [hw]; omega, ?_⟩
  rw [hw, ← mg_pr]
  rcases Nat.lt_or_eq_of_le e2 with h3 | h3
  · exact Nat.le_of_lt (mg_lt _ h3)
  · rw [h3]; exact Nat.le_refl _

theorem notN_fin {k : FloatKind} {x : Nat} (h : rung k.format x < k.format.infRung) : isN k x = false := by rw [isN_rung']; exact decide_eq_false (by omega)

theorem Bd_mul {k : FloatKind} {a b c x y : Nat} (hx : Bd k a x) (hy : Bd k b y) (h : a + b ≤ c + LL k.format) (hc : pr k.format c < k.format.infRung) : Bd k c (fop .mul k x y) := by
  rcases hx with hx | ⟨hx1, hx2⟩
  · exact .inl (by unfold fop; rw [bits_nan_l _ hx]; exact isN_qn k)
  rcases hy with hy | ⟨hy1, hy2⟩
  · exact .inl (by unfold fop; rw [bits_nan_r _ hy]; exact isN_qn k)
  obtain ⟨m, i, r1, r2, r3⟩ := read_fin k.format x hx1
  obtain ⟨n, j, s1, s2, s3⟩ := read_fin k.format y hy1
  have e : fop .mul k x y = k.format.nearest (sgn k.format x ^^ sgn k.format y) (m * n) (i + j) := by
    unfold fop floatBits Ieee.Format.mul
    simp only [r1, s1, Ieee.Datum.product]; rfl
  rw [e]
  refine Bd_nearest hc _ _ _ ?_
  unfold leRung
  rw [mg_pr]
  rw [← r3] at hx2
  rw [← s3] at hy2
  have hlp := lp_neg k
  generalize k.format.leastPlace = lp at *
  generalize LL k.format = L at *
  have h1 : m * 2 ^ (i - lp).toNat * (n * 2 ^ (j - lp).toNat) ≤ 2 ^ a * 2 ^ b := Nat.mul_le_mul hx2 hy2
  have h2 : 2 ^ a * 2 ^ b ≤ 2 ^ c * 2 ^ L := by rw [← Nat.pow_add, ← Nat.pow_add]; exact Nat.pow_le_pow_right (by decide) h
  have h3 : m * 2 ^ (i - lp).toNat * (n * 2 ^ (j - lp).toNat) = m * n * 2 ^ ((i - lp).toNat + (j - lp).toNat) := by
    rw [Nat.pow_add]; simp only [Nat.mul_assoc, Nat.mul_left_comm]
  rw [h3] at h1
  have h4 := Nat.le_trans h1 h2
  by_cases hp : lp ≤ i + j
  · have e1 : (i - lp).toNat + (j - lp).toNat = (i + j - lp).toNat + L := by omega
    have e2 : (lp - (i + j)).toNat = 0 := by omega
    rw [e1, Nat.pow_add, ← Nat.mul_assoc] at h4
    rw [e2, Nat.pow_zero, Nat.mul_one]
    exact Nat.le_of_mul_le_mul_right h4 (Nat.two_pow_pos _)
  · have e1 : (i + j - lp).toNat = 0 := by omega
    have e2 : L = (lp - (i + j)).toNat + ((i - lp).toNat + (j - lp).toNat) := by omega
    rw [e2, Nat.pow_add 2 (lp - (i + j)).toNat, ← Nat.mul_assoc (2 ^ c)] at h4
    rw [e1, Nat.pow_zero, Nat.mul_one]
    exact Nat.le_of_mul_le_mul_right h4 (Nat.two_pow_pos _)

theorem signed_abs (s : Bool) (m d : Nat) : (Ieee.signed s m d).natAbs = m * 2 ^ d := by
  rw [signed_eq]; split <;> omega

theorem Bd_sum {k : FloatKind} {a : Nat} {s t : Bool} {m n : Nat} {i j : Int} (hi : k.format.leastPlace ≤ i) (hj : k.format.leastPlace ≤ j)
    (h1 : m * 2 ^ (i - k.format.leastPlace).toNat ≤ 2 ^ a) (h2 : n * 2 ^ (j - k.format.leastPlace).toNat ≤ 2 ^ a) (hc : pr k.format (a + 1) < k.format.infRung) :
    Bd k (a + 1) (((Ieee.Datum.sum (.number s m i) (.number t n j)).map k.format.write).getD (qn k)) := by
  simp only [Ieee.Datum.sum, Option.map_some, Option.getD_some, Ieee.Format.write]
  refine Bd_nearest hc _ _ _ ?_
  unfold leRung
  rw [mg_pr]
  generalize k.format.leastPlace = lp at *
  have e2 : (lp - min i j).toNat = 0 := by omega
  rw [e2, Nat.pow_zero, Nat.mul_one]
  have h3 : (Ieee.signed s m (i - min i j).toNat + Ieee.signed t n (j - min i j).toNat).natAbs ≤ m * 2 ^ (i - min i j).toNat + n * 2 ^ (j - min i j).toNat := by
    have := Int.natAbs_add_le (Ieee.signed s m (i - min i j).toNat) (Ieee.signed t n (j - min i j).toNat)
    rwa [signed_abs, signed_abs] at this
  have h4 := Nat.mul_le_mul_right (2 ^ (min i j - lp).toNat) h3
  rw [Nat.add_mul, Nat.mul_assoc, Nat.mul_assoc, ← Nat.pow_add, ← Nat.pow_add] at h4
  have e3 : (i - min i j).toNat + (min i j - lp).toNat = (i - lp).toNat := by omega
  have e4 : (j - min i j).toNat + (min i j - lp).toNat = (j - lp).toNat := by omega
  rw [e3, e4] at h4
  rw [Nat.pow_succ]
  omega

theorem Bd_add {k : FloatKind} {a x y : Nat} (hx : Bd k a x) (hy : Bd k a y) (hc : pr k.format (a + 1) < k.format.infRung) : Bd k (a + 1) (fop .add k x y) := by
  rcases hx with hx | ⟨hx1, hx2⟩
  · exact .inl (by unfold fop; rw [bits_nan_l _ hx]; exact isN_qn k)
  rcases hy with hy | ⟨hy1, hy2⟩
  · exact .inl (by unfold fop; rw [bits_nan_r _ hy]; exact isN_qn k)
  obtain ⟨m, i, r1, r2, r3⟩ := read_fin k.format x hx1
  obtain ⟨n, j, s1, s2, s3⟩ := read_fin k.format y hy1
  unfold fop floatBits Ieee.Format.add
  simp only [r1, s1]
  exact Bd_sum r2 s2 (by rw [r3]; exact hx2) (by rw [s3]; exact hy2) hc

theorem Bd_sub {k : FloatKind} {a x y : Nat} (hx : Bd k a x) (hy : Bd k a y) (hc : pr k.format (a + 1) < k.format.infRung) : Bd k (a + 1) (fop .sub k x y) := by
  rcases hx with hx | ⟨hx1, hx2⟩
  · exact .inl (by unfold fop; rw [bits_nan_l _ hx]; exact isN_qn k)
  rcases hy with hy | ⟨hy1, hy2⟩
  · exact .inl (by unfold fop; rw [bits_nan_r _ hy]; exact isN_qn k)
  obtain ⟨m, i, r1, r2, r3⟩ := read_fin k.format x hx1
  obtain ⟨n, j, s1, s2, s3⟩ := read_fin k.format y hy1
  unfold fop floatBits Ieee.Format.sub
  simp only [r1, s1, Ieee.Datum.opposite]
  exact Bd_sum r2 s2 (by rw [r3]; exact hx2) (by rw [s3]; exact hy2) hc

/-- At least 2^b units. -/
def Lb (k : FloatKind) (b : Nat) (y : Nat) : Prop := rung k.format y < k.format.infRung ∧ 2 ^ b ≤ mg k.format (rung k.format y)

theorem quo_bound (d n T : Nat) (hn : 0 < n) (h : d ≤ n * T) : 2 * (d / n) + (d % n != 0).toNat ≤ 2 * T := by
  have h1 : d / n ≤ T := by
    have := Nat.div_le_div_right (c := n) h
    rwa [Nat.mul_div_cancel_left _ hn] at this
  by_cases h2 : d / n = T
  · have h3 := Nat.div_add_mod d n
    rw [h2] at h3
    have h4 : d % n = 0 := by omega
    rw [h4, h2]; simp
  · have : (d % n != 0).toNat ≤ 1 := Bool.toNat_le _
    omega

theorem Bd_quo {k : FloatKind} {a b c x y : Nat} (hx : Bd k a x) (hy : Lb k b y) (h : a + LL k.format ≤ b + c) (hc : pr k.format c < k.format.infRung) : Bd k c (fop .quo k x y) := by
  rcases hx with hx | ⟨hx1, hx2⟩
  · exact .inl (by unfold fop; rw [bits_nan_l _ hx]; exact isN_qn k)
  obtain ⟨hy1, hy2⟩ := hy
  obtain ⟨m, i, r1, r2, r3⟩ := read_fin k.format x hx1
  obtain ⟨n, j, s1, s2, s3⟩ := read_fin k.format y hy1
  have hn : n ≠ 0 := by
    rintro rfl
    rw [← s3, Nat.zero_mul] at hy2
    have := Nat.two_pow_pos b; omega
  have e : fop .quo k x y = k.format.nearest (sgn k.format x ^^ sgn k.format y)
      (2 * ((m <<< (k.format.fractionBits + 2 + n.log2 - m.log2)) / n) + ((m <<< (k.format.fractionBits + 2 + n.log2 - m.log2)) % n != 0).toNat) (i - j - (k.format.fractionBits + 2 + n.log2 - m.log2 : Nat) - 1) := by
    unfold fop floatBits Ieee.Format.div
    simp only [r1, s1, Ieee.Datum.quotient, if_neg hn]; rfl
  rw [e]
  refine Bd_nearest hc _ _ _ ?_
  generalize hmo : k.format.fractionBits + 2 + n.log2 - m.log2 = more
  unfold leRung
  rw [mg_pr, Nat.shiftLeft_eq]
  rw [← r3] at hx2
  rw [← s3] at hy2
  by_cases hm : m = 0
  · subst hm; simp
  have hq : n ≤ m * 2 ^ more := by
    have h1 : 2 ^ m.log2 ≤ m := Nat.log2_self_le hm
    have h2 : n < 2 ^ (n.log2 + 1) := Nat.lt_log2_self
    have h3 : 2 ^ m.log2 * 2 ^ more ≤ m * 2 ^ more := Nat.mul_le_mul_right _ h1
    rw [← Nat.pow_add] at h3
    have h4 : 2 ^ (n.log2 + 1) ≤ 2 ^ (m.log2 + more) := Nat.pow_le_pow_right (by decide) (by omega)
    omega
  have hlp := lp_neg k
  generalize k.format.leastPlace = lp at *
  generalize LL k.format = L at *
  -- m 2^(A + L) ≤ n 2^(B + c)
  have star : m * 2 ^ ((i - lp).toNat + L) ≤ n * 2 ^ ((j - lp).toNat + c) := by
    have h1 : m * 2 ^ (i - lp).toNat * (2 ^ L * 2 ^ b) ≤ 2 ^ a * (2 ^ L * 2 ^ b) := Nat.mul_le_mul_right _ hx2
    have h2 : 2 ^ a * (2 ^ L * 2 ^ b) ≤ 2 ^ b * 2 ^ c * 2 ^ b := by
      rw [← Nat.mul_assoc, ← Nat.pow_add, ← Nat.pow_add 2 b c]
      exact Nat.mul_le_mul_right _ (Nat.pow_le_pow_right (by decide) h)
    have h3 : 2 ^ b * 2 ^ c * 2 ^ b ≤ n * 2 ^ (j - lp).toNat * 2 ^ c * 2 ^ b := Nat.mul_le_mul_right _ (Nat.mul_le_mul_right _ hy2)
    have h4 := Nat.le_trans h1 (Nat.le_trans h2 h3)
    rw [← Nat.mul_assoc] at h4
    have h5 := Nat.le_of_mul_le_mul_right h4 (Nat.two_pow_pos _)
    rw [Nat.pow_add, Nat.pow_add, ← Nat.mul_assoc, ← Nat.mul_assoc]; exact h5
  by_cases hP : (j - lp).toNat + more + 1 ≤ (i - lp).toNat + L
  · -- the place is not below
    have e1 : (lp - (i - j - (more : Int) - 1)).toNat = 0 := by omega
    rw [e1, Nat.pow_zero, Nat.mul_one]
    generalize hPP : (i - j - (more : Int) - 1 - lp).toNat = PP
    have e2 : (i - lp).toNat + L = (more + (PP + 1)) + (j - lp).toNat := by omega
    rw [e2, Nat.pow_add 2 (more + (PP + 1)), Nat.add_comm (j - lp).toNat c, Nat.pow_add 2 c, ← Nat.mul_assoc, ← Nat.mul_assoc] at star
    have s1 := Nat.le_of_mul_le_mul_right star (Nat.two_pow_pos _)
    rw [Nat.pow_add, ← Nat.mul_assoc] at s1
    -- PP + 1 ≤ c
    have hpc : PP + 1 ≤ c := by
      have h1 : n * 2 ^ (PP + 1) ≤ n * 2 ^ c := Nat.le_trans (Nat.mul_le_mul_right _ hq) s1
      have h2 := Nat.le_of_mul_le_mul_left h1 (by omega)
      exact (Nat.pow_le_pow_iff_right (by decide)).1 h2
    have s2 : m * 2 ^ more ≤ n * 2 ^ (c - (PP + 1)) := by
      have e3 : c = (c - (PP + 1)) + (PP + 1) := by omega
      rw [e3, Nat.pow_add 2 (c - (PP + 1)), ← Nat.mul_assoc] at s1
      exact Nat.le_of_mul_le_mul_right s1 (Nat.two_pow_pos _)
    have h6 : 2 ^ c = 2 * 2 ^ (c - (PP + 1)) * 2 ^ PP := by
      have e3 : c = ((c - (PP + 1)) + 1) + PP := by omega
      have e4 : 2 ^ c = 2 ^ (((c - (PP + 1)) + 1) + PP) := congrArg _ e3
      rw [e4, Nat.pow_add, Nat.pow_succ, Nat.mul_comm _ 2]
    rw [h6]
    refine Nat.mul_le_mul_right _ ?_
    generalize 2 ^ (c - (PP + 1)) = T at *
    exact quo_bound _ _ _ (by omega) s2
  · have e1 : (i - j - (more : Int) - 1 - lp).toNat = 0 := by omega
    rw [e1, Nat.pow_zero, Nat.mul_one]
    generalize hN : (j - lp).toNat + more - ((i - lp).toNat + L) = N
    have e2 : (lp - (i - j - (more : Int) - 1)).toNat = N + 1 := by omega
    rw [e2]
    have s1 : m * 2 ^ more ≤ n * 2 ^ (c + N) := by
      have h1 := Nat.mul_le_mul_right (2 ^ N) star
      rw [Nat.mul_assoc, ← Nat.pow_add, Nat.mul_assoc, ← Nat.pow_add] at h1
      have e3 : (i - lp).toNat + L + N = more + (j - lp).toNat := by omega
      have e4 : (j - lp).toNat + c + N = (c + N) + (j - lp).toNat := by omega
      rw [e3, e4, Nat.pow_add, Nat.pow_add 2 (c + N), ← Nat.mul_assoc, ← Nat.mul_assoc] at h1
      exact Nat.le_of_mul_le_mul_right h1 (Nat.two_pow_pos _)
    have h6 : 2 ^ c * 2 ^ (N + 1) = 2 * 2 ^ (c + N) := by rw [Nat.pow_succ, Nat.pow_add, Nat.mul_comm 2, Nat.mul_assoc]
    rw [h6]
    generalize 2 ^ (c + N) = T at *
    exact quo_bound _ _ _ (by omega) s1

/-! ### narrowing without overflow -/
theorem Fits_of_Bd {x : Nat} (h : Bd .f64 1201 x) : Fits x := by
  rcases h with h | ⟨h1, h2⟩
  · exact .inl h
  right
  obtain ⟨m, e, r1, r2, r3⟩ := read_fin FloatKind.f64.format x h1
  rw [← r3] at h2
  have d1 : FloatKind.f64.format.leastPlace = -1074 := by decide +kernel
  have d2 : Ieee.single.leastPlace = -149 := by decide +kernel
  have d3 : pr Ieee.single 276 < Ieee.single.infRung := by decide +kernel
  rw [d1] at h2 r2
  have hle : leRung Ieee.single m e (pr Ieee.single 276) := by
    unfold leRung
    rw [mg_pr, d2]
    have hpow : (2 : Nat) ^ 1201 = 2 ^ 276 * 2 ^ 925 := by rw [← Nat.pow_add]
    rw [hpow] at h2
    by_cases hp : -149 ≤ e
    · have e1 : (e - -1074).toNat = (e - -149).toNat + 925 := by omega
      have e2 : (-149 - e).toNat = 0 := by omega
      rw [e1, Nat.pow_add, ← Nat.mul_assoc] at h2
      rw [e2, Nat.pow_zero, Nat.mul_one]
      exact Nat.le_of_mul_le_mul_right h2 (Nat.two_pow_pos _)
    · have e1 : (e - -149).toNat = 0 := by omega
      have e2 : 925 = (-149 - e).toNat + (e - -1074).toNat := by omega
      have e3 : (2 : Nat) ^ 925 = 2 ^ (-149 - e).toNat * 2 ^ (e - -1074).toNat := by
        rw [← Nat.pow_add]; exact congrArg _ e2
      rw [e3, ← Nat.mul_assoc] at h2
      rw [e1, Nat.pow_zero, Nat.mul_one]
      exact Nat.le_of_mul_le_mul_right h2 (Nat.two_pow_pos _)
  obtain ⟨q, q1, q2, q3⟩ := nearest_le Ieee.single (sgn FloatKind.f64.format x) m e _ hle
  unfold floatToFloatBits
  rw [if_neg (by decide)]
  have e' : FloatKind.f64.decode x = .number (sgn FloatKind.f64.format x) m e := r1
  rw [e']
  dsimp only
  have e'' : FloatKind.f32.encode (.number (sgn FloatKind.f64.format x) m e) = Ieee.single.word (sgn FloatKind.f64.format x) q := q1
  rw [e'']
  have hl := Ieee.single.infRung_lt
  have hw : rung Ieee.single (Ieee.single.word (sgn FloatKind.f64.format x) q) = q := (word_signs Ieee.single _ q (by omega)).2
  have hi := isInf_rung .f32 (Ieee.single.word (sgn FloatKind.f64.format x) q)
  have hf : FloatKind.f32.format = Ieee.single := rfl
  rw [hf, hw, decide_eq_false (by omega)] at hi
  have hi' : (FloatKind.f32.decode (Ieee.single.word (sgn FloatKind.f64.format x) q)).isInfinity = false := hi
  rw [hi']
  rfl

/-! ### the integer that is left when the places behind the point are cut off -/
theorem cut_zero_way (s : Bool) (n d : Nat) : Ieee.Toward.zero.cut s n d = n / 2 ^ d := by
  unfold Ieee.Toward.cut
  dsimp only
  simp only [Bool.toNat_false, Nat.add_zero, Nat.one_shiftLeft]
  by_cases hd : d ≤ n.log2 + 2
  · rw [Nat.min_eq_left hd]
  · rw [Nat.min_eq_right (by omega)]
    have h1 : n < 2 ^ (n.log2 + 1) := Nat.lt_log2_self
    have h2 : 2 ^ (n.log2 + 2) = 2 * 2 ^ (n.log2 + 1) := by rw [Nat.pow_succ, Nat.mul_comm]
    have h3 : 2 ^ (n.log2 + 2) ≤ 2 ^ d := Nat.pow_le_pow_right (by decide) (by omega)
    rw [Nat.div_eq_of_lt (by omega), Nat.div_eq_of_lt (by omega)]

/-- The magnitude, cut to a whole number of ones. -/
def whole (x : Nat) : Nat := mg Ieee.double (rung Ieee.double x) / 2 ^ 1074
def ti (x : Nat) : Int := if sgn Ieee.double x then -(whole x : Int) else whole x

theorem toInt_ti {x : Nat} (h : rung Ieee.double x < Ieee.double.infRung) : (FloatKind.f64.decode x).toInt .zero = some (ti x) := by
  obtain ⟨m, e, r1, r2, r3⟩ := read_fin Ieee.double x h
  have d1 : Ieee.double.leastPlace = -1074 := by decide +kernel
  rw [d1] at r2 r3
  have e' : FloatKind.f64.decode x = .number (sgn Ieee.double x) m e := r1
  rw [e']
  simp only [Ieee.Datum.toInt, Ieee.Datum.integral]
  have hw : Ieee.Toward.zero.cut (sgn Ieee.double x) (m <<< e.toNat) (-e).toNat = whole x := by
    rw [cut_zero_way, Nat.shiftLeft_eq]
    unfold whole
    rw [← r3]
    by_cases hp : 0 ≤ e
    · have e1 : (-e).toNat = 0 := by omega
      have e2 : (e - -1074).toNat = e.toNat + 1074 := by omega
      rw [e1, e2, Nat.pow_zero, Nat.div_one, Nat.pow_add, ← Nat.mul_assoc, Nat.mul_div_cancel _ (Nat.two_pow_pos _)]
    · have e1 : e.toNat = 0 := by omega
      rw [e1, Nat.pow_zero, Nat.mul_one]
      have e2 : 1074 = (e - -1074).toNat + (-e).toNat := by omega
      have e3 : (2 : Nat) ^ 1074 = 2 ^ (e - -1074).toNat * 2 ^ (-e).toNat := by rw [← Nat.pow_add]; exact congrArg _ e2
      rw [e3, Nat.mul_comm m, Nat.mul_div_mul_left _ _ (Nat.two_pow_pos _)]
  rw [hw, signed_eq]
  unfold ti
  simp

theorem whole_lt {x c : Nat} (h : mg Ieee.double (rung Ieee.double x) < 2 ^ (c + 1074)) : whole x < 2 ^ c := by
  unfold whole
  rw [Nat.div_lt_iff_lt_mul (Nat.two_pow_pos _), ← Nat.pow_add]; exact h

theorem toInt64 {x : Nat} (h : rung Ieee.double x < Ieee.double.infRung) (hw : whole x < 2 ^ 53) : floatToIntVal .f64 x .i64 = some (ti x) := by
  unfold floatToIntVal
  rw [toInt_ti h]
  dsimp only
  have h1 : IntKind.i64.min = -9223372036854775808 := by decide
  have h2 : IntKind.i64.max = 9223372036854775807 := by decide
  have h3 : (2 : Nat) ^ 53 = 9007199254740992 := by decide
  rw [h3] at hw
  rw [if_pos]
  rw [h1, h2]; unfold ti; split <;> omega

theorem ofInt_read {t : Int} (ht : t.natAbs < 2 ^ 53) : rung Ieee.double (floatOfInt .f64 t) < Ieee.double.infRung ∧ mg Ieee.double (rung Ieee.double (floatOfInt .f64 t)) = t.natAbs * 2 ^ 1074 ∧ sgn Ieee.double (floatOfInt .f64 t) = decide (t < 0) := by
  have d1 : Ieee.double.leastPlace = -1074 := by decide +kernel
  have d2 : Ieee.double.fractionBits = 52 := rfl
  have d3 : Ieee.double.infRung = 9218868437227405312 := by decide +kernel
  have d4 : Ieee.double.binade = 4503599627370496 := by decide +kernel
  have hl := Ieee.double.infRung_lt
  have ef : floatOfInt .f64 t = Ieee.double.nearest (decide (t < 0)) t.natAbs 0 := rfl
  rw [ef]
  by_cases h0 : t.natAbs = 0
  · have e1 : Ieee.double.nearest (decide (t < 0)) t.natAbs 0 = Ieee.double.word (decide (t < 0)) 0 := by unfold Ieee.Format.nearest; rw [if_pos h0]
    obtain ⟨w1, w2⟩ := word_signs Ieee.double (decide (t < 0)) 0 (by omega)
    rw [e1, w1, w2, h0]
    refine ⟨by rw [d3]; decide, by simp [mg, d4], rfl⟩
  · have hL : t.natAbs.log2 < 53 := (Nat.log2_lt h0).2 ht
    have hk := shl_lt_of_log2 (m := t.natAbs) (fb := 52) rfl (by omega) h0
    obtain ⟨r, r1, r2, r3⟩ := nearest_exact Ieee.double (decide (t < 0)) t.natAbs 0 h0 (by rw [d2]; omega) (by rw [d1, d2]; omega) (by
      rw [d1, d2, d3, d4]
      have : (0 + (t.natAbs.log2 : Int) - (52 : Nat) - (-1074)).toNat ≤ 1074 := by omega
      have h6 : (0 + (t.natAbs.log2 : Int) - (52 : Nat) - (-1074)).toNat * 4503599627370496 ≤ 1074 * 4503599627370496 := Nat.mul_le_mul_right _ this
      have h7 : t.natAbs * 2 ^ (52 - t.natAbs.log2) < 2 * 4503599627370496 := hk.2
      omega)
    obtain ⟨w1, w2⟩ := word_signs Ieee.double (decide (t < 0)) r (by omega)
    rw [r1, w1, w2]
    refine ⟨r2, ?_, rfl⟩
    rw [r3, d1]; rfl

/-- A number less its whole part lies within one. -/
theorem Bd_frac {x : Nat} (h : rung Ieee.double x < Ieee.double.infRung) (hw : whole x < 2 ^ 53) : Bd .f64 1074 (fop .sub .f64 x (floatOfInt .f64 (ti x))) := by
  have hta : (ti x).natAbs = whole x := by unfold ti; split <;> omega
  obtain ⟨o1, o2, o3⟩ := ofInt_read (t := ti x) (by rw [hta]; exact hw)
  rw [hta] at o2
  obtain ⟨m, i, r1, r2, r3⟩ := read_fin Ieee.double x h
  obtain ⟨n, j, s1, s2, s3⟩ := read_fin Ieee.double _ o1
  have hx : mg Ieee.double (rung Ieee.double x) = whole x * 2 ^ 1074 + mg Ieee.double (rung Ieee.double x) % 2 ^ 1074 := by
    unfold whole; rw [Nat.mul_comm]; exact (Nat.div_add_mod _ _).symm
  have hr : mg Ieee.double (rung Ieee.double x) % 2 ^ 1074 < 2 ^ 1074 := Nat.mod_lt _ (Nat.two_pow_pos _)
  generalize mg Ieee.double (rung Ieee.double x) % 2 ^ 1074 = rest at *
  rw [o2] at s3
  rw [hx] at r3
  have e1 : fop .sub .f64 x (floatOfInt .f64 (ti x)) = Ieee.double.write (.number
      (if Ieee.signed (sgn Ieee.double x) m (i - min i j).toNat + Ieee.signed (!sgn Ieee.double (floatOfInt .f64 (ti x))) n (j - min i j).toNat = 0 then sgn Ieee.double x && !sgn Ieee.double (floatOfInt .f64 (ti x)) else Ieee.signed (sgn Ieee.double x) m (i - min i j).toNat + Ieee.signed (!sgn Ieee.double (floatOfInt .f64 (ti x))) n (j - min i j).toNat < 0)
      (Ieee.signed (sgn Ieee.double x) m (i - min i j).toNat + Ieee.signed (!sgn Ieee.double (floatOfInt .f64 (ti x))) n (j - min i j).toNat).natAbs (min i j)) := by
    unfold fop floatBits Ieee.Format.sub
    have hf : FloatKind.f64.format = Ieee.double := rfl
    rw [hf]
    simp only [r1, s1, Ieee.Datum.opposite, Ieee.Datum.sum]; rfl
  rw [e1, o3]
  unfold Ieee.Format.write
  refine Bd_nearest (k := .f64) (by decide +kernel) _ _ _ ?_
  have hf : FloatKind.f64.format = Ieee.double := rfl
  unfold leRung
  rw [mg_pr, hf]
  generalize Ieee.double.leastPlace = lp at *
  have e2 : (lp - min i j).toNat = 0 := by omega
  rw [e2, Nat.pow_zero, Nat.mul_one]
  -- the two magnitudes, in units of the base
  have hb1 : m * 2 ^ (i - min i j).toNat * 2 ^ (min i j - lp).toNat = whole x * 2 ^ 1074 + rest := by
    rw [Nat.mul_assoc, ← Nat.pow_add, ← r3]; congr 2; omega
  have hb2 : n * 2 ^ (j - min i j).toNat * 2 ^ (min i j - lp).toNat = whole x * 2 ^ 1074 := by
    rw [Nat.mul_assoc, ← Nat.pow_add, ← s3]; congr 2; omega
  have hpos : 0 < 2 ^ (min i j - lp).toNat := Nat.two_pow_pos _
  have hge : n * 2 ^ (j - min i j).toNat ≤ m * 2 ^ (i - min i j).toNat := by
    apply Nat.le_of_mul_le_mul_right _ hpos
    omega
  rw [signed_eq, signed_eq]
  generalize m * 2 ^ (i - min i j).toNat = X at *
  generalize n * 2 ^ (j - min i j).toNat = Y at *
  generalize 2 ^ (min i j - lp).toNat = Z at *
  have hsub : (X - Y) * Z ≤ 2 ^ 1074 := by
    rw [Nat.sub_mul]; omega
  have habs : ((if sgn Ieee.double x = true then -(X : Int) else (X : Int)) + (if (!decide (ti x < 0)) = true then -(Y : Int) else (Y : Int))).natAbs ≤ X - Y ∨ whole x = 0 := by
    by_cases hw0 : whole x = 0
    · exact .inr hw0
    · left
      unfold ti
      cases sgn Ieee.double x
      · have : ¬ ((whole x : Int) < 0) := by omega
        simp [this]; omega
      · have : (-(whole x : Int) < 0) := by omega
        simp [this]; omega
  rcases habs with habs | hw0
  · exact Nat.le_trans (Nat.mul_le_mul_right _ habs) hsub
  · rw [hw0, Nat.zero_mul] at hb2
    have hY : Y = 0 := by
      rcases Nat.mul_eq_zero.1 hb2 with h1 | h1
      · exact h1
      · omega
    subst hY
    have hn : ((if sgn Ieee.double x = true then -(X : Int) else (X : Int)) + (if (!decide (ti x < 0)) = true then -((0 : Nat) : Int) else ((0 : Nat) : Int))).natAbs = X := by
      split <;> split <;> omega
    rw [hn]; simpa using hsub

/-! ### the sine of some turns -/
def one64 : Nat := 4607182418800017408
def half64 : Nat := 4602678819172646912
def quarter64 : Nat := 4598175219545276416
def twopi64 : Nat := 4618760256179416344
def partF (v : Nat) : Nat :=
  if (FloatKind.f64.format.order (fop .sub .f64 v (floatOfInt .f64 (ti v))) 0 == some .lt) = true then fop .add .f64 (fop .sub .f64 v (floatOfInt .f64 (ti v))) one64 else fop .sub .f64 v (floatOfInt .f64 (ti v))
def den (i : Nat) : Nat := floatOfInt .f64 (2 * (8 - i) * (2 * (8 - i) + 1) : Nat)
def ser (u : Nat) : Nat → Nat
  | 0 => one64
  | i + 1 => fop .sub .f64 one64 (fop .quo .f64 (fop .mul .f64 u (ser u i)) (den i))
def lowB (f : Nat) : Bool := FloatKind.f64.format.order f half64 == some .gt || FloatKind.f64.format.order f half64 == some .eq
def fold2 (f : Nat) : Nat := if (FloatKind.f64.format.order f quarter64 == some .gt) = true then fop .sub .f64 half64 f else f
def sinZ (z : Nat) : Nat := fop .mul .f64 z (ser (fop .mul .f64 z z) 8)
def sinF (v : Nat) : Nat :=
  if lowB (partF v) = true then fneg .f64 (sinZ (fop .mul .f64 (fold2 (fop .sub .f64 (partF v) half64)) twopi64))
  else sinZ (fop .mul .f64 (fold2 (partF v)) twopi64)

theorem pr_ok {c : Nat} (h : c ≤ 2000) : pr Ieee.double c < Ieee.double.infRung := by
  have d2 : Ieee.double.fractionBits = 52 := rfl
  have d3 : Ieee.double.infRung = 9218868437227405312 := by decide +kernel
  have d4 : Ieee.double.binade = 4503599627370496 := by decide +kernel
  unfold pr
  rw [d2, d3, d4]
  split
  · rename_i h1
    have : 2 ^ c < 2 ^ 52 := Nat.pow_lt_pow_right (by decide : 1 < 2) h1
    omega
  · omega
theorem LL64 : LL FloatKind.f64.format = 1074 := by decide +kernel
theorem mulD {a b c x y : Nat} (hx : Bd .f64 a x) (hy : Bd .f64 b y) (h : a + b ≤ c + 1074) (hc : c ≤ 2000) : Bd .f64 c (fop .mul .f64 x y) := Bd_mul hx hy (by rw [LL64]; exact h) (pr_ok hc)
theorem quoD {a b c x y : Nat} (hx : Bd .f64 a x) (hy : Lb .f64 b y) (h : a + 1074 ≤ b + c) (hc : c ≤ 2000) : Bd .f64 c (fop .quo .f64 x y) := Bd_quo hx hy (by rw [LL64]; exact h) (pr_ok hc)
theorem addD {a b c x y : Nat} (hx : Bd .f64 a x) (hy : Bd .f64 b y) (h1 : a + 1 ≤ c) (h2 : b + 1 ≤ c) (hc : c ≤ 2000) : Bd .f64 c (fop .add .f64 x y) := by
  obtain ⟨d, rfl⟩ : ∃ d, c = d + 1 := ⟨c - 1, by omega⟩
  exact Bd_add (Bd_mono hx (by omega)) (Bd_mono hy (by omega)) (pr_ok hc)
theorem subD {a b c x y : Nat} (hx : Bd .f64 a x) (hy : Bd .f64 b y) (h1 : a + 1 ≤ c) (h2 : b + 1 ≤ c) (hc : c ≤ 2000) : Bd .f64 c (fop .sub .f64 x y) := by
  obtain ⟨d, rfl⟩ : ∃ d, c = d + 1 := ⟨c - 1, by omega⟩
  exact Bd_sub (Bd_mono hx (by omega)) (Bd_mono hy (by omega)) (pr_ok hc)
theorem Bd_const {c x : Nat} (h : decide (rung Ieee.double x < Ieee.double.infRung ∧ mg Ieee.double (rung Ieee.double x) ≤ 2 ^ c) = true) : Bd .f64 c x := .inr (of_decide_eq_true h)
theorem Lb_const {c x : Nat} (h : decide (rung Ieee.double x < Ieee.double.infRung ∧ 2 ^ c ≤ mg Ieee.double (rung Ieee.double x)) = true) : Lb .f64 c x := by unfold Lb; exact of_decide_eq_true h
theorem Bd_neg {k : FloatKind} {c x : Nat} (h : Bd k c x) : Bd k c (fneg k x) := by
  unfold fneg
  split
  · exact .inl (isN_qn k)
  · rename_i hn
    rcases h with h | h
    · exact absurd h hn
    · exact .inr (by rw [rung_neg]; exact h)

theorem den_lb : ∀ i, i < 8 → Lb .f64 1074 (den i) := by
  have h : ∀ i : Fin 8, decide (rung Ieee.double (den i.1) < Ieee.double.infRung ∧ 2 ^ 1074 ≤ mg Ieee.double (rung Ieee.double (den i.1))) = true := by decide +kernel
  exact fun i hi => Lb_const (h ⟨i, hi⟩)
theorem ser_bd {u : Nat} (hu : Bd .f64 1086 u) : ∀ i, i ≤ 8 → Bd .f64 (1074 + 13 * i) (ser u i)
  | 0, _ => Bd_const (c := 1074) (x := one64) (by decide +kernel)
  | i + 1, hi => by
    have h1 := mulD (c := 1086 + 13 * i) hu (ser_bd hu i (by omega)) (by omega) (by omega)
    have h2 := quoD (c := 1086 + 13 * i) h1 (den_lb i (by omega)) (by omega) (by omega)
    exact subD (a := 1074) (Bd_const (by decide +kernel)) h2 (by omega) (by omega) (by omega)
theorem sinZ_bd {z : Nat} (hz : Bd .f64 1080 z) : Bd .f64 1184 (sinZ z) := by
  have hu := mulD (c := 1086) hz hz (by omega) (by omega)
  exact mulD hz (ser_bd hu 8 (by omega)) (by omega) (by omega)
theorem partF_bd {v : Nat} (h : rung Ieee.double v < Ieee.double.infRung) (hw : whole v < 2 ^ 53) : Bd .f64 1075 (partF v) := by
  have h1 := Bd_frac h hw
  unfold partF
  split
  · exact addD (b := 1074) h1 (Bd_const (by decide +kernel)) (by omega) (by omega) (by omega)
  · exact Bd_mono h1 (by omega)
theorem fold2_bd {f : Nat} (h : Bd .f64 1076 f) : Bd .f64 1077 (fold2 f) := by
  unfold fold2
  split
  · exact subD (a := 1074) (Bd_const (by decide +kernel)) h (by omega) (by omega) (by omega)
  · exact Bd_mono h (by omega)
theorem sinF_bd {v : Nat} (hp : Bd .f64 1075 (partF v)) : Bd .f64 1184 (sinF v) := by
  have h2 : Bd .f64 1077 twopi64 := Bd_const (by decide +kernel)
  unfold sinF
  split
  · refine Bd_neg (sinZ_bd (mulD (fold2_bd (subD hp (b := 1074) (Bd_const (by decide +kernel)) (by omega) (by omega) (by omega))) h2 (by omega) (by omega)))
  · exact sinZ_bd (mulD (fold2_bd (Bd_mono hp (by omega))) h2 (by omega) (by omega))

/-- 8, 7, .. 0 as float64s. -/
def kfl (i : Nat) : Nat := floatOfInt .f64 ((8 - i : Nat) : Int)
theorem kfl_test (i : Nat) (hi : i < 8) : (FloatKind.f64.format.order (kfl i) one64 == some .gt || FloatKind.f64.format.order (kfl i) one64 == some .eq) = true := by
  have h : ∀ i : Fin 8, (FloatKind.f64.format.order (kfl i.1) one64 == some .gt || FloatKind.f64.format.order (kfl i.1) one64 == some .eq) = true := by decide +kernel
  exact h ⟨i, hi⟩
theorem kfl_end : (FloatKind.f64.format.order (kfl 8) one64 == some .gt || FloatKind.f64.format.order (kfl 8) one64 == some .eq) = false := by decide +kernel
theorem kfl_den (i : Nat) (hi : i < 8) : fop .mul .f64 (fop .mul .f64 4611686018427387904 (kfl i)) (fop .add .f64 (fop .mul .f64 4611686018427387904 (kfl i)) one64) = den i := by
  have h : ∀ i : Fin 8, fop .mul .f64 (fop .mul .f64 4611686018427387904 (kfl i.1)) (fop .add .f64 (fop .mul .f64 4611686018427387904 (kfl i.1)) one64) = den i.1 := by decide +kernel
  exact h ⟨i, hi⟩
theorem kfl_next (i : Nat) (hi : i < 8) : fop .sub .f64 (kfl i) one64 = kfl (i + 1) := by
  have h : ∀ i : Fin 8, fop .sub .f64 (kfl i.1) one64 = kfl (i.1 + 1) := by decide +kernel
  exact h ⟨i, hi⟩
theorem kfl_notN (i : Nat) : isN .f64 (kfl i) = false := nearest_notNaN _ _ _ _
theorem kfl_lt (i : Nat) (hi : i < 8) : kfl (i + 1) < kfl i := by
  have h : ∀ i : Fin 8, kfl (i.1 + 1) < kfl i.1 := by decide +kernel
  exact h ⟨i, hi⟩
def fbits : Value → Nat
  | .float _ b => b
  | _ => 0
theorem ser_step (u i : Nat) : ser u (i + 1) = fop .sub .f64 one64 (fop .quo .f64 (fop .mul .f64 u (ser u i)) (den i)) := rfl
theorem den_int (i : Nat) (hi : i < 8) : den i = floatOfInt .f64 (2 * ((8 : Int) - i) * (2 * ((8 : Int) - i) + 1)) := by
  unfold den; congr 1
  have : ((8 - i : Nat) : Int) = 8 - (i : Int) := by omega
  push_cast; rw [this]

/-- '2^52' and above, without the sign, or with it. -/
theorem big_abs (v : Nat) (h : isN .f64 v = false) :
    (FloatKind.f64.format.order (fabs .f64 v) 4841369599423283200 == some .gt || FloatKind.f64.format.order (fabs .f64 v) 4841369599423283200 == some .eq) =
    ((FloatKind.f64.format.order v 4841369599423283200 == some .gt || FloatKind.f64.format.order v 4841369599423283200 == some .eq) ||
     (FloatKind.f64.format.order v 14064741636278059008 == some .lt || FloatKind.f64.format.order v 14064741636278059008 == some .eq)) ∧
    ((FloatKind.f64.format.order (fabs .f64 v) 4841369599423283200 == some .gt || FloatKind.f64.format.order (fabs .f64 v) 4841369599423283200 == some .eq) = decide (4841369599423283200 ≤ rung Ieee.double v)) := by
  have e1 : srung FloatKind.f64.format (fabs .f64 v) = rung FloatKind.f64.format v := by
    unfold srung; unfold fabs; rw [sgn_rung, rung_rung]; simp
  have e2 : srung FloatKind.f64.format 4841369599423283200 = 4841369599423283200 := by decide +kernel
  have e3 : srung FloatKind.f64.format 14064741636278059008 = -4841369599423283200 := by decide +kernel
  rw [order_rungs .f64 _ _ (by rw [isN_fabs]; exact h) (by decide +kernel), order_rungs .f64 v _ h (by decide +kernel), order_rungs .f64 v _ h (by decide +kernel), e1, e2, e3]
  unfold srung
  have hf : FloatKind.f64.format = Ieee.double := rfl
  rw [hf]
  generalize rung Ieee.double v = r
  rcases Int.lt_trichotomy (r : Int) 4841369599423283200 with h1 | h1 | h1
  · rw [cmp_of_lt h1, decide_eq_false (by omega)]
    cases sgn Ieee.double v <;> simp only [if_true, if_false, Bool.false_eq_true]
    · rw [cmp_of_lt h1, cmp_of_gt (by omega)]; exact ⟨rfl, rfl⟩
    · rw [cmp_of_lt (by omega), cmp_of_gt (by omega)]; exact ⟨rfl, rfl⟩
  · rw [h1, Int.compare_eq_eq.2 rfl, decide_eq_true (by omega)]
    cases sgn Ieee.double v <;> simp only [if_true, if_false, Bool.false_eq_true]
    · exact ⟨rfl, rfl⟩
    · rw [cmp_of_lt (by omega)]; exact ⟨rfl, rfl⟩
  · rw [cmp_of_gt h1, decide_eq_true (by omega)]
    cases sgn Ieee.double v <;> simp only [if_true, if_false, Bool.false_eq_true]
    · rw [cmp_of_gt (by omega)]; exact ⟨rfl, rfl⟩
    · rw [cmp_of_lt (by omega), cmp_of_lt (by omega)]; exact ⟨rfl, rfl⟩
theorem whole_small {v : Nat} (h : rung Ieee.double v < 4841369599423283200) : whole v < 2 ^ 53 := by
  refine Nat.lt_of_lt_of_le (whole_lt (c := 52) ?_) (by decide)
  have e : mg Ieee.double 4841369599423283200 = 2 ^ (52 + 1074) := by decide +kernel
  rw [← e]; exact mg_lt _ h

theorem wpList_ftoi {P : Program} {w : World} {ops : Array Oper} {rest : List Oper} {o : Oper} {a : Act} {Q : Exit → Act → World → Prop}
    (hg : o.guard = none) (src dst : TypeId) (x : Operand) (hop : o.op = Op.convert src dst x) (hs : (P.underlying src).isSome = true) (k : IntKind) (hd : P.underlying dst = some (.int k)) (b : Nat) (n : Int)
    (hx : a.eval x = .float .f64 b) (h : floatToIntVal .f64 b k = some n)
    (hK : wpList P ops Q rest (a.put o.dst (.int k n)) w) :
    wpList P ops Q (o :: rest) a w := by
  refine wpList_plain hg fun K hK' => ?_
  have hrun := run_convert_float_int (P := P) w src dst .f64 k b n hs hd h
  unfold Oper.wp
  simp [execOp, hop, hx, hrun, Result.andThen]
  exact hK' _ _ hK
theorem nat_of_pick {k : FloatKind} {x : Nat} (hx : x < 2 ^ k.format.width) : ∃ n, x = pick k x n := pick_onto k x hx

/-! ### quotients by what is as great; square roots -/
theorem Bd_quo' {k : FloatKind} {c x y : Nat} (hx1 : rung k.format x < k.format.infRung) (hy1 : rung k.format y < k.format.infRung) (hy0 : mg k.format (rung k.format y) ≠ 0)
    (h : mg k.format (rung k.format x) * 2 ^ LL k.format ≤ mg k.format (rung k.format y) * 2 ^ c) (hc : pr k.format c < k.format.infRung) : Bd k c (fop .quo k x y) := by
  obtain ⟨m, i, r1, r2, r3⟩ := read_fin k.format x hx1
  obtain ⟨n, j, s1, s2, s3⟩ := read_fin k.format y hy1
  have hn : n ≠ 0 := by
    rintro rfl
    rw [← s3, Nat.zero_mul] at hy0
    exact hy0 rfl
  have e : fop .quo k x y = k.format.nearest (sgn k.format x ^^ sgn k.format y)
      (2 * ((m <<< (k.format.fractionBits + 2 + n.log2 - m.log2)) / n) + ((m <<< (k.format.fractionBits + 2 + n.log2 - m.log2)) % n != 0).toNat) (i - j - (k.format.fractionBits + 2 + n.log2 - m.log2 : Nat) - 1) := by
    unfold fop floatBits Ieee.Format.div
    simp only [r1, s1, Ieee.Datum.quotient, if_neg hn]; rfl
  rw [e]
  refine Bd_nearest hc _ _ _ ?_
  generalize hmo : k.format.fractionBits + 2 + n.log2 - m.log2 = more
  unfold leRung
  rw [mg_pr, Nat.shiftLeft_eq]
  rw [← r3, ← s3] at h
  by_cases hm : m = 0
  · subst hm; simp
  have hq : n ≤ m * 2 ^ more := by
    have h1 : 2 ^ m.log2 ≤ m := Nat.log2_self_le hm
    have h2 : n < 2 ^ (n.log2 + 1) := Nat.lt_log2_self
    have h3 : 2 ^ m.log2 * 2 ^ more ≤ m * 2 ^ more := Nat.mul_le_mul_right _ h1
    rw [← Nat.pow_add] at h3
    have h4 : 2 ^ (n.log2 + 1) ≤ 2 ^ (m.log2 + more) := Nat.pow_le_pow_right (by decide) (by omega)
    omega
  have hlp := lp_neg k
  generalize k.format.leastPlace = lp at *
  generalize LL k.format = L at *
  have star : m * 2 ^ ((i - lp).toNat + L) ≤ n * 2 ^ ((j - lp).toNat + c) := by
    rw [Nat.pow_add, Nat.pow_add, ← Nat.mul_assoc, ← Nat.mul_assoc]; exact h
  by_cases hP : (j - lp).toNat + more + 1 ≤ (i - lp).toNat + L
  · have e1 : (lp - (i - j - (more : Int) - 1)).toNat = 0 := by omega
    rw [e1, Nat.pow_zero, Nat.mul_one]
    generalize hPP : (i - j - (more : Int) - 1 - lp).toNat = PP
    have e2 : (i - lp).toNat + L = (more + (PP + 1)) + (j - lp).toNat := by omega
    rw [e2, Nat.pow_add 2 (more + (PP + 1)), Nat.add_comm (j - lp).toNat c, Nat.pow_add 2 c, ← Nat.mul_assoc, ← Nat.mul_assoc] at star
    have s1 := Nat.le_of_mul_le_mul_right star (Nat.two_pow_pos _)
    rw [Nat.pow_add, ← Nat.mul_assoc] at s1
    have hpc : PP + 1 ≤ c := by
      have h1 : n * 2 ^ (PP + 1) ≤ n * 2 ^ c := Nat.le_trans (Nat.mul_le_mul_right _ hq) s1
      have h2 := Nat.le_of_mul_le_mul_left h1 (by omega)
      exact (Nat.pow_le_pow_iff_right (by decide)).1 h2
    have s2 : m * 2 ^ more ≤ n * 2 ^ (c - (PP + 1)) := by
      have e3 : c = (c - (PP + 1)) + (PP + 1) := by omega
      rw [e3, Nat.pow_add 2 (c - (PP + 1)), ← Nat.mul_assoc] at s1
      exact Nat.le_of_mul_le_mul_right s1 (Nat.two_pow_pos _)
    have h6 : 2 ^ c = 2 * 2 ^ (c - (PP + 1)) * 2 ^ PP := by
      have e3 : c = ((c - (PP + 1)) + 1) + PP := by omega
      have e4 : 2 ^ c = 2 ^ (((c - (PP + 1)) + 1) + PP) := congrArg _ e3
      rw [e4, Nat.pow_add, Nat.pow_succ, Nat.mul_comm _ 2]
    rw [h6]
    refine Nat.mul_le_mul_right _ ?_
    generalize 2 ^ (c - (PP + 1)) = T at *
    exact quo_bound _ _ _ (by omega) s2
  · have e1 : (i - j - (more : Int) - 1 - lp).toNat = 0 := by omega
    rw [e1, Nat.pow_zero, Nat.mul_one]
    generalize hN : (j - lp).toNat + more - ((i - lp).toNat + L) = N
    have e2 : (lp - (i - j - (more : Int) - 1)).toNat = N + 1 := by omega
    rw [e2]
    have s1 : m * 2 ^ more ≤ n * 2 ^ (c + N) := by
      have h1 := Nat.mul_le_mul_right (2 ^ N) star
      rw [Nat.mul_assoc, ← Nat.pow_add, Nat.mul_assoc, ← Nat.pow_add] at h1
      have e3 : (i - lp).toNat + L + N = more + (j - lp).toNat := by omega
      have e4 : (j - lp).toNat + c + N = (c + N) + (j - lp).toNat := by omega
      rw [e3, e4, Nat.pow_add, Nat.pow_add 2 (c + N), ← Nat.mul_assoc, ← Nat.mul_assoc] at h1
      exact Nat.le_of_mul_le_mul_right h1 (Nat.two_pow_pos _)
    have h6 : 2 ^ c * 2 ^ (N + 1) = 2 * 2 ^ (c + N) := by rw [Nat.pow_succ, Nat.pow_add, Nat.mul_comm 2, Nat.mul_assoc]
    rw [h6]
    generalize 2 ^ (c + N) = T at *
    exact quo_bound _ _ _ (by omega) s1

theorem rootFrom_le (n : Nat) : ∀ (todo root : Nat), root * root ≤ n → Ieee.Datum.rootFrom n todo root * Ieee.Datum.rootFrom n todo root ≤ n
  | 0, root, h => h
  | todo + 1, root, h => by
    unfold Ieee.Datum.rootFrom
    dsimp only
    refine rootFrom_le n todo _ ?_
    split
    · assumption
    · exact h

def fsqrt (x : Nat) : Nat := (Ieee.double.sqrt x).getD (qn .f64)
theorem fsqrt_nan {x : Nat} (h : isN .f64 x = true) : Ieee.double.sqrt x = none := by
  obtain ⟨s, t, e⟩ := read_nan h
  have e' : Ieee.double.read x = .nan s t := e
  unfold Ieee.Format.sqrt
  rw [e']; rfl
theorem root_notNaN {n : Nat} {a d : Ieee.Datum} (h : a.root n = some d) : d.isNaN = false := by
  cases a <;> simp only [Ieee.Datum.root] at h
  · split at h
    · cases h; rfl
    · split at h
      · cases h
      · cases h; rfl
  · split at h
    · cases h
    · cases h; rfl
  · cases h
theorem sqrt_notNaN {x r : Nat} (h : Ieee.double.sqrt x = some r) : isN .f64 r = false := by
  unfold Ieee.Format.sqrt at h
  simp only [Option.map_eq_some_iff] at h
  obtain ⟨d, h1, rfl⟩ := h
  exact write_notNaN _ _ (root_notNaN h1)
theorem fsqrt_pick (v n : Nat) : fsqrt (pick .f64 v n) = fsqrt v := by
  cases h : isN .f64 v
  · rw [pick_not h]
  · unfold fsqrt; rw [fsqrt_nan h, fsqrt_nan (by rw [isN_pick]; exact h)]
attribute [simp, go_sem] fsqrt_pick

theorem isqrt_bound (n w T : Nat) (h1 : w * w ≤ n) (h2 : n ≤ T * T) : 2 * w + (w * w != n).toNat ≤ 2 * T := by
  have h3 : w ≤ T := by
    rcases Nat.lt_or_ge T w with h | h
    · have : T * T < w * w := Nat.mul_lt_mul'' h h
      omega
    · exact h
  by_cases h4 : w = T
  · subst h4
    have : w * w = n := by omega
    rw [this]; simp
  · have : (w * w != n).toNat ≤ 1 := Bool.toNat_le _
    omega

theorem sqrt_shape {x : Nat} (h : rung Ieee.double x < Ieee.double.infRung) {m : Nat} {i : Int} (r1 : Ieee.double.read x = .number (sgn Ieee.double x) m i) :
    fsqrt x = qn .f64 ∨ (m = 0 ∧ fsqrt x = Ieee.double.nearest (sgn Ieee.double x) m i) ∨
    (m ≠ 0 ∧ ∃ (more w : Nat) (hh : Int), i - (more : Int) = 2 * hh ∧ w * w ≤ m * 2 ^ more ∧ fsqrt x = Ieee.double.nearest false (2 * w + (w * w != m * 2 ^ more).toNat) (hh - 1)) := by
  unfold fsqrt Ieee.Format.sqrt
  rw [r1]
  simp only [Ieee.Datum.root]
  by_cases h0 : m = 0
  · right; left; rw [if_pos h0]; exact ⟨h0, rfl⟩
  · rw [if_neg h0]
    by_cases hs : sgn Ieee.double x = true
    · left; rw [if_pos hs]; rfl
    · right; right
      rw [if_neg hs]
      refine ⟨h0, 2 * (Ieee.double.fractionBits + 2) - m.log2 + ((i - (2 * (Ieee.double.fractionBits + 2) - m.log2 : Nat)) % 2).toNat,
        Ieee.Datum.rootFrom (m <<< (2 * (Ieee.double.fractionBits + 2) - m.log2 + ((i - (2 * (Ieee.double.fractionBits + 2) - m.log2 : Nat)) % 2).toNat)) ((m <<< (2 * (Ieee.double.fractionBits + 2) - m.log2 + ((i - (2 * (Ieee.double.fractionBits + 2) - m.log2 : Nat)) % 2).toNat)).log2 / 2 + 1) 0,
        (i - ((2 * (Ieee.double.fractionBits + 2) - m.log2 + ((i - (2 * (Ieee.double.fractionBits + 2) - m.log2 : Nat)) % 2).toNat : Nat) : Int)) / 2, by omega, ?_, ?_⟩
      · rw [← Nat.shiftLeft_eq]; exact rootFrom_le _ _ _ (by simp)
      · rw [← Nat.shiftLeft_eq]
        simp only [Option.map_some, Option.getD_some, Ieee.Format.write]

theorem sqrtD {a c x : Nat} (hx : Bd .f64 a x) (h : a + 1074 ≤ 2 * c) (hc : c ≤ 2000) : Bd .f64 c (fsqrt x) := by
  rcases hx with hx | ⟨hx1, hx2⟩
  · exact .inl (by unfold fsqrt; rw [fsqrt_nan hx]; exact isN_qn _)
  have hf : FloatKind.f64.format = Ieee.double := rfl
  rw [hf] at hx1 hx2
  obtain ⟨m, i, r1, r2, r3⟩ := read_fin Ieee.double x hx1
  have d1 : Ieee.double.leastPlace = -1074 := by decide +kernel
  rw [d1] at r2 r3
  rcases sqrt_shape hx1 r1 with e | ⟨e0, e⟩ | ⟨e0, more, w, hh, e1, e2, e⟩
  · rw [e]; exact .inl (isN_qn _)
  · rw [e, e0]
    refine Bd_nearest (k := .f64) (pr_ok hc) _ _ _ ?_
    unfold leRung; simp
  · rw [e]
    refine Bd_nearest (k := .f64) (pr_ok hc) _ _ _ ?_
    unfold leRung
    rw [mg_pr, hf, d1]
    rw [← r3] at hx2
    have hm1 : 1 ≤ m := by omega
    have hi : (i - -1074).toNat ≤ a := by
      have : 2 ^ (i - -1074).toNat ≤ 2 ^ a := Nat.le_trans (Nat.le_mul_of_pos_left _ hm1) hx2
      exact (Nat.pow_le_pow_iff_right (by decide)).1 this
    have hT0 : 0 ≤ (c : Int) - 1074 - hh := by omega
    have hn : m * 2 ^ more ≤ 2 ^ ((c : Int) - 1074 - hh).toNat * 2 ^ ((c : Int) - 1074 - hh).toNat := by
      rw [← Nat.pow_add]
      have h3 : m * 2 ^ (i - -1074).toNat * 2 ^ (((c : Int) - 1074 - hh).toNat + ((c : Int) - 1074 - hh).toNat) ≤ 2 ^ a * 2 ^ (((c : Int) - 1074 - hh).toNat + ((c : Int) - 1074 - hh).toNat) := Nat.mul_le_mul_right _ hx2
      have h4 : m * 2 ^ more ≤ m * 2 ^ more := Nat.le_refl _
      -- m 2^more 2^(i+1074) ≤ 2^a 2^more
      have h5 : m * 2 ^ (i - -1074).toNat * 2 ^ more ≤ 2 ^ a * 2 ^ more := Nat.mul_le_mul_right _ hx2
      have h6 : 2 ^ a * 2 ^ more ≤ 2 ^ (((c : Int) - 1074 - hh).toNat + ((c : Int) - 1074 - hh).toNat) * 2 ^ (i - -1074).toNat := by
        rw [← Nat.pow_add, ← Nat.pow_add]; exact Nat.pow_le_pow_right (by decide) (by omega)
      have h7 := Nat.le_trans h5 h6
      rw [Nat.mul_right_comm] at h7
      exact Nat.le_of_mul_le_mul_right h7 (Nat.two_pow_pos _)
    have hb := isqrt_bound (m * 2 ^ more) w _ e2 hn
    by_cases hp : -1074 ≤ hh - 1
    · have z1 : (-1074 - (hh - 1)).toNat = 0 := by omega
      rw [z1, Nat.pow_zero, Nat.mul_one]
      have z2 : 2 ^ c = 2 * 2 ^ ((c : Int) - 1074 - hh).toNat * 2 ^ (hh - 1 - -1074).toNat := by
        rw [Nat.mul_comm 2, ← Nat.pow_succ, ← Nat.pow_add]; congr 1; omega
      rw [z2]; exact Nat.mul_le_mul_right _ hb
    · have z1 : (hh - 1 - -1074).toNat = 0 := by omega
      rw [z1, Nat.pow_zero, Nat.mul_one]
      have z2 : 2 ^ c * 2 ^ (-1074 - (hh - 1)).toNat = 2 * 2 ^ ((c : Int) - 1074 - hh).toNat := by
        rw [Nat.mul_comm 2, ← Nat.pow_succ, ← Nat.pow_add]; congr 1; omega
      rw [z2]; exact hb

/-- A square root has no sign, but for that of -0. -/
theorem sqrt_sign {x : Nat} (hx : rung Ieee.double x < Ieee.double.infRung) : isN .f64 (fsqrt x) = true ∨ sgn Ieee.double (fsqrt x) = false ∨ rung Ieee.double (fsqrt x) = 0 := by
  obtain ⟨m, i, r1, r2, r3⟩ := read_fin Ieee.double x hx
  have hl := Ieee.double.infRung_lt
  rcases sqrt_shape hx r1 with e | ⟨e0, e⟩ | ⟨e0, more, w, hh, e1, e2, e⟩
  · rw [e]; exact .inl (isN_qn _)
  · right; right
    rw [e, e0]
    unfold Ieee.Format.nearest
    rw [if_pos rfl]; exact (word_signs Ieee.double _ 0 (by omega)).2
  · right; left
    rw [e]
    unfold Ieee.Format.nearest
    split
    · exact (word_signs Ieee.double _ 0 (by omega)).1
    · exact (word_signs Ieee.double _ _ (Nat.lt_of_le_of_lt (Nat.min_le_right _ _) hl)).1

/-- 1 and something that is not less than nothing: at least 1. -/
theorem one_add {c s : Nat} (hb : Bd .f64 c s) (hs : isN .f64 s = true ∨ sgn Ieee.double s = false ∨ rung Ieee.double s = 0) (hc : c ≤ 1999) (hc2 : 1074 ≤ c) :
    isN .f64 (fop .add .f64 one64 s) = true ∨ Lb .f64 1074 (fop .add .f64 one64 s) := by
  by_cases hn : isN .f64 s = true
  · left; unfold fop; rw [bits_nan_r _ hn]; exact isN_qn _
  right
  rcases hb with hb | ⟨hb1, hb2⟩
  · exact absurd hb hn
  have hfin : Bd .f64 (c + 1) (fop .add .f64 one64 s) := addD (a := 1074) (b := c) (Bd_const (by decide +kernel)) (.inr ⟨hb1, hb2⟩) (by omega) (by omega) (by omega)
  have hf : FloatKind.f64.format = Ieee.double := rfl
  obtain ⟨m, i, r1, r2, r3⟩ := read_fin Ieee.double one64 (by decide +kernel)
  obtain ⟨n, j, s1, s2, s3⟩ := read_fin Ieee.double s hb1
  have d1 : Ieee.double.leastPlace = -1074 := by decide +kernel
  have m1 : mg Ieee.double (rung Ieee.double one64) = 2 ^ 1074 := by decide +kernel
  have g1 : sgn Ieee.double one64 = false := by decide +kernel
  rw [m1] at r3
  rw [g1] at r1
  have hsum : (Ieee.signed false m (i - min i j).toNat + Ieee.signed (sgn Ieee.double s) n (j - min i j).toNat) = ((m * 2 ^ (i - min i j).toNat + n * 2 ^ (j - min i j).toNat : Nat) : Int) := by
    rw [signed_eq, signed_eq]
    rcases hs with h | h | h
    · exact absurd h hn
    · rw [h]; simp
    · have : n = 0 := by
        rw [h] at s3
        have z : mg Ieee.double 0 = 0 := by decide +kernel
        rw [z] at s3
        rcases Nat.mul_eq_zero.1 s3 with h1 | h1
        · exact h1
        · have := Nat.two_pow_pos (j - Ieee.double.leastPlace).toNat; omega
      subst this; simp
  have e : ∃ b, fop .add .f64 one64 s = Ieee.double.nearest b (m * 2 ^ (i - min i j).toNat + n * 2 ^ (j - min i j).toNat) (min i j) := by
    unfold fop floatBits Ieee.Format.add
    rw [hf]
    simp only [r1, s1, Ieee.Datum.sum, hsum]
    exact ⟨_, rfl⟩
  obtain ⟨b, e⟩ := e
  have hge : geRung Ieee.double (m * 2 ^ (i - min i j).toNat + n * 2 ^ (j - min i j).toNat) (min i j) (rung Ieee.double one64) := by
    unfold geRung
    rw [m1]
    generalize Ieee.double.leastPlace = lp at *
    have z : (lp - min i j).toNat = 0 := by omega
    rw [z, Nat.pow_zero, Nat.mul_one, Nat.add_mul, Nat.mul_assoc, ← Nat.pow_add]
    have z2 : (i - min i j).toNat + (min i j - lp).toNat = (i - lp).toNat := by omega
    rw [z2, r3]; omega
  obtain ⟨q, q1, q2, q3⟩ := nearest_ge Ieee.double b _ _ _ (by decide +kernel) hge
  have hl := Ieee.double.infRung_lt
  have hw := (word_signs Ieee.double b q (by omega)).2
  have hfin' : rung Ieee.double (fop .add .f64 one64 s) < Ieee.double.infRung := by
    rcases hfin with h | h
    · rw [e, q1] at h
      have := isN_rung' .f64 (Ieee.double.word b q)
      rw [h, hf, hw] at this
      have := of_decide_eq_true this.symm
      omega
    · exact h.1
  refine ⟨hfin', ?_⟩
  rw [hf, e, q1, hw, ← m1]
  rcases Nat.lt_or_eq_of_le q2 with h | h
  · exact Nat.le_of_lt (mg_lt _ h)
  · rw [h]; exact Nat.le_refl _

/-! ### the angle of a point -/
def stepT (t : Nat) : Nat := fop .quo .f64 t (fop .add .f64 one64 (fsqrt (fop .add .f64 one64 (fop .mul .f64 t t))))
def iterT (t : Nat) : Nat → Nat
  | 0 => t
  | i + 1 => stepT (iterT t i)
theorem iterT_step (t i : Nat) : iterT t (i + 1) = fop .quo .f64 (iterT t i) (fop .add .f64 one64 (fsqrt (fop .add .f64 one64 (fop .mul .f64 (iterT t i) (iterT t i))))) := rfl
def odd (i : Nat) : Nat := floatOfInt .f64 (15 - 2 * (i : Int))
def aser (u : Nat) : Nat → Nat
  | 0 => 0
  | i + 1 => fop .sub .f64 (fop .quo .f64 one64 (odd i)) (fop .mul .f64 u (aser u i))
theorem aser_step (u i : Nat) : aser u (i + 1) = fop .sub .f64 (fop .quo .f64 one64 (odd i)) (fop .mul .f64 u (aser u i)) := rfl
def eight64 : Nat := 4620693217682128896
def flatA (t : Nat) : Nat := fop .quo .f64 (fop .mul .f64 eight64 (fop .mul .f64 (iterT t 3) (aser (fop .mul .f64 (iterT t 3) (iterT t 3)) 8))) twopi64
def overB (y x : Nat) : Bool := FloatKind.f64.format.order (fabs .f64 y) (fabs .f64 x) == some .gt
def ltz (x : Nat) : Bool := FloatKind.f64.format.order x 0 == some .lt
def angW (y x : Nat) : Nat :=
  let r1 := if overB y x = true then fop .sub .f64 quarter64 (flatA (fop .quo .f64 (fabs .f64 x) (fabs .f64 y))) else flatA (fop .quo .f64 (fabs .f64 y) (fabs .f64 x))
  let r2 := if ltz x = true then fop .sub .f64 half64 r1 else r1
  if ltz y = true then fneg .f64 r2 else r2

theorem isN_fop_r {op : BinOp} {k : FloatKind} (x : Nat) {y : Nat} (h : isN k y = true) : isN k (fop op k x y) = true := by unfold fop; rw [bits_nan_r _ h]; exact isN_qn k
theorem isN_fop_l {op : BinOp} {k : FloatKind} {x : Nat} (y : Nat) (h : isN k x = true) : isN k (fop op k x y) = true := by unfold fop; rw [bits_nan_l _ h]; exact isN_qn k
theorem stepT_bd {t : Nat} (h : Bd .f64 1074 t) : Bd .f64 1074 (stepT t) := by
  have h1 := mulD (c := 1074) h h (by omega) (by omega)
  have h2 : Bd .f64 1075 (fop .add .f64 one64 (fop .mul .f64 t t)) := addD (a := 1074) (Bd_const (by decide +kernel)) h1 (by omega) (by omega) (by omega)
  have h3 := sqrtD (c := 1075) h2 (by omega) (by omega)
  have h4 : isN .f64 (fsqrt (fop .add .f64 one64 (fop .mul .f64 t t))) = true ∨ sgn Ieee.double (fsqrt (fop .add .f64 one64 (fop .mul .f64 t t))) = false ∨ rung Ieee.double (fsqrt (fop .add .f64 one64 (fop .mul .f64 t t))) = 0 := by
    rcases h2 with h2 | ⟨h2, _⟩
    · left; unfold fsqrt; rw [fsqrt_nan h2]; exact isN_qn _
    · exact sqrt_sign h2
  unfold stepT
  rcases one_add h3 h4 (by omega) (by omega) with h5 | h5
  · exact .inl (isN_fop_r _ h5)
  · exact quoD h h5 (by omega) (by omega)
theorem iterT_bd {t : Nat} (h : Bd .f64 1074 t) : ∀ i, Bd .f64 1074 (iterT t i)
  | 0 => h
  | i + 1 => stepT_bd (iterT_bd h i)
theorem odd_lb : ∀ i, i < 8 → Lb .f64 1074 (odd i) := by
  have h : ∀ i : Fin 8, decide (rung Ieee.double (odd i.1) < Ieee.double.infRung ∧ 2 ^ 1074 ≤ mg Ieee.double (rung Ieee.double (odd i.1))) = true := by decide +kernel
  exact fun i hi => Lb_const (h ⟨i, hi⟩)
theorem aser_bd {u : Nat} (hu : Bd .f64 1074 u) : ∀ i, i ≤ 8 → Bd .f64 (1074 + i) (aser u i)
  | 0, _ => Bd_const (c := 1074) (x := 0) (by decide +kernel)
  | i + 1, hi => by
    have h1 := mulD (c := 1074 + i) hu (aser_bd hu i (by omega)) (by omega) (by omega)
    have h2 := quoD (a := 1074) (c := 1074) (x := one64) (Bd_const (by decide +kernel)) (odd_lb i (by omega)) (by omega) (by omega)
    exact subD h2 h1 (by omega) (by omega) (by omega)
theorem flatA_bd {t : Nat} (h : Bd .f64 1074 t) : Bd .f64 1085 (flatA t) := by
  have h3 := iterT_bd h 3
  have hu := mulD (c := 1074) h3 h3 (by omega) (by omega)
  have hp := aser_bd hu 8 (by omega)
  have h4 := mulD (c := 1082) h3 hp (by omega) (by omega)
  have h5 := mulD (a := 1077) (c := 1085) (x := eight64) (Bd_const (by decide +kernel)) h4 (by omega) (by omega)
  exact quoD (b := 1074) h5 (Lb_const (by decide +kernel)) (by omega) (by omega)

theorem fin_abs (v : Nat) (h : rung Ieee.double v < Ieee.double.infRung) : rung Ieee.double (fabs .f64 v) = rung Ieee.double v := rung_rung .f64 v
theorem overB_rungs {y x : Nat} (hy : isN .f64 y = false) (hx : isN .f64 x = false) : overB y x = decide (rung Ieee.double x < rung Ieee.double y) := by
  unfold overB
  rw [order_rungs .f64 _ _ (by rw [isN_fabs]; exact hy) (by rw [isN_fabs]; exact hx)]
  have e1 : ∀ v, srung FloatKind.f64.format (fabs .f64 v) = rung FloatKind.f64.format v := by
    intro v; unfold srung; unfold fabs; rw [sgn_rung, rung_rung]; simp
  rw [e1, e1]
  have hf : FloatKind.f64.format = Ieee.double := rfl
  rw [hf]
  rcases Int.lt_trichotomy (rung Ieee.double y : Int) (rung Ieee.double x) with h | h | h
  · rw [cmp_of_lt h, decide_eq_false (by omega)]; rfl
  · rw [Int.compare_eq_eq.2 h, decide_eq_false (by omega)]; rfl
  · rw [cmp_of_gt h, decide_eq_true (by omega)]; rfl
theorem mg_zero (f : Ieee.Format) : mg f 0 = 0 := by unfold mg; rw [if_pos (binade_pos f)]
theorem angW_bd {y x : Nat} (hy : rung Ieee.double y < Ieee.double.infRung) (hx : rung Ieee.double x < Ieee.double.infRung) (h0 : ¬ (rung Ieee.double y = 0 ∧ rung Ieee.double x = 0)) : Bd .f64 1087 (angW y x) := by
  have hyn : isN .f64 y = false := notN_fin (k := .f64) hy
  have hxn : isN .f64 x = false := notN_fin (k := .f64) hx
  have hq : ∀ p q : Nat, rung Ieee.double p < Ieee.double.infRung → rung Ieee.double q < Ieee.double.infRung → rung Ieee.double p ≤ rung Ieee.double q → rung Ieee.double q ≠ 0 → Bd .f64 1074 (fop .quo .f64 (fabs .f64 p) (fabs .f64 q)) := by
    intro p q hp hqq hle hne
    have e1 := fin_abs p hp
    have e2 := fin_abs q hqq
    refine Bd_quo' (k := .f64) (by show rung Ieee.double _ < _; rw [e1]; exact hp) (by show rung Ieee.double _ < _; rw [e2]; exact hqq) ?_ ?_ (pr_ok (by omega))
    · show mg Ieee.double (rung Ieee.double _) ≠ 0
      rw [e2]
      have := mg_lt Ieee.double (r := 0) (s := rung Ieee.double q) (by omega)
      omega
    · show mg Ieee.double (rung Ieee.double _) * _ ≤ mg Ieee.double (rung Ieee.double _) * _
      rw [e1, e2, LL64]
      refine Nat.mul_le_mul_right _ ?_
      rcases Nat.lt_or_eq_of_le hle with h | h
      · exact Nat.le_of_lt (mg_lt _ h)
      · rw [h]; exact Nat.le_refl _
  have hov := overB_rungs hyn hxn
  have r1 : Bd .f64 1086 (if overB y x = true then fop .sub .f64 quarter64 (flatA (fop .quo .f64 (fabs .f64 x) (fabs .f64 y))) else flatA (fop .quo .f64 (fabs .f64 y) (fabs .f64 x))) := by
    split
    · rename_i h
      rw [hov] at h
      have h := of_decide_eq_true h
      exact subD (a := 1074) (Bd_const (by decide +kernel)) (flatA_bd (hq x y hx hy (by omega) (by omega))) (by omega) (by omega) (by omega)
    · rename_i h
      rw [hov, decide_eq_true_eq] at h
      exact Bd_mono (flatA_bd (hq y x hy hx (by omega) (by omega))) (by omega)
  have r2 : Bd .f64 1087 (if ltz x = true then fop .sub .f64 half64 (if overB y x = true then fop .sub .f64 quarter64 (flatA (fop .quo .f64 (fabs .f64 x) (fabs .f64 y))) else flatA (fop .quo .f64 (fabs .f64 y) (fabs .f64 x))) else (if overB y x = true then fop .sub .f64 quarter64 (flatA (fop .quo .f64 (fabs .f64 x) (fabs .f64 y))) else flatA (fop .quo .f64 (fabs .f64 y) (fabs .f64 x)))) := by
    split
    · exact subD (a := 1074) (Bd_const (by decide +kernel)) r1 (by omega) (by omega) (by omega)
    · exact Bd_mono r1 (by omega)
  unfold angW
  dsimp only
  split
  · exact Bd_neg r2
  · exact r2

def zeroB (v : Nat) : Bool := FloatKind.f32.format.order v 0 == some .eq
theorem cvU_zero : cvU 0 = 0 := by decide +kernel
theorem order_cv0 (v : Nat) : FloatKind.f64.format.order (cvU v) 0 = FloatKind.f32.format.order v 0 := by
  have := order_cvU v 0
  rw [cvU_zero] at this; exact this
def angT (y x : Nat) : Nat := if (finB .f32 y && finB .f32 x) = true then (if (zeroB y && zeroB x) = true then 0 else cvN (angW (cvU y) (cvU x))) else qn .f32
theorem rung_zero_eq {v : Nat} (h : rung Ieee.single v = 0) : zeroB v = true := by
  unfold zeroB
  have hn : isN .f32 v = false := notN_fin (k := .f32) (by show rung Ieee.single v < _; rw [h]; decide +kernel)
  have := ne_zero_iff v hn
  rw [h] at this
  cases hz : (FloatKind.f32.format.order v 0 == some .eq)
  · rw [bne, hz] at this; simp at this
  · rfl
theorem cvU_rung0 {v : Nat} (h : rung Ieee.single v < Ieee.single.infRung) (h0 : rung Ieee.double (cvU v) = 0) : rung Ieee.single v = 0 := by
  obtain ⟨_, _, _, _, m1, _⟩ := cvU_spec (notN_fin (k := .f32) h)
  have := m1 h
  rw [h0, mg_zero] at this
  rcases Nat.eq_zero_or_pos (rung Ieee.single v) with h1 | h1
  · exact h1
  · have h2 := mg_lt Ieee.single h1
    rw [mg_zero] at h2
    have : 0 < mg Ieee.single (rung Ieee.single v) * 2 ^ 925 := Nat.mul_pos h2 (Nat.two_pow_pos _)
    omega
theorem ang_fits {y x : Nat} (hy : finB .f32 y = true) (hx : finB .f32 x = true) (hz : (zeroB y && zeroB x) = false) : Fits (angW (cvU y) (cvU x)) := by
  have hy1 : rung Ieee.single y < Ieee.single.infRung := of_decide_eq_true hy
  have hx1 : rung Ieee.single x < Ieee.single.infRung := of_decide_eq_true hx
  have hy2 := (cvU_spec (notN_fin (k := .f32) hy1)).2.2.2.1.2 hy1
  have hx2 := (cvU_spec (notN_fin (k := .f32) hx1)).2.2.2.1.2 hx1
  refine Fits_of_Bd (Bd_mono (angW_bd hy2 hx2 ?_) (by omega))
  rintro ⟨h1, h2⟩
  rw [rung_zero_eq (cvU_rung0 hy1 h1), rung_zero_eq (cvU_rung0 hx1 h2)] at hz
  cases hz
def fpos : Value → Nat
  | .float _ b => if b < 9223372036854775808 then b else 0
  | _ => 0
theorem odd_test (i : Nat) (hi : i < 8) : (FloatKind.f64.format.order (odd i) one64 == some .gt || FloatKind.f64.format.order (odd i) one64 == some .eq) = true := by
  have h : ∀ i : Fin 8, (FloatKind.f64.format.order (odd i.1) one64 == some .gt || FloatKind.f64.format.order (odd i.1) one64 == some .eq) = true := by decide +kernel
  exact h ⟨i, hi⟩
theorem odd_end : (FloatKind.f64.format.order (odd 8) one64 == some .gt || FloatKind.f64.format.order (odd 8) one64 == some .eq) = false := by decide +kernel
theorem odd_next (i : Nat) (hi : i < 8) : fop .sub .f64 (odd i) 4611686018427387904 = odd (i + 1) := by
  have h : ∀ i : Fin 8, fop .sub .f64 (odd i.1) 4611686018427387904 = odd (i.1 + 1) := by decide +kernel
  exact h ⟨i, hi⟩
theorem odd_notN (i : Nat) : isN .f64 (odd i) = false := nearest_notNaN _ _ _ _
theorem odd_lt (i : Nat) (hi : i < 8) : fpos (.float .f64 (odd (i + 1))) < fpos (.float .f64 (odd i)) := by
  have h : ∀ i : Fin 8, fpos (.float .f64 (odd (i.1 + 1))) < fpos (.float .f64 (odd i.1)) := by decide +kernel
  exact h ⟨i, hi⟩

/-- The same where the operation is guarded. -/
theorem upon_fop {P : Program} {w : World} {o : Oper} {a : Act} {K : Act → World → Prop} {Q : Exit → Act → World → Prop} {j : Nat}
    (op : BinOp) (t : TypeId) (k : FloatKind) (x y : Nat) (har : op = .add ∨ op = .sub ∨ op = .mul ∨ op = .quo)
    (hK : ∀ n m, K (a.put o.dst (.float k (pick k (fop op k x y) n))) (w.drewN m)) :
    o.upon P a K Q ((Sem.run P (binOp op t (.float k x) (.float k y)) (w.drewN j)).andThen fun v w' => Result.ok (Next.value v) w') := by
  obtain ⟨n, m, hrun⟩ := run_fop (P := P) (w.drewN j) op har t k x y
  rw [hrun]
  have := hK n (j + m)
  simpa [Result.andThen, Oper.upon] using this

/-! ### roots of float32s -/
theorem Fits_inf {x : Nat} (h : rung Ieee.double x = Ieee.double.infRung) : Fits x := by
  right
  have e' : FloatKind.f64.decode x = .infinity (sgn Ieee.double x) := read_inf .f64 x h
  unfold floatToFloatBits
  rw [if_neg (by decide), e']
  rfl
theorem cvU_bd {v : Nat} (h : rung Ieee.single v < Ieee.single.infRung) : Bd .f64 1202 (cvU v) := by
  have hn : isN .f32 v = false := notN_fin (k := .f32) h
  obtain ⟨_, _, _, c4, c5, _⟩ := cvU_spec hn
  refine .inr ⟨c4.2 h, ?_⟩
  show mg Ieee.double (rung Ieee.double (cvU v)) ≤ 2 ^ 1202
  rw [c5 h]
  have e : (2 : Nat) ^ 1202 = 2 ^ 277 * 2 ^ 925 := by rw [← Nat.pow_add]
  rw [e]
  refine Nat.mul_le_mul_right _ ?_
  have e2 : pr Ieee.single 277 = Ieee.single.infRung := by decide +kernel
  rw [← mg_pr Ieee.single 277, e2]
  exact Nat.le_of_lt (mg_lt _ h)
theorem root_fits (v : Nat) : Fits (fsqrt (cvU v)) := by
  cases hn : isN .f32 v
  · have hnn := hn
    obtain ⟨_, c2, c3, c4, _, c6⟩ := cvU_spec hn
    have h1 := isN_rung' .f32 v
    rw [hn] at h1
    have h2 := of_decide_eq_false h1.symm
    have hf : FloatKind.f32.format = Ieee.single := rfl
    rw [hf] at h2
    by_cases hi : rung Ieee.single v = Ieee.single.infRung
    · have hj := c6.2 hi
      have hr := read_inf .f64 (cvU v) hj
      have hf2 : FloatKind.f64.format = Ieee.double := rfl
      rw [hf2] at hr
      unfold fsqrt Ieee.Format.sqrt
      rw [hr]
      simp only [Ieee.Datum.root]
      split
      · exact .inl (isN_qn .f64)
      · refine Fits_inf ?_
        simp only [Option.map_some, Option.getD_some, Ieee.Format.write]
        exact (word_signs Ieee.double _ _ Ieee.double.infRung_lt).2
    · exact Fits_of_Bd (Bd_mono (sqrtD (c := 1138) (cvU_bd (v := v) (by omega)) (by omega) (by omega)) (by omega))
  · left
    unfold fsqrt
    rw [fsqrt_nan (by rw [isN_cvU]; exact hn)]; exact isN_qn _

/-! ### the sign put on a zero -/
theorem u64_and_sign (v : Nat) (hv : v < 18446744073709551616) : bits .and .u64 (v : Int) 9223372036854775808 = ((if sgn Ieee.double v then 9223372036854775808 else 0 : Nat) : Int) := by
  have key : (BitVec.ofInt 64 (v : Int) &&& BitVec.ofInt 64 9223372036854775808).toNat = v &&& 9223372036854775808 := by
    rw [BitVec.toNat_and, BitVec.toNat_ofInt, BitVec.toNat_ofInt]
    congr 1; omega
  have e2 : v &&& 9223372036854775808 = v % 2 ^ 64 / 2 ^ 63 * 2 ^ 63 := nat_midmask 64 63 v (by decide)
  have e3 : sgn Ieee.double v = (v / 9223372036854775808 % 2 == 1) := rfl
  show IntKind.u64.wrap ((BitVec.ofInt 64 (v : Int) &&& BitVec.ofInt 64 9223372036854775808).toNat : Nat) = _
  rw [key, e2, e3]
  have hw : ∀ n : Nat, n < 18446744073709551616 → IntKind.u64.wrap (n : Int) = n := by
    intro n hn
    rw [IntKind.wrap_u64]; omega
  by_cases h : v / 9223372036854775808 % 2 = 1
  · have e4 : (v / 9223372036854775808 % 2 == 1) = true := by simp [h]
    rw [e4, if_pos rfl, hw _ (by omega)]; omega
  · have e4 : (v / 9223372036854775808 % 2 == 1) = false := by simp [h]
    rw [e4, if_neg (by decide), hw _ (by omega)]; omega
theorem zero_or (b : Bool) : bits .or .u64 0 ((if b then 9223372036854775808 else 0 : Nat) : Int) = ((if b then 9223372036854775808 else 0 : Nat) : Int) := by cases b <;> decide +kernel
theorem zero_andNot : bits .andNot .u64 0 9223372036854775808 = 0 := by decide +kernel
def szero (v : Nat) : Nat := if sgn Ieee.double v then 9223372036854775808 else 0
theorem szero_fits (v : Nat) : Fits (szero v) := by
  unfold szero
  split
  · exact Fits_of_Bd (Bd_const (by decide +kernel))
  · exact Fits_of_Bd (Bd_const (by decide +kernel))
theorem szero_notN (v : Nat) : isN .f64 (szero v) = false := by
  unfold szero; split <;> decide +kernel
theorem szero_flush {v : Nat} (h : subB v = true) : cvN (szero (cvU v)) = flushF v := by
  have hn : isN .f32 v = false := by
    cases hn : isN .f32 v
    · rfl
    · rw [subB_nan hn] at h; cases h
  have h2 : rung Ieee.single v < 8388608 := by
    have := (Bool.and_eq_true_iff.1 h).2
    exact of_decide_eq_true this
  have hs := (cvU_spec hn).2.2.1
  unfold flushF szero
  rw [if_pos h2, hs]
  cases sgn Ieee.single v <;> decide +kernel
theorem flush_not {v : Nat} (hv : v < 4294967296) (h : subB v = false) : flushF v = v := by
  by_cases h2 : rung Ieee.single v < 8388608
  · have h3 : ¬ 0 < rung Ieee.single v := by
      intro h4
      unfold subB at h
      rw [decide_eq_true h4, decide_eq_true h2] at h; cases h
    exact flush_zero v hv (by omega)
  · unfold flushF; rw [if_neg h2]

end Go.Proofs.Ytehcepibmekooad

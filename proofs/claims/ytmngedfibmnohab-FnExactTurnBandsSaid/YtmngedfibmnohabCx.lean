/- Complex numbers and quarters of a turn: plain lemmas. No program in sight. -/
import Derived.Test.YtmngedfibmnohabLg
import Derived.Laws.ComplexArith
set_option linter.unusedSimpArgs false
set_option linter.unusedVariables false
set_option exponentiation.threshold 2000
namespace Go.Proofs.Ytmngedfibmnohab
open Go
/-! ### complex numbers, part by part -/
section
variable {P : Program} (w : World)
theorem run_ftfU (x : Nat) : ∃ n m, (Conv.floatToFloat .f32 x .f64).run P w = .ok (.float .f64 (pick .f64 (cvU x) n)) (w.drewN m) := by
  cases h : isN .f32 x
  · obtain ⟨h1, h2, _⟩ := cvU_spec h
    exact ⟨0, 0, by rw [run_floatToFloat w h1, pick_not h2]; rfl⟩
  · obtain ⟨s, t, e⟩ := read_nan h
    have e' : FloatKind.f32.decode x = .nan s t := e
    refine ⟨w.tape w.drawn (.nanConv .f64 x), 1, ?_⟩
    have e2 : pick .f64 (cvU x) (w.tape w.drawn (.nanConv .f64 x)) = (Question.nanConv .f64 x).cut (w.tape w.drawn (.nanConv .f64 x)) := by
      rw [cvU_qn h]; simp only [pick, isN_qn, if_true]; rfl
    rw [e2]
    simp [Conv.floatToFloat, e', Question.forced, World.drew_is_drewN]
theorem run_ccvU (src dst : TypeId) (x y : Nat) (hs : (P.underlying src).isSome = true) (hd : P.underlying dst = some (.complex .f64)) :
    ∃ n1 n2 m, (convert src dst (.complex .f32 x y)).run P w = .ok (.complex .f64 (pick .f64 (cvU x) n1) (pick .f64 (cvU y) n2)) (w.drewN m) := by
  obtain ⟨n1, m1, h1⟩ := run_ftfU (P := P) w x
  obtain ⟨n2, m2, h2⟩ := run_ftfU (P := P) (w.drewN m1) y
  refine ⟨n1, n2, m1 + m2, ?_⟩
  obtain ⟨u, hs'⟩ := Option.isSome_iff_exists.1 hs
  cases u <;> simp [convert, run_underlying hs', run_underlying hd, Conv.complexToComplex, h1, h2, World.drewN_drewN]
end
theorem wpList_ccvU {P : Program} {w : World} {ops : Array Oper} {rest : List Oper} {o : Oper} {a : Act} {Q : Exit → Act → World → Prop}
    (hg : o.guard = none) (src dst : TypeId) (x : Operand) (hop : o.op = Op.convert src dst x) (hs : (P.underlying src).isSome = true) (hd : P.underlying dst = some (.complex .f64)) (b c : Nat)
    (hx : a.eval x = .complex .f32 b c) (j : Nat)
    (hK : ∀ n1 n2 m, wpList P ops Q rest (a.put o.dst (.complex .f64 (pick .f64 (cvU b) n1) (pick .f64 (cvU c) n2))) (w.drewN m)) :
    wpList P ops Q (o :: rest) a (w.drewN j) := by
  refine wpList_plain hg fun K hK' => ?_
  obtain ⟨n1, n2, m, hrun⟩ := run_ccvU (P := P) (w.drewN j) src dst b c hs hd
  unfold Oper.wp
  simp [execOp, hop, hx, hrun, Result.andThen]
  exact hK' _ _ (hK n1 n2 _)
def RetC (k : FloatKind) (a b : Nat) (w : World) (e : Ending) (w' : World) : Prop := ∃ n1 n2 m, e = .returned (.complex k (pick k a n1) (pick k b n2)) ∧ w' = w.drewN m
/-- What is compared is the value. -/
theorem inat_dummy : True := trivial
def inat : Value → Nat
  | .int _ n => n.toNat
  | _ => 0

/-! ### quarters of a turn -/
def ge25 (x : Nat) : Bool := FloatKind.f64.format.order x 4598175219545276416 == some .gt || FloatKind.f64.format.order x 4598175219545276416 == some .eq
def qs (f : Nat) : Nat → Nat
  | 0 => f
  | i + 1 => fop .sub .f64 (qs f i) 4598175219545276416
theorem qs_succ (f i : Nat) : qs f (i + 1) = fop .sub .f64 (qs f i) 4598175219545276416 := rfl
theorem qs_shift (f : Nat) : ∀ i, qs f (i + 1) = qs (fop .sub .f64 f 4598175219545276416) i
  | 0 => rfl
  | i + 1 => by rw [qs_succ, qs_shift f i]; rfl
def qk (k : Nat) : Nat := fop .mul .f64 4598175219545276416 (floatOfInt .f64 (k : Int))
theorem qk_at (k : Nat) (h : k ≤ 8) : rung Ieee.double (qk k) < Ieee.double.infRung ∧ mg Ieee.double (rung Ieee.double (qk k)) = k * 2 ^ 1072 := by
  have H : ∀ k : Fin 9, rung Ieee.double (qk k.1) < Ieee.double.infRung ∧ mg Ieee.double (rung Ieee.double (qk k.1)) = k.1 * 2 ^ 1072 := by decide +kernel
  exact H ⟨k, by omega⟩
theorem ge25_iff {f : Nat} (hf : rung Ieee.double f < Ieee.double.infRung) (h : ge25 f = true) : sgn Ieee.double f = false ∧ 2 ^ 1072 ≤ mg Ieee.double (rung Ieee.double f) := by
  have hn : isN .f64 f = false := notN_fin (k := .f64) hf
  unfold ge25 at h
  have e : srung FloatKind.f64.format 4598175219545276416 = 4598175219545276416 := by decide +kernel
  rw [order_rungs .f64 f _ hn (by decide +kernel), e] at h
  have hge : (4598175219545276416 : Int) ≤ srung FloatKind.f64.format f := by
    rcases Int.lt_trichotomy (srung FloatKind.f64.format f) 4598175219545276416 with h1 | h1 | h1
    · rw [cmp_of_lt h1] at h; exact absurd h (by decide)
    · omega
    · omega
  have hf' : FloatKind.f64.format = Ieee.double := rfl
  rw [hf'] at hge
  have em : mg Ieee.double 4598175219545276416 = 2 ^ 1072 := by decide +kernel
  unfold srung at hge
  cases hs : sgn Ieee.double f
  · rw [hs] at hge
    simp only [if_false, Bool.false_eq_true] at hge
    refine ⟨rfl, ?_⟩
    rw [← em]
    exact mg_le (by omega)
  · rw [hs] at hge
    simp only [if_true] at hge
    omega
theorem q_step {f k : Nat} (hf : rung Ieee.double f < Ieee.double.infRung) (hg : ge25 f = true) (hk : k ≤ 7) (hm : mg Ieee.double (rung Ieee.double f) ≤ (k + 1) * 2 ^ 1072) :
    rung Ieee.double (fop .sub .f64 f 4598175219545276416) < Ieee.double.infRung ∧ mg Ieee.double (rung Ieee.double (fop .sub .f64 f 4598175219545276416)) ≤ k * 2 ^ 1072 := by
  obtain ⟨sx, h1⟩ := ge25_iff hf hg
  obtain ⟨k1, k2⟩ := qk_at k (by omega)
  obtain ⟨m, i, r1, r2, r3⟩ := read_fin Ieee.double f hf
  have hy : rung Ieee.double 4598175219545276416 < Ieee.double.infRung := by decide +kernel
  obtain ⟨n, j, s1, s2, s3⟩ := read_fin Ieee.double 4598175219545276416 hy
  have em : mg Ieee.double (rung Ieee.double 4598175219545276416) = 2 ^ 1072 := by decide +kernel
  have sy : sgn Ieee.double 4598175219545276416 = false := by decide +kernel
  rw [sx] at r1
  rw [sy] at s1
  rw [em] at s3
  have hfm : FloatKind.f64.format = Ieee.double := rfl
  have e : ∃ b, fop .sub .f64 f 4598175219545276416 = Ieee.double.nearest b (Ieee.signed false m (i - min i j).toNat + Ieee.signed true n (j - min i j).toNat).natAbs (min i j) := by
    unfold fop floatBits Ieee.Format.sub
    rw [hfm]
    simp only [r1, s1, Ieee.Datum.opposite, Ieee.Datum.sum, Bool.not_false]
    exact ⟨_, rfl⟩
  obtain ⟨b, e⟩ := e
  have hle : leRung Ieee.double (Ieee.signed false m (i - min i j).toNat + Ieee.signed true n (j - min i j).toNat).natAbs (min i j) (rung Ieee.double (qk k)) := by
    unfold leRung
    rw [k2]
    rw [← r3] at hm h1
    rw [Nat.succ_mul] at hm
    generalize k * 2 ^ 1072 = KT at hm ⊢
    rw [← s3] at hm h1
    generalize Ieee.double.leastPlace = lp at *
    have e2 : (lp - min i j).toNat = 0 := by omega
    rw [e2, Nat.pow_zero, Nat.mul_one, signed_eq, signed_eq]
    have z1 : (i - lp).toNat = (i - min i j).toNat + (min i j - lp).toNat := by omega
    have z2 : (j - lp).toNat = (j - min i j).toNat + (min i j - lp).toNat := by omega
    rw [z1, z2, Nat.pow_add, Nat.pow_add, ← Nat.mul_assoc, ← Nat.mul_assoc] at hm
    rw [z1, z2, Nat.pow_add, Nat.pow_add, ← Nat.mul_assoc, ← Nat.mul_assoc] at h1
    generalize m * 2 ^ (i - min i j).toNat = X at *
    generalize n * 2 ^ (j - min i j).toNat = Y at *
    have hZ : 0 < 2 ^ (min i j - lp).toNat := Nat.two_pow_pos _
    generalize 2 ^ (min i j - lp).toNat = Z at *
    simp only [if_true, if_false, Bool.false_eq_true]
    have h : Y ≤ X := Nat.le_of_mul_le_mul_right h1 hZ
    have ha : ((X : Int) + -(Y : Int)).natAbs = X - Y := by omega
    rw [ha, Nat.sub_mul]; omega
  obtain ⟨q, e1, e2, e3⟩ := nearest_le Ieee.double b _ _ _ hle
  have hl := Ieee.double.infRung_lt
  have hw := (word_signs Ieee.double b q (by omega)).2
  rw [e, e1, hw, ← k2]
  exact ⟨by omega, mg_le e2⟩
/-- The quarters that are taken off, and what stays. -/
theorem q_all : ∀ (k f : Nat), k ≤ 8 → rung Ieee.double f < Ieee.double.infRung → mg Ieee.double (rung Ieee.double f) ≤ k * 2 ^ 1072 →
    ∃ N, N ≤ k ∧ (∀ i, i < N → ge25 (qs f i) = true) ∧ ge25 (qs f N) = false ∧ (∀ i, i ≤ N → Fb 1075 (qs f i)) := by
  intro k
  induction k with
  | zero =>
    intro f hk hf hm
    refine ⟨0, by omega, by omega, ?_, fun i hi => ?_⟩
    · cases h : ge25 f
      · exact h
      · have := (ge25_iff hf h).2
        have hp : 0 < 2 ^ 1072 := Nat.two_pow_pos _
        omega
    · obtain rfl : i = 0 := by omega
      exact ⟨hf, by show mg Ieee.double (rung Ieee.double f) ≤ _; rw [Nat.zero_mul] at hm; omega⟩
  | succ k ih =>
    intro f hk hf hm
    have h8 : mg Ieee.double (rung Ieee.double f) ≤ 2 ^ 1075 := by
      refine Nat.le_trans hm ?_
      have : (2 : Nat) ^ 1075 = 8 * 2 ^ 1072 := by rw [show (1075 : Nat) = 3 + 1072 from rfl, Nat.pow_add]
      rw [this]
      exact Nat.mul_le_mul_right _ hk
    cases h : ge25 f
    · refine ⟨0, by omega, by omega, h, fun i hi => ?_⟩
      obtain rfl : i = 0 := by omega
      exact ⟨hf, h8⟩
    · obtain ⟨g1, g2⟩ := q_step hf h (by omega) hm
      obtain ⟨N, n1, n2, n3, n4⟩ := ih _ (by omega) g1 g2
      refine ⟨N + 1, by omega, fun i hi => ?_, by rw [qs_shift]; exact n3, fun i hi => ?_⟩
      · cases i with
        | zero => exact h
        | succ i => rw [qs_shift]; exact n2 i (by omega)
      · cases i with
        | zero => exact ⟨hf, h8⟩
        | succ i => rw [qs_shift]; exact n4 i (by omega)
theorem Fb_small {c x : Nat} (h : Fb c x) (hc : c ≤ 1125) : rung Ieee.double x < 4841369599423283200 := by
  rcases Nat.lt_or_ge (rung Ieee.double x) 4841369599423283200 with h1 | h1
  · exact h1
  · have h2 := mg_le h1
    have e : mg Ieee.double 4841369599423283200 = 2 ^ 1126 := by decide +kernel
    have h3 := h.2
    have h4 : (2 : Nat) ^ c ≤ 2 ^ 1125 := Nat.pow_le_pow_right (by decide) hc
    have h5 : (2 : Nat) ^ 1126 = 2 ^ 1125 + 2 ^ 1125 := (Nat.pow_succ 2 1125).trans (Nat.mul_two _)
    have h6 : 0 < 2 ^ 1125 := Nat.two_pow_pos _
    omega
structure SinArg (v : Nat) : Prop where
  ti : floatToIntVal .f64 v .i64 = some (ti v)
  nn : isN .f64 v = false
  s : (FloatKind.f64.format.order (fop .sub .f64 v v) 0 != some .eq) = false
  b1 : (FloatKind.f64.format.order v 4841369599423283200 == some .gt || FloatKind.f64.format.order v 4841369599423283200 == some .eq) = false
  b2 : (FloatKind.f64.format.order v 14064741636278059008 == some .lt || FloatKind.f64.format.order v 14064741636278059008 == some .eq) = false
  bd : Bd .f64 1184 (sinF v)
theorem sinArg {v : Nat} (h : rung Ieee.double v < Ieee.double.infRung) (hb : rung Ieee.double v < 4841369599423283200) : SinArg v := by
  have hw := whole_small hb
  have hn : isN .f64 v = false := notN_fin (k := .f64) h
  have hfin : finB .f64 v = true := decide_eq_true h
  have hss := sub_self_zero .f64 v
  rw [hfin] at hss
  obtain ⟨g1, g2⟩ := big_abs v hn
  rw [g2, decide_eq_false (by omega)] at g1
  have h12 := Bool.or_eq_false_iff.1 g1.symm
  exact ⟨toInt64 h hw, hn, by rw [bne, hss]; rfl, h12.1, h12.2, sinF_bd (partF_bd h hw)⟩
theorem part_fb {v : Nat} (h : rung Ieee.double v < Ieee.double.infRung) (hb : rung Ieee.double v < 4841369599423283200) : Fb 1075 (partF v) := by
  have hw := whole_small hb
  refine Fb_of (partF_bd h hw) ?_
  have hta : (ti v).natAbs = whole v := by unfold ti; split <;> omega
  obtain ⟨o1, _, _⟩ := ofInt_read (t := ti v) (by rw [hta]; exact hw)
  have h1 : isN .f64 (fop .sub .f64 v (floatOfInt .f64 (ti v))) = false := fop_fin_notN (.inr (.inl rfl)) h o1
  have h2 : Fb 1074 (fop .sub .f64 v (floatOfInt .f64 (ti v))) := Fb_of (Bd_frac h hw) h1
  unfold partF
  split
  · exact fop_fin_notN (.inl rfl) h2.1 (by decide +kernel)
  · exact h1

end Go.Proofs.Ytmngedfibmnohab

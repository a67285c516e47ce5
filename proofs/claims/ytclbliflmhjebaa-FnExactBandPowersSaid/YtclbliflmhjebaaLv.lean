/- Steps of a light: the numbers of LevelPicture. -/
import Derived.Test.YtclbliflmhjebaaNr
import Derived.Test.YtclbliflmhjebaaAp
set_option linter.unusedSimpArgs false
set_option linter.unusedVariables false
set_option exponentiation.threshold 2000
namespace Go.Proofs.Ytclbliflmhjebaa
open Go Go.RowKit Go.ChangeShapes Go.WideShapes

theorem upon_ftoi {P : Program} {w : World} {o : Oper} {a : Act} {K : Act → World → Prop} {Q : Exit → Act → World → Prop} {j : Nat}
    (src dst : TypeId) (fk : FloatKind) (k : IntKind) (b : Nat) (n : Int) (hs : (P.underlying src).isSome = true) (hd : P.underlying dst = some (.int k)) (h : floatToIntVal fk b k = some n)
    (hK : K (a.put o.dst (.int k n)) (w.drewN j)) :
    o.upon P a K Q ((Sem.run P (convert src dst (.float fk b)) (w.drewN j)).andThen fun v w' => Result.ok (Next.value v) w') := by
  rw [run_convert_float_int (P := P) (w.drewN j) src dst fk k b n hs hd h]
  simpa [Result.andThen, Oper.upon] using hK
theorem uponW_conv {P : Program} {o : Oper} {a : Act} {w : World} (src dst : TypeId) (x : Operand) (hop : o.op = Op.convert src dst x) (k k' : FloatKind) (b r : Nat)
    (hx : a.eval x = .float k b) (hs : (P.underlying src).isSome = true) (hd : P.underlying dst = some (.float k')) (h : floatToFloatBits k b k' = some r) {next : Value → World → Prop}
    (hK : next (.float k' r) w) : uponW P next ((execOp a.eval o).run P w) := by
  have hrun := run_convert_float_float (P := P) w src dst k k' b r hs hd h
  simp [execOp, hop, hx, hrun, Result.andThen]
  exact hK
theorem narrow_bits {x : Nat} (hn : isN .f64 x = false) (hx : Fits x) : floatToFloatBits .f64 x .f32 = some (cvN x) := by
  rcases hx with hx | hx
  · rw [hn] at hx; cases hx
  obtain ⟨r, hr⟩ := Option.isSome_iff_exists.1 hx
  unfold cvN
  rw [hr]; simp [hn]
theorem mulc32 {x c : Nat} (h1 : isN .f32 x = false) (h2 : 0 ≤ srung Ieee.single x) (h3 : srung Ieee.single x ≤ 1065353216) (k1 : rung Ieee.single c < Ieee.single.infRung) (k2 : mg Ieee.single (rung Ieee.single c) ≤ 2 ^ 165) (k3 : sgn Ieee.single c = false) :
    rung Ieee.single (fop .mul .f32 x c) < Ieee.single.infRung ∧ (sgn Ieee.single (fop .mul .f32 x c) = false ∨ rung Ieee.single (fop .mul .f32 x c) = 0) ∧
    mg Ieee.single (rung Ieee.single (fop .mul .f32 x c)) ≤ 2 ^ 165 := by
  have e0 : Ieee.single.infRung = 2139095040 := by decide +kernel
  have hr : rung Ieee.single x ≤ 1065353216 ∧ (sgn Ieee.single x = true → rung Ieee.single x = 0) := by
    unfold srung at h2 h3
    cases hs : sgn Ieee.single x
    · rw [hs] at h2 h3; simp at h2 h3; exact ⟨by omega, fun h => by cases h⟩
    · rw [hs] at h2 h3; simp at h2 h3; exact ⟨by omega, fun _ => by omega⟩
  have hx1 : rung Ieee.single x < Ieee.single.infRung := by rw [e0]; omega
  have em : mg Ieee.single 1065353216 = 2 ^ 149 := by decide +kernel
  have hx2 : mg Ieee.single (rung Ieee.single x) ≤ 2 ^ 149 := by
    rcases Nat.lt_or_eq_of_le hr.1 with h | h
    · exact Nat.le_of_lt (by rw [← em]; exact mg_lt _ h)
    · rw [h, em]; exact Nat.le_refl _
  obtain ⟨m, e, r1, r2, r3⟩ := read_fin Ieee.single x hx1
  obtain ⟨m', e', q1, q2, q3⟩ := read_fin Ieee.single c k1
  have ef : fop .mul .f32 x c = Ieee.single.nearest (sgn Ieee.single x ^^ sgn Ieee.single c) (m * m') (e + e') := by
    have hff : FloatKind.f32.format = Ieee.single := rfl
    unfold fop floatBits Ieee.Format.mul
    rw [hff]
    simp only [r1, q1, Ieee.Datum.product]
    rfl
  have hnn : isN .f32 (fop .mul .f32 x c) = false := by rw [ef]; exact nearest_notNaN _ _ _ _
  have hb : Bd .f32 165 (fop .mul .f32 x c) := Bd_mul (a := 149) (b := 165) (.inr ⟨hx1, hx2⟩) (.inr ⟨k1, k2⟩) (by decide +kernel) (by decide +kernel)
  rcases hb with hb | ⟨b1, b2⟩
  · rw [hnn] at hb; cases hb
  · refine ⟨b1, ?_, b2⟩
    cases hs : sgn Ieee.single x
    · left; rw [ef, nearest_sgn, hs, k3]; rfl
    · right
      have hm : m = 0 := by
        rw [hr.2 hs, mg_zero] at r3
        rcases Nat.mul_eq_zero.1 r3 with h0 | h0
        · exact h0
        · exact absurd h0 (Nat.ne_of_gt (Nat.two_pow_pos _))
      rw [ef, hm, Nat.zero_mul]; exact nearest_zero _ _ _
theorem add_half {p : Nat} (p1 : rung Ieee.single p < Ieee.single.infRung) (p2 : sgn Ieee.single p = false ∨ rung Ieee.single p = 0) (p3 : mg Ieee.single (rung Ieee.single p) ≤ 2 ^ 165) :
    rung Ieee.single (fop .add .f32 p 1056964608) < Ieee.single.infRung ∧ sgn Ieee.single (fop .add .f32 p 1056964608) = false ∧ mg Ieee.single (rung Ieee.single (fop .add .f32 p 1056964608)) < 2 ^ 172 := by
  have q1 : rung Ieee.single 1056964608 < Ieee.single.infRung := by decide +kernel
  have q2 : sgn Ieee.single 1056964608 = false := by decide +kernel
  have q3 : mg Ieee.single (rung Ieee.single 1056964608) ≤ 2 ^ 165 := by decide +kernel
  generalize 1056964608 = c at *
  have hb : Bd .f32 (165 + 1) (fop .add .f32 p c) := Bd_add (.inr ⟨p1, p3⟩) (.inr ⟨q1, q3⟩) (by decide +kernel)
  obtain ⟨m, i, r1, r2, r3⟩ := read_fin Ieee.single p p1
  obtain ⟨n, j, s1, s2, s3⟩ := read_fin Ieee.single c q1
  have ef : fop .add .f32 p c = Ieee.single.nearest (if Ieee.signed (sgn Ieee.single p) m (i - min i j).toNat + Ieee.signed (sgn Ieee.single c) n (j - min i j).toNat = 0 then (sgn Ieee.single p && sgn Ieee.single c) else decide (Ieee.signed (sgn Ieee.single p) m (i - min i j).toNat + Ieee.signed (sgn Ieee.single c) n (j - min i j).toNat < 0)) (Ieee.signed (sgn Ieee.single p) m (i - min i j).toNat + Ieee.signed (sgn Ieee.single c) n (j - min i j).toNat).natAbs (min i j) := by
    have hff : FloatKind.f32.format = Ieee.single := rfl
    unfold fop floatBits Ieee.Format.add
    rw [hff]
    simp only [r1, s1, Ieee.Datum.sum]
    rfl
  have hnn : isN .f32 (fop .add .f32 p c) = false := by rw [ef]; exact nearest_notNaN _ _ _ _
  have hsg : sgn Ieee.single (fop .add .f32 p c) = false := by
    rw [ef, nearest_sgn, q2, Bool.and_false]
    have h0 : 0 ≤ Ieee.signed (sgn Ieee.single p) m (i - min i j).toNat := by
      rw [signed_eq]
      rcases p2 with h | h
      · rw [h, if_neg (by decide)]; exact Int.natCast_nonneg _
      · have hm : m = 0 := by
          rw [h, mg_zero] at r3
          rcases Nat.mul_eq_zero.1 r3 with h0 | h0
          · exact h0
          · exact absurd h0 (Nat.ne_of_gt (Nat.two_pow_pos _))
        rw [hm]; simp
    have h1 : 0 ≤ Ieee.signed false n (j - min i j).toNat := by rw [signed_eq, if_neg (by decide)]; exact Int.natCast_nonneg _
    split
    · rfl
    · exact decide_eq_false (by omega)
  rcases hb with hb | ⟨b1, b2⟩
  · rw [hnn] at hb; cases hb
  · exact ⟨b1, hsg, Nat.lt_of_le_of_lt b2 (Nat.pow_lt_pow_right (by decide) (by decide))⟩
theorem steps_num {t : Nat} (h1 : 1 ≤ t) (h2 : t ≤ 65535) : rung Ieee.single (floatOfInt .f32 (t : Int)) < Ieee.single.infRung ∧ sgn Ieee.single (floatOfInt .f32 (t : Int)) = false ∧ mg Ieee.single (rung Ieee.single (floatOfInt .f32 (t : Int))) = t * 2 ^ 149 := by
  obtain ⟨r, e, k1, k2⟩ := ofInt32 (t := t) (by omega)
  have hl := Ieee.single.infRung_lt
  obtain ⟨a1, a2⟩ := word_signs Ieee.single false r (by omega)
  rw [e, a1, a2]
  exact ⟨k1, rfl, k2⟩
def stepY (t v : Nat) : Nat := fop .add .f32 (fop .mul .f32 v (floatOfInt .f32 (t : Int))) 1056964608
def stepV (t v : Nat) : Nat := fop .quo .f32 (floatOfInt .f32 (whole32 (stepY t v) : Int)) (floatOfInt .f32 (t : Int))
theorem step_facts {t v : Nat} (h1 : 1 ≤ t) (h2 : t ≤ 65535) (v1 : isN .f32 v = false) (v2 : 0 ≤ srung Ieee.single v) (v3 : srung Ieee.single v ≤ 1065353216) :
    isN .f32 (stepY t v) = false ∧ isN .f64 (cvU (stepY t v)) = false ∧ floatToIntVal .f32 (stepY t v) .i64 = some (whole32 (stepY t v) : Int) ∧ Fits (floorF (cvU (stepY t v))) ∧ cvN (floorF (cvU (stepY t v))) = floatOfInt .f32 (whole32 (stepY t v) : Int) ∧ isN .f64 (floorF (cvU (stepY t v))) = false ∧ whole32 (stepY t v) < 2 ^ 53 := by
  obtain ⟨c1, c2, c3⟩ := steps_num h1 h2
  obtain ⟨p1, p2, p3⟩ := mulc32 v1 v2 v3 c1 (by rw [c3, show (2 : Nat) ^ 165 = 2 ^ 16 * 2 ^ 149 by rw [← Nat.pow_add]]; exact Nat.mul_le_mul_right _ (by omega)) c2
  obtain ⟨y1, y2, y3⟩ := add_half p1 p2 p3
  obtain ⟨f1, f2, f3⟩ := floor_narrow y1 y2 y3
  obtain ⟨b1, b2, b3, b4⟩ := both_whole y1 (.inl y2) (Nat.le_trans (Nat.le_of_lt y3) (Nat.pow_le_pow_right (by decide) (by decide)))
  exact ⟨notN_fin (k := .f32) y1, b2, b1, f1, f2, b3, Nat.lt_of_lt_of_le f3 (Nat.pow_le_pow_right (by decide) (by decide))⟩
theorem step_fin {t v : Nat} (h1 : 1 ≤ t) (h2 : t ≤ 65535) (v1 : isN .f32 v = false) (v2 : 0 ≤ srung Ieee.single v) (v3 : srung Ieee.single v ≤ 1065353216) : rung Ieee.single (stepV t v) < Ieee.single.infRung := by
  obtain ⟨c1, c2, c3⟩ := steps_num h1 h2
  obtain ⟨p1, p2, p3⟩ := mulc32 v1 v2 v3 c1 (by rw [c3, show (2 : Nat) ^ 165 = 2 ^ 16 * 2 ^ 149 by rw [← Nat.pow_add]]; exact Nat.mul_le_mul_right _ (by omega)) c2
  obtain ⟨y1, y2, y3⟩ := add_half p1 p2 p3
  obtain ⟨f1, f2, f3⟩ := floor_narrow y1 y2 y3
  unfold stepV
  have e : whole32 (stepY t v) < 2 ^ 23 := f3
  generalize whole32 (stepY t v) = u at *
  obtain ⟨r, er, k1, k2⟩ := ofInt32 (t := u) e
  have hl := Ieee.single.infRung_lt
  obtain ⟨a1, a2⟩ := word_signs Ieee.single false r (by omega)
  rw [← er] at a1 a2
  have u1 : rung Ieee.single (floatOfInt .f32 (u : Int)) < Ieee.single.infRung := by rw [a2]; exact k1
  have u2 : mg Ieee.single (rung Ieee.single (floatOfInt .f32 (u : Int))) ≤ 2 ^ 172 := by
    rw [a2, k2, show (2 : Nat) ^ 172 = 2 ^ 23 * 2 ^ 149 by rw [← Nat.pow_add]]; exact Nat.mul_le_mul_right _ (by omega)
  have l1 : 2 ^ 149 ≤ mg Ieee.single (rung Ieee.single (floatOfInt .f32 (t : Int))) := by
    rw [c3]; exact Nat.le_mul_of_pos_left _ (by omega)
  clear er a1 a2 k1 k2 c2 c3 p1 p2 p3 y1 y2 y3 f1 f2 f3
  generalize floatOfInt .f32 (t : Int) = c at *
  generalize floatOfInt .f32 (u : Int) = x at *
  have hb : Bd .f32 172 (fop .quo .f32 x c) := Bd_quo (a := 172) (b := 149) (.inr ⟨u1, u2⟩) ⟨c1, l1⟩ (by decide +kernel) (by decide +kernel)
  obtain ⟨m, i, r1, r2, r3⟩ := read_fin Ieee.single x u1
  obtain ⟨n, j, s1, s2, s3⟩ := read_fin Ieee.single c c1
  have hn : n ≠ 0 := by
    rintro rfl
    rw [← s3, Nat.zero_mul] at l1
    have := Nat.two_pow_pos 149; omega
  have hnn : isN .f32 (fop .quo .f32 x c) = false := by
    have hff : FloatKind.f32.format = Ieee.single := rfl
    unfold fop floatBits Ieee.Format.div
    rw [hff]
    simp only [r1, s1, Ieee.Datum.quotient, if_neg hn]
    exact nearest_notNaN _ _ _ _
  rcases hb with hb | ⟨b1, b2⟩
  · rw [hnn] at hb; cases hb
  · exact b1
end Go.Proofs.Ytclbliflmhjebaa

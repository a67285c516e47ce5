/- Narrowing what is exact: a whole number of few digits is the same 32-bit number both ways. -/
import Derived.Test.YtclbliflmhjebaaTi
set_option linter.unusedSimpArgs false
set_option linter.unusedVariables false
set_option exponentiation.threshold 2000
namespace Go.Proofs.Ytclbliflmhjebaa
open Go Go.RowKit Go.ChangeShapes Go.WideShapes

theorem nearest_is (f : Ieee.Format) (s : Bool) (m : Nat) (e : Int) (r : Nat) (hr : r ≤ f.infRung) (h1 : leRung f m e r) (h2 : geRung f m e r) : f.nearest s m e = f.word s r := by
  obtain ⟨q, a1, a2, a3⟩ := nearest_le f s m e r h1
  obtain ⟨q', b1, b2, b3⟩ := nearest_ge f s m e r hr h2
  have hl := f.infRung_lt
  have e1 := (word_signs f s q (by omega)).2
  have e2 := (word_signs f s q' (by omega)).2
  rw [← a1] at e1
  rw [← b1] at e2
  rw [a1]
  have : q = r := by omega
  rw [this]
theorem narrow_exact {y r : Nat} (hy : rung Ieee.double y < Ieee.double.infRung) (hr : r < Ieee.single.infRung) (hm : mg Ieee.double (rung Ieee.double y) = mg Ieee.single r * 2 ^ 925) : Fits y ∧ cvN y = Ieee.single.word (sgn Ieee.double y) r := by
  obtain ⟨m, e, r1, r2, r3⟩ := read_fin Ieee.double y hy
  have d1 : Ieee.double.leastPlace = -1074 := by decide +kernel
  have d2 : Ieee.single.leastPlace = -149 := by decide +kernel
  rw [d1] at r2 r3
  rw [hm] at r3
  have heq : m * 2 ^ (e - -149).toNat = mg Ieee.single r * 2 ^ (-149 - e).toNat := by
    by_cases hp : -149 ≤ e
    · have e1 : (e - -1074).toNat = (e - -149).toNat + 925 := by omega
      have e2 : (-149 - e).toNat = 0 := by omega
      rw [e1, Nat.pow_add, ← Nat.mul_assoc] at r3
      rw [e2, Nat.pow_zero, Nat.mul_one]
      exact Nat.eq_of_mul_eq_mul_right (Nat.two_pow_pos _) r3
    · have e1 : (e - -149).toNat = 0 := by omega
      have e2 : 925 = (-149 - e).toNat + (e - -1074).toNat := by omega
      have e3 : (2 : Nat) ^ 925 = 2 ^ (-149 - e).toNat * 2 ^ (e - -1074).toNat := by
        rw [← Nat.pow_add]; exact congrArg _ e2
      rw [e3, ← Nat.mul_assoc] at r3
      rw [e1, Nat.pow_zero, Nat.mul_one]
      exact Nat.eq_of_mul_eq_mul_right (Nat.two_pow_pos _) r3
  have hn : Ieee.single.nearest (sgn Ieee.double y) m e = Ieee.single.word (sgn Ieee.double y) r :=
    nearest_is _ _ _ _ _ (Nat.le_of_lt hr) (by unfold leRung; rw [d2]; exact Nat.le_of_eq heq) (by unfold geRung; rw [d2]; exact Nat.le_of_eq heq.symm)
  have hb : floatToFloatBits .f64 y .f32 = some (Ieee.single.word (sgn Ieee.double y) r) := by
    unfold floatToFloatBits
    rw [if_neg (by decide)]
    have e' : FloatKind.f64.decode y = .number (sgn Ieee.double y) m e := r1
    rw [e']
    dsimp only
    have e'' : FloatKind.f32.encode (.number (sgn Ieee.double y) m e) = Ieee.single.word (sgn Ieee.double y) r := hn
    rw [e'']
    have hl := Ieee.single.infRung_lt
    have hw : rung Ieee.single (Ieee.single.word (sgn Ieee.double y) r) = r := (word_signs Ieee.single _ r (by omega)).2
    have hi := isInf_rung .f32 (Ieee.single.word (sgn Ieee.double y) r)
    have hf : FloatKind.f32.format = Ieee.single := rfl
    rw [hf, hw, decide_eq_false (by omega)] at hi
    have hi' : (FloatKind.f32.decode (Ieee.single.word (sgn Ieee.double y) r)).isInfinity = false := hi
    rw [hi']
    rfl
  exact ⟨.inr (by rw [hb]; rfl), by unfold cvN; rw [hb]; rfl⟩
theorem ofInt32 {t : Nat} (ht : t < 2 ^ 23) : ∃ r, floatOfInt .f32 (t : Int) = Ieee.single.word false r ∧ r < Ieee.single.infRung ∧ mg Ieee.single r = t * 2 ^ 149 := by
  have ef : floatOfInt .f32 (t : Int) = Ieee.single.nearest (decide ((t : Int) < 0)) (t : Int).natAbs 0 := rfl
  rw [ef, decide_eq_false (by omega), Int.natAbs_natCast]
  have d2 : Ieee.single.leastPlace = -149 := by decide +kernel
  have d3 : Ieee.single.fractionBits = 23 := rfl
  have d4 : Ieee.single.infRung = 2139095040 := by decide +kernel
  have d5 : Ieee.single.binade = 8388608 := by decide +kernel
  by_cases h0 : t = 0
  · subst h0
    refine ⟨0, by unfold Ieee.Format.nearest; rw [if_pos rfl], by rw [d4]; omega, by rw [mg_zero, Nat.zero_mul]⟩
  · have hlog : t.log2 < 23 := (Nat.log2_lt h0).2 ht
    have hk := shl_lt_of_log2 (m := t) (fb := 23) rfl (by omega) h0
    obtain ⟨r, q1, q2, q3⟩ := nearest_exact Ieee.single false t 0 h0 (by rw [d3]; omega) (by rw [d2, d3]; omega) (by
      rw [d2, d3, d4, d5]
      have e1 : ((0 : Int) + (t.log2 : Int) - ((23 : Nat) : Int) - -149).toNat ≤ 149 := by omega
      have e2 : ((0 : Int) + (t.log2 : Int) - ((23 : Nat) : Int) - -149).toNat * 8388608 ≤ 149 * 8388608 := Nat.mul_le_mul_right _ e1
      have e3 : (2 : Nat) * 2 ^ 23 = 16777216 := by decide
      rw [e3] at hk
      omega)
    rw [d2] at q3
    exact ⟨r, q1, q2, q3⟩
/-- The floor of a 32-bit number that is not negative, narrowed again: the 32-bit number of its whole part. -/
theorem floor_narrow {y : Nat} (h : rung Ieee.single y < Ieee.single.infRung) (hs : sgn Ieee.single y = false) (hm : mg Ieee.single (rung Ieee.single y) < 2 ^ 172) :
    Fits (floorF (cvU y)) ∧ cvN (floorF (cvU y)) = floatOfInt .f32 (whole32 y : Int) ∧ whole32 y < 2 ^ 23 := by
  have hn : isN .f32 y = false := notN_fin (k := .f32) h
  obtain ⟨_, c2, c3, c4, c5, _⟩ := cvU_spec hn
  have hw : whole32 y < 2 ^ 23 := by
    unfold whole32
    rw [Nat.div_lt_iff_lt_mul (Nat.two_pow_pos _), ← Nat.pow_add]; exact hm
  have hws : whole (cvU y) = whole32 y := by
    unfold whole whole32
    rw [c5 h, show (2 : Nat) ^ 1074 = 2 ^ 149 * 2 ^ 925 by rw [← Nat.pow_add], Nat.mul_div_mul_right _ _ (Nat.two_pow_pos _)]
  have hd : rung Ieee.double (cvU y) < Ieee.double.infRung := c4.2 h
  have h53 : whole (cvU y) < 2 ^ 53 := by rw [hws]; exact Nat.lt_trans hw (by decide +kernel)
  obtain ⟨m, e, r1, r2, r3⟩ := read_fin Ieee.double (cvU y) hd
  have d1 : Ieee.double.leastPlace = -1074 := by decide +kernel
  rw [d1] at r2 r3
  rw [c3, hs] at r1
  have e1 : floorF (cvU y) = floatOfInt .f64 (whole (cvU y) : Int) := by
    unfold floorF
    rw [r1]
    show Ieee.double.nearest false (Ieee.Toward.down.cut false (m <<< e.toNat) (-e).toNat) 0 = _
    rw [cut_down_way, whole_cut r2 r3]
    have ef : floatOfInt .f64 (whole (cvU y) : Int) = Ieee.double.nearest (decide ((whole (cvU y) : Int) < 0)) (whole (cvU y) : Int).natAbs 0 := rfl
    rw [ef, decide_eq_false (by omega), Int.natAbs_natCast]
  obtain ⟨a1, a2, a3⟩ := ofInt_read (t := (whole (cvU y) : Int)) (by rw [Int.natAbs_natCast]; exact h53)
  rw [← e1] at a1 a2 a3
  rw [Int.natAbs_natCast, hws] at a2
  rw [decide_eq_false (by omega)] at a3
  obtain ⟨r, q1, q2, q3⟩ := ofInt32 hw
  obtain ⟨f1, f2⟩ := narrow_exact (r := r) a1 q2 (by rw [a2, q3, Nat.mul_assoc, ← Nat.pow_add])
  rw [a3] at f2
  exact ⟨f1, by rw [f2, q1], hw⟩
end Go.Proofs.Ytclbliflmhjebaa

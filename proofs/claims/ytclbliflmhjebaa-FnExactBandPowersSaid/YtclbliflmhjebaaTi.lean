/- Integers out of floats: what stands before the point of a number that is not negative. -/
import Derived.Test.YtclbliflmhjebaaLg
set_option linter.unusedSimpArgs false
set_option linter.unusedVariables false
set_option exponentiation.threshold 2000
namespace Go.Proofs.Ytclbliflmhjebaa
open Go Go.RowKit Go.ChangeShapes Go.WideShapes

def whole32 (x : Nat) : Nat := mg Ieee.single (rung Ieee.single x) / 2 ^ 149
def ti32 (x : Nat) : Int := if sgn Ieee.single x then -(whole32 x : Int) else whole32 x
theorem toInt_ti32 {x : Nat} (h : rung Ieee.single x < Ieee.single.infRung) : (FloatKind.f32.decode x).toInt .zero = some (ti32 x) := by
  obtain ⟨m, e, r1, r2, r3⟩ := read_fin Ieee.single x h
  have d1 : Ieee.single.leastPlace = -149 := by decide +kernel
  rw [d1] at r2 r3
  have e' : FloatKind.f32.decode x = .number (sgn Ieee.single x) m e := r1
  rw [e']
  simp only [Ieee.Datum.toInt, Ieee.Datum.integral]
  have hw : Ieee.Toward.zero.cut (sgn Ieee.single x) (m <<< e.toNat) (-e).toNat = whole32 x := by
    rw [cut_zero_way, Nat.shiftLeft_eq]
    unfold whole32
    rw [← r3]
    by_cases hp : 0 ≤ e
    · have e1 : (-e).toNat = 0 := by omega
      have e2 : (e - -149).toNat = e.toNat + 149 := by omega
      rw [e1, e2, Nat.pow_zero, Nat.div_one, Nat.pow_add, ← Nat.mul_assoc, Nat.mul_div_cancel _ (Nat.two_pow_pos _)]
    · have e1 : e.toNat = 0 := by omega
      rw [e1, Nat.pow_zero, Nat.mul_one]
      have e2 : 149 = (e - -149).toNat + (-e).toNat := by omega
      have e3 : (2 : Nat) ^ 149 = 2 ^ (e - -149).toNat * 2 ^ (-e).toNat := by rw [← Nat.pow_add]; exact congrArg _ e2
      rw [e3, Nat.mul_comm m, Nat.mul_div_mul_left _ _ (Nat.two_pow_pos _)]
  rw [hw, signed_eq]
  unfold ti32
  simp
theorem toInt32 {x : Nat} (h : rung Ieee.single x < Ieee.single.infRung) (hw : whole32 x < 2 ^ 53) : floatToIntVal .f32 x .i64 = some (ti32 x) := by
  unfold floatToIntVal
  rw [toInt_ti32 h]
  dsimp only
  have h1 : IntKind.i64.min = -9223372036854775808 := by decide
  have h2 : IntKind.i64.max = 9223372036854775807 := by decide
  have h3 : (2 : Nat) ^ 53 = 9007199254740992 := by decide
  rw [h3] at hw
  rw [if_pos]
  rw [h1, h2]; unfold ti32; split <;> omega
theorem nearest_sgn (f : Ieee.Format) (neg : Bool) (mag : Nat) (place : Int) : sgn f (f.nearest neg mag place) = neg := by
  unfold Ieee.Format.nearest
  split
  · exact (word_signs f neg 0 (Nat.lt_of_le_of_lt (Nat.zero_le _) f.infRung_lt)).1
  · exact (word_signs f neg _ (Nat.lt_of_le_of_lt (Nat.min_le_right _ _) f.infRung_lt)).1
theorem nearest_zero (f : Ieee.Format) (neg : Bool) (place : Int) : rung f (f.nearest neg 0 place) = 0 := by
  unfold Ieee.Format.nearest
  rw [if_pos rfl]
  exact (word_signs f neg 0 (Nat.lt_of_le_of_lt (Nat.zero_le _) f.infRung_lt)).2
theorem cut_down_way (n d : Nat) : Ieee.Toward.down.cut false n d = n / 2 ^ d := by
  unfold Ieee.Toward.cut
  dsimp only
  simp only [Bool.toNat_false, Bool.false_and, Nat.add_zero, Nat.one_shiftLeft]
  by_cases hd : d ≤ n.log2 + 2
  · rw [Nat.min_eq_left hd]
  · rw [Nat.min_eq_right (by omega)]
    have h1 : n < 2 ^ (n.log2 + 1) := Nat.lt_log2_self
    have h2 : 2 ^ (n.log2 + 2) = 2 * 2 ^ (n.log2 + 1) := by rw [Nat.pow_succ, Nat.mul_comm]
    have h3 : 2 ^ (n.log2 + 2) ≤ 2 ^ d := Nat.pow_le_pow_right (by decide) (by omega)
    rw [Nat.div_eq_of_lt (by omega), Nat.div_eq_of_lt (by omega)]
theorem cut_down_zero (s : Bool) (d : Nat) : Ieee.Toward.down.cut s 0 d = 0 := by
  unfold Ieee.Toward.cut
  dsimp only
  simp
theorem whole_cut {v m : Nat} {e : Int} (r2 : -1074 ≤ e) (r3 : m * 2 ^ (e - -1074).toNat = mg Ieee.double (rung Ieee.double v)) : m <<< e.toNat / 2 ^ (-e).toNat = whole v := by
  rw [Nat.shiftLeft_eq]
  unfold whole
  rw [← r3]
  by_cases hp : 0 ≤ e
  · have e1 : (-e).toNat = 0 := by omega
    have e2 : (e - -1074).toNat = e.toNat + 1074 := by omega
    rw [e1, e2, Nat.pow_zero, Nat.div_one, Nat.pow_add, ← Nat.mul_assoc, Nat.mul_div_cancel _ (Nat.two_pow_pos _)]
  · have e1 : e.toNat = 0 := by omega
    rw [e1, Nat.pow_zero, Nat.mul_one]
    have e2 : 1074 = (e - -1074).toNat + (-e).toNat := by omega
    have e3 : (2 : Nat) ^ 1074 = 2 ^ (e - -1074).toNat * 2 ^ (-e).toNat := by rw [← Nat.pow_add]; exact congrArg _ e2
    rw [e3, Nat.mul_comm m, Nat.mul_div_mul_left _ _ (Nat.two_pow_pos _)]
/-- The floor of a number that is not negative. -/
theorem floor_whole {v : Nat} (h : rung Ieee.double v < Ieee.double.infRung) (hs : sgn Ieee.double v = false ∨ rung Ieee.double v = 0) (hw : whole v < 2 ^ 53) :
    rung Ieee.double (floorF v) < Ieee.double.infRung ∧ whole (floorF v) = whole v ∧ ti (floorF v) = (whole v : Int) := by
  obtain ⟨m, e, r1, r2, r3⟩ := read_fin Ieee.double v h
  have d1 : Ieee.double.leastPlace = -1074 := by decide +kernel
  rw [d1] at r2 r3
  have hl := Ieee.double.infRung_lt
  rcases hs with hs | hs
  · rw [hs] at r1
    have e1 : floorF v = floatOfInt .f64 (whole v : Int) := by
      unfold floorF
      rw [r1]
      show Ieee.double.nearest false (Ieee.Toward.down.cut false (m <<< e.toNat) (-e).toNat) 0 = _
      rw [cut_down_way, whole_cut r2 r3]
      have ef : floatOfInt .f64 (whole v : Int) = Ieee.double.nearest (decide ((whole v : Int) < 0)) (whole v : Int).natAbs 0 := rfl
      rw [ef, decide_eq_false (by omega), Int.natAbs_natCast]
    obtain ⟨a1, a2, a3⟩ := ofInt_read (t := (whole v : Int)) (by rw [Int.natAbs_natCast]; exact hw)
    rw [← e1] at a1 a2 a3
    rw [Int.natAbs_natCast] at a2
    have hww : whole (floorF v) = whole v := by
      show mg Ieee.double (rung Ieee.double (floorF v)) / 2 ^ 1074 = _
      rw [a2, Nat.mul_div_cancel _ (Nat.two_pow_pos _)]
    refine ⟨a1, hww, ?_⟩
    unfold ti
    rw [a3, decide_eq_false (by omega), hww]; rfl
  · have hm : m = 0 := by
      rw [hs, mg_zero] at r3
      rcases Nat.mul_eq_zero.1 r3 with h0 | h0
      · exact h0
      · exact absurd h0 (Nat.ne_of_gt (Nat.two_pow_pos _))
    subst hm
    have e1 : floorF v = Ieee.double.nearest (sgn Ieee.double v) 0 0 := by
      unfold floorF
      rw [r1]
      show Ieee.double.nearest _ (Ieee.Toward.down.cut _ (0 <<< e.toNat) (-e).toNat) 0 = _
      rw [Nat.zero_shiftLeft, cut_down_zero]
    have e2 : rung Ieee.double (floorF v) = 0 := by rw [e1]; exact nearest_zero _ _ _
    have e3 : whole v = 0 := by unfold whole; rw [hs, mg_zero, Nat.zero_div]
    have e4 : whole (floorF v) = 0 := by unfold whole; rw [e2, mg_zero, Nat.zero_div]
    refine ⟨by rw [e2]; decide +kernel, by rw [e4, e3], ?_⟩
    unfold ti
    rw [e4, e3]; split <;> rfl
/-- 32-bit numbers, not negative, at most 2^c: their whole part, told both ways. -/
theorem both_whole {u : Nat} (h : rung Ieee.single u < Ieee.single.infRung) (hs : sgn Ieee.single u = false ∨ rung Ieee.single u = 0) (hm : mg Ieee.single (rung Ieee.single u) ≤ 2 ^ 180) :
    floatToIntVal .f32 u .i64 = some (whole32 u : Int) ∧ isN .f64 (cvU u) = false ∧ isN .f64 (floorF (cvU u)) = false ∧ floatToIntVal .f64 (floorF (cvU u)) .i64 = some (whole32 u : Int) := by
  have hn : isN .f32 u = false := notN_fin (k := .f32) h
  obtain ⟨_, c2, c3, c4, c5, _⟩ := cvU_spec hn
  have hw : whole32 u < 2 ^ 53 := by
    unfold whole32
    have h1 : mg Ieee.single (rung Ieee.single u) / 2 ^ 149 ≤ 2 ^ 180 / 2 ^ 149 := Nat.div_le_div_right hm
    have h2 : (2 : Nat) ^ 180 / 2 ^ 149 = 2 ^ 31 := by decide +kernel
    have h3 : (2 : Nat) ^ 31 < 2 ^ 53 := by decide +kernel
    omega
  have hws : whole (cvU u) = whole32 u := by
    unfold whole whole32
    rw [c5 h, show (2 : Nat) ^ 1074 = 2 ^ 149 * 2 ^ 925 by rw [← Nat.pow_add], Nat.mul_div_mul_right _ _ (Nat.two_pow_pos _)]
  have hd : rung Ieee.double (cvU u) < Ieee.double.infRung := c4.2 h
  have hz : rung Ieee.single u = 0 → rung Ieee.double (cvU u) = 0 := by
    intro h0
    have e1 := c5 h
    rw [h0, mg_zero, Nat.zero_mul] at e1
    rcases Nat.eq_zero_or_pos (rung Ieee.double (cvU u)) with h9 | h9
    · exact h9
    · have := mg_lt Ieee.double h9
      rw [e1, mg_zero] at this; omega
  obtain ⟨f1, f2, f3⟩ := floor_whole hd (by rcases hs with h9 | h9; · exact .inl (by rw [c3]; exact h9)
                                            · exact .inr (hz h9)) (by rw [hws]; exact hw)
  refine ⟨?_, c2, notN_fin (k := .f64) f1, ?_⟩
  · rw [toInt32 h hw]
    unfold ti32
    rcases hs with h9 | h9
    · rw [h9]; rfl
    · have : whole32 u = 0 := by unfold whole32; rw [h9, mg_zero, Nat.zero_div]
      rw [this]; split <;> rfl
  · rw [toInt64 f1 (by rw [f2, hws]; exact hw), f3, hws]
/-- A product of a share and of a small whole number. -/
theorem consts_ok : ((List.range 17).all fun n => decide (rung Ieee.single (floatOfInt .f32 (n : Int)) < Ieee.single.infRung ∧ mg Ieee.single (rung Ieee.single (floatOfInt .f32 (n : Int))) ≤ 2 ^ 153 ∧ sgn Ieee.single (floatOfInt .f32 (n : Int)) = false)) = true := by decide +kernel
theorem share_mul {x n : Nat} (h1 : isN .f32 x = false) (h2 : 0 ≤ srung Ieee.single x) (h3 : srung Ieee.single x ≤ 1065353216) (hn : n ≤ 16) :
    rung Ieee.single (fop .mul .f32 x (floatOfInt .f32 (n : Int))) < Ieee.single.infRung ∧ (sgn Ieee.single (fop .mul .f32 x (floatOfInt .f32 (n : Int))) = false ∨ rung Ieee.single (fop .mul .f32 x (floatOfInt .f32 (n : Int))) = 0) ∧
    mg Ieee.single (rung Ieee.single (fop .mul .f32 x (floatOfInt .f32 (n : Int)))) ≤ 2 ^ 180 := by
  have hc := (List.all_eq_true.1 consts_ok) n (by simp; omega)
  have hc2 := of_decide_eq_true hc
  obtain ⟨k1, k2, k3⟩ := hc2
  generalize floatOfInt .f32 (n : Int) = c at *
  have e0 : Ieee.single.infRung = 2139095040 := by decide +kernel
  have hr : rung Ieee.single x ≤ 1065353216 ∧ (sgn Ieee.single x = true → rung Ieee.single x = 0) := by
    unfold srung at h2 h3
    cases hs : sgn Ieee.single x
    · rw [hs] at h2 h3; simp at h2 h3; exact ⟨by omega, fun h => by cases h⟩
    · rw [hs] at h2 h3; simp at h2 h3; exact ⟨by omega, fun _ => by omega⟩
  have hx1 : rung Ieee.single x < Ieee.single.infRung := by rw [e0]; omega
  have em : mg Ieee.single 1065353216 = 2 ^ 149 := by decide +kernel
  have hx2 : mg Ieee.single (rung Ieee.single x) ≤ 2 ^ 149 := by
    rcases Nat.lt_or_eq_of_le hr.1 with h | h
    · exact Nat.le_of_lt (by rw [← em]; exact mg_lt _ h)
    · rw [h, em]; exact Nat.le_refl _
  obtain ⟨m, e, r1, r2, r3⟩ := read_fin Ieee.single x hx1
  obtain ⟨m', e', q1, q2, q3⟩ := read_fin Ieee.single c k1
  have ef : fop .mul .f32 x c = Ieee.single.nearest (sgn Ieee.single x ^^ sgn Ieee.single c) (m * m') (e + e') := by
    have hff : FloatKind.f32.format = Ieee.single := rfl
    unfold fop floatBits Ieee.Format.mul
    rw [hff]
    simp only [r1, q1, Ieee.Datum.product]
    rfl
  have hnn : isN .f32 (fop .mul .f32 x c) = false := by rw [ef]; exact nearest_notNaN _ _ _ _
  have hb : Bd .f32 153 (fop .mul .f32 x c) := Bd_mul (a := 149) (b := 153) (.inr ⟨hx1, hx2⟩) (.inr ⟨k1, k2⟩) (by decide +kernel) (by decide +kernel)
  rcases hb with hb | ⟨b1, b2⟩
  · rw [hnn] at hb; cases hb
  · refine ⟨b1, ?_, Nat.le_trans b2 (Nat.pow_le_pow_right (by decide) (by decide))⟩
    cases hs : sgn Ieee.single x
    · left; rw [ef, nearest_sgn, hs, k3]; rfl
    · right
      have hm : m = 0 := by
        rw [hr.2 hs, mg_zero] at r3
        rcases Nat.mul_eq_zero.1 r3 with h0 | h0
        · exact h0
        · exact absurd h0 (Nat.ne_of_gt (Nat.two_pow_pos _))
      rw [ef, hm, Nat.zero_mul]; exact nearest_zero _ _ _
theorem wpList_ftoi32 {P : Program} {w : World} {ops : Array Oper} {rest : List Oper} {o : Oper} {a : Act} {Q : Exit → Act → World → Prop}
    (hg : o.guard = none) (src dst : TypeId) (x : Operand) (hop : o.op = Op.convert src dst x) (hs : (P.underlying src).isSome = true) (k : IntKind) (hd : P.underlying dst = some (.int k)) (b : Nat) (n : Int)
    (hx : a.eval x = .float .f32 b) (h : floatToIntVal .f32 b k = some n)
    (hK : wpList P ops Q rest (a.put o.dst (.int k n)) w) :
    wpList P ops Q (o :: rest) a w := by
  refine wpList_plain hg fun K hK' => ?_
  have hrun := run_convert_float_int (P := P) w src dst .f32 k b n hs hd h
  unfold Oper.wp
  simp [execOp, hop, hx, hrun, Result.andThen]
  exact hK' _ _ hK
end Go.Proofs.Ytclbliflmhjebaa

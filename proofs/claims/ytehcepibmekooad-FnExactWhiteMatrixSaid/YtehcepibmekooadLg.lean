/- Logarithms and what is finite: plain lemmas. No program in sight. -/
import Derived.Test.YtehcepibmekooadFl
set_option linter.unusedSimpArgs false
set_option linter.unusedVariables false
set_option exponentiation.threshold 2000
namespace Go.Proofs.Ytehcepibmekooad
open Go
/-! ### finite results -/
def Fb (c x : Nat) : Prop := rung Ieee.double x < Ieee.double.infRung ∧ mg Ieee.double (rung Ieee.double x) ≤ 2 ^ c
theorem Fb.bd {c x : Nat} (h : Fb c x) : Bd .f64 c x := .inr h
theorem Fb.notN {c x : Nat} (h : Fb c x) : isN .f64 x = false := notN_fin (k := .f64) h.1
theorem Fb_of {c x : Nat} (h : Bd .f64 c x) (hn : isN .f64 x = false) : Fb c x := by
  rcases h with h | h
  · rw [hn] at h; cases h
  · exact h
theorem Fb_const {c x : Nat} (h : decide (rung Ieee.double x < Ieee.double.infRung ∧ mg Ieee.double (rung Ieee.double x) ≤ 2 ^ c) = true) : Fb c x := of_decide_eq_true (p := rung Ieee.double x < Ieee.double.infRung ∧ mg Ieee.double (rung Ieee.double x) ≤ 2 ^ c) h
theorem Fb_mono {c d x : Nat} (h : Fb c x) (hd : c ≤ d) : Fb d x := ⟨h.1, Nat.le_trans h.2 (Nat.pow_le_pow_right (by decide) hd)⟩
theorem fop_fin_notN {op : BinOp} {x y : Nat} (hop : op = .add ∨ op = .sub ∨ op = .mul) (hx : rung Ieee.double x < Ieee.double.infRung) (hy : rung Ieee.double y < Ieee.double.infRung) : isN .f64 (fop op .f64 x y) = false := by
  obtain ⟨m, i, r1, _, _⟩ := read_fin Ieee.double x hx
  obtain ⟨n, j, s1, _, _⟩ := read_fin Ieee.double y hy
  have hf : FloatKind.f64.format = Ieee.double := rfl
  have hs : ∃ r, floatBits op .f64 x y = some r := by
    unfold floatBits
    rw [hf]
    rcases hop with rfl | rfl | rfl
    · simp only [Ieee.Format.add, r1, s1, Ieee.Datum.sum]; exact ⟨_, rfl⟩
    · simp only [Ieee.Format.sub, r1, s1, Ieee.Datum.opposite, Ieee.Datum.sum]; exact ⟨_, rfl⟩
    · simp only [Ieee.Format.mul, r1, s1, Ieee.Datum.product]; exact ⟨_, rfl⟩
  obtain ⟨r, hr⟩ := hs
  unfold fop; rw [hr]; exact bits_notNaN hr
theorem quo_fin_notN {b x y : Nat} (hx : rung Ieee.double x < Ieee.double.infRung) (hy : Lb .f64 b y) : isN .f64 (fop .quo .f64 x y) = false := by
  obtain ⟨hy1, hy2⟩ := hy
  obtain ⟨m, i, r1, _, _⟩ := read_fin Ieee.double x hx
  obtain ⟨n, j, s1, _, s3⟩ := read_fin Ieee.double y hy1
  have hn : n ≠ 0 := by
    rintro rfl
    have hy2' : 2 ^ b ≤ mg Ieee.double (rung Ieee.double y) := hy2
    rw [← s3, Nat.zero_mul] at hy2'
    have := Nat.two_pow_pos b; omega
  have hf : FloatKind.f64.format = Ieee.double := rfl
  have hs : ∃ r, floatBits .quo .f64 x y = some r := by
    unfold floatBits
    rw [hf]
    simp only [Ieee.Format.div, r1, s1, Ieee.Datum.quotient, if_neg hn]; exact ⟨_, rfl⟩
  obtain ⟨r, hr⟩ := hs
  unfold fop; rw [hr]; exact bits_notNaN hr
theorem mulF {a b c x y : Nat} (hx : Fb a x) (hy : Fb b y) (h : a + b ≤ c + 1074) (hc : c ≤ 2000) : Fb c (fop .mul .f64 x y) := Fb_of (mulD hx.bd hy.bd h hc) (fop_fin_notN (.inr (.inr rfl)) hx.1 hy.1)
theorem addF {a b c x y : Nat} (hx : Fb a x) (hy : Fb b y) (h1 : a + 1 ≤ c) (h2 : b + 1 ≤ c) (hc : c ≤ 2000) : Fb c (fop .add .f64 x y) := Fb_of (addD hx.bd hy.bd h1 h2 hc) (fop_fin_notN (.inl rfl) hx.1 hy.1)
theorem subF {a b c x y : Nat} (hx : Fb a x) (hy : Fb b y) (h1 : a + 1 ≤ c) (h2 : b + 1 ≤ c) (hc : c ≤ 2000) : Fb c (fop .sub .f64 x y) := Fb_of (subD hx.bd hy.bd h1 h2 hc) (fop_fin_notN (.inr (.inl rfl)) hx.1 hy.1)
theorem quoF {a b c x y : Nat} (hx : Fb a x) (hy : Lb .f64 b y) (h : a + 1074 ≤ b + c) (hc : c ≤ 2000) : Fb c (fop .quo .f64 x y) := Fb_of (quoD hx.bd hy h hc) (quo_fin_notN hx.1 hy)

/-- A difference of two that have no sign. -/
theorem sub_near {c x y : Nat} (hx : rung Ieee.double x < Ieee.double.infRung) (hy : rung Ieee.double y < Ieee.double.infRung) (sx : sgn Ieee.double x = false) (sy : sgn Ieee.double y = false)
    (h1 : mg Ieee.double (rung Ieee.double x) ≤ mg Ieee.double (rung Ieee.double y) + 2 ^ c) (h2 : mg Ieee.double (rung Ieee.double y) ≤ mg Ieee.double (rung Ieee.double x) + 2 ^ c) (hc : c ≤ 2000) : Fb c (fop .sub .f64 x y) := by
  refine Fb_of ?_ (fop_fin_notN (.inr (.inl rfl)) hx hy)
  obtain ⟨m, i, r1, r2, r3⟩ := read_fin Ieee.double x hx
  obtain ⟨n, j, s1, s2, s3⟩ := read_fin Ieee.double y hy
  rw [sx] at r1
  rw [sy] at s1
  have hf : FloatKind.f64.format = Ieee.double := rfl
  have e : ∃ b, fop .sub .f64 x y = Ieee.double.nearest b (Ieee.signed false m (i - min i j).toNat + Ieee.signed true n (j - min i j).toNat).natAbs (min i j) := by
    unfold fop floatBits Ieee.Format.sub
    rw [hf]
    simp only [r1, s1, Ieee.Datum.opposite, Ieee.Datum.sum, Bool.not_false]
    exact ⟨_, rfl⟩
  obtain ⟨b, e⟩ := e
  rw [e]
  refine Bd_nearest (k := .f64) (pr_ok hc) _ _ _ ?_
  unfold leRung
  rw [mg_pr, hf]
  rw [← r3, ← s3] at h1 h2
  generalize Ieee.double.leastPlace = lp at *
  have e2 : (lp - min i j).toNat = 0 := by omega
  rw [e2, Nat.pow_zero, Nat.mul_one, signed_eq, signed_eq]
  have z1 : (i - lp).toNat = (i - min i j).toNat + (min i j - lp).toNat := by omega
  have z2 : (j - lp).toNat = (j - min i j).toNat + (min i j - lp).toNat := by omega
  rw [z1, z2, Nat.pow_add, Nat.pow_add, ← Nat.mul_assoc, ← Nat.mul_assoc] at h1 h2
  generalize m * 2 ^ (i - min i j).toNat = X at *
  generalize n * 2 ^ (j - min i j).toNat = Y at *
  have hZ : 0 < 2 ^ (min i j - lp).toNat := Nat.two_pow_pos _
  generalize 2 ^ (min i j - lp).toNat = Z at *
  simp only [if_true, if_false, Bool.false_eq_true]
  rcases Nat.le_total X Y with h | h
  · have ha : ((X : Int) + -(Y : Int)).natAbs = Y - X := by omega
    rw [ha, Nat.sub_mul]; omega
  · have ha : ((X : Int) + -(Y : Int)).natAbs = X - Y := by omega
    rw [ha, Nat.sub_mul]; omega

/-! ### doubling and halving -/
theorem srung_pos {f : Ieee.Format} {x : Nat} (h : sgn f x = false) : srung f x = rung f x := by unfold srung; rw [h]; simp

/-- An exact number is written as itself. -/
theorem nearest_at {f : Ieee.Format} {neg : Bool} {mag : Nat} {place : Int} {r : Nat} (hr : r ≤ f.infRung) (h1 : leRung f mag place r) (h2 : geRung f mag place r) : f.nearest neg mag place = f.word neg r := by
  obtain ⟨q, e1, l1, _⟩ := nearest_le f neg mag place r h1
  obtain ⟨q', e2, l2, l3⟩ := nearest_ge f neg mag place r hr h2
  rw [e1] at e2
  have hl := f.infRung_lt
  have h3 := (word_signs f neg q (by omega)).2
  have h4 := (word_signs f neg q' (by omega)).2
  rw [e2, h4] at h3
  rw [e1]; congr 1; omega

theorem mg_double (f : Ieee.Format) (r : Nat) (h : f.binade ≤ r) : mg f (r + f.binade) = 2 * mg f r := by
  have hb := binade_pos f
  unfold mg
  rw [if_neg (by omega), if_neg (by omega)]
  have e1 : (r + f.binade) % f.binade = r % f.binade := Nat.add_mod_right _ _
  have e2 : (r + f.binade) / f.binade = r / f.binade + 1 := Nat.add_div_right _ hb
  have h3 : 1 ≤ r / f.binade := (Nat.le_div_iff_mul_le hb).2 (by omega)
  rw [e1, e2]
  have e3 : r / f.binade + 1 - 1 = (r / f.binade - 1) + 1 := by omega
  rw [e3, Nat.pow_succ, Nat.mul_comm _ 2, ← Nat.mul_assoc, Nat.mul_comm _ 2, Nat.mul_assoc]

theorem word_pos (f : Ieee.Format) (r : Nat) : f.word false r = r := rfl

theorem read_small {x m : Nat} {i : Int} {s : Bool} (h : rung Ieee.double x < Ieee.double.infRung) (r1 : Ieee.double.read x = .number s m i) : m < 2 ^ 53 := by
  have hb : Ieee.double.binade = 2 ^ 52 := rfl
  have h53 : (2 : Nat) ^ 53 = 2 ^ 52 + 2 ^ 52 := by decide
  unfold Ieee.Format.read at r1
  unfold rung at h
  dsimp only at r1
  rw [h53, ← hb]
  have hpos := binade_pos Ieee.double
  split at r1
  · injection r1 with _ e _; omega
  · injection r1 with _ e _
    have := Nat.mod_lt (x % Ieee.double.signWeight) hpos
    omega

theorem two_read : ∃ M : Nat, M = 2 ^ 52 ∧ Ieee.double.read 4611686018427387904 = .number false M (-51) := ⟨4503599627370496, by decide, by decide +kernel⟩

theorem mul_two {x : Nat} (sx : sgn Ieee.double x = false) (h : Ieee.double.binade ≤ rung Ieee.double x) (h2 : rung Ieee.double x + Ieee.double.binade < Ieee.double.infRung) :
    fop .mul .f64 x 4611686018427387904 = rung Ieee.double x + Ieee.double.binade := by
  obtain ⟨m, i, r1, r2, r3⟩ := read_fin Ieee.double x (by omega)
  obtain ⟨M, hM, tr⟩ := two_read
  rw [sx] at r1
  have hd := mg_double Ieee.double (rung Ieee.double x) h
  have d1 : Ieee.double.leastPlace = -1074 := by decide +kernel
  rw [d1] at r2 r3
  have hf : FloatKind.f64.format = Ieee.double := rfl
  have e : fop .mul .f64 x 4611686018427387904 = Ieee.double.nearest false (m * M) (i + -51) := by
    unfold fop floatBits Ieee.Format.mul
    rw [hf]
    simp only [r1, tr, Ieee.Datum.product, Option.map_some, Option.getD_some, Ieee.Format.write, bne_self_eq_false, Bool.xor_self]
  have key : m * M * 2 ^ (i + -51 - -1074).toNat = 2 * mg Ieee.double (rung Ieee.double x) * 2 ^ (-1074 - (i + -51)).toNat := by
    rw [← r3, hM]
    have z : 52 + (i + -51 - -1074).toNat = 1 + ((i - -1074).toNat + (-1074 - (i + -51)).toNat) := by omega
    rw [Nat.mul_assoc, ← Nat.pow_add, z, Nat.pow_add, Nat.pow_add]
    simp only [Nat.pow_one]
    rw [Nat.mul_left_comm, Nat.mul_assoc 2, Nat.mul_assoc m]
  generalize hR : rung Ieee.double x + Ieee.double.binade = R at *
  rw [e, nearest_at (r := R) (by omega) (by unfold leRung; rw [hd, d1, key]; exact Nat.le_refl _) (by unfold geRung; rw [hd, d1, key]; exact Nat.le_refl _)]
  rfl

theorem half_two {x : Nat} (sx : sgn Ieee.double x = false) (h : 2 * Ieee.double.binade ≤ rung Ieee.double x) (h2 : rung Ieee.double x < Ieee.double.infRung) :
    fop .quo .f64 x 4611686018427387904 = rung Ieee.double x - Ieee.double.binade := by
  obtain ⟨m, i, r1, r2, r3⟩ := read_fin Ieee.double x h2
  obtain ⟨M, hM, tr⟩ := two_read
  rw [sx] at r1
  have hd := mg_double Ieee.double (rung Ieee.double x - Ieee.double.binade) (by omega)
  have e0 : rung Ieee.double x - Ieee.double.binade + Ieee.double.binade = rung Ieee.double x := by omega
  rw [e0] at hd
  have d1 : Ieee.double.leastPlace = -1074 := by decide +kernel
  rw [d1] at r2 r3
  have hf : FloatKind.f64.format = Ieee.double := rfl
  have hM0 : M ≠ 0 := by rw [hM]; exact Nat.ne_of_gt (Nat.two_pow_pos _)
  have hMl : M.log2 = 52 := by rw [hM]; exact Nat.log2_two_pow
  have hfb : Ieee.double.fractionBits = 52 := rfl
  have e : ∃ W : Nat, W = 106 - m.log2 ∧ fop .quo .f64 x 4611686018427387904 = Ieee.double.nearest false (2 * ((m <<< W) / M) + ((m <<< W) % M != 0).toNat) (i - -51 - (W : Int) - 1) := by
    refine ⟨Ieee.double.fractionBits + 2 + M.log2 - m.log2, by rw [hMl, hfb], ?_⟩
    unfold fop floatBits Ieee.Format.div
    rw [hf]
    simp only [r1, tr, Ieee.Datum.quotient, if_neg hM0, Option.map_some, Option.getD_some, Ieee.Format.write, Bool.xor_self, bne_self_eq_false]
  obtain ⟨W, hW, e⟩ := e
  -- x is normal: its magnitude has at least 53 digits' worth; the quotient is exact
  have hm0 : m ≠ 0 := by
    rintro rfl
    rw [Nat.zero_mul] at r3
    have := mg_lt Ieee.double (r := 0) (s := rung Ieee.double x) (by have := binade_pos Ieee.double; omega)
    omega
  by_cases hml : m.log2 ≤ 54
  · have hsh : m <<< W = (m * 2 ^ (54 - m.log2)) * M := by
      rw [Nat.shiftLeft_eq, hM, Nat.mul_assoc, ← Nat.pow_add]; congr 2; omega
    have hMpos : 0 < M := by omega
    rw [hsh, Nat.mul_div_cancel _ hMpos, Nat.mul_mod_left] at e
    have e' : fop .quo .f64 x 4611686018427387904 = Ieee.double.nearest false (2 * (m * 2 ^ (54 - m.log2))) (i - -51 - (W : Int) - 1) := by simpa using e
    have key : 2 * (m * 2 ^ (54 - m.log2)) * 2 ^ (i - -51 - (W : Int) - 1 - -1074).toNat = mg Ieee.double (rung Ieee.double x - Ieee.double.binade) * 2 ^ (-1074 - (i - -51 - (W : Int) - 1)).toNat := by
      have h3 : 2 * mg Ieee.double (rung Ieee.double x - Ieee.double.binade) = m * 2 ^ (i - -1074).toNat := by rw [r3]; exact hd.symm
      apply Nat.eq_of_mul_eq_mul_left (by decide : 0 < 2)
      rw [← Nat.mul_assoc 2 (mg _ _), h3]
      have z : 2 + (54 - m.log2) + (i - -51 - (W : Int) - 1 - -1074).toNat = (i - -1074).toNat + (-1074 - (i - -51 - (W : Int) - 1)).toNat := by omega
      have z2 := congrArg (fun t => m * 2 ^ t) z
      simp only [Nat.pow_add] at z2
      have p2 : (2 : Nat) ^ 2 = 2 * 2 := rfl
      rw [p2] at z2
      generalize 2 ^ (54 - m.log2) = A at *
      generalize 2 ^ (i - -51 - (W : Int) - 1 - -1074).toNat = B at *
      generalize 2 ^ (i - -1074).toNat = Cc at *
      generalize 2 ^ (-1074 - (i - -51 - (W : Int) - 1)).toNat = D at *
      calc 2 * (2 * (m * A) * B) = m * (2 * 2 * A * B) := by simp only [Nat.mul_assoc, Nat.mul_left_comm m]
        _ = m * (Cc * D) := z2
        _ = m * Cc * D := (Nat.mul_assoc _ _ _).symm
    have hR : rung Ieee.double x - Ieee.double.binade ≤ Ieee.double.infRung := by omega
    have hn := nearest_at (f := Ieee.double) (neg := false) (mag := 2 * (m * 2 ^ (54 - m.log2))) (place := i - -51 - (W : Int) - 1) hR (by unfold leRung; rw [d1, key]; exact Nat.le_refl _) (by unfold geRung; rw [d1, key]; exact Nat.le_refl _)
    exact e'.trans (hn.trans (word_pos _ _))
  · exfalso
    -- more digits than the format has
    have hx : m < 2 ^ 53 := read_small h2 r1
    have : m.log2 < 53 := (Nat.log2_lt hm0).2 hx
    omega

/-! ### the logarithm -/
def two64 : Nat := 4611686018427387904
def ge15 (x : Nat) : Bool := FloatKind.f64.format.order x 4609434218613702656 == some .gt || FloatKind.f64.format.order x 4609434218613702656 == some .eq
def lt75 (x : Nat) : Bool := FloatKind.f64.format.order x 4604930618986332160 == some .lt
def upF : Nat → Nat → Int → Nat × Int
  | 0, x, e => (x, e)
  | n + 1, x, e => if ge15 x = true then upF n (fop .quo .f64 x two64) (e + 1) else (x, e)
def dnF : Nat → Nat → Int → Nat × Int
  | 0, x, e => (x, e)
  | n + 1, x, e => if lt75 x = true then dnF n (fop .mul .f64 x two64) (e - 1) else (x, e)
def odd25 (i : Nat) : Nat := floatOfInt .f64 (25 - 2 * (i : Int))
def lser (u : Nat) : Nat → Nat
  | 0 => 0
  | i + 1 => fop .add .f64 (fop .quo .f64 one64 (odd25 i)) (fop .mul .f64 u (lser u i))
theorem lser_step (u i : Nat) : lser u (i + 1) = fop .add .f64 (fop .quo .f64 one64 (odd25 i)) (fop .mul .f64 u (lser u i)) := rfl
def ln2 : Nat := 4604418534313441775
def sOf (x : Nat) : Nat := fop .quo .f64 (fop .sub .f64 x one64) (fop .add .f64 x one64)
def logE (x : Nat) (e : Int) : Nat := fop .add .f64 (fop .mul .f64 two64 (fop .mul .f64 (sOf x) (lser (fop .mul .f64 (sOf x) (sOf x)) 13))) (fop .mul .f64 (floatOfInt .f64 e) ln2)
def dn0 (v : Nat) : Nat × Int := dnF 400 (upF 400 v 0).1 (upF 400 v 0).2
def logW (v : Nat) : Nat := logE (dn0 v).1 (dn0 v).2

/-- Positive, and of a rung from 'a' to 'b'. -/
def InR (a b x : Nat) : Prop := sgn Ieee.double x = false ∧ a ≤ rung Ieee.double x ∧ rung Ieee.double x ≤ b
theorem ge15_rung {a b x : Nat} (h : InR a b x) (hb : b < Ieee.double.infRung) : ge15 x = decide (4609434218613702656 ≤ rung Ieee.double x) := by
  have hn : isN .f64 x = false := notN_fin (k := .f64) (Nat.lt_of_le_of_lt h.2.2 hb)
  unfold ge15
  rw [order_rungs .f64 x _ hn (by decide +kernel)]
  have e : srung FloatKind.f64.format 4609434218613702656 = 4609434218613702656 := by decide +kernel
  have hf : FloatKind.f64.format = Ieee.double := rfl
  rw [e, hf, srung_pos h.1]
  generalize rung Ieee.double x = r
  rcases Int.lt_trichotomy (r : Int) 4609434218613702656 with h1 | h1 | h1
  · rw [cmp_of_lt h1, decide_eq_false (by omega)]; rfl
  · rw [Int.compare_eq_eq.2 h1, decide_eq_true (by omega)]; rfl
  · rw [cmp_of_gt h1, decide_eq_true (by omega)]; rfl
theorem lt75_rung {a b x : Nat} (h : InR a b x) (hb : b < Ieee.double.infRung) : lt75 x = decide (rung Ieee.double x < 4604930618986332160) := by
  have hn : isN .f64 x = false := notN_fin (k := .f64) (Nat.lt_of_le_of_lt h.2.2 hb)
  unfold lt75
  rw [order_rungs .f64 x _ hn (by decide +kernel)]
  have e : srung FloatKind.f64.format 4604930618986332160 = 4604930618986332160 := by decide +kernel
  have hf : FloatKind.f64.format = Ieee.double := rfl
  rw [e, hf, srung_pos h.1]
  generalize rung Ieee.double x = r
  rcases Int.lt_trichotomy (r : Int) 4604930618986332160 with h1 | h1 | h1
  · rw [cmp_of_lt h1, decide_eq_true (by omega)]; rfl
  · rw [Int.compare_eq_eq.2 h1, decide_eq_false (by omega)]; rfl
  · rw [cmp_of_gt h1, decide_eq_false (by omega)]; rfl

theorem bin64 : Ieee.double.binade = 4503599627370496 := by decide +kernel
theorem inf64 : Ieee.double.infRung = 9218868437227405312 := by decide +kernel
/-- A round of halving. -/
theorem half_in {b x : Nat} (h : InR 3936146074321813504 b x) (hb : b < Ieee.double.infRung) (hg : ge15 x = true) :
    InR 3936146074321813504 b (fop .quo .f64 x two64) ∧ rung Ieee.double (fop .quo .f64 x two64) + 4503599627370496 = rung Ieee.double x := by
  rw [ge15_rung h hb] at hg
  have hg := of_decide_eq_true hg
  have h2 := half_two h.1 (by rw [bin64]; omega) (Nat.lt_of_le_of_lt h.2.2 hb)
  unfold two64
  rw [h2, bin64]
  have hr : rung Ieee.double (rung Ieee.double x - 4503599627370496) = rung Ieee.double x - 4503599627370496 := by
    refine Nat.mod_eq_of_lt ?_
    have := rung_lt .f64 x
    have hf : FloatKind.f64.format = Ieee.double := rfl
    rw [hf] at this; omega
  have hs : sgn Ieee.double (rung Ieee.double x - 4503599627370496) = false := by
    unfold sgn
    have := rung_lt .f64 x
    have hf : FloatKind.f64.format = Ieee.double := rfl
    rw [hf] at this
    rw [Nat.div_eq_of_lt (by omega)]; rfl
  refine ⟨⟨hs, by rw [hr]; omega, by rw [hr]; have := h.2.2; omega⟩, by rw [hr]; omega⟩
theorem dbl_in {a x : Nat} (h : InR a 4609434218613702655 x) (ha : 4503599627370496 ≤ a) (hl : lt75 x = true) :
    InR a 4609434218613702655 (fop .mul .f64 x two64) ∧ rung Ieee.double (fop .mul .f64 x two64) = rung Ieee.double x + 4503599627370496 := by
  rw [lt75_rung h (by rw [inf64]; omega)] at hl
  have hl := of_decide_eq_true hl
  have h3 := h.2.1
  have h2 := mul_two h.1 (by rw [bin64]; omega) (by rw [bin64, inf64]; omega)
  unfold two64
  rw [h2, bin64]
  have hsw : Ieee.double.signWeight = 9223372036854775808 := by decide +kernel
  have hr : rung Ieee.double (rung Ieee.double x + 4503599627370496) = rung Ieee.double x + 4503599627370496 := Nat.mod_eq_of_lt (by rw [hsw]; omega)
  have hs : sgn Ieee.double (rung Ieee.double x + 4503599627370496) = false := by
    unfold sgn; rw [hsw, Nat.div_eq_of_lt (by omega)]; rfl
  exact ⟨⟨hs, by rw [hr]; omega, by rw [hr]; omega⟩, hr⟩

/-- What the float32s that are finite and above nothing become. -/
theorem cvU_in {v : Nat} (hf : rung Ieee.single v < Ieee.single.infRung) (hs : sgn Ieee.single v = false) (h0 : 0 < rung Ieee.single v) : InR 3936146074321813504 5183643171103440896 (cvU v) := by
  obtain ⟨_, _, c3, c4, c5, _⟩ := cvU_spec (notN_fin (k := .f32) hf)
  have c5 := c5 hf
  refine ⟨c3.trans hs, ?_, ?_⟩
  · have e : mg Ieee.double 3936146074321813504 = 1 * 2 ^ 925 := by decide +kernel
    have h1 : mg Ieee.double 3936146074321813504 ≤ mg Ieee.double (rung Ieee.double (cvU v)) := by
      rw [e, c5]
      refine Nat.mul_le_mul_right _ ?_
      have := mg_lt Ieee.single h0
      rw [mg_zero] at this; exact this
    rcases Nat.lt_or_ge (rung Ieee.double (cvU v)) 3936146074321813504 with h | h
    · have := mg_lt Ieee.double h; omega
    · exact h
  · have e : mg Ieee.double 5183643171103440896 = 2 ^ 277 * 2 ^ 925 := by decide +kernel
    have e2 : mg Ieee.single Ieee.single.infRung = 2 ^ 277 := by decide +kernel
    have h1 : mg Ieee.double (rung Ieee.double (cvU v)) ≤ mg Ieee.double 5183643171103440896 := by
      rw [e, c5]
      refine Nat.mul_le_mul_right _ ?_
      rw [← e2]; exact Nat.le_of_lt (mg_lt _ hf)
    rcases Nat.lt_or_ge 5183643171103440896 (rung Ieee.double (cvU v)) with h | h
    · have := mg_lt Ieee.double h; omega
    · exact h

theorem upF_ok {a b : Nat} (ha : 3936146074321813504 = a) (hb : b < Ieee.double.infRung) : ∀ (n x : Nat) (e : Int), InR a b x → rung Ieee.double x < 4609434218613702656 + n * 4503599627370496 →
    InR a 4609434218613702655 (upF n x e).1 ∧ e ≤ (upF n x e).2 ∧ (upF n x e).2 ≤ e + n
  | 0, x, e, h, hr => ⟨⟨h.1, h.2.1, by show rung Ieee.double x ≤ _; omega⟩, Int.le_refl _, by show e ≤ _; omega⟩
  | n + 1, x, e, h, hr => by
    unfold upF
    subst ha
    by_cases hg : ge15 x = true
    · rw [if_pos hg]
      obtain ⟨h1, h2⟩ := half_in h hb hg
      obtain ⟨h3, h4, h5⟩ := upF_ok rfl hb n (fop .quo .f64 x two64) (e + 1) h1 (by rw [Nat.add_mul] at hr; omega)
      exact ⟨h3, by omega, by omega⟩
    · rw [if_neg hg]
      have hg2 := ge15_rung h hb
      have hg3 : ge15 x = false := by simpa using hg
      rw [hg3] at hg2
      have := of_decide_eq_false hg2.symm
      exact ⟨⟨h.1, h.2.1, by show rung Ieee.double x ≤ _; omega⟩, Int.le_refl _, by show e ≤ _; omega⟩
theorem dnF_ok {a : Nat} (ha : 4503599627370496 ≤ a) : ∀ (n x : Nat) (e : Int), InR a 4609434218613702655 x → 4604930618986332160 ≤ rung Ieee.double x + n * 4503599627370496 →
    InR 4604930618986332160 4609434218613702655 (dnF n x e).1 ∧ e - n ≤ (dnF n x e).2 ∧ (dnF n x e).2 ≤ e
  | 0, x, e, h, hr => ⟨⟨h.1, by show _ ≤ rung Ieee.double x; omega, h.2.2⟩, by show _ ≤ e; omega, Int.le_refl _⟩
  | n + 1, x, e, h, hr => by
    unfold dnF
    by_cases hg : lt75 x = true
    · rw [if_pos hg]
      obtain ⟨h1, h2⟩ := dbl_in h ha hg
      obtain ⟨h3, h4, h5⟩ := dnF_ok ha n (fop .mul .f64 x two64) (e - 1) h1 (by rw [Nat.add_mul] at hr; omega)
      exact ⟨h3, by omega, by omega⟩
    · rw [if_neg hg]
      have hg2 := lt75_rung h (by rw [inf64]; omega)
      have hg3 : lt75 x = false := by simpa using hg
      rw [hg3] at hg2
      have := of_decide_eq_false hg2.symm
      exact ⟨⟨h.1, by show _ ≤ rung Ieee.double x; omega, h.2.2⟩, by show _ ≤ e; omega, Int.le_refl _⟩
theorem dn0_ok {v : Nat} (h : InR 3936146074321813504 5183643171103440896 v) : InR 4604930618986332160 4609434218613702655 (dn0 v).1 ∧ -400 ≤ (dn0 v).2 ∧ (dn0 v).2 ≤ 400 := by
  obtain ⟨h1, h2, h3⟩ := upF_ok rfl (by rw [inf64]; omega) 400 v 0 h (by have := h.2.2; omega)
  obtain ⟨h4, h5, h6⟩ := dnF_ok (a := 3936146074321813504) (by omega) 400 (upF 400 v 0).1 (upF 400 v 0).2 h1 (by have := h1.2.1; omega)
  exact ⟨h4, by unfold dn0; omega, by unfold dn0; omega⟩

theorem sum_comm (a b : Ieee.Datum) : a.sum b = b.sum a := by
  cases a <;> cases b <;> simp only [Ieee.Datum.sum]
  · rename_i s m i t n j
    rw [Int.min_comm i j, Int.add_comm, Bool.and_comm]
  · rename_i s t
    by_cases h : s = t
    · subst h; rfl
    · rw [if_neg h, if_neg (fun e => h e.symm)]
theorem add_comm64 (k : FloatKind) (x y : Nat) : fop .add k x y = fop .add k y x := by
  unfold fop floatBits Ieee.Format.add; simp only []; rw [sum_comm]

theorem mg_le {r s : Nat} (h : r ≤ s) : mg Ieee.double r ≤ mg Ieee.double s := by
  rcases Nat.lt_or_eq_of_le h with h | h
  · exact Nat.le_of_lt (mg_lt _ h)
  · rw [h]; exact Nat.le_refl _
theorem sOf_fb {x : Nat} (h : InR 4604930618986332160 4609434218613702655 x) : Fb 1073 (sOf x) := by
  have hfin : rung Ieee.double x < Ieee.double.infRung := by rw [inf64]; have := h.2.2; omega
  have m1 := mg_le h.2.1
  have m2 := mg_le (Nat.le_succ_of_le h.2.2)
  have e1 : mg Ieee.double 4604930618986332160 = 3 * 2 ^ 1072 := by decide +kernel
  have e2 : mg Ieee.double 4609434218613702656 = 3 * 2 ^ 1073 := by decide +kernel
  have e3 : mg Ieee.double (rung Ieee.double one64) = 2 ^ 1074 := by decide +kernel
  have p1 : (2 : Nat) ^ 1074 = 4 * 2 ^ 1072 := by rw [show (4 : Nat) = 2 ^ 2 from rfl, ← Nat.pow_add]
  have p2 : (2 : Nat) ^ 1073 = 2 * 2 ^ 1072 := by rw [Nat.mul_comm, ← Nat.pow_succ]
  have hs : Fb 1073 (fop .sub .f64 x one64) := by
    refine sub_near hfin (by decide +kernel) h.1 (by decide +kernel) ?_ ?_ (by omega)
    · rw [e3]
      have m2' : mg Ieee.double (rung Ieee.double x) ≤ 3 * 2 ^ 1073 := by rw [← e2]; exact m2
      omega
    · rw [e3]
      rw [e1] at m1
      omega
  have hl : Lb .f64 1074 (fop .add .f64 x one64) := by
    rw [add_comm64]
    have hb : Bd .f64 1075 x := .inr ⟨hfin, by
      show mg Ieee.double (rung Ieee.double x) ≤ 2 ^ 1075
      have m2' : mg Ieee.double (rung Ieee.double x) ≤ 3 * 2 ^ 1073 := by rw [← e2]; exact m2
      have p3 : (2 : Nat) ^ 1075 = 8 * 2 ^ 1072 := by rw [show (8 : Nat) = 2 ^ 3 from rfl, ← Nat.pow_add]
      omega⟩
    rcases one_add hb (.inr (.inl h.1)) (by omega) (by omega) with h5 | h5
    · exact absurd h5 (by rw [fop_fin_notN (.inl rfl) (by decide +kernel) hfin]; decide)
    · exact h5
  exact quoF hs hl (by omega) (by omega)
theorem odd25_lb : ∀ i, i < 13 → Lb .f64 1074 (odd25 i) := by
  have h : ∀ i : Fin 13, decide (rung Ieee.double (odd25 i.1) < Ieee.double.infRung ∧ 2 ^ 1074 ≤ mg Ieee.double (rung Ieee.double (odd25 i.1))) = true := by decide +kernel
  exact fun i hi => Lb_const (h ⟨i, hi⟩)
theorem lser_fb {u : Nat} (hu : Fb 1072 u) : ∀ i, i ≤ 13 → Fb 1075 (lser u i)
  | 0, _ => Fb_const (c := 1075) (x := 0) (by decide +kernel)
  | i + 1, hi => by
    have h1 := mulF (c := 1073) hu (lser_fb hu i (by omega)) (by omega) (by omega)
    have h2 := quoF (a := 1074) (c := 1074) (x := one64) (Fb_const (by decide +kernel)) (odd25_lb i (by omega)) (by omega) (by omega)
    exact addF h2 h1 (by omega) (by omega) (by omega)
theorem ofInt_fb {e : Int} (h1 : -400 ≤ e) (h2 : e ≤ 400) : Fb 1083 (floatOfInt .f64 e) := by
  obtain ⟨o1, o2, _⟩ := ofInt_read (t := e) (by have h3 : (2 : Nat) ^ 53 = 9007199254740992 := by decide
                                                rw [h3]; omega)
  refine ⟨o1, ?_⟩
  rw [o2]
  have p : (2 : Nat) ^ 1083 = 512 * 2 ^ 1074 := by rw [show (512 : Nat) = 2 ^ 9 from rfl, ← Nat.pow_add]
  rw [p]
  exact Nat.mul_le_mul_right _ (by omega)
theorem logE_fb {x : Nat} {e : Int} (h : InR 4604930618986332160 4609434218613702655 x) (h1 : -400 ≤ e) (h2 : e ≤ 400) : Fb 1084 (logE x e) := by
  have hs := sOf_fb h
  have hu := mulF (c := 1072) hs hs (by omega) (by omega)
  have hq := lser_fb hu 13 (by omega)
  have h3 := mulF (c := 1074) hs hq (by omega) (by omega)
  have h4 := mulF (a := 1075) (c := 1075) (x := two64) (Fb_const (by decide +kernel)) h3 (by omega) (by omega)
  have h5 := mulF (b := 1074) (c := 1083) (y := ln2) (ofInt_fb h1 h2) (Fb_const (by decide +kernel)) (by omega) (by omega)
  exact addF h4 h5 (by omega) (by omega) (by omega)
theorem logW_fb {v : Nat} (h : InR 3936146074321813504 5183643171103440896 v) : Fb 1084 (logW v) := by
  obtain ⟨h1, h2, h3⟩ := dn0_ok h
  exact logE_fb h1 h2 h3

/-! ### the greatest integer that is not greater -/
def floorF (v : Nat) : Nat := Ieee.double.write ((Ieee.double.read v).integral .down)
theorem floor_fb {c v : Nat} (h : Fb (c + 1074) v) (hc : c ≤ 50) : Fb (c + 1075) (floorF v) := by
  obtain ⟨m, i, r1, r2, r3⟩ := read_fin Ieee.double v h.1
  have d1 : Ieee.double.leastPlace = -1074 := by decide +kernel
  rw [d1] at r2 r3
  unfold floorF
  rw [r1]
  simp only [Ieee.Datum.integral, Ieee.Format.write]
  have hcut : Ieee.Toward.down.cut (sgn Ieee.double v) (m <<< i.toNat) (-i).toNat ≤ 2 ^ (c + 1) := by
    have h1 : Ieee.Toward.down.cut (sgn Ieee.double v) (m <<< i.toNat) (-i).toNat ≤ Ieee.Toward.zero.cut (sgn Ieee.double v) (m <<< i.toNat) (-i).toNat + 1 := by
      unfold Ieee.Toward.cut
      simp only [Bool.toNat_false, Nat.add_zero]
      have := Bool.toNat_le (sgn Ieee.double v && (m <<< i.toNat) % 1 <<< min (-i).toNat ((m <<< i.toNat).log2 + 2) != 0)
      omega
    rw [cut_zero_way] at h1
    have h2 : m <<< i.toNat / 2 ^ (-i).toNat ≤ 2 ^ c := by
      have h3 := h.2
      rw [← r3, Nat.pow_add] at h3
      rw [Nat.shiftLeft_eq]
      by_cases hp : 0 ≤ i
      · have e1 : (-i).toNat = 0 := by omega
        have e2 : (i - -1074).toNat = i.toNat + 1074 := by omega
        rw [e2, Nat.pow_add, ← Nat.mul_assoc] at h3
        rw [e1, Nat.pow_zero, Nat.div_one]
        exact Nat.le_of_mul_le_mul_right h3 (Nat.two_pow_pos _)
      · have e1 : i.toNat = 0 := by omega
        rw [e1, Nat.pow_zero, Nat.mul_one]
        refine Nat.div_le_of_le_mul ?_
        have e2 : (2 : Nat) ^ 1074 = 2 ^ (-i).toNat * 2 ^ (i - -1074).toNat := by
          rw [← Nat.pow_add]; congr 1; omega
        rw [e2, ← Nat.mul_assoc] at h3
        have := Nat.le_of_mul_le_mul_right h3 (Nat.two_pow_pos _)
        rw [Nat.mul_comm]; exact this
    have h4 : 2 ^ (c + 1) = 2 ^ c + 2 ^ c := by rw [Nat.pow_succ]; omega
    have := Nat.two_pow_pos c
    omega
  generalize Ieee.Toward.down.cut (sgn Ieee.double v) (m <<< i.toNat) (-i).toNat = N at *
  refine Fb_of (Bd_nearest (k := .f64) (pr_ok (by omega)) _ _ _ ?_) (nearest_notNaN _ _ _ _)
  unfold leRung
  have hf : FloatKind.f64.format = Ieee.double := rfl
  rw [mg_pr, hf, d1]
  have e1 : ((0 : Int) - -1074).toNat = 1074 := by decide
  have e2 : ((-1074 : Int) - 0).toNat = 0 := by decide
  rw [e1, e2, Nat.pow_zero, Nat.mul_one]
  have e3 : 2 ^ (c + 1075) = 2 ^ (c + 1) * 2 ^ 1074 := by rw [← Nat.pow_add]
  rw [e3]
  exact Nat.mul_le_mul_right _ hcut
theorem tenths_int {l : Nat} (h : Fb 1084 l) : ∃ x, x = fop .add .f64 (fop .mul .f64 l 4631308968768463603) half64 ∧ isN .f64 x = false ∧ isN .f64 (floorF x) = false ∧ floatToIntVal .f64 (floorF x) .i64 = some (ti (floorF x)) := by
  have h1 := mulF (b := 1080) (c := 1090) (y := 4631308968768463603) h (Fb_const (by decide +kernel)) (by omega) (by omega)
  have h2 := addF (b := 1074) (c := 1091) (y := half64) h1 (Fb_const (by decide +kernel)) (by omega) (by omega) (by omega)
  have h3 := floor_fb (c := 17) h2 (by omega)
  refine ⟨_, rfl, h2.notN, h3.notN, toInt64 h3.1 ?_⟩
  refine whole_lt (c := 53) ?_
  refine Nat.lt_of_le_of_lt h3.2 ?_
  exact Nat.pow_lt_pow_right (by decide : 1 < 2) (by omega)


theorem efl_up (i : Nat) (hi : i ≤ 400) : fop .add .f64 (floatOfInt .f64 (i : Int)) one64 = floatOfInt .f64 ((i : Int) + 1) := by
  have h : ∀ i : Fin 401, fop .add .f64 (floatOfInt .f64 (i.1 : Int)) one64 = floatOfInt .f64 ((i.1 : Int) + 1) := by decide +kernel
  exact h ⟨i, by omega⟩
theorem efl_dn (e : Int) (h1 : -400 ≤ e) (h2 : e ≤ 400) : fop .sub .f64 (floatOfInt .f64 e) one64 = floatOfInt .f64 (e - 1) := by
  have h : ∀ i : Fin 801, fop .sub .f64 (floatOfInt .f64 ((i.1 : Int) - 400)) one64 = floatOfInt .f64 ((i.1 : Int) - 400 - 1) := by decide +kernel
  have := h ⟨(e + 400).toNat, by omega⟩
  have e2 : (((e + 400).toNat : Nat) : Int) - 400 = e := by omega
  simp only [e2] at this
  exact this
theorem efl_notN (e : Int) : isN .f64 (floatOfInt .f64 e) = false := nearest_notNaN _ _ _ _
theorem upF_step {n x : Nat} {e : Int} (h : ge15 x = true) : upF (n + 1) x e = upF n (fop .quo .f64 x two64) (e + 1) := by conv => lhs; unfold upF; rw [if_pos h]
theorem upF_end {n x : Nat} {e : Int} (h : ge15 x = false) : upF n x e = (x, e) := by
  cases n
  · rfl
  · unfold upF; rw [h]; rfl
theorem dnF_step {n x : Nat} {e : Int} (h : lt75 x = true) : dnF (n + 1) x e = dnF n (fop .mul .f64 x two64) (e - 1) := by conv => lhs; unfold dnF; rw [if_pos h]
theorem dnF_end {n x : Nat} {e : Int} (h : lt75 x = false) : dnF n x e = (x, e) := by
  cases n
  · rfl
  · unfold dnF; rw [h]; rfl

/-- Where the loops stand: the number at a round's head, and what is told of it. -/
structure Up (x0 x : Nat) (i : Nat) : Prop where
  inR : InR 3936146074321813504 5183643171103440896 x
  at0 : rung Ieee.double x + i * 4503599627370496 = rung Ieee.double x0
  eq : upF 400 x0 0 = upF (400 - i) x (i : Int)
theorem Up.zero {x0 : Nat} (h : InR 3936146074321813504 5183643171103440896 x0) : Up x0 x0 0 := ⟨h, by omega, rfl⟩
theorem Up.notN {x0 x i : Nat} (h : Up x0 x i) : isN .f64 x = false := notN_fin (k := .f64) (Nat.lt_of_le_of_lt h.inR.2.2 (by show _ < Ieee.double.infRung; rw [inf64]; omega))
theorem Up.few {x0 x i : Nat} (h : Up x0 x i) (h0 : InR 3936146074321813504 5183643171103440896 x0) : i ≤ 277 := by
  have h1 := h.at0
  have h2 := h.inR.2.1
  have h3 := h0.2.2
  omega
theorem Up.step {x0 x i : Nat} (h : Up x0 x i) (h0 : InR 3936146074321813504 5183643171103440896 x0) (hg : ge15 x = true) : Up x0 (fop .quo .f64 x two64) (i + 1) := by
  have hi := h.few h0
  obtain ⟨h1, h2⟩ := half_in h.inR (by rw [inf64]; omega) hg
  refine ⟨h1, by have := h.at0; omega, ?_⟩
  have e : 400 - i = (400 - (i + 1)) + 1 := by omega
  have e3 : ((i : Int) + 1) = ((i + 1 : Nat) : Int) := by omega
  generalize 400 - (i + 1) = N at *
  have h3 := h.eq
  rw [e] at h3
  exact h3.trans ((upF_step (n := N) (x := x) (e := (i : Int)) hg).trans (by rw [e3]))
theorem pos_word {x : Nat} (h : sgn Ieee.double x = false) : x < 9223372036854775808 → rung Ieee.double x = x := by
  intro hx
  have hsw : Ieee.double.signWeight = 9223372036854775808 := by decide +kernel
  unfold rung; rw [hsw]; exact Nat.mod_eq_of_lt hx
theorem sgn_lt {x : Nat} (h : sgn Ieee.double x = false) (hx : x < 18446744073709551616) : x < 9223372036854775808 := by
  have hsw : Ieee.double.signWeight = 9223372036854775808 := by decide +kernel
  unfold sgn at h
  rw [hsw] at h
  have : ¬ x / 9223372036854775808 % 2 = 1 := by simpa using h
  omega
theorem Up.less {x0 x i : Nat} (h : Up x0 x i) (hx : x < 18446744073709551616) (hg : ge15 x = true) : fop .quo .f64 x two64 < x := by
  obtain ⟨h1, h2⟩ := half_in h.inR (by rw [inf64]; omega) hg
  have e1 := pos_word h.inR.1 (sgn_lt h.inR.1 hx)
  have e2 := pos_word h1.1 (sgn_lt h1.1 (fop_lt .quo .f64 x two64))
  omega
structure Dn (x1 x : Nat) (e1 : Int) (i : Nat) : Prop where
  inR : InR 3936146074321813504 4609434218613702655 x
  at0 : rung Ieee.double x = rung Ieee.double x1 + i * 4503599627370496
  eq : dnF 400 x1 e1 = dnF (400 - i) x (e1 - i)
theorem Dn.zero {x1 : Nat} {e1 : Int} (h : InR 3936146074321813504 4609434218613702655 x1) : Dn x1 x1 e1 0 := ⟨h, by omega, by simp⟩
theorem Dn.notN {x1 x i : Nat} {e1 : Int} (h : Dn x1 x e1 i) : isN .f64 x = false := notN_fin (k := .f64) (Nat.lt_of_le_of_lt h.inR.2.2 (by show _ < Ieee.double.infRung; rw [inf64]; omega))
theorem Dn.few {x1 x i : Nat} {e1 : Int} (h : Dn x1 x e1 i) (h0 : InR 3936146074321813504 4609434218613702655 x1) : i ≤ 200 := by
  have h1 := h.at0
  have h2 := h.inR.2.2
  have h3 := h0.2.1
  omega
theorem Dn.step {x1 x i : Nat} {e1 : Int} (h : Dn x1 x e1 i) (h0 : InR 3936146074321813504 4609434218613702655 x1) (hg : lt75 x = true) : Dn x1 (fop .mul .f64 x two64) e1 (i + 1) := by
  have hi := h.few h0
  obtain ⟨h1, h2⟩ := dbl_in h.inR (by omega) hg
  refine ⟨h1, by have := h.at0; omega, ?_⟩
  have e : 400 - i = (400 - (i + 1)) + 1 := by omega
  have e2 : e1 - ((i + 1 : Nat) : Int) = e1 - (i : Int) - 1 := by omega
  generalize 400 - (i + 1) = N at *
  have h3 := h.eq
  rw [e] at h3
  exact h3.trans ((dnF_step (n := N) (x := x) (e := e1 - (i : Int)) hg).trans (by rw [e2]))
theorem Dn.more {x1 x i : Nat} {e1 : Int} (h : Dn x1 x e1 i) (hx : x < 18446744073709551616) (hg : lt75 x = true) : x < fop .mul .f64 x two64 ∧ fop .mul .f64 x two64 < 9223372036854775808 := by
  obtain ⟨h1, h2⟩ := dbl_in h.inR (by omega) hg
  have h3 := sgn_lt h1.1 (fop_lt .mul .f64 x two64)
  have e1 := pos_word h.inR.1 (sgn_lt h.inR.1 hx)
  have e2 := pos_word h1.1 h3
  omega
theorem up_exit {x0 x i : Nat} (h : Up x0 x i) (hg : ge15 x = false) : InR 3936146074321813504 4609434218613702655 x ∧ upF 400 x0 0 = (x, (i : Int)) := by
  have h1 := ge15_rung h.inR (by rw [inf64]; omega)
  rw [hg] at h1
  have h2 := of_decide_eq_false h1.symm
  exact ⟨⟨h.inR.1, h.inR.2.1, by omega⟩, by rw [h.eq, upF_end hg]⟩
theorem dn_exit {x0 x1 x i : Nat} {e1 : Int} (h : Dn x1 x e1 i) (hu : upF 400 x0 0 = (x1, e1)) (hg : lt75 x = false) : dn0 x0 = (x, e1 - (i : Int)) := by
  unfold dn0
  rw [hu]
  show dnF 400 x1 e1 = _
  rw [h.eq, dnF_end hg]
theorem max_not {x : Nat} (h : InR 3936146074321813504 5183643171103440896 x) : (FloatKind.f64.format.order x 9218868437227405311 == some .gt) = false := by
  rw [order_rungs .f64 x _ (notN_fin (k := .f64) (Nat.lt_of_le_of_lt h.2.2 (by show _ < Ieee.double.infRung; rw [inf64]; omega))) (by decide +kernel)]
  have e : srung FloatKind.f64.format 9218868437227405311 = 9218868437227405311 := by decide +kernel
  have hf : FloatKind.f64.format = Ieee.double := rfl
  rw [e, hf, srung_pos h.1, cmp_of_lt (by have := h.2.2; omega)]; rfl
theorem pos_tests {x : Nat} (h : InR 3936146074321813504 5183643171103440896 x) : (FloatKind.f64.format.order x 0 == some .lt) = false ∧ (FloatKind.f64.format.order x 0 == some .eq) = false := by
  rw [order_rungs .f64 x _ (notN_fin (k := .f64) (Nat.lt_of_le_of_lt h.2.2 (by show _ < Ieee.double.infRung; rw [inf64]; omega))) (by decide +kernel)]
  have e : srung FloatKind.f64.format 0 = 0 := by decide +kernel
  have hf : FloatKind.f64.format = Ieee.double := rfl
  rw [e, hf, srung_pos h.1, cmp_of_gt (by have := h.2.1; omega)]; exact ⟨rfl, rfl⟩
theorem kod_test (i : Nat) (hi : i < 13) : (FloatKind.f64.format.order (odd25 i) one64 == some .gt || FloatKind.f64.format.order (odd25 i) one64 == some .eq) = true := by
  have h : ∀ i : Fin 13, (FloatKind.f64.format.order (odd25 i.1) one64 == some .gt || FloatKind.f64.format.order (odd25 i.1) one64 == some .eq) = true := by decide +kernel
  exact h ⟨i, hi⟩
theorem kod_end : (FloatKind.f64.format.order (odd25 13) one64 == some .gt || FloatKind.f64.format.order (odd25 13) one64 == some .eq) = false := by decide +kernel
theorem kod_next (i : Nat) (hi : i < 13) : fop .sub .f64 (odd25 i) 4611686018427387904 = odd25 (i + 1) := by
  have h : ∀ i : Fin 13, fop .sub .f64 (odd25 i.1) 4611686018427387904 = odd25 (i.1 + 1) := by decide +kernel
  exact h ⟨i, hi⟩
theorem kod_notN (i : Nat) : isN .f64 (odd25 i) = false := nearest_notNaN _ _ _ _
theorem kod_lt (i : Nat) (hi : i < 13) : fpos (.float .f64 (odd25 (i + 1))) < fpos (.float .f64 (odd25 i)) := by
  have h : ∀ i : Fin 13, fpos (.float .f64 (odd25 (i.1 + 1))) < fpos (.float .f64 (odd25 i.1)) := by decide +kernel
  exact h ⟨i, hi⟩
theorem esub (a i : Nat) : (a : Int) - (i : Int) - 1 = (a : Int) - ((i + 1 : Nat) : Int) := by omega

end Go.Proofs.Ytehcepibmekooad

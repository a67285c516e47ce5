/-
  FnExactSineTurns: for every input this law of the program returns true, and each argument reads as before. No condition.
-/
import Derived.Test.YtfohhljadpchgagRows
import Derived.Test.YtfohhljadpchgagFl
import Derived.ProofKit
import Derived.OpenShut
import Derived.ShutString
import Derived.ChangeOld
import Derived.Below
import Derived.Lib.Hide
set_option linter.unusedSimpArgs false
set_option linter.unusedVariables false
set_option exponentiation.threshold 2000
namespace Go.Proofs.Ytfohhljadpchgag.fnExactSineTurns
open Go Go.Proofs.Ytfohhljadpchgag Go.Proofs
open Go.ChangeShapes Go.WideShapes Go.ChangeAt Go.RowKit
open Go.ChangeMaps (open_string shut_string)
/-! ### sineFacts -/
theorem fin_small {v : Nat} (h : finB .f32 v = true) (hb : decide (4841369599423283200 ≤ rung Ieee.double (cvU v)) = false) :
    isN .f64 (cvU v) = false ∧ floatToIntVal .f64 (cvU v) .i64 = some (ti (cvU v)) ∧ Bd .f64 1184 (sinF (cvU v)) := by
  have h1 : rung Ieee.single v < Ieee.single.infRung := of_decide_eq_true h
  have h2 : isN .f32 v = false := notN_fin (k := .f32) h1
  obtain ⟨_, c2, _, c4, _, _⟩ := cvU_spec h2
  have h3 := c4.2 h1
  have h4 := whole_small (v := cvU v) (by have := of_decide_eq_false hb; omega)
  exact ⟨c2, toInt64 h3 h4, sinF_bd (partF_bd h3 h4)⟩
theorem Fits_sin {v : Nat} (h : Bd .f64 1184 v) : Fits v := Fits_of_Bd (Bd_mono h (by decide))
theorem raw_nan {b : Nat} (h1 : isN .f64 b = true) (h2 : b < 2 ^ FloatKind.f64.format.width) : ∃ n, b = pick .f64 (qn .f64) n := by
  obtain ⟨n, e⟩ := nanOf_onto .f64 b h2 h1
  exact ⟨n, by rw [e]; simp [pick, isN_qn]⟩
def sineT (v : Nat) : Nat := if finB .f32 v = true then (if decide (4841369599423283200 ≤ rung Ieee.double (cvU v)) = true then 0 else cvN (sinF (cvU v))) else qn .f32
/-! ### l01SineWide -/
theorem c_l01SineWide_fff (v f : Nat) (w : World) (j : Nat) (Hti : Hid (floatToIntVal .f64 v .i64 = some (ti v))) (Hf : Hid (partF v = f))
    (hs : (FloatKind.f64.format.order (fop .sub .f64 v v) 0 != some .eq) = false)
    (h1 : (FloatKind.f64.format.order v 4841369599423283200 == some .gt || FloatKind.f64.format.order v 4841369599423283200 == some .eq) = false)
    (h2 : (FloatKind.f64.format.order v 14064741636278059008 == some .lt || FloatKind.f64.format.order v 14064741636278059008 == some .eq) = false)
    {j2 : Nat} (hnan : isN .f64 v = false) (hf : fop .sub .f64 v (floatOfInt .f64 (ti v)) = f) (hlt : (FloatKind.f64.format.order f 0 == some .lt) = false)
    (hb : (FloatKind.f64.format.order f 4602678819172646912 == some .gt || FloatKind.f64.format.order f 4602678819172646912 == some .eq) = false)
    (hq : (FloatKind.f64.format.order f 4598175219545276416 == some .gt) = false) : Calls Try.prog 40 #[.float .f64 (pick .f64 v j2)] (w.drewN j) (RetF .f64 (sinF v) w) := by
  have HF : Hid (sinF v = (sinZ (fop .mul .f64 f 4618760256179416344))) := by
    unfold Hid sinF lowB fold2 half64 quarter64 twopi64; rw [Hf.out, hb]; simp only [if_true, if_false, Bool.false_eq_true, hq]
  rw [pick_not hnan]
  go_enter Try.func40, Try.ntmps40
  go_wp2_with (first | (refine wpList_fop rfl _ _ _ _ _ rfl _ _ _ rfl rfl (by decide) _ ?_; intro _ _) | (refine wpList_ftoi rfl 25 2 _ rfl (Option.isSome_iff_exists.2 ⟨_, Try.underlying25⟩) .i64 Try.underlying2 _ _ rfl (by exact Hti.out) ?_) | go_in)
  generalize hu : fop .mul .f64 (fop .mul .f64 f 4618760256179416344) (fop .mul .f64 f 4618760256179416344) = u
  have Hu := Lib.hid hu
  clear hu
  go_loopw [7, 8] (fun p k wr => ∃ (i n m : Nat) (kI : Int), i ≤ 8 ∧ Hid (kI = 8 - (i : Int)) ∧ p = .float .f64 (pick .f64 (ser u i) n) ∧ k = .int .i64 kI ∧ wr = w.drewN m) (fun _ k _ => (intOf k).toNat)
  case atStart => exact ⟨0, 0, _, 8, by omega, rfl, by rw [pick_not (show isN .f64 (ser u 0) = false from (by decide +kernel : isN .f64 one64 = false))]; rfl, rfl, rfl⟩
  case round =>
    obtain ⟨i, n, m, kI, hi, HK, rfl, rfl, rfl⟩ := hrel
    by_cases hlt8 : i < 8
    · have b1 : 1 ≤ kI := by have := HK.out; omega
      have b2 : kI ≤ 8 := by have := HK.out; omega
      have b3 : 0 ≤ 2 * kI * (2 * kI + 1) := Int.mul_nonneg (by omega) (by omega)
      have b4 : 2 * kI * (2 * kI + 1) ≤ 272 := Int.le_trans (Int.mul_le_mul (show 2 * kI ≤ 16 by omega) (show 2 * kI + 1 ≤ 17 by omega) (by omega) (by omega)) (by decide)
      have HD : Hid (den i = floatOfInt .f64 (2 * kI * (2 * kI + 1))) := by unfold Hid; rw [HK.out]; exact den_int i hlt8
      go_wp2_with (refine wpList_fop rfl _ _ _ _ _ rfl _ _ _ rfl rfl (by decide) _ ?_; intro _ _)
      go_roundw
      case rel => exact ⟨i + 1, _, _, kI - 1, by omega, by have := HK.out; unfold Hid; omega, by rw [ser_step, HD.out]; rfl, rfl, rfl⟩
      case measure => simp [intOf]; omega
    · obtain rfl : i = 8 := by omega
      have b1 : kI < 1 := by have := HK.out; omega
      have b2 : 0 ≤ kI := by have := HK.out; omega
      go_wp2_with (refine wpList_fop rfl _ _ _ _ _ rfl _ _ _ rfl rfl (by decide) _ ?_; intro _ _)
      go_ret
      rw [HF.out]
      unfold sinZ
      rw [Hu.out]
      exact ⟨_, _, rfl, rfl⟩
theorem c_l01SineWide_fft (v f : Nat) (w : World) (j : Nat) (Hti : Hid (floatToIntVal .f64 v .i64 = some (ti v))) (Hf : Hid (partF v = f))
    (hs : (FloatKind.f64.format.order (fop .sub .f64 v v) 0 != some .eq) = false)
    (h1 : (FloatKind.f64.format.order v 4841369599423283200 == some .gt || FloatKind.f64.format.order v 4841369599423283200 == some .eq) = false)
    (h2 : (FloatKind.f64.format.order v 14064741636278059008 == some .lt || FloatKind.f64.format.order v 14064741636278059008 == some .eq) = false)
    {j2 : Nat} (hnan : isN .f64 v = false) (hf : fop .sub .f64 v (floatOfInt .f64 (ti v)) = f) (hlt : (FloatKind.f64.format.order f 0 == some .lt) = false)
    (hb : (FloatKind.f64.format.order f 4602678819172646912 == some .gt || FloatKind.f64.format.order f 4602678819172646912 == some .eq) = false)
    (hq : (FloatKind.f64.format.order f 4598175219545276416 == some .gt) = true) : Calls Try.prog 40 #[.float .f64 (pick .f64 v j2)] (w.drewN j) (RetF .f64 (sinF v) w) := by
  have HF : Hid (sinF v = (sinZ (fop .mul .f64 (fop .sub .f64 4602678819172646912 f) 4618760256179416344))) := by
    unfold Hid sinF lowB fold2 half64 quarter64 twopi64; rw [Hf.out, hb]; simp only [if_true, if_false, Bool.false_eq_true, hq]
  rw [pick_not hnan]
  go_enter Try.func40, Try.ntmps40
  go_wp2_with (first | (refine wpList_fop rfl _ _ _ _ _ rfl _ _ _ rfl rfl (by decide) _ ?_; intro _ _) | (refine wpList_ftoi rfl 25 2 _ rfl (Option.isSome_iff_exists.2 ⟨_, Try.underlying25⟩) .i64 Try.underlying2 _ _ rfl (by exact Hti.out) ?_) | go_in)
  generalize hu : fop .mul .f64 (fop .mul .f64 (fop .sub .f64 4602678819172646912 f) 4618760256179416344) (fop .mul .f64 (fop .sub .f64 4602678819172646912 f) 4618760256179416344) = u
  have Hu := Lib.hid hu
  clear hu
  go_loopw [7, 8] (fun p k wr => ∃ (i n m : Nat) (kI : Int), i ≤ 8 ∧ Hid (kI = 8 - (i : Int)) ∧ p = .float .f64 (pick .f64 (ser u i) n) ∧ k = .int .i64 kI ∧ wr = w.drewN m) (fun _ k _ => (intOf k).toNat)
  case atStart => exact ⟨0, 0, _, 8, by omega, rfl, by rw [pick_not (show isN .f64 (ser u 0) = false from (by decide +kernel : isN .f64 one64 = false))]; rfl, rfl, rfl⟩
  case round =>
    obtain ⟨i, n, m, kI, hi, HK, rfl, rfl, rfl⟩ := hrel
    by_cases hlt8 : i < 8
    · have b1 : 1 ≤ kI := by have := HK.out; omega
      have b2 : kI ≤ 8 := by have := HK.out; omega
      have b3 : 0 ≤ 2 * kI * (2 * kI + 1) := Int.mul_nonneg (by omega) (by omega)
      have b4 : 2 * kI * (2 * kI + 1) ≤ 272 := Int.le_trans (Int.mul_le_mul (show 2 * kI ≤ 16 by omega) (show 2 * kI + 1 ≤ 17 by omega) (by omega) (by omega)) (by decide)
      have HD : Hid (den i = floatOfInt .f64 (2 * kI * (2 * kI + 1))) := by unfold Hid; rw [HK.out]; exact den_int i hlt8
      go_wp2_with (refine wpList_fop rfl _ _ _ _ _ rfl _ _ _ rfl rfl (by decide) _ ?_; intro _ _)
      go_roundw
      case rel => exact ⟨i + 1, _, _, kI - 1, by omega, by have := HK.out; unfold Hid; omega, by rw [ser_step, HD.out]; rfl, rfl, rfl⟩
      case measure => simp [intOf]; omega
    · obtain rfl : i = 8 := by omega
      have b1 : kI < 1 := by have := HK.out; omega
      have b2 : 0 ≤ kI := by have := HK.out; omega
      go_wp2_with (refine wpList_fop rfl _ _ _ _ _ rfl _ _ _ rfl rfl (by decide) _ ?_; intro _ _)
      go_ret
      rw [HF.out]
      unfold sinZ
      rw [Hu.out]
      exact ⟨_, _, rfl, rfl⟩
theorem c_l01SineWide_ftf (v f : Nat) (w : World) (j : Nat) (Hti : Hid (floatToIntVal .f64 v .i64 = some (ti v))) (Hf : Hid (partF v = f))
    (hs : (FloatKind.f64.format.order (fop .sub .f64 v v) 0 != some .eq) = false)
    (h1 : (FloatKind.f64.format.order v 4841369599423283200 == some .gt || FloatKind.f64.format.order v 4841369599423283200 == some .eq) = false)
    (h2 : (FloatKind.f64.format.order v 14064741636278059008 == some .lt || FloatKind.f64.format.order v 14064741636278059008 == some .eq) = false)
    {j2 : Nat} (hnan : isN .f64 v = false) (hf : fop .sub .f64 v (floatOfInt .f64 (ti v)) = f) (hlt : (FloatKind.f64.format.order f 0 == some .lt) = false)
    (hb : (FloatKind.f64.format.order f 4602678819172646912 == some .gt || FloatKind.f64.format.order f 4602678819172646912 == some .eq) = true)
    (hq : (FloatKind.f64.format.order (fop .sub .f64 f 4602678819172646912) 4598175219545276416 == some .gt) = false) : Calls Try.prog 40 #[.float .f64 (pick .f64 v j2)] (w.drewN j) (RetF .f64 (sinF v) w) := by
  have HF : Hid (sinF v = fneg .f64 (sinZ (fop .mul .f64 (fop .sub .f64 f 4602678819172646912) 4618760256179416344))) := by
    unfold Hid sinF lowB fold2 half64 quarter64 twopi64; rw [Hf.out, hb]; simp only [if_true, if_false, Bool.false_eq_true, hq]
  rw [pick_not hnan]
  go_enter Try.func40, Try.ntmps40
  go_wp2_with (first | (refine wpList_fop rfl _ _ _ _ _ rfl _ _ _ rfl rfl (by decide) _ ?_; intro _ _) | (refine wpList_ftoi rfl 25 2 _ rfl (Option.isSome_iff_exists.2 ⟨_, Try.underlying25⟩) .i64 Try.underlying2 _ _ rfl (by exact Hti.out) ?_) | go_in)
  generalize hu : fop .mul .f64 (fop .mul .f64 (fop .sub .f64 f 4602678819172646912) 4618760256179416344) (fop .mul .f64 (fop .sub .f64 f 4602678819172646912) 4618760256179416344) = u
  have Hu := Lib.hid hu
  clear hu
  go_loopw [7, 8] (fun p k wr => ∃ (i n m : Nat) (kI : Int), i ≤ 8 ∧ Hid (kI = 8 - (i : Int)) ∧ p = .float .f64 (pick .f64 (ser u i) n) ∧ k = .int .i64 kI ∧ wr = w.drewN m) (fun _ k _ => (intOf k).toNat)
  case atStart => exact ⟨0, 0, _, 8, by omega, rfl, by rw [pick_not (show isN .f64 (ser u 0) = false from (by decide +kernel : isN .f64 one64 = false))]; rfl, rfl, rfl⟩
  case round =>
    obtain ⟨i, n, m, kI, hi, HK, rfl, rfl, rfl⟩ := hrel
    by_cases hlt8 : i < 8
    · have b1 : 1 ≤ kI := by have := HK.out; omega
      have b2 : kI ≤ 8 := by have := HK.out; omega
      have b3 : 0 ≤ 2 * kI * (2 * kI + 1) := Int.mul_nonneg (by omega) (by omega)
      have b4 : 2 * kI * (2 * kI + 1) ≤ 272 := Int.le_trans (Int.mul_le_mul (show 2 * kI ≤ 16 by omega) (show 2 * kI + 1 ≤ 17 by omega) (by omega) (by omega)) (by decide)
      have HD : Hid (den i = floatOfInt .f64 (2 * kI * (2 * kI + 1))) := by unfold Hid; rw [HK.out]; exact den_int i hlt8
      go_wp2_with (refine wpList_fop rfl _ _ _ _ _ rfl _ _ _ rfl rfl (by decide) _ ?_; intro _ _)
      go_roundw
      case rel => exact ⟨i + 1, _, _, kI - 1, by omega, by have := HK.out; unfold Hid; omega, by rw [ser_step, HD.out]; rfl, rfl, rfl⟩
      case measure => simp [intOf]; omega
    · obtain rfl : i = 8 := by omega
      have b1 : kI < 1 := by have := HK.out; omega
      have b2 : 0 ≤ kI := by have := HK.out; omega
      go_wp2_with (refine wpList_fop rfl _ _ _ _ _ rfl _ _ _ rfl rfl (by decide) _ ?_; intro _ _)
      go_ret
      rw [HF.out]
      unfold sinZ
      rw [Hu.out]
      exact ⟨_, _, rfl, rfl⟩
theorem c_l01SineWide_ftt (v f : Nat) (w : World) (j : Nat) (Hti : Hid (floatToIntVal .f64 v .i64 = some (ti v))) (Hf : Hid (partF v = f))
    (hs : (FloatKind.f64.format.order (fop .sub .f64 v v) 0 != some .eq) = false)
    (h1 : (FloatKind.f64.format.order v 4841369599423283200 == some .gt || FloatKind.f64.format.order v 4841369599423283200 == some .eq) = false)
    (h2 : (FloatKind.f64.format.order v 14064741636278059008 == some .lt || FloatKind.f64.format.order v 14064741636278059008 == some .eq) = false)
    {j2 : Nat} (hnan : isN .f64 v = false) (hf : fop .sub .f64 v (floatOfInt .f64 (ti v)) = f) (hlt : (FloatKind.f64.format.order f 0 == some .lt) = false)
    (hb : (FloatKind.f64.format.order f 4602678819172646912 == some .gt || FloatKind.f64.format.order f 4602678819172646912 == some .eq) = true)
    (hq : (FloatKind.f64.format.order (fop .sub .f64 f 4602678819172646912) 4598175219545276416 == some .gt) = true) : Calls Try.prog 40 #[.float .f64 (pick .f64 v j2)] (w.drewN j) (RetF .f64 (sinF v) w) := by
  have HF : Hid (sinF v = fneg .f64 (sinZ (fop .mul .f64 (fop .sub .f64 4602678819172646912 (fop .sub .f64 f 4602678819172646912)) 4618760256179416344))) := by
    unfold Hid sinF lowB fold2 half64 quarter64 twopi64; rw [Hf.out, hb]; simp only [if_true, if_false, Bool.false_eq_true, hq]
  rw [pick_not hnan]
  go_enter Try.func40, Try.ntmps40
  go_wp2_with (first | (refine wpList_fop rfl _ _ _ _ _ rfl _ _ _ rfl rfl (by decide) _ ?_; intro _ _) | (refine wpList_ftoi rfl 25 2 _ rfl (Option.isSome_iff_exists.2 ⟨_, Try.underlying25⟩) .i64 Try.underlying2 _ _ rfl (by exact Hti.out) ?_) | go_in)
  generalize hu : fop .mul .f64 (fop .mul .f64 (fop .sub .f64 4602678819172646912 (fop .sub .f64 f 4602678819172646912)) 4618760256179416344) (fop .mul .f64 (fop .sub .f64 4602678819172646912 (fop .sub .f64 f 4602678819172646912)) 4618760256179416344) = u
  have Hu := Lib.hid hu
  clear hu
  go_loopw [7, 8] (fun p k wr => ∃ (i n m : Nat) (kI : Int), i ≤ 8 ∧ Hid (kI = 8 - (i : Int)) ∧ p = .float .f64 (pick .f64 (ser u i) n) ∧ k = .int .i64 kI ∧ wr = w.drewN m) (fun _ k _ => (intOf k).toNat)
  case atStart => exact ⟨0, 0, _, 8, by omega, rfl, by rw [pick_not (show isN .f64 (ser u 0) = false from (by decide +kernel : isN .f64 one64 = false))]; rfl, rfl, rfl⟩
  case round =>
    obtain ⟨i, n, m, kI, hi, HK, rfl, rfl, rfl⟩ := hrel
    by_cases hlt8 : i < 8
    · have b1 : 1 ≤ kI := by have := HK.out; omega
      have b2 : kI ≤ 8 := by have := HK.out; omega
      have b3 : 0 ≤ 2 * kI * (2 * kI + 1) := Int.mul_nonneg (by omega) (by omega)
      have b4 : 2 * kI * (2 * kI + 1) ≤ 272 := Int.le_trans (Int.mul_le_mul (show 2 * kI ≤ 16 by omega) (show 2 * kI + 1 ≤ 17 by omega) (by omega) (by omega)) (by decide)
      have HD : Hid (den i = floatOfInt .f64 (2 * kI * (2 * kI + 1))) := by unfold Hid; rw [HK.out]; exact den_int i hlt8
      go_wp2_with (refine wpList_fop rfl _ _ _ _ _ rfl _ _ _ rfl rfl (by decide) _ ?_; intro _ _)
      go_roundw
      case rel => exact ⟨i + 1, _, _, kI - 1, by omega, by have := HK.out; unfold Hid; omega, by rw [ser_step, HD.out]; rfl, rfl, rfl⟩
      case measure => simp [intOf]; omega
    · obtain rfl : i = 8 := by omega
      have b1 : kI < 1 := by have := HK.out; omega
      have b2 : 0 ≤ kI := by have := HK.out; omega
      go_wp2_with (refine wpList_fop rfl _ _ _ _ _ rfl _ _ _ rfl rfl (by decide) _ ?_; intro _ _)
      go_ret
      rw [HF.out]
      unfold sinZ
      rw [Hu.out]
      exact ⟨_, _, rfl, rfl⟩
theorem c_l01SineWide_tff (v f : Nat) (w : World) (j : Nat) (Hti : Hid (floatToIntVal .f64 v .i64 = some (ti v))) (Hf : Hid (partF v = f))
    (hs : (FloatKind.f64.format.order (fop .sub .f64 v v) 0 != some .eq) = false)
    (h1 : (FloatKind.f64.format.order v 4841369599423283200 == some .gt || FloatKind.f64.format.order v 4841369599423283200 == some .eq) = false)
    (h2 : (FloatKind.f64.format.order v 14064741636278059008 == some .lt || FloatKind.f64.format.order v 14064741636278059008 == some .eq) = false)
    {j2 : Nat} (hnan : isN .f64 v = false) (hf : fop .add .f64 (fop .sub .f64 v (floatOfInt .f64 (ti v))) 4607182418800017408 = f) (hlt : (FloatKind.f64.format.order (fop .sub .f64 v (floatOfInt .f64 (ti v))) 0 == some .lt) = true)
    (hb : (FloatKind.f64.format.order f 4602678819172646912 == some .gt || FloatKind.f64.format.order f 4602678819172646912 == some .eq) = false)
    (hq : (FloatKind.f64.format.order f 4598175219545276416 == some .gt) = false) : Calls Try.prog 40 #[.float .f64 (pick .f64 v j2)] (w.drewN j) (RetF .f64 (sinF v) w) := by
  have HF : Hid (sinF v = (sinZ (fop .mul .f64 f 4618760256179416344))) := by
    unfold Hid sinF lowB fold2 half64 quarter64 twopi64; rw [Hf.out, hb]; simp only [if_true, if_false, Bool.false_eq_true, hq]
  rw [pick_not hnan]
  go_enter Try.func40, Try.ntmps40
  go_wp2_with (first | (refine wpList_fop rfl _ _ _ _ _ rfl _ _ _ rfl rfl (by decide) _ ?_; intro _ _) | (refine wpList_ftoi rfl 25 2 _ rfl (Option.isSome_iff_exists.2 ⟨_, Try.underlying25⟩) .i64 Try.underlying2 _ _ rfl (by exact Hti.out) ?_) | go_in)
  generalize hu : fop .mul .f64 (fop .mul .f64 f 4618760256179416344) (fop .mul .f64 f 4618760256179416344) = u
  have Hu := Lib.hid hu
  clear hu
  go_loopw [7, 8] (fun p k wr => ∃ (i n m : Nat) (kI : Int), i ≤ 8 ∧ Hid (kI = 8 - (i : Int)) ∧ p = .float .f64 (pick .f64 (ser u i) n) ∧ k = .int .i64 kI ∧ wr = w.drewN m) (fun _ k _ => (intOf k).toNat)
  case atStart => exact ⟨0, 0, _, 8, by omega, rfl, by rw [pick_not (show isN .f64 (ser u 0) = false from (by decide +kernel : isN .f64 one64 = false))]; rfl, rfl, rfl⟩
  case round =>
    obtain ⟨i, n, m, kI, hi, HK, rfl, rfl, rfl⟩ := hrel
    by_cases hlt8 : i < 8
    · have b1 : 1 ≤ kI := by have := HK.out; omega
      have b2 : kI ≤ 8 := by have := HK.out; omega
      have b3 : 0 ≤ 2 * kI * (2 * kI + 1) := Int.mul_nonneg (by omega) (by omega)
      have b4 : 2 * kI * (2 * kI + 1) ≤ 272 := Int.le_trans (Int.mul_le_mul (show 2 * kI ≤ 16 by omega) (show 2 * kI + 1 ≤ 17 by omega) (by omega) (by omega)) (by decide)
      have HD : Hid (den i = floatOfInt .f64 (2 * kI * (2 * kI + 1))) := by unfold Hid; rw [HK.out]; exact den_int i hlt8
      go_wp2_with (refine wpList_fop rfl _ _ _ _ _ rfl _ _ _ rfl rfl (by decide) _ ?_; intro _ _)
      go_roundw
      case rel => exact ⟨i + 1, _, _, kI - 1, by omega, by have := HK.out; unfold Hid; omega, by rw [ser_step, HD.out]; rfl, rfl, rfl⟩
      case measure => simp [intOf]; omega
    · obtain rfl : i = 8 := by omega
      have b1 : kI < 1 := by have := HK.out; omega
      have b2 : 0 ≤ kI := by have := HK.out; omega
      go_wp2_with (refine wpList_fop rfl _ _ _ _ _ rfl _ _ _ rfl rfl (by decide) _ ?_; intro _ _)
      go_ret
      rw [HF.out]
      unfold sinZ
      rw [Hu.out]
      exact ⟨_, _, rfl, rfl⟩
theorem c_l01SineWide_tft (v f : Nat) (w : World) (j : Nat) (Hti : Hid (floatToIntVal .f64 v .i64 = some (ti v))) (Hf : Hid (partF v = f))
    (hs : (FloatKind.f64.format.order (fop .sub .f64 v v) 0 != some .eq) = false)
    (h1 : (FloatKind.f64.format.order v 4841369599423283200 == some .gt || FloatKind.f64.format.order v 4841369599423283200 == some .eq) = false)
    (h2 : (FloatKind.f64.format.order v 14064741636278059008 == some .lt || FloatKind.f64.format.order v 14064741636278059008 == some .eq) = false)
    {j2 : Nat} (hnan : isN .f64 v = false) (hf : fop .add .f64 (fop .sub .f64 v (floatOfInt .f64 (ti v))) 4607182418800017408 = f) (hlt : (FloatKind.f64.format.order (fop .sub .f64 v (floatOfInt .f64 (ti v))) 0 == some .lt) = true)
    (hb : (FloatKind.f64.format.order f 4602678819172646912 == some .gt || FloatKind.f64.format.order f 4602678819172646912 == some .eq) = false)
    (hq : (FloatKind.f64.format.order f 4598175219545276416 == some .gt) = true) : Calls Try.prog 40 #[.float .f64 (pick .f64 v j2)] (w.drewN j) (RetF .f64 (sinF v) w) := by
  have HF : Hid (sinF v = (sinZ (fop .mul .f64 (fop .sub .f64 4602678819172646912 f) 4618760256179416344))) := by
    unfold Hid sinF lowB fold2 half64 quarter64 twopi64; rw [Hf.out, hb]; simp only [if_true, if_false, Bool.false_eq_true, hq]
  rw [pick_not hnan]
  go_enter Try.func40, Try.ntmps40
  go_wp2_with (first | (refine wpList_fop rfl _ _ _ _ _ rfl _ _ _ rfl rfl (by decide) _ ?_; intro _ _) | (refine wpList_ftoi rfl 25 2 _ rfl (Option.isSome_iff_exists.2 ⟨_, Try.underlying25⟩) .i64 Try.underlying2 _ _ rfl (by exact Hti.out) ?_) | go_in)
  generalize hu : fop .mul .f64 (fop .mul .f64 (fop .sub .f64 4602678819172646912 f) 4618760256179416344) (fop .mul .f64 (fop .sub .f64 4602678819172646912 f) 4618760256179416344) = u
  have Hu := Lib.hid hu
  clear hu
  go_loopw [7, 8] (fun p k wr => ∃ (i n m : Nat) (kI : Int), i ≤ 8 ∧ Hid (kI = 8 - (i : Int)) ∧ p = .float .f64 (pick .f64 (ser u i) n) ∧ k = .int .i64 kI ∧ wr = w.drewN m) (fun _ k _ => (intOf k).toNat)
  case atStart => exact ⟨0, 0, _, 8, by omega, rfl, by rw [pick_not (show isN .f64 (ser u 0) = false from (by decide +kernel : isN .f64 one64 = false))]; rfl, rfl, rfl⟩
  case round =>
    obtain ⟨i, n, m, kI, hi, HK, rfl, rfl, rfl⟩ := hrel
    by_cases hlt8 : i < 8
    · have b1 : 1 ≤ kI := by have := HK.out; omega
      have b2 : kI ≤ 8 := by have := HK.out; omega
      have b3 : 0 ≤ 2 * kI * (2 * kI + 1) := Int.mul_nonneg (by omega) (by omega)
      have b4 : 2 * kI * (2 * kI + 1) ≤ 272 := Int.le_trans (Int.mul_le_mul (show 2 * kI ≤ 16 by omega) (show 2 * kI + 1 ≤ 17 by omega) (by omega) (by omega)) (by decide)
      have HD : Hid (den i = floatOfInt .f64 (2 * kI * (2 * kI + 1))) := by unfold Hid; rw [HK.out]; exact den_int i hlt8
      go_wp2_with (refine wpList_fop rfl _ _ _ _ _ rfl _ _ _ rfl rfl (by decide) _ ?_; intro _ _)
      go_roundw
      case rel => exact ⟨i + 1, _, _, kI - 1, by omega, by have := HK.out; unfold Hid; omega, by rw [ser_step, HD.out]; rfl, rfl, rfl⟩
      case measure => simp [intOf]; omega
    · obtain rfl : i = 8 := by omega
      have b1 : kI < 1 := by have := HK.out; omega
      have b2 : 0 ≤ kI := by have := HK.out; omega
      go_wp2_with (refine wpList_fop rfl _ _ _ _ _ rfl _ _ _ rfl rfl (by decide) _ ?_; intro _ _)
      go_ret
      rw [HF.out]
      unfold sinZ
      rw [Hu.out]
      exact ⟨_, _, rfl, rfl⟩
theorem c_l01SineWide_ttf (v f : Nat) (w : World) (j : Nat) (Hti : Hid (floatToIntVal .f64 v .i64 = some (ti v))) (Hf : Hid (partF v = f))
    (hs : (FloatKind.f64.format.order (fop .sub .f64 v v) 0 != some .eq) = false)
    (h1 : (FloatKind.f64.format.order v 4841369599423283200 == some .gt || FloatKind.f64.format.order v 4841369599423283200 == some .eq) = false)
    (h2 : (FloatKind.f64.format.order v 14064741636278059008 == some .lt || FloatKind.f64.format.order v 14064741636278059008 == some .eq) = false)
    {j2 : Nat} (hnan : isN .f64 v = false) (hf : fop .add .f64 (fop .sub .f64 v (floatOfInt .f64 (ti v))) 4607182418800017408 = f) (hlt : (FloatKind.f64.format.order (fop .sub .f64 v (floatOfInt .f64 (ti v))) 0 == some .lt) = true)
    (hb : (FloatKind.f64.format.order f 4602678819172646912 == some .gt || FloatKind.f64.format.order f 4602678819172646912 == some .eq) = true)
    (hq : (FloatKind.f64.format.order (fop .sub .f64 f 4602678819172646912) 4598175219545276416 == some .gt) = false) : Calls Try.prog 40 #[.float .f64 (pick .f64 v j2)] (w.drewN j) (RetF .f64 (sinF v) w) := by
  have HF : Hid (sinF v = fneg .f64 (sinZ (fop .mul .f64 (fop .sub .f64 f 4602678819172646912) 4618760256179416344))) := by
    unfold Hid sinF lowB fold2 half64 quarter64 twopi64; rw [Hf.out, hb]; simp only [if_true, if_false, Bool.false_eq_true, hq]
  rw [pick_not hnan]
  go_enter Try.func40, Try.ntmps40
  go_wp2_with (first | (refine wpList_fop rfl _ _ _ _ _ rfl _ _ _ rfl rfl (by decide) _ ?_; intro _ _) | (refine wpList_ftoi rfl 25 2 _ rfl (Option.isSome_iff_exists.2 ⟨_, Try.underlying25⟩) .i64 Try.underlying2 _ _ rfl (by exact Hti.out) ?_) | go_in)
  generalize hu : fop .mul .f64 (fop .mul .f64 (fop .sub .f64 f 4602678819172646912) 4618760256179416344) (fop .mul .f64 (fop .sub .f64 f 4602678819172646912) 4618760256179416344) = u
  have Hu := Lib.hid hu
  clear hu
  go_loopw [7, 8] (fun p k wr => ∃ (i n m : Nat) (kI : Int), i ≤ 8 ∧ Hid (kI = 8 - (i : Int)) ∧ p = .float .f64 (pick .f64 (ser u i) n) ∧ k = .int .i64 kI ∧ wr = w.drewN m) (fun _ k _ => (intOf k).toNat)
  case atStart => exact ⟨0, 0, _, 8, by omega, rfl, by rw [pick_not (show isN .f64 (ser u 0) = false from (by decide +kernel : isN .f64 one64 = false))]; rfl, rfl, rfl⟩
  case round =>
    obtain ⟨i, n, m, kI, hi, HK, rfl, rfl, rfl⟩ := hrel
    by_cases hlt8 : i < 8
    · have b1 : 1 ≤ kI := by have := HK.out; omega
      have b2 : kI ≤ 8 := by have := HK.out; omega
      have b3 : 0 ≤ 2 * kI * (2 * kI + 1) := Int.mul_nonneg (by omega) (by omega)
      have b4 : 2 * kI * (2 * kI + 1) ≤ 272 := Int.le_trans (Int.mul_le_mul (show 2 * kI ≤ 16 by omega) (show 2 * kI + 1 ≤ 17 by omega) (by omega) (by omega)) (by decide)
      have HD : Hid (den i = floatOfInt .f64 (2 * kI * (2 * kI + 1))) := by unfold Hid; rw [HK.out]; exact den_int i hlt8
      go_wp2_with (refine wpList_fop rfl _ _ _ _ _ rfl _ _ _ rfl rfl (by decide) _ ?_; intro _ _)
      go_roundw
      case rel => exact ⟨i + 1, _, _, kI - 1, by omega, by have := HK.out; unfold Hid; omega, by rw [ser_step, HD.out]; rfl, rfl, rfl⟩
      case measure => simp [intOf]; omega
    · obtain rfl : i = 8 := by omega
      have b1 : kI < 1 := by have := HK.out; omega
      have b2 : 0 ≤ kI := by have := HK.out; omega
      go_wp2_with (refine wpList_fop rfl _ _ _ _ _ rfl _ _ _ rfl rfl (by decide) _ ?_; intro _ _)
      go_ret
      rw [HF.out]
      unfold sinZ
      rw [Hu.out]
      exact ⟨_, _, rfl, rfl⟩
theorem c_l01SineWide_ttt (v f : Nat) (w : World) (j : Nat) (Hti : Hid (floatToIntVal .f64 v .i64 = some (ti v))) (Hf : Hid (partF v = f))
    (hs : (FloatKind.f64.format.order (fop .sub .f64 v v) 0 != some .eq) = false)
    (h1 : (FloatKind.f64.format.order v 4841369599423283200 == some .gt || FloatKind.f64.format.order v 4841369599423283200 == some .eq) = false)
    (h2 : (FloatKind.f64.format.order v 14064741636278059008 == some .lt || FloatKind.f64.format.order v 14064741636278059008 == some .eq) = false)
    {j2 : Nat} (hnan : isN .f64 v = false) (hf : fop .add .f64 (fop .sub .f64 v (floatOfInt .f64 (ti v))) 4607182418800017408 = f) (hlt : (FloatKind.f64.format.order (fop .sub .f64 v (floatOfInt .f64 (ti v))) 0 == some .lt) = true)
    (hb : (FloatKind.f64.format.order f 4602678819172646912 == some .gt || FloatKind.f64.format.order f 4602678819172646912 == some .eq) = true)
    (hq : (FloatKind.f64.format.order (fop .sub .f64 f 4602678819172646912) 4598175219545276416 == some .gt) = true) : Calls Try.prog 40 #[.float .f64 (pick .f64 v j2)] (w.drewN j) (RetF .f64 (sinF v) w) := by
  have HF : Hid (sinF v = fneg .f64 (sinZ (fop .mul .f64 (fop .sub .f64 4602678819172646912 (fop .sub .f64 f 4602678819172646912)) 4618760256179416344))) := by
    unfold Hid sinF lowB fold2 half64 quarter64 twopi64; rw [Hf.out, hb]; simp only [if_true, if_false, Bool.false_eq_true, hq]
  rw [pick_not hnan]
  go_enter Try.func40, Try.ntmps40
  go_wp2_with (first | (refine wpList_fop rfl _ _ _ _ _ rfl _ _ _ rfl rfl (by decide) _ ?_; intro _ _) | (refine wpList_ftoi rfl 25 2 _ rfl (Option.isSome_iff_exists.2 ⟨_, Try.underlying25⟩) .i64 Try.underlying2 _ _ rfl (by exact Hti.out) ?_) | go_in)
  generalize hu : fop .mul .f64 (fop .mul .f64 (fop .sub .f64 4602678819172646912 (fop .sub .f64 f 4602678819172646912)) 4618760256179416344) (fop .mul .f64 (fop .sub .f64 4602678819172646912 (fop .sub .f64 f 4602678819172646912)) 4618760256179416344) = u
  have Hu := Lib.hid hu
  clear hu
  go_loopw [7, 8] (fun p k wr => ∃ (i n m : Nat) (kI : Int), i ≤ 8 ∧ Hid (kI = 8 - (i : Int)) ∧ p = .float .f64 (pick .f64 (ser u i) n) ∧ k = .int .i64 kI ∧ wr = w.drewN m) (fun _ k _ => (intOf k).toNat)
  case atStart => exact ⟨0, 0, _, 8, by omega, rfl, by rw [pick_not (show isN .f64 (ser u 0) = false from (by decide +kernel : isN .f64 one64 = false))]; rfl, rfl, rfl⟩
  case round =>
    obtain ⟨i, n, m, kI, hi, HK, rfl, rfl, rfl⟩ := hrel
    by_cases hlt8 : i < 8
    · have b1 : 1 ≤ kI := by have := HK.out; omega
      have b2 : kI ≤ 8 := by have := HK.out; omega
      have b3 : 0 ≤ 2 * kI * (2 * kI + 1) := Int.mul_nonneg (by omega) (by omega)
      have b4 : 2 * kI * (2 * kI + 1) ≤ 272 := Int.le_trans (Int.mul_le_mul (show 2 * kI ≤ 16 by omega) (show 2 * kI + 1 ≤ 17 by omega) (by omega) (by omega)) (by decide)
      have HD : Hid (den i = floatOfInt .f64 (2 * kI * (2 * kI + 1))) := by unfold Hid; rw [HK.out]; exact den_int i hlt8
      go_wp2_with (refine wpList_fop rfl _ _ _ _ _ rfl _ _ _ rfl rfl (by decide) _ ?_; intro _ _)
      go_roundw
      case rel => exact ⟨i + 1, _, _, kI - 1, by omega, by have := HK.out; unfold Hid; omega, by rw [ser_step, HD.out]; rfl, rfl, rfl⟩
      case measure => simp [intOf]; omega
    · obtain rfl : i = 8 := by omega
      have b1 : kI < 1 := by have := HK.out; omega
      have b2 : 0 ≤ kI := by have := HK.out; omega
      go_wp2_with (refine wpList_fop rfl _ _ _ _ _ rfl _ _ _ rfl rfl (by decide) _ ?_; intro _ _)
      go_ret
      rw [HF.out]
      unfold sinZ
      rw [Hu.out]
      exact ⟨_, _, rfl, rfl⟩
/-! ### l01SineAll -/
theorem c_l01Sine_ok (v : Nat) {j2 : Nat} (w : World) (j : Nat) (hti : floatToIntVal .f64 v .i64 = some (ti v)) (hnan : isN .f64 v = false)
    (hs : (FloatKind.f64.format.order (fop .sub .f64 v v) 0 != some .eq) = false)
    (h1 : (FloatKind.f64.format.order v 4841369599423283200 == some .gt || FloatKind.f64.format.order v 4841369599423283200 == some .eq) = false)
    (h2 : (FloatKind.f64.format.order v 14064741636278059008 == some .lt || FloatKind.f64.format.order v 14064741636278059008 == some .eq) = false) :
    Calls Try.prog 40 #[.float .f64 (pick .f64 v j2)] (w.drewN j) (RetF .f64 (sinF v) w) := by
  cases hl : (FloatKind.f64.format.order (fop .sub .f64 v (floatOfInt .f64 (ti v))) 0 == some .lt)
  · have e : fop .sub .f64 v (floatOfInt .f64 (ti v)) = partF v := by unfold partF; rw [hl, if_neg (by decide)]
    have hl' := hl
    rw [e] at hl'
    cases hb : (FloatKind.f64.format.order (partF v) 4602678819172646912 == some .gt || FloatKind.f64.format.order (partF v) 4602678819172646912 == some .eq)
    · cases hq : (FloatKind.f64.format.order (partF v) 4598175219545276416 == some .gt)
      · exact c_l01SineWide_fff v _ w j hti rfl hs h1 h2 hnan e hl' hb hq
      · exact c_l01SineWide_fft v _ w j hti rfl hs h1 h2 hnan e hl' hb hq
    · cases hq : (FloatKind.f64.format.order (fop .sub .f64 (partF v) 4602678819172646912) 4598175219545276416 == some .gt)
      · exact c_l01SineWide_ftf v _ w j hti rfl hs h1 h2 hnan e hl' hb hq
      · exact c_l01SineWide_ftt v _ w j hti rfl hs h1 h2 hnan e hl' hb hq
  · have e : fop .add .f64 (fop .sub .f64 v (floatOfInt .f64 (ti v))) 4607182418800017408 = partF v := by unfold partF; rw [hl, if_pos rfl]; rfl
    cases hb : (FloatKind.f64.format.order (partF v) 4602678819172646912 == some .gt || FloatKind.f64.format.order (partF v) 4602678819172646912 == some .eq)
    · cases hq : (FloatKind.f64.format.order (partF v) 4598175219545276416 == some .gt)
      · exact c_l01SineWide_tff v _ w j hti rfl hs h1 h2 hnan e hl hb hq
      · exact c_l01SineWide_tft v _ w j hti rfl hs h1 h2 hnan e hl hb hq
    · cases hq : (FloatKind.f64.format.order (fop .sub .f64 (partF v) 4602678819172646912) 4598175219545276416 == some .gt)
      · exact c_l01SineWide_ttf v _ w j hti rfl hs h1 h2 hnan e hl hb hq
      · exact c_l01SineWide_ttt v _ w j hti rfl hs h1 h2 hnan e hl hb hq

/-! ### f64from -/
@[go_sem] theorem e_f64from (n : Int) (w : World) : (callFunc 37 #[.int .u64 n]).run Try.prog w = .ok (.value (.float .f64 n.toNat)) w := by kernel_rfl
/-! ### mathNaN -/
theorem c_NaN (w : World) (j : Nat) : Calls Try.prog 48 #[] (w.drewN j) (RetF .f64 (qn .f64) w) := by
  obtain ⟨n, hn⟩ := raw_nan (b := 9221120237041090561) (by decide +kernel) (by decide +kernel)
  go_enter Try.func48, Try.ntmps48
  go_wp2
  go_ret
  exact ⟨n, _, by rw [← hn]; rfl, rfl⟩
/-! ### sSine -/
theorem c_l01Sine_nan (v j2 : Nat) (w : World) (j : Nat) (hs : (FloatKind.f64.format.order (fop .sub .f64 v v) 0 != some .eq) = true) : Calls Try.prog 40 #[.float .f64 (pick .f64 v j2)] (w.drewN j) (RetF .f64 (qn .f64) w) := by
  go_enter Try.func40, Try.ntmps40
  go_wp2_with (first | (refine wpList_fop rfl _ _ _ _ _ rfl _ _ _ rfl rfl (by decide) _ ?_; intro _ _) | (go_at_call 48; refine (c_NaN _ _).mono ?_; rintro _ _ ⟨_, _, rfl, rfl⟩))
  go_ret
  exact ⟨_, _, rfl, rfl⟩
theorem c_l01Sine_big (v j2 : Nat) (w : World) (j : Nat) (hs : (FloatKind.f64.format.order (fop .sub .f64 v v) 0 != some .eq) = false)
    (h : ((FloatKind.f64.format.order v 4841369599423283200 == some .gt || FloatKind.f64.format.order v 4841369599423283200 == some .eq) ||
     (FloatKind.f64.format.order v 14064741636278059008 == some .lt || FloatKind.f64.format.order v 14064741636278059008 == some .eq)) = true) : Calls Try.prog 40 #[.float .f64 (pick .f64 v j2)] (w.drewN j) (RetV (.float .f64 0) w) := by
  cases h1 : (FloatKind.f64.format.order v 4841369599423283200 == some .gt || FloatKind.f64.format.order v 4841369599423283200 == some .eq)
  · rw [h1, Bool.false_or] at h
    go_enter Try.func40, Try.ntmps40
    go_wp2_with (first | (refine wpList_fop rfl _ _ _ _ _ rfl _ _ _ rfl rfl (by decide) _ ?_; intro _ _))
    go_ret
    exact ⟨_, rfl, rfl⟩
  · clear h
    go_enter Try.func40, Try.ntmps40
    go_wp2_with (first | (refine wpList_fop rfl _ _ _ _ _ rfl _ _ _ rfl rfl (by decide) _ ?_; intro _ _))
    go_ret
    exact ⟨_, rfl, rfl⟩
theorem c_l01Sine (v n : Nat) (w : World) (j : Nat) (hv : v < 2 ^ FloatKind.f32.format.width) : Calls Try.prog 24 #[.float .f32 (pick .f32 v n)] (w.drewN j) (RetF .f32 (sineT v) w) := by
  have hss := sub_self_zero .f64 (cvU v)
  rw [finB_cvU] at hss
  cases hf : finB .f32 v
  · have e : sineT v = cvN (qn .f64) := by unfold sineT; rw [hf, if_neg (by decide)]; exact (cvN_qn (isN_qn .f64)).symm
    rw [e]
    have hs : (FloatKind.f64.format.order (fop .sub .f64 (cvU v) (cvU v)) 0 != some .eq) = true := by rw [bne, hss, hf]; rfl
    have HS := Lib.hid hs
    clear hss hs
    go_enter Try.func24, Try.ntmps24
    go_wp2_with (first | (refine wpList_cvU rfl 22 25 _ rfl (Option.isSome_iff_exists.2 ⟨_, Try.underlying22⟩) Try.underlying25 _ rfl _ ?_; intro _ _) | (refine wpList_cvN rfl 25 22 _ rfl (Option.isSome_iff_exists.2 ⟨_, Try.underlying25⟩) Try.underlying22 _ rfl _ (by exact .inl (by rw [isN_pick]; exact isN_qn _)) ?_; intro _ _) | (go_at_call 40; refine (c_l01Sine_nan _ _ _ _ HS.out).mono ?_; rintro _ _ ⟨_, _, rfl, rfl⟩) | go_in)
    go_ret
    exact ⟨_, _, rfl, rfl⟩
  · have hs : (FloatKind.f64.format.order (fop .sub .f64 (cvU v) (cvU v)) 0 != some .eq) = false := by rw [bne, hss, hf]; rfl
    have hn : isN .f64 (cvU v) = false := by rw [isN_cvU]; exact notN_fin (k := .f32) (of_decide_eq_true hf)
    obtain ⟨g1, g2⟩ := big_abs (cvU v) hn
    cases hb : decide (4841369599423283200 ≤ rung Ieee.double (cvU v))
    · obtain ⟨k1, k2, k3⟩ := fin_small hf hb
      have e : sineT v = cvN (sinF (cvU v)) := by unfold sineT; rw [hf, if_pos rfl, hb, if_neg (by decide)]
      rw [e]
      rw [g2, hb] at g1
      have h12 := Bool.or_eq_false_iff.1 g1.symm
      have H := Lib.hid (And.intro hs (And.intro h12.1 (And.intro h12.2 (And.intro k2 (And.intro k1 k3)))))
      clear hss hs g1 g2 k1 k2 k3 h12 hn
      go_enter Try.func24, Try.ntmps24
      go_wp2_with (first | (refine wpList_cvU rfl 22 25 _ rfl (Option.isSome_iff_exists.2 ⟨_, Try.underlying22⟩) Try.underlying25 _ rfl _ ?_; intro _ _) | (refine wpList_cvN rfl 25 22 _ rfl (Option.isSome_iff_exists.2 ⟨_, Try.underlying25⟩) Try.underlying22 _ rfl _ (by rw [Fits_pick]; exact Fits_sin H.out.2.2.2.2.2) ?_; intro _ _) | (go_at_call 40; refine (c_l01Sine_ok _ _ _ H.out.2.2.2.1 H.out.2.2.2.2.1 H.out.1 H.out.2.1 H.out.2.2.1).mono ?_; rintro _ _ ⟨_, _, rfl, rfl⟩) | go_in)
      go_ret
      exact ⟨_, _, rfl, rfl⟩
    · have e : sineT v = 0 := by unfold sineT; rw [hf, if_pos rfl, hb, if_pos rfl]
      rw [e]
      rw [g2, hb] at g1
      have H := Lib.hid (And.intro hs g1.symm)
      have hz : cvN 0 = 0 := by decide +kernel
      clear hss hs g1 g2 hn
      go_enter Try.func24, Try.ntmps24
      go_wp2_with (first | (refine wpList_cvU rfl 22 25 _ rfl (Option.isSome_iff_exists.2 ⟨_, Try.underlying22⟩) Try.underlying25 _ rfl _ ?_; intro _ _) | (refine wpList_cvN rfl 25 22 _ rfl (Option.isSome_iff_exists.2 ⟨_, Try.underlying25⟩) Try.underlying22 _ rfl _ (by exact Fits_of_Bd (Bd_const (by decide +kernel))) ?_; intro _ _) | (go_at_call 40; refine (c_l01Sine_big _ _ _ _ H.out.1 H.out.2).mono ?_; rintro _ _ ⟨_, rfl, rfl⟩) | go_in)
      go_ret
      exact ⟨_, _, rfl, rfl⟩
theorem c_sSineTurns (v n : Nat) (w : World) (j : Nat) (hv : v < 2 ^ FloatKind.f32.format.width) : Calls Try.prog 11 #[.float .f32 (pick .f32 v n)] (w.drewN j) (RetF .f32 (sineT v) w) := by
  go_enter Try.func11, Try.ntmps11
  go_wp2_with ((go_at_call 24; refine (c_l01Sine _ _ _ _ hv).mono ?_; rintro _ _ ⟨_, _, rfl, rfl⟩))
  go_ret
  exact ⟨_, _, rfl, rfl⟩
/-! ### partOfTurn -/
theorem c_partOfTurn (v : Nat) (w : World) (j : Nat) (hti : floatToIntVal .f64 v .i64 = some (ti v)) : Calls Try.prog 43 #[.float .f64 v] (w.drewN j) (RetF .f64 (partF v) w) := by
  have H := Lib.hid hti
  clear hti
  cases h : (FloatKind.f64.format.order (fop .sub .f64 v (floatOfInt .f64 (ti v))) 0 == some .lt)
  · have e : partF v = fop .sub .f64 v (floatOfInt .f64 (ti v)) := by unfold partF; rw [h, if_neg (by decide)]
    rw [e]
    go_enter Try.func43, Try.ntmps43
    go_wp2_with (first | (refine wpList_fop rfl _ _ _ _ _ rfl _ _ _ rfl rfl (by decide) _ ?_; intro _ _) | (refine wpList_ftoi rfl 25 2 _ rfl (Option.isSome_iff_exists.2 ⟨_, Try.underlying25⟩) .i64 Try.underlying2 _ _ rfl (by exact H.out) ?_))
    go_ret
    exact ⟨_, _, rfl, rfl⟩
  · have e : partF v = fop .add .f64 (fop .sub .f64 v (floatOfInt .f64 (ti v))) 4607182418800017408 := by unfold partF; rw [h, if_pos rfl]; rfl
    rw [e]
    go_enter Try.func43, Try.ntmps43
    go_wp2_with (first | (refine wpList_fop rfl _ _ _ _ _ rfl _ _ _ rfl rfl (by decide) _ ?_; intro _ _) | (refine wpList_ftoi rfl 25 2 _ rfl (Option.isSome_iff_exists.2 ⟨_, Try.underlying25⟩) .i64 Try.underlying2 _ _ rfl (by exact H.out) ?_))
    go_ret
    exact ⟨_, _, rfl, rfl⟩
/-! ### radians -/

/-! ### sineOf -/
theorem c_sineOf_ff (v f : Nat) (w : World) (j : Nat) (Hti : Hid (floatToIntVal .f64 v .i64 = some (ti v))) (Hf : Hid (partF v = f))
    (hb : (FloatKind.f64.format.order f 4602678819172646912 == some .gt || FloatKind.f64.format.order f 4602678819172646912 == some .eq) = false)
    (hq : (FloatKind.f64.format.order f 4598175219545276416 == some .gt) = false) : Calls Try.prog 29 #[.float .f64 v] (w.drewN j) (RetF .f64 (sinF v) w) := by
  have HF : Hid (sinF v = (sinZ (fop .mul .f64 f 4618760256179416344))) := by
    unfold Hid sinF lowB fold2 half64 quarter64 twopi64; rw [Hf.out, hb]; simp only [if_true, if_false, Bool.false_eq_true, hq]
  go_enter Try.func29, Try.ntmps29
  go_wp2_with (first | (refine wpList_fop rfl _ _ _ _ _ rfl _ _ _ rfl rfl (by decide) _ ?_; intro _ _) | (go_at_call 43; refine (c_partOfTurn _ _ _ Hti.out).mono ?_; rw [Hf.out]; rintro _ _ ⟨_, _, rfl, rfl⟩) | go_in)
  generalize hu : fop .mul .f64 (fop .mul .f64 f 4618760256179416344) (fop .mul .f64 f 4618760256179416344) = u
  have Hu := Lib.hid hu
  clear hu
  go_loopw [7, 8] (fun p k wr => ∃ i n m : Nat, i ≤ 8 ∧ p = .float .f64 (pick .f64 (ser u i) n) ∧ k = .float .f64 (kfl i) ∧ wr = w.drewN m) (fun _ k _ => fbits k)
  case atStart => exact ⟨0, 0, _, by omega, by rw [pick_not (show isN .f64 (ser u 0) = false from (by decide +kernel : isN .f64 one64 = false))]; rfl, rfl, rfl⟩
  case round =>
    obtain ⟨i, n, m, hi, rfl, rfl, rfl⟩ := hrel
    by_cases hlt : i < 8
    · have ht := kfl_test i hlt
      unfold one64 at ht
      have HD := Lib.hid (kfl_den i hlt)
      have HN := Lib.hid (kfl_next i hlt)
      have HL := Lib.hid (kfl_lt i hlt)
      go_wp2_with (refine wpList_fop rfl _ _ _ _ _ rfl _ _ _ rfl rfl (by decide) _ ?_; intro _ _)
      go_roundw
      case rel => exact ⟨i + 1, _, _, by omega, by rw [ser_step, ← HD.out]; rfl, by have e := HN.out; unfold one64 at e; rw [e, pick_not (kfl_notN _)], rfl⟩
      case measure => have e := HN.out; unfold one64 at e; rw [e, pick_not (kfl_notN _)]; exact HL.out
    · obtain rfl : i = 8 := by omega
      have ht := kfl_end
      unfold one64 at ht
      go_wp2_with (refine wpList_fop rfl _ _ _ _ _ rfl _ _ _ rfl rfl (by decide) _ ?_; intro _ _)
      go_ret
      rw [HF.out]
      unfold sinZ
      rw [Hu.out]
      exact ⟨_, _, rfl, rfl⟩
theorem c_sineOf_ft (v f : Nat) (w : World) (j : Nat) (Hti : Hid (floatToIntVal .f64 v .i64 = some (ti v))) (Hf : Hid (partF v = f))
    (hb : (FloatKind.f64.format.order f 4602678819172646912 == some .gt || FloatKind.f64.format.order f 4602678819172646912 == some .eq) = false)
    (hq : (FloatKind.f64.format.order f 4598175219545276416 == some .gt) = true) : Calls Try.prog 29 #[.float .f64 v] (w.drewN j) (RetF .f64 (sinF v) w) := by
  have HF : Hid (sinF v = (sinZ (fop .mul .f64 (fop .sub .f64 4602678819172646912 f) 4618760256179416344))) := by
    unfold Hid sinF lowB fold2 half64 quarter64 twopi64; rw [Hf.out, hb]; simp only [if_true, if_false, Bool.false_eq_true, hq]
  go_enter Try.func29, Try.ntmps29
  go_wp2_with (first | (refine wpList_fop rfl _ _ _ _ _ rfl _ _ _ rfl rfl (by decide) _ ?_; intro _ _) | (go_at_call 43; refine (c_partOfTurn _ _ _ Hti.out).mono ?_; rw [Hf.out]; rintro _ _ ⟨_, _, rfl, rfl⟩) | go_in)
  generalize hu : fop .mul .f64 (fop .mul .f64 (fop .sub .f64 4602678819172646912 f) 4618760256179416344) (fop .mul .f64 (fop .sub .f64 4602678819172646912 f) 4618760256179416344) = u
  have Hu := Lib.hid hu
  clear hu
  go_loopw [7, 8] (fun p k wr => ∃ i n m : Nat, i ≤ 8 ∧ p = .float .f64 (pick .f64 (ser u i) n) ∧ k = .float .f64 (kfl i) ∧ wr = w.drewN m) (fun _ k _ => fbits k)
  case atStart => exact ⟨0, 0, _, by omega, by rw [pick_not (show isN .f64 (ser u 0) = false from (by decide +kernel : isN .f64 one64 = false))]; rfl, rfl, rfl⟩
  case round =>
    obtain ⟨i, n, m, hi, rfl, rfl, rfl⟩ := hrel
    by_cases hlt : i < 8
    · have ht := kfl_test i hlt
      unfold one64 at ht
      have HD := Lib.hid (kfl_den i hlt)
      have HN := Lib.hid (kfl_next i hlt)
      have HL := Lib.hid (kfl_lt i hlt)
      go_wp2_with (refine wpList_fop rfl _ _ _ _ _ rfl _ _ _ rfl rfl (by decide) _ ?_; intro _ _)
      go_roundw
      case rel => exact ⟨i + 1, _, _, by omega, by rw [ser_step, ← HD.out]; rfl, by have e := HN.out; unfold one64 at e; rw [e, pick_not (kfl_notN _)], rfl⟩
      case measure => have e := HN.out; unfold one64 at e; rw [e, pick_not (kfl_notN _)]; exact HL.out
    · obtain rfl : i = 8 := by omega
      have ht := kfl_end
      unfold one64 at ht
      go_wp2_with (refine wpList_fop rfl _ _ _ _ _ rfl _ _ _ rfl rfl (by decide) _ ?_; intro _ _)
      go_ret
      rw [HF.out]
      unfold sinZ
      rw [Hu.out]
      exact ⟨_, _, rfl, rfl⟩
theorem c_sineOf_tf (v f : Nat) (w : World) (j : Nat) (Hti : Hid (floatToIntVal .f64 v .i64 = some (ti v))) (Hf : Hid (partF v = f))
    (hb : (FloatKind.f64.format.order f 4602678819172646912 == some .gt || FloatKind.f64.format.order f 4602678819172646912 == some .eq) = true)
    (hq : (FloatKind.f64.format.order (fop .sub .f64 f 4602678819172646912) 4598175219545276416 == some .gt) = false) : Calls Try.prog 29 #[.float .f64 v] (w.drewN j) (RetF .f64 (sinF v) w) := by
  have HF : Hid (sinF v = fneg .f64 (sinZ (fop .mul .f64 (fop .sub .f64 f 4602678819172646912) 4618760256179416344))) := by
    unfold Hid sinF lowB fold2 half64 quarter64 twopi64; rw [Hf.out, hb]; simp only [if_true, if_false, Bool.false_eq_true, hq]
  go_enter Try.func29, Try.ntmps29
  go_wp2_with (first | (refine wpList_fop rfl _ _ _ _ _ rfl _ _ _ rfl rfl (by decide) _ ?_; intro _ _) | (go_at_call 43; refine (c_partOfTurn _ _ _ Hti.out).mono ?_; rw [Hf.out]; rintro _ _ ⟨_, _, rfl, rfl⟩) | go_in)
  generalize hu : fop .mul .f64 (fop .mul .f64 (fop .sub .f64 f 4602678819172646912) 4618760256179416344) (fop .mul .f64 (fop .sub .f64 f 4602678819172646912) 4618760256179416344) = u
  have Hu := Lib.hid hu
  clear hu
  go_loopw [7, 8] (fun p k wr => ∃ i n m : Nat, i ≤ 8 ∧ p = .float .f64 (pick .f64 (ser u i) n) ∧ k = .float .f64 (kfl i) ∧ wr = w.drewN m) (fun _ k _ => fbits k)
  case atStart => exact ⟨0, 0, _, by omega, by rw [pick_not (show isN .f64 (ser u 0) = false from (by decide +kernel : isN .f64 one64 = false))]; rfl, rfl, rfl⟩
  case round =>
    obtain ⟨i, n, m, hi, rfl, rfl, rfl⟩ := hrel
    by_cases hlt : i < 8
    · have ht := kfl_test i hlt
      unfold one64 at ht
      have HD := Lib.hid (kfl_den i hlt)
      have HN := Lib.hid (kfl_next i hlt)
      have HL := Lib.hid (kfl_lt i hlt)
      go_wp2_with (refine wpList_fop rfl _ _ _ _ _ rfl _ _ _ rfl rfl (by decide) _ ?_; intro _ _)
      go_roundw
      case rel => exact ⟨i + 1, _, _, by omega, by rw [ser_step, ← HD.out]; rfl, by have e := HN.out; unfold one64 at e; rw [e, pick_not (kfl_notN _)], rfl⟩
      case measure => have e := HN.out; unfold one64 at e; rw [e, pick_not (kfl_notN _)]; exact HL.out
    · obtain rfl : i = 8 := by omega
      have ht := kfl_end
      unfold one64 at ht
      go_wp2_with (refine wpList_fop rfl _ _ _ _ _ rfl _ _ _ rfl rfl (by decide) _ ?_; intro _ _)
      go_ret
      rw [HF.out]
      unfold sinZ
      rw [Hu.out]
      exact ⟨_, _, rfl, rfl⟩
theorem c_sineOf_tt (v f : Nat) (w : World) (j : Nat) (Hti : Hid (floatToIntVal .f64 v .i64 = some (ti v))) (Hf : Hid (partF v = f))
    (hb : (FloatKind.f64.format.order f 4602678819172646912 == some .gt || FloatKind.f64.format.order f 4602678819172646912 == some .eq) = true)
    (hq : (FloatKind.f64.format.order (fop .sub .f64 f 4602678819172646912) 4598175219545276416 == some .gt) = true) : Calls Try.prog 29 #[.float .f64 v] (w.drewN j) (RetF .f64 (sinF v) w) := by
  have HF : Hid (sinF v = fneg .f64 (sinZ (fop .mul .f64 (fop .sub .f64 4602678819172646912 (fop .sub .f64 f 4602678819172646912)) 4618760256179416344))) := by
    unfold Hid sinF lowB fold2 half64 quarter64 twopi64; rw [Hf.out, hb]; simp only [if_true, if_false, Bool.false_eq_true, hq]
  go_enter Try.func29, Try.ntmps29
  go_wp2_with (first | (refine wpList_fop rfl _ _ _ _ _ rfl _ _ _ rfl rfl (by decide) _ ?_; intro _ _) | (go_at_call 43; refine (c_partOfTurn _ _ _ Hti.out).mono ?_; rw [Hf.out]; rintro _ _ ⟨_, _, rfl, rfl⟩) | go_in)
  generalize hu : fop .mul .f64 (fop .mul .f64 (fop .sub .f64 4602678819172646912 (fop .sub .f64 f 4602678819172646912)) 4618760256179416344) (fop .mul .f64 (fop .sub .f64 4602678819172646912 (fop .sub .f64 f 4602678819172646912)) 4618760256179416344) = u
  have Hu := Lib.hid hu
  clear hu
  go_loopw [7, 8] (fun p k wr => ∃ i n m : Nat, i ≤ 8 ∧ p = .float .f64 (pick .f64 (ser u i) n) ∧ k = .float .f64 (kfl i) ∧ wr = w.drewN m) (fun _ k _ => fbits k)
  case atStart => exact ⟨0, 0, _, by omega, by rw [pick_not (show isN .f64 (ser u 0) = false from (by decide +kernel : isN .f64 one64 = false))]; rfl, rfl, rfl⟩
  case round =>
    obtain ⟨i, n, m, hi, rfl, rfl, rfl⟩ := hrel
    by_cases hlt : i < 8
    · have ht := kfl_test i hlt
      unfold one64 at ht
      have HD := Lib.hid (kfl_den i hlt)
      have HN := Lib.hid (kfl_next i hlt)
      have HL := Lib.hid (kfl_lt i hlt)
      go_wp2_with (refine wpList_fop rfl _ _ _ _ _ rfl _ _ _ rfl rfl (by decide) _ ?_; intro _ _)
      go_roundw
      case rel => exact ⟨i + 1, _, _, by omega, by rw [ser_step, ← HD.out]; rfl, by have e := HN.out; unfold one64 at e; rw [e, pick_not (kfl_notN _)], rfl⟩
      case measure => have e := HN.out; unfold one64 at e; rw [e, pick_not (kfl_notN _)]; exact HL.out
    · obtain rfl : i = 8 := by omega
      have ht := kfl_end
      unfold one64 at ht
      go_wp2_with (refine wpList_fop rfl _ _ _ _ _ rfl _ _ _ rfl rfl (by decide) _ ?_; intro _ _)
      go_ret
      rw [HF.out]
      unfold sinZ
      rw [Hu.out]
      exact ⟨_, _, rfl, rfl⟩
/-! ### sineAll -/
theorem c_sineOf (v : Nat) (w : World) (j : Nat) (hti : floatToIntVal .f64 v .i64 = some (ti v)) : Calls Try.prog 29 #[.float .f64 v] (w.drewN j) (RetF .f64 (sinF v) w) := by
  cases hb : (FloatKind.f64.format.order (partF v) 4602678819172646912 == some .gt || FloatKind.f64.format.order (partF v) 4602678819172646912 == some .eq)
  · cases hq : (FloatKind.f64.format.order (partF v) 4598175219545276416 == some .gt)
    · exact c_sineOf_ff v _ w j hti rfl hb hq
    · exact c_sineOf_ft v _ w j hti rfl hb hq
  · cases hq : (FloatKind.f64.format.order (fop .sub .f64 (partF v) 4602678819172646912) 4598175219545276416 == some .gt)
    · exact c_sineOf_tf v _ w j hti rfl hb hq
    · exact c_sineOf_tt v _ w j hti rfl hb hq

/-! ### IsNaN -/
theorem c_IsNaN (v n : Nat) (w : World) (j : Nat) : Calls Try.prog 49 #[.float .f64 (pick .f64 v n)] (w.drewN j) (RetV (.bool (isN .f64 v)) w) := by
  go_enter Try.func49, Try.ntmps49
  go_wp2
  go_ret
  exact ⟨_, rfl, rfl⟩
/-! ### f64bits -/
@[go_sem] theorem e_f64bits (b : Nat) (w : World) : (callFunc 38 #[.float .f64 b]).run Try.prog w = .ok (.value (.int .u64 b)) w := by kernel_rfl
/-! ### Abs -/
theorem c_Abs (v n : Nat) (w : World) (j : Nat) (hv : v < 2 ^ FloatKind.f64.format.width) : Calls Try.prog 27 #[.float .f64 (pick .f64 v n)] (w.drewN j) (RetF .f64 (fabs .f64 v) w) := by
  have hb := abs_bits hv n
  go_enter Try.func27, Try.ntmps27
  go_wp2
  go_ret
  exact ⟨_, _, rfl, rfl⟩
/-! ### IsInf0 -/
theorem c_IsInf0 (v n : Nat) (w : World) (j : Nat) (hv : v < 2 ^ FloatKind.f64.format.width) : Calls Try.prog 50 #[.float .f64 (pick .f64 v n), .int .i64 0] (w.drewN j) (RetV (.bool (FloatKind.f64.format.order (fabs .f64 v) 9218868437227405311 == some .gt)) w) := by
  go_enter Try.func50, Try.ntmps50
  go_wp2_with ((go_at_call 27; refine (c_Abs _ _ _ _ hv).mono ?_; rintro _ _ ⟨_, _, rfl, rfl⟩))
  go_ret
  exact ⟨_, rfl, rfl⟩
/-! ### isFinite64 -/
theorem c_isFinite64 (v n : Nat) (w : World) (j : Nat) (hv : v < 2 ^ FloatKind.f64.format.width) : Calls Try.prog 41 #[.float .f64 (pick .f64 v n)] (w.drewN j) (RetV (.bool (finB .f64 v)) w) := by
  go_enter Try.func41, Try.ntmps41
  go_wp2_with (first | (go_at_call 49; refine (c_IsNaN _ _ _ _).mono ?_; rintro _ _ ⟨_, rfl, rfl⟩) | (go_at_call 50; refine (c_IsInf0 _ _ _ _ hv).mono ?_; rintro _ _ ⟨_, rfl, rfl⟩))
  all_goals
    go_ret
    refine ⟨_, ?_, rfl⟩
    rw [← abs_gt_max]
    simp [*]
/-! ### iIsFinite -/
theorem c_iIsFinite (v n : Nat) (w : World) (j : Nat) : Calls Try.prog 25 #[.float .f32 (pick .f32 v n)] (w.drewN j) (RetV (.bool (finB .f32 v)) w) := by
  go_enter Try.func25, Try.ntmps25
  go_wp2_with (first | (refine wpList_cvU rfl 22 25 _ rfl (Option.isSome_iff_exists.2 ⟨_, Try.underlying22⟩) Try.underlying25 _ rfl _ ?_; intro _ _) | (go_at_call 41; refine (c_isFinite64 _ _ _ _ (cvU_lt _)).mono ?_; rintro _ _ ⟨_, rfl, rfl⟩))
  go_ret
  rw [← finB_cvU]
  exact ⟨_, rfl, rfl⟩
/-! ### f32from -/
@[go_sem] theorem e_f32from (n : Int) (w : World) : (callFunc 42 #[.int .u32 n]).run Try.prog w = .ok (.value (.float .f32 n.toNat)) w := by kernel_rfl
/-! ### notANumber -/
theorem c_notANumber (w : World) (j : Nat) : Calls Try.prog 26 #[] (w.drewN j) (RetV (.float .f32 2143289344) w) := by
  go_enter Try.func26, Try.ntmps26
  go_wp2
  go_ret
  exact ⟨_, rfl, rfl⟩
/-! ### iSineTurns -/
theorem c_NarrowNumber (v n : Nat) (w : World) (j : Nat) (hfit : Fits v) : Calls Try.prog 28 #[.float .f64 (pick .f64 v n)] (w.drewN j) (RetF .f32 (cvN v) w) := by
  have H := Lib.hid hfit
  clear hfit
  go_enter Try.func28, Try.ntmps28
  go_wp2_with ((refine wpList_cvN rfl 25 22 _ rfl (Option.isSome_iff_exists.2 ⟨_, Try.underlying25⟩) Try.underlying22 _ rfl _ (by rw [Fits_pick]; exact H.out) ?_; intro _ _))
  go_ret
  exact ⟨_, _, rfl, rfl⟩
theorem c_iSineTurns (v n : Nat) (w : World) (j : Nat) (hv : v < 2 ^ FloatKind.f32.format.width) : Calls Try.prog 12 #[.float .f32 (pick .f32 v n)] (w.drewN j) (RetF .f32 (sineT v) w) := by
  cases hf : finB .f32 v
  · have e : sineT v = qn .f32 := by unfold sineT; rw [hf, if_neg (by decide)]
    obtain ⟨n0, hn0⟩ := nanOf_onto .f32 2143289344 (by decide +kernel) (by decide +kernel)
    rw [e]
    have H := Lib.hid hn0
    clear hn0
    go_enter Try.func12, Try.ntmps12
    go_wp2_with (first | (go_at_call 25; refine (c_iIsFinite _ _ _ _).mono ?_; rintro _ _ ⟨_, rfl, rfl⟩) | (go_at_call 26; refine (c_notANumber _ _).mono ?_; rintro _ _ ⟨_, rfl, rfl⟩))
    go_ret
    exact ⟨n0, _, by simp only [pick, isN_qn, if_true]; rw [← H.out]; rfl, rfl⟩
  · have hn : isN .f64 (cvU v) = false := by rw [isN_cvU]; exact notN_fin (k := .f32) (of_decide_eq_true hf)
    obtain ⟨g1, g2⟩ := big_abs (cvU v) hn
    clear g1
    have hp := pick_not hn
    cases hb : decide (4841369599423283200 ≤ rung Ieee.double (cvU v))
    · obtain ⟨k1, k2, k3⟩ := fin_small hf hb
      have e : sineT v = cvN (sinF (cvU v)) := by unfold sineT; rw [hf, if_pos rfl, hb, if_neg (by decide)]
      rw [e]
      rw [hb] at g2
      have H := Lib.hid (And.intro k2 k3)
      clear k1 k2 k3 hn
      go_enter Try.func12, Try.ntmps12
      go_wp2_with (first | (refine wpList_cvU rfl 22 25 _ rfl (Option.isSome_iff_exists.2 ⟨_, Try.underlying22⟩) Try.underlying25 _ rfl _ ?_; intro _ _) | (go_at_call 25; refine (c_iIsFinite _ _ _ _).mono ?_; rintro _ _ ⟨_, rfl, rfl⟩) | (go_at_call 27; rw [← hp 0]; refine (c_Abs _ _ _ _ (cvU_lt _)).mono ?_; rintro _ _ ⟨_, _, rfl, rfl⟩) | (go_at_call 29; refine (c_sineOf _ _ _ H.out.1).mono ?_; rintro _ _ ⟨_, _, rfl, rfl⟩) | (go_at_call 28; refine (c_NarrowNumber _ _ _ _ (Fits_sin H.out.2)).mono ?_; rintro _ _ ⟨_, _, rfl, rfl⟩))
      go_ret
      exact ⟨_, _, rfl, rfl⟩
    · have e : sineT v = 0 := by unfold sineT; rw [hf, if_pos rfl, hb, if_pos rfl]
      rw [e]
      rw [hb] at g2
      clear hn
      go_enter Try.func12, Try.ntmps12
      go_wp2_with (first | (refine wpList_cvU rfl 22 25 _ rfl (Option.isSome_iff_exists.2 ⟨_, Try.underlying22⟩) Try.underlying25 _ rfl _ ?_; intro _ _) | (go_at_call 25; refine (c_iIsFinite _ _ _ _).mono ?_; rintro _ _ ⟨_, rfl, rfl⟩) | (go_at_call 27; rw [← hp 0]; refine (c_Abs _ _ _ _ (cvU_lt _)).mono ?_; rintro _ _ ⟨_, _, rfl, rfl⟩))
      go_ret
      exact ⟨0, _, by rw [pick_not (show isN .f32 0 = false by decide +kernel)]; rfl, rfl⟩
/-! ### sameFloat -/
theorem c_sameFloat (v n m : Nat) (w : World) (j : Nat) : Calls Try.prog 10 #[.float .f64 (pick .f64 v n), .float .f64 (pick .f64 v m)] (w.drewN j) (RetV (.bool true) w) := by
  have hs := self_ne .f64 v
  have ht := self_eq .f64 v
  cases h : isN .f64 v
  · rw [h] at hs ht
    cases h2 : (FloatKind.f64.format.order v 0 == some .eq)
    · go_enter Try.func10, Try.ntmps10
      go_wp2_with (refine wpList_fop rfl _ _ _ _ _ rfl _ _ _ rfl rfl (by decide) _ ?_; intro _ _)
      go_ret
      exact ⟨_, rfl, rfl⟩
    · go_enter Try.func10, Try.ntmps10
      go_wp2_with (refine wpList_fop rfl _ _ _ _ _ rfl _ _ _ rfl rfl (by decide) _ ?_; intro _ _)
      go_ret
      exact ⟨_, by simp, rfl⟩
  · rw [h] at hs ht
    go_enter Try.func10, Try.ntmps10
    go_wp2_with (refine wpList_fop rfl _ _ _ _ _ rfl _ _ _ rfl rfl (by decide) _ ?_; intro _ _)
    go_ret
    exact ⟨_, rfl, rfl⟩

/-! ### FnExactSineTurns -/
theorem walk (v n : Nat) (w : World) (hv : v < 2 ^ FloatKind.f32.format.width) : Calls Try.prog 4 #[.float .f32 (pick .f32 v n)] w fun e w' => e = .returned (.bool true) ∧ Below w.heap.size w w' := by
  rw [← w.drewN_zero]
  go_enter Try.func4, Try.ntmps4
  go_wp2_with (first | (refine wpList_cvU rfl 22 25 _ rfl (Option.isSome_iff_exists.2 ⟨_, Try.underlying22⟩) Try.underlying25 _ rfl _ ?_; intro _ _) | (go_at_call 11; refine (c_sSineTurns _ _ _ _ hv).mono ?_; rintro _ _ ⟨_, _, rfl, rfl⟩) | (go_at_call 12; refine (c_iSineTurns _ _ _ _ hv).mono ?_; rintro _ _ ⟨_, _, rfl, rfl⟩) | (go_at_call 10; refine (c_sameFloat _ _ _ _ _).mono ?_; rintro _ _ ⟨_, rfl, rfl⟩))
  go_ret
  exact ⟨rfl, below_drewN (Below.refl _ _) _⟩

theorem own : ownKnob Try.prog.godebug = none := by kernel_rfl
theorem laidOut : laidOutB Try.prog = true := by kernel_rfl
set_option maxRecDepth 100000 in
theorem lifted (os : Os) (started : os.Started) (H : Type) (enc : TypeId × Value → H) :
    ReturnsInHanded {} Try.checked os 4 .any (Rows.fnExactSineTurnsSpec.pre6 enc Try.prog Try.f4 Rows.fnExactSineTurnsRow.domain false) (Rows.fnExactSineTurnsSpec.post enc Try.prog Try.f4 false true false false) := by
  refine returnsInHanded_of_change (C := Try.checked) own started (by kernel_rfl) Try.func4
    (ChangeSpec.witness6 (enc := enc) (C := Try.checked) false ⟨#[], #[.float .f32 0], []⟩ 8 (by kernel_rfl) (by kernel_rfl) (by kernel_rfl) (by kernel_rfl)) ?_
  intro W base args ds gs before hval0 hW hcnd _
  have hval : ∀ (j : Nat) t v, Try.f4.params[j]? = some t → args[j]? = some v → Value.okWide Try.prog W .any base t v := hval0
  have hW' := hW
  obtain ⟨p, q, hA0, hV, rfl, hfz, hnd⟩ := hW
  have hA : DataW.TrodAll enc Try.prog W 0 (fun _ => true) true Try.f4.params.toList args.toList ds p := hA0
  rw [Try.params4] at hA hval
  obtain ⟨v0, vs0, d0, ds0, p0, q0, hargs, rfl, rfl, h0, r0⟩ := trodAll_cons hA
  obtain ⟨rfl, rfl, rfl⟩ := trodAll_nil r0
  obtain rfl : args = #[v0] := by cases args; simp_all
  obtain ⟨rfl, rfl⟩ := trodVars_none hV
  obtain ⟨b0, rfl, rfl, rfl, w0⟩ := open_float Try.underlying22 (hval 0 22 v0 rfl rfl) h0
  obtain ⟨n0, en0⟩ := pick_onto .f32 b0 (lt_of_wf w0)
  clear hA0 hval0
  have hcall0 := en0
  have hw0 : Calls Try.prog 4 #[.float .f32 b0] W fun e w' => e = .returned (.bool true) ∧ Below W.heap.size W w' := by
    rw [en0]
    exact walk b0 n0 W (lt_of_wf w0)
  refine hw0.mono fun e W' ⟨he, bel⟩ => ?_
  subst he
  exact ⟨_, rfl, _, _, _, [], _, [], hW', trodAll_mk1 (shut_bool Try.underlying4 _), (trodAll_cons_mk (shut_float Try.underlying22 w0) trodAll_mk0), rfl, bel.frame _, fun h => by cases h⟩

theorem over : Rows.fnExactSineTurnsRow.holds Try.pinned (OpenSpec.ofChange Rows.fnExactSineTurnsSpec) :=
  OpenClaim.holds_of_wide 4 Try.f4 rfl rfl rfl rfl rfl rfl rfl ⟨rfl, rfl, rfl, rfl, rfl⟩ rfl rfl rfl rfl rfl (by kernel_rfl) Try.func4 (by kernel_rfl)
    (of_decide_eq_true (by kernel_rfl)) (by unfold Func.isWrapper; first | (rw [if_pos (by decide +kernel)]; kernel_rfl) | (rw [if_neg (by decide +kernel)]; exact ⟨rfl, rfl⟩))
    (fun os started H enc _ => lifted os started H enc)

theorem proved : Rows.FnExactSineTurnsSaid := over
#print axioms proved

end Go.Proofs.Ytfohhljadpchgag.fnExactSineTurns

/-
  FnExactAngleTurns: for every input this law of the program returns true, and each argument reads as before. No condition.
-/
import Derived.Test.YtfohhljadpchgagRows
import Derived.Test.YtfohhljadpchgagFl
import Derived.ProofKit
import Derived.OpenShut
import Derived.ShutString
import Derived.ChangeOld
import Derived.Below
import Derived.Lib.Hide
set_option linter.unusedSimpArgs false
set_option linter.unusedVariables false
set_option exponentiation.threshold 2000
namespace Go.Proofs.Ytfohhljadpchgag.fnExactAngleTurns
open Go Go.Proofs.Ytfohhljadpchgag Go.Proofs
open Go.ChangeShapes Go.WideShapes Go.ChangeAt Go.RowKit
open Go.ChangeMaps (open_string shut_string)
/-! ### msqrt -/
theorem run_msqrt (b : Nat) (w : World) : ∃ n m, (callFunc 51 #[.float .f64 b]).run Try.prog w = .ok (.value (.float .f64 (pick .f64 (fsqrt b) n))) (w.drewN m) := by
  have e : (callFunc 51 #[.float .f64 b]).run Try.prog w = ((Extern.MathSqrt.sqrt #[.float .f64 b]).bind fun v => Sem.pure (Next.value v)).run Try.prog w := by kernel_rfl
  rw [e]
  cases h : Ieee.double.sqrt b with
  | some r =>
    refine ⟨0, 0, ?_⟩
    have e2 : Extern.MathSqrt.sqrt #[.float .f64 b] = pure (.float .f64 r) := by
      show (match Ieee.double.sqrt b with | some r => _ | none => _) = _
      rw [h]
    have e3 : fsqrt b = r := by unfold fsqrt; rw [h]; rfl
    rw [e2, e3, pick_not (sqrt_notNaN h)]; rfl
  | none =>
    have e3 : fsqrt b = qn .f64 := by unfold fsqrt; rw [h]; rfl
    refine ⟨w.tape w.drawn (.nanBits .f64 b b), 1, ?_⟩
    have e2 : Extern.MathSqrt.sqrt #[.float .f64 b] = (do pure (.float .f64 (← choose (.nanBits .f64 b b)))) := by
      show (match Ieee.double.sqrt b with | some r => _ | none => _) = _
      rw [h]
    rw [e2, e3]
    have e4 : pick .f64 (qn .f64) (w.tape w.drawn (.nanBits .f64 b b)) = (Question.nanBits .f64 b b).cut (w.tape w.drawn (.nanBits .f64 b b)) := by
      simp only [pick, isN_qn, if_true]; rfl
    rw [e4]
    rfl
/-! ### Sqrt -/
theorem c_Sqrt (v k : Nat) (w : World) (j : Nat) : Calls Try.prog 46 #[.float .f64 (pick .f64 v k)] (w.drewN j) (RetF .f64 (fsqrt v) w) := by
  obtain ⟨n, m, hr⟩ := run_msqrt (pick .f64 v k) (w.drewN j)
  rw [fsqrt_pick] at hr
  go_enter Try.func46, Try.ntmps46
  go_wp2
  go_ret
  exact ⟨_, _, rfl, rfl⟩

/-! ### flatAngle -/
theorem c_flatAngle (T n0 : Nat) (w : World) (j : Nat) : Calls Try.prog 31 #[.float .f64 (pick .f64 T n0)] (w.drewN j) (RetF .f64 (flatA T) w) := by
  go_enter Try.func31, Try.ntmps31
  go_wp2_with fail
  go_loopw [0, 6] (fun t k wr => ∃ i n m : Nat, i ≤ 3 ∧ t = .float .f64 (pick .f64 (iterT T i) n) ∧ k = .int .i64 i ∧ wr = w.drewN m) (fun _ k _ => 3 - (intOf k).toNat)
  case atStart => exact ⟨0, _, _, by omega, rfl, rfl, rfl⟩
  case round =>
    obtain ⟨i, n, m, hi, rfl, rfl, rfl⟩ := hrel
    by_cases hlt : i < 3
    · go_wp2_with (first | (first | (refine wpList_fop rfl _ _ _ _ _ rfl _ _ _ rfl rfl (by decide) _ ?_; intro _ _) | (refine upon_fop _ _ _ _ _ (by decide) ?_; intro _ _)) | (go_at_call 46; refine (c_Sqrt _ _ _ _).mono ?_; rintro _ _ ⟨_, _, rfl, rfl⟩))
      go_roundw
      case rel => exact ⟨i + 1, _, _, by omega, by rw [iterT_step]; rfl, by go_num, rfl⟩
      case measure => simp [intOf]; omega
    · obtain rfl : i = 3 := by omega
      clear hlt
      go_wp2_with (first | (refine wpList_fop rfl _ _ _ _ _ rfl _ _ _ rfl rfl (by decide) _ ?_; intro _ _) | (refine upon_fop _ _ _ _ _ (by decide) ?_; intro _ _))
      generalize hu : fop .mul .f64 (iterT T 3) (iterT T 3) = u
      have Hu := Lib.hid hu
      clear hu
      go_loopw [4, 5] (fun p k wr => ∃ i n m : Nat, i ≤ 8 ∧ p = .float .f64 (pick .f64 (aser u i) n) ∧ k = .float .f64 (odd i) ∧ wr = w.drewN m) (fun _ k _ => fpos k)
      case atStart => exact ⟨0, 0, _, by omega, by rw [pick_not (show isN .f64 (aser u 0) = false from (by decide +kernel : isN .f64 0 = false))]; rfl, by rw [show odd 0 = 4624633867356078080 from by decide +kernel], rfl⟩
      case round =>
        obtain ⟨i, n, m, hi, rfl, rfl, rfl⟩ := hrel
        by_cases hlt : i < 8
        · have ht := odd_test i hlt
          unfold one64 at ht
          have HN := Lib.hid (odd_next i hlt)
          have HL := Lib.hid (odd_lt i hlt)
          go_wp2_with (first | (refine wpList_fop rfl _ _ _ _ _ rfl _ _ _ rfl rfl (by decide) _ ?_; intro _ _) | (refine upon_fop _ _ _ _ _ (by decide) ?_; intro _ _))
          go_roundw
          case rel => exact ⟨i + 1, _, _, by omega, by rw [aser_step]; rfl, by have e := HN.out; rw [e, pick_not (odd_notN _)], rfl⟩
          case measure => have e := HN.out; rw [e, pick_not (odd_notN _)]; exact HL.out
        · obtain rfl : i = 8 := by omega
          have ht := odd_end
          unfold one64 at ht
          clear hlt
          go_wp2_with (first | (first | (refine wpList_fop rfl _ _ _ _ _ rfl _ _ _ rfl rfl (by decide) _ ?_; intro _ _) | (refine upon_fop _ _ _ _ _ (by decide) ?_; intro _ _)) | go_in)
          go_ret
          unfold flatA
          rw [Hu.out]
          exact ⟨_, _, rfl, rfl⟩
/-! ### IsNaN -/
theorem c_IsNaN (v n : Nat) (w : World) (j : Nat) : Calls Try.prog 49 #[.float .f64 (pick .f64 v n)] (w.drewN j) (RetV (.bool (isN .f64 v)) w) := by
  go_enter Try.func49, Try.ntmps49
  go_wp2
  go_ret
  exact ⟨_, rfl, rfl⟩
/-! ### f64bits -/
@[go_sem] theorem e_f64bits (b : Nat) (w : World) : (callFunc 38 #[.float .f64 b]).run Try.prog w = .ok (.value (.int .u64 b)) w := by kernel_rfl
/-! ### f64from -/
@[go_sem] theorem e_f64from (n : Int) (w : World) : (callFunc 37 #[.int .u64 n]).run Try.prog w = .ok (.value (.float .f64 n.toNat)) w := by kernel_rfl
/-! ### Abs -/
theorem c_Abs (v n : Nat) (w : World) (j : Nat) (hv : v < 2 ^ FloatKind.f64.format.width) : Calls Try.prog 27 #[.float .f64 (pick .f64 v n)] (w.drewN j) (RetF .f64 (fabs .f64 v) w) := by
  have hb := abs_bits hv n
  go_enter Try.func27, Try.ntmps27
  go_wp2
  go_ret
  exact ⟨_, _, rfl, rfl⟩
/-! ### IsInf0 -/
theorem c_IsInf0 (v n : Nat) (w : World) (j : Nat) (hv : v < 2 ^ FloatKind.f64.format.width) : Calls Try.prog 50 #[.float .f64 (pick .f64 v n), .int .i64 0] (w.drewN j) (RetV (.bool (FloatKind.f64.format.order (fabs .f64 v) 9218868437227405311 == some .gt)) w) := by
  go_enter Try.func50, Try.ntmps50
  go_wp2_with ((go_at_call 27; refine (c_Abs _ _ _ _ hv).mono ?_; rintro _ _ ⟨_, _, rfl, rfl⟩))
  go_ret
  exact ⟨_, rfl, rfl⟩
/-! ### isFinite64 -/
theorem c_isFinite64 (v n : Nat) (w : World) (j : Nat) (hv : v < 2 ^ FloatKind.f64.format.width) : Calls Try.prog 41 #[.float .f64 (pick .f64 v n)] (w.drewN j) (RetV (.bool (finB .f64 v)) w) := by
  go_enter Try.func41, Try.ntmps41
  go_wp2_with (first | (go_at_call 49; refine (c_IsNaN _ _ _ _).mono ?_; rintro _ _ ⟨_, rfl, rfl⟩) | (go_at_call 50; refine (c_IsInf0 _ _ _ _ hv).mono ?_; rintro _ _ ⟨_, rfl, rfl⟩))
  all_goals
    go_ret
    refine ⟨_, ?_, rfl⟩
    rw [← abs_gt_max]
    simp [*]
/-! ### iIsFinite -/
theorem c_iIsFinite (v n : Nat) (w : World) (j : Nat) : Calls Try.prog 25 #[.float .f32 (pick .f32 v n)] (w.drewN j) (RetV (.bool (finB .f32 v)) w) := by
  go_enter Try.func25, Try.ntmps25
  go_wp2_with (first | (refine wpList_cvU rfl 22 25 _ rfl (Option.isSome_iff_exists.2 ⟨_, Try.underlying22⟩) Try.underlying25 _ rfl _ ?_; intro _ _) | (go_at_call 41; refine (c_isFinite64 _ _ _ _ (cvU_lt _)).mono ?_; rintro _ _ ⟨_, rfl, rfl⟩))
  go_ret
  rw [← finB_cvU]
  exact ⟨_, rfl, rfl⟩
/-! ### f32from -/
@[go_sem] theorem e_f32from (n : Int) (w : World) : (callFunc 42 #[.int .u32 n]).run Try.prog w = .ok (.value (.float .f32 n.toNat)) w := by kernel_rfl
/-! ### notANumber -/
theorem c_notANumber (w : World) (j : Nat) : Calls Try.prog 26 #[] (w.drewN j) (RetV (.float .f32 2143289344) w) := by
  go_enter Try.func26, Try.ntmps26
  go_wp2
  go_ret
  exact ⟨_, rfl, rfl⟩
/-! ### iSineTurns0 -/
theorem c_NarrowNumber (v n : Nat) (w : World) (j : Nat) (hfit : Fits v) : Calls Try.prog 28 #[.float .f64 (pick .f64 v n)] (w.drewN j) (RetF .f32 (cvN v) w) := by
  have H := Lib.hid hfit
  clear hfit
  go_enter Try.func28, Try.ntmps28
  go_wp2_with ((refine wpList_cvN rfl 25 22 _ rfl (Option.isSome_iff_exists.2 ⟨_, Try.underlying25⟩) Try.underlying22 _ rfl _ (by rw [Fits_pick]; exact H.out) ?_; intro _ _))
  go_ret
  exact ⟨_, _, rfl, rfl⟩
/-! ### iAngleTurns -/
theorem c_iAngle_fff (y x ny nx : Nat) (w : World) (j : Nat) (fy : finB .f32 y = true) (fx : finB .f32 x = true)
    (hz1 : (FloatKind.f32.format.order y 0 == some .eq) = false ∨ ((FloatKind.f32.format.order y 0 == some .eq) = true ∧ (FloatKind.f32.format.order x 0 == some .eq) = false))
    (ho : (FloatKind.f64.format.order (fabs .f64 (cvU y)) (fabs .f64 (cvU x)) == some .gt) = false) (hlx : (FloatKind.f32.format.order x 0 == some .lt) = false) (hly : (FloatKind.f32.format.order y 0 == some .lt) = false)
    (HF : Hid (Fits (angW (cvU y) (cvU x)))) : Calls Try.prog 14 #[.float .f32 (pick .f32 y ny), .float .f32 (pick .f32 x nx)] (w.drewN j) (RetF .f32 (cvN (angW (cvU y) (cvU x))) w) := by
  have HW : Hid (angW (cvU y) (cvU x) = flatA (fop .quo .f64 (fabs .f64 (cvU y)) (fabs .f64 (cvU x)))) := by
    unfold Hid angW overB ltz quarter64 half64; rw [order_cv0, order_cv0]; simp only [ho, hlx, hly, if_true, if_false, Bool.false_eq_true]
  rw [HW.out] at HF ⊢
  rcases hz1 with hz1 | ⟨hz1, hz2⟩
  all_goals
    go_enter Try.func14, Try.ntmps14
    go_wp2_with (first | (refine wpList_cvU rfl 22 25 _ rfl (Option.isSome_iff_exists.2 ⟨_, Try.underlying22⟩) Try.underlying25 _ rfl _ ?_; intro _ _) | (first | (refine wpList_fop rfl _ _ _ _ _ rfl _ _ _ rfl rfl (by decide) _ ?_; intro _ _) | (refine upon_fop _ _ _ _ _ (by decide) ?_; intro _ _)) | (go_at_call 25; refine (c_iIsFinite _ _ _ _).mono ?_; rintro _ _ ⟨_, rfl, rfl⟩) | (go_at_call 27; refine (c_Abs _ _ _ _ (cvU_lt _)).mono ?_; rintro _ _ ⟨_, _, rfl, rfl⟩) | (go_at_call 31; refine (c_flatAngle _ _ _ _).mono ?_; rintro _ _ ⟨_, _, rfl, rfl⟩) | (go_at_call 28; refine (c_NarrowNumber _ _ _ _ HF.out).mono ?_; rintro _ _ ⟨_, _, rfl, rfl⟩))
    go_ret
    exact ⟨_, _, rfl, rfl⟩
theorem c_iAngle_fft (y x ny nx : Nat) (w : World) (j : Nat) (fy : finB .f32 y = true) (fx : finB .f32 x = true)
    (hz1 : (FloatKind.f32.format.order y 0 == some .eq) = false ∨ ((FloatKind.f32.format.order y 0 == some .eq) = true ∧ (FloatKind.f32.format.order x 0 == some .eq) = false))
    (ho : (FloatKind.f64.format.order (fabs .f64 (cvU y)) (fabs .f64 (cvU x)) == some .gt) = false) (hlx : (FloatKind.f32.format.order x 0 == some .lt) = false) (hly : (FloatKind.f32.format.order y 0 == some .lt) = true)
    (HF : Hid (Fits (angW (cvU y) (cvU x)))) : Calls Try.prog 14 #[.float .f32 (pick .f32 y ny), .float .f32 (pick .f32 x nx)] (w.drewN j) (RetF .f32 (cvN (angW (cvU y) (cvU x))) w) := by
  have HW : Hid (angW (cvU y) (cvU x) = fneg .f64 (flatA (fop .quo .f64 (fabs .f64 (cvU y)) (fabs .f64 (cvU x))))) := by
    unfold Hid angW overB ltz quarter64 half64; rw [order_cv0, order_cv0]; simp only [ho, hlx, hly, if_true, if_false, Bool.false_eq_true]
  rw [HW.out] at HF ⊢
  rcases hz1 with hz1 | ⟨hz1, hz2⟩
  all_goals
    go_enter Try.func14, Try.ntmps14
    go_wp2_with (first | (refine wpList_cvU rfl 22 25 _ rfl (Option.isSome_iff_exists.2 ⟨_, Try.underlying22⟩) Try.underlying25 _ rfl _ ?_; intro _ _) | (first | (refine wpList_fop rfl _ _ _ _ _ rfl _ _ _ rfl rfl (by decide) _ ?_; intro _ _) | (refine upon_fop _ _ _ _ _ (by decide) ?_; intro _ _)) | (go_at_call 25; refine (c_iIsFinite _ _ _ _).mono ?_; rintro _ _ ⟨_, rfl, rfl⟩) | (go_at_call 27; refine (c_Abs _ _ _ _ (cvU_lt _)).mono ?_; rintro _ _ ⟨_, _, rfl, rfl⟩) | (go_at_call 31; refine (c_flatAngle _ _ _ _).mono ?_; rintro _ _ ⟨_, _, rfl, rfl⟩) | (go_at_call 28; refine (c_NarrowNumber _ _ _ _ HF.out).mono ?_; rintro _ _ ⟨_, _, rfl, rfl⟩))
    go_ret
    exact ⟨_, _, rfl, rfl⟩
theorem c_iAngle_ftf (y x ny nx : Nat) (w : World) (j : Nat) (fy : finB .f32 y = true) (fx : finB .f32 x = true)
    (hz1 : (FloatKind.f32.format.order y 0 == some .eq) = false ∨ ((FloatKind.f32.format.order y 0 == some .eq) = true ∧ (FloatKind.f32.format.order x 0 == some .eq) = false))
    (ho : (FloatKind.f64.format.order (fabs .f64 (cvU y)) (fabs .f64 (cvU x)) == some .gt) = false) (hlx : (FloatKind.f32.format.order x 0 == some .lt) = true) (hly : (FloatKind.f32.format.order y 0 == some .lt) = false)
    (HF : Hid (Fits (angW (cvU y) (cvU x)))) : Calls Try.prog 14 #[.float .f32 (pick .f32 y ny), .float .f32 (pick .f32 x nx)] (w.drewN j) (RetF .f32 (cvN (angW (cvU y) (cvU x))) w) := by
  have HW : Hid (angW (cvU y) (cvU x) = fop .sub .f64 4602678819172646912 (flatA (fop .quo .f64 (fabs .f64 (cvU y)) (fabs .f64 (cvU x))))) := by
    unfold Hid angW overB ltz quarter64 half64; rw [order_cv0, order_cv0]; simp only [ho, hlx, hly, if_true, if_false, Bool.false_eq_true]
  rw [HW.out] at HF ⊢
  rcases hz1 with hz1 | ⟨hz1, hz2⟩
  all_goals
    go_enter Try.func14, Try.ntmps14
    go_wp2_with (first | (refine wpList_cvU rfl 22 25 _ rfl (Option.isSome_iff_exists.2 ⟨_, Try.underlying22⟩) Try.underlying25 _ rfl _ ?_; intro _ _) | (first | (refine wpList_fop rfl _ _ _ _ _ rfl _ _ _ rfl rfl (by decide) _ ?_; intro _ _) | (refine upon_fop _ _ _ _ _ (by decide) ?_; intro _ _)) | (go_at_call 25; refine (c_iIsFinite _ _ _ _).mono ?_; rintro _ _ ⟨_, rfl, rfl⟩) | (go_at_call 27; refine (c_Abs _ _ _ _ (cvU_lt _)).mono ?_; rintro _ _ ⟨_, _, rfl, rfl⟩) | (go_at_call 31; refine (c_flatAngle _ _ _ _).mono ?_; rintro _ _ ⟨_, _, rfl, rfl⟩) | (go_at_call 28; refine (c_NarrowNumber _ _ _ _ HF.out).mono ?_; rintro _ _ ⟨_, _, rfl, rfl⟩))
    go_ret
    exact ⟨_, _, rfl, rfl⟩
theorem c_iAngle_ftt (y x ny nx : Nat) (w : World) (j : Nat) (fy : finB .f32 y = true) (fx : finB .f32 x = true)
    (hz1 : (FloatKind.f32.format.order y 0 == some .eq) = false ∨ ((FloatKind.f32.format.order y 0 == some .eq) = true ∧ (FloatKind.f32.format.order x 0 == some .eq) = false))
    (ho : (FloatKind.f64.format.order (fabs .f64 (cvU y)) (fabs .f64 (cvU x)) == some .gt) = false) (hlx : (FloatKind.f32.format.order x 0 == some .lt) = true) (hly : (FloatKind.f32.format.order y 0 == some .lt) = true)
    (HF : Hid (Fits (angW (cvU y) (cvU x)))) : Calls Try.prog 14 #[.float .f32 (pick .f32 y ny), .float .f32 (pick .f32 x nx)] (w.drewN j) (RetF .f32 (cvN (angW (cvU y) (cvU x))) w) := by
  have HW : Hid (angW (cvU y) (cvU x) = fneg .f64 (fop .sub .f64 4602678819172646912 (flatA (fop .quo .f64 (fabs .f64 (cvU y)) (fabs .f64 (cvU x)))))) := by
    unfold Hid angW overB ltz quarter64 half64; rw [order_cv0, order_cv0]; simp only [ho, hlx, hly, if_true, if_false, Bool.false_eq_true]
  rw [HW.out] at HF ⊢
  rcases hz1 with hz1 | ⟨hz1, hz2⟩
  all_goals
    go_enter Try.func14, Try.ntmps14
    go_wp2_with (first | (refine wpList_cvU rfl 22 25 _ rfl (Option.isSome_iff_exists.2 ⟨_, Try.underlying22⟩) Try.underlying25 _ rfl _ ?_; intro _ _) | (first | (refine wpList_fop rfl _ _ _ _ _ rfl _ _ _ rfl rfl (by decide) _ ?_; intro _ _) | (refine upon_fop _ _ _ _ _ (by decide) ?_; intro _ _)) | (go_at_call 25; refine (c_iIsFinite _ _ _ _).mono ?_; rintro _ _ ⟨_, rfl, rfl⟩) | (go_at_call 27; refine (c_Abs _ _ _ _ (cvU_lt _)).mono ?_; rintro _ _ ⟨_, _, rfl, rfl⟩) | (go_at_call 31; refine (c_flatAngle _ _ _ _).mono ?_; rintro _ _ ⟨_, _, rfl, rfl⟩) | (go_at_call 28; refine (c_NarrowNumber _ _ _ _ HF.out).mono ?_; rintro _ _ ⟨_, _, rfl, rfl⟩))
    go_ret
    exact ⟨_, _, rfl, rfl⟩
theorem c_iAngle_tff (y x ny nx : Nat) (w : World) (j : Nat) (fy : finB .f32 y = true) (fx : finB .f32 x = true)
    (hz1 : (FloatKind.f32.format.order y 0 == some .eq) = false ∨ ((FloatKind.f32.format.order y 0 == some .eq) = true ∧ (FloatKind.f32.format.order x 0 == some .eq) = false))
    (ho : (FloatKind.f64.format.order (fabs .f64 (cvU y)) (fabs .f64 (cvU x)) == some .gt) = true) (hlx : (FloatKind.f32.format.order x 0 == some .lt) = false) (hly : (FloatKind.f32.format.order y 0 == some .lt) = false)
    (HF : Hid (Fits (angW (cvU y) (cvU x)))) : Calls Try.prog 14 #[.float .f32 (pick .f32 y ny), .float .f32 (pick .f32 x nx)] (w.drewN j) (RetF .f32 (cvN (angW (cvU y) (cvU x))) w) := by
  have HW : Hid (angW (cvU y) (cvU x) = fop .sub .f64 4598175219545276416 (flatA (fop .quo .f64 (fabs .f64 (cvU x)) (fabs .f64 (cvU y))))) := by
    unfold Hid angW overB ltz quarter64 half64; rw [order_cv0, order_cv0]; simp only [ho, hlx, hly, if_true, if_false, Bool.false_eq_true]
  rw [HW.out] at HF ⊢
  rcases hz1 with hz1 | ⟨hz1, hz2⟩
  all_goals
    go_enter Try.func14, Try.ntmps14
    go_wp2_with (first | (refine wpList_cvU rfl 22 25 _ rfl (Option.isSome_iff_exists.2 ⟨_, Try.underlying22⟩) Try.underlying25 _ rfl _ ?_; intro _ _) | (first | (refine wpList_fop rfl _ _ _ _ _ rfl _ _ _ rfl rfl (by decide) _ ?_; intro _ _) | (refine upon_fop _ _ _ _ _ (by decide) ?_; intro _ _)) | (go_at_call 25; refine (c_iIsFinite _ _ _ _).mono ?_; rintro _ _ ⟨_, rfl, rfl⟩) | (go_at_call 27; refine (c_Abs _ _ _ _ (cvU_lt _)).mono ?_; rintro _ _ ⟨_, _, rfl, rfl⟩) | (go_at_call 31; refine (c_flatAngle _ _ _ _).mono ?_; rintro _ _ ⟨_, _, rfl, rfl⟩) | (go_at_call 28; refine (c_NarrowNumber _ _ _ _ HF.out).mono ?_; rintro _ _ ⟨_, _, rfl, rfl⟩))
    go_ret
    exact ⟨_, _, rfl, rfl⟩
theorem c_iAngle_tft (y x ny nx : Nat) (w : World) (j : Nat) (fy : finB .f32 y = true) (fx : finB .f32 x = true)
    (hz1 : (FloatKind.f32.format.order y 0 == some .eq) = false ∨ ((FloatKind.f32.format.order y 0 == some .eq) = true ∧ (FloatKind.f32.format.order x 0 == some .eq) = false))
    (ho : (FloatKind.f64.format.order (fabs .f64 (cvU y)) (fabs .f64 (cvU x)) == some .gt) = true) (hlx : (FloatKind.f32.format.order x 0 == some .lt) = false) (hly : (FloatKind.f32.format.order y 0 == some .lt) = true)
    (HF : Hid (Fits (angW (cvU y) (cvU x)))) : Calls Try.prog 14 #[.float .f32 (pick .f32 y ny), .float .f32 (pick .f32 x nx)] (w.drewN j) (RetF .f32 (cvN (angW (cvU y) (cvU x))) w) := by
  have HW : Hid (angW (cvU y) (cvU x) = fneg .f64 (fop .sub .f64 4598175219545276416 (flatA (fop .quo .f64 (fabs .f64 (cvU x)) (fabs .f64 (cvU y)))))) := by
    unfold Hid angW overB ltz quarter64 half64; rw [order_cv0, order_cv0]; simp only [ho, hlx, hly, if_true, if_false, Bool.false_eq_true]
  rw [HW.out] at HF ⊢
  rcases hz1 with hz1 | ⟨hz1, hz2⟩
  all_goals
    go_enter Try.func14, Try.ntmps14
    go_wp2_with (first | (refine wpList_cvU rfl 22 25 _ rfl (Option.isSome_iff_exists.2 ⟨_, Try.underlying22⟩) Try.underlying25 _ rfl _ ?_; intro _ _) | (first | (refine wpList_fop rfl _ _ _ _ _ rfl _ _ _ rfl rfl (by decide) _ ?_; intro _ _) | (refine upon_fop _ _ _ _ _ (by decide) ?_; intro _ _)) | (go_at_call 25; refine (c_iIsFinite _ _ _ _).mono ?_; rintro _ _ ⟨_, rfl, rfl⟩) | (go_at_call 27; refine (c_Abs _ _ _ _ (cvU_lt _)).mono ?_; rintro _ _ ⟨_, _, rfl, rfl⟩) | (go_at_call 31; refine (c_flatAngle _ _ _ _).mono ?_; rintro _ _ ⟨_, _, rfl, rfl⟩) | (go_at_call 28; refine (c_NarrowNumber _ _ _ _ HF.out).mono ?_; rintro _ _ ⟨_, _, rfl, rfl⟩))
    go_ret
    exact ⟨_, _, rfl, rfl⟩
theorem c_iAngle_ttf (y x ny nx : Nat) (w : World) (j : Nat) (fy : finB .f32 y = true) (fx : finB .f32 x = true)
    (hz1 : (FloatKind.f32.format.order y 0 == some .eq) = false ∨ ((FloatKind.f32.format.order y 0 == some .eq) = true ∧ (FloatKind.f32.format.order x 0 == some .eq) = false))
    (ho : (FloatKind.f64.format.order (fabs .f64 (cvU y)) (fabs .f64 (cvU x)) == some .gt) = true) (hlx : (FloatKind.f32.format.order x 0 == some .lt) = true) (hly : (FloatKind.f32.format.order y 0 == some .lt) = false)
    (HF : Hid (Fits (angW (cvU y) (cvU x)))) : Calls Try.prog 14 #[.float .f32 (pick .f32 y ny), .float .f32 (pick .f32 x nx)] (w.drewN j) (RetF .f32 (cvN (angW (cvU y) (cvU x))) w) := by
  have HW : Hid (angW (cvU y) (cvU x) = fop .sub .f64 4602678819172646912 (fop .sub .f64 4598175219545276416 (flatA (fop .quo .f64 (fabs .f64 (cvU x)) (fabs .f64 (cvU y)))))) := by
    unfold Hid angW overB ltz quarter64 half64; rw [order_cv0, order_cv0]; simp only [ho, hlx, hly, if_true, if_false, Bool.false_eq_true]
  rw [HW.out] at HF ⊢
  rcases hz1 with hz1 | ⟨hz1, hz2⟩
  all_goals
    go_enter Try.func14, Try.ntmps14
    go_wp2_with (first | (refine wpList_cvU rfl 22 25 _ rfl (Option.isSome_iff_exists.2 ⟨_, Try.underlying22⟩) Try.underlying25 _ rfl _ ?_; intro _ _) | (first | (refine wpList_fop rfl _ _ _ _ _ rfl _ _ _ rfl rfl (by decide) _ ?_; intro _ _) | (refine upon_fop _ _ _ _ _ (by decide) ?_; intro _ _)) | (go_at_call 25; refine (c_iIsFinite _ _ _ _).mono ?_; rintro _ _ ⟨_, rfl, rfl⟩) | (go_at_call 27; refine (c_Abs _ _ _ _ (cvU_lt _)).mono ?_; rintro _ _ ⟨_, _, rfl, rfl⟩) | (go_at_call 31; refine (c_flatAngle _ _ _ _).mono ?_; rintro _ _ ⟨_, _, rfl, rfl⟩) | (go_at_call 28; refine (c_NarrowNumber _ _ _ _ HF.out).mono ?_; rintro _ _ ⟨_, _, rfl, rfl⟩))
    go_ret
    exact ⟨_, _, rfl, rfl⟩
theorem c_iAngle_ttt (y x ny nx : Nat) (w : World) (j : Nat) (fy : finB .f32 y = true) (fx : finB .f32 x = true)
    (hz1 : (FloatKind.f32.format.order y 0 == some .eq) = false ∨ ((FloatKind.f32.format.order y 0 == some .eq) = true ∧ (FloatKind.f32.format.order x 0 == some .eq) = false))
    (ho : (FloatKind.f64.format.order (fabs .f64 (cvU y)) (fabs .f64 (cvU x)) == some .gt) = true) (hlx : (FloatKind.f32.format.order x 0 == some .lt) = true) (hly : (FloatKind.f32.format.order y 0 == some .lt) = true)
    (HF : Hid (Fits (angW (cvU y) (cvU x)))) : Calls Try.prog 14 #[.float .f32 (pick .f32 y ny), .float .f32 (pick .f32 x nx)] (w.drewN j) (RetF .f32 (cvN (angW (cvU y) (cvU x))) w) := by
  have HW : Hid (angW (cvU y) (cvU x) = fneg .f64 (fop .sub .f64 4602678819172646912 (fop .sub .f64 4598175219545276416 (flatA (fop .quo .f64 (fabs .f64 (cvU x)) (fabs .f64 (cvU y))))))) := by
    unfold Hid angW overB ltz quarter64 half64; rw [order_cv0, order_cv0]; simp only [ho, hlx, hly, if_true, if_false, Bool.false_eq_true]
  rw [HW.out] at HF ⊢
  rcases hz1 with hz1 | ⟨hz1, hz2⟩
  all_goals
    go_enter Try.func14, Try.ntmps14
    go_wp2_with (first | (refine wpList_cvU rfl 22 25 _ rfl (Option.isSome_iff_exists.2 ⟨_, Try.underlying22⟩) Try.underlying25 _ rfl _ ?_; intro _ _) | (first | (refine wpList_fop rfl _ _ _ _ _ rfl _ _ _ rfl rfl (by decide) _ ?_; intro _ _) | (refine upon_fop _ _ _ _ _ (by decide) ?_; intro _ _)) | (go_at_call 25; refine (c_iIsFinite _ _ _ _).mono ?_; rintro _ _ ⟨_, rfl, rfl⟩) | (go_at_call 27; refine (c_Abs _ _ _ _ (cvU_lt _)).mono ?_; rintro _ _ ⟨_, _, rfl, rfl⟩) | (go_at_call 31; refine (c_flatAngle _ _ _ _).mono ?_; rintro _ _ ⟨_, _, rfl, rfl⟩) | (go_at_call 28; refine (c_NarrowNumber _ _ _ _ HF.out).mono ?_; rintro _ _ ⟨_, _, rfl, rfl⟩))
    go_ret
    exact ⟨_, _, rfl, rfl⟩
theorem c_iAngleTurns (y x ny nx : Nat) (w : World) (j : Nat) : Calls Try.prog 14 #[.float .f32 (pick .f32 y ny), .float .f32 (pick .f32 x nx)] (w.drewN j) (RetF .f32 (angT y x) w) := by
  cases hf : (finB .f32 y && finB .f32 x)
  · have e : angT y x = qn .f32 := by unfold angT; rw [hf, if_neg (by decide)]
    obtain ⟨n0, hn0⟩ := nanOf_onto .f32 2143289344 (by decide +kernel) (by decide +kernel)
    have H := Lib.hid hn0
    clear hn0
    rw [e]
    cases fy : finB .f32 y
    · go_enter Try.func14, Try.ntmps14
      go_wp2_with (first | (go_at_call 25; refine (c_iIsFinite _ _ _ _).mono ?_; rintro _ _ ⟨_, rfl, rfl⟩) | (go_at_call 26; refine (c_notANumber _ _).mono ?_; rintro _ _ ⟨_, rfl, rfl⟩))
      go_ret
      exact ⟨n0, _, by simp only [pick, isN_qn, if_true]; rw [← H.out]; rfl, rfl⟩
    · have fx : finB .f32 x = false := by rw [fy] at hf; exact hf
      clear hf
      go_enter Try.func14, Try.ntmps14
      go_wp2_with (first | (go_at_call 25; refine (c_iIsFinite _ _ _ _).mono ?_; rintro _ _ ⟨_, rfl, rfl⟩) | (go_at_call 26; refine (c_notANumber _ _).mono ?_; rintro _ _ ⟨_, rfl, rfl⟩))
      go_ret
      exact ⟨n0, _, by simp only [pick, isN_qn, if_true]; rw [← H.out]; rfl, rfl⟩
  · have hf2 := Bool.and_eq_true_iff.1 hf
    cases hz : (zeroB y && zeroB x)
    · have e : angT y x = cvN (angW (cvU y) (cvU x)) := by unfold angT; rw [hf, if_pos rfl, hz, if_neg (by decide)]
      have HF : Hid (Fits (angW (cvU y) (cvU x))) := ang_fits hf2.1 hf2.2 hz
      have hz1 : (FloatKind.f32.format.order y 0 == some .eq) = false ∨ ((FloatKind.f32.format.order y 0 == some .eq) = true ∧ (FloatKind.f32.format.order x 0 == some .eq) = false) := by
        cases h : (FloatKind.f32.format.order y 0 == some .eq)
        · exact .inl rfl
        · right; refine ⟨rfl, ?_⟩
          have hz' : ((FloatKind.f32.format.order y 0 == some .eq) && (FloatKind.f32.format.order x 0 == some .eq)) = false := hz
          rw [h] at hz'; exact hz'
      rw [e]
      cases ho : (FloatKind.f64.format.order (fabs .f64 (cvU y)) (fabs .f64 (cvU x)) == some .gt) <;> cases hlx : (FloatKind.f32.format.order x 0 == some .lt) <;> cases hly : (FloatKind.f32.format.order y 0 == some .lt)
      · exact c_iAngle_fff y x ny nx w j hf2.1 hf2.2 hz1 ho hlx hly HF
      · exact c_iAngle_fft y x ny nx w j hf2.1 hf2.2 hz1 ho hlx hly HF
      · exact c_iAngle_ftf y x ny nx w j hf2.1 hf2.2 hz1 ho hlx hly HF
      · exact c_iAngle_ftt y x ny nx w j hf2.1 hf2.2 hz1 ho hlx hly HF
      · exact c_iAngle_tff y x ny nx w j hf2.1 hf2.2 hz1 ho hlx hly HF
      · exact c_iAngle_tft y x ny nx w j hf2.1 hf2.2 hz1 ho hlx hly HF
      · exact c_iAngle_ttf y x ny nx w j hf2.1 hf2.2 hz1 ho hlx hly HF
      · exact c_iAngle_ttt y x ny nx w j hf2.1 hf2.2 hz1 ho hlx hly HF
    · have e : angT y x = 0 := by unfold angT; rw [hf, if_pos rfl, hz, if_pos rfl]
      have hz2 := Bool.and_eq_true_iff.1 hz
      have z1 : (FloatKind.f32.format.order y 0 == some .eq) = true := hz2.1
      have z2 : (FloatKind.f32.format.order x 0 == some .eq) = true := hz2.2
      have f1 := hf2.1
      have f2 := hf2.2
      rw [e]
      clear hz2 hz hf hf2
      go_enter Try.func14, Try.ntmps14
      go_wp2_with (first | (go_at_call 25; refine (c_iIsFinite _ _ _ _).mono ?_; rintro _ _ ⟨_, rfl, rfl⟩) | (go_at_call 26; refine (c_notANumber _ _).mono ?_; rintro _ _ ⟨_, rfl, rfl⟩))
      go_ret
      exact ⟨0, _, by rw [pick_not (show isN .f32 0 = false by decide +kernel)]; rfl, rfl⟩
/-! ### wideAngle -/
theorem c_wide_fff (y x ny nx : Nat) (w : World) (j : Nat) (hy : y < 2 ^ FloatKind.f64.format.width) (hx : x < 2 ^ FloatKind.f64.format.width)
    (ho : (FloatKind.f64.format.order (fabs .f64 y) (fabs .f64 x) == some .gt) = false) (hlx : (FloatKind.f64.format.order x 0 == some .lt) = false) (hly : (FloatKind.f64.format.order y 0 == some .lt) = false)
    (sy : (FloatKind.f64.format.order (fop .sub .f64 y y) 0 != some .eq) = false) (sx : (FloatKind.f64.format.order (fop .sub .f64 x x) 0 != some .eq) = false)
    (hz : ((FloatKind.f64.format.order x 0 == some .eq) && (FloatKind.f64.format.order y 0 == some .eq)) = false) : Calls Try.prog 45 #[.float .f64 (pick .f64 y ny), .float .f64 (pick .f64 x nx)] (w.drewN j) (RetF .f64 (angW y x) w) := by
  have HW : Hid (angW y x = flatA (fop .quo .f64 (fabs .f64 y) (fabs .f64 x))) := by
    unfold Hid angW overB ltz quarter64 half64; simp only [ho, hlx, hly, if_true, if_false, Bool.false_eq_true]
  rcases Bool.and_eq_false_iff.1 hz with hz1 | hz1
  all_goals
    clear hz
    have hz2 : Hid True := trivial
  all_goals try (cases hz3 : (FloatKind.f64.format.order x 0 == some .eq))
  all_goals try (rw [hz3] at hz1; cases hz1; done)
  all_goals
    go_enter Try.func45, Try.ntmps45
    go_wp2_with (first | (first | (refine wpList_fop rfl _ _ _ _ _ rfl _ _ _ rfl rfl (by decide) _ ?_; intro _ _) | (refine upon_fop _ _ _ _ _ (by decide) ?_; intro _ _)) | (go_at_call 27; refine (c_Abs _ _ _ _ (by assumption)).mono ?_; rintro _ _ ⟨_, _, rfl, rfl⟩))
    obtain ⟨T, hT⟩ : ∃ T, T = (fop .quo .f64 (fabs .f64 y) (fabs .f64 x)) := ⟨_, rfl⟩
    have HT : Hid (T = (fop .quo .f64 (fabs .f64 y) (fabs .f64 x))) := hT
    rw [← hT]
    clear hT
    go_loopw [8, 9] (fun t k wr => ∃ i n m : Nat, i ≤ 3 ∧ t = .float .f64 (pick .f64 (iterT T i) n) ∧ k = .int .i64 i ∧ wr = w.drewN m) (fun _ k _ => 3 - (intOf k).toNat)
    case atStart => exact ⟨0, _, _, by omega, rfl, rfl, rfl⟩
    case round =>
      obtain ⟨i, n, m, hi, rfl, rfl, rfl⟩ := hrel
      by_cases hlt : i < 3
      · go_wp2_with (first | (first | (refine wpList_fop rfl _ _ _ _ _ rfl _ _ _ rfl rfl (by decide) _ ?_; intro _ _) | (refine upon_fop _ _ _ _ _ (by decide) ?_; intro _ _)) | (go_at_call 46; refine (c_Sqrt _ _ _ _).mono ?_; rintro _ _ ⟨_, _, rfl, rfl⟩))
        go_roundw
        case rel => exact ⟨i + 1, _, _, by omega, by rw [iterT_step]; rfl, by go_num, rfl⟩
        case measure => simp [intOf]; omega
      · obtain rfl : i = 3 := by omega
        clear hlt
        go_wp2_with (first | (refine wpList_fop rfl _ _ _ _ _ rfl _ _ _ rfl rfl (by decide) _ ?_; intro _ _) | (refine upon_fop _ _ _ _ _ (by decide) ?_; intro _ _))
        generalize hu : fop .mul .f64 (iterT T 3) (iterT T 3) = u
        have Hu := Lib.hid hu
        clear hu
        go_loopw [11, 12] (fun p k wr => ∃ (i n m : Nat) (kI : Int), i ≤ 8 ∧ Hid (kI = 15 - 2 * (i : Int)) ∧ p = .float .f64 (pick .f64 (aser u i) n) ∧ k = .int .i64 kI ∧ wr = w.drewN m) (fun _ k _ => (intOf k + 2).toNat)
        case atStart => exact ⟨0, 0, _, 15, by omega, rfl, by rw [pick_not (show isN .f64 (aser u 0) = false from (by decide +kernel : isN .f64 0 = false))]; rfl, rfl, rfl⟩
        case round =>
          obtain ⟨i, n, m, kI, hi, HK, rfl, rfl, rfl⟩ := hrel
          by_cases hlt : i < 8
          · have b1 : 1 ≤ kI := by have := HK.out; omega
            have b2 : kI ≤ 15 := by have := HK.out; omega
            have HD : Hid (odd i = floatOfInt .f64 kI) := by unfold Hid odd; rw [HK.out]
            go_wp2_with (first | (refine wpList_fop rfl _ _ _ _ _ rfl _ _ _ rfl rfl (by decide) _ ?_; intro _ _) | (refine upon_fop _ _ _ _ _ (by decide) ?_; intro _ _))
            go_roundw
            case rel => exact ⟨i + 1, _, _, kI - 2, by omega, by have := HK.out; unfold Hid; omega, by rw [aser_step, HD.out]; rfl, rfl, rfl⟩
            case measure => simp [intOf]; omega
          · obtain rfl : i = 8 := by omega
            have b1 : kI < 1 := by have := HK.out; omega
            have b2 : -1 ≤ kI := by have := HK.out; omega
            clear hlt
            go_wp2_with (first | (first | (refine wpList_fop rfl _ _ _ _ _ rfl _ _ _ rfl rfl (by decide) _ ?_; intro _ _) | (refine upon_fop _ _ _ _ _ (by decide) ?_; intro _ _)) | go_in)
            go_ret
            rw [HW.out, ← HT.out]
            unfold flatA
            rw [Hu.out]
            exact ⟨_, _, rfl, rfl⟩
theorem c_wide_fft (y x ny nx : Nat) (w : World) (j : Nat) (hy : y < 2 ^ FloatKind.f64.format.width) (hx : x < 2 ^ FloatKind.f64.format.width)
    (ho : (FloatKind.f64.format.order (fabs .f64 y) (fabs .f64 x) == some .gt) = false) (hlx : (FloatKind.f64.format.order x 0 == some .lt) = false) (hly : (FloatKind.f64.format.order y 0 == some .lt) = true)
    (sy : (FloatKind.f64.format.order (fop .sub .f64 y y) 0 != some .eq) = false) (sx : (FloatKind.f64.format.order (fop .sub .f64 x x) 0 != some .eq) = false)
    (hz : ((FloatKind.f64.format.order x 0 == some .eq) && (FloatKind.f64.format.order y 0 == some .eq)) = false) : Calls Try.prog 45 #[.float .f64 (pick .f64 y ny), .float .f64 (pick .f64 x nx)] (w.drewN j) (RetF .f64 (angW y x) w) := by
  have HW : Hid (angW y x = fneg .f64 (flatA (fop .quo .f64 (fabs .f64 y) (fabs .f64 x)))) := by
    unfold Hid angW overB ltz quarter64 half64; simp only [ho, hlx, hly, if_true, if_false, Bool.false_eq_true]
  rcases Bool.and_eq_false_iff.1 hz with hz1 | hz1
  all_goals
    clear hz
    have hz2 : Hid True := trivial
  all_goals try (cases hz3 : (FloatKind.f64.format.order x 0 == some .eq))
  all_goals try (rw [hz3] at hz1; cases hz1; done)
  all_goals
    go_enter Try.func45, Try.ntmps45
    go_wp2_with (first | (first | (refine wpList_fop rfl _ _ _ _ _ rfl _ _ _ rfl rfl (by decide) _ ?_; intro _ _) | (refine upon_fop _ _ _ _ _ (by decide) ?_; intro _ _)) | (go_at_call 27; refine (c_Abs _ _ _ _ (by assumption)).mono ?_; rintro _ _ ⟨_, _, rfl, rfl⟩))
    obtain ⟨T, hT⟩ : ∃ T, T = (fop .quo .f64 (fabs .f64 y) (fabs .f64 x)) := ⟨_, rfl⟩
    have HT : Hid (T = (fop .quo .f64 (fabs .f64 y) (fabs .f64 x))) := hT
    rw [← hT]
    clear hT
    go_loopw [8, 9] (fun t k wr => ∃ i n m : Nat, i ≤ 3 ∧ t = .float .f64 (pick .f64 (iterT T i) n) ∧ k = .int .i64 i ∧ wr = w.drewN m) (fun _ k _ => 3 - (intOf k).toNat)
    case atStart => exact ⟨0, _, _, by omega, rfl, rfl, rfl⟩
    case round =>
      obtain ⟨i, n, m, hi, rfl, rfl, rfl⟩ := hrel
      by_cases hlt : i < 3
      · go_wp2_with (first | (first | (refine wpList_fop rfl _ _ _ _ _ rfl _ _ _ rfl rfl (by decide) _ ?_; intro _ _) | (refine upon_fop _ _ _ _ _ (by decide) ?_; intro _ _)) | (go_at_call 46; refine (c_Sqrt _ _ _ _).mono ?_; rintro _ _ ⟨_, _, rfl, rfl⟩))
        go_roundw
        case rel => exact ⟨i + 1, _, _, by omega, by rw [iterT_step]; rfl, by go_num, rfl⟩
        case measure => simp [intOf]; omega
      · obtain rfl : i = 3 := by omega
        clear hlt
        go_wp2_with (first | (refine wpList_fop rfl _ _ _ _ _ rfl _ _ _ rfl rfl (by decide) _ ?_; intro _ _) | (refine upon_fop _ _ _ _ _ (by decide) ?_; intro _ _))
        generalize hu : fop .mul .f64 (iterT T 3) (iterT T 3) = u
        have Hu := Lib.hid hu
        clear hu
        go_loopw [11, 12] (fun p k wr => ∃ (i n m : Nat) (kI : Int), i ≤ 8 ∧ Hid (kI = 15 - 2 * (i : Int)) ∧ p = .float .f64 (pick .f64 (aser u i) n) ∧ k = .int .i64 kI ∧ wr = w.drewN m) (fun _ k _ => (intOf k + 2).toNat)
        case atStart => exact ⟨0, 0, _, 15, by omega, rfl, by rw [pick_not (show isN .f64 (aser u 0) = false from (by decide +kernel : isN .f64 0 = false))]; rfl, rfl, rfl⟩
        case round =>
          obtain ⟨i, n, m, kI, hi, HK, rfl, rfl, rfl⟩ := hrel
          by_cases hlt : i < 8
          · have b1 : 1 ≤ kI := by have := HK.out; omega
            have b2 : kI ≤ 15 := by have := HK.out; omega
            have HD : Hid (odd i = floatOfInt .f64 kI) := by unfold Hid odd; rw [HK.out]
            go_wp2_with (first | (refine wpList_fop rfl _ _ _ _ _ rfl _ _ _ rfl rfl (by decide) _ ?_; intro _ _) | (refine upon_fop _ _ _ _ _ (by decide) ?_; intro _ _))
            go_roundw
            case rel => exact ⟨i + 1, _, _, kI - 2, by omega, by have := HK.out; unfold Hid; omega, by rw [aser_step, HD.out]; rfl, rfl, rfl⟩
            case measure => simp [intOf]; omega
          · obtain rfl : i = 8 := by omega
            have b1 : kI < 1 := by have := HK.out; omega
            have b2 : -1 ≤ kI := by have := HK.out; omega
            clear hlt
            go_wp2_with (first | (first | (refine wpList_fop rfl _ _ _ _ _ rfl _ _ _ rfl rfl (by decide) _ ?_; intro _ _) | (refine upon_fop _ _ _ _ _ (by decide) ?_; intro _ _)) | go_in)
            go_ret
            rw [HW.out, ← HT.out]
            unfold flatA
            rw [Hu.out]
            exact ⟨_, _, rfl, rfl⟩
theorem c_wide_ftf (y x ny nx : Nat) (w : World) (j : Nat) (hy : y < 2 ^ FloatKind.f64.format.width) (hx : x < 2 ^ FloatKind.f64.format.width)
    (ho : (FloatKind.f64.format.order (fabs .f64 y) (fabs .f64 x) == some .gt) = false) (hlx : (FloatKind.f64.format.order x 0 == some .lt) = true) (hly : (FloatKind.f64.format.order y 0 == some .lt) = false)
    (sy : (FloatKind.f64.format.order (fop .sub .f64 y y) 0 != some .eq) = false) (sx : (FloatKind.f64.format.order (fop .sub .f64 x x) 0 != some .eq) = false)
    (hz : ((FloatKind.f64.format.order x 0 == some .eq) && (FloatKind.f64.format.order y 0 == some .eq)) = false) : Calls Try.prog 45 #[.float .f64 (pick .f64 y ny), .float .f64 (pick .f64 x nx)] (w.drewN j) (RetF .f64 (angW y x) w) := by
  have HW : Hid (angW y x = fop .sub .f64 4602678819172646912 (flatA (fop .quo .f64 (fabs .f64 y) (fabs .f64 x)))) := by
    unfold Hid angW overB ltz quarter64 half64; simp only [ho, hlx, hly, if_true, if_false, Bool.false_eq_true]
  rcases Bool.and_eq_false_iff.1 hz with hz1 | hz1
  all_goals
    clear hz
    have hz2 : Hid True := trivial
  all_goals try (cases hz3 : (FloatKind.f64.format.order x 0 == some .eq))
  all_goals try (rw [hz3] at hz1; cases hz1; done)
  all_goals
    go_enter Try.func45, Try.ntmps45
    go_wp2_with (first | (first | (refine wpList_fop rfl _ _ _ _ _ rfl _ _ _ rfl rfl (by decide) _ ?_; intro _ _) | (refine upon_fop _ _ _ _ _ (by decide) ?_; intro _ _)) | (go_at_call 27; refine (c_Abs _ _ _ _ (by assumption)).mono ?_; rintro _ _ ⟨_, _, rfl, rfl⟩))
    obtain ⟨T, hT⟩ : ∃ T, T = (fop .quo .f64 (fabs .f64 y) (fabs .f64 x)) := ⟨_, rfl⟩
    have HT : Hid (T = (fop .quo .f64 (fabs .f64 y) (fabs .f64 x))) := hT
    rw [← hT]
    clear hT
    go_loopw [8, 9] (fun t k wr => ∃ i n m : Nat, i ≤ 3 ∧ t = .float .f64 (pick .f64 (iterT T i) n) ∧ k = .int .i64 i ∧ wr = w.drewN m) (fun _ k _ => 3 - (intOf k).toNat)
    case atStart => exact ⟨0, _, _, by omega, rfl, rfl, rfl⟩
    case round =>
      obtain ⟨i, n, m, hi, rfl, rfl, rfl⟩ := hrel
      by_cases hlt : i < 3
      · go_wp2_with (first | (first | (refine wpList_fop rfl _ _ _ _ _ rfl _ _ _ rfl rfl (by decide) _ ?_; intro _ _) | (refine upon_fop _ _ _ _ _ (by decide) ?_; intro _ _)) | (go_at_call 46; refine (c_Sqrt _ _ _ _).mono ?_; rintro _ _ ⟨_, _, rfl, rfl⟩))
        go_roundw
        case rel => exact ⟨i + 1, _, _, by omega, by rw [iterT_step]; rfl, by go_num, rfl⟩
        case measure => simp [intOf]; omega
      · obtain rfl : i = 3 := by omega
        clear hlt
        go_wp2_with (first | (refine wpList_fop rfl _ _ _ _ _ rfl _ _ _ rfl rfl (by decide) _ ?_; intro _ _) | (refine upon_fop _ _ _ _ _ (by decide) ?_; intro _ _))
        generalize hu : fop .mul .f64 (iterT T 3) (iterT T 3) = u
        have Hu := Lib.hid hu
        clear hu
        go_loopw [11, 12] (fun p k wr => ∃ (i n m : Nat) (kI : Int), i ≤ 8 ∧ Hid (kI = 15 - 2 * (i : Int)) ∧ p = .float .f64 (pick .f64 (aser u i) n) ∧ k = .int .i64 kI ∧ wr = w.drewN m) (fun _ k _ => (intOf k + 2).toNat)
        case atStart => exact ⟨0, 0, _, 15, by omega, rfl, by rw [pick_not (show isN .f64 (aser u 0) = false from (by decide +kernel : isN .f64 0 = false))]; rfl, rfl, rfl⟩
        case round =>
          obtain ⟨i, n, m, kI, hi, HK, rfl, rfl, rfl⟩ := hrel
          by_cases hlt : i < 8
          · have b1 : 1 ≤ kI := by have := HK.out; omega
            have b2 : kI ≤ 15 := by have := HK.out; omega
            have HD : Hid (odd i = floatOfInt .f64 kI) := by unfold Hid odd; rw [HK.out]
            go_wp2_with (first | (refine wpList_fop rfl _ _ _ _ _ rfl _ _ _ rfl rfl (by decide) _ ?_; intro _ _) | (refine upon_fop _ _ _ _ _ (by decide) ?_; intro _ _))
            go_roundw
            case rel => exact ⟨i + 1, _, _, kI - 2, by omega, by have := HK.out; unfold Hid; omega, by rw [aser_step, HD.out]; rfl, rfl, rfl⟩
            case measure => simp [intOf]; omega
          · obtain rfl : i = 8 := by omega
            have b1 : kI < 1 := by have := HK.out; omega
            have b2 : -1 ≤ kI := by have := HK.out; omega
            clear hlt
            go_wp2_with (first | (first | (refine wpList_fop rfl _ _ _ _ _ rfl _ _ _ rfl rfl (by decide) _ ?_; intro _ _) | (refine upon_fop _ _ _ _ _ (by decide) ?_; intro _ _)) | go_in)
            go_ret
            rw [HW.out, ← HT.out]
            unfold flatA
            rw [Hu.out]
            exact ⟨_, _, rfl, rfl⟩
theorem c_wide_ftt (y x ny nx : Nat) (w : World) (j : Nat) (hy : y < 2 ^ FloatKind.f64.format.width) (hx : x < 2 ^ FloatKind.f64.format.width)
    (ho : (FloatKind.f64.format.order (fabs .f64 y) (fabs .f64 x) == some .gt) = false) (hlx : (FloatKind.f64.format.order x 0 == some .lt) = true) (hly : (FloatKind.f64.format.order y 0 == some .lt) = true)
    (sy : (FloatKind.f64.format.order (fop .sub .f64 y y) 0 != some .eq) = false) (sx : (FloatKind.f64.format.order (fop .sub .f64 x x) 0 != some .eq) = false)
    (hz : ((FloatKind.f64.format.order x 0 == some .eq) && (FloatKind.f64.format.order y 0 == some .eq)) = false) : Calls Try.prog 45 #[.float .f64 (pick .f64 y ny), .float .f64 (pick .f64 x nx)] (w.drewN j) (RetF .f64 (angW y x) w) := by
  have HW : Hid (angW y x = fneg .f64 (fop .sub .f64 4602678819172646912 (flatA (fop .quo .f64 (fabs .f64 y) (fabs .f64 x))))) := by
    unfold Hid angW overB ltz quarter64 half64; simp only [ho, hlx, hly, if_true, if_false, Bool.false_eq_true]
  rcases Bool.and_eq_false_iff.1 hz with hz1 | hz1
  all_goals
    clear hz
    have hz2 : Hid True := trivial
  all_goals try (cases hz3 : (FloatKind.f64.format.order x 0 == some .eq))
  all_goals try (rw [hz3] at hz1; cases hz1; done)
  all_goals
    go_enter Try.func45, Try.ntmps45
    go_wp2_with (first | (first | (refine wpList_fop rfl _ _ _ _ _ rfl _ _ _ rfl rfl (by decide) _ ?_; intro _ _) | (refine upon_fop _ _ _ _ _ (by decide) ?_; intro _ _)) | (go_at_call 27; refine (c_Abs _ _ _ _ (by assumption)).mono ?_; rintro _ _ ⟨_, _, rfl, rfl⟩))
    obtain ⟨T, hT⟩ : ∃ T, T = (fop .quo .f64 (fabs .f64 y) (fabs .f64 x)) := ⟨_, rfl⟩
    have HT : Hid (T = (fop .quo .f64 (fabs .f64 y) (fabs .f64 x))) := hT
    rw [← hT]
    clear hT
    go_loopw [8, 9] (fun t k wr => ∃ i n m : Nat, i ≤ 3 ∧ t = .float .f64 (pick .f64 (iterT T i) n) ∧ k = .int .i64 i ∧ wr = w.drewN m) (fun _ k _ => 3 - (intOf k).toNat)
    case atStart => exact ⟨0, _, _, by omega, rfl, rfl, rfl⟩
    case round =>
      obtain ⟨i, n, m, hi, rfl, rfl, rfl⟩ := hrel
      by_cases hlt : i < 3
      · go_wp2_with (first | (first | (refine wpList_fop rfl _ _ _ _ _ rfl _ _ _ rfl rfl (by decide) _ ?_; intro _ _) | (refine upon_fop _ _ _ _ _ (by decide) ?_; intro _ _)) | (go_at_call 46; refine (c_Sqrt _ _ _ _).mono ?_; rintro _ _ ⟨_, _, rfl, rfl⟩))
        go_roundw
        case rel => exact ⟨i + 1, _, _, by omega, by rw [iterT_step]; rfl, by go_num, rfl⟩
        case measure => simp [intOf]; omega
      · obtain rfl : i = 3 := by omega
        clear hlt
        go_wp2_with (first | (refine wpList_fop rfl _ _ _ _ _ rfl _ _ _ rfl rfl (by decide) _ ?_; intro _ _) | (refine upon_fop _ _ _ _ _ (by decide) ?_; intro _ _))
        generalize hu : fop .mul .f64 (iterT T 3) (iterT T 3) = u
        have Hu := Lib.hid hu
        clear hu
        go_loopw [11, 12] (fun p k wr => ∃ (i n m : Nat) (kI : Int), i ≤ 8 ∧ Hid (kI = 15 - 2 * (i : Int)) ∧ p = .float .f64 (pick .f64 (aser u i) n) ∧ k = .int .i64 kI ∧ wr = w.drewN m) (fun _ k _ => (intOf k + 2).toNat)
        case atStart => exact ⟨0, 0, _, 15, by omega, rfl, by rw [pick_not (show isN .f64 (aser u 0) = false from (by decide +kernel : isN .f64 0 = false))]; rfl, rfl, rfl⟩
        case round =>
          obtain ⟨i, n, m, kI, hi, HK, rfl, rfl, rfl⟩ := hrel
          by_cases hlt : i < 8
          · have b1 : 1 ≤ kI := by have := HK.out; omega
            have b2 : kI ≤ 15 := by have := HK.out; omega
            have HD : Hid (odd i = floatOfInt .f64 kI) := by unfold Hid odd; rw [HK.out]
            go_wp2_with (first | (refine wpList_fop rfl _ _ _ _ _ rfl _ _ _ rfl rfl (by decide) _ ?_; intro _ _) | (refine upon_fop _ _ _ _ _ (by decide) ?_; intro _ _))
            go_roundw
            case rel => exact ⟨i + 1, _, _, kI - 2, by omega, by have := HK.out; unfold Hid; omega, by rw [aser_step, HD.out]; rfl, rfl, rfl⟩
            case measure => simp [intOf]; omega
          · obtain rfl : i = 8 := by omega
            have b1 : kI < 1 := by have := HK.out; omega
            have b2 : -1 ≤ kI := by have := HK.out; omega
            clear hlt
            go_wp2_with (first | (first | (refine wpList_fop rfl _ _ _ _ _ rfl _ _ _ rfl rfl (by decide) _ ?_; intro _ _) | (refine upon_fop _ _ _ _ _ (by decide) ?_; intro _ _)) | go_in)
            go_ret
            rw [HW.out, ← HT.out]
            unfold flatA
            rw [Hu.out]
            exact ⟨_, _, rfl, rfl⟩
theorem c_wide_tff (y x ny nx : Nat) (w : World) (j : Nat) (hy : y < 2 ^ FloatKind.f64.format.width) (hx : x < 2 ^ FloatKind.f64.format.width)
    (ho : (FloatKind.f64.format.order (fabs .f64 y) (fabs .f64 x) == some .gt) = true) (hlx : (FloatKind.f64.format.order x 0 == some .lt) = false) (hly : (FloatKind.f64.format.order y 0 == some .lt) = false)
    (sy : (FloatKind.f64.format.order (fop .sub .f64 y y) 0 != some .eq) = false) (sx : (FloatKind.f64.format.order (fop .sub .f64 x x) 0 != some .eq) = false)
    (hz : ((FloatKind.f64.format.order x 0 == some .eq) && (FloatKind.f64.format.order y 0 == some .eq)) = false) : Calls Try.prog 45 #[.float .f64 (pick .f64 y ny), .float .f64 (pick .f64 x nx)] (w.drewN j) (RetF .f64 (angW y x) w) := by
  have HW : Hid (angW y x = fop .sub .f64 4598175219545276416 (flatA (fop .quo .f64 (fabs .f64 x) (fabs .f64 y)))) := by
    unfold Hid angW overB ltz quarter64 half64; simp only [ho, hlx, hly, if_true, if_false, Bool.false_eq_true]
  rcases Bool.and_eq_false_iff.1 hz with hz1 | hz1
  all_goals
    clear hz
    have hz2 : Hid True := trivial
  all_goals try (cases hz3 : (FloatKind.f64.format.order x 0 == some .eq))
  all_goals try (rw [hz3] at hz1; cases hz1; done)
  all_goals
    go_enter Try.func45, Try.ntmps45
    go_wp2_with (first | (first | (refine wpList_fop rfl _ _ _ _ _ rfl _ _ _ rfl rfl (by decide) _ ?_; intro _ _) | (refine upon_fop _ _ _ _ _ (by decide) ?_; intro _ _)) | (go_at_call 27; refine (c_Abs _ _ _ _ (by assumption)).mono ?_; rintro _ _ ⟨_, _, rfl, rfl⟩))
    obtain ⟨T, hT⟩ : ∃ T, T = (fop .quo .f64 (fabs .f64 x) (fabs .f64 y)) := ⟨_, rfl⟩
    have HT : Hid (T = (fop .quo .f64 (fabs .f64 x) (fabs .f64 y))) := hT
    rw [← hT]
    clear hT
    go_loopw [8, 9] (fun t k wr => ∃ i n m : Nat, i ≤ 3 ∧ t = .float .f64 (pick .f64 (iterT T i) n) ∧ k = .int .i64 i ∧ wr = w.drewN m) (fun _ k _ => 3 - (intOf k).toNat)
    case atStart => exact ⟨0, _, _, by omega, rfl, rfl, rfl⟩
    case round =>
      obtain ⟨i, n, m, hi, rfl, rfl, rfl⟩ := hrel
      by_cases hlt : i < 3
      · go_wp2_with (first | (first | (refine wpList_fop rfl _ _ _ _ _ rfl _ _ _ rfl rfl (by decide) _ ?_; intro _ _) | (refine upon_fop _ _ _ _ _ (by decide) ?_; intro _ _)) | (go_at_call 46; refine (c_Sqrt _ _ _ _).mono ?_; rintro _ _ ⟨_, _, rfl, rfl⟩))
        go_roundw
        case rel => exact ⟨i + 1, _, _, by omega, by rw [iterT_step]; rfl, by go_num, rfl⟩
        case measure => simp [intOf]; omega
      · obtain rfl : i = 3 := by omega
        clear hlt
        go_wp2_with (first | (refine wpList_fop rfl _ _ _ _ _ rfl _ _ _ rfl rfl (by decide) _ ?_; intro _ _) | (refine upon_fop _ _ _ _ _ (by decide) ?_; intro _ _))
        generalize hu : fop .mul .f64 (iterT T 3) (iterT T 3) = u
        have Hu := Lib.hid hu
        clear hu
        go_loopw [11, 12] (fun p k wr => ∃ (i n m : Nat) (kI : Int), i ≤ 8 ∧ Hid (kI = 15 - 2 * (i : Int)) ∧ p = .float .f64 (pick .f64 (aser u i) n) ∧ k = .int .i64 kI ∧ wr = w.drewN m) (fun _ k _ => (intOf k + 2).toNat)
        case atStart => exact ⟨0, 0, _, 15, by omega, rfl, by rw [pick_not (show isN .f64 (aser u 0) = false from (by decide +kernel : isN .f64 0 = false))]; rfl, rfl, rfl⟩
        case round =>
          obtain ⟨i, n, m, kI, hi, HK, rfl, rfl, rfl⟩ := hrel
          by_cases hlt : i < 8
          · have b1 : 1 ≤ kI := by have := HK.out; omega
            have b2 : kI ≤ 15 := by have := HK.out; omega
            have HD : Hid (odd i = floatOfInt .f64 kI) := by unfold Hid odd; rw [HK.out]
            go_wp2_with (first | (refine wpList_fop rfl _ _ _ _ _ rfl _ _ _ rfl rfl (by decide) _ ?_; intro _ _) | (refine upon_fop _ _ _ _ _ (by decide) ?_; intro _ _))
            go_roundw
            case rel => exact ⟨i + 1, _, _, kI - 2, by omega, by have := HK.out; unfold Hid; omega, by rw [aser_step, HD.out]; rfl, rfl, rfl⟩
            case measure => simp [intOf]; omega
          · obtain rfl : i = 8 := by omega
            have b1 : kI < 1 := by have := HK.out; omega
            have b2 : -1 ≤ kI := by have := HK.out; omega
            clear hlt
            go_wp2_with (first | (first | (refine wpList_fop rfl _ _ _ _ _ rfl _ _ _ rfl rfl (by decide) _ ?_; intro _ _) | (refine upon_fop _ _ _ _ _ (by decide) ?_; intro _ _)) | go_in)
            go_ret
            rw [HW.out, ← HT.out]
            unfold flatA
            rw [Hu.out]
            exact ⟨_, _, rfl, rfl⟩
theorem c_wide_tft (y x ny nx : Nat) (w : World) (j : Nat) (hy : y < 2 ^ FloatKind.f64.format.width) (hx : x < 2 ^ FloatKind.f64.format.width)
    (ho : (FloatKind.f64.format.order (fabs .f64 y) (fabs .f64 x) == some .gt) = true) (hlx : (FloatKind.f64.format.order x 0 == some .lt) = false) (hly : (FloatKind.f64.format.order y 0 == some .lt) = true)
    (sy : (FloatKind.f64.format.order (fop .sub .f64 y y) 0 != some .eq) = false) (sx : (FloatKind.f64.format.order (fop .sub .f64 x x) 0 != some .eq) = false)
    (hz : ((FloatKind.f64.format.order x 0 == some .eq) && (FloatKind.f64.format.order y 0 == some .eq)) = false) : Calls Try.prog 45 #[.float .f64 (pick .f64 y ny), .float .f64 (pick .f64 x nx)] (w.drewN j) (RetF .f64 (angW y x) w) := by
  have HW : Hid (angW y x = fneg .f64 (fop .sub .f64 4598175219545276416 (flatA (fop .quo .f64 (fabs .f64 x) (fabs .f64 y))))) := by
    unfold Hid angW overB ltz quarter64 half64; simp only [ho, hlx, hly, if_true, if_false, Bool.false_eq_true]
  rcases Bool.and_eq_false_iff.1 hz with hz1 | hz1
  all_goals
    clear hz
    have hz2 : Hid True := trivial
  all_goals try (cases hz3 : (FloatKind.f64.format.order x 0 == some .eq))
  all_goals try (rw [hz3] at hz1; cases hz1; done)
  all_goals
    go_enter Try.func45, Try.ntmps45
    go_wp2_with (first | (first | (refine wpList_fop rfl _ _ _ _ _ rfl _ _ _ rfl rfl (by decide) _ ?_; intro _ _) | (refine upon_fop _ _ _ _ _ (by decide) ?_; intro _ _)) | (go_at_call 27; refine (c_Abs _ _ _ _ (by assumption)).mono ?_; rintro _ _ ⟨_, _, rfl, rfl⟩))
    obtain ⟨T, hT⟩ : ∃ T, T = (fop .quo .f64 (fabs .f64 x) (fabs .f64 y)) := ⟨_, rfl⟩
    have HT : Hid (T = (fop .quo .f64 (fabs .f64 x) (fabs .f64 y))) := hT
    rw [← hT]
    clear hT
    go_loopw [8, 9] (fun t k wr => ∃ i n m : Nat, i ≤ 3 ∧ t = .float .f64 (pick .f64 (iterT T i) n) ∧ k = .int .i64 i ∧ wr = w.drewN m) (fun _ k _ => 3 - (intOf k).toNat)
    case atStart => exact ⟨0, _, _, by omega, rfl, rfl, rfl⟩
    case round =>
      obtain ⟨i, n, m, hi, rfl, rfl, rfl⟩ := hrel
      by_cases hlt : i < 3
      · go_wp2_with (first | (first | (refine wpList_fop rfl _ _ _ _ _ rfl _ _ _ rfl rfl (by decide) _ ?_; intro _ _) | (refine upon_fop _ _ _ _ _ (by decide) ?_; intro _ _)) | (go_at_call 46; refine (c_Sqrt _ _ _ _).mono ?_; rintro _ _ ⟨_, _, rfl, rfl⟩))
        go_roundw
        case rel => exact ⟨i + 1, _, _, by omega, by rw [iterT_step]; rfl, by go_num, rfl⟩
        case measure => simp [intOf]; omega
      · obtain rfl : i = 3 := by omega
        clear hlt
        go_wp2_with (first | (refine wpList_fop rfl _ _ _ _ _ rfl _ _ _ rfl rfl (by decide) _ ?_; intro _ _) | (refine upon_fop _ _ _ _ _ (by decide) ?_; intro _ _))
        generalize hu : fop .mul .f64 (iterT T 3) (iterT T 3) = u
        have Hu := Lib.hid hu
        clear hu
        go_loopw [11, 12] (fun p k wr => ∃ (i n m : Nat) (kI : Int), i ≤ 8 ∧ Hid (kI = 15 - 2 * (i : Int)) ∧ p = .float .f64 (pick .f64 (aser u i) n) ∧ k = .int .i64 kI ∧ wr = w.drewN m) (fun _ k _ => (intOf k + 2).toNat)
        case atStart => exact ⟨0, 0, _, 15, by omega, rfl, by rw [pick_not (show isN .f64 (aser u 0) = false from (by decide +kernel : isN .f64 0 = false))]; rfl, rfl, rfl⟩
        case round =>
          obtain ⟨i, n, m, kI, hi, HK, rfl, rfl, rfl⟩ := hrel
          by_cases hlt : i < 8
          · have b1 : 1 ≤ kI := by have := HK.out; omega
            have b2 : kI ≤ 15 := by have := HK.out; omega
            have HD : Hid (odd i = floatOfInt .f64 kI) := by unfold Hid odd; rw [HK.out]
            go_wp2_with (first | (refine wpList_fop rfl _ _ _ _ _ rfl _ _ _ rfl rfl (by decide) _ ?_; intro _ _) | (refine upon_fop _ _ _ _ _ (by decide) ?_; intro _ _))
            go_roundw
            case rel => exact ⟨i + 1, _, _, kI - 2, by omega, by have := HK.out; unfold Hid; omega, by rw [aser_step, HD.out]; rfl, rfl, rfl⟩
            case measure => simp [intOf]; omega
          · obtain rfl : i = 8 := by omega
            have b1 : kI < 1 := by have := HK.out; omega
            have b2 : -1 ≤ kI := by have := HK.out; omega
            clear hlt
            go_wp2_with (first | (first | (refine wpList_fop rfl _ _ _ _ _ rfl _ _ _ rfl rfl (by decide) _ ?_; intro _ _) | (refine upon_fop _ _ _ _ _ (by decide) ?_; intro _ _)) | go_in)
            go_ret
            rw [HW.out, ← HT.out]
            unfold flatA
            rw [Hu.out]
            exact ⟨_, _, rfl, rfl⟩
theorem c_wide_ttf (y x ny nx : Nat) (w : World) (j : Nat) (hy : y < 2 ^ FloatKind.f64.format.width) (hx : x < 2 ^ FloatKind.f64.format.width)
    (ho : (FloatKind.f64.format.order (fabs .f64 y) (fabs .f64 x) == some .gt) = true) (hlx : (FloatKind.f64.format.order x 0 == some .lt) = true) (hly : (FloatKind.f64.format.order y 0 == some .lt) = false)
    (sy : (FloatKind.f64.format.order (fop .sub .f64 y y) 0 != some .eq) = false) (sx : (FloatKind.f64.format.order (fop .sub .f64 x x) 0 != some .eq) = false)
    (hz : ((FloatKind.f64.format.order x 0 == some .eq) && (FloatKind.f64.format.order y 0 == some .eq)) = false) : Calls Try.prog 45 #[.float .f64 (pick .f64 y ny), .float .f64 (pick .f64 x nx)] (w.drewN j) (RetF .f64 (angW y x) w) := by
  have HW : Hid (angW y x = fop .sub .f64 4602678819172646912 (fop .sub .f64 4598175219545276416 (flatA (fop .quo .f64 (fabs .f64 x) (fabs .f64 y))))) := by
    unfold Hid angW overB ltz quarter64 half64; simp only [ho, hlx, hly, if_true, if_false, Bool.false_eq_true]
  rcases Bool.and_eq_false_iff.1 hz with hz1 | hz1
  all_goals
    clear hz
    have hz2 : Hid True := trivial
  all_goals try (cases hz3 : (FloatKind.f64.format.order x 0 == some .eq))
  all_goals try (rw [hz3] at hz1; cases hz1; done)
  all_goals
    go_enter Try.func45, Try.ntmps45
    go_wp2_with (first | (first | (refine wpList_fop rfl _ _ _ _ _ rfl _ _ _ rfl rfl (by decide) _ ?_; intro _ _) | (refine upon_fop _ _ _ _ _ (by decide) ?_; intro _ _)) | (go_at_call 27; refine (c_Abs _ _ _ _ (by assumption)).mono ?_; rintro _ _ ⟨_, _, rfl, rfl⟩))
    obtain ⟨T, hT⟩ : ∃ T, T = (fop .quo .f64 (fabs .f64 x) (fabs .f64 y)) := ⟨_, rfl⟩
    have HT : Hid (T = (fop .quo .f64 (fabs .f64 x) (fabs .f64 y))) := hT
    rw [← hT]
    clear hT
    go_loopw [8, 9] (fun t k wr => ∃ i n m : Nat, i ≤ 3 ∧ t = .float .f64 (pick .f64 (iterT T i) n) ∧ k = .int .i64 i ∧ wr = w.drewN m) (fun _ k _ => 3 - (intOf k).toNat)
    case atStart => exact ⟨0, _, _, by omega, rfl, rfl, rfl⟩
    case round =>
      obtain ⟨i, n, m, hi, rfl, rfl, rfl⟩ := hrel
      by_cases hlt : i < 3
      · go_wp2_with (first | (first | (refine wpList_fop rfl _ _ _ _ _ rfl _ _ _ rfl rfl (by decide) _ ?_; intro _ _) | (refine upon_fop _ _ _ _ _ (by decide) ?_; intro _ _)) | (go_at_call 46; refine (c_Sqrt _ _ _ _).mono ?_; rintro _ _ ⟨_, _, rfl, rfl⟩))
        go_roundw
        case rel => exact ⟨i + 1, _, _, by omega, by rw [iterT_step]; rfl, by go_num, rfl⟩
        case measure => simp [intOf]; omega
      · obtain rfl : i = 3 := by omega
        clear hlt
        go_wp2_with (first | (refine wpList_fop rfl _ _ _ _ _ rfl _ _ _ rfl rfl (by decide) _ ?_; intro _ _) | (refine upon_fop _ _ _ _ _ (by decide) ?_; intro _ _))
        generalize hu : fop .mul .f64 (iterT T 3) (iterT T 3) = u
        have Hu := Lib.hid hu
        clear hu
        go_loopw [11, 12] (fun p k wr => ∃ (i n m : Nat) (kI : Int), i ≤ 8 ∧ Hid (kI = 15 - 2 * (i : Int)) ∧ p = .float .f64 (pick .f64 (aser u i) n) ∧ k = .int .i64 kI ∧ wr = w.drewN m) (fun _ k _ => (intOf k + 2).toNat)
        case atStart => exact ⟨0, 0, _, 15, by omega, rfl, by rw [pick_not (show isN .f64 (aser u 0) = false from (by decide +kernel : isN .f64 0 = false))]; rfl, rfl, rfl⟩
        case round =>
          obtain ⟨i, n, m, kI, hi, HK, rfl, rfl, rfl⟩ := hrel
          by_cases hlt : i < 8
          · have b1 : 1 ≤ kI := by have := HK.out; omega
            have b2 : kI ≤ 15 := by have := HK.out; omega
            have HD : Hid (odd i = floatOfInt .f64 kI) := by unfold Hid odd; rw [HK.out]
            go_wp2_with (first | (refine wpList_fop rfl _ _ _ _ _ rfl _ _ _ rfl rfl (by decide) _ ?_; intro _ _) | (refine upon_fop _ _ _ _ _ (by decide) ?_; intro _ _))
            go_roundw
            case rel => exact ⟨i + 1, _, _, kI - 2, by omega, by have := HK.out; unfold Hid; omega, by rw [aser_step, HD.out]; rfl, rfl, rfl⟩
            case measure => simp [intOf]; omega
          · obtain rfl : i = 8 := by omega
            have b1 : kI < 1 := by have := HK.out; omega
            have b2 : -1 ≤ kI := by have := HK.out; omega
            clear hlt
            go_wp2_with (first | (first | (refine wpList_fop rfl _ _ _ _ _ rfl _ _ _ rfl rfl (by decide) _ ?_; intro _ _) | (refine upon_fop _ _ _ _ _ (by decide) ?_; intro _ _)) | go_in)
            go_ret
            rw [HW.out, ← HT.out]
            unfold flatA
            rw [Hu.out]
            exact ⟨_, _, rfl, rfl⟩
theorem c_wide_ttt (y x ny nx : Nat) (w : World) (j : Nat) (hy : y < 2 ^ FloatKind.f64.format.width) (hx : x < 2 ^ FloatKind.f64.format.width)
    (ho : (FloatKind.f64.format.order (fabs .f64 y) (fabs .f64 x) == some .gt) = true) (hlx : (FloatKind.f64.format.order x 0 == some .lt) = true) (hly : (FloatKind.f64.format.order y 0 == some .lt) = true)
    (sy : (FloatKind.f64.format.order (fop .sub .f64 y y) 0 != some .eq) = false) (sx : (FloatKind.f64.format.order (fop .sub .f64 x x) 0 != some .eq) = false)
    (hz : ((FloatKind.f64.format.order x 0 == some .eq) && (FloatKind.f64.format.order y 0 == some .eq)) = false) : Calls Try.prog 45 #[.float .f64 (pick .f64 y ny), .float .f64 (pick .f64 x nx)] (w.drewN j) (RetF .f64 (angW y x) w) := by
  have HW : Hid (angW y x = fneg .f64 (fop .sub .f64 4602678819172646912 (fop .sub .f64 4598175219545276416 (flatA (fop .quo .f64 (fabs .f64 x) (fabs .f64 y)))))) := by
    unfold Hid angW overB ltz quarter64 half64; simp only [ho, hlx, hly, if_true, if_false, Bool.false_eq_true]
  rcases Bool.and_eq_false_iff.1 hz with hz1 | hz1
  all_goals
    clear hz
    have hz2 : Hid True := trivial
  all_goals try (cases hz3 : (FloatKind.f64.format.order x 0 == some .eq))
  all_goals try (rw [hz3] at hz1; cases hz1; done)
  all_goals
    go_enter Try.func45, Try.ntmps45
    go_wp2_with (first | (first | (refine wpList_fop rfl _ _ _ _ _ rfl _ _ _ rfl rfl (by decide) _ ?_; intro _ _) | (refine upon_fop _ _ _ _ _ (by decide) ?_; intro _ _)) | (go_at_call 27; refine (c_Abs _ _ _ _ (by assumption)).mono ?_; rintro _ _ ⟨_, _, rfl, rfl⟩))
    obtain ⟨T, hT⟩ : ∃ T, T = (fop .quo .f64 (fabs .f64 x) (fabs .f64 y)) := ⟨_, rfl⟩
    have HT : Hid (T = (fop .quo .f64 (fabs .f64 x) (fabs .f64 y))) := hT
    rw [← hT]
    clear hT
    go_loopw [8, 9] (fun t k wr => ∃ i n m : Nat, i ≤ 3 ∧ t = .float .f64 (pick .f64 (iterT T i) n) ∧ k = .int .i64 i ∧ wr = w.drewN m) (fun _ k _ => 3 - (intOf k).toNat)
    case atStart => exact ⟨0, _, _, by omega, rfl, rfl, rfl⟩
    case round =>
      obtain ⟨i, n, m, hi, rfl, rfl, rfl⟩ := hrel
      by_cases hlt : i < 3
      · go_wp2_with (first | (first | (refine wpList_fop rfl _ _ _ _ _ rfl _ _ _ rfl rfl (by decide) _ ?_; intro _ _) | (refine upon_fop _ _ _ _ _ (by decide) ?_; intro _ _)) | (go_at_call 46; refine (c_Sqrt _ _ _ _).mono ?_; rintro _ _ ⟨_, _, rfl, rfl⟩))
        go_roundw
        case rel => exact ⟨i + 1, _, _, by omega, by rw [iterT_step]; rfl, by go_num, rfl⟩
        case measure => simp [intOf]; omega
      · obtain rfl : i = 3 := by omega
        clear hlt
        go_wp2_with (first | (refine wpList_fop rfl _ _ _ _ _ rfl _ _ _ rfl rfl (by decide) _ ?_; intro _ _) | (refine upon_fop _ _ _ _ _ (by decide) ?_; intro _ _))
        generalize hu : fop .mul .f64 (iterT T 3) (iterT T 3) = u
        have Hu := Lib.hid hu
        clear hu
        go_loopw [11, 12] (fun p k wr => ∃ (i n m : Nat) (kI : Int), i ≤ 8 ∧ Hid (kI = 15 - 2 * (i : Int)) ∧ p = .float .f64 (pick .f64 (aser u i) n) ∧ k = .int .i64 kI ∧ wr = w.drewN m) (fun _ k _ => (intOf k + 2).toNat)
        case atStart => exact ⟨0, 0, _, 15, by omega, rfl, by rw [pick_not (show isN .f64 (aser u 0) = false from (by decide +kernel : isN .f64 0 = false))]; rfl, rfl, rfl⟩
        case round =>
          obtain ⟨i, n, m, kI, hi, HK, rfl, rfl, rfl⟩ := hrel
          by_cases hlt : i < 8
          · have b1 : 1 ≤ kI := by have := HK.out; omega
            have b2 : kI ≤ 15 := by have := HK.out; omega
            have HD : Hid (odd i = floatOfInt .f64 kI) := by unfold Hid odd; rw [HK.out]
            go_wp2_with (first | (refine wpList_fop rfl _ _ _ _ _ rfl _ _ _ rfl rfl (by decide) _ ?_; intro _ _) | (refine upon_fop _ _ _ _ _ (by decide) ?_; intro _ _))
            go_roundw
            case rel => exact ⟨i + 1, _, _, kI - 2, by omega, by have := HK.out; unfold Hid; omega, by rw [aser_step, HD.out]; rfl, rfl, rfl⟩
            case measure => simp [intOf]; omega
          · obtain rfl : i = 8 := by omega
            have b1 : kI < 1 := by have := HK.out; omega
            have b2 : -1 ≤ kI := by have := HK.out; omega
            clear hlt
            go_wp2_with (first | (first | (refine wpList_fop rfl _ _ _ _ _ rfl _ _ _ rfl rfl (by decide) _ ?_; intro _ _) | (refine upon_fop _ _ _ _ _ (by decide) ?_; intro _ _)) | go_in)
            go_ret
            rw [HW.out, ← HT.out]
            unfold flatA
            rw [Hu.out]
            exact ⟨_, _, rfl, rfl⟩

/-! ### sineFacts -/
theorem fin_small {v : Nat} (h : finB .f32 v = true) (hb : decide (4841369599423283200 ≤ rung Ieee.double (cvU v)) = false) :
    isN .f64 (cvU v) = false ∧ floatToIntVal .f64 (cvU v) .i64 = some (ti (cvU v)) ∧ Bd .f64 1184 (sinF (cvU v)) := by
  have h1 : rung Ieee.single v < Ieee.single.infRung := of_decide_eq_true h
  have h2 : isN .f32 v = false := notN_fin (k := .f32) h1
  obtain ⟨_, c2, _, c4, _, _⟩ := cvU_spec h2
  have h3 := c4.2 h1
  have h4 := whole_small (v := cvU v) (by have := of_decide_eq_false hb; omega)
  exact ⟨c2, toInt64 h3 h4, sinF_bd (partF_bd h3 h4)⟩
theorem Fits_sin {v : Nat} (h : Bd .f64 1184 v) : Fits v := Fits_of_Bd (Bd_mono h (by decide))
theorem raw_nan {b : Nat} (h1 : isN .f64 b = true) (h2 : b < 2 ^ FloatKind.f64.format.width) : ∃ n, b = pick .f64 (qn .f64) n := by
  obtain ⟨n, e⟩ := nanOf_onto .f64 b h2 h1
  exact ⟨n, by rw [e]; simp [pick, isN_qn]⟩
def sineT (v : Nat) : Nat := if finB .f32 v = true then (if decide (4841369599423283200 ≤ rung Ieee.double (cvU v)) = true then 0 else cvN (sinF (cvU v))) else qn .f32
/-! ### mathNaN -/
theorem c_NaN (w : World) (j : Nat) : Calls Try.prog 48 #[] (w.drewN j) (RetF .f64 (qn .f64) w) := by
  obtain ⟨n, hn⟩ := raw_nan (b := 9221120237041090561) (by decide +kernel) (by decide +kernel)
  go_enter Try.func48, Try.ntmps48
  go_wp2
  go_ret
  exact ⟨n, _, by rw [← hn]; rfl, rfl⟩
/-! ### sAngleTurns -/
theorem c_wide_nan (y x ny nx : Nat) (w : World) (j : Nat) (h : (FloatKind.f64.format.order (fop .sub .f64 y y) 0 != some .eq) = true ∨ ((FloatKind.f64.format.order (fop .sub .f64 y y) 0 != some .eq) = false ∧ (FloatKind.f64.format.order (fop .sub .f64 x x) 0 != some .eq) = true)) : Calls Try.prog 45 #[.float .f64 (pick .f64 y ny), .float .f64 (pick .f64 x nx)] (w.drewN j) (RetF .f64 (qn .f64) w) := by
  rcases h with h | ⟨h, h2⟩
  all_goals
    go_enter Try.func45, Try.ntmps45
    go_wp2_with (first | (first | (refine wpList_fop rfl _ _ _ _ _ rfl _ _ _ rfl rfl (by decide) _ ?_; intro _ _) | (refine upon_fop _ _ _ _ _ (by decide) ?_; intro _ _)) | (go_at_call 48; refine (c_NaN _ _).mono ?_; rintro _ _ ⟨_, _, rfl, rfl⟩))
    go_ret
    exact ⟨_, _, rfl, rfl⟩
theorem c_wide_zero (y x ny nx : Nat) (w : World) (j : Nat) (sy : (FloatKind.f64.format.order (fop .sub .f64 y y) 0 != some .eq) = false) (sx : (FloatKind.f64.format.order (fop .sub .f64 x x) 0 != some .eq) = false)
    (hx : (FloatKind.f64.format.order x 0 == some .eq) = true) (hy : (FloatKind.f64.format.order y 0 == some .eq) = true) : Calls Try.prog 45 #[.float .f64 (pick .f64 y ny), .float .f64 (pick .f64 x nx)] (w.drewN j) (RetV (.float .f64 0) w) := by
  go_enter Try.func45, Try.ntmps45
  go_wp2_with (first | (first | (refine wpList_fop rfl _ _ _ _ _ rfl _ _ _ rfl rfl (by decide) _ ?_; intro _ _) | (refine upon_fop _ _ _ _ _ (by decide) ?_; intro _ _)))
  go_ret
  exact ⟨_, rfl, rfl⟩
theorem c_wide (y x ny nx : Nat) (w : World) (j : Nat) (hy : y < 2 ^ FloatKind.f64.format.width) (hx : x < 2 ^ FloatKind.f64.format.width)
    (sy : (FloatKind.f64.format.order (fop .sub .f64 y y) 0 != some .eq) = false) (sx : (FloatKind.f64.format.order (fop .sub .f64 x x) 0 != some .eq) = false)
    (hz : ((FloatKind.f64.format.order x 0 == some .eq) && (FloatKind.f64.format.order y 0 == some .eq)) = false) : Calls Try.prog 45 #[.float .f64 (pick .f64 y ny), .float .f64 (pick .f64 x nx)] (w.drewN j) (RetF .f64 (angW y x) w) := by
  cases ho : (FloatKind.f64.format.order (fabs .f64 y) (fabs .f64 x) == some .gt) <;> cases hlx : (FloatKind.f64.format.order x 0 == some .lt) <;> cases hly : (FloatKind.f64.format.order y 0 == some .lt)
  · exact c_wide_fff y x ny nx w j hy hx ho hlx hly sy sx hz
  · exact c_wide_fft y x ny nx w j hy hx ho hlx hly sy sx hz
  · exact c_wide_ftf y x ny nx w j hy hx ho hlx hly sy sx hz
  · exact c_wide_ftt y x ny nx w j hy hx ho hlx hly sy sx hz
  · exact c_wide_tff y x ny nx w j hy hx ho hlx hly sy sx hz
  · exact c_wide_tft y x ny nx w j hy hx ho hlx hly sy sx hz
  · exact c_wide_ttf y x ny nx w j hy hx ho hlx hly sy sx hz
  · exact c_wide_ttt y x ny nx w j hy hx ho hlx hly sy sx hz
theorem c_l01Angle (y x ny nx : Nat) (w : World) (j : Nat) : Calls Try.prog 30 #[.float .f32 (pick .f32 y ny), .float .f32 (pick .f32 x nx)] (w.drewN j) (RetF .f32 (angT y x) w) := by
  have hsy := sub_self_zero .f64 (cvU y)
  have hsx := sub_self_zero .f64 (cvU x)
  rw [finB_cvU] at hsy hsx
  cases hf : (finB .f32 y && finB .f32 x)
  · have e : angT y x = cvN (qn .f64) := by unfold angT; rw [hf, if_neg (by decide)]; exact (cvN_qn (isN_qn .f64)).symm
    have H : Hid ((FloatKind.f64.format.order (fop .sub .f64 (cvU y) (cvU y)) 0 != some .eq) = true ∨ ((FloatKind.f64.format.order (fop .sub .f64 (cvU y) (cvU y)) 0 != some .eq) = false ∧ (FloatKind.f64.format.order (fop .sub .f64 (cvU x) (cvU x)) 0 != some .eq) = true)) := by
      cases fy : finB .f32 y
      · left; rw [bne, hsy, fy]; rfl
      · right; rw [fy] at hf; refine ⟨by rw [bne, hsy, fy]; rfl, by rw [bne, hsx]; rw [Bool.true_and] at hf; rw [hf]; rfl⟩
    rw [e]
    clear hsy hsx hf
    go_enter Try.func30, Try.ntmps30
    go_wp2_with (first | (refine wpList_cvU rfl 22 25 _ rfl (Option.isSome_iff_exists.2 ⟨_, Try.underlying22⟩) Try.underlying25 _ rfl _ ?_; intro _ _) | (refine wpList_cvN rfl 25 22 _ rfl (Option.isSome_iff_exists.2 ⟨_, Try.underlying25⟩) Try.underlying22 _ rfl _ (by exact .inl (by rw [isN_pick]; exact isN_qn _)) ?_; intro _ _) | (go_at_call 45; refine (c_wide_nan _ _ _ _ _ _ H.out).mono ?_; rintro _ _ ⟨_, _, rfl, rfl⟩) | go_in)
    go_ret
    exact ⟨_, _, rfl, rfl⟩
  · have hf2 := Bool.and_eq_true_iff.1 hf
    have sy : (FloatKind.f64.format.order (fop .sub .f64 (cvU y) (cvU y)) 0 != some .eq) = false := by rw [bne, hsy, hf2.1]; rfl
    have sx : (FloatKind.f64.format.order (fop .sub .f64 (cvU x) (cvU x)) 0 != some .eq) = false := by rw [bne, hsx, hf2.2]; rfl
    have zy : (FloatKind.f64.format.order (cvU y) 0 == some .eq) = zeroB y := by rw [order_cv0]; rfl
    have zx : (FloatKind.f64.format.order (cvU x) 0 == some .eq) = zeroB x := by rw [order_cv0]; rfl
    cases hz : (zeroB y && zeroB x)
    · have e : angT y x = cvN (angW (cvU y) (cvU x)) := by unfold angT; rw [hf, if_pos rfl, hz, if_neg (by decide)]
      have hz' : ((FloatKind.f64.format.order (cvU x) 0 == some .eq) && (FloatKind.f64.format.order (cvU y) 0 == some .eq)) = false := by rw [zy, zx, Bool.and_comm]; exact hz
      have H := Lib.hid (And.intro sy (And.intro sx (And.intro hz' (ang_fits hf2.1 hf2.2 hz))))
      rw [e]
      clear hsy hsx hf sy sx hz' hz zy zx hf2
      go_enter Try.func30, Try.ntmps30
      go_wp2_with (first | (refine wpList_cvU rfl 22 25 _ rfl (Option.isSome_iff_exists.2 ⟨_, Try.underlying22⟩) Try.underlying25 _ rfl _ ?_; intro _ _) | (refine wpList_cvN rfl 25 22 _ rfl (Option.isSome_iff_exists.2 ⟨_, Try.underlying25⟩) Try.underlying22 _ rfl _ (by rw [Fits_pick]; exact H.out.2.2.2) ?_; intro _ _) | (go_at_call 45; refine (c_wide _ _ _ _ _ _ (cvU_lt _) (cvU_lt _) H.out.1 H.out.2.1 H.out.2.2.1).mono ?_; rintro _ _ ⟨_, _, rfl, rfl⟩) | go_in)
      go_ret
      exact ⟨_, _, rfl, rfl⟩
    · have e : angT y x = 0 := by unfold angT; rw [hf, if_pos rfl, hz, if_pos rfl]
      have hz2 := Bool.and_eq_true_iff.1 hz
      rw [hz2.1] at zy
      rw [hz2.2] at zx
      have H := Lib.hid (And.intro sy (And.intro sx (And.intro zx zy)))
      have hcz : cvN 0 = 0 := by decide +kernel
      rw [e]
      clear hsy hsx hf sy sx hz zy zx hf2 hz2
      go_enter Try.func30, Try.ntmps30
      go_wp2_with (first | (refine wpList_cvU rfl 22 25 _ rfl (Option.isSome_iff_exists.2 ⟨_, Try.underlying22⟩) Try.underlying25 _ rfl _ ?_; intro _ _) | (refine wpList_cvN rfl 25 22 _ rfl (Option.isSome_iff_exists.2 ⟨_, Try.underlying25⟩) Try.underlying22 _ rfl _ (by exact Fits_of_Bd (Bd_const (by decide +kernel))) ?_; intro _ _) | (go_at_call 45; refine (c_wide_zero _ _ _ _ _ _ H.out.1 H.out.2.1 H.out.2.2.1 H.out.2.2.2).mono ?_; rintro _ _ ⟨_, rfl, rfl⟩) | go_in)
      go_ret
      exact ⟨_, _, rfl, rfl⟩
theorem c_sAngleTurns (y x ny nx : Nat) (w : World) (j : Nat) : Calls Try.prog 13 #[.float .f32 (pick .f32 y ny), .float .f32 (pick .f32 x nx)] (w.drewN j) (RetF .f32 (angT y x) w) := by
  go_enter Try.func13, Try.ntmps13
  go_wp2_with ((go_at_call 30; refine (c_l01Angle _ _ _ _ _ _).mono ?_; rintro _ _ ⟨_, _, rfl, rfl⟩))
  go_ret
  exact ⟨_, _, rfl, rfl⟩
/-! ### sameFloat -/
theorem c_sameFloat (v n m : Nat) (w : World) (j : Nat) : Calls Try.prog 10 #[.float .f64 (pick .f64 v n), .float .f64 (pick .f64 v m)] (w.drewN j) (RetV (.bool true) w) := by
  have hs := self_ne .f64 v
  have ht := self_eq .f64 v
  cases h : isN .f64 v
  · rw [h] at hs ht
    cases h2 : (FloatKind.f64.format.order v 0 == some .eq)
    · go_enter Try.func10, Try.ntmps10
      go_wp2_with (first | (refine wpList_fop rfl _ _ _ _ _ rfl _ _ _ rfl rfl (by decide) _ ?_; intro _ _) | (refine upon_fop _ _ _ _ _ (by decide) ?_; intro _ _))
      go_ret
      exact ⟨_, rfl, rfl⟩
    · go_enter Try.func10, Try.ntmps10
      go_wp2_with (first | (refine wpList_fop rfl _ _ _ _ _ rfl _ _ _ rfl rfl (by decide) _ ?_; intro _ _) | (refine upon_fop _ _ _ _ _ (by decide) ?_; intro _ _))
      go_ret
      exact ⟨_, by simp, rfl⟩
  · rw [h] at hs ht
    go_enter Try.func10, Try.ntmps10
    go_wp2_with (first | (refine wpList_fop rfl _ _ _ _ _ rfl _ _ _ rfl rfl (by decide) _ ?_; intro _ _) | (refine upon_fop _ _ _ _ _ (by decide) ?_; intro _ _))
    go_ret
    exact ⟨_, rfl, rfl⟩

/-! ### FnExactAngleTurns -/
theorem walk (y ny x nx : Nat) (w : World) (hy : y < 2 ^ FloatKind.f32.format.width) (hx : x < 2 ^ FloatKind.f32.format.width) : Calls Try.prog 5 #[.float .f32 (pick .f32 y ny), .float .f32 (pick .f32 x nx)] w fun e w' => e = .returned (.bool true) ∧ Below w.heap.size w w' := by
  rw [← w.drewN_zero]
  go_enter Try.func5, Try.ntmps5
  go_wp2_with (first | (refine wpList_cvU rfl 22 25 _ rfl (Option.isSome_iff_exists.2 ⟨_, Try.underlying22⟩) Try.underlying25 _ rfl _ ?_; intro _ _) | (go_at_call 13; refine (c_sAngleTurns _ _ _ _ _ _).mono ?_; rintro _ _ ⟨_, _, rfl, rfl⟩) | (go_at_call 14; refine (c_iAngleTurns _ _ _ _ _ _).mono ?_; rintro _ _ ⟨_, _, rfl, rfl⟩) | (go_at_call 10; refine (c_sameFloat _ _ _ _ _).mono ?_; rintro _ _ ⟨_, rfl, rfl⟩))
  go_ret
  exact ⟨rfl, below_drewN (Below.refl _ _) _⟩

theorem own : ownKnob Try.prog.godebug = none := by kernel_rfl
theorem laidOut : laidOutB Try.prog = true := by kernel_rfl
set_option maxRecDepth 100000 in
theorem lifted (os : Os) (started : os.Started) (H : Type) (enc : TypeId × Value → H) :
    ReturnsInHanded {} Try.checked os 5 .any (Rows.fnExactAngleTurnsSpec.pre6 enc Try.prog Try.f5 Rows.fnExactAngleTurnsRow.domain false) (Rows.fnExactAngleTurnsSpec.post enc Try.prog Try.f5 false true false false) := by
  refine returnsInHanded_of_change (C := Try.checked) own started (by kernel_rfl) Try.func5
    (ChangeSpec.witness6 (enc := enc) (C := Try.checked) false ⟨#[], #[.float .f32 0, .float .f32 0], []⟩ 8 (by kernel_rfl) (by kernel_rfl) (by kernel_rfl) (by kernel_rfl)) ?_
  intro W base args ds gs before hval0 hW hcnd _
  have hval : ∀ (j : Nat) t v, Try.f5.params[j]? = some t → args[j]? = some v → Value.okWide Try.prog W .any base t v := hval0
  have hW' := hW
  obtain ⟨p, q, hA0, hV, rfl, hfz, hnd⟩ := hW
  have hA : DataW.TrodAll enc Try.prog W 0 (fun _ => true) true Try.f5.params.toList args.toList ds p := hA0
  rw [Try.params5] at hA hval
  obtain ⟨v0, vs0, d0, ds0, p0, q0, hargs, rfl, rfl, h0, r0⟩ := trodAll_cons hA
  obtain ⟨v1, vs1, d1, ds1, p1, q1, rfl, rfl, rfl, h1, r1⟩ := trodAll_cons r0
  obtain ⟨rfl, rfl, rfl⟩ := trodAll_nil r1
  obtain rfl : args = #[v0, v1] := by cases args; simp_all
  obtain ⟨rfl, rfl⟩ := trodVars_none hV
  obtain ⟨b0, rfl, rfl, rfl, w0⟩ := open_float Try.underlying22 (hval 0 22 v0 rfl rfl) h0
  obtain ⟨n0, en0⟩ := pick_onto .f32 b0 (lt_of_wf w0)
  obtain ⟨b1, rfl, rfl, rfl, w1⟩ := open_float Try.underlying22 (hval 1 22 v1 rfl rfl) h1
  obtain ⟨n1, en1⟩ := pick_onto .f32 b1 (lt_of_wf w1)
  clear hA0 hval0
  have hcall0 := en0
  have hcall1 := en1
  have hw0 : Calls Try.prog 5 #[.float .f32 b0, .float .f32 b1] W fun e w' => e = .returned (.bool true) ∧ Below W.heap.size W w' := by
    rw [en0]
    rw [en1]
    exact walk b0 n0 b1 n1 W (lt_of_wf w0) (lt_of_wf w1)
  refine hw0.mono fun e W' ⟨he, bel⟩ => ?_
  subst he
  exact ⟨_, rfl, _, _, _, [], _, [], hW', trodAll_mk1 (shut_bool Try.underlying4 _), (trodAll_cons_mk (shut_float Try.underlying22 w0) (trodAll_cons_mk (shut_float Try.underlying22 w1) trodAll_mk0)), rfl, bel.frame _, fun h => by cases h⟩

theorem over : Rows.fnExactAngleTurnsRow.holds Try.pinned (OpenSpec.ofChange Rows.fnExactAngleTurnsSpec) :=
  OpenClaim.holds_of_wide 5 Try.f5 rfl rfl rfl rfl rfl rfl rfl ⟨rfl, rfl, rfl, rfl, rfl⟩ rfl rfl rfl rfl rfl (by kernel_rfl) Try.func5 (by kernel_rfl)
    (of_decide_eq_true (by kernel_rfl)) (by unfold Func.isWrapper; first | (rw [if_pos (by decide +kernel)]; kernel_rfl) | (rw [if_neg (by decide +kernel)]; exact ⟨rfl, rfl⟩))
    (fun os started H enc _ => lifted os started H enc)

theorem proved : Rows.FnExactAngleTurnsSaid := over
#print axioms proved

end Go.Proofs.Ytfohhljadpchgag.fnExactAngleTurns

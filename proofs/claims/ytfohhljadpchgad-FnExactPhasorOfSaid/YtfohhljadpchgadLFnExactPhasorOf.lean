/-
  FnExactPhasorOf: for every input this law of the program returns true, and each argument reads as before. No condition.
-/
import Derived.Test.YtfohhljadpchgadRows
import Derived.Test.YtfohhljadpchgadFl
import Derived.Test.YtfohhljadpchgadLg
import Derived.Test.YtfohhljadpchgadCx
import Derived.ProofKit
import Derived.OpenShut
import Derived.ShutString
import Derived.ChangeOld
import Derived.Below
import Derived.Lib.Hide
set_option linter.unusedSimpArgs false
set_option linter.unusedVariables false
set_option exponentiation.threshold 2000
namespace Go.Proofs.Ytfohhljadpchgad.fnExactPhasorOf
open Go Go.Proofs.Ytfohhljadpchgad Go.Proofs
open Go.ChangeShapes Go.WideShapes Go.ChangeAt Go.RowKit
open Go.ChangeMaps (open_string shut_string)
/-! ### sineFacts -/
theorem fin_small {v : Nat} (h : finB .f32 v = true) (hb : decide (4841369599423283200 ≤ rung Ieee.double (cvU v)) = false) :
    isN .f64 (cvU v) = false ∧ floatToIntVal .f64 (cvU v) .i64 = some (ti (cvU v)) ∧ Bd .f64 1184 (sinF (cvU v)) := by
  have h1 : rung Ieee.single v < Ieee.single.infRung := of_decide_eq_true h
  have h2 : isN .f32 v = false := notN_fin (k := .f32) h1
  obtain ⟨_, c2, _, c4, _, _⟩ := cvU_spec h2
  have h3 := c4.2 h1
  have h4 := whole_small (v := cvU v) (by have := of_decide_eq_false hb; omega)
  exact ⟨c2, toInt64 h3 h4, sinF_bd (partF_bd h3 h4)⟩
theorem Fits_sin {v : Nat} (h : Bd .f64 1184 v) : Fits v := Fits_of_Bd (Bd_mono h (by decide))
theorem raw_nan {b : Nat} (h1 : isN .f64 b = true) (h2 : b < 2 ^ FloatKind.f64.format.width) : ∃ n, b = pick .f64 (qn .f64) n := by
  obtain ⟨n, e⟩ := nanOf_onto .f64 b h2 h1
  exact ⟨n, by rw [e]; simp [pick, isN_qn]⟩
def sineT (v : Nat) : Nat := if finB .f32 v = true then (if decide (4841369599423283200 ≤ rung Ieee.double (cvU v)) = true then 0 else cvN (sinF (cvU v))) else qn .f32
/-! ### phasorDefs -/
@[reducible] def phC (f : Nat) : Nat := sinF (fop .sub .f64 4598175219545276416 f)
@[reducible] def phS (f : Nat) : Nat := sinF f
def phRe (f N : Nat) : Nat := if N = 1 then cvN (fop .sub .f64 0 (phS f)) else if N = 2 then cvN (fop .sub .f64 0 (phC f)) else if N = 3 then cvN (phS f) else cvN (phC f)
def phIm (f N : Nat) : Nat := if N = 1 then cvN (phC f) else if N = 2 then cvN (fop .sub .f64 0 (phS f)) else if N = 3 then cvN (fop .sub .f64 0 (phC f)) else cvN (phS f)
theorem Fits_neg {v : Nat} (h : Bd .f64 1184 v) : Fits (fop .sub .f64 0 v) := Fits_of_Bd (Bd_mono (subD (a := 1074) (c := 1185) (Bd_const (by decide +kernel)) h (by omega) (by omega) (by omega)) (by decide))
structure PhOk (f : Nat) : Prop where
  a : SinArg f
  b : SinArg (fop .sub .f64 4598175219545276416 f)
theorem phOk {f : Nat} (h : Fb 1075 f) : PhOk f := by
  have h2 : Fb 1076 (fop .sub .f64 4598175219545276416 f) := subF (a := 1074) (Fb_const (by decide +kernel)) h (by omega) (by omega) (by omega)
  exact ⟨sinArg h.1 (Fb_small h (by omega)), sinArg h2.1 (Fb_small h2 (by omega))⟩
theorem PhOk.fS {f : Nat} (h : PhOk f) : Fits (phS f) := Fits_sin h.a.bd
theorem PhOk.fC {f : Nat} (h : PhOk f) : Fits (phC f) := Fits_sin h.b.bd
theorem PhOk.fS0 {f : Nat} (h : PhOk f) : Fits (fop .sub .f64 0 (phS f)) := Fits_neg h.a.bd
theorem PhOk.fC0 {f : Nat} (h : PhOk f) : Fits (fop .sub .f64 0 (phC f)) := Fits_neg h.b.bd
/-! ### narrowComplex -/
theorem c_NarrowNumber (v n : Nat) (w : World) (j : Nat) (hfit : Fits v) : Calls Try.prog 27 #[.float .f64 (pick .f64 v n)] (w.drewN j) (RetF .f32 (cvN v) w) := by
  have H := Lib.hid hfit
  clear hfit
  go_enter Try.func27, Try.ntmps27
  go_wp2_with ((refine wpList_cvN rfl 22 28 _ rfl (Option.isSome_iff_exists.2 ⟨_, Try.underlying22⟩) Try.underlying28 _ rfl _ (by rw [Fits_pick]; exact H.out) ?_; intro _ _))
  go_ret
  exact ⟨_, _, rfl, rfl⟩
theorem c_NarrowComplex (a b n m : Nat) (w : World) (j : Nat) (ha : Fits a) (hb : Fits b) : Calls Try.prog 20 #[.complex .f64 (pick .f64 a n) (pick .f64 b m)] (w.drewN j) (RetC .f32 (cvN a) (cvN b) w) := by
  have HA := Lib.hid ha
  have HB := Lib.hid hb
  clear ha hb
  go_enter Try.func20, Try.ntmps20
  go_wp2_with (go_at_call 27; refine (c_NarrowNumber _ _ _ _ (by first | with_reducible exact HA.out | with_reducible exact HB.out)).mono ?_; rintro _ _ ⟨_, _, rfl, rfl⟩)
  go_ret
  exact ⟨_, _, _, rfl, rfl⟩
/-! ### partOfTurn -/
theorem c_partOfTurn (v : Nat) (w : World) (j : Nat) (hti : floatToIntVal .f64 v .i64 = some (ti v)) : Calls Try.prog 18 #[.float .f64 v] (w.drewN j) (RetF .f64 (partF v) w) := by
  have H := Lib.hid hti
  clear hti
  cases h : (FloatKind.f64.format.order (fop .sub .f64 v (floatOfInt .f64 (ti v))) 0 == some .lt)
  · have e : partF v = fop .sub .f64 v (floatOfInt .f64 (ti v)) := by unfold partF; rw [h, if_neg (by decide)]
    rw [e]
    go_enter Try.func18, Try.ntmps18
    go_wp2_with (first | (first | (refine wpList_fop rfl _ _ _ _ _ rfl _ _ _ rfl rfl (by decide) _ ?_; intro _ _) | (refine upon_fop _ _ _ _ _ (by decide) ?_; intro _ _)) | (refine wpList_ftoi rfl 22 2 _ rfl (Option.isSome_iff_exists.2 ⟨_, Try.underlying22⟩) .i64 Try.underlying2 _ _ rfl (by exact H.out) ?_))
    go_ret
    exact ⟨_, _, rfl, rfl⟩
  · have e : partF v = fop .add .f64 (fop .sub .f64 v (floatOfInt .f64 (ti v))) 4607182418800017408 := by unfold partF; rw [h, if_pos rfl]; rfl
    rw [e]
    go_enter Try.func18, Try.ntmps18
    go_wp2_with (first | (first | (refine wpList_fop rfl _ _ _ _ _ rfl _ _ _ rfl rfl (by decide) _ ?_; intro _ _) | (refine upon_fop _ _ _ _ _ (by decide) ?_; intro _ _)) | (refine wpList_ftoi rfl 22 2 _ rfl (Option.isSome_iff_exists.2 ⟨_, Try.underlying22⟩) .i64 Try.underlying2 _ _ rfl (by exact H.out) ?_))
    go_ret
    exact ⟨_, _, rfl, rfl⟩
/-! ### radians -/

/-! ### sineOf -/
theorem c_sineOf_ff (v f : Nat) (w : World) (j : Nat) (Hti : Hid (floatToIntVal .f64 v .i64 = some (ti v))) (Hf : Hid (partF v = f))
    (hb : (FloatKind.f64.format.order f 4602678819172646912 == some .gt || FloatKind.f64.format.order f 4602678819172646912 == some .eq) = false)
    (hq : (FloatKind.f64.format.order f 4598175219545276416 == some .gt) = false) : Calls Try.prog 19 #[.float .f64 v] (w.drewN j) (RetF .f64 (sinF v) w) := by
  have HF : Hid (sinF v = (sinZ (fop .mul .f64 f 4618760256179416344))) := by
    unfold Hid sinF lowB fold2 half64 quarter64 twopi64; rw [Hf.out, hb]; simp only [if_true, if_false, Bool.false_eq_true, hq]
  go_enter Try.func19, Try.ntmps19
  go_wp2_with (first | (first | (refine wpList_fop rfl _ _ _ _ _ rfl _ _ _ rfl rfl (by decide) _ ?_; intro _ _) | (refine upon_fop _ _ _ _ _ (by decide) ?_; intro _ _)) | (go_at_call 18; refine (c_partOfTurn _ _ _ Hti.out).mono ?_; rw [Hf.out]; rintro _ _ ⟨_, _, rfl, rfl⟩) | go_in)
  generalize hu : fop .mul .f64 (fop .mul .f64 f 4618760256179416344) (fop .mul .f64 f 4618760256179416344) = u
  have Hu := Lib.hid hu
  clear hu
  go_loopw [7, 8] (fun p k wr => ∃ i n m : Nat, i ≤ 8 ∧ p = .float .f64 (pick .f64 (ser u i) n) ∧ k = .float .f64 (kfl i) ∧ wr = w.drewN m) (fun _ k _ => fbits k)
  case atStart => exact ⟨0, 0, _, by omega, by rw [pick_not (show isN .f64 (ser u 0) = false from (by decide +kernel : isN .f64 one64 = false))]; rfl, rfl, rfl⟩
  case round =>
    obtain ⟨i, n, m, hi, rfl, rfl, rfl⟩ := hrel
    by_cases hlt : i < 8
    · have ht := kfl_test i hlt
      unfold one64 at ht
      have HD := Lib.hid (kfl_den i hlt)
      have HN := Lib.hid (kfl_next i hlt)
      have HL := Lib.hid (kfl_lt i hlt)
      go_wp2_with (first | (refine wpList_fop rfl _ _ _ _ _ rfl _ _ _ rfl rfl (by decide) _ ?_; intro _ _) | (refine upon_fop _ _ _ _ _ (by decide) ?_; intro _ _))
      go_roundw
      case rel => exact ⟨i + 1, _, _, by omega, by rw [ser_step, ← HD.out]; rfl, by have e := HN.out; unfold one64 at e; rw [e, pick_not (kfl_notN _)], rfl⟩
      case measure => have e := HN.out; unfold one64 at e; rw [e, pick_not (kfl_notN _)]; exact HL.out
    · obtain rfl : i = 8 := by omega
      have ht := kfl_end
      unfold one64 at ht
      go_wp2_with (first | (refine wpList_fop rfl _ _ _ _ _ rfl _ _ _ rfl rfl (by decide) _ ?_; intro _ _) | (refine upon_fop _ _ _ _ _ (by decide) ?_; intro _ _))
      go_ret
      rw [HF.out]
      unfold sinZ
      rw [Hu.out]
      exact ⟨_, _, rfl, rfl⟩
theorem c_sineOf_ft (v f : Nat) (w : World) (j : Nat) (Hti : Hid (floatToIntVal .f64 v .i64 = some (ti v))) (Hf : Hid (partF v = f))
    (hb : (FloatKind.f64.format.order f 4602678819172646912 == some .gt || FloatKind.f64.format.order f 4602678819172646912 == some .eq) = false)
    (hq : (FloatKind.f64.format.order f 4598175219545276416 == some .gt) = true) : Calls Try.prog 19 #[.float .f64 v] (w.drewN j) (RetF .f64 (sinF v) w) := by
  have HF : Hid (sinF v = (sinZ (fop .mul .f64 (fop .sub .f64 4602678819172646912 f) 4618760256179416344))) := by
    unfold Hid sinF lowB fold2 half64 quarter64 twopi64; rw [Hf.out, hb]; simp only [if_true, if_false, Bool.false_eq_true, hq]
  go_enter Try.func19, Try.ntmps19
  go_wp2_with (first | (first | (refine wpList_fop rfl _ _ _ _ _ rfl _ _ _ rfl rfl (by decide) _ ?_; intro _ _) | (refine upon_fop _ _ _ _ _ (by decide) ?_; intro _ _)) | (go_at_call 18; refine (c_partOfTurn _ _ _ Hti.out).mono ?_; rw [Hf.out]; rintro _ _ ⟨_, _, rfl, rfl⟩) | go_in)
  generalize hu : fop .mul .f64 (fop .mul .f64 (fop .sub .f64 4602678819172646912 f) 4618760256179416344) (fop .mul .f64 (fop .sub .f64 4602678819172646912 f) 4618760256179416344) = u
  have Hu := Lib.hid hu
  clear hu
  go_loopw [7, 8] (fun p k wr => ∃ i n m : Nat, i ≤ 8 ∧ p = .float .f64 (pick .f64 (ser u i) n) ∧ k = .float .f64 (kfl i) ∧ wr = w.drewN m) (fun _ k _ => fbits k)
  case atStart => exact ⟨0, 0, _, by omega, by rw [pick_not (show isN .f64 (ser u 0) = false from (by decide +kernel : isN .f64 one64 = false))]; rfl, rfl, rfl⟩
  case round =>
    obtain ⟨i, n, m, hi, rfl, rfl, rfl⟩ := hrel
    by_cases hlt : i < 8
    · have ht := kfl_test i hlt
      unfold one64 at ht
      have HD := Lib.hid (kfl_den i hlt)
      have HN := Lib.hid (kfl_next i hlt)
      have HL := Lib.hid (kfl_lt i hlt)
      go_wp2_with (first | (refine wpList_fop rfl _ _ _ _ _ rfl _ _ _ rfl rfl (by decide) _ ?_; intro _ _) | (refine upon_fop _ _ _ _ _ (by decide) ?_; intro _ _))
      go_roundw
      case rel => exact ⟨i + 1, _, _, by omega, by rw [ser_step, ← HD.out]; rfl, by have e := HN.out; unfold one64 at e; rw [e, pick_not (kfl_notN _)], rfl⟩
      case measure => have e := HN.out; unfold one64 at e; rw [e, pick_not (kfl_notN _)]; exact HL.out
    · obtain rfl : i = 8 := by omega
      have ht := kfl_end
      unfold one64 at ht
      go_wp2_with (first | (refine wpList_fop rfl _ _ _ _ _ rfl _ _ _ rfl rfl (by decide) _ ?_; intro _ _) | (refine upon_fop _ _ _ _ _ (by decide) ?_; intro _ _))
      go_ret
      rw [HF.out]
      unfold sinZ
      rw [Hu.out]
      exact ⟨_, _, rfl, rfl⟩
theorem c_sineOf_tf (v f : Nat) (w : World) (j : Nat) (Hti : Hid (floatToIntVal .f64 v .i64 = some (ti v))) (Hf : Hid (partF v = f))
    (hb : (FloatKind.f64.format.order f 4602678819172646912 == some .gt || FloatKind.f64.format.order f 4602678819172646912 == some .eq) = true)
    (hq : (FloatKind.f64.format.order (fop .sub .f64 f 4602678819172646912) 4598175219545276416 == some .gt) = false) : Calls Try.prog 19 #[.float .f64 v] (w.drewN j) (RetF .f64 (sinF v) w) := by
  have HF : Hid (sinF v = fneg .f64 (sinZ (fop .mul .f64 (fop .sub .f64 f 4602678819172646912) 4618760256179416344))) := by
    unfold Hid sinF lowB fold2 half64 quarter64 twopi64; rw [Hf.out, hb]; simp only [if_true, if_false, Bool.false_eq_true, hq]
  go_enter Try.func19, Try.ntmps19
  go_wp2_with (first | (first | (refine wpList_fop rfl _ _ _ _ _ rfl _ _ _ rfl rfl (by decide) _ ?_; intro _ _) | (refine upon_fop _ _ _ _ _ (by decide) ?_; intro _ _)) | (go_at_call 18; refine (c_partOfTurn _ _ _ Hti.out).mono ?_; rw [Hf.out]; rintro _ _ ⟨_, _, rfl, rfl⟩) | go_in)
  generalize hu : fop .mul .f64 (fop .mul .f64 (fop .sub .f64 f 4602678819172646912) 4618760256179416344) (fop .mul .f64 (fop .sub .f64 f 4602678819172646912) 4618760256179416344) = u
  have Hu := Lib.hid hu
  clear hu
  go_loopw [7, 8] (fun p k wr => ∃ i n m : Nat, i ≤ 8 ∧ p = .float .f64 (pick .f64 (ser u i) n) ∧ k = .float .f64 (kfl i) ∧ wr = w.drewN m) (fun _ k _ => fbits k)
  case atStart => exact ⟨0, 0, _, by omega, by rw [pick_not (show isN .f64 (ser u 0) = false from (by decide +kernel : isN .f64 one64 = false))]; rfl, rfl, rfl⟩
  case round =>
    obtain ⟨i, n, m, hi, rfl, rfl, rfl⟩ := hrel
    by_cases hlt : i < 8
    · have ht := kfl_test i hlt
      unfold one64 at ht
      have HD := Lib.hid (kfl_den i hlt)
      have HN := Lib.hid (kfl_next i hlt)
      have HL := Lib.hid (kfl_lt i hlt)
      go_wp2_with (first | (refine wpList_fop rfl _ _ _ _ _ rfl _ _ _ rfl rfl (by decide) _ ?_; intro _ _) | (refine upon_fop _ _ _ _ _ (by decide) ?_; intro _ _))
      go_roundw
      case rel => exact ⟨i + 1, _, _, by omega, by rw [ser_step, ← HD.out]; rfl, by have e := HN.out; unfold one64 at e; rw [e, pick_not (kfl_notN _)], rfl⟩
      case measure => have e := HN.out; unfold one64 at e; rw [e, pick_not (kfl_notN _)]; exact HL.out
    · obtain rfl : i = 8 := by omega
      have ht := kfl_end
      unfold one64 at ht
      go_wp2_with (first | (refine wpList_fop rfl _ _ _ _ _ rfl _ _ _ rfl rfl (by decide) _ ?_; intro _ _) | (refine upon_fop _ _ _ _ _ (by decide) ?_; intro _ _))
      go_ret
      rw [HF.out]
      unfold sinZ
      rw [Hu.out]
      exact ⟨_, _, rfl, rfl⟩
theorem c_sineOf_tt (v f : Nat) (w : World) (j : Nat) (Hti : Hid (floatToIntVal .f64 v .i64 = some (ti v))) (Hf : Hid (partF v = f))
    (hb : (FloatKind.f64.format.order f 4602678819172646912 == some .gt || FloatKind.f64.format.order f 4602678819172646912 == some .eq) = true)
    (hq : (FloatKind.f64.format.order (fop .sub .f64 f 4602678819172646912) 4598175219545276416 == some .gt) = true) : Calls Try.prog 19 #[.float .f64 v] (w.drewN j) (RetF .f64 (sinF v) w) := by
  have HF : Hid (sinF v = fneg .f64 (sinZ (fop .mul .f64 (fop .sub .f64 4602678819172646912 (fop .sub .f64 f 4602678819172646912)) 4618760256179416344))) := by
    unfold Hid sinF lowB fold2 half64 quarter64 twopi64; rw [Hf.out, hb]; simp only [if_true, if_false, Bool.false_eq_true, hq]
  go_enter Try.func19, Try.ntmps19
  go_wp2_with (first | (first | (refine wpList_fop rfl _ _ _ _ _ rfl _ _ _ rfl rfl (by decide) _ ?_; intro _ _) | (refine upon_fop _ _ _ _ _ (by decide) ?_; intro _ _)) | (go_at_call 18; refine (c_partOfTurn _ _ _ Hti.out).mono ?_; rw [Hf.out]; rintro _ _ ⟨_, _, rfl, rfl⟩) | go_in)
  generalize hu : fop .mul .f64 (fop .mul .f64 (fop .sub .f64 4602678819172646912 (fop .sub .f64 f 4602678819172646912)) 4618760256179416344) (fop .mul .f64 (fop .sub .f64 4602678819172646912 (fop .sub .f64 f 4602678819172646912)) 4618760256179416344) = u
  have Hu := Lib.hid hu
  clear hu
  go_loopw [7, 8] (fun p k wr => ∃ i n m : Nat, i ≤ 8 ∧ p = .float .f64 (pick .f64 (ser u i) n) ∧ k = .float .f64 (kfl i) ∧ wr = w.drewN m) (fun _ k _ => fbits k)
  case atStart => exact ⟨0, 0, _, by omega, by rw [pick_not (show isN .f64 (ser u 0) = false from (by decide +kernel : isN .f64 one64 = false))]; rfl, rfl, rfl⟩
  case round =>
    obtain ⟨i, n, m, hi, rfl, rfl, rfl⟩ := hrel
    by_cases hlt : i < 8
    · have ht := kfl_test i hlt
      unfold one64 at ht
      have HD := Lib.hid (kfl_den i hlt)
      have HN := Lib.hid (kfl_next i hlt)
      have HL := Lib.hid (kfl_lt i hlt)
      go_wp2_with (first | (refine wpList_fop rfl _ _ _ _ _ rfl _ _ _ rfl rfl (by decide) _ ?_; intro _ _) | (refine upon_fop _ _ _ _ _ (by decide) ?_; intro _ _))
      go_roundw
      case rel => exact ⟨i + 1, _, _, by omega, by rw [ser_step, ← HD.out]; rfl, by have e := HN.out; unfold one64 at e; rw [e, pick_not (kfl_notN _)], rfl⟩
      case measure => have e := HN.out; unfold one64 at e; rw [e, pick_not (kfl_notN _)]; exact HL.out
    · obtain rfl : i = 8 := by omega
      have ht := kfl_end
      unfold one64 at ht
      go_wp2_with (first | (refine wpList_fop rfl _ _ _ _ _ rfl _ _ _ rfl rfl (by decide) _ ?_; intro _ _) | (refine upon_fop _ _ _ _ _ (by decide) ?_; intro _ _))
      go_ret
      rw [HF.out]
      unfold sinZ
      rw [Hu.out]
      exact ⟨_, _, rfl, rfl⟩
/-! ### sineAll -/
theorem c_sineOf (v : Nat) (w : World) (j : Nat) (hti : floatToIntVal .f64 v .i64 = some (ti v)) : Calls Try.prog 19 #[.float .f64 v] (w.drewN j) (RetF .f64 (sinF v) w) := by
  cases hb : (FloatKind.f64.format.order (partF v) 4602678819172646912 == some .gt || FloatKind.f64.format.order (partF v) 4602678819172646912 == some .eq)
  · cases hq : (FloatKind.f64.format.order (partF v) 4598175219545276416 == some .gt)
    · exact c_sineOf_ff v _ w j hti rfl hb hq
    · exact c_sineOf_ft v _ w j hti rfl hb hq
  · cases hq : (FloatKind.f64.format.order (fop .sub .f64 (partF v) 4602678819172646912) 4598175219545276416 == some .gt)
    · exact c_sineOf_tf v _ w j hti rfl hb hq
    · exact c_sineOf_tt v _ w j hti rfl hb hq

/-! ### IsNaN -/
theorem c_IsNaN (v n : Nat) (w : World) (j : Nat) : Calls Try.prog 32 #[.float .f64 (pick .f64 v n)] (w.drewN j) (RetV (.bool (isN .f64 v)) w) := by
  go_enter Try.func32, Try.ntmps32
  go_wp2
  go_ret
  exact ⟨_, rfl, rfl⟩
/-! ### f64bits -/
@[go_sem] theorem e_f64bits (b : Nat) (w : World) : (callFunc 36 #[.float .f64 b]).run Try.prog w = .ok (.value (.int .u64 b)) w := by kernel_rfl
/-! ### f64from -/
@[go_sem] theorem e_f64from (n : Int) (w : World) : (callFunc 35 #[.int .u64 n]).run Try.prog w = .ok (.value (.float .f64 n.toNat)) w := by kernel_rfl
/-! ### Abs -/
theorem c_Abs (v n : Nat) (w : World) (j : Nat) (hv : v < 2 ^ FloatKind.f64.format.width) : Calls Try.prog 17 #[.float .f64 (pick .f64 v n)] (w.drewN j) (RetF .f64 (fabs .f64 v) w) := by
  have hb := abs_bits hv n
  go_enter Try.func17, Try.ntmps17
  go_wp2
  go_ret
  exact ⟨_, _, rfl, rfl⟩
/-! ### IsInf0 -/
theorem c_IsInf0 (v n : Nat) (w : World) (j : Nat) (hv : v < 2 ^ FloatKind.f64.format.width) : Calls Try.prog 33 #[.float .f64 (pick .f64 v n), .int .i64 0] (w.drewN j) (RetV (.bool (FloatKind.f64.format.order (fabs .f64 v) 9218868437227405311 == some .gt)) w) := by
  go_enter Try.func33, Try.ntmps33
  go_wp2_with ((go_at_call 17; refine (c_Abs _ _ _ _ hv).mono ?_; rintro _ _ ⟨_, _, rfl, rfl⟩))
  go_ret
  exact ⟨_, rfl, rfl⟩
/-! ### isFinite64 -/
theorem c_isFinite64 (v n : Nat) (w : World) (j : Nat) (hv : v < 2 ^ FloatKind.f64.format.width) : Calls Try.prog 15 #[.float .f64 (pick .f64 v n)] (w.drewN j) (RetV (.bool (finB .f64 v)) w) := by
  go_enter Try.func15, Try.ntmps15
  go_wp2_with (first | (go_at_call 32; refine (c_IsNaN _ _ _ _).mono ?_; rintro _ _ ⟨_, rfl, rfl⟩) | (go_at_call 33; refine (c_IsInf0 _ _ _ _ hv).mono ?_; rintro _ _ ⟨_, rfl, rfl⟩))
  all_goals
    go_ret
    refine ⟨_, ?_, rfl⟩
    rw [← abs_gt_max]
    simp [*]
/-! ### f32from -/
@[go_sem] theorem e_f32from (n : Int) (w : World) : (callFunc 34 #[.int .u32 n]).run Try.prog w = .ok (.value (.float .f32 n.toNat)) w := by kernel_rfl
/-! ### notANumber -/
theorem c_notANumber (w : World) (j : Nat) : Calls Try.prog 16 #[] (w.drewN j) (RetV (.float .f32 2143289344) w) := by
  go_enter Try.func16, Try.ntmps16
  go_wp2
  go_ret
  exact ⟨_, rfl, rfl⟩
/-! ### iPhasor -/
theorem c_iPhasor_ok (v n0 N : Nat) (w : World) (j : Nat) (hv : v < 2 ^ FloatKind.f64.format.width) (hf : finB .f64 v = true)
    (hb : (FloatKind.f64.format.order (fabs .f64 v) 4841369599423283200 == some .gt || FloatKind.f64.format.order (fabs .f64 v) 4841369599423283200 == some .eq) = false)
    (Hti : Hid (floatToIntVal .f64 v .i64 = some (ti v))) (Hn : Hid (isN .f64 v = false)) (hN : N ≤ 8) (H1 : Hid (∀ i, i < N → ge25 (qs (partF v) i) = true)) (H2 : Hid (ge25 (qs (partF v) N) = false)) (H3 : Hid (∀ i, i ≤ N → Fb 1075 (qs (partF v) i))) :
    Calls Try.prog 7 #[.float .f64 (pick .f64 v n0)] (w.drewN j) (RetC .f32 (phRe (qs (partF v) N) N) (phIm (qs (partF v) N) N) w) := by
  go_enter Try.func7, Try.ntmps7
  go_wp2_with (first | (first | (refine wpList_fop rfl _ _ _ _ _ rfl _ _ _ rfl rfl (by decide) _ ?_; intro _ _) | (refine upon_fop _ _ _ _ _ (by decide) ?_; intro _ _)) | (go_at_call 15; refine (c_isFinite64 _ _ _ _ hv).mono ?_; rintro _ _ ⟨_, rfl, rfl⟩) | (go_at_call 17; refine (c_Abs _ _ _ _ hv).mono ?_; rintro _ _ ⟨_, _, rfl, rfl⟩) | (go_at_call 18; rw [pick_not Hn.out]; refine (c_partOfTurn _ _ _ Hti.out).mono ?_; rintro _ _ ⟨_, _, rfl, rfl⟩) | go_in)
  generalize partF v = f0 at *
  go_loopw [3, 4] (fun p k wr => ∃ i m : Nat, i ≤ N ∧ p = .float .f64 (qs f0 i) ∧ k = .int .i64 i ∧ wr = w.drewN m) (fun _ k _ => N - inat k)
  case atStart => exact ⟨0, _, Nat.zero_le _, congrArg (Value.float .f64) (pick_not (H3.out 0 (Nat.zero_le _)).notN _), rfl, rfl⟩
  case round =>
    obtain ⟨i, m, hi, rfl, rfl, rfl⟩ := hrel
    by_cases hlt : i < N
    · have ht := H1.out i hlt
      unfold ge25 at ht
      have HN := Lib.hid (H3.out (i + 1) hlt).notN
      go_wp2_with (first | (refine wpList_fop rfl _ _ _ _ _ rfl _ _ _ rfl rfl (by decide) _ ?_; intro _ _) | (refine upon_fop _ _ _ _ _ (by decide) ?_; intro _ _))
      go_roundw
      case rel => exact ⟨i + 1, _, by omega, by rw [pick_not (by rw [← qs_succ]; exact HN.out)]; rfl, by go_num, rfl⟩
      case measure => simp [inat]; omega
    · obtain rfl : i = N := by omega
      have ht := H2.out
      unfold ge25 at ht
      have HO := Lib.hid (phOk (H3.out i (Nat.le_refl _)))
      clear H1 H2 H3
      generalize qs f0 i = g at *
      rcases (by omega : i = 0 ∨ i = 1 ∨ i = 2 ∨ i = 3 ∨ i = 4 ∨ i = 5 ∨ i = 6 ∨ i = 7 ∨ i = 8) with rfl | rfl | rfl | rfl | rfl | rfl | rfl | rfl | rfl
      all_goals
        go_wp2_with (first | (first | (refine wpList_fop rfl _ _ _ _ _ rfl _ _ _ rfl rfl (by decide) _ ?_; intro _ _) | (refine upon_fop _ _ _ _ _ (by decide) ?_; intro _ _)) | (go_at_call 19; first | (rw [pick_not HO.out.b.nn]; refine (c_sineOf _ _ _ HO.out.b.ti).mono ?_; rintro _ _ ⟨_, _, rfl, rfl⟩) | (refine (c_sineOf _ _ _ HO.out.a.ti).mono ?_; rintro _ _ ⟨_, _, rfl, rfl⟩)) | (go_at_call 20; refine (c_NarrowComplex _ _ _ _ _ _ ?ha ?hb).mono ?_; (case ha => first | with_reducible exact HO.out.fS | with_reducible exact HO.out.fC | with_reducible exact HO.out.fS0 | with_reducible exact HO.out.fC0); (case hb => first | with_reducible exact HO.out.fS | with_reducible exact HO.out.fC | with_reducible exact HO.out.fS0 | with_reducible exact HO.out.fC0); rintro _ _ ⟨_, _, _, rfl, rfl⟩))
        go_ret
        exact ⟨_, _, _, rfl, rfl⟩
/-! ### l01SineWide -/
theorem c_l01SineWide_fff (v f : Nat) (w : World) (j : Nat) (Hti : Hid (floatToIntVal .f64 v .i64 = some (ti v))) (Hf : Hid (partF v = f))
    (hs : (FloatKind.f64.format.order (fop .sub .f64 v v) 0 != some .eq) = false)
    (h1 : (FloatKind.f64.format.order v 4841369599423283200 == some .gt || FloatKind.f64.format.order v 4841369599423283200 == some .eq) = false)
    (h2 : (FloatKind.f64.format.order v 14064741636278059008 == some .lt || FloatKind.f64.format.order v 14064741636278059008 == some .eq) = false)
    {j2 : Nat} (hnan : isN .f64 v = false) (hf : fop .sub .f64 v (floatOfInt .f64 (ti v)) = f) (hlt : (FloatKind.f64.format.order f 0 == some .lt) = false)
    (hb : (FloatKind.f64.format.order f 4602678819172646912 == some .gt || FloatKind.f64.format.order f 4602678819172646912 == some .eq) = false)
    (hq : (FloatKind.f64.format.order f 4598175219545276416 == some .gt) = false) : Calls Try.prog 30 #[.float .f64 (pick .f64 v j2)] (w.drewN j) (RetF .f64 (sinF v) w) := by
  have HF : Hid (sinF v = (sinZ (fop .mul .f64 f 4618760256179416344))) := by
    unfold Hid sinF lowB fold2 half64 quarter64 twopi64; rw [Hf.out, hb]; simp only [if_true, if_false, Bool.false_eq_true, hq]
  rw [pick_not hnan]
  go_enter Try.func30, Try.ntmps30
  go_wp2_with (first | (first | (refine wpList_fop rfl _ _ _ _ _ rfl _ _ _ rfl rfl (by decide) _ ?_; intro _ _) | (refine upon_fop _ _ _ _ _ (by decide) ?_; intro _ _)) | (refine wpList_ftoi rfl 22 2 _ rfl (Option.isSome_iff_exists.2 ⟨_, Try.underlying22⟩) .i64 Try.underlying2 _ _ rfl (by exact Hti.out) ?_) | go_in)
  generalize hu : fop .mul .f64 (fop .mul .f64 f 4618760256179416344) (fop .mul .f64 f 4618760256179416344) = u
  have Hu := Lib.hid hu
  clear hu
  go_loopw [7, 8] (fun p k wr => ∃ (i n m : Nat) (kI : Int), i ≤ 8 ∧ Hid (kI = 8 - (i : Int)) ∧ p = .float .f64 (pick .f64 (ser u i) n) ∧ k = .int .i64 kI ∧ wr = w.drewN m) (fun _ k _ => (intOf k).toNat)
  case atStart => exact ⟨0, 0, _, 8, by omega, rfl, by rw [pick_not (show isN .f64 (ser u 0) = false from (by decide +kernel : isN .f64 one64 = false))]; rfl, rfl, rfl⟩
  case round =>
    obtain ⟨i, n, m, kI, hi, HK, rfl, rfl, rfl⟩ := hrel
    by_cases hlt8 : i < 8
    · have b1 : 1 ≤ kI := by have := HK.out; omega
      have b2 : kI ≤ 8 := by have := HK.out; omega
      have b3 : 0 ≤ 2 * kI * (2 * kI + 1) := Int.mul_nonneg (by omega) (by omega)
      have b4 : 2 * kI * (2 * kI + 1) ≤ 272 := Int.le_trans (Int.mul_le_mul (show 2 * kI ≤ 16 by omega) (show 2 * kI + 1 ≤ 17 by omega) (by omega) (by omega)) (by decide)
      have HD : Hid (den i = floatOfInt .f64 (2 * kI * (2 * kI + 1))) := by unfold Hid; rw [HK.out]; exact den_int i hlt8
      go_wp2_with (first | (refine wpList_fop rfl _ _ _ _ _ rfl _ _ _ rfl rfl (by decide) _ ?_; intro _ _) | (refine upon_fop _ _ _ _ _ (by decide) ?_; intro _ _))
      go_roundw
      case rel => exact ⟨i + 1, _, _, kI - 1, by omega, by have := HK.out; unfold Hid; omega, by rw [ser_step, HD.out]; rfl, rfl, rfl⟩
      case measure => simp [intOf]; omega
    · obtain rfl : i = 8 := by omega
      have b1 : kI < 1 := by have := HK.out; omega
      have b2 : 0 ≤ kI := by have := HK.out; omega
      go_wp2_with (first | (refine wpList_fop rfl _ _ _ _ _ rfl _ _ _ rfl rfl (by decide) _ ?_; intro _ _) | (refine upon_fop _ _ _ _ _ (by decide) ?_; intro _ _))
      go_ret
      rw [HF.out]
      unfold sinZ
      rw [Hu.out]
      exact ⟨_, _, rfl, rfl⟩
theorem c_l01SineWide_fft (v f : Nat) (w : World) (j : Nat) (Hti : Hid (floatToIntVal .f64 v .i64 = some (ti v))) (Hf : Hid (partF v = f))
    (hs : (FloatKind.f64.format.order (fop .sub .f64 v v) 0 != some .eq) = false)
    (h1 : (FloatKind.f64.format.order v 4841369599423283200 == some .gt || FloatKind.f64.format.order v 4841369599423283200 == some .eq) = false)
    (h2 : (FloatKind.f64.format.order v 14064741636278059008 == some .lt || FloatKind.f64.format.order v 14064741636278059008 == some .eq) = false)
    {j2 : Nat} (hnan : isN .f64 v = false) (hf : fop .sub .f64 v (floatOfInt .f64 (ti v)) = f) (hlt : (FloatKind.f64.format.order f 0 == some .lt) = false)
    (hb : (FloatKind.f64.format.order f 4602678819172646912 == some .gt || FloatKind.f64.format.order f 4602678819172646912 == some .eq) = false)
    (hq : (FloatKind.f64.format.order f 4598175219545276416 == some .gt) = true) : Calls Try.prog 30 #[.float .f64 (pick .f64 v j2)] (w.drewN j) (RetF .f64 (sinF v) w) := by
  have HF : Hid (sinF v = (sinZ (fop .mul .f64 (fop .sub .f64 4602678819172646912 f) 4618760256179416344))) := by
    unfold Hid sinF lowB fold2 half64 quarter64 twopi64; rw [Hf.out, hb]; simp only [if_true, if_false, Bool.false_eq_true, hq]
  rw [pick_not hnan]
  go_enter Try.func30, Try.ntmps30
  go_wp2_with (first | (first | (refine wpList_fop rfl _ _ _ _ _ rfl _ _ _ rfl rfl (by decide) _ ?_; intro _ _) | (refine upon_fop _ _ _ _ _ (by decide) ?_; intro _ _)) | (refine wpList_ftoi rfl 22 2 _ rfl (Option.isSome_iff_exists.2 ⟨_, Try.underlying22⟩) .i64 Try.underlying2 _ _ rfl (by exact Hti.out) ?_) | go_in)
  generalize hu : fop .mul .f64 (fop .mul .f64 (fop .sub .f64 4602678819172646912 f) 4618760256179416344) (fop .mul .f64 (fop .sub .f64 4602678819172646912 f) 4618760256179416344) = u
  have Hu := Lib.hid hu
  clear hu
  go_loopw [7, 8] (fun p k wr => ∃ (i n m : Nat) (kI : Int), i ≤ 8 ∧ Hid (kI = 8 - (i : Int)) ∧ p = .float .f64 (pick .f64 (ser u i) n) ∧ k = .int .i64 kI ∧ wr = w.drewN m) (fun _ k _ => (intOf k).toNat)
  case atStart => exact ⟨0, 0, _, 8, by omega, rfl, by rw [pick_not (show isN .f64 (ser u 0) = false from (by decide +kernel : isN .f64 one64 = false))]; rfl, rfl, rfl⟩
  case round =>
    obtain ⟨i, n, m, kI, hi, HK, rfl, rfl, rfl⟩ := hrel
    by_cases hlt8 : i < 8
    · have b1 : 1 ≤ kI := by have := HK.out; omega
      have b2 : kI ≤ 8 := by have := HK.out; omega
      have b3 : 0 ≤ 2 * kI * (2 * kI + 1) := Int.mul_nonneg (by omega) (by omega)
      have b4 : 2 * kI * (2 * kI + 1) ≤ 272 := Int.le_trans (Int.mul_le_mul (show 2 * kI ≤ 16 by omega) (show 2 * kI + 1 ≤ 17 by omega) (by omega) (by omega)) (by decide)
      have HD : Hid (den i = floatOfInt .f64 (2 * kI * (2 * kI + 1))) := by unfold Hid; rw [HK.out]; exact den_int i hlt8
      go_wp2_with (first | (refine wpList_fop rfl _ _ _ _ _ rfl _ _ _ rfl rfl (by decide) _ ?_; intro _ _) | (refine upon_fop _ _ _ _ _ (by decide) ?_; intro _ _))
      go_roundw
      case rel => exact ⟨i + 1, _, _, kI - 1, by omega, by have := HK.out; unfold Hid; omega, by rw [ser_step, HD.out]; rfl, rfl, rfl⟩
      case measure => simp [intOf]; omega
    · obtain rfl : i = 8 := by omega
      have b1 : kI < 1 := by have := HK.out; omega
      have b2 : 0 ≤ kI := by have := HK.out; omega
      go_wp2_with (first | (refine wpList_fop rfl _ _ _ _ _ rfl _ _ _ rfl rfl (by decide) _ ?_; intro _ _) | (refine upon_fop _ _ _ _ _ (by decide) ?_; intro _ _))
      go_ret
      rw [HF.out]
      unfold sinZ
      rw [Hu.out]
      exact ⟨_, _, rfl, rfl⟩
theorem c_l01SineWide_ftf (v f : Nat) (w : World) (j : Nat) (Hti : Hid (floatToIntVal .f64 v .i64 = some (ti v))) (Hf : Hid (partF v = f))
    (hs : (FloatKind.f64.format.order (fop .sub .f64 v v) 0 != some .eq) = false)
    (h1 : (FloatKind.f64.format.order v 4841369599423283200 == some .gt || FloatKind.f64.format.order v 4841369599423283200 == some .eq) = false)
    (h2 : (FloatKind.f64.format.order v 14064741636278059008 == some .lt || FloatKind.f64.format.order v 14064741636278059008 == some .eq) = false)
    {j2 : Nat} (hnan : isN .f64 v = false) (hf : fop .sub .f64 v (floatOfInt .f64 (ti v)) = f) (hlt : (FloatKind.f64.format.order f 0 == some .lt) = false)
    (hb : (FloatKind.f64.format.order f 4602678819172646912 == some .gt || FloatKind.f64.format.order f 4602678819172646912 == some .eq) = true)
    (hq : (FloatKind.f64.format.order (fop .sub .f64 f 4602678819172646912) 4598175219545276416 == some .gt) = false) : Calls Try.prog 30 #[.float .f64 (pick .f64 v j2)] (w.drewN j) (RetF .f64 (sinF v) w) := by
  have HF : Hid (sinF v = fneg .f64 (sinZ (fop .mul .f64 (fop .sub .f64 f 4602678819172646912) 4618760256179416344))) := by
    unfold Hid sinF lowB fold2 half64 quarter64 twopi64; rw [Hf.out, hb]; simp only [if_true, if_false, Bool.false_eq_true, hq]
  rw [pick_not hnan]
  go_enter Try.func30, Try.ntmps30
  go_wp2_with (first | (first | (refine wpList_fop rfl _ _ _ _ _ rfl _ _ _ rfl rfl (by decide) _ ?_; intro _ _) | (refine upon_fop _ _ _ _ _ (by decide) ?_; intro _ _)) | (refine wpList_ftoi rfl 22 2 _ rfl (Option.isSome_iff_exists.2 ⟨_, Try.underlying22⟩) .i64 Try.underlying2 _ _ rfl (by exact Hti.out) ?_) | go_in)
  generalize hu : fop .mul .f64 (fop .mul .f64 (fop .sub .f64 f 4602678819172646912) 4618760256179416344) (fop .mul .f64 (fop .sub .f64 f 4602678819172646912) 4618760256179416344) = u
  have Hu := Lib.hid hu
  clear hu
  go_loopw [7, 8] (fun p k wr => ∃ (i n m : Nat) (kI : Int), i ≤ 8 ∧ Hid (kI = 8 - (i : Int)) ∧ p = .float .f64 (pick .f64 (ser u i) n) ∧ k = .int .i64 kI ∧ wr = w.drewN m) (fun _ k _ => (intOf k).toNat)
  case atStart => exact ⟨0, 0, _, 8, by omega, rfl, by rw [pick_not (show isN .f64 (ser u 0) = false from (by decide +kernel : isN .f64 one64 = false))]; rfl, rfl, rfl⟩
  case round =>
    obtain ⟨i, n, m, kI, hi, HK, rfl, rfl, rfl⟩ := hrel
    by_cases hlt8 : i < 8
    · have b1 : 1 ≤ kI := by have := HK.out; omega
      have b2 : kI ≤ 8 := by have := HK.out; omega
      have b3 : 0 ≤ 2 * kI * (2 * kI + 1) := Int.mul_nonneg (by omega) (by omega)
      have b4 : 2 * kI * (2 * kI + 1) ≤ 272 := Int.le_trans (Int.mul_le_mul (show 2 * kI ≤ 16 by omega) (show 2 * kI + 1 ≤ 17 by omega) (by omega) (by omega)) (by decide)
      have HD : Hid (den i = floatOfInt .f64 (2 * kI * (2 * kI + 1))) := by unfold Hid; rw [HK.out]; exact den_int i hlt8
      go_wp2_with (first | (refine wpList_fop rfl _ _ _ _ _ rfl _ _ _ rfl rfl (by decide) _ ?_; intro _ _) | (refine upon_fop _ _ _ _ _ (by decide) ?_; intro _ _))
      go_roundw
      case rel => exact ⟨i + 1, _, _, kI - 1, by omega, by have := HK.out; unfold Hid; omega, by rw [ser_step, HD.out]; rfl, rfl, rfl⟩
      case measure => simp [intOf]; omega
    · obtain rfl : i = 8 := by omega
      have b1 : kI < 1 := by have := HK.out; omega
      have b2 : 0 ≤ kI := by have := HK.out; omega
      go_wp2_with (first | (refine wpList_fop rfl _ _ _ _ _ rfl _ _ _ rfl rfl (by decide) _ ?_; intro _ _) | (refine upon_fop _ _ _ _ _ (by decide) ?_; intro _ _))
      go_ret
      rw [HF.out]
      unfold sinZ
      rw [Hu.out]
      exact ⟨_, _, rfl, rfl⟩
theorem c_l01SineWide_ftt (v f : Nat) (w : World) (j : Nat) (Hti : Hid (floatToIntVal .f64 v .i64 = some (ti v))) (Hf : Hid (partF v = f))
    (hs : (FloatKind.f64.format.order (fop .sub .f64 v v) 0 != some .eq) = false)
    (h1 : (FloatKind.f64.format.order v 4841369599423283200 == some .gt || FloatKind.f64.format.order v 4841369599423283200 == some .eq) = false)
    (h2 : (FloatKind.f64.format.order v 14064741636278059008 == some .lt || FloatKind.f64.format.order v 14064741636278059008 == some .eq) = false)
    {j2 : Nat} (hnan : isN .f64 v = false) (hf : fop .sub .f64 v (floatOfInt .f64 (ti v)) = f) (hlt : (FloatKind.f64.format.order f 0 == some .lt) = false)
    (hb : (FloatKind.f64.format.order f 4602678819172646912 == some .gt || FloatKind.f64.format.order f 4602678819172646912 == some .eq) = true)
    (hq : (FloatKind.f64.format.order (fop .sub .f64 f 4602678819172646912) 4598175219545276416 == some .gt) = true) : Calls Try.prog 30 #[.float .f64 (pick .f64 v j2)] (w.drewN j) (RetF .f64 (sinF v) w) := by
  have HF : Hid (sinF v = fneg .f64 (sinZ (fop .mul .f64 (fop .sub .f64 4602678819172646912 (fop .sub .f64 f 4602678819172646912)) 4618760256179416344))) := by
    unfold Hid sinF lowB fold2 half64 quarter64 twopi64; rw [Hf.out, hb]; simp only [if_true, if_false, Bool.false_eq_true, hq]
  rw [pick_not hnan]
  go_enter Try.func30, Try.ntmps30
  go_wp2_with (first | (first | (refine wpList_fop rfl _ _ _ _ _ rfl _ _ _ rfl rfl (by decide) _ ?_; intro _ _) | (refine upon_fop _ _ _ _ _ (by decide) ?_; intro _ _)) | (refine wpList_ftoi rfl 22 2 _ rfl (Option.isSome_iff_exists.2 ⟨_, Try.underlying22⟩) .i64 Try.underlying2 _ _ rfl (by exact Hti.out) ?_) | go_in)
  generalize hu : fop .mul .f64 (fop .mul .f64 (fop .sub .f64 4602678819172646912 (fop .sub .f64 f 4602678819172646912)) 4618760256179416344) (fop .mul .f64 (fop .sub .f64 4602678819172646912 (fop .sub .f64 f 4602678819172646912)) 4618760256179416344) = u
  have Hu := Lib.hid hu
  clear hu
  go_loopw [7, 8] (fun p k wr => ∃ (i n m : Nat) (kI : Int), i ≤ 8 ∧ Hid (kI = 8 - (i : Int)) ∧ p = .float .f64 (pick .f64 (ser u i) n) ∧ k = .int .i64 kI ∧ wr = w.drewN m) (fun _ k _ => (intOf k).toNat)
  case atStart => exact ⟨0, 0, _, 8, by omega, rfl, by rw [pick_not (show isN .f64 (ser u 0) = false from (by decide +kernel : isN .f64 one64 = false))]; rfl, rfl, rfl⟩
  case round =>
    obtain ⟨i, n, m, kI, hi, HK, rfl, rfl, rfl⟩ := hrel
    by_cases hlt8 : i < 8
    · have b1 : 1 ≤ kI := by have := HK.out; omega
      have b2 : kI ≤ 8 := by have := HK.out; omega
      have b3 : 0 ≤ 2 * kI * (2 * kI + 1) := Int.mul_nonneg (by omega) (by omega)
      have b4 : 2 * kI * (2 * kI + 1) ≤ 272 := Int.le_trans (Int.mul_le_mul (show 2 * kI ≤ 16 by omega) (show 2 * kI + 1 ≤ 17 by omega) (by omega) (by omega)) (by decide)
      have HD : Hid (den i = floatOfInt .f64 (2 * kI * (2 * kI + 1))) := by unfold Hid; rw [HK.out]; exact den_int i hlt8
      go_wp2_with (first | (refine wpList_fop rfl _ _ _ _ _ rfl _ _ _ rfl rfl (by decide) _ ?_; intro _ _) | (refine upon_fop _ _ _ _ _ (by decide) ?_; intro _ _))
      go_roundw
      case rel => exact ⟨i + 1, _, _, kI - 1, by omega, by have := HK.out; unfold Hid; omega, by rw [ser_step, HD.out]; rfl, rfl, rfl⟩
      case measure => simp [intOf]; omega
    · obtain rfl : i = 8 := by omega
      have b1 : kI < 1 := by have := HK.out; omega
      have b2 : 0 ≤ kI := by have := HK.out; omega
      go_wp2_with (first | (refine wpList_fop rfl _ _ _ _ _ rfl _ _ _ rfl rfl (by decide) _ ?_; intro _ _) | (refine upon_fop _ _ _ _ _ (by decide) ?_; intro _ _))
      go_ret
      rw [HF.out]
      unfold sinZ
      rw [Hu.out]
      exact ⟨_, _, rfl, rfl⟩
theorem c_l01SineWide_tff (v f : Nat) (w : World) (j : Nat) (Hti : Hid (floatToIntVal .f64 v .i64 = some (ti v))) (Hf : Hid (partF v = f))
    (hs : (FloatKind.f64.format.order (fop .sub .f64 v v) 0 != some .eq) = false)
    (h1 : (FloatKind.f64.format.order v 4841369599423283200 == some .gt || FloatKind.f64.format.order v 4841369599423283200 == some .eq) = false)
    (h2 : (FloatKind.f64.format.order v 14064741636278059008 == some .lt || FloatKind.f64.format.order v 14064741636278059008 == some .eq) = false)
    {j2 : Nat} (hnan : isN .f64 v = false) (hf : fop .add .f64 (fop .sub .f64 v (floatOfInt .f64 (ti v))) 4607182418800017408 = f) (hlt : (FloatKind.f64.format.order (fop .sub .f64 v (floatOfInt .f64 (ti v))) 0 == some .lt) = true)
    (hb : (FloatKind.f64.format.order f 4602678819172646912 == some .gt || FloatKind.f64.format.order f 4602678819172646912 == some .eq) = false)
    (hq : (FloatKind.f64.format.order f 4598175219545276416 == some .gt) = false) : Calls Try.prog 30 #[.float .f64 (pick .f64 v j2)] (w.drewN j) (RetF .f64 (sinF v) w) := by
  have HF : Hid (sinF v = (sinZ (fop .mul .f64 f 4618760256179416344))) := by
    unfold Hid sinF lowB fold2 half64 quarter64 twopi64; rw [Hf.out, hb]; simp only [if_true, if_false, Bool.false_eq_true, hq]
  rw [pick_not hnan]
  go_enter Try.func30, Try.ntmps30
  go_wp2_with (first | (first | (refine wpList_fop rfl _ _ _ _ _ rfl _ _ _ rfl rfl (by decide) _ ?_; intro _ _) | (refine upon_fop _ _ _ _ _ (by decide) ?_; intro _ _)) | (refine wpList_ftoi rfl 22 2 _ rfl (Option.isSome_iff_exists.2 ⟨_, Try.underlying22⟩) .i64 Try.underlying2 _ _ rfl (by exact Hti.out) ?_) | go_in)
  generalize hu : fop .mul .f64 (fop .mul .f64 f 4618760256179416344) (fop .mul .f64 f 4618760256179416344) = u
  have Hu := Lib.hid hu
  clear hu
  go_loopw [7, 8] (fun p k wr => ∃ (i n m : Nat) (kI : Int), i ≤ 8 ∧ Hid (kI = 8 - (i : Int)) ∧ p = .float .f64 (pick .f64 (ser u i) n) ∧ k = .int .i64 kI ∧ wr = w.drewN m) (fun _ k _ => (intOf k).toNat)
  case atStart => exact ⟨0, 0, _, 8, by omega, rfl, by rw [pick_not (show isN .f64 (ser u 0) = false from (by decide +kernel : isN .f64 one64 = false))]; rfl, rfl, rfl⟩
  case round =>
    obtain ⟨i, n, m, kI, hi, HK, rfl, rfl, rfl⟩ := hrel
    by_cases hlt8 : i < 8
    · have b1 : 1 ≤ kI := by have := HK.out; omega
      have b2 : kI ≤ 8 := by have := HK.out; omega
      have b3 : 0 ≤ 2 * kI * (2 * kI + 1) := Int.mul_nonneg (by omega) (by omega)
      have b4 : 2 * kI * (2 * kI + 1) ≤ 272 := Int.le_trans (Int.mul_le_mul (show 2 * kI ≤ 16 by omega) (show 2 * kI + 1 ≤ 17 by omega) (by omega) (by omega)) (by decide)
      have HD : Hid (den i = floatOfInt .f64 (2 * kI * (2 * kI + 1))) := by unfold Hid; rw [HK.out]; exact den_int i hlt8
      go_wp2_with (first | (refine wpList_fop rfl _ _ _ _ _ rfl _ _ _ rfl rfl (by decide) _ ?_; intro _ _) | (refine upon_fop _ _ _ _ _ (by decide) ?_; intro _ _))
      go_roundw
      case rel => exact ⟨i + 1, _, _, kI - 1, by omega, by have := HK.out; unfold Hid; omega, by rw [ser_step, HD.out]; rfl, rfl, rfl⟩
      case measure => simp [intOf]; omega
    · obtain rfl : i = 8 := by omega
      have b1 : kI < 1 := by have := HK.out; omega
      have b2 : 0 ≤ kI := by have := HK.out; omega
      go_wp2_with (first | (refine wpList_fop rfl _ _ _ _ _ rfl _ _ _ rfl rfl (by decide) _ ?_; intro _ _) | (refine upon_fop _ _ _ _ _ (by decide) ?_; intro _ _))
      go_ret
      rw [HF.out]
      unfold sinZ
      rw [Hu.out]
      exact ⟨_, _, rfl, rfl⟩
theorem c_l01SineWide_tft (v f : Nat) (w : World) (j : Nat) (Hti : Hid (floatToIntVal .f64 v .i64 = some (ti v))) (Hf : Hid (partF v = f))
    (hs : (FloatKind.f64.format.order (fop .sub .f64 v v) 0 != some .eq) = false)
    (h1 : (FloatKind.f64.format.order v 4841369599423283200 == some .gt || FloatKind.f64.format.order v 4841369599423283200 == some .eq) = false)
    (h2 : (FloatKind.f64.format.order v 14064741636278059008 == some .lt || FloatKind.f64.format.order v 14064741636278059008 == some .eq) = false)
    {j2 : Nat} (hnan : isN .f64 v = false) (hf : fop .add .f64 (fop .sub .f64 v (floatOfInt .f64 (ti v))) 4607182418800017408 = f) (hlt : (FloatKind.f64.format.order (fop .sub .f64 v (floatOfInt .f64 (ti v))) 0 == some .lt) = true)
    (hb : (FloatKind.f64.format.order f 4602678819172646912 == some .gt || FloatKind.f64.format.order f 4602678819172646912 == some .eq) = false)
    (hq : (FloatKind.f64.format.order f 4598175219545276416 == some .gt) = true) : Calls Try.prog 30 #[.float .f64 (pick .f64 v j2)] (w.drewN j) (RetF .f64 (sinF v) w) := by
  have HF : Hid (sinF v = (sinZ (fop .mul .f64 (fop .sub .f64 4602678819172646912 f) 4618760256179416344))) := by
    unfold Hid sinF lowB fold2 half64 quarter64 twopi64; rw [Hf.out, hb]; simp only [if_true, if_false, Bool.false_eq_true, hq]
  rw [pick_not hnan]
  go_enter Try.func30, Try.ntmps30
  go_wp2_with (first | (first | (refine wpList_fop rfl _ _ _ _ _ rfl _ _ _ rfl rfl (by decide) _ ?_; intro _ _) | (refine upon_fop _ _ _ _ _ (by decide) ?_; intro _ _)) | (refine wpList_ftoi rfl 22 2 _ rfl (Option.isSome_iff_exists.2 ⟨_, Try.underlying22⟩) .i64 Try.underlying2 _ _ rfl (by exact Hti.out) ?_) | go_in)
  generalize hu : fop .mul .f64 (fop .mul .f64 (fop .sub .f64 4602678819172646912 f) 4618760256179416344) (fop .mul .f64 (fop .sub .f64 4602678819172646912 f) 4618760256179416344) = u
  have Hu := Lib.hid hu
  clear hu
  go_loopw [7, 8] (fun p k wr => ∃ (i n m : Nat) (kI : Int), i ≤ 8 ∧ Hid (kI = 8 - (i : Int)) ∧ p = .float .f64 (pick .f64 (ser u i) n) ∧ k = .int .i64 kI ∧ wr = w.drewN m) (fun _ k _ => (intOf k).toNat)
  case atStart => exact ⟨0, 0, _, 8, by omega, rfl, by rw [pick_not (show isN .f64 (ser u 0) = false from (by decide +kernel : isN .f64 one64 = false))]; rfl, rfl, rfl⟩
  case round =>
    obtain ⟨i, n, m, kI, hi, HK, rfl, rfl, rfl⟩ := hrel
    by_cases hlt8 : i < 8
    · have b1 : 1 ≤ kI := by have := HK.out; omega
      have b2 : kI ≤ 8 := by have := HK.out; omega
      have b3 : 0 ≤ 2 * kI * (2 * kI + 1) := Int.mul_nonneg (by omega) (by omega)
      have b4 : 2 * kI * (2 * kI + 1) ≤ 272 := Int.le_trans (Int.mul_le_mul (show 2 * kI ≤ 16 by omega) (show 2 * kI + 1 ≤ 17 by omega) (by omega) (by omega)) (by decide)
      have HD : Hid (den i = floatOfInt .f64 (2 * kI * (2 * kI + 1))) := by unfold Hid; rw [HK.out]; exact den_int i hlt8
      go_wp2_with (first | (refine wpList_fop rfl _ _ _ _ _ rfl _ _ _ rfl rfl (by decide) _ ?_; intro _ _) | (refine upon_fop _ _ _ _ _ (by decide) ?_; intro _ _))
      go_roundw
      case rel => exact ⟨i + 1, _, _, kI - 1, by omega, by have := HK.out; unfold Hid; omega, by rw [ser_step, HD.out]; rfl, rfl, rfl⟩
      case measure => simp [intOf]; omega
    · obtain rfl : i = 8 := by omega
      have b1 : kI < 1 := by have := HK.out; omega
      have b2 : 0 ≤ kI := by have := HK.out; omega
      go_wp2_with (first | (refine wpList_fop rfl _ _ _ _ _ rfl _ _ _ rfl rfl (by decide) _ ?_; intro _ _) | (refine upon_fop _ _ _ _ _ (by decide) ?_; intro _ _))
      go_ret
      rw [HF.out]
      unfold sinZ
      rw [Hu.out]
      exact ⟨_, _, rfl, rfl⟩
theorem c_l01SineWide_ttf (v f : Nat) (w : World) (j : Nat) (Hti : Hid (floatToIntVal .f64 v .i64 = some (ti v))) (Hf : Hid (partF v = f))
    (hs : (FloatKind.f64.format.order (fop .sub .f64 v v) 0 != some .eq) = false)
    (h1 : (FloatKind.f64.format.order v 4841369599423283200 == some .gt || FloatKind.f64.format.order v 4841369599423283200 == some .eq) = false)
    (h2 : (FloatKind.f64.format.order v 14064741636278059008 == some .lt || FloatKind.f64.format.order v 14064741636278059008 == some .eq) = false)
    {j2 : Nat} (hnan : isN .f64 v = false) (hf : fop .add .f64 (fop .sub .f64 v (floatOfInt .f64 (ti v))) 4607182418800017408 = f) (hlt : (FloatKind.f64.format.order (fop .sub .f64 v (floatOfInt .f64 (ti v))) 0 == some .lt) = true)
    (hb : (FloatKind.f64.format.order f 4602678819172646912 == some .gt || FloatKind.f64.format.order f 4602678819172646912 == some .eq) = true)
    (hq : (FloatKind.f64.format.order (fop .sub .f64 f 4602678819172646912) 4598175219545276416 == some .gt) = false) : Calls Try.prog 30 #[.float .f64 (pick .f64 v j2)] (w.drewN j) (RetF .f64 (sinF v) w) := by
  have HF : Hid (sinF v = fneg .f64 (sinZ (fop .mul .f64 (fop .sub .f64 f 4602678819172646912) 4618760256179416344))) := by
    unfold Hid sinF lowB fold2 half64 quarter64 twopi64; rw [Hf.out, hb]; simp only [if_true, if_false, Bool.false_eq_true, hq]
  rw [pick_not hnan]
  go_enter Try.func30, Try.ntmps30
  go_wp2_with (first | (first | (refine wpList_fop rfl _ _ _ _ _ rfl _ _ _ rfl rfl (by decide) _ ?_; intro _ _) | (refine upon_fop _ _ _ _ _ (by decide) ?_; intro _ _)) | (refine wpList_ftoi rfl 22 2 _ rfl (Option.isSome_iff_exists.2 ⟨_, Try.underlying22⟩) .i64 Try.underlying2 _ _ rfl (by exact Hti.out) ?_) | go_in)
  generalize hu : fop .mul .f64 (fop .mul .f64 (fop .sub .f64 f 4602678819172646912) 4618760256179416344) (fop .mul .f64 (fop .sub .f64 f 4602678819172646912) 4618760256179416344) = u
  have Hu := Lib.hid hu
  clear hu
  go_loopw [7, 8] (fun p k wr => ∃ (i n m : Nat) (kI : Int), i ≤ 8 ∧ Hid (kI = 8 - (i : Int)) ∧ p = .float .f64 (pick .f64 (ser u i) n) ∧ k = .int .i64 kI ∧ wr = w.drewN m) (fun _ k _ => (intOf k).toNat)
  case atStart => exact ⟨0, 0, _, 8, by omega, rfl, by rw [pick_not (show isN .f64 (ser u 0) = false from (by decide +kernel : isN .f64 one64 = false))]; rfl, rfl, rfl⟩
  case round =>
    obtain ⟨i, n, m, kI, hi, HK, rfl, rfl, rfl⟩ := hrel
    by_cases hlt8 : i < 8
    · have b1 : 1 ≤ kI := by have := HK.out; omega
      have b2 : kI ≤ 8 := by have := HK.out; omega
      have b3 : 0 ≤ 2 * kI * (2 * kI + 1) := Int.mul_nonneg (by omega) (by omega)
      have b4 : 2 * kI * (2 * kI + 1) ≤ 272 := Int.le_trans (Int.mul_le_mul (show 2 * kI ≤ 16 by omega) (show 2 * kI + 1 ≤ 17 by omega) (by omega) (by omega)) (by decide)
      have HD : Hid (den i = floatOfInt .f64 (2 * kI * (2 * kI + 1))) := by unfold Hid; rw [HK.out]; exact den_int i hlt8
      go_wp2_with (first | (refine wpList_fop rfl _ _ _ _ _ rfl _ _ _ rfl rfl (by decide) _ ?_; intro _ _) | (refine upon_fop _ _ _ _ _ (by decide) ?_; intro _ _))
      go_roundw
      case rel => exact ⟨i + 1, _, _, kI - 1, by omega, by have := HK.out; unfold Hid; omega, by rw [ser_step, HD.out]; rfl, rfl, rfl⟩
      case measure => simp [intOf]; omega
    · obtain rfl : i = 8 := by omega
      have b1 : kI < 1 := by have := HK.out; omega
      have b2 : 0 ≤ kI := by have := HK.out; omega
      go_wp2_with (first | (refine wpList_fop rfl _ _ _ _ _ rfl _ _ _ rfl rfl (by decide) _ ?_; intro _ _) | (refine upon_fop _ _ _ _ _ (by decide) ?_; intro _ _))
      go_ret
      rw [HF.out]
      unfold sinZ
      rw [Hu.out]
      exact ⟨_, _, rfl, rfl⟩
theorem c_l01SineWide_ttt (v f : Nat) (w : World) (j : Nat) (Hti : Hid (floatToIntVal .f64 v .i64 = some (ti v))) (Hf : Hid (partF v = f))
    (hs : (FloatKind.f64.format.order (fop .sub .f64 v v) 0 != some .eq) = false)
    (h1 : (FloatKind.f64.format.order v 4841369599423283200 == some .gt || FloatKind.f64.format.order v 4841369599423283200 == some .eq) = false)
    (h2 : (FloatKind.f64.format.order v 14064741636278059008 == some .lt || FloatKind.f64.format.order v 14064741636278059008 == some .eq) = false)
    {j2 : Nat} (hnan : isN .f64 v = false) (hf : fop .add .f64 (fop .sub .f64 v (floatOfInt .f64 (ti v))) 4607182418800017408 = f) (hlt : (FloatKind.f64.format.order (fop .sub .f64 v (floatOfInt .f64 (ti v))) 0 == some .lt) = true)
    (hb : (FloatKind.f64.format.order f 4602678819172646912 == some .gt || FloatKind.f64.format.order f 4602678819172646912 == some .eq) = true)
    (hq : (FloatKind.f64.format.order (fop .sub .f64 f 4602678819172646912) 4598175219545276416 == some .gt) = true) : Calls Try.prog 30 #[.float .f64 (pick .f64 v j2)] (w.drewN j) (RetF .f64 (sinF v) w) := by
  have HF : Hid (sinF v = fneg .f64 (sinZ (fop .mul .f64 (fop .sub .f64 4602678819172646912 (fop .sub .f64 f 4602678819172646912)) 4618760256179416344))) := by
    unfold Hid sinF lowB fold2 half64 quarter64 twopi64; rw [Hf.out, hb]; simp only [if_true, if_false, Bool.false_eq_true, hq]
  rw [pick_not hnan]
  go_enter Try.func30, Try.ntmps30
  go_wp2_with (first | (first | (refine wpList_fop rfl _ _ _ _ _ rfl _ _ _ rfl rfl (by decide) _ ?_; intro _ _) | (refine upon_fop _ _ _ _ _ (by decide) ?_; intro _ _)) | (refine wpList_ftoi rfl 22 2 _ rfl (Option.isSome_iff_exists.2 ⟨_, Try.underlying22⟩) .i64 Try.underlying2 _ _ rfl (by exact Hti.out) ?_) | go_in)
  generalize hu : fop .mul .f64 (fop .mul .f64 (fop .sub .f64 4602678819172646912 (fop .sub .f64 f 4602678819172646912)) 4618760256179416344) (fop .mul .f64 (fop .sub .f64 4602678819172646912 (fop .sub .f64 f 4602678819172646912)) 4618760256179416344) = u
  have Hu := Lib.hid hu
  clear hu
  go_loopw [7, 8] (fun p k wr => ∃ (i n m : Nat) (kI : Int), i ≤ 8 ∧ Hid (kI = 8 - (i : Int)) ∧ p = .float .f64 (pick .f64 (ser u i) n) ∧ k = .int .i64 kI ∧ wr = w.drewN m) (fun _ k _ => (intOf k).toNat)
  case atStart => exact ⟨0, 0, _, 8, by omega, rfl, by rw [pick_not (show isN .f64 (ser u 0) = false from (by decide +kernel : isN .f64 one64 = false))]; rfl, rfl, rfl⟩
  case round =>
    obtain ⟨i, n, m, kI, hi, HK, rfl, rfl, rfl⟩ := hrel
    by_cases hlt8 : i < 8
    · have b1 : 1 ≤ kI := by have := HK.out; omega
      have b2 : kI ≤ 8 := by have := HK.out; omega
      have b3 : 0 ≤ 2 * kI * (2 * kI + 1) := Int.mul_nonneg (by omega) (by omega)
      have b4 : 2 * kI * (2 * kI + 1) ≤ 272 := Int.le_trans (Int.mul_le_mul (show 2 * kI ≤ 16 by omega) (show 2 * kI + 1 ≤ 17 by omega) (by omega) (by omega)) (by decide)
      have HD : Hid (den i = floatOfInt .f64 (2 * kI * (2 * kI + 1))) := by unfold Hid; rw [HK.out]; exact den_int i hlt8
      go_wp2_with (first | (refine wpList_fop rfl _ _ _ _ _ rfl _ _ _ rfl rfl (by decide) _ ?_; intro _ _) | (refine upon_fop _ _ _ _ _ (by decide) ?_; intro _ _))
      go_roundw
      case rel => exact ⟨i + 1, _, _, kI - 1, by omega, by have := HK.out; unfold Hid; omega, by rw [ser_step, HD.out]; rfl, rfl, rfl⟩
      case measure => simp [intOf]; omega
    · obtain rfl : i = 8 := by omega
      have b1 : kI < 1 := by have := HK.out; omega
      have b2 : 0 ≤ kI := by have := HK.out; omega
      go_wp2_with (first | (refine wpList_fop rfl _ _ _ _ _ rfl _ _ _ rfl rfl (by decide) _ ?_; intro _ _) | (refine upon_fop _ _ _ _ _ (by decide) ?_; intro _ _))
      go_ret
      rw [HF.out]
      unfold sinZ
      rw [Hu.out]
      exact ⟨_, _, rfl, rfl⟩
/-! ### l01SineAll -/
theorem c_l01Sine_ok (v : Nat) {j2 : Nat} (w : World) (j : Nat) (hti : floatToIntVal .f64 v .i64 = some (ti v)) (hnan : isN .f64 v = false)
    (hs : (FloatKind.f64.format.order (fop .sub .f64 v v) 0 != some .eq) = false)
    (h1 : (FloatKind.f64.format.order v 4841369599423283200 == some .gt || FloatKind.f64.format.order v 4841369599423283200 == some .eq) = false)
    (h2 : (FloatKind.f64.format.order v 14064741636278059008 == some .lt || FloatKind.f64.format.order v 14064741636278059008 == some .eq) = false) :
    Calls Try.prog 30 #[.float .f64 (pick .f64 v j2)] (w.drewN j) (RetF .f64 (sinF v) w) := by
  cases hl : (FloatKind.f64.format.order (fop .sub .f64 v (floatOfInt .f64 (ti v))) 0 == some .lt)
  · have e : fop .sub .f64 v (floatOfInt .f64 (ti v)) = partF v := by unfold partF; rw [hl, if_neg (by decide)]
    have hl' := hl
    rw [e] at hl'
    cases hb : (FloatKind.f64.format.order (partF v) 4602678819172646912 == some .gt || FloatKind.f64.format.order (partF v) 4602678819172646912 == some .eq)
    · cases hq : (FloatKind.f64.format.order (partF v) 4598175219545276416 == some .gt)
      · exact c_l01SineWide_fff v _ w j hti rfl hs h1 h2 hnan e hl' hb hq
      · exact c_l01SineWide_fft v _ w j hti rfl hs h1 h2 hnan e hl' hb hq
    · cases hq : (FloatKind.f64.format.order (fop .sub .f64 (partF v) 4602678819172646912) 4598175219545276416 == some .gt)
      · exact c_l01SineWide_ftf v _ w j hti rfl hs h1 h2 hnan e hl' hb hq
      · exact c_l01SineWide_ftt v _ w j hti rfl hs h1 h2 hnan e hl' hb hq
  · have e : fop .add .f64 (fop .sub .f64 v (floatOfInt .f64 (ti v))) 4607182418800017408 = partF v := by unfold partF; rw [hl, if_pos rfl]; rfl
    cases hb : (FloatKind.f64.format.order (partF v) 4602678819172646912 == some .gt || FloatKind.f64.format.order (partF v) 4602678819172646912 == some .eq)
    · cases hq : (FloatKind.f64.format.order (partF v) 4598175219545276416 == some .gt)
      · exact c_l01SineWide_tff v _ w j hti rfl hs h1 h2 hnan e hl hb hq
      · exact c_l01SineWide_tft v _ w j hti rfl hs h1 h2 hnan e hl hb hq
    · cases hq : (FloatKind.f64.format.order (fop .sub .f64 (partF v) 4602678819172646912) 4598175219545276416 == some .gt)
      · exact c_l01SineWide_ttf v _ w j hti rfl hs h1 h2 hnan e hl hb hq
      · exact c_l01SineWide_ttt v _ w j hti rfl hs h1 h2 hnan e hl hb hq

/-! ### sPhasor -/
theorem c_l01Sine_raw (v : Nat) (w : World) (j : Nat) (h : SinArg v) : Calls Try.prog 30 #[.float .f64 v] (w.drewN j) (RetF .f64 (sinF v) w) := by
  have := c_l01Sine_ok v (j2 := 0) w j h.ti h.nn h.s h.b1 h.b2
  rw [pick_not h.nn] at this
  exact this
theorem c_l01Narrow (v n : Nat) (w : World) (j : Nat) (hfit : Fits v) : Calls Try.prog 31 #[.float .f64 (pick .f64 v n)] (w.drewN j) (RetF .f32 (cvN v) w) := by
  have H := Lib.hid hfit
  clear hfit
  go_enter Try.func31, Try.ntmps31
  go_wp2_with ((refine wpList_cvN rfl 22 28 _ rfl (Option.isSome_iff_exists.2 ⟨_, Try.underlying22⟩) Try.underlying28 _ rfl _ (by rw [Fits_pick]; exact H.out) ?_; intro _ _))
  go_ret
  exact ⟨_, _, rfl, rfl⟩
theorem c_l01Phasor_f (v n0 N f0 : Nat) (w : World) (j : Nat)
    (hs : (FloatKind.f64.format.order (fop .sub .f64 v v) 0 != some .eq) = false)
    (h1 : (FloatKind.f64.format.order v 4841369599423283200 == some .gt || FloatKind.f64.format.order v 4841369599423283200 == some .eq) = false)
    (h2 : (FloatKind.f64.format.order v 14064741636278059008 == some .lt || FloatKind.f64.format.order v 14064741636278059008 == some .eq) = false)
    (hl : (FloatKind.f64.format.order (fop .sub .f64 v (floatOfInt .f64 (ti v))) 0 == some .lt) = false)
    (HE : Hid (fop .sub .f64 v (floatOfInt .f64 (ti v)) = f0))
    (Hti : Hid (floatToIntVal .f64 v .i64 = some (ti v))) (Hn : Hid (isN .f64 v = false)) (hN : N ≤ 8) (H1 : Hid (∀ i, i < N → ge25 (qs f0 i) = true)) (H2 : Hid (ge25 (qs f0 N) = false)) (H3 : Hid (∀ i, i ≤ N → Fb 1075 (qs f0 i))) :
    Calls Try.prog 14 #[.float .f64 (pick .f64 v n0)] (w.drewN j) (RetC .f32 (phRe (qs f0 N) N) (phIm (qs f0 N) N) w) := by
  go_enter Try.func14, Try.ntmps14
  go_wp2_with (first | (first | (refine wpList_fop rfl _ _ _ _ _ rfl _ _ _ rfl rfl (by decide) _ ?_; intro _ _) | (refine upon_fop _ _ _ _ _ (by decide) ?_; intro _ _)) | (refine wpList_ftoi rfl 22 2 _ rfl (Option.isSome_iff_exists.2 ⟨_, Try.underlying22⟩) .i64 Try.underlying2 _ _ rfl (by rw [pick_not Hn.out]; exact Hti.out) ?_) | go_in)
  go_loopw [3, 4] (fun p k wr => ∃ i m : Nat, i ≤ N ∧ p = .float .f64 (qs f0 i) ∧ k = .int .i64 i ∧ wr = w.drewN m) (fun _ k _ => N - inat k)
  case atStart => exact ⟨0, _, Nat.zero_le _, by rw [HE.out]; exact congrArg (Value.float .f64) (pick_not (H3.out 0 (Nat.zero_le _)).notN _), rfl, rfl⟩
  case round =>
    obtain ⟨i, m, hi, rfl, rfl, rfl⟩ := hrel
    by_cases hlt : i < N
    · have ht := H1.out i hlt
      unfold ge25 at ht
      have HN := Lib.hid (H3.out (i + 1) hlt).notN
      go_wp2_with (first | (refine wpList_fop rfl _ _ _ _ _ rfl _ _ _ rfl rfl (by decide) _ ?_; intro _ _) | (refine upon_fop _ _ _ _ _ (by decide) ?_; intro _ _))
      go_roundw
      case rel => exact ⟨i + 1, _, by omega, by rw [pick_not (by rw [← qs_succ]; exact HN.out)]; rfl, by go_num, rfl⟩
      case measure => simp [inat]; omega
    · obtain rfl : i = N := by omega
      have ht := H2.out
      unfold ge25 at ht
      have HO := Lib.hid (phOk (H3.out i (Nat.le_refl _)))
      clear H1 H2 H3
      generalize qs f0 i = g at *
      rcases (by omega : i = 0 ∨ i = 1 ∨ i = 2 ∨ i = 3 ∨ i = 4 ∨ i = 5 ∨ i = 6 ∨ i = 7 ∨ i = 8) with rfl | rfl | rfl | rfl | rfl | rfl | rfl | rfl | rfl
      all_goals
        go_wp2_with (first | (first | (refine wpList_fop rfl _ _ _ _ _ rfl _ _ _ rfl rfl (by decide) _ ?_; intro _ _) | (refine upon_fop _ _ _ _ _ (by decide) ?_; intro _ _)) | (go_at_call 30; first | (rw [pick_not HO.out.b.nn]; refine (c_l01Sine_raw _ _ _ HO.out.b).mono ?_; rintro _ _ ⟨_, _, rfl, rfl⟩) | (refine (c_l01Sine_raw _ _ _ HO.out.a).mono ?_; rintro _ _ ⟨_, _, rfl, rfl⟩)) | (go_at_call 31; refine (c_l01Narrow _ _ _ _ ?ha).mono ?_; (case ha => first | with_reducible exact HO.out.fS | with_reducible exact HO.out.fC | with_reducible exact HO.out.fS0 | with_reducible exact HO.out.fC0); rintro _ _ ⟨_, _, rfl, rfl⟩))
        go_ret
        exact ⟨_, _, _, rfl, rfl⟩
theorem c_l01Phasor_t (v n0 N f0 : Nat) (w : World) (j : Nat)
    (hs : (FloatKind.f64.format.order (fop .sub .f64 v v) 0 != some .eq) = false)
    (h1 : (FloatKind.f64.format.order v 4841369599423283200 == some .gt || FloatKind.f64.format.order v 4841369599423283200 == some .eq) = false)
    (h2 : (FloatKind.f64.format.order v 14064741636278059008 == some .lt || FloatKind.f64.format.order v 14064741636278059008 == some .eq) = false)
    (hl : (FloatKind.f64.format.order (fop .sub .f64 v (floatOfInt .f64 (ti v))) 0 == some .lt) = true)
    (HE : Hid (fop .add .f64 (fop .sub .f64 v (floatOfInt .f64 (ti v))) 4607182418800017408 = f0))
    (Hti : Hid (floatToIntVal .f64 v .i64 = some (ti v))) (Hn : Hid (isN .f64 v = false)) (hN : N ≤ 8) (H1 : Hid (∀ i, i < N → ge25 (qs f0 i) = true)) (H2 : Hid (ge25 (qs f0 N) = false)) (H3 : Hid (∀ i, i ≤ N → Fb 1075 (qs f0 i))) :
    Calls Try.prog 14 #[.float .f64 (pick .f64 v n0)] (w.drewN j) (RetC .f32 (phRe (qs f0 N) N) (phIm (qs f0 N) N) w) := by
  go_enter Try.func14, Try.ntmps14
  go_wp2_with (first | (first | (refine wpList_fop rfl _ _ _ _ _ rfl _ _ _ rfl rfl (by decide) _ ?_; intro _ _) | (refine upon_fop _ _ _ _ _ (by decide) ?_; intro _ _)) | (refine wpList_ftoi rfl 22 2 _ rfl (Option.isSome_iff_exists.2 ⟨_, Try.underlying22⟩) .i64 Try.underlying2 _ _ rfl (by rw [pick_not Hn.out]; exact Hti.out) ?_) | go_in)
  go_loopw [3, 4] (fun p k wr => ∃ i m : Nat, i ≤ N ∧ p = .float .f64 (qs f0 i) ∧ k = .int .i64 i ∧ wr = w.drewN m) (fun _ k _ => N - inat k)
  case atStart => exact ⟨0, _, Nat.zero_le _, by rw [HE.out]; exact congrArg (Value.float .f64) (pick_not (H3.out 0 (Nat.zero_le _)).notN _), rfl, rfl⟩
  case round =>
    obtain ⟨i, m, hi, rfl, rfl, rfl⟩ := hrel
    by_cases hlt : i < N
    · have ht := H1.out i hlt
      unfold ge25 at ht
      have HN := Lib.hid (H3.out (i + 1) hlt).notN
      go_wp2_with (first | (refine wpList_fop rfl _ _ _ _ _ rfl _ _ _ rfl rfl (by decide) _ ?_; intro _ _) | (refine upon_fop _ _ _ _ _ (by decide) ?_; intro _ _))
      go_roundw
      case rel => exact ⟨i + 1, _, by omega, by rw [pick_not (by rw [← qs_succ]; exact HN.out)]; rfl, by go_num, rfl⟩
      case measure => simp [inat]; omega
    · obtain rfl : i = N := by omega
      have ht := H2.out
      unfold ge25 at ht
      have HO := Lib.hid (phOk (H3.out i (Nat.le_refl _)))
      clear H1 H2 H3
      generalize qs f0 i = g at *
      rcases (by omega : i = 0 ∨ i = 1 ∨ i = 2 ∨ i = 3 ∨ i = 4 ∨ i = 5 ∨ i = 6 ∨ i = 7 ∨ i = 8) with rfl | rfl | rfl | rfl | rfl | rfl | rfl | rfl | rfl
      all_goals
        go_wp2_with (first | (first | (refine wpList_fop rfl _ _ _ _ _ rfl _ _ _ rfl rfl (by decide) _ ?_; intro _ _) | (refine upon_fop _ _ _ _ _ (by decide) ?_; intro _ _)) | (go_at_call 30; first | (rw [pick_not HO.out.b.nn]; refine (c_l01Sine_raw _ _ _ HO.out.b).mono ?_; rintro _ _ ⟨_, _, rfl, rfl⟩) | (refine (c_l01Sine_raw _ _ _ HO.out.a).mono ?_; rintro _ _ ⟨_, _, rfl, rfl⟩)) | (go_at_call 31; refine (c_l01Narrow _ _ _ _ ?ha).mono ?_; (case ha => first | with_reducible exact HO.out.fS | with_reducible exact HO.out.fC | with_reducible exact HO.out.fS0 | with_reducible exact HO.out.fC0); rintro _ _ ⟨_, _, rfl, rfl⟩))
        go_ret
        exact ⟨_, _, _, rfl, rfl⟩
/-! ### iPhasorRest -/
theorem c_iPhasor_nan (v n0 : Nat) (w : World) (j : Nat) (hv : v < 2 ^ FloatKind.f64.format.width) (hf : finB .f64 v = false) :
    Calls Try.prog 7 #[.float .f64 (pick .f64 v n0)] (w.drewN j) (RetC .f32 (qn .f32) (qn .f32) w) := by
  obtain ⟨n1, hn1⟩ := nanOf_onto .f32 2143289344 (by decide +kernel) (by decide +kernel)
  have H := Lib.hid hn1
  clear hn1
  go_enter Try.func7, Try.ntmps7
  go_wp2_with (first | (go_at_call 15; refine (c_isFinite64 _ _ _ _ hv).mono ?_; rintro _ _ ⟨_, rfl, rfl⟩) | (go_at_call 16; refine (c_notANumber _ _).mono ?_; rintro _ _ ⟨_, rfl, rfl⟩))
  go_ret
  exact ⟨n1, n1, _, by simp only [pick, isN_qn, if_true]; rw [← H.out]; rfl, rfl⟩
theorem c_iPhasor_big (v n0 : Nat) (w : World) (j : Nat) (hv : v < 2 ^ FloatKind.f64.format.width) (hf : finB .f64 v = true)
    (hb : (FloatKind.f64.format.order (fabs .f64 v) 4841369599423283200 == some .gt || FloatKind.f64.format.order (fabs .f64 v) 4841369599423283200 == some .eq) = true) :
    Calls Try.prog 7 #[.float .f64 (pick .f64 v n0)] (w.drewN j) (RetC .f32 1065353216 0 w) := by
  go_enter Try.func7, Try.ntmps7
  go_wp2_with (first | (go_at_call 15; refine (c_isFinite64 _ _ _ _ hv).mono ?_; rintro _ _ ⟨_, rfl, rfl⟩) | (go_at_call 17; refine (c_Abs _ _ _ _ hv).mono ?_; rintro _ _ ⟨_, _, rfl, rfl⟩))
  go_ret
  exact ⟨0, 0, _, by rw [pick_not (show isN .f32 1065353216 = false by decide +kernel), pick_not (show isN .f32 0 = false by decide +kernel)]; rfl, rfl⟩
/-! ### sPhasorRest -/
theorem c_l01From (w : World) (j : Nat) : Calls Try.prog 29 #[.int .i64 2143289344] (w.drewN j) (RetV (.float .f32 2143289344) w) := by
  go_enter Try.func29, Try.ntmps29
  go_wp2
  go_ret
  exact ⟨_, rfl, rfl⟩
theorem c_l01Phasor_nan (v n0 : Nat) (w : World) (j : Nat) (hs : (FloatKind.f64.format.order (fop .sub .f64 v v) 0 != some .eq) = true) :
    Calls Try.prog 14 #[.float .f64 (pick .f64 v n0)] (w.drewN j) (RetC .f32 (qn .f32) (qn .f32) w) := by
  obtain ⟨n1, hn1⟩ := nanOf_onto .f32 2143289344 (by decide +kernel) (by decide +kernel)
  have H := Lib.hid hn1
  clear hn1
  go_enter Try.func14, Try.ntmps14
  go_wp2_with (first | (first | (refine wpList_fop rfl _ _ _ _ _ rfl _ _ _ rfl rfl (by decide) _ ?_; intro _ _) | (refine upon_fop _ _ _ _ _ (by decide) ?_; intro _ _)) | (go_at_call 29; refine (c_l01From _ _).mono ?_; rintro _ _ ⟨_, rfl, rfl⟩))
  go_ret
  exact ⟨n1, n1, _, by simp only [pick, isN_qn, if_true]; rw [← H.out]; rfl, rfl⟩
theorem c_l01Phasor_big (v n0 : Nat) (w : World) (j : Nat) (hs : (FloatKind.f64.format.order (fop .sub .f64 v v) 0 != some .eq) = false)
    (h : ((FloatKind.f64.format.order v 4841369599423283200 == some .gt || FloatKind.f64.format.order v 4841369599423283200 == some .eq) ||
     (FloatKind.f64.format.order v 14064741636278059008 == some .lt || FloatKind.f64.format.order v 14064741636278059008 == some .eq)) = true) :
    Calls Try.prog 14 #[.float .f64 (pick .f64 v n0)] (w.drewN j) (RetC .f32 1065353216 0 w) := by
  cases h1 : (FloatKind.f64.format.order v 4841369599423283200 == some .gt || FloatKind.f64.format.order v 4841369599423283200 == some .eq)
  · rw [h1, Bool.false_or] at h
    go_enter Try.func14, Try.ntmps14
    go_wp2_with (first | (first | (refine wpList_fop rfl _ _ _ _ _ rfl _ _ _ rfl rfl (by decide) _ ?_; intro _ _) | (refine upon_fop _ _ _ _ _ (by decide) ?_; intro _ _)))
    go_ret
    exact ⟨0, 0, _, by rw [pick_not (show isN .f32 1065353216 = false by decide +kernel), pick_not (show isN .f32 0 = false by decide +kernel)]; rfl, rfl⟩
  · clear h
    go_enter Try.func14, Try.ntmps14
    go_wp2_with (first | (first | (refine wpList_fop rfl _ _ _ _ _ rfl _ _ _ rfl rfl (by decide) _ ?_; intro _ _) | (refine upon_fop _ _ _ _ _ (by decide) ?_; intro _ _)))
    go_ret
    exact ⟨0, 0, _, by rw [pick_not (show isN .f32 1065353216 = false by decide +kernel), pick_not (show isN .f32 0 = false by decide +kernel)]; rfl, rfl⟩
/-! ### sameFloat -/
theorem c_sameFloat (v n m : Nat) (w : World) (j : Nat) : Calls Try.prog 13 #[.float .f64 (pick .f64 v n), .float .f64 (pick .f64 v m)] (w.drewN j) (RetV (.bool true) w) := by
  have hs := self_ne .f64 v
  have ht := self_eq .f64 v
  cases h : isN .f64 v
  · rw [h] at hs ht
    cases h2 : (FloatKind.f64.format.order v 0 == some .eq)
    · go_enter Try.func13, Try.ntmps13
      go_wp2_with (first | (refine wpList_fop rfl _ _ _ _ _ rfl _ _ _ rfl rfl (by decide) _ ?_; intro _ _) | (refine upon_fop _ _ _ _ _ (by decide) ?_; intro _ _))
      go_ret
      exact ⟨_, rfl, rfl⟩
    · go_enter Try.func13, Try.ntmps13
      go_wp2_with (first | (refine wpList_fop rfl _ _ _ _ _ rfl _ _ _ rfl rfl (by decide) _ ?_; intro _ _) | (refine upon_fop _ _ _ _ _ (by decide) ?_; intro _ _))
      go_ret
      exact ⟨_, by simp, rfl⟩
  · rw [h] at hs ht
    go_enter Try.func13, Try.ntmps13
    go_wp2_with (first | (refine wpList_fop rfl _ _ _ _ _ rfl _ _ _ rfl rfl (by decide) _ ?_; intro _ _) | (refine upon_fop _ _ _ _ _ (by decide) ?_; intro _ _))
    go_ret
    exact ⟨_, rfl, rfl⟩

/-! ### sameComplex -/
theorem c_sameComplex (a b n1 n2 m1 m2 : Nat) (w : World) (j : Nat) : Calls Try.prog 8 #[.complex .f64 (pick .f64 a n1) (pick .f64 b n2), .complex .f64 (pick .f64 a m1) (pick .f64 b m2)] (w.drewN j) (RetV (.bool true) w) := by
  go_enter Try.func8, Try.ntmps8
  go_wp2_with ((go_at_call 13; refine (c_sameFloat _ _ _ _ _).mono ?_; rintro _ _ ⟨_, rfl, rfl⟩))
  go_ret
  exact ⟨_, rfl, rfl⟩
/-! ### FnExactPhasorOf -/
theorem c_sPhasorOf (v n x y : Nat) (w : World) (j : Nat) (h : ∀ n j, Calls Try.prog 14 #[.float .f64 (pick .f64 v n)] (w.drewN j) (RetC .f32 x y w)) :
    Calls Try.prog 6 #[.float .f64 (pick .f64 v n)] (w.drewN j) (RetC .f32 x y w) := by
  have H := Lib.hid h
  clear h
  go_enter Try.func6, Try.ntmps6
  go_wp2_with (go_at_call 14; refine (H.out _ _).mono ?_; rintro _ _ ⟨_, _, _, rfl, rfl⟩)
  go_ret
  exact ⟨_, _, _, rfl, rfl⟩
theorem both (v : Nat) (w : World) (hv : v < 2 ^ FloatKind.f64.format.width) : ∃ x y,
    (∀ n j, Calls Try.prog 14 #[.float .f64 (pick .f64 v n)] (w.drewN j) (RetC .f32 x y w)) ∧
    (∀ n j, Calls Try.prog 7 #[.float .f64 (pick .f64 v n)] (w.drewN j) (RetC .f32 x y w)) := by
  have hss := sub_self_zero .f64 v
  cases hf : finB .f64 v
  · have hs : (FloatKind.f64.format.order (fop .sub .f64 v v) 0 != some .eq) = true := by rw [bne, hss, hf]; rfl
    exact ⟨_, _, fun n j => c_l01Phasor_nan v n w j hs, fun n j => c_iPhasor_nan v n w j hv hf⟩
  · have hs : (FloatKind.f64.format.order (fop .sub .f64 v v) 0 != some .eq) = false := by rw [bne, hss, hf]; rfl
    have hr : rung Ieee.double v < Ieee.double.infRung := of_decide_eq_true hf
    have hn : isN .f64 v = false := notN_fin (k := .f64) hr
    obtain ⟨g1, g2⟩ := big_abs v hn
    cases hb : decide (4841369599423283200 ≤ rung Ieee.double v)
    · have hsm : rung Ieee.double v < 4841369599423283200 := by have := of_decide_eq_false hb; omega
      have hA := sinArg hr hsm
      obtain ⟨N, q1, q2, q3, q4⟩ := q_all 8 (partF v) (Nat.le_refl _) (part_fb hr hsm).1 (by have := (part_fb hr hsm).2; rwa [show (1075 : Nat) = 3 + 1072 from rfl, Nat.pow_add] at this)
      refine ⟨phRe (qs (partF v) N) N, phIm (qs (partF v) N) N, fun n j => ?_, fun n j => ?_⟩
      · cases hl : (FloatKind.f64.format.order (fop .sub .f64 v (floatOfInt .f64 (ti v))) 0 == some .lt)
        · exact c_l01Phasor_f v n N (partF v) w j hs hA.b1 hA.b2 hl (by unfold Hid partF; rw [hl, if_neg (by decide)]) hA.ti hn q1 q2 q3 q4
        · exact c_l01Phasor_t v n N (partF v) w j hs hA.b1 hA.b2 hl (by unfold Hid partF; rw [hl, if_pos rfl]; rfl) hA.ti hn q1 q2 q3 q4
      · exact c_iPhasor_ok v n N w j hv hf (by rw [g2, hb]) hA.ti hn q1 q2 q3 q4
    · refine ⟨_, _, fun n j => c_l01Phasor_big v n w j hs (by rw [← g1, g2, hb]), fun n j => c_iPhasor_big v n w j hv hf (by rw [g2, hb])⟩
theorem walk (v n : Nat) (w : World) (hv : v < 2 ^ FloatKind.f64.format.width) : Calls Try.prog 3 #[.float .f64 (pick .f64 v n)] w fun e w' => e = .returned (.bool true) ∧ Below w.heap.size w w' := by
  obtain ⟨x, y, hS, hI⟩ := both v w hv
  have HS := Lib.hid hS
  have HI := Lib.hid hI
  clear hS hI
  rw [← w.drewN_zero]
  go_enter Try.func3, Try.ntmps3
  go_wp2_with (first | (refine wpList_ccvU rfl 23 26 _ rfl (Option.isSome_iff_exists.2 ⟨_, Try.underlying23⟩) Try.underlying26 _ _ rfl _ ?_; intro _ _ _) | (go_at_call 6; refine (c_sPhasorOf _ _ _ _ _ _ HS.out).mono ?_; rintro _ _ ⟨_, _, _, rfl, rfl⟩) | (go_at_call 7; refine (HI.out _ _).mono ?_; rintro _ _ ⟨_, _, _, rfl, rfl⟩) | (go_at_call 8; refine (c_sameComplex _ _ _ _ _ _ _ _).mono ?_; rintro _ _ ⟨_, rfl, rfl⟩))
  go_ret
  exact ⟨rfl, below_drewN (Below.refl _ _) _⟩

theorem own : ownKnob Try.prog.godebug = none := by kernel_rfl
theorem laidOut : laidOutB Try.prog = true := by kernel_rfl
set_option maxRecDepth 100000 in
theorem lifted (os : Os) (started : os.Started) (H : Type) (enc : TypeId × Value → H) :
    ReturnsInHanded {} Try.checked os 3 .any (Rows.fnExactPhasorOfSpec.pre6 enc Try.prog Try.f3 Rows.fnExactPhasorOfRow.domain false) (Rows.fnExactPhasorOfSpec.post enc Try.prog Try.f3 false true false false) := by
  refine returnsInHanded_of_change (C := Try.checked) own started (by kernel_rfl) Try.func3
    (ChangeSpec.witness6 (enc := enc) (C := Try.checked) false ⟨#[], #[.float .f64 0], []⟩ 8 (by kernel_rfl) (by kernel_rfl) (by kernel_rfl) (by kernel_rfl)) ?_
  intro W base args ds gs before hval0 hW hcnd _
  have hval : ∀ (j : Nat) t v, Try.f3.params[j]? = some t → args[j]? = some v → Value.okWide Try.prog W .any base t v := hval0
  have hW' := hW
  obtain ⟨p, q, hA0, hV, rfl, hfz, hnd⟩ := hW
  have hA : DataW.TrodAll enc Try.prog W 0 (fun _ => true) true Try.f3.params.toList args.toList ds p := hA0
  rw [Try.params3] at hA hval
  obtain ⟨v0, vs0, d0, ds0, p0, q0, hargs, rfl, rfl, h0, r0⟩ := trodAll_cons hA
  obtain ⟨rfl, rfl, rfl⟩ := trodAll_nil r0
  obtain rfl : args = #[v0] := by cases args; simp_all
  obtain ⟨rfl, rfl⟩ := trodVars_none hV
  obtain ⟨b0, rfl, rfl, rfl, w0⟩ := open_float Try.underlying22 (hval 0 22 v0 rfl rfl) h0
  obtain ⟨n0, en0⟩ := pick_onto .f64 b0 (lt_of_wf w0)
  clear hA0 hval0
  have hcall0 := en0
  have hw0 : Calls Try.prog 3 #[.float .f64 b0] W fun e w' => e = .returned (.bool true) ∧ Below W.heap.size W w' := by
    rw [en0]
    exact walk b0 n0 W (lt_of_wf w0)
  refine hw0.mono fun e W' ⟨he, bel⟩ => ?_
  subst he
  exact ⟨_, rfl, _, _, _, [], _, [], hW', trodAll_mk1 (shut_bool Try.underlying4 _), (trodAll_cons_mk (shut_float Try.underlying22 w0) trodAll_mk0), rfl, bel.frame _, fun h => by cases h⟩

theorem over : Rows.fnExactPhasorOfRow.holds Try.pinned (OpenSpec.ofChange Rows.fnExactPhasorOfSpec) :=
  OpenClaim.holds_of_wide 3 Try.f3 rfl rfl rfl rfl rfl rfl rfl ⟨rfl, rfl, rfl, rfl, rfl⟩ rfl rfl rfl rfl rfl (by kernel_rfl) Try.func3 (by kernel_rfl)
    (of_decide_eq_true (by kernel_rfl)) (by unfold Func.isWrapper; first | (rw [if_pos (by decide +kernel)]; kernel_rfl) | (rw [if_neg (by decide +kernel)]; exact ⟨rfl, rfl⟩))
    (fun os started H enc _ => lifted os started H enc)

theorem proved : Rows.FnExactPhasorOfSaid := over
#print axioms proved

end Go.Proofs.Ytfohhljadpchgad.fnExactPhasorOf

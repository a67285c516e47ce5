/-
  FnExactHatOf: for every input this law of the program returns true, and each argument reads as before. No condition.
-/
import Derived.Test.YtnnldhfgnmcfiabRows
import Derived.Test.YtnnldhfgnmcfiabFl
import Derived.ProofKit
import Derived.OpenShut
import Derived.ShutString
import Derived.ChangeOld
import Derived.Below
import Derived.Lib.Hide
import Derived.Outline
import Derived.Deep.RegionHeld3
import Derived.Deep.DeepCutAuto
set_option linter.unusedSimpArgs false
set_option linter.unusedVariables false
set_option exponentiation.threshold 2000
set_option maxRecDepth 20000
set_option maxHeartbeats 4000000
namespace Go.Proofs.Ytnnldhfgnmcfiab.fnExactHatOf
open Go Go.Proofs.Ytnnldhfgnmcfiab Go.Proofs
open Go.ChangeShapes Go.WideShapes Go.ChangeAt Go.RowKit
open Go.ChangeMaps (open_string shut_string)
/-! ### ordDefs -/
theorem cmp_bools (a b : Int) : ((some (compare a b) == some Ordering.lt) = decide (a < b)) ∧ ((some (compare a b) == some Ordering.gt) = decide (b < a)) ∧ ((some (compare a b) == some Ordering.eq) = decide (a = b)) := by
  rcases Int.lt_trichotomy a b with h | h | h
  · rw [cmp_of_lt h, decide_eq_true h, decide_eq_false (by omega), decide_eq_false (by omega)]; exact ⟨rfl, rfl, rfl⟩
  · subst h; rw [Int.compare_eq_eq.2 rfl, decide_eq_false (by omega), decide_eq_true rfl]; exact ⟨rfl, rfl, rfl⟩
  · rw [cmp_of_gt h, decide_eq_false (by omega), decide_eq_true h, decide_eq_false (by omega)]; exact ⟨rfl, rfl, rfl⟩
theorem o_lt {v c : Nat} (h : isN .f32 v = false) (hc : isN .f32 c = false) : (FloatKind.f32.format.order v c == some .lt) = decide (srung FloatKind.f32.format v < srung FloatKind.f32.format c) := by
  rw [order_rungs .f32 v c h hc]; exact (cmp_bools _ _).1
theorem o_gt {v c : Nat} (h : isN .f32 v = false) (hc : isN .f32 c = false) : (FloatKind.f32.format.order v c == some .gt) = decide (srung FloatKind.f32.format c < srung FloatKind.f32.format v) := by
  rw [order_rungs .f32 v c h hc]; exact (cmp_bools _ _).2.1
theorem o_eq {v c : Nat} (h : isN .f32 v = false) (hc : isN .f32 c = false) : (FloatKind.f32.format.order v c == some .eq) = decide (srung FloatKind.f32.format v = srung FloatKind.f32.format c) := by
  rw [order_rungs .f32 v c h hc]; exact (cmp_bools _ _).2.2
theorem o_le {v c : Nat} (h : isN .f32 v = false) (hc : isN .f32 c = false) : (FloatKind.f32.format.order v c == some .lt || FloatKind.f32.format.order v c == some .eq) = decide (srung FloatKind.f32.format v ≤ srung FloatKind.f32.format c) := by
  rw [o_lt h hc, o_eq h hc, ← Bool.decide_or]; exact decide_eq_decide.2 (by omega)
theorem o_ge {v c : Nat} (h : isN .f32 v = false) (hc : isN .f32 c = false) : (FloatKind.f32.format.order v c == some .gt || FloatKind.f32.format.order v c == some .eq) = decide (srung FloatKind.f32.format c ≤ srung FloatKind.f32.format v) := by
  rw [o_gt h hc, o_eq h hc, ← Bool.decide_or]; exact decide_eq_decide.2 (by omega)
theorem s_zero : srung FloatKind.f32.format 0 = 0 := by decide +kernel
theorem s_half : srung FloatKind.f32.format 1056964608 = 1056964608 := by decide +kernel
theorem s_one : srung FloatKind.f32.format 1065353216 = 1065353216 := by decide +kernel
theorem n_zero : isN .f32 0 = false := by decide +kernel
theorem n_half : isN .f32 1056964608 = false := by decide +kernel
theorem n_one : isN .f32 1065353216 = false := by decide +kernel
theorem pick_zero (n : Nat) : pick .f32 0 n = 0 := pick_not n_zero n
/-! ### hatDefs -/
def hatV (v : Nat) : Nat :=
  if ((FloatKind.f32.format.order v 0 == some .gt || FloatKind.f32.format.order v 0 == some .eq) && (FloatKind.f32.format.order v 1056964608 == some .lt || FloatKind.f32.format.order v 1056964608 == some .eq)) = true then fop .mul .f32 1073741824 v
  else if ((FloatKind.f32.format.order v 1056964608 == some .gt) && (FloatKind.f32.format.order v 1065353216 == some .lt || FloatKind.f32.format.order v 1065353216 == some .eq)) = true then fop .mul .f32 1073741824 (fop .sub .f32 1065353216 v)
  else 0
theorem hat_cases (v : Nat) : ∃ a b c d : Bool, (FloatKind.f32.format.order v 0 == some .gt || FloatKind.f32.format.order v 0 == some .eq) = a ∧ (FloatKind.f32.format.order v 1056964608 == some .lt || FloatKind.f32.format.order v 1056964608 == some .eq) = b ∧ (FloatKind.f32.format.order v 1056964608 == some .gt) = c ∧ (FloatKind.f32.format.order v 1065353216 == some .lt || FloatKind.f32.format.order v 1065353216 == some .eq) = d ∧
    ((a, b, c, d) = (false, false, false, false) ∨ (a, b, c, d) = (false, true, false, true) ∨ (a, b, c, d) = (true, true, false, true) ∨ (a, b, c, d) = (true, false, true, true) ∨ (a, b, c, d) = (true, false, true, false)) := by
  refine ⟨_, _, _, _, rfl, rfl, rfl, rfl, ?_⟩
  cases h : isN .f32 v
  · rw [o_ge h n_zero, o_le h n_half, o_gt h n_half, o_le h n_one, s_zero, s_half, s_one]
    generalize srung FloatKind.f32.format v = s
    by_cases h1 : s < 0
    · rw [decide_eq_false (by omega), decide_eq_true (by omega), decide_eq_false (by omega), decide_eq_true (by omega)]; simp
    · by_cases h2 : s ≤ 1056964608
      · rw [decide_eq_true (by omega), decide_eq_true (by omega), decide_eq_false (by omega), decide_eq_true (by omega)]; simp
      · by_cases h3 : s ≤ 1065353216
        · rw [decide_eq_true (by omega), decide_eq_false (by omega), decide_eq_true (by omega), decide_eq_true (by omega)]; simp
        · rw [decide_eq_true (by omega), decide_eq_false (by omega), decide_eq_true (by omega), decide_eq_false (by omega)]; simp
  · rw [order_nan_l _ h, order_nan_l _ h, order_nan_l _ h]; exact .inl rfl
/-! ### sHat -/
theorem c_l03Hat (v n : Nat) (w : World) (j : Nat) : Calls Try.prog 50 #[.float .f32 (pick .f32 v n)] (w.drewN j) (RetF .f32 (hatV v) w) := by
  obtain ⟨a, b, c, d, h1, h2, h3, h4, h⟩ := hat_cases v
  rcases h with h | h | h | h | h
  all_goals
    simp only [Prod.mk.injEq] at h
    obtain ⟨rfl, rfl, rfl, rfl⟩ := h
    unfold hatV
    rw [h1, h2, h3, h4]
    simp only [Bool.and_true, Bool.and_false, Bool.false_and, Bool.true_and, if_true, Bool.false_eq_true, if_false]
    go_enter Try.func50, Try.ntmps50
    go_wp2_with (first | (refine wpList_fop rfl _ _ _ _ _ rfl _ _ _ rfl rfl (by decide) _ ?_; intro _ _) | (refine upon_fop _ _ _ _ _ (by decide) ?_; intro _ _))
    go_ret
    first | exact ⟨_, _, rfl, rfl⟩ | exact ⟨0, _, by simp only [pick_zero]; rfl, rfl⟩
/-! ### iWeight -/
theorem c_weightOf (v n : Nat) (w : World) (j : Nat) : Calls Try.prog 52 #[.float .f32 (pick .f32 v n)] (w.drewN j) (RetF .f32 (hatV v) w) := by
  obtain ⟨a, b, c, d, h1, h2, h3, h4, h⟩ := hat_cases v
  rcases h with h | h | h | h | h
  all_goals
    simp only [Prod.mk.injEq] at h
    obtain ⟨rfl, rfl, rfl, rfl⟩ := h
    unfold hatV
    rw [h1, h2, h3, h4]
    simp only [Bool.and_true, Bool.and_false, Bool.false_and, Bool.true_and, if_true, Bool.false_eq_true, if_false]
    go_enter Try.func52, Try.ntmps52
    go_wp2_with (first | (refine wpList_fop rfl _ _ _ _ _ rfl _ _ _ rfl rfl (by decide) _ ?_; intro _ _) | (refine upon_fop _ _ _ _ _ (by decide) ?_; intro _ _))
    go_ret
    first | exact ⟨_, _, rfl, rfl⟩ | exact ⟨0, _, by simp only [pick_zero]; rfl, rfl⟩
/-! ### l01Finite -/
theorem c_l01Finite (v n : Nat) (w : World) (j : Nat) : Calls Try.prog 49 #[.float .f32 (pick .f32 v n)] (w.drewN j) (RetV (.bool (finB .f32 v)) w) := by
  go_enter Try.func49, Try.ntmps49
  go_wp2_with (first | (refine wpList_fop rfl _ _ _ _ _ rfl _ _ _ rfl rfl (by decide) _ ?_; intro _ _) | (refine upon_fop _ _ _ _ _ (by decide) ?_; intro _ _))
  go_ret
  rw [← sub_self_zero]
  exact ⟨_, rfl, rfl⟩
/-! ### IsNaN -/
theorem c_IsNaN (v n : Nat) (w : World) (j : Nat) : Calls Try.prog 99 #[.float .f64 (pick .f64 v n)] (w.drewN j) (RetV (.bool (isN .f64 v)) w) := by
  go_enter Try.func99, Try.ntmps99
  go_wp2
  go_ret
  exact ⟨_, rfl, rfl⟩
/-! ### f64bits -/
@[go_sem] theorem e_f64bits (b : Nat) (w : World) : (callFunc 117 #[.float .f64 b]).run Try.prog w = .ok (.value (.int .u64 b)) w := by kernel_rfl
/-! ### f64from -/
@[go_sem] theorem e_f64from (n : Int) (w : World) : (callFunc 110 #[.int .u64 n]).run Try.prog w = .ok (.value (.float .f64 n.toNat)) w := by kernel_rfl
/-! ### Abs -/
theorem c_Abs (v n : Nat) (w : World) (j : Nat) (hv : v < 2 ^ FloatKind.f64.format.width) : Calls Try.prog 114 #[.float .f64 (pick .f64 v n)] (w.drewN j) (RetF .f64 (fabs .f64 v) w) := by
  have hb := abs_bits hv n
  go_enter Try.func114, Try.ntmps114
  go_wp2
  go_ret
  exact ⟨_, _, rfl, rfl⟩
/-! ### IsInf0 -/
theorem c_IsInf0 (v n : Nat) (w : World) (j : Nat) (hv : v < 2 ^ FloatKind.f64.format.width) : Calls Try.prog 108 #[.float .f64 (pick .f64 v n), .int .i64 0] (w.drewN j) (RetV (.bool (FloatKind.f64.format.order (fabs .f64 v) 9218868437227405311 == some .gt)) w) := by
  go_enter Try.func108, Try.ntmps108
  go_wp2_with ((go_at_call 114; refine (c_Abs _ _ _ _ hv).mono ?_; rintro _ _ ⟨_, _, rfl, rfl⟩))
  go_ret
  exact ⟨_, rfl, rfl⟩
/-! ### isFinite64 -/
theorem c_isFinite64 (v n : Nat) (w : World) (j : Nat) (hv : v < 2 ^ FloatKind.f64.format.width) : Calls Try.prog 91 #[.float .f64 (pick .f64 v n)] (w.drewN j) (RetV (.bool (finB .f64 v)) w) := by
  go_enter Try.func91, Try.ntmps91
  go_wp2_with (first | (go_at_call 99; refine (c_IsNaN _ _ _ _).mono ?_; rintro _ _ ⟨_, rfl, rfl⟩) | (go_at_call 108; refine (c_IsInf0 _ _ _ _ hv).mono ?_; rintro _ _ ⟨_, rfl, rfl⟩))
  all_goals
    go_ret
    refine ⟨_, ?_, rfl⟩
    rw [← abs_gt_max]
    simp [*]
/-! ### iIsFinite -/
theorem c_iIsFinite (v n : Nat) (w : World) (j : Nat) : Calls Try.prog 51 #[.float .f32 (pick .f32 v n)] (w.drewN j) (RetV (.bool (finB .f32 v)) w) := by
  go_enter Try.func51, Try.ntmps51
  go_wp2_with (first | (refine wpList_cvU rfl 22 26 _ rfl (Option.isSome_iff_exists.2 ⟨_, Try.underlying22⟩) Try.underlying26 _ rfl _ ?_; intro _ _) | (go_at_call 91; refine (c_isFinite64 _ _ _ _ (cvU_lt _)).mono ?_; rintro _ _ ⟨_, rfl, rfl⟩))
  go_ret
  rw [← finB_cvU]
  exact ⟨_, rfl, rfl⟩
/-! ### sameFloat -/
theorem c_sameFloat (v n m : Nat) (w : World) (j : Nat) : Calls Try.prog 17 #[.float .f64 (pick .f64 v n), .float .f64 (pick .f64 v m)] (w.drewN j) (RetV (.bool true) w) := by
  have hs := self_ne .f64 v
  have ht := self_eq .f64 v
  cases h : isN .f64 v
  · rw [h] at hs ht
    cases h2 : (FloatKind.f64.format.order v 0 == some .eq)
    · go_enter Try.func17, Try.ntmps17
      go_wp2_with (first | (refine wpList_fop rfl _ _ _ _ _ rfl _ _ _ rfl rfl (by decide) _ ?_; intro _ _) | (refine upon_fop _ _ _ _ _ (by decide) ?_; intro _ _))
      go_ret
      exact ⟨_, rfl, rfl⟩
    · go_enter Try.func17, Try.ntmps17
      go_wp2_with (first | (refine wpList_fop rfl _ _ _ _ _ rfl _ _ _ rfl rfl (by decide) _ ?_; intro _ _) | (refine upon_fop _ _ _ _ _ (by decide) ?_; intro _ _))
      go_ret
      exact ⟨_, by simp, rfl⟩
  · rw [h] at hs ht
    go_enter Try.func17, Try.ntmps17
    go_wp2_with (first | (refine wpList_fop rfl _ _ _ _ _ rfl _ _ _ rfl rfl (by decide) _ ?_; intro _ _) | (refine upon_fop _ _ _ _ _ (by decide) ?_; intro _ _))
    go_ret
    exact ⟨_, rfl, rfl⟩

/-! ### FnExactHatOf -/
def hatR (v : Nat) : Nat × Bool := if finB .f32 v = true then (hatV v, true) else (0, false)
def RetT (r : Nat × Bool) (w : World) (e : Ending) (w' : World) : Prop := ∃ k m, e = .returned (.tuple #[.float .f32 (pick .f32 r.1 k), .bool r.2]) ∧ w' = w.drewN m
theorem c_sHatOf (v n : Nat) (w : World) (j : Nat) : Calls Try.prog 15 #[.float .f32 (pick .f32 v n)] (w.drewN j) (RetT (hatR v) w) := by
  unfold hatR
  cases h : finB .f32 v
  · rw [if_neg (by decide)]
    go_enter Try.func15, Try.ntmps15
    go_wp2_with ((go_at_call 49; refine (c_l01Finite _ _ _ _).mono ?_; rintro _ _ ⟨_, rfl, rfl⟩))
    go_ret2
    exact ⟨0, _, by simp only [pick_zero]; rfl, rfl⟩
  · rw [if_pos rfl]
    go_enter Try.func15, Try.ntmps15
    go_wp2_with (first | (go_at_call 49; refine (c_l01Finite _ _ _ _).mono ?_; rintro _ _ ⟨_, rfl, rfl⟩) | (go_at_call 50; refine (c_l03Hat _ _ _ _).mono ?_; rintro _ _ ⟨_, _, rfl, rfl⟩))
    go_ret2
    exact ⟨_, _, rfl, rfl⟩
theorem c_iHatOf (v n : Nat) (w : World) (j : Nat) : Calls Try.prog 16 #[.float .f32 (pick .f32 v n)] (w.drewN j) (RetT (hatR v) w) := by
  unfold hatR
  cases h : finB .f32 v
  · rw [if_neg (by decide)]
    go_enter Try.func16, Try.ntmps16
    go_wp2_with ((go_at_call 51; refine (c_iIsFinite _ _ _ _).mono ?_; rintro _ _ ⟨_, rfl, rfl⟩))
    go_ret2
    exact ⟨0, _, by simp only [pick_zero]; rfl, rfl⟩
  · rw [if_pos rfl]
    go_enter Try.func16, Try.ntmps16
    go_wp2_with (first | (go_at_call 51; refine (c_iIsFinite _ _ _ _).mono ?_; rintro _ _ ⟨_, rfl, rfl⟩) | (go_at_call 52; refine (c_weightOf _ _ _ _).mono ?_; rintro _ _ ⟨_, _, rfl, rfl⟩))
    go_ret2
    exact ⟨_, _, rfl, rfl⟩
theorem walk (v n : Nat) (w : World) (hv : v < 2 ^ FloatKind.f32.format.width) : Calls Try.prog 3 #[.float .f32 (pick .f32 v n)] w fun e w' => e = .returned (.bool true) ∧ Below w.heap.size w w' := by
  rw [← w.drewN_zero]
  have CS := Lib.hid (fun n w j => c_sHatOf v n w j)
  have CI := Lib.hid (fun n w j => c_iHatOf v n w j)
  generalize hatR v = r at *
  go_enter Try.func3, Try.ntmps3
  go_wp2_with (first | (refine wpList_cvU rfl 22 26 _ rfl (Option.isSome_iff_exists.2 ⟨_, Try.underlying22⟩) Try.underlying26 _ rfl _ ?_; intro _ _) | (go_at_call 15; refine (CS.out _ _ _).mono ?_; rintro _ _ ⟨_, _, rfl, rfl⟩) | (go_at_call 16; refine (CI.out _ _ _).mono ?_; rintro _ _ ⟨_, _, rfl, rfl⟩) | (go_at_call 17; refine (c_sameFloat _ _ _ _ _).mono ?_; rintro _ _ ⟨_, rfl, rfl⟩))
  go_ret
  exact ⟨rfl, below_drewN (Below.refl _ _) _⟩

theorem own : ownKnob Try.prog.godebug = none := by kernel_rfl
theorem laidOut : laidOutB Try.prog = true := by kernel_rfl
set_option maxRecDepth 100000 in
theorem lifted (os : Os) (started : os.Started) (H : Type) (enc : TypeId × Value → H) :
    ReturnsInHanded {} Try.checked os 3 .any (Rows.fnExactHatOfSpec.pre6 enc Try.prog Try.f3 Rows.fnExactHatOfRow.domain false) (Rows.fnExactHatOfSpec.post enc Try.prog Try.f3 false true false false) := by
  refine returnsInHanded_of_change (C := Try.checked) own started (by kernel_rfl) Try.func3
    (ChangeSpec.witness6 (enc := enc) (C := Try.checked) false ⟨#[], #[.float .f32 0], []⟩ 8 (by kernel_rfl) (by kernel_rfl) (by kernel_rfl) (by kernel_rfl)) ?_
  intro W base args ds gs before hval0 hW hcnd _
  have hval : ∀ (j : Nat) t v, Try.f3.params[j]? = some t → args[j]? = some v → Value.okWide Try.prog W .any base t v := hval0
  have hW' := hW
  obtain ⟨p, q, hA0, hV, rfl, hfz, hnd⟩ := hW
  have hA : DataW.TrodAll enc Try.prog W 0 (fun _ => true) true Try.f3.params.toList args.toList ds p := hA0
  rw [Try.params3] at hA hval
  obtain ⟨v0, vs0, d0, ds0, p0, q0, hargs, rfl, rfl, h0, r0⟩ := trodAll_cons hA
  obtain ⟨rfl, rfl, rfl⟩ := trodAll_nil r0
  obtain rfl : args = #[v0] := by cases args; simp_all
  obtain ⟨rfl, rfl⟩ := trodVars_none hV
  obtain ⟨b0, rfl, rfl, rfl, w0⟩ := open_float Try.underlying22 (hval 0 22 v0 rfl rfl) h0
  obtain ⟨n0, en0⟩ := pick_onto .f32 b0 (lt_of_wf w0)
  clear hA0 hval0
  have hcall0 := en0
  have hw0 : Calls Try.prog 3 #[.float .f32 b0] W fun e w' => e = .returned (.bool true) ∧ Below W.heap.size W w' := by
    rw [en0]
    exact walk b0 n0 W (lt_of_wf w0)
  refine hw0.mono fun e W' ⟨he, bel⟩ => ?_
  subst he
  exact ⟨_, rfl, _, _, _, [], _, [], hW', trodAll_mk1 (shut_bool Try.underlying4 _), (trodAll_cons_mk (shut_float Try.underlying22 w0) trodAll_mk0), rfl, bel.frame _, fun h => by cases h⟩

theorem over : Rows.fnExactHatOfRow.holds Try.pinned (OpenSpec.ofChange Rows.fnExactHatOfSpec) :=
  OpenClaim.holds_of_wide 3 Try.f3 rfl rfl rfl rfl rfl rfl rfl ⟨rfl, rfl, rfl, rfl, rfl⟩ rfl rfl rfl rfl rfl (by kernel_rfl) Try.func3 (by kernel_rfl)
    (of_decide_eq_true (by kernel_rfl)) (by unfold Func.isWrapper; first | (rw [if_pos (by decide +kernel)]; kernel_rfl) | (rw [if_neg (by decide +kernel)]; exact ⟨rfl, rfl⟩))
    (fun os started H enc _ => lifted os started H enc)

theorem proved : Rows.FnExactHatOfSaid := over
#print axioms proved

end Go.Proofs.Ytnnldhfgnmcfiab.fnExactHatOf

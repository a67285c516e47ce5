/-
  FnExactRootNumber: for every input this law of the program returns true, and each argument reads as before. No condition.
-/
import Derived.Test.YtfohhljadpchgadRows
import Derived.Test.YtfohhljadpchgadFl
import Derived.ProofKit
import Derived.OpenShut
import Derived.ShutString
import Derived.ChangeOld
import Derived.Below
import Derived.Lib.Hide
set_option linter.unusedSimpArgs false
set_option linter.unusedVariables false
set_option exponentiation.threshold 2000
namespace Go.Proofs.Ytfohhljadpchgad.fnExactRootNumber
open Go Go.Proofs.Ytfohhljadpchgad Go.Proofs
open Go.ChangeShapes Go.WideShapes Go.ChangeAt Go.RowKit
open Go.ChangeMaps (open_string shut_string)
/-! ### msqrt -/
theorem run_msqrt (b : Nat) (w : World) : ∃ n m, (callFunc 41 #[.float .f64 b]).run Try.prog w = .ok (.value (.float .f64 (pick .f64 (fsqrt b) n))) (w.drewN m) := by
  have e : (callFunc 41 #[.float .f64 b]).run Try.prog w = ((Extern.MathSqrt.sqrt #[.float .f64 b]).bind fun v => Sem.pure (Next.value v)).run Try.prog w := by kernel_rfl
  rw [e]
  cases h : Ieee.double.sqrt b with
  | some r =>
    refine ⟨0, 0, ?_⟩
    have e2 : Extern.MathSqrt.sqrt #[.float .f64 b] = pure (.float .f64 r) := by
      show (match Ieee.double.sqrt b with | some r => _ | none => _) = _
      rw [h]
    have e3 : fsqrt b = r := by unfold fsqrt; rw [h]; rfl
    rw [e2, e3, pick_not (sqrt_notNaN h)]; rfl
  | none =>
    have e3 : fsqrt b = qn .f64 := by unfold fsqrt; rw [h]; rfl
    refine ⟨w.tape w.drawn (.nanBits .f64 b b), 1, ?_⟩
    have e2 : Extern.MathSqrt.sqrt #[.float .f64 b] = (do pure (.float .f64 (← choose (.nanBits .f64 b b)))) := by
      show (match Ieee.double.sqrt b with | some r => _ | none => _) = _
      rw [h]
    rw [e2, e3]
    have e4 : pick .f64 (qn .f64) (w.tape w.drawn (.nanBits .f64 b b)) = (Question.nanBits .f64 b b).cut (w.tape w.drawn (.nanBits .f64 b b)) := by
      simp only [pick, isN_qn, if_true]; rfl
    rw [e4]
    rfl
/-! ### Sqrt -/
theorem c_Sqrt (v k : Nat) (w : World) (j : Nat) : Calls Try.prog 28 #[.float .f64 (pick .f64 v k)] (w.drewN j) (RetF .f64 (fsqrt v) w) := by
  obtain ⟨n, m, hr⟩ := run_msqrt (pick .f64 v k) (w.drewN j)
  rw [fsqrt_pick] at hr
  go_enter Try.func28, Try.ntmps28
  go_wp2
  go_ret
  exact ⟨_, _, rfl, rfl⟩

/-! ### sRoot -/
theorem c_sRoot (v n : Nat) (w : World) (j : Nat) : Calls Try.prog 11 #[.float .f32 (pick .f32 v n)] (w.drewN j) (RetF .f32 (cvN (fsqrt (cvU v))) w) := by
  have HF := Lib.hid (root_fits v)
  go_enter Try.func11, Try.ntmps11
  go_wp2_with (first | (refine wpList_cvU rfl 28 22 _ rfl (Option.isSome_iff_exists.2 ⟨_, Try.underlying28⟩) Try.underlying22 _ rfl _ ?_; intro _ _) | (refine wpList_cvN rfl 22 28 _ rfl (Option.isSome_iff_exists.2 ⟨_, Try.underlying22⟩) Try.underlying28 _ rfl _ (by rw [Fits_pick]; exact HF.out) ?_; intro _ _) | (go_at_call 28; refine (c_Sqrt _ _ _ _).mono ?_; rintro _ _ ⟨_, _, rfl, rfl⟩) | go_in)
  go_ret
  exact ⟨_, _, rfl, rfl⟩
/-! ### iSineTurns0 -/
theorem c_NarrowNumber (v n : Nat) (w : World) (j : Nat) (hfit : Fits v) : Calls Try.prog 27 #[.float .f64 (pick .f64 v n)] (w.drewN j) (RetF .f32 (cvN v) w) := by
  have H := Lib.hid hfit
  clear hfit
  go_enter Try.func27, Try.ntmps27
  go_wp2_with ((refine wpList_cvN rfl 22 28 _ rfl (Option.isSome_iff_exists.2 ⟨_, Try.underlying22⟩) Try.underlying28 _ rfl _ (by rw [Fits_pick]; exact H.out) ?_; intro _ _))
  go_ret
  exact ⟨_, _, rfl, rfl⟩
/-! ### iRoot -/
theorem c_iRoot (v n : Nat) (w : World) (j : Nat) : Calls Try.prog 12 #[.float .f32 (pick .f32 v n)] (w.drewN j) (RetF .f32 (cvN (fsqrt (cvU v))) w) := by
  have HF := Lib.hid (root_fits v)
  go_enter Try.func12, Try.ntmps12
  go_wp2_with (first | (refine wpList_cvU rfl 28 22 _ rfl (Option.isSome_iff_exists.2 ⟨_, Try.underlying28⟩) Try.underlying22 _ rfl _ ?_; intro _ _) | (go_at_call 28; refine (c_Sqrt _ _ _ _).mono ?_; rintro _ _ ⟨_, _, rfl, rfl⟩) | (go_at_call 27; refine (c_NarrowNumber _ _ _ _ HF.out).mono ?_; rintro _ _ ⟨_, _, rfl, rfl⟩))
  go_ret
  exact ⟨_, _, rfl, rfl⟩
/-! ### sameFloat -/
theorem c_sameFloat (v n m : Nat) (w : World) (j : Nat) : Calls Try.prog 13 #[.float .f64 (pick .f64 v n), .float .f64 (pick .f64 v m)] (w.drewN j) (RetV (.bool true) w) := by
  have hs := self_ne .f64 v
  have ht := self_eq .f64 v
  cases h : isN .f64 v
  · rw [h] at hs ht
    cases h2 : (FloatKind.f64.format.order v 0 == some .eq)
    · go_enter Try.func13, Try.ntmps13
      go_wp2_with (first | (refine wpList_fop rfl _ _ _ _ _ rfl _ _ _ rfl rfl (by decide) _ ?_; intro _ _) | (refine upon_fop _ _ _ _ _ (by decide) ?_; intro _ _))
      go_ret
      exact ⟨_, rfl, rfl⟩
    · go_enter Try.func13, Try.ntmps13
      go_wp2_with (first | (refine wpList_fop rfl _ _ _ _ _ rfl _ _ _ rfl rfl (by decide) _ ?_; intro _ _) | (refine upon_fop _ _ _ _ _ (by decide) ?_; intro _ _))
      go_ret
      exact ⟨_, by simp, rfl⟩
  · rw [h] at hs ht
    go_enter Try.func13, Try.ntmps13
    go_wp2_with (first | (refine wpList_fop rfl _ _ _ _ _ rfl _ _ _ rfl rfl (by decide) _ ?_; intro _ _) | (refine upon_fop _ _ _ _ _ (by decide) ?_; intro _ _))
    go_ret
    exact ⟨_, rfl, rfl⟩

/-! ### FnExactRootNumber -/
theorem walk (v n : Nat) (w : World) (hv : v < 2 ^ FloatKind.f32.format.width) : Calls Try.prog 5 #[.float .f32 (pick .f32 v n)] w fun e w' => e = .returned (.bool true) ∧ Below w.heap.size w w' := by
  rw [← w.drewN_zero]
  go_enter Try.func5, Try.ntmps5
  go_wp2_with (first | (refine wpList_cvU rfl 28 22 _ rfl (Option.isSome_iff_exists.2 ⟨_, Try.underlying28⟩) Try.underlying22 _ rfl _ ?_; intro _ _) | (go_at_call 11; refine (c_sRoot _ _ _ _).mono ?_; rintro _ _ ⟨_, _, rfl, rfl⟩) | (go_at_call 12; refine (c_iRoot _ _ _ _).mono ?_; rintro _ _ ⟨_, _, rfl, rfl⟩) | (go_at_call 13; refine (c_sameFloat _ _ _ _ _).mono ?_; rintro _ _ ⟨_, rfl, rfl⟩))
  go_ret
  exact ⟨rfl, below_drewN (Below.refl _ _) _⟩

theorem own : ownKnob Try.prog.godebug = none := by kernel_rfl
theorem laidOut : laidOutB Try.prog = true := by kernel_rfl
set_option maxRecDepth 100000 in
theorem lifted (os : Os) (started : os.Started) (H : Type) (enc : TypeId × Value → H) :
    ReturnsInHanded {} Try.checked os 5 .any (Rows.fnExactRootNumberSpec.pre6 enc Try.prog Try.f5 Rows.fnExactRootNumberRow.domain false) (Rows.fnExactRootNumberSpec.post enc Try.prog Try.f5 false true false false) := by
  refine returnsInHanded_of_change (C := Try.checked) own started (by kernel_rfl) Try.func5
    (ChangeSpec.witness6 (enc := enc) (C := Try.checked) false ⟨#[], #[.float .f32 0], []⟩ 8 (by kernel_rfl) (by kernel_rfl) (by kernel_rfl) (by kernel_rfl)) ?_
  intro W base args ds gs before hval0 hW hcnd _
  have hval : ∀ (j : Nat) t v, Try.f5.params[j]? = some t → args[j]? = some v → Value.okWide Try.prog W .any base t v := hval0
  have hW' := hW
  obtain ⟨p, q, hA0, hV, rfl, hfz, hnd⟩ := hW
  have hA : DataW.TrodAll enc Try.prog W 0 (fun _ => true) true Try.f5.params.toList args.toList ds p := hA0
  rw [Try.params5] at hA hval
  obtain ⟨v0, vs0, d0, ds0, p0, q0, hargs, rfl, rfl, h0, r0⟩ := trodAll_cons hA
  obtain ⟨rfl, rfl, rfl⟩ := trodAll_nil r0
  obtain rfl : args = #[v0] := by cases args; simp_all
  obtain ⟨rfl, rfl⟩ := trodVars_none hV
  obtain ⟨b0, rfl, rfl, rfl, w0⟩ := open_float Try.underlying28 (hval 0 28 v0 rfl rfl) h0
  obtain ⟨n0, en0⟩ := pick_onto .f32 b0 (lt_of_wf w0)
  clear hA0 hval0
  have hcall0 := en0
  have hw0 : Calls Try.prog 5 #[.float .f32 b0] W fun e w' => e = .returned (.bool true) ∧ Below W.heap.size W w' := by
    rw [en0]
    exact walk b0 n0 W (lt_of_wf w0)
  refine hw0.mono fun e W' ⟨he, bel⟩ => ?_
  subst he
  exact ⟨_, rfl, _, _, _, [], _, [], hW', trodAll_mk1 (shut_bool Try.underlying4 _), (trodAll_cons_mk (shut_float Try.underlying28 w0) trodAll_mk0), rfl, bel.frame _, fun h => by cases h⟩

theorem over : Rows.fnExactRootNumberRow.holds Try.pinned (OpenSpec.ofChange Rows.fnExactRootNumberSpec) :=
  OpenClaim.holds_of_wide 5 Try.f5 rfl rfl rfl rfl rfl rfl rfl ⟨rfl, rfl, rfl, rfl, rfl⟩ rfl rfl rfl rfl rfl (by kernel_rfl) Try.func5 (by kernel_rfl)
    (of_decide_eq_true (by kernel_rfl)) (by unfold Func.isWrapper; first | (rw [if_pos (by decide +kernel)]; kernel_rfl) | (rw [if_neg (by decide +kernel)]; exact ⟨rfl, rfl⟩))
    (fun os started H enc _ => lifted os started H enc)

theorem proved : Rows.FnExactRootNumberSaid := over
#print axioms proved

end Go.Proofs.Ytfohhljadpchgad.fnExactRootNumber

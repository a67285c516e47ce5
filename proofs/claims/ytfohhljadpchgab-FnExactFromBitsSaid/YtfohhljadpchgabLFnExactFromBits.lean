/-
  FnExactFromBits: for every input this law of the program returns true, and each argument reads as before. No condition.
-/
import Derived.Test.YtfohhljadpchgabRows
import Derived.Test.YtfohhljadpchgabFl
import Derived.ProofKit
import Derived.OpenShut
import Derived.ShutString
import Derived.ChangeOld
import Derived.Below
import Derived.Lib.Hide
set_option linter.unusedSimpArgs false
set_option linter.unusedVariables false
set_option exponentiation.threshold 2000
namespace Go.Proofs.Ytfohhljadpchgab.fnExactFromBits
open Go Go.Proofs.Ytfohhljadpchgab Go.Proofs
open Go.ChangeShapes Go.WideShapes Go.ChangeAt Go.RowKit
open Go.ChangeMaps (open_string shut_string)
/-! ### f32from -/
@[go_sem] theorem e_f32from (n : Int) (w : World) : (callFunc 21 #[.int .u32 n]).run Try.prog w = .ok (.value (.float .f32 n.toNat)) w := by kernel_rfl
/-! ### sFromBits -/
theorem c_sFromBits_no (n : Int) (w : World) (j : Nat) (h : n < 0 ∨ 4294967295 < n) : Calls Try.prog 10 #[.int .i64 n] (w.drewN j) (RetV (.tuple #[.float .f32 0, .bool false]) w) := by
  rcases h with h | h
  · go_enter Try.func10, Try.ntmps10
    go_wp2
    go_ret2
    exact ⟨_, rfl, rfl⟩
  · have h' : 0 ≤ n := by omega
    have hd : decide (n ≤ 4294967295) = false := decide_eq_false (by omega)
    go_enter Try.func10, Try.ntmps10
    go_wp2
    go_ret2
    exact ⟨_, rfl, rfl⟩
theorem c_sFromBits_yes (n : Int) (w : World) (j : Nat) (h1 : 0 ≤ n) (h2 : n ≤ 4294967295) : Calls Try.prog 10 #[.int .i64 n] (w.drewN j) (RetV (.tuple #[.float .f32 n.toNat, .bool true]) w) := by
  go_enter Try.func10, Try.ntmps10
  go_wp2
  go_ret2
  exact ⟨_, rfl, rfl⟩
/-! ### iFromBits -/
theorem c_iFromBits_no (n : Int) (w : World) (j : Nat) (h : n < 0 ∨ 4294967295 < n) : Calls Try.prog 11 #[.int .i64 n] (w.drewN j) (RetV (.tuple #[.float .f32 0, .bool false]) w) := by
  rcases h with h | h
  · go_enter Try.func11, Try.ntmps11
    go_wp2
    go_ret2
    exact ⟨_, rfl, rfl⟩
  · have h' : 0 ≤ n := by omega
    go_enter Try.func11, Try.ntmps11
    go_wp2
    go_ret2
    exact ⟨_, rfl, rfl⟩
theorem c_iFromBits_yes (n : Int) (w : World) (j : Nat) (h1 : 0 ≤ n) (h2 : n ≤ 4294967295) : Calls Try.prog 11 #[.int .i64 n] (w.drewN j) (RetV (.tuple #[.float .f32 n.toNat, .bool true]) w) := by
  go_enter Try.func11, Try.ntmps11
  go_wp2
  go_ret2
  exact ⟨_, rfl, rfl⟩
/-! ### sameFloat -/
theorem c_sameFloat (v n m : Nat) (w : World) (j : Nat) : Calls Try.prog 12 #[.float .f64 (pick .f64 v n), .float .f64 (pick .f64 v m)] (w.drewN j) (RetV (.bool true) w) := by
  have hs := self_ne .f64 v
  have ht := self_eq .f64 v
  cases h : isN .f64 v
  · rw [h] at hs ht
    cases h2 : (FloatKind.f64.format.order v 0 == some .eq)
    · go_enter Try.func12, Try.ntmps12
      go_wp2_with (refine wpList_fop rfl _ _ _ _ _ rfl _ _ _ rfl rfl (by decide) _ ?_; intro _ _)
      go_ret
      exact ⟨_, rfl, rfl⟩
    · go_enter Try.func12, Try.ntmps12
      go_wp2_with (refine wpList_fop rfl _ _ _ _ _ rfl _ _ _ rfl rfl (by decide) _ ?_; intro _ _)
      go_ret
      exact ⟨_, by simp, rfl⟩
  · rw [h] at hs ht
    go_enter Try.func12, Try.ntmps12
    go_wp2_with (refine wpList_fop rfl _ _ _ _ _ rfl _ _ _ rfl rfl (by decide) _ ?_; intro _ _)
    go_ret
    exact ⟨_, rfl, rfl⟩

/-! ### FnExactFromBits -/
theorem walk (n : Int) (w : World) (hn : (Lit.int .i64 n).wf = true) : Calls Try.prog 5 #[.int .i64 n] w fun e w' => e = .returned (.bool true) ∧ Below w.heap.size w w' := by
  rw [← w.drewN_zero]
  by_cases h : n < 0 ∨ 4294967295 < n
  · go_enter Try.func5, Try.ntmps5
    go_wp2_with (first | (refine wpList_cvU rfl 22 28 _ rfl (Option.isSome_iff_exists.2 ⟨_, Try.underlying22⟩) Try.underlying28 _ rfl _ ?_; intro _ _) | (go_at_call 10; refine (c_sFromBits_no _ _ _ h).mono ?_; rintro _ _ ⟨_, rfl, rfl⟩) | (go_at_call 11; refine (c_iFromBits_no _ _ _ h).mono ?_; rintro _ _ ⟨_, rfl, rfl⟩) | (go_at_call 12; refine (c_sameFloat _ _ _ _ _).mono ?_; rintro _ _ ⟨_, rfl, rfl⟩))
    go_ret
    exact ⟨rfl, below_drewN (Below.refl _ _) _⟩
  · have h1 : 0 ≤ n := by omega
    have h2 : n ≤ 4294967295 := by omega
    clear h
    go_enter Try.func5, Try.ntmps5
    go_wp2_with (first | (refine wpList_cvU rfl 22 28 _ rfl (Option.isSome_iff_exists.2 ⟨_, Try.underlying22⟩) Try.underlying28 _ rfl _ ?_; intro _ _) | (go_at_call 10; refine (c_sFromBits_yes _ _ _ h1 h2).mono ?_; rintro _ _ ⟨_, rfl, rfl⟩) | (go_at_call 11; refine (c_iFromBits_yes _ _ _ h1 h2).mono ?_; rintro _ _ ⟨_, rfl, rfl⟩) | (go_at_call 12; refine (c_sameFloat _ _ _ _ _).mono ?_; rintro _ _ ⟨_, rfl, rfl⟩))
    go_ret
    exact ⟨rfl, below_drewN (Below.refl _ _) _⟩

theorem own : ownKnob Try.prog.godebug = none := by kernel_rfl
theorem laidOut : laidOutB Try.prog = true := by kernel_rfl
set_option maxRecDepth 100000 in
theorem lifted (os : Os) (started : os.Started) (H : Type) (enc : TypeId × Value → H) :
    ReturnsInHanded {} Try.checked os 5 .any (Rows.fnExactFromBitsSpec.pre6 enc Try.prog Try.f5 Rows.fnExactFromBitsRow.domain false) (Rows.fnExactFromBitsSpec.post enc Try.prog Try.f5 false true false false) := by
  refine returnsInHanded_of_change (C := Try.checked) own started (by kernel_rfl) Try.func5
    (ChangeSpec.witness6 (enc := enc) (C := Try.checked) false ⟨#[], #[.int .i64 0], []⟩ 8 (by kernel_rfl) (by kernel_rfl) (by kernel_rfl) (by kernel_rfl)) ?_
  intro W base args ds gs before hval0 hW hcnd _
  have hval : ∀ (j : Nat) t v, Try.f5.params[j]? = some t → args[j]? = some v → Value.okWide Try.prog W .any base t v := hval0
  have hW' := hW
  obtain ⟨p, q, hA0, hV, rfl, hfz, hnd⟩ := hW
  have hA : DataW.TrodAll enc Try.prog W 0 (fun _ => true) true Try.f5.params.toList args.toList ds p := hA0
  rw [Try.params5] at hA hval
  obtain ⟨v0, vs0, d0, ds0, p0, q0, hargs, rfl, rfl, h0, r0⟩ := trodAll_cons hA
  obtain ⟨rfl, rfl, rfl⟩ := trodAll_nil r0
  obtain rfl : args = #[v0] := by cases args; simp_all
  obtain ⟨rfl, rfl⟩ := trodVars_none hV
  obtain ⟨a0, rfl, rfl, rfl, w0⟩ := open_int Try.underlying2 (hval 0 2 v0 rfl rfl) h0
  clear hA0 hval0
  have hw0 : Calls Try.prog 5 #[.int .i64 a0] W fun e w' => e = .returned (.bool true) ∧ Below W.heap.size W w' := by
    exact walk a0 W w0
  refine hw0.mono fun e W' ⟨he, bel⟩ => ?_
  subst he
  exact ⟨_, rfl, _, _, _, [], _, [], hW', trodAll_mk1 (shut_bool Try.underlying4 _), (trodAll_cons_mk (shut_int Try.underlying2 w0) trodAll_mk0), rfl, bel.frame _, fun h => by cases h⟩

theorem over : Rows.fnExactFromBitsRow.holds Try.pinned (OpenSpec.ofChange Rows.fnExactFromBitsSpec) :=
  OpenClaim.holds_of_wide 5 Try.f5 rfl rfl rfl rfl rfl rfl rfl ⟨rfl, rfl, rfl, rfl, rfl⟩ rfl rfl rfl rfl rfl (by kernel_rfl) Try.func5 (by kernel_rfl)
    (of_decide_eq_true (by kernel_rfl)) (by unfold Func.isWrapper; first | (rw [if_pos (by decide +kernel)]; kernel_rfl) | (rw [if_neg (by decide +kernel)]; exact ⟨rfl, rfl⟩))
    (fun os started H enc _ => lifted os started H enc)

theorem proved : Rows.FnExactFromBitsSaid := over
#print axioms proved

end Go.Proofs.Ytfohhljadpchgab.fnExactFromBits

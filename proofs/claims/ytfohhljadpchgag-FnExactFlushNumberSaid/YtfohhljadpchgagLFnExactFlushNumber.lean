/-
  FnExactFlushNumber: for every input this law of the program returns true, and each argument reads as before. No condition.
-/
import Derived.Test.YtfohhljadpchgagRows
import Derived.Test.YtfohhljadpchgagFl
import Derived.ProofKit
import Derived.OpenShut
import Derived.ShutString
import Derived.ChangeOld
import Derived.Below
import Derived.Lib.Hide
set_option linter.unusedSimpArgs false
set_option linter.unusedVariables false
set_option exponentiation.threshold 2000
namespace Go.Proofs.Ytfohhljadpchgag.fnExactFlushNumber
open Go Go.Proofs.Ytfohhljadpchgag Go.Proofs
open Go.ChangeShapes Go.WideShapes Go.ChangeAt Go.RowKit
open Go.ChangeMaps (open_string shut_string)
/-! ### f32bits -/
@[go_sem] theorem e_f32bits (b : Nat) (w : World) : (callFunc 47 #[.float .f32 b]).run Try.prog w = .ok (.value (.int .u32 b)) w := by kernel_rfl
/-! ### l01Bits -/
theorem c_l01Bits (v n : Nat) (w : World) (j : Nat) (hv : v < 2 ^ FloatKind.f32.format.width) : Calls Try.prog 35 #[.float .f32 (pick .f32 v n)] (w.drewN j) (RetV (.int .i64 (bitsI v)) w) := by
  have hv' : v < 4294967296 := hv
  cases h : isN .f32 v
  · have e : bitsI v = v := by simp [bitsI, h]
    rw [e, pick_not h]
    have hs := self_ne .f32 v
    rw [h] at hs
    go_enter Try.func35, Try.ntmps35
    go_wp2
    go_ret
    exact ⟨_, rfl, rfl⟩
  · have e : bitsI v = 2143289344 := by simp [bitsI, h]
    rw [e]
    go_enter Try.func35, Try.ntmps35
    go_wp2
    go_ret
    exact ⟨_, rfl, rfl⟩
/-! ### f32from -/
@[go_sem] theorem e_f32from (n : Int) (w : World) : (callFunc 42 #[.int .u32 n]).run Try.prog w = .ok (.value (.float .f32 n.toNat)) w := by kernel_rfl
/-! ### sFlush -/
theorem c_l01Flush (v n : Nat) (w : World) (j : Nat) (hv : v < 2 ^ FloatKind.f32.format.width) : Calls Try.prog 21 #[.float .f32 (pick .f32 v n)] (w.drewN j) (RetF .f32 (flushF v) w) := by
  have hv' : v < 4294967296 := hv
  cases h : isN .f32 v
  · have hbi : bitsI v = v := by simp [bitsI, h]
    have hm := expo_mask v hv'
    have hsg := sign_mask v hv'
    cases h2 : decide (rung Ieee.single v < 8388608)
    · have e : flushF v = v := by unfold flushF; rw [if_neg (of_decide_eq_false h2)]
      rw [h2] at hm
      rw [e]
      clear hsg
      go_enter Try.func21, Try.ntmps21
      go_wp2_with (first | (go_at_call 35; refine (c_l01Bits _ _ _ _ hv).mono ?_; rintro _ _ ⟨_, rfl, rfl⟩) | go_in)
      go_ret
      exact ⟨_, _, rfl, rfl⟩
    · have e : flushF v = (if sgn Ieee.single v then 2147483648 else 0) := by unfold flushF; rw [if_pos (of_decide_eq_true h2)]
      rw [h2] at hm
      rw [e]
      cases hs : sgn Ieee.single v
      · rw [hs] at hsg
        have hsg' : bits .and .i64 (v : Int) 2147483648 = 0 := hsg
        clear hsg
        go_enter Try.func21, Try.ntmps21
        go_wp2_with (first | (go_at_call 35; refine (c_l01Bits _ _ _ _ hv).mono ?_; rintro _ _ ⟨_, rfl, rfl⟩) | go_in)
        go_ret
        exact ⟨0, _, by rw [pick_not (show isN .f32 0 = false by decide +kernel)]; rfl, rfl⟩
      · rw [hs] at hsg
        have hsg' : bits .and .i64 (v : Int) 2147483648 = 2147483648 := hsg
        clear hsg
        go_enter Try.func21, Try.ntmps21
        go_wp2_with (first | (go_at_call 35; refine (c_l01Bits _ _ _ _ hv).mono ?_; rintro _ _ ⟨_, rfl, rfl⟩) | go_in)
        go_ret
        exact ⟨0, _, by rw [pick_not (show isN .f32 2147483648 = false by decide +kernel)]; rfl, rfl⟩
  · have hbi : bitsI v = 2143289344 := by simp [bitsI, h]
    have e : flushF v = v := by
      have := rung_nan h
      unfold flushF; rw [if_neg (by omega)]
    rw [e]
    go_enter Try.func21, Try.ntmps21
    go_wp2_with (first | (go_at_call 35; refine (c_l01Bits _ _ _ _ hv).mono ?_; rintro _ _ ⟨_, rfl, rfl⟩) | go_in)
    go_ret
    exact ⟨_, _, rfl, rfl⟩
theorem c_sFlush (v n : Nat) (w : World) (j : Nat) (hv : v < 2 ^ FloatKind.f32.format.width) : Calls Try.prog 8 #[.float .f32 (pick .f32 v n)] (w.drewN j) (RetF .f32 (flushF v) w) := by
  go_enter Try.func8, Try.ntmps8
  go_wp2_with ((go_at_call 21; refine (c_l01Flush _ _ _ _ hv).mono ?_; rintro _ _ ⟨_, _, rfl, rfl⟩))
  go_ret
  exact ⟨_, _, rfl, rfl⟩
/-! ### f64bits -/
@[go_sem] theorem e_f64bits (b : Nat) (w : World) : (callFunc 38 #[.float .f64 b]).run Try.prog w = .ok (.value (.int .u64 b)) w := by kernel_rfl
/-! ### f64from -/
@[go_sem] theorem e_f64from (n : Int) (w : World) : (callFunc 37 #[.int .u64 n]).run Try.prog w = .ok (.value (.float .f64 n.toNat)) w := by kernel_rfl
/-! ### Copysign0 -/
theorem c_Copysign0 (v : Nat) (w : World) (j : Nat) (hv : v < 18446744073709551616) : Calls Try.prog 23 #[.float .f64 0, .float .f64 v] (w.drewN j) (RetV (.float .f64 (szero v)) w) := by
  have h1 : bits .and .u64 (v : Int) 9223372036854775808 = (szero v : Int) := u64_and_sign v hv
  have h2 : bits .or .u64 0 (szero v : Int) = (szero v : Int) := zero_or _
  have h3 := zero_andNot
  go_enter Try.func23, Try.ntmps23
  go_wp2
  go_ret
  exact ⟨_, rfl, rfl⟩
/-! ### iIsSubnormal -/
theorem c_iIsSubnormal (v n : Nat) (w : World) (j : Nat) : Calls Try.prog 22 #[.float .f32 (pick .f32 v n)] (w.drewN j) (RetV (.bool (subB v)) w) := by
  cases h : isN .f32 v
  · have hz := ne_zero_iff v h
    have hm := sub_low v h
    by_cases h0 : 0 < rung Ieee.single v
    · rw [decide_eq_true h0] at hz
      have e : subB v = decide (rung Ieee.single v < 8388608) := by unfold subB; rw [decide_eq_true h0]; rfl
      rw [e, ← hm]
      clear hm
      cases h1 : (FloatKind.f32.format.order v 2155872256 == some .gt)
      · go_enter Try.func22, Try.ntmps22
        go_wp2
        go_ret
        exact ⟨_, rfl, rfl⟩
      · go_enter Try.func22, Try.ntmps22
        go_wp2
        go_ret
        exact ⟨_, rfl, rfl⟩
    · rw [decide_eq_false h0] at hz
      have e : subB v = false := by unfold subB; rw [decide_eq_false h0]; rfl
      rw [e]
      clear hm
      go_enter Try.func22, Try.ntmps22
      go_wp2
      go_ret
      exact ⟨_, rfl, rfl⟩
  · have hz : (FloatKind.f32.format.order v 0 != some .eq) = true := by rw [order_nan_l 0 h]; rfl
    have h1 : (FloatKind.f32.format.order v 2155872256 == some .gt) = false := by rw [order_nan_l _ h]; rfl
    rw [subB_nan h]
    go_enter Try.func22, Try.ntmps22
    go_wp2
    go_ret
    exact ⟨_, rfl, rfl⟩
/-! ### iFlush -/
theorem c_iFlush (v n : Nat) (w : World) (j : Nat) (hv : v < 2 ^ FloatKind.f32.format.width) : Calls Try.prog 9 #[.float .f32 (pick .f32 v n)] (w.drewN j) (RetF .f32 (flushF v) w) := by
  cases h : subB v
  · rw [flush_not hv h]
    go_enter Try.func9, Try.ntmps9
    go_wp2_with (first | (go_at_call 22; refine (c_iIsSubnormal _ _ _ _).mono ?_; rintro _ _ ⟨_, rfl, rfl⟩))
    go_ret
    exact ⟨_, _, rfl, rfl⟩
  · have hn : isN .f64 (cvU v) = false := by
      rw [isN_cvU]
      cases hn : isN .f32 v
      · rfl
      · rw [subB_nan hn] at h; cases h
    have hp := pick_not hn
    have H := Lib.hid (szero_flush h)
    have HF := Lib.hid (szero_fits (cvU v))
    clear hn
    go_enter Try.func9, Try.ntmps9
    go_wp2_with (first | (refine wpList_cvU rfl 22 25 _ rfl (Option.isSome_iff_exists.2 ⟨_, Try.underlying22⟩) Try.underlying25 _ rfl _ ?_; intro _ _) | (refine wpList_cvN rfl 25 22 _ rfl (Option.isSome_iff_exists.2 ⟨_, Try.underlying25⟩) Try.underlying22 _ rfl _ (by exact HF.out) ?_; intro _ _) | (go_at_call 22; refine (c_iIsSubnormal _ _ _ _).mono ?_; rintro _ _ ⟨_, rfl, rfl⟩) | (go_at_call 23; refine (c_Copysign0 _ _ _ (cvU_lt _)).mono ?_; rintro _ _ ⟨_, rfl, rfl⟩))
    go_ret
    rw [← H.out]
    exact ⟨_, _, rfl, rfl⟩
/-! ### sameFloat -/
theorem c_sameFloat (v n m : Nat) (w : World) (j : Nat) : Calls Try.prog 10 #[.float .f64 (pick .f64 v n), .float .f64 (pick .f64 v m)] (w.drewN j) (RetV (.bool true) w) := by
  have hs := self_ne .f64 v
  have ht := self_eq .f64 v
  cases h : isN .f64 v
  · rw [h] at hs ht
    cases h2 : (FloatKind.f64.format.order v 0 == some .eq)
    · go_enter Try.func10, Try.ntmps10
      go_wp2_with (first | (refine wpList_fop rfl _ _ _ _ _ rfl _ _ _ rfl rfl (by decide) _ ?_; intro _ _) | (refine upon_fop _ _ _ _ _ (by decide) ?_; intro _ _))
      go_ret
      exact ⟨_, rfl, rfl⟩
    · go_enter Try.func10, Try.ntmps10
      go_wp2_with (first | (refine wpList_fop rfl _ _ _ _ _ rfl _ _ _ rfl rfl (by decide) _ ?_; intro _ _) | (refine upon_fop _ _ _ _ _ (by decide) ?_; intro _ _))
      go_ret
      exact ⟨_, by simp, rfl⟩
  · rw [h] at hs ht
    go_enter Try.func10, Try.ntmps10
    go_wp2_with (first | (refine wpList_fop rfl _ _ _ _ _ rfl _ _ _ rfl rfl (by decide) _ ?_; intro _ _) | (refine upon_fop _ _ _ _ _ (by decide) ?_; intro _ _))
    go_ret
    exact ⟨_, rfl, rfl⟩

/-! ### FnExactFlushNumber -/
theorem walk (v n : Nat) (w : World) (hv : v < 2 ^ FloatKind.f32.format.width) : Calls Try.prog 3 #[.float .f32 (pick .f32 v n)] w fun e w' => e = .returned (.bool true) ∧ Below w.heap.size w w' := by
  rw [← w.drewN_zero]
  go_enter Try.func3, Try.ntmps3
  go_wp2_with (first | (refine wpList_cvU rfl 22 25 _ rfl (Option.isSome_iff_exists.2 ⟨_, Try.underlying22⟩) Try.underlying25 _ rfl _ ?_; intro _ _) | (go_at_call 8; refine (c_sFlush _ _ _ _ hv).mono ?_; rintro _ _ ⟨_, _, rfl, rfl⟩) | (go_at_call 9; refine (c_iFlush _ _ _ _ hv).mono ?_; rintro _ _ ⟨_, _, rfl, rfl⟩) | (go_at_call 10; refine (c_sameFloat _ _ _ _ _).mono ?_; rintro _ _ ⟨_, rfl, rfl⟩))
  go_ret
  exact ⟨rfl, below_drewN (Below.refl _ _) _⟩
theorem own : ownKnob Try.prog.godebug = none := by kernel_rfl
theorem laidOut : laidOutB Try.prog = true := by kernel_rfl
set_option maxRecDepth 100000 in
theorem lifted (os : Os) (started : os.Started) (H : Type) (enc : TypeId × Value → H) :
    ReturnsInHanded {} Try.checked os 3 .any (Rows.fnExactFlushNumberSpec.pre6 enc Try.prog Try.f3 Rows.fnExactFlushNumberRow.domain false) (Rows.fnExactFlushNumberSpec.post enc Try.prog Try.f3 false true false false) := by
  refine returnsInHanded_of_change (C := Try.checked) own started (by kernel_rfl) Try.func3
    (ChangeSpec.witness6 (enc := enc) (C := Try.checked) false ⟨#[], #[.float .f32 0], []⟩ 8 (by kernel_rfl) (by kernel_rfl) (by kernel_rfl) (by kernel_rfl)) ?_
  intro W base args ds gs before hval0 hW hcnd _
  have hval : ∀ (j : Nat) t v, Try.f3.params[j]? = some t → args[j]? = some v → Value.okWide Try.prog W .any base t v := hval0
  have hW' := hW
  obtain ⟨p, q, hA0, hV, rfl, hfz, hnd⟩ := hW
  have hA : DataW.TrodAll enc Try.prog W 0 (fun _ => true) true Try.f3.params.toList args.toList ds p := hA0
  rw [Try.params3] at hA hval
  obtain ⟨v0, vs0, d0, ds0, p0, q0, hargs, rfl, rfl, h0, r0⟩ := trodAll_cons hA
  obtain ⟨rfl, rfl, rfl⟩ := trodAll_nil r0
  obtain rfl : args = #[v0] := by cases args; simp_all
  obtain ⟨rfl, rfl⟩ := trodVars_none hV
  obtain ⟨b0, rfl, rfl, rfl, w0⟩ := open_float Try.underlying22 (hval 0 22 v0 rfl rfl) h0
  obtain ⟨n0, en0⟩ := pick_onto .f32 b0 (lt_of_wf w0)
  clear hA0 hval0
  have hcall0 := en0
  have hw0 : Calls Try.prog 3 #[.float .f32 b0] W fun e w' => e = .returned (.bool true) ∧ Below W.heap.size W w' := by
    rw [en0]
    exact walk b0 n0 W (lt_of_wf w0)
  refine hw0.mono fun e W' ⟨he, bel⟩ => ?_
  subst he
  exact ⟨_, rfl, _, _, _, [], _, [], hW', trodAll_mk1 (shut_bool Try.underlying4 _), (trodAll_cons_mk (shut_float Try.underlying22 w0) trodAll_mk0), rfl, bel.frame _, fun h => by cases h⟩

theorem over : Rows.fnExactFlushNumberRow.holds Try.pinned (OpenSpec.ofChange Rows.fnExactFlushNumberSpec) :=
  OpenClaim.holds_of_wide 3 Try.f3 rfl rfl rfl rfl rfl rfl rfl ⟨rfl, rfl, rfl, rfl, rfl⟩ rfl rfl rfl rfl rfl (by kernel_rfl) Try.func3 (by kernel_rfl)
    (of_decide_eq_true (by kernel_rfl)) (by unfold Func.isWrapper; first | (rw [if_pos (by decide +kernel)]; kernel_rfl) | (rw [if_neg (by decide +kernel)]; exact ⟨rfl, rfl⟩))
    (fun os started H enc _ => lifted os started H enc)

theorem proved : Rows.FnExactFlushNumberSaid := over
#print axioms proved

end Go.Proofs.Ytfohhljadpchgag.fnExactFlushNumber

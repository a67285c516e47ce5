/-
  FnExactClearnessOf: for every input this law of the program returns true, and each argument reads as before. No condition.
-/
import Derived.Test.YtnnldhfgnmcfiabRows
import Derived.Test.YtnnldhfgnmcfiabRow
import Derived.Test.YtnnldhfgnmcfiabAp
import Derived.ProofKit
import Derived.OpenShut
import Derived.ShutString
import Derived.ChangeOld
import Derived.Below
import Derived.Lib.Hide
import Derived.Outline
import Derived.Deep.RegionHeld3
import Derived.Deep.DeepCutAuto
set_option linter.unusedSimpArgs false
set_option linter.unusedVariables false
set_option exponentiation.threshold 2000
set_option maxRecDepth 20000
set_option maxHeartbeats 4000000
namespace Go.Proofs.Ytnnldhfgnmcfiab.fnExactClearnessOf
open Go Go.Proofs.Ytnnldhfgnmcfiab Go.Proofs
open Go.ChangeShapes Go.WideShapes Go.ChangeAt Go.RowKit
open Go.ChangeMaps (open_string shut_string)
/-! ### picDefs -/
def sideB (W H : Int) : Bool := decide (1 ≤ W) && decide (W ≤ 16) && (decide (1 ≤ H) && decide (H ≤ 16))
def finL (zs : List Nat) : Bool := zs.all (finB .f32)
def validB (W H : Int) (zs : List Nat) : Bool := sideB W H && decide ((zs.length : Int) = W * H) && finL zs
theorem sideB_true {W H : Int} (h : sideB W H = true) : (1 ≤ W ∧ W ≤ 16) ∧ 1 ≤ H ∧ H ≤ 16 := by simpa [sideB, and_assoc] using h
theorem side_mul {W H : Int} (h : sideB W H = true) : 1 ≤ W * H ∧ W * H ≤ 256 := by
  obtain ⟨⟨h1, h2⟩, h3, h4⟩ := sideB_true h
  have : W * H ≤ 16 * 16 := Int.mul_le_mul h2 h4 (by omega) (by omega)
  have h5 : 1 * 1 ≤ W * H := Int.mul_le_mul h1 h3 (by omega) (by omega)
  omega
theorem sideB_false {W H : Int} (h : sideB W H = false) : W < 1 ∨ 16 < W ∨ H < 1 ∨ 16 < H := by
  simp [sideB] at h; omega
theorem finL_snoc (zs : List Nat) (k : Nat) (hk : k < zs.length) : finL (zs.take (k + 1)) = (finL (zs.take k) && finB .f32 (fat zs k)) := by
  unfold finL fat
  rw [List.take_succ_eq_append_getElem hk, List.all_append, List.getD, List.getElem?_eq_getElem hk]; simp
theorem finL_of (zs : List Nat) (k : Nat) (hk : k < zs.length) (h : finB .f32 (fat zs k) = false) : finL zs = false := by
  unfold finL
  rw [List.all_eq_false]
  refine ⟨zs[k], List.getElem_mem hk, ?_⟩
  unfold fat at h
  rw [List.getD, List.getElem?_eq_getElem hk] at h
  simpa using h
theorem pick0 (k : FloatKind) (v : Nat) (hv : v < 2 ^ k.format.width) : ∃ n, v = pick k v n := pick_onto k v hv
/-! ### meanDefs -/
def meanV (zs : List Nat) : Nat := fop .quo .f32 (sumF .add .f32 0 zs) (floatOfInt .f32 (zs.length : Int))
def numR (v : Nat) : Nat × Bool := if finB .f32 v = true then (v, true) else (0, false)
def meanR (W H : Int) (zs : List Nat) : Nat × Bool := if validB W H zs = true then numR (meanV zs) else (0, false)
theorem mean_len {W H : Int} {zs : List Nat} (h : validB W H zs = true) : zs.length ≤ 256 := by
  simp only [validB, Bool.and_eq_true, decide_eq_true_eq] at h
  obtain ⟨⟨h1, h2⟩, h3⟩ := h
  have := side_mul h1
  omega
theorem pick00 : pick .f32 0 0 = 0 := pick_not (show isN .f32 0 = false from by decide +kernel) 0
/-! ### ordDefs -/
theorem cmp_bools (a b : Int) : ((some (compare a b) == some Ordering.lt) = decide (a < b)) ∧ ((some (compare a b) == some Ordering.gt) = decide (b < a)) ∧ ((some (compare a b) == some Ordering.eq) = decide (a = b)) := by
  rcases Int.lt_trichotomy a b with h | h | h
  · rw [cmp_of_lt h, decide_eq_true h, decide_eq_false (by omega), decide_eq_false (by omega)]; exact ⟨rfl, rfl, rfl⟩
  · subst h; rw [Int.compare_eq_eq.2 rfl, decide_eq_false (by omega), decide_eq_true rfl]; exact ⟨rfl, rfl, rfl⟩
  · rw [cmp_of_gt h, decide_eq_false (by omega), decide_eq_true h, decide_eq_false (by omega)]; exact ⟨rfl, rfl, rfl⟩
theorem o_lt {v c : Nat} (h : isN .f32 v = false) (hc : isN .f32 c = false) : (FloatKind.f32.format.order v c == some .lt) = decide (srung FloatKind.f32.format v < srung FloatKind.f32.format c) := by
  rw [order_rungs .f32 v c h hc]; exact (cmp_bools _ _).1
theorem o_gt {v c : Nat} (h : isN .f32 v = false) (hc : isN .f32 c = false) : (FloatKind.f32.format.order v c == some .gt) = decide (srung FloatKind.f32.format c < srung FloatKind.f32.format v) := by
  rw [order_rungs .f32 v c h hc]; exact (cmp_bools _ _).2.1
theorem o_eq {v c : Nat} (h : isN .f32 v = false) (hc : isN .f32 c = false) : (FloatKind.f32.format.order v c == some .eq) = decide (srung FloatKind.f32.format v = srung FloatKind.f32.format c) := by
  rw [order_rungs .f32 v c h hc]; exact (cmp_bools _ _).2.2
theorem o_le {v c : Nat} (h : isN .f32 v = false) (hc : isN .f32 c = false) : (FloatKind.f32.format.order v c == some .lt || FloatKind.f32.format.order v c == some .eq) = decide (srung FloatKind.f32.format v ≤ srung FloatKind.f32.format c) := by
  rw [o_lt h hc, o_eq h hc, ← Bool.decide_or]; exact decide_eq_decide.2 (by omega)
theorem o_ge {v c : Nat} (h : isN .f32 v = false) (hc : isN .f32 c = false) : (FloatKind.f32.format.order v c == some .gt || FloatKind.f32.format.order v c == some .eq) = decide (srung FloatKind.f32.format c ≤ srung FloatKind.f32.format v) := by
  rw [o_gt h hc, o_eq h hc, ← Bool.decide_or]; exact decide_eq_decide.2 (by omega)
theorem s_zero : srung FloatKind.f32.format 0 = 0 := by decide +kernel
theorem s_half : srung FloatKind.f32.format 1056964608 = 1056964608 := by decide +kernel
theorem s_one : srung FloatKind.f32.format 1065353216 = 1065353216 := by decide +kernel
theorem n_zero : isN .f32 0 = false := by decide +kernel
theorem n_half : isN .f32 1056964608 = false := by decide +kernel
theorem n_one : isN .f32 1065353216 = false := by decide +kernel
theorem pick_zero (n : Nat) : pick .f32 0 n = 0 := pick_not n_zero n
/-! ### numT -/
def RetT (r : Nat × Bool) (w : World) (e : Ending) (w' : World) : Prop := ∃ k m, e = .returned (.tuple #[.float .f32 (pick .f32 r.1 k), .bool r.2]) ∧ w' = w.drewN m
theorem RetT.no {w : World} {e : Ending} {w' : World} (h : e = .returned (.tuple #[.float .f32 0, .bool false])) (hw : ∃ m, w' = w.drewN m) : RetT (0, false) w e w' := ⟨0, hw.choose, by rw [h]; simp only [pick_zero], hw.choose_spec⟩
theorem RetF1.no {w : World} {e : Ending} {w' : World} (h : e = .returned (.tuple #[.float .f32 0, .bool false])) (hw : Below w.heap.size w w') : RetF1 (0, false) w e w' := ⟨0, by rw [h]; simp only [pick_zero], hw⟩
theorem numR_pick (v n : Nat) : (numR (pick .f32 v n)).2 = (numR v).2 ∧ ∀ m, ∃ k, pick .f32 (numR (pick .f32 v n)).1 m = pick .f32 (numR v).1 k := by
  unfold numR
  rw [finB_pick]
  cases h : finB .f32 v
  · exact ⟨rfl, fun m => ⟨m, rfl⟩⟩
  · refine ⟨rfl, fun m => ⟨0, ?_⟩⟩
    rw [if_pos rfl, if_pos rfl, pick_not (fin_notN h), pick_not (fin_notN h), pick_not (fin_notN h)]
/-! ### l01Finite -/
theorem c_l01Finite (v n : Nat) (w : World) (j : Nat) : Calls Try.prog 49 #[.float .f32 (pick .f32 v n)] (w.drewN j) (RetV (.bool (finB .f32 v)) w) := by
  go_enter Try.func49, Try.ntmps49
  go_wp2_with (first | (refine wpList_fop rfl _ _ _ _ _ rfl _ _ _ rfl rfl (by decide) _ ?_; intro _ _) | (refine upon_fop _ _ _ _ _ (by decide) ?_; intro _ _))
  go_ret
  rw [← sub_self_zero]
  exact ⟨_, rfl, rfl⟩
/-! ### l02Least -/
def leastB (v : Nat) : Bool := finB .f32 v && (FloatKind.f32.format.order v 0 == some .gt || FloatKind.f32.format.order v 0 == some .eq)
theorem leastB_pick (v n : Nat) : leastB (pick .f32 v n) = leastB v := by unfold leastB; rw [finB_pick, order_pick_l]
theorem c_l02Least (v n : Nat) (w : World) (j : Nat) : Calls Try.prog 69 #[.float .f32 (pick .f32 v n)] (w.drewN j) (RetV (.bool (leastB v)) w) := by
  unfold leastB
  cases h : finB .f32 v
  all_goals
    have HH := Lib.hid h
    go_enter Try.func69, Try.ntmps69
    go_wp2_with ((go_at_call 49; refine (c_l01Finite _ _ _ _).mono ?_; rintro _ _ ⟨_, rfl, rfl⟩))
    go_ret
    exact ⟨_, by simp [HH.out], rfl⟩
/-! ### clearDefs -/
def rootV (v : Nat) : Nat := cvN (fsqrt (cvU v))
def sigV (l t : Nat) : Nat := fop .mul .f32 l t
def underV (l t s r : Nat) : Nat := fop .add .f32 (fop .mul .f32 (fop .mul .f32 l t) s) (fop .mul .f32 r r)
def clearR (l t s r : Nat) : Nat × Bool :=
  if (leastB l && leastB t && leastB s && leastB r && (FloatKind.f32.format.order (cvN (fsqrt (cvU (underV l t s r)))) 0 == some .gt)) = true then numR (fop .quo .f32 (sigV l t) (cvN (fsqrt (cvU (underV l t s r))))) else (0, false)
theorem least_lt {v : Nat} (h : finB .f32 v = true) : (FloatKind.f32.format.order v 0 == some .lt) = !leastB v := by
  have hn := fin_notN h
  unfold leastB
  rw [h, o_ge hn n_zero, o_lt hn n_zero, s_zero, Bool.true_and, ← decide_not]
  exact decide_eq_decide.2 (by omega)
/-! ### msqrt -/
theorem run_msqrt (b : Nat) (w : World) : ∃ n m, (callFunc 109 #[.float .f64 b]).run Try.prog w = .ok (.value (.float .f64 (pick .f64 (fsqrt b) n))) (w.drewN m) := by
  have e : (callFunc 109 #[.float .f64 b]).run Try.prog w = ((Extern.MathSqrt.sqrt #[.float .f64 b]).bind fun v => Sem.pure (Next.value v)).run Try.prog w := by kernel_rfl
  rw [e]
  cases h : Ieee.double.sqrt b with
  | some r =>
    refine ⟨0, 0, ?_⟩
    have e2 : Extern.MathSqrt.sqrt #[.float .f64 b] = pure (.float .f64 r) := by
      show (match Ieee.double.sqrt b with | some r => _ | none => _) = _
      rw [h]
    have e3 : fsqrt b = r := by unfold fsqrt; rw [h]; rfl
    rw [e2, e3, pick_not (sqrt_notNaN h)]; rfl
  | none =>
    have e3 : fsqrt b = qn .f64 := by unfold fsqrt; rw [h]; rfl
    refine ⟨w.tape w.drawn (.nanBits .f64 b b), 1, ?_⟩
    have e2 : Extern.MathSqrt.sqrt #[.float .f64 b] = (do pure (.float .f64 (← choose (.nanBits .f64 b b)))) := by
      show (match Ieee.double.sqrt b with | some r => _ | none => _) = _
      rw [h]
    rw [e2, e3]
    have e4 : pick .f64 (qn .f64) (w.tape w.drawn (.nanBits .f64 b b)) = (Question.nanBits .f64 b b).cut (w.tape w.drawn (.nanBits .f64 b b)) := by
      simp only [pick, isN_qn, if_true]; rfl
    rw [e4]
    rfl
/-! ### Sqrt -/
theorem c_Sqrt (v k : Nat) (w : World) (j : Nat) : Calls Try.prog 96 #[.float .f64 (pick .f64 v k)] (w.drewN j) (RetF .f64 (fsqrt v) w) := by
  obtain ⟨n, m, hr⟩ := run_msqrt (pick .f64 v k) (w.drewN j)
  rw [fsqrt_pick] at hr
  go_enter Try.func96, Try.ntmps96
  go_wp2
  go_ret
  exact ⟨_, _, rfl, rfl⟩

/-! ### l01Sqrt -/
theorem c_l01Sqrt (v n : Nat) (w : World) (j : Nat) : Calls Try.prog 70 #[.float .f32 (pick .f32 v n)] (w.drewN j) (RetF .f32 (cvN (fsqrt (cvU v))) w) := by
  have HF := Lib.hid (root_fits v)
  go_enter Try.func70, Try.ntmps70
  go_wp2_with (first | (refine wpList_cvU rfl 22 26 _ rfl (Option.isSome_iff_exists.2 ⟨_, Try.underlying22⟩) Try.underlying26 _ rfl _ ?_; intro _ _) | (refine wpList_cvN rfl 26 22 _ rfl (Option.isSome_iff_exists.2 ⟨_, Try.underlying26⟩) Try.underlying22 _ rfl _ (by rw [Fits_pick]; exact HF.out) ?_; intro _ _) | (go_at_call 96; refine (c_Sqrt _ _ _ _).mono ?_; rintro _ _ ⟨_, _, rfl, rfl⟩) | go_in)
  go_ret
  exact ⟨_, _, rfl, rfl⟩
/-! ### l02Number -/
theorem c_l02Number (v n : Nat) (w : World) (j : Nat) : Calls Try.prog 64 #[.float .f32 (pick .f32 v n)] (w.drewN j) (fun e w' => ∃ k m, e = .returned (.tuple #[.float .f32 (pick .f32 (numR v).1 k), .bool (numR v).2]) ∧ w' = w.drewN m) := by
  cases h : finB .f32 v
  · have e : numR v = (0, false) := by unfold numR; rw [if_neg (by rw [h]; decide)]
    rw [e]
    go_enter Try.func64, Try.ntmps64
    go_wp2_with (first | (go_at_call 49; refine (c_l01Finite _ _ _ _).mono ?_; rintro _ _ ⟨_, rfl, rfl⟩))
    go_ret2
    exact ⟨0, _, by simp only [pick00]; rfl, rfl⟩
  · have e : numR v = (v, true) := by unfold numR; rw [if_pos h]
    rw [e]
    go_enter Try.func64, Try.ntmps64
    go_wp2_with (first | (go_at_call 49; refine (c_l01Finite _ _ _ _).mono ?_; rintro _ _ ⟨_, rfl, rfl⟩))
    go_ret2
    exact ⟨n, _, rfl, rfl⟩
theorem c_l02Number0 (v n : Nat) (w : World) : Calls Try.prog 64 #[.float .f32 (pick .f32 v n)] w (fun e w' => ∃ k m, e = .returned (.tuple #[.float .f32 (pick .f32 (numR v).1 k), .bool (numR v).2]) ∧ w' = w.drewN m) := by
  have h := c_l02Number v n w 0
  rwa [w.drewN_zero] at h
/-! ### sClear -/
theorem c_sClearnessOf (l n t m s k r q : Nat) (w : World) (j : Nat) : Calls Try.prog 33 #[.float .f32 (pick .f32 l n), .float .f32 (pick .f32 t m), .float .f32 (pick .f32 s k), .float .f32 (pick .f32 r q)] (w.drewN j) (RetT (clearR l t s r) w) := by
  unfold clearR sigV
  cases hl1 : leastB l
  · simp only [Bool.and_true, Bool.and_false, Bool.false_and, Bool.true_and, Bool.not_false, Bool.not_true, if_true, Bool.false_eq_true, if_false]
    go_enter Try.func33, Try.ntmps33
    go_wp2_with (first | (first | (refine wpList_fop rfl _ _ _ _ _ rfl _ _ _ rfl rfl (by decide) _ ?_; intro _ _) | (refine upon_fop _ _ _ _ _ (by decide) ?_; intro _ _)) | (go_at_call 69; refine (c_l02Least _ _ _ _).mono ?_; rintro _ _ ⟨_, rfl, rfl⟩) | (go_at_call 70; refine (c_l01Sqrt _ _ _ _).mono ?_; rintro _ _ ⟨_, _, rfl, rfl⟩) | (go_at_call 64; refine (c_l02Number _ _ _ _).mono ?_; rintro _ _ ⟨_, _, rfl, rfl⟩))
    go_ret2
    exact RetT.no rfl ⟨_, rfl⟩
  cases ht1 : leastB t
  · simp only [Bool.and_true, Bool.and_false, Bool.false_and, Bool.true_and, Bool.not_false, Bool.not_true, if_true, Bool.false_eq_true, if_false]
    go_enter Try.func33, Try.ntmps33
    go_wp2_with (first | (first | (refine wpList_fop rfl _ _ _ _ _ rfl _ _ _ rfl rfl (by decide) _ ?_; intro _ _) | (refine upon_fop _ _ _ _ _ (by decide) ?_; intro _ _)) | (go_at_call 69; refine (c_l02Least _ _ _ _).mono ?_; rintro _ _ ⟨_, rfl, rfl⟩) | (go_at_call 70; refine (c_l01Sqrt _ _ _ _).mono ?_; rintro _ _ ⟨_, _, rfl, rfl⟩) | (go_at_call 64; refine (c_l02Number _ _ _ _).mono ?_; rintro _ _ ⟨_, _, rfl, rfl⟩))
    go_ret2
    exact RetT.no rfl ⟨_, rfl⟩
  cases hs1 : leastB s
  · simp only [Bool.and_true, Bool.and_false, Bool.false_and, Bool.true_and, Bool.not_false, Bool.not_true, if_true, Bool.false_eq_true, if_false]
    go_enter Try.func33, Try.ntmps33
    go_wp2_with (first | (first | (refine wpList_fop rfl _ _ _ _ _ rfl _ _ _ rfl rfl (by decide) _ ?_; intro _ _) | (refine upon_fop _ _ _ _ _ (by decide) ?_; intro _ _)) | (go_at_call 69; refine (c_l02Least _ _ _ _).mono ?_; rintro _ _ ⟨_, rfl, rfl⟩) | (go_at_call 70; refine (c_l01Sqrt _ _ _ _).mono ?_; rintro _ _ ⟨_, _, rfl, rfl⟩) | (go_at_call 64; refine (c_l02Number _ _ _ _).mono ?_; rintro _ _ ⟨_, _, rfl, rfl⟩))
    go_ret2
    exact RetT.no rfl ⟨_, rfl⟩
  cases hr1 : leastB r
  · simp only [Bool.and_true, Bool.and_false, Bool.false_and, Bool.true_and, Bool.not_false, Bool.not_true, if_true, Bool.false_eq_true, if_false]
    go_enter Try.func33, Try.ntmps33
    go_wp2_with (first | (first | (refine wpList_fop rfl _ _ _ _ _ rfl _ _ _ rfl rfl (by decide) _ ?_; intro _ _) | (refine upon_fop _ _ _ _ _ (by decide) ?_; intro _ _)) | (go_at_call 69; refine (c_l02Least _ _ _ _).mono ?_; rintro _ _ ⟨_, rfl, rfl⟩) | (go_at_call 70; refine (c_l01Sqrt _ _ _ _).mono ?_; rintro _ _ ⟨_, _, rfl, rfl⟩) | (go_at_call 64; refine (c_l02Number _ _ _ _).mono ?_; rintro _ _ ⟨_, _, rfl, rfl⟩))
    go_ret2
    exact RetT.no rfl ⟨_, rfl⟩
  unfold underV
  cases hR : (FloatKind.f32.format.order (cvN (fsqrt (cvU (fop .add .f32 (fop .mul .f32 (fop .mul .f32 l t) s) (fop .mul .f32 r r))))) 0 == some .gt)
  · simp only [Bool.and_true, Bool.and_false, Bool.false_and, Bool.true_and, Bool.not_false, Bool.not_true, if_true, Bool.false_eq_true, if_false]
    go_enter Try.func33, Try.ntmps33
    go_wp2_with (first | (first | (refine wpList_fop rfl _ _ _ _ _ rfl _ _ _ rfl rfl (by decide) _ ?_; intro _ _) | (refine upon_fop _ _ _ _ _ (by decide) ?_; intro _ _)) | (go_at_call 69; refine (c_l02Least _ _ _ _).mono ?_; rintro _ _ ⟨_, rfl, rfl⟩) | (go_at_call 70; refine (c_l01Sqrt _ _ _ _).mono ?_; rintro _ _ ⟨_, _, rfl, rfl⟩) | (go_at_call 64; refine (c_l02Number _ _ _ _).mono ?_; rintro _ _ ⟨_, _, rfl, rfl⟩))
    go_ret2
    exact RetT.no rfl ⟨_, rfl⟩
  · simp only [Bool.and_true, Bool.and_false, Bool.false_and, Bool.true_and, Bool.not_false, Bool.not_true, if_true, Bool.false_eq_true, if_false]
    go_enter Try.func33, Try.ntmps33
    go_wp2_with (first | (first | (refine wpList_fop rfl _ _ _ _ _ rfl _ _ _ rfl rfl (by decide) _ ?_; intro _ _) | (refine upon_fop _ _ _ _ _ (by decide) ?_; intro _ _)) | (go_at_call 69; refine (c_l02Least _ _ _ _).mono ?_; rintro _ _ ⟨_, rfl, rfl⟩) | (go_at_call 70; refine (c_l01Sqrt _ _ _ _).mono ?_; rintro _ _ ⟨_, _, rfl, rfl⟩) | (go_at_call 64; refine (c_l02Number _ _ _ _).mono ?_; rintro _ _ ⟨_, _, rfl, rfl⟩))
    go_ret2
    exact ⟨_, _, rfl, rfl⟩
/-! ### iSineTurns0 -/
theorem c_NarrowNumber (v n : Nat) (w : World) (j : Nat) (hfit : Fits v) : Calls Try.prog 97 #[.float .f64 (pick .f64 v n)] (w.drewN j) (RetF .f32 (cvN v) w) := by
  have H := Lib.hid hfit
  clear hfit
  go_enter Try.func97, Try.ntmps97
  go_wp2_with ((refine wpList_cvN rfl 26 22 _ rfl (Option.isSome_iff_exists.2 ⟨_, Try.underlying26⟩) Try.underlying22 _ rfl _ (by rw [Fits_pick]; exact H.out) ?_; intro _ _))
  go_ret
  exact ⟨_, _, rfl, rfl⟩
/-! ### iRoot -/
theorem c_iRoot (v n : Nat) (w : World) (j : Nat) : Calls Try.prog 71 #[.float .f32 (pick .f32 v n)] (w.drewN j) (RetF .f32 (cvN (fsqrt (cvU v))) w) := by
  have HF := Lib.hid (root_fits v)
  go_enter Try.func71, Try.ntmps71
  go_wp2_with (first | (refine wpList_cvU rfl 22 26 _ rfl (Option.isSome_iff_exists.2 ⟨_, Try.underlying22⟩) Try.underlying26 _ rfl _ ?_; intro _ _) | (go_at_call 96; refine (c_Sqrt _ _ _ _).mono ?_; rintro _ _ ⟨_, _, rfl, rfl⟩) | (go_at_call 97; refine (c_NarrowNumber _ _ _ _ HF.out).mono ?_; rintro _ _ ⟨_, _, rfl, rfl⟩))
  go_ret
  exact ⟨_, _, rfl, rfl⟩
/-! ### IsNaN -/
theorem c_IsNaN (v n : Nat) (w : World) (j : Nat) : Calls Try.prog 99 #[.float .f64 (pick .f64 v n)] (w.drewN j) (RetV (.bool (isN .f64 v)) w) := by
  go_enter Try.func99, Try.ntmps99
  go_wp2
  go_ret
  exact ⟨_, rfl, rfl⟩
/-! ### f64bits -/
@[go_sem] theorem e_f64bits (b : Nat) (w : World) : (callFunc 117 #[.float .f64 b]).run Try.prog w = .ok (.value (.int .u64 b)) w := by kernel_rfl
/-! ### f64from -/
@[go_sem] theorem e_f64from (n : Int) (w : World) : (callFunc 110 #[.int .u64 n]).run Try.prog w = .ok (.value (.float .f64 n.toNat)) w := by kernel_rfl
/-! ### Abs -/
theorem c_Abs (v n : Nat) (w : World) (j : Nat) (hv : v < 2 ^ FloatKind.f64.format.width) : Calls Try.prog 114 #[.float .f64 (pick .f64 v n)] (w.drewN j) (RetF .f64 (fabs .f64 v) w) := by
  have hb := abs_bits hv n
  go_enter Try.func114, Try.ntmps114
  go_wp2
  go_ret
  exact ⟨_, _, rfl, rfl⟩
/-! ### IsInf0 -/
theorem c_IsInf0 (v n : Nat) (w : World) (j : Nat) (hv : v < 2 ^ FloatKind.f64.format.width) : Calls Try.prog 108 #[.float .f64 (pick .f64 v n), .int .i64 0] (w.drewN j) (RetV (.bool (FloatKind.f64.format.order (fabs .f64 v) 9218868437227405311 == some .gt)) w) := by
  go_enter Try.func108, Try.ntmps108
  go_wp2_with ((go_at_call 114; refine (c_Abs _ _ _ _ hv).mono ?_; rintro _ _ ⟨_, _, rfl, rfl⟩))
  go_ret
  exact ⟨_, rfl, rfl⟩
/-! ### isFinite64 -/
theorem c_isFinite64 (v n : Nat) (w : World) (j : Nat) (hv : v < 2 ^ FloatKind.f64.format.width) : Calls Try.prog 91 #[.float .f64 (pick .f64 v n)] (w.drewN j) (RetV (.bool (finB .f64 v)) w) := by
  go_enter Try.func91, Try.ntmps91
  go_wp2_with (first | (go_at_call 99; refine (c_IsNaN _ _ _ _).mono ?_; rintro _ _ ⟨_, rfl, rfl⟩) | (go_at_call 108; refine (c_IsInf0 _ _ _ _ hv).mono ?_; rintro _ _ ⟨_, rfl, rfl⟩))
  all_goals
    go_ret
    refine ⟨_, ?_, rfl⟩
    rw [← abs_gt_max]
    simp [*]
/-! ### iIsFinite -/
theorem c_iIsFinite (v n : Nat) (w : World) (j : Nat) : Calls Try.prog 51 #[.float .f32 (pick .f32 v n)] (w.drewN j) (RetV (.bool (finB .f32 v)) w) := by
  go_enter Try.func51, Try.ntmps51
  go_wp2_with (first | (refine wpList_cvU rfl 22 26 _ rfl (Option.isSome_iff_exists.2 ⟨_, Try.underlying22⟩) Try.underlying26 _ rfl _ ?_; intro _ _) | (go_at_call 91; refine (c_isFinite64 _ _ _ _ (cvU_lt _)).mono ?_; rintro _ _ ⟨_, rfl, rfl⟩))
  go_ret
  rw [← finB_cvU]
  exact ⟨_, rfl, rfl⟩
/-! ### ifFinite -/
theorem c_ifFinite (v n : Nat) (w : World) (j : Nat) : Calls Try.prog 67 #[.float .f32 (pick .f32 v n)] (w.drewN j) (fun e w' => ∃ k m, e = .returned (.tuple #[.float .f32 (pick .f32 (numR v).1 k), .bool (numR v).2]) ∧ w' = w.drewN m) := by
  cases h : finB .f32 v
  · have e : numR v = (0, false) := by unfold numR; rw [if_neg (by rw [h]; decide)]
    rw [e]
    go_enter Try.func67, Try.ntmps67
    go_wp2_with (first | (go_at_call 51; refine (c_iIsFinite _ _ _ _).mono ?_; rintro _ _ ⟨_, rfl, rfl⟩))
    go_ret2
    exact ⟨0, _, by simp only [pick00]; rfl, rfl⟩
  · have e : numR v = (v, true) := by unfold numR; rw [if_pos h]
    rw [e]
    go_enter Try.func67, Try.ntmps67
    go_wp2_with (first | (go_at_call 51; refine (c_iIsFinite _ _ _ _).mono ?_; rintro _ _ ⟨_, rfl, rfl⟩))
    go_ret2
    exact ⟨n, _, rfl, rfl⟩
/-! ### areFinite -/
theorem c_areFinite (a : Option Addr) (len cap : Nat) (zs : List Nat) (w : World) (j0 : Nat) (hr : IsRowF .f32 w a len cap zs) : Calls Try.prog 57 #[.slice a len cap] (w.drewN j0) (RetV (.bool (finL zs)) w) := by
  obtain ⟨h1, h2, h3, h4, h5⟩ := hr
  unfold maxLen at h3
  have H1 := Lib.hid h1
  clear h1
  go_enter Try.func57, Try.ntmps57
  go_wp2
  go_loopw [4, 7] (fun _ i wr => ∃ k m : Nat, k ≤ len ∧ i = .int .i64 k ∧ wr = w.drewN m ∧ finL (zs.take k) = true) (fun _ i _ => len - (intOf i).toNat)
  case atStart => exact ⟨0, j0, Nat.zero_le _, rfl, rfl, rfl⟩
  case round =>
    obtain ⟨k, m, hk, rfl, rfl, hfin⟩ := hrel
    have HFin := Lib.hid hfin
    clear hfin
    by_cases hlt : k < len
    · rcases h5 with h5 | ⟨b, off, rfl, hbl, hc⟩
      · omega
      have hcell : w.cell? ⟨b, off + k, none⟩ = some (.float .f32 (fat zs k)) := hc k hlt
      obtain ⟨n, hn⟩ := pick0 .f32 (fat zs k) (lt_of_wf (h4 _ (by unfold fat; rw [List.getD, List.getElem?_eq_getElem (by have := H1.out; omega)]; exact List.getElem_mem _)))
      rw [hn] at hcell
      have HS := Lib.hid (finL_snoc zs k (by have := H1.out; omega))
      cases hf : finB .f32 (fat zs k)
      · have HO := Lib.hid (finL_of zs k (by have := H1.out; omega) hf)
        clear hc h4 hn
        go_wp2_with ((go_at_call 51; refine (c_iIsFinite _ _ _ _).mono ?_; rintro _ _ ⟨_, rfl, rfl⟩))
        go_ret
        exact ⟨_, by rw [HO.out]; rfl, rfl⟩
      · have HF := Lib.hid hf
        clear hc h4 hn
        go_wp2_with ((go_at_call 51; refine (c_iIsFinite _ _ _ _).mono ?_; rintro _ _ ⟨_, rfl, rfl⟩))
        go_roundw
        case rel => exact ⟨k + 1, _, by omega, by go_num, rfl, by rw [HS.out, HFin.out, HF.out]; rfl⟩
        case measure => simp [intOf]; omega
    · have e : zs.take k = zs := List.take_of_length_le (by have := H1.out; omega)
      have HE := Lib.hid e
      clear h5 h4 e
      go_wp2
      go_ret
      exact ⟨_, by have h := HFin.out; rw [HE.out] at h; rw [h]; rfl, rfl⟩
/-! ### areFinN -/
theorem c_areFinW (a : Option Addr) (len cap : Nat) (zs : List Nat) (w : World) (hr : IsRowF .f32 w a len cap zs) : Calls Try.prog 57 #[.slice a len cap] w (RetV (.bool (finL zs)) w) := by
  have h := c_areFinite a len cap zs w 0 hr
  rwa [w.drewN_zero] at h
theorem row_new (w : World) (b : Nat) (vs : List Nat) (T : TypeId) (hb : b = w.heap.size) (hl : vs.length ≤ 1000) (hwf : ∀ x ∈ vs, (Lit.float .f32 x).wf = true) : IsRowF .f32 (w.alloc (.cells (fl .f32 vs).toArray T)) (some ⟨b, 0, none⟩) vs.length vs.length vs := by
  subst hb
  exact rowF_of_block (heap_alloc_new w _) (by unfold maxLen; omega) hwf

/-! ### iClear -/
theorem fin4 (a b c d n m l k : Nat) : finL [pick .f32 a n, pick .f32 b m, pick .f32 c l, pick .f32 d k] = (finB .f32 a && (finB .f32 b && (finB .f32 c && finB .f32 d))) := by simp [finL, finB_pick]
theorem c_iClearnessOf (l n t m s k r q : Nat) (w : World) (hl : l < 2 ^ FloatKind.f32.format.width) (ht : t < 2 ^ FloatKind.f32.format.width) (hs : s < 2 ^ FloatKind.f32.format.width) (hr : r < 2 ^ FloatKind.f32.format.width) : Calls Try.prog 34 #[.float .f32 (pick .f32 l n), .float .f32 (pick .f32 t m), .float .f32 (pick .f32 s k), .float .f32 (pick .f32 r q)] w (RetF1 (clearR l t s r) w) := by
  have AF := Lib.hid (fun (w : World) (z : Nat) (hz : z = w.heap.size) => @id (Calls Try.prog 57 #[.slice (some ⟨z, 0, none⟩) 4 4] (w.alloc (.cells #[.float .f32 (pick .f32 l n), .float .f32 (pick .f32 t m), .float .f32 (pick .f32 s k), .float .f32 (pick .f32 r q)] 22)) (RetV (.bool (finB .f32 l && (finB .f32 t && (finB .f32 s && finB .f32 r)))) (w.alloc (.cells #[.float .f32 (pick .f32 l n), .float .f32 (pick .f32 t m), .float .f32 (pick .f32 s k), .float .f32 (pick .f32 r q)] 22)))) (by
    have h := c_areFinW _ _ _ _ _ (row_new w z [pick .f32 l n, pick .f32 t m, pick .f32 s k, pick .f32 r q] 22 hz (by simp) (by intro x hx; simp at hx; rcases hx with rfl | rfl | rfl | rfl <;> exact pick_wf (by assumption) _))
    rwa [fin4] at h))
  cases hF : (finB .f32 l && (finB .f32 t && (finB .f32 s && finB .f32 r)))
  · have e : clearR l t s r = (0, false) := by
      have h2 : (leastB l && leastB t && leastB s && leastB r) = false := by
        unfold leastB
        cases h1 : finB .f32 l <;> cases h2 : finB .f32 t <;> cases h3 : finB .f32 s <;> cases h4 : finB .f32 r <;> rw [h1, h2, h3, h4] at hF <;> first | (cases hF; done) | simp
      unfold clearR; rw [h2]; rfl
    rw [e]
    have HF := Lib.hid hF
    clear hF e
    go_enter Try.func34, Try.ntmps34
    go_wp2_with fail
    refine (AF.out _ _ (by simp)).mono ?_
    rintro _ _ ⟨m1, rfl, rfl⟩
    rw [HF.out]
    go_wp2_with fail
    go_ret2
    exact RetF1.no rfl (below_drewN ((Below.refl _ _).alloc (Nat.le_refl _) _) _)
  simp only [Bool.and_eq_true] at hF
  have gl := least_lt hF.1
  have gt := least_lt hF.2.1
  have gs := least_lt hF.2.2.1
  have gr := least_lt hF.2.2.2
  have HF := Lib.hid (show (finB .f32 l && (finB .f32 t && (finB .f32 s && finB .f32 r))) = true by rw [hF.1, hF.2.1, hF.2.2.1, hF.2.2.2]; rfl)
  clear hF
  unfold clearR sigV
  cases hl1 : leastB l
  · rw [hl1] at gl
    simp only [Bool.not_false, Bool.not_true] at gl
    simp only [Bool.and_true, Bool.and_false, Bool.false_and, Bool.true_and, Bool.not_false, Bool.not_true, if_true, Bool.false_eq_true, if_false]
    clear hl1
    go_enter Try.func34, Try.ntmps34
    go_wp2_with fail
    refine (AF.out _ _ (by simp)).mono ?_
    rintro _ _ ⟨m1, rfl, rfl⟩
    rw [HF.out]
    have B1 := Lib.hid (below_drewN ((Below.refl w.heap.size w).alloc (Nat.le_refl _) (.cells #[.float .f32 (pick .f32 l n), .float .f32 (pick .f32 t m), .float .f32 (pick .f32 s k), .float .f32 (pick .f32 r q)] 22)) m1)
    generalize World.drewN _ m1 = w1 at *
    rw [← w1.drewN_zero]
    go_wp2_with (first | (first | (refine wpList_fop rfl _ _ _ _ _ rfl _ _ _ rfl rfl (by decide) _ ?_; intro _ _) | (refine upon_fop _ _ _ _ _ (by decide) ?_; intro _ _)) | (go_at_call 71; refine (c_iRoot _ _ _ _).mono ?_; rintro _ _ ⟨_, _, rfl, rfl⟩) | (go_at_call 67; refine (c_ifFinite _ _ _ _).mono ?_; rintro _ _ ⟨_, _, rfl, rfl⟩))
    go_ret2
    exact RetF1.no rfl (below_drewN B1.out _)
  cases ht1 : leastB t
  · rw [hl1] at gl
    simp only [Bool.not_false, Bool.not_true] at gl
    rw [ht1] at gt
    simp only [Bool.not_false, Bool.not_true] at gt
    simp only [Bool.and_true, Bool.and_false, Bool.false_and, Bool.true_and, Bool.not_false, Bool.not_true, if_true, Bool.false_eq_true, if_false]
    clear hl1 ht1
    go_enter Try.func34, Try.ntmps34
    go_wp2_with fail
    refine (AF.out _ _ (by simp)).mono ?_
    rintro _ _ ⟨m1, rfl, rfl⟩
    rw [HF.out]
    have B1 := Lib.hid (below_drewN ((Below.refl w.heap.size w).alloc (Nat.le_refl _) (.cells #[.float .f32 (pick .f32 l n), .float .f32 (pick .f32 t m), .float .f32 (pick .f32 s k), .float .f32 (pick .f32 r q)] 22)) m1)
    generalize World.drewN _ m1 = w1 at *
    rw [← w1.drewN_zero]
    go_wp2_with (first | (first | (refine wpList_fop rfl _ _ _ _ _ rfl _ _ _ rfl rfl (by decide) _ ?_; intro _ _) | (refine upon_fop _ _ _ _ _ (by decide) ?_; intro _ _)) | (go_at_call 71; refine (c_iRoot _ _ _ _).mono ?_; rintro _ _ ⟨_, _, rfl, rfl⟩) | (go_at_call 67; refine (c_ifFinite _ _ _ _).mono ?_; rintro _ _ ⟨_, _, rfl, rfl⟩))
    go_ret2
    exact RetF1.no rfl (below_drewN B1.out _)
  cases hs1 : leastB s
  · rw [hl1] at gl
    simp only [Bool.not_false, Bool.not_true] at gl
    rw [ht1] at gt
    simp only [Bool.not_false, Bool.not_true] at gt
    rw [hs1] at gs
    simp only [Bool.not_false, Bool.not_true] at gs
    simp only [Bool.and_true, Bool.and_false, Bool.false_and, Bool.true_and, Bool.not_false, Bool.not_true, if_true, Bool.false_eq_true, if_false]
    clear hl1 ht1 hs1
    go_enter Try.func34, Try.ntmps34
    go_wp2_with fail
    refine (AF.out _ _ (by simp)).mono ?_
    rintro _ _ ⟨m1, rfl, rfl⟩
    rw [HF.out]
    have B1 := Lib.hid (below_drewN ((Below.refl w.heap.size w).alloc (Nat.le_refl _) (.cells #[.float .f32 (pick .f32 l n), .float .f32 (pick .f32 t m), .float .f32 (pick .f32 s k), .float .f32 (pick .f32 r q)] 22)) m1)
    generalize World.drewN _ m1 = w1 at *
    rw [← w1.drewN_zero]
    go_wp2_with (first | (first | (refine wpList_fop rfl _ _ _ _ _ rfl _ _ _ rfl rfl (by decide) _ ?_; intro _ _) | (refine upon_fop _ _ _ _ _ (by decide) ?_; intro _ _)) | (go_at_call 71; refine (c_iRoot _ _ _ _).mono ?_; rintro _ _ ⟨_, _, rfl, rfl⟩) | (go_at_call 67; refine (c_ifFinite _ _ _ _).mono ?_; rintro _ _ ⟨_, _, rfl, rfl⟩))
    go_ret2
    exact RetF1.no rfl (below_drewN B1.out _)
  cases hr1 : leastB r
  · rw [hl1] at gl
    simp only [Bool.not_false, Bool.not_true] at gl
    rw [ht1] at gt
    simp only [Bool.not_false, Bool.not_true] at gt
    rw [hs1] at gs
    simp only [Bool.not_false, Bool.not_true] at gs
    rw [hr1] at gr
    simp only [Bool.not_false, Bool.not_true] at gr
    simp only [Bool.and_true, Bool.and_false, Bool.false_and, Bool.true_and, Bool.not_false, Bool.not_true, if_true, Bool.false_eq_true, if_false]
    clear hl1 ht1 hs1 hr1
    go_enter Try.func34, Try.ntmps34
    go_wp2_with fail
    refine (AF.out _ _ (by simp)).mono ?_
    rintro _ _ ⟨m1, rfl, rfl⟩
    rw [HF.out]
    have B1 := Lib.hid (below_drewN ((Below.refl w.heap.size w).alloc (Nat.le_refl _) (.cells #[.float .f32 (pick .f32 l n), .float .f32 (pick .f32 t m), .float .f32 (pick .f32 s k), .float .f32 (pick .f32 r q)] 22)) m1)
    generalize World.drewN _ m1 = w1 at *
    rw [← w1.drewN_zero]
    go_wp2_with (first | (first | (refine wpList_fop rfl _ _ _ _ _ rfl _ _ _ rfl rfl (by decide) _ ?_; intro _ _) | (refine upon_fop _ _ _ _ _ (by decide) ?_; intro _ _)) | (go_at_call 71; refine (c_iRoot _ _ _ _).mono ?_; rintro _ _ ⟨_, _, rfl, rfl⟩) | (go_at_call 67; refine (c_ifFinite _ _ _ _).mono ?_; rintro _ _ ⟨_, _, rfl, rfl⟩))
    go_ret2
    exact RetF1.no rfl (below_drewN B1.out _)
  unfold underV
  cases hR : (FloatKind.f32.format.order (cvN (fsqrt (cvU (fop .add .f32 (fop .mul .f32 (fop .mul .f32 l t) s) (fop .mul .f32 r r))))) 0 == some .gt)
  · rw [hl1] at gl
    simp only [Bool.not_false, Bool.not_true] at gl
    rw [ht1] at gt
    simp only [Bool.not_false, Bool.not_true] at gt
    rw [hs1] at gs
    simp only [Bool.not_false, Bool.not_true] at gs
    rw [hr1] at gr
    simp only [Bool.not_false, Bool.not_true] at gr
    simp only [Bool.and_true, Bool.and_false, Bool.false_and, Bool.true_and, Bool.not_false, Bool.not_true, if_true, Bool.false_eq_true, if_false]
    clear hl1 ht1 hs1 hr1
    go_enter Try.func34, Try.ntmps34
    go_wp2_with fail
    refine (AF.out _ _ (by simp)).mono ?_
    rintro _ _ ⟨m1, rfl, rfl⟩
    rw [HF.out]
    have B1 := Lib.hid (below_drewN ((Below.refl w.heap.size w).alloc (Nat.le_refl _) (.cells #[.float .f32 (pick .f32 l n), .float .f32 (pick .f32 t m), .float .f32 (pick .f32 s k), .float .f32 (pick .f32 r q)] 22)) m1)
    generalize World.drewN _ m1 = w1 at *
    rw [← w1.drewN_zero]
    go_wp2_with (first | (first | (refine wpList_fop rfl _ _ _ _ _ rfl _ _ _ rfl rfl (by decide) _ ?_; intro _ _) | (refine upon_fop _ _ _ _ _ (by decide) ?_; intro _ _)) | (go_at_call 71; refine (c_iRoot _ _ _ _).mono ?_; rintro _ _ ⟨_, _, rfl, rfl⟩) | (go_at_call 67; refine (c_ifFinite _ _ _ _).mono ?_; rintro _ _ ⟨_, _, rfl, rfl⟩))
    go_ret2
    exact RetF1.no rfl (below_drewN B1.out _)
  · rw [hl1] at gl
    simp only [Bool.not_false, Bool.not_true] at gl
    rw [ht1] at gt
    simp only [Bool.not_false, Bool.not_true] at gt
    rw [hs1] at gs
    simp only [Bool.not_false, Bool.not_true] at gs
    rw [hr1] at gr
    simp only [Bool.not_false, Bool.not_true] at gr
    simp only [Bool.and_true, Bool.and_false, Bool.false_and, Bool.true_and, Bool.not_false, Bool.not_true, if_true, Bool.false_eq_true, if_false]
    clear hl1 ht1 hs1 hr1
    go_enter Try.func34, Try.ntmps34
    go_wp2_with fail
    refine (AF.out _ _ (by simp)).mono ?_
    rintro _ _ ⟨m1, rfl, rfl⟩
    rw [HF.out]
    have B1 := Lib.hid (below_drewN ((Below.refl w.heap.size w).alloc (Nat.le_refl _) (.cells #[.float .f32 (pick .f32 l n), .float .f32 (pick .f32 t m), .float .f32 (pick .f32 s k), .float .f32 (pick .f32 r q)] 22)) m1)
    generalize World.drewN _ m1 = w1 at *
    rw [← w1.drewN_zero]
    go_wp2_with (first | (first | (refine wpList_fop rfl _ _ _ _ _ rfl _ _ _ rfl rfl (by decide) _ ?_; intro _ _) | (refine upon_fop _ _ _ _ _ (by decide) ?_; intro _ _)) | (go_at_call 71; refine (c_iRoot _ _ _ _).mono ?_; rintro _ _ ⟨_, _, rfl, rfl⟩) | (go_at_call 67; refine (c_ifFinite _ _ _ _).mono ?_; rintro _ _ ⟨_, _, rfl, rfl⟩))
    go_ret2
    exact ⟨_, rfl, below_drewN B1.out _⟩
/-! ### sameFloat -/
theorem c_sameFloat (v n m : Nat) (w : World) (j : Nat) : Calls Try.prog 17 #[.float .f64 (pick .f64 v n), .float .f64 (pick .f64 v m)] (w.drewN j) (RetV (.bool true) w) := by
  have hs := self_ne .f64 v
  have ht := self_eq .f64 v
  cases h : isN .f64 v
  · rw [h] at hs ht
    cases h2 : (FloatKind.f64.format.order v 0 == some .eq)
    · go_enter Try.func17, Try.ntmps17
      go_wp2_with (first | (refine wpList_fop rfl _ _ _ _ _ rfl _ _ _ rfl rfl (by decide) _ ?_; intro _ _) | (refine upon_fop _ _ _ _ _ (by decide) ?_; intro _ _))
      go_ret
      exact ⟨_, rfl, rfl⟩
    · go_enter Try.func17, Try.ntmps17
      go_wp2_with (first | (refine wpList_fop rfl _ _ _ _ _ rfl _ _ _ rfl rfl (by decide) _ ?_; intro _ _) | (refine upon_fop _ _ _ _ _ (by decide) ?_; intro _ _))
      go_ret
      exact ⟨_, by simp, rfl⟩
  · rw [h] at hs ht
    go_enter Try.func17, Try.ntmps17
    go_wp2_with (first | (refine wpList_fop rfl _ _ _ _ _ rfl _ _ _ rfl rfl (by decide) _ ?_; intro _ _) | (refine upon_fop _ _ _ _ _ (by decide) ?_; intro _ _))
    go_ret
    exact ⟨_, rfl, rfl⟩

/-! ### FnExactClearnessOf -/
theorem walk (l n t m s k r q : Nat) (w : World) (hl : l < 2 ^ FloatKind.f32.format.width) (ht : t < 2 ^ FloatKind.f32.format.width) (hs : s < 2 ^ FloatKind.f32.format.width) (hr : r < 2 ^ FloatKind.f32.format.width) : Calls Try.prog 8 #[.float .f32 (pick .f32 l n), .float .f32 (pick .f32 t m), .float .f32 (pick .f32 s k), .float .f32 (pick .f32 r q)] w fun e w' => e = .returned (.bool true) ∧ Below w.heap.size w w' := by
  rw [← w.drewN_zero]
  have CS := Lib.hid (fun w j => c_sClearnessOf l n t m s k r q w j)
  have CI := Lib.hid (fun w => c_iClearnessOf l n t m s k r q w hl ht hs hr)
  generalize clearR l t s r = z at *
  go_enter Try.func8, Try.ntmps8
  go_wp2_with (first | (go_at_call 33; refine (CS.out _ _).mono ?_; rintro _ _ ⟨_, _, rfl, rfl⟩))
  refine (CI.out _).mono ?_
  rintro _ w2 ⟨k2, rfl, b2⟩
  have B2 := Lib.hid ((below_drewN (Below.refl w.heap.size w) _).trans b2)
  clear b2
  rw [← w2.drewN_zero]
  go_wp2_with (first | (refine wpList_cvU rfl 22 26 _ rfl (Option.isSome_iff_exists.2 ⟨_, Try.underlying22⟩) Try.underlying26 _ rfl _ ?_; intro _ _) | (go_at_call 17; refine (c_sameFloat _ _ _ _ _).mono ?_; rintro _ _ ⟨_, rfl, rfl⟩))
  go_ret
  exact ⟨rfl, below_drewN B2.out _⟩

theorem own : ownKnob Try.prog.godebug = none := by kernel_rfl
theorem laidOut : laidOutB Try.prog = true := by kernel_rfl
set_option maxRecDepth 100000 in
theorem lifted (os : Os) (started : os.Started) (H : Type) (enc : TypeId × Value → H) :
    ReturnsInHanded {} Try.checked os 8 .any (Rows.fnExactClearnessOfSpec.pre6 enc Try.prog Try.f8 Rows.fnExactClearnessOfRow.domain false) (Rows.fnExactClearnessOfSpec.post enc Try.prog Try.f8 false true false false) := by
  refine returnsInHanded_of_change (C := Try.checked) own started (by kernel_rfl) Try.func8
    (ChangeSpec.witness6 (enc := enc) (C := Try.checked) false ⟨#[], #[.float .f32 0, .float .f32 0, .float .f32 0, .float .f32 0], []⟩ 8 (by kernel_rfl) (by kernel_rfl) (by kernel_rfl) (by kernel_rfl)) ?_
  intro W base args ds gs before hval0 hW hcnd _
  have hval : ∀ (j : Nat) t v, Try.f8.params[j]? = some t → args[j]? = some v → Value.okWide Try.prog W .any base t v := hval0
  have hW' := hW
  obtain ⟨p, q, hA0, hV, rfl, hfz, hnd⟩ := hW
  have hA : DataW.TrodAll enc Try.prog W 0 (fun _ => true) true Try.f8.params.toList args.toList ds p := hA0
  rw [Try.params8] at hA hval
  obtain ⟨v0, vs0, d0, ds0, p0, q0, hargs, rfl, rfl, h0, r0⟩ := trodAll_cons hA
  obtain ⟨v1, vs1, d1, ds1, p1, q1, rfl, rfl, rfl, h1, r1⟩ := trodAll_cons r0
  obtain ⟨v2, vs2, d2, ds2, p2, q2, rfl, rfl, rfl, h2, r2⟩ := trodAll_cons r1
  obtain ⟨v3, vs3, d3, ds3, p3, q3, rfl, rfl, rfl, h3, r3⟩ := trodAll_cons r2
  obtain ⟨rfl, rfl, rfl⟩ := trodAll_nil r3
  obtain rfl : args = #[v0, v1, v2, v3] := by cases args; simp_all
  obtain ⟨rfl, rfl⟩ := trodVars_none hV
  obtain ⟨b0, rfl, rfl, rfl, w0⟩ := open_float Try.underlying22 (hval 0 22 v0 rfl rfl) h0
  obtain ⟨n0, en0⟩ := pick_onto .f32 b0 (lt_of_wf w0)
  obtain ⟨b1, rfl, rfl, rfl, w1⟩ := open_float Try.underlying22 (hval 1 22 v1 rfl rfl) h1
  obtain ⟨n1, en1⟩ := pick_onto .f32 b1 (lt_of_wf w1)
  obtain ⟨b2, rfl, rfl, rfl, w2⟩ := open_float Try.underlying22 (hval 2 22 v2 rfl rfl) h2
  obtain ⟨n2, en2⟩ := pick_onto .f32 b2 (lt_of_wf w2)
  obtain ⟨b3, rfl, rfl, rfl, w3⟩ := open_float Try.underlying22 (hval 3 22 v3 rfl rfl) h3
  obtain ⟨n3, en3⟩ := pick_onto .f32 b3 (lt_of_wf w3)
  clear hA0 hval0
  have hcall0 := en0
  have hcall1 := en1
  have hcall2 := en2
  have hcall3 := en3
  have hw0 : Calls Try.prog 8 #[.float .f32 b0, .float .f32 b1, .float .f32 b2, .float .f32 b3] W fun e w' => e = .returned (.bool true) ∧ Below W.heap.size W w' := by
    rw [en0]
    rw [en1]
    rw [en2]
    rw [en3]
    exact walk b0 n0 b1 n1 b2 n2 b3 n3 W (lt_of_wf w0) (lt_of_wf w1) (lt_of_wf w2) (lt_of_wf w3)
  refine hw0.mono fun e W' ⟨he, bel⟩ => ?_
  subst he
  exact ⟨_, rfl, _, _, _, [], _, [], hW', trodAll_mk1 (shut_bool Try.underlying4 _), (trodAll_cons_mk (shut_float Try.underlying22 w0) (trodAll_cons_mk (shut_float Try.underlying22 w1) (trodAll_cons_mk (shut_float Try.underlying22 w2) (trodAll_cons_mk (shut_float Try.underlying22 w3) trodAll_mk0)))), rfl, bel.frame _, fun h => by cases h⟩

theorem over : Rows.fnExactClearnessOfRow.holds Try.pinned (OpenSpec.ofChange Rows.fnExactClearnessOfSpec) :=
  OpenClaim.holds_of_wide 8 Try.f8 rfl rfl rfl rfl rfl rfl rfl ⟨rfl, rfl, rfl, rfl, rfl⟩ rfl rfl rfl rfl rfl (by kernel_rfl) Try.func8 (by kernel_rfl)
    (of_decide_eq_true (by kernel_rfl)) (by unfold Func.isWrapper; first | (rw [if_pos (by decide +kernel)]; kernel_rfl) | (rw [if_neg (by decide +kernel)]; exact ⟨rfl, rfl⟩))
    (fun os started H enc _ => lifted os started H enc)

theorem proved : Rows.FnExactClearnessOfSaid := over
#print axioms proved

end Go.Proofs.Ytnnldhfgnmcfiab.fnExactClearnessOf

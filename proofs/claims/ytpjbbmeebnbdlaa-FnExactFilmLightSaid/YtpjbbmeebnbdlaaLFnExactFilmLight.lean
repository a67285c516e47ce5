/-
  FnExactFilmLight: for every input this law of the program returns true, and each argument reads as before. No condition.
-/
import Derived.Test.YtpjbbmeebnbdlaaRows
import Derived.Test.YtpjbbmeebnbdlaaRow
import Derived.Test.YtpjbbmeebnbdlaaMn
import Derived.ProofKit
import Derived.OpenShut
import Derived.ShutString
import Derived.ChangeOld
import Derived.Below
import Derived.Lib.Hide
import Derived.Outline
import Derived.Deep.RegionHeld3
import Derived.Deep.DeepCutAuto
set_option linter.unusedSimpArgs false
set_option linter.unusedVariables false
set_option exponentiation.threshold 2000
set_option maxRecDepth 20000
set_option maxHeartbeats 4000000
namespace Go.Proofs.Ytpjbbmeebnbdlaa.fnExactFilmLight
open Go Go.Proofs.Ytpjbbmeebnbdlaa Go.Proofs
open Go.ChangeShapes Go.WideShapes Go.ChangeAt Go.RowKit
open Go.ChangeMaps (open_string shut_string)
/-! ### picDefs -/
def sideB (W H : Int) : Bool := decide (1 ≤ W) && decide (W ≤ 16) && (decide (1 ≤ H) && decide (H ≤ 16))
def finL (zs : List Nat) : Bool := zs.all (finB .f32)
def validB (W H : Int) (zs : List Nat) : Bool := sideB W H && decide ((zs.length : Int) = W * H) && finL zs
theorem sideB_true {W H : Int} (h : sideB W H = true) : (1 ≤ W ∧ W ≤ 16) ∧ 1 ≤ H ∧ H ≤ 16 := by simpa [sideB, and_assoc] using h
theorem side_mul {W H : Int} (h : sideB W H = true) : 1 ≤ W * H ∧ W * H ≤ 256 := by
  obtain ⟨⟨h1, h2⟩, h3, h4⟩ := sideB_true h
  have : W * H ≤ 16 * 16 := Int.mul_le_mul h2 h4 (by omega) (by omega)
  have h5 : 1 * 1 ≤ W * H := Int.mul_le_mul h1 h3 (by omega) (by omega)
  omega
theorem sideB_false {W H : Int} (h : sideB W H = false) : W < 1 ∨ 16 < W ∨ H < 1 ∨ 16 < H := by
  simp [sideB] at h; omega
theorem finL_snoc (zs : List Nat) (k : Nat) (hk : k < zs.length) : finL (zs.take (k + 1)) = (finL (zs.take k) && finB .f32 (fat zs k)) := by
  unfold finL fat
  rw [List.take_succ_eq_append_getElem hk, List.all_append, List.getD, List.getElem?_eq_getElem hk]; simp
theorem finL_of (zs : List Nat) (k : Nat) (hk : k < zs.length) (h : finB .f32 (fat zs k) = false) : finL zs = false := by
  unfold finL
  rw [List.all_eq_false]
  refine ⟨zs[k], List.getElem_mem hk, ?_⟩
  unfold fat at h
  rw [List.getD, List.getElem?_eq_getElem hk] at h
  simpa using h
theorem pick0 (k : FloatKind) (v : Nat) (hv : v < 2 ^ k.format.width) : ∃ n, v = pick k v n := pick_onto k v hv
/-! ### meanDefs -/
def meanV (zs : List Nat) : Nat := fop .quo .f32 (sumF .add .f32 0 zs) (floatOfInt .f32 (zs.length : Int))
def numR (v : Nat) : Nat × Bool := if finB .f32 v = true then (v, true) else (0, false)
def meanR (W H : Int) (zs : List Nat) : Nat × Bool := if validB W H zs = true then numR (meanV zs) else (0, false)
theorem mean_len {W H : Int} {zs : List Nat} (h : validB W H zs = true) : zs.length ≤ 256 := by
  simp only [validB, Bool.and_eq_true, decide_eq_true_eq] at h
  obtain ⟨⟨h1, h2⟩, h3⟩ := h
  have := side_mul h1
  omega
theorem pick00 : pick .f32 0 0 = 0 := pick_not (show isN .f32 0 = false from by decide +kernel) 0
/-! ### ordDefs -/
theorem cmp_bools (a b : Int) : ((some (compare a b) == some Ordering.lt) = decide (a < b)) ∧ ((some (compare a b) == some Ordering.gt) = decide (b < a)) ∧ ((some (compare a b) == some Ordering.eq) = decide (a = b)) := by
  rcases Int.lt_trichotomy a b with h | h | h
  · rw [cmp_of_lt h, decide_eq_true h, decide_eq_false (by omega), decide_eq_false (by omega)]; exact ⟨rfl, rfl, rfl⟩
  · subst h; rw [Int.compare_eq_eq.2 rfl, decide_eq_false (by omega), decide_eq_true rfl]; exact ⟨rfl, rfl, rfl⟩
  · rw [cmp_of_gt h, decide_eq_false (by omega), decide_eq_true h, decide_eq_false (by omega)]; exact ⟨rfl, rfl, rfl⟩
theorem o_lt {v c : Nat} (h : isN .f32 v = false) (hc : isN .f32 c = false) : (FloatKind.f32.format.order v c == some .lt) = decide (srung FloatKind.f32.format v < srung FloatKind.f32.format c) := by
  rw [order_rungs .f32 v c h hc]; exact (cmp_bools _ _).1
theorem o_gt {v c : Nat} (h : isN .f32 v = false) (hc : isN .f32 c = false) : (FloatKind.f32.format.order v c == some .gt) = decide (srung FloatKind.f32.format c < srung FloatKind.f32.format v) := by
  rw [order_rungs .f32 v c h hc]; exact (cmp_bools _ _).2.1
theorem o_eq {v c : Nat} (h : isN .f32 v = false) (hc : isN .f32 c = false) : (FloatKind.f32.format.order v c == some .eq) = decide (srung FloatKind.f32.format v = srung FloatKind.f32.format c) := by
  rw [order_rungs .f32 v c h hc]; exact (cmp_bools _ _).2.2
theorem o_le {v c : Nat} (h : isN .f32 v = false) (hc : isN .f32 c = false) : (FloatKind.f32.format.order v c == some .lt || FloatKind.f32.format.order v c == some .eq) = decide (srung FloatKind.f32.format v ≤ srung FloatKind.f32.format c) := by
  rw [o_lt h hc, o_eq h hc, ← Bool.decide_or]; exact decide_eq_decide.2 (by omega)
theorem o_ge {v c : Nat} (h : isN .f32 v = false) (hc : isN .f32 c = false) : (FloatKind.f32.format.order v c == some .gt || FloatKind.f32.format.order v c == some .eq) = decide (srung FloatKind.f32.format c ≤ srung FloatKind.f32.format v) := by
  rw [o_gt h hc, o_eq h hc, ← Bool.decide_or]; exact decide_eq_decide.2 (by omega)
theorem s_zero : srung FloatKind.f32.format 0 = 0 := by decide +kernel
theorem s_half : srung FloatKind.f32.format 1056964608 = 1056964608 := by decide +kernel
theorem s_one : srung FloatKind.f32.format 1065353216 = 1065353216 := by decide +kernel
theorem n_zero : isN .f32 0 = false := by decide +kernel
theorem n_half : isN .f32 1056964608 = false := by decide +kernel
theorem n_one : isN .f32 1065353216 = false := by decide +kernel
theorem pick_zero (n : Nat) : pick .f32 0 n = 0 := pick_not n_zero n
/-! ### numT -/
def RetT (r : Nat × Bool) (w : World) (e : Ending) (w' : World) : Prop := ∃ k m, e = .returned (.tuple #[.float .f32 (pick .f32 r.1 k), .bool r.2]) ∧ w' = w.drewN m
theorem RetT.no {w : World} {e : Ending} {w' : World} (h : e = .returned (.tuple #[.float .f32 0, .bool false])) (hw : ∃ m, w' = w.drewN m) : RetT (0, false) w e w' := ⟨0, hw.choose, by rw [h]; simp only [pick_zero], hw.choose_spec⟩
theorem RetF1.no {w : World} {e : Ending} {w' : World} (h : e = .returned (.tuple #[.float .f32 0, .bool false])) (hw : Below w.heap.size w w') : RetF1 (0, false) w e w' := ⟨0, by rw [h]; simp only [pick_zero], hw⟩
theorem numR_pick (v n : Nat) : (numR (pick .f32 v n)).2 = (numR v).2 ∧ ∀ m, ∃ k, pick .f32 (numR (pick .f32 v n)).1 m = pick .f32 (numR v).1 k := by
  unfold numR
  rw [finB_pick]
  cases h : finB .f32 v
  · exact ⟨rfl, fun m => ⟨m, rfl⟩⟩
  · refine ⟨rfl, fun m => ⟨0, ?_⟩⟩
    rw [if_pos rfl, if_pos rfl, pick_not (fin_notN h), pick_not (fin_notN h), pick_not (fin_notN h)]
/-! ### l01Finite -/
theorem c_l01Finite (v n : Nat) (w : World) (j : Nat) : Calls Try.prog 62 #[.float .f32 (pick .f32 v n)] (w.drewN j) (RetV (.bool (finB .f32 v)) w) := by
  go_enter Try.func62, Try.ntmps62
  go_wp2_with (first | (refine wpList_fop rfl _ _ _ _ _ rfl _ _ _ rfl rfl (by decide) _ ?_; intro _ _) | (refine upon_fop _ _ _ _ _ (by decide) ?_; intro _ _))
  go_ret
  rw [← sub_self_zero]
  exact ⟨_, rfl, rfl⟩
/-! ### l02Least -/
def leastB (v : Nat) : Bool := finB .f32 v && (FloatKind.f32.format.order v 0 == some .gt || FloatKind.f32.format.order v 0 == some .eq)
theorem leastB_pick (v n : Nat) : leastB (pick .f32 v n) = leastB v := by unfold leastB; rw [finB_pick, order_pick_l]
theorem c_l02Least (v n : Nat) (w : World) (j : Nat) : Calls Try.prog 75 #[.float .f32 (pick .f32 v n)] (w.drewN j) (RetV (.bool (leastB v)) w) := by
  unfold leastB
  cases h : finB .f32 v
  all_goals
    have HH := Lib.hid h
    go_enter Try.func75, Try.ntmps75
    go_wp2_with ((go_at_call 62; refine (c_l01Finite _ _ _ _).mono ?_; rintro _ _ ⟨_, rfl, rfl⟩))
    go_ret
    exact ⟨_, by simp [HH.out], rfl⟩
/-! ### clearDefs -/
def rootV (v : Nat) : Nat := cvN (fsqrt (cvU v))
def sigV (l t : Nat) : Nat := fop .mul .f32 l t
def underV (l t s r : Nat) : Nat := fop .add .f32 (fop .mul .f32 (fop .mul .f32 l t) s) (fop .mul .f32 r r)
def clearR (l t s r : Nat) : Nat × Bool :=
  if (leastB l && leastB t && leastB s && leastB r && (FloatKind.f32.format.order (cvN (fsqrt (cvU (underV l t s r)))) 0 == some .gt)) = true then numR (fop .quo .f32 (sigV l t) (cvN (fsqrt (cvU (underV l t s r))))) else (0, false)
theorem least_lt {v : Nat} (h : finB .f32 v = true) : (FloatKind.f32.format.order v 0 == some .lt) = !leastB v := by
  have hn := fin_notN h
  unfold leastB
  rw [h, o_ge hn n_zero, o_lt hn n_zero, s_zero, Bool.true_and, ← decide_not]
  exact decide_eq_decide.2 (by omega)
/-! ### filmDefs -/
def filmV (x : Nat) : Nat := fop .quo .f32 (fop .mul .f32 x (fop .add .f32 (fop .mul .f32 1075880919 x) 1022739087)) (fop .add .f32 (fop .mul .f32 x (fop .add .f32 (fop .mul .f32 1075545375 x) 1058474557)) 1041194025)
def filmT (x : Nat) : Nat := if (FloatKind.f32.format.order (filmV x) 1065353216 == some .gt) = true then 1065353216 else filmV x
def filmR (x : Nat) : Nat × Bool := if leastB x = true then numR (filmT x) else (0, false)
theorem numR_nan {v : Nat} (h : isN .f32 v = true) : numR v = (0, false) := by unfold numR; rw [finB_nan h]; rfl
theorem eq_one {y : Nat} (hy : y < 2 ^ FloatKind.f32.format.width) (h : isN .f32 y = false) (he : (FloatKind.f32.format.order y 1065353216 == some .eq) = true) : y = 1065353216 := by
  rw [o_eq h n_one, s_one, decide_eq_true_eq] at he
  have hw : (2 : Nat) ^ FloatKind.f32.format.width = 4294967296 := by decide +kernel
  have hs : FloatKind.f32.format.signWeight = 2147483648 := by decide +kernel
  rw [hw] at hy
  unfold srung sgn rung at he
  rw [hs] at he
  split at he
  · omega
  · rename_i hc
    simp only [beq_iff_eq] at hc
    omega
theorem min_one {y : Nat} (hy : y < 2 ^ FloatKind.f32.format.width) : numR (minV .f32 y 1065353216) = numR (if (FloatKind.f32.format.order y 1065353216 == some .gt) = true then 1065353216 else y) := by
  cases h : isN .f32 y
  · unfold minV
    rw [h, n_one, Bool.or_false, if_neg (by decide)]
    cases h1 : (FloatKind.f32.format.order y 1065353216 == some .lt)
    · rw [if_neg (by decide)]
      cases h2 : (FloatKind.f32.format.order y 1065353216 == some .gt)
      · simp only [Bool.false_eq_true, if_false]
        have h3 : (FloatKind.f32.format.order y 1065353216 == some .eq) = true := by
          rw [o_lt h n_one] at h1
          rw [o_gt h n_one] at h2
          rw [o_eq h n_one]
          simp only [decide_eq_false_iff_not, decide_eq_true_eq] at *
          omega
        rw [eq_one hy h h3]
        split <;> rfl
      · rw [if_pos rfl, if_pos rfl]
    · rw [if_pos rfl]
      have h2 : (FloatKind.f32.format.order y 1065353216 == some .gt) = false := by
        rw [o_lt h n_one] at h1
        rw [o_gt h n_one]
        simp only [decide_eq_false_iff_not, decide_eq_true_eq] at *
        omega
      rw [h2, if_neg (by decide)]
  · rw [order_nan_l _ h, if_neg (by decide), numR_nan h]
    unfold minV
    rw [h, Bool.true_or, if_pos rfl]
    exact numR_nan (isN_qn _)
/-! ### l02Number -/
theorem c_l02Number (v n : Nat) (w : World) (j : Nat) : Calls Try.prog 63 #[.float .f32 (pick .f32 v n)] (w.drewN j) (fun e w' => ∃ k m, e = .returned (.tuple #[.float .f32 (pick .f32 (numR v).1 k), .bool (numR v).2]) ∧ w' = w.drewN m) := by
  cases h : finB .f32 v
  · have e : numR v = (0, false) := by unfold numR; rw [if_neg (by rw [h]; decide)]
    rw [e]
    go_enter Try.func63, Try.ntmps63
    go_wp2_with (first | (go_at_call 62; refine (c_l01Finite _ _ _ _).mono ?_; rintro _ _ ⟨_, rfl, rfl⟩))
    go_ret2
    exact ⟨0, _, by simp only [pick00]; rfl, rfl⟩
  · have e : numR v = (v, true) := by unfold numR; rw [if_pos h]
    rw [e]
    go_enter Try.func63, Try.ntmps63
    go_wp2_with (first | (go_at_call 62; refine (c_l01Finite _ _ _ _).mono ?_; rintro _ _ ⟨_, rfl, rfl⟩))
    go_ret2
    exact ⟨n, _, rfl, rfl⟩
theorem c_l02Number0 (v n : Nat) (w : World) : Calls Try.prog 63 #[.float .f32 (pick .f32 v n)] w (fun e w' => ∃ k m, e = .returned (.tuple #[.float .f32 (pick .f32 (numR v).1 k), .bool (numR v).2]) ∧ w' = w.drewN m) := by
  have h := c_l02Number v n w 0
  rwa [w.drewN_zero] at h
/-! ### sFilm -/
theorem c_l02Num1 (w : World) (j : Nat) : Calls Try.prog 63 #[.float .f32 1065353216] (w.drewN j) (fun e w' => ∃ k m, e = .returned (.tuple #[.float .f32 (pick .f32 (numR 1065353216).1 k), .bool (numR 1065353216).2]) ∧ w' = w.drewN m) := by
  have h := c_l02Number 1065353216 0 w j
  rwa [pick_not n_one] at h
theorem c_sFilmLight (x n : Nat) (w : World) (j : Nat) : Calls Try.prog 38 #[.float .f32 (pick .f32 x n)] (w.drewN j) (RetT (filmR x) w) := by
  unfold filmR filmT filmV
  cases h1 : leastB x
  · simp only [Bool.false_eq_true, if_false]
    go_enter Try.func38, Try.ntmps38
    go_wp2_with (first | (go_at_call 75; refine (c_l02Least _ _ _ _).mono ?_; rintro _ _ ⟨_, rfl, rfl⟩))
    go_ret2
    exact RetT.no rfl ⟨_, rfl⟩
  rw [if_pos rfl]
  cases h2 : (FloatKind.f32.format.order (fop .quo .f32 (fop .mul .f32 x (fop .add .f32 (fop .mul .f32 1075880919 x) 1022739087)) (fop .add .f32 (fop .mul .f32 x (fop .add .f32 (fop .mul .f32 1075545375 x) 1058474557)) 1041194025)) 1065353216 == some .gt)
  all_goals
    simp only [if_true, Bool.false_eq_true, if_false]
    go_enter Try.func38, Try.ntmps38
    go_wp2_with (first | (first | (refine wpList_fop rfl _ _ _ _ _ rfl _ _ _ rfl rfl (by decide) _ ?_; intro _ _) | (refine upon_fop _ _ _ _ _ (by decide) ?_; intro _ _)) | (go_at_call 75; refine (c_l02Least _ _ _ _).mono ?_; rintro _ _ ⟨_, rfl, rfl⟩) | (go_at_call 63; first | ((with_reducible refine (c_l02Number _ _ _ _).mono ?_); rintro _ _ ⟨_, _, rfl, rfl⟩) | ((with_reducible refine (c_l02Num1 _ _).mono ?_); rintro _ _ ⟨_, _, rfl, rfl⟩)))
    go_ret2
    exact ⟨_, _, rfl, rfl⟩
/-! ### IsNaN -/
theorem c_IsNaN (v n : Nat) (w : World) (j : Nat) : Calls Try.prog 113 #[.float .f64 (pick .f64 v n)] (w.drewN j) (RetV (.bool (isN .f64 v)) w) := by
  go_enter Try.func113, Try.ntmps113
  go_wp2
  go_ret
  exact ⟨_, rfl, rfl⟩
/-! ### f64bits -/
@[go_sem] theorem e_f64bits (b : Nat) (w : World) : (callFunc 109 #[.float .f64 b]).run Try.prog w = .ok (.value (.int .u64 b)) w := by kernel_rfl
/-! ### f64from -/
@[go_sem] theorem e_f64from (n : Int) (w : World) : (callFunc 108 #[.int .u64 n]).run Try.prog w = .ok (.value (.float .f64 n.toNat)) w := by kernel_rfl
/-! ### Abs -/
theorem c_Abs (v n : Nat) (w : World) (j : Nat) (hv : v < 2 ^ FloatKind.f64.format.width) : Calls Try.prog 80 #[.float .f64 (pick .f64 v n)] (w.drewN j) (RetF .f64 (fabs .f64 v) w) := by
  have hb := abs_bits hv n
  go_enter Try.func80, Try.ntmps80
  go_wp2
  go_ret
  exact ⟨_, _, rfl, rfl⟩
/-! ### IsInf0 -/
theorem c_IsInf0 (v n : Nat) (w : World) (j : Nat) (hv : v < 2 ^ FloatKind.f64.format.width) : Calls Try.prog 114 #[.float .f64 (pick .f64 v n), .int .i64 0] (w.drewN j) (RetV (.bool (FloatKind.f64.format.order (fabs .f64 v) 9218868437227405311 == some .gt)) w) := by
  go_enter Try.func114, Try.ntmps114
  go_wp2_with ((go_at_call 80; refine (c_Abs _ _ _ _ hv).mono ?_; rintro _ _ ⟨_, _, rfl, rfl⟩))
  go_ret
  exact ⟨_, rfl, rfl⟩
/-! ### isFinite64 -/
theorem c_isFinite64 (v n : Nat) (w : World) (j : Nat) (hv : v < 2 ^ FloatKind.f64.format.width) : Calls Try.prog 103 #[.float .f64 (pick .f64 v n)] (w.drewN j) (RetV (.bool (finB .f64 v)) w) := by
  go_enter Try.func103, Try.ntmps103
  go_wp2_with (first | (go_at_call 113; refine (c_IsNaN _ _ _ _).mono ?_; rintro _ _ ⟨_, rfl, rfl⟩) | (go_at_call 114; refine (c_IsInf0 _ _ _ _ hv).mono ?_; rintro _ _ ⟨_, rfl, rfl⟩))
  all_goals
    go_ret
    refine ⟨_, ?_, rfl⟩
    rw [← abs_gt_max]
    simp [*]
/-! ### iIsFinite -/
theorem c_iIsFinite (v n : Nat) (w : World) (j : Nat) : Calls Try.prog 65 #[.float .f32 (pick .f32 v n)] (w.drewN j) (RetV (.bool (finB .f32 v)) w) := by
  go_enter Try.func65, Try.ntmps65
  go_wp2_with (first | (refine wpList_cvU rfl 32 36 _ rfl (Option.isSome_iff_exists.2 ⟨_, Try.underlying32⟩) Try.underlying36 _ rfl _ ?_; intro _ _) | (go_at_call 103; refine (c_isFinite64 _ _ _ _ (cvU_lt _)).mono ?_; rintro _ _ ⟨_, rfl, rfl⟩))
  go_ret
  rw [← finB_cvU]
  exact ⟨_, rfl, rfl⟩
/-! ### ifFinite -/
theorem c_ifFinite (v n : Nat) (w : World) (j : Nat) : Calls Try.prog 66 #[.float .f32 (pick .f32 v n)] (w.drewN j) (fun e w' => ∃ k m, e = .returned (.tuple #[.float .f32 (pick .f32 (numR v).1 k), .bool (numR v).2]) ∧ w' = w.drewN m) := by
  cases h : finB .f32 v
  · have e : numR v = (0, false) := by unfold numR; rw [if_neg (by rw [h]; decide)]
    rw [e]
    go_enter Try.func66, Try.ntmps66
    go_wp2_with (first | (go_at_call 65; refine (c_iIsFinite _ _ _ _).mono ?_; rintro _ _ ⟨_, rfl, rfl⟩))
    go_ret2
    exact ⟨0, _, by simp only [pick00]; rfl, rfl⟩
  · have e : numR v = (v, true) := by unfold numR; rw [if_pos h]
    rw [e]
    go_enter Try.func66, Try.ntmps66
    go_wp2_with (first | (go_at_call 65; refine (c_iIsFinite _ _ _ _).mono ?_; rintro _ _ ⟨_, rfl, rfl⟩))
    go_ret2
    exact ⟨n, _, rfl, rfl⟩
/-! ### iFilm -/
theorem c_iFilmLight (x n : Nat) (w : World) (j : Nat) : Calls Try.prog 39 #[.float .f32 (pick .f32 x n)] (w.drewN j) (RetT (filmR x) w) := by
  unfold filmR
  cases h1 : finB .f32 x
  · have e : leastB x = false := by unfold leastB; rw [h1]; rfl
    rw [e, if_neg (by decide)]
    clear e
    go_enter Try.func39, Try.ntmps39
    go_wp2_with (first | (go_at_call 65; refine (c_iIsFinite _ _ _ _).mono ?_; rintro _ _ ⟨_, rfl, rfl⟩))
    go_ret2
    exact RetT.no rfl ⟨_, rfl⟩
  have hlt := least_lt h1
  cases h3 : leastB x
  · rw [h3, Bool.not_false] at hlt
    rw [if_neg (by decide)]
    go_enter Try.func39, Try.ntmps39
    go_wp2_with (first | (go_at_call 65; refine (c_iIsFinite _ _ _ _).mono ?_; rintro _ _ ⟨_, rfl, rfl⟩))
    go_ret2
    exact RetT.no rfl ⟨_, rfl⟩
  · rw [h3, Bool.not_true] at hlt
    rw [if_pos rfl]
    have HM := Lib.hid (show numR (minV .f32 (filmV x) 1065353216) = numR (filmT x) from min_one (fop_lt _ _ _ _))
    unfold filmV at HM
    generalize numR (filmT x) = z at *
    go_enter Try.func39, Try.ntmps39
    go_wp2_with (first | (first | (refine wpList_fop rfl _ _ _ _ _ rfl _ _ _ rfl rfl (by decide) _ ?_; intro _ _) | (refine upon_fop _ _ _ _ _ (by decide) ?_; intro _ _)) | (refine wpList_fmin rfl _ _ _ rfl _ _ _ rfl rfl _ ?_; intro _ _) | (go_at_call 65; refine (c_iIsFinite _ _ _ _).mono ?_; rintro _ _ ⟨_, rfl, rfl⟩) | (go_at_call 66; refine (c_ifFinite _ _ _ _).mono ?_; rw [HM.out]; rintro _ _ ⟨_, _, rfl, rfl⟩))
    go_ret2
    exact ⟨_, _, rfl, rfl⟩
/-! ### sameFloat -/
theorem c_sameFloat (v n m : Nat) (w : World) (j : Nat) : Calls Try.prog 24 #[.float .f64 (pick .f64 v n), .float .f64 (pick .f64 v m)] (w.drewN j) (RetV (.bool true) w) := by
  have hs := self_ne .f64 v
  have ht := self_eq .f64 v
  cases h : isN .f64 v
  · rw [h] at hs ht
    cases h2 : (FloatKind.f64.format.order v 0 == some .eq)
    · go_enter Try.func24, Try.ntmps24
      go_wp2_with (first | (refine wpList_fop rfl _ _ _ _ _ rfl _ _ _ rfl rfl (by decide) _ ?_; intro _ _) | (refine upon_fop _ _ _ _ _ (by decide) ?_; intro _ _))
      go_ret
      exact ⟨_, rfl, rfl⟩
    · go_enter Try.func24, Try.ntmps24
      go_wp2_with (first | (refine wpList_fop rfl _ _ _ _ _ rfl _ _ _ rfl rfl (by decide) _ ?_; intro _ _) | (refine upon_fop _ _ _ _ _ (by decide) ?_; intro _ _))
      go_ret
      exact ⟨_, by simp, rfl⟩
  · rw [h] at hs ht
    go_enter Try.func24, Try.ntmps24
    go_wp2_with (first | (refine wpList_fop rfl _ _ _ _ _ rfl _ _ _ rfl rfl (by decide) _ ?_; intro _ _) | (refine upon_fop _ _ _ _ _ (by decide) ?_; intro _ _))
    go_ret
    exact ⟨_, rfl, rfl⟩

/-! ### FnExactFilmLight -/
theorem walk (v n : Nat) (w : World) (hv : v < 2 ^ FloatKind.f32.format.width) : Calls Try.prog 9 #[.float .f32 (pick .f32 v n)] w fun e w' => e = .returned (.bool true) ∧ Below w.heap.size w w' := by
  rw [← w.drewN_zero]
  have CS := Lib.hid (fun n w j => c_sFilmLight v n w j)
  have CI := Lib.hid (fun n w j => c_iFilmLight v n w j)
  generalize filmR v = r at *
  go_enter Try.func9, Try.ntmps9
  go_wp2_with (first | (refine wpList_cvU rfl 32 36 _ rfl (Option.isSome_iff_exists.2 ⟨_, Try.underlying32⟩) Try.underlying36 _ rfl _ ?_; intro _ _) | (go_at_call 38; refine (CS.out _ _ _).mono ?_; rintro _ _ ⟨_, _, rfl, rfl⟩) | (go_at_call 39; refine (CI.out _ _ _).mono ?_; rintro _ _ ⟨_, _, rfl, rfl⟩) | (go_at_call 24; refine (c_sameFloat _ _ _ _ _).mono ?_; rintro _ _ ⟨_, rfl, rfl⟩))
  go_ret
  exact ⟨rfl, below_drewN (Below.refl _ _) _⟩

theorem own : ownKnob Try.prog.godebug = none := by kernel_rfl
theorem laidOut : laidOutB Try.prog = true := by kernel_rfl
set_option maxRecDepth 100000 in
theorem lifted (os : Os) (started : os.Started) (H : Type) (enc : TypeId × Value → H) :
    ReturnsInHanded {} Try.checked os 9 .any (Rows.fnExactFilmLightSpec.pre6 enc Try.prog Try.f9 Rows.fnExactFilmLightRow.domain false) (Rows.fnExactFilmLightSpec.post enc Try.prog Try.f9 false true false false) := by
  refine returnsInHanded_of_change (C := Try.checked) own started (by kernel_rfl) Try.func9
    (ChangeSpec.witness6 (enc := enc) (C := Try.checked) false ⟨#[], #[.float .f32 0], []⟩ 8 (by kernel_rfl) (by kernel_rfl) (by kernel_rfl) (by kernel_rfl)) ?_
  intro W base args ds gs before hval0 hW hcnd _
  have hval : ∀ (j : Nat) t v, Try.f9.params[j]? = some t → args[j]? = some v → Value.okWide Try.prog W .any base t v := hval0
  have hW' := hW
  obtain ⟨p, q, hA0, hV, rfl, hfz, hnd⟩ := hW
  have hA : DataW.TrodAll enc Try.prog W 0 (fun _ => true) true Try.f9.params.toList args.toList ds p := hA0
  rw [Try.params9] at hA hval
  obtain ⟨v0, vs0, d0, ds0, p0, q0, hargs, rfl, rfl, h0, r0⟩ := trodAll_cons hA
  obtain ⟨rfl, rfl, rfl⟩ := trodAll_nil r0
  obtain rfl : args = #[v0] := by cases args; simp_all
  obtain ⟨rfl, rfl⟩ := trodVars_none hV
  obtain ⟨b0, rfl, rfl, rfl, w0⟩ := open_float Try.underlying32 (hval 0 32 v0 rfl rfl) h0
  obtain ⟨n0, en0⟩ := pick_onto .f32 b0 (lt_of_wf w0)
  clear hA0 hval0
  have hcall0 := en0
  have hw0 : Calls Try.prog 9 #[.float .f32 b0] W fun e w' => e = .returned (.bool true) ∧ Below W.heap.size W w' := by
    rw [en0]
    exact walk b0 n0 W (lt_of_wf w0)
  refine hw0.mono fun e W' ⟨he, bel⟩ => ?_
  subst he
  exact ⟨_, rfl, _, _, _, [], _, [], hW', trodAll_mk1 (shut_bool Try.underlying4 _), (trodAll_cons_mk (shut_float Try.underlying32 w0) trodAll_mk0), rfl, bel.frame _, fun h => by cases h⟩

theorem over : Rows.fnExactFilmLightRow.holds Try.pinned (OpenSpec.ofChange Rows.fnExactFilmLightSpec) :=
  OpenClaim.holds_of_wide 9 Try.f9 rfl rfl rfl rfl rfl rfl rfl ⟨rfl, rfl, rfl, rfl, rfl⟩ rfl rfl rfl rfl rfl (by kernel_rfl) Try.func9 (by kernel_rfl)
    (of_decide_eq_true (by kernel_rfl)) (by unfold Func.isWrapper; first | (rw [if_pos (by decide +kernel)]; kernel_rfl) | (rw [if_neg (by decide +kernel)]; exact ⟨rfl, rfl⟩))
    (fun os started H enc _ => lifted os started H enc)

theorem proved : Rows.FnExactFilmLightSaid := over
#print axioms proved

end Go.Proofs.Ytpjbbmeebnbdlaa.fnExactFilmLight

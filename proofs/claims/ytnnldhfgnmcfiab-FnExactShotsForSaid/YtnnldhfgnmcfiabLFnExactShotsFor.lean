/-
  FnExactShotsFor: for every input this law of the program returns true, and each argument reads as before. No condition.
-/
import Derived.Test.YtnnldhfgnmcfiabRows
import Derived.Test.YtnnldhfgnmcfiabRow
import Derived.Test.YtnnldhfgnmcfiabLg
import Derived.Test.YtnnldhfgnmcfiabAp
import Derived.ProofKit
import Derived.OpenShut
import Derived.ShutString
import Derived.ChangeOld
import Derived.Below
import Derived.Lib.Hide
import Derived.Outline
import Derived.Deep.RegionHeld3
import Derived.Deep.DeepCutAuto
set_option linter.unusedSimpArgs false
set_option linter.unusedVariables false
set_option exponentiation.threshold 2000
set_option maxRecDepth 20000
set_option maxHeartbeats 4000000
namespace Go.Proofs.Ytnnldhfgnmcfiab.fnExactShotsFor
open Go Go.Proofs.Ytnnldhfgnmcfiab Go.Proofs
open Go.ChangeShapes Go.WideShapes Go.ChangeAt Go.RowKit
open Go.ChangeMaps (open_string shut_string)
/-! ### picDefs -/
def sideB (W H : Int) : Bool := decide (1 ≤ W) && decide (W ≤ 16) && (decide (1 ≤ H) && decide (H ≤ 16))
def finL (zs : List Nat) : Bool := zs.all (finB .f32)
def validB (W H : Int) (zs : List Nat) : Bool := sideB W H && decide ((zs.length : Int) = W * H) && finL zs
theorem sideB_true {W H : Int} (h : sideB W H = true) : (1 ≤ W ∧ W ≤ 16) ∧ 1 ≤ H ∧ H ≤ 16 := by simpa [sideB, and_assoc] using h
theorem side_mul {W H : Int} (h : sideB W H = true) : 1 ≤ W * H ∧ W * H ≤ 256 := by
  obtain ⟨⟨h1, h2⟩, h3, h4⟩ := sideB_true h
  have : W * H ≤ 16 * 16 := Int.mul_le_mul h2 h4 (by omega) (by omega)
  have h5 : 1 * 1 ≤ W * H := Int.mul_le_mul h1 h3 (by omega) (by omega)
  omega
theorem sideB_false {W H : Int} (h : sideB W H = false) : W < 1 ∨ 16 < W ∨ H < 1 ∨ 16 < H := by
  simp [sideB] at h; omega
theorem finL_snoc (zs : List Nat) (k : Nat) (hk : k < zs.length) : finL (zs.take (k + 1)) = (finL (zs.take k) && finB .f32 (fat zs k)) := by
  unfold finL fat
  rw [List.take_succ_eq_append_getElem hk, List.all_append, List.getD, List.getElem?_eq_getElem hk]; simp
theorem finL_of (zs : List Nat) (k : Nat) (hk : k < zs.length) (h : finB .f32 (fat zs k) = false) : finL zs = false := by
  unfold finL
  rw [List.all_eq_false]
  refine ⟨zs[k], List.getElem_mem hk, ?_⟩
  unfold fat at h
  rw [List.getD, List.getElem?_eq_getElem hk] at h
  simpa using h
theorem pick0 (k : FloatKind) (v : Nat) (hv : v < 2 ^ k.format.width) : ∃ n, v = pick k v n := pick_onto k v hv
/-! ### meanDefs -/
def meanV (zs : List Nat) : Nat := fop .quo .f32 (sumF .add .f32 0 zs) (floatOfInt .f32 (zs.length : Int))
def numR (v : Nat) : Nat × Bool := if finB .f32 v = true then (v, true) else (0, false)
def meanR (W H : Int) (zs : List Nat) : Nat × Bool := if validB W H zs = true then numR (meanV zs) else (0, false)
theorem mean_len {W H : Int} {zs : List Nat} (h : validB W H zs = true) : zs.length ≤ 256 := by
  simp only [validB, Bool.and_eq_true, decide_eq_true_eq] at h
  obtain ⟨⟨h1, h2⟩, h3⟩ := h
  have := side_mul h1
  omega
theorem pick00 : pick .f32 0 0 = 0 := pick_not (show isN .f32 0 = false from by decide +kernel) 0
/-! ### ordDefs -/
theorem cmp_bools (a b : Int) : ((some (compare a b) == some Ordering.lt) = decide (a < b)) ∧ ((some (compare a b) == some Ordering.gt) = decide (b < a)) ∧ ((some (compare a b) == some Ordering.eq) = decide (a = b)) := by
  rcases Int.lt_trichotomy a b with h | h | h
  · rw [cmp_of_lt h, decide_eq_true h, decide_eq_false (by omega), decide_eq_false (by omega)]; exact ⟨rfl, rfl, rfl⟩
  · subst h; rw [Int.compare_eq_eq.2 rfl, decide_eq_false (by omega), decide_eq_true rfl]; exact ⟨rfl, rfl, rfl⟩
  · rw [cmp_of_gt h, decide_eq_false (by omega), decide_eq_true h, decide_eq_false (by omega)]; exact ⟨rfl, rfl, rfl⟩
theorem o_lt {v c : Nat} (h : isN .f32 v = false) (hc : isN .f32 c = false) : (FloatKind.f32.format.order v c == some .lt) = decide (srung FloatKind.f32.format v < srung FloatKind.f32.format c) := by
  rw [order_rungs .f32 v c h hc]; exact (cmp_bools _ _).1
theorem o_gt {v c : Nat} (h : isN .f32 v = false) (hc : isN .f32 c = false) : (FloatKind.f32.format.order v c == some .gt) = decide (srung FloatKind.f32.format c < srung FloatKind.f32.format v) := by
  rw [order_rungs .f32 v c h hc]; exact (cmp_bools _ _).2.1
theorem o_eq {v c : Nat} (h : isN .f32 v = false) (hc : isN .f32 c = false) : (FloatKind.f32.format.order v c == some .eq) = decide (srung FloatKind.f32.format v = srung FloatKind.f32.format c) := by
  rw [order_rungs .f32 v c h hc]; exact (cmp_bools _ _).2.2
theorem o_le {v c : Nat} (h : isN .f32 v = false) (hc : isN .f32 c = false) : (FloatKind.f32.format.order v c == some .lt || FloatKind.f32.format.order v c == some .eq) = decide (srung FloatKind.f32.format v ≤ srung FloatKind.f32.format c) := by
  rw [o_lt h hc, o_eq h hc, ← Bool.decide_or]; exact decide_eq_decide.2 (by omega)
theorem o_ge {v c : Nat} (h : isN .f32 v = false) (hc : isN .f32 c = false) : (FloatKind.f32.format.order v c == some .gt || FloatKind.f32.format.order v c == some .eq) = decide (srung FloatKind.f32.format c ≤ srung FloatKind.f32.format v) := by
  rw [o_gt h hc, o_eq h hc, ← Bool.decide_or]; exact decide_eq_decide.2 (by omega)
theorem s_zero : srung FloatKind.f32.format 0 = 0 := by decide +kernel
theorem s_half : srung FloatKind.f32.format 1056964608 = 1056964608 := by decide +kernel
theorem s_one : srung FloatKind.f32.format 1065353216 = 1065353216 := by decide +kernel
theorem n_zero : isN .f32 0 = false := by decide +kernel
theorem n_half : isN .f32 1056964608 = false := by decide +kernel
theorem n_one : isN .f32 1065353216 = false := by decide +kernel
theorem pick_zero (n : Nat) : pick .f32 0 n = 0 := pick_not n_zero n
/-! ### numT -/
def RetT (r : Nat × Bool) (w : World) (e : Ending) (w' : World) : Prop := ∃ k m, e = .returned (.tuple #[.float .f32 (pick .f32 r.1 k), .bool r.2]) ∧ w' = w.drewN m
theorem RetT.no {w : World} {e : Ending} {w' : World} (h : e = .returned (.tuple #[.float .f32 0, .bool false])) (hw : ∃ m, w' = w.drewN m) : RetT (0, false) w e w' := ⟨0, hw.choose, by rw [h]; simp only [pick_zero], hw.choose_spec⟩
theorem RetF1.no {w : World} {e : Ending} {w' : World} (h : e = .returned (.tuple #[.float .f32 0, .bool false])) (hw : Below w.heap.size w w') : RetF1 (0, false) w e w' := ⟨0, by rw [h]; simp only [pick_zero], hw⟩
theorem numR_pick (v n : Nat) : (numR (pick .f32 v n)).2 = (numR v).2 ∧ ∀ m, ∃ k, pick .f32 (numR (pick .f32 v n)).1 m = pick .f32 (numR v).1 k := by
  unfold numR
  rw [finB_pick]
  cases h : finB .f32 v
  · exact ⟨rfl, fun m => ⟨m, rfl⟩⟩
  · refine ⟨rfl, fun m => ⟨0, ?_⟩⟩
    rw [if_pos rfl, if_pos rfl, pick_not (fin_notN h), pick_not (fin_notN h), pick_not (fin_notN h)]
/-! ### l01Finite -/
theorem c_l01Finite (v n : Nat) (w : World) (j : Nat) : Calls Try.prog 49 #[.float .f32 (pick .f32 v n)] (w.drewN j) (RetV (.bool (finB .f32 v)) w) := by
  go_enter Try.func49, Try.ntmps49
  go_wp2_with (first | (refine wpList_fop rfl _ _ _ _ _ rfl _ _ _ rfl rfl (by decide) _ ?_; intro _ _) | (refine upon_fop _ _ _ _ _ (by decide) ?_; intro _ _))
  go_ret
  rw [← sub_self_zero]
  exact ⟨_, rfl, rfl⟩
/-! ### l02Above -/
def aboveB (v : Nat) : Bool := finB .f32 v && (FloatKind.f32.format.order v 0 == some .gt)
theorem aboveB_pick (v n : Nat) : aboveB (pick .f32 v n) = aboveB v := by unfold aboveB; rw [finB_pick, order_pick_l]
theorem c_l02Above (v n : Nat) (w : World) (j : Nat) : Calls Try.prog 55 #[.float .f32 (pick .f32 v n)] (w.drewN j) (RetV (.bool (aboveB v)) w) := by
  unfold aboveB
  cases h : finB .f32 v
  all_goals
    have HH := Lib.hid h
    go_enter Try.func55, Try.ntmps55
    go_wp2_with ((go_at_call 49; refine (c_l01Finite _ _ _ _).mono ?_; rintro _ _ ⟨_, rfl, rfl⟩))
    go_ret
    exact ⟨_, by simp [HH.out], rfl⟩
/-! ### tenFacts -/
theorem pos_fin {v : Nat} (hf : finB .f32 v = true) (hp : (FloatKind.f32.format.order v 0 == some .lt || FloatKind.f32.format.order v 0 == some .eq) = false) : InR 3936146074321813504 5183643171103440896 (cvU v) := by
  have h1 : rung Ieee.single v < Ieee.single.infRung := of_decide_eq_true hf
  have hn : isN .f32 v = false := notN_fin (k := .f32) h1
  rw [order_rungs .f32 v 0 hn (by decide +kernel)] at hp
  have e0 : srung FloatKind.f32.format 0 = 0 := by decide +kernel
  have hff : FloatKind.f32.format = Ieee.single := rfl
  rw [e0, hff] at hp
  have h2 : 0 < srung Ieee.single v := by
    rcases Int.lt_trichotomy (srung Ieee.single v) 0 with h | h | h
    · rw [cmp_of_lt h] at hp; cases hp
    · rw [Int.compare_eq_eq.2 h] at hp; cases hp
    · exact h
  unfold srung at h2
  cases hs : sgn Ieee.single v
  · rw [hs] at h2
    exact cvU_in h1 hs (by simpa using h2)
  · rw [hs] at h2
    simp at h2; omega
def tenI (v : Nat) : Int := ti (floorF (fop .add .f64 (fop .mul .f64 (logW (cvU v)) 4631308968768463603) half64))
/-! ### logDefsNone -/

/-! ### logT -/
def logT (v : Nat) : Nat :=
  if isN .f32 v = true ∨ (FloatKind.f32.format.order v 0 == some .lt) = true then qn .f32
  else if (FloatKind.f32.format.order v 0 == some .eq) = true then 4286578688
  else if finB .f32 v = true then cvN (logW (cvU v)) else 2139095040
theorem inf_is {v : Nat} (hv : v < 2 ^ FloatKind.f32.format.width) (h1 : isN .f32 v = false) (h2 : (FloatKind.f32.format.order v 0 == some .lt) = false) (h3 : finB .f32 v = false) : v = 2139095040 := by
  have a := isN_rung' .f32 v
  rw [h1] at a
  have a2 := of_decide_eq_false a.symm
  have a3 : ¬ rung FloatKind.f32.format v < FloatKind.f32.format.infRung := of_decide_eq_false h3
  have e1 : FloatKind.f32.format.infRung = 2139095040 := by decide +kernel
  have e2 : FloatKind.f32.format.signWeight = 2147483648 := by decide +kernel
  have e3 : (2 : Nat) ^ FloatKind.f32.format.width = 4294967296 := by decide +kernel
  have hr : rung FloatKind.f32.format v = 2139095040 := by omega
  have hr2 : v % 2147483648 = 2139095040 := by have := hr; unfold rung at this; rwa [e2] at this
  rw [e3] at hv
  rcases (by omega : v = 2139095040 ∨ v = 4286578688) with h | h
  · exact h
  · subst h; exact absurd h2 (by decide +kernel)
theorem order_self {v : Nat} (h : isN .f64 v = false) : FloatKind.f64.format.order v v = some .eq := by rw [order_rungs .f64 v v h h, Int.compare_eq_eq.2 rfl]
theorem inf_cv : cvU 2139095040 = 9218868437227405312 := by decide +kernel
theorem inf_cn : 2139095040 = cvN 9218868437227405312 := by decide +kernel
theorem inf_fits : Fits 9218868437227405312 := .inr (by decide +kernel)
theorem inf_gt : (FloatKind.f64.format.order 9218868437227405312 9218868437227405311 == some .gt) = true := by decide +kernel
theorem neginf_cn : 4286578688 = cvN 18442240474082181120 := by decide +kernel
theorem neginf_fits : Fits 18442240474082181120 := .inr (by decide +kernel)
theorem log_finite {v : Nat} (h1 : isN .f32 v = false) (h2 : (FloatKind.f32.format.order v 0 == some .lt) = false) (h0 : (FloatKind.f32.format.order v 0 == some .eq) = false) (h3 : finB .f32 v = true) : InR 3936146074321813504 5183643171103440896 (cvU v) := pos_fin h3 (by rw [h2, h0]; rfl)
theorem Fits_log {v : Nat} (h : InR 3936146074321813504 5183643171103440896 v) : Fits (logW v) := Fits_of_Bd (Bd_mono (logW_fb h).bd (by decide))
/-! ### shotDefs -/
def stepB (ro st wv n : Nat) : Bool := FloatKind.f32.format.order (fop .add .f32 ro (fop .mul .f32 (floatOfInt .f32 ((n : Int) - 1)) st)) wv == some .gt || FloatKind.f32.format.order (fop .add .f32 ro (fop .mul .f32 (floatOfInt .f32 ((n : Int) - 1)) st)) wv == some .eq
def shotF (ro st wv : Nat) : Nat → Nat → Int × Bool
  | 0, _ => (0, false)
  | f + 1, n => if stepB ro st wv n = true then ((n : Int), true) else shotF ro st wv f (n + 1)
def wantV (lo hi : Nat) : Nat := fop .quo .f32 (logT (fop .quo .f32 hi lo)) 1060205080
def gesB (x y : Nat) : Bool := FloatKind.f32.format.order x y == some .gt || FloatKind.f32.format.order x y == some .eq
def shotR (lo hi st ro : Nat) : Int × Bool := if (aboveB lo && finB .f32 hi && gesB hi lo && aboveB st && aboveB ro) = true then shotF ro st (wantV lo hi) 8 1 else (0, false)
def RetI (r : Int × Bool) (w : World) (e : Ending) (w' : World) : Prop := ∃ m, e = .returned (.tuple #[.int .i64 r.1, .bool r.2]) ∧ w' = w.drewN m
def RetIB (r : Int × Bool) (w : World) (e : Ending) (w' : World) : Prop := e = .returned (.tuple #[.int .i64 r.1, .bool r.2]) ∧ Below w.heap.size w w'
theorem shotF_yes {ro st wv f n : Nat} (h : stepB ro st wv n = true) : shotF ro st wv (f + 1) n = ((n : Int), true) := by unfold shotF; rw [if_pos h]
theorem shotF_no {ro st wv f n : Nat} (h : stepB ro st wv n = false) : shotF ro st wv (f + 1) n = shotF ro st wv f (n + 1) := by
  show (if stepB ro st wv n = true then ((n : Int), true) else shotF ro st wv f (n + 1)) = _
  rw [if_neg (by rw [h]; decide)]
/-! ### f64from -/
@[go_sem] theorem e_f64from (n : Int) (w : World) : (callFunc 110 #[.int .u64 n]).run Try.prog w = .ok (.value (.float .f64 n.toNat)) w := by kernel_rfl
/-! ### mInf -/
theorem c_InfN (w : World) (j : Nat) : Calls Try.prog 98 #[.int .i64 (-1)] (w.drewN j) (RetV (.float .f64 18442240474082181120) w) := by
  go_enter Try.func98, Try.ntmps98
  go_wp2
  go_ret
  exact ⟨_, rfl, rfl⟩
/-! ### f64bits -/
@[go_sem] theorem e_f64bits (b : Nat) (w : World) : (callFunc 117 #[.float .f64 b]).run Try.prog w = .ok (.value (.int .u64 b)) w := by kernel_rfl
/-! ### Abs -/
theorem c_Abs (v n : Nat) (w : World) (j : Nat) (hv : v < 2 ^ FloatKind.f64.format.width) : Calls Try.prog 114 #[.float .f64 (pick .f64 v n)] (w.drewN j) (RetF .f64 (fabs .f64 v) w) := by
  have hb := abs_bits hv n
  go_enter Try.func114, Try.ntmps114
  go_wp2
  go_ret
  exact ⟨_, _, rfl, rfl⟩
/-! ### logWide -/
theorem c_IsInf1 (v n : Nat) (w : World) (j : Nat) : Calls Try.prog 108 #[.float .f64 (pick .f64 v n), .int .i64 1] (w.drewN j) (RetV (.bool (FloatKind.f64.format.order v 9218868437227405311 == some .gt)) w) := by
  go_enter Try.func108, Try.ntmps108
  go_wp2_with fail
  go_ret
  exact ⟨_, rfl, rfl⟩
theorem c_logWide (V n0 : Nat) (w : World) (j : Nat) (HV : Hid (V < 18446744073709551616)) (H0 : Hid (InR 3936146074321813504 5183643171103440896 V))
    (hn : isN .f64 V = false) (h1 : (FloatKind.f64.format.order V 0 == some .lt) = false) (h2 : (FloatKind.f64.format.order V 0 == some .eq) = false) (h3 : (FloatKind.f64.format.order V 9218868437227405311 == some .gt) = false) : Calls Try.prog 103 #[.float .f64 (pick .f64 V n0)] (w.drewN j) (RetF .f64 (logW V) w) := by
  go_enter Try.func103, Try.ntmps103
  go_wp2_with (first | (first | (refine wpList_fop rfl _ _ _ _ _ rfl _ _ _ rfl rfl (by decide) _ ?_; intro _ _) | (refine upon_fop _ _ _ _ _ (by decide) ?_; intro _ _)) | (go_at_call 108; refine (c_IsInf1 _ _ _ _).mono ?_; rintro _ _ ⟨_, rfl, rfl⟩))
  go_loopw [0, 3] (fun xs es wr => ∃ (i n m x : Nat), xs = .float .f64 (pick .f64 x n) ∧ es = .int .i64 (i : Int) ∧ wr = w.drewN m ∧ Hid (x < 18446744073709551616) ∧ Up V x i) (fun xs _ _ => fbits xs)
  case atStart => exact ⟨0, _, _, V, rfl, rfl, rfl, HV, Up.zero H0.out⟩
  case round =>
    obtain ⟨i, n, m, x, rfl, rfl, rfl, HX, HU⟩ := hrel
    have hi := HU.few H0.out
    cases hg : ge15 x
    · have ht : (FloatKind.f64.format.order x 4609434218613702656 == some .gt || FloatKind.f64.format.order x 4609434218613702656 == some .eq) = false := hg
      have HX2 := Lib.hid (up_exit HU hg)
      clear hg
      go_wp2_with (first | (refine wpList_fop rfl _ _ _ _ _ rfl _ _ _ rfl rfl (by decide) _ ?_; intro _ _) | (refine upon_fop _ _ _ _ _ (by decide) ?_; intro _ _))
      obtain ⟨i1, hi1⟩ : ∃ i1, i1 = i := ⟨_, rfl⟩
      obtain ⟨x1, hx1⟩ : ∃ x1, x1 = x := ⟨_, rfl⟩
      have HX3 : Hid (InR 3936146074321813504 4609434218613702655 x1 ∧ upF 400 V 0 = (x1, (i1 : Int))) := by unfold Hid; rw [hi1, hx1]; exact HX2.out
      have HXx : Hid (x1 < 18446744073709551616) := by unfold Hid; rw [hx1]; exact HX.out
      have hi2 : i1 ≤ 277 := by omega
      rw [← hx1, ← hi1]
      clear hx1 hi1 HX2 HU hi
      go_loopw [0, 3] (fun xs es wr => ∃ (i n m x : Nat), xs = .float .f64 (pick .f64 x n) ∧ es = .int .i64 ((i1 : Int) - (i : Int)) ∧ wr = w.drewN m ∧ Hid (x < 18446744073709551616) ∧ Dn x1 x (i1 : Int) i) (fun xs _ _ => 18446744073709551616 - fbits xs)
      case atStart => exact ⟨0, _, _, x1, rfl, by simp, rfl, HXx, Dn.zero HX3.out.1⟩
      case round =>
        obtain ⟨i, n, m, x, rfl, rfl, rfl, HX, HD⟩ := hrel
        have hi := HD.few HX3.out.1
        cases hg : lt75 x
        · have ht : (FloatKind.f64.format.order x 4604930618986332160 == some .lt) = false := hg
          have HX4 := Lib.hid (dn_exit HD HX3.out.2 hg)
          clear hg
          go_wp2_with (first | (refine wpList_fop rfl _ _ _ _ _ rfl _ _ _ rfl rfl (by decide) _ ?_; intro _ _) | (refine upon_fop _ _ _ _ _ (by decide) ?_; intro _ _))
          generalize hs : fop .quo .f64 (fop .sub .f64 x 4607182418800017408) (fop .add .f64 x 4607182418800017408) = sv
          have Hs : Hid (sOf x = sv) := hs
          clear hs
          go_loopw [6, 7] (fun p k wr => ∃ (i n m : Nat) (kI : Int), i ≤ 13 ∧ Hid (kI = 25 - 2 * (i : Int)) ∧ p = .float .f64 (pick .f64 (lser (fop .mul .f64 sv sv) i) n) ∧ k = .int .i64 kI ∧ wr = w.drewN m) (fun _ k _ => (intOf k + 2).toNat)
          case atStart => exact ⟨0, 0, _, 25, by omega, rfl, by rw [pick_not (show isN .f64 (lser (fop .mul .f64 sv sv) 0) = false from (by decide +kernel : isN .f64 0 = false))]; rfl, rfl, rfl⟩
          case round =>
            obtain ⟨q, n, m, kI, hq, HK, rfl, rfl, rfl⟩ := hrel
            by_cases hlt : q < 13
            · have b1 : 1 ≤ kI := by have := HK.out; omega
              have b2 : kI ≤ 25 := by have := HK.out; omega
              have HD2 : Hid (odd25 q = floatOfInt .f64 kI) := by unfold Hid odd25; rw [HK.out]
              go_wp2_with (first | (refine wpList_fop rfl _ _ _ _ _ rfl _ _ _ rfl rfl (by decide) _ ?_; intro _ _) | (refine upon_fop _ _ _ _ _ (by decide) ?_; intro _ _))
              go_roundw
              case rel => exact ⟨q + 1, _, _, kI - 2, by omega, by have := HK.out; unfold Hid; omega, by rw [lser_step, HD2.out]; rfl, rfl, rfl⟩
              case measure => simp [intOf]; omega
            · obtain rfl : q = 13 := by omega
              have b1 : kI < 1 := by have := HK.out; omega
              have b2 : -1 ≤ kI := by have := HK.out; omega
              clear hlt
              go_wp2_with (first | (refine wpList_fop rfl _ _ _ _ _ rfl _ _ _ rfl rfl (by decide) _ ?_; intro _ _) | (refine upon_fop _ _ _ _ _ (by decide) ?_; intro _ _))
              go_ret
              have e : logW V = fop .add .f64 (fop .mul .f64 two64 (fop .mul .f64 sv (lser (fop .mul .f64 sv sv) 13))) (fop .mul .f64 (floatOfInt .f64 ((i1 : Int) - (i : Int))) ln2) := by
                unfold logW logE; rw [HX4.out, Hs.out]
              rw [e]
              exact ⟨_, _, rfl, rfl⟩
        · have ht : (FloatKind.f64.format.order x 4604930618986332160 == some .lt) = true := hg
          have HM := Lib.hid (HD.more HX.out hg)
          have HS := HD.step HX3.out.1 hg
          have HN := HS.notN
          have HL : Hid (fop .mul .f64 x two64 < 18446744073709551616) := fop_lt .mul .f64 x two64
          have hxn := HD.notN
          skip
          have HN2 := Lib.hid HN
          have HN3 := Lib.hid hxn
          clear hg HN hxn
          go_wp2_with (first | (refine wpList_fop rfl _ _ _ _ _ rfl _ _ _ rfl rfl (by decide) _ ?_; intro _ _) | (refine upon_fop _ _ _ _ _ (by decide) ?_; intro _ _))
          go_roundw
          case rel => exact ⟨i + 1, _, _, _, rfl, by rw [← esub], rfl, HL, HS⟩
          case measure =>
            have h1 := HM.out
            show 18446744073709551616 - pick .f64 (fop .mul .f64 x two64) _ < 18446744073709551616 - pick .f64 x _
            rw [pick_not HN2.out, pick_not HN3.out]
            generalize fop .mul .f64 x two64 = y at *
            omega
    · have ht : (FloatKind.f64.format.order x 4609434218613702656 == some .gt || FloatKind.f64.format.order x 4609434218613702656 == some .eq) = true := hg
      have HM := Lib.hid (HU.less HX.out hg)
      have HS := HU.step H0.out hg
      have HN := HS.notN
      have HL : Hid (fop .quo .f64 x two64 < 18446744073709551616) := fop_lt .quo .f64 x two64
      have hxn := HU.notN
      skip
      have HN2 := Lib.hid HN
      have HN3 := Lib.hid hxn
      clear hg HN hxn
      go_wp2_with (first | (refine wpList_fop rfl _ _ _ _ _ rfl _ _ _ rfl rfl (by decide) _ ?_; intro _ _) | (refine upon_fop _ _ _ _ _ (by decide) ?_; intro _ _))
      go_roundw
      case rel => exact ⟨i + 1, _, _, _, rfl, by go_num, rfl, HL, HS⟩
      case measure =>
        have h1 := HM.out
        show pick .f64 (fop .quo .f64 x two64) _ < pick .f64 x _
        rw [pick_not HN2.out, pick_not HN3.out]
        exact h1
/-! ### sineFacts -/
theorem fin_small {v : Nat} (h : finB .f32 v = true) (hb : decide (4841369599423283200 ≤ rung Ieee.double (cvU v)) = false) :
    isN .f64 (cvU v) = false ∧ floatToIntVal .f64 (cvU v) .i64 = some (ti (cvU v)) ∧ Bd .f64 1184 (sinF (cvU v)) := by
  have h1 : rung Ieee.single v < Ieee.single.infRung := of_decide_eq_true h
  have h2 : isN .f32 v = false := notN_fin (k := .f32) h1
  obtain ⟨_, c2, _, c4, _, _⟩ := cvU_spec h2
  have h3 := c4.2 h1
  have h4 := whole_small (v := cvU v) (by have := of_decide_eq_false hb; omega)
  exact ⟨c2, toInt64 h3 h4, sinF_bd (partF_bd h3 h4)⟩
theorem Fits_sin {v : Nat} (h : Bd .f64 1184 v) : Fits v := Fits_of_Bd (Bd_mono h (by decide))
theorem raw_nan {b : Nat} (h1 : isN .f64 b = true) (h2 : b < 2 ^ FloatKind.f64.format.width) : ∃ n, b = pick .f64 (qn .f64) n := by
  obtain ⟨n, e⟩ := nanOf_onto .f64 b h2 h1
  exact ⟨n, by rw [e]; simp [pick, isN_qn]⟩
def sineT (v : Nat) : Nat := if finB .f32 v = true then (if decide (4841369599423283200 ≤ rung Ieee.double (cvU v)) = true then 0 else cvN (sinF (cvU v))) else qn .f32
/-! ### mathNaN -/
theorem c_NaN (w : World) (j : Nat) : Calls Try.prog 112 #[] (w.drewN j) (RetF .f64 (qn .f64) w) := by
  obtain ⟨n, hn⟩ := raw_nan (b := 9221120237041090561) (by decide +kernel) (by decide +kernel)
  go_enter Try.func112, Try.ntmps112
  go_wp2
  go_ret
  exact ⟨n, _, by rw [← hn]; rfl, rfl⟩
/-! ### l01LogAll -/
theorem c_sLogW_nan (v n : Nat) (w : World) (j : Nat) (h : (FloatKind.f64.format.order v v != some .eq) = true ∨ (FloatKind.f64.format.order v 0 == some .lt) = true) : Calls Try.prog 103 #[.float .f64 (pick .f64 v n)] (w.drewN j) (RetF .f64 (qn .f64) w) := by
  cases h1 : (FloatKind.f64.format.order v v != some .eq)
  · have h2 : (FloatKind.f64.format.order v 0 == some .lt) = true := by
      rcases h with h | h
      · rw [h1] at h; cases h
      · exact h
    clear h
    go_enter Try.func103, Try.ntmps103
    go_wp2_with (first | (first | (refine wpList_fop rfl _ _ _ _ _ rfl _ _ _ rfl rfl (by decide) _ ?_; intro _ _) | (refine upon_fop _ _ _ _ _ (by decide) ?_; intro _ _)) | (go_at_call 112; refine (c_NaN _ _).mono ?_; rintro _ _ ⟨_, _, rfl, rfl⟩))
    go_ret
    exact ⟨_, _, rfl, rfl⟩
  · clear h
    go_enter Try.func103, Try.ntmps103
    go_wp2_with (first | (first | (refine wpList_fop rfl _ _ _ _ _ rfl _ _ _ rfl rfl (by decide) _ ?_; intro _ _) | (refine upon_fop _ _ _ _ _ (by decide) ?_; intro _ _)) | (go_at_call 112; refine (c_NaN _ _).mono ?_; rintro _ _ ⟨_, _, rfl, rfl⟩))
    go_ret
    exact ⟨_, _, rfl, rfl⟩
theorem c_sLogW_zero (v n : Nat) (w : World) (j : Nat) (h1 : (FloatKind.f64.format.order v v != some .eq) = false) (h2 : (FloatKind.f64.format.order v 0 == some .lt) = false) (h3 : (FloatKind.f64.format.order v 0 == some .eq) = true) : Calls Try.prog 103 #[.float .f64 (pick .f64 v n)] (w.drewN j) (RetV (.float .f64 18442240474082181120) w) := by
  go_enter Try.func103, Try.ntmps103
  go_wp2_with (first | (first | (refine wpList_fop rfl _ _ _ _ _ rfl _ _ _ rfl rfl (by decide) _ ?_; intro _ _) | (refine upon_fop _ _ _ _ _ (by decide) ?_; intro _ _)) | (go_at_call 98; refine (c_InfN _ _).mono ?_; rintro _ _ ⟨_, rfl, rfl⟩))
  go_ret
  exact ⟨_, rfl, rfl⟩
theorem c_sLogW_inf (v n : Nat) (w : World) (j : Nat) (h1 : (FloatKind.f64.format.order v v != some .eq) = false) (h2 : (FloatKind.f64.format.order v 0 == some .lt) = false) (h3 : (FloatKind.f64.format.order v 0 == some .eq) = false) (h4 : (FloatKind.f64.format.order v 9218868437227405311 == some .gt) = true) : Calls Try.prog 103 #[.float .f64 (pick .f64 v n)] (w.drewN j) (RetF .f64 v w) := by
  go_enter Try.func103, Try.ntmps103
  go_wp2_with (first | (first | (refine wpList_fop rfl _ _ _ _ _ rfl _ _ _ rfl rfl (by decide) _ ?_; intro _ _) | (refine upon_fop _ _ _ _ _ (by decide) ?_; intro _ _)) | (go_at_call 108; refine (c_IsInf1 _ _ _ _).mono ?_; rintro _ _ ⟨_, rfl, rfl⟩))
  go_ret
  exact ⟨_, _, rfl, rfl⟩
theorem c_l01Log (v n : Nat) (w : World) (j : Nat) (hv : v < 2 ^ FloatKind.f32.format.width) : Calls Try.prog 77 #[.float .f32 (pick .f32 v n)] (w.drewN j) (RetF .f32 (logT v) w) := by
  cases h1 : isN .f32 v
  · have hs := order_self (v := cvU v) (by rw [isN_cvU]; exact h1)
    cases h2 : (FloatKind.f32.format.order v 0 == some .lt)
    · cases h0 : (FloatKind.f32.format.order v 0 == some .eq)
      · cases h3 : finB .f32 v
        · have e0 := inf_is hv h1 h2 h3
          have ec : cvU v = 9218868437227405312 := by rw [e0]; exact inf_cv
          have e : logT v = cvN (cvU v) := by unfold logT; rw [if_neg (by rw [h1, h2]; decide), if_neg (by rw [h0]; decide), if_neg (by rw [h3]; decide), ec]; exact inf_cn
          have HF : Hid (Fits (cvU v)) := by unfold Hid; rw [ec]; exact inf_fits
          have HC := Lib.hid (fun n j => c_sLogW_inf (cvU v) n w j (by rw [bne, hs]; rfl) (by rw [order_cv0]; exact h2) (by rw [order_cv0]; exact h0) (by rw [ec]; exact inf_gt))
          rw [e]
          clear hs ec e e0 h1 h2 h0 h3 hv
          go_enter Try.func77, Try.ntmps77
          go_wp2_with (first | (refine wpList_cvU rfl 22 26 _ rfl (Option.isSome_iff_exists.2 ⟨_, Try.underlying22⟩) Try.underlying26 _ rfl _ ?_; intro _ _) | (refine wpList_cvN rfl 26 22 _ rfl (Option.isSome_iff_exists.2 ⟨_, Try.underlying26⟩) Try.underlying22 _ rfl _ (by rw [Fits_pick]; exact HF.out) ?_; intro _ _) | (go_at_call 103; refine (HC.out _ _).mono ?_; rintro _ _ ⟨_, _, rfl, rfl⟩) | go_in)
          go_ret
          exact ⟨_, _, rfl, rfl⟩
        · have HR := Lib.hid (log_finite h1 h2 h0 h3)
          have e : logT v = cvN (logW (cvU v)) := by unfold logT; rw [if_neg (by rw [h1, h2]; decide), if_neg (by rw [h0]; decide), if_pos h3]
          rw [e]
          have HT := Lib.hid (pos_tests HR.out)
          have HM := Lib.hid (max_not HR.out)
          have HF := Lib.hid (Fits_log HR.out)
          have HV : Hid (cvU v < 18446744073709551616) := cvU_lt v
          have HNN : Hid (isN .f64 (cvU v) = false) := by unfold Hid; rw [isN_cvU]; exact h1
          clear hs h1 h2 h0 h3 e
          go_enter Try.func77, Try.ntmps77
          go_wp2_with (first | (refine wpList_cvU rfl 22 26 _ rfl (Option.isSome_iff_exists.2 ⟨_, Try.underlying22⟩) Try.underlying26 _ rfl _ ?_; intro _ _) | (refine wpList_cvN rfl 26 22 _ rfl (Option.isSome_iff_exists.2 ⟨_, Try.underlying26⟩) Try.underlying22 _ rfl _ (by rw [Fits_pick]; exact HF.out) ?_; intro _ _) | (go_at_call 103; refine (c_logWide _ _ _ _ HV HR HNN.out HT.out.1 HT.out.2 HM.out).mono ?_; rintro _ _ ⟨_, _, rfl, rfl⟩) | go_in)
          go_ret
          exact ⟨_, _, rfl, rfl⟩
      · have e : logT v = cvN 18442240474082181120 := by unfold logT; rw [if_neg (by rw [h1, h2]; decide), if_pos h0]; exact neginf_cn
        rw [e]
        have HC := Lib.hid (fun n j => c_sLogW_zero (cvU v) n w j (by rw [bne, hs]; rfl) (by rw [order_cv0]; exact h2) (by rw [order_cv0]; exact h0))
        clear hs h1 h2 h0 e
        go_enter Try.func77, Try.ntmps77
        go_wp2_with (first | (refine wpList_cvU rfl 22 26 _ rfl (Option.isSome_iff_exists.2 ⟨_, Try.underlying22⟩) Try.underlying26 _ rfl _ ?_; intro _ _) | (refine wpList_cvN rfl 26 22 _ rfl (Option.isSome_iff_exists.2 ⟨_, Try.underlying26⟩) Try.underlying22 _ rfl _ (by exact neginf_fits) ?_; intro _ _) | (go_at_call 103; refine (HC.out _ _).mono ?_; rintro _ _ ⟨_, rfl, rfl⟩) | go_in)
        go_ret
        exact ⟨_, _, rfl, rfl⟩
    · have e : logT v = qn .f32 := by unfold logT; rw [if_pos (.inr h2)]
      rw [e]
      have HC := Lib.hid (fun n j => c_sLogW_nan (cvU v) n w j (.inr (by rw [order_cv0]; exact h2)))
      clear hs h1 h2 e
      have e2 : cvN (qn .f64) = qn .f32 := cvN_qn (isN_qn .f64)
      rw [← e2]
      clear e2
      go_enter Try.func77, Try.ntmps77
      go_wp2_with (first | (refine wpList_cvU rfl 22 26 _ rfl (Option.isSome_iff_exists.2 ⟨_, Try.underlying22⟩) Try.underlying26 _ rfl _ ?_; intro _ _) | (refine wpList_cvN rfl 26 22 _ rfl (Option.isSome_iff_exists.2 ⟨_, Try.underlying26⟩) Try.underlying22 _ rfl _ (by exact .inl (by rw [isN_pick]; exact isN_qn _)) ?_; intro _ _) | (go_at_call 103; refine (HC.out _ _).mono ?_; rintro _ _ ⟨_, _, rfl, rfl⟩) | go_in)
      go_ret
      exact ⟨_, _, rfl, rfl⟩
  · have e : logT v = qn .f32 := by unfold logT; rw [if_pos (.inl h1)]
    rw [e]
    have ho : FloatKind.f64.format.order (cvU v) (cvU v) = none := order_nan_l _ (by rw [isN_cvU]; exact h1)
    have HC := Lib.hid (fun n j => c_sLogW_nan (cvU v) n w j (.inl (by rw [bne, ho]; rfl)))
    clear h1 e ho
    have e2 : cvN (qn .f64) = qn .f32 := cvN_qn (isN_qn .f64)
    rw [← e2]
    clear e2
    go_enter Try.func77, Try.ntmps77
    go_wp2_with (first | (refine wpList_cvU rfl 22 26 _ rfl (Option.isSome_iff_exists.2 ⟨_, Try.underlying22⟩) Try.underlying26 _ rfl _ ?_; intro _ _) | (refine wpList_cvN rfl 26 22 _ rfl (Option.isSome_iff_exists.2 ⟨_, Try.underlying26⟩) Try.underlying22 _ rfl _ (by exact .inl (by rw [isN_pick]; exact isN_qn _)) ?_; intro _ _) | (go_at_call 103; refine (HC.out _ _).mono ?_; rintro _ _ ⟨_, _, rfl, rfl⟩) | go_in)
    go_ret
    exact ⟨_, _, rfl, rfl⟩
/-! ### sShots -/
theorem c_l01LogQ (x y n : Nat) (w : World) (j : Nat) : Calls Try.prog 77 #[.float .f32 (pick .f32 (fop .quo .f32 x y) n)] (w.drewN j) (RetF .f32 (logT (fop .quo .f32 x y)) w) := c_l01Log _ n w j (fop_lt _ _ _ _)
theorem c_sShotsFor (lo n hi m st k ro q : Nat) (w : World) (j : Nat) : Calls Try.prog 39 #[.float .f32 (pick .f32 lo n), .float .f32 (pick .f32 hi m), .float .f32 (pick .f32 st k), .float .f32 (pick .f32 ro q)] (w.drewN j) (RetI (shotR lo hi st ro) w) := by
  unfold shotR
  cases c0 : aboveB lo
  · simp only [Bool.and_true, Bool.and_false, Bool.false_and, Bool.true_and, Bool.not_false, Bool.not_true, if_true, Bool.false_eq_true, if_false]
    go_enter Try.func39, Try.ntmps39
    go_wp2_with (first | (first | (refine wpList_fop rfl _ _ _ _ _ rfl _ _ _ rfl rfl (by decide) _ ?_; intro _ _) | (refine upon_fop _ _ _ _ _ (by decide) ?_; intro _ _)) | (go_at_call 55; refine (c_l02Above _ _ _ _).mono ?_; rintro _ _ ⟨_, rfl, rfl⟩) | (go_at_call 49; refine (c_l01Finite _ _ _ _).mono ?_; rintro _ _ ⟨_, rfl, rfl⟩) | (go_at_call 77; ((with_reducible refine (c_l01LogQ _ _ _ _ _).mono ?_); rintro _ _ ⟨_, _, rfl, rfl⟩)))
    go_ret2
    exact ⟨_, rfl, rfl⟩
  cases c1 : finB .f32 hi
  · simp only [Bool.and_true, Bool.and_false, Bool.false_and, Bool.true_and, Bool.not_false, Bool.not_true, if_true, Bool.false_eq_true, if_false]
    go_enter Try.func39, Try.ntmps39
    go_wp2_with (first | (first | (refine wpList_fop rfl _ _ _ _ _ rfl _ _ _ rfl rfl (by decide) _ ?_; intro _ _) | (refine upon_fop _ _ _ _ _ (by decide) ?_; intro _ _)) | (go_at_call 55; refine (c_l02Above _ _ _ _).mono ?_; rintro _ _ ⟨_, rfl, rfl⟩) | (go_at_call 49; refine (c_l01Finite _ _ _ _).mono ?_; rintro _ _ ⟨_, rfl, rfl⟩) | (go_at_call 77; ((with_reducible refine (c_l01LogQ _ _ _ _ _).mono ?_); rintro _ _ ⟨_, _, rfl, rfl⟩)))
    go_ret2
    exact ⟨_, rfl, rfl⟩
  cases c2 : gesB hi lo
  · simp only [Bool.and_true, Bool.and_false, Bool.false_and, Bool.true_and, Bool.not_false, Bool.not_true, if_true, Bool.false_eq_true, if_false]
    unfold gesB at c2
    go_enter Try.func39, Try.ntmps39
    go_wp2_with (first | (first | (refine wpList_fop rfl _ _ _ _ _ rfl _ _ _ rfl rfl (by decide) _ ?_; intro _ _) | (refine upon_fop _ _ _ _ _ (by decide) ?_; intro _ _)) | (go_at_call 55; refine (c_l02Above _ _ _ _).mono ?_; rintro _ _ ⟨_, rfl, rfl⟩) | (go_at_call 49; refine (c_l01Finite _ _ _ _).mono ?_; rintro _ _ ⟨_, rfl, rfl⟩) | (go_at_call 77; ((with_reducible refine (c_l01LogQ _ _ _ _ _).mono ?_); rintro _ _ ⟨_, _, rfl, rfl⟩)))
    go_ret2
    exact ⟨_, rfl, rfl⟩
  cases c3 : aboveB st
  · simp only [Bool.and_true, Bool.and_false, Bool.false_and, Bool.true_and, Bool.not_false, Bool.not_true, if_true, Bool.false_eq_true, if_false]
    unfold gesB at c2
    go_enter Try.func39, Try.ntmps39
    go_wp2_with (first | (first | (refine wpList_fop rfl _ _ _ _ _ rfl _ _ _ rfl rfl (by decide) _ ?_; intro _ _) | (refine upon_fop _ _ _ _ _ (by decide) ?_; intro _ _)) | (go_at_call 55; refine (c_l02Above _ _ _ _).mono ?_; rintro _ _ ⟨_, rfl, rfl⟩) | (go_at_call 49; refine (c_l01Finite _ _ _ _).mono ?_; rintro _ _ ⟨_, rfl, rfl⟩) | (go_at_call 77; ((with_reducible refine (c_l01LogQ _ _ _ _ _).mono ?_); rintro _ _ ⟨_, _, rfl, rfl⟩)))
    go_ret2
    exact ⟨_, rfl, rfl⟩
  cases c4 : aboveB ro
  · simp only [Bool.and_true, Bool.and_false, Bool.false_and, Bool.true_and, Bool.not_false, Bool.not_true, if_true, Bool.false_eq_true, if_false]
    unfold gesB at c2
    go_enter Try.func39, Try.ntmps39
    go_wp2_with (first | (first | (refine wpList_fop rfl _ _ _ _ _ rfl _ _ _ rfl rfl (by decide) _ ?_; intro _ _) | (refine upon_fop _ _ _ _ _ (by decide) ?_; intro _ _)) | (go_at_call 55; refine (c_l02Above _ _ _ _).mono ?_; rintro _ _ ⟨_, rfl, rfl⟩) | (go_at_call 49; refine (c_l01Finite _ _ _ _).mono ?_; rintro _ _ ⟨_, rfl, rfl⟩) | (go_at_call 77; ((with_reducible refine (c_l01LogQ _ _ _ _ _).mono ?_); rintro _ _ ⟨_, _, rfl, rfl⟩)))
    go_ret2
    exact ⟨_, rfl, rfl⟩
  simp only [Bool.and_true, if_true]
  obtain ⟨R, hR⟩ : ∃ R, R = shotF ro st (wantV lo hi) 8 1 := ⟨_, rfl⟩
  rw [← hR]
  replace hR := hR.symm
  unfold gesB at c2
  go_enter Try.func39, Try.ntmps39
  go_wp2_with (first | (first | (refine wpList_fop rfl _ _ _ _ _ rfl _ _ _ rfl rfl (by decide) _ ?_; intro _ _) | (refine upon_fop _ _ _ _ _ (by decide) ?_; intro _ _)) | (go_at_call 55; refine (c_l02Above _ _ _ _).mono ?_; rintro _ _ ⟨_, rfl, rfl⟩) | (go_at_call 49; refine (c_l01Finite _ _ _ _).mono ?_; rintro _ _ ⟨_, rfl, rfl⟩) | (go_at_call 77; ((with_reducible refine (c_l01LogQ _ _ _ _ _).mono ?_); rintro _ _ ⟨_, _, rfl, rfl⟩)))
  go_loopw [11] (fun i wr => ∃ n l : Nat, 1 ≤ n ∧ n ≤ 9 ∧ i = .int .i64 n ∧ wr = w.drewN l ∧ shotF ro st (wantV lo hi) (9 - n) n = R) (fun i _ => 9 - (intOf i).toNat)
  case atStart => exact ⟨1, _, Nat.le_refl _, by omega, rfl, rfl, hR⟩
  case round =>
    obtain ⟨n, l, hn1, hn9, rfl, rfl, hR⟩ := hrel
    have HR := Lib.hid hR
    clear hR
    by_cases hlt : n ≤ 8
    · have e9 : 9 - n = (8 - n) + 1 := by omega
      cases hs : stepB ro st (wantV lo hi) n
      · have HN := Lib.hid (shotF_no (f := 8 - n) hs)
        have H9 := Lib.hid e9
        unfold stepB wantV at hs
        clear e9
        go_wp2_with (first | (refine wpList_fop rfl _ _ _ _ _ rfl _ _ _ rfl rfl (by decide) _ ?_; intro _ _) | (refine upon_fop _ _ _ _ _ (by decide) ?_; intro _ _))
        go_roundw
        case rel => exact ⟨n + 1, _, by omega, by omega, by go_num, rfl, by rw [show 9 - (n + 1) = 8 - n by omega, ← HN.out, ← H9.out]; exact HR.out⟩
        case measure => simp [intOf]; omega
      · have HN := Lib.hid (shotF_yes (f := 8 - n) hs)
        have H9 := Lib.hid e9
        unfold stepB wantV at hs
        clear e9
        go_wp2_with (first | (refine wpList_fop rfl _ _ _ _ _ rfl _ _ _ rfl rfl (by decide) _ ?_; intro _ _) | (refine upon_fop _ _ _ _ _ (by decide) ?_; intro _ _))
        go_ret2
        exact ⟨_, by rw [← HR.out, H9.out, HN.out]; rfl, rfl⟩
    · obtain rfl : n = 9 := by omega
      go_wp2_with (first | (refine wpList_fop rfl _ _ _ _ _ rfl _ _ _ rfl rfl (by decide) _ ?_; intro _ _) | (refine upon_fop _ _ _ _ _ (by decide) ?_; intro _ _))
      go_ret2
      exact ⟨_, by rw [← HR.out]; rfl, rfl⟩
  
/-! ### IsNaN -/
theorem c_IsNaN (v n : Nat) (w : World) (j : Nat) : Calls Try.prog 99 #[.float .f64 (pick .f64 v n)] (w.drewN j) (RetV (.bool (isN .f64 v)) w) := by
  go_enter Try.func99, Try.ntmps99
  go_wp2
  go_ret
  exact ⟨_, rfl, rfl⟩
/-! ### IsInf0 -/
theorem c_IsInf0 (v n : Nat) (w : World) (j : Nat) (hv : v < 2 ^ FloatKind.f64.format.width) : Calls Try.prog 108 #[.float .f64 (pick .f64 v n), .int .i64 0] (w.drewN j) (RetV (.bool (FloatKind.f64.format.order (fabs .f64 v) 9218868437227405311 == some .gt)) w) := by
  go_enter Try.func108, Try.ntmps108
  go_wp2_with ((go_at_call 114; refine (c_Abs _ _ _ _ hv).mono ?_; rintro _ _ ⟨_, _, rfl, rfl⟩))
  go_ret
  exact ⟨_, rfl, rfl⟩
/-! ### isFinite64 -/
theorem c_isFinite64 (v n : Nat) (w : World) (j : Nat) (hv : v < 2 ^ FloatKind.f64.format.width) : Calls Try.prog 91 #[.float .f64 (pick .f64 v n)] (w.drewN j) (RetV (.bool (finB .f64 v)) w) := by
  go_enter Try.func91, Try.ntmps91
  go_wp2_with (first | (go_at_call 99; refine (c_IsNaN _ _ _ _).mono ?_; rintro _ _ ⟨_, rfl, rfl⟩) | (go_at_call 108; refine (c_IsInf0 _ _ _ _ hv).mono ?_; rintro _ _ ⟨_, rfl, rfl⟩))
  all_goals
    go_ret
    refine ⟨_, ?_, rfl⟩
    rw [← abs_gt_max]
    simp [*]
/-! ### iIsFinite -/
theorem c_iIsFinite (v n : Nat) (w : World) (j : Nat) : Calls Try.prog 51 #[.float .f32 (pick .f32 v n)] (w.drewN j) (RetV (.bool (finB .f32 v)) w) := by
  go_enter Try.func51, Try.ntmps51
  go_wp2_with (first | (refine wpList_cvU rfl 22 26 _ rfl (Option.isSome_iff_exists.2 ⟨_, Try.underlying22⟩) Try.underlying26 _ rfl _ ?_; intro _ _) | (go_at_call 91; refine (c_isFinite64 _ _ _ _ (cvU_lt _)).mono ?_; rintro _ _ ⟨_, rfl, rfl⟩))
  go_ret
  rw [← finB_cvU]
  exact ⟨_, rfl, rfl⟩
/-! ### areFinite -/
theorem c_areFinite (a : Option Addr) (len cap : Nat) (zs : List Nat) (w : World) (j0 : Nat) (hr : IsRowF .f32 w a len cap zs) : Calls Try.prog 57 #[.slice a len cap] (w.drewN j0) (RetV (.bool (finL zs)) w) := by
  obtain ⟨h1, h2, h3, h4, h5⟩ := hr
  unfold maxLen at h3
  have H1 := Lib.hid h1
  clear h1
  go_enter Try.func57, Try.ntmps57
  go_wp2
  go_loopw [4, 7] (fun _ i wr => ∃ k m : Nat, k ≤ len ∧ i = .int .i64 k ∧ wr = w.drewN m ∧ finL (zs.take k) = true) (fun _ i _ => len - (intOf i).toNat)
  case atStart => exact ⟨0, j0, Nat.zero_le _, rfl, rfl, rfl⟩
  case round =>
    obtain ⟨k, m, hk, rfl, rfl, hfin⟩ := hrel
    have HFin := Lib.hid hfin
    clear hfin
    by_cases hlt : k < len
    · rcases h5 with h5 | ⟨b, off, rfl, hbl, hc⟩
      · omega
      have hcell : w.cell? ⟨b, off + k, none⟩ = some (.float .f32 (fat zs k)) := hc k hlt
      obtain ⟨n, hn⟩ := pick0 .f32 (fat zs k) (lt_of_wf (h4 _ (by unfold fat; rw [List.getD, List.getElem?_eq_getElem (by have := H1.out; omega)]; exact List.getElem_mem _)))
      rw [hn] at hcell
      have HS := Lib.hid (finL_snoc zs k (by have := H1.out; omega))
      cases hf : finB .f32 (fat zs k)
      · have HO := Lib.hid (finL_of zs k (by have := H1.out; omega) hf)
        clear hc h4 hn
        go_wp2_with ((go_at_call 51; refine (c_iIsFinite _ _ _ _).mono ?_; rintro _ _ ⟨_, rfl, rfl⟩))
        go_ret
        exact ⟨_, by rw [HO.out]; rfl, rfl⟩
      · have HF := Lib.hid hf
        clear hc h4 hn
        go_wp2_with ((go_at_call 51; refine (c_iIsFinite _ _ _ _).mono ?_; rintro _ _ ⟨_, rfl, rfl⟩))
        go_roundw
        case rel => exact ⟨k + 1, _, by omega, by go_num, rfl, by rw [HS.out, HFin.out, HF.out]; rfl⟩
        case measure => simp [intOf]; omega
    · have e : zs.take k = zs := List.take_of_length_le (by have := H1.out; omega)
      have HE := Lib.hid e
      clear h5 h4 e
      go_wp2
      go_ret
      exact ⟨_, by have h := HFin.out; rw [HE.out] at h; rw [h]; rfl, rfl⟩
/-! ### areFinN -/
theorem c_areFinW (a : Option Addr) (len cap : Nat) (zs : List Nat) (w : World) (hr : IsRowF .f32 w a len cap zs) : Calls Try.prog 57 #[.slice a len cap] w (RetV (.bool (finL zs)) w) := by
  have h := c_areFinite a len cap zs w 0 hr
  rwa [w.drewN_zero] at h
theorem row_new (w : World) (b : Nat) (vs : List Nat) (T : TypeId) (hb : b = w.heap.size) (hl : vs.length ≤ 1000) (hwf : ∀ x ∈ vs, (Lit.float .f32 x).wf = true) : IsRowF .f32 (w.alloc (.cells (fl .f32 vs).toArray T)) (some ⟨b, 0, none⟩) vs.length vs.length vs := by
  subst hb
  exact rowF_of_block (heap_alloc_new w _) (by unfold maxLen; omega) hwf

/-! ### iScale -/
def scaleB (a b : Nat) : Bool := (finB .f32 a && finB .f32 b) && (FloatKind.f32.format.order a 0 == some .gt) && (FloatKind.f32.format.order b 0 == some .gt)
theorem fin2 (a b n m : Nat) : finL [pick .f32 a n, pick .f32 b m] = (finB .f32 a && finB .f32 b) := by simp [finL, finB_pick]
theorem c_areFin2 (a n b m : Nat) (w : World) (q : Nat) (hq : q = w.heap.size) (ha : a < 2 ^ FloatKind.f32.format.width) (hb : b < 2 ^ FloatKind.f32.format.width) : Calls Try.prog 57 #[.slice (some ⟨q, 0, none⟩) 2 2] (w.alloc (.cells #[.float .f32 (pick .f32 a n), .float .f32 (pick .f32 b m)] 22)) (RetV (.bool (finB .f32 a && finB .f32 b)) (w.alloc (.cells #[.float .f32 (pick .f32 a n), .float .f32 (pick .f32 b m)] 22))) := by
  have h := c_areFinW _ _ _ _ _ (row_new w q [pick .f32 a n, pick .f32 b m] 22 hq (by simp) (by intro x hx; simp at hx; rcases hx with rfl | rfl <;> exact pick_wf (by assumption) _))
  rwa [fin2] at h
theorem c_isScale (a n b m : Nat) (w : World) (ha : a < 2 ^ FloatKind.f32.format.width) (hb : b < 2 ^ FloatKind.f32.format.width) : Calls Try.prog 78 #[.float .f32 (pick .f32 a n), .float .f32 (pick .f32 b m)] w (RetB (.bool (scaleB a b)) w) := by
  unfold scaleB
  have AF := Lib.hid (fun w q hq => c_areFin2 a n b m w q hq ha hb)
  cases h1 : (finB .f32 a && finB .f32 b) <;> cases h2 : (FloatKind.f32.format.order a 0 == some .gt)
  all_goals
    have H1 := Lib.hid h1
    clear h1
    go_enter Try.func78, Try.ntmps78
    go_wp2_with fail
    refine (AF.out _ _ (by simp)).mono ?_
    rintro _ _ ⟨m1, rfl, rfl⟩
    rw [H1.out]
    go_wp2_with fail
    go_ret
    exact ⟨by simp, below_drewN ((Below.refl _ _).alloc (Nat.le_refl _) _) _⟩
/-! ### logOf -/
theorem c_logOf (v n0 V : Nat) (w : World) (j : Nat) (hV : cvU v = V) (H0 : Hid (InR 3936146074321813504 5183643171103440896 V)) : Calls Try.prog 101 #[.float .f32 (pick .f32 v n0)] (w.drewN j) (RetF .f64 (logW V) w) := by
  have HV : Hid (V < 18446744073709551616) := by unfold Hid; rw [← hV]; exact cvU_lt v
  go_enter Try.func101, Try.ntmps101
  go_wp2_with (first | (refine wpList_cvU rfl 22 26 _ rfl (Option.isSome_iff_exists.2 ⟨_, Try.underlying22⟩) Try.underlying26 _ rfl _ ?_; intro _ _) | (first | (refine wpList_fop rfl _ _ _ _ _ rfl _ _ _ rfl rfl (by decide) _ ?_; intro _ _) | (refine upon_fop _ _ _ _ _ (by decide) ?_; intro _ _)))
  go_loopw [3, 4] (fun xs es wr => ∃ (i n m x : Nat), xs = .float .f64 (pick .f64 x n) ∧ es = .float .f64 (floatOfInt .f64 (i : Int)) ∧ wr = w.drewN m ∧ Hid (x < 18446744073709551616) ∧ Up V x i) (fun xs _ _ => fbits xs)
  case atStart => exact ⟨0, _, _, V, rfl, by rw [show floatOfInt .f64 ((0 : Nat) : Int) = 0 from by decide +kernel], rfl, HV, Up.zero H0.out⟩
  case round =>
    obtain ⟨i, n, m, x, rfl, rfl, rfl, HX, HU⟩ := hrel
    have hi := HU.few H0.out
    cases hg : ge15 x
    · have ht : (FloatKind.f64.format.order x 4609434218613702656 == some .gt || FloatKind.f64.format.order x 4609434218613702656 == some .eq) = false := hg
      have HX2 := Lib.hid (up_exit HU hg)
      clear hg
      go_wp2_with (first | (refine wpList_fop rfl _ _ _ _ _ rfl _ _ _ rfl rfl (by decide) _ ?_; intro _ _) | (refine upon_fop _ _ _ _ _ (by decide) ?_; intro _ _))
      obtain ⟨i1, hi1⟩ : ∃ i1, i1 = i := ⟨_, rfl⟩
      obtain ⟨x1, hx1⟩ : ∃ x1, x1 = x := ⟨_, rfl⟩
      have HX3 : Hid (InR 3936146074321813504 4609434218613702655 x1 ∧ upF 400 V 0 = (x1, (i1 : Int))) := by unfold Hid; rw [hi1, hx1]; exact HX2.out
      have HXx : Hid (x1 < 18446744073709551616) := by unfold Hid; rw [hx1]; exact HX.out
      have hi2 : i1 ≤ 277 := by omega
      rw [← hx1, ← hi1]
      clear hx1 hi1 HX2 HU hi
      go_loopw [3, 4] (fun xs es wr => ∃ (i n m x : Nat), xs = .float .f64 (pick .f64 x n) ∧ es = .float .f64 (floatOfInt .f64 ((i1 : Int) - (i : Int))) ∧ wr = w.drewN m ∧ Hid (x < 18446744073709551616) ∧ Dn x1 x (i1 : Int) i) (fun xs _ _ => 18446744073709551616 - fbits xs)
      case atStart => exact ⟨0, _, _, x1, rfl, by simp, rfl, HXx, Dn.zero HX3.out.1⟩
      case round =>
        obtain ⟨i, n, m, x, rfl, rfl, rfl, HX, HD⟩ := hrel
        have hi := HD.few HX3.out.1
        cases hg : lt75 x
        · have ht : (FloatKind.f64.format.order x 4604930618986332160 == some .lt) = false := hg
          have HX4 := Lib.hid (dn_exit HD HX3.out.2 hg)
          clear hg
          go_wp2_with (first | (refine wpList_fop rfl _ _ _ _ _ rfl _ _ _ rfl rfl (by decide) _ ?_; intro _ _) | (refine upon_fop _ _ _ _ _ (by decide) ?_; intro _ _))
          generalize hs : fop .quo .f64 (fop .sub .f64 x 4607182418800017408) (fop .add .f64 x 4607182418800017408) = sv
          have Hs : Hid (sOf x = sv) := hs
          clear hs
          go_loopw [7, 8] (fun p k wr => ∃ i n m : Nat, i ≤ 13 ∧ p = .float .f64 (pick .f64 (lser (fop .mul .f64 sv sv) i) n) ∧ k = .float .f64 (odd25 i) ∧ wr = w.drewN m) (fun _ k _ => fpos k)
          case atStart => exact ⟨0, 0, _, by omega, by rw [pick_not (show isN .f64 (lser (fop .mul .f64 sv sv) 0) = false from (by decide +kernel : isN .f64 0 = false))]; rfl, by rw [show odd25 0 = 4627730092099895296 from by decide +kernel], rfl⟩
          case round =>
            obtain ⟨q, n, m, hq, rfl, rfl, rfl⟩ := hrel
            by_cases hlt : q < 13
            · have ht2 := kod_test q hlt
              unfold one64 at ht2
              have HN := Lib.hid (kod_next q hlt)
              have HL := Lib.hid (kod_lt q hlt)
              go_wp2_with (first | (refine wpList_fop rfl _ _ _ _ _ rfl _ _ _ rfl rfl (by decide) _ ?_; intro _ _) | (refine upon_fop _ _ _ _ _ (by decide) ?_; intro _ _))
              go_roundw
              case rel => exact ⟨q + 1, _, _, by omega, by rw [lser_step]; rfl, by have e := HN.out; rw [e, pick_not (kod_notN _)], rfl⟩
              case measure => have e := HN.out; rw [e, pick_not (kod_notN _)]; exact HL.out
            · obtain rfl : q = 13 := by omega
              have ht2 := kod_end
              unfold one64 at ht2
              clear hlt
              go_wp2_with (first | (refine wpList_fop rfl _ _ _ _ _ rfl _ _ _ rfl rfl (by decide) _ ?_; intro _ _) | (refine upon_fop _ _ _ _ _ (by decide) ?_; intro _ _))
              go_ret
              have e : logW V = fop .add .f64 (fop .mul .f64 two64 (fop .mul .f64 sv (lser (fop .mul .f64 sv sv) 13))) (fop .mul .f64 (floatOfInt .f64 ((i1 : Int) - (i : Int))) ln2) := by
                unfold logW logE; rw [HX4.out, Hs.out]
              rw [e]
              exact ⟨_, _, rfl, rfl⟩
        · have ht : (FloatKind.f64.format.order x 4604930618986332160 == some .lt) = true := hg
          have HM := Lib.hid (HD.more HX.out hg)
          have HS := HD.step HX3.out.1 hg
          have HN := HS.notN
          have HL : Hid (fop .mul .f64 x two64 < 18446744073709551616) := fop_lt .mul .f64 x two64
          have hxn := HD.notN
          have HE := Lib.hid (efl_dn ((i1 : Int) - (i : Int)) (by omega) (by omega))
          have HN2 := Lib.hid HN
          have HN3 := Lib.hid hxn
          clear hg HN hxn
          go_wp2_with (first | (refine wpList_fop rfl _ _ _ _ _ rfl _ _ _ rfl rfl (by decide) _ ?_; intro _ _) | (refine upon_fop _ _ _ _ _ (by decide) ?_; intro _ _))
          go_roundw
          case rel => exact ⟨i + 1, _, _, _, rfl, by have e := HE.out; unfold one64 at e; rw [e, pick_not (efl_notN _), esub], rfl, HL, HS⟩
          case measure =>
            have h1 := HM.out
            show 18446744073709551616 - pick .f64 (fop .mul .f64 x two64) _ < 18446744073709551616 - pick .f64 x _
            rw [pick_not HN2.out, pick_not HN3.out]
            generalize fop .mul .f64 x two64 = y at *
            omega
    · have ht : (FloatKind.f64.format.order x 4609434218613702656 == some .gt || FloatKind.f64.format.order x 4609434218613702656 == some .eq) = true := hg
      have HM := Lib.hid (HU.less HX.out hg)
      have HS := HU.step H0.out hg
      have HN := HS.notN
      have HL : Hid (fop .quo .f64 x two64 < 18446744073709551616) := fop_lt .quo .f64 x two64
      have hxn := HU.notN
      have HE := Lib.hid (efl_up i (by omega))
      have HN2 := Lib.hid HN
      have HN3 := Lib.hid hxn
      clear hg HN hxn
      go_wp2_with (first | (refine wpList_fop rfl _ _ _ _ _ rfl _ _ _ rfl rfl (by decide) _ ?_; intro _ _) | (refine upon_fop _ _ _ _ _ (by decide) ?_; intro _ _))
      go_roundw
      case rel => exact ⟨i + 1, _, _, _, rfl, by have e := HE.out; unfold one64 at e; rw [e, pick_not (efl_notN _)]; rfl, rfl, HL, HS⟩
      case measure =>
        have h1 := HM.out
        show pick .f64 (fop .quo .f64 x two64) _ < pick .f64 x _
        rw [pick_not HN2.out, pick_not HN3.out]
        exact h1
/-! ### narrowNumber -/
theorem c_NarrowNumber (v n : Nat) (w : World) (j : Nat) (hfit : Fits v) : Calls Try.prog 97 #[.float .f64 (pick .f64 v n)] (w.drewN j) (RetF .f32 (cvN v) w) := by
  have H := Lib.hid hfit
  clear hfit
  go_enter Try.func97, Try.ntmps97
  go_wp2_with ((refine wpList_cvN rfl 26 22 _ rfl (Option.isSome_iff_exists.2 ⟨_, Try.underlying26⟩) Try.underlying22 _ rfl _ (by rw [Fits_pick]; exact H.out) ?_; intro _ _))
  go_ret
  exact ⟨_, _, rfl, rfl⟩
/-! ### iLog -/
theorem c_iLog (v n0 : Nat) (w : World) (j : Nat) (h0 : (FloatKind.f32.format.order v 0 == some .eq) = false) (h1 : isN .f32 v = false) (h2 : (FloatKind.f32.format.order v 0 == some .lt) = false) (h3 : finB .f32 v = true)
    (HI : Hid (InR 3936146074321813504 5183643171103440896 (cvU v))) (HF : Hid (Fits (logW (cvU v)))) :
    Calls Try.prog 73 #[.float .f32 (pick .f32 v n0)] (w.drewN j) (RetF .f32 (cvN (logW (cvU v))) w) := by
  go_enter Try.func73, Try.ntmps73
  go_wp2_with (first | (refine wpList_cvU rfl 22 26 _ rfl (Option.isSome_iff_exists.2 ⟨_, Try.underlying22⟩) Try.underlying26 _ rfl _ ?_; intro _ _) | (go_at_call 99; refine (c_IsNaN _ _ _ _).mono ?_; rintro _ _ ⟨_, rfl, rfl⟩) | (go_at_call 51; refine (c_iIsFinite _ _ _ _).mono ?_; rintro _ _ ⟨_, rfl, rfl⟩) | (go_at_call 101; refine (c_logOf _ _ _ _ _ rfl HI).mono ?_; rintro _ _ ⟨_, _, rfl, rfl⟩) | (go_at_call 97; refine (c_NarrowNumber _ _ _ _ HF.out).mono ?_; rintro _ _ ⟨_, _, rfl, rfl⟩) | go_in)
  go_ret
  exact ⟨_, _, rfl, rfl⟩
/-! ### f32from -/
@[go_sem] theorem e_f32from (n : Int) (w : World) : (callFunc 111 #[.int .u32 n]).run Try.prog w = .ok (.value (.float .f32 n.toNat)) w := by kernel_rfl
/-! ### notANumber -/
theorem c_notANumber (w : World) (j : Nat) : Calls Try.prog 100 #[] (w.drewN j) (RetV (.float .f32 2143289344) w) := by
  go_enter Try.func100, Try.ntmps100
  go_wp2
  go_ret
  exact ⟨_, rfl, rfl⟩
/-! ### iLogAll -/
theorem c_iLogAll (v n : Nat) (w : World) (j : Nat) (hv : v < 2 ^ FloatKind.f32.format.width) : Calls Try.prog 73 #[.float .f32 (pick .f32 v n)] (w.drewN j) (RetF .f32 (logT v) w) := by
  cases h1 : isN .f32 v
  · cases h2 : (FloatKind.f32.format.order v 0 == some .lt)
    · cases h0 : (FloatKind.f32.format.order v 0 == some .eq)
      · cases h3 : finB .f32 v
        · have e : logT v = v := by unfold logT; rw [if_neg (by rw [h1, h2]; decide), if_neg (by rw [h0]; decide), if_neg (by rw [h3]; decide)]; exact (inf_is hv h1 h2 h3).symm
          rw [e]
          clear e hv
          go_enter Try.func73, Try.ntmps73
          go_wp2_with (first | (refine wpList_cvU rfl 22 26 _ rfl (Option.isSome_iff_exists.2 ⟨_, Try.underlying22⟩) Try.underlying26 _ rfl _ ?_; intro _ _) | (go_at_call 99; refine (c_IsNaN _ _ _ _).mono ?_; rintro _ _ ⟨_, rfl, rfl⟩) | (go_at_call 51; refine (c_iIsFinite _ _ _ _).mono ?_; rintro _ _ ⟨_, rfl, rfl⟩) | (go_at_call 100; refine (c_notANumber _ _).mono ?_; rintro _ _ ⟨_, rfl, rfl⟩))
          go_ret
          exact ⟨n, _, by simp, rfl⟩
        · have HR := log_finite h1 h2 h0 h3
          have e : logT v = cvN (logW (cvU v)) := by unfold logT; rw [if_neg (by rw [h1, h2]; decide), if_neg (by rw [h0]; decide), if_pos h3]
          rw [e]
          exact c_iLog v n w j h0 h1 h2 h3 HR (Fits_log HR)
      · have e : logT v = cvN 18442240474082181120 := by unfold logT; rw [if_neg (by rw [h1, h2]; decide), if_pos h0]; exact neginf_cn
        rw [e]
        go_enter Try.func73, Try.ntmps73
        go_wp2_with (first | (refine wpList_cvU rfl 22 26 _ rfl (Option.isSome_iff_exists.2 ⟨_, Try.underlying22⟩) Try.underlying26 _ rfl _ ?_; intro _ _) | (refine wpList_cvN rfl 26 22 _ rfl (Option.isSome_iff_exists.2 ⟨_, Try.underlying26⟩) Try.underlying22 _ rfl _ (by exact neginf_fits) ?_; intro _ _) | (go_at_call 98; refine (c_InfN _ _).mono ?_; rintro _ _ ⟨_, rfl, rfl⟩) | go_in)
        go_ret
        exact ⟨_, _, rfl, rfl⟩
    · have h0 : (FloatKind.f32.format.order v 0 == some .eq) = false := by
        cases ho : FloatKind.f32.format.order v 0 with
        | none => rfl
        | some o => rw [ho] at h2; cases o <;> first | rfl | cases h2
      have e : logT v = qn .f32 := by unfold logT; rw [if_pos (.inr h2)]
      obtain ⟨n0, hn0⟩ := nanOf_onto .f32 2143289344 (by decide +kernel) (by decide +kernel)
      rw [e]
      have H := Lib.hid hn0
      clear hn0
      go_enter Try.func73, Try.ntmps73
      go_wp2_with (first | (refine wpList_cvU rfl 22 26 _ rfl (Option.isSome_iff_exists.2 ⟨_, Try.underlying22⟩) Try.underlying26 _ rfl _ ?_; intro _ _) | (go_at_call 99; refine (c_IsNaN _ _ _ _).mono ?_; rintro _ _ ⟨_, rfl, rfl⟩) | (go_at_call 100; refine (c_notANumber _ _).mono ?_; rintro _ _ ⟨_, rfl, rfl⟩))
      go_ret
      exact ⟨n0, _, by simp only [pick, isN_qn, if_true]; rw [← H.out]; rfl, rfl⟩
  · have ho : FloatKind.f32.format.order v 0 = none := order_nan_l _ h1
    have h0 : (FloatKind.f32.format.order v 0 == some .eq) = false := by rw [ho]; rfl
    have e : logT v = qn .f32 := by unfold logT; rw [if_pos (.inl h1)]
    obtain ⟨n0, hn0⟩ := nanOf_onto .f32 2143289344 (by decide +kernel) (by decide +kernel)
    rw [e]
    have H := Lib.hid hn0
    clear hn0 ho
    go_enter Try.func73, Try.ntmps73
    go_wp2_with (first | (refine wpList_cvU rfl 22 26 _ rfl (Option.isSome_iff_exists.2 ⟨_, Try.underlying22⟩) Try.underlying26 _ rfl _ ?_; intro _ _) | (go_at_call 99; refine (c_IsNaN _ _ _ _).mono ?_; rintro _ _ ⟨_, rfl, rfl⟩) | (go_at_call 100; refine (c_notANumber _ _).mono ?_; rintro _ _ ⟨_, rfl, rfl⟩))
    go_ret
    exact ⟨n0, _, by simp only [pick, isN_qn, if_true]; rw [← H.out]; rfl, rfl⟩
/-! ### logTwo -/
theorem c_logOfTwo (w : World) (j : Nat) : Calls Try.prog 79 #[] (w.drewN j) (RetV (.float .f32 1060205080) w) := by
  go_enter Try.func79, Try.ntmps79
  go_wp2
  go_ret
  exact ⟨_, rfl, rfl⟩
/-! ### iShots -/
theorem c_iLogQ (x y n : Nat) (w : World) (j : Nat) : Calls Try.prog 73 #[.float .f32 (pick .f32 (fop .quo .f32 x y) n)] (w.drewN j) (RetF .f32 (logT (fop .quo .f32 x y)) w) := c_iLogAll _ n w j (fop_lt _ _ _ _)
theorem shot_same {lo hi st ro : Nat} : (aboveB lo && finB .f32 hi && gesB hi lo && aboveB st && aboveB ro) = (scaleB lo st && (finB .f32 hi && finB .f32 ro) && !(FloatKind.f32.format.order hi lo == some .lt) && !(FloatKind.f32.format.order ro 0 == some .lt || FloatKind.f32.format.order ro 0 == some .eq)) := by
  unfold aboveB scaleB gesB
  cases h1 : finB .f32 lo <;> cases h2 : finB .f32 hi <;> cases h3 : finB .f32 st <;> cases h4 : finB .f32 ro <;> simp only [Bool.and_false, Bool.false_and, Bool.and_true, Bool.true_and, Bool.and_assoc]
  rw [o_ge (fin_notN h2) (fin_notN h1), o_lt (fin_notN h2) (fin_notN h1), o_gt (fin_notN h4) n_zero, o_le (fin_notN h4) n_zero, ← decide_not, ← decide_not, s_zero]
  cases FloatKind.f32.format.order lo 0 == some .gt <;> cases FloatKind.f32.format.order st 0 == some .gt <;> simp only [Bool.and_false, Bool.false_and, Bool.and_true, Bool.true_and]
  rw [← Bool.decide_and, ← Bool.decide_and]
  exact decide_eq_decide.2 (by omega)
theorem c_iShotsFor (lo n hi m st k ro q : Nat) (w : World) (hlo : lo < 2 ^ FloatKind.f32.format.width) (hhi : hi < 2 ^ FloatKind.f32.format.width) (hst : st < 2 ^ FloatKind.f32.format.width) (hro : ro < 2 ^ FloatKind.f32.format.width) : Calls Try.prog 40 #[.float .f32 (pick .f32 lo n), .float .f32 (pick .f32 hi m), .float .f32 (pick .f32 st k), .float .f32 (pick .f32 ro q)] w (RetIB (shotR lo hi st ro) w) := by
  have AF := Lib.hid (fun w z hz => c_areFin2 hi m ro q w z hz hhi hro)
  have SC := Lib.hid (fun w => c_isScale lo n st k w hlo hst)
  unfold shotR
  rw [shot_same]
  cases c0 : scaleB lo st
  · simp only [Bool.and_true, Bool.and_false, Bool.false_and, Bool.true_and, Bool.not_false, Bool.not_true, if_true, Bool.false_eq_true, if_false]
    have C0 := Lib.hid c0
    clear c0
    go_enter Try.func40, Try.ntmps40
    go_wp2_with fail
    refine (SC.out _).mono ?_
    rintro _ w1 ⟨rfl, b1⟩
    rw [C0.out]
    have B1 := Lib.hid b1
    clear b1
    go_wp2_with fail
    go_ret2
    exact ⟨rfl, B1.out⟩
  cases c1 : (finB .f32 hi && finB .f32 ro)
  · simp only [Bool.and_true, Bool.and_false, Bool.false_and, Bool.true_and, Bool.not_false, Bool.not_true, if_true, Bool.false_eq_true, if_false]
    have C0 := Lib.hid c0
    clear c0
    have C1 := Lib.hid c1
    clear c1
    go_enter Try.func40, Try.ntmps40
    go_wp2_with fail
    refine (SC.out _).mono ?_
    rintro _ w1 ⟨rfl, b1⟩
    rw [C0.out]
    have B1 := Lib.hid b1
    clear b1
    go_wp2_with fail
    refine (AF.out _ _ (by simp)).mono ?_
    rintro _ _ ⟨m1, rfl, rfl⟩
    rw [C1.out]
    have B2 := Lib.hid (below_drewN (B1.out.alloc B1.out.size (.cells #[.float .f32 (pick .f32 hi m), .float .f32 (pick .f32 ro q)] 22)) m1)
    generalize World.drewN _ m1 = w2 at *
    rw [← w2.drewN_zero]
    go_wp2_with fail
    go_ret2
    exact ⟨rfl, below_drewN B2.out _⟩
  cases c2 : (FloatKind.f32.format.order hi lo == some .lt)
  rotate_left
  · simp only [Bool.and_true, Bool.and_false, Bool.false_and, Bool.true_and, Bool.not_false, Bool.not_true, if_true, Bool.false_eq_true, if_false]
    have C0 := Lib.hid c0
    clear c0
    have C1 := Lib.hid c1
    clear c1
    go_enter Try.func40, Try.ntmps40
    go_wp2_with fail
    refine (SC.out _).mono ?_
    rintro _ w1 ⟨rfl, b1⟩
    rw [C0.out]
    have B1 := Lib.hid b1
    clear b1
    go_wp2_with fail
    refine (AF.out _ _ (by simp)).mono ?_
    rintro _ _ ⟨m1, rfl, rfl⟩
    rw [C1.out]
    have B2 := Lib.hid (below_drewN (B1.out.alloc B1.out.size (.cells #[.float .f32 (pick .f32 hi m), .float .f32 (pick .f32 ro q)] 22)) m1)
    generalize World.drewN _ m1 = w2 at *
    rw [← w2.drewN_zero]
    go_wp2_with fail
    go_ret2
    exact ⟨rfl, below_drewN B2.out _⟩
  cases c3 : (FloatKind.f32.format.order ro 0 == some .lt || FloatKind.f32.format.order ro 0 == some .eq)
  rotate_left
  · simp only [Bool.and_true, Bool.and_false, Bool.false_and, Bool.true_and, Bool.not_false, Bool.not_true, if_true, Bool.false_eq_true, if_false]
    have C0 := Lib.hid c0
    clear c0
    have C1 := Lib.hid c1
    clear c1
    go_enter Try.func40, Try.ntmps40
    go_wp2_with fail
    refine (SC.out _).mono ?_
    rintro _ w1 ⟨rfl, b1⟩
    rw [C0.out]
    have B1 := Lib.hid b1
    clear b1
    go_wp2_with fail
    refine (AF.out _ _ (by simp)).mono ?_
    rintro _ _ ⟨m1, rfl, rfl⟩
    rw [C1.out]
    have B2 := Lib.hid (below_drewN (B1.out.alloc B1.out.size (.cells #[.float .f32 (pick .f32 hi m), .float .f32 (pick .f32 ro q)] 22)) m1)
    generalize World.drewN _ m1 = w2 at *
    rw [← w2.drewN_zero]
    go_wp2_with fail
    go_ret2
    exact ⟨rfl, below_drewN B2.out _⟩
  obtain ⟨R, hR⟩ : ∃ R, R = shotF ro st (wantV lo hi) 8 1 := ⟨_, rfl⟩
  rw [← hR]
  replace hR := hR.symm
  simp only [Bool.and_true, Bool.and_false, Bool.false_and, Bool.true_and, Bool.not_false, Bool.not_true, if_true, Bool.false_eq_true, if_false]
  have C0 := Lib.hid c0
  clear c0
  have C1 := Lib.hid c1
  clear c1
  go_enter Try.func40, Try.ntmps40
  go_wp2_with fail
  refine (SC.out _).mono ?_
  rintro _ w1 ⟨rfl, b1⟩
  rw [C0.out]
  have B1 := Lib.hid b1
  clear b1
  go_wp2_with fail
  refine (AF.out _ _ (by simp)).mono ?_
  rintro _ _ ⟨m1, rfl, rfl⟩
  rw [C1.out]
  have B2 := Lib.hid (below_drewN (B1.out.alloc B1.out.size (.cells #[.float .f32 (pick .f32 hi m), .float .f32 (pick .f32 ro q)] 22)) m1)
  generalize World.drewN _ m1 = w2 at *
  rw [← w2.drewN_zero]
  go_wp2_with (first | (first | (refine wpList_fop rfl _ _ _ _ _ rfl _ _ _ rfl rfl (by decide) _ ?_; intro _ _) | (refine upon_fop _ _ _ _ _ (by decide) ?_; intro _ _)) | (go_at_call 79; refine (c_logOfTwo _ _).mono ?_; rintro _ _ ⟨_, rfl, rfl⟩) | (go_at_call 73; ((with_reducible refine (c_iLogQ _ _ _ _ _).mono ?_); rintro _ _ ⟨_, _, rfl, rfl⟩)))
  go_loopw [11] (fun i wr => ∃ n l : Nat, 1 ≤ n ∧ n ≤ 9 ∧ i = .int .i64 n ∧ wr = w2.drewN l ∧ shotF ro st (wantV lo hi) (9 - n) n = R) (fun i _ => 9 - (intOf i).toNat)
  case atStart => exact ⟨1, _, Nat.le_refl _, by omega, rfl, rfl, hR⟩
  case round =>
    obtain ⟨n, l, hn1, hn9, rfl, rfl, hR⟩ := hrel
    have HR := Lib.hid hR
    clear hR
    by_cases hlt : n ≤ 8
    · have e9 : 9 - n = (8 - n) + 1 := by omega
      cases hs : stepB ro st (wantV lo hi) n
      · have HN := Lib.hid (shotF_no (f := 8 - n) hs)
        have H9 := Lib.hid e9
        unfold stepB wantV at hs
        clear e9
        go_wp2_with (first | (refine wpList_fop rfl _ _ _ _ _ rfl _ _ _ rfl rfl (by decide) _ ?_; intro _ _) | (refine upon_fop _ _ _ _ _ (by decide) ?_; intro _ _))
        go_roundw
        case rel => exact ⟨n + 1, _, by omega, by omega, by go_num, rfl, by rw [show 9 - (n + 1) = 8 - n by omega, ← HN.out, ← H9.out]; exact HR.out⟩
        case measure => simp [intOf]; omega
      · have HN := Lib.hid (shotF_yes (f := 8 - n) hs)
        have H9 := Lib.hid e9
        unfold stepB wantV at hs
        clear e9
        go_wp2_with (first | (refine wpList_fop rfl _ _ _ _ _ rfl _ _ _ rfl rfl (by decide) _ ?_; intro _ _) | (refine upon_fop _ _ _ _ _ (by decide) ?_; intro _ _))
        go_ret2
        exact ⟨by rw [← HR.out, H9.out, HN.out]; rfl, below_drewN B2.out _⟩
    · obtain rfl : n = 9 := by omega
      go_wp2_with (first | (refine wpList_fop rfl _ _ _ _ _ rfl _ _ _ rfl rfl (by decide) _ ?_; intro _ _) | (refine upon_fop _ _ _ _ _ (by decide) ?_; intro _ _))
      go_ret2
      exact ⟨by rw [← HR.out]; rfl, below_drewN B2.out _⟩
  
/-! ### FnExactShotsFor -/
theorem walk (lo n hi m st k ro q : Nat) (w : World) (hlo : lo < 2 ^ FloatKind.f32.format.width) (hhi : hi < 2 ^ FloatKind.f32.format.width) (hst : st < 2 ^ FloatKind.f32.format.width) (hro : ro < 2 ^ FloatKind.f32.format.width) : Calls Try.prog 11 #[.float .f32 (pick .f32 lo n), .float .f32 (pick .f32 hi m), .float .f32 (pick .f32 st k), .float .f32 (pick .f32 ro q)] w fun e w' => e = .returned (.bool true) ∧ Below w.heap.size w w' := by
  rw [← w.drewN_zero]
  have CS := Lib.hid (fun w j => c_sShotsFor lo n hi m st k ro q w j)
  have CI := Lib.hid (fun w => c_iShotsFor lo n hi m st k ro q w hlo hhi hst hro)
  generalize shotR lo hi st ro = z at *
  go_enter Try.func11, Try.ntmps11
  go_wp2_with (first | (go_at_call 39; refine (CS.out _ _).mono ?_; rintro _ _ ⟨_, rfl, rfl⟩))
  refine (CI.out _).mono ?_
  rintro _ w2 ⟨rfl, b2⟩
  have B2 := Lib.hid ((below_drewN (Below.refl w.heap.size w) _).trans b2)
  clear b2
  go_wp2_with fail
  go_ret
  exact ⟨rfl, B2.out⟩

theorem own : ownKnob Try.prog.godebug = none := by kernel_rfl
theorem laidOut : laidOutB Try.prog = true := by kernel_rfl
set_option maxRecDepth 100000 in
theorem lifted (os : Os) (started : os.Started) (H : Type) (enc : TypeId × Value → H) :
    ReturnsInHanded {} Try.checked os 11 .any (Rows.fnExactShotsForSpec.pre6 enc Try.prog Try.f11 Rows.fnExactShotsForRow.domain false) (Rows.fnExactShotsForSpec.post enc Try.prog Try.f11 false true false false) := by
  refine returnsInHanded_of_change (C := Try.checked) own started (by kernel_rfl) Try.func11
    (ChangeSpec.witness6 (enc := enc) (C := Try.checked) false ⟨#[], #[.float .f32 0, .float .f32 0, .float .f32 0, .float .f32 0], []⟩ 8 (by kernel_rfl) (by kernel_rfl) (by kernel_rfl) (by kernel_rfl)) ?_
  intro W base args ds gs before hval0 hW hcnd _
  have hval : ∀ (j : Nat) t v, Try.f11.params[j]? = some t → args[j]? = some v → Value.okWide Try.prog W .any base t v := hval0
  have hW' := hW
  obtain ⟨p, q, hA0, hV, rfl, hfz, hnd⟩ := hW
  have hA : DataW.TrodAll enc Try.prog W 0 (fun _ => true) true Try.f11.params.toList args.toList ds p := hA0
  rw [Try.params11] at hA hval
  obtain ⟨v0, vs0, d0, ds0, p0, q0, hargs, rfl, rfl, h0, r0⟩ := trodAll_cons hA
  obtain ⟨v1, vs1, d1, ds1, p1, q1, rfl, rfl, rfl, h1, r1⟩ := trodAll_cons r0
  obtain ⟨v2, vs2, d2, ds2, p2, q2, rfl, rfl, rfl, h2, r2⟩ := trodAll_cons r1
  obtain ⟨v3, vs3, d3, ds3, p3, q3, rfl, rfl, rfl, h3, r3⟩ := trodAll_cons r2
  obtain ⟨rfl, rfl, rfl⟩ := trodAll_nil r3
  obtain rfl : args = #[v0, v1, v2, v3] := by cases args; simp_all
  obtain ⟨rfl, rfl⟩ := trodVars_none hV
  obtain ⟨b0, rfl, rfl, rfl, w0⟩ := open_float Try.underlying22 (hval 0 22 v0 rfl rfl) h0
  obtain ⟨n0, en0⟩ := pick_onto .f32 b0 (lt_of_wf w0)
  obtain ⟨b1, rfl, rfl, rfl, w1⟩ := open_float Try.underlying22 (hval 1 22 v1 rfl rfl) h1
  obtain ⟨n1, en1⟩ := pick_onto .f32 b1 (lt_of_wf w1)
  obtain ⟨b2, rfl, rfl, rfl, w2⟩ := open_float Try.underlying22 (hval 2 22 v2 rfl rfl) h2
  obtain ⟨n2, en2⟩ := pick_onto .f32 b2 (lt_of_wf w2)
  obtain ⟨b3, rfl, rfl, rfl, w3⟩ := open_float Try.underlying22 (hval 3 22 v3 rfl rfl) h3
  obtain ⟨n3, en3⟩ := pick_onto .f32 b3 (lt_of_wf w3)
  clear hA0 hval0
  have hcall0 := en0
  have hcall1 := en1
  have hcall2 := en2
  have hcall3 := en3
  have hw0 : Calls Try.prog 11 #[.float .f32 b0, .float .f32 b1, .float .f32 b2, .float .f32 b3] W fun e w' => e = .returned (.bool true) ∧ Below W.heap.size W w' := by
    rw [en0]
    rw [en1]
    rw [en2]
    rw [en3]
    exact walk b0 n0 b1 n1 b2 n2 b3 n3 W (lt_of_wf w0) (lt_of_wf w1) (lt_of_wf w2) (lt_of_wf w3)
  refine hw0.mono fun e W' ⟨he, bel⟩ => ?_
  subst he
  exact ⟨_, rfl, _, _, _, [], _, [], hW', trodAll_mk1 (shut_bool Try.underlying4 _), (trodAll_cons_mk (shut_float Try.underlying22 w0) (trodAll_cons_mk (shut_float Try.underlying22 w1) (trodAll_cons_mk (shut_float Try.underlying22 w2) (trodAll_cons_mk (shut_float Try.underlying22 w3) trodAll_mk0)))), rfl, bel.frame _, fun h => by cases h⟩

theorem over : Rows.fnExactShotsForRow.holds Try.pinned (OpenSpec.ofChange Rows.fnExactShotsForSpec) :=
  OpenClaim.holds_of_wide 11 Try.f11 rfl rfl rfl rfl rfl rfl rfl ⟨rfl, rfl, rfl, rfl, rfl⟩ rfl rfl rfl rfl rfl (by kernel_rfl) Try.func11 (by kernel_rfl)
    (of_decide_eq_true (by kernel_rfl)) (by unfold Func.isWrapper; first | (rw [if_pos (by decide +kernel)]; kernel_rfl) | (rw [if_neg (by decide +kernel)]; exact ⟨rfl, rfl⟩))
    (fun os started H enc _ => lifted os started H enc)

theorem proved : Rows.FnExactShotsForSaid := over
#print axioms proved

end Go.Proofs.Ytnnldhfgnmcfiab.fnExactShotsFor

/-
  FnExactLogNumber: for every input this law of the program returns true, and each argument reads as before. No condition.
-/
import Derived.Test.YtppalpibogccnacRows
import Derived.Test.YtppalpibogccnacFl
import Derived.Test.YtppalpibogccnacLg
import Derived.ProofKit
import Derived.OpenShut
import Derived.ShutString
import Derived.ChangeOld
import Derived.Below
import Derived.Lib.Hide
import Derived.Outline
import Derived.Deep.RegionHeld3
import Derived.Deep.DeepCutAuto
set_option linter.unusedSimpArgs false
set_option linter.unusedVariables false
set_option exponentiation.threshold 2000
set_option maxRecDepth 20000
set_option maxHeartbeats 4000000
namespace Go.Proofs.Ytppalpibogccnac.fnExactLogNumber
open Go Go.Proofs.Ytppalpibogccnac Go.Proofs
open Go.ChangeShapes Go.WideShapes Go.ChangeAt Go.RowKit
open Go.ChangeMaps (open_string shut_string)
/-! ### tenFacts -/
theorem pos_fin {v : Nat} (hf : finB .f32 v = true) (hp : (FloatKind.f32.format.order v 0 == some .lt || FloatKind.f32.format.order v 0 == some .eq) = false) : InR 3936146074321813504 5183643171103440896 (cvU v) := by
  have h1 : rung Ieee.single v < Ieee.single.infRung := of_decide_eq_true hf
  have hn : isN .f32 v = false := notN_fin (k := .f32) h1
  rw [order_rungs .f32 v 0 hn (by decide +kernel)] at hp
  have e0 : srung FloatKind.f32.format 0 = 0 := by decide +kernel
  have hff : FloatKind.f32.format = Ieee.single := rfl
  rw [e0, hff] at hp
  have h2 : 0 < srung Ieee.single v := by
    rcases Int.lt_trichotomy (srung Ieee.single v) 0 with h | h | h
    · rw [cmp_of_lt h] at hp; cases hp
    · rw [Int.compare_eq_eq.2 h] at hp; cases hp
    · exact h
  unfold srung at h2
  cases hs : sgn Ieee.single v
  · rw [hs] at h2
    exact cvU_in h1 hs (by simpa using h2)
  · rw [hs] at h2
    simp at h2; omega
def tenI (v : Nat) : Int := ti (floorF (fop .add .f64 (fop .mul .f64 (logW (cvU v)) 4631308968768463603) half64))
/-! ### logDefsNone -/

/-! ### logT -/
def logT (v : Nat) : Nat :=
  if isN .f32 v = true ∨ (FloatKind.f32.format.order v 0 == some .lt) = true then qn .f32
  else if (FloatKind.f32.format.order v 0 == some .eq) = true then 4286578688
  else if finB .f32 v = true then cvN (logW (cvU v)) else 2139095040
theorem inf_is {v : Nat} (hv : v < 2 ^ FloatKind.f32.format.width) (h1 : isN .f32 v = false) (h2 : (FloatKind.f32.format.order v 0 == some .lt) = false) (h3 : finB .f32 v = false) : v = 2139095040 := by
  have a := isN_rung' .f32 v
  rw [h1] at a
  have a2 := of_decide_eq_false a.symm
  have a3 : ¬ rung FloatKind.f32.format v < FloatKind.f32.format.infRung := of_decide_eq_false h3
  have e1 : FloatKind.f32.format.infRung = 2139095040 := by decide +kernel
  have e2 : FloatKind.f32.format.signWeight = 2147483648 := by decide +kernel
  have e3 : (2 : Nat) ^ FloatKind.f32.format.width = 4294967296 := by decide +kernel
  have hr : rung FloatKind.f32.format v = 2139095040 := by omega
  have hr2 : v % 2147483648 = 2139095040 := by have := hr; unfold rung at this; rwa [e2] at this
  rw [e3] at hv
  rcases (by omega : v = 2139095040 ∨ v = 4286578688) with h | h
  · exact h
  · subst h; exact absurd h2 (by decide +kernel)
theorem order_self {v : Nat} (h : isN .f64 v = false) : FloatKind.f64.format.order v v = some .eq := by rw [order_rungs .f64 v v h h, Int.compare_eq_eq.2 rfl]
theorem inf_cv : cvU 2139095040 = 9218868437227405312 := by decide +kernel
theorem inf_cn : 2139095040 = cvN 9218868437227405312 := by decide +kernel
theorem inf_fits : Fits 9218868437227405312 := .inr (by decide +kernel)
theorem inf_gt : (FloatKind.f64.format.order 9218868437227405312 9218868437227405311 == some .gt) = true := by decide +kernel
theorem neginf_cn : 4286578688 = cvN 18442240474082181120 := by decide +kernel
theorem neginf_fits : Fits 18442240474082181120 := .inr (by decide +kernel)
theorem log_finite {v : Nat} (h1 : isN .f32 v = false) (h2 : (FloatKind.f32.format.order v 0 == some .lt) = false) (h0 : (FloatKind.f32.format.order v 0 == some .eq) = false) (h3 : finB .f32 v = true) : InR 3936146074321813504 5183643171103440896 (cvU v) := pos_fin h3 (by rw [h2, h0]; rfl)
theorem Fits_log {v : Nat} (h : InR 3936146074321813504 5183643171103440896 v) : Fits (logW v) := Fits_of_Bd (Bd_mono (logW_fb h).bd (by decide))
/-! ### f64from -/
@[go_sem] theorem e_f64from (n : Int) (w : World) : (callFunc 72 #[.int .u64 n]).run Try.prog w = .ok (.value (.float .f64 n.toNat)) w := by kernel_rfl
/-! ### mInf -/
theorem c_InfN (w : World) (j : Nat) : Calls Try.prog 46 #[.int .i64 (-1)] (w.drewN j) (RetV (.float .f64 18442240474082181120) w) := by
  go_enter Try.func46, Try.ntmps46
  go_wp2
  go_ret
  exact ⟨_, rfl, rfl⟩
/-! ### logOf -/
theorem c_logOf (v n0 V : Nat) (w : World) (j : Nat) (hV : cvU v = V) (H0 : Hid (InR 3936146074321813504 5183643171103440896 V)) : Calls Try.prog 51 #[.float .f32 (pick .f32 v n0)] (w.drewN j) (RetF .f64 (logW V) w) := by
  have HV : Hid (V < 18446744073709551616) := by unfold Hid; rw [← hV]; exact cvU_lt v
  go_enter Try.func51, Try.ntmps51
  go_wp2_with (first | (refine wpList_cvU rfl 38 41 _ rfl (Option.isSome_iff_exists.2 ⟨_, Try.underlying38⟩) Try.underlying41 _ rfl _ ?_; intro _ _) | (first | (refine wpList_fop rfl _ _ _ _ _ rfl _ _ _ rfl rfl (by decide) _ ?_; intro _ _) | (refine upon_fop _ _ _ _ _ (by decide) ?_; intro _ _)))
  go_loopw [3, 4] (fun xs es wr => ∃ (i n m x : Nat), xs = .float .f64 (pick .f64 x n) ∧ es = .float .f64 (floatOfInt .f64 (i : Int)) ∧ wr = w.drewN m ∧ Hid (x < 18446744073709551616) ∧ Up V x i) (fun xs _ _ => fbits xs)
  case atStart => exact ⟨0, _, _, V, rfl, by rw [show floatOfInt .f64 ((0 : Nat) : Int) = 0 from by decide +kernel], rfl, HV, Up.zero H0.out⟩
  case round =>
    obtain ⟨i, n, m, x, rfl, rfl, rfl, HX, HU⟩ := hrel
    have hi := HU.few H0.out
    cases hg : ge15 x
    · have ht : (FloatKind.f64.format.order x 4609434218613702656 == some .gt || FloatKind.f64.format.order x 4609434218613702656 == some .eq) = false := hg
      have HX2 := Lib.hid (up_exit HU hg)
      clear hg
      go_wp2_with (first | (refine wpList_fop rfl _ _ _ _ _ rfl _ _ _ rfl rfl (by decide) _ ?_; intro _ _) | (refine upon_fop _ _ _ _ _ (by decide) ?_; intro _ _))
      obtain ⟨i1, hi1⟩ : ∃ i1, i1 = i := ⟨_, rfl⟩
      obtain ⟨x1, hx1⟩ : ∃ x1, x1 = x := ⟨_, rfl⟩
      have HX3 : Hid (InR 3936146074321813504 4609434218613702655 x1 ∧ upF 400 V 0 = (x1, (i1 : Int))) := by unfold Hid; rw [hi1, hx1]; exact HX2.out
      have HXx : Hid (x1 < 18446744073709551616) := by unfold Hid; rw [hx1]; exact HX.out
      have hi2 : i1 ≤ 277 := by omega
      rw [← hx1, ← hi1]
      clear hx1 hi1 HX2 HU hi
      go_loopw [3, 4] (fun xs es wr => ∃ (i n m x : Nat), xs = .float .f64 (pick .f64 x n) ∧ es = .float .f64 (floatOfInt .f64 ((i1 : Int) - (i : Int))) ∧ wr = w.drewN m ∧ Hid (x < 18446744073709551616) ∧ Dn x1 x (i1 : Int) i) (fun xs _ _ => 18446744073709551616 - fbits xs)
      case atStart => exact ⟨0, _, _, x1, rfl, by simp, rfl, HXx, Dn.zero HX3.out.1⟩
      case round =>
        obtain ⟨i, n, m, x, rfl, rfl, rfl, HX, HD⟩ := hrel
        have hi := HD.few HX3.out.1
        cases hg : lt75 x
        · have ht : (FloatKind.f64.format.order x 4604930618986332160 == some .lt) = false := hg
          have HX4 := Lib.hid (dn_exit HD HX3.out.2 hg)
          clear hg
          go_wp2_with (first | (refine wpList_fop rfl _ _ _ _ _ rfl _ _ _ rfl rfl (by decide) _ ?_; intro _ _) | (refine upon_fop _ _ _ _ _ (by decide) ?_; intro _ _))
          generalize hs : fop .quo .f64 (fop .sub .f64 x 4607182418800017408) (fop .add .f64 x 4607182418800017408) = sv
          have Hs : Hid (sOf x = sv) := hs
          clear hs
          go_loopw [7, 8] (fun p k wr => ∃ i n m : Nat, i ≤ 13 ∧ p = .float .f64 (pick .f64 (lser (fop .mul .f64 sv sv) i) n) ∧ k = .float .f64 (odd25 i) ∧ wr = w.drewN m) (fun _ k _ => fpos k)
          case atStart => exact ⟨0, 0, _, by omega, by rw [pick_not (show isN .f64 (lser (fop .mul .f64 sv sv) 0) = false from (by decide +kernel : isN .f64 0 = false))]; rfl, by rw [show odd25 0 = 4627730092099895296 from by decide +kernel], rfl⟩
          case round =>
            obtain ⟨q, n, m, hq, rfl, rfl, rfl⟩ := hrel
            by_cases hlt : q < 13
            · have ht2 := kod_test q hlt
              unfold one64 at ht2
              have HN := Lib.hid (kod_next q hlt)
              have HL := Lib.hid (kod_lt q hlt)
              go_wp2_with (first | (refine wpList_fop rfl _ _ _ _ _ rfl _ _ _ rfl rfl (by decide) _ ?_; intro _ _) | (refine upon_fop _ _ _ _ _ (by decide) ?_; intro _ _))
              go_roundw
              case rel => exact ⟨q + 1, _, _, by omega, by rw [lser_step]; rfl, by have e := HN.out; rw [e, pick_not (kod_notN _)], rfl⟩
              case measure => have e := HN.out; rw [e, pick_not (kod_notN _)]; exact HL.out
            · obtain rfl : q = 13 := by omega
              have ht2 := kod_end
              unfold one64 at ht2
              clear hlt
              go_wp2_with (first | (refine wpList_fop rfl _ _ _ _ _ rfl _ _ _ rfl rfl (by decide) _ ?_; intro _ _) | (refine upon_fop _ _ _ _ _ (by decide) ?_; intro _ _))
              go_ret
              have e : logW V = fop .add .f64 (fop .mul .f64 two64 (fop .mul .f64 sv (lser (fop .mul .f64 sv sv) 13))) (fop .mul .f64 (floatOfInt .f64 ((i1 : Int) - (i : Int))) ln2) := by
                unfold logW logE; rw [HX4.out, Hs.out]
              rw [e]
              exact ⟨_, _, rfl, rfl⟩
        · have ht : (FloatKind.f64.format.order x 4604930618986332160 == some .lt) = true := hg
          have HM := Lib.hid (HD.more HX.out hg)
          have HS := HD.step HX3.out.1 hg
          have HN := HS.notN
          have HL : Hid (fop .mul .f64 x two64 < 18446744073709551616) := fop_lt .mul .f64 x two64
          have hxn := HD.notN
          have HE := Lib.hid (efl_dn ((i1 : Int) - (i : Int)) (by omega) (by omega))
          have HN2 := Lib.hid HN
          have HN3 := Lib.hid hxn
          clear hg HN hxn
          go_wp2_with (first | (refine wpList_fop rfl _ _ _ _ _ rfl _ _ _ rfl rfl (by decide) _ ?_; intro _ _) | (refine upon_fop _ _ _ _ _ (by decide) ?_; intro _ _))
          go_roundw
          case rel => exact ⟨i + 1, _, _, _, rfl, by have e := HE.out; unfold one64 at e; rw [e, pick_not (efl_notN _), esub], rfl, HL, HS⟩
          case measure =>
            have h1 := HM.out
            show 18446744073709551616 - pick .f64 (fop .mul .f64 x two64) _ < 18446744073709551616 - pick .f64 x _
            rw [pick_not HN2.out, pick_not HN3.out]
            generalize fop .mul .f64 x two64 = y at *
            omega
    · have ht : (FloatKind.f64.format.order x 4609434218613702656 == some .gt || FloatKind.f64.format.order x 4609434218613702656 == some .eq) = true := hg
      have HM := Lib.hid (HU.less HX.out hg)
      have HS := HU.step H0.out hg
      have HN := HS.notN
      have HL : Hid (fop .quo .f64 x two64 < 18446744073709551616) := fop_lt .quo .f64 x two64
      have hxn := HU.notN
      have HE := Lib.hid (efl_up i (by omega))
      have HN2 := Lib.hid HN
      have HN3 := Lib.hid hxn
      clear hg HN hxn
      go_wp2_with (first | (refine wpList_fop rfl _ _ _ _ _ rfl _ _ _ rfl rfl (by decide) _ ?_; intro _ _) | (refine upon_fop _ _ _ _ _ (by decide) ?_; intro _ _))
      go_roundw
      case rel => exact ⟨i + 1, _, _, _, rfl, by have e := HE.out; unfold one64 at e; rw [e, pick_not (efl_notN _)]; rfl, rfl, HL, HS⟩
      case measure =>
        have h1 := HM.out
        show pick .f64 (fop .quo .f64 x two64) _ < pick .f64 x _
        rw [pick_not HN2.out, pick_not HN3.out]
        exact h1
/-! ### IsNaN -/
theorem c_IsNaN (v n : Nat) (w : World) (j : Nat) : Calls Try.prog 47 #[.float .f64 (pick .f64 v n)] (w.drewN j) (RetV (.bool (isN .f64 v)) w) := by
  go_enter Try.func47, Try.ntmps47
  go_wp2
  go_ret
  exact ⟨_, rfl, rfl⟩
/-! ### f64bits -/
@[go_sem] theorem e_f64bits (b : Nat) (w : World) : (callFunc 89 #[.float .f64 b]).run Try.prog w = .ok (.value (.int .u64 b)) w := by kernel_rfl
/-! ### Abs -/
theorem c_Abs (v n : Nat) (w : World) (j : Nat) (hv : v < 2 ^ FloatKind.f64.format.width) : Calls Try.prog 77 #[.float .f64 (pick .f64 v n)] (w.drewN j) (RetF .f64 (fabs .f64 v) w) := by
  have hb := abs_bits hv n
  go_enter Try.func77, Try.ntmps77
  go_wp2
  go_ret
  exact ⟨_, _, rfl, rfl⟩
/-! ### IsInf0 -/
theorem c_IsInf0 (v n : Nat) (w : World) (j : Nat) (hv : v < 2 ^ FloatKind.f64.format.width) : Calls Try.prog 88 #[.float .f64 (pick .f64 v n), .int .i64 0] (w.drewN j) (RetV (.bool (FloatKind.f64.format.order (fabs .f64 v) 9218868437227405311 == some .gt)) w) := by
  go_enter Try.func88, Try.ntmps88
  go_wp2_with ((go_at_call 77; refine (c_Abs _ _ _ _ hv).mono ?_; rintro _ _ ⟨_, _, rfl, rfl⟩))
  go_ret
  exact ⟨_, rfl, rfl⟩
/-! ### isFinite64 -/
theorem c_isFinite64 (v n : Nat) (w : World) (j : Nat) (hv : v < 2 ^ FloatKind.f64.format.width) : Calls Try.prog 73 #[.float .f64 (pick .f64 v n)] (w.drewN j) (RetV (.bool (finB .f64 v)) w) := by
  go_enter Try.func73, Try.ntmps73
  go_wp2_with (first | (go_at_call 47; refine (c_IsNaN _ _ _ _).mono ?_; rintro _ _ ⟨_, rfl, rfl⟩) | (go_at_call 88; refine (c_IsInf0 _ _ _ _ hv).mono ?_; rintro _ _ ⟨_, rfl, rfl⟩))
  all_goals
    go_ret
    refine ⟨_, ?_, rfl⟩
    rw [← abs_gt_max]
    simp [*]
/-! ### iIsFinite -/
theorem c_iIsFinite (v n : Nat) (w : World) (j : Nat) : Calls Try.prog 49 #[.float .f32 (pick .f32 v n)] (w.drewN j) (RetV (.bool (finB .f32 v)) w) := by
  go_enter Try.func49, Try.ntmps49
  go_wp2_with (first | (refine wpList_cvU rfl 38 41 _ rfl (Option.isSome_iff_exists.2 ⟨_, Try.underlying38⟩) Try.underlying41 _ rfl _ ?_; intro _ _) | (go_at_call 73; refine (c_isFinite64 _ _ _ _ (cvU_lt _)).mono ?_; rintro _ _ ⟨_, rfl, rfl⟩))
  go_ret
  rw [← finB_cvU]
  exact ⟨_, rfl, rfl⟩
/-! ### narrowNumber -/
theorem c_NarrowNumber (v n : Nat) (w : World) (j : Nat) (hfit : Fits v) : Calls Try.prog 50 #[.float .f64 (pick .f64 v n)] (w.drewN j) (RetF .f32 (cvN v) w) := by
  have H := Lib.hid hfit
  clear hfit
  go_enter Try.func50, Try.ntmps50
  go_wp2_with ((refine wpList_cvN rfl 41 38 _ rfl (Option.isSome_iff_exists.2 ⟨_, Try.underlying41⟩) Try.underlying38 _ rfl _ (by rw [Fits_pick]; exact H.out) ?_; intro _ _))
  go_ret
  exact ⟨_, _, rfl, rfl⟩
/-! ### iLog -/
theorem c_iLog (v n0 : Nat) (w : World) (j : Nat) (h0 : (FloatKind.f32.format.order v 0 == some .eq) = false) (h1 : isN .f32 v = false) (h2 : (FloatKind.f32.format.order v 0 == some .lt) = false) (h3 : finB .f32 v = true)
    (HI : Hid (InR 3936146074321813504 5183643171103440896 (cvU v))) (HF : Hid (Fits (logW (cvU v)))) :
    Calls Try.prog 22 #[.float .f32 (pick .f32 v n0)] (w.drewN j) (RetF .f32 (cvN (logW (cvU v))) w) := by
  go_enter Try.func22, Try.ntmps22
  go_wp2_with (first | (refine wpList_cvU rfl 38 41 _ rfl (Option.isSome_iff_exists.2 ⟨_, Try.underlying38⟩) Try.underlying41 _ rfl _ ?_; intro _ _) | (go_at_call 47; refine (c_IsNaN _ _ _ _).mono ?_; rintro _ _ ⟨_, rfl, rfl⟩) | (go_at_call 49; refine (c_iIsFinite _ _ _ _).mono ?_; rintro _ _ ⟨_, rfl, rfl⟩) | (go_at_call 51; refine (c_logOf _ _ _ _ _ rfl HI).mono ?_; rintro _ _ ⟨_, _, rfl, rfl⟩) | (go_at_call 50; refine (c_NarrowNumber _ _ _ _ HF.out).mono ?_; rintro _ _ ⟨_, _, rfl, rfl⟩) | go_in)
  go_ret
  exact ⟨_, _, rfl, rfl⟩
/-! ### f32from -/
@[go_sem] theorem e_f32from (n : Int) (w : World) : (callFunc 60 #[.int .u32 n]).run Try.prog w = .ok (.value (.float .f32 n.toNat)) w := by kernel_rfl
/-! ### notANumber -/
theorem c_notANumber (w : World) (j : Nat) : Calls Try.prog 48 #[] (w.drewN j) (RetV (.float .f32 2143289344) w) := by
  go_enter Try.func48, Try.ntmps48
  go_wp2
  go_ret
  exact ⟨_, rfl, rfl⟩
/-! ### iLogAll -/
theorem c_iLogAll (v n : Nat) (w : World) (j : Nat) (hv : v < 2 ^ FloatKind.f32.format.width) : Calls Try.prog 22 #[.float .f32 (pick .f32 v n)] (w.drewN j) (RetF .f32 (logT v) w) := by
  cases h1 : isN .f32 v
  · cases h2 : (FloatKind.f32.format.order v 0 == some .lt)
    · cases h0 : (FloatKind.f32.format.order v 0 == some .eq)
      · cases h3 : finB .f32 v
        · have e : logT v = v := by unfold logT; rw [if_neg (by rw [h1, h2]; decide), if_neg (by rw [h0]; decide), if_neg (by rw [h3]; decide)]; exact (inf_is hv h1 h2 h3).symm
          rw [e]
          clear e hv
          go_enter Try.func22, Try.ntmps22
          go_wp2_with (first | (refine wpList_cvU rfl 38 41 _ rfl (Option.isSome_iff_exists.2 ⟨_, Try.underlying38⟩) Try.underlying41 _ rfl _ ?_; intro _ _) | (go_at_call 47; refine (c_IsNaN _ _ _ _).mono ?_; rintro _ _ ⟨_, rfl, rfl⟩) | (go_at_call 49; refine (c_iIsFinite _ _ _ _).mono ?_; rintro _ _ ⟨_, rfl, rfl⟩) | (go_at_call 48; refine (c_notANumber _ _).mono ?_; rintro _ _ ⟨_, rfl, rfl⟩))
          go_ret
          exact ⟨n, _, by simp, rfl⟩
        · have HR := log_finite h1 h2 h0 h3
          have e : logT v = cvN (logW (cvU v)) := by unfold logT; rw [if_neg (by rw [h1, h2]; decide), if_neg (by rw [h0]; decide), if_pos h3]
          rw [e]
          exact c_iLog v n w j h0 h1 h2 h3 HR (Fits_log HR)
      · have e : logT v = cvN 18442240474082181120 := by unfold logT; rw [if_neg (by rw [h1, h2]; decide), if_pos h0]; exact neginf_cn
        rw [e]
        go_enter Try.func22, Try.ntmps22
        go_wp2_with (first | (refine wpList_cvU rfl 38 41 _ rfl (Option.isSome_iff_exists.2 ⟨_, Try.underlying38⟩) Try.underlying41 _ rfl _ ?_; intro _ _) | (refine wpList_cvN rfl 41 38 _ rfl (Option.isSome_iff_exists.2 ⟨_, Try.underlying41⟩) Try.underlying38 _ rfl _ (by exact neginf_fits) ?_; intro _ _) | (go_at_call 46; refine (c_InfN _ _).mono ?_; rintro _ _ ⟨_, rfl, rfl⟩) | go_in)
        go_ret
        exact ⟨_, _, rfl, rfl⟩
    · have h0 : (FloatKind.f32.format.order v 0 == some .eq) = false := by
        cases ho : FloatKind.f32.format.order v 0 with
        | none => rfl
        | some o => rw [ho] at h2; cases o <;> first | rfl | cases h2
      have e : logT v = qn .f32 := by unfold logT; rw [if_pos (.inr h2)]
      obtain ⟨n0, hn0⟩ := nanOf_onto .f32 2143289344 (by decide +kernel) (by decide +kernel)
      rw [e]
      have H := Lib.hid hn0
      clear hn0
      go_enter Try.func22, Try.ntmps22
      go_wp2_with (first | (refine wpList_cvU rfl 38 41 _ rfl (Option.isSome_iff_exists.2 ⟨_, Try.underlying38⟩) Try.underlying41 _ rfl _ ?_; intro _ _) | (go_at_call 47; refine (c_IsNaN _ _ _ _).mono ?_; rintro _ _ ⟨_, rfl, rfl⟩) | (go_at_call 48; refine (c_notANumber _ _).mono ?_; rintro _ _ ⟨_, rfl, rfl⟩))
      go_ret
      exact ⟨n0, _, by simp only [pick, isN_qn, if_true]; rw [← H.out]; rfl, rfl⟩
  · have ho : FloatKind.f32.format.order v 0 = none := order_nan_l _ h1
    have h0 : (FloatKind.f32.format.order v 0 == some .eq) = false := by rw [ho]; rfl
    have e : logT v = qn .f32 := by unfold logT; rw [if_pos (.inl h1)]
    obtain ⟨n0, hn0⟩ := nanOf_onto .f32 2143289344 (by decide +kernel) (by decide +kernel)
    rw [e]
    have H := Lib.hid hn0
    clear hn0 ho
    go_enter Try.func22, Try.ntmps22
    go_wp2_with (first | (refine wpList_cvU rfl 38 41 _ rfl (Option.isSome_iff_exists.2 ⟨_, Try.underlying38⟩) Try.underlying41 _ rfl _ ?_; intro _ _) | (go_at_call 47; refine (c_IsNaN _ _ _ _).mono ?_; rintro _ _ ⟨_, rfl, rfl⟩) | (go_at_call 48; refine (c_notANumber _ _).mono ?_; rintro _ _ ⟨_, rfl, rfl⟩))
    go_ret
    exact ⟨n0, _, by simp only [pick, isN_qn, if_true]; rw [← H.out]; rfl, rfl⟩
/-! ### logWide -/
theorem c_IsInf1 (v n : Nat) (w : World) (j : Nat) : Calls Try.prog 88 #[.float .f64 (pick .f64 v n), .int .i64 1] (w.drewN j) (RetV (.bool (FloatKind.f64.format.order v 9218868437227405311 == some .gt)) w) := by
  go_enter Try.func88, Try.ntmps88
  go_wp2_with fail
  go_ret
  exact ⟨_, rfl, rfl⟩
theorem c_logWide (V n0 : Nat) (w : World) (j : Nat) (HV : Hid (V < 18446744073709551616)) (H0 : Hid (InR 3936146074321813504 5183643171103440896 V))
    (hn : isN .f64 V = false) (h1 : (FloatKind.f64.format.order V 0 == some .lt) = false) (h2 : (FloatKind.f64.format.order V 0 == some .eq) = false) (h3 : (FloatKind.f64.format.order V 9218868437227405311 == some .gt) = false) : Calls Try.prog 71 #[.float .f64 (pick .f64 V n0)] (w.drewN j) (RetF .f64 (logW V) w) := by
  go_enter Try.func71, Try.ntmps71
  go_wp2_with (first | (first | (refine wpList_fop rfl _ _ _ _ _ rfl _ _ _ rfl rfl (by decide) _ ?_; intro _ _) | (refine upon_fop _ _ _ _ _ (by decide) ?_; intro _ _)) | (go_at_call 88; refine (c_IsInf1 _ _ _ _).mono ?_; rintro _ _ ⟨_, rfl, rfl⟩))
  go_loopw [0, 3] (fun xs es wr => ∃ (i n m x : Nat), xs = .float .f64 (pick .f64 x n) ∧ es = .int .i64 (i : Int) ∧ wr = w.drewN m ∧ Hid (x < 18446744073709551616) ∧ Up V x i) (fun xs _ _ => fbits xs)
  case atStart => exact ⟨0, _, _, V, rfl, rfl, rfl, HV, Up.zero H0.out⟩
  case round =>
    obtain ⟨i, n, m, x, rfl, rfl, rfl, HX, HU⟩ := hrel
    have hi := HU.few H0.out
    cases hg : ge15 x
    · have ht : (FloatKind.f64.format.order x 4609434218613702656 == some .gt || FloatKind.f64.format.order x 4609434218613702656 == some .eq) = false := hg
      have HX2 := Lib.hid (up_exit HU hg)
      clear hg
      go_wp2_with (first | (refine wpList_fop rfl _ _ _ _ _ rfl _ _ _ rfl rfl (by decide) _ ?_; intro _ _) | (refine upon_fop _ _ _ _ _ (by decide) ?_; intro _ _))
      obtain ⟨i1, hi1⟩ : ∃ i1, i1 = i := ⟨_, rfl⟩
      obtain ⟨x1, hx1⟩ : ∃ x1, x1 = x := ⟨_, rfl⟩
      have HX3 : Hid (InR 3936146074321813504 4609434218613702655 x1 ∧ upF 400 V 0 = (x1, (i1 : Int))) := by unfold Hid; rw [hi1, hx1]; exact HX2.out
      have HXx : Hid (x1 < 18446744073709551616) := by unfold Hid; rw [hx1]; exact HX.out
      have hi2 : i1 ≤ 277 := by omega
      rw [← hx1, ← hi1]
      clear hx1 hi1 HX2 HU hi
      go_loopw [0, 3] (fun xs es wr => ∃ (i n m x : Nat), xs = .float .f64 (pick .f64 x n) ∧ es = .int .i64 ((i1 : Int) - (i : Int)) ∧ wr = w.drewN m ∧ Hid (x < 18446744073709551616) ∧ Dn x1 x (i1 : Int) i) (fun xs _ _ => 18446744073709551616 - fbits xs)
      case atStart => exact ⟨0, _, _, x1, rfl, by simp, rfl, HXx, Dn.zero HX3.out.1⟩
      case round =>
        obtain ⟨i, n, m, x, rfl, rfl, rfl, HX, HD⟩ := hrel
        have hi := HD.few HX3.out.1
        cases hg : lt75 x
        · have ht : (FloatKind.f64.format.order x 4604930618986332160 == some .lt) = false := hg
          have HX4 := Lib.hid (dn_exit HD HX3.out.2 hg)
          clear hg
          go_wp2_with (first | (refine wpList_fop rfl _ _ _ _ _ rfl _ _ _ rfl rfl (by decide) _ ?_; intro _ _) | (refine upon_fop _ _ _ _ _ (by decide) ?_; intro _ _))
          generalize hs : fop .quo .f64 (fop .sub .f64 x 4607182418800017408) (fop .add .f64 x 4607182418800017408) = sv
          have Hs : Hid (sOf x = sv) := hs
          clear hs
          go_loopw [6, 7] (fun p k wr => ∃ (i n m : Nat) (kI : Int), i ≤ 13 ∧ Hid (kI = 25 - 2 * (i : Int)) ∧ p = .float .f64 (pick .f64 (lser (fop .mul .f64 sv sv) i) n) ∧ k = .int .i64 kI ∧ wr = w.drewN m) (fun _ k _ => (intOf k + 2).toNat)
          case atStart => exact ⟨0, 0, _, 25, by omega, rfl, by rw [pick_not (show isN .f64 (lser (fop .mul .f64 sv sv) 0) = false from (by decide +kernel : isN .f64 0 = false))]; rfl, rfl, rfl⟩
          case round =>
            obtain ⟨q, n, m, kI, hq, HK, rfl, rfl, rfl⟩ := hrel
            by_cases hlt : q < 13
            · have b1 : 1 ≤ kI := by have := HK.out; omega
              have b2 : kI ≤ 25 := by have := HK.out; omega
              have HD2 : Hid (odd25 q = floatOfInt .f64 kI) := by unfold Hid odd25; rw [HK.out]
              go_wp2_with (first | (refine wpList_fop rfl _ _ _ _ _ rfl _ _ _ rfl rfl (by decide) _ ?_; intro _ _) | (refine upon_fop _ _ _ _ _ (by decide) ?_; intro _ _))
              go_roundw
              case rel => exact ⟨q + 1, _, _, kI - 2, by omega, by have := HK.out; unfold Hid; omega, by rw [lser_step, HD2.out]; rfl, rfl, rfl⟩
              case measure => simp [intOf]; omega
            · obtain rfl : q = 13 := by omega
              have b1 : kI < 1 := by have := HK.out; omega
              have b2 : -1 ≤ kI := by have := HK.out; omega
              clear hlt
              go_wp2_with (first | (refine wpList_fop rfl _ _ _ _ _ rfl _ _ _ rfl rfl (by decide) _ ?_; intro _ _) | (refine upon_fop _ _ _ _ _ (by decide) ?_; intro _ _))
              go_ret
              have e : logW V = fop .add .f64 (fop .mul .f64 two64 (fop .mul .f64 sv (lser (fop .mul .f64 sv sv) 13))) (fop .mul .f64 (floatOfInt .f64 ((i1 : Int) - (i : Int))) ln2) := by
                unfold logW logE; rw [HX4.out, Hs.out]
              rw [e]
              exact ⟨_, _, rfl, rfl⟩
        · have ht : (FloatKind.f64.format.order x 4604930618986332160 == some .lt) = true := hg
          have HM := Lib.hid (HD.more HX.out hg)
          have HS := HD.step HX3.out.1 hg
          have HN := HS.notN
          have HL : Hid (fop .mul .f64 x two64 < 18446744073709551616) := fop_lt .mul .f64 x two64
          have hxn := HD.notN
          skip
          have HN2 := Lib.hid HN
          have HN3 := Lib.hid hxn
          clear hg HN hxn
          go_wp2_with (first | (refine wpList_fop rfl _ _ _ _ _ rfl _ _ _ rfl rfl (by decide) _ ?_; intro _ _) | (refine upon_fop _ _ _ _ _ (by decide) ?_; intro _ _))
          go_roundw
          case rel => exact ⟨i + 1, _, _, _, rfl, by rw [← esub], rfl, HL, HS⟩
          case measure =>
            have h1 := HM.out
            show 18446744073709551616 - pick .f64 (fop .mul .f64 x two64) _ < 18446744073709551616 - pick .f64 x _
            rw [pick_not HN2.out, pick_not HN3.out]
            generalize fop .mul .f64 x two64 = y at *
            omega
    · have ht : (FloatKind.f64.format.order x 4609434218613702656 == some .gt || FloatKind.f64.format.order x 4609434218613702656 == some .eq) = true := hg
      have HM := Lib.hid (HU.less HX.out hg)
      have HS := HU.step H0.out hg
      have HN := HS.notN
      have HL : Hid (fop .quo .f64 x two64 < 18446744073709551616) := fop_lt .quo .f64 x two64
      have hxn := HU.notN
      skip
      have HN2 := Lib.hid HN
      have HN3 := Lib.hid hxn
      clear hg HN hxn
      go_wp2_with (first | (refine wpList_fop rfl _ _ _ _ _ rfl _ _ _ rfl rfl (by decide) _ ?_; intro _ _) | (refine upon_fop _ _ _ _ _ (by decide) ?_; intro _ _))
      go_roundw
      case rel => exact ⟨i + 1, _, _, _, rfl, by go_num, rfl, HL, HS⟩
      case measure =>
        have h1 := HM.out
        show pick .f64 (fop .quo .f64 x two64) _ < pick .f64 x _
        rw [pick_not HN2.out, pick_not HN3.out]
        exact h1
/-! ### sineFacts -/
theorem fin_small {v : Nat} (h : finB .f32 v = true) (hb : decide (4841369599423283200 ≤ rung Ieee.double (cvU v)) = false) :
    isN .f64 (cvU v) = false ∧ floatToIntVal .f64 (cvU v) .i64 = some (ti (cvU v)) ∧ Bd .f64 1184 (sinF (cvU v)) := by
  have h1 : rung Ieee.single v < Ieee.single.infRung := of_decide_eq_true h
  have h2 : isN .f32 v = false := notN_fin (k := .f32) h1
  obtain ⟨_, c2, _, c4, _, _⟩ := cvU_spec h2
  have h3 := c4.2 h1
  have h4 := whole_small (v := cvU v) (by have := of_decide_eq_false hb; omega)
  exact ⟨c2, toInt64 h3 h4, sinF_bd (partF_bd h3 h4)⟩
theorem Fits_sin {v : Nat} (h : Bd .f64 1184 v) : Fits v := Fits_of_Bd (Bd_mono h (by decide))
theorem raw_nan {b : Nat} (h1 : isN .f64 b = true) (h2 : b < 2 ^ FloatKind.f64.format.width) : ∃ n, b = pick .f64 (qn .f64) n := by
  obtain ⟨n, e⟩ := nanOf_onto .f64 b h2 h1
  exact ⟨n, by rw [e]; simp [pick, isN_qn]⟩
def sineT (v : Nat) : Nat := if finB .f32 v = true then (if decide (4841369599423283200 ≤ rung Ieee.double (cvU v)) = true then 0 else cvN (sinF (cvU v))) else qn .f32
/-! ### mathNaN -/
theorem c_NaN (w : World) (j : Nat) : Calls Try.prog 82 #[] (w.drewN j) (RetF .f64 (qn .f64) w) := by
  obtain ⟨n, hn⟩ := raw_nan (b := 9221120237041090561) (by decide +kernel) (by decide +kernel)
  go_enter Try.func82, Try.ntmps82
  go_wp2
  go_ret
  exact ⟨n, _, by rw [← hn]; rfl, rfl⟩
/-! ### sLogAll -/
theorem c_sLogW_nan (v n : Nat) (w : World) (j : Nat) (h : (FloatKind.f64.format.order v v != some .eq) = true ∨ (FloatKind.f64.format.order v 0 == some .lt) = true) : Calls Try.prog 71 #[.float .f64 (pick .f64 v n)] (w.drewN j) (RetF .f64 (qn .f64) w) := by
  cases h1 : (FloatKind.f64.format.order v v != some .eq)
  · have h2 : (FloatKind.f64.format.order v 0 == some .lt) = true := by
      rcases h with h | h
      · rw [h1] at h; cases h
      · exact h
    clear h
    go_enter Try.func71, Try.ntmps71
    go_wp2_with (first | (first | (refine wpList_fop rfl _ _ _ _ _ rfl _ _ _ rfl rfl (by decide) _ ?_; intro _ _) | (refine upon_fop _ _ _ _ _ (by decide) ?_; intro _ _)) | (go_at_call 82; refine (c_NaN _ _).mono ?_; rintro _ _ ⟨_, _, rfl, rfl⟩))
    go_ret
    exact ⟨_, _, rfl, rfl⟩
  · clear h
    go_enter Try.func71, Try.ntmps71
    go_wp2_with (first | (first | (refine wpList_fop rfl _ _ _ _ _ rfl _ _ _ rfl rfl (by decide) _ ?_; intro _ _) | (refine upon_fop _ _ _ _ _ (by decide) ?_; intro _ _)) | (go_at_call 82; refine (c_NaN _ _).mono ?_; rintro _ _ ⟨_, _, rfl, rfl⟩))
    go_ret
    exact ⟨_, _, rfl, rfl⟩
theorem c_sLogW_zero (v n : Nat) (w : World) (j : Nat) (h1 : (FloatKind.f64.format.order v v != some .eq) = false) (h2 : (FloatKind.f64.format.order v 0 == some .lt) = false) (h3 : (FloatKind.f64.format.order v 0 == some .eq) = true) : Calls Try.prog 71 #[.float .f64 (pick .f64 v n)] (w.drewN j) (RetV (.float .f64 18442240474082181120) w) := by
  go_enter Try.func71, Try.ntmps71
  go_wp2_with (first | (first | (refine wpList_fop rfl _ _ _ _ _ rfl _ _ _ rfl rfl (by decide) _ ?_; intro _ _) | (refine upon_fop _ _ _ _ _ (by decide) ?_; intro _ _)) | (go_at_call 46; refine (c_InfN _ _).mono ?_; rintro _ _ ⟨_, rfl, rfl⟩))
  go_ret
  exact ⟨_, rfl, rfl⟩
theorem c_sLogW_inf (v n : Nat) (w : World) (j : Nat) (h1 : (FloatKind.f64.format.order v v != some .eq) = false) (h2 : (FloatKind.f64.format.order v 0 == some .lt) = false) (h3 : (FloatKind.f64.format.order v 0 == some .eq) = false) (h4 : (FloatKind.f64.format.order v 9218868437227405311 == some .gt) = true) : Calls Try.prog 71 #[.float .f64 (pick .f64 v n)] (w.drewN j) (RetF .f64 v w) := by
  go_enter Try.func71, Try.ntmps71
  go_wp2_with (first | (first | (refine wpList_fop rfl _ _ _ _ _ rfl _ _ _ rfl rfl (by decide) _ ?_; intro _ _) | (refine upon_fop _ _ _ _ _ (by decide) ?_; intro _ _)) | (go_at_call 88; refine (c_IsInf1 _ _ _ _).mono ?_; rintro _ _ ⟨_, rfl, rfl⟩))
  go_ret
  exact ⟨_, _, rfl, rfl⟩
theorem c_sLogAll (v n : Nat) (w : World) (j : Nat) (hv : v < 2 ^ FloatKind.f32.format.width) : Calls Try.prog 21 #[.float .f32 (pick .f32 v n)] (w.drewN j) (RetF .f32 (logT v) w) := by
  cases h1 : isN .f32 v
  · have hs := order_self (v := cvU v) (by rw [isN_cvU]; exact h1)
    cases h2 : (FloatKind.f32.format.order v 0 == some .lt)
    · cases h0 : (FloatKind.f32.format.order v 0 == some .eq)
      · cases h3 : finB .f32 v
        · have e0 := inf_is hv h1 h2 h3
          have ec : cvU v = 9218868437227405312 := by rw [e0]; exact inf_cv
          have e : logT v = cvN (cvU v) := by unfold logT; rw [if_neg (by rw [h1, h2]; decide), if_neg (by rw [h0]; decide), if_neg (by rw [h3]; decide), ec]; exact inf_cn
          have HF : Hid (Fits (cvU v)) := by unfold Hid; rw [ec]; exact inf_fits
          have HC := Lib.hid (fun n j => c_sLogW_inf (cvU v) n w j (by rw [bne, hs]; rfl) (by rw [order_cv0]; exact h2) (by rw [order_cv0]; exact h0) (by rw [ec]; exact inf_gt))
          rw [e]
          clear hs ec e e0 h1 h2 h0 h3 hv
          go_enter Try.func21, Try.ntmps21
          go_wp2_with (first | (refine wpList_cvU rfl 38 41 _ rfl (Option.isSome_iff_exists.2 ⟨_, Try.underlying38⟩) Try.underlying41 _ rfl _ ?_; intro _ _) | (refine wpList_cvN rfl 41 38 _ rfl (Option.isSome_iff_exists.2 ⟨_, Try.underlying41⟩) Try.underlying38 _ rfl _ (by rw [Fits_pick]; exact HF.out) ?_; intro _ _) | (go_at_call 71; refine (HC.out _ _).mono ?_; rintro _ _ ⟨_, _, rfl, rfl⟩) | go_in)
          go_ret
          exact ⟨_, _, rfl, rfl⟩
        · have HR := Lib.hid (log_finite h1 h2 h0 h3)
          have e : logT v = cvN (logW (cvU v)) := by unfold logT; rw [if_neg (by rw [h1, h2]; decide), if_neg (by rw [h0]; decide), if_pos h3]
          rw [e]
          have HT := Lib.hid (pos_tests HR.out)
          have HM := Lib.hid (max_not HR.out)
          have HF := Lib.hid (Fits_log HR.out)
          have HV : Hid (cvU v < 18446744073709551616) := cvU_lt v
          have HNN : Hid (isN .f64 (cvU v) = false) := by unfold Hid; rw [isN_cvU]; exact h1
          clear hs h1 h2 h0 h3 e
          go_enter Try.func21, Try.ntmps21
          go_wp2_with (first | (refine wpList_cvU rfl 38 41 _ rfl (Option.isSome_iff_exists.2 ⟨_, Try.underlying38⟩) Try.underlying41 _ rfl _ ?_; intro _ _) | (refine wpList_cvN rfl 41 38 _ rfl (Option.isSome_iff_exists.2 ⟨_, Try.underlying41⟩) Try.underlying38 _ rfl _ (by rw [Fits_pick]; exact HF.out) ?_; intro _ _) | (go_at_call 71; refine (c_logWide _ _ _ _ HV HR HNN.out HT.out.1 HT.out.2 HM.out).mono ?_; rintro _ _ ⟨_, _, rfl, rfl⟩) | go_in)
          go_ret
          exact ⟨_, _, rfl, rfl⟩
      · have e : logT v = cvN 18442240474082181120 := by unfold logT; rw [if_neg (by rw [h1, h2]; decide), if_pos h0]; exact neginf_cn
        rw [e]
        have HC := Lib.hid (fun n j => c_sLogW_zero (cvU v) n w j (by rw [bne, hs]; rfl) (by rw [order_cv0]; exact h2) (by rw [order_cv0]; exact h0))
        clear hs h1 h2 h0 e
        go_enter Try.func21, Try.ntmps21
        go_wp2_with (first | (refine wpList_cvU rfl 38 41 _ rfl (Option.isSome_iff_exists.2 ⟨_, Try.underlying38⟩) Try.underlying41 _ rfl _ ?_; intro _ _) | (refine wpList_cvN rfl 41 38 _ rfl (Option.isSome_iff_exists.2 ⟨_, Try.underlying41⟩) Try.underlying38 _ rfl _ (by exact neginf_fits) ?_; intro _ _) | (go_at_call 71; refine (HC.out _ _).mono ?_; rintro _ _ ⟨_, rfl, rfl⟩) | go_in)
        go_ret
        exact ⟨_, _, rfl, rfl⟩
    · have e : logT v = qn .f32 := by unfold logT; rw [if_pos (.inr h2)]
      rw [e]
      have HC := Lib.hid (fun n j => c_sLogW_nan (cvU v) n w j (.inr (by rw [order_cv0]; exact h2)))
      clear hs h1 h2 e
      have e2 : cvN (qn .f64) = qn .f32 := cvN_qn (isN_qn .f64)
      rw [← e2]
      clear e2
      go_enter Try.func21, Try.ntmps21
      go_wp2_with (first | (refine wpList_cvU rfl 38 41 _ rfl (Option.isSome_iff_exists.2 ⟨_, Try.underlying38⟩) Try.underlying41 _ rfl _ ?_; intro _ _) | (refine wpList_cvN rfl 41 38 _ rfl (Option.isSome_iff_exists.2 ⟨_, Try.underlying41⟩) Try.underlying38 _ rfl _ (by exact .inl (by rw [isN_pick]; exact isN_qn _)) ?_; intro _ _) | (go_at_call 71; refine (HC.out _ _).mono ?_; rintro _ _ ⟨_, _, rfl, rfl⟩) | go_in)
      go_ret
      exact ⟨_, _, rfl, rfl⟩
  · have e : logT v = qn .f32 := by unfold logT; rw [if_pos (.inl h1)]
    rw [e]
    have ho : FloatKind.f64.format.order (cvU v) (cvU v) = none := order_nan_l _ (by rw [isN_cvU]; exact h1)
    have HC := Lib.hid (fun n j => c_sLogW_nan (cvU v) n w j (.inl (by rw [bne, ho]; rfl)))
    clear h1 e ho
    have e2 : cvN (qn .f64) = qn .f32 := cvN_qn (isN_qn .f64)
    rw [← e2]
    clear e2
    go_enter Try.func21, Try.ntmps21
    go_wp2_with (first | (refine wpList_cvU rfl 38 41 _ rfl (Option.isSome_iff_exists.2 ⟨_, Try.underlying38⟩) Try.underlying41 _ rfl _ ?_; intro _ _) | (refine wpList_cvN rfl 41 38 _ rfl (Option.isSome_iff_exists.2 ⟨_, Try.underlying41⟩) Try.underlying38 _ rfl _ (by exact .inl (by rw [isN_pick]; exact isN_qn _)) ?_; intro _ _) | (go_at_call 71; refine (HC.out _ _).mono ?_; rintro _ _ ⟨_, _, rfl, rfl⟩) | go_in)
    go_ret
    exact ⟨_, _, rfl, rfl⟩
/-! ### sameFloat -/
theorem c_sameFloat (v n m : Nat) (w : World) (j : Nat) : Calls Try.prog 23 #[.float .f64 (pick .f64 v n), .float .f64 (pick .f64 v m)] (w.drewN j) (RetV (.bool true) w) := by
  have hs := self_ne .f64 v
  have ht := self_eq .f64 v
  cases h : isN .f64 v
  · rw [h] at hs ht
    cases h2 : (FloatKind.f64.format.order v 0 == some .eq)
    · go_enter Try.func23, Try.ntmps23
      go_wp2_with (first | (refine wpList_fop rfl _ _ _ _ _ rfl _ _ _ rfl rfl (by decide) _ ?_; intro _ _) | (refine upon_fop _ _ _ _ _ (by decide) ?_; intro _ _))
      go_ret
      exact ⟨_, rfl, rfl⟩
    · go_enter Try.func23, Try.ntmps23
      go_wp2_with (first | (refine wpList_fop rfl _ _ _ _ _ rfl _ _ _ rfl rfl (by decide) _ ?_; intro _ _) | (refine upon_fop _ _ _ _ _ (by decide) ?_; intro _ _))
      go_ret
      exact ⟨_, by simp, rfl⟩
  · rw [h] at hs ht
    go_enter Try.func23, Try.ntmps23
    go_wp2_with (first | (refine wpList_fop rfl _ _ _ _ _ rfl _ _ _ rfl rfl (by decide) _ ?_; intro _ _) | (refine upon_fop _ _ _ _ _ (by decide) ?_; intro _ _))
    go_ret
    exact ⟨_, rfl, rfl⟩

/-! ### FnExactLogNumber -/
theorem walk (v n : Nat) (w : World) (hv : v < 2 ^ FloatKind.f32.format.width) : Calls Try.prog 7 #[.float .f32 (pick .f32 v n)] w fun e w' => e = .returned (.bool true) ∧ Below w.heap.size w w' := by
  rw [← w.drewN_zero]
  go_enter Try.func7, Try.ntmps7
  go_wp2_with (first | (refine wpList_cvU rfl 38 41 _ rfl (Option.isSome_iff_exists.2 ⟨_, Try.underlying38⟩) Try.underlying41 _ rfl _ ?_; intro _ _) | (go_at_call 21; refine (c_sLogAll _ _ _ _ hv).mono ?_; rintro _ _ ⟨_, _, rfl, rfl⟩) | (go_at_call 22; refine (c_iLogAll _ _ _ _ hv).mono ?_; rintro _ _ ⟨_, _, rfl, rfl⟩) | (go_at_call 23; refine (c_sameFloat _ _ _ _ _).mono ?_; rintro _ _ ⟨_, rfl, rfl⟩))
  go_ret
  exact ⟨rfl, below_drewN (Below.refl _ _) _⟩

theorem own : ownKnob Try.prog.godebug = none := by kernel_rfl
theorem laidOut : laidOutB Try.prog = true := by kernel_rfl
set_option maxRecDepth 100000 in
theorem lifted (os : Os) (started : os.Started) (H : Type) (enc : TypeId × Value → H) :
    ReturnsInHanded {} Try.checked os 7 .any (Rows.fnExactLogNumberSpec.pre6 enc Try.prog Try.f7 Rows.fnExactLogNumberRow.domain false) (Rows.fnExactLogNumberSpec.post enc Try.prog Try.f7 false true false false) := by
  refine returnsInHanded_of_change (C := Try.checked) own started (by kernel_rfl) Try.func7
    (ChangeSpec.witness6 (enc := enc) (C := Try.checked) false ⟨#[], #[.float .f32 0], []⟩ 8 (by kernel_rfl) (by kernel_rfl) (by kernel_rfl) (by kernel_rfl)) ?_
  intro W base args ds gs before hval0 hW hcnd _
  have hval : ∀ (j : Nat) t v, Try.f7.params[j]? = some t → args[j]? = some v → Value.okWide Try.prog W .any base t v := hval0
  have hW' := hW
  obtain ⟨p, q, hA0, hV, rfl, hfz, hnd⟩ := hW
  have hA : DataW.TrodAll enc Try.prog W 0 (fun _ => true) true Try.f7.params.toList args.toList ds p := hA0
  rw [Try.params7] at hA hval
  obtain ⟨v0, vs0, d0, ds0, p0, q0, hargs, rfl, rfl, h0, r0⟩ := trodAll_cons hA
  obtain ⟨rfl, rfl, rfl⟩ := trodAll_nil r0
  obtain rfl : args = #[v0] := by cases args; simp_all
  obtain ⟨rfl, rfl⟩ := trodVars_none hV
  obtain ⟨b0, rfl, rfl, rfl, w0⟩ := open_float Try.underlying38 (hval 0 38 v0 rfl rfl) h0
  obtain ⟨n0, en0⟩ := pick_onto .f32 b0 (lt_of_wf w0)
  clear hA0 hval0
  have hcall0 := en0
  have hw0 : Calls Try.prog 7 #[.float .f32 b0] W fun e w' => e = .returned (.bool true) ∧ Below W.heap.size W w' := by
    rw [en0]
    exact walk b0 n0 W (lt_of_wf w0)
  refine hw0.mono fun e W' ⟨he, bel⟩ => ?_
  subst he
  exact ⟨_, rfl, _, _, _, [], _, [], hW', trodAll_mk1 (shut_bool Try.underlying4 _), (trodAll_cons_mk (shut_float Try.underlying38 w0) trodAll_mk0), rfl, bel.frame _, fun h => by cases h⟩

theorem over : Rows.fnExactLogNumberRow.holds Try.pinned (OpenSpec.ofChange Rows.fnExactLogNumberSpec) :=
  OpenClaim.holds_of_wide 7 Try.f7 rfl rfl rfl rfl rfl rfl rfl ⟨rfl, rfl, rfl, rfl, rfl⟩ rfl rfl rfl rfl rfl (by kernel_rfl) Try.func7 (by kernel_rfl)
    (of_decide_eq_true (by kernel_rfl)) (by unfold Func.isWrapper; first | (rw [if_pos (by decide +kernel)]; kernel_rfl) | (rw [if_neg (by decide +kernel)]; exact ⟨rfl, rfl⟩))
    (fun os started H enc _ => lifted os started H enc)

theorem proved : Rows.FnExactLogNumberSaid := over
#print axioms proved

end Go.Proofs.Ytppalpibogccnac.fnExactLogNumber

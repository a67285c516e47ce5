/-
  FnExactTenthsOf: for every input this law of the program returns true, and each argument reads as before. No condition.
-/
import Derived.Test.YtfohhljadpchgadRows
import Derived.Test.YtfohhljadpchgadFl
import Derived.Test.YtfohhljadpchgadLg
import Derived.ProofKit
import Derived.OpenShut
import Derived.ShutString
import Derived.ChangeOld
import Derived.Below
import Derived.Lib.Hide
set_option linter.unusedSimpArgs false
set_option linter.unusedVariables false
set_option exponentiation.threshold 2000
namespace Go.Proofs.Ytfohhljadpchgad.fnExactTenthsOf
open Go Go.Proofs.Ytfohhljadpchgad Go.Proofs
open Go.ChangeShapes Go.WideShapes Go.ChangeAt Go.RowKit
open Go.ChangeMaps (open_string shut_string)
/-! ### logOf -/
theorem c_logOf (v n0 V : Nat) (w : World) (j : Nat) (hV : cvU v = V) (H0 : Hid (InR 3936146074321813504 5183643171103440896 V)) : Calls Try.prog 25 #[.float .f32 (pick .f32 v n0)] (w.drewN j) (RetF .f64 (logW V) w) := by
  have HV : Hid (V < 18446744073709551616) := by unfold Hid; rw [← hV]; exact cvU_lt v
  go_enter Try.func25, Try.ntmps25
  go_wp2_with (first | (refine wpList_cvU rfl 28 22 _ rfl (Option.isSome_iff_exists.2 ⟨_, Try.underlying28⟩) Try.underlying22 _ rfl _ ?_; intro _ _) | (first | (refine wpList_fop rfl _ _ _ _ _ rfl _ _ _ rfl rfl (by decide) _ ?_; intro _ _) | (refine upon_fop _ _ _ _ _ (by decide) ?_; intro _ _)))
  go_loopw [3, 4] (fun xs es wr => ∃ (i n m x : Nat), xs = .float .f64 (pick .f64 x n) ∧ es = .float .f64 (floatOfInt .f64 (i : Int)) ∧ wr = w.drewN m ∧ Hid (x < 18446744073709551616) ∧ Up V x i) (fun xs _ _ => fbits xs)
  case atStart => exact ⟨0, _, _, V, rfl, by rw [show floatOfInt .f64 ((0 : Nat) : Int) = 0 from by decide +kernel], rfl, HV, Up.zero H0.out⟩
  case round =>
    obtain ⟨i, n, m, x, rfl, rfl, rfl, HX, HU⟩ := hrel
    have hi := HU.few H0.out
    cases hg : ge15 x
    · have ht : (FloatKind.f64.format.order x 4609434218613702656 == some .gt || FloatKind.f64.format.order x 4609434218613702656 == some .eq) = false := hg
      have HX2 := Lib.hid (up_exit HU hg)
      clear hg
      go_wp2_with (first | (refine wpList_fop rfl _ _ _ _ _ rfl _ _ _ rfl rfl (by decide) _ ?_; intro _ _) | (refine upon_fop _ _ _ _ _ (by decide) ?_; intro _ _))
      obtain ⟨i1, hi1⟩ : ∃ i1, i1 = i := ⟨_, rfl⟩
      obtain ⟨x1, hx1⟩ : ∃ x1, x1 = x := ⟨_, rfl⟩
      have HX3 : Hid (InR 3936146074321813504 4609434218613702655 x1 ∧ upF 400 V 0 = (x1, (i1 : Int))) := by unfold Hid; rw [hi1, hx1]; exact HX2.out
      have HXx : Hid (x1 < 18446744073709551616) := by unfold Hid; rw [hx1]; exact HX.out
      have hi2 : i1 ≤ 277 := by omega
      rw [← hx1, ← hi1]
      clear hx1 hi1 HX2 HU hi
      go_loopw [3, 4] (fun xs es wr => ∃ (i n m x : Nat), xs = .float .f64 (pick .f64 x n) ∧ es = .float .f64 (floatOfInt .f64 ((i1 : Int) - (i : Int))) ∧ wr = w.drewN m ∧ Hid (x < 18446744073709551616) ∧ Dn x1 x (i1 : Int) i) (fun xs _ _ => 18446744073709551616 - fbits xs)
      case atStart => exact ⟨0, _, _, x1, rfl, by simp, rfl, HXx, Dn.zero HX3.out.1⟩
      case round =>
        obtain ⟨i, n, m, x, rfl, rfl, rfl, HX, HD⟩ := hrel
        have hi := HD.few HX3.out.1
        cases hg : lt75 x
        · have ht : (FloatKind.f64.format.order x 4604930618986332160 == some .lt) = false := hg
          have HX4 := Lib.hid (dn_exit HD HX3.out.2 hg)
          clear hg
          go_wp2_with (first | (refine wpList_fop rfl _ _ _ _ _ rfl _ _ _ rfl rfl (by decide) _ ?_; intro _ _) | (refine upon_fop _ _ _ _ _ (by decide) ?_; intro _ _))
          generalize hs : fop .quo .f64 (fop .sub .f64 x 4607182418800017408) (fop .add .f64 x 4607182418800017408) = sv
          have Hs : Hid (sOf x = sv) := hs
          clear hs
          go_loopw [7, 8] (fun p k wr => ∃ i n m : Nat, i ≤ 13 ∧ p = .float .f64 (pick .f64 (lser (fop .mul .f64 sv sv) i) n) ∧ k = .float .f64 (odd25 i) ∧ wr = w.drewN m) (fun _ k _ => fpos k)
          case atStart => exact ⟨0, 0, _, by omega, by rw [pick_not (show isN .f64 (lser (fop .mul .f64 sv sv) 0) = false from (by decide +kernel : isN .f64 0 = false))]; rfl, by rw [show odd25 0 = 4627730092099895296 from by decide +kernel], rfl⟩
          case round =>
            obtain ⟨q, n, m, hq, rfl, rfl, rfl⟩ := hrel
            by_cases hlt : q < 13
            · have ht2 := kod_test q hlt
              unfold one64 at ht2
              have HN := Lib.hid (kod_next q hlt)
              have HL := Lib.hid (kod_lt q hlt)
              go_wp2_with (first | (refine wpList_fop rfl _ _ _ _ _ rfl _ _ _ rfl rfl (by decide) _ ?_; intro _ _) | (refine upon_fop _ _ _ _ _ (by decide) ?_; intro _ _))
              go_roundw
              case rel => exact ⟨q + 1, _, _, by omega, by rw [lser_step]; rfl, by have e := HN.out; rw [e, pick_not (kod_notN _)], rfl⟩
              case measure => have e := HN.out; rw [e, pick_not (kod_notN _)]; exact HL.out
            · obtain rfl : q = 13 := by omega
              have ht2 := kod_end
              unfold one64 at ht2
              clear hlt
              go_wp2_with (first | (refine wpList_fop rfl _ _ _ _ _ rfl _ _ _ rfl rfl (by decide) _ ?_; intro _ _) | (refine upon_fop _ _ _ _ _ (by decide) ?_; intro _ _))
              go_ret
              have e : logW V = fop .add .f64 (fop .mul .f64 two64 (fop .mul .f64 sv (lser (fop .mul .f64 sv sv) 13))) (fop .mul .f64 (floatOfInt .f64 ((i1 : Int) - (i : Int))) ln2) := by
                unfold logW logE; rw [HX4.out, Hs.out]
              rw [e]
              exact ⟨_, _, rfl, rfl⟩
        · have ht : (FloatKind.f64.format.order x 4604930618986332160 == some .lt) = true := hg
          have HM := Lib.hid (HD.more HX.out hg)
          have HS := HD.step HX3.out.1 hg
          have HN := HS.notN
          have HL : Hid (fop .mul .f64 x two64 < 18446744073709551616) := fop_lt .mul .f64 x two64
          have hxn := HD.notN
          have HE := Lib.hid (efl_dn ((i1 : Int) - (i : Int)) (by omega) (by omega))
          have HN2 := Lib.hid HN
          have HN3 := Lib.hid hxn
          clear hg HN hxn
          go_wp2_with (first | (refine wpList_fop rfl _ _ _ _ _ rfl _ _ _ rfl rfl (by decide) _ ?_; intro _ _) | (refine upon_fop _ _ _ _ _ (by decide) ?_; intro _ _))
          go_roundw
          case rel => exact ⟨i + 1, _, _, _, rfl, by have e := HE.out; unfold one64 at e; rw [e, pick_not (efl_notN _), esub], rfl, HL, HS⟩
          case measure =>
            have h1 := HM.out
            show 18446744073709551616 - pick .f64 (fop .mul .f64 x two64) _ < 18446744073709551616 - pick .f64 x _
            rw [pick_not HN2.out, pick_not HN3.out]
            generalize fop .mul .f64 x two64 = y at *
            omega
    · have ht : (FloatKind.f64.format.order x 4609434218613702656 == some .gt || FloatKind.f64.format.order x 4609434218613702656 == some .eq) = true := hg
      have HM := Lib.hid (HU.less HX.out hg)
      have HS := HU.step H0.out hg
      have HN := HS.notN
      have HL : Hid (fop .quo .f64 x two64 < 18446744073709551616) := fop_lt .quo .f64 x two64
      have hxn := HU.notN
      have HE := Lib.hid (efl_up i (by omega))
      have HN2 := Lib.hid HN
      have HN3 := Lib.hid hxn
      clear hg HN hxn
      go_wp2_with (first | (refine wpList_fop rfl _ _ _ _ _ rfl _ _ _ rfl rfl (by decide) _ ?_; intro _ _) | (refine upon_fop _ _ _ _ _ (by decide) ?_; intro _ _))
      go_roundw
      case rel => exact ⟨i + 1, _, _, _, rfl, by have e := HE.out; unfold one64 at e; rw [e, pick_not (efl_notN _)]; rfl, rfl, HL, HS⟩
      case measure =>
        have h1 := HM.out
        show pick .f64 (fop .quo .f64 x two64) _ < pick .f64 x _
        rw [pick_not HN2.out, pick_not HN3.out]
        exact h1
/-! ### Floor -/
theorem run_floor (x : Nat) (w : World) (hx : isN .f64 x = false) : (callFunc 39 #[.float .f64 x]).run Try.prog w = .ok (.value (.float .f64 (floorF x))) w := by
  have e : (callFunc 39 #[.float .f64 x]).run Try.prog w = ((Extern.MathFloor.toIntegral "math.archFloor" .down #[.float .f64 x]).bind fun v => Sem.pure (Next.value v)).run Try.prog w := by kernel_rfl
  rw [e]
  have e2 : Extern.MathFloor.toIntegral "math.archFloor" .down #[.float .f64 x] = pure (.float .f64 (floorF x)) := by
    have hd : ∀ s t, FloatKind.f64.decode x ≠ .nan s t := by
      intro s t h
      have h2 : FloatKind.f64.format.read x = .nan s t := h
      unfold isN at hx
      rw [h2] at hx; cases hx
    show (match FloatKind.f64.decode x with | .nan s t => _ | d => _) = _
    cases hh : FloatKind.f64.decode x with
    | nan s t => exact absurd hh (hd s t)
    | number s m i =>
      have h2 : Ieee.double.read x = .number s m i := hh
      unfold floorF; rw [h2]; rfl
    | infinity s =>
      have h2 : Ieee.double.read x = .infinity s := hh
      unfold floorF; rw [h2]; rfl
  rw [e2]; rfl
theorem c_Floor (x : Nat) (w : World) (j : Nat) (hx : isN .f64 x = false) : Calls Try.prog 24 #[.float .f64 x] (w.drewN j) (RetV (.float .f64 (floorF x)) w) := by
  have hr := run_floor x (w.drewN j) hx
  go_enter Try.func24, Try.ntmps24
  go_wp2
  go_ret
  exact ⟨_, rfl, rfl⟩
/-! ### tenFacts -/
theorem pos_fin {v : Nat} (hf : finB .f32 v = true) (hp : (FloatKind.f32.format.order v 0 == some .lt || FloatKind.f32.format.order v 0 == some .eq) = false) : InR 3936146074321813504 5183643171103440896 (cvU v) := by
  have h1 : rung Ieee.single v < Ieee.single.infRung := of_decide_eq_true hf
  have hn : isN .f32 v = false := notN_fin (k := .f32) h1
  rw [order_rungs .f32 v 0 hn (by decide +kernel)] at hp
  have e0 : srung FloatKind.f32.format 0 = 0 := by decide +kernel
  have hff : FloatKind.f32.format = Ieee.single := rfl
  rw [e0, hff] at hp
  have h2 : 0 < srung Ieee.single v := by
    rcases Int.lt_trichotomy (srung Ieee.single v) 0 with h | h | h
    · rw [cmp_of_lt h] at hp; cases hp
    · rw [Int.compare_eq_eq.2 h] at hp; cases hp
    · exact h
  unfold srung at h2
  cases hs : sgn Ieee.single v
  · rw [hs] at h2
    exact cvU_in h1 hs (by simpa using h2)
  · rw [hs] at h2
    simp at h2; omega
def tenI (v : Nat) : Int := ti (floorF (fop .add .f64 (fop .mul .f64 (logW (cvU v)) 4631308968768463603) half64))
/-! ### IsNaN -/
theorem c_IsNaN (v n : Nat) (w : World) (j : Nat) : Calls Try.prog 32 #[.float .f64 (pick .f64 v n)] (w.drewN j) (RetV (.bool (isN .f64 v)) w) := by
  go_enter Try.func32, Try.ntmps32
  go_wp2
  go_ret
  exact ⟨_, rfl, rfl⟩
/-! ### f64bits -/
@[go_sem] theorem e_f64bits (b : Nat) (w : World) : (callFunc 36 #[.float .f64 b]).run Try.prog w = .ok (.value (.int .u64 b)) w := by kernel_rfl
/-! ### f64from -/
@[go_sem] theorem e_f64from (n : Int) (w : World) : (callFunc 35 #[.int .u64 n]).run Try.prog w = .ok (.value (.float .f64 n.toNat)) w := by kernel_rfl
/-! ### Abs -/
theorem c_Abs (v n : Nat) (w : World) (j : Nat) (hv : v < 2 ^ FloatKind.f64.format.width) : Calls Try.prog 17 #[.float .f64 (pick .f64 v n)] (w.drewN j) (RetF .f64 (fabs .f64 v) w) := by
  have hb := abs_bits hv n
  go_enter Try.func17, Try.ntmps17
  go_wp2
  go_ret
  exact ⟨_, _, rfl, rfl⟩
/-! ### IsInf0 -/
theorem c_IsInf0 (v n : Nat) (w : World) (j : Nat) (hv : v < 2 ^ FloatKind.f64.format.width) : Calls Try.prog 33 #[.float .f64 (pick .f64 v n), .int .i64 0] (w.drewN j) (RetV (.bool (FloatKind.f64.format.order (fabs .f64 v) 9218868437227405311 == some .gt)) w) := by
  go_enter Try.func33, Try.ntmps33
  go_wp2_with ((go_at_call 17; refine (c_Abs _ _ _ _ hv).mono ?_; rintro _ _ ⟨_, _, rfl, rfl⟩))
  go_ret
  exact ⟨_, rfl, rfl⟩
/-! ### isFinite64 -/
theorem c_isFinite64 (v n : Nat) (w : World) (j : Nat) (hv : v < 2 ^ FloatKind.f64.format.width) : Calls Try.prog 15 #[.float .f64 (pick .f64 v n)] (w.drewN j) (RetV (.bool (finB .f64 v)) w) := by
  go_enter Try.func15, Try.ntmps15
  go_wp2_with (first | (go_at_call 32; refine (c_IsNaN _ _ _ _).mono ?_; rintro _ _ ⟨_, rfl, rfl⟩) | (go_at_call 33; refine (c_IsInf0 _ _ _ _ hv).mono ?_; rintro _ _ ⟨_, rfl, rfl⟩))
  all_goals
    go_ret
    refine ⟨_, ?_, rfl⟩
    rw [← abs_gt_max]
    simp [*]
/-! ### iIsFinite -/
theorem c_iIsFinite (v n : Nat) (w : World) (j : Nat) : Calls Try.prog 23 #[.float .f32 (pick .f32 v n)] (w.drewN j) (RetV (.bool (finB .f32 v)) w) := by
  go_enter Try.func23, Try.ntmps23
  go_wp2_with (first | (refine wpList_cvU rfl 28 22 _ rfl (Option.isSome_iff_exists.2 ⟨_, Try.underlying28⟩) Try.underlying22 _ rfl _ ?_; intro _ _) | (go_at_call 15; refine (c_isFinite64 _ _ _ _ (cvU_lt _)).mono ?_; rintro _ _ ⟨_, rfl, rfl⟩))
  go_ret
  rw [← finB_cvU]
  exact ⟨_, rfl, rfl⟩
/-! ### iTenths -/
theorem c_iTenths_no (v n : Nat) (w : World) (j : Nat) (h : finB .f32 v = false ∨ (finB .f32 v = true ∧ (FloatKind.f32.format.order v 0 == some .lt || FloatKind.f32.format.order v 0 == some .eq) = true)) : Calls Try.prog 10 #[.float .f32 (pick .f32 v n)] (w.drewN j) (RetV (.tuple #[.int .i64 0, .bool false]) w) := by
  rcases h with h | ⟨h, h2⟩
  all_goals
    go_enter Try.func10, Try.ntmps10
    go_wp2_with (first | (go_at_call 23; refine (c_iIsFinite _ _ _ _).mono ?_; rintro _ _ ⟨_, rfl, rfl⟩))
    go_ret2
    exact ⟨_, rfl, rfl⟩
theorem c_iTenths_yes (v n : Nat) (w : World) (j : Nat) (h : finB .f32 v = true) (h2 : (FloatKind.f32.format.order v 0 == some .lt || FloatKind.f32.format.order v 0 == some .eq) = false) : Calls Try.prog 10 #[.float .f32 (pick .f32 v n)] (w.drewN j) (RetV (.tuple #[.int .i64 (tenI v), .bool true]) w) := by
  have HR := Lib.hid (pos_fin h h2)
  obtain ⟨x, hx, hx1, hx2, hx3⟩ := tenths_int (logW_fb HR.out)
  have hp := pick_not hx1
  rw [hx] at hp hx1 hx2 hx3
  clear hx
  have HI := Lib.hid hx3
  have HN := Lib.hid hx1
  unfold half64 at hp
  clear hx1 hx2 hx3
  go_enter Try.func10, Try.ntmps10
  go_wp2_with (first | (first | (refine wpList_fop rfl _ _ _ _ _ rfl _ _ _ rfl rfl (by decide) _ ?_; intro _ _) | (refine upon_fop _ _ _ _ _ (by decide) ?_; intro _ _)) | (refine wpList_ftoi rfl 22 2 _ rfl (Option.isSome_iff_exists.2 ⟨_, Try.underlying22⟩) .i64 Try.underlying2 _ _ rfl (by exact HI.out) ?_) | (go_at_call 23; refine (c_iIsFinite _ _ _ _).mono ?_; rintro _ _ ⟨_, rfl, rfl⟩) | (go_at_call 25; refine (c_logOf _ _ _ _ _ rfl HR).mono ?_; rintro _ _ ⟨_, _, rfl, rfl⟩) | (go_at_call 24; refine (c_Floor _ _ _ HN.out).mono ?_; rintro _ _ ⟨_, rfl, rfl⟩))
  go_ret2
  exact ⟨_, rfl, rfl⟩
/-! ### logWide -/
theorem c_IsInf1 (v n : Nat) (w : World) (j : Nat) : Calls Try.prog 33 #[.float .f64 (pick .f64 v n), .int .i64 1] (w.drewN j) (RetV (.bool (FloatKind.f64.format.order v 9218868437227405311 == some .gt)) w) := by
  go_enter Try.func33, Try.ntmps33
  go_wp2_with fail
  go_ret
  exact ⟨_, rfl, rfl⟩
theorem c_logWide (V n0 : Nat) (w : World) (j : Nat) (HV : Hid (V < 18446744073709551616)) (H0 : Hid (InR 3936146074321813504 5183643171103440896 V))
    (hn : isN .f64 V = false) (h1 : (FloatKind.f64.format.order V 0 == some .lt) = false) (h2 : (FloatKind.f64.format.order V 0 == some .eq) = false) (h3 : (FloatKind.f64.format.order V 9218868437227405311 == some .gt) = false) : Calls Try.prog 38 #[.float .f64 (pick .f64 V n0)] (w.drewN j) (RetF .f64 (logW V) w) := by
  go_enter Try.func38, Try.ntmps38
  go_wp2_with (first | (first | (refine wpList_fop rfl _ _ _ _ _ rfl _ _ _ rfl rfl (by decide) _ ?_; intro _ _) | (refine upon_fop _ _ _ _ _ (by decide) ?_; intro _ _)) | (go_at_call 33; refine (c_IsInf1 _ _ _ _).mono ?_; rintro _ _ ⟨_, rfl, rfl⟩))
  go_loopw [0, 3] (fun xs es wr => ∃ (i n m x : Nat), xs = .float .f64 (pick .f64 x n) ∧ es = .int .i64 (i : Int) ∧ wr = w.drewN m ∧ Hid (x < 18446744073709551616) ∧ Up V x i) (fun xs _ _ => fbits xs)
  case atStart => exact ⟨0, _, _, V, rfl, rfl, rfl, HV, Up.zero H0.out⟩
  case round =>
    obtain ⟨i, n, m, x, rfl, rfl, rfl, HX, HU⟩ := hrel
    have hi := HU.few H0.out
    cases hg : ge15 x
    · have ht : (FloatKind.f64.format.order x 4609434218613702656 == some .gt || FloatKind.f64.format.order x 4609434218613702656 == some .eq) = false := hg
      have HX2 := Lib.hid (up_exit HU hg)
      clear hg
      go_wp2_with (first | (refine wpList_fop rfl _ _ _ _ _ rfl _ _ _ rfl rfl (by decide) _ ?_; intro _ _) | (refine upon_fop _ _ _ _ _ (by decide) ?_; intro _ _))
      obtain ⟨i1, hi1⟩ : ∃ i1, i1 = i := ⟨_, rfl⟩
      obtain ⟨x1, hx1⟩ : ∃ x1, x1 = x := ⟨_, rfl⟩
      have HX3 : Hid (InR 3936146074321813504 4609434218613702655 x1 ∧ upF 400 V 0 = (x1, (i1 : Int))) := by unfold Hid; rw [hi1, hx1]; exact HX2.out
      have HXx : Hid (x1 < 18446744073709551616) := by unfold Hid; rw [hx1]; exact HX.out
      have hi2 : i1 ≤ 277 := by omega
      rw [← hx1, ← hi1]
      clear hx1 hi1 HX2 HU hi
      go_loopw [0, 3] (fun xs es wr => ∃ (i n m x : Nat), xs = .float .f64 (pick .f64 x n) ∧ es = .int .i64 ((i1 : Int) - (i : Int)) ∧ wr = w.drewN m ∧ Hid (x < 18446744073709551616) ∧ Dn x1 x (i1 : Int) i) (fun xs _ _ => 18446744073709551616 - fbits xs)
      case atStart => exact ⟨0, _, _, x1, rfl, by simp, rfl, HXx, Dn.zero HX3.out.1⟩
      case round =>
        obtain ⟨i, n, m, x, rfl, rfl, rfl, HX, HD⟩ := hrel
        have hi := HD.few HX3.out.1
        cases hg : lt75 x
        · have ht : (FloatKind.f64.format.order x 4604930618986332160 == some .lt) = false := hg
          have HX4 := Lib.hid (dn_exit HD HX3.out.2 hg)
          clear hg
          go_wp2_with (first | (refine wpList_fop rfl _ _ _ _ _ rfl _ _ _ rfl rfl (by decide) _ ?_; intro _ _) | (refine upon_fop _ _ _ _ _ (by decide) ?_; intro _ _))
          generalize hs : fop .quo .f64 (fop .sub .f64 x 4607182418800017408) (fop .add .f64 x 4607182418800017408) = sv
          have Hs : Hid (sOf x = sv) := hs
          clear hs
          go_loopw [6, 7] (fun p k wr => ∃ (i n m : Nat) (kI : Int), i ≤ 13 ∧ Hid (kI = 25 - 2 * (i : Int)) ∧ p = .float .f64 (pick .f64 (lser (fop .mul .f64 sv sv) i) n) ∧ k = .int .i64 kI ∧ wr = w.drewN m) (fun _ k _ => (intOf k + 2).toNat)
          case atStart => exact ⟨0, 0, _, 25, by omega, rfl, by rw [pick_not (show isN .f64 (lser (fop .mul .f64 sv sv) 0) = false from (by decide +kernel : isN .f64 0 = false))]; rfl, rfl, rfl⟩
          case round =>
            obtain ⟨q, n, m, kI, hq, HK, rfl, rfl, rfl⟩ := hrel
            by_cases hlt : q < 13
            · have b1 : 1 ≤ kI := by have := HK.out; omega
              have b2 : kI ≤ 25 := by have := HK.out; omega
              have HD2 : Hid (odd25 q = floatOfInt .f64 kI) := by unfold Hid odd25; rw [HK.out]
              go_wp2_with (first | (refine wpList_fop rfl _ _ _ _ _ rfl _ _ _ rfl rfl (by decide) _ ?_; intro _ _) | (refine upon_fop _ _ _ _ _ (by decide) ?_; intro _ _))
              go_roundw
              case rel => exact ⟨q + 1, _, _, kI - 2, by omega, by have := HK.out; unfold Hid; omega, by rw [lser_step, HD2.out]; rfl, rfl, rfl⟩
              case measure => simp [intOf]; omega
            · obtain rfl : q = 13 := by omega
              have b1 : kI < 1 := by have := HK.out; omega
              have b2 : -1 ≤ kI := by have := HK.out; omega
              clear hlt
              go_wp2_with (first | (refine wpList_fop rfl _ _ _ _ _ rfl _ _ _ rfl rfl (by decide) _ ?_; intro _ _) | (refine upon_fop _ _ _ _ _ (by decide) ?_; intro _ _))
              go_ret
              have e : logW V = fop .add .f64 (fop .mul .f64 two64 (fop .mul .f64 sv (lser (fop .mul .f64 sv sv) 13))) (fop .mul .f64 (floatOfInt .f64 ((i1 : Int) - (i : Int))) ln2) := by
                unfold logW logE; rw [HX4.out, Hs.out]
              rw [e]
              exact ⟨_, _, rfl, rfl⟩
        · have ht : (FloatKind.f64.format.order x 4604930618986332160 == some .lt) = true := hg
          have HM := Lib.hid (HD.more HX.out hg)
          have HS := HD.step HX3.out.1 hg
          have HN := HS.notN
          have HL : Hid (fop .mul .f64 x two64 < 18446744073709551616) := fop_lt .mul .f64 x two64
          have hxn := HD.notN
          skip
          have HN2 := Lib.hid HN
          have HN3 := Lib.hid hxn
          clear hg HN hxn
          go_wp2_with (first | (refine wpList_fop rfl _ _ _ _ _ rfl _ _ _ rfl rfl (by decide) _ ?_; intro _ _) | (refine upon_fop _ _ _ _ _ (by decide) ?_; intro _ _))
          go_roundw
          case rel => exact ⟨i + 1, _, _, _, rfl, by rw [← esub], rfl, HL, HS⟩
          case measure =>
            have h1 := HM.out
            show 18446744073709551616 - pick .f64 (fop .mul .f64 x two64) _ < 18446744073709551616 - pick .f64 x _
            rw [pick_not HN2.out, pick_not HN3.out]
            generalize fop .mul .f64 x two64 = y at *
            omega
    · have ht : (FloatKind.f64.format.order x 4609434218613702656 == some .gt || FloatKind.f64.format.order x 4609434218613702656 == some .eq) = true := hg
      have HM := Lib.hid (HU.less HX.out hg)
      have HS := HU.step H0.out hg
      have HN := HS.notN
      have HL : Hid (fop .quo .f64 x two64 < 18446744073709551616) := fop_lt .quo .f64 x two64
      have hxn := HU.notN
      skip
      have HN2 := Lib.hid HN
      have HN3 := Lib.hid hxn
      clear hg HN hxn
      go_wp2_with (first | (refine wpList_fop rfl _ _ _ _ _ rfl _ _ _ rfl rfl (by decide) _ ?_; intro _ _) | (refine upon_fop _ _ _ _ _ (by decide) ?_; intro _ _))
      go_roundw
      case rel => exact ⟨i + 1, _, _, _, rfl, by go_num, rfl, HL, HS⟩
      case measure =>
        have h1 := HM.out
        show pick .f64 (fop .quo .f64 x two64) _ < pick .f64 x _
        rw [pick_not HN2.out, pick_not HN3.out]
        exact h1
/-! ### l01Finite -/
theorem c_l01Finite (v n : Nat) (w : World) (j : Nat) : Calls Try.prog 21 #[.float .f32 (pick .f32 v n)] (w.drewN j) (RetV (.bool (finB .f32 v)) w) := by
  go_enter Try.func21, Try.ntmps21
  go_wp2_with (first | (refine wpList_fop rfl _ _ _ _ _ rfl _ _ _ rfl rfl (by decide) _ ?_; intro _ _) | (refine upon_fop _ _ _ _ _ (by decide) ?_; intro _ _))
  go_ret
  rw [← sub_self_zero]
  exact ⟨_, rfl, rfl⟩
/-! ### sTenths -/
theorem c_l01Tenths (v n : Nat) (w : World) (j : Nat) (h : finB .f32 v = true) (h2 : (FloatKind.f32.format.order v 0 == some .lt || FloatKind.f32.format.order v 0 == some .eq) = false) : Calls Try.prog 22 #[.float .f32 (pick .f32 v n)] (w.drewN j) (RetV (.int .i64 (tenI v)) w) := by
  have HR := Lib.hid (pos_fin h h2)
  obtain ⟨x, hx, hx1, hx2, hx3⟩ := tenths_int (logW_fb HR.out)
  have hp := pick_not hx1
  rw [hx] at hp hx1 hx2 hx3
  clear hx
  have HI := Lib.hid hx3
  have HN := Lib.hid hx1
  have HT := Lib.hid (pos_tests HR.out)
  have HM := Lib.hid (max_not HR.out)
  have HV : Hid (cvU v < 18446744073709551616) := cvU_lt v
  have HNN : Hid (isN .f64 (cvU v) = false) := by unfold Hid; rw [isN_cvU]; exact notN_fin (k := .f32) (of_decide_eq_true h)
  unfold half64 at hp
  clear hx1 hx2 hx3
  go_enter Try.func22, Try.ntmps22
  go_wp2_with (first | (refine wpList_cvU rfl 28 22 _ rfl (Option.isSome_iff_exists.2 ⟨_, Try.underlying28⟩) Try.underlying22 _ rfl _ ?_; intro _ _) | (first | (refine wpList_fop rfl _ _ _ _ _ rfl _ _ _ rfl rfl (by decide) _ ?_; intro _ _) | (refine upon_fop _ _ _ _ _ (by decide) ?_; intro _ _)) | (refine wpList_ftoi rfl 22 2 _ rfl (Option.isSome_iff_exists.2 ⟨_, Try.underlying22⟩) .i64 Try.underlying2 _ _ rfl (by exact HI.out) ?_) | (go_at_call 38; refine (c_logWide _ _ _ _ HV HR HNN.out HT.out.1 HT.out.2 HM.out).mono ?_; rintro _ _ ⟨_, _, rfl, rfl⟩) | (go_at_call 24; refine (c_Floor _ _ _ HN.out).mono ?_; rintro _ _ ⟨_, rfl, rfl⟩))
  go_ret
  exact ⟨_, rfl, rfl⟩
theorem c_sTenths_no (v n : Nat) (w : World) (j : Nat) (h : finB .f32 v = false ∨ (finB .f32 v = true ∧ (FloatKind.f32.format.order v 0 == some .lt || FloatKind.f32.format.order v 0 == some .eq) = true)) : Calls Try.prog 9 #[.float .f32 (pick .f32 v n)] (w.drewN j) (RetV (.tuple #[.int .i64 0, .bool false]) w) := by
  rcases h with h | ⟨h, h2⟩
  all_goals
    go_enter Try.func9, Try.ntmps9
    go_wp2_with (first | (go_at_call 21; refine (c_l01Finite _ _ _ _).mono ?_; rintro _ _ ⟨_, rfl, rfl⟩))
    go_ret2
    exact ⟨_, rfl, rfl⟩
theorem c_sTenths_yes (v n : Nat) (w : World) (j : Nat) (h : finB .f32 v = true) (h2 : (FloatKind.f32.format.order v 0 == some .lt || FloatKind.f32.format.order v 0 == some .eq) = false) : Calls Try.prog 9 #[.float .f32 (pick .f32 v n)] (w.drewN j) (RetV (.tuple #[.int .i64 (tenI v), .bool true]) w) := by
  go_enter Try.func9, Try.ntmps9
  go_wp2_with (first | (go_at_call 21; refine (c_l01Finite _ _ _ _).mono ?_; rintro _ _ ⟨_, rfl, rfl⟩) | (go_at_call 22; refine (c_l01Tenths _ _ _ _ h h2).mono ?_; rintro _ _ ⟨_, rfl, rfl⟩))
  go_ret2
  exact ⟨_, rfl, rfl⟩
/-! ### FnExactTenthsOf -/
theorem walk (v n : Nat) (w : World) (hv : v < 2 ^ FloatKind.f32.format.width) : Calls Try.prog 4 #[.float .f32 (pick .f32 v n)] w fun e w' => e = .returned (.bool true) ∧ Below w.heap.size w w' := by
  rw [← w.drewN_zero]
  by_cases hc : finB .f32 v = false ∨ (finB .f32 v = true ∧ (FloatKind.f32.format.order v 0 == some .lt || FloatKind.f32.format.order v 0 == some .eq) = true)
  · go_enter Try.func4, Try.ntmps4
    go_wp2_with (first | (go_at_call 9; refine (c_sTenths_no _ _ _ _ hc).mono ?_; rintro _ _ ⟨_, rfl, rfl⟩) | (go_at_call 10; refine (c_iTenths_no _ _ _ _ hc).mono ?_; rintro _ _ ⟨_, rfl, rfl⟩))
    go_ret
    exact ⟨rfl, below_drewN (Below.refl _ _) _⟩
  · have h1 : finB .f32 v = true := by
      cases h : finB .f32 v
      · exact absurd (.inl h) hc
      · rfl
    have h2 : (FloatKind.f32.format.order v 0 == some .lt || FloatKind.f32.format.order v 0 == some .eq) = false := by
      cases h : (FloatKind.f32.format.order v 0 == some .lt || FloatKind.f32.format.order v 0 == some .eq)
      · rfl
      · exact absurd (.inr ⟨h1, h⟩) hc
    clear hc
    have H1 := Lib.hid h1
    have H2 := Lib.hid h2
    clear h1 h2
    go_enter Try.func4, Try.ntmps4
    go_wp2_with (first | (go_at_call 9; refine (c_sTenths_yes _ _ _ _ H1.out H2.out).mono ?_; rintro _ _ ⟨_, rfl, rfl⟩) | (go_at_call 10; refine (c_iTenths_yes _ _ _ _ H1.out H2.out).mono ?_; rintro _ _ ⟨_, rfl, rfl⟩))
    go_ret
    exact ⟨rfl, below_drewN (Below.refl _ _) _⟩

theorem own : ownKnob Try.prog.godebug = none := by kernel_rfl
theorem laidOut : laidOutB Try.prog = true := by kernel_rfl
set_option maxRecDepth 100000 in
theorem lifted (os : Os) (started : os.Started) (H : Type) (enc : TypeId × Value → H) :
    ReturnsInHanded {} Try.checked os 4 .any (Rows.fnExactTenthsOfSpec.pre6 enc Try.prog Try.f4 Rows.fnExactTenthsOfRow.domain false) (Rows.fnExactTenthsOfSpec.post enc Try.prog Try.f4 false true false false) := by
  refine returnsInHanded_of_change (C := Try.checked) own started (by kernel_rfl) Try.func4
    (ChangeSpec.witness6 (enc := enc) (C := Try.checked) false ⟨#[], #[.float .f32 0], []⟩ 8 (by kernel_rfl) (by kernel_rfl) (by kernel_rfl) (by kernel_rfl)) ?_
  intro W base args ds gs before hval0 hW hcnd _
  have hval : ∀ (j : Nat) t v, Try.f4.params[j]? = some t → args[j]? = some v → Value.okWide Try.prog W .any base t v := hval0
  have hW' := hW
  obtain ⟨p, q, hA0, hV, rfl, hfz, hnd⟩ := hW
  have hA : DataW.TrodAll enc Try.prog W 0 (fun _ => true) true Try.f4.params.toList args.toList ds p := hA0
  rw [Try.params4] at hA hval
  obtain ⟨v0, vs0, d0, ds0, p0, q0, hargs, rfl, rfl, h0, r0⟩ := trodAll_cons hA
  obtain ⟨rfl, rfl, rfl⟩ := trodAll_nil r0
  obtain rfl : args = #[v0] := by cases args; simp_all
  obtain ⟨rfl, rfl⟩ := trodVars_none hV
  obtain ⟨b0, rfl, rfl, rfl, w0⟩ := open_float Try.underlying28 (hval 0 28 v0 rfl rfl) h0
  obtain ⟨n0, en0⟩ := pick_onto .f32 b0 (lt_of_wf w0)
  clear hA0 hval0
  have hcall0 := en0
  have hw0 : Calls Try.prog 4 #[.float .f32 b0] W fun e w' => e = .returned (.bool true) ∧ Below W.heap.size W w' := by
    rw [en0]
    exact walk b0 n0 W (lt_of_wf w0)
  refine hw0.mono fun e W' ⟨he, bel⟩ => ?_
  subst he
  exact ⟨_, rfl, _, _, _, [], _, [], hW', trodAll_mk1 (shut_bool Try.underlying4 _), (trodAll_cons_mk (shut_float Try.underlying28 w0) trodAll_mk0), rfl, bel.frame _, fun h => by cases h⟩

theorem over : Rows.fnExactTenthsOfRow.holds Try.pinned (OpenSpec.ofChange Rows.fnExactTenthsOfSpec) :=
  OpenClaim.holds_of_wide 4 Try.f4 rfl rfl rfl rfl rfl rfl rfl ⟨rfl, rfl, rfl, rfl, rfl⟩ rfl rfl rfl rfl rfl (by kernel_rfl) Try.func4 (by kernel_rfl)
    (of_decide_eq_true (by kernel_rfl)) (by unfold Func.isWrapper; first | (rw [if_pos (by decide +kernel)]; kernel_rfl) | (rw [if_neg (by decide +kernel)]; exact ⟨rfl, rfl⟩))
    (fun os started H enc _ => lifted os started H enc)

theorem proved : Rows.FnExactTenthsOfSaid := over
#print axioms proved

end Go.Proofs.Ytfohhljadpchgad.fnExactTenthsOf

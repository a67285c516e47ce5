/-
  FnExactTiltSphere: for every input this law of the program returns true, and each argument reads as before. No condition.
-/
import Derived.Test.YtmngedfibmnohabRows
import Derived.Test.YtmngedfibmnohabLFnExactTiltSphereA
import Derived.Test.YtmngedfibmnohabRow
import Derived.Test.YtmngedfibmnohabLg
import Derived.Test.YtmngedfibmnohabCx
import Derived.Test.YtmngedfibmnohabTi
import Derived.Test.YtmngedfibmnohabMn
import Derived.Test.YtmngedfibmnohabLv
import Derived.Test.YtmngedfibmnohabOw
import Derived.Test.YtmngedfibmnohabAp
import Derived.ProofKit
import Derived.OpenShut
import Derived.ShutString
import Derived.ChangeOld
import Derived.Below
import Derived.Lib.Hide
import Derived.Outline
import Derived.Deep.RegionHeld3
import Derived.Deep.DeepCutAuto
set_option linter.unusedSimpArgs false
set_option linter.unusedVariables false
set_option exponentiation.threshold 2000
set_option maxRecDepth 20000
set_option maxHeartbeats 4000000
namespace Go.Proofs.Ytmngedfibmnohab.fnExactTiltSphere
open Go Go.Proofs.Ytmngedfibmnohab Go.Proofs
open Go.ChangeShapes Go.WideShapes Go.ChangeAt Go.RowKit
open Go.ChangeMaps (open_string shut_string)
/-! ### l06Finite -/
theorem c_l06Finite (r n g m b k : Nat) (w : World) : Calls Try.prog 135 #[.agg #[.float .f32 (pick .f32 r n), .float .f32 (pick .f32 g m), .float .f32 (pick .f32 b k)]] w (RetB (.bool (colB r g b)) w) := by
  unfold colB
  generalize hw0 : w.alloc (Obj.cells #[.float .f32 (pick .f32 r n), .float .f32 (pick .f32 g m), .float .f32 (pick .f32 b k)] 36) = w0
  have X0 : Var w0 w.heap.size #[.float .f32 (pick .f32 r n), .float .f32 (pick .f32 g m), .float .f32 (pick .f32 b k)] := by subst hw0; exact Var.new _ _ _
  have X1 : Below w.heap.size w w0 := by subst hw0; exact (Below.refl _ _).alloc (Nat.le_refl _) _
  have SZ := Lib.hid (show w0.heap.size = w.heap.size + 1 from by subst hw0; simp)
  have HW := Lib.hid hw0
  have B0 := Lib.hid X1
  have V0 := Lib.hid X0
  obtain ⟨q0, q1, q2⟩ := X0.three
  clear hw0 X0 X1
  go_enter Try.func135, Try.ntmps135
  go_wp2_with fail
  rw [HW.out, ← w0.drewN_zero]
  go_wp2_with ((go_at_call 64; refine (c_l01Finite _ _ _ _).mono ?_; rintro _ _ ⟨_, rfl, rfl⟩))
  all_goals (go_ret; exact ⟨by simp [*], below_drewN B0.out _⟩)
/-! ### l06Is -/
theorem c_l06Is (r n g m b k : Nat) (w : World) : Calls Try.prog 110 #[.agg #[.float .f32 (pick .f32 r n), .float .f32 (pick .f32 g m), .float .f32 (pick .f32 b k)]] w (RetB (.bool (wayB r g b)) w) := by
  have CF := Lib.hid (fun w => c_l06Finite r n g m b k w)
  unfold wayB
  generalize colB r g b = q at *
  generalize hw0 : w.alloc (Obj.cells #[.float .f32 (pick .f32 r n), .float .f32 (pick .f32 g m), .float .f32 (pick .f32 b k)] 36) = w0
  have X0 : Var w0 w.heap.size #[.float .f32 (pick .f32 r n), .float .f32 (pick .f32 g m), .float .f32 (pick .f32 b k)] := by subst hw0; exact Var.new _ _ _
  have X1 : Below w.heap.size w w0 := by subst hw0; exact (Below.refl _ _).alloc (Nat.le_refl _) _
  have SZ := Lib.hid (show w0.heap.size = w.heap.size + 1 from by subst hw0; simp)
  have HW := Lib.hid hw0
  have B0 := Lib.hid X1
  have V0 := Lib.hid X0
  obtain ⟨q0, q1, q2⟩ := X0.three
  clear hw0 X0 X1
  unfold nzB
  cases h1 : (FloatKind.f32.format.order r 0 != some .eq) <;> cases h2 : (FloatKind.f32.format.order g 0 != some .eq) <;> cases h3 : (FloatKind.f32.format.order b 0 != some .eq) <;> cases q
  all_goals
    go_enter Try.func110, Try.ntmps110
    go_wp2_with fail
    rw [HW.out]
    go_wp2_with fail
    refine (CF.out _).mono ?_
    rintro _ w1 ⟨rfl, b1⟩
    have B1 := Lib.hid (B0.out.trans (b1.mono B0.out.size))
    have V1 := Lib.hid (V0.out.keep b1)
    clear b1 q0 q1 q2
    obtain ⟨q0, q1, q2⟩ := V1.out.three
    go_wp2_with fail
    go_ret
    exact ⟨rfl, B1.out⟩
/-! ### l06Give -/
theorem c_l06Give (ar an ag am ab ak : Nat) (w : World) (har : ar < 2 ^ FloatKind.f32.format.width) (hag : ag < 2 ^ FloatKind.f32.format.width) (hab : ab < 2 ^ FloatKind.f32.format.width) : Calls Try.prog 111 #[.agg #[.float .f32 (pick .f32 ar an), .float .f32 (pick .f32 ag am), .float .f32 (pick .f32 ab ak)]] w (WayB2 (giveW (ar, ag, ab)) w) := by
  generalize hw0 : (w.alloc (Obj.cells #[.float .f32 (pick .f32 ar an), .float .f32 (pick .f32 ag am), .float .f32 (pick .f32 ab ak)] 36)).alloc (Obj.cells #[.float .f32 0, .float .f32 0, .float .f32 0] 36) = w0
  have Va_0 := Lib.hid (show Var w0 (w.heap.size) #[.float .f32 (pick .f32 ar an), .float .f32 (pick .f32 ag am), .float .f32 (pick .f32 ab ak)] from by subst hw0; exact ((Var.new' _ _ _ _ (by first | rfl | simp)).alloc _))
  have Vz_0 := Lib.hid (show Var w0 (w.heap.size + 1) #[.float .f32 0, .float .f32 0, .float .f32 0] from by subst hw0; exact (Var.new' _ _ _ _ (by first | rfl | simp)))
  have F_0 := Lib.hid (show Free w0 (w.heap.size + 1) from by subst hw0; exact Free.new' _ _ _ _ (by first | rfl | simp))
  have B_0 := Lib.hid (show Below w.heap.size w w0 from by subst hw0; exact (((Below.refl _ _).alloc (Nat.le_refl _) _).alloc (by simp) _))
  have SZ := Lib.hid (show w0.heap.size = w.heap.size + 2 from by subst hw0; simp)
  have HW := Lib.hid hw0
  clear hw0
  have CF := Lib.hid (fun w => c_l06Is ar an ag am ab ak w)
  cases hq : wayB ar ag ab
  all_goals rw [hq] at CF
  · obtain ⟨ca0, ca1, ca2⟩ := Va_0.out.three
    obtain ⟨cz0, cz1, cz2⟩ := Vz_0.out.three
    have f0 := F_0.out 0
    have f1 := F_0.out 1
    have f2 := F_0.out 2
    go_enter Try.func111, Try.ntmps111
    go_wp2_with fail
    rw [HW.out]
    go_wp2_with fail
    refine (CF.out _).mono ?_
    rintro _ w1 ⟨rfl, b⟩
    have Va_1 := Lib.hid (Va_0.out.keep b)
    have Vz_1 := Lib.hid (Vz_0.out.keep b)
    have F_1 := Lib.hid (F_0.out.below Vz_0.out.lt b)
    have B_1 := Lib.hid (B_0.out.trans (b.mono B_0.out.size))
    clear ca0 ca1 ca2 cz0 cz1 cz2 f0 f1 f2
    clear Va_0 Vz_0 F_0 B_0 b
    obtain ⟨ca0, ca1, ca2⟩ := Va_1.out.three
    obtain ⟨cz0, cz1, cz2⟩ := Vz_1.out.three
    have f0 := F_1.out 0
    have f1 := F_1.out 1
    have f2 := F_1.out 2
    go_wp2_with fail
    refine bodyPost_ret (v := .tuple #[.agg #[.float .f32 0, .float .f32 0, .float .f32 0], .bool false]) (by simp [results, Try.results111, cz0, cz1, cz2, go_sem]) rfl ?_
    rw [giveW_lt_no hq]; refine WayB2.no rfl ?_
    repeat (first | exact B_1.out | exact Nat.le_refl _ | (refine Below.setCell ?_ ?_ _) | (refine below_drewN ?_ _) | (refine Below.alloc ?_ ?_ _) | (simp <;> omega))
  · obtain ⟨ca0, ca1, ca2⟩ := Va_0.out.three
    obtain ⟨cz0, cz1, cz2⟩ := Vz_0.out.three
    have f0 := F_0.out 0
    have f1 := F_0.out 1
    have f2 := F_0.out 2
    go_enter Try.func111, Try.ntmps111
    go_wp2_with fail
    rw [HW.out]
    go_wp2_with fail
    refine (CF.out _).mono ?_
    rintro _ w1 ⟨rfl, b⟩
    have Va_1 := Lib.hid (Va_0.out.keep b)
    have Vz_1 := Lib.hid (Vz_0.out.keep b)
    have F_1 := Lib.hid (F_0.out.below Vz_0.out.lt b)
    have B_1 := Lib.hid (B_0.out.trans (b.mono B_0.out.size))
    clear ca0 ca1 ca2 cz0 cz1 cz2 f0 f1 f2
    clear Va_0 Vz_0 F_0 B_0 b
    obtain ⟨ca0, ca1, ca2⟩ := Va_1.out.three
    obtain ⟨cz0, cz1, cz2⟩ := Vz_1.out.three
    have f0 := F_1.out 0
    have f1 := F_1.out 1
    have f2 := F_1.out 2
    go_wp2_with fail
    refine bodyPost_ret (v := .tuple #[.agg #[.float .f32 (pick .f32 ar an), .float .f32 (pick .f32 ag am), .float .f32 (pick .f32 ab ak)], .bool true]) (by simp [results, Try.results111, cz0, cz1, cz2, go_sem]) rfl ?_
    rw [giveW_yes hq]; refine ⟨_, _, _, rfl, ?_⟩
    repeat (first | exact B_1.out | exact Nat.le_refl _ | (refine Below.setCell ?_ ?_ _) | (refine below_drewN ?_ _) | (refine Below.alloc ?_ ?_ _) | (simp <;> omega))
/-! ### l06Tilt -/
theorem c_l06Tilt (ar an ag am ab ak : Nat) (c q s l : Nat) (w : World) : Calls Try.prog 117 #[.agg #[.float .f32 (pick .f32 ar an), .float .f32 (pick .f32 ag am), .float .f32 (pick .f32 ab ak)], .float .f32 (pick .f32 c q), .float .f32 (pick .f32 s l)] w (WayR (tilT ar ag ab c s) w) := by
  generalize hw0 : (w.alloc (Obj.cells #[.float .f32 (pick .f32 ar an), .float .f32 (pick .f32 ag am), .float .f32 (pick .f32 ab ak)] 36)).alloc (Obj.cells #[.float .f32 0, .float .f32 0, .float .f32 0] 36) = w0
  have Va_0 := Lib.hid (show Var w0 (w.heap.size) #[.float .f32 (pick .f32 ar an), .float .f32 (pick .f32 ag am), .float .f32 (pick .f32 ab ak)] from by subst hw0; exact ((Var.new' _ _ _ _ (by first | rfl | simp)).alloc _))
  have Vz_0 := Lib.hid (show Var w0 (w.heap.size + 1) #[.float .f32 0, .float .f32 0, .float .f32 0] from by subst hw0; exact (Var.new' _ _ _ _ (by first | rfl | simp)))
  have F_0 := Lib.hid (show Free w0 (w.heap.size + 1) from by subst hw0; exact Free.new' _ _ _ _ (by first | rfl | simp))
  have B_0 := Lib.hid (show Below w.heap.size w w0 from by subst hw0; exact (((Below.refl _ _).alloc (Nat.le_refl _) _).alloc (by simp) _))
  have SZ := Lib.hid (show w0.heap.size = w.heap.size + 2 from by subst hw0; simp)
  have HW := Lib.hid hw0
  clear hw0
  unfold tilT lessV sumV
  obtain ⟨ca0, ca1, ca2⟩ := Va_0.out.three
  obtain ⟨cz0, cz1, cz2⟩ := Vz_0.out.three
  have f0 := F_0.out 0
  have f1 := F_0.out 1
  have f2 := F_0.out 2
  go_enter Try.func117, Try.ntmps117
  go_wp2_with fail
  rw [HW.out]
  rw [← w0.drewN_zero]
  go_wp2_with (first | (refine wpList_fop rfl _ _ _ _ _ rfl _ _ _ rfl rfl (by decide) _ ?_; intro _ _) | (refine upon_fop _ _ _ _ _ (by decide) ?_; intro _ _))
  refine bodyPost_ret (by simp [results, Try.results117, cz0, cz1, cz2, go_sem]; exact ⟨rfl, rfl, rfl⟩) rfl ⟨_, _, _, rfl, ?_⟩
  repeat (first | exact B_0.out | exact Nat.le_refl _ | (refine Below.setCell ?_ ?_ _) | (refine below_drewN ?_ _) | (refine Below.alloc ?_ ?_ _) | (simp <;> omega))
/-! ### sTiltWay -/
theorem c_sTiltWay (ar an ag am ab ak : Nat) (t tn : Nat) (w : World) (har : ar < 2 ^ FloatKind.f32.format.width) (hag : ag < 2 ^ FloatKind.f32.format.width) (hab : ab < 2 ^ FloatKind.f32.format.width) (ht : t < 2 ^ FloatKind.f32.format.width) : Calls Try.prog 70 #[.agg #[.float .f32 (pick .f32 ar an), .float .f32 (pick .f32 ag am), .float .f32 (pick .f32 ab ak)], .float .f32 (pick .f32 t tn)] w (WayB2 (tiltW ar ag ab t) w) := by
  generalize hw0 : (w.alloc (Obj.cells #[.float .f32 (pick .f32 ar an), .float .f32 (pick .f32 ag am), .float .f32 (pick .f32 ab ak)] 36)).alloc (Obj.cells #[.float .f32 0, .float .f32 0, .float .f32 0] 36) = w0
  have Va_0 := Lib.hid (show Var w0 (w.heap.size) #[.float .f32 (pick .f32 ar an), .float .f32 (pick .f32 ag am), .float .f32 (pick .f32 ab ak)] from by subst hw0; exact ((Var.new' _ _ _ _ (by first | rfl | simp)).alloc _))
  have Vz_0 := Lib.hid (show Var w0 (w.heap.size + 1) #[.float .f32 0, .float .f32 0, .float .f32 0] from by subst hw0; exact (Var.new' _ _ _ _ (by first | rfl | simp)))
  have F_0 := Lib.hid (show Free w0 (w.heap.size + 1) from by subst hw0; exact Free.new' _ _ _ _ (by first | rfl | simp))
  have B_0 := Lib.hid (show Below w.heap.size w w0 from by subst hw0; exact (((Below.refl _ _).alloc (Nat.le_refl _) _).alloc (by simp) _))
  have SZ := Lib.hid (show w0.heap.size = w.heap.size + 2 from by subst hw0; simp)
  have HW := Lib.hid hw0
  clear hw0
  obtain ⟨res, hres⟩ : ∃ q, q = tiltW ar ag ab t := ⟨_, rfl⟩
  rw [← hres]
  have CQ := Lib.hid (fun w => c_l06Is ar an ag am ab ak w)
  have CG := Lib.hid (fun n m k w => c_l06Give (ar) n (lessV (cosT t) ag (sineT t) ab) m (sumV (sineT t) ag (cosT t) ab) k w har (fop_lt _ _ _ _) (fop_lt _ _ _ _))
  have CT := Lib.hid (fun q l w => c_l06Tilt ar an ag am ab ak (cosT t) q (sineT t) l w)
  cases hq : wayB ar ag ab
  all_goals rw [hq] at CQ
  · have RES := Lib.hid (hres.trans (turnW_no (t := t) (.inl hq)).2)
    obtain ⟨ca0, ca1, ca2⟩ := Va_0.out.three
    obtain ⟨cz0, cz1, cz2⟩ := Vz_0.out.three
    have f0 := F_0.out 0
    have f1 := F_0.out 1
    have f2 := F_0.out 2
    go_enter Try.func70, Try.ntmps70
    go_wp2_with fail
    rw [HW.out]
    go_wp2_with fail
    refine (CQ.out _).mono ?_
    rintro _ w1 ⟨rfl, b⟩
    have Va_1 := Lib.hid (Va_0.out.keep b)
    have Vz_1 := Lib.hid (Vz_0.out.keep b)
    have F_1 := Lib.hid (F_0.out.below Vz_0.out.lt b)
    have B_1 := Lib.hid (B_0.out.trans (b.mono B_0.out.size))
    clear ca0 ca1 ca2 cz0 cz1 cz2 f0 f1 f2
    clear Va_0 Vz_0 F_0 B_0 b
    obtain ⟨ca0, ca1, ca2⟩ := Va_1.out.three
    obtain ⟨cz0, cz1, cz2⟩ := Vz_1.out.three
    have f0 := F_1.out 0
    have f1 := F_1.out 1
    have f2 := F_1.out 2
    go_wp2_with fail
    refine bodyPost_ret (v := .tuple #[.agg #[.float .f32 0, .float .f32 0, .float .f32 0], .bool false]) (by simp [results, Try.results70, cz0, cz1, cz2, go_sem]) rfl ?_
    rw [RES.out]; refine WayB2.no rfl ?_
    repeat (first | exact B_1.out | exact Nat.le_refl _ | (refine Below.setCell ?_ ?_ _) | (refine below_drewN ?_ _) | (refine Below.alloc ?_ ?_ _) | (simp <;> omega))
  · have CF := Lib.hid (fun w k j => c_l01Finite t k w j)
    cases hf : finB .f32 t
    all_goals rw [hf] at CF
    · have RES := Lib.hid (hres.trans (turnW_no (.inr hf)).2)
      obtain ⟨ca0, ca1, ca2⟩ := Va_0.out.three
      obtain ⟨cz0, cz1, cz2⟩ := Vz_0.out.three
      have f0 := F_0.out 0
      have f1 := F_0.out 1
      have f2 := F_0.out 2
      go_enter Try.func70, Try.ntmps70
      go_wp2_with fail
      rw [HW.out]
      go_wp2_with fail
      refine (CQ.out _).mono ?_
      rintro _ w1 ⟨rfl, b⟩
      have Va_1 := Lib.hid (Va_0.out.keep b)
      have Vz_1 := Lib.hid (Vz_0.out.keep b)
      have F_1 := Lib.hid (F_0.out.below Vz_0.out.lt b)
      have B_1 := Lib.hid (B_0.out.trans (b.mono B_0.out.size))
      clear ca0 ca1 ca2 cz0 cz1 cz2 f0 f1 f2
      clear Va_0 Vz_0 F_0 B_0 b
      obtain ⟨ca0, ca1, ca2⟩ := Va_1.out.three
      obtain ⟨cz0, cz1, cz2⟩ := Vz_1.out.three
      have f0 := F_1.out 0
      have f1 := F_1.out 1
      have f2 := F_1.out 2
      rw [← w1.drewN_zero]
      go_wp2_with (go_at_call 64; refine (CF.out _ _ _).mono ?_; rintro _ _ ⟨_, rfl, rfl⟩)
      refine bodyPost_ret (v := .tuple #[.agg #[.float .f32 0, .float .f32 0, .float .f32 0], .bool false]) (by simp [results, Try.results70, cz0, cz1, cz2, go_sem]) rfl ?_
      rw [RES.out]; refine WayB2.no rfl ?_
      repeat (first | exact B_1.out | exact Nat.le_refl _ | (refine Below.setCell ?_ ?_ _) | (refine below_drewN ?_ _) | (refine Below.alloc ?_ ?_ _) | (simp <;> omega))
    · have RES := Lib.hid (hres.trans (show tiltW ar ag ab t = giveW (ar, lessV (cosT t) ag (sineT t) ab, sumV (sineT t) ag (cosT t) ab) from by unfold tiltW; rw [hq, hf]; rfl))
      generalize giveW (ar, lessV (cosT t) ag (sineT t) ab, sumV (sineT t) ag (cosT t) ab) = z at CG RES
      obtain ⟨ca0, ca1, ca2⟩ := Va_0.out.three
      obtain ⟨cz0, cz1, cz2⟩ := Vz_0.out.three
      have f0 := F_0.out 0
      have f1 := F_0.out 1
      have f2 := F_0.out 2
      go_enter Try.func70, Try.ntmps70
      go_wp2_with fail
      rw [HW.out]
      go_wp2_with fail
      refine (CQ.out _).mono ?_
      rintro _ w1 ⟨rfl, b⟩
      have Va_1 := Lib.hid (Va_0.out.keep b)
      have Vz_1 := Lib.hid (Vz_0.out.keep b)
      have F_1 := Lib.hid (F_0.out.below Vz_0.out.lt b)
      have B_1 := Lib.hid (B_0.out.trans (b.mono B_0.out.size))
      clear ca0 ca1 ca2 cz0 cz1 cz2 f0 f1 f2
      clear Va_0 Vz_0 F_0 B_0 b
      obtain ⟨ca0, ca1, ca2⟩ := Va_1.out.three
      obtain ⟨cz0, cz1, cz2⟩ := Vz_1.out.three
      have f0 := F_1.out 0
      have f1 := F_1.out 1
      have f2 := F_1.out 2
      rw [← w1.drewN_zero]
      go_wp2_with (go_at_call 64; refine (CF.out _ _ _).mono ?_; rintro _ _ ⟨_, rfl, rfl⟩)
      generalize hw2 : World.drewN w1 _ = w2
      have b : Below w1.heap.size w1 w2 := by subst hw2; exact below_drewN (Below.refl _ _) _
      clear ca0 ca1 ca2 cz0 cz1 cz2 f0 f1 f2
      have Va_2 := Lib.hid (Va_1.out.keep b)
      have Vz_2 := Lib.hid (Vz_1.out.keep b)
      have F_2 := Lib.hid (F_1.out.below Vz_1.out.lt b)
      have B_2 := Lib.hid (B_1.out.trans (b.mono B_1.out.size))
      clear Va_1 Vz_1 F_1 B_1 b hw2
      have KS := Lib.hid (fun (w' : World) (hE : Below w2.heap.size w2 w') => (⟨(Va_2.out.keep hE).three.1, (Va_2.out.keep hE).three.2.1, (Va_2.out.keep hE).three.2.2⟩ : _ ∧ _ ∧ _))
      refine wp_region_facts 9 (fun a b => Below a.heap.size a b) (fun _ => Below.refl _ _) (fun _ _ _ h h' => h.trans (h'.mono h.size)) (Below.refl _ _).drew (by kernel_rfl) (by kernel_rfl) (by kernel_rfl) (by kernel_rfl) ?_
      simp only [List.take_succ_cons, List.take_zero, List.drop_succ_cons, List.drop_zero]
      (with_reducible apply wpF_val); (focus (intro vs w' hE hk; (obtain ⟨d0, d1, d2⟩ := KS.out w' hE); go_simp; exact ⟨Below.refl _ _, rfl⟩)); (simp only [Act.put, List.setIfInBounds_toArray, List.set_cons_zero, List.set_cons_succ, List.cons_append, List.nil_append])
      (with_reducible apply wpF_val); (focus (intro vs w' hE hk; (obtain ⟨d0, d1, d2⟩ := KS.out w' hE); go_simp; exact ⟨Below.refl _ _, rfl⟩)); (simp only [Act.put, List.setIfInBounds_toArray, List.set_cons_zero, List.set_cons_succ, List.cons_append, List.nil_append])
      refine wpF_fact (fun u _ => ∃ m, u = .float .f32 (pick .f32 (cosT t) m)) (fun _ _ _ h _ => h) (fun vs w' hE hk => ?_) ?_; (focus (go_simp; refine (c_l06Cosine0 t tn _).mono ?_; rintro _ _ ⟨m1, m2, rfl, rfl⟩; exact ⟨_, rfl, below_drewN (Below.refl _ _) _, m1, rfl⟩)); (simp only [Act.put, List.setIfInBounds_toArray, List.set_cons_zero, List.set_cons_succ, List.cons_append, List.nil_append])
      (with_reducible apply wpF_val); (focus (intro vs w' hE hk; (obtain ⟨d0, d1, d2⟩ := KS.out w' hE); go_simp; exact ⟨Below.refl _ _, rfl⟩)); (simp only [Act.put, List.setIfInBounds_toArray, List.set_cons_zero, List.set_cons_succ, List.cons_append, List.nil_append])
      refine wpF_fact (fun u _ => ∃ m, u = .float .f32 (pick .f32 (sineT t) m)) (fun _ _ _ h _ => h) (fun vs w' hE hk => ?_) ?_; (focus (go_simp; refine (c_l01Sine0 t tn _ ht).mono ?_; rintro _ _ ⟨m1, m2, rfl, rfl⟩; exact ⟨_, rfl, below_drewN (Below.refl _ _) _, m1, rfl⟩)); (simp only [Act.put, List.setIfInBounds_toArray, List.set_cons_zero, List.set_cons_succ, List.cons_append, List.nil_append])
      refine wpF_fact (fun u _ => ∃ n m k, u = .agg #[.float .f32 (pick .f32 (ar) n), .float .f32 (pick .f32 (lessV (cosT t) ag (sineT t) ab) m), .float .f32 (pick .f32 (sumV (sineT t) ag (cosT t) ab) k)]) (fun _ _ _ h _ => h) (fun vs w' hE hk => ?_) ?_; (focus (obtain ⟨m1, h1⟩ := hk 2 (by kernel_rfl); obtain ⟨m2, h2⟩ := hk 4 (by kernel_rfl); simp only [h1, h2]; go_simp; refine (CT.out _ _ _).mono ?_; rintro _ w9 ⟨n9, m9, k9, rfl, b⟩; exact ⟨_, rfl, b, n9, m9, k9, rfl⟩)); (simp only [Act.put, List.setIfInBounds_toArray, List.set_cons_zero, List.set_cons_succ, List.cons_append, List.nil_append])
      refine wpF_fact (fun u _ => ∃ n m k, u = .tuple #[.agg #[.float .f32 (pick .f32 z.1.1 n), .float .f32 (pick .f32 z.1.2.1 m), .float .f32 (pick .f32 z.1.2.2 k)], .bool z.2]) (fun _ _ _ h _ => h) (fun vs w' hE hk => ?_) ?_; (focus (obtain ⟨n9, m9, k9, h9⟩ := hk 5 (by kernel_rfl); simp only [h9]; go_simp; refine (CG.out _ _ _ _).mono ?_; rintro _ w9 ⟨n8, m8, k8, rfl, b⟩; exact ⟨_, rfl, b, n8, m8, k8, rfl⟩)); (simp only [Act.put, List.setIfInBounds_toArray, List.set_cons_zero, List.set_cons_succ, List.cons_append, List.nil_append])
      refine wpF_fact (fun u _ => ∃ n m k, u = .agg #[.float .f32 (pick .f32 z.1.1 n), .float .f32 (pick .f32 z.1.2.1 m), .float .f32 (pick .f32 z.1.2.2 k)]) (fun _ _ _ h _ => h) (fun vs w' hE hk => ?_) ?_; (focus (obtain ⟨n9, m9, k9, h9⟩ := hk 6 (by kernel_rfl); simp only [h9]; go_simp; exact ⟨Below.refl _ _, n9, m9, k9, rfl⟩)); (simp only [Act.put, List.setIfInBounds_toArray, List.set_cons_zero, List.set_cons_succ, List.cons_append, List.nil_append])
      refine wpF_fact (fun u _ => u = .bool z.2) (fun _ _ _ h _ => h) (fun vs w' hE hk => ?_) ?_; (focus (obtain ⟨n9, m9, k9, h9⟩ := hk 6 (by kernel_rfl); simp only [h9]; go_simp; exact ⟨Below.refl _ _, rfl⟩)); (simp only [Act.put, List.setIfInBounds_toArray, List.set_cons_zero, List.set_cons_succ, List.cons_append, List.nil_append])
      refine wpF_nil (fun vs w3 hE hk => ?_)
      obtain ⟨n9, m9, k9, h91⟩ := hk 7
      have h92 := hk 8
      simp only [h91, show vs 8 = _ from h92]
      have b := hE
      clear hE hk h91 h92
      have Va_3 := Lib.hid (Va_2.out.keep b)
      have Vz_3 := Lib.hid (Vz_2.out.keep b)
      have F_3 := Lib.hid (F_2.out.below Vz_2.out.lt b)
      have B_3 := Lib.hid (B_2.out.trans (b.mono B_2.out.size))
      clear Va_2 Vz_2 F_2 B_2 b KS
      obtain ⟨ca0, ca1, ca2⟩ := Va_3.out.three
      obtain ⟨cz0, cz1, cz2⟩ := Vz_3.out.three
      have f0 := F_3.out 0
      have f1 := F_3.out 1
      have f2 := F_3.out 2
      go_wp2_with fail
      refine bodyPost_ret (v := .tuple #[.agg #[.float .f32 (pick .f32 z.1.1 n9), .float .f32 (pick .f32 z.1.2.1 m9), .float .f32 (pick .f32 z.1.2.2 k9)], .bool z.2]) (by simp [results, Try.results70, cz0, cz1, cz2, go_sem]) rfl ?_
      rw [RES.out]; refine ⟨_, _, _, rfl, ?_⟩
      repeat (first | exact B_3.out | exact Nat.le_refl _ | (refine Below.setCell ?_ ?_ _) | (refine below_drewN ?_ _) | (refine Below.alloc ?_ ?_ _) | (simp <;> omega))
/-! ### l02Blank -/
theorem c_l02Blank (W H : Int) (w : World) : Calls Try.prog 65 #[.int .i64 W, .int .i64 H] w (fun e w' => ∃ g, e = .returned (.agg #[.int .i64 W, .int .i64 H, .slice (some ⟨g, 0, none⟩) 0 0]) ∧ Below w.heap.size w w' ∧ Own 26 w' w.heap.size (some ⟨g, 0, none⟩) 0 0 []) := by
  go_enter Try.func65, Try.ntmps65
  go_wp2
  refine bodyPost_ret (v := .agg #[.int .i64 W, .int .i64 H, .slice (some ⟨w.heap.size + 1, 0, none⟩) 0 0]) (by simp [results, Try.results65, go_sem]) rfl ⟨w.heap.size + 1, rfl, ?_, ?_⟩
  · exact ((Below.refl _ _).alloc (Nat.le_refl _) _).alloc (by simp) _
  · refine ⟨rfl, ⟨rfl, .inr ⟨w.heap.size + 1, 0, #[], rfl, by omega, ?_, Nat.le_refl _, Nat.zero_le _, rfl, rfl⟩⟩, by simp⟩
    have h := heap_alloc_new (w.alloc (Obj.cells #[Value.int IntKind.i64 W, Value.int IntKind.i64 H, Value.slice (some ⟨w.heap.size + 1, 0, none⟩) 0 0] 29)) (Obj.cells #[] 26)
    simpa using h
/-! ### l00In -/
theorem c_l00In (x lo hi : Int) (w : World) (j : Nat) : Calls Try.prog 100 #[.int .i64 x, .int .i64 lo, .int .i64 hi] (w.drewN j) (RetV (.bool (decide (lo ≤ x) && decide (x ≤ hi))) w) := by
  by_cases h1 : lo ≤ x
  · by_cases h2 : x ≤ hi
    · have d1 : decide (lo ≤ x) = true := decide_eq_true h1
      have d2 : decide (x ≤ hi) = true := decide_eq_true h2
      go_enter Try.func100, Try.ntmps100
      go_wp2
      go_ret
      exact ⟨_, by simp [*], rfl⟩
    · have d1 : decide (lo ≤ x) = true := decide_eq_true h1
      have d2 : decide (x ≤ hi) = false := decide_eq_false h2
      go_enter Try.func100, Try.ntmps100
      go_wp2
      go_ret
      exact ⟨_, by simp [*], rfl⟩
  · have d1 : decide (lo ≤ x) = false := decide_eq_false h1
    go_enter Try.func100, Try.ntmps100
    go_wp2
    go_ret
    exact ⟨_, by simp [*], rfl⟩
/-! ### l02Sides -/
theorem c_l02Sides (W H : Int) (w : World) (j : Nat) : Calls Try.prog 88 #[.int .i64 W, .int .i64 H] (w.drewN j) (RetV (.bool (sideB W H)) w) := by
  unfold sideB
  cases hw : (decide (1 ≤ W) && decide (W ≤ 16))
  all_goals
    have HW := Lib.hid hw
    go_enter Try.func88, Try.ntmps88
    go_wp2_with (go_at_call 100; refine (c_l00In _ _ _ _ _).mono ?_; rintro _ _ ⟨_, rfl, rfl⟩)
    go_ret
    exact ⟨_, by simp [HW.out], rfl⟩
/-! ### l02Finite -/
theorem c_l02Finite (a : Option Addr) (len cap : Nat) (zs : List Nat) (w : World) (j0 : Nat) (hr : IsRowF .f32 w a len cap zs) : Calls Try.prog 104 #[.slice a len cap] (w.drewN j0) (RetV (.bool (finL zs)) w) := by
  obtain ⟨h1, h2, h3, h4, h5⟩ := hr
  unfold maxLen at h3
  have H1 := Lib.hid h1
  clear h1
  go_enter Try.func104, Try.ntmps104
  go_wp2
  go_loopw [3] (fun i wr => ∃ k m : Nat, k ≤ len ∧ i = .int .i64 k ∧ wr = w.drewN m ∧ finL (zs.take k) = true) (fun i _ => len - (intOf i).toNat)
  case atStart => exact ⟨0, j0, Nat.zero_le _, rfl, rfl, rfl⟩
  case round =>
    obtain ⟨k, m, hk, rfl, rfl, hfin⟩ := hrel
    have HFin := Lib.hid hfin
    clear hfin
    by_cases hlt : k < len
    · rcases h5 with h5 | ⟨b, off, rfl, hbl, hc⟩
      · omega
      have hcell : w.cell? ⟨b, off + k, none⟩ = some (.float .f32 (fat zs k)) := hc k hlt
      obtain ⟨n, hn⟩ := pick0 .f32 (fat zs k) (lt_of_wf (h4 _ (by unfold fat; rw [List.getD, List.getElem?_eq_getElem (by have := H1.out; omega)]; exact List.getElem_mem _)))
      rw [hn] at hcell
      have HN := Lib.hid hn
      have HS := Lib.hid (finL_snoc zs k (by have := H1.out; omega))
      cases hf : finB .f32 (fat zs k)
      · have HO := Lib.hid (finL_of zs k (by have := H1.out; omega) hf)
        clear hc h4 hn
        go_wp2_with ((go_at_call 64; refine (c_l01Finite _ _ _ _).mono ?_; rintro _ _ ⟨_, rfl, rfl⟩))
        go_ret
        exact ⟨_, by rw [HO.out]; rfl, rfl⟩
      · have HF := Lib.hid hf
        clear hc h4 hn
        go_wp2_with ((go_at_call 64; refine (c_l01Finite _ _ _ _).mono ?_; rintro _ _ ⟨_, rfl, rfl⟩))
        go_roundw
        case rel => exact ⟨k + 1, _, by omega, by go_num, rfl, by rw [HS.out, HFin.out, HF.out]; rfl⟩
        case measure => simp [intOf]; omega
    · have e : zs.take k = zs := List.take_of_length_le (by have := H1.out; omega)
      have HE := Lib.hid e
      clear h5 h4 e
      go_wp2
      go_ret
      exact ⟨_, by have h := HFin.out; rw [HE.out] at h; rw [h]; rfl, rfl⟩
/-! ### l02Is -/
theorem c_l02Is (W H : Int) (b : Nat) (a : Option Addr) (len cap : Nat) (zs : List Nat) (w : World) (j0 : Nat) (hv : Var w b #[.int .i64 W, .int .i64 H, .slice a len cap]) (hr : IsRowF .f32 w a len cap zs) :
    Calls Try.prog 52 #[.pointer (some ⟨b, 0, none⟩)] (w.drewN j0) (RetV (.bool (validB W H zs)) w) := by
  obtain ⟨p0, p1, p2⟩ := hv.three
  have H1 := Lib.hid hr.1
  have HR := Lib.hid hr
  clear hr hv
  cases hs : sideB W H
  · have e : validB W H zs = false := by simp [validB, hs]
    have E := Lib.hid e
    have C1 := Lib.hid (fun n => (by have h := c_l02Sides W H w n; rwa [hs] at h : Calls Try.prog 88 #[.int .i64 W, .int .i64 H] (w.drewN n) (RetV (.bool false) w)))
    clear e hs
    go_enter Try.func52, Try.ntmps52
    go_wp2
    refine wp_region_N (fun f _ u => (f = 88 → u = .bool false)) (by kernel_rfl) (by kernel_rfl) ?_; (repeat (first | ((with_reducible show wpN _ _ _ _ _ (Oper.mk _ (Op.binOp _ _ _ _ _) _ _ _ none :: _) _); refine wpN_fop rfl _ _ _ _ _ rfl _ _ _ rfl rfl (by decide) ?_; intro _) | ((with_reducible show wpN _ _ _ _ _ (Oper.mk _ (Op.convert _ _ _) _ _ _ none :: _) _); refine wpN_cvU rfl 26 32 _ rfl (Option.isSome_iff_exists.2 ⟨_, Try.underlying26⟩) Try.underlying32 _ rfl ?_; intro _) | ((with_reducible show wpN _ _ _ _ _ (Oper.mk _ _ _ _ _ (some _) :: _) _); (with_reducible refine wpN_off ?_ ?_); focus rfl; (simp only [Act.put, List.setIfInBounds_toArray, List.set_cons_zero, List.set_cons_succ])) | ((with_reducible show wpN _ _ _ _ _ (Oper.mk _ _ _ _ _ (some _) :: _) _); ((with_reducible refine wpN_on ?_ (fun K hK => ?_)); (focus rfl); intro _; go_simp; first | (refine uponN_value (hK _ ?_)) | ((refine uponN_call (callN (v := .bool false) (fun _ => rfl) (C1.out _)) ?_; intro u hu; obtain rfl : u = _ := hu rfl; clear hu); refine hK _ ?_)); clear hK K) | (((with_reducible refine wpN_plain rfl (fun K hK => ?_)); intro _; go_simp; first | (refine uponN_value (hK _ ?_)) | ((refine uponN_call (callN (v := .bool false) (fun _ => rfl) (C1.out _)) ?_; intro u hu; obtain rfl : u = _ := hu rfl; clear hu); refine hK _ ?_)); clear hK K) | ((with_reducible refine wpN_step (fun K hK => ?_)); go_simp; first | (refine hK _ ?_) | (intro _; first | (refine uponN_value (hK _ ?_)) | ((refine uponN_call (callN (v := .bool false) (fun _ => rfl) (C1.out _)) ?_; intro u hu; obtain rfl : u = _ := hu rfl; clear hu); refine hK _ ?_)); clear hK K))); refine wpN_nil ?_; intro _
    go_wp2
    go_ret
    exact ⟨_, by rw [E.out]; rfl, rfl⟩
  · obtain ⟨m1, m2⟩ := side_mul hs
    have mw : IntKind.i64.wrap (W * H) = W * H := IntWalk.i64_in _ (by omega)
    have C1 := Lib.hid (fun n => (by have h := c_l02Sides W H w n; rwa [hs] at h : Calls Try.prog 88 #[.int .i64 W, .int .i64 H] (w.drewN n) (RetV (.bool true) w)))
    have C2 := Lib.hid (fun n => c_l02Finite a len cap zs w n HR.out)
    by_cases hl : (len : Int) = W * H
    · have hd : ((len : Int) == W * H) = true := by simpa using hl
      have e : validB W H zs = finL zs := by simp [validB, hs, H1.out, hl]
      have E := Lib.hid e
      have HL := Lib.hid hl
      clear e hs hl
      go_enter Try.func52, Try.ntmps52
      go_wp2
      refine wp_region_N (fun f _ u => (f = 88 → u = .bool true) ∧ (f = 104 → u = .bool (finL zs))) (by kernel_rfl) (by kernel_rfl) ?_; (repeat (first | ((with_reducible show wpN _ _ _ _ _ (Oper.mk _ (Op.binOp _ _ _ _ _) _ _ _ none :: _) _); refine wpN_fop rfl _ _ _ _ _ rfl _ _ _ rfl rfl (by decide) ?_; intro _) | ((with_reducible show wpN _ _ _ _ _ (Oper.mk _ (Op.convert _ _ _) _ _ _ none :: _) _); refine wpN_cvU rfl 26 32 _ rfl (Option.isSome_iff_exists.2 ⟨_, Try.underlying26⟩) Try.underlying32 _ rfl ?_; intro _) | ((with_reducible show wpN _ _ _ _ _ (Oper.mk _ _ _ _ _ (some _) :: _) _); (with_reducible refine wpN_off ?_ ?_); focus rfl; (simp only [Act.put, List.setIfInBounds_toArray, List.set_cons_zero, List.set_cons_succ])) | ((with_reducible show wpN _ _ _ _ _ (Oper.mk _ _ _ _ _ (some _) :: _) _); ((with_reducible refine wpN_on ?_ (fun K hK => ?_)); (focus rfl); intro _; go_simp; first | (refine uponN_value (hK _ ?_)) | ((first | (refine uponN_call (callN (v := .bool true) ⟨fun _ => rfl, fun h => absurd h (by decide)⟩ (C1.out _)) ?_; intro u hu; obtain rfl : u = _ := hu.1 rfl; clear hu) | (refine uponN_call (callN (v := .bool (finL zs)) ⟨fun h => absurd h (by decide), fun _ => rfl⟩ (C2.out _)) ?_; intro u hu; obtain rfl : u = _ := hu.2 rfl; clear hu)); refine hK _ ?_)); clear hK K) | (((with_reducible refine wpN_plain rfl (fun K hK => ?_)); intro _; go_simp; first | (refine uponN_value (hK _ ?_)) | ((first | (refine uponN_call (callN (v := .bool true) ⟨fun _ => rfl, fun h => absurd h (by decide)⟩ (C1.out _)) ?_; intro u hu; obtain rfl : u = _ := hu.1 rfl; clear hu) | (refine uponN_call (callN (v := .bool (finL zs)) ⟨fun h => absurd h (by decide), fun _ => rfl⟩ (C2.out _)) ?_; intro u hu; obtain rfl : u = _ := hu.2 rfl; clear hu)); refine hK _ ?_)); clear hK K) | ((with_reducible refine wpN_step (fun K hK => ?_)); go_simp; first | (refine hK _ ?_) | (intro _; first | (refine uponN_value (hK _ ?_)) | ((first | (refine uponN_call (callN (v := .bool true) ⟨fun _ => rfl, fun h => absurd h (by decide)⟩ (C1.out _)) ?_; intro u hu; obtain rfl : u = _ := hu.1 rfl; clear hu) | (refine uponN_call (callN (v := .bool (finL zs)) ⟨fun h => absurd h (by decide), fun _ => rfl⟩ (C2.out _)) ?_; intro u hu; obtain rfl : u = _ := hu.2 rfl; clear hu)); refine hK _ ?_)); clear hK K))); refine wpN_nil ?_; intro _
      go_wp2
      go_ret
      exact ⟨_, by rw [E.out]; rfl, rfl⟩
    · have hd : ((len : Int) == W * H) = false := by simpa using hl
      have e : validB W H zs = false := by simp [validB, hs, H1.out, hl]
      have E := Lib.hid e
      clear e hs hl
      go_enter Try.func52, Try.ntmps52
      go_wp2
      refine wp_region_N (fun f _ u => (f = 88 → u = .bool true)) (by kernel_rfl) (by kernel_rfl) ?_; (repeat (first | ((with_reducible show wpN _ _ _ _ _ (Oper.mk _ (Op.binOp _ _ _ _ _) _ _ _ none :: _) _); refine wpN_fop rfl _ _ _ _ _ rfl _ _ _ rfl rfl (by decide) ?_; intro _) | ((with_reducible show wpN _ _ _ _ _ (Oper.mk _ (Op.convert _ _ _) _ _ _ none :: _) _); refine wpN_cvU rfl 26 32 _ rfl (Option.isSome_iff_exists.2 ⟨_, Try.underlying26⟩) Try.underlying32 _ rfl ?_; intro _) | ((with_reducible show wpN _ _ _ _ _ (Oper.mk _ _ _ _ _ (some _) :: _) _); (with_reducible refine wpN_off ?_ ?_); focus rfl; (simp only [Act.put, List.setIfInBounds_toArray, List.set_cons_zero, List.set_cons_succ])) | ((with_reducible show wpN _ _ _ _ _ (Oper.mk _ _ _ _ _ (some _) :: _) _); ((with_reducible refine wpN_on ?_ (fun K hK => ?_)); (focus rfl); intro _; go_simp; first | (refine uponN_value (hK _ ?_)) | ((refine uponN_call (callN (v := .bool true) (fun _ => rfl) (C1.out _)) ?_; intro u hu; obtain rfl : u = _ := hu rfl; clear hu); refine hK _ ?_)); clear hK K) | (((with_reducible refine wpN_plain rfl (fun K hK => ?_)); intro _; go_simp; first | (refine uponN_value (hK _ ?_)) | ((refine uponN_call (callN (v := .bool true) (fun _ => rfl) (C1.out _)) ?_; intro u hu; obtain rfl : u = _ := hu rfl; clear hu); refine hK _ ?_)); clear hK K) | ((with_reducible refine wpN_step (fun K hK => ?_)); go_simp; first | (refine hK _ ?_) | (intro _; first | (refine uponN_value (hK _ ?_)) | ((refine uponN_call (callN (v := .bool true) (fun _ => rfl) (C1.out _)) ?_; intro u hu; obtain rfl : u = _ := hu rfl; clear hu); refine hK _ ?_)); clear hK K))); refine wpN_nil ?_; intro _
      go_wp2
      go_ret
      exact ⟨_, by rw [E.out]; rfl, rfl⟩
/-! ### l02Is0 -/
theorem c_l02Is0 (W H : Int) (b : Nat) (a : Option Addr) (len cap : Nat) (zs : List Nat) (w : World) (hv : Var w b #[.int .i64 W, .int .i64 H, .slice a len cap]) (hr : IsRowF .f32 w a len cap zs) :
    Calls Try.prog 52 #[.pointer (some ⟨b, 0, none⟩)] w (RetV (.bool (validB W H zs)) w) := by
  have h := c_l02Is W H b a len cap zs w 0 hv hr
  rwa [w.drewN_zero] at h
/-! ### infoF2 -/
theorem infoF2 : (Try.prog.info? 26).map (fun i => (i.zero, i.size, i.bytes)) = some (some (.float .f32 0), 1, 4) := by kernel_rfl
/-! ### winDefs -/
def winB (Wn : Nat) (l t r b : Int) (k : Nat) : Bool := decide (l ≤ ((k % Wn : Nat) : Int)) && decide (((k % Wn : Nat) : Int) ≤ r) && (decide (t ≤ ((k / Wn : Nat) : Int)) && decide (((k / Wn : Nat) : Int) ≤ b))
def winL (Wn N : Nat) (l t r b : Int) : List Nat := (List.range N).filter (winB Wn l t r b)
theorem winL_zero (Wn : Nat) (l t r b : Int) : winL Wn 0 l t r b = [] := rfl
theorem winL_yes {Wn k : Nat} {l t r b : Int} (h : winB Wn l t r b k = true) : winL Wn (k + 1) l t r b = winL Wn k l t r b ++ [k] := by
  unfold winL; rw [List.range_succ, List.filter_append]; simp [h]
theorem winL_no {Wn k : Nat} {l t r b : Int} (h : winB Wn l t r b k = false) : winL Wn (k + 1) l t r b = winL Wn k l t r b := by
  unfold winL; rw [List.range_succ, List.filter_append]; simp [h]
theorem winL_skip {Wn : Nat} {l t r b : Int} (m : Nat) : ∀ n, m ≤ n → (∀ k, m ≤ k → k < n → winB Wn l t r b k = false) → winL Wn n l t r b = winL Wn m l t r b
  | 0, h, _ => by obtain rfl : m = 0 := by omega
                  rfl
  | n + 1, h, hn => by
    by_cases e : m = n + 1
    · rw [e]
    · rw [winL_no (hn n (by omega) (by omega))]
      exact winL_skip m n (by omega) fun k h1 h2 => hn k h1 (by omega)
theorem winL_len (Wn N : Nat) (l t r b : Int) : (winL Wn N l t r b).length ≤ N := by
  unfold winL; have h := List.length_filter_le (winB Wn l t r b) (List.range N); rwa [List.length_range] at h
theorem winL_lt {Wn N : Nat} {l t r b : Int} {k : Nat} (h : k ∈ winL Wn N l t r b) : k < N := by
  unfold winL at h; exact List.mem_range.1 (List.mem_filter.1 h).1
theorem row_div {Wn x y k : Nat} (hk : k = y * Wn + x) (hx : x < Wn) : k % Wn = x ∧ k / Wn = y := by
  subst hk
  exact ⟨by rw [Nat.mul_comm y Wn, Nat.mul_add_mod, Nat.mod_eq_of_lt hx], by rw [Nat.mul_comm y Wn, Nat.mul_add_div (by omega), Nat.div_eq_of_lt hx, Nat.add_zero]⟩
theorem winB_at {Wn x y k : Nat} {l t r b : Int} (hk : k = y * Wn + x) (hx : x < Wn) : winB Wn l t r b k = (decide (l ≤ (x : Int)) && decide ((x : Int) ≤ r) && (decide (t ≤ (y : Int)) && decide ((y : Int) ≤ b))) := by
  obtain ⟨h1, h2⟩ := row_div hk hx
  unfold winB; rw [h1, h2]
/-- The rest of a row lies outside. -/
theorem winL_row {Wn x y : Nat} {l t r b : Int} (hx : x ≤ Wn) (h : (y : Int) < t ∨ r < (x : Int)) : winL Wn ((y + 1) * Wn) l t r b = winL Wn (y * Wn + x) l t r b := by
  refine winL_skip _ _ (by rw [Nat.succ_mul]; omega) fun k h1 h2 => ?_
  rw [Nat.succ_mul] at h2
  obtain ⟨j, rfl⟩ : ∃ j, k = y * Wn + j := ⟨k - y * Wn, by omega⟩
  rw [winB_at rfl (by omega : j < Wn)]
  rcases h with h | h
  · rw [decide_eq_false (by omega : ¬ t ≤ (y : Int))]; simp
  · rw [decide_eq_false (by omega : ¬ ((j : Nat) : Int) ≤ r)]; simp
/-- All that follows lies below. -/
theorem winL_rest {Wn x y N : Nat} {l t r b : Int} (hW : 1 ≤ Wn) (hN : y * Wn + x ≤ N) (h : b < (y : Int)) : winL Wn N l t r b = winL Wn (y * Wn + x) l t r b := by
  refine winL_skip _ _ hN fun k h1 h2 => ?_
  have h3 : y ≤ k / Wn := by
    have : y * Wn / Wn ≤ k / Wn := Nat.div_le_div_right (by omega)
    rwa [Nat.mul_div_cancel _ (by omega)] at this
  unfold winB
  rw [decide_eq_false (by omega : ¬ ((k / Wn : Nat) : Int) ≤ b)]
  simp
/-- Sums from left to right. -/
def sumL (zs : List Nat) (idx : List Nat) : Nat := idx.foldl (fun s k => fop .add .f32 s (fat zs k)) 0
theorem sumL_snoc (zs idx : List Nat) (k : Nat) : sumL zs (idx ++ [k]) = fop .add .f32 (sumL zs idx) (fat zs k) := by unfold sumL; rw [List.foldl_append]; rfl
theorem take_snoc {idx : List Nat} {j : Nat} (h : j < idx.length) : idx.take (j + 1) = idx.take j ++ [fat idx j] := by
  unfold fat
  rw [List.take_succ_eq_append_getElem h, List.getD, List.getElem?_eq_getElem h]; rfl
def wmeanV (zs idx : List Nat) : Nat := fop .quo .f32 (sumL zs idx) (floatOfInt .f32 (idx.length : Int))
/-- Pixels with their places, as they lie in memory. -/
def spotC (Wn : Nat) (zs : List Nat) (k : Nat) : List Value := [.int .i64 ((k % Wn : Nat) : Int), .int .i64 ((k / Wn : Nat) : Int), .float .f32 (fat zs k)]
def spotsC (Wn : Nat) (zs idx : List Nat) : List Value := idx.flatMap (spotC Wn zs)
theorem spotsC_snoc (Wn : Nat) (zs idx : List Nat) (k : Nat) : spotsC Wn zs (idx ++ [k]) = spotsC Wn zs idx ++ spotC Wn zs k := by simp [spotsC]
theorem spotsC_len (Wn : Nat) (zs : List Nat) : ∀ idx : List Nat, (spotsC Wn zs idx).length = idx.length * 3
  | [] => rfl
  | k :: idx => by
    have h := spotsC_len Wn zs idx
    unfold spotsC at h ⊢
    rw [List.flatMap_cons, List.length_append, h]; simp [spotC]; omega
theorem spotsC_at (Wn : Nat) (zs : List Nat) : ∀ (idx : List Nat) (j c : Nat), j < idx.length → c < 3 → (spotsC Wn zs idx)[j * 3 + c]? = (spotC Wn zs (fat idx j))[c]?
  | [], j, c, h, _ => by simp at h
  | k :: idx, 0, c, _, hc => by
    unfold spotsC
    rw [List.flatMap_cons, List.getElem?_append_left (by simp [spotC]; omega), Nat.zero_mul, Nat.zero_add]; rfl
  | k :: idx, j + 1, c, h, hc => by
    have h2 := spotsC_at Wn zs idx j c (by simpa using h) hc
    unfold spotsC at h2 ⊢
    rw [List.flatMap_cons, List.getElem?_append_right (by simp [spotC]; omega)]
    have e : (j + 1) * 3 + c - (spotC Wn zs k).length = j * 3 + c := by simp [spotC]; omega
    rw [e, h2]; rfl
/-- A slice of them, of the call's own. -/
def Spots (T : TypeId) (Wn : Nat) (zs : List Nat) (w : World) (B : Nat) (v : Value) (idx : List Nat) : Prop := w.ownsRow B T 3 v idx.length (spotsC Wn zs idx)
theorem Spots.below {T : TypeId} {Wn : Nat} {zs : List Nat} {w w' : World} {B : Nat} {v : Value} {idx : List Nat} (h : Spots T Wn zs w B v idx) (hb : Below w.heap.size w w') : Spots T Wn zs w' B v idx :=
  World.ownsRow.kept h (grown_of_below hb) (by cases v.ownBlock <;> simp)
theorem Spots.at {T : TypeId} {Wn : Nat} {zs : List Nat} {w : World} {B : Nat} {v : Value} {idx : List Nat} (h : Spots T Wn zs w B v idx) {j : Nat} (hj : j < idx.length) :
    ∃ g c, v = .slice (some ⟨g, 0, none⟩) idx.length c ∧ g < w.heap.size ∧ idx.length ≤ c ∧ c ≤ maxLen ∧ w.cell? ⟨g, j * 3, none⟩ = some (.int .i64 ((fat idx j % Wn : Nat) : Int)) ∧ w.cell? ⟨g, j * 3 + 1, none⟩ = some (.int .i64 ((fat idx j / Wn : Nat) : Int)) ∧ w.cell? ⟨g, j * 3 + 2, none⟩ = some (.float .f32 (fat zs (fat idx j))) := by
  rcases h.2 with ⟨_, h0⟩ | ⟨g, c, cur, e, hb, hg, hc, hm, hs, ht⟩
  · omega
  · have hcell : ∀ i, i < 3 → w.cell? ⟨g, j * 3 + i, none⟩ = (spotC Wn zs (fat idx j))[i]? := by
      intro i hi
      rw [cell_of_row w g _ cur T (0, 0) hg, ← spotsC_at Wn zs idx j i hj hi, ← ht, List.getElem?_take, if_pos (by omega), Array.getElem?_toList]
    exact ⟨g, c, e, (Array.getElem?_eq_some_iff.1 hg).1, hc, hm, hcell 0 (by omega), hcell 1 (by omega), hcell 2 (by omega)⟩
theorem Spots.mono {T : TypeId} {Wn : Nat} {zs : List Nat} {w : World} {B B' : Nat} {v : Value} {idx : List Nat} (h : Spots T Wn zs w B v idx) (hB : B' ≤ B) : Spots T Wn zs w B' v idx := by
  refine ⟨h.1, ?_⟩
  rcases h.2 with h' | ⟨g, c, cur, h1, h2, h3⟩
  · exact .inl h'
  · exact .inr ⟨g, c, cur, h1, Nat.le_trans hB h2, h3⟩
theorem Spots.isSlice {T : TypeId} {Wn : Nat} {zs : List Nat} {w : World} {B : Nat} {v : Value} {idx : List Nat} (h : Spots T Wn zs w B v idx) : ∃ a c, v = .slice a idx.length c := by
  rcases h.2 with ⟨e, h0⟩ | ⟨g, c, cur, e, _⟩
  · exact ⟨_, _, by rw [e, h0]⟩
  · exact ⟨_, _, e⟩
theorem cell1_new (w : World) (T : TypeId) (u0 : Value) (b : Nat) (hb : b = w.heap.size) (j : Nat) (u : Value) (hj : [u0][j]? = some u) : (w.alloc (.cells #[u0] T)).cell? ((⟨b, 0, none⟩ : Addr).add j) = some u := by
  subst hb
  have e : (⟨w.heap.size, 0, none⟩ : Addr).add j = ⟨w.heap.size, j, none⟩ := by cases j <;> simp [Addr.add]
  rw [e, cell_of_row _ w.heap.size j _ T (0, 0) (heap_alloc_new w _)]
  simpa using hj
theorem cells3_new (w : World) (T : TypeId) (u0 u1 u2 : Value) (b : Nat) (hb : b = w.heap.size) (j : Nat) (u : Value) (hj : [u0, u1, u2][j]? = some u) : (w.alloc (.cells #[u0, u1, u2] T)).cell? ((⟨b, 0, none⟩ : Addr).add j) = some u := by
  subst hb
  have e : (⟨w.heap.size, 0, none⟩ : Addr).add j = ⟨w.heap.size, j, none⟩ := by cases j <;> simp [Addr.add]
  rw [e, cell_of_row _ w.heap.size j _ T (0, 0) (heap_alloc_new w _)]
  simpa using hj
/-! ### sTiltSphere -/
theorem c_sTiltSphere (WP HP : Int) (zP : List Nat) (aP : Option Addr) (cP : Nat) (t tn : Nat) (w : World) (rP : IsRowF .f32 w aP zP.length cP zP) (ht : t < 2 ^ FloatKind.f32.format.width) : Calls Try.prog 28 #[.agg #[.int .i64 WP, .int .i64 HP, .slice aP zP.length cP], .float .f32 (pick .f32 t tn)] w (RetP 26 (resSph tilT WP HP zP t) w) := by
  generalize hw0 : (w.alloc (Obj.cells #[.int .i64 WP, .int .i64 HP, .slice aP zP.length cP] 29)).alloc (Obj.cells #[.int .i64 0, .int .i64 0, .slice none 0 0] 29) = w0
  have X0 : Var w0 w.heap.size #[.int .i64 WP, .int .i64 HP, .slice aP zP.length cP] := by subst hw0; exact (Var.new _ _ _).alloc _
  have X1 : Var w0 (w.heap.size + 1) #[.int .i64 0, .int .i64 0, .slice none 0 0] := by subst hw0; exact Var.new' _ _ _ _ (by simp)
  have X2 : Free w0 (w.heap.size + 1) := by subst hw0; exact Free.new' _ _ _ _ (by simp)
  have X3 : Below w.heap.size w w0 := by subst hw0; exact ((Below.refl _ _).alloc (Nat.le_refl _) _).alloc (by simp) _
  have X4 : w0.heap.size = w.heap.size + 1 + 1 := by subst hw0; simp
  have HW := Lib.hid hw0
  have V0 := Lib.hid X0
  have V1 := Lib.hid X1
  have F1 := Lib.hid X2
  have B0 := Lib.hid X3
  have RX := Lib.hid (rP.below X3)
  have RRW := Lib.hid rP
  clear hw0 X0 X1 X2 X3 rP
  have CI := Lib.hid (c_l02Is0 WP HP _ aP _ cP zP _ V0.out RX.out)
  obtain ⟨res, hres⟩ : ∃ q, q = resSph tilT WP HP zP t := ⟨_, rfl⟩
  rw [← hres]
  cases hv : validB WP HP zP
  · have RES := Lib.hid (hres.trans (resSph_no (.inl hv)))
    rw [hv] at CI
    clear hv hres
    go_enter Try.func28, Try.ntmps28
    go_wp2_with fail
    rw [HW.out]
    refine CI.out.mono ?_
    rintro _ _ ⟨m1, rfl, rfl⟩
    have bb_w1 := below_drewN (Below.refl w0.heap.size w0) m1
    have VV := Lib.hid (V1.out.keep bb_w1)
    have FF := Lib.hid (F1.out.below V1.out.lt bb_w1)
    have BB := Lib.hid (B0.out.trans (bb_w1.mono (by omega)))
    have UU := Lib.hid (V0.out.keep bb_w1)
    have RR := Lib.hid (RX.out.below bb_w1)
    clear bb_w1
    generalize World.drewN w0 m1 = w1 at *
    rw [← w1.drewN_zero]
    have zz : w.heap.size + 1 < w1.heap.size := VV.out.lt
    obtain ⟨q0, q1, q2⟩ := VV.out.three
    have f0 := FF.out 0
    have f1 := FF.out 1
    have f2 := FF.out 2
    go_wp2_with fail
    rw [RES.out]
    refine bodyPost_ret (v := .tuple #[.agg #[.int .i64 0, .int .i64 0, .slice none 0 0], .bool false]) (by simp [results, Try.results28, q0, q1, q2, go_sem]) rfl (show RetP _ PRes.no _ _ _ from ⟨none, 0, rfl, Nat.zero_le _, ?_, Own.nil _ _ _⟩)
    repeat (first | exact BB.out | exact Nat.le_refl _ | (refine Below.setCell ?_ ?_ _) | (refine below_drewN ?_ _) | (refine Below.alloc ?_ ?_ _) | (simp <;> omega))
  cases hf : finB .f32 t
  · have RES := Lib.hid (hres.trans (resSph_no (.inr hf)))
    have HF := Lib.hid (fun w j => (by have h := c_l01Finite t tn w j; rwa [hf] at h : Calls Try.prog 64 #[.float .f32 (pick .f32 t tn)] (w.drewN j) (RetV (.bool false) w)))
    rw [hv] at CI
    clear hv hf hres
    go_enter Try.func28, Try.ntmps28
    go_wp2_with fail
    rw [HW.out]
    refine CI.out.mono ?_
    rintro _ _ ⟨m1, rfl, rfl⟩
    have bb_w1 := below_drewN (Below.refl w0.heap.size w0) m1
    have VV := Lib.hid (V1.out.keep bb_w1)
    have FF := Lib.hid (F1.out.below V1.out.lt bb_w1)
    have BB := Lib.hid (B0.out.trans (bb_w1.mono (by omega)))
    have UU := Lib.hid (V0.out.keep bb_w1)
    have RR := Lib.hid (RX.out.below bb_w1)
    clear bb_w1
    generalize World.drewN w0 m1 = w1 at *
    rw [← w1.drewN_zero]
    have zz : w.heap.size + 1 < w1.heap.size := VV.out.lt
    obtain ⟨q0, q1, q2⟩ := VV.out.three
    have f0 := FF.out 0
    have f1 := FF.out 1
    have f2 := FF.out 2
    go_wp2_with (go_at_call 64; refine (HF.out _ _).mono ?_; rintro _ _ ⟨_, rfl, rfl⟩)
    rw [RES.out]
    refine bodyPost_ret (v := .tuple #[.agg #[.int .i64 0, .int .i64 0, .slice none 0 0], .bool false]) (by simp [results, Try.results28, q0, q1, q2, go_sem]) rfl (show RetP _ PRes.no _ _ _ from ⟨none, 0, rfl, Nat.zero_le _, ?_, Own.nil _ _ _⟩)
    repeat (first | exact BB.out | exact Nat.le_refl _ | (refine Below.setCell ?_ ?_ _) | (refine below_drewN ?_ _) | (refine Below.alloc ?_ ?_ _) | (simp <;> omega))
  obtain ⟨Wn, Hn, rfl, rfl, hW1, hW2, hH1, hH2⟩ := valid_nat hv
  have hln := valid_nlen hv
  have HF := Lib.hid (fun w j => (by have h := c_l01Finite t tn w j; rwa [hf] at h : Calls Try.prog 64 #[.float .f32 (pick .f32 t tn)] (w.drewN j) (RetV (.bool true) w)))
  rw [hv] at CI
  rw [resSph_yes hv hf] at hres
  obtain ⟨N, hN⟩ : ∃ N, N = Wn * Hn := ⟨_, rfl⟩
  have HN256 : N ≤ 256 := by rw [hN]; exact Nat.le_trans (Nat.mul_le_mul hW2 hH2) (by decide)
  have MW := Lib.hid (show IntKind.i64.wrap ((Wn : Int) * (Hn : Int)) = (N : Int) by rw [hN]; rw [show ((Wn : Int) * (Hn : Int)) = ((Wn * Hn : Nat) : Int) by rw [Int.natCast_mul]]; exact IntWalk.i64_in _ (by omega))
  have zf : ∀ k, finB .f32 (fat zP k) = true := by
    intro k
    by_cases hk : k < zP.length
    · cases h : finB .f32 (fat zP k)
      · have h1 := finL_of zP k hk h
        unfold validB at hv
        rw [h1, Bool.and_false] at hv; cases hv
      · rfl
    · have : fat zP k = 0 := by unfold fat; rw [List.getD, List.getElem?_eq_none (by omega)]; rfl
      rw [this]; decide +kernel
  have hfl : ∀ k, fat zP k < 2 ^ FloatKind.f32.format.width := fat_lt RRW.out
  obtain ⟨L, hL⟩ : ∃ L, L = makeL (sphF tilT zP Wn Hn (cosT t) (sineT t)) Wn Hn := ⟨_, rfl⟩
  have HAt := Lib.hid (fun (k : Nat) (hk : k < N) => (by rw [hL]; rw [hN] at hk; simp only [fat, makeL, List.getD, List.getElem?_map, List.getElem?_range hk]; rfl : fat L k = sphF tilT zP Wn Hn (cosT t) (sineT t) (k % Wn) (k / Wn)))
  have HLen := Lib.hid (show L.length = N by rw [hL, makeL_len, hN])
  have HNO := Lib.hid (fun (k : Nat) (hk : k < N) (h : finB .f32 (fat L k) = false) => (by rw [hL] at h; rw [hN] at hk; exact hres.trans (no_no hk h) : res = PRes.no))
  have HYES := Lib.hid (fun (h : ∀ k, k < N → finB .f32 (fat L k) = true) => (by rw [hL, hN] at h; have y := yes_yes hv h; rw [hL]; exact ⟨y.1, hres.trans y.2⟩ : L.all (finB .f32) = true ∧ res = ⟨(Wn : Int), (Hn : Int), L, true⟩))
  have HRD := Lib.hid (fun (k : Nat) (hk : k < N) => (by
    have hd1 : k % Wn < Wn := Nat.mod_lt _ (by omega)
    have hd2 : k / Wn < Hn := Nat.div_lt_of_lt_mul (by rw [← hN]; exact hk)
    have he : k / Wn * Wn + k % Wn = k := by rw [Nat.mul_comm]; exact Nat.div_add_mod _ _
    obtain ⟨wv, hwv⟩ : ∃ q, q = wayV (Wn : Int) (Hn : Int) ((k % Wn : Nat) : Int) ((k / Wn : Nat) : Int) := ⟨_, rfl⟩
    obtain ⟨r, hr⟩ : ∃ q, q = tiltW wv.1 wv.2.1 wv.2.2 t := ⟨_, rfl⟩
    obtain ⟨l, hl⟩ : ∃ q, q = lightK Wn Hn zP r.1.1 r.1.2.1 r.1.2.2 := ⟨_, rfl⟩
    have hb : wv.1 < 2 ^ FloatKind.f32.format.width ∧ wv.2.1 < 2 ^ FloatKind.f32.format.width ∧ wv.2.2 < 2 ^ FloatKind.f32.format.width := by rw [hwv]; exact ⟨fop_lt _ _ _ _, fop_lt _ _ _ _, sineT_lt _⟩
    have hc : colB r.1.1 r.1.2.1 r.1.2.2 = true := by rw [hr]; exact tiltW_col
    have hround := tiltW_round hwv hr hl hf
    rw [← HAt.out k hk] at hround
    refine ⟨wv, r, l, fun w => ?_, fun n m q w => ?_, fun xp n m q w h1 h2 => ?_, hround, ?_⟩
    · have h := c_l06Way Wn Hn (k % Wn) (k / Wn) w hd1 hW2 hd2 hH2
      rw [he, ← hwv] at h; exact h
    · have h := c_sTiltWay wv.1 n wv.2.1 m wv.2.2 q t tn w hb.1 hb.2.1 hb.2.2 ht
      rw [← hr] at h; exact h
    · have h := c_l06Light Wn Hn xp zP aP cP r.1.1 n r.1.2.1 m r.1.2.2 q w h1 h2 hW1 hW2 hH1 hH2 hln hc
      rw [← hl] at h; exact h
    · rw [hl]; unfold lightK; split
      · exact ⟨zf _, hfl _⟩
      · exact ⟨(by decide +kernel : finB .f32 0 = true), Nat.two_pow_pos _⟩ : ∃ (wv : Nat × Nat × Nat) (r : (Nat × Nat × Nat) × Bool) (l : Nat × Bool), (∀ w, Calls Try.prog 59 #[.int .i64 (Wn : Int), .int .i64 (Hn : Int), .int .i64 (k : Int)] w (WayR wv w)) ∧ (∀ n m q w, Calls Try.prog 70 #[.agg #[.float .f32 (pick .f32 wv.1 n), .float .f32 (pick .f32 wv.2.1 m), .float .f32 (pick .f32 wv.2.2 q)], .float .f32 (pick .f32 t tn)] w (WayB2 r w)) ∧
      (∀ xp n m q w, Var w xp #[.int .i64 (Wn : Int), .int .i64 (Hn : Int), .slice aP zP.length cP] → IsRowF .f32 w aP zP.length cP zP → Calls Try.prog 67 #[.pointer (some ⟨xp, 0, none⟩), .agg #[.float .f32 (pick .f32 r.1.1 n), .float .f32 (pick .f32 r.1.2.1 m), .float .f32 (pick .f32 r.1.2.2 q)]] w (RetF1 l w)) ∧ (((r.2 && l.2) = true → l.1 = fat L k) ∧ ((r.2 && l.2) = false → finB .f32 (fat L k) = false)) ∧ (finB .f32 l.1 = true ∧ l.1 < 2 ^ FloatKind.f32.format.width)))
  clear hv hf hres hln zf hfl hL hN ht
  go_enter Try.func28, Try.ntmps28
  go_wp2_with fail
  rw [HW.out]
  refine CI.out.mono ?_
  rintro _ _ ⟨m1, rfl, rfl⟩
  have bb_w1 := below_drewN (Below.refl w0.heap.size w0) m1
  have VV := Lib.hid (V1.out.keep bb_w1)
  have FF := Lib.hid (F1.out.below V1.out.lt bb_w1)
  have BB := Lib.hid (B0.out.trans (bb_w1.mono (by omega)))
  have UU := Lib.hid (V0.out.keep bb_w1)
  have RR := Lib.hid (RX.out.below bb_w1)
  clear bb_w1
  generalize World.drewN w0 m1 = w1 at *
  rw [← w1.drewN_zero]
  have zz : w.heap.size + 1 < w1.heap.size := VV.out.lt
  have zz2 : w.heap.size + 1 + 1 ≤ w1.heap.size := by omega
  have KS := Lib.hid (fun (w' : World) (hE : Below w1.heap.size w1 w') => (UU.out.keep hE).three)
  obtain ⟨i0, hinf, hz0, hz1, hz2⟩ := info_parts infoF2
  obtain ⟨d0, d1, d2⟩ := UU.out.three
  go_wp2_with (go_at_call 64; refine (HF.out _ _).mono ?_; rintro _ _ ⟨_, rfl, rfl⟩)
  clear d0 d1 d2
  refine (c_l02Blank _ _ _).mono ?_
  rintro _ w4 ⟨gu, rfl, b9, o9⟩
  have b : Below w1.heap.size w1 w4 := (below_drewN (Below.refl _ _) _).trans (b9.mono (by simp))
  have o : Own 26 w4 w1.heap.size (some ⟨gu, 0, none⟩) 0 0 [] := o9.mono (by simp)
  have O4 := Lib.hid o
  have hgu : w1.heap.size ≤ gu ∧ gu < w4.heap.size := o.in gu rfl
  have VZ := Lib.hid (VV.out.keep b)
  have FZ := Lib.hid (FF.out.below VV.out.lt b)
  have BZ := Lib.hid (BB.out.trans (b.mono (by omega)))
  have PX := Lib.hid (UU.out.keep b)
  have sz4 : w1.heap.size ≤ w4.heap.size := b.size
  clear b b9 o o9 KS
  go_wp2_with fail
  go_loopw [7] (fun i wr => ∃ (k : Nat) (a : Option Addr) (c : Nat) (zs : List Nat), k ≤ N ∧ i = .int .i64 (k : Int) ∧ Var wr w4.heap.size #[.int .i64 (Wn : Int), .int .i64 (Hn : Int), .slice a k c] ∧ Own 26 wr w1.heap.size a k c zs ∧ near zs (L.take k) ∧ (∀ j, j < k → finB .f32 (fat L j) = true) ∧ Below w1.heap.size w4 wr ∧ Free wr w4.heap.size ∧ blk a ≠ some w4.heap.size ∧ w4.heap.size + 1 ≤ wr.heap.size) (fun i _ => N - (intOf i).toNat)
  case atStart => exact ⟨0, _, 0, [], Nat.zero_le _, rfl, Var.new _ _ _, O4.out.alloc _, by simpa using near_nil, fun j hj => absurd hj (Nat.not_lt_zero _), (Below.refl _ _).alloc (by omega) _, Free.new _ _ _, (by simp [blk]; omega), by simp⟩
  case round =>
    obtain ⟨k, a, c, zs, hk, rfl, hV, hO, hnear, hfn, hBl, hfree, hne, zr⟩ := hrel
    have HV := Lib.hid hV
    have HO := Lib.hid hO
    have HNr := Lib.hid hnear
    have HFn := Lib.hid hfn
    have HB := Lib.hid hBl
    have HF5 := Lib.hid hfree
    have HNe := Lib.hid hne
    have PXr := Lib.hid (PX.out.below HB.out (by omega))
    have BR := Lib.hid (BZ.out.trans (HB.out.mono (by omega)))
    have RXr := Lib.hid (RRW.out.below BR.out)
    have VZr := Lib.hid (VZ.out.below HB.out (by omega))
    have FZr := Lib.hid (FZ.out.keep HB.out (by omega))
    clear hV hO hnear hfn hBl hfree hne
    have mw := MW.out
    have mk : IntKind.i64.wrap ((k : Int) + 1) = ((k + 1 : Nat) : Int) := by rw [show ((k : Int) + 1) = ((k + 1 : Nat) : Int) from by omega]; exact IntWalk.i64_in _ (by omega)
    obtain ⟨d0, d1, d2⟩ := PXr.out.three
    by_cases hlt : k < N
    · have hlt2 : (k : Int) < (N : Int) := by omega
      obtain ⟨wv, r, l, hC1, hC2, hC3, hRd, hlf⟩ := HRD.out k hlt
      have CW := Lib.hid hC1
      have CT := Lib.hid hC2
      have CL := Lib.hid hC3
      have HRd := Lib.hid hRd
      have HLf := Lib.hid hlf
      clear hC1 hC2 hC3 hRd hlf
      go_wp2_with fail
      clear d0 d1 d2
      refine (CW.out _).mono ?_
      rintro _ w2 ⟨n1, m1, q1, rfl, b2⟩
      go_wp2_with fail
      refine (CT.out n1 m1 q1 _).mono ?_
      rintro _ w3 ⟨n2, m2, q2, rfl, b3⟩
      have BE := Lib.hid (show Below wr.heap.size wr w3 from b2.trans (b3.mono b2.size))
      clear b2 b3
      go_wp2_with fail
      have BA : Below wr.heap.size wr (w3.alloc (Obj.cells #[.float .f32 (pick .f32 r.1.1 n2), .float .f32 (pick .f32 r.1.2.1 m2), .float .f32 (pick .f32 r.1.2.2 q2)] 36)) := BE.out.alloc BE.out.size _
      refine (CL.out _ n2 m2 q2 _ (PXr.out.keep BA) (RXr.out.below BA)).mono ?_
      rintro _ w6 ⟨nl, rfl, b6⟩
      have BE3 := Lib.hid (show Below wr.heap.size wr w6 from BA.trans (b6.mono BA.size))
      clear b6 BA
      have z5 : wr.heap.size ≤ w6.heap.size := BE3.out.size
      have HV3 := Lib.hid (HV.out.below BE3.out HV.out.lt)
      have HO3 := Lib.hid (HO.out.below BE3.out)
      have HB3 := Lib.hid (HB.out.trans (BE3.out.mono (by omega)))
      have HF3 := Lib.hid (HF5.out.below HV.out.lt BE3.out)
      have VZ3 := Lib.hid (VZr.out.below BE3.out VZr.out.lt)
      have FZ3 := Lib.hid (FZr.out.below VZr.out.lt BE3.out)
      have BR3 := Lib.hid (BR.out.trans (BE3.out.mono (by have := BR.out.size; omega)))
      obtain ⟨co0, co1, co2⟩ := HV3.out.three
      obtain ⟨q0, q1, q2⟩ := VZ3.out.three
      cases hr2 : r.2
      · have HR2 := Lib.hid hr2
        clear hr2
        have HN9 := Lib.hid (HNO.out k hlt (HRd.out.2 (by rw [HR2.out, Bool.false_and])))
        have f0 := FZ3.out 0
        have f1 := FZ3.out 1
        have f2 := FZ3.out 2
        go_wp2_with fail
        rw [HN9.out]
        refine bodyPost_ret (v := .tuple #[.agg #[.int .i64 0, .int .i64 0, .slice none 0 0], .bool false]) (by simp [results, Try.results28, q0, q1, q2, go_sem]) rfl (show RetP _ PRes.no _ _ _ from ⟨none, 0, rfl, Nat.zero_le _, ?_, Own.nil _ _ _⟩)
        repeat (first | exact BR3.out | exact Nat.le_refl _ | (refine Below.setCell ?_ ?_ _) | (refine below_drewN ?_ _) | (refine Below.alloc ?_ ?_ _) | (simp <;> omega))
      cases hl2 : l.2
      · have HR2 := Lib.hid hl2
        clear hl2 hr2
        have HN9 := Lib.hid (HNO.out k hlt (HRd.out.2 (by rw [HR2.out, Bool.and_false])))
        have f0 := FZ3.out 0
        have f1 := FZ3.out 1
        have f2 := FZ3.out 2
        go_wp2_with fail
        rw [HN9.out]
        refine bodyPost_ret (v := .tuple #[.agg #[.int .i64 0, .int .i64 0, .slice none 0 0], .bool false]) (by simp [results, Try.results28, q0, q1, q2, go_sem]) rfl (show RetP _ PRes.no _ _ _ from ⟨none, 0, rfl, Nat.zero_le _, ?_, Own.nil _ _ _⟩)
        repeat (first | exact BR3.out | exact Nat.le_refl _ | (refine Below.setCell ?_ ?_ _) | (refine below_drewN ?_ _) | (refine Below.alloc ?_ ?_ _) | (simp <;> omega))
      have HM := Lib.hid (HRd.out.1 (by rw [hr2, hl2]; rfl))
      clear hr2 hl2
      have hwfL : l.1 < 2 ^ FloatKind.f32.format.width := HLf.out.2
      rw [HM.out] at hwfL
      rw [HM.out]
      go_wp2_with (at_builtin; refine wpList_append_own _ rfl _ _ 22 rfl w1.heap.size 26 i0 (.float .f32 0) 1 4 Try.underlying22 hinf hz0 hz1 hz2 rfl (by decide) _ _ _ rfl ((HO3.out.alloc _).2.1) ⟨w6.heap.size, 0, none⟩ 1 1 [.float .f32 (pick .f32 (fat L k) nl)] rfl rfl (cell1_new w6 _ _ _ rfl) (by intro u hu; simp at hu; subst hu; rfl) (by unfold maxLen; omega) (by omega) (by simp; omega) ?_)
      intro v' w7 hown' hgrow _
      obtain ⟨a', c', rfl, hV2, hO2, hne2, hB2, hF2, hs2, hc2, hf2⟩ := own_round HV3.out HO3.out HB3.out (by omega) HF3.out HNe.out hown' hgrow (pick_wf hwfL nl)
      have GV := Lib.hid hV2
      have GO := Lib.hid hO2
      have GN := Lib.hid hne2
      have GB := Lib.hid hB2
      have GF := Lib.hid hF2
      clear hV2 hO2 hne2 hB2 hF2 hown' hgrow hwfL
      go_wp2_with fail
      go_roundw
      case rel => exact ⟨k + 1, a', c', _, by omega, by go_num, GV.out, GO.out, near_snoc HNr.out (by rw [HLen.out]; exact hlt) nl, fun j hj => (by rcases Nat.lt_succ_iff_lt_or_eq.1 hj with h | rfl; exact HFn.out j h; rw [← HM.out]; exact HLf.out.1), GB.out, GF.out, GN.out, by omega⟩
      case measure => simp [intOf]; omega
    · obtain rfl : k = N := by omega
      have HZ := Lib.hid (show near zs L by have h := HNr.out; rwa [List.take_of_length_le (by rw [HLen.out]; exact Nat.le_refl _)] at h)
      obtain ⟨hall, hyes⟩ := HYES.out HFn.out
      obtain rfl := near_eq HZ.out hall
      have HY := Lib.hid hyes
      clear hall hyes
      have hlt2 : ¬ ((k : Int) < (k : Int)) := by omega
      obtain ⟨cr0, cr1, cr2⟩ := VZr.out.three
      obtain ⟨co0, co1, co2⟩ := HV.out.three
      have f0 := FZr.out 0
      have f1 := FZr.out 1
      have f2 := FZr.out 2
      go_wp2_with fail
      have hrow : blk a ≠ some (w.heap.size + 1) := fun e => by have := HO.out.in _ e; omega
      rw [HY.out]
      refine bodyPost_ret (v := .tuple #[.agg #[.int .i64 (Wn : Int), .int .i64 (Hn : Int), .slice a k c], .bool true]) (by simp [results, Try.results28, cr0, cr1, cr2, co0, co1, co2, go_sem]) rfl (by exact ⟨a, c, by rw [HLen.out], by (show zs.length ≤ 1048576); rw [HLen.out]; omega, ((BR.out.setCell (by simp <;> omega) _).setCell (by simp <;> omega) _).setCell (by simp <;> omega) _, (((Own.re HLen.out.symm HO.out).setCell hrow _).setCell hrow _).setCell hrow _ |>.mono (by omega)⟩)

/-! ### nearest -/
theorem c_nearest (v : Int) (n c : Nat) (w : World) (j : Nat) (h1 : 1 ≤ n) (h2 : n ≤ 16) (hc : maxI 0 (minI ((n : Int) - 1) v) = (c : Int)) : Calls Try.prog 155 #[.int .i64 v, .int .i64 (n : Int)] (w.drewN j) (RetV (.int .i64 (c : Int)) w) := by
  unfold maxI minI at hc
  have HC := Lib.hid hc
  clear hc
  rcases Int.lt_or_le v 0 with hv0 | hv0
  · have hv1 : ¬ (0 : Int) ≤ v := by omega
    go_enter Try.func155, Try.ntmps155
    go_wp2_with fail
    all_goals
      go_ret
      refine ⟨_, ?_, rfl⟩
      refine congrArg (fun z => Ending.returned (Value.int .i64 z)) ?_
      have hc := HC.out
      first | (split at hc <;> split at hc <;> first | omega | (simp only [hv0, if_true] at *; omega)) | (split at hc <;> first | omega | (split at hc <;> omega) | (simp only [hv0, if_true] at *; omega))
  · have hv1 : ¬ v < 0 := by omega
    go_enter Try.func155, Try.ntmps155
    go_wp2_with fail
    all_goals
      go_ret
      refine ⟨_, ?_, rfl⟩
      refine congrArg (fun z => Ending.returned (Value.int .i64 z)) ?_
      have hc := HC.out
      first | (split at hc <;> split at hc <;> first | omega | (simp only [hv1, if_false] at *; omega)) | (split at hc <;> first | omega | (split at hc <;> omega) | (simp only [hv1, if_false] at *; omega))

/-! ### cellAt -/
theorem c_cellAt (v n cells : Nat) (w : World) (j : Nat) (h : Ft 163 v) (h1 : 1 ≤ cells) (h2 : cells ≤ 16) : Calls Try.prog 151 #[.float .f32 (pick .f32 v n), .int .i64 (cells : Int)] (w.drewN j) (RetV (.int .i64 ((downN (fop .mul .f32 v (floatOfInt .f32 (cells : Int))) (cells - 1) : Nat) : Int)) w) := by
  have hx := place_ft h h2
  have hc := (downN_num (last := cells - 1) hx.1).1
  have hcast : ((cells - 1 : Nat) : Int) = (cells : Int) - 1 := by omega
  rw [hcast] at hc
  have HT := Lib.hid (toInt32 hx.fin (whole_ft hx))
  have hp : ∀ n, pick .f32 (fop .mul .f32 v (floatOfInt .f32 (cells : Int))) n = fop .mul .f32 v (floatOfInt .f32 (cells : Int)) := fun n => pick_not hx.1 n
  have HC := Lib.hid hc.symm
  clear hx hc hcast
  generalize downN (fop .mul .f32 v (floatOfInt .f32 (cells : Int))) (cells - 1) = d at *
  go_enter Try.func151, Try.ntmps151
  go_wp2_with (first | (first | (refine wpList_fop rfl _ _ _ _ _ rfl _ _ _ rfl rfl (by decide) _ ?_; intro _ _) | (refine upon_fop _ _ _ _ _ (by decide) ?_; intro _ _)) | (refine wpList_ftoi32 rfl 26 2 _ rfl (Option.isSome_iff_exists.2 ⟨_, Try.underlying26⟩) .i64 Try.underlying2 _ _ rfl (by exact HT.out) ?_) | (refine upon_ftoi 26 2 .f32 .i64 _ _ (Option.isSome_iff_exists.2 ⟨_, Try.underlying26⟩) Try.underlying2 (by exact HT.out) ?_) | (go_at_call 155; refine (c_nearest _ _ d _ _ h1 h2 HC.out).mono ?_; rintro _ _ ⟨_, rfl, rfl⟩))
  go_ret
  exact ⟨_, rfl, rfl⟩

/-! ### cellAt0 -/
theorem c_cellAt0 (v n cells : Nat) (w : World) (h : Ft 163 v) (h1 : 1 ≤ cells) (h2 : cells ≤ 16) : Calls Try.prog 151 #[.float .f32 (pick .f32 v n), .int .i64 (cells : Int)] w (RetV (.int .i64 ((downN (fop .mul .f32 v (floatOfInt .f32 (cells : Int))) (cells - 1) : Nat) : Int)) w) := by
  have q := c_cellAt v n cells w 0 h h1 h2
  rwa [w.drewN_zero] at q
/-! ### flatAngle -/
theorem c_flatAngle (T n0 : Nat) (w : World) (j : Nat) : Calls Try.prog 154 #[.float .f64 (pick .f64 T n0)] (w.drewN j) (RetF .f64 (flatA T) w) := by
  go_enter Try.func154, Try.ntmps154
  go_wp2_with fail
  go_loopw [0, 6] (fun t k wr => ∃ i n m : Nat, i ≤ 3 ∧ t = .float .f64 (pick .f64 (iterT T i) n) ∧ k = .int .i64 i ∧ wr = w.drewN m) (fun _ k _ => 3 - (intOf k).toNat)
  case atStart => exact ⟨0, _, _, by omega, rfl, rfl, rfl⟩
  case round =>
    obtain ⟨i, n, m, hi, rfl, rfl, rfl⟩ := hrel
    by_cases hlt : i < 3
    · go_wp2_with (first | (first | (refine wpList_fop rfl _ _ _ _ _ rfl _ _ _ rfl rfl (by decide) _ ?_; intro _ _) | (refine upon_fop _ _ _ _ _ (by decide) ?_; intro _ _)) | (go_at_call 128; refine (c_Sqrt _ _ _ _).mono ?_; rintro _ _ ⟨_, _, rfl, rfl⟩))
      go_roundw
      case rel => exact ⟨i + 1, _, _, by omega, by rw [iterT_step]; rfl, by go_num, rfl⟩
      case measure => simp [intOf]; omega
    · obtain rfl : i = 3 := by omega
      clear hlt
      go_wp2_with (first | (refine wpList_fop rfl _ _ _ _ _ rfl _ _ _ rfl rfl (by decide) _ ?_; intro _ _) | (refine upon_fop _ _ _ _ _ (by decide) ?_; intro _ _))
      generalize hu : fop .mul .f64 (iterT T 3) (iterT T 3) = u
      have Hu := Lib.hid hu
      clear hu
      go_loopw [4, 5] (fun p k wr => ∃ i n m : Nat, i ≤ 8 ∧ p = .float .f64 (pick .f64 (aser u i) n) ∧ k = .float .f64 (odd i) ∧ wr = w.drewN m) (fun _ k _ => fpos k)
      case atStart => exact ⟨0, 0, _, by omega, by rw [pick_not (show isN .f64 (aser u 0) = false from (by decide +kernel : isN .f64 0 = false))]; rfl, by rw [show odd 0 = 4624633867356078080 from by decide +kernel], rfl⟩
      case round =>
        obtain ⟨i, n, m, hi, rfl, rfl, rfl⟩ := hrel
        by_cases hlt : i < 8
        · have ht := odd_test i hlt
          unfold one64 at ht
          have HN := Lib.hid (odd_next i hlt)
          have HL := Lib.hid (odd_lt i hlt)
          go_wp2_with (first | (refine wpList_fop rfl _ _ _ _ _ rfl _ _ _ rfl rfl (by decide) _ ?_; intro _ _) | (refine upon_fop _ _ _ _ _ (by decide) ?_; intro _ _))
          go_roundw
          case rel => exact ⟨i + 1, _, _, by omega, by rw [aser_step]; rfl, by have e := HN.out; rw [e, pick_not (odd_notN _)], rfl⟩
          case measure => have e := HN.out; rw [e, pick_not (odd_notN _)]; exact HL.out
        · obtain rfl : i = 8 := by omega
          have ht := odd_end
          unfold one64 at ht
          clear hlt
          go_wp2_with (first | (first | (refine wpList_fop rfl _ _ _ _ _ rfl _ _ _ rfl rfl (by decide) _ ?_; intro _ _) | (refine upon_fop _ _ _ _ _ (by decide) ?_; intro _ _)) | go_in)
          go_ret
          unfold flatA
          rw [Hu.out]
          exact ⟨_, _, rfl, rfl⟩
/-! ### IsNaN -/
theorem c_IsNaN (v n : Nat) (w : World) (j : Nat) : Calls Try.prog 140 #[.float .f64 (pick .f64 v n)] (w.drewN j) (RetV (.bool (isN .f64 v)) w) := by
  go_enter Try.func140, Try.ntmps140
  go_wp2
  go_ret
  exact ⟨_, rfl, rfl⟩
/-! ### IsInf0 -/
theorem c_IsInf0 (v n : Nat) (w : World) (j : Nat) (hv : v < 2 ^ FloatKind.f64.format.width) : Calls Try.prog 141 #[.float .f64 (pick .f64 v n), .int .i64 0] (w.drewN j) (RetV (.bool (FloatKind.f64.format.order (fabs .f64 v) 9218868437227405311 == some .gt)) w) := by
  go_enter Try.func141, Try.ntmps141
  go_wp2_with ((go_at_call 132; refine (c_Abs _ _ _ _ hv).mono ?_; rintro _ _ ⟨_, _, rfl, rfl⟩))
  go_ret
  exact ⟨_, rfl, rfl⟩
/-! ### isFinite64 -/
theorem c_isFinite64 (v n : Nat) (w : World) (j : Nat) (hv : v < 2 ^ FloatKind.f64.format.width) : Calls Try.prog 122 #[.float .f64 (pick .f64 v n)] (w.drewN j) (RetV (.bool (finB .f64 v)) w) := by
  go_enter Try.func122, Try.ntmps122
  go_wp2_with (first | (go_at_call 140; refine (c_IsNaN _ _ _ _).mono ?_; rintro _ _ ⟨_, rfl, rfl⟩) | (go_at_call 141; refine (c_IsInf0 _ _ _ _ hv).mono ?_; rintro _ _ ⟨_, rfl, rfl⟩))
  all_goals
    go_ret
    refine ⟨_, ?_, rfl⟩
    rw [← abs_gt_max]
    simp [*]
/-! ### iIsFinite -/
theorem c_iIsFinite (v n : Nat) (w : World) (j : Nat) : Calls Try.prog 85 #[.float .f32 (pick .f32 v n)] (w.drewN j) (RetV (.bool (finB .f32 v)) w) := by
  go_enter Try.func85, Try.ntmps85
  go_wp2_with (first | (refine wpList_cvU rfl 26 32 _ rfl (Option.isSome_iff_exists.2 ⟨_, Try.underlying26⟩) Try.underlying32 _ rfl _ ?_; intro _ _) | (go_at_call 122; refine (c_isFinite64 _ _ _ _ (cvU_lt _)).mono ?_; rintro _ _ ⟨_, rfl, rfl⟩))
  go_ret
  rw [← finB_cvU]
  exact ⟨_, rfl, rfl⟩
/-! ### f32from -/
@[go_sem] theorem e_f32from (n : Int) (w : World) : (callFunc 143 #[.int .u32 n]).run Try.prog w = .ok (.value (.float .f32 n.toNat)) w := by kernel_rfl
/-! ### notANumber -/
theorem c_notANumber (w : World) (j : Nat) : Calls Try.prog 131 #[] (w.drewN j) (RetV (.float .f32 2143289344) w) := by
  go_enter Try.func131, Try.ntmps131
  go_wp2
  go_ret
  exact ⟨_, rfl, rfl⟩
/-! ### iSineTurns0 -/
theorem c_NarrowNumber (v n : Nat) (w : World) (j : Nat) (hfit : Fits v) : Calls Try.prog 133 #[.float .f64 (pick .f64 v n)] (w.drewN j) (RetF .f32 (cvN v) w) := by
  have H := Lib.hid hfit
  clear hfit
  go_enter Try.func133, Try.ntmps133
  go_wp2_with ((refine wpList_cvN rfl 32 26 _ rfl (Option.isSome_iff_exists.2 ⟨_, Try.underlying32⟩) Try.underlying26 _ rfl _ (by rw [Fits_pick]; exact H.out) ?_; intro _ _))
  go_ret
  exact ⟨_, _, rfl, rfl⟩
/-! ### iAngleTurns -/
theorem c_iAngle_fff (y x ny nx : Nat) (w : World) (j : Nat) (fy : finB .f32 y = true) (fx : finB .f32 x = true)
    (hz1 : (FloatKind.f32.format.order y 0 == some .eq) = false ∨ ((FloatKind.f32.format.order y 0 == some .eq) = true ∧ (FloatKind.f32.format.order x 0 == some .eq) = false))
    (ho : (FloatKind.f64.format.order (fabs .f64 (cvU y)) (fabs .f64 (cvU x)) == some .gt) = false) (hlx : (FloatKind.f32.format.order x 0 == some .lt) = false) (hly : (FloatKind.f32.format.order y 0 == some .lt) = false)
    (HF : Hid (Fits (angW (cvU y) (cvU x)))) : Calls Try.prog 150 #[.float .f32 (pick .f32 y ny), .float .f32 (pick .f32 x nx)] (w.drewN j) (RetF .f32 (cvN (angW (cvU y) (cvU x))) w) := by
  have HW : Hid (angW (cvU y) (cvU x) = flatA (fop .quo .f64 (fabs .f64 (cvU y)) (fabs .f64 (cvU x)))) := by
    unfold Hid angW overB ltz quarter64 half64; rw [order_cv0, order_cv0]; simp only [ho, hlx, hly, if_true, if_false, Bool.false_eq_true]
  rw [HW.out] at HF ⊢
  rcases hz1 with hz1 | ⟨hz1, hz2⟩
  all_goals
    go_enter Try.func150, Try.ntmps150
    go_wp2_with (first | (refine wpList_cvU rfl 26 32 _ rfl (Option.isSome_iff_exists.2 ⟨_, Try.underlying26⟩) Try.underlying32 _ rfl _ ?_; intro _ _) | (first | (refine wpList_fop rfl _ _ _ _ _ rfl _ _ _ rfl rfl (by decide) _ ?_; intro _ _) | (refine upon_fop _ _ _ _ _ (by decide) ?_; intro _ _)) | (go_at_call 85; refine (c_iIsFinite _ _ _ _).mono ?_; rintro _ _ ⟨_, rfl, rfl⟩) | (go_at_call 132; refine (c_Abs _ _ _ _ (cvU_lt _)).mono ?_; rintro _ _ ⟨_, _, rfl, rfl⟩) | (go_at_call 154; refine (c_flatAngle _ _ _ _).mono ?_; rintro _ _ ⟨_, _, rfl, rfl⟩) | (go_at_call 133; refine (c_NarrowNumber _ _ _ _ HF.out).mono ?_; rintro _ _ ⟨_, _, rfl, rfl⟩))
    go_ret
    exact ⟨_, _, rfl, rfl⟩
theorem c_iAngle_fft (y x ny nx : Nat) (w : World) (j : Nat) (fy : finB .f32 y = true) (fx : finB .f32 x = true)
    (hz1 : (FloatKind.f32.format.order y 0 == some .eq) = false ∨ ((FloatKind.f32.format.order y 0 == some .eq) = true ∧ (FloatKind.f32.format.order x 0 == some .eq) = false))
    (ho : (FloatKind.f64.format.order (fabs .f64 (cvU y)) (fabs .f64 (cvU x)) == some .gt) = false) (hlx : (FloatKind.f32.format.order x 0 == some .lt) = false) (hly : (FloatKind.f32.format.order y 0 == some .lt) = true)
    (HF : Hid (Fits (angW (cvU y) (cvU x)))) : Calls Try.prog 150 #[.float .f32 (pick .f32 y ny), .float .f32 (pick .f32 x nx)] (w.drewN j) (RetF .f32 (cvN (angW (cvU y) (cvU x))) w) := by
  have HW : Hid (angW (cvU y) (cvU x) = fneg .f64 (flatA (fop .quo .f64 (fabs .f64 (cvU y)) (fabs .f64 (cvU x))))) := by
    unfold Hid angW overB ltz quarter64 half64; rw [order_cv0, order_cv0]; simp only [ho, hlx, hly, if_true, if_false, Bool.false_eq_true]
  rw [HW.out] at HF ⊢
  rcases hz1 with hz1 | ⟨hz1, hz2⟩
  all_goals
    go_enter Try.func150, Try.ntmps150
    go_wp2_with (first | (refine wpList_cvU rfl 26 32 _ rfl (Option.isSome_iff_exists.2 ⟨_, Try.underlying26⟩) Try.underlying32 _ rfl _ ?_; intro _ _) | (first | (refine wpList_fop rfl _ _ _ _ _ rfl _ _ _ rfl rfl (by decide) _ ?_; intro _ _) | (refine upon_fop _ _ _ _ _ (by decide) ?_; intro _ _)) | (go_at_call 85; refine (c_iIsFinite _ _ _ _).mono ?_; rintro _ _ ⟨_, rfl, rfl⟩) | (go_at_call 132; refine (c_Abs _ _ _ _ (cvU_lt _)).mono ?_; rintro _ _ ⟨_, _, rfl, rfl⟩) | (go_at_call 154; refine (c_flatAngle _ _ _ _).mono ?_; rintro _ _ ⟨_, _, rfl, rfl⟩) | (go_at_call 133; refine (c_NarrowNumber _ _ _ _ HF.out).mono ?_; rintro _ _ ⟨_, _, rfl, rfl⟩))
    go_ret
    exact ⟨_, _, rfl, rfl⟩
theorem c_iAngle_ftf (y x ny nx : Nat) (w : World) (j : Nat) (fy : finB .f32 y = true) (fx : finB .f32 x = true)
    (hz1 : (FloatKind.f32.format.order y 0 == some .eq) = false ∨ ((FloatKind.f32.format.order y 0 == some .eq) = true ∧ (FloatKind.f32.format.order x 0 == some .eq) = false))
    (ho : (FloatKind.f64.format.order (fabs .f64 (cvU y)) (fabs .f64 (cvU x)) == some .gt) = false) (hlx : (FloatKind.f32.format.order x 0 == some .lt) = true) (hly : (FloatKind.f32.format.order y 0 == some .lt) = false)
    (HF : Hid (Fits (angW (cvU y) (cvU x)))) : Calls Try.prog 150 #[.float .f32 (pick .f32 y ny), .float .f32 (pick .f32 x nx)] (w.drewN j) (RetF .f32 (cvN (angW (cvU y) (cvU x))) w) := by
  have HW : Hid (angW (cvU y) (cvU x) = fop .sub .f64 4602678819172646912 (flatA (fop .quo .f64 (fabs .f64 (cvU y)) (fabs .f64 (cvU x))))) := by
    unfold Hid angW overB ltz quarter64 half64; rw [order_cv0, order_cv0]; simp only [ho, hlx, hly, if_true, if_false, Bool.false_eq_true]
  rw [HW.out] at HF ⊢
  rcases hz1 with hz1 | ⟨hz1, hz2⟩
  all_goals
    go_enter Try.func150, Try.ntmps150
    go_wp2_with (first | (refine wpList_cvU rfl 26 32 _ rfl (Option.isSome_iff_exists.2 ⟨_, Try.underlying26⟩) Try.underlying32 _ rfl _ ?_; intro _ _) | (first | (refine wpList_fop rfl _ _ _ _ _ rfl _ _ _ rfl rfl (by decide) _ ?_; intro _ _) | (refine upon_fop _ _ _ _ _ (by decide) ?_; intro _ _)) | (go_at_call 85; refine (c_iIsFinite _ _ _ _).mono ?_; rintro _ _ ⟨_, rfl, rfl⟩) | (go_at_call 132; refine (c_Abs _ _ _ _ (cvU_lt _)).mono ?_; rintro _ _ ⟨_, _, rfl, rfl⟩) | (go_at_call 154; refine (c_flatAngle _ _ _ _).mono ?_; rintro _ _ ⟨_, _, rfl, rfl⟩) | (go_at_call 133; refine (c_NarrowNumber _ _ _ _ HF.out).mono ?_; rintro _ _ ⟨_, _, rfl, rfl⟩))
    go_ret
    exact ⟨_, _, rfl, rfl⟩
theorem c_iAngle_ftt (y x ny nx : Nat) (w : World) (j : Nat) (fy : finB .f32 y = true) (fx : finB .f32 x = true)
    (hz1 : (FloatKind.f32.format.order y 0 == some .eq) = false ∨ ((FloatKind.f32.format.order y 0 == some .eq) = true ∧ (FloatKind.f32.format.order x 0 == some .eq) = false))
    (ho : (FloatKind.f64.format.order (fabs .f64 (cvU y)) (fabs .f64 (cvU x)) == some .gt) = false) (hlx : (FloatKind.f32.format.order x 0 == some .lt) = true) (hly : (FloatKind.f32.format.order y 0 == some .lt) = true)
    (HF : Hid (Fits (angW (cvU y) (cvU x)))) : Calls Try.prog 150 #[.float .f32 (pick .f32 y ny), .float .f32 (pick .f32 x nx)] (w.drewN j) (RetF .f32 (cvN (angW (cvU y) (cvU x))) w) := by
  have HW : Hid (angW (cvU y) (cvU x) = fneg .f64 (fop .sub .f64 4602678819172646912 (flatA (fop .quo .f64 (fabs .f64 (cvU y)) (fabs .f64 (cvU x)))))) := by
    unfold Hid angW overB ltz quarter64 half64; rw [order_cv0, order_cv0]; simp only [ho, hlx, hly, if_true, if_false, Bool.false_eq_true]
  rw [HW.out] at HF ⊢
  rcases hz1 with hz1 | ⟨hz1, hz2⟩
  all_goals
    go_enter Try.func150, Try.ntmps150
    go_wp2_with (first | (refine wpList_cvU rfl 26 32 _ rfl (Option.isSome_iff_exists.2 ⟨_, Try.underlying26⟩) Try.underlying32 _ rfl _ ?_; intro _ _) | (first | (refine wpList_fop rfl _ _ _ _ _ rfl _ _ _ rfl rfl (by decide) _ ?_; intro _ _) | (refine upon_fop _ _ _ _ _ (by decide) ?_; intro _ _)) | (go_at_call 85; refine (c_iIsFinite _ _ _ _).mono ?_; rintro _ _ ⟨_, rfl, rfl⟩) | (go_at_call 132; refine (c_Abs _ _ _ _ (cvU_lt _)).mono ?_; rintro _ _ ⟨_, _, rfl, rfl⟩) | (go_at_call 154; refine (c_flatAngle _ _ _ _).mono ?_; rintro _ _ ⟨_, _, rfl, rfl⟩) | (go_at_call 133; refine (c_NarrowNumber _ _ _ _ HF.out).mono ?_; rintro _ _ ⟨_, _, rfl, rfl⟩))
    go_ret
    exact ⟨_, _, rfl, rfl⟩
theorem c_iAngle_tff (y x ny nx : Nat) (w : World) (j : Nat) (fy : finB .f32 y = true) (fx : finB .f32 x = true)
    (hz1 : (FloatKind.f32.format.order y 0 == some .eq) = false ∨ ((FloatKind.f32.format.order y 0 == some .eq) = true ∧ (FloatKind.f32.format.order x 0 == some .eq) = false))
    (ho : (FloatKind.f64.format.order (fabs .f64 (cvU y)) (fabs .f64 (cvU x)) == some .gt) = true) (hlx : (FloatKind.f32.format.order x 0 == some .lt) = false) (hly : (FloatKind.f32.format.order y 0 == some .lt) = false)
    (HF : Hid (Fits (angW (cvU y) (cvU x)))) : Calls Try.prog 150 #[.float .f32 (pick .f32 y ny), .float .f32 (pick .f32 x nx)] (w.drewN j) (RetF .f32 (cvN (angW (cvU y) (cvU x))) w) := by
  have HW : Hid (angW (cvU y) (cvU x) = fop .sub .f64 4598175219545276416 (flatA (fop .quo .f64 (fabs .f64 (cvU x)) (fabs .f64 (cvU y))))) := by
    unfold Hid angW overB ltz quarter64 half64; rw [order_cv0, order_cv0]; simp only [ho, hlx, hly, if_true, if_false, Bool.false_eq_true]
  rw [HW.out] at HF ⊢
  rcases hz1 with hz1 | ⟨hz1, hz2⟩
  all_goals
    go_enter Try.func150, Try.ntmps150
    go_wp2_with (first | (refine wpList_cvU rfl 26 32 _ rfl (Option.isSome_iff_exists.2 ⟨_, Try.underlying26⟩) Try.underlying32 _ rfl _ ?_; intro _ _) | (first | (refine wpList_fop rfl _ _ _ _ _ rfl _ _ _ rfl rfl (by decide) _ ?_; intro _ _) | (refine upon_fop _ _ _ _ _ (by decide) ?_; intro _ _)) | (go_at_call 85; refine (c_iIsFinite _ _ _ _).mono ?_; rintro _ _ ⟨_, rfl, rfl⟩) | (go_at_call 132; refine (c_Abs _ _ _ _ (cvU_lt _)).mono ?_; rintro _ _ ⟨_, _, rfl, rfl⟩) | (go_at_call 154; refine (c_flatAngle _ _ _ _).mono ?_; rintro _ _ ⟨_, _, rfl, rfl⟩) | (go_at_call 133; refine (c_NarrowNumber _ _ _ _ HF.out).mono ?_; rintro _ _ ⟨_, _, rfl, rfl⟩))
    go_ret
    exact ⟨_, _, rfl, rfl⟩
theorem c_iAngle_tft (y x ny nx : Nat) (w : World) (j : Nat) (fy : finB .f32 y = true) (fx : finB .f32 x = true)
    (hz1 : (FloatKind.f32.format.order y 0 == some .eq) = false ∨ ((FloatKind.f32.format.order y 0 == some .eq) = true ∧ (FloatKind.f32.format.order x 0 == some .eq) = false))
    (ho : (FloatKind.f64.format.order (fabs .f64 (cvU y)) (fabs .f64 (cvU x)) == some .gt) = true) (hlx : (FloatKind.f32.format.order x 0 == some .lt) = false) (hly : (FloatKind.f32.format.order y 0 == some .lt) = true)
    (HF : Hid (Fits (angW (cvU y) (cvU x)))) : Calls Try.prog 150 #[.float .f32 (pick .f32 y ny), .float .f32 (pick .f32 x nx)] (w.drewN j) (RetF .f32 (cvN (angW (cvU y) (cvU x))) w) := by
  have HW : Hid (angW (cvU y) (cvU x) = fneg .f64 (fop .sub .f64 4598175219545276416 (flatA (fop .quo .f64 (fabs .f64 (cvU x)) (fabs .f64 (cvU y)))))) := by
    unfold Hid angW overB ltz quarter64 half64; rw [order_cv0, order_cv0]; simp only [ho, hlx, hly, if_true, if_false, Bool.false_eq_true]
  rw [HW.out] at HF ⊢
  rcases hz1 with hz1 | ⟨hz1, hz2⟩
  all_goals
    go_enter Try.func150, Try.ntmps150
    go_wp2_with (first | (refine wpList_cvU rfl 26 32 _ rfl (Option.isSome_iff_exists.2 ⟨_, Try.underlying26⟩) Try.underlying32 _ rfl _ ?_; intro _ _) | (first | (refine wpList_fop rfl _ _ _ _ _ rfl _ _ _ rfl rfl (by decide) _ ?_; intro _ _) | (refine upon_fop _ _ _ _ _ (by decide) ?_; intro _ _)) | (go_at_call 85; refine (c_iIsFinite _ _ _ _).mono ?_; rintro _ _ ⟨_, rfl, rfl⟩) | (go_at_call 132; refine (c_Abs _ _ _ _ (cvU_lt _)).mono ?_; rintro _ _ ⟨_, _, rfl, rfl⟩) | (go_at_call 154; refine (c_flatAngle _ _ _ _).mono ?_; rintro _ _ ⟨_, _, rfl, rfl⟩) | (go_at_call 133; refine (c_NarrowNumber _ _ _ _ HF.out).mono ?_; rintro _ _ ⟨_, _, rfl, rfl⟩))
    go_ret
    exact ⟨_, _, rfl, rfl⟩
theorem c_iAngle_ttf (y x ny nx : Nat) (w : World) (j : Nat) (fy : finB .f32 y = true) (fx : finB .f32 x = true)
    (hz1 : (FloatKind.f32.format.order y 0 == some .eq) = false ∨ ((FloatKind.f32.format.order y 0 == some .eq) = true ∧ (FloatKind.f32.format.order x 0 == some .eq) = false))
    (ho : (FloatKind.f64.format.order (fabs .f64 (cvU y)) (fabs .f64 (cvU x)) == some .gt) = true) (hlx : (FloatKind.f32.format.order x 0 == some .lt) = true) (hly : (FloatKind.f32.format.order y 0 == some .lt) = false)
    (HF : Hid (Fits (angW (cvU y) (cvU x)))) : Calls Try.prog 150 #[.float .f32 (pick .f32 y ny), .float .f32 (pick .f32 x nx)] (w.drewN j) (RetF .f32 (cvN (angW (cvU y) (cvU x))) w) := by
  have HW : Hid (angW (cvU y) (cvU x) = fop .sub .f64 4602678819172646912 (fop .sub .f64 4598175219545276416 (flatA (fop .quo .f64 (fabs .f64 (cvU x)) (fabs .f64 (cvU y)))))) := by
    unfold Hid angW overB ltz quarter64 half64; rw [order_cv0, order_cv0]; simp only [ho, hlx, hly, if_true, if_false, Bool.false_eq_true]
  rw [HW.out] at HF ⊢
  rcases hz1 with hz1 | ⟨hz1, hz2⟩
  all_goals
    go_enter Try.func150, Try.ntmps150
    go_wp2_with (first | (refine wpList_cvU rfl 26 32 _ rfl (Option.isSome_iff_exists.2 ⟨_, Try.underlying26⟩) Try.underlying32 _ rfl _ ?_; intro _ _) | (first | (refine wpList_fop rfl _ _ _ _ _ rfl _ _ _ rfl rfl (by decide) _ ?_; intro _ _) | (refine upon_fop _ _ _ _ _ (by decide) ?_; intro _ _)) | (go_at_call 85; refine (c_iIsFinite _ _ _ _).mono ?_; rintro _ _ ⟨_, rfl, rfl⟩) | (go_at_call 132; refine (c_Abs _ _ _ _ (cvU_lt _)).mono ?_; rintro _ _ ⟨_, _, rfl, rfl⟩) | (go_at_call 154; refine (c_flatAngle _ _ _ _).mono ?_; rintro _ _ ⟨_, _, rfl, rfl⟩) | (go_at_call 133; refine (c_NarrowNumber _ _ _ _ HF.out).mono ?_; rintro _ _ ⟨_, _, rfl, rfl⟩))
    go_ret
    exact ⟨_, _, rfl, rfl⟩
theorem c_iAngle_ttt (y x ny nx : Nat) (w : World) (j : Nat) (fy : finB .f32 y = true) (fx : finB .f32 x = true)
    (hz1 : (FloatKind.f32.format.order y 0 == some .eq) = false ∨ ((FloatKind.f32.format.order y 0 == some .eq) = true ∧ (FloatKind.f32.format.order x 0 == some .eq) = false))
    (ho : (FloatKind.f64.format.order (fabs .f64 (cvU y)) (fabs .f64 (cvU x)) == some .gt) = true) (hlx : (FloatKind.f32.format.order x 0 == some .lt) = true) (hly : (FloatKind.f32.format.order y 0 == some .lt) = true)
    (HF : Hid (Fits (angW (cvU y) (cvU x)))) : Calls Try.prog 150 #[.float .f32 (pick .f32 y ny), .float .f32 (pick .f32 x nx)] (w.drewN j) (RetF .f32 (cvN (angW (cvU y) (cvU x))) w) := by
  have HW : Hid (angW (cvU y) (cvU x) = fneg .f64 (fop .sub .f64 4602678819172646912 (fop .sub .f64 4598175219545276416 (flatA (fop .quo .f64 (fabs .f64 (cvU x)) (fabs .f64 (cvU y))))))) := by
    unfold Hid angW overB ltz quarter64 half64; rw [order_cv0, order_cv0]; simp only [ho, hlx, hly, if_true, if_false, Bool.false_eq_true]
  rw [HW.out] at HF ⊢
  rcases hz1 with hz1 | ⟨hz1, hz2⟩
  all_goals
    go_enter Try.func150, Try.ntmps150
    go_wp2_with (first | (refine wpList_cvU rfl 26 32 _ rfl (Option.isSome_iff_exists.2 ⟨_, Try.underlying26⟩) Try.underlying32 _ rfl _ ?_; intro _ _) | (first | (refine wpList_fop rfl _ _ _ _ _ rfl _ _ _ rfl rfl (by decide) _ ?_; intro _ _) | (refine upon_fop _ _ _ _ _ (by decide) ?_; intro _ _)) | (go_at_call 85; refine (c_iIsFinite _ _ _ _).mono ?_; rintro _ _ ⟨_, rfl, rfl⟩) | (go_at_call 132; refine (c_Abs _ _ _ _ (cvU_lt _)).mono ?_; rintro _ _ ⟨_, _, rfl, rfl⟩) | (go_at_call 154; refine (c_flatAngle _ _ _ _).mono ?_; rintro _ _ ⟨_, _, rfl, rfl⟩) | (go_at_call 133; refine (c_NarrowNumber _ _ _ _ HF.out).mono ?_; rintro _ _ ⟨_, _, rfl, rfl⟩))
    go_ret
    exact ⟨_, _, rfl, rfl⟩
theorem c_iAngleTurns (y x ny nx : Nat) (w : World) (j : Nat) : Calls Try.prog 150 #[.float .f32 (pick .f32 y ny), .float .f32 (pick .f32 x nx)] (w.drewN j) (RetF .f32 (angT y x) w) := by
  cases hf : (finB .f32 y && finB .f32 x)
  · have e : angT y x = qn .f32 := by unfold angT; rw [hf, if_neg (by decide)]
    obtain ⟨n0, hn0⟩ := nanOf_onto .f32 2143289344 (by decide +kernel) (by decide +kernel)
    have H := Lib.hid hn0
    clear hn0
    rw [e]
    cases fy : finB .f32 y
    · go_enter Try.func150, Try.ntmps150
      go_wp2_with (first | (go_at_call 85; refine (c_iIsFinite _ _ _ _).mono ?_; rintro _ _ ⟨_, rfl, rfl⟩) | (go_at_call 131; refine (c_notANumber _ _).mono ?_; rintro _ _ ⟨_, rfl, rfl⟩))
      go_ret
      exact ⟨n0, _, by simp only [pick, isN_qn, if_true]; rw [← H.out]; rfl, rfl⟩
    · have fx : finB .f32 x = false := by rw [fy] at hf; exact hf
      clear hf
      go_enter Try.func150, Try.ntmps150
      go_wp2_with (first | (go_at_call 85; refine (c_iIsFinite _ _ _ _).mono ?_; rintro _ _ ⟨_, rfl, rfl⟩) | (go_at_call 131; refine (c_notANumber _ _).mono ?_; rintro _ _ ⟨_, rfl, rfl⟩))
      go_ret
      exact ⟨n0, _, by simp only [pick, isN_qn, if_true]; rw [← H.out]; rfl, rfl⟩
  · have hf2 := Bool.and_eq_true_iff.1 hf
    cases hz : (zeroB y && zeroB x)
    · have e : angT y x = cvN (angW (cvU y) (cvU x)) := by unfold angT; rw [hf, if_pos rfl, hz, if_neg (by decide)]
      have HF : Hid (Fits (angW (cvU y) (cvU x))) := ang_fits hf2.1 hf2.2 hz
      have hz1 : (FloatKind.f32.format.order y 0 == some .eq) = false ∨ ((FloatKind.f32.format.order y 0 == some .eq) = true ∧ (FloatKind.f32.format.order x 0 == some .eq) = false) := by
        cases h : (FloatKind.f32.format.order y 0 == some .eq)
        · exact .inl rfl
        · right; refine ⟨rfl, ?_⟩
          have hz' : ((FloatKind.f32.format.order y 0 == some .eq) && (FloatKind.f32.format.order x 0 == some .eq)) = false := hz
          rw [h] at hz'; exact hz'
      rw [e]
      cases ho : (FloatKind.f64.format.order (fabs .f64 (cvU y)) (fabs .f64 (cvU x)) == some .gt) <;> cases hlx : (FloatKind.f32.format.order x 0 == some .lt) <;> cases hly : (FloatKind.f32.format.order y 0 == some .lt)
      · exact c_iAngle_fff y x ny nx w j hf2.1 hf2.2 hz1 ho hlx hly HF
      · exact c_iAngle_fft y x ny nx w j hf2.1 hf2.2 hz1 ho hlx hly HF
      · exact c_iAngle_ftf y x ny nx w j hf2.1 hf2.2 hz1 ho hlx hly HF
      · exact c_iAngle_ftt y x ny nx w j hf2.1 hf2.2 hz1 ho hlx hly HF
      · exact c_iAngle_tff y x ny nx w j hf2.1 hf2.2 hz1 ho hlx hly HF
      · exact c_iAngle_tft y x ny nx w j hf2.1 hf2.2 hz1 ho hlx hly HF
      · exact c_iAngle_ttf y x ny nx w j hf2.1 hf2.2 hz1 ho hlx hly HF
      · exact c_iAngle_ttt y x ny nx w j hf2.1 hf2.2 hz1 ho hlx hly HF
    · have e : angT y x = 0 := by unfold angT; rw [hf, if_pos rfl, hz, if_pos rfl]
      have hz2 := Bool.and_eq_true_iff.1 hz
      have z1 : (FloatKind.f32.format.order y 0 == some .eq) = true := hz2.1
      have z2 : (FloatKind.f32.format.order x 0 == some .eq) = true := hz2.2
      have f1 := hf2.1
      have f2 := hf2.2
      rw [e]
      clear hz2 hz hf hf2
      go_enter Try.func150, Try.ntmps150
      go_wp2_with (first | (go_at_call 85; refine (c_iIsFinite _ _ _ _).mono ?_; rintro _ _ ⟨_, rfl, rfl⟩) | (go_at_call 131; refine (c_notANumber _ _).mono ?_; rintro _ _ ⟨_, rfl, rfl⟩))
      go_ret
      exact ⟨0, _, by rw [pick_not (show isN .f32 0 = false by decide +kernel)]; rfl, rfl⟩
/-! ### iRoot -/
theorem c_iRoot (v n : Nat) (w : World) (j : Nat) : Calls Try.prog 126 #[.float .f32 (pick .f32 v n)] (w.drewN j) (RetF .f32 (cvN (fsqrt (cvU v))) w) := by
  have HF := Lib.hid (root_fits v)
  go_enter Try.func126, Try.ntmps126
  go_wp2_with (first | (refine wpList_cvU rfl 26 32 _ rfl (Option.isSome_iff_exists.2 ⟨_, Try.underlying26⟩) Try.underlying32 _ rfl _ ?_; intro _ _) | (go_at_call 128; refine (c_Sqrt _ _ _ _).mono ?_; rintro _ _ ⟨_, _, rfl, rfl⟩) | (go_at_call 133; refine (c_NarrowNumber _ _ _ _ HF.out).mono ?_; rintro _ _ ⟨_, _, rfl, rfl⟩))
  go_ret
  exact ⟨_, _, rfl, rfl⟩
/-! ### areFinite -/
theorem c_areFinite (a : Option Addr) (len cap : Nat) (zs : List Nat) (w : World) (j0 : Nat) (hr : IsRowF .f32 w a len cap zs) : Calls Try.prog 81 #[.slice a len cap] (w.drewN j0) (RetV (.bool (finL zs)) w) := by
  obtain ⟨h1, h2, h3, h4, h5⟩ := hr
  unfold maxLen at h3
  have H1 := Lib.hid h1
  clear h1
  go_enter Try.func81, Try.ntmps81
  go_wp2
  go_loopw [4, 7] (fun _ i wr => ∃ k m : Nat, k ≤ len ∧ i = .int .i64 k ∧ wr = w.drewN m ∧ finL (zs.take k) = true) (fun _ i _ => len - (intOf i).toNat)
  case atStart => exact ⟨0, j0, Nat.zero_le _, rfl, rfl, rfl⟩
  case round =>
    obtain ⟨k, m, hk, rfl, rfl, hfin⟩ := hrel
    have HFin := Lib.hid hfin
    clear hfin
    by_cases hlt : k < len
    · rcases h5 with h5 | ⟨b, off, rfl, hbl, hc⟩
      · omega
      have hcell : w.cell? ⟨b, off + k, none⟩ = some (.float .f32 (fat zs k)) := hc k hlt
      obtain ⟨n, hn⟩ := pick0 .f32 (fat zs k) (lt_of_wf (h4 _ (by unfold fat; rw [List.getD, List.getElem?_eq_getElem (by have := H1.out; omega)]; exact List.getElem_mem _)))
      rw [hn] at hcell
      have HS := Lib.hid (finL_snoc zs k (by have := H1.out; omega))
      cases hf : finB .f32 (fat zs k)
      · have HO := Lib.hid (finL_of zs k (by have := H1.out; omega) hf)
        clear hc h4 hn
        go_wp2_with ((go_at_call 85; refine (c_iIsFinite _ _ _ _).mono ?_; rintro _ _ ⟨_, rfl, rfl⟩))
        go_ret
        exact ⟨_, by rw [HO.out]; rfl, rfl⟩
      · have HF := Lib.hid hf
        clear hc h4 hn
        go_wp2_with ((go_at_call 85; refine (c_iIsFinite _ _ _ _).mono ?_; rintro _ _ ⟨_, rfl, rfl⟩))
        go_roundw
        case rel => exact ⟨k + 1, _, by omega, by go_num, rfl, by rw [HS.out, HFin.out, HF.out]; rfl⟩
        case measure => simp [intOf]; omega
    · have e : zs.take k = zs := List.take_of_length_le (by have := H1.out; omega)
      have HE := Lib.hid e
      clear h5 h4 e
      go_wp2
      go_ret
      exact ⟨_, by have h := HFin.out; rw [HE.out] at h; rw [h]; rfl, rfl⟩
/-! ### areFinN -/
theorem c_areFinW (a : Option Addr) (len cap : Nat) (zs : List Nat) (w : World) (hr : IsRowF .f32 w a len cap zs) : Calls Try.prog 81 #[.slice a len cap] w (RetV (.bool (finL zs)) w) := by
  have h := c_areFinite a len cap zs w 0 hr
  rwa [w.drewN_zero] at h
theorem row_new (w : World) (b : Nat) (vs : List Nat) (T : TypeId) (hb : b = w.heap.size) (hl : vs.length ≤ 1000) (hwf : ∀ x ∈ vs, (Lit.float .f32 x).wf = true) : IsRowF .f32 (w.alloc (.cells (fl .f32 vs).toArray T)) (some ⟨b, 0, none⟩) vs.length vs.length vs := by
  subst hb
  exact rowF_of_block (heap_alloc_new w _) (by unfold maxLen; omega) hwf

/-! ### wayEq -/
theorem eqWay0 (x0 x1 x2 : Nat) (w : World) : (Op.equalIn 10000 36 (.agg #[.float .f32 x0, .float .f32 x1, .float .f32 x2]) (.agg #[.float .f32 0, .float .f32 0, .float .f32 0])).run Try.prog w = .ok ((FloatKind.f32.format.order x0 0 == some .eq) && (FloatKind.f32.format.order x1 0 == some .eq) && (FloatKind.f32.format.order x2 0 == some .eq)) w := by
  have u3 := Try.underlying26
  rw [show (10000 : Nat) = 9999 + 1 from rfl, run_equalIn_struct _ _ _ _ _ (by kernel_rfl) (by kernel_rfl)]
  have hE : ∀ (x : Nat) (w : World), (Op.equalIn 9999 26 (.float .f32 x) (.float .f32 0)).run Try.prog w = .ok (FloatKind.f32.format.order x 0 == some .eq) w := fun x w => by
    rw [show (9999 : Nat) = 9998 + 1 from rfl, Op.equalIn]
    simp [run_underlying u3, Op.floatEq]
  go_simp
  by_cases h0 : FloatKind.f32.format.order x0 0 = some Ordering.eq
  case neg => simp [h0]
  by_cases h1 : FloatKind.f32.format.order x1 0 = some Ordering.eq
  case neg => simp [h0, h1]
  by_cases h2 : FloatKind.f32.format.order x2 0 = some Ordering.eq
  case neg => simp [h0, h1, h2]
  simp [h0, h1, h2]
/-! ### iIsWay -/
theorem c_iIsWay (r n g m b k : Nat) (w : World) (hr : r < 2 ^ FloatKind.f32.format.width) (hg : g < 2 ^ FloatKind.f32.format.width) (hb : b < 2 ^ FloatKind.f32.format.width) : Calls Try.prog 125 #[.agg #[.float .f32 (pick .f32 r n), .float .f32 (pick .f32 g m), .float .f32 (pick .f32 b k)]] w (RetB (.bool (wayB r g b)) w) := by
  have AF := Lib.hid (fun (w : World) (z : Nat) (hz : z = w.heap.size) => @id (Calls Try.prog 81 #[.slice (some ⟨z, 0, none⟩) 3 3] (w.alloc (.cells #[.float .f32 (pick .f32 r n), .float .f32 (pick .f32 g m), .float .f32 (pick .f32 b k)] 26)) (RetV (.bool (colB r g b)) (w.alloc (.cells #[.float .f32 (pick .f32 r n), .float .f32 (pick .f32 g m), .float .f32 (pick .f32 b k)] 26)))) (by
    have h := c_areFinW _ _ _ _ _ (row_new w z [pick .f32 r n, pick .f32 g m, pick .f32 b k] 26 hz (by simp) (by intro x hx; simp at hx; rcases hx with rfl | rfl | rfl <;> exact pick_wf (by assumption) _))
    rwa [fin3] at h))
  have EQ := eqWay0 (pick .f32 r n) (pick .f32 g m) (pick .f32 b k)
  simp only [order_pick_l] at EQ
  unfold wayB nzB bne
  generalize colB r g b = q at *
  generalize hw0 : w.alloc (Obj.cells #[.float .f32 (pick .f32 r n), .float .f32 (pick .f32 g m), .float .f32 (pick .f32 b k)] 36) = w0
  have X0 : Var w0 w.heap.size #[.float .f32 (pick .f32 r n), .float .f32 (pick .f32 g m), .float .f32 (pick .f32 b k)] := by subst hw0; exact Var.new _ _ _
  have X1 : Below w.heap.size w w0 := by subst hw0; exact (Below.refl _ _).alloc (Nat.le_refl _) _
  have SZ := Lib.hid (show w0.heap.size = w.heap.size + 1 from by subst hw0; simp)
  have HW := Lib.hid hw0
  have B0 := Lib.hid X1
  have V0 := Lib.hid X0
  obtain ⟨q0, q1, q2⟩ := X0.three
  clear hw0 X0 X1
  cases h1 : (FloatKind.f32.format.order r 0 == some .eq) <;> cases h2 : (FloatKind.f32.format.order g 0 == some .eq) <;> cases h3 : (FloatKind.f32.format.order b 0 == some .eq)
  all_goals
    simp only [h1, h2, h3, Bool.true_and, Bool.false_and, Bool.and_false, Bool.and_true] at EQ
    go_enter Try.func125, Try.ntmps125
    go_wp2_with fail
    rw [HW.out]
    go_wp2_with fail
    first
      | (refine (AF.out _ _ (by rw [SZ.out])).mono ?_
         rintro _ _ ⟨m1, rfl, rfl⟩
         go_wp2_with fail
         go_ret
         exact ⟨by simp, below_drewN (B0.out.alloc (B0.out.size) _) _⟩)
      | (go_ret; exact ⟨by simp, B0.out⟩)

/-! ### pixelOfS -/
theorem c_pixelOfS (Wn Hn : Nat) (ar an ag am ab ak : Nat) (w : World) (hW1 : 1 ≤ Wn) (hW2 : Wn ≤ 16) (hH1 : 1 ≤ Hn) (hH2 : Hn ≤ 16) (har : ar < 2 ^ FloatKind.f32.format.width) (hag : ag < 2 ^ FloatKind.f32.format.width) (hab : ab < 2 ^ FloatKind.f32.format.width) : Calls Try.prog 138 #[.agg #[.int .i64 (Wn : Int), .int .i64 (Hn : Int)], .agg #[.float .f32 (pick .f32 ar an), .float .f32 (pick .f32 ag am), .float .f32 (pick .f32 ab ak)]] w (RetIIB (pixR Wn Hn ar ag ab) w) := by
  generalize hw0 : (w.alloc (Obj.cells #[.int .i64 (Wn : Int), .int .i64 (Hn : Int)] 77)).alloc (Obj.cells #[.float .f32 (pick .f32 ar an), .float .f32 (pick .f32 ag am), .float .f32 (pick .f32 ab ak)] 36) = w0
  have Vs_0 := Lib.hid (show Var w0 (w.heap.size) #[.int .i64 (Wn : Int), .int .i64 (Hn : Int)] from by subst hw0; exact ((Var.new' _ _ _ _ (by first | rfl | simp)).alloc _))
  have Va_0 := Lib.hid (show Var w0 (w.heap.size + 1) #[.float .f32 (pick .f32 ar an), .float .f32 (pick .f32 ag am), .float .f32 (pick .f32 ab ak)] from by subst hw0; exact (Var.new' _ _ _ _ (by first | rfl | simp)))
  have B_0 := Lib.hid (show Below w.heap.size w w0 from by subst hw0; exact (((Below.refl _ _).alloc (Nat.le_refl _) _).alloc (by simp) _))
  have SZ := Lib.hid (show w0.heap.size = w.heap.size + 2 from by subst hw0; simp)
  have HW := Lib.hid hw0
  clear hw0
  obtain ⟨res, hres⟩ : ∃ q, q = pixR Wn Hn ar ag ab := ⟨_, rfl⟩
  rw [← hres]
  unfold pixR at hres
  have CQ := Lib.hid (fun w => c_iIsWay ar an ag am ab ak w har hag hab)
  have CR := Lib.hid (fun k w j => c_iRoot (fop .add .f32 (fop .mul .f32 ar ar) (fop .mul .f32 ag ag)) k w j)
  rw [show cvN (fsqrt (cvU (fop .add .f32 (fop .mul .f32 ar ar) (fop .mul .f32 ag ag)))) = flatV ar ag from rfl] at CR
  cases hq : wayB ar ag ab
  all_goals rw [hq] at CQ hres
  · have RES := Lib.hid (show res = (0, 0, false) from hres.trans (by simp))
    clear hres
    generalize flatV ar ag = fl at *
    have cs0 : w0.cell? ⟨w.heap.size, 0, none⟩ = some (.int .i64 (Wn : Int)) := Vs_0.out.2 0 (by simp)
    have cs1 : w0.cell? ⟨w.heap.size, 1, none⟩ = some (.int .i64 (Hn : Int)) := Vs_0.out.2 1 (by simp)
    obtain ⟨ca0, ca1, ca2⟩ := Va_0.out.three
    go_enter Try.func138, Try.ntmps138
    go_wp2_with fail
    rw [HW.out]
    rw [← w0.drewN_zero]
    go_wp2_with (first | (first | (refine wpList_fop rfl _ _ _ _ _ rfl _ _ _ rfl rfl (by decide) _ ?_; intro _ _) | (refine upon_fop _ _ _ _ _ (by decide) ?_; intro _ _)) | (go_at_call 126; refine (CR.out _ _ _).mono ?_; rintro _ _ ⟨_, _, rfl, rfl⟩))
    refine (CQ.out _).mono ?_
    rintro _ w1 ⟨rfl, b9⟩
    have b : Below w0.heap.size w0 w1 := by first | exact (below_drewN (Below.refl _ _) _).trans (b9.mono (by simp)) | exact b9
    have Vs_1 := Lib.hid (Vs_0.out.keep b)
    have Va_1 := Lib.hid (Va_0.out.keep b)
    have B_1 := Lib.hid (B_0.out.trans (b.mono B_0.out.size))
    clear cs0 cs1 ca0 ca1 ca2
    clear Vs_0 Va_0 B_0 b b9
    have cs0 : w1.cell? ⟨w.heap.size, 0, none⟩ = some (.int .i64 (Wn : Int)) := Vs_1.out.2 0 (by simp)
    have cs1 : w1.cell? ⟨w.heap.size, 1, none⟩ = some (.int .i64 (Hn : Int)) := Vs_1.out.2 1 (by simp)
    obtain ⟨ca0, ca1, ca2⟩ := Va_1.out.three
    go_wp2_with fail
    rw [RES.out]; refine bodyPost_ret (v := .tuple #[.int .i64 0, .int .i64 0, .bool false]) (by simp [results, Try.results138, go_sem]) rfl ⟨rfl, B_1.out⟩
  · have hc := wayB_col hq
    unfold colB at hc
    simp only [Bool.and_eq_true] at hc
    obtain ⟨hxf, hyf, hzf⟩ := hc
    have CF := Lib.hid (fun k w j => c_iIsFinite (flatV ar ag) k w j)
    cases hf : finB .f32 (flatV ar ag)
    all_goals rw [hf] at CF hres
    · have RES := Lib.hid (show res = (0, 0, false) from hres.trans (by simp))
      clear hres hf hxf hyf hzf
      generalize flatV ar ag = fl at *
      have cs0 : w0.cell? ⟨w.heap.size, 0, none⟩ = some (.int .i64 (Wn : Int)) := Vs_0.out.2 0 (by simp)
      have cs1 : w0.cell? ⟨w.heap.size, 1, none⟩ = some (.int .i64 (Hn : Int)) := Vs_0.out.2 1 (by simp)
      obtain ⟨ca0, ca1, ca2⟩ := Va_0.out.three
      go_enter Try.func138, Try.ntmps138
      go_wp2_with fail
      rw [HW.out]
      rw [← w0.drewN_zero]
      go_wp2_with (first | (first | (refine wpList_fop rfl _ _ _ _ _ rfl _ _ _ rfl rfl (by decide) _ ?_; intro _ _) | (refine upon_fop _ _ _ _ _ (by decide) ?_; intro _ _)) | (go_at_call 126; refine (CR.out _ _ _).mono ?_; rintro _ _ ⟨_, _, rfl, rfl⟩))
      refine (CQ.out _).mono ?_
      rintro _ w1 ⟨rfl, b9⟩
      have b : Below w0.heap.size w0 w1 := by first | exact (below_drewN (Below.refl _ _) _).trans (b9.mono (by simp)) | exact b9
      have Vs_1 := Lib.hid (Vs_0.out.keep b)
      have Va_1 := Lib.hid (Va_0.out.keep b)
      have B_1 := Lib.hid (B_0.out.trans (b.mono B_0.out.size))
      clear cs0 cs1 ca0 ca1 ca2
      clear Vs_0 Va_0 B_0 b b9
      have cs0 : w1.cell? ⟨w.heap.size, 0, none⟩ = some (.int .i64 (Wn : Int)) := Vs_1.out.2 0 (by simp)
      have cs1 : w1.cell? ⟨w.heap.size, 1, none⟩ = some (.int .i64 (Hn : Int)) := Vs_1.out.2 1 (by simp)
      obtain ⟨ca0, ca1, ca2⟩ := Va_1.out.three
      rw [← w1.drewN_zero]
      go_wp2_with (go_at_call 85; refine (CF.out _ _ _).mono ?_; rintro _ _ ⟨_, rfl, rfl⟩)
      rw [RES.out]; refine bodyPost_ret (v := .tuple #[.int .i64 0, .int .i64 0, .bool false]) (by simp [results, Try.results138, go_sem]) rfl ⟨rfl, below_drewN B_1.out _⟩
    · have CA := Lib.hid (fun k1 k2 w j => c_iAngleTurns ag ar k1 k2 w j)
      have CU := Lib.hid (fun k1 k2 w j => c_iAngleTurns (flatV ar ag) ab k1 k2 w j)
      have CX := Lib.hid (fun n w => c_cellAt0 (turnFix (angT ag ar)) n Wn w (turnFix_ft (angT_ft hyf hxf)) hW1 hW2)
      have CY := Lib.hid (fun n w => c_cellAt0 (fop .mul .f32 1073741824 (angT (flatV ar ag) ab)) n Hn w (twice_ft (angT_ft hf hzf)) hH1 hH2)
      have RES := Lib.hid (show res = (downN (fop .mul .f32 (turnFix (angT ag ar)) (floatOfInt .f32 (Wn : Int))) (Wn - 1), downN (fop .mul .f32 (fop .mul .f32 1073741824 (angT (flatV ar ag) ab)) (floatOfInt .f32 (Hn : Int))) (Hn - 1), true) from hres.trans (by simp [colN, rowN, colP, rowP]))
      clear hres hf hxf hyf hzf
      generalize hdx : downN (fop .mul .f32 (turnFix (angT ag ar)) (floatOfInt .f32 (Wn : Int))) (Wn - 1) = dx at *
      generalize hdy : downN (fop .mul .f32 (fop .mul .f32 1073741824 (angT (flatV ar ag) ab)) (floatOfInt .f32 (Hn : Int))) (Hn - 1) = dy at *
      generalize angT (flatV ar ag) ab = ua at *
      generalize flatV ar ag = fl at *
      unfold turnFix at CX hdx
      generalize angT ag ar = t at *
      clear hdx hdy
      cases hlt : (FloatKind.f32.format.order t 0 == some .lt)
      all_goals rw [hlt] at CX; simp only [if_true, Bool.false_eq_true, if_false] at CX
      · have cs0 : w0.cell? ⟨w.heap.size, 0, none⟩ = some (.int .i64 (Wn : Int)) := Vs_0.out.2 0 (by simp)
        have cs1 : w0.cell? ⟨w.heap.size, 1, none⟩ = some (.int .i64 (Hn : Int)) := Vs_0.out.2 1 (by simp)
        obtain ⟨ca0, ca1, ca2⟩ := Va_0.out.three
        go_enter Try.func138, Try.ntmps138
        go_wp2_with fail
        rw [HW.out]
        rw [← w0.drewN_zero]
        go_wp2_with (first | (first | (refine wpList_fop rfl _ _ _ _ _ rfl _ _ _ rfl rfl (by decide) _ ?_; intro _ _) | (refine upon_fop _ _ _ _ _ (by decide) ?_; intro _ _)) | (go_at_call 126; refine (CR.out _ _ _).mono ?_; rintro _ _ ⟨_, _, rfl, rfl⟩))
        refine (CQ.out _).mono ?_
        rintro _ w1 ⟨rfl, b9⟩
        have b : Below w0.heap.size w0 w1 := by first | exact (below_drewN (Below.refl _ _) _).trans (b9.mono (by simp)) | exact b9
        have Vs_1 := Lib.hid (Vs_0.out.keep b)
        have Va_1 := Lib.hid (Va_0.out.keep b)
        have B_1 := Lib.hid (B_0.out.trans (b.mono B_0.out.size))
        clear cs0 cs1 ca0 ca1 ca2
        clear Vs_0 Va_0 B_0 b b9
        have cs0 : w1.cell? ⟨w.heap.size, 0, none⟩ = some (.int .i64 (Wn : Int)) := Vs_1.out.2 0 (by simp)
        have cs1 : w1.cell? ⟨w.heap.size, 1, none⟩ = some (.int .i64 (Hn : Int)) := Vs_1.out.2 1 (by simp)
        obtain ⟨ca0, ca1, ca2⟩ := Va_1.out.three
        rw [← w1.drewN_zero]
        go_wp2_with (first | (first | (refine wpList_fop rfl _ _ _ _ _ rfl _ _ _ rfl rfl (by decide) _ ?_; intro _ _) | (refine upon_fop _ _ _ _ _ (by decide) ?_; intro _ _)) | (go_at_call 85; refine (CF.out _ _ _).mono ?_; rintro _ _ ⟨_, rfl, rfl⟩) | (go_at_call 150; first | ((with_reducible refine (CA.out _ _ _ _).mono ?_); rintro _ _ ⟨_, _, rfl, rfl⟩) | ((with_reducible refine (CU.out _ _ _ _).mono ?_); rintro _ _ ⟨_, _, rfl, rfl⟩)))
        generalize hw2 : World.drewN w1 _ = w2
        have b : Below w1.heap.size w1 w2 := by subst hw2; exact below_drewN (Below.refl _ _) _
        clear cs0 cs1 ca0 ca1 ca2
        have Vs_2 := Lib.hid (Vs_1.out.keep b)
        have Va_2 := Lib.hid (Va_1.out.keep b)
        have B_2 := Lib.hid (B_1.out.trans (b.mono B_1.out.size))
        clear Vs_1 Va_1 B_1 b hw2
        have KS := Lib.hid (fun (w' : World) (hE : Below w2.heap.size w2 w') => (⟨(Va_2.out.keep hE).three.1, (Va_2.out.keep hE).three.2.1, (Va_2.out.keep hE).three.2.2, (Vs_2.out.keep hE).2 0 (by simp), (Vs_2.out.keep hE).2 1 (by simp)⟩ : _ ∧ _ ∧ _ ∧ w'.cell? ⟨w.heap.size, 0, none⟩ = some (.int .i64 (Wn : Int)) ∧ w'.cell? ⟨w.heap.size, 1, none⟩ = some (.int .i64 (Hn : Int))))
        refine wp_region_facts 12 (fun a b => Below a.heap.size a b) (fun _ => Below.refl _ _) (fun _ _ _ h h' => h.trans (h'.mono h.size)) (Below.refl _ _).drew (by kernel_rfl) (by kernel_rfl) (by kernel_rfl) (by kernel_rfl) ?_
        simp only [List.take_succ_cons, List.take_zero, List.drop_succ_cons, List.drop_zero]
        (with_reducible apply wpF_val); (focus (intro vs w' hE hk; (obtain ⟨d0, d1, d2, e0, e1⟩ := KS.out w' hE); go_simp; exact ⟨Below.refl _ _, rfl⟩)); (simp only [Act.put, List.setIfInBounds_toArray, List.set_cons_zero, List.set_cons_succ, List.cons_append, List.nil_append])
        (with_reducible apply wpF_val); (focus (intro vs w' hE hk; (obtain ⟨d0, d1, d2, e0, e1⟩ := KS.out w' hE); go_simp; exact ⟨Below.refl _ _, rfl⟩)); (simp only [Act.put, List.setIfInBounds_toArray, List.set_cons_zero, List.set_cons_succ, List.cons_append, List.nil_append])
        (with_reducible apply wpF_val); (focus (intro vs w' hE hk; (obtain ⟨d0, d1, d2, e0, e1⟩ := KS.out w' hE); go_simp; exact ⟨Below.refl _ _, rfl⟩)); (simp only [Act.put, List.setIfInBounds_toArray, List.set_cons_zero, List.set_cons_succ, List.cons_append, List.nil_append])
        refine wpF_fact (fun u _ => u = .int .i64 ((dx : Nat) : Int)) (fun _ _ _ h _ => h) (fun vs w' hE hk => ?_) ?_; (focus ((obtain ⟨d0, d1, d2, e0, e1⟩ := KS.out w' hE); go_simp; refine (CX.out _ _).mono ?_; rintro _ _ ⟨m1, rfl, rfl⟩; exact ⟨_, rfl, below_drewN (Below.refl _ _) _, rfl⟩)); (simp only [Act.put, List.setIfInBounds_toArray, List.set_cons_zero, List.set_cons_succ, List.cons_append, List.nil_append])
        (with_reducible apply wpF_val); (focus (intro vs w' hE hk; (obtain ⟨d0, d1, d2, e0, e1⟩ := KS.out w' hE); go_simp; exact ⟨Below.refl _ _, rfl⟩)); (simp only [Act.put, List.setIfInBounds_toArray, List.set_cons_zero, List.set_cons_succ, List.cons_append, List.nil_append])
        refine wpF_fact (fun u _ => ∃ m, u = .float .f32 (pick .f32 (fop .mul .f32 1073741824 ua) m)) (fun _ _ _ h _ => h) (fun vs w' hE hk => ?_) ?_; (focus (rw [if_pos (by rfl)]; refine uponW_fop _ _ _ _ _ rfl .f32 _ _ rfl rfl (by decide) (fun n' m' => ⟨below_drewN (Below.refl _ _) _, n', by simp only [fop_pick_l, fop_pick_r]⟩))); (simp only [Act.put, List.setIfInBounds_toArray, List.set_cons_zero, List.set_cons_succ, List.cons_append, List.nil_append])
        (with_reducible apply wpF_val); (focus (intro vs w' hE hk; (obtain ⟨d0, d1, d2, e0, e1⟩ := KS.out w' hE); go_simp; exact ⟨Below.refl _ _, rfl⟩)); (simp only [Act.put, List.setIfInBounds_toArray, List.set_cons_zero, List.set_cons_succ, List.cons_append, List.nil_append])
        (with_reducible apply wpF_val); (focus (intro vs w' hE hk; (obtain ⟨d0, d1, d2, e0, e1⟩ := KS.out w' hE); go_simp; exact ⟨Below.refl _ _, rfl⟩)); (simp only [Act.put, List.setIfInBounds_toArray, List.set_cons_zero, List.set_cons_succ, List.cons_append, List.nil_append])
        refine wpF_fact (fun u _ => u = .int .i64 ((dy : Nat) : Int)) (fun _ _ _ h _ => h) (fun vs w' hE hk => ?_) ?_; (focus (obtain ⟨n1, hn1⟩ := hk 5 (by kernel_rfl); simp only [hn1]; (obtain ⟨d0, d1, d2, e0, e1⟩ := KS.out w' hE); go_simp; refine (CY.out _ _).mono ?_; rintro _ _ ⟨m1, rfl, rfl⟩; exact ⟨_, rfl, below_drewN (Below.refl _ _) _, rfl⟩)); (simp only [Act.put, List.setIfInBounds_toArray, List.set_cons_zero, List.set_cons_succ, List.cons_append, List.nil_append])
        refine wpF_fact (fun u _ => u = .int .i64 ((dx : Nat) : Int)) (fun _ _ _ h _ => h) (fun vs w' hE hk => ?_) ?_; (focus (have h9 := hk 3 (by kernel_rfl); simp only [show vs 3 = _ from h9]; go_simp; exact ⟨Below.refl _ _, rfl⟩)); (simp only [Act.put, List.setIfInBounds_toArray, List.set_cons_zero, List.set_cons_succ, List.cons_append, List.nil_append])
        refine wpF_fact (fun u _ => u = .int .i64 ((dy : Nat) : Int)) (fun _ _ _ h _ => h) (fun vs w' hE hk => ?_) ?_; (focus (have h9 := hk 8 (by kernel_rfl); simp only [show vs 8 = _ from h9]; go_simp; exact ⟨Below.refl _ _, rfl⟩)); (simp only [Act.put, List.setIfInBounds_toArray, List.set_cons_zero, List.set_cons_succ, List.cons_append, List.nil_append])
        (with_reducible apply wpF_val); (focus (intro vs w' hE hk; (obtain ⟨d0, d1, d2, e0, e1⟩ := KS.out w' hE); go_simp; exact ⟨Below.refl _ _, rfl⟩)); (simp only [Act.put, List.setIfInBounds_toArray, List.set_cons_zero, List.set_cons_succ, List.cons_append, List.nil_append])
        refine wpF_nil (fun vs w3 hE hk => ?_)
        have h3 := hk 3
        obtain ⟨_, h5⟩ := hk 5
        have h8 := hk 8
        have h9 := hk 9
        have h10 := hk 10
        simp only [show vs 3 = _ from h3, h5, show vs 8 = _ from h8, show vs 9 = _ from h9, show vs 10 = _ from h10]
        have b := hE
        clear hE hk KS h3 h5 h8 h9 h10
        have Vs_3 := Lib.hid (Vs_2.out.keep b)
        have Va_3 := Lib.hid (Va_2.out.keep b)
        have B_3 := Lib.hid (B_2.out.trans (b.mono B_2.out.size))
        clear Vs_2 Va_2 B_2 b
        go_wp2_with fail
        rw [RES.out]; refine bodyPost_ret (v := .tuple #[.int .i64 ((dx : Nat) : Int), .int .i64 ((dy : Nat) : Int), .bool true]) (by simp [results, Try.results138, go_sem]) rfl ⟨rfl, B_3.out⟩
      · have cs0 : w0.cell? ⟨w.heap.size, 0, none⟩ = some (.int .i64 (Wn : Int)) := Vs_0.out.2 0 (by simp)
        have cs1 : w0.cell? ⟨w.heap.size, 1, none⟩ = some (.int .i64 (Hn : Int)) := Vs_0.out.2 1 (by simp)
        obtain ⟨ca0, ca1, ca2⟩ := Va_0.out.three
        go_enter Try.func138, Try.ntmps138
        go_wp2_with fail
        rw [HW.out]
        rw [← w0.drewN_zero]
        go_wp2_with (first | (first | (refine wpList_fop rfl _ _ _ _ _ rfl _ _ _ rfl rfl (by decide) _ ?_; intro _ _) | (refine upon_fop _ _ _ _ _ (by decide) ?_; intro _ _)) | (go_at_call 126; refine (CR.out _ _ _).mono ?_; rintro _ _ ⟨_, _, rfl, rfl⟩))
        refine (CQ.out _).mono ?_
        rintro _ w1 ⟨rfl, b9⟩
        have b : Below w0.heap.size w0 w1 := by first | exact (below_drewN (Below.refl _ _) _).trans (b9.mono (by simp)) | exact b9
        have Vs_1 := Lib.hid (Vs_0.out.keep b)
        have Va_1 := Lib.hid (Va_0.out.keep b)
        have B_1 := Lib.hid (B_0.out.trans (b.mono B_0.out.size))
        clear cs0 cs1 ca0 ca1 ca2
        clear Vs_0 Va_0 B_0 b b9
        have cs0 : w1.cell? ⟨w.heap.size, 0, none⟩ = some (.int .i64 (Wn : Int)) := Vs_1.out.2 0 (by simp)
        have cs1 : w1.cell? ⟨w.heap.size, 1, none⟩ = some (.int .i64 (Hn : Int)) := Vs_1.out.2 1 (by simp)
        obtain ⟨ca0, ca1, ca2⟩ := Va_1.out.three
        rw [← w1.drewN_zero]
        go_wp2_with (first | (first | (refine wpList_fop rfl _ _ _ _ _ rfl _ _ _ rfl rfl (by decide) _ ?_; intro _ _) | (refine upon_fop _ _ _ _ _ (by decide) ?_; intro _ _)) | (go_at_call 85; refine (CF.out _ _ _).mono ?_; rintro _ _ ⟨_, rfl, rfl⟩) | (go_at_call 150; first | ((with_reducible refine (CA.out _ _ _ _).mono ?_); rintro _ _ ⟨_, _, rfl, rfl⟩) | ((with_reducible refine (CU.out _ _ _ _).mono ?_); rintro _ _ ⟨_, _, rfl, rfl⟩)))
        generalize hw2 : World.drewN w1 _ = w2
        have b : Below w1.heap.size w1 w2 := by subst hw2; exact below_drewN (Below.refl _ _) _
        clear cs0 cs1 ca0 ca1 ca2
        have Vs_2 := Lib.hid (Vs_1.out.keep b)
        have Va_2 := Lib.hid (Va_1.out.keep b)
        have B_2 := Lib.hid (B_1.out.trans (b.mono B_1.out.size))
        clear Vs_1 Va_1 B_1 b hw2
        have KS := Lib.hid (fun (w' : World) (hE : Below w2.heap.size w2 w') => (⟨(Va_2.out.keep hE).three.1, (Va_2.out.keep hE).three.2.1, (Va_2.out.keep hE).three.2.2, (Vs_2.out.keep hE).2 0 (by simp), (Vs_2.out.keep hE).2 1 (by simp)⟩ : _ ∧ _ ∧ _ ∧ w'.cell? ⟨w.heap.size, 0, none⟩ = some (.int .i64 (Wn : Int)) ∧ w'.cell? ⟨w.heap.size, 1, none⟩ = some (.int .i64 (Hn : Int))))
        refine wp_region_facts 12 (fun a b => Below a.heap.size a b) (fun _ => Below.refl _ _) (fun _ _ _ h h' => h.trans (h'.mono h.size)) (Below.refl _ _).drew (by kernel_rfl) (by kernel_rfl) (by kernel_rfl) (by kernel_rfl) ?_
        simp only [List.take_succ_cons, List.take_zero, List.drop_succ_cons, List.drop_zero]
        (with_reducible apply wpF_val); (focus (intro vs w' hE hk; (obtain ⟨d0, d1, d2, e0, e1⟩ := KS.out w' hE); go_simp; exact ⟨Below.refl _ _, rfl⟩)); (simp only [Act.put, List.setIfInBounds_toArray, List.set_cons_zero, List.set_cons_succ, List.cons_append, List.nil_append])
        (with_reducible apply wpF_val); (focus (intro vs w' hE hk; (obtain ⟨d0, d1, d2, e0, e1⟩ := KS.out w' hE); go_simp; exact ⟨Below.refl _ _, rfl⟩)); (simp only [Act.put, List.setIfInBounds_toArray, List.set_cons_zero, List.set_cons_succ, List.cons_append, List.nil_append])
        (with_reducible apply wpF_val); (focus (intro vs w' hE hk; (obtain ⟨d0, d1, d2, e0, e1⟩ := KS.out w' hE); go_simp; exact ⟨Below.refl _ _, rfl⟩)); (simp only [Act.put, List.setIfInBounds_toArray, List.set_cons_zero, List.set_cons_succ, List.cons_append, List.nil_append])
        refine wpF_fact (fun u _ => u = .int .i64 ((dx : Nat) : Int)) (fun _ _ _ h _ => h) (fun vs w' hE hk => ?_) ?_; (focus ((obtain ⟨d0, d1, d2, e0, e1⟩ := KS.out w' hE); go_simp; refine (CX.out _ _).mono ?_; rintro _ _ ⟨m1, rfl, rfl⟩; exact ⟨_, rfl, below_drewN (Below.refl _ _) _, rfl⟩)); (simp only [Act.put, List.setIfInBounds_toArray, List.set_cons_zero, List.set_cons_succ, List.cons_append, List.nil_append])
        (with_reducible apply wpF_val); (focus (intro vs w' hE hk; (obtain ⟨d0, d1, d2, e0, e1⟩ := KS.out w' hE); go_simp; exact ⟨Below.refl _ _, rfl⟩)); (simp only [Act.put, List.setIfInBounds_toArray, List.set_cons_zero, List.set_cons_succ, List.cons_append, List.nil_append])
        refine wpF_fact (fun u _ => ∃ m, u = .float .f32 (pick .f32 (fop .mul .f32 1073741824 ua) m)) (fun _ _ _ h _ => h) (fun vs w' hE hk => ?_) ?_; (focus (rw [if_pos (by rfl)]; refine uponW_fop _ _ _ _ _ rfl .f32 _ _ rfl rfl (by decide) (fun n' m' => ⟨below_drewN (Below.refl _ _) _, n', by simp only [fop_pick_l, fop_pick_r]⟩))); (simp only [Act.put, List.setIfInBounds_toArray, List.set_cons_zero, List.set_cons_succ, List.cons_append, List.nil_append])
        (with_reducible apply wpF_val); (focus (intro vs w' hE hk; (obtain ⟨d0, d1, d2, e0, e1⟩ := KS.out w' hE); go_simp; exact ⟨Below.refl _ _, rfl⟩)); (simp only [Act.put, List.setIfInBounds_toArray, List.set_cons_zero, List.set_cons_succ, List.cons_append, List.nil_append])
        (with_reducible apply wpF_val); (focus (intro vs w' hE hk; (obtain ⟨d0, d1, d2, e0, e1⟩ := KS.out w' hE); go_simp; exact ⟨Below.refl _ _, rfl⟩)); (simp only [Act.put, List.setIfInBounds_toArray, List.set_cons_zero, List.set_cons_succ, List.cons_append, List.nil_append])
        refine wpF_fact (fun u _ => u = .int .i64 ((dy : Nat) : Int)) (fun _ _ _ h _ => h) (fun vs w' hE hk => ?_) ?_; (focus (obtain ⟨n1, hn1⟩ := hk 5 (by kernel_rfl); simp only [hn1]; (obtain ⟨d0, d1, d2, e0, e1⟩ := KS.out w' hE); go_simp; refine (CY.out _ _).mono ?_; rintro _ _ ⟨m1, rfl, rfl⟩; exact ⟨_, rfl, below_drewN (Below.refl _ _) _, rfl⟩)); (simp only [Act.put, List.setIfInBounds_toArray, List.set_cons_zero, List.set_cons_succ, List.cons_append, List.nil_append])
        refine wpF_fact (fun u _ => u = .int .i64 ((dx : Nat) : Int)) (fun _ _ _ h _ => h) (fun vs w' hE hk => ?_) ?_; (focus (have h9 := hk 3 (by kernel_rfl); simp only [show vs 3 = _ from h9]; go_simp; exact ⟨Below.refl _ _, rfl⟩)); (simp only [Act.put, List.setIfInBounds_toArray, List.set_cons_zero, List.set_cons_succ, List.cons_append, List.nil_append])
        refine wpF_fact (fun u _ => u = .int .i64 ((dy : Nat) : Int)) (fun _ _ _ h _ => h) (fun vs w' hE hk => ?_) ?_; (focus (have h9 := hk 8 (by kernel_rfl); simp only [show vs 8 = _ from h9]; go_simp; exact ⟨Below.refl _ _, rfl⟩)); (simp only [Act.put, List.setIfInBounds_toArray, List.set_cons_zero, List.set_cons_succ, List.cons_append, List.nil_append])
        (with_reducible apply wpF_val); (focus (intro vs w' hE hk; (obtain ⟨d0, d1, d2, e0, e1⟩ := KS.out w' hE); go_simp; exact ⟨Below.refl _ _, rfl⟩)); (simp only [Act.put, List.setIfInBounds_toArray, List.set_cons_zero, List.set_cons_succ, List.cons_append, List.nil_append])
        refine wpF_nil (fun vs w3 hE hk => ?_)
        have h3 := hk 3
        obtain ⟨_, h5⟩ := hk 5
        have h8 := hk 8
        have h9 := hk 9
        have h10 := hk 10
        simp only [show vs 3 = _ from h3, h5, show vs 8 = _ from h8, show vs 9 = _ from h9, show vs 10 = _ from h10]
        have b := hE
        clear hE hk KS h3 h5 h8 h9 h10
        have Vs_3 := Lib.hid (Vs_2.out.keep b)
        have Va_3 := Lib.hid (Va_2.out.keep b)
        have B_3 := Lib.hid (B_2.out.trans (b.mono B_2.out.size))
        clear Vs_2 Va_2 B_2 b
        go_wp2_with fail
        rw [RES.out]; refine bodyPost_ret (v := .tuple #[.int .i64 ((dx : Nat) : Int), .int .i64 ((dy : Nat) : Int), .bool true]) (by simp [results, Try.results138, go_sem]) rfl ⟨rfl, B_3.out⟩
/-! ### sidesOf -/
theorem c_sidesOf (W H : Int) (s : Value) (w : World) : Calls Try.prog 62 #[.agg #[.int .i64 W, .int .i64 H, s]] w (RetB (.agg #[.int .i64 W, .int .i64 H]) w) := by
  go_enter Try.func62, Try.ntmps62
  go_wp2
  exact bodyPost_ret (v := .agg #[.int .i64 W, .int .i64 H]) (by simp [results, Try.results62, go_sem]) rfl ⟨rfl, ((Below.refl _ _).alloc (Nat.le_refl _) _).alloc (by simp) _⟩
/-! ### rowOf -/
theorem c_rowOf (Wn Hn : Nat) (a : Option Addr) (cap : Nat) (zs : List Nat) (y : Nat) (w : World) (hr : IsRowF .f32 w a zs.length cap zs) (hW1 : 1 ≤ Wn) (hW2 : Wn ≤ 16) (hH2 : Hn ≤ 16) (hl : zs.length = Wn * Hn) (hy : y < Hn) :
    Calls Try.prog 107 #[.agg #[.int .i64 (Wn : Int), .int .i64 (Hn : Int), .slice a zs.length cap], .int .i64 (y : Int)] w (fun e w' => ∃ b off, a = some ⟨b, off, none⟩ ∧ e = .returned (.slice (some ⟨b, off + y * Wn, none⟩) Wn Wn) ∧ Below w.heap.size w w') := by
  obtain ⟨hb1, hb2⟩ := mul_bound hy hW2 hH2
  obtain ⟨N, hN⟩ : ∃ N, N = zs.length := ⟨_, rfl⟩
  obtain ⟨P, hP⟩ : ∃ P : Nat, P = y * Wn := ⟨_, rfl⟩
  have hPi : (y : Int) * (Wn : Int) = (P : Int) := by rw [hP, Int.natCast_mul]
  have hPi2 : ((y : Int) + 1) * (Wn : Int) = (P : Int) + (Wn : Int) := by rw [Int.add_mul, hPi, Int.one_mul]
  rw [← hP] at hb1 hb2 ⊢
  rw [← hl, ← hN] at hb1
  rw [← hN] at hr ⊢
  have hcap : N ≤ cap := hr.2.1
  have hcm : cap ≤ maxLen := hr.2.2.1
  unfold maxLen at hcm
  obtain ⟨b, off, n0, rfl, hb, e0⟩ := hr.at (k := 0) (by omega)
  have M1 := Lib.hid (show IntKind.i64.wrap ((y : Int) * (Wn : Int)) = (P : Int) by rw [hPi]; exact IntWalk.i64_in _ (by omega))
  have M2 := Lib.hid (show IntKind.i64.wrap (((y : Int) + 1) * (Wn : Int)) = (P : Int) + (Wn : Int) by rw [hPi2]; exact IntWalk.i64_in _ (by omega))
  have M3 := Lib.hid (show IntKind.i64.wrap ((y : Int) + 1) = (y : Int) + 1 from IntWalk.i64_in _ (by omega))
  have hc2 : P + Wn ≤ cap := by omega
  clear hN hP hPi hPi2 hl hr hb e0 n0
  generalize hw0 : w.alloc (Obj.cells #[.int .i64 (Wn : Int), .int .i64 (Hn : Int), .slice (some ⟨b, off, none⟩) N cap] 29) = w0
  have X0 : Var w0 w.heap.size #[.int .i64 (Wn : Int), .int .i64 (Hn : Int), .slice (some ⟨b, off, none⟩) N cap] := by subst hw0; exact Var.new _ _ _
  have X3 : Below w.heap.size w w0 := by subst hw0; exact (Below.refl _ _).alloc (Nat.le_refl _) _
  have HW := Lib.hid hw0
  have B0 := Lib.hid X3
  obtain ⟨v0, v1, v2⟩ := X0.three
  clear hw0 X0 X3
  go_enter Try.func107, Try.ntmps107
  go_wp2_with fail
  rw [HW.out]
  rw [← w0.drewN_zero]
  have m1 := M1.out
  have m2 := M2.out
  have m3 := M3.out
  refine wp_region_N (fun _ _ _ => True) (by kernel_rfl) (by kernel_rfl) ?_; (repeat (first | ((with_reducible show wpN _ _ _ _ _ (Oper.mk _ (Op.binOp _ _ _ _ _) _ _ _ none :: _) _); refine wpN_fop rfl _ _ _ _ _ rfl _ _ _ rfl rfl (by decide) ?_; intro _) | ((with_reducible show wpN _ _ _ _ _ (Oper.mk _ (Op.convert _ _ _) _ _ _ none :: _) _); refine wpN_cvU rfl 26 32 _ rfl (Option.isSome_iff_exists.2 ⟨_, Try.underlying26⟩) Try.underlying32 _ rfl ?_; intro _) | ((with_reducible show wpN _ _ _ _ _ (Oper.mk _ _ _ _ _ (some _) :: _) _); (with_reducible refine wpN_off ?_ ?_); focus rfl; (simp only [Act.put, List.setIfInBounds_toArray, List.set_cons_zero, List.set_cons_succ])) | ((with_reducible show wpN _ _ _ _ _ (Oper.mk _ _ _ _ _ (some _) :: _) _); ((with_reducible refine wpN_on ?_ (fun K hK => ?_)); (focus rfl); intro _; go_simp; first | (refine uponN_value (hK _ ?_)) | (fail; refine hK _ ?_)); clear hK K) | (((with_reducible refine wpN_plain rfl (fun K hK => ?_)); intro _; go_simp; first | (refine uponN_value (hK _ ?_)) | (fail; refine hK _ ?_)); clear hK K) | ((with_reducible refine wpN_step (fun K hK => ?_)); go_simp; first | (refine hK _ ?_) | (intro _; first | (refine uponN_value (hK _ ?_)) | (fail; refine hK _ ?_)); clear hK K))); refine wpN_nil ?_; intro _
  clear m1 m2 m3
  go_wp2_with fail
  go_ret
  exact ⟨b, off, rfl, by simp, below_drewN B0.out _⟩

/-! ### lightToward -/
theorem c_lightToward (Wn Hn : Nat) (zP : List Nat) (aP : Option Addr) (cP : Nat) (ar an ag am ab ak : Nat) (w : World) (rP : IsRowF .f32 w aP zP.length cP zP) (hW1 : 1 ≤ Wn) (hW2 : Wn ≤ 16) (hH1 : 1 ≤ Hn) (hH2 : Hn ≤ 16) (hl : zP.length = Wn * Hn) (har : ar < 2 ^ FloatKind.f32.format.width) (hag : ag < 2 ^ FloatKind.f32.format.width) (hab : ab < 2 ^ FloatKind.f32.format.width) : Calls Try.prog 115 #[.agg #[.int .i64 (Wn : Int), .int .i64 (Hn : Int), .slice aP zP.length cP], .agg #[.float .f32 (pick .f32 ar an), .float .f32 (pick .f32 ag am), .float .f32 (pick .f32 ab ak)]] w (RetN (towardV Wn Hn zP ar ag ab) w) := by
  have RP := Lib.hid rP
  have HLN := Lib.hid hl
  clear rP hl
  generalize hw0 : (w.alloc (Obj.cells #[.int .i64 (Wn : Int), .int .i64 (Hn : Int), .slice aP zP.length cP] 29)).alloc (Obj.cells #[.float .f32 (pick .f32 ar an), .float .f32 (pick .f32 ag am), .float .f32 (pick .f32 ab ak)] 36) = w0
  have Vp_0 := Lib.hid (show Var w0 (w.heap.size) #[.int .i64 (Wn : Int), .int .i64 (Hn : Int), .slice aP zP.length cP] from by subst hw0; exact ((Var.new' _ _ _ _ (by first | rfl | simp)).alloc _))
  have Va_0 := Lib.hid (show Var w0 (w.heap.size + 1) #[.float .f32 (pick .f32 ar an), .float .f32 (pick .f32 ag am), .float .f32 (pick .f32 ab ak)] from by subst hw0; exact (Var.new' _ _ _ _ (by first | rfl | simp)))
  have B_0 := Lib.hid (show Below w.heap.size w w0 from by subst hw0; exact (((Below.refl _ _).alloc (Nat.le_refl _) _).alloc (by simp) _))
  have SZ := Lib.hid (show w0.heap.size = w.heap.size + 2 from by subst hw0; simp)
  have HW := Lib.hid hw0
  clear hw0
  have CP := Lib.hid (fun w => c_pixelOfS Wn Hn ar an ag am ab ak w hW1 hW2 hH1 hH2 har hag hab)
  unfold towardV
  have hc : ((wayB ar ag ab && finB .f32 (flatV ar ag)) = false ∧ pixR Wn Hn ar ag ab = (0, 0, false)) ∨ ((wayB ar ag ab && finB .f32 (flatV ar ag)) = true ∧ pixR Wn Hn ar ag ab = (colN Wn ar ag, rowN Hn ar ag ab, true)) := by
    unfold pixR; cases (wayB ar ag ab && finB .f32 (flatV ar ag)) <;> simp
  rcases hc with ⟨hc, hp⟩ | ⟨hc, hp⟩
  all_goals rw [hp] at CP; rw [hc]; simp only [if_true, Bool.false_eq_true, if_false]; clear hc hp
  · obtain ⟨cp0, cp1, cp2⟩ := Vp_0.out.three
    obtain ⟨ca0, ca1, ca2⟩ := Va_0.out.three
    go_enter Try.func115, Try.ntmps115
    go_wp2_with fail
    rw [HW.out]
    clear cp0 cp1 cp2 ca0 ca1 ca2
    have KS := Lib.hid (fun (w' : World) (hE : Below w0.heap.size w0 w') => (⟨(Vp_0.out.keep hE).three.1, (Vp_0.out.keep hE).three.2.1, (Vp_0.out.keep hE).three.2.2, (Va_0.out.keep hE).three.1, (Va_0.out.keep hE).three.2.1, (Va_0.out.keep hE).three.2.2⟩ : _ ∧ _ ∧ _ ∧ _ ∧ _ ∧ _))
    refine wp_region_facts 11 (fun a b => Below a.heap.size a b) (fun _ => Below.refl _ _) (fun _ _ _ h h' => h.trans (h'.mono h.size)) (Below.refl _ _).drew (by kernel_rfl) (by kernel_rfl) (by kernel_rfl) (by kernel_rfl) ?_
    simp only [List.take_succ_cons, List.take_zero, List.drop_succ_cons, List.drop_zero]
    (with_reducible apply wpF_val); (focus (intro vs w' hE hk; (obtain ⟨d0, d1, d2, e0, e1, e2⟩ := KS.out w' hE); go_simp; exact ⟨Below.refl _ _, rfl⟩)); (simp only [Act.put, List.setIfInBounds_toArray, List.set_cons_zero, List.set_cons_succ, List.cons_append, List.nil_append])
    (with_reducible apply wpF_val); (focus (intro vs w' hE hk; (obtain ⟨d0, d1, d2, e0, e1, e2⟩ := KS.out w' hE); go_simp; refine (c_sidesOf _ _ _ _).mono ?_; rintro _ w9 ⟨rfl, b⟩; exact ⟨_, rfl, b, rfl⟩)); (simp only [Act.put, List.setIfInBounds_toArray, List.set_cons_zero, List.set_cons_succ, List.cons_append, List.nil_append])
    (with_reducible apply wpF_val); (focus (intro vs w' hE hk; (obtain ⟨d0, d1, d2, e0, e1, e2⟩ := KS.out w' hE); go_simp; exact ⟨Below.refl _ _, rfl⟩)); (simp only [Act.put, List.setIfInBounds_toArray, List.set_cons_zero, List.set_cons_succ, List.cons_append, List.nil_append])
    (with_reducible apply wpF_val); (focus (intro vs w' hE hk; (obtain ⟨d0, d1, d2, e0, e1, e2⟩ := KS.out w' hE); go_simp; refine (CP.out _).mono ?_; rintro _ w9 ⟨rfl, b⟩; exact ⟨_, rfl, b, rfl⟩)); (simp only [Act.put, List.setIfInBounds_toArray, List.set_cons_zero, List.set_cons_succ, List.cons_append, List.nil_append])
    (with_reducible apply wpF_val); (focus (intro vs w' hE hk; (obtain ⟨d0, d1, d2, e0, e1, e2⟩ := KS.out w' hE); go_simp; exact ⟨Below.refl _ _, rfl⟩)); (simp only [Act.put, List.setIfInBounds_toArray, List.set_cons_zero, List.set_cons_succ, List.cons_append, List.nil_append])
    (with_reducible apply wpF_val); (focus (intro vs w' hE hk; (obtain ⟨d0, d1, d2, e0, e1, e2⟩ := KS.out w' hE); go_simp; exact ⟨Below.refl _ _, rfl⟩)); (simp only [Act.put, List.setIfInBounds_toArray, List.set_cons_zero, List.set_cons_succ, List.cons_append, List.nil_append])
    (with_reducible apply wpF_val); (focus (intro vs w' hE hk; (obtain ⟨d0, d1, d2, e0, e1, e2⟩ := KS.out w' hE); go_simp; exact ⟨Below.refl _ _, rfl⟩)); (simp only [Act.put, List.setIfInBounds_toArray, List.set_cons_zero, List.set_cons_succ, List.cons_append, List.nil_append])
    (with_reducible apply wpF_val); (focus (intro vs w' hE hk; (obtain ⟨d0, d1, d2, e0, e1, e2⟩ := KS.out w' hE); go_simp; exact ⟨Below.refl _ _, rfl⟩)); (simp only [Act.put, List.setIfInBounds_toArray, List.set_cons_zero, List.set_cons_succ, List.cons_append, List.nil_append])
    (with_reducible apply wpF_val); (focus (intro vs w' hE hk; (obtain ⟨d0, d1, d2, e0, e1, e2⟩ := KS.out w' hE); go_simp; exact ⟨Below.refl _ _, rfl⟩)); (simp only [Act.put, List.setIfInBounds_toArray, List.set_cons_zero, List.set_cons_succ, List.cons_append, List.nil_append])
    (with_reducible apply wpF_val); (focus (intro vs w' hE hk; (obtain ⟨d0, d1, d2, e0, e1, e2⟩ := KS.out w' hE); go_simp; exact ⟨Below.refl _ _, rfl⟩)); (simp only [Act.put, List.setIfInBounds_toArray, List.set_cons_zero, List.set_cons_succ, List.cons_append, List.nil_append])
    (with_reducible apply wpF_val); (focus (intro vs w' hE hk; (obtain ⟨d0, d1, d2, e0, e1, e2⟩ := KS.out w' hE); go_simp; exact ⟨Below.refl _ _, rfl⟩)); (simp only [Act.put, List.setIfInBounds_toArray, List.set_cons_zero, List.set_cons_succ, List.cons_append, List.nil_append])
    refine wpF_nil (fun vs w1 hE hk => ?_)
    have b := hE
    clear hE hk KS
    have Vp_1 := Lib.hid (Vp_0.out.keep b)
    have Va_1 := Lib.hid (Va_0.out.keep b)
    have B_1 := Lib.hid (B_0.out.trans (b.mono B_0.out.size))
    clear Vp_0 Va_0 B_0 b
    obtain ⟨cp0, cp1, cp2⟩ := Vp_1.out.three
    obtain ⟨ca0, ca1, ca2⟩ := Va_1.out.three
    obtain ⟨n0, hn0⟩ := nanOf_onto .f32 2143289344 (by decide +kernel) (by decide +kernel)
    have HN := Lib.hid hn0
    clear hn0
    rw [← w1.drewN_zero]
    go_wp2_with (go_at_call 131; refine (c_notANumber _ _).mono ?_; rintro _ _ ⟨_, rfl, rfl⟩)
    go_ret
    exact ⟨n0, by simp only [pick, isN_qn, if_true]; rw [← HN.out]; rfl, below_drewN B_1.out _⟩
  · have hkl : rowN Hn ar ag ab * Wn + colN Wn ar ag < zP.length := by rw [HLN.out]; exact idx_lt hW1 hH1
    have lx := colN_lt (x := ar) (y := ag) hW1
    have ly := rowN_lt (x := ar) (y := ag) (z := ab) hH1
    generalize colN Wn ar ag = X at *
    generalize rowN Hn ar ag ab = Y at *
    obtain ⟨bA, oA, nA, ha, hbA, eA⟩ := RP.out.at hkl
    subst ha
    have hb0 : bA < w0.heap.size := by have := SZ.out; omega
    have E0 := Lib.hid ((B_0.out.cell (p := ⟨bA, oA + (Y * Wn + X), none⟩) hbA).trans eA)
    have CR := Lib.hid (fun (w1 : World) (r1 : IsRowF .f32 w1 (some ⟨bA, oA, none⟩) zP.length cP zP) => @id (Calls Try.prog 107 #[.agg #[.int .i64 (Wn : Int), .int .i64 (Hn : Int), .slice (some ⟨bA, oA, none⟩) zP.length cP], .int .i64 (Y : Int)] w1 (RetB (.slice (some ⟨bA, oA + Y * Wn, none⟩) Wn Wn) w1)) ((c_rowOf Wn Hn _ cP zP Y w1 r1 hW1 hW2 hH2 HLN.out ly).mono (fun _ _ h => by obtain ⟨b2, o2, e2, h1, h2⟩ := h; cases e2; exact ⟨h1, h2⟩)))
    clear eA
    obtain ⟨cp0, cp1, cp2⟩ := Vp_0.out.three
    obtain ⟨ca0, ca1, ca2⟩ := Va_0.out.three
    go_enter Try.func115, Try.ntmps115
    go_wp2_with fail
    rw [HW.out]
    clear cp0 cp1 cp2 ca0 ca1 ca2
    have KS := Lib.hid (fun (w' : World) (hE : Below w0.heap.size w0 w') => (⟨(Vp_0.out.keep hE).three.1, (Vp_0.out.keep hE).three.2.1, (Vp_0.out.keep hE).three.2.2, (Va_0.out.keep hE).three.1, (Va_0.out.keep hE).three.2.1, (Va_0.out.keep hE).three.2.2⟩ : _ ∧ _ ∧ _ ∧ _ ∧ _ ∧ _))
    refine wp_region_facts 11 (fun a b => Below a.heap.size a b) (fun _ => Below.refl _ _) (fun _ _ _ h h' => h.trans (h'.mono h.size)) (Below.refl _ _).drew (by kernel_rfl) (by kernel_rfl) (by kernel_rfl) (by kernel_rfl) ?_
    simp only [List.take_succ_cons, List.take_zero, List.drop_succ_cons, List.drop_zero]
    (with_reducible apply wpF_val); (focus (intro vs w' hE hk; (obtain ⟨d0, d1, d2, e0, e1, e2⟩ := KS.out w' hE); go_simp; exact ⟨Below.refl _ _, rfl⟩)); (simp only [Act.put, List.setIfInBounds_toArray, List.set_cons_zero, List.set_cons_succ, List.cons_append, List.nil_append])
    (with_reducible apply wpF_val); (focus (intro vs w' hE hk; (obtain ⟨d0, d1, d2, e0, e1, e2⟩ := KS.out w' hE); go_simp; refine (c_sidesOf _ _ _ _).mono ?_; rintro _ w9 ⟨rfl, b⟩; exact ⟨_, rfl, b, rfl⟩)); (simp only [Act.put, List.setIfInBounds_toArray, List.set_cons_zero, List.set_cons_succ, List.cons_append, List.nil_append])
    (with_reducible apply wpF_val); (focus (intro vs w' hE hk; (obtain ⟨d0, d1, d2, e0, e1, e2⟩ := KS.out w' hE); go_simp; exact ⟨Below.refl _ _, rfl⟩)); (simp only [Act.put, List.setIfInBounds_toArray, List.set_cons_zero, List.set_cons_succ, List.cons_append, List.nil_append])
    (with_reducible apply wpF_val); (focus (intro vs w' hE hk; (obtain ⟨d0, d1, d2, e0, e1, e2⟩ := KS.out w' hE); go_simp; refine (CP.out _).mono ?_; rintro _ w9 ⟨rfl, b⟩; exact ⟨_, rfl, b, rfl⟩)); (simp only [Act.put, List.setIfInBounds_toArray, List.set_cons_zero, List.set_cons_succ, List.cons_append, List.nil_append])
    (with_reducible apply wpF_val); (focus (intro vs w' hE hk; (obtain ⟨d0, d1, d2, e0, e1, e2⟩ := KS.out w' hE); go_simp; exact ⟨Below.refl _ _, rfl⟩)); (simp only [Act.put, List.setIfInBounds_toArray, List.set_cons_zero, List.set_cons_succ, List.cons_append, List.nil_append])
    (with_reducible apply wpF_val); (focus (intro vs w' hE hk; (obtain ⟨d0, d1, d2, e0, e1, e2⟩ := KS.out w' hE); go_simp; exact ⟨Below.refl _ _, rfl⟩)); (simp only [Act.put, List.setIfInBounds_toArray, List.set_cons_zero, List.set_cons_succ, List.cons_append, List.nil_append])
    (with_reducible apply wpF_val); (focus (intro vs w' hE hk; (obtain ⟨d0, d1, d2, e0, e1, e2⟩ := KS.out w' hE); go_simp; exact ⟨Below.refl _ _, rfl⟩)); (simp only [Act.put, List.setIfInBounds_toArray, List.set_cons_zero, List.set_cons_succ, List.cons_append, List.nil_append])
    (with_reducible apply wpF_val); (focus (intro vs w' hE hk; (obtain ⟨d0, d1, d2, e0, e1, e2⟩ := KS.out w' hE); go_simp; exact ⟨Below.refl _ _, rfl⟩)); (simp only [Act.put, List.setIfInBounds_toArray, List.set_cons_zero, List.set_cons_succ, List.cons_append, List.nil_append])
    (with_reducible apply wpF_val); (focus (intro vs w' hE hk; (obtain ⟨d0, d1, d2, e0, e1, e2⟩ := KS.out w' hE); go_simp; exact ⟨Below.refl _ _, rfl⟩)); (simp only [Act.put, List.setIfInBounds_toArray, List.set_cons_zero, List.set_cons_succ, List.cons_append, List.nil_append])
    (with_reducible apply wpF_val); (focus (intro vs w' hE hk; (obtain ⟨d0, d1, d2, e0, e1, e2⟩ := KS.out w' hE); go_simp; exact ⟨Below.refl _ _, rfl⟩)); (simp only [Act.put, List.setIfInBounds_toArray, List.set_cons_zero, List.set_cons_succ, List.cons_append, List.nil_append])
    (with_reducible apply wpF_val); (focus (intro vs w' hE hk; (obtain ⟨d0, d1, d2, e0, e1, e2⟩ := KS.out w' hE); go_simp; exact ⟨Below.refl _ _, rfl⟩)); (simp only [Act.put, List.setIfInBounds_toArray, List.set_cons_zero, List.set_cons_succ, List.cons_append, List.nil_append])
    refine wpF_nil (fun vs w1 hE hk => ?_)
    have b := hE
    have e1 := Lib.hid ((hE.cell (p := ⟨bA, oA + (Y * Wn + X), none⟩) hb0).trans E0.out)
    have hb1 : bA < w1.heap.size := by have := hE.size; omega
    clear hE hk KS
    have Vp_1 := Lib.hid (Vp_0.out.keep b)
    have Va_1 := Lib.hid (Va_0.out.keep b)
    have B_1 := Lib.hid (B_0.out.trans (b.mono B_0.out.size))
    clear Vp_0 Va_0 B_0 b
    obtain ⟨cp0, cp1, cp2⟩ := Vp_1.out.three
    obtain ⟨ca0, ca1, ca2⟩ := Va_1.out.three
    go_wp2_with fail
    refine (CR.out _ (RP.out.below B_1.out)).mono ?_
    rintro _ w2 ⟨rfl, b⟩
    have e2 := (b.cell (p := ⟨bA, oA + (Y * Wn + X), none⟩) hb1).trans e1.out
    rw [← Nat.add_assoc] at e2
    have Vp_2 := Lib.hid (Vp_1.out.keep b)
    have Va_2 := Lib.hid (Va_1.out.keep b)
    have B_2 := Lib.hid (B_1.out.trans (b.mono B_1.out.size))
    clear cp0 cp1 cp2 ca0 ca1 ca2
    clear Vp_1 Va_1 B_1 b
    obtain ⟨cp0, cp1, cp2⟩ := Vp_2.out.three
    obtain ⟨ca0, ca1, ca2⟩ := Va_2.out.three
    go_wp2_with fail
    go_ret
    exact ⟨_, rfl, B_2.out⟩
/-! ### partOfTurn -/
theorem c_partOfTurn (v : Nat) (w : World) (j : Nat) (hti : floatToIntVal .f64 v .i64 = some (ti v)) : Calls Try.prog 146 #[.float .f64 v] (w.drewN j) (RetF .f64 (partF v) w) := by
  have H := Lib.hid hti
  clear hti
  cases h : (FloatKind.f64.format.order (fop .sub .f64 v (floatOfInt .f64 (ti v))) 0 == some .lt)
  · have e : partF v = fop .sub .f64 v (floatOfInt .f64 (ti v)) := by unfold partF; rw [h, if_neg (by decide)]
    rw [e]
    go_enter Try.func146, Try.ntmps146
    go_wp2_with (first | (first | (refine wpList_fop rfl _ _ _ _ _ rfl _ _ _ rfl rfl (by decide) _ ?_; intro _ _) | (refine upon_fop _ _ _ _ _ (by decide) ?_; intro _ _)) | (refine wpList_ftoi rfl 32 2 _ rfl (Option.isSome_iff_exists.2 ⟨_, Try.underlying32⟩) .i64 Try.underlying2 _ _ rfl (by exact H.out) ?_))
    go_ret
    exact ⟨_, _, rfl, rfl⟩
  · have e : partF v = fop .add .f64 (fop .sub .f64 v (floatOfInt .f64 (ti v))) 4607182418800017408 := by unfold partF; rw [h, if_pos rfl]; rfl
    rw [e]
    go_enter Try.func146, Try.ntmps146
    go_wp2_with (first | (first | (refine wpList_fop rfl _ _ _ _ _ rfl _ _ _ rfl rfl (by decide) _ ?_; intro _ _) | (refine upon_fop _ _ _ _ _ (by decide) ?_; intro _ _)) | (refine wpList_ftoi rfl 32 2 _ rfl (Option.isSome_iff_exists.2 ⟨_, Try.underlying32⟩) .i64 Try.underlying2 _ _ rfl (by exact H.out) ?_))
    go_ret
    exact ⟨_, _, rfl, rfl⟩
/-! ### radians -/

/-! ### sineOf -/
theorem c_sineOf_ff (v f : Nat) (w : World) (j : Nat) (Hti : Hid (floatToIntVal .f64 v .i64 = some (ti v))) (Hf : Hid (partF v = f))
    (hb : (FloatKind.f64.format.order f 4602678819172646912 == some .gt || FloatKind.f64.format.order f 4602678819172646912 == some .eq) = false)
    (hq : (FloatKind.f64.format.order f 4598175219545276416 == some .gt) = false) : Calls Try.prog 134 #[.float .f64 v] (w.drewN j) (RetF .f64 (sinF v) w) := by
  have HF : Hid (sinF v = (sinZ (fop .mul .f64 f 4618760256179416344))) := by
    unfold Hid sinF lowB fold2 half64 quarter64 twopi64; rw [Hf.out, hb]; simp only [if_true, if_false, Bool.false_eq_true, hq]
  go_enter Try.func134, Try.ntmps134
  go_wp2_with (first | (first | (refine wpList_fop rfl _ _ _ _ _ rfl _ _ _ rfl rfl (by decide) _ ?_; intro _ _) | (refine upon_fop _ _ _ _ _ (by decide) ?_; intro _ _)) | (go_at_call 146; refine (c_partOfTurn _ _ _ Hti.out).mono ?_; rw [Hf.out]; rintro _ _ ⟨_, _, rfl, rfl⟩) | go_in)
  generalize hu : fop .mul .f64 (fop .mul .f64 f 4618760256179416344) (fop .mul .f64 f 4618760256179416344) = u
  have Hu := Lib.hid hu
  clear hu
  go_loopw [7, 8] (fun p k wr => ∃ i n m : Nat, i ≤ 8 ∧ p = .float .f64 (pick .f64 (ser u i) n) ∧ k = .float .f64 (kfl i) ∧ wr = w.drewN m) (fun _ k _ => fbits k)
  case atStart => exact ⟨0, 0, _, by omega, by rw [pick_not (show isN .f64 (ser u 0) = false from (by decide +kernel : isN .f64 one64 = false))]; rfl, rfl, rfl⟩
  case round =>
    obtain ⟨i, n, m, hi, rfl, rfl, rfl⟩ := hrel
    by_cases hlt : i < 8
    · have ht := kfl_test i hlt
      unfold one64 at ht
      have HD := Lib.hid (kfl_den i hlt)
      have HN := Lib.hid (kfl_next i hlt)
      have HL := Lib.hid (kfl_lt i hlt)
      go_wp2_with (first | (refine wpList_fop rfl _ _ _ _ _ rfl _ _ _ rfl rfl (by decide) _ ?_; intro _ _) | (refine upon_fop _ _ _ _ _ (by decide) ?_; intro _ _))
      go_roundw
      case rel => exact ⟨i + 1, _, _, by omega, by rw [ser_step, ← HD.out]; rfl, by have e := HN.out; unfold one64 at e; rw [e, pick_not (kfl_notN _)], rfl⟩
      case measure => have e := HN.out; unfold one64 at e; rw [e, pick_not (kfl_notN _)]; exact HL.out
    · obtain rfl : i = 8 := by omega
      have ht := kfl_end
      unfold one64 at ht
      go_wp2_with (first | (refine wpList_fop rfl _ _ _ _ _ rfl _ _ _ rfl rfl (by decide) _ ?_; intro _ _) | (refine upon_fop _ _ _ _ _ (by decide) ?_; intro _ _))
      go_ret
      rw [HF.out]
      unfold sinZ
      rw [Hu.out]
      exact ⟨_, _, rfl, rfl⟩
theorem c_sineOf_ft (v f : Nat) (w : World) (j : Nat) (Hti : Hid (floatToIntVal .f64 v .i64 = some (ti v))) (Hf : Hid (partF v = f))
    (hb : (FloatKind.f64.format.order f 4602678819172646912 == some .gt || FloatKind.f64.format.order f 4602678819172646912 == some .eq) = false)
    (hq : (FloatKind.f64.format.order f 4598175219545276416 == some .gt) = true) : Calls Try.prog 134 #[.float .f64 v] (w.drewN j) (RetF .f64 (sinF v) w) := by
  have HF : Hid (sinF v = (sinZ (fop .mul .f64 (fop .sub .f64 4602678819172646912 f) 4618760256179416344))) := by
    unfold Hid sinF lowB fold2 half64 quarter64 twopi64; rw [Hf.out, hb]; simp only [if_true, if_false, Bool.false_eq_true, hq]
  go_enter Try.func134, Try.ntmps134
  go_wp2_with (first | (first | (refine wpList_fop rfl _ _ _ _ _ rfl _ _ _ rfl rfl (by decide) _ ?_; intro _ _) | (refine upon_fop _ _ _ _ _ (by decide) ?_; intro _ _)) | (go_at_call 146; refine (c_partOfTurn _ _ _ Hti.out).mono ?_; rw [Hf.out]; rintro _ _ ⟨_, _, rfl, rfl⟩) | go_in)
  generalize hu : fop .mul .f64 (fop .mul .f64 (fop .sub .f64 4602678819172646912 f) 4618760256179416344) (fop .mul .f64 (fop .sub .f64 4602678819172646912 f) 4618760256179416344) = u
  have Hu := Lib.hid hu
  clear hu
  go_loopw [7, 8] (fun p k wr => ∃ i n m : Nat, i ≤ 8 ∧ p = .float .f64 (pick .f64 (ser u i) n) ∧ k = .float .f64 (kfl i) ∧ wr = w.drewN m) (fun _ k _ => fbits k)
  case atStart => exact ⟨0, 0, _, by omega, by rw [pick_not (show isN .f64 (ser u 0) = false from (by decide +kernel : isN .f64 one64 = false))]; rfl, rfl, rfl⟩
  case round =>
    obtain ⟨i, n, m, hi, rfl, rfl, rfl⟩ := hrel
    by_cases hlt : i < 8
    · have ht := kfl_test i hlt
      unfold one64 at ht
      have HD := Lib.hid (kfl_den i hlt)
      have HN := Lib.hid (kfl_next i hlt)
      have HL := Lib.hid (kfl_lt i hlt)
      go_wp2_with (first | (refine wpList_fop rfl _ _ _ _ _ rfl _ _ _ rfl rfl (by decide) _ ?_; intro _ _) | (refine upon_fop _ _ _ _ _ (by decide) ?_; intro _ _))
      go_roundw
      case rel => exact ⟨i + 1, _, _, by omega, by rw [ser_step, ← HD.out]; rfl, by have e := HN.out; unfold one64 at e; rw [e, pick_not (kfl_notN _)], rfl⟩
      case measure => have e := HN.out; unfold one64 at e; rw [e, pick_not (kfl_notN _)]; exact HL.out
    · obtain rfl : i = 8 := by omega
      have ht := kfl_end
      unfold one64 at ht
      go_wp2_with (first | (refine wpList_fop rfl _ _ _ _ _ rfl _ _ _ rfl rfl (by decide) _ ?_; intro _ _) | (refine upon_fop _ _ _ _ _ (by decide) ?_; intro _ _))
      go_ret
      rw [HF.out]
      unfold sinZ
      rw [Hu.out]
      exact ⟨_, _, rfl, rfl⟩
theorem c_sineOf_tf (v f : Nat) (w : World) (j : Nat) (Hti : Hid (floatToIntVal .f64 v .i64 = some (ti v))) (Hf : Hid (partF v = f))
    (hb : (FloatKind.f64.format.order f 4602678819172646912 == some .gt || FloatKind.f64.format.order f 4602678819172646912 == some .eq) = true)
    (hq : (FloatKind.f64.format.order (fop .sub .f64 f 4602678819172646912) 4598175219545276416 == some .gt) = false) : Calls Try.prog 134 #[.float .f64 v] (w.drewN j) (RetF .f64 (sinF v) w) := by
  have HF : Hid (sinF v = fneg .f64 (sinZ (fop .mul .f64 (fop .sub .f64 f 4602678819172646912) 4618760256179416344))) := by
    unfold Hid sinF lowB fold2 half64 quarter64 twopi64; rw [Hf.out, hb]; simp only [if_true, if_false, Bool.false_eq_true, hq]
  go_enter Try.func134, Try.ntmps134
  go_wp2_with (first | (first | (refine wpList_fop rfl _ _ _ _ _ rfl _ _ _ rfl rfl (by decide) _ ?_; intro _ _) | (refine upon_fop _ _ _ _ _ (by decide) ?_; intro _ _)) | (go_at_call 146; refine (c_partOfTurn _ _ _ Hti.out).mono ?_; rw [Hf.out]; rintro _ _ ⟨_, _, rfl, rfl⟩) | go_in)
  generalize hu : fop .mul .f64 (fop .mul .f64 (fop .sub .f64 f 4602678819172646912) 4618760256179416344) (fop .mul .f64 (fop .sub .f64 f 4602678819172646912) 4618760256179416344) = u
  have Hu := Lib.hid hu
  clear hu
  go_loopw [7, 8] (fun p k wr => ∃ i n m : Nat, i ≤ 8 ∧ p = .float .f64 (pick .f64 (ser u i) n) ∧ k = .float .f64 (kfl i) ∧ wr = w.drewN m) (fun _ k _ => fbits k)
  case atStart => exact ⟨0, 0, _, by omega, by rw [pick_not (show isN .f64 (ser u 0) = false from (by decide +kernel : isN .f64 one64 = false))]; rfl, rfl, rfl⟩
  case round =>
    obtain ⟨i, n, m, hi, rfl, rfl, rfl⟩ := hrel
    by_cases hlt : i < 8
    · have ht := kfl_test i hlt
      unfold one64 at ht
      have HD := Lib.hid (kfl_den i hlt)
      have HN := Lib.hid (kfl_next i hlt)
      have HL := Lib.hid (kfl_lt i hlt)
      go_wp2_with (first | (refine wpList_fop rfl _ _ _ _ _ rfl _ _ _ rfl rfl (by decide) _ ?_; intro _ _) | (refine upon_fop _ _ _ _ _ (by decide) ?_; intro _ _))
      go_roundw
      case rel => exact ⟨i + 1, _, _, by omega, by rw [ser_step, ← HD.out]; rfl, by have e := HN.out; unfold one64 at e; rw [e, pick_not (kfl_notN _)], rfl⟩
      case measure => have e := HN.out; unfold one64 at e; rw [e, pick_not (kfl_notN _)]; exact HL.out
    · obtain rfl : i = 8 := by omega
      have ht := kfl_end
      unfold one64 at ht
      go_wp2_with (first | (refine wpList_fop rfl _ _ _ _ _ rfl _ _ _ rfl rfl (by decide) _ ?_; intro _ _) | (refine upon_fop _ _ _ _ _ (by decide) ?_; intro _ _))
      go_ret
      rw [HF.out]
      unfold sinZ
      rw [Hu.out]
      exact ⟨_, _, rfl, rfl⟩
theorem c_sineOf_tt (v f : Nat) (w : World) (j : Nat) (Hti : Hid (floatToIntVal .f64 v .i64 = some (ti v))) (Hf : Hid (partF v = f))
    (hb : (FloatKind.f64.format.order f 4602678819172646912 == some .gt || FloatKind.f64.format.order f 4602678819172646912 == some .eq) = true)
    (hq : (FloatKind.f64.format.order (fop .sub .f64 f 4602678819172646912) 4598175219545276416 == some .gt) = true) : Calls Try.prog 134 #[.float .f64 v] (w.drewN j) (RetF .f64 (sinF v) w) := by
  have HF : Hid (sinF v = fneg .f64 (sinZ (fop .mul .f64 (fop .sub .f64 4602678819172646912 (fop .sub .f64 f 4602678819172646912)) 4618760256179416344))) := by
    unfold Hid sinF lowB fold2 half64 quarter64 twopi64; rw [Hf.out, hb]; simp only [if_true, if_false, Bool.false_eq_true, hq]
  go_enter Try.func134, Try.ntmps134
  go_wp2_with (first | (first | (refine wpList_fop rfl _ _ _ _ _ rfl _ _ _ rfl rfl (by decide) _ ?_; intro _ _) | (refine upon_fop _ _ _ _ _ (by decide) ?_; intro _ _)) | (go_at_call 146; refine (c_partOfTurn _ _ _ Hti.out).mono ?_; rw [Hf.out]; rintro _ _ ⟨_, _, rfl, rfl⟩) | go_in)
  generalize hu : fop .mul .f64 (fop .mul .f64 (fop .sub .f64 4602678819172646912 (fop .sub .f64 f 4602678819172646912)) 4618760256179416344) (fop .mul .f64 (fop .sub .f64 4602678819172646912 (fop .sub .f64 f 4602678819172646912)) 4618760256179416344) = u
  have Hu := Lib.hid hu
  clear hu
  go_loopw [7, 8] (fun p k wr => ∃ i n m : Nat, i ≤ 8 ∧ p = .float .f64 (pick .f64 (ser u i) n) ∧ k = .float .f64 (kfl i) ∧ wr = w.drewN m) (fun _ k _ => fbits k)
  case atStart => exact ⟨0, 0, _, by omega, by rw [pick_not (show isN .f64 (ser u 0) = false from (by decide +kernel : isN .f64 one64 = false))]; rfl, rfl, rfl⟩
  case round =>
    obtain ⟨i, n, m, hi, rfl, rfl, rfl⟩ := hrel
    by_cases hlt : i < 8
    · have ht := kfl_test i hlt
      unfold one64 at ht
      have HD := Lib.hid (kfl_den i hlt)
      have HN := Lib.hid (kfl_next i hlt)
      have HL := Lib.hid (kfl_lt i hlt)
      go_wp2_with (first | (refine wpList_fop rfl _ _ _ _ _ rfl _ _ _ rfl rfl (by decide) _ ?_; intro _ _) | (refine upon_fop _ _ _ _ _ (by decide) ?_; intro _ _))
      go_roundw
      case rel => exact ⟨i + 1, _, _, by omega, by rw [ser_step, ← HD.out]; rfl, by have e := HN.out; unfold one64 at e; rw [e, pick_not (kfl_notN _)], rfl⟩
      case measure => have e := HN.out; unfold one64 at e; rw [e, pick_not (kfl_notN _)]; exact HL.out
    · obtain rfl : i = 8 := by omega
      have ht := kfl_end
      unfold one64 at ht
      go_wp2_with (first | (refine wpList_fop rfl _ _ _ _ _ rfl _ _ _ rfl rfl (by decide) _ ?_; intro _ _) | (refine upon_fop _ _ _ _ _ (by decide) ?_; intro _ _))
      go_ret
      rw [HF.out]
      unfold sinZ
      rw [Hu.out]
      exact ⟨_, _, rfl, rfl⟩
/-! ### sineAll -/
theorem c_sineOf (v : Nat) (w : World) (j : Nat) (hti : floatToIntVal .f64 v .i64 = some (ti v)) : Calls Try.prog 134 #[.float .f64 v] (w.drewN j) (RetF .f64 (sinF v) w) := by
  cases hb : (FloatKind.f64.format.order (partF v) 4602678819172646912 == some .gt || FloatKind.f64.format.order (partF v) 4602678819172646912 == some .eq)
  · cases hq : (FloatKind.f64.format.order (partF v) 4598175219545276416 == some .gt)
    · exact c_sineOf_ff v _ w j hti rfl hb hq
    · exact c_sineOf_ft v _ w j hti rfl hb hq
  · cases hq : (FloatKind.f64.format.order (fop .sub .f64 (partF v) 4602678819172646912) 4598175219545276416 == some .gt)
    · exact c_sineOf_tf v _ w j hti rfl hb hq
    · exact c_sineOf_tt v _ w j hti rfl hb hq

/-! ### iSineTurns -/
theorem c_iSineTurns (v n : Nat) (w : World) (j : Nat) (hv : v < 2 ^ FloatKind.f32.format.width) : Calls Try.prog 108 #[.float .f32 (pick .f32 v n)] (w.drewN j) (RetF .f32 (sineT v) w) := by
  cases hf : finB .f32 v
  · have e : sineT v = qn .f32 := by unfold sineT; rw [hf, if_neg (by decide)]
    obtain ⟨n0, hn0⟩ := nanOf_onto .f32 2143289344 (by decide +kernel) (by decide +kernel)
    rw [e]
    have H := Lib.hid hn0
    clear hn0
    go_enter Try.func108, Try.ntmps108
    go_wp2_with (first | (go_at_call 85; refine (c_iIsFinite _ _ _ _).mono ?_; rintro _ _ ⟨_, rfl, rfl⟩) | (go_at_call 131; refine (c_notANumber _ _).mono ?_; rintro _ _ ⟨_, rfl, rfl⟩))
    go_ret
    exact ⟨n0, _, by simp only [pick, isN_qn, if_true]; rw [← H.out]; rfl, rfl⟩
  · have hn : isN .f64 (cvU v) = false := by rw [isN_cvU]; exact notN_fin (k := .f32) (of_decide_eq_true hf)
    obtain ⟨g1, g2⟩ := big_abs (cvU v) hn
    clear g1
    have hp := pick_not hn
    cases hb : decide (4841369599423283200 ≤ rung Ieee.double (cvU v))
    · obtain ⟨k1, k2, k3⟩ := fin_small hf hb
      have e : sineT v = cvN (sinF (cvU v)) := by unfold sineT; rw [hf, if_pos rfl, hb, if_neg (by decide)]
      rw [e]
      rw [hb] at g2
      have H := Lib.hid (And.intro k2 k3)
      clear k1 k2 k3 hn
      go_enter Try.func108, Try.ntmps108
      go_wp2_with (first | (refine wpList_cvU rfl 26 32 _ rfl (Option.isSome_iff_exists.2 ⟨_, Try.underlying26⟩) Try.underlying32 _ rfl _ ?_; intro _ _) | (go_at_call 85; refine (c_iIsFinite _ _ _ _).mono ?_; rintro _ _ ⟨_, rfl, rfl⟩) | (go_at_call 132; rw [← hp 0]; refine (c_Abs _ _ _ _ (cvU_lt _)).mono ?_; rintro _ _ ⟨_, _, rfl, rfl⟩) | (go_at_call 134; refine (c_sineOf _ _ _ H.out.1).mono ?_; rintro _ _ ⟨_, _, rfl, rfl⟩) | (go_at_call 133; refine (c_NarrowNumber _ _ _ _ (Fits_sin H.out.2)).mono ?_; rintro _ _ ⟨_, _, rfl, rfl⟩))
      go_ret
      exact ⟨_, _, rfl, rfl⟩
    · have e : sineT v = 0 := by unfold sineT; rw [hf, if_pos rfl, hb, if_pos rfl]
      rw [e]
      rw [hb] at g2
      clear hn
      go_enter Try.func108, Try.ntmps108
      go_wp2_with (first | (refine wpList_cvU rfl 26 32 _ rfl (Option.isSome_iff_exists.2 ⟨_, Try.underlying26⟩) Try.underlying32 _ rfl _ ?_; intro _ _) | (go_at_call 85; refine (c_iIsFinite _ _ _ _).mono ?_; rintro _ _ ⟨_, rfl, rfl⟩) | (go_at_call 132; rw [← hp 0]; refine (c_Abs _ _ _ _ (cvU_lt _)).mono ?_; rintro _ _ ⟨_, _, rfl, rfl⟩))
      go_ret
      exact ⟨0, _, by rw [pick_not (show isN .f32 0 = false by decide +kernel)]; rfl, rfl⟩
/-! ### cosineTurns -/
theorem c_cosineTurns (v n : Nat) (w : World) (j : Nat) : Calls Try.prog 109 #[.float .f32 (pick .f32 v n)] (w.drewN j) (RetF .f32 (cosT v) w) := by
  unfold cosT
  go_enter Try.func109, Try.ntmps109
  go_wp2_with (first | (first | (refine wpList_fop rfl _ _ _ _ _ rfl _ _ _ rfl rfl (by decide) _ ?_; intro _ _) | (refine upon_fop _ _ _ _ _ (by decide) ?_; intro _ _)) | (go_at_call 108; refine (c_iSineTurns _ _ _ _ (fop_lt _ _ _ _)).mono ?_; rintro _ _ ⟨_, _, rfl, rfl⟩))
  go_ret
  exact ⟨_, _, rfl, rfl⟩
/-! ### iWayOfS -/
theorem c_iWayOfS (Wn Hn x y : Nat) (w : World) (hx : x < Wn) (hW : Wn ≤ 16) (hy : y < Hn) (hH : Hn ≤ 16) : Calls Try.prog 63 #[.agg #[.int .i64 (Wn : Int), .int .i64 (Hn : Int)], .int .i64 (x : Int), .int .i64 (y : Int)] w (WayR (wayV (Wn : Int) (Hn : Int) (x : Int) (y : Int)) w) := by
  unfold wayV wayT atT
  have m2 : IntKind.i64.wrap (2 * (Hn : Int)) = 2 * (Hn : Int) := IntWalk.i64_in _ (by omega)
  generalize hw0 : (w.alloc (Obj.cells #[.int .i64 (Wn : Int), .int .i64 (Hn : Int)] 77)).alloc (Obj.cells #[.float .f32 0, .float .f32 0, .float .f32 0] 36) = w0
  have V0 := Lib.hid (show Var w0 w.heap.size #[.int .i64 (Wn : Int), .int .i64 (Hn : Int)] from by subst hw0; exact (Var.new _ _ _).alloc _)
  have Vz := Lib.hid (show Var w0 (w.heap.size + 1) #[.float .f32 0, .float .f32 0, .float .f32 0] from by subst hw0; exact Var.new' _ _ _ _ (by first | rfl | simp))
  have F0 := Lib.hid (show Free w0 (w.heap.size + 1) from by subst hw0; exact Free.new' _ _ _ _ (by first | rfl | simp))
  have B0 := Lib.hid (show Below w.heap.size w w0 from by subst hw0; exact ((Below.refl _ _).alloc (Nat.le_refl _) _).alloc (by simp) _)
  have HW := Lib.hid hw0
  clear hw0
  have KS := Lib.hid (fun (w' : World) (hE : Below w0.heap.size w0 w') => (⟨(V0.out.keep hE).2 0 (by simp), (V0.out.keep hE).2 1 (by simp)⟩ : w'.cell? ⟨w.heap.size, 0, none⟩ = some (.int .i64 (Wn : Int)) ∧ w'.cell? ⟨w.heap.size, 1, none⟩ = some (.int .i64 (Hn : Int))))
  obtain ⟨s0, s1⟩ := KS.out w0 (Below.refl _ _)
  obtain ⟨c0, c1, c2⟩ := Vz.out.three
  have f0 := F0.out 0
  have f1 := F0.out 1
  have f2 := F0.out 2
  go_enter Try.func63, Try.ntmps63
  go_wp2_with fail
  rw [HW.out]
  refine upon_fop0 _ _ _ _ _ (by decide) ?_
  intro _ _
  go_wp2_with (first | (first | (refine wpList_fop rfl _ _ _ _ _ rfl _ _ _ rfl rfl (by decide) _ ?_; intro _ _) | (refine upon_fop _ _ _ _ _ (by decide) ?_; intro _ _)) | (go_at_call 109; refine (c_cosineTurns _ _ _ _).mono ?_; rintro _ _ ⟨_, _, rfl, rfl⟩) | (go_at_call 108; refine (c_iSineTurns _ _ _ _ (fop_lt _ _ _ _)).mono ?_; rintro _ _ ⟨_, _, rfl, rfl⟩))
  refine bodyPost_ret (by simp [results, Try.results63, c0, c1, c2, go_sem]; exact ⟨rfl, rfl, rfl⟩) rfl ⟨_, _, _, rfl, ?_⟩
  repeat (first | exact B0.out | exact Nat.le_refl _ | (refine Below.setCell ?_ ?_ _) | (refine below_drewN ?_ _) | (refine Below.alloc ?_ ?_ _) | (simp <;> omega))
/-! ### iLess -/
theorem c_iLess (a n b m c k d l : Nat) (w : World) (j : Nat) : Calls Try.prog 118 #[.float .f32 (pick .f32 a n), .float .f32 (pick .f32 b m), .float .f32 (pick .f32 c k), .float .f32 (pick .f32 d l)] (w.drewN j) (RetF .f32 (lessV a b c d) w) := by
  unfold lessV
  go_enter Try.func118, Try.ntmps118
  go_wp2_with (first | (refine wpList_fop rfl _ _ _ _ _ rfl _ _ _ rfl rfl (by decide) _ ?_; intro _ _) | (refine upon_fop _ _ _ _ _ (by decide) ?_; intro _ _))
  go_ret
  exact ⟨_, _, rfl, rfl⟩
theorem c_iLess0 (a n b m c k d l : Nat) (w : World) : Calls Try.prog 118 #[.float .f32 (pick .f32 a n), .float .f32 (pick .f32 b m), .float .f32 (pick .f32 c k), .float .f32 (pick .f32 d l)] w (RetF .f32 (lessV a b c d) w) := by
  have h := c_iLess a n b m c k d l w 0
  rwa [w.drewN_zero] at h
/-! ### turnedPair -/
theorem c_turnedPair (a n b m c k s l : Nat) (w : World) (j : Nat) : Calls Try.prog 116 #[.complex .f32 (pick .f32 a n) (pick .f32 b m), .complex .f32 (pick .f32 c k) (pick .f32 s l)] (w.drewN j) (RetC .f32 (lessV c a s b) (sumV s a c b) w) := by
  unfold sumV
  go_enter Try.func116, Try.ntmps116
  go_wp2_with (first | (first | (refine wpList_fop rfl _ _ _ _ _ rfl _ _ _ rfl rfl (by decide) _ ?_; intro _ _) | (refine upon_fop _ _ _ _ _ (by decide) ?_; intro _ _)) | (go_at_call 118; refine (c_iLess _ _ _ _ _ _ _ _ _ _).mono ?_; rintro _ _ ⟨_, _, rfl, rfl⟩))
  go_ret
  exact ⟨_, _, _, rfl, rfl⟩
/-! ### tiltedWay -/
theorem c_tiltedWay (ar an ag am ab ak : Nat) (c q s l : Nat) (w : World) : Calls Try.prog 71 #[.agg #[.float .f32 (pick .f32 ar an), .float .f32 (pick .f32 ag am), .float .f32 (pick .f32 ab ak)], .complex .f32 (pick .f32 c q) (pick .f32 s l)] w (WayR (tilT ar ag ab c s) w) := by
  generalize hw0 : (w.alloc (Obj.cells #[.float .f32 (pick .f32 ar an), .float .f32 (pick .f32 ag am), .float .f32 (pick .f32 ab ak)] 36)).alloc (Obj.cells #[.float .f32 0, .float .f32 0, .float .f32 0] 36) = w0
  have Va_0 := Lib.hid (show Var w0 (w.heap.size) #[.float .f32 (pick .f32 ar an), .float .f32 (pick .f32 ag am), .float .f32 (pick .f32 ab ak)] from by subst hw0; exact ((Var.new' _ _ _ _ (by first | rfl | simp)).alloc _))
  have Vz_0 := Lib.hid (show Var w0 (w.heap.size + 1) #[.float .f32 0, .float .f32 0, .float .f32 0] from by subst hw0; exact (Var.new' _ _ _ _ (by first | rfl | simp)))
  have F_0 := Lib.hid (show Free w0 (w.heap.size + 1) from by subst hw0; exact Free.new' _ _ _ _ (by first | rfl | simp))
  have B_0 := Lib.hid (show Below w.heap.size w w0 from by subst hw0; exact (((Below.refl _ _).alloc (Nat.le_refl _) _).alloc (by simp) _))
  have SZ := Lib.hid (show w0.heap.size = w.heap.size + 2 from by subst hw0; simp)
  have HW := Lib.hid hw0
  clear hw0
  obtain ⟨ca0, ca1, ca2⟩ := Va_0.out.three
  obtain ⟨cz0, cz1, cz2⟩ := Vz_0.out.three
  have f0 := F_0.out 0
  have f1 := F_0.out 1
  have f2 := F_0.out 2
  go_enter Try.func71, Try.ntmps71
  go_wp2_with fail
  rw [HW.out]
  rw [← w0.drewN_zero]
  go_wp2_with (go_at_call 116; refine (c_turnedPair _ _ _ _ _ _ _ _ _ _).mono ?_; rintro _ _ ⟨k1, k2, _, rfl, rfl⟩)
  refine bodyPost_ret (v := .agg #[.float .f32 (pick .f32 (ar) an), .float .f32 (pick .f32 (lessV c ag s ab) k1), .float .f32 (pick .f32 (sumV s ag c ab) k2)]) (by simp [results, Try.results71, cz0, cz1, cz2, go_sem]) rfl ⟨_, _, _, rfl, ?_⟩
  repeat (first | exact B_0.out | exact Nat.le_refl _ | (refine Below.setCell ?_ ?_ _) | (refine below_drewN ?_ _) | (refine Below.alloc ?_ ?_ _) | (simp <;> omega))
/-! ### atTilt -/
theorem c_atTilt (Wn Hn x y : Nat) (c q s l : Nat) (zP : List Nat) (aP : Option Addr) (cP : Nat) (bp bt bs bc : Nat) (w : World) (hp : Var w bp #[.int .i64 (Wn : Int), .int .i64 (Hn : Int), .slice aP zP.length cP]) (ht : Var w bt #[.func (.func 71) #[] #[]]) (hs : Var w bs #[.int .i64 (Wn : Int), .int .i64 (Hn : Int)]) (hc : Var w bc #[.complex .f32 (pick .f32 c q) (pick .f32 s l)]) (rP : IsRowF .f32 w aP zP.length cP zP) (hW1 : 1 ≤ Wn) (hW2 : Wn ≤ 16) (hH1 : 1 ≤ Hn) (hH2 : Hn ≤ 16) (hx : x < Wn) (hy : y < Hn) (hl : zP.length = Wn * Hn) : Calls Try.prog 114 #[.int .i64 (x : Int), .int .i64 (y : Int), .pointer (some ⟨bp, 0, none⟩), .pointer (some ⟨bt, 0, none⟩), .pointer (some ⟨bs, 0, none⟩), .pointer (some ⟨bc, 0, none⟩)] w (fun e w' => ∃ n, e = .returned (.float .f32 (pick .f32 (sphF tilT zP Wn Hn c s x y) n)) ∧ Below w.heap.size w w') := by
  have VP := Lib.hid hp
  have VT := Lib.hid ht
  have VS := Lib.hid hs
  have VC := Lib.hid hc
  have RP := Lib.hid rP
  have KS := Lib.hid (fun (w' : World) (hE : Below w.heap.size w w') => (⟨(VP.out.keep hE).three.1, (VP.out.keep hE).three.2.1, (VP.out.keep hE).three.2.2, (VT.out.keep hE).2 0 (by simp), (VS.out.keep hE).2 0 (by simp), (VS.out.keep hE).2 1 (by simp), (VC.out.keep hE).2 0 (by simp)⟩ : _ ∧ _ ∧ _ ∧ w'.cell? ⟨bt, 0, none⟩ = some (.func (.func 71) #[] #[]) ∧ w'.cell? ⟨bs, 0, none⟩ = some (.int .i64 (Wn : Int)) ∧ w'.cell? ⟨bs, 1, none⟩ = some (.int .i64 (Hn : Int)) ∧ w'.cell? ⟨bc, 0, none⟩ = some (.complex .f32 (pick .f32 c q) (pick .f32 s l))))
  have CW := Lib.hid (fun w => c_iWayOfS Wn Hn x y w hx hW2 hy hH2)
  unfold sphF tilT
  have hwl : (wayV (Wn : Int) (Hn : Int) (x : Int) (y : Int)).1 < 2 ^ FloatKind.f32.format.width ∧ (wayV (Wn : Int) (Hn : Int) (x : Int) (y : Int)).2.2 < 2 ^ FloatKind.f32.format.width := ⟨fop_lt _ _ _ _, sineT_lt _⟩
  generalize wayV (Wn : Int) (Hn : Int) (x : Int) (y : Int) = wv at *
  have CT := Lib.hid (fun n m k w => c_tiltedWay wv.1 n wv.2.1 m wv.2.2 k c q s l w)
  have CL := Lib.hid (fun n m k w (r : IsRowF .f32 w aP zP.length cP zP) => c_lightToward Wn Hn zP aP cP (wv.1) n (lessV c wv.2.1 s wv.2.2) m (sumV s wv.2.1 c wv.2.2) k w r hW1 hW2 hH1 hH2 hl hwl.1 (fop_lt _ _ _ _) (fop_lt _ _ _ _))
  clear hp ht hs hc rP hl hwl
  go_enter Try.func114, Try.ntmps114
  go_wp2_with fail
  refine wp_region_facts 9 (fun a b => Below a.heap.size a b) (fun _ => Below.refl _ _) (fun _ _ _ h h' => h.trans (h'.mono h.size)) (Below.refl _ _).drew (by kernel_rfl) (by kernel_rfl) (by kernel_rfl) (by kernel_rfl) ?_
  simp only [List.take_succ_cons, List.take_zero, List.drop_succ_cons, List.drop_zero]
  (with_reducible apply wpF_val); (focus (intro vs w' hE hk; (obtain ⟨d0, d1, d2, d3, d4, d5, d6⟩ := KS.out w' hE); go_simp; exact ⟨Below.refl _ _, rfl⟩)); (simp only [Act.put, List.setIfInBounds_toArray, List.set_cons_zero, List.set_cons_succ, List.cons_append, List.nil_append])
  (with_reducible apply wpF_val); (focus (intro vs w' hE hk; (obtain ⟨d0, d1, d2, d3, d4, d5, d6⟩ := KS.out w' hE); go_simp; exact ⟨Below.refl _ _, rfl⟩)); (simp only [Act.put, List.setIfInBounds_toArray, List.set_cons_zero, List.set_cons_succ, List.cons_append, List.nil_append])
  (with_reducible apply wpF_val); (focus (intro vs w' hE hk; (obtain ⟨d0, d1, d2, d3, d4, d5, d6⟩ := KS.out w' hE); go_simp; exact ⟨Below.refl _ _, rfl⟩)); (simp only [Act.put, List.setIfInBounds_toArray, List.set_cons_zero, List.set_cons_succ, List.cons_append, List.nil_append])
  (with_reducible apply wpF_val); (focus (intro vs w' hE hk; (obtain ⟨d0, d1, d2, d3, d4, d5, d6⟩ := KS.out w' hE); go_simp; exact ⟨Below.refl _ _, rfl⟩)); (simp only [Act.put, List.setIfInBounds_toArray, List.set_cons_zero, List.set_cons_succ, List.cons_append, List.nil_append])
  (with_reducible apply wpF_val); (focus (intro vs w' hE hk; (obtain ⟨d0, d1, d2, d3, d4, d5, d6⟩ := KS.out w' hE); go_simp; exact ⟨Below.refl _ _, rfl⟩)); (simp only [Act.put, List.setIfInBounds_toArray, List.set_cons_zero, List.set_cons_succ, List.cons_append, List.nil_append])
  refine wpF_fact (fun u _ => ∃ n m k, u = .agg #[.float .f32 (pick .f32 (wv.1) n), .float .f32 (pick .f32 (wv.2.1) m), .float .f32 (pick .f32 (wv.2.2) k)]) (fun _ _ _ h _ => h) (fun vs w' hE hk => ?_) ?_; (focus ((obtain ⟨d0, d1, d2, d3, d4, d5, d6⟩ := KS.out w' hE); go_simp; refine (CW.out _).mono ?_; rintro _ w9 ⟨n9, m9, k9, rfl, b⟩; exact ⟨_, rfl, b, n9, m9, k9, rfl⟩)); (simp only [Act.put, List.setIfInBounds_toArray, List.set_cons_zero, List.set_cons_succ, List.cons_append, List.nil_append])
  (with_reducible apply wpF_val); (focus (intro vs w' hE hk; (obtain ⟨d0, d1, d2, d3, d4, d5, d6⟩ := KS.out w' hE); go_simp; exact ⟨Below.refl _ _, rfl⟩)); (simp only [Act.put, List.setIfInBounds_toArray, List.set_cons_zero, List.set_cons_succ, List.cons_append, List.nil_append])
  refine wpF_fact (fun u _ => ∃ n m k, u = .agg #[.float .f32 (pick .f32 (wv.1) n), .float .f32 (pick .f32 (lessV c wv.2.1 s wv.2.2) m), .float .f32 (pick .f32 (sumV s wv.2.1 c wv.2.2) k)]) (fun _ _ _ h _ => h) (fun vs w' hE hk => ?_) ?_; (focus (obtain ⟨n9, m9, k9, h9⟩ := hk 5 (by kernel_rfl); simp only [h9]; (obtain ⟨d0, d1, d2, d3, d4, d5, d6⟩ := KS.out w' hE); go_simp; refine (CT.out _ _ _ _).mono ?_; rintro _ w9 ⟨n8, m8, k8, rfl, b⟩; exact ⟨_, rfl, b, n8, m8, k8, rfl⟩)); (simp only [Act.put, List.setIfInBounds_toArray, List.set_cons_zero, List.set_cons_succ, List.cons_append, List.nil_append])
  refine wpF_fact (fun u _ => ∃ n, u = .float .f32 (pick .f32 (towardV Wn Hn zP (wv.1) (lessV c wv.2.1 s wv.2.2) (sumV s wv.2.1 c wv.2.2)) n)) (fun _ _ _ h _ => h) (fun vs w' hE hk => ?_) ?_; (focus (obtain ⟨n9, m9, k9, h9⟩ := hk 7 (by kernel_rfl); simp only [h9]; (obtain ⟨d0, d1, d2, d3, d4, d5, d6⟩ := KS.out w' hE); go_simp; refine (CL.out _ _ _ _ (RP.out.below hE)).mono ?_; rintro _ w9 ⟨n8, rfl, b⟩; exact ⟨_, rfl, b, n8, rfl⟩)); (simp only [Act.put, List.setIfInBounds_toArray, List.set_cons_zero, List.set_cons_succ, List.cons_append, List.nil_append])
  refine wpF_nil (fun vs w1 hE hk => ?_)
  obtain ⟨n5, h5⟩ := hk 8
  simp only [h5]
  have BX := Lib.hid hE
  clear hE hk h5
  go_wp2_with fail
  go_ret
  exact ⟨_, rfl, BX.out⟩
/-! ### allowed -/
theorem c_allowed (W H : Int) (w : World) : Calls Try.prog 105 #[.agg #[.int .i64 W, .int .i64 H]] w (RetB (.bool (sideB W H)) w) := by
  unfold sideB
  by_cases h1 : 1 ≤ W
  · by_cases h2 : W ≤ 16
    · by_cases h3 : 1 ≤ H
      · by_cases h4 : H ≤ 16
        all_goals
          go_enter Try.func105, Try.ntmps105
          go_wp2
          go_ret
          exact ⟨by simp [*] <;> (intros; omega), (Below.refl _ _).alloc (Nat.le_refl _) _⟩
      · go_enter Try.func105, Try.ntmps105
        go_wp2
        go_ret
        exact ⟨by simp [*] <;> (intros; omega), (Below.refl _ _).alloc (Nat.le_refl _) _⟩
    · go_enter Try.func105, Try.ntmps105
      go_wp2
      go_ret
      exact ⟨by simp [*] <;> (intros; omega), (Below.refl _ _).alloc (Nat.le_refl _) _⟩
  · go_enter Try.func105, Try.ntmps105
    go_wp2
    go_ret
    exact ⟨by simp [*] <;> (intros; omega), (Below.refl _ _).alloc (Nat.le_refl _) _⟩
/-! ### iValid -/
theorem c_areFinite0 (a : Option Addr) (len cap : Nat) (zs : List Nat) (w : World) (hr : IsRowF .f32 w a len cap zs) : Calls Try.prog 81 #[.slice a len cap] w (RetV (.bool (finL zs)) w) := by
  have h := c_areFinite a len cap zs w 0 hr
  rwa [w.drewN_zero] at h
theorem c_iValid (W H : Int) (a : Option Addr) (len cap : Nat) (zs : List Nat) (w : World) (hr : IsRowF .f32 w a len cap zs) :
    Calls Try.prog 55 #[.agg #[.int .i64 W, .int .i64 H, .slice a len cap]] w (RetB (.bool (validB W H zs)) w) := by
  have H1 := Lib.hid hr.1
  have HR := Lib.hid hr
  clear hr
  have two : ∀ s : Bool, sideB W H = s → (s = true → ∀ t : Bool, ((len : Int) == W * H) = t → (Calls Try.prog 55 #[.agg #[.int .i64 W, .int .i64 H, .slice a len cap]] w (RetB (.bool (validB W H zs)) w))) → (s = false → Calls Try.prog 55 #[.agg #[.int .i64 W, .int .i64 H, .slice a len cap]] w (RetB (.bool (validB W H zs)) w)) → Calls Try.prog 55 #[.agg #[.int .i64 W, .int .i64 H, .slice a len cap]] w (RetB (.bool (validB W H zs)) w) := by
    intro s hs h1 h2
    cases s
    · exact h2 rfl
    · exact h1 rfl _ rfl
  refine two _ rfl ?_ ?_
  · intro hs t ht
    obtain ⟨m1, m2⟩ := side_mul hs
    have mw : IntKind.i64.wrap (W * H) = W * H := IntWalk.i64_in _ (by omega)
    clear two
    cases t
    · have e : validB W H zs = false := by simp at ht; simp [validB, hs, H1.out, ht]
      have E := Lib.hid e
      have HT := Lib.hid hs
      clear e
      go_enter Try.func55, Try.ntmps55
      go_wp2_with fail
      refine (c_sidesOf W H _ _).mono ?_
      rintro _ w1 ⟨rfl, b1⟩
      obtain ⟨p0, p1, p2⟩ := ((Var.new _ _ _).keep b1).three
      have z1 : w.heap.size < w1.heap.size := by have := b1.size; simp at this; omega
      have B1 := Lib.hid (((Below.refl w.heap.size w).alloc (Nat.le_refl _) _).trans (b1.mono (by simp)))
      clear b1
      go_wp2_with fail
      refine (c_allowed W H _).mono ?_
      rintro _ w2 ⟨rfl, b2⟩
      rw [HT.out]
      have q0 := (b2.cell (p := ⟨w.heap.size, 0, none⟩) z1).trans p0
      have q1 := (b2.cell (p := ⟨w.heap.size, 1, none⟩) z1).trans p1
      have q2 := (b2.cell (p := ⟨w.heap.size, 2, none⟩) z1).trans p2
      have B2 := Lib.hid (B1.out.trans (b2.mono (by omega)))
      clear p0 p1 p2 b2 hs
      go_wp2_with fail
      go_ret
      exact ⟨by rw [E.out]; rfl, B2.out⟩
    · have e : validB W H zs = finL zs := by simp at ht; simp [validB, hs, H1.out, ht]
      have E := Lib.hid e
      have HT := Lib.hid hs
      clear e
      go_enter Try.func55, Try.ntmps55
      go_wp2_with fail
      refine (c_sidesOf W H _ _).mono ?_
      rintro _ w1 ⟨rfl, b1⟩
      obtain ⟨p0, p1, p2⟩ := ((Var.new _ _ _).keep b1).three
      have z1 : w.heap.size < w1.heap.size := by have := b1.size; simp at this; omega
      have B1 := Lib.hid (((Below.refl w.heap.size w).alloc (Nat.le_refl _) _).trans (b1.mono (by simp)))
      clear b1
      go_wp2_with fail
      refine (c_allowed W H _).mono ?_
      rintro _ w2 ⟨rfl, b2⟩
      rw [HT.out]
      have q0 := (b2.cell (p := ⟨w.heap.size, 0, none⟩) z1).trans p0
      have q1 := (b2.cell (p := ⟨w.heap.size, 1, none⟩) z1).trans p1
      have q2 := (b2.cell (p := ⟨w.heap.size, 2, none⟩) z1).trans p2
      have B2 := Lib.hid (B1.out.trans (b2.mono (by omega)))
      clear p0 p1 p2 b2 hs
      go_wp2_with fail
      refine (c_areFinite0 a len cap zs _ (HR.out.below B2.out)).mono ?_
      rintro _ w3 ⟨m, rfl, rfl⟩
      rw [← E.out]
      go_wp2_with fail
      go_ret
      exact ⟨rfl, below_drewN B2.out _⟩
  · intro hs
    have e : validB W H zs = false := by simp [validB, hs]
    have E := Lib.hid e
    have HT := Lib.hid hs
    clear e two
    go_enter Try.func55, Try.ntmps55
    go_wp2_with fail
    refine (c_sidesOf W H _ _).mono ?_
    rintro _ w1 ⟨rfl, b1⟩
    have B1 := Lib.hid (((Below.refl w.heap.size w).alloc (Nat.le_refl _) _).trans (b1.mono (by simp)))
    have z1 : w.heap.size < w1.heap.size := by have := b1.size; simp at this; omega
    clear b1
    go_wp2_with fail
    refine (c_allowed W H _).mono ?_
    rintro _ w2 ⟨rfl, b2⟩
    rw [HT.out]
    have B2 := Lib.hid (B1.out.trans (b2.mono (by omega)))
    clear b2 hs
    go_wp2_with fail
    go_ret
    exact ⟨by rw [E.out]; rfl, B2.out⟩
/-! ### ifValid -/
theorem c_ifValid_yes (W H : Int) (a : Option Addr) (len cap : Nat) (zs : List Nat) (w : World) (hr : IsRowF .f32 w a len cap zs) (hv : validB W H zs = true) : Calls Try.prog 123 #[.agg #[.int .i64 W, .int .i64 H, .slice a len cap]] w (RetB (.tuple #[.agg #[.int .i64 W, .int .i64 H, .slice a len cap], .bool true]) w) := by
  have HR := Lib.hid hr
  have HV := Lib.hid hv
  clear hr hv
  go_enter Try.func123, Try.ntmps123
  go_wp2_with fail
  refine (c_iValid W H a len cap zs _ ((HR.out.alloc _).alloc _)).mono ?_
  rintro _ w1 ⟨rfl, b⟩
  rw [HV.out]
  have V1 := Lib.hid ((((Var.new' _ _ _ (w.heap.size) rfl).alloc _)).keep b)
  have V2 := Lib.hid ((Var.new' _ _ _ (w.heap.size + 1) (by simp)).keep b)
  have z1 : w.heap.size + 1 < w1.heap.size := by have := b.size; simp at this; omega
  have B1 := Lib.hid ((((Below.refl w.heap.size w).alloc (Nat.le_refl _) _).alloc (by simp) _).trans (b.mono (by simp; omega)))
  have Fr := Lib.hid ((Free.new' _ _ _ (w.heap.size + 1) (by simp)).below (by simp <;> omega) b)
  clear b
  obtain ⟨p0, p1, p2⟩ := V1.out.three
  obtain ⟨q0, q1, q2⟩ := V2.out.three
  have f0 := Fr.out 0
  have f1 := Fr.out 1
  have f2 := Fr.out 2
  go_wp2_with fail
  refine bodyPost_ret (v := .tuple #[.agg #[.int .i64 W, .int .i64 H, .slice a len cap], .bool true]) (by simp [results, Try.results123, q0, q1, q2, go_sem]) rfl ⟨rfl, ?_⟩
  exact ((B1.out.setCell (by simp <;> omega) _).setCell (by simp <;> omega) _).setCell (by simp <;> omega) _
theorem c_ifValid_no (W H : Int) (a : Option Addr) (len cap : Nat) (zs : List Nat) (w : World) (hr : IsRowF .f32 w a len cap zs) (hv : validB W H zs = false) : Calls Try.prog 123 #[.agg #[.int .i64 W, .int .i64 H, .slice a len cap]] w (RetB (.tuple #[.agg #[.int .i64 0, .int .i64 0, .slice none 0 0], .bool false]) w) := by
  have HR := Lib.hid hr
  have HV := Lib.hid hv
  clear hr hv
  go_enter Try.func123, Try.ntmps123
  go_wp2_with fail
  refine (c_iValid W H a len cap zs _ ((HR.out.alloc _).alloc _)).mono ?_
  rintro _ w1 ⟨rfl, b⟩
  rw [HV.out]
  have V2 := Lib.hid ((Var.new' _ _ _ (w.heap.size + 1) (by simp)).keep b)
  have z1 : w.heap.size + 1 < w1.heap.size := by have := b.size; simp at this; omega
  have B1 := Lib.hid ((((Below.refl w.heap.size w).alloc (Nat.le_refl _) _).alloc (by simp) _).trans (b.mono (by simp; omega)))
  have Fr := Lib.hid ((Free.new' _ _ _ (w.heap.size + 1) (by simp)).below (by simp <;> omega) b)
  clear b
  obtain ⟨q0, q1, q2⟩ := V2.out.three
  have f0 := Fr.out 0
  have f1 := Fr.out 1
  have f2 := Fr.out 2
  go_wp2_with fail
  refine bodyPost_ret (v := .tuple #[.agg #[.int .i64 0, .int .i64 0, .slice none 0 0], .bool false]) (by simp [results, Try.results123, q0, q1, q2, go_sem]) rfl ⟨rfl, ?_⟩
  exact ((B1.out.setCell (by simp <;> omega) _).setCell (by simp <;> omega) _).setCell (by simp <;> omega) _

/-! ### makeTurnAt -/
theorem c_makeTurnAt (W H : Int) (cv0 cv1 cv2 cv3 : Value) (F : Nat → Nat → Nat) (w : World) (hlt : ∀ x y, F x y < 2 ^ FloatKind.f32.format.width)
    (hF : ∀ (x y : Nat) (wr : World), (x : Int) < W → (y : Int) < H → W ≤ 16 → H ≤ 16 → Below w.heap.size w wr → Calls Try.prog 114 #[.int .i64 x, .int .i64 y, cv0, cv1, cv2, cv3] wr (fun e w' => ∃ n, e = .returned (.float .f32 (pick .f32 (F x y) n)) ∧ Below wr.heap.size wr w')) :
    Calls Try.prog 91 #[.agg #[.int .i64 W, .int .i64 H], .func (.func 114) #[] #[cv0, cv1, cv2, cv3]] w (RetP 26 (resMake F W H) w) := by
  generalize hw2 : (w.alloc (Obj.cells #[.int .i64 W, .int .i64 H] 77)).alloc (Obj.cells #[.int .i64 0, .int .i64 0, .slice none 0 0] 29) = w2
  have B0 : Below w.heap.size w w2 := by subst hw2; exact ((Below.refl _ _).alloc (Nat.le_refl _) _).alloc (by simp) _
  have VA' : Var w2 w.heap.size #[.int .i64 W, .int .i64 H] := by subst hw2; exact (Var.new _ _ _).alloc _
  have VR := Lib.hid (show Var w2 (w.heap.size + 1) #[.int .i64 0, .int .i64 0, .slice none 0 0] from by subst hw2; exact Var.new' _ _ _ _ (by simp))
  have FR := Lib.hid (show Free w2 (w.heap.size + 1) from by subst hw2; exact Free.new' _ _ _ _ (by simp))
  have BW := Lib.hid B0
  have HW2 := Lib.hid hw2
  have SZ : w2.heap.size = w.heap.size + 1 + 1 := by subst hw2; simp
  have KS := Lib.hid (fun (w' : World) (hE : Below w2.heap.size w2 w') => (⟨(hE.cell (p := ⟨w.heap.size, 0, none⟩) (by show w.heap.size < _; omega)).trans (VA'.2 0 (by simp)), (hE.cell (p := ⟨w.heap.size, 1, none⟩) (by show w.heap.size < _; omega)).trans (VA'.2 1 (by simp))⟩ : w'.cell? ⟨w.heap.size, 0, none⟩ = some (.int .i64 W) ∧ w'.cell? ⟨w.heap.size, 1, none⟩ = some (.int .i64 H)))
  clear B0 VA' hw2
  have HFF := Lib.hid hF
  have HLT := Lib.hid hlt
  clear hF hlt
  unfold resMake
  cases hs : sideB W H
  · rw [if_neg (by decide)]
    have HS := Lib.hid hs
    clear hs
    obtain ⟨d0, d1⟩ := KS.out w2 (Below.refl _ _)
    go_enter Try.func91, Try.ntmps91
    go_wp2_with fail
    rw [HW2.out]
    refine (c_allowed W H _).mono ?_
    rintro _ w3 ⟨rfl, hE⟩
    rw [HS.out]
    have BX := Lib.hid (BW.out.trans (hE.mono (by omega)))
    have VX := Lib.hid (VR.out.keep hE)
    have FX := Lib.hid (FR.out.below (by omega) hE)
    have S2 : w.heap.size + 1 < w3.heap.size := by have := hE.size; omega
    clear hE d0 d1
    obtain ⟨q0, q1, q2⟩ := VX.out.three
    have f0 := FX.out 0
    have f1 := FX.out 1
    have f2 := FX.out 2
    go_wp2_with fail
    refine bodyPost_ret (v := .tuple #[.agg #[.int .i64 0, .int .i64 0, .slice none 0 0], .bool false]) (by simp [results, Try.results91, q0, q1, q2, go_sem]) rfl (show RetP _ PRes.no _ _ _ from ⟨none, 0, rfl, Nat.zero_le _, ((BX.out.setCell (by simp <;> omega) _).setCell (by simp <;> omega) _).setCell (by simp <;> omega) _, Own.nil _ _ _⟩)
  · rw [if_pos rfl]
    obtain ⟨⟨s1, s2⟩, s3, s4⟩ := sideB_true hs
    have HS := Lib.hid hs
    clear hs
    obtain ⟨Wn, rfl⟩ : ∃ n : Nat, W = n := ⟨W.toNat, by omega⟩
    obtain ⟨Hn, rfl⟩ : ∃ n : Nat, H = n := ⟨H.toNat, by omega⟩
    rw [Int.toNat_natCast, Int.toNat_natCast]
    have hN : Wn * Hn ≤ 16 * 16 := Nat.mul_le_mul (by omega) (by omega)
    obtain ⟨N, hNN⟩ : ∃ N, N = Wn * Hn := ⟨_, rfl⟩
    have HN := Lib.hid hNN
    have hN2 : N ≤ 256 := by rw [hNN]; exact hN
    have mw : IntKind.i64.wrap ((Wn : Int) * (Hn : Int)) = (N : Int) := by rw [hNN]; rw [show ((Wn : Int) * (Hn : Int)) = ((Wn * Hn : Nat) : Int) by rw [Int.natCast_mul]]; exact IntWalk.i64_in _ (by omega)
    obtain ⟨L, hL⟩ : ∃ L, L = makeL F Wn Hn := ⟨_, rfl⟩
    have HAt := Lib.hid (fun (x y k : Nat) (hk : k = y * Wn + x) (hx : x < Wn) (hy : y < Hn) => (by rw [hL]; exact makeL_at hk hx hy : fat L k = F x y))
    have HLen := Lib.hid (show L.length = N by rw [hL, makeL_len, hNN])
    rw [← hL]
    clear hNN hN hL
    obtain ⟨i0, hinf, hz0, hz1, hz2⟩ := info_parts infoFo
    obtain ⟨d0, d1⟩ := KS.out w2 (Below.refl _ _)
    go_enter Try.func91, Try.ntmps91
    go_wp2_with fail
    rw [HW2.out]
    refine (c_allowed _ _ _).mono ?_
    rintro _ w3 ⟨rfl, hE⟩
    rw [HS.out]
    have BX := Lib.hid (BW.out.trans (hE.mono (by omega)))
    have VX := Lib.hid (VR.out.keep hE)
    have FX := Lib.hid (FR.out.below (by omega) hE)
    have S2 : w.heap.size + 1 < w3.heap.size := by have := hE.size; omega
    have K3 := Lib.hid (KS.out w3 hE)
    clear hE d0 d1 KS VR FR BW
    have KX := Lib.hid (fun (wr : World) (hB : Below w3.heap.size w3 wr) => (by obtain ⟨d0, d1⟩ := K3.out; exact ⟨(hB.cell (p := ⟨w.heap.size, 0, none⟩) (by show w.heap.size < _; omega)).trans d0, (hB.cell (p := ⟨w.heap.size, 1, none⟩) (by show w.heap.size < _; omega)).trans d1⟩ : wr.cell? ⟨w.heap.size, 0, none⟩ = some (.int .i64 (Wn : Int)) ∧ wr.cell? ⟨w.heap.size, 1, none⟩ = some (.int .i64 (Hn : Int))))
    obtain ⟨d0, d1⟩ := K3.out
    go_wp2_with (at_make; refine wpList_make_own _ rfl _ _ 22 rfl w3.heap.size 26 i0 (.float .f32 0) 1 Try.underlying22 hinf hz0 hz1 _ _ _ N rfl rfl rfl (by rw [hz2]; omega) (by unfold maxLen; omega) (by simp) ?_; intro w4 hown hgrow; have B4 : Below w3.heap.size w3 w4 := (Below.refl _ _).grown hgrow (Nat.le_refl _) (by simp); obtain ⟨g0, g1⟩ := KX.out w4 B4)
    have OW : Own 26 w4 w3.heap.size (some ⟨w3.heap.size, 0, none⟩) 0 N [] := ⟨rfl, hown, by simp⟩
    have HO4 := Lib.hid OW
    have HB4 := Lib.hid B4
    clear hown hgrow B4 OW d0 d1 g0 g1 mw
    go_loopw [6, 7, 8, 21] (fun l _ _ i wr => ∃ (y k : Nat) (a : Option Addr) (c : Nat) (zs : List Nat), y ≤ Hn ∧ k = y * Wn ∧ i = .int .i64 y ∧ l = .slice a k c ∧ Own 26 wr w3.heap.size a k c zs ∧ near zs (L.take k) ∧ Below w3.heap.size w3 wr) (fun _ _ _ i _ => Hn - (intOf i).toNat)
    case atStart => exact ⟨0, 0, _, _, [], Nat.zero_le _, by simp, rfl, rfl, HO4.out, by simpa using near_nil, HB4.out⟩
    case round =>
      obtain ⟨y, k, a, c, zs, hy, hk, rfl, rfl, hO, hnear, hB⟩ := hrel
      have HO := Lib.hid hO
      have HNr := Lib.hid hnear
      have HB := Lib.hid hB
      have HK := Lib.hid hk
      clear hO hnear hB hk
      obtain ⟨d0, d1⟩ := KX.out wr HB.out
      by_cases hly : y < Hn
      · go_wp2_with fail
        clear d0 d1
        go_loopw [6, 8, 26] (fun l _ i wr => ∃ (x k : Nat) (a : Option Addr) (c : Nat) (zs : List Nat), x ≤ Wn ∧ k = y * Wn + x ∧ i = .int .i64 x ∧ l = .slice a k c ∧ Own 26 wr w3.heap.size a k c zs ∧ near zs (L.take k) ∧ Below w3.heap.size w3 wr) (fun _ _ i _ => Wn - (intOf i).toNat)
        case atStart => exact ⟨0, k, a, c, zs, Nat.zero_le _, HK.out, rfl, rfl, HO.out, HNr.out, HB.out⟩
        case round =>
          obtain ⟨x, k2, a2, c2, zs2, hx, hk2, rfl, rfl, hO2, hnear2, hB2⟩ := hrel
          have HO2 := Lib.hid hO2
          have HN2 := Lib.hid hnear2
          have HB2 := Lib.hid hB2
          have HK2 := Lib.hid hk2
          clear hO2 hnear2 hB2 hk2
          by_cases hlx : x < Wn
          · have hk1 : k2 + 1 ≤ N := by rw [HN.out]; exact make_lt HK2.out hlx hly
            go_wp2_with fail
            refine (HFF.out x y _ (by omega) (by omega) (by omega) (by omega) (BX.out.trans (HB2.out.mono (by omega)))).mono ?_
            rintro _ w5 ⟨n5, rfl, b5⟩
            have HO5 := Lib.hid (HO2.out.below b5)
            have HB5 := Lib.hid (HB2.out.trans (b5.mono HB2.out.size))
            have z5 : w3.heap.size ≤ w5.heap.size := HB5.out.size
            clear b5
            go_wp2_with (at_builtin; refine wpList_append_own _ rfl _ _ 22 rfl w3.heap.size 26 i0 (.float .f32 0) 1 4 Try.underlying22 hinf hz0 hz1 hz2 rfl (by decide) _ _ _ rfl ((HO5.out.alloc _).2.1) ⟨w5.heap.size, 0, none⟩ 1 1 [.float .f32 (pick .f32 (F x y) n5)] rfl rfl ?c1 ?c2 ?c3 ?c4 ?c5 ?_)
            case c1 =>
              intro j u hj
              match j, hj with
              | 0, hj => simp at hj; subst hj; simp [Addr.add]
            case c2 => intro u hu; simp at hu; subst hu; rfl
            case c3 => unfold maxLen; omega
            case c4 => omega
            case c5 => simp; omega
            intro v' w6 hown' hgrow _
            have hB6 : Below w3.heap.size w3 w6 := (HB5.out.alloc z5 _).grown hgrow (by simp; omega) (fun g e => by have := HO5.out.in g (by rw [← own_blk _ k2 c2]; exact e); exact this.1)
            obtain ⟨a', c', rfl, hO6⟩ := own_app hown' HO5.out.1 HO5.out.2.2 (pick_wf (HLT.out x y) n5)
            have HO6 := Lib.hid hO6
            have HB6 := Lib.hid hB6
            clear hown' hgrow hB6 hO6
            go_wp2_with fail
            go_roundw
            case rel => exact ⟨x + 1, k2 + 1, a', c', _, by omega, by rw [HK2.out]; omega, by go_num, rfl, HO6.out, by rw [← HAt.out x y k2 HK2.out hlx hly]; exact near_snoc HN2.out (by rw [HLen.out]; omega) n5, HB6.out⟩
            case measure => simp [intOf]; omega
          · obtain rfl : x = Wn := by omega
            go_wp2_with fail
            go_roundw
            case rel => exact ⟨y + 1, k2, a2, c2, zs2, by omega, by rw [HK2.out, Nat.succ_mul], by go_num, rfl, HO2.out, HN2.out, HB2.out⟩
            case measure => simp [intOf]; omega
      · obtain rfl : y = Hn := by omega
        have hkN : k = N := by rw [HK.out, HN.out, Nat.mul_comm]
        subst hkN
        have hz : near zs L := by have h := HNr.out; rwa [List.take_of_length_le (by rw [HLen.out]; exact Nat.le_refl _)] at h
        have HZN := Lib.hid hz
        have VR := Lib.hid (VX.out.keep HB.out)
        have FR := Lib.hid (FX.out.below (by omega) HB.out)
        have BW := Lib.hid (BX.out.trans (HB.out.mono (by omega)))
        have SW : w3.heap.size ≤ wr.heap.size := HB.out.size
        have HVZ := Lib.hid (near_valid (W := (Wn : Int)) (H := (y : Int)) hz)
        have hl0 : zs.length = k := HO.out.1
        have HL0 := Lib.hid hl0
        clear hz hl0
        go_wp2_with fail
        cases hv2 : validB (Wn : Int) (y : Int) L
        · have HG2 := Lib.hid (show giveP (Wn : Int) (y : Int) L = PRes.no from by unfold giveP; rw [hv2]; rfl)
          have HV2 := Lib.hid hv2
          clear hv2
          refine (c_ifValid_no _ _ _ _ _ zs wr HO.out.row (by rw [HVZ.out]; exact HV2.out)).mono ?_
          rintro _ wz ⟨rfl, b⟩
          obtain ⟨cr0, cr1, cr2⟩ := (VR.out.keep b).three
          have fr := FR.out.below (by omega) b
          have f0 := fr 0
          have f1 := fr 1
          have f2 := fr 2
          have hsz := b.size
          have HB2 := Lib.hid (BW.out.trans (b.mono (by omega)))
          clear fr b
          go_wp2_with fail
          refine bodyPost_ret (v := .tuple #[.agg #[.int .i64 0, .int .i64 0, .slice none 0 0], .bool false]) (by simp [results, Try.results91, cr0, cr1, cr2, go_sem]) rfl (by rw [HG2.out]; exact ⟨none, 0, rfl, Nat.zero_le _, ((HB2.out.setCell (by simp <;> omega) _).setCell (by simp <;> omega) _).setCell (by simp <;> omega) _, Own.nil _ _ _⟩)
        · have HG2 := Lib.hid (show giveP (Wn : Int) (y : Int) L = ⟨Wn, y, L, true⟩ from by unfold giveP; rw [hv2]; rfl)
          have hfin := valid_fin hv2
          obtain rfl := near_eq HZN.out hfin
          clear hfin
          have HV2 := Lib.hid hv2
          clear hv2
          refine (c_ifValid_yes _ _ _ _ _ _ wr HO.out.row HV2.out).mono ?_
          rintro _ wz ⟨rfl, b⟩
          obtain ⟨cr0, cr1, cr2⟩ := (VR.out.keep b).three
          have fr := FR.out.below (by omega) b
          have f0 := fr 0
          have f1 := fr 1
          have f2 := fr 2
          have hsz := b.size
          have HB2 := Lib.hid (BW.out.trans (b.mono (by omega)))
          have HO2 := Lib.hid (HO.out.below b)
          clear fr b
          go_wp2_with fail
          have hrow : blk a ≠ some (w.heap.size + 1) := fun e => by have := HO2.out.in _ e; omega
          refine bodyPost_ret (v := .tuple #[.agg #[.int .i64 (Wn : Int), .int .i64 (y : Int), .slice a k c], .bool true]) (by simp [results, Try.results91, cr0, cr1, cr2, go_sem]) rfl (by rw [HG2.out]; exact ⟨_, _, by rw [HL0.out], by (show zs.length ≤ 1048576); rw [HL0.out]; omega, ((HB2.out.setCell (by simp <;> omega) _).setCell (by simp <;> omega) _).setCell (by simp <;> omega) _, (((Own.re HL0.out.symm HO2.out).setCell hrow _).setCell hrow _).setCell hrow _ |>.mono (by omega)⟩)
/-! ### turningBy -/
theorem c_turningBy (v n : Nat) (w : World) (j : Nat) (hv : v < 2 ^ FloatKind.f32.format.width) : Calls Try.prog 86 #[.float .f32 (pick .f32 v n)] (w.drewN j) (RetC .f32 (cosT v) (sineT v) w) := by
  go_enter Try.func86, Try.ntmps86
  go_wp2_with (first | (go_at_call 109; refine (c_cosineTurns _ _ _ _).mono ?_; rintro _ _ ⟨_, _, rfl, rfl⟩) | (go_at_call 108; refine (c_iSineTurns _ _ _ _ hv).mono ?_; rintro _ _ ⟨_, _, rfl, rfl⟩))
  go_ret
  exact ⟨_, _, _, rfl, rfl⟩
theorem c_turningBy0 (v n : Nat) (w : World) (hv : v < 2 ^ FloatKind.f32.format.width) : Calls Try.prog 86 #[.float .f32 (pick .f32 v n)] w (RetC .f32 (cosT v) (sineT v) w) := by
  have h := c_turningBy v n w 0 hv
  rwa [w.drewN_zero] at h
/-! ### pixTilt -/
theorem c_pixTilt (WP HP : Int) (zP : List Nat) (aP : Option Addr) (cP : Nat) (t tn : Nat) (w : World) (rP : IsRowF .f32 w aP zP.length cP zP) (ht : t < 2 ^ FloatKind.f32.format.width) : Calls Try.prog 68 #[.func (.func 71) #[] #[], .agg #[.int .i64 WP, .int .i64 HP, .slice aP zP.length cP], .float .f32 (pick .f32 t tn)] w (RetP 26 (resSph tilT WP HP zP t) w) := by
  have RP := Lib.hid rP
  clear rP
  generalize hw0 : ((w.alloc (Obj.cells #[.func (.func 71) #[] #[]] 86)).alloc (Obj.cells #[.int .i64 WP, .int .i64 HP, .slice aP zP.length cP] 29)).alloc (Obj.cells #[.int .i64 0, .int .i64 0, .slice none 0 0] 29) = w0
  have VT0 := Lib.hid (show Var w0 w.heap.size #[.func (.func 71) #[] #[]] from by subst hw0; exact ((Var.new _ _ _).alloc _).alloc _)
  have VP0 := Lib.hid (show Var w0 (w.heap.size + 1) #[.int .i64 WP, .int .i64 HP, .slice aP zP.length cP] from by subst hw0; exact (Var.new' _ _ _ _ (by simp)).alloc _)
  have VZ0 := Lib.hid (show Var w0 (w.heap.size + 1 + 1) #[.int .i64 0, .int .i64 0, .slice none 0 0] from by subst hw0; exact Var.new' _ _ _ _ (by simp))
  have FZ0 := Lib.hid (show Free w0 (w.heap.size + 1 + 1) from by subst hw0; exact Free.new' _ _ _ _ (by simp))
  have B0 := Lib.hid (show Below w.heap.size w w0 from by subst hw0; exact (((Below.refl _ _).alloc (Nat.le_refl _) _).alloc (by simp) _).alloc (by simp; omega) _)
  have HW := Lib.hid hw0
  clear hw0
  have zz0 : w.heap.size + 1 + 1 < w0.heap.size := VZ0.out.lt
  have CV := Lib.hid (c_iValid WP HP aP _ cP zP w0 (RP.out.below B0.out))
  obtain ⟨res, hres⟩ : ∃ q, q = resSph tilT WP HP zP t := ⟨_, rfl⟩
  rw [← hres]
  cases hv : validB WP HP zP
  all_goals rw [hv] at CV
  · have RES := Lib.hid (hres.trans (resSph_no (.inl hv)))
    clear hv hres
    obtain ⟨c0, c1, c2⟩ := VP0.out.three
    go_enter Try.func68, Try.ntmps68
    go_wp2_with fail
    rw [HW.out]
    refine CV.out.mono ?_
    rintro _ w1 ⟨rfl, b⟩
    have VT1 := Lib.hid (VT0.out.keep b)
    have VP1 := Lib.hid (VP0.out.keep b)
    have VZ1 := Lib.hid (VZ0.out.keep b)
    have FZ1 := Lib.hid (FZ0.out.below zz0 b)
    have B1 := Lib.hid (B0.out.trans (b.mono (by omega)))
    have zz1 : w.heap.size + 1 + 1 < w1.heap.size := VZ1.out.lt
    clear b c0 c1 c2
    obtain ⟨q0, q1, q2⟩ := VZ1.out.three
    have f0 := FZ1.out 0
    have f1 := FZ1.out 1
    have f2 := FZ1.out 2
    rw [← w1.drewN_zero]
    go_wp2_with fail
    rw [RES.out]
    refine bodyPost_ret (v := .tuple #[.agg #[.int .i64 0, .int .i64 0, .slice none 0 0], .bool false]) (by simp [results, Try.results68, q0, q1, q2, go_sem]) rfl (show RetP _ PRes.no _ _ _ from ⟨none, 0, rfl, Nat.zero_le _, ?_, Own.nil _ _ _⟩)
    have BQ := B1
    repeat (first | exact BQ.out | exact Nat.le_refl _ | (refine Below.setCell ?_ ?_ _) | (refine below_drewN ?_ _) | (refine Below.alloc ?_ ?_ _) | (simp <;> omega))
  · have CF := Lib.hid (fun w k j => c_iIsFinite t k w j)
    cases hf : finB .f32 t
    all_goals rw [hf] at CF
    · have RES := Lib.hid (hres.trans (resSph_no (.inr hf)))
      clear hv hres hf
      obtain ⟨c0, c1, c2⟩ := VP0.out.three
      go_enter Try.func68, Try.ntmps68
      go_wp2_with fail
      rw [HW.out]
      refine CV.out.mono ?_
      rintro _ w1 ⟨rfl, b⟩
      have VT1 := Lib.hid (VT0.out.keep b)
      have VP1 := Lib.hid (VP0.out.keep b)
      have VZ1 := Lib.hid (VZ0.out.keep b)
      have FZ1 := Lib.hid (FZ0.out.below zz0 b)
      have B1 := Lib.hid (B0.out.trans (b.mono (by omega)))
      have zz1 : w.heap.size + 1 + 1 < w1.heap.size := VZ1.out.lt
      clear b c0 c1 c2
      obtain ⟨q0, q1, q2⟩ := VZ1.out.three
      have f0 := FZ1.out 0
      have f1 := FZ1.out 1
      have f2 := FZ1.out 2
      rw [← w1.drewN_zero]
      go_wp2_with (go_at_call 85; refine (CF.out _ _ _).mono ?_; rintro _ _ ⟨_, rfl, rfl⟩)
      rw [RES.out]
      refine bodyPost_ret (v := .tuple #[.agg #[.int .i64 0, .int .i64 0, .slice none 0 0], .bool false]) (by simp [results, Try.results68, q0, q1, q2, go_sem]) rfl (show RetP _ PRes.no _ _ _ from ⟨none, 0, rfl, Nat.zero_le _, ?_, Own.nil _ _ _⟩)
      have BQ := B1
      repeat (first | exact BQ.out | exact Nat.le_refl _ | (refine Below.setCell ?_ ?_ _) | (refine below_drewN ?_ _) | (refine Below.alloc ?_ ?_ _) | (simp <;> omega))
    · obtain ⟨Wn, Hn, rfl, rfl, hW1, hW2, hH1, hH2⟩ := valid_nat hv
      have hln := valid_nlen hv
      have hfl : ∀ k, fat zP k < 2 ^ FloatKind.f32.format.width := fat_lt RP.out
      have CM := Lib.hid (fun (q l bs bc : Nat) (w3 : World) (hp : Var w3 (w.heap.size + 1) #[.int .i64 (Wn : Int), .int .i64 (Hn : Int), .slice aP zP.length cP]) (ht3 : Var w3 w.heap.size #[.func (.func 71) #[] #[]]) (hs : Var w3 bs #[.int .i64 (Wn : Int), .int .i64 (Hn : Int)]) (hc : Var w3 bc #[.complex .f32 (pick .f32 (cosT t) q) (pick .f32 (sineT t) l)]) (r3 : IsRowF .f32 w3 aP zP.length cP zP) => (by
        have h := c_makeTurnAt (Wn : Int) (Hn : Int) (.pointer (some ⟨w.heap.size + 1, 0, none⟩)) (.pointer (some ⟨w.heap.size, 0, none⟩)) (.pointer (some ⟨bs, 0, none⟩)) (.pointer (some ⟨bc, 0, none⟩)) (sphF tilT zP Wn Hn (cosT t) (sineT t)) w3 (fun x y => toward_lt hfl) (fun x y wr hx hy h1 h2 hB => c_atTilt Wn Hn x y (cosT t) q (sineT t) l zP aP cP _ _ _ _ wr (hp.keep hB) (ht3.keep hB) (hs.keep hB) (hc.keep hB) (r3.below hB) hW1 hW2 hH1 hH2 (by omega) (by omega) hln)
        rwa [resSph_make hv hf, ← hres] at h : Calls Try.prog 91 #[.agg #[.int .i64 (Wn : Int), .int .i64 (Hn : Int)], .func (.func 114) #[] #[.pointer (some ⟨w.heap.size + 1, 0, none⟩), .pointer (some ⟨w.heap.size, 0, none⟩), .pointer (some ⟨bs, 0, none⟩), .pointer (some ⟨bc, 0, none⟩)]] w3 (RetP 26 res w3)))
      clear hv hres hf hln hfl
      obtain ⟨c0, c1, c2⟩ := VP0.out.three
      go_enter Try.func68, Try.ntmps68
      go_wp2_with fail
      rw [HW.out]
      refine CV.out.mono ?_
      rintro _ w1 ⟨rfl, b⟩
      have VT1 := Lib.hid (VT0.out.keep b)
      have VP1 := Lib.hid (VP0.out.keep b)
      have VZ1 := Lib.hid (VZ0.out.keep b)
      have FZ1 := Lib.hid (FZ0.out.below zz0 b)
      have B1 := Lib.hid (B0.out.trans (b.mono (by omega)))
      have zz1 : w.heap.size + 1 + 1 < w1.heap.size := VZ1.out.lt
      clear b c0 c1 c2
      obtain ⟨c0, c1, c2⟩ := VP1.out.three
      rw [← w1.drewN_zero]
      go_wp2_with (go_at_call 85; refine (CF.out _ _ _).mono ?_; rintro _ _ ⟨_, rfl, rfl⟩)
      refine (c_sidesOf (Wn : Int) (Hn : Int) _ _).mono ?_
      rintro _ w2 ⟨rfl, b9⟩
      have b : Below w1.heap.size w1 w2 := by first | exact (below_drewN (Below.refl _ _) _).trans (b9.mono (by simp)) | exact b9
      have VT2 := Lib.hid (VT1.out.keep b)
      have VP2 := Lib.hid (VP1.out.keep b)
      have VZ2 := Lib.hid (VZ1.out.keep b)
      have FZ2 := Lib.hid (FZ1.out.below zz1 b)
      have B2 := Lib.hid (B1.out.trans (b.mono (by omega)))
      have zz2 : w.heap.size + 1 + 1 < w2.heap.size := VZ2.out.lt
      clear b b9 c0 c1 c2
      go_wp2_with fail
      refine (c_turningBy0 t tn w2 ht).mono ?_
      rintro _ w3 ⟨k1, k2, m3, rfl, hw3⟩
      have b : Below w2.heap.size w2 w3 := by rw [hw3]; exact below_drewN (Below.refl _ _) _
      have VT3 := Lib.hid (VT2.out.keep b)
      have VP3 := Lib.hid (VP2.out.keep b)
      have VZ3 := Lib.hid (VZ2.out.keep b)
      have FZ3 := Lib.hid (FZ2.out.below zz2 b)
      have B3 := Lib.hid (B2.out.trans (b.mono (by omega)))
      have zz3 : w.heap.size + 1 + 1 < w3.heap.size := VZ3.out.lt
      clear b hw3
      generalize hw4 : (w3.alloc (Obj.cells #[.int .i64 (Wn : Int), .int .i64 (Hn : Int)] 77)).alloc (Obj.cells #[.complex .f32 (pick .f32 (cosT t) k1) (pick .f32 (sineT t) k2)] 99) = w4
      have VS4 := Lib.hid (show Var w4 w3.heap.size #[.int .i64 (Wn : Int), .int .i64 (Hn : Int)] from by subst hw4; exact (Var.new _ _ _).alloc _)
      have VC4 := Lib.hid (show Var w4 (w3.heap.size + 1) #[.complex .f32 (pick .f32 (cosT t) k1) (pick .f32 (sineT t) k2)] from by subst hw4; exact Var.new' _ _ _ _ (by simp))
      have E : Below w3.heap.size w3 w4 := by subst hw4; exact ((Below.refl _ _).alloc (Nat.le_refl _) _).alloc (by simp) _
      have VT4 := Lib.hid (VT3.out.keep E)
      have VP4 := Lib.hid (VP3.out.keep E)
      have VZ4 := Lib.hid (VZ3.out.keep E)
      have FZ4 := Lib.hid (FZ3.out.below zz3 E)
      have B4 := Lib.hid (B3.out.trans (E.mono (by omega)))
      have zz4 : w.heap.size + 1 + 1 < w4.heap.size := VZ4.out.lt
      have H4 := Lib.hid hw4
      have s0 : w4.cell? ⟨w3.heap.size, 0, none⟩ = some (.int .i64 (Wn : Int)) := VS4.out.2 0 (by simp)
      have s1 : w4.cell? ⟨w3.heap.size, 1, none⟩ = some (.int .i64 (Hn : Int)) := VS4.out.2 1 (by simp)
      rw [← hw4] at s0 s1
      clear E hw4
      go_wp2_with fail
      rw [H4.out]
      clear s0 s1 H4
      refine (CM.out k1 k2 _ _ w4 VP4.out VT4.out VS4.out VC4.out (RP.out.below B4.out)).mono ?_
      rintro _ w5 ⟨a, cap, rfl, hl, b, o⟩
      have V9 := Lib.hid (VZ4.out.keep b)
      have F9 := Lib.hid (FZ4.out.below zz4 b)
      have B9 := Lib.hid (B4.out.trans (b.mono (by omega)))
      have O9 := Lib.hid o
      have HL := Lib.hid hl
      clear b o hl
      obtain ⟨q0, q1, q2⟩ := V9.out.three
      have f0 := F9.out 0
      have f1 := F9.out 1
      have f2 := F9.out 2
      go_wp2_with fail
      have hrow : blk a ≠ some (w.heap.size + 1 + 1) := fun e => by have := O9.out.in _ e; omega
      refine bodyPost_ret (v := .tuple #[.agg #[.int .i64 res.W, .int .i64 res.H, .slice a res.zs.length cap], .bool res.ok]) (by simp [results, Try.results68, q0, q1, q2, go_sem]) rfl ⟨a, cap, rfl, HL.out, ((B9.out.setCell (by simp <;> omega) _).setCell (by simp <;> omega) _).setCell (by simp <;> omega) _, (((O9.out.setCell hrow _).setCell hrow _).setCell hrow _).mono (by omega)⟩
/-! ### iTiltSphere -/
theorem c_iTiltSphere (WP HP : Int) (zP : List Nat) (aP : Option Addr) (cP : Nat) (t tn : Nat) (w : World) (rP : IsRowF .f32 w aP zP.length cP zP) (ht : t < 2 ^ FloatKind.f32.format.width) : Calls Try.prog 29 #[.agg #[.int .i64 WP, .int .i64 HP, .slice aP zP.length cP], .float .f32 (pick .f32 t tn)] w (RetP 26 (resSph tilT WP HP zP t) w) := by
  have RA := Lib.hid rP
  clear rP
  have C := Lib.hid (fun (w : World) (r : IsRowF .f32 w aP zP.length cP zP) => c_pixTilt WP HP zP aP cP t tn w r ht)
  generalize resSph tilT WP HP zP t = r at *
  go_enter Try.func29, Try.ntmps29
  go_wp2_with fail
  refine (C.out _ ((RA.out.alloc _).alloc _)).mono ?_
  rintro _ w1 ⟨a, cap, rfl, hl, b, o⟩
  have V2 := Lib.hid ((Var.new' _ _ _ (w.heap.size + 1) (by simp)).keep b)
  have Fr := Lib.hid ((Free.new' _ _ _ (w.heap.size + 1) (by simp)).below (by simp <;> omega) b)
  have z1 : w.heap.size + 1 < w1.heap.size := by have := b.size; simp at this; omega
  have B1 := Lib.hid ((((Below.refl w.heap.size w).alloc (Nat.le_refl _) _).alloc (by simp) _).trans (b.mono (by simp; omega)))
  have O1 := Lib.hid o
  have HL := Lib.hid hl
  clear b o hl
  obtain ⟨q0, q1, q2⟩ := V2.out.three
  have f0 := Fr.out 0
  have f1 := Fr.out 1
  have f2 := Fr.out 2
  go_wp2_with fail
  have hrow : blk a ≠ some (w.heap.size + 1) := fun e => by have := O1.out.in _ e; simp at this; omega
  refine bodyPost_ret (v := .tuple #[.agg #[.int .i64 r.W, .int .i64 r.H, .slice a r.zs.length cap], .bool r.ok]) (by simp [results, Try.results29, q0, q1, q2, go_sem]) rfl ⟨a, cap, rfl, HL.out, ((B1.out.setCell (by simp <;> omega) _).setCell (by simp <;> omega) _).setCell (by simp <;> omega) _, (((O1.out.setCell hrow _).setCell hrow _).setCell hrow _).mono (by simp; omega)⟩

/-! ### FnExactTiltSphere -/
set_option maxHeartbeats 8000000 in
theorem walkG (WP HP : Int) (zP : List Nat) (aP : Option Addr) (cP : Nat) (vT nT : Nat) (w : World) (r : PRes) (cS : ∀ (aP : Option Addr) (cP : Nat) (w : World), IsRowF .f32 w aP zP.length cP zP → Calls Try.prog 28 #[.agg #[.int .i64 WP, .int .i64 HP, .slice aP zP.length cP], .float .f32 (pick .f32 vT nT)] w (RetP 26 r w)) (cI : ∀ (aP : Option Addr) (cP : Nat) (w : World), IsRowF .f32 w aP zP.length cP zP → Calls Try.prog 29 #[.agg #[.int .i64 WP, .int .i64 HP, .slice aP zP.length cP], .float .f32 (pick .f32 vT nT)] w (RetP 26 r w)) (rP : IsRowF .f32 w aP zP.length cP zP) (hl : zP.length ≤ 1048576) : Calls Try.prog 6 #[.agg #[.int .i64 WP, .int .i64 HP, .slice aP zP.length cP], .float .f32 (pick .f32 vT nT)] w fun e w' => e = .returned (.bool true) ∧ Below w.heap.size w w' := by
  have CS := Lib.hid cS
  have CI := Lib.hid cI
  clear cS cI
  have RP := Lib.hid rP
  clear rP
  go_enter Try.func6, Try.ntmps6
  go_wp2_with fail
  refine (c_szP WP HP aP zP.length cP (1048576 : Int) _ (by omega) (by omega)).mono ?_
  rintro _ w1 ⟨rfl, b⟩
  have VpP_1 := Lib.hid ((Var.new' _ _ _ (w.heap.size) (by first | rfl | simp)).keep b)
  have B_1 := Lib.hid (((Below.refl w.heap.size w).alloc (Nat.le_refl _) _).trans (b.mono (by simp)))
  have S_1 : w.heap.size + 1 ≤ w1.heap.size := by have := b.size; simp at this; omega
  have zpP_1 : w.heap.size < w1.heap.size := by omega
  clear b
  have hzP : ¬ (((1048576 : Int) - (zP.length : Int)) < 0) := by omega
  obtain ⟨cpP0, cpP1, cpP2⟩ := VpP_1.out.three
  go_wp2_with fail
  clear cpP0 cpP1 cpP2
  refine (c_toP WP HP aP zP.length cP zP _ (RP.out.below B_1.out) (by omega)).mono ?_
  rintro _ w2 ⟨gt, rfl, b, o⟩
  have Lt := Lib.hid o.in
  have Ot_2 := Lib.hid o
  clear o
  have VpP_2 := Lib.hid (VpP_1.out.keep b)
  have B_2 := Lib.hid (B_1.out.trans (b.mono (by omega)))
  have S_2 : w1.heap.size + 0 ≤ w2.heap.size := by have := b.size; omega
  have zpP_2 : w.heap.size < w2.heap.size := by omega
  clear b
  clear VpP_1 zpP_1 B_1
  go_wp2_with fail
  refine (CS.out _ _ _ Ot_2.out.row).mono ?_
  rintro _ w3 ⟨au, cu, rfl, hrl, b, o⟩
  have Lu := Lib.hid o.in
  have Ou_3 := Lib.hid o
  clear o
  have VpP_3 := Lib.hid (VpP_2.out.keep b)
  have Ot_3 := Lib.hid (Ot_2.out.below b)
  have B_3 := Lib.hid (B_2.out.trans (b.mono (by omega)))
  have S_3 : w2.heap.size + 0 ≤ w3.heap.size := by have := b.size; omega
  have zpP_3 : w.heap.size < w3.heap.size := by omega
  clear b
  clear VpP_2 zpP_2 Ot_2 B_2
  clear Ot_3 Lt
  obtain ⟨cpP0, cpP1, cpP2⟩ := VpP_3.out.three
  go_wp2_with fail
  clear cpP0 cpP1 cpP2
  refine (c_toP WP HP aP zP.length cP zP _ ((RP.out.below B_3.out).alloc _) (by omega)).mono ?_
  rintro _ w4 ⟨gxP, rfl, b, o⟩
  have LxP := Lib.hid o.in
  have LxP := Lib.hid (by have h := LxP.out; simp only [World.size_alloc] at h; exact h)
  have OxP_4 := Lib.hid o
  clear o
  have VpP_4 := Lib.hid ((VpP_3.out.alloc _).keep b)
  have Vu_4 := Lib.hid ((Var.new' _ _ _ (w3.heap.size) (by first | rfl | simp)).keep b)
  have Ou_4 := Lib.hid ((Ou_3.out.alloc _).below b)
  have B_4 := Lib.hid ((B_3.out.alloc (by omega) _).trans (b.mono (by simp; omega)))
  have S_4 : w3.heap.size + 1 ≤ w4.heap.size := by have := b.size; simp at this; omega
  have zpP_4 : w.heap.size < w4.heap.size := by omega
  have zu_4 : w3.heap.size < w4.heap.size := by omega
  clear b
  clear VpP_3 zpP_3 Ou_3 B_3
  go_wp2_with fail
  refine (CI.out _ _ _ (OxP_4.out.alloc _).row).mono ?_
  rintro _ w5 ⟨ag, cg, rfl, hrl, b, o⟩
  clear hrl
  have Lg := Lib.hid o.in
  have Lg := Lib.hid (by have h := Lg.out; simp only [World.size_alloc] at h; exact h)
  have Og_5 := Lib.hid o
  clear o
  have VpP_5 := Lib.hid ((VpP_4.out.alloc _).keep b)
  have Vu_5 := Lib.hid ((Vu_4.out.alloc _).keep b)
  have VxP_5 := Lib.hid ((Var.new' _ _ _ (w4.heap.size) (by first | rfl | simp)).keep b)
  have Ou_5 := Lib.hid ((Ou_4.out.alloc _).below b)
  have OxP_5 := Lib.hid ((OxP_4.out.alloc _).below b)
  have B_5 := Lib.hid ((B_4.out.alloc (by omega) _).trans (b.mono (by simp; omega)))
  have S_5 : w4.heap.size + 1 ≤ w5.heap.size := by have := b.size; simp at this; omega
  have zpP_5 : w.heap.size < w5.heap.size := by omega
  have zu_5 : w3.heap.size < w5.heap.size := by omega
  have zxP_5 : w4.heap.size < w5.heap.size := by omega
  clear b
  clear VpP_4 zpP_4 Vu_4 zu_4 Ou_4 OxP_4 B_4
  obtain ⟨cu0, cu1, cu2⟩ := Vu_5.out.three
  go_wp2_with fail
  clear cu0 cu1 cu2
  refine (c_eqP _ _ _ _ _ _ _ _ _ (Og_5.out.alloc _).row (Ou_5.out.alloc _).row).mono ?_
  rintro _ w6 ⟨rfl, b⟩
  have VpP_6 := Lib.hid ((VpP_5.out.alloc _).keep b)
  have Vu_6 := Lib.hid ((Vu_5.out.alloc _).keep b)
  have VxP_6 := Lib.hid ((VxP_5.out.alloc _).keep b)
  have Vg_6 := Lib.hid ((Var.new' _ _ _ (w5.heap.size) (by first | rfl | simp)).keep b)
  have Ou_6 := Lib.hid ((Ou_5.out.alloc _).below b)
  have OxP_6 := Lib.hid ((OxP_5.out.alloc _).below b)
  have Og_6 := Lib.hid ((Og_5.out.alloc _).below b)
  have B_6 := Lib.hid ((B_5.out.alloc (by omega) _).trans (b.mono (by simp; omega)))
  have S_6 : w5.heap.size + 1 ≤ w6.heap.size := by have := b.size; simp at this; omega
  have zpP_6 : w.heap.size < w6.heap.size := by omega
  have zu_6 : w3.heap.size < w6.heap.size := by omega
  have zxP_6 : w4.heap.size < w6.heap.size := by omega
  have zg_6 : w5.heap.size < w6.heap.size := by omega
  clear b
  clear VpP_5 zpP_5 Vu_5 zu_5 VxP_5 zxP_5 Ou_5 OxP_5 Og_5 B_5
  obtain ⟨cpP0, cpP1, cpP2⟩ := VpP_6.out.three
  obtain ⟨cxP0, cxP1, cxP2⟩ := VxP_6.out.three
  go_wp2_with fail
  have D : Below w6.heap.size w6 w6.drew := (Below.refl _ _).drew
  have RD := Lib.hid ((RP.out.below B_6.out).below D)
  have XD := Lib.hid (OxP_6.out.below D)
  have HD := Lib.hid D
  clear D
  go_region_held3 (fun w' => w'.cell? ⟨w.heap.size, 0, none⟩ = some (.int .i64 WP) ∧ w'.cell? ⟨w.heap.size, 1, none⟩ = some (.int .i64 HP) ∧ w'.cell? ⟨w.heap.size, 2, none⟩ = some (.slice aP zP.length cP) ∧ w'.cell? ⟨w4.heap.size, 0, none⟩ = some (.int .i64 WP) ∧ w'.cell? ⟨w4.heap.size, 1, none⟩ = some (.int .i64 HP) ∧ w'.cell? ⟨w4.heap.size, 2, none⟩ = some (.slice (some ⟨gxP, 0, none⟩) zP.length zP.length)) (first | exact ⟨cpP0, cpP1, cpP2, cxP0, cxP1, cxP2⟩ | (have e1 := ((VpP_6.out.keep HD.out).keep b7).three; have e2 := ((VxP_6.out.keep HD.out).keep b7).three; exact ⟨e1.1, e1.2.1, e1.2.2, e2.1, e2.2.1, e2.2.2⟩) | (have e1 := (((VpP_6.out.keep HD.out).keep b7).keep b8).three; have e2 := (((VxP_6.out.keep HD.out).keep b7).keep b8).three; exact ⟨e1.1, e1.2.1, e1.2.2, e2.1, e2.2.1, e2.2.2⟩)) (first | (go_at_call 17; refine (c_toP WP HP aP zP.length cP zP _ RD.out (by omega)).mono ?_; rintro _ wt ⟨g7, rfl, b7, o7⟩) | (go_at_call 20; refine (c_eqP _ _ _ _ _ _ _ _ _ (XD.out.below b7).row o7.row).mono ?_; rintro _ w7 ⟨rfl, b8⟩))
  have b := HD.out.trans (b7.trans (b8.mono b7.size))
  clear RD XD HD b7 b8 o7
  clear cpP0 cpP1 cpP2 cxP0 cxP1 cxP2
  have VpP_7 := Lib.hid (VpP_6.out.keep b)
  have Vu_7 := Lib.hid (Vu_6.out.keep b)
  have VxP_7 := Lib.hid (VxP_6.out.keep b)
  have Vg_7 := Lib.hid (Vg_6.out.keep b)
  have Ou_7 := Lib.hid (Ou_6.out.below b)
  have OxP_7 := Lib.hid (OxP_6.out.below b)
  have Og_7 := Lib.hid (Og_6.out.below b)
  have B_7 := Lib.hid (B_6.out.trans (b.mono (by omega)))
  have S_7 : w6.heap.size + 0 ≤ w7.heap.size := by have := b.size; omega
  have zpP_7 : w.heap.size < w7.heap.size := by omega
  have zu_7 : w3.heap.size < w7.heap.size := by omega
  have zxP_7 : w4.heap.size < w7.heap.size := by omega
  have zg_7 : w5.heap.size < w7.heap.size := by omega
  clear b
  clear VpP_6 zpP_6 Vu_6 zu_6 VxP_6 zxP_6 Vg_6 zg_6 Ou_6 OxP_6 Og_6 B_6
  obtain ⟨cxP0, cxP1, cxP2⟩ := VxP_7.out.three
  go_wp2_with fail
  clear cxP0 cxP1 cxP2
  refine (c_markP _ _ _ _ _ _ 1 _ _ OxP_7.out (by omega)).mono ?_
  rintro _ w8 ⟨rfl, b, o⟩
  have On := Lib.hid o
  clear o
  have VpP_8 := Lib.hid (VpP_7.out.kept b (by intro e; have := LxP.out _ e.symm; omega))
  have Vu_8 := Lib.hid (Vu_7.out.kept b (by intro e; have := LxP.out _ e.symm; omega))
  have VxP_8 := Lib.hid (VxP_7.out.kept b (by intro e; have := LxP.out _ e.symm; omega))
  have Vg_8 := Lib.hid (Vg_7.out.kept b (by intro e; have := LxP.out _ e.symm; omega))
  have Ou_8 := Lib.hid (Ou_7.out.kept b (blk_apart Lu.out LxP.out (by omega)))
  have Og_8 := Lib.hid (Og_7.out.kept b (blk_apart Lg.out LxP.out (by omega)))
  have B_8 := Lib.hid (B_7.out.grown b (by omega) (fun k e => by have := LxP.out k e; omega))
  have S_8 : w7.heap.size ≤ w8.heap.size := b.size
  have zpP_8 : w.heap.size < w8.heap.size := by omega
  have zu_8 : w3.heap.size < w8.heap.size := by omega
  have zxP_8 : w4.heap.size < w8.heap.size := by omega
  have zg_8 : w5.heap.size < w8.heap.size := by omega
  clear b
  clear VpP_7 zpP_7 Vu_7 zu_7 VxP_7 zxP_7 Vg_7 zg_7 Ou_7 OxP_7 Og_7 B_7
  have OxP_8 := Lib.hid On.out
  clear On
  have hk : ¬ ((((1 + zP.length) : Nat) : Int) < 0) := by omega
  clear OxP_8 LxP
  obtain ⟨cg0, cg1, cg2⟩ := Vg_8.out.three
  obtain ⟨cu0, cu1, cu2⟩ := Vu_8.out.three
  go_wp2_with fail
  clear cg0 cg1 cg2 cu0 cu1 cu2
  refine (c_eqP _ _ _ _ _ _ _ _ _ Og_8.out.row Ou_8.out.row).mono ?_
  rintro _ w9 ⟨rfl, b⟩
  have VpP_9 := Lib.hid (VpP_8.out.keep b)
  have Vu_9 := Lib.hid (Vu_8.out.keep b)
  have VxP_9 := Lib.hid (VxP_8.out.keep b)
  have Vg_9 := Lib.hid (Vg_8.out.keep b)
  have Ou_9 := Lib.hid (Ou_8.out.below b)
  have Og_9 := Lib.hid (Og_8.out.below b)
  have B_9 := Lib.hid (B_8.out.trans (b.mono (by omega)))
  have S_9 : w8.heap.size + 0 ≤ w9.heap.size := by have := b.size; omega
  have zpP_9 : w.heap.size < w9.heap.size := by omega
  have zu_9 : w3.heap.size < w9.heap.size := by omega
  have zxP_9 : w4.heap.size < w9.heap.size := by omega
  have zg_9 : w5.heap.size < w9.heap.size := by omega
  clear b
  clear VpP_8 zpP_8 Vu_8 zu_8 VxP_8 zxP_8 Vg_8 zg_8 Ou_8 Og_8 B_8
  obtain ⟨cg0, cg1, cg2⟩ := Vg_9.out.three
  go_wp2_with fail
  clear cg0 cg1 cg2
  refine (c_markP _ _ _ _ _ _ 1 _ _ Og_9.out (by omega)).mono ?_
  rintro _ w10 ⟨rfl, b, o⟩
  have On := Lib.hid o
  clear o
  have VpP_10 := Lib.hid (VpP_9.out.kept b (by intro e; have := Lg.out _ e.symm; omega))
  have Vu_10 := Lib.hid (Vu_9.out.kept b (by intro e; have := Lg.out _ e.symm; omega))
  have VxP_10 := Lib.hid (VxP_9.out.kept b (by intro e; have := Lg.out _ e.symm; omega))
  have Vg_10 := Lib.hid (Vg_9.out.kept b (by intro e; have := Lg.out _ e.symm; omega))
  have Ou_10 := Lib.hid (Ou_9.out.kept b (blk_apart Lu.out Lg.out (by omega)))
  have B_10 := Lib.hid (B_9.out.grown b (by omega) (fun k e => by have := Lg.out k e; omega))
  have S_10 : w9.heap.size ≤ w10.heap.size := b.size
  have zpP_10 : w.heap.size < w10.heap.size := by omega
  have zu_10 : w3.heap.size < w10.heap.size := by omega
  have zxP_10 : w4.heap.size < w10.heap.size := by omega
  have zg_10 : w5.heap.size < w10.heap.size := by omega
  clear b
  clear VpP_9 zpP_9 Vu_9 zu_9 VxP_9 zxP_9 Vg_9 zg_9 Ou_9 Og_9 B_9
  have Og_10 := Lib.hid On.out
  clear On
  obtain ⟨cg0, cg1, cg2⟩ := Vg_10.out.three
  go_wp2_with fail
  clear cg0 cg1 cg2
  refine (c_heldP _ _ _ _ _ 1 _ Og_10.out.row (by omega)).mono ?_
  rintro _ w11 ⟨rfl, b⟩
  have VpP_11 := Lib.hid (VpP_10.out.keep b)
  have Vu_11 := Lib.hid (Vu_10.out.keep b)
  have VxP_11 := Lib.hid (VxP_10.out.keep b)
  have Vg_11 := Lib.hid (Vg_10.out.keep b)
  have Ou_11 := Lib.hid (Ou_10.out.below b)
  have Og_11 := Lib.hid (Og_10.out.below b)
  have B_11 := Lib.hid (B_10.out.trans (b.mono (by omega)))
  have S_11 : w10.heap.size + 0 ≤ w11.heap.size := by have := b.size; omega
  have zpP_11 : w.heap.size < w11.heap.size := by omega
  have zu_11 : w3.heap.size < w11.heap.size := by omega
  have zxP_11 : w4.heap.size < w11.heap.size := by omega
  have zg_11 : w5.heap.size < w11.heap.size := by omega
  clear b
  clear VpP_10 zpP_10 Vu_10 zu_10 VxP_10 zxP_10 Vg_10 zg_10 Ou_10 Og_10 B_10
  have hq : ¬ (((1 + r.zs.length : Nat) : Int) < 0) := by omega
  obtain ⟨cpP0, cpP1, cpP2⟩ := VpP_11.out.three
  go_wp2_with fail
  clear cpP0 cpP1 cpP2
  refine (c_toP WP HP aP zP.length cP zP _ (RP.out.below B_11.out) (by omega)).mono ?_
  rintro _ w12 ⟨gt, rfl, b, o⟩
  have Lt := Lib.hid o.in
  have Ot_12 := Lib.hid o
  clear o
  have VpP_12 := Lib.hid (VpP_11.out.keep b)
  have Vu_12 := Lib.hid (Vu_11.out.keep b)
  have VxP_12 := Lib.hid (VxP_11.out.keep b)
  have Vg_12 := Lib.hid (Vg_11.out.keep b)
  have Ou_12 := Lib.hid (Ou_11.out.below b)
  have Og_12 := Lib.hid (Og_11.out.below b)
  have B_12 := Lib.hid (B_11.out.trans (b.mono (by omega)))
  have S_12 : w11.heap.size + 0 ≤ w12.heap.size := by have := b.size; omega
  have zpP_12 : w.heap.size < w12.heap.size := by omega
  have zu_12 : w3.heap.size < w12.heap.size := by omega
  have zxP_12 : w4.heap.size < w12.heap.size := by omega
  have zg_12 : w5.heap.size < w12.heap.size := by omega
  clear b
  clear VpP_11 zpP_11 Vu_11 zu_11 VxP_11 zxP_11 Vg_11 zg_11 Ou_11 Og_11 B_11
  go_wp2_with fail
  refine (CI.out _ _ _ Ot_12.out.row).mono ?_
  rintro _ w13 ⟨ah, ch, rfl, hrl, b, o⟩
  clear hrl
  have Lh := Lib.hid o.in
  have Oh_13 := Lib.hid o
  clear o
  have VpP_13 := Lib.hid (VpP_12.out.keep b)
  have Vu_13 := Lib.hid (Vu_12.out.keep b)
  have VxP_13 := Lib.hid (VxP_12.out.keep b)
  have Vg_13 := Lib.hid (Vg_12.out.keep b)
  have Ou_13 := Lib.hid (Ou_12.out.below b)
  have Og_13 := Lib.hid (Og_12.out.below b)
  have Ot_13 := Lib.hid (Ot_12.out.below b)
  have B_13 := Lib.hid (B_12.out.trans (b.mono (by omega)))
  have S_13 : w12.heap.size + 0 ≤ w13.heap.size := by have := b.size; omega
  have zpP_13 : w.heap.size < w13.heap.size := by omega
  have zu_13 : w3.heap.size < w13.heap.size := by omega
  have zxP_13 : w4.heap.size < w13.heap.size := by omega
  have zg_13 : w5.heap.size < w13.heap.size := by omega
  clear b
  clear VpP_12 zpP_12 Vu_12 zu_12 VxP_12 zxP_12 Vg_12 zg_12 Ou_12 Og_12 Ot_12 B_12
  clear Ot_13 Lt
  obtain ⟨cu0, cu1, cu2⟩ := Vu_13.out.three
  go_wp2_with fail
  clear cu0 cu1 cu2
  refine (c_eqP _ _ _ _ _ _ _ _ _ (Oh_13.out.alloc _).row (Ou_13.out.alloc _).row).mono ?_
  rintro _ w14 ⟨rfl, b⟩
  have VpP_14 := Lib.hid ((VpP_13.out.alloc _).keep b)
  have Vu_14 := Lib.hid ((Vu_13.out.alloc _).keep b)
  have VxP_14 := Lib.hid ((VxP_13.out.alloc _).keep b)
  have Vg_14 := Lib.hid ((Vg_13.out.alloc _).keep b)
  have Vh_14 := Lib.hid ((Var.new' _ _ _ (w13.heap.size) (by first | rfl | simp)).keep b)
  have Ou_14 := Lib.hid ((Ou_13.out.alloc _).below b)
  have Og_14 := Lib.hid ((Og_13.out.alloc _).below b)
  have Oh_14 := Lib.hid ((Oh_13.out.alloc _).below b)
  have B_14 := Lib.hid ((B_13.out.alloc (by omega) _).trans (b.mono (by simp; omega)))
  have S_14 : w13.heap.size + 1 ≤ w14.heap.size := by have := b.size; simp at this; omega
  have zpP_14 : w.heap.size < w14.heap.size := by omega
  have zu_14 : w3.heap.size < w14.heap.size := by omega
  have zxP_14 : w4.heap.size < w14.heap.size := by omega
  have zg_14 : w5.heap.size < w14.heap.size := by omega
  have zh_14 : w13.heap.size < w14.heap.size := by omega
  clear b
  clear VpP_13 zpP_13 Vu_13 zu_13 VxP_13 zxP_13 Vg_13 zg_13 Ou_13 Og_13 Oh_13 B_13
  obtain ⟨cg0, cg1, cg2⟩ := Vg_14.out.three
  go_wp2_with fail
  clear cg0 cg1 cg2
  refine (c_heldP _ _ _ _ _ 1 _ Og_14.out.row (by omega)).mono ?_
  rintro _ w15 ⟨rfl, b⟩
  have VpP_15 := Lib.hid (VpP_14.out.keep b)
  have Vu_15 := Lib.hid (Vu_14.out.keep b)
  have VxP_15 := Lib.hid (VxP_14.out.keep b)
  have Vg_15 := Lib.hid (Vg_14.out.keep b)
  have Vh_15 := Lib.hid (Vh_14.out.keep b)
  have Ou_15 := Lib.hid (Ou_14.out.below b)
  have Og_15 := Lib.hid (Og_14.out.below b)
  have Oh_15 := Lib.hid (Oh_14.out.below b)
  have B_15 := Lib.hid (B_14.out.trans (b.mono (by omega)))
  have S_15 : w14.heap.size + 0 ≤ w15.heap.size := by have := b.size; omega
  have zpP_15 : w.heap.size < w15.heap.size := by omega
  have zu_15 : w3.heap.size < w15.heap.size := by omega
  have zxP_15 : w4.heap.size < w15.heap.size := by omega
  have zg_15 : w5.heap.size < w15.heap.size := by omega
  have zh_15 : w13.heap.size < w15.heap.size := by omega
  clear b
  clear VpP_14 zpP_14 Vu_14 zu_14 VxP_14 zxP_14 Vg_14 zg_14 Vh_14 zh_14 Ou_14 Og_14 Oh_14 B_14
  go_wp2_with fail
  go_ret
  exact ⟨rfl, B_15.out⟩
theorem walkL0 (WP HP : Int) (zP : List Nat) (aP : Option Addr) (cP : Nat) (vT nT : Nat) (w : World) (rP : IsRowF .f32 w aP zP.length cP zP)  (hm : zP.length ≤ maxLen) (hl : 1048576 < zP.length) : Calls Try.prog 6 #[.agg #[.int .i64 WP, .int .i64 HP, .slice aP zP.length cP], .float .f32 (pick .f32 vT nT)] w fun e w' => e = .returned (.bool true) ∧ Below w.heap.size w w' := by
  unfold maxLen at hm
  have RP := Lib.hid rP
  clear rP
  go_enter Try.func6, Try.ntmps6
  go_wp2_with fail
  refine (c_szP_no WP HP aP zP.length cP (1048576 : Int) _ (by omega) (by omega)).mono ?_
  rintro _ w1 ⟨rfl, b⟩
  have VpP_1 := Lib.hid ((Var.new' _ _ _ (w.heap.size) (by first | rfl | simp)).keep b)
  have B_1 := Lib.hid (((Below.refl w.heap.size w).alloc (Nat.le_refl _) _).trans (b.mono (by simp)))
  have S_1 : w.heap.size + 1 ≤ w1.heap.size := by have := b.size; simp at this; omega
  have zpP_1 : w.heap.size < w1.heap.size := by omega
  clear b
  go_wp2_with fail
  go_ret
  exact ⟨rfl, B_1.out⟩
theorem walk (WP HP : Int) (zP : List Nat) (aP : Option Addr) (cP : Nat) (vT nT : Nat) (w : World) (rP : IsRowF .f32 w aP zP.length cP zP) (hT : vT < 2 ^ FloatKind.f32.format.width) : Calls Try.prog 6 #[.agg #[.int .i64 WP, .int .i64 HP, .slice aP zP.length cP], .float .f32 (pick .f32 vT nT)] w fun e w' => e = .returned (.bool true) ∧ Below w.heap.size w w' := by
  have mP : zP.length ≤ maxLen := Nat.le_trans rP.2.1 rP.2.2.1
  by_cases g0 : 1048576 < zP.length
  · exact walkL0 WP HP zP aP cP vT nT w rP  mP g0
  exact walkG WP HP zP aP cP vT nT w (resSph tilT WP HP zP vT) (fun aP cP w rP => c_sTiltSphere WP HP zP aP cP vT nT w rP hT) (fun aP cP w rP => c_iTiltSphere WP HP zP aP cP vT nT w rP hT) rP (by omega)
theorem own : ownKnob Try.prog.godebug = none := by kernel_rfl
theorem laidOut : laidOutB Try.prog = true := by kernel_rfl
set_option maxRecDepth 100000 in
theorem lifted (os : Os) (started : os.Started) (H : Type) (enc : TypeId × Value → H) :
    ReturnsInHanded {} Try.checked os 6 .any (Rows.fnExactTiltSphereSpec.pre6 enc Try.prog Try.f6 Rows.fnExactTiltSphereRow.domain false) (Rows.fnExactTiltSphereSpec.post enc Try.prog Try.f6 false true false false) := by
  refine returnsInHanded_of_change (C := Try.checked) own started (by kernel_rfl) Try.func6
    (ChangeSpec.witness6 (enc := enc) (C := Try.checked) false ⟨#[], #[.agg #[.int .i64 0, .int .i64 0, .slice none 0 0], .float .f32 0], []⟩ 8 (by kernel_rfl) (by kernel_rfl) (by kernel_rfl) (by kernel_rfl)) ?_
  intro W base args ds gs before hval0 hW hcnd _
  have hval : ∀ (j : Nat) t v, Try.f6.params[j]? = some t → args[j]? = some v → Value.okWide Try.prog W .any base t v := hval0
  have hW' := hW
  obtain ⟨p, q, hA0, hV, rfl, hfz, hnd⟩ := hW
  have hA : DataW.TrodAll enc Try.prog W 0 (fun _ => true) true Try.f6.params.toList args.toList ds p := hA0
  rw [Try.params6] at hA hval
  obtain ⟨v0, vs0, d0, ds0, p0, q0, hargs, rfl, rfl, h0, r0⟩ := trodAll_cons hA
  obtain ⟨v1, vs1, d1, ds1, p1, q1, rfl, rfl, rfl, h1, r1⟩ := trodAll_cons r0
  obtain ⟨rfl, rfl, rfl⟩ := trodAll_nil r1
  obtain rfl : args = #[v0, v1] := by cases args; simp_all
  obtain ⟨rfl, rfl⟩ := trodVars_none hV
  have k0 := h0
  have lt0 : ∀ x ∈ p0, x.block < W.heap.size := by obtain ⟨m, hm⟩ := k0; exact DataW.trod_lt m _ _ _ hm
  obtain ⟨W0, H0, z0, a0, c0, rfl, wW0, wH0, w0⟩ := open_pic Try.underlying24 (by kernel_rfl) (by kernel_rfl) Try.underlying2 Try.underlying2 Try.underlying22 Try.underlying26 (by kernel_rfl) (hval 0 24 v0 rfl rfl) h0
  obtain ⟨b1, rfl, rfl, rfl, w1⟩ := open_float Try.underlying26 (hval 1 26 v1 rfl rfl) h1
  obtain ⟨n1, en1⟩ := pick_onto .f32 b1 (lt_of_wf w1)
  clear hA0 hval0
  have hcall1 := en1
  have hw0 : Calls Try.prog 6 #[.agg #[.int .i64 W0, .int .i64 H0, .slice a0 z0.length c0], .float .f32 b1] W fun e w' => e = .returned (.bool true) ∧ Below W.heap.size W w' := by
    rw [en1]
    exact walk W0 H0 z0 a0 c0 b1 n1 W w0 (lt_of_wf w1)
  refine hw0.mono fun e W' ⟨he, bel⟩ => ?_
  subst he
  exact ⟨_, rfl, _, _, _, [], _, [], hW', trodAll_mk1 (shut_bool Try.underlying4 _), (trodAll_cons_mk (Below.trod laidOut (by kernel_rfl) (of_decide_eq_true (by kernel_rfl)) k0 bel lt0) (trodAll_cons_mk (shut_float Try.underlying26 w1) trodAll_mk0)), rfl, bel.frame _, fun h => by cases h⟩

theorem over : Rows.fnExactTiltSphereRow.holds Try.pinned (OpenSpec.ofChange Rows.fnExactTiltSphereSpec) :=
  OpenClaim.holds_of_wide 6 Try.f6 rfl rfl rfl rfl rfl rfl rfl ⟨rfl, rfl, rfl, rfl, rfl⟩ rfl rfl rfl rfl rfl (by kernel_rfl) Try.func6 (by kernel_rfl)
    (of_decide_eq_true (by kernel_rfl)) (by unfold Func.isWrapper; first | (rw [if_pos (by decide +kernel)]; kernel_rfl) | (rw [if_neg (by decide +kernel)]; exact ⟨rfl, rfl⟩))
    (fun os started H enc _ => lifted os started H enc)

theorem proved : Rows.FnExactTiltSphereSaid := over
#print axioms proved

end Go.Proofs.Ytmngedfibmnohab.fnExactTiltSphere

/-
  FnExactFaceWay: for every input this law of the program returns true, and each argument reads as before. No condition.
-/
import Derived.Test.YtmngedfibmnohaaRows
import Derived.Test.YtmngedfibmnohaaRow
import Derived.Test.YtmngedfibmnohaaBy
import Derived.Test.YtmngedfibmnohaaAp
import Derived.ProofKit
import Derived.OpenShut
import Derived.ShutString
import Derived.ChangeOld
import Derived.Below
import Derived.Lib.Hide
import Derived.Outline
import Derived.Deep.RegionHeld3
import Derived.Deep.DeepCutAuto
set_option linter.unusedSimpArgs false
set_option linter.unusedVariables false
set_option exponentiation.threshold 2000
set_option maxRecDepth 20000
set_option maxHeartbeats 4000000
namespace Go.Proofs.Ytmngedfibmnohaa.fnExactFaceWay
open Go Go.Proofs.Ytmngedfibmnohaa Go.Proofs
open Go.ChangeShapes Go.WideShapes Go.ChangeAt Go.RowKit
open Go.ChangeMaps (open_string shut_string)
/-! ### sameFloat -/
theorem c_sameFloat (v n m : Nat) (w : World) (j : Nat) : Calls Try.prog 25 #[.float .f64 (pick .f64 v n), .float .f64 (pick .f64 v m)] (w.drewN j) (RetV (.bool true) w) := by
  have hs := self_ne .f64 v
  have ht := self_eq .f64 v
  cases h : isN .f64 v
  · rw [h] at hs ht
    cases h2 : (FloatKind.f64.format.order v 0 == some .eq)
    · go_enter Try.func25, Try.ntmps25
      go_wp2_with (first | (refine wpList_fop rfl _ _ _ _ _ rfl _ _ _ rfl rfl (by decide) _ ?_; intro _ _) | (refine upon_fop _ _ _ _ _ (by decide) ?_; intro _ _))
      go_ret
      exact ⟨_, rfl, rfl⟩
    · go_enter Try.func25, Try.ntmps25
      go_wp2_with (first | (refine wpList_fop rfl _ _ _ _ _ rfl _ _ _ rfl rfl (by decide) _ ?_; intro _ _) | (refine upon_fop _ _ _ _ _ (by decide) ?_; intro _ _))
      go_ret
      exact ⟨_, by simp, rfl⟩
  · rw [h] at hs ht
    go_enter Try.func25, Try.ntmps25
    go_wp2_with (first | (refine wpList_fop rfl _ _ _ _ _ rfl _ _ _ rfl rfl (by decide) _ ?_; intro _ _) | (refine upon_fop _ _ _ _ _ (by decide) ?_; intro _ _))
    go_ret
    exact ⟨_, rfl, rfl⟩

/-! ### eqWay -/
theorem c_eqW (r nr nr2 g ng ng2 b nb nb2 : Nat) (w : World) : Calls Try.prog 22 #[.agg #[.float .f32 (pick .f32 r nr), .float .f32 (pick .f32 g ng), .float .f32 (pick .f32 b nb)], .agg #[.float .f32 (pick .f32 r nr2), .float .f32 (pick .f32 g ng2), .float .f32 (pick .f32 b nb2)]] w (RetB (.bool true) w) := by
  generalize hw2 : (w.alloc (Obj.cells #[.float .f32 (pick .f32 r nr), .float .f32 (pick .f32 g ng), .float .f32 (pick .f32 b nb)] 26)).alloc (Obj.cells #[.float .f32 (pick .f32 r nr2), .float .f32 (pick .f32 g ng2), .float .f32 (pick .f32 b nb2)] 26) = w2
  have X0 : Var w2 w.heap.size #[.float .f32 (pick .f32 r nr), .float .f32 (pick .f32 g ng), .float .f32 (pick .f32 b nb)] := by subst hw2; exact (Var.new _ _ _).alloc _
  have X1 : Var w2 (w.heap.size + 1) #[.float .f32 (pick .f32 r nr2), .float .f32 (pick .f32 g ng2), .float .f32 (pick .f32 b nb2)] := by subst hw2; exact Var.new' _ _ _ _ (by simp)
  have B0 := Lib.hid (show Below w.heap.size w w2 from by subst hw2; exact ((Below.refl _ _).alloc (Nat.le_refl _) _).alloc (by simp) _)
  have HW := Lib.hid hw2
  obtain ⟨c0, c1, c2⟩ := X0.three
  obtain ⟨d0, d1, d2⟩ := X1.three
  clear hw2 X0 X1
  go_enter Try.func22, Try.ntmps22
  go_wp2_with fail
  rw [HW.out, ← w2.drewN_zero]
  go_wp2_with (first | (refine wpList_cvU rfl 22 36 _ rfl (Option.isSome_iff_exists.2 ⟨_, Try.underlying22⟩) Try.underlying36 _ rfl _ ?_; intro _ _) | (refine upon_cvUp _ _ _ _ (Option.isSome_iff_exists.2 ⟨_, Try.underlying22⟩) Try.underlying36 ?_; intro _ _) | (go_at_call 25; refine (c_sameFloat _ _ _ _ _).mono ?_; rintro _ _ ⟨_, rfl, rfl⟩))
  go_ret
  exact ⟨rfl, below_drewN B0.out _⟩
/-! ### picDefs -/
def sideB (W H : Int) : Bool := decide (1 ≤ W) && decide (W ≤ 16) && (decide (1 ≤ H) && decide (H ≤ 16))
def finL (zs : List Nat) : Bool := zs.all (finB .f32)
def validB (W H : Int) (zs : List Nat) : Bool := sideB W H && decide ((zs.length : Int) = W * H) && finL zs
theorem sideB_true {W H : Int} (h : sideB W H = true) : (1 ≤ W ∧ W ≤ 16) ∧ 1 ≤ H ∧ H ≤ 16 := by simpa [sideB, and_assoc] using h
theorem side_mul {W H : Int} (h : sideB W H = true) : 1 ≤ W * H ∧ W * H ≤ 256 := by
  obtain ⟨⟨h1, h2⟩, h3, h4⟩ := sideB_true h
  have : W * H ≤ 16 * 16 := Int.mul_le_mul h2 h4 (by omega) (by omega)
  have h5 : 1 * 1 ≤ W * H := Int.mul_le_mul h1 h3 (by omega) (by omega)
  omega
theorem sideB_false {W H : Int} (h : sideB W H = false) : W < 1 ∨ 16 < W ∨ H < 1 ∨ 16 < H := by
  simp [sideB] at h; omega
theorem finL_snoc (zs : List Nat) (k : Nat) (hk : k < zs.length) : finL (zs.take (k + 1)) = (finL (zs.take k) && finB .f32 (fat zs k)) := by
  unfold finL fat
  rw [List.take_succ_eq_append_getElem hk, List.all_append, List.getD, List.getElem?_eq_getElem hk]; simp
theorem finL_of (zs : List Nat) (k : Nat) (hk : k < zs.length) (h : finB .f32 (fat zs k) = false) : finL zs = false := by
  unfold finL
  rw [List.all_eq_false]
  refine ⟨zs[k], List.getElem_mem hk, ?_⟩
  unfold fat at h
  rw [List.getD, List.getElem?_eq_getElem hk] at h
  simpa using h
theorem pick0 (k : FloatKind) (v : Nat) (hv : v < 2 ^ k.format.width) : ∃ n, v = pick k v n := pick_onto k v hv
/-! ### meanDefs -/
def meanV (zs : List Nat) : Nat := fop .quo .f32 (sumF .add .f32 0 zs) (floatOfInt .f32 (zs.length : Int))
def numR (v : Nat) : Nat × Bool := if finB .f32 v = true then (v, true) else (0, false)
def meanR (W H : Int) (zs : List Nat) : Nat × Bool := if validB W H zs = true then numR (meanV zs) else (0, false)
theorem mean_len {W H : Int} {zs : List Nat} (h : validB W H zs = true) : zs.length ≤ 256 := by
  simp only [validB, Bool.and_eq_true, decide_eq_true_eq] at h
  obtain ⟨⟨h1, h2⟩, h3⟩ := h
  have := side_mul h1
  omega
theorem pick00 : pick .f32 0 0 = 0 := pick_not (show isN .f32 0 = false from by decide +kernel) 0
/-! ### colDefs -/
def colB (r g b : Nat) : Bool := finB .f32 r && (finB .f32 g && finB .f32 b)
def greyV (r g b : Nat) : Nat := fop .add .f32 (fop .add .f32 (fop .mul .f32 1046066128 r) (fop .mul .f32 1060575065 g)) (fop .mul .f32 1033100696 b)
def greyR (r g b : Nat) : Nat × Bool := if colB r g b = true then numR (greyV r g b) else (0, false)
theorem retF1no {w : World} {e : Ending} {w' : World} (h : e = .returned (.tuple #[.float .f32 0, .bool false])) (hw : Below w.heap.size w w') : RetF1 (0, false) w e w' := ⟨0, by rw [h]; simp only [pick00], hw⟩
theorem fin3 (a b c n m l : Nat) : finL [pick .f32 a n, pick .f32 b m, pick .f32 c l] = colB a b c := by simp [finL, finB_pick, colB]
/-! ### wayDefs -/
def nzB (v : Nat) : Bool := FloatKind.f32.format.order v 0 != some .eq
def wayB (r g b : Nat) : Bool := colB r g b && (nzB r || (nzB g || nzB b))
/-! ### mulInf -/
theorem inf_notfin (s : Bool) : finB .f32 (FloatKind.f32.format.write (.infinity s)) = false := by cases s <;> decide +kernel
theorem rung_split {v : Nat} (h : finB .f32 v = false) (hn : isN .f32 v = false) : FloatKind.f32.format.read v = .infinity (sgn FloatKind.f32.format v) := by
  have h1 : ¬ rung FloatKind.f32.format v < FloatKind.f32.format.infRung := of_decide_eq_false h
  have h2 := isN_rung' .f32 v
  rw [hn] at h2
  have h3 := of_decide_eq_false h2.symm
  exact read_inf .f32 v (by omega)
/-- A product with a factor that isn't finite isn't finite. -/
theorem mul_notfin (x : Nat) {v : Nat} (hv : finB .f32 v = false) : finB .f32 (fop .mul .f32 x v) = false := by
  cases h : isN .f32 v
  · have h3 := rung_split hv h
    cases hx : isN .f32 x
    · cases hf : finB .f32 x
      · have h4 := rung_split hf hx
        have e : fop .mul .f32 x v = FloatKind.f32.format.write (.infinity (sgn FloatKind.f32.format x ^^ sgn FloatKind.f32.format v)) := by
          unfold fop floatBits Ieee.Format.mul
          simp only [h3, h4, Ieee.Datum.product]
          rfl
        rw [e]; exact inf_notfin _
      · obtain ⟨m, e, h4, _, _⟩ := read_fin FloatKind.f32.format x (of_decide_eq_true hf)
        by_cases hm : m = 0
        · have e : fop .mul .f32 x v = qn .f32 := by
            unfold fop floatBits Ieee.Format.mul
            simp only [h3, h4, Ieee.Datum.product, hm, if_true]
            rfl
          rw [e]; exact finB_nan (isN_qn .f32)
        · have e : fop .mul .f32 x v = FloatKind.f32.format.write (.infinity (sgn FloatKind.f32.format v ^^ sgn FloatKind.f32.format x)) := by
            unfold fop floatBits Ieee.Format.mul
            simp only [h3, h4, Ieee.Datum.product, hm, if_false]
            rfl
          rw [e]; exact inf_notfin _
    · exact finB_nan (isN_fop_l v hx)
  · exact finB_nan (isN_fop_r x h)

/-! ### wayFacts -/
theorem quo_inf {x v : Nat} (hx : finB .f32 x = true) (hv : finB .f32 v = false) (hn : isN .f32 v = false) : nzB (fop .quo .f32 x v) = false := by
  have h3 := rung_split hv hn
  obtain ⟨m, e, h4, _, _⟩ := read_fin FloatKind.f32.format x (of_decide_eq_true hx)
  have e : fop .quo .f32 x v = FloatKind.f32.format.write (.number (sgn FloatKind.f32.format x ^^ sgn FloatKind.f32.format v) 0 0) := by
    unfold fop floatBits Ieee.Format.div
    simp only [h3, h4, Ieee.Datum.quotient]
    rfl
  rw [e]
  generalize (sgn FloatKind.f32.format x ^^ sgn FloatKind.f32.format v) = s
  cases s <;> decide +kernel
def rootV (v : Nat) : Nat := cvN (fsqrt (cvU v))
theorem root_notfin {v : Nat} (h : finB .f32 v = false) : finB .f32 (rootV v) = false := by
  unfold rootV
  cases hn : isN .f32 v
  · have h1 : ¬ rung FloatKind.f32.format v < FloatKind.f32.format.infRung := of_decide_eq_false h
    have h2 := isN_rung' .f32 v
    rw [hn] at h2
    have h3 := of_decide_eq_false h2.symm
    have h4 : rung Ieee.single v = Ieee.single.infRung := by
      have : rung FloatKind.f32.format v = FloatKind.f32.format.infRung := by omega
      exact this
    have h5 : cvU v = Ieee.double.word (sgn Ieee.single v) Ieee.double.infRung := by unfold cvU; rw [cvU_inf h4]; rfl
    rw [h5]
    generalize sgn Ieee.single v = s
    cases s <;> decide +kernel
  · rw [cvU_qn hn]; decide +kernel
def t0 : (Nat × Nat × Nat) × Bool := ((0, 0, 0), false)
def giveW (t : Nat × Nat × Nat) : (Nat × Nat × Nat) × Bool := if wayB t.1 t.2.1 t.2.2 = true then (t, true) else t0
theorem unit_no {x y z r : Nat} (hx : finB .f32 x = true) (hy : finB .f32 y = true) (hz : finB .f32 z = true) (hr : finB .f32 r = false) : wayB (fop .quo .f32 x r) (fop .quo .f32 y r) (fop .quo .f32 z r) = false := by
  unfold wayB
  cases hn : isN .f32 r
  · rw [quo_inf hx hr hn, quo_inf hy hr hn, quo_inf hz hr hn]; simp
  · have : colB (fop .quo .f32 x r) (fop .quo .f32 y r) (fop .quo .f32 z r) = false := by
      unfold colB; rw [finB_nan (isN_fop_r x hn)]; rfl
    rw [this]; rfl
def innV (x y z a b c : Nat) : Nat := fop .add .f32 (fop .add .f32 (fop .mul .f32 x a) (fop .mul .f32 y b)) (fop .mul .f32 z c)
def unitT (x y z r : Nat) : Nat × Nat × Nat := (fop .quo .f32 x r, fop .quo .f32 y r, fop .quo .f32 z r)
def unitW (x y z : Nat) : (Nat × Nat × Nat) × Bool := if wayB x y z = true then giveW (unitT x y z (rootV (innV x y z x y z))) else t0
theorem unitW_no {x y z : Nat} (h : wayB x y z = false ∨ finB .f32 (innV x y z x y z) = false) : unitW x y z = t0 := by
  unfold unitW
  cases hw : wayB x y z
  · rfl
  · rcases h with h | h
    · rw [h] at hw; cases hw
    · rw [if_pos rfl]
      have hc : colB x y z = true := by unfold wayB at hw; rw [Bool.and_eq_true] at hw; exact hw.1
      unfold colB at hc
      simp only [Bool.and_eq_true] at hc
      have := unit_no hc.1 hc.2.1 hc.2.2 (root_notfin h)
      unfold giveW unitT
      rw [this]; rfl
def innR (x y z a b c : Nat) : Nat × Bool := if (wayB x y z && wayB a b c) = true then numR (innV x y z a b c) else (0, false)
/-! ### way2Defs -/
def WayB2 (t : (Nat × Nat × Nat) × Bool) (w : World) (e : Ending) (w' : World) : Prop := ∃ n m k, e = .returned (.tuple #[.agg #[.float .f32 (pick .f32 t.1.1 n), .float .f32 (pick .f32 t.1.2.1 m), .float .f32 (pick .f32 t.1.2.2 k)], .bool t.2]) ∧ Below w.heap.size w w'
def WayR (t : Nat × Nat × Nat) (w : World) (e : Ending) (w' : World) : Prop := ∃ n m k, e = .returned (.agg #[.float .f32 (pick .f32 t.1 n), .float .f32 (pick .f32 t.2.1 m), .float .f32 (pick .f32 t.2.2 k)]) ∧ Below w.heap.size w w'
theorem WayB2.no {w : World} {e : Ending} {w' : World} (h : e = .returned (.tuple #[.agg #[.float .f32 0, .float .f32 0, .float .f32 0], .bool false])) (b : Below w.heap.size w w') : WayB2 t0 w e w' := ⟨0, 0, 0, by rw [h]; simp only [t0, pick00], b⟩
def RetN (v : Nat) (w : World) (e : Ending) (w' : World) : Prop := ∃ n, e = .returned (.float .f32 (pick .f32 v n)) ∧ Below w.heap.size w w'
theorem giveW_lt_no {r g b : Nat} (h : wayB r g b = false) : giveW (r, g, b) = t0 := by unfold giveW; rw [h]; rfl
theorem giveW_yes {r g b : Nat} (h : wayB r g b = true) : giveW (r, g, b) = ((r, g, b), true) := by unfold giveW; rw [h]; rfl
/-! ### withinDef -/
def withinB (m v : Nat) : Bool := (FloatKind.f32.format.order v (fneg .f32 m) == some .gt || FloatKind.f32.format.order v (fneg .f32 m) == some .eq) && (FloatKind.f32.format.order v m == some .lt || FloatKind.f32.format.order v m == some .eq)
/-! ### faceDefs -/
def faceT (x : Int) (a b : Nat) : Nat × Nat × Nat := if x = 0 then (1065353216, a, b) else if x = 1 then (3212836864, a, b) else if x = 2 then (a, 1065353216, b) else if x = 3 then (a, 3212836864, b) else if x = 4 then (a, b, 1065353216) else (a, b, 3212836864)
def faceW (x : Int) (a b : Nat) : (Nat × Nat × Nat) × Bool := if ((decide (0 ≤ x) && decide (x ≤ 5)) && (withinB 1065353216 a && withinB 1065353216 b)) = true then (faceT x a b, true) else t0
theorem faceW_no {x : Int} {a b : Nat} (h : (decide (0 ≤ x) && decide (x ≤ 5)) = false ∨ (withinB 1065353216 a && withinB 1065353216 b) = false) : faceW x a b = t0 := by
  unfold faceW; rcases h with h | h <;> rw [h] <;> simp
theorem faceW_yes {x : Int} {a b : Nat} (h : (decide (0 ≤ x) && decide (x ≤ 5)) = true) (h2 : (withinB 1065353216 a && withinB 1065353216 b) = true) : faceW x a b = (faceT x a b, true) := by
  unfold faceW; rw [h, h2]; rfl
theorem neg_one : fneg .f32 1065353216 = 3212836864 := by decide +kernel
theorem pk1 : pick .f32 1065353216 0 = 1065353216 := by decide +kernel
theorem pkm1 : pick .f32 3212836864 0 = 3212836864 := by decide +kernel
theorem six {x : Int} (h : (decide (0 ≤ x) && decide (x ≤ 5)) = true) : x = 0 ∨ x = 1 ∨ x = 2 ∨ x = 3 ∨ x = 4 ∨ x = 5 := by
  simp only [Bool.and_eq_true, decide_eq_true_eq] at h; omega
/-! ### l06Place -/
theorem c_l06Place (v n : Nat) (w : World) (j : Nat) : Calls Try.prog 78 #[.float .f32 (pick .f32 v n)] (w.drewN j) (RetV (.bool (withinB 1065353216 v)) w) := by
  unfold withinB
  rw [neg_one]
  cases e1 : (FloatKind.f32.format.order v 3212836864 == some .gt || FloatKind.f32.format.order v 3212836864 == some .eq) <;> cases e2 : (FloatKind.f32.format.order v 1065353216 == some .lt || FloatKind.f32.format.order v 1065353216 == some .eq)
  all_goals
    go_enter Try.func78, Try.ntmps78
    go_wp2_with fail
    go_ret
    exact ⟨_, rfl, rfl⟩
/-! ### l06Face -/
theorem c_l06Face (x : Int) (a an b bn : Nat) (w : World) (hx : x = 0 ∨ x = 1 ∨ x = 2 ∨ x = 3 ∨ x = 4 ∨ x = 5) : Calls Try.prog 79 #[.int .i64 x, .float .f32 (pick .f32 a an), .float .f32 (pick .f32 b bn)] w (WayR (faceT x a b) w) := by
  rcases hx with rfl | rfl | rfl | rfl | rfl | rfl
  · go_enter Try.func79, Try.ntmps79
    go_wp2_with fail
    refine bodyPost_ret (v := .agg #[.float .f32 1065353216, .float .f32 (pick .f32 a an), .float .f32 (pick .f32 b bn)]) (by simp [results, Try.results79, go_sem]) rfl ⟨0, an, bn, by rw [show faceT 0 a b = (1065353216, a, b) from rfl]; simp only [pk1, pkm1], (Below.refl _ _).alloc (Nat.le_refl _) _⟩
  · go_enter Try.func79, Try.ntmps79
    go_wp2_with fail
    refine bodyPost_ret (v := .agg #[.float .f32 3212836864, .float .f32 (pick .f32 a an), .float .f32 (pick .f32 b bn)]) (by simp [results, Try.results79, go_sem]) rfl ⟨0, an, bn, by rw [show faceT 1 a b = (3212836864, a, b) from rfl]; simp only [pk1, pkm1], (Below.refl _ _).alloc (Nat.le_refl _) _⟩
  · go_enter Try.func79, Try.ntmps79
    go_wp2_with fail
    refine bodyPost_ret (v := .agg #[.float .f32 (pick .f32 a an), .float .f32 1065353216, .float .f32 (pick .f32 b bn)]) (by simp [results, Try.results79, go_sem]) rfl ⟨an, 0, bn, by rw [show faceT 2 a b = (a, 1065353216, b) from rfl]; simp only [pk1, pkm1], (Below.refl _ _).alloc (Nat.le_refl _) _⟩
  · go_enter Try.func79, Try.ntmps79
    go_wp2_with fail
    refine bodyPost_ret (v := .agg #[.float .f32 (pick .f32 a an), .float .f32 3212836864, .float .f32 (pick .f32 b bn)]) (by simp [results, Try.results79, go_sem]) rfl ⟨an, 0, bn, by rw [show faceT 3 a b = (a, 3212836864, b) from rfl]; simp only [pk1, pkm1], (Below.refl _ _).alloc (Nat.le_refl _) _⟩
  · go_enter Try.func79, Try.ntmps79
    go_wp2_with fail
    refine bodyPost_ret (v := .agg #[.float .f32 (pick .f32 a an), .float .f32 (pick .f32 b bn), .float .f32 1065353216]) (by simp [results, Try.results79, go_sem]) rfl ⟨an, bn, 0, by rw [show faceT 4 a b = (a, b, 1065353216) from rfl]; simp only [pk1, pkm1], (Below.refl _ _).alloc (Nat.le_refl _) _⟩
  · go_enter Try.func79, Try.ntmps79
    go_wp2_with fail
    refine bodyPost_ret (v := .agg #[.float .f32 (pick .f32 a an), .float .f32 (pick .f32 b bn), .float .f32 3212836864]) (by simp [results, Try.results79, go_sem]) rfl ⟨an, bn, 0, by rw [show faceT 5 a b = (a, b, 3212836864) from rfl]; simp only [pk1, pkm1], (Below.refl _ _).alloc (Nat.le_refl _) _⟩
/-! ### l00In -/
theorem c_l00In (x lo hi : Int) (w : World) (j : Nat) : Calls Try.prog 68 #[.int .i64 x, .int .i64 lo, .int .i64 hi] (w.drewN j) (RetV (.bool (decide (lo ≤ x) && decide (x ≤ hi))) w) := by
  by_cases h1 : lo ≤ x
  · by_cases h2 : x ≤ hi
    · have d1 : decide (lo ≤ x) = true := decide_eq_true h1
      have d2 : decide (x ≤ hi) = true := decide_eq_true h2
      go_enter Try.func68, Try.ntmps68
      go_wp2
      go_ret
      exact ⟨_, by simp [*], rfl⟩
    · have d1 : decide (lo ≤ x) = true := decide_eq_true h1
      have d2 : decide (x ≤ hi) = false := decide_eq_false h2
      go_enter Try.func68, Try.ntmps68
      go_wp2
      go_ret
      exact ⟨_, by simp [*], rfl⟩
  · have d1 : decide (lo ≤ x) = false := decide_eq_false h1
    go_enter Try.func68, Try.ntmps68
    go_wp2
    go_ret
    exact ⟨_, by simp [*], rfl⟩
/-! ### sFaceWay -/
theorem c_sFaceWay (x : Int) (a an b bn : Nat) (w : World) (hx : (Lit.int .i64 x).wf = true) (ha : a < 2 ^ FloatKind.f32.format.width) (hb : b < 2 ^ FloatKind.f32.format.width) : Calls Try.prog 37 #[.int .i64 x, .float .f32 (pick .f32 a an), .float .f32 (pick .f32 b bn)] w (WayB2 (faceW x a b) w) := by
  generalize hw0 : w.alloc (Obj.cells #[.float .f32 0, .float .f32 0, .float .f32 0] 26) = w0
  have Vz_0 := Lib.hid (show Var w0 (w.heap.size) #[.float .f32 0, .float .f32 0, .float .f32 0] from by subst hw0; exact (Var.new' _ _ _ _ (by first | rfl | simp)))
  have F_0 := Lib.hid (show Free w0 (w.heap.size) from by subst hw0; exact Free.new' _ _ _ _ (by first | rfl | simp))
  have B_0 := Lib.hid (show Below w.heap.size w w0 from by subst hw0; exact ((Below.refl _ _).alloc (Nat.le_refl _) _))
  have SZ := Lib.hid (show w0.heap.size = w.heap.size + 1 from by subst hw0; simp)
  have HW := Lib.hid hw0
  clear hw0
  obtain ⟨res, hres⟩ : ∃ q, q = faceW x a b := ⟨_, rfl⟩
  rw [← hres]
  have CN := Lib.hid (fun w j => c_l00In x 0 5 w j)
  have CA := Lib.hid (fun w j => c_l06Place a an w j)
  have CB := Lib.hid (fun w j => c_l06Place b bn w j)
  cases hin : (decide (0 ≤ x) && decide (x ≤ 5))
  all_goals rw [hin] at CN
  · have RES := Lib.hid (hres.trans (faceW_no (.inl hin)))
    obtain ⟨cz0, cz1, cz2⟩ := Vz_0.out.three
    have f0 := F_0.out 0
    have f1 := F_0.out 1
    have f2 := F_0.out 2
    go_enter Try.func37, Try.ntmps37
    go_wp2_with fail
    rw [HW.out]
    rw [← w0.drewN_zero]
    go_wp2_with (first | (go_at_call 68; refine (CN.out _ _).mono ?_; rintro _ _ ⟨_, rfl, rfl⟩) | (go_at_call 78; first | ((with_reducible refine (CA.out _ _).mono ?_); rintro _ _ ⟨_, rfl, rfl⟩) | ((with_reducible refine (CB.out _ _).mono ?_); rintro _ _ ⟨_, rfl, rfl⟩)))
    refine bodyPost_ret (v := .tuple #[.agg #[.float .f32 0, .float .f32 0, .float .f32 0], .bool false]) (by simp [results, Try.results37, cz0, cz1, cz2, go_sem]) rfl ?_
    rw [RES.out]; refine WayB2.no rfl ?_
    repeat (first | exact B_0.out | exact Nat.le_refl _ | (refine Below.setCell ?_ ?_ _) | (refine below_drewN ?_ _) | (refine Below.alloc ?_ ?_ _) | (simp <;> omega))
  · have CF := Lib.hid (fun w => c_l06Face x a an b bn w (six hin))
    have HY := Lib.hid (fun h => hres.trans (faceW_yes (a := a) (b := b) hin h))
    have HN := Lib.hid (fun h => hres.trans (faceW_no (x := x) (a := a) (b := b) (.inr h)))
    clear hres hin
    generalize faceT x a b = t at *
    generalize withinB 1065353216 a = p at *
    generalize withinB 1065353216 b = q at *
    cases p <;> cases q
    · have RES := Lib.hid (HN.out rfl)
      obtain ⟨cz0, cz1, cz2⟩ := Vz_0.out.three
      have f0 := F_0.out 0
      have f1 := F_0.out 1
      have f2 := F_0.out 2
      go_enter Try.func37, Try.ntmps37
      go_wp2_with fail
      rw [HW.out]
      rw [← w0.drewN_zero]
      go_wp2_with (first | (go_at_call 68; refine (CN.out _ _).mono ?_; rintro _ _ ⟨_, rfl, rfl⟩) | (go_at_call 78; first | ((with_reducible refine (CA.out _ _).mono ?_); rintro _ _ ⟨_, rfl, rfl⟩) | ((with_reducible refine (CB.out _ _).mono ?_); rintro _ _ ⟨_, rfl, rfl⟩)))
      refine bodyPost_ret (v := .tuple #[.agg #[.float .f32 0, .float .f32 0, .float .f32 0], .bool false]) (by simp [results, Try.results37, cz0, cz1, cz2, go_sem]) rfl ?_
      rw [RES.out]; refine WayB2.no rfl ?_
      repeat (first | exact B_0.out | exact Nat.le_refl _ | (refine Below.setCell ?_ ?_ _) | (refine below_drewN ?_ _) | (refine Below.alloc ?_ ?_ _) | (simp <;> omega))
    · have RES := Lib.hid (HN.out rfl)
      obtain ⟨cz0, cz1, cz2⟩ := Vz_0.out.three
      have f0 := F_0.out 0
      have f1 := F_0.out 1
      have f2 := F_0.out 2
      go_enter Try.func37, Try.ntmps37
      go_wp2_with fail
      rw [HW.out]
      rw [← w0.drewN_zero]
      go_wp2_with (first | (go_at_call 68; refine (CN.out _ _).mono ?_; rintro _ _ ⟨_, rfl, rfl⟩) | (go_at_call 78; first | ((with_reducible refine (CA.out _ _).mono ?_); rintro _ _ ⟨_, rfl, rfl⟩) | ((with_reducible refine (CB.out _ _).mono ?_); rintro _ _ ⟨_, rfl, rfl⟩)))
      refine bodyPost_ret (v := .tuple #[.agg #[.float .f32 0, .float .f32 0, .float .f32 0], .bool false]) (by simp [results, Try.results37, cz0, cz1, cz2, go_sem]) rfl ?_
      rw [RES.out]; refine WayB2.no rfl ?_
      repeat (first | exact B_0.out | exact Nat.le_refl _ | (refine Below.setCell ?_ ?_ _) | (refine below_drewN ?_ _) | (refine Below.alloc ?_ ?_ _) | (simp <;> omega))
    · have RES := Lib.hid (HN.out rfl)
      obtain ⟨cz0, cz1, cz2⟩ := Vz_0.out.three
      have f0 := F_0.out 0
      have f1 := F_0.out 1
      have f2 := F_0.out 2
      go_enter Try.func37, Try.ntmps37
      go_wp2_with fail
      rw [HW.out]
      rw [← w0.drewN_zero]
      go_wp2_with (first | (go_at_call 68; refine (CN.out _ _).mono ?_; rintro _ _ ⟨_, rfl, rfl⟩) | (go_at_call 78; first | ((with_reducible refine (CA.out _ _).mono ?_); rintro _ _ ⟨_, rfl, rfl⟩) | ((with_reducible refine (CB.out _ _).mono ?_); rintro _ _ ⟨_, rfl, rfl⟩)))
      refine bodyPost_ret (v := .tuple #[.agg #[.float .f32 0, .float .f32 0, .float .f32 0], .bool false]) (by simp [results, Try.results37, cz0, cz1, cz2, go_sem]) rfl ?_
      rw [RES.out]; refine WayB2.no rfl ?_
      repeat (first | exact B_0.out | exact Nat.le_refl _ | (refine Below.setCell ?_ ?_ _) | (refine below_drewN ?_ _) | (refine Below.alloc ?_ ?_ _) | (simp <;> omega))
    · have RES := Lib.hid (HY.out rfl)
      obtain ⟨cz0, cz1, cz2⟩ := Vz_0.out.three
      have f0 := F_0.out 0
      have f1 := F_0.out 1
      have f2 := F_0.out 2
      go_enter Try.func37, Try.ntmps37
      go_wp2_with fail
      rw [HW.out]
      rw [← w0.drewN_zero]
      go_wp2_with (first | (go_at_call 68; refine (CN.out _ _).mono ?_; rintro _ _ ⟨_, rfl, rfl⟩) | (go_at_call 78; first | ((with_reducible refine (CA.out _ _).mono ?_); rintro _ _ ⟨_, rfl, rfl⟩) | ((with_reducible refine (CB.out _ _).mono ?_); rintro _ _ ⟨_, rfl, rfl⟩)))
      refine (CF.out _).mono ?_
      rintro _ w1 ⟨n9, m9, k9, rfl, b9⟩
      have b : Below w0.heap.size w0 w1 := (below_drewN (Below.refl _ _) _).trans (b9.mono (by simp))
      have Vz_1 := Lib.hid (Vz_0.out.keep b)
      have F_1 := Lib.hid (F_0.out.below Vz_0.out.lt b)
      have B_1 := Lib.hid (B_0.out.trans (b.mono B_0.out.size))
      clear cz0 cz1 cz2 f0 f1 f2
      clear Vz_0 F_0 B_0 b b9
      obtain ⟨cz0, cz1, cz2⟩ := Vz_1.out.three
      have f0 := F_1.out 0
      have f1 := F_1.out 1
      have f2 := F_1.out 2
      go_wp2_with fail
      refine bodyPost_ret (v := .tuple #[.agg #[.float .f32 (pick .f32 t.1 n9), .float .f32 (pick .f32 t.2.1 m9), .float .f32 (pick .f32 t.2.2 k9)], .bool true]) (by simp [results, Try.results37, cz0, cz1, cz2, go_sem]) rfl ?_
      rw [RES.out]; refine ⟨_, _, _, rfl, ?_⟩
      repeat (first | exact B_1.out | exact Nat.le_refl _ | (refine Below.setCell ?_ ?_ _) | (refine below_drewN ?_ _) | (refine Below.alloc ?_ ?_ _) | (simp <;> omega))
/-! ### within2 -/
theorem c_isWithin2p (q v n u m g : Nat) (w : World) (j : Nat) (hc : w.cell? ⟨g, 0, none⟩ = some (.float .f32 (pick .f32 v n))) (hd : w.cell? ⟨g, 1, none⟩ = some (.float .f32 (pick .f32 u m))) : Calls Try.prog 80 #[.float .f32 (pick .f32 1065353216 q), .slice (some ⟨g, 0, none⟩) 2 2] (w.drewN j) (RetV (.bool (withinB 1065353216 v && withinB 1065353216 u)) w) := by
  have hc' : w.cell? ⟨g, 0 + 0, none⟩ = some (.float .f32 (pick .f32 v n)) := hc
  have hd' : w.cell? ⟨g, 0 + 1, none⟩ = some (.float .f32 (pick .f32 u m)) := hd
  generalize hm : (1065353216 : Nat) = M
  clear hm
  unfold withinB
  cases e1 : (FloatKind.f32.format.order v (fneg .f32 M) == some .gt || FloatKind.f32.format.order v (fneg .f32 M) == some .eq) <;> cases e2 : (FloatKind.f32.format.order v M == some .lt || FloatKind.f32.format.order v M == some .eq) <;> cases e3 : (FloatKind.f32.format.order u (fneg .f32 M) == some .gt || FloatKind.f32.format.order u (fneg .f32 M) == some .eq) <;> cases e4 : (FloatKind.f32.format.order u M == some .lt || FloatKind.f32.format.order u M == some .eq)
  all_goals
    go_enter Try.func80, Try.ntmps80
    go_wp2_with fail
    refine wp_loop_rounds 3 ?_
    rw [rounds_succ]
    go_wp2_with fail
    first
      | (go_ret; exact ⟨_, rfl, rfl⟩)
      | (rw [rounds_succ]; go_wp2_with fail; first | (go_ret; exact ⟨_, rfl, rfl⟩) | (rw [rounds_succ]; go_wp2_with fail; go_ret; exact ⟨_, rfl, rfl⟩))
theorem c_isWithin2 (v n u m g : Nat) (w : World) (j : Nat) (hc : w.cell? ⟨g, 0, none⟩ = some (.float .f32 (pick .f32 v n))) (hd : w.cell? ⟨g, 1, none⟩ = some (.float .f32 (pick .f32 u m))) : Calls Try.prog 80 #[.float .f32 1065353216, .slice (some ⟨g, 0, none⟩) 2 2] (w.drewN j) (RetV (.bool (withinB 1065353216 v && withinB 1065353216 u)) w) := by
  have h := c_isWithin2p 0 v n u m g w j hc hd
  rwa [pk1] at h
/-! ### iFaceWay -/
theorem c_iFaceWay (x : Int) (a an b bn : Nat) (w : World) (hx : (Lit.int .i64 x).wf = true) (ha : a < 2 ^ FloatKind.f32.format.width) (hb : b < 2 ^ FloatKind.f32.format.width) : Calls Try.prog 38 #[.int .i64 x, .float .f32 (pick .f32 a an), .float .f32 (pick .f32 b bn)] w (WayB2 (faceW x a b) w) := by
  generalize hw0 : w.alloc (Obj.cells #[.float .f32 0, .float .f32 0, .float .f32 0] 26) = w0
  have Vz_0 := Lib.hid (show Var w0 (w.heap.size) #[.float .f32 0, .float .f32 0, .float .f32 0] from by subst hw0; exact (Var.new' _ _ _ _ (by first | rfl | simp)))
  have F_0 := Lib.hid (show Free w0 (w.heap.size) from by subst hw0; exact Free.new' _ _ _ _ (by first | rfl | simp))
  have B_0 := Lib.hid (show Below w.heap.size w w0 from by subst hw0; exact ((Below.refl _ _).alloc (Nat.le_refl _) _))
  have SZ := Lib.hid (show w0.heap.size = w.heap.size + 1 from by subst hw0; simp)
  have HW := Lib.hid hw0
  clear hw0
  obtain ⟨res, hres⟩ : ∃ q, q = faceW x a b := ⟨_, rfl⟩
  rw [← hres]
  have CW := Lib.hid (fun (w : World) (z : Nat) (hz : z = w.heap.size) => @id (Calls Try.prog 80 #[.float .f32 1065353216, .slice (some ⟨z, 0, none⟩) 2 2] (w.alloc (.cells #[.float .f32 (pick .f32 a an), .float .f32 (pick .f32 b bn)] 22)) (RetV (.bool (withinB 1065353216 a && withinB 1065353216 b)) (w.alloc (.cells #[.float .f32 (pick .f32 a an), .float .f32 (pick .f32 b bn)] 22)))) (by
    subst hz
    have V := Var.new w #[.float .f32 (pick .f32 a an), .float .f32 (pick .f32 b bn)] 22
    have h := c_isWithin2 a an b bn w.heap.size (w.alloc (.cells #[.float .f32 (pick .f32 a an), .float .f32 (pick .f32 b bn)] 22)) 0 (V.2 0 (by simp)) (V.2 1 (by simp))
    rwa [World.drewN_zero] at h))
  have HY := Lib.hid (fun h h2 => hres.trans (faceW_yes (x := x) (a := a) (b := b) h h2))
  have HN := Lib.hid (fun h => hres.trans (faceW_no (x := x) (a := a) (b := b) h))
  clear hres
  generalize (withinB 1065353216 a && withinB 1065353216 b) = q at *
  cases q
  · have RES := Lib.hid (HN.out (.inr rfl))
    obtain ⟨cz0, cz1, cz2⟩ := Vz_0.out.three
    have f0 := F_0.out 0
    have f1 := F_0.out 1
    have f2 := F_0.out 2
    go_enter Try.func38, Try.ntmps38
    go_wp2_with fail
    rw [HW.out]
    go_wp2_with fail
    refine (CW.out _ _ (by rw [SZ.out])).mono ?_
    rintro _ _ ⟨m1, rfl, rfl⟩
    generalize hw1 : World.drewN _ m1 = w1
    have b : Below w0.heap.size w0 w1 := by subst hw1; exact below_drewN ((Below.refl _ _).alloc (Nat.le_refl _) _) _
    have Vz_1 := Lib.hid (Vz_0.out.keep b)
    have F_1 := Lib.hid (F_0.out.below Vz_0.out.lt b)
    have B_1 := Lib.hid (B_0.out.trans (b.mono B_0.out.size))
    clear cz0 cz1 cz2 f0 f1 f2
    clear Vz_0 F_0 B_0 b hw1
    obtain ⟨cz0, cz1, cz2⟩ := Vz_1.out.three
    have f0 := F_1.out 0
    have f1 := F_1.out 1
    have f2 := F_1.out 2
    go_wp2_with fail
    refine bodyPost_ret (v := .tuple #[.agg #[.float .f32 0, .float .f32 0, .float .f32 0], .bool false]) (by simp [results, Try.results38, cz0, cz1, cz2, go_sem]) rfl ?_
    rw [RES.out]; refine WayB2.no rfl ?_
    repeat (first | exact B_1.out | exact Nat.le_refl _ | (refine Below.setCell ?_ ?_ _) | (refine below_drewN ?_ _) | (refine Below.alloc ?_ ?_ _) | (simp <;> omega))
  · by_cases hin : (decide (0 ≤ x) && decide (x ≤ 5)) = true
    · have RES0 := Lib.hid (HY.out hin rfl)
      rcases six hin with rfl | rfl | rfl | rfl | rfl | rfl
      all_goals clear hin HY HN
      · have RES := Lib.hid (RES0.out.trans (show _ = ((1065353216, a, b), true) from rfl))
        obtain ⟨cz0, cz1, cz2⟩ := Vz_0.out.three
        have f0 := F_0.out 0
        have f1 := F_0.out 1
        have f2 := F_0.out 2
        go_enter Try.func38, Try.ntmps38
        go_wp2_with fail
        rw [HW.out]
        go_wp2_with fail
        refine (CW.out _ _ (by rw [SZ.out])).mono ?_
        rintro _ _ ⟨m1, rfl, rfl⟩
        generalize hw1 : World.drewN _ m1 = w1
        have b : Below w0.heap.size w0 w1 := by subst hw1; exact below_drewN ((Below.refl _ _).alloc (Nat.le_refl _) _) _
        have Vz_1 := Lib.hid (Vz_0.out.keep b)
        have F_1 := Lib.hid (F_0.out.below Vz_0.out.lt b)
        have B_1 := Lib.hid (B_0.out.trans (b.mono B_0.out.size))
        clear cz0 cz1 cz2 f0 f1 f2
        clear Vz_0 F_0 B_0 b hw1
        obtain ⟨cz0, cz1, cz2⟩ := Vz_1.out.three
        have f0 := F_1.out 0
        have f1 := F_1.out 1
        have f2 := F_1.out 2
        go_wp2_with fail
        refine bodyPost_ret (v := .tuple #[.agg #[.float .f32 1065353216, .float .f32 (pick .f32 a an), .float .f32 (pick .f32 b bn)], .bool true]) (by simp [results, Try.results38, cz0, cz1, cz2, go_sem]) rfl ?_
        rw [RES.out]; refine ⟨0, an, bn, by simp only [pk1, pkm1], ?_⟩
        repeat (first | exact B_1.out | exact Nat.le_refl _ | (refine Below.setCell ?_ ?_ _) | (refine below_drewN ?_ _) | (refine Below.alloc ?_ ?_ _) | (simp <;> omega))
      · have RES := Lib.hid (RES0.out.trans (show _ = ((3212836864, a, b), true) from rfl))
        obtain ⟨cz0, cz1, cz2⟩ := Vz_0.out.three
        have f0 := F_0.out 0
        have f1 := F_0.out 1
        have f2 := F_0.out 2
        go_enter Try.func38, Try.ntmps38
        go_wp2_with fail
        rw [HW.out]
        go_wp2_with fail
        refine (CW.out _ _ (by rw [SZ.out])).mono ?_
        rintro _ _ ⟨m1, rfl, rfl⟩
        generalize hw1 : World.drewN _ m1 = w1
        have b : Below w0.heap.size w0 w1 := by subst hw1; exact below_drewN ((Below.refl _ _).alloc (Nat.le_refl _) _) _
        have Vz_1 := Lib.hid (Vz_0.out.keep b)
        have F_1 := Lib.hid (F_0.out.below Vz_0.out.lt b)
        have B_1 := Lib.hid (B_0.out.trans (b.mono B_0.out.size))
        clear cz0 cz1 cz2 f0 f1 f2
        clear Vz_0 F_0 B_0 b hw1
        obtain ⟨cz0, cz1, cz2⟩ := Vz_1.out.three
        have f0 := F_1.out 0
        have f1 := F_1.out 1
        have f2 := F_1.out 2
        go_wp2_with fail
        refine bodyPost_ret (v := .tuple #[.agg #[.float .f32 3212836864, .float .f32 (pick .f32 a an), .float .f32 (pick .f32 b bn)], .bool true]) (by simp [results, Try.results38, cz0, cz1, cz2, go_sem]) rfl ?_
        rw [RES.out]; refine ⟨0, an, bn, by simp only [pk1, pkm1], ?_⟩
        repeat (first | exact B_1.out | exact Nat.le_refl _ | (refine Below.setCell ?_ ?_ _) | (refine below_drewN ?_ _) | (refine Below.alloc ?_ ?_ _) | (simp <;> omega))
      · have RES := Lib.hid (RES0.out.trans (show _ = ((a, 1065353216, b), true) from rfl))
        obtain ⟨cz0, cz1, cz2⟩ := Vz_0.out.three
        have f0 := F_0.out 0
        have f1 := F_0.out 1
        have f2 := F_0.out 2
        go_enter Try.func38, Try.ntmps38
        go_wp2_with fail
        rw [HW.out]
        go_wp2_with fail
        refine (CW.out _ _ (by rw [SZ.out])).mono ?_
        rintro _ _ ⟨m1, rfl, rfl⟩
        generalize hw1 : World.drewN _ m1 = w1
        have b : Below w0.heap.size w0 w1 := by subst hw1; exact below_drewN ((Below.refl _ _).alloc (Nat.le_refl _) _) _
        have Vz_1 := Lib.hid (Vz_0.out.keep b)
        have F_1 := Lib.hid (F_0.out.below Vz_0.out.lt b)
        have B_1 := Lib.hid (B_0.out.trans (b.mono B_0.out.size))
        clear cz0 cz1 cz2 f0 f1 f2
        clear Vz_0 F_0 B_0 b hw1
        obtain ⟨cz0, cz1, cz2⟩ := Vz_1.out.three
        have f0 := F_1.out 0
        have f1 := F_1.out 1
        have f2 := F_1.out 2
        go_wp2_with fail
        refine bodyPost_ret (v := .tuple #[.agg #[.float .f32 (pick .f32 a an), .float .f32 1065353216, .float .f32 (pick .f32 b bn)], .bool true]) (by simp [results, Try.results38, cz0, cz1, cz2, go_sem]) rfl ?_
        rw [RES.out]; refine ⟨an, 0, bn, by simp only [pk1, pkm1], ?_⟩
        repeat (first | exact B_1.out | exact Nat.le_refl _ | (refine Below.setCell ?_ ?_ _) | (refine below_drewN ?_ _) | (refine Below.alloc ?_ ?_ _) | (simp <;> omega))
      · have RES := Lib.hid (RES0.out.trans (show _ = ((a, 3212836864, b), true) from rfl))
        obtain ⟨cz0, cz1, cz2⟩ := Vz_0.out.three
        have f0 := F_0.out 0
        have f1 := F_0.out 1
        have f2 := F_0.out 2
        go_enter Try.func38, Try.ntmps38
        go_wp2_with fail
        rw [HW.out]
        go_wp2_with fail
        refine (CW.out _ _ (by rw [SZ.out])).mono ?_
        rintro _ _ ⟨m1, rfl, rfl⟩
        generalize hw1 : World.drewN _ m1 = w1
        have b : Below w0.heap.size w0 w1 := by subst hw1; exact below_drewN ((Below.refl _ _).alloc (Nat.le_refl _) _) _
        have Vz_1 := Lib.hid (Vz_0.out.keep b)
        have F_1 := Lib.hid (F_0.out.below Vz_0.out.lt b)
        have B_1 := Lib.hid (B_0.out.trans (b.mono B_0.out.size))
        clear cz0 cz1 cz2 f0 f1 f2
        clear Vz_0 F_0 B_0 b hw1
        obtain ⟨cz0, cz1, cz2⟩ := Vz_1.out.three
        have f0 := F_1.out 0
        have f1 := F_1.out 1
        have f2 := F_1.out 2
        go_wp2_with fail
        refine bodyPost_ret (v := .tuple #[.agg #[.float .f32 (pick .f32 a an), .float .f32 3212836864, .float .f32 (pick .f32 b bn)], .bool true]) (by simp [results, Try.results38, cz0, cz1, cz2, go_sem]) rfl ?_
        rw [RES.out]; refine ⟨an, 0, bn, by simp only [pk1, pkm1], ?_⟩
        repeat (first | exact B_1.out | exact Nat.le_refl _ | (refine Below.setCell ?_ ?_ _) | (refine below_drewN ?_ _) | (refine Below.alloc ?_ ?_ _) | (simp <;> omega))
      · have RES := Lib.hid (RES0.out.trans (show _ = ((a, b, 1065353216), true) from rfl))
        obtain ⟨cz0, cz1, cz2⟩ := Vz_0.out.three
        have f0 := F_0.out 0
        have f1 := F_0.out 1
        have f2 := F_0.out 2
        go_enter Try.func38, Try.ntmps38
        go_wp2_with fail
        rw [HW.out]
        go_wp2_with fail
        refine (CW.out _ _ (by rw [SZ.out])).mono ?_
        rintro _ _ ⟨m1, rfl, rfl⟩
        generalize hw1 : World.drewN _ m1 = w1
        have b : Below w0.heap.size w0 w1 := by subst hw1; exact below_drewN ((Below.refl _ _).alloc (Nat.le_refl _) _) _
        have Vz_1 := Lib.hid (Vz_0.out.keep b)
        have F_1 := Lib.hid (F_0.out.below Vz_0.out.lt b)
        have B_1 := Lib.hid (B_0.out.trans (b.mono B_0.out.size))
        clear cz0 cz1 cz2 f0 f1 f2
        clear Vz_0 F_0 B_0 b hw1
        obtain ⟨cz0, cz1, cz2⟩ := Vz_1.out.three
        have f0 := F_1.out 0
        have f1 := F_1.out 1
        have f2 := F_1.out 2
        go_wp2_with fail
        refine bodyPost_ret (v := .tuple #[.agg #[.float .f32 (pick .f32 a an), .float .f32 (pick .f32 b bn), .float .f32 1065353216], .bool true]) (by simp [results, Try.results38, cz0, cz1, cz2, go_sem]) rfl ?_
        rw [RES.out]; refine ⟨an, bn, 0, by simp only [pk1, pkm1], ?_⟩
        repeat (first | exact B_1.out | exact Nat.le_refl _ | (refine Below.setCell ?_ ?_ _) | (refine below_drewN ?_ _) | (refine Below.alloc ?_ ?_ _) | (simp <;> omega))
      · have RES := Lib.hid (RES0.out.trans (show _ = ((a, b, 3212836864), true) from rfl))
        obtain ⟨cz0, cz1, cz2⟩ := Vz_0.out.three
        have f0 := F_0.out 0
        have f1 := F_0.out 1
        have f2 := F_0.out 2
        go_enter Try.func38, Try.ntmps38
        go_wp2_with fail
        rw [HW.out]
        go_wp2_with fail
        refine (CW.out _ _ (by rw [SZ.out])).mono ?_
        rintro _ _ ⟨m1, rfl, rfl⟩
        generalize hw1 : World.drewN _ m1 = w1
        have b : Below w0.heap.size w0 w1 := by subst hw1; exact below_drewN ((Below.refl _ _).alloc (Nat.le_refl _) _) _
        have Vz_1 := Lib.hid (Vz_0.out.keep b)
        have F_1 := Lib.hid (F_0.out.below Vz_0.out.lt b)
        have B_1 := Lib.hid (B_0.out.trans (b.mono B_0.out.size))
        clear cz0 cz1 cz2 f0 f1 f2
        clear Vz_0 F_0 B_0 b hw1
        obtain ⟨cz0, cz1, cz2⟩ := Vz_1.out.three
        have f0 := F_1.out 0
        have f1 := F_1.out 1
        have f2 := F_1.out 2
        go_wp2_with fail
        refine bodyPost_ret (v := .tuple #[.agg #[.float .f32 (pick .f32 a an), .float .f32 (pick .f32 b bn), .float .f32 3212836864], .bool true]) (by simp [results, Try.results38, cz0, cz1, cz2, go_sem]) rfl ?_
        rw [RES.out]; refine ⟨an, bn, 0, by simp only [pk1, pkm1], ?_⟩
        repeat (first | exact B_1.out | exact Nat.le_refl _ | (refine Below.setCell ?_ ?_ _) | (refine below_drewN ?_ _) | (refine Below.alloc ?_ ?_ _) | (simp <;> omega))
    · have hin' := Bool.eq_false_iff.2 hin
      have RES := Lib.hid (HN.out (.inl hin'))
      have hb6 : x < 0 ∨ 5 < x := by simp only [Bool.and_eq_false_iff, decide_eq_false_iff_not] at hin'; omega
      have e0 : (x == 0) = false := by rw [beq_eq_false_iff_ne]; omega
      have e1 : (x == 1) = false := by rw [beq_eq_false_iff_ne]; omega
      have e2 : (x == 2) = false := by rw [beq_eq_false_iff_ne]; omega
      have e3 : (x == 3) = false := by rw [beq_eq_false_iff_ne]; omega
      have e4 : (x == 4) = false := by rw [beq_eq_false_iff_ne]; omega
      have e5 : (x == 5) = false := by rw [beq_eq_false_iff_ne]; omega
      clear hin hin' hb6
      obtain ⟨cz0, cz1, cz2⟩ := Vz_0.out.three
      have f0 := F_0.out 0
      have f1 := F_0.out 1
      have f2 := F_0.out 2
      go_enter Try.func38, Try.ntmps38
      go_wp2_with fail
      rw [HW.out]
      go_wp2_with fail
      refine (CW.out _ _ (by rw [SZ.out])).mono ?_
      rintro _ _ ⟨m1, rfl, rfl⟩
      generalize hw1 : World.drewN _ m1 = w1
      have b : Below w0.heap.size w0 w1 := by subst hw1; exact below_drewN ((Below.refl _ _).alloc (Nat.le_refl _) _) _
      have Vz_1 := Lib.hid (Vz_0.out.keep b)
      have F_1 := Lib.hid (F_0.out.below Vz_0.out.lt b)
      have B_1 := Lib.hid (B_0.out.trans (b.mono B_0.out.size))
      clear cz0 cz1 cz2 f0 f1 f2
      clear Vz_0 F_0 B_0 b hw1
      obtain ⟨cz0, cz1, cz2⟩ := Vz_1.out.three
      have f0 := F_1.out 0
      have f1 := F_1.out 1
      have f2 := F_1.out 2
      go_wp2_with fail
      refine bodyPost_ret (v := .tuple #[.agg #[.float .f32 0, .float .f32 0, .float .f32 0], .bool false]) (by simp [results, Try.results38, cz0, cz1, cz2, go_sem]) rfl ?_
      rw [RES.out]; refine WayB2.no rfl ?_
      repeat (first | exact B_1.out | exact Nat.le_refl _ | (refine Below.setCell ?_ ?_ _) | (refine below_drewN ?_ _) | (refine Below.alloc ?_ ?_ _) | (simp <;> omega))

/-! ### FnExactFaceWay -/
theorem walk (xF : Int) (vA nA : Nat) (vB nB : Nat) (w : World) (hF : (Lit.int .i64 xF).wf = true) (hA : vA < 2 ^ FloatKind.f32.format.width) (hB : vB < 2 ^ FloatKind.f32.format.width) : Calls Try.prog 11 #[.int .i64 xF, .float .f32 (pick .f32 vA nA), .float .f32 (pick .f32 vB nB)] w fun e w' => e = .returned (.bool true) ∧ Below w.heap.size w w' := by
  obtain ⟨w0, rfl⟩ : ∃ x : World, x = w := ⟨_, rfl⟩
  have B_0 := Lib.hid (Below.refl w0.heap.size w0)
  have Cs := Lib.hid (fun w => c_sFaceWay xF vA nA vB nB w hF hA hB)
  have Ci := Lib.hid (fun w => c_iFaceWay xF vA nA vB nB w hF hA hB)
  generalize faceW xF vA vB = z at *
  go_enter Try.func11, Try.ntmps11
  go_wp2_with fail
  go_wp2_with fail
  refine (Cs.out _).mono ?_
  rintro _ w1 ⟨ns, ms, ks, rfl, b⟩
  have B_1 := Lib.hid (B_0.out.trans (b.mono B_0.out.size))
  clear B_0
  clear b
  generalize hw2 : w1.alloc (Obj.cells #[.float .f32 (pick .f32 z.1.1 ns), .float .f32 (pick .f32 z.1.2.1 ms), .float .f32 (pick .f32 z.1.2.2 ks)] 26) = w2
  have X0 : Var w2 w1.heap.size #[.float .f32 (pick .f32 z.1.1 ns), .float .f32 (pick .f32 z.1.2.1 ms), .float .f32 (pick .f32 z.1.2.2 ks)] := by subst hw2; exact Var.new _ _ _
  have b : Below w1.heap.size w1 w2 := by subst hw2; exact (Below.refl _ _).alloc (Nat.le_refl _) _
  have Hs := Lib.hid hw2
  have B_2 := Lib.hid (B_1.out.trans (b.mono B_1.out.size))
  clear B_1
  have Us_2 := Lib.hid X0
  clear b X0 hw2
  go_wp2_with fail
  rw [Hs.out]
  clear Hs
  go_wp2_with fail
  refine (Ci.out _).mono ?_
  rintro _ w3 ⟨ni, mi, ki, rfl, b⟩
  have B_3 := Lib.hid (B_2.out.trans (b.mono B_2.out.size))
  have Us_3 := Lib.hid (Us_2.out.keep b)
  clear B_2 Us_2
  clear b
  generalize hw4 : w3.alloc (Obj.cells #[.float .f32 (pick .f32 z.1.1 ni), .float .f32 (pick .f32 z.1.2.1 mi), .float .f32 (pick .f32 z.1.2.2 ki)] 26) = w4
  have X0 : Var w4 w3.heap.size #[.float .f32 (pick .f32 z.1.1 ni), .float .f32 (pick .f32 z.1.2.1 mi), .float .f32 (pick .f32 z.1.2.2 ki)] := by subst hw4; exact Var.new _ _ _
  have b : Below w3.heap.size w3 w4 := by subst hw4; exact (Below.refl _ _).alloc (Nat.le_refl _) _
  have Hi := Lib.hid hw4
  have B_4 := Lib.hid (B_3.out.trans (b.mono B_3.out.size))
  have Us_4 := Lib.hid (Us_3.out.keep b)
  clear B_3 Us_3
  have Ui_4 := Lib.hid X0
  obtain ⟨c0, c1, c2⟩ := Us_4.out.three
  rw [← hw4] at c0 c1 c2
  obtain ⟨d0, d1, d2⟩ := Ui_4.out.three
  rw [← hw4] at d0 d1 d2
  clear b X0 hw4
  go_wp2_with fail
  rw [Hi.out]
  clear Hi c0 c1 c2 d0 d1 d2
  refine (c_eqW z.1.1 ni ns z.1.2.1 mi ms z.1.2.2 ki ks w4).mono ?_
  rintro _ w5 ⟨rfl, b⟩
  have B_5 := Lib.hid (B_4.out.trans (b.mono B_4.out.size))
  have Us_5 := Lib.hid (Us_4.out.keep b)
  have Ui_5 := Lib.hid (Ui_4.out.keep b)
  clear B_4 Us_4 Ui_4
  clear b
  go_wp2_with fail
  go_ret
  exact ⟨rfl, B_5.out⟩
theorem own : ownKnob Try.prog.godebug = none := by kernel_rfl
theorem laidOut : laidOutB Try.prog = true := by kernel_rfl
set_option maxRecDepth 100000 in
theorem lifted (os : Os) (started : os.Started) (H : Type) (enc : TypeId × Value → H) :
    ReturnsInHanded {} Try.checked os 11 .any (Rows.fnExactFaceWaySpec.pre6 enc Try.prog Try.f11 Rows.fnExactFaceWayRow.domain false) (Rows.fnExactFaceWaySpec.post enc Try.prog Try.f11 false true false false) := by
  refine returnsInHanded_of_change (C := Try.checked) own started (by kernel_rfl) Try.func11
    (ChangeSpec.witness6 (enc := enc) (C := Try.checked) false ⟨#[], #[.int .i64 0, .float .f32 0, .float .f32 0], []⟩ 8 (by kernel_rfl) (by kernel_rfl) (by kernel_rfl) (by kernel_rfl)) ?_
  intro W base args ds gs before hval0 hW hcnd _
  have hval : ∀ (j : Nat) t v, Try.f11.params[j]? = some t → args[j]? = some v → Value.okWide Try.prog W .any base t v := hval0
  have hW' := hW
  obtain ⟨p, q, hA0, hV, rfl, hfz, hnd⟩ := hW
  have hA : DataW.TrodAll enc Try.prog W 0 (fun _ => true) true Try.f11.params.toList args.toList ds p := hA0
  rw [Try.params11] at hA hval
  obtain ⟨v0, vs0, d0, ds0, p0, q0, hargs, rfl, rfl, h0, r0⟩ := trodAll_cons hA
  obtain ⟨v1, vs1, d1, ds1, p1, q1, rfl, rfl, rfl, h1, r1⟩ := trodAll_cons r0
  obtain ⟨v2, vs2, d2, ds2, p2, q2, rfl, rfl, rfl, h2, r2⟩ := trodAll_cons r1
  obtain ⟨rfl, rfl, rfl⟩ := trodAll_nil r2
  obtain rfl : args = #[v0, v1, v2] := by cases args; simp_all
  obtain ⟨rfl, rfl⟩ := trodVars_none hV
  obtain ⟨a0, rfl, rfl, rfl, w0⟩ := open_int Try.underlying2 (hval 0 2 v0 rfl rfl) h0
  obtain ⟨b1, rfl, rfl, rfl, w1⟩ := open_float Try.underlying22 (hval 1 22 v1 rfl rfl) h1
  obtain ⟨n1, en1⟩ := pick_onto .f32 b1 (lt_of_wf w1)
  obtain ⟨b2, rfl, rfl, rfl, w2⟩ := open_float Try.underlying22 (hval 2 22 v2 rfl rfl) h2
  obtain ⟨n2, en2⟩ := pick_onto .f32 b2 (lt_of_wf w2)
  clear hA0 hval0
  have hcall1 := en1
  have hcall2 := en2
  have hw0 : Calls Try.prog 11 #[.int .i64 a0, .float .f32 b1, .float .f32 b2] W fun e w' => e = .returned (.bool true) ∧ Below W.heap.size W w' := by
    rw [en1]
    rw [en2]
    exact walk a0 b1 n1 b2 n2 W w0 (lt_of_wf w1) (lt_of_wf w2)
  refine hw0.mono fun e W' ⟨he, bel⟩ => ?_
  subst he
  exact ⟨_, rfl, _, _, _, [], _, [], hW', trodAll_mk1 (shut_bool Try.underlying4 _), (trodAll_cons_mk (shut_int Try.underlying2 w0) (trodAll_cons_mk (shut_float Try.underlying22 w1) (trodAll_cons_mk (shut_float Try.underlying22 w2) trodAll_mk0))), rfl, bel.frame _, fun h => by cases h⟩

theorem over : Rows.fnExactFaceWayRow.holds Try.pinned (OpenSpec.ofChange Rows.fnExactFaceWaySpec) :=
  OpenClaim.holds_of_wide 11 Try.f11 rfl rfl rfl rfl rfl rfl rfl ⟨rfl, rfl, rfl, rfl, rfl⟩ rfl rfl rfl rfl rfl (by kernel_rfl) Try.func11 (by kernel_rfl)
    (of_decide_eq_true (by kernel_rfl)) (by unfold Func.isWrapper; first | (rw [if_pos (by decide +kernel)]; kernel_rfl) | (rw [if_neg (by decide +kernel)]; exact ⟨rfl, rfl⟩))
    (fun os started H enc _ => lifted os started H enc)

theorem proved : Rows.FnExactFaceWaySaid := over
#print axioms proved

end Go.Proofs.Ytmngedfibmnohaa.fnExactFaceWay

/-
  FnExactTurnWay: for every input this law of the program returns true, and each argument reads as before. No condition.
-/
import Derived.Test.YtmngedfibmnohaaRows
import Derived.Test.YtmngedfibmnohaaRow
import Derived.Test.YtmngedfibmnohaaBy
import Derived.Test.YtmngedfibmnohaaCx
import Derived.Test.YtmngedfibmnohaaAp
import Derived.ProofKit
import Derived.OpenShut
import Derived.ShutString
import Derived.ChangeOld
import Derived.Below
import Derived.Lib.Hide
import Derived.Outline
import Derived.Deep.RegionHeld3
import Derived.Deep.DeepCutAuto
set_option linter.unusedSimpArgs false
set_option linter.unusedVariables false
set_option exponentiation.threshold 2000
set_option maxRecDepth 20000
set_option maxHeartbeats 4000000
namespace Go.Proofs.Ytmngedfibmnohaa.fnExactTurnWay
open Go Go.Proofs.Ytmngedfibmnohaa Go.Proofs
open Go.ChangeShapes Go.WideShapes Go.ChangeAt Go.RowKit
open Go.ChangeMaps (open_string shut_string)
/-! ### openCol -/
theorem open_col {H : Type} {enc : TypeId × Value → H} {P : Program} {w : World} {base : Nat} {spare : Nat → Bool} {held : Bool} {r : Reach} {b0 : Nat} {t : TypeId} {f0 f1 f2 : Field} {v : Value} {d : DataW H} {p : List MemPlace}
    (hs : P.underlying t = some (.struct #[f0, f1, f2])) (hone : Go.Deep.oneCellFields P #[f0, f1, f2] = true) (hC : P.cellsOf t = 3) (u0 : P.underlying f0.type = some (.float .f32)) (u1 : P.underlying f1.type = some (.float .f32))
    (u2 : P.underlying f2.type = some (.float .f32)) (hv : Value.okWide P w r b0 t v) (h : DataW.Trod enc P w base spare held t v d p) :
    ∃ (x y z : Nat), v = .agg #[.float .f32 x, .float .f32 y, .float .f32 z] ∧ (Lit.float .f32 x).wf = true ∧ (Lit.float .f32 y).wf = true ∧ (Lit.float .f32 z).wf = true := by
  obtain ⟨v0, v1, v2, y0, y1, y2, n, rfl, _, _, h0, h1, h2⟩ := Go.Joins.open_agg3 hs hone hC hv h
  obtain ⟨x, e0, _, w0⟩ := trod_float u0 h0
  obtain ⟨y, e1, _, w1⟩ := trod_float u1 h1
  obtain ⟨z, e2, _, w2⟩ := trod_float u2 h2
  simp only [List.cons.injEq, and_true] at e0 e1 e2
  subst e0 e1 e2
  exact ⟨x, y, z, rfl, w0, w1, w2⟩
/-! ### toWay -/
theorem c_toW (r n g m b k : Nat) (w : World) : Calls Try.prog 16 #[.agg #[.float .f32 (pick .f32 r n), .float .f32 (pick .f32 g m), .float .f32 (pick .f32 b k)]] w (RetB (.agg #[.float .f32 (pick .f32 r n), .float .f32 (pick .f32 g m), .float .f32 (pick .f32 b k)]) w) := by
  go_enter Try.func16, Try.ntmps16
  go_wp2_with fail
  refine bodyPost_ret (v := .agg #[.float .f32 (pick .f32 r n), .float .f32 (pick .f32 g m), .float .f32 (pick .f32 b k)]) (by simp [results, Try.results16, go_sem]) rfl ⟨rfl, ?_⟩
  repeat (first | exact Below.refl _ _ | exact Nat.le_refl _ | (refine Below.setCell ?_ ?_ _) | (refine below_drewN ?_ _) | (refine Below.alloc ?_ ?_ _) | (simp <;> omega))
/-! ### sameFloat -/
theorem c_sameFloat (v n m : Nat) (w : World) (j : Nat) : Calls Try.prog 25 #[.float .f64 (pick .f64 v n), .float .f64 (pick .f64 v m)] (w.drewN j) (RetV (.bool true) w) := by
  have hs := self_ne .f64 v
  have ht := self_eq .f64 v
  cases h : isN .f64 v
  · rw [h] at hs ht
    cases h2 : (FloatKind.f64.format.order v 0 == some .eq)
    · go_enter Try.func25, Try.ntmps25
      go_wp2_with (first | (refine wpList_fop rfl _ _ _ _ _ rfl _ _ _ rfl rfl (by decide) _ ?_; intro _ _) | (refine upon_fop _ _ _ _ _ (by decide) ?_; intro _ _))
      go_ret
      exact ⟨_, rfl, rfl⟩
    · go_enter Try.func25, Try.ntmps25
      go_wp2_with (first | (refine wpList_fop rfl _ _ _ _ _ rfl _ _ _ rfl rfl (by decide) _ ?_; intro _ _) | (refine upon_fop _ _ _ _ _ (by decide) ?_; intro _ _))
      go_ret
      exact ⟨_, by simp, rfl⟩
  · rw [h] at hs ht
    go_enter Try.func25, Try.ntmps25
    go_wp2_with (first | (refine wpList_fop rfl _ _ _ _ _ rfl _ _ _ rfl rfl (by decide) _ ?_; intro _ _) | (refine upon_fop _ _ _ _ _ (by decide) ?_; intro _ _))
    go_ret
    exact ⟨_, rfl, rfl⟩

/-! ### eqWay -/
theorem c_eqW (r nr nr2 g ng ng2 b nb nb2 : Nat) (w : World) : Calls Try.prog 22 #[.agg #[.float .f32 (pick .f32 r nr), .float .f32 (pick .f32 g ng), .float .f32 (pick .f32 b nb)], .agg #[.float .f32 (pick .f32 r nr2), .float .f32 (pick .f32 g ng2), .float .f32 (pick .f32 b nb2)]] w (RetB (.bool true) w) := by
  generalize hw2 : (w.alloc (Obj.cells #[.float .f32 (pick .f32 r nr), .float .f32 (pick .f32 g ng), .float .f32 (pick .f32 b nb)] 26)).alloc (Obj.cells #[.float .f32 (pick .f32 r nr2), .float .f32 (pick .f32 g ng2), .float .f32 (pick .f32 b nb2)] 26) = w2
  have X0 : Var w2 w.heap.size #[.float .f32 (pick .f32 r nr), .float .f32 (pick .f32 g ng), .float .f32 (pick .f32 b nb)] := by subst hw2; exact (Var.new _ _ _).alloc _
  have X1 : Var w2 (w.heap.size + 1) #[.float .f32 (pick .f32 r nr2), .float .f32 (pick .f32 g ng2), .float .f32 (pick .f32 b nb2)] := by subst hw2; exact Var.new' _ _ _ _ (by simp)
  have B0 := Lib.hid (show Below w.heap.size w w2 from by subst hw2; exact ((Below.refl _ _).alloc (Nat.le_refl _) _).alloc (by simp) _)
  have HW := Lib.hid hw2
  obtain ⟨c0, c1, c2⟩ := X0.three
  obtain ⟨d0, d1, d2⟩ := X1.three
  clear hw2 X0 X1
  go_enter Try.func22, Try.ntmps22
  go_wp2_with fail
  rw [HW.out, ← w2.drewN_zero]
  go_wp2_with (first | (refine wpList_cvU rfl 22 36 _ rfl (Option.isSome_iff_exists.2 ⟨_, Try.underlying22⟩) Try.underlying36 _ rfl _ ?_; intro _ _) | (refine upon_cvUp _ _ _ _ (Option.isSome_iff_exists.2 ⟨_, Try.underlying22⟩) Try.underlying36 ?_; intro _ _) | (go_at_call 25; refine (c_sameFloat _ _ _ _ _).mono ?_; rintro _ _ ⟨_, rfl, rfl⟩))
  go_ret
  exact ⟨rfl, below_drewN B0.out _⟩
/-! ### picDefs -/
def sideB (W H : Int) : Bool := decide (1 ≤ W) && decide (W ≤ 16) && (decide (1 ≤ H) && decide (H ≤ 16))
def finL (zs : List Nat) : Bool := zs.all (finB .f32)
def validB (W H : Int) (zs : List Nat) : Bool := sideB W H && decide ((zs.length : Int) = W * H) && finL zs
theorem sideB_true {W H : Int} (h : sideB W H = true) : (1 ≤ W ∧ W ≤ 16) ∧ 1 ≤ H ∧ H ≤ 16 := by simpa [sideB, and_assoc] using h
theorem side_mul {W H : Int} (h : sideB W H = true) : 1 ≤ W * H ∧ W * H ≤ 256 := by
  obtain ⟨⟨h1, h2⟩, h3, h4⟩ := sideB_true h
  have : W * H ≤ 16 * 16 := Int.mul_le_mul h2 h4 (by omega) (by omega)
  have h5 : 1 * 1 ≤ W * H := Int.mul_le_mul h1 h3 (by omega) (by omega)
  omega
theorem sideB_false {W H : Int} (h : sideB W H = false) : W < 1 ∨ 16 < W ∨ H < 1 ∨ 16 < H := by
  simp [sideB] at h; omega
theorem finL_snoc (zs : List Nat) (k : Nat) (hk : k < zs.length) : finL (zs.take (k + 1)) = (finL (zs.take k) && finB .f32 (fat zs k)) := by
  unfold finL fat
  rw [List.take_succ_eq_append_getElem hk, List.all_append, List.getD, List.getElem?_eq_getElem hk]; simp
theorem finL_of (zs : List Nat) (k : Nat) (hk : k < zs.length) (h : finB .f32 (fat zs k) = false) : finL zs = false := by
  unfold finL
  rw [List.all_eq_false]
  refine ⟨zs[k], List.getElem_mem hk, ?_⟩
  unfold fat at h
  rw [List.getD, List.getElem?_eq_getElem hk] at h
  simpa using h
theorem pick0 (k : FloatKind) (v : Nat) (hv : v < 2 ^ k.format.width) : ∃ n, v = pick k v n := pick_onto k v hv
/-! ### meanDefs -/
def meanV (zs : List Nat) : Nat := fop .quo .f32 (sumF .add .f32 0 zs) (floatOfInt .f32 (zs.length : Int))
def numR (v : Nat) : Nat × Bool := if finB .f32 v = true then (v, true) else (0, false)
def meanR (W H : Int) (zs : List Nat) : Nat × Bool := if validB W H zs = true then numR (meanV zs) else (0, false)
theorem mean_len {W H : Int} {zs : List Nat} (h : validB W H zs = true) : zs.length ≤ 256 := by
  simp only [validB, Bool.and_eq_true, decide_eq_true_eq] at h
  obtain ⟨⟨h1, h2⟩, h3⟩ := h
  have := side_mul h1
  omega
theorem pick00 : pick .f32 0 0 = 0 := pick_not (show isN .f32 0 = false from by decide +kernel) 0
/-! ### colDefs -/
def colB (r g b : Nat) : Bool := finB .f32 r && (finB .f32 g && finB .f32 b)
def greyV (r g b : Nat) : Nat := fop .add .f32 (fop .add .f32 (fop .mul .f32 1046066128 r) (fop .mul .f32 1060575065 g)) (fop .mul .f32 1033100696 b)
def greyR (r g b : Nat) : Nat × Bool := if colB r g b = true then numR (greyV r g b) else (0, false)
theorem retF1no {w : World} {e : Ending} {w' : World} (h : e = .returned (.tuple #[.float .f32 0, .bool false])) (hw : Below w.heap.size w w') : RetF1 (0, false) w e w' := ⟨0, by rw [h]; simp only [pick00], hw⟩
theorem fin3 (a b c n m l : Nat) : finL [pick .f32 a n, pick .f32 b m, pick .f32 c l] = colB a b c := by simp [finL, finB_pick, colB]
/-! ### wayDefs -/
def nzB (v : Nat) : Bool := FloatKind.f32.format.order v 0 != some .eq
def wayB (r g b : Nat) : Bool := colB r g b && (nzB r || (nzB g || nzB b))
/-! ### l01Finite -/
theorem c_l01Finite (v n : Nat) (w : World) (j : Nat) : Calls Try.prog 56 #[.float .f32 (pick .f32 v n)] (w.drewN j) (RetV (.bool (finB .f32 v)) w) := by
  go_enter Try.func56, Try.ntmps56
  go_wp2_with (first | (refine wpList_fop rfl _ _ _ _ _ rfl _ _ _ rfl rfl (by decide) _ ?_; intro _ _) | (refine upon_fop _ _ _ _ _ (by decide) ?_; intro _ _))
  go_ret
  rw [← sub_self_zero]
  exact ⟨_, rfl, rfl⟩
/-! ### l06Finite -/
theorem c_l06Finite (r n g m b k : Nat) (w : World) : Calls Try.prog 87 #[.agg #[.float .f32 (pick .f32 r n), .float .f32 (pick .f32 g m), .float .f32 (pick .f32 b k)]] w (RetB (.bool (colB r g b)) w) := by
  unfold colB
  generalize hw0 : w.alloc (Obj.cells #[.float .f32 (pick .f32 r n), .float .f32 (pick .f32 g m), .float .f32 (pick .f32 b k)] 26) = w0
  have X0 : Var w0 w.heap.size #[.float .f32 (pick .f32 r n), .float .f32 (pick .f32 g m), .float .f32 (pick .f32 b k)] := by subst hw0; exact Var.new _ _ _
  have X1 : Below w.heap.size w w0 := by subst hw0; exact (Below.refl _ _).alloc (Nat.le_refl _) _
  have SZ := Lib.hid (show w0.heap.size = w.heap.size + 1 from by subst hw0; simp)
  have HW := Lib.hid hw0
  have B0 := Lib.hid X1
  have V0 := Lib.hid X0
  obtain ⟨q0, q1, q2⟩ := X0.three
  clear hw0 X0 X1
  go_enter Try.func87, Try.ntmps87
  go_wp2_with fail
  rw [HW.out, ← w0.drewN_zero]
  go_wp2_with ((go_at_call 56; refine (c_l01Finite _ _ _ _).mono ?_; rintro _ _ ⟨_, rfl, rfl⟩))
  all_goals (go_ret; exact ⟨by simp [*], below_drewN B0.out _⟩)
/-! ### l06Is -/
theorem c_l06Is (r n g m b k : Nat) (w : World) : Calls Try.prog 45 #[.agg #[.float .f32 (pick .f32 r n), .float .f32 (pick .f32 g m), .float .f32 (pick .f32 b k)]] w (RetB (.bool (wayB r g b)) w) := by
  have CF := Lib.hid (fun w => c_l06Finite r n g m b k w)
  unfold wayB
  generalize colB r g b = q at *
  generalize hw0 : w.alloc (Obj.cells #[.float .f32 (pick .f32 r n), .float .f32 (pick .f32 g m), .float .f32 (pick .f32 b k)] 26) = w0
  have X0 : Var w0 w.heap.size #[.float .f32 (pick .f32 r n), .float .f32 (pick .f32 g m), .float .f32 (pick .f32 b k)] := by subst hw0; exact Var.new _ _ _
  have X1 : Below w.heap.size w w0 := by subst hw0; exact (Below.refl _ _).alloc (Nat.le_refl _) _
  have SZ := Lib.hid (show w0.heap.size = w.heap.size + 1 from by subst hw0; simp)
  have HW := Lib.hid hw0
  have B0 := Lib.hid X1
  have V0 := Lib.hid X0
  obtain ⟨q0, q1, q2⟩ := X0.three
  clear hw0 X0 X1
  unfold nzB
  cases h1 : (FloatKind.f32.format.order r 0 != some .eq) <;> cases h2 : (FloatKind.f32.format.order g 0 != some .eq) <;> cases h3 : (FloatKind.f32.format.order b 0 != some .eq) <;> cases q
  all_goals
    go_enter Try.func45, Try.ntmps45
    go_wp2_with fail
    rw [HW.out]
    go_wp2_with fail
    refine (CF.out _).mono ?_
    rintro _ w1 ⟨rfl, b1⟩
    have B1 := Lib.hid (B0.out.trans (b1.mono B0.out.size))
    have V1 := Lib.hid (V0.out.keep b1)
    clear b1 q0 q1 q2
    obtain ⟨q0, q1, q2⟩ := V1.out.three
    go_wp2_with fail
    go_ret
    exact ⟨rfl, B1.out⟩
/-! ### mulInf -/
theorem inf_notfin (s : Bool) : finB .f32 (FloatKind.f32.format.write (.infinity s)) = false := by cases s <;> decide +kernel
theorem rung_split {v : Nat} (h : finB .f32 v = false) (hn : isN .f32 v = false) : FloatKind.f32.format.read v = .infinity (sgn FloatKind.f32.format v) := by
  have h1 : ¬ rung FloatKind.f32.format v < FloatKind.f32.format.infRung := of_decide_eq_false h
  have h2 := isN_rung' .f32 v
  rw [hn] at h2
  have h3 := of_decide_eq_false h2.symm
  exact read_inf .f32 v (by omega)
/-- A product with a factor that isn't finite isn't finite. -/
theorem mul_notfin (x : Nat) {v : Nat} (hv : finB .f32 v = false) : finB .f32 (fop .mul .f32 x v) = false := by
  cases h : isN .f32 v
  · have h3 := rung_split hv h
    cases hx : isN .f32 x
    · cases hf : finB .f32 x
      · have h4 := rung_split hf hx
        have e : fop .mul .f32 x v = FloatKind.f32.format.write (.infinity (sgn FloatKind.f32.format x ^^ sgn FloatKind.f32.format v)) := by
          unfold fop floatBits Ieee.Format.mul
          simp only [h3, h4, Ieee.Datum.product]
          rfl
        rw [e]; exact inf_notfin _
      · obtain ⟨m, e, h4, _, _⟩ := read_fin FloatKind.f32.format x (of_decide_eq_true hf)
        by_cases hm : m = 0
        · have e : fop .mul .f32 x v = qn .f32 := by
            unfold fop floatBits Ieee.Format.mul
            simp only [h3, h4, Ieee.Datum.product, hm, if_true]
            rfl
          rw [e]; exact finB_nan (isN_qn .f32)
        · have e : fop .mul .f32 x v = FloatKind.f32.format.write (.infinity (sgn FloatKind.f32.format v ^^ sgn FloatKind.f32.format x)) := by
            unfold fop floatBits Ieee.Format.mul
            simp only [h3, h4, Ieee.Datum.product, hm, if_false]
            rfl
          rw [e]; exact inf_notfin _
    · exact finB_nan (isN_fop_l v hx)
  · exact finB_nan (isN_fop_r x h)

/-! ### wayFacts -/
theorem quo_inf {x v : Nat} (hx : finB .f32 x = true) (hv : finB .f32 v = false) (hn : isN .f32 v = false) : nzB (fop .quo .f32 x v) = false := by
  have h3 := rung_split hv hn
  obtain ⟨m, e, h4, _, _⟩ := read_fin FloatKind.f32.format x (of_decide_eq_true hx)
  have e : fop .quo .f32 x v = FloatKind.f32.format.write (.number (sgn FloatKind.f32.format x ^^ sgn FloatKind.f32.format v) 0 0) := by
    unfold fop floatBits Ieee.Format.div
    simp only [h3, h4, Ieee.Datum.quotient]
    rfl
  rw [e]
  generalize (sgn FloatKind.f32.format x ^^ sgn FloatKind.f32.format v) = s
  cases s <;> decide +kernel
def rootV (v : Nat) : Nat := cvN (fsqrt (cvU v))
theorem root_notfin {v : Nat} (h : finB .f32 v = false) : finB .f32 (rootV v) = false := by
  unfold rootV
  cases hn : isN .f32 v
  · have h1 : ¬ rung FloatKind.f32.format v < FloatKind.f32.format.infRung := of_decide_eq_false h
    have h2 := isN_rung' .f32 v
    rw [hn] at h2
    have h3 := of_decide_eq_false h2.symm
    have h4 : rung Ieee.single v = Ieee.single.infRung := by
      have : rung FloatKind.f32.format v = FloatKind.f32.format.infRung := by omega
      exact this
    have h5 : cvU v = Ieee.double.word (sgn Ieee.single v) Ieee.double.infRung := by unfold cvU; rw [cvU_inf h4]; rfl
    rw [h5]
    generalize sgn Ieee.single v = s
    cases s <;> decide +kernel
  · rw [cvU_qn hn]; decide +kernel
def t0 : (Nat × Nat × Nat) × Bool := ((0, 0, 0), false)
def giveW (t : Nat × Nat × Nat) : (Nat × Nat × Nat) × Bool := if wayB t.1 t.2.1 t.2.2 = true then (t, true) else t0
theorem unit_no {x y z r : Nat} (hx : finB .f32 x = true) (hy : finB .f32 y = true) (hz : finB .f32 z = true) (hr : finB .f32 r = false) : wayB (fop .quo .f32 x r) (fop .quo .f32 y r) (fop .quo .f32 z r) = false := by
  unfold wayB
  cases hn : isN .f32 r
  · rw [quo_inf hx hr hn, quo_inf hy hr hn, quo_inf hz hr hn]; simp
  · have : colB (fop .quo .f32 x r) (fop .quo .f32 y r) (fop .quo .f32 z r) = false := by
      unfold colB; rw [finB_nan (isN_fop_r x hn)]; rfl
    rw [this]; rfl
def innV (x y z a b c : Nat) : Nat := fop .add .f32 (fop .add .f32 (fop .mul .f32 x a) (fop .mul .f32 y b)) (fop .mul .f32 z c)
def unitT (x y z r : Nat) : Nat × Nat × Nat := (fop .quo .f32 x r, fop .quo .f32 y r, fop .quo .f32 z r)
def unitW (x y z : Nat) : (Nat × Nat × Nat) × Bool := if wayB x y z = true then giveW (unitT x y z (rootV (innV x y z x y z))) else t0
theorem unitW_no {x y z : Nat} (h : wayB x y z = false ∨ finB .f32 (innV x y z x y z) = false) : unitW x y z = t0 := by
  unfold unitW
  cases hw : wayB x y z
  · rfl
  · rcases h with h | h
    · rw [h] at hw; cases hw
    · rw [if_pos rfl]
      have hc : colB x y z = true := by unfold wayB at hw; rw [Bool.and_eq_true] at hw; exact hw.1
      unfold colB at hc
      simp only [Bool.and_eq_true] at hc
      have := unit_no hc.1 hc.2.1 hc.2.2 (root_notfin h)
      unfold giveW unitT
      rw [this]; rfl
def innR (x y z a b c : Nat) : Nat × Bool := if (wayB x y z && wayB a b c) = true then numR (innV x y z a b c) else (0, false)
/-! ### way2Defs -/
def WayB2 (t : (Nat × Nat × Nat) × Bool) (w : World) (e : Ending) (w' : World) : Prop := ∃ n m k, e = .returned (.tuple #[.agg #[.float .f32 (pick .f32 t.1.1 n), .float .f32 (pick .f32 t.1.2.1 m), .float .f32 (pick .f32 t.1.2.2 k)], .bool t.2]) ∧ Below w.heap.size w w'
def WayR (t : Nat × Nat × Nat) (w : World) (e : Ending) (w' : World) : Prop := ∃ n m k, e = .returned (.agg #[.float .f32 (pick .f32 t.1 n), .float .f32 (pick .f32 t.2.1 m), .float .f32 (pick .f32 t.2.2 k)]) ∧ Below w.heap.size w w'
theorem WayB2.no {w : World} {e : Ending} {w' : World} (h : e = .returned (.tuple #[.agg #[.float .f32 0, .float .f32 0, .float .f32 0], .bool false])) (b : Below w.heap.size w w') : WayB2 t0 w e w' := ⟨0, 0, 0, by rw [h]; simp only [t0, pick00], b⟩
def RetN (v : Nat) (w : World) (e : Ending) (w' : World) : Prop := ∃ n, e = .returned (.float .f32 (pick .f32 v n)) ∧ Below w.heap.size w w'
theorem giveW_lt_no {r g b : Nat} (h : wayB r g b = false) : giveW (r, g, b) = t0 := by unfold giveW; rw [h]; rfl
theorem giveW_yes {r g b : Nat} (h : wayB r g b = true) : giveW (r, g, b) = ((r, g, b), true) := by unfold giveW; rw [h]; rfl
/-! ### matDefs -/
def fin9 (z : List Nat) : Bool := finB .f32 (fat z 0) && finB .f32 (fat z 1) && finB .f32 (fat z 2) && finB .f32 (fat z 3) && finB .f32 (fat z 4) && finB .f32 (fat z 5) && finB .f32 (fat z 6) && finB .f32 (fat z 7) && finB .f32 (fat z 8)
def matB (zs : List Nat) : Bool := decide (zs.length = 9) && finL zs
theorem fin9_eq {zs : List Nat} (h : zs.length = 9) : fin9 zs = finL zs := by
  obtain ⟨a0, a1, a2, a3, a4, a5, a6, a7, a8, rfl⟩ : ∃ a0 a1 a2 a3 a4 a5 a6 a7 a8, zs = [a0, a1, a2, a3, a4, a5, a6, a7, a8] := by
    match zs, h with
    | [a0, a1, a2, a3, a4, a5, a6, a7, a8], _ => exact ⟨a0, a1, a2, a3, a4, a5, a6, a7, a8, rfl⟩
  simp [fin9, finL, fat, Bool.and_assoc]
/-! ### listDefs -/
/-- Of a new list of floats and a bool. -/
def RetL (T : TypeId) (r : List Nat × Bool) (w : World) (e : Ending) (w' : World) : Prop :=
  ∃ a cap, e = .returned (.tuple #[.slice a r.1.length cap, .bool r.2]) ∧ r.1.length ≤ 1048576 ∧ Below w.heap.size w w' ∧ Own T w' w.heap.size a r.1.length cap r.1
def TupL (T : TypeId) (B : Nat) (r : List Nat × Bool) (u : Value) (w : World) : Prop := ∃ a c, u = .tuple #[.slice a r.1.length c, .bool r.2] ∧ r.1.length ≤ 1048576 ∧ Own T w B a r.1.length c r.1
def SlcL (T : TypeId) (B : Nat) (r : List Nat × Bool) (u : Value) (w : World) : Prop := ∃ a c, u = .slice a r.1.length c ∧ r.1.length ≤ 1048576 ∧ Own T w B a r.1.length c r.1
def BooL (r : List Nat × Bool) (u : Value) : Prop := ∃ x : Bool, u = .bool x ∧ x = r.2
theorem RetL.no {T : TypeId} {w : World} {e : Ending} {w' : World} (h : e = .returned (.tuple #[.slice none 0 0, .bool false])) (b : Below w.heap.size w w') : RetL T ([], false) w e w' :=
  ⟨none, 0, h, Nat.zero_le _, b, Own.nil _ _ _⟩
/-! ### backDefs -/
def listR (l : List Nat) : List Nat × Bool := if finL l = true then (l, true) else ([], false)
def lessV (a b c d : Nat) : Nat := fop .sub .f32 (fop .mul .f32 a b) (fop .mul .f32 c d)
def backS (p q r a b c : Nat) : Nat := fop .add .f32 (fop .add .f32 (fop .mul .f32 a p) (fop .mul .f32 b q)) (fop .mul .f32 c r)
theorem own_new9 {T : TypeId} {w : World} {B g : Nat} {zs : List Nat} (hg : g = w.heap.size) (hB : B ≤ g) (hl : zs.length ≤ 1000) (hw : ∀ b ∈ zs, (Lit.float .f32 b).wf = true) : Own T (w.alloc (.cells (fl .f32 zs).toArray T)) B (some ⟨g, 0, none⟩) zs.length zs.length zs := by
  subst hg
  refine ⟨rfl, ⟨by simp [fl], .inr ⟨_, _, (fl .f32 zs).toArray, rfl, hB, heap_alloc_new w _, Nat.le_refl _, by unfold maxLen; omega, by simp [fl], by simp [fl, List.take_of_length_le]⟩⟩, hw⟩
theorem wf_lt {v : Nat} (h : v < 2 ^ FloatKind.f32.format.width) : (Lit.float .f32 v).wf = true := by
  have := pick_wf h 0
  cases hn : isN .f32 v
  · rwa [pick_not hn] at this
  · have hw : (2 : Nat) ^ FloatKind.f32.format.width = 4294967296 := by decide +kernel
    rw [hw] at h
    simp [Lit.wf, h]
/-! ### sineFacts -/
theorem fin_small {v : Nat} (h : finB .f32 v = true) (hb : decide (4841369599423283200 ≤ rung Ieee.double (cvU v)) = false) :
    isN .f64 (cvU v) = false ∧ floatToIntVal .f64 (cvU v) .i64 = some (ti (cvU v)) ∧ Bd .f64 1184 (sinF (cvU v)) := by
  have h1 : rung Ieee.single v < Ieee.single.infRung := of_decide_eq_true h
  have h2 : isN .f32 v = false := notN_fin (k := .f32) h1
  obtain ⟨_, c2, _, c4, _, _⟩ := cvU_spec h2
  have h3 := c4.2 h1
  have h4 := whole_small (v := cvU v) (by have := of_decide_eq_false hb; omega)
  exact ⟨c2, toInt64 h3 h4, sinF_bd (partF_bd h3 h4)⟩
theorem Fits_sin {v : Nat} (h : Bd .f64 1184 v) : Fits v := Fits_of_Bd (Bd_mono h (by decide))
theorem raw_nan {b : Nat} (h1 : isN .f64 b = true) (h2 : b < 2 ^ FloatKind.f64.format.width) : ∃ n, b = pick .f64 (qn .f64) n := by
  obtain ⟨n, e⟩ := nanOf_onto .f64 b h2 h1
  exact ⟨n, by rw [e]; simp [pick, isN_qn]⟩
def sineT (v : Nat) : Nat := if finB .f32 v = true then (if decide (4841369599423283200 ≤ rung Ieee.double (cvU v)) = true then 0 else cvN (sinF (cvU v))) else qn .f32
/-! ### turnDefs6 -/
def cosT (v : Nat) : Nat := sineT (fop .add .f32 v 1048576000)
def sumV (s x c y : Nat) : Nat := fop .add .f32 (fop .mul .f32 s x) (fop .mul .f32 c y)
def turT (x y z c s : Nat) : Nat × Nat × Nat := (lessV c x s y, sumV s x c y, z)
def tilT (x y z c s : Nat) : Nat × Nat × Nat := (x, lessV c y s z, sumV s y c z)
def turnW (x y z t : Nat) : (Nat × Nat × Nat) × Bool := if (wayB x y z && finB .f32 t) = true then giveW (turT x y z (cosT t) (sineT t)) else t0
def tiltW (x y z t : Nat) : (Nat × Nat × Nat) × Bool := if (wayB x y z && finB .f32 t) = true then giveW (tilT x y z (cosT t) (sineT t)) else t0
theorem turnW_no {x y z t : Nat} (h : wayB x y z = false ∨ finB .f32 t = false) : turnW x y z t = t0 ∧ tiltW x y z t = t0 := by
  unfold turnW tiltW
  rcases h with h | h <;> rw [h] <;> simp
/-! ### l01SineWide -/
theorem c_l01SineWide_fff (v f : Nat) (w : World) (j : Nat) (Hti : Hid (floatToIntVal .f64 v .i64 = some (ti v))) (Hf : Hid (partF v = f))
    (hs : (FloatKind.f64.format.order (fop .sub .f64 v v) 0 != some .eq) = false)
    (h1 : (FloatKind.f64.format.order v 4841369599423283200 == some .gt || FloatKind.f64.format.order v 4841369599423283200 == some .eq) = false)
    (h2 : (FloatKind.f64.format.order v 14064741636278059008 == some .lt || FloatKind.f64.format.order v 14064741636278059008 == some .eq) = false)
    {j2 : Nat} (hnan : isN .f64 v = false) (hf : fop .sub .f64 v (floatOfInt .f64 (ti v)) = f) (hlt : (FloatKind.f64.format.order f 0 == some .lt) = false)
    (hb : (FloatKind.f64.format.order f 4602678819172646912 == some .gt || FloatKind.f64.format.order f 4602678819172646912 == some .eq) = false)
    (hq : (FloatKind.f64.format.order f 4598175219545276416 == some .gt) = false) : Calls Try.prog 94 #[.float .f64 (pick .f64 v j2)] (w.drewN j) (RetF .f64 (sinF v) w) := by
  have HF : Hid (sinF v = (sinZ (fop .mul .f64 f 4618760256179416344))) := by
    unfold Hid sinF lowB fold2 half64 quarter64 twopi64; rw [Hf.out, hb]; simp only [if_true, if_false, Bool.false_eq_true, hq]
  rw [pick_not hnan]
  go_enter Try.func94, Try.ntmps94
  go_wp2_with (first | (first | (refine wpList_fop rfl _ _ _ _ _ rfl _ _ _ rfl rfl (by decide) _ ?_; intro _ _) | (refine upon_fop _ _ _ _ _ (by decide) ?_; intro _ _)) | (refine wpList_ftoi rfl 36 2 _ rfl (Option.isSome_iff_exists.2 ⟨_, Try.underlying36⟩) .i64 Try.underlying2 _ _ rfl (by exact Hti.out) ?_) | go_in)
  generalize hu : fop .mul .f64 (fop .mul .f64 f 4618760256179416344) (fop .mul .f64 f 4618760256179416344) = u
  have Hu := Lib.hid hu
  clear hu
  go_loopw [7, 8] (fun p k wr => ∃ (i n m : Nat) (kI : Int), i ≤ 8 ∧ Hid (kI = 8 - (i : Int)) ∧ p = .float .f64 (pick .f64 (ser u i) n) ∧ k = .int .i64 kI ∧ wr = w.drewN m) (fun _ k _ => (intOf k).toNat)
  case atStart => exact ⟨0, 0, _, 8, by omega, rfl, by rw [pick_not (show isN .f64 (ser u 0) = false from (by decide +kernel : isN .f64 one64 = false))]; rfl, rfl, rfl⟩
  case round =>
    obtain ⟨i, n, m, kI, hi, HK, rfl, rfl, rfl⟩ := hrel
    by_cases hlt8 : i < 8
    · have b1 : 1 ≤ kI := by have := HK.out; omega
      have b2 : kI ≤ 8 := by have := HK.out; omega
      have b3 : 0 ≤ 2 * kI * (2 * kI + 1) := Int.mul_nonneg (by omega) (by omega)
      have b4 : 2 * kI * (2 * kI + 1) ≤ 272 := Int.le_trans (Int.mul_le_mul (show 2 * kI ≤ 16 by omega) (show 2 * kI + 1 ≤ 17 by omega) (by omega) (by omega)) (by decide)
      have HD : Hid (den i = floatOfInt .f64 (2 * kI * (2 * kI + 1))) := by unfold Hid; rw [HK.out]; exact den_int i hlt8
      go_wp2_with (first | (refine wpList_fop rfl _ _ _ _ _ rfl _ _ _ rfl rfl (by decide) _ ?_; intro _ _) | (refine upon_fop _ _ _ _ _ (by decide) ?_; intro _ _))
      go_roundw
      case rel => exact ⟨i + 1, _, _, kI - 1, by omega, by have := HK.out; unfold Hid; omega, by rw [ser_step, HD.out]; rfl, rfl, rfl⟩
      case measure => simp [intOf]; omega
    · obtain rfl : i = 8 := by omega
      have b1 : kI < 1 := by have := HK.out; omega
      have b2 : 0 ≤ kI := by have := HK.out; omega
      go_wp2_with (first | (refine wpList_fop rfl _ _ _ _ _ rfl _ _ _ rfl rfl (by decide) _ ?_; intro _ _) | (refine upon_fop _ _ _ _ _ (by decide) ?_; intro _ _))
      go_ret
      rw [HF.out]
      unfold sinZ
      rw [Hu.out]
      exact ⟨_, _, rfl, rfl⟩
theorem c_l01SineWide_fft (v f : Nat) (w : World) (j : Nat) (Hti : Hid (floatToIntVal .f64 v .i64 = some (ti v))) (Hf : Hid (partF v = f))
    (hs : (FloatKind.f64.format.order (fop .sub .f64 v v) 0 != some .eq) = false)
    (h1 : (FloatKind.f64.format.order v 4841369599423283200 == some .gt || FloatKind.f64.format.order v 4841369599423283200 == some .eq) = false)
    (h2 : (FloatKind.f64.format.order v 14064741636278059008 == some .lt || FloatKind.f64.format.order v 14064741636278059008 == some .eq) = false)
    {j2 : Nat} (hnan : isN .f64 v = false) (hf : fop .sub .f64 v (floatOfInt .f64 (ti v)) = f) (hlt : (FloatKind.f64.format.order f 0 == some .lt) = false)
    (hb : (FloatKind.f64.format.order f 4602678819172646912 == some .gt || FloatKind.f64.format.order f 4602678819172646912 == some .eq) = false)
    (hq : (FloatKind.f64.format.order f 4598175219545276416 == some .gt) = true) : Calls Try.prog 94 #[.float .f64 (pick .f64 v j2)] (w.drewN j) (RetF .f64 (sinF v) w) := by
  have HF : Hid (sinF v = (sinZ (fop .mul .f64 (fop .sub .f64 4602678819172646912 f) 4618760256179416344))) := by
    unfold Hid sinF lowB fold2 half64 quarter64 twopi64; rw [Hf.out, hb]; simp only [if_true, if_false, Bool.false_eq_true, hq]
  rw [pick_not hnan]
  go_enter Try.func94, Try.ntmps94
  go_wp2_with (first | (first | (refine wpList_fop rfl _ _ _ _ _ rfl _ _ _ rfl rfl (by decide) _ ?_; intro _ _) | (refine upon_fop _ _ _ _ _ (by decide) ?_; intro _ _)) | (refine wpList_ftoi rfl 36 2 _ rfl (Option.isSome_iff_exists.2 ⟨_, Try.underlying36⟩) .i64 Try.underlying2 _ _ rfl (by exact Hti.out) ?_) | go_in)
  generalize hu : fop .mul .f64 (fop .mul .f64 (fop .sub .f64 4602678819172646912 f) 4618760256179416344) (fop .mul .f64 (fop .sub .f64 4602678819172646912 f) 4618760256179416344) = u
  have Hu := Lib.hid hu
  clear hu
  go_loopw [7, 8] (fun p k wr => ∃ (i n m : Nat) (kI : Int), i ≤ 8 ∧ Hid (kI = 8 - (i : Int)) ∧ p = .float .f64 (pick .f64 (ser u i) n) ∧ k = .int .i64 kI ∧ wr = w.drewN m) (fun _ k _ => (intOf k).toNat)
  case atStart => exact ⟨0, 0, _, 8, by omega, rfl, by rw [pick_not (show isN .f64 (ser u 0) = false from (by decide +kernel : isN .f64 one64 = false))]; rfl, rfl, rfl⟩
  case round =>
    obtain ⟨i, n, m, kI, hi, HK, rfl, rfl, rfl⟩ := hrel
    by_cases hlt8 : i < 8
    · have b1 : 1 ≤ kI := by have := HK.out; omega
      have b2 : kI ≤ 8 := by have := HK.out; omega
      have b3 : 0 ≤ 2 * kI * (2 * kI + 1) := Int.mul_nonneg (by omega) (by omega)
      have b4 : 2 * kI * (2 * kI + 1) ≤ 272 := Int.le_trans (Int.mul_le_mul (show 2 * kI ≤ 16 by omega) (show 2 * kI + 1 ≤ 17 by omega) (by omega) (by omega)) (by decide)
      have HD : Hid (den i = floatOfInt .f64 (2 * kI * (2 * kI + 1))) := by unfold Hid; rw [HK.out]; exact den_int i hlt8
      go_wp2_with (first | (refine wpList_fop rfl _ _ _ _ _ rfl _ _ _ rfl rfl (by decide) _ ?_; intro _ _) | (refine upon_fop _ _ _ _ _ (by decide) ?_; intro _ _))
      go_roundw
      case rel => exact ⟨i + 1, _, _, kI - 1, by omega, by have := HK.out; unfold Hid; omega, by rw [ser_step, HD.out]; rfl, rfl, rfl⟩
      case measure => simp [intOf]; omega
    · obtain rfl : i = 8 := by omega
      have b1 : kI < 1 := by have := HK.out; omega
      have b2 : 0 ≤ kI := by have := HK.out; omega
      go_wp2_with (first | (refine wpList_fop rfl _ _ _ _ _ rfl _ _ _ rfl rfl (by decide) _ ?_; intro _ _) | (refine upon_fop _ _ _ _ _ (by decide) ?_; intro _ _))
      go_ret
      rw [HF.out]
      unfold sinZ
      rw [Hu.out]
      exact ⟨_, _, rfl, rfl⟩
theorem c_l01SineWide_ftf (v f : Nat) (w : World) (j : Nat) (Hti : Hid (floatToIntVal .f64 v .i64 = some (ti v))) (Hf : Hid (partF v = f))
    (hs : (FloatKind.f64.format.order (fop .sub .f64 v v) 0 != some .eq) = false)
    (h1 : (FloatKind.f64.format.order v 4841369599423283200 == some .gt || FloatKind.f64.format.order v 4841369599423283200 == some .eq) = false)
    (h2 : (FloatKind.f64.format.order v 14064741636278059008 == some .lt || FloatKind.f64.format.order v 14064741636278059008 == some .eq) = false)
    {j2 : Nat} (hnan : isN .f64 v = false) (hf : fop .sub .f64 v (floatOfInt .f64 (ti v)) = f) (hlt : (FloatKind.f64.format.order f 0 == some .lt) = false)
    (hb : (FloatKind.f64.format.order f 4602678819172646912 == some .gt || FloatKind.f64.format.order f 4602678819172646912 == some .eq) = true)
    (hq : (FloatKind.f64.format.order (fop .sub .f64 f 4602678819172646912) 4598175219545276416 == some .gt) = false) : Calls Try.prog 94 #[.float .f64 (pick .f64 v j2)] (w.drewN j) (RetF .f64 (sinF v) w) := by
  have HF : Hid (sinF v = fneg .f64 (sinZ (fop .mul .f64 (fop .sub .f64 f 4602678819172646912) 4618760256179416344))) := by
    unfold Hid sinF lowB fold2 half64 quarter64 twopi64; rw [Hf.out, hb]; simp only [if_true, if_false, Bool.false_eq_true, hq]
  rw [pick_not hnan]
  go_enter Try.func94, Try.ntmps94
  go_wp2_with (first | (first | (refine wpList_fop rfl _ _ _ _ _ rfl _ _ _ rfl rfl (by decide) _ ?_; intro _ _) | (refine upon_fop _ _ _ _ _ (by decide) ?_; intro _ _)) | (refine wpList_ftoi rfl 36 2 _ rfl (Option.isSome_iff_exists.2 ⟨_, Try.underlying36⟩) .i64 Try.underlying2 _ _ rfl (by exact Hti.out) ?_) | go_in)
  generalize hu : fop .mul .f64 (fop .mul .f64 (fop .sub .f64 f 4602678819172646912) 4618760256179416344) (fop .mul .f64 (fop .sub .f64 f 4602678819172646912) 4618760256179416344) = u
  have Hu := Lib.hid hu
  clear hu
  go_loopw [7, 8] (fun p k wr => ∃ (i n m : Nat) (kI : Int), i ≤ 8 ∧ Hid (kI = 8 - (i : Int)) ∧ p = .float .f64 (pick .f64 (ser u i) n) ∧ k = .int .i64 kI ∧ wr = w.drewN m) (fun _ k _ => (intOf k).toNat)
  case atStart => exact ⟨0, 0, _, 8, by omega, rfl, by rw [pick_not (show isN .f64 (ser u 0) = false from (by decide +kernel : isN .f64 one64 = false))]; rfl, rfl, rfl⟩
  case round =>
    obtain ⟨i, n, m, kI, hi, HK, rfl, rfl, rfl⟩ := hrel
    by_cases hlt8 : i < 8
    · have b1 : 1 ≤ kI := by have := HK.out; omega
      have b2 : kI ≤ 8 := by have := HK.out; omega
      have b3 : 0 ≤ 2 * kI * (2 * kI + 1) := Int.mul_nonneg (by omega) (by omega)
      have b4 : 2 * kI * (2 * kI + 1) ≤ 272 := Int.le_trans (Int.mul_le_mul (show 2 * kI ≤ 16 by omega) (show 2 * kI + 1 ≤ 17 by omega) (by omega) (by omega)) (by decide)
      have HD : Hid (den i = floatOfInt .f64 (2 * kI * (2 * kI + 1))) := by unfold Hid; rw [HK.out]; exact den_int i hlt8
      go_wp2_with (first | (refine wpList_fop rfl _ _ _ _ _ rfl _ _ _ rfl rfl (by decide) _ ?_; intro _ _) | (refine upon_fop _ _ _ _ _ (by decide) ?_; intro _ _))
      go_roundw
      case rel => exact ⟨i + 1, _, _, kI - 1, by omega, by have := HK.out; unfold Hid; omega, by rw [ser_step, HD.out]; rfl, rfl, rfl⟩
      case measure => simp [intOf]; omega
    · obtain rfl : i = 8 := by omega
      have b1 : kI < 1 := by have := HK.out; omega
      have b2 : 0 ≤ kI := by have := HK.out; omega
      go_wp2_with (first | (refine wpList_fop rfl _ _ _ _ _ rfl _ _ _ rfl rfl (by decide) _ ?_; intro _ _) | (refine upon_fop _ _ _ _ _ (by decide) ?_; intro _ _))
      go_ret
      rw [HF.out]
      unfold sinZ
      rw [Hu.out]
      exact ⟨_, _, rfl, rfl⟩
theorem c_l01SineWide_ftt (v f : Nat) (w : World) (j : Nat) (Hti : Hid (floatToIntVal .f64 v .i64 = some (ti v))) (Hf : Hid (partF v = f))
    (hs : (FloatKind.f64.format.order (fop .sub .f64 v v) 0 != some .eq) = false)
    (h1 : (FloatKind.f64.format.order v 4841369599423283200 == some .gt || FloatKind.f64.format.order v 4841369599423283200 == some .eq) = false)
    (h2 : (FloatKind.f64.format.order v 14064741636278059008 == some .lt || FloatKind.f64.format.order v 14064741636278059008 == some .eq) = false)
    {j2 : Nat} (hnan : isN .f64 v = false) (hf : fop .sub .f64 v (floatOfInt .f64 (ti v)) = f) (hlt : (FloatKind.f64.format.order f 0 == some .lt) = false)
    (hb : (FloatKind.f64.format.order f 4602678819172646912 == some .gt || FloatKind.f64.format.order f 4602678819172646912 == some .eq) = true)
    (hq : (FloatKind.f64.format.order (fop .sub .f64 f 4602678819172646912) 4598175219545276416 == some .gt) = true) : Calls Try.prog 94 #[.float .f64 (pick .f64 v j2)] (w.drewN j) (RetF .f64 (sinF v) w) := by
  have HF : Hid (sinF v = fneg .f64 (sinZ (fop .mul .f64 (fop .sub .f64 4602678819172646912 (fop .sub .f64 f 4602678819172646912)) 4618760256179416344))) := by
    unfold Hid sinF lowB fold2 half64 quarter64 twopi64; rw [Hf.out, hb]; simp only [if_true, if_false, Bool.false_eq_true, hq]
  rw [pick_not hnan]
  go_enter Try.func94, Try.ntmps94
  go_wp2_with (first | (first | (refine wpList_fop rfl _ _ _ _ _ rfl _ _ _ rfl rfl (by decide) _ ?_; intro _ _) | (refine upon_fop _ _ _ _ _ (by decide) ?_; intro _ _)) | (refine wpList_ftoi rfl 36 2 _ rfl (Option.isSome_iff_exists.2 ⟨_, Try.underlying36⟩) .i64 Try.underlying2 _ _ rfl (by exact Hti.out) ?_) | go_in)
  generalize hu : fop .mul .f64 (fop .mul .f64 (fop .sub .f64 4602678819172646912 (fop .sub .f64 f 4602678819172646912)) 4618760256179416344) (fop .mul .f64 (fop .sub .f64 4602678819172646912 (fop .sub .f64 f 4602678819172646912)) 4618760256179416344) = u
  have Hu := Lib.hid hu
  clear hu
  go_loopw [7, 8] (fun p k wr => ∃ (i n m : Nat) (kI : Int), i ≤ 8 ∧ Hid (kI = 8 - (i : Int)) ∧ p = .float .f64 (pick .f64 (ser u i) n) ∧ k = .int .i64 kI ∧ wr = w.drewN m) (fun _ k _ => (intOf k).toNat)
  case atStart => exact ⟨0, 0, _, 8, by omega, rfl, by rw [pick_not (show isN .f64 (ser u 0) = false from (by decide +kernel : isN .f64 one64 = false))]; rfl, rfl, rfl⟩
  case round =>
    obtain ⟨i, n, m, kI, hi, HK, rfl, rfl, rfl⟩ := hrel
    by_cases hlt8 : i < 8
    · have b1 : 1 ≤ kI := by have := HK.out; omega
      have b2 : kI ≤ 8 := by have := HK.out; omega
      have b3 : 0 ≤ 2 * kI * (2 * kI + 1) := Int.mul_nonneg (by omega) (by omega)
      have b4 : 2 * kI * (2 * kI + 1) ≤ 272 := Int.le_trans (Int.mul_le_mul (show 2 * kI ≤ 16 by omega) (show 2 * kI + 1 ≤ 17 by omega) (by omega) (by omega)) (by decide)
      have HD : Hid (den i = floatOfInt .f64 (2 * kI * (2 * kI + 1))) := by unfold Hid; rw [HK.out]; exact den_int i hlt8
      go_wp2_with (first | (refine wpList_fop rfl _ _ _ _ _ rfl _ _ _ rfl rfl (by decide) _ ?_; intro _ _) | (refine upon_fop _ _ _ _ _ (by decide) ?_; intro _ _))
      go_roundw
      case rel => exact ⟨i + 1, _, _, kI - 1, by omega, by have := HK.out; unfold Hid; omega, by rw [ser_step, HD.out]; rfl, rfl, rfl⟩
      case measure => simp [intOf]; omega
    · obtain rfl : i = 8 := by omega
      have b1 : kI < 1 := by have := HK.out; omega
      have b2 : 0 ≤ kI := by have := HK.out; omega
      go_wp2_with (first | (refine wpList_fop rfl _ _ _ _ _ rfl _ _ _ rfl rfl (by decide) _ ?_; intro _ _) | (refine upon_fop _ _ _ _ _ (by decide) ?_; intro _ _))
      go_ret
      rw [HF.out]
      unfold sinZ
      rw [Hu.out]
      exact ⟨_, _, rfl, rfl⟩
theorem c_l01SineWide_tff (v f : Nat) (w : World) (j : Nat) (Hti : Hid (floatToIntVal .f64 v .i64 = some (ti v))) (Hf : Hid (partF v = f))
    (hs : (FloatKind.f64.format.order (fop .sub .f64 v v) 0 != some .eq) = false)
    (h1 : (FloatKind.f64.format.order v 4841369599423283200 == some .gt || FloatKind.f64.format.order v 4841369599423283200 == some .eq) = false)
    (h2 : (FloatKind.f64.format.order v 14064741636278059008 == some .lt || FloatKind.f64.format.order v 14064741636278059008 == some .eq) = false)
    {j2 : Nat} (hnan : isN .f64 v = false) (hf : fop .add .f64 (fop .sub .f64 v (floatOfInt .f64 (ti v))) 4607182418800017408 = f) (hlt : (FloatKind.f64.format.order (fop .sub .f64 v (floatOfInt .f64 (ti v))) 0 == some .lt) = true)
    (hb : (FloatKind.f64.format.order f 4602678819172646912 == some .gt || FloatKind.f64.format.order f 4602678819172646912 == some .eq) = false)
    (hq : (FloatKind.f64.format.order f 4598175219545276416 == some .gt) = false) : Calls Try.prog 94 #[.float .f64 (pick .f64 v j2)] (w.drewN j) (RetF .f64 (sinF v) w) := by
  have HF : Hid (sinF v = (sinZ (fop .mul .f64 f 4618760256179416344))) := by
    unfold Hid sinF lowB fold2 half64 quarter64 twopi64; rw [Hf.out, hb]; simp only [if_true, if_false, Bool.false_eq_true, hq]
  rw [pick_not hnan]
  go_enter Try.func94, Try.ntmps94
  go_wp2_with (first | (first | (refine wpList_fop rfl _ _ _ _ _ rfl _ _ _ rfl rfl (by decide) _ ?_; intro _ _) | (refine upon_fop _ _ _ _ _ (by decide) ?_; intro _ _)) | (refine wpList_ftoi rfl 36 2 _ rfl (Option.isSome_iff_exists.2 ⟨_, Try.underlying36⟩) .i64 Try.underlying2 _ _ rfl (by exact Hti.out) ?_) | go_in)
  generalize hu : fop .mul .f64 (fop .mul .f64 f 4618760256179416344) (fop .mul .f64 f 4618760256179416344) = u
  have Hu := Lib.hid hu
  clear hu
  go_loopw [7, 8] (fun p k wr => ∃ (i n m : Nat) (kI : Int), i ≤ 8 ∧ Hid (kI = 8 - (i : Int)) ∧ p = .float .f64 (pick .f64 (ser u i) n) ∧ k = .int .i64 kI ∧ wr = w.drewN m) (fun _ k _ => (intOf k).toNat)
  case atStart => exact ⟨0, 0, _, 8, by omega, rfl, by rw [pick_not (show isN .f64 (ser u 0) = false from (by decide +kernel : isN .f64 one64 = false))]; rfl, rfl, rfl⟩
  case round =>
    obtain ⟨i, n, m, kI, hi, HK, rfl, rfl, rfl⟩ := hrel
    by_cases hlt8 : i < 8
    · have b1 : 1 ≤ kI := by have := HK.out; omega
      have b2 : kI ≤ 8 := by have := HK.out; omega
      have b3 : 0 ≤ 2 * kI * (2 * kI + 1) := Int.mul_nonneg (by omega) (by omega)
      have b4 : 2 * kI * (2 * kI + 1) ≤ 272 := Int.le_trans (Int.mul_le_mul (show 2 * kI ≤ 16 by omega) (show 2 * kI + 1 ≤ 17 by omega) (by omega) (by omega)) (by decide)
      have HD : Hid (den i = floatOfInt .f64 (2 * kI * (2 * kI + 1))) := by unfold Hid; rw [HK.out]; exact den_int i hlt8
      go_wp2_with (first | (refine wpList_fop rfl _ _ _ _ _ rfl _ _ _ rfl rfl (by decide) _ ?_; intro _ _) | (refine upon_fop _ _ _ _ _ (by decide) ?_; intro _ _))
      go_roundw
      case rel => exact ⟨i + 1, _, _, kI - 1, by omega, by have := HK.out; unfold Hid; omega, by rw [ser_step, HD.out]; rfl, rfl, rfl⟩
      case measure => simp [intOf]; omega
    · obtain rfl : i = 8 := by omega
      have b1 : kI < 1 := by have := HK.out; omega
      have b2 : 0 ≤ kI := by have := HK.out; omega
      go_wp2_with (first | (refine wpList_fop rfl _ _ _ _ _ rfl _ _ _ rfl rfl (by decide) _ ?_; intro _ _) | (refine upon_fop _ _ _ _ _ (by decide) ?_; intro _ _))
      go_ret
      rw [HF.out]
      unfold sinZ
      rw [Hu.out]
      exact ⟨_, _, rfl, rfl⟩
theorem c_l01SineWide_tft (v f : Nat) (w : World) (j : Nat) (Hti : Hid (floatToIntVal .f64 v .i64 = some (ti v))) (Hf : Hid (partF v = f))
    (hs : (FloatKind.f64.format.order (fop .sub .f64 v v) 0 != some .eq) = false)
    (h1 : (FloatKind.f64.format.order v 4841369599423283200 == some .gt || FloatKind.f64.format.order v 4841369599423283200 == some .eq) = false)
    (h2 : (FloatKind.f64.format.order v 14064741636278059008 == some .lt || FloatKind.f64.format.order v 14064741636278059008 == some .eq) = false)
    {j2 : Nat} (hnan : isN .f64 v = false) (hf : fop .add .f64 (fop .sub .f64 v (floatOfInt .f64 (ti v))) 4607182418800017408 = f) (hlt : (FloatKind.f64.format.order (fop .sub .f64 v (floatOfInt .f64 (ti v))) 0 == some .lt) = true)
    (hb : (FloatKind.f64.format.order f 4602678819172646912 == some .gt || FloatKind.f64.format.order f 4602678819172646912 == some .eq) = false)
    (hq : (FloatKind.f64.format.order f 4598175219545276416 == some .gt) = true) : Calls Try.prog 94 #[.float .f64 (pick .f64 v j2)] (w.drewN j) (RetF .f64 (sinF v) w) := by
  have HF : Hid (sinF v = (sinZ (fop .mul .f64 (fop .sub .f64 4602678819172646912 f) 4618760256179416344))) := by
    unfold Hid sinF lowB fold2 half64 quarter64 twopi64; rw [Hf.out, hb]; simp only [if_true, if_false, Bool.false_eq_true, hq]
  rw [pick_not hnan]
  go_enter Try.func94, Try.ntmps94
  go_wp2_with (first | (first | (refine wpList_fop rfl _ _ _ _ _ rfl _ _ _ rfl rfl (by decide) _ ?_; intro _ _) | (refine upon_fop _ _ _ _ _ (by decide) ?_; intro _ _)) | (refine wpList_ftoi rfl 36 2 _ rfl (Option.isSome_iff_exists.2 ⟨_, Try.underlying36⟩) .i64 Try.underlying2 _ _ rfl (by exact Hti.out) ?_) | go_in)
  generalize hu : fop .mul .f64 (fop .mul .f64 (fop .sub .f64 4602678819172646912 f) 4618760256179416344) (fop .mul .f64 (fop .sub .f64 4602678819172646912 f) 4618760256179416344) = u
  have Hu := Lib.hid hu
  clear hu
  go_loopw [7, 8] (fun p k wr => ∃ (i n m : Nat) (kI : Int), i ≤ 8 ∧ Hid (kI = 8 - (i : Int)) ∧ p = .float .f64 (pick .f64 (ser u i) n) ∧ k = .int .i64 kI ∧ wr = w.drewN m) (fun _ k _ => (intOf k).toNat)
  case atStart => exact ⟨0, 0, _, 8, by omega, rfl, by rw [pick_not (show isN .f64 (ser u 0) = false from (by decide +kernel : isN .f64 one64 = false))]; rfl, rfl, rfl⟩
  case round =>
    obtain ⟨i, n, m, kI, hi, HK, rfl, rfl, rfl⟩ := hrel
    by_cases hlt8 : i < 8
    · have b1 : 1 ≤ kI := by have := HK.out; omega
      have b2 : kI ≤ 8 := by have := HK.out; omega
      have b3 : 0 ≤ 2 * kI * (2 * kI + 1) := Int.mul_nonneg (by omega) (by omega)
      have b4 : 2 * kI * (2 * kI + 1) ≤ 272 := Int.le_trans (Int.mul_le_mul (show 2 * kI ≤ 16 by omega) (show 2 * kI + 1 ≤ 17 by omega) (by omega) (by omega)) (by decide)
      have HD : Hid (den i = floatOfInt .f64 (2 * kI * (2 * kI + 1))) := by unfold Hid; rw [HK.out]; exact den_int i hlt8
      go_wp2_with (first | (refine wpList_fop rfl _ _ _ _ _ rfl _ _ _ rfl rfl (by decide) _ ?_; intro _ _) | (refine upon_fop _ _ _ _ _ (by decide) ?_; intro _ _))
      go_roundw
      case rel => exact ⟨i + 1, _, _, kI - 1, by omega, by have := HK.out; unfold Hid; omega, by rw [ser_step, HD.out]; rfl, rfl, rfl⟩
      case measure => simp [intOf]; omega
    · obtain rfl : i = 8 := by omega
      have b1 : kI < 1 := by have := HK.out; omega
      have b2 : 0 ≤ kI := by have := HK.out; omega
      go_wp2_with (first | (refine wpList_fop rfl _ _ _ _ _ rfl _ _ _ rfl rfl (by decide) _ ?_; intro _ _) | (refine upon_fop _ _ _ _ _ (by decide) ?_; intro _ _))
      go_ret
      rw [HF.out]
      unfold sinZ
      rw [Hu.out]
      exact ⟨_, _, rfl, rfl⟩
theorem c_l01SineWide_ttf (v f : Nat) (w : World) (j : Nat) (Hti : Hid (floatToIntVal .f64 v .i64 = some (ti v))) (Hf : Hid (partF v = f))
    (hs : (FloatKind.f64.format.order (fop .sub .f64 v v) 0 != some .eq) = false)
    (h1 : (FloatKind.f64.format.order v 4841369599423283200 == some .gt || FloatKind.f64.format.order v 4841369599423283200 == some .eq) = false)
    (h2 : (FloatKind.f64.format.order v 14064741636278059008 == some .lt || FloatKind.f64.format.order v 14064741636278059008 == some .eq) = false)
    {j2 : Nat} (hnan : isN .f64 v = false) (hf : fop .add .f64 (fop .sub .f64 v (floatOfInt .f64 (ti v))) 4607182418800017408 = f) (hlt : (FloatKind.f64.format.order (fop .sub .f64 v (floatOfInt .f64 (ti v))) 0 == some .lt) = true)
    (hb : (FloatKind.f64.format.order f 4602678819172646912 == some .gt || FloatKind.f64.format.order f 4602678819172646912 == some .eq) = true)
    (hq : (FloatKind.f64.format.order (fop .sub .f64 f 4602678819172646912) 4598175219545276416 == some .gt) = false) : Calls Try.prog 94 #[.float .f64 (pick .f64 v j2)] (w.drewN j) (RetF .f64 (sinF v) w) := by
  have HF : Hid (sinF v = fneg .f64 (sinZ (fop .mul .f64 (fop .sub .f64 f 4602678819172646912) 4618760256179416344))) := by
    unfold Hid sinF lowB fold2 half64 quarter64 twopi64; rw [Hf.out, hb]; simp only [if_true, if_false, Bool.false_eq_true, hq]
  rw [pick_not hnan]
  go_enter Try.func94, Try.ntmps94
  go_wp2_with (first | (first | (refine wpList_fop rfl _ _ _ _ _ rfl _ _ _ rfl rfl (by decide) _ ?_; intro _ _) | (refine upon_fop _ _ _ _ _ (by decide) ?_; intro _ _)) | (refine wpList_ftoi rfl 36 2 _ rfl (Option.isSome_iff_exists.2 ⟨_, Try.underlying36⟩) .i64 Try.underlying2 _ _ rfl (by exact Hti.out) ?_) | go_in)
  generalize hu : fop .mul .f64 (fop .mul .f64 (fop .sub .f64 f 4602678819172646912) 4618760256179416344) (fop .mul .f64 (fop .sub .f64 f 4602678819172646912) 4618760256179416344) = u
  have Hu := Lib.hid hu
  clear hu
  go_loopw [7, 8] (fun p k wr => ∃ (i n m : Nat) (kI : Int), i ≤ 8 ∧ Hid (kI = 8 - (i : Int)) ∧ p = .float .f64 (pick .f64 (ser u i) n) ∧ k = .int .i64 kI ∧ wr = w.drewN m) (fun _ k _ => (intOf k).toNat)
  case atStart => exact ⟨0, 0, _, 8, by omega, rfl, by rw [pick_not (show isN .f64 (ser u 0) = false from (by decide +kernel : isN .f64 one64 = false))]; rfl, rfl, rfl⟩
  case round =>
    obtain ⟨i, n, m, kI, hi, HK, rfl, rfl, rfl⟩ := hrel
    by_cases hlt8 : i < 8
    · have b1 : 1 ≤ kI := by have := HK.out; omega
      have b2 : kI ≤ 8 := by have := HK.out; omega
      have b3 : 0 ≤ 2 * kI * (2 * kI + 1) := Int.mul_nonneg (by omega) (by omega)
      have b4 : 2 * kI * (2 * kI + 1) ≤ 272 := Int.le_trans (Int.mul_le_mul (show 2 * kI ≤ 16 by omega) (show 2 * kI + 1 ≤ 17 by omega) (by omega) (by omega)) (by decide)
      have HD : Hid (den i = floatOfInt .f64 (2 * kI * (2 * kI + 1))) := by unfold Hid; rw [HK.out]; exact den_int i hlt8
      go_wp2_with (first | (refine wpList_fop rfl _ _ _ _ _ rfl _ _ _ rfl rfl (by decide) _ ?_; intro _ _) | (refine upon_fop _ _ _ _ _ (by decide) ?_; intro _ _))
      go_roundw
      case rel => exact ⟨i + 1, _, _, kI - 1, by omega, by have := HK.out; unfold Hid; omega, by rw [ser_step, HD.out]; rfl, rfl, rfl⟩
      case measure => simp [intOf]; omega
    · obtain rfl : i = 8 := by omega
      have b1 : kI < 1 := by have := HK.out; omega
      have b2 : 0 ≤ kI := by have := HK.out; omega
      go_wp2_with (first | (refine wpList_fop rfl _ _ _ _ _ rfl _ _ _ rfl rfl (by decide) _ ?_; intro _ _) | (refine upon_fop _ _ _ _ _ (by decide) ?_; intro _ _))
      go_ret
      rw [HF.out]
      unfold sinZ
      rw [Hu.out]
      exact ⟨_, _, rfl, rfl⟩
theorem c_l01SineWide_ttt (v f : Nat) (w : World) (j : Nat) (Hti : Hid (floatToIntVal .f64 v .i64 = some (ti v))) (Hf : Hid (partF v = f))
    (hs : (FloatKind.f64.format.order (fop .sub .f64 v v) 0 != some .eq) = false)
    (h1 : (FloatKind.f64.format.order v 4841369599423283200 == some .gt || FloatKind.f64.format.order v 4841369599423283200 == some .eq) = false)
    (h2 : (FloatKind.f64.format.order v 14064741636278059008 == some .lt || FloatKind.f64.format.order v 14064741636278059008 == some .eq) = false)
    {j2 : Nat} (hnan : isN .f64 v = false) (hf : fop .add .f64 (fop .sub .f64 v (floatOfInt .f64 (ti v))) 4607182418800017408 = f) (hlt : (FloatKind.f64.format.order (fop .sub .f64 v (floatOfInt .f64 (ti v))) 0 == some .lt) = true)
    (hb : (FloatKind.f64.format.order f 4602678819172646912 == some .gt || FloatKind.f64.format.order f 4602678819172646912 == some .eq) = true)
    (hq : (FloatKind.f64.format.order (fop .sub .f64 f 4602678819172646912) 4598175219545276416 == some .gt) = true) : Calls Try.prog 94 #[.float .f64 (pick .f64 v j2)] (w.drewN j) (RetF .f64 (sinF v) w) := by
  have HF : Hid (sinF v = fneg .f64 (sinZ (fop .mul .f64 (fop .sub .f64 4602678819172646912 (fop .sub .f64 f 4602678819172646912)) 4618760256179416344))) := by
    unfold Hid sinF lowB fold2 half64 quarter64 twopi64; rw [Hf.out, hb]; simp only [if_true, if_false, Bool.false_eq_true, hq]
  rw [pick_not hnan]
  go_enter Try.func94, Try.ntmps94
  go_wp2_with (first | (first | (refine wpList_fop rfl _ _ _ _ _ rfl _ _ _ rfl rfl (by decide) _ ?_; intro _ _) | (refine upon_fop _ _ _ _ _ (by decide) ?_; intro _ _)) | (refine wpList_ftoi rfl 36 2 _ rfl (Option.isSome_iff_exists.2 ⟨_, Try.underlying36⟩) .i64 Try.underlying2 _ _ rfl (by exact Hti.out) ?_) | go_in)
  generalize hu : fop .mul .f64 (fop .mul .f64 (fop .sub .f64 4602678819172646912 (fop .sub .f64 f 4602678819172646912)) 4618760256179416344) (fop .mul .f64 (fop .sub .f64 4602678819172646912 (fop .sub .f64 f 4602678819172646912)) 4618760256179416344) = u
  have Hu := Lib.hid hu
  clear hu
  go_loopw [7, 8] (fun p k wr => ∃ (i n m : Nat) (kI : Int), i ≤ 8 ∧ Hid (kI = 8 - (i : Int)) ∧ p = .float .f64 (pick .f64 (ser u i) n) ∧ k = .int .i64 kI ∧ wr = w.drewN m) (fun _ k _ => (intOf k).toNat)
  case atStart => exact ⟨0, 0, _, 8, by omega, rfl, by rw [pick_not (show isN .f64 (ser u 0) = false from (by decide +kernel : isN .f64 one64 = false))]; rfl, rfl, rfl⟩
  case round =>
    obtain ⟨i, n, m, kI, hi, HK, rfl, rfl, rfl⟩ := hrel
    by_cases hlt8 : i < 8
    · have b1 : 1 ≤ kI := by have := HK.out; omega
      have b2 : kI ≤ 8 := by have := HK.out; omega
      have b3 : 0 ≤ 2 * kI * (2 * kI + 1) := Int.mul_nonneg (by omega) (by omega)
      have b4 : 2 * kI * (2 * kI + 1) ≤ 272 := Int.le_trans (Int.mul_le_mul (show 2 * kI ≤ 16 by omega) (show 2 * kI + 1 ≤ 17 by omega) (by omega) (by omega)) (by decide)
      have HD : Hid (den i = floatOfInt .f64 (2 * kI * (2 * kI + 1))) := by unfold Hid; rw [HK.out]; exact den_int i hlt8
      go_wp2_with (first | (refine wpList_fop rfl _ _ _ _ _ rfl _ _ _ rfl rfl (by decide) _ ?_; intro _ _) | (refine upon_fop _ _ _ _ _ (by decide) ?_; intro _ _))
      go_roundw
      case rel => exact ⟨i + 1, _, _, kI - 1, by omega, by have := HK.out; unfold Hid; omega, by rw [ser_step, HD.out]; rfl, rfl, rfl⟩
      case measure => simp [intOf]; omega
    · obtain rfl : i = 8 := by omega
      have b1 : kI < 1 := by have := HK.out; omega
      have b2 : 0 ≤ kI := by have := HK.out; omega
      go_wp2_with (first | (refine wpList_fop rfl _ _ _ _ _ rfl _ _ _ rfl rfl (by decide) _ ?_; intro _ _) | (refine upon_fop _ _ _ _ _ (by decide) ?_; intro _ _))
      go_ret
      rw [HF.out]
      unfold sinZ
      rw [Hu.out]
      exact ⟨_, _, rfl, rfl⟩
/-! ### l01SineAll -/
theorem c_l01Sine_ok (v : Nat) {j2 : Nat} (w : World) (j : Nat) (hti : floatToIntVal .f64 v .i64 = some (ti v)) (hnan : isN .f64 v = false)
    (hs : (FloatKind.f64.format.order (fop .sub .f64 v v) 0 != some .eq) = false)
    (h1 : (FloatKind.f64.format.order v 4841369599423283200 == some .gt || FloatKind.f64.format.order v 4841369599423283200 == some .eq) = false)
    (h2 : (FloatKind.f64.format.order v 14064741636278059008 == some .lt || FloatKind.f64.format.order v 14064741636278059008 == some .eq) = false) :
    Calls Try.prog 94 #[.float .f64 (pick .f64 v j2)] (w.drewN j) (RetF .f64 (sinF v) w) := by
  cases hl : (FloatKind.f64.format.order (fop .sub .f64 v (floatOfInt .f64 (ti v))) 0 == some .lt)
  · have e : fop .sub .f64 v (floatOfInt .f64 (ti v)) = partF v := by unfold partF; rw [hl, if_neg (by decide)]
    have hl' := hl
    rw [e] at hl'
    cases hb : (FloatKind.f64.format.order (partF v) 4602678819172646912 == some .gt || FloatKind.f64.format.order (partF v) 4602678819172646912 == some .eq)
    · cases hq : (FloatKind.f64.format.order (partF v) 4598175219545276416 == some .gt)
      · exact c_l01SineWide_fff v _ w j hti rfl hs h1 h2 hnan e hl' hb hq
      · exact c_l01SineWide_fft v _ w j hti rfl hs h1 h2 hnan e hl' hb hq
    · cases hq : (FloatKind.f64.format.order (fop .sub .f64 (partF v) 4602678819172646912) 4598175219545276416 == some .gt)
      · exact c_l01SineWide_ftf v _ w j hti rfl hs h1 h2 hnan e hl' hb hq
      · exact c_l01SineWide_ftt v _ w j hti rfl hs h1 h2 hnan e hl' hb hq
  · have e : fop .add .f64 (fop .sub .f64 v (floatOfInt .f64 (ti v))) 4607182418800017408 = partF v := by unfold partF; rw [hl, if_pos rfl]; rfl
    cases hb : (FloatKind.f64.format.order (partF v) 4602678819172646912 == some .gt || FloatKind.f64.format.order (partF v) 4602678819172646912 == some .eq)
    · cases hq : (FloatKind.f64.format.order (partF v) 4598175219545276416 == some .gt)
      · exact c_l01SineWide_tff v _ w j hti rfl hs h1 h2 hnan e hl hb hq
      · exact c_l01SineWide_tft v _ w j hti rfl hs h1 h2 hnan e hl hb hq
    · cases hq : (FloatKind.f64.format.order (fop .sub .f64 (partF v) 4602678819172646912) 4598175219545276416 == some .gt)
      · exact c_l01SineWide_ttf v _ w j hti rfl hs h1 h2 hnan e hl hb hq
      · exact c_l01SineWide_ttt v _ w j hti rfl hs h1 h2 hnan e hl hb hq

/-! ### f64from -/
@[go_sem] theorem e_f64from (n : Int) (w : World) : (callFunc 123 #[.int .u64 n]).run Try.prog w = .ok (.value (.float .f64 n.toNat)) w := by kernel_rfl
/-! ### mathNaN -/
theorem c_NaN (w : World) (j : Nat) : Calls Try.prog 113 #[] (w.drewN j) (RetF .f64 (qn .f64) w) := by
  obtain ⟨n, hn⟩ := raw_nan (b := 9221120237041090561) (by decide +kernel) (by decide +kernel)
  go_enter Try.func113, Try.ntmps113
  go_wp2
  go_ret
  exact ⟨n, _, by rw [← hn]; rfl, rfl⟩
/-! ### sSine -/
theorem c_l01Sine_nan (v j2 : Nat) (w : World) (j : Nat) (hs : (FloatKind.f64.format.order (fop .sub .f64 v v) 0 != some .eq) = true) : Calls Try.prog 94 #[.float .f64 (pick .f64 v j2)] (w.drewN j) (RetF .f64 (qn .f64) w) := by
  go_enter Try.func94, Try.ntmps94
  go_wp2_with (first | (first | (refine wpList_fop rfl _ _ _ _ _ rfl _ _ _ rfl rfl (by decide) _ ?_; intro _ _) | (refine upon_fop _ _ _ _ _ (by decide) ?_; intro _ _)) | (go_at_call 113; refine (c_NaN _ _).mono ?_; rintro _ _ ⟨_, _, rfl, rfl⟩))
  go_ret
  exact ⟨_, _, rfl, rfl⟩
theorem c_l01Sine_big (v j2 : Nat) (w : World) (j : Nat) (hs : (FloatKind.f64.format.order (fop .sub .f64 v v) 0 != some .eq) = false)
    (h : ((FloatKind.f64.format.order v 4841369599423283200 == some .gt || FloatKind.f64.format.order v 4841369599423283200 == some .eq) ||
     (FloatKind.f64.format.order v 14064741636278059008 == some .lt || FloatKind.f64.format.order v 14064741636278059008 == some .eq)) = true) : Calls Try.prog 94 #[.float .f64 (pick .f64 v j2)] (w.drewN j) (RetV (.float .f64 0) w) := by
  cases h1 : (FloatKind.f64.format.order v 4841369599423283200 == some .gt || FloatKind.f64.format.order v 4841369599423283200 == some .eq)
  · rw [h1, Bool.false_or] at h
    go_enter Try.func94, Try.ntmps94
    go_wp2_with (first | (first | (refine wpList_fop rfl _ _ _ _ _ rfl _ _ _ rfl rfl (by decide) _ ?_; intro _ _) | (refine upon_fop _ _ _ _ _ (by decide) ?_; intro _ _)))
    go_ret
    exact ⟨_, rfl, rfl⟩
  · clear h
    go_enter Try.func94, Try.ntmps94
    go_wp2_with (first | (first | (refine wpList_fop rfl _ _ _ _ _ rfl _ _ _ rfl rfl (by decide) _ ?_; intro _ _) | (refine upon_fop _ _ _ _ _ (by decide) ?_; intro _ _)))
    go_ret
    exact ⟨_, rfl, rfl⟩
theorem c_l01Sine (v n : Nat) (w : World) (j : Nat) (hv : v < 2 ^ FloatKind.f32.format.width) : Calls Try.prog 60 #[.float .f32 (pick .f32 v n)] (w.drewN j) (RetF .f32 (sineT v) w) := by
  have hss := sub_self_zero .f64 (cvU v)
  rw [finB_cvU] at hss
  cases hf : finB .f32 v
  · have e : sineT v = cvN (qn .f64) := by unfold sineT; rw [hf, if_neg (by decide)]; exact (cvN_qn (isN_qn .f64)).symm
    rw [e]
    have hs : (FloatKind.f64.format.order (fop .sub .f64 (cvU v) (cvU v)) 0 != some .eq) = true := by rw [bne, hss, hf]; rfl
    have HS := Lib.hid hs
    clear hss hs
    go_enter Try.func60, Try.ntmps60
    go_wp2_with (first | (refine wpList_cvU rfl 22 36 _ rfl (Option.isSome_iff_exists.2 ⟨_, Try.underlying22⟩) Try.underlying36 _ rfl _ ?_; intro _ _) | (refine wpList_cvN rfl 36 22 _ rfl (Option.isSome_iff_exists.2 ⟨_, Try.underlying36⟩) Try.underlying22 _ rfl _ (by exact .inl (by rw [isN_pick]; exact isN_qn _)) ?_; intro _ _) | (go_at_call 94; refine (c_l01Sine_nan _ _ _ _ HS.out).mono ?_; rintro _ _ ⟨_, _, rfl, rfl⟩) | go_in)
    go_ret
    exact ⟨_, _, rfl, rfl⟩
  · have hs : (FloatKind.f64.format.order (fop .sub .f64 (cvU v) (cvU v)) 0 != some .eq) = false := by rw [bne, hss, hf]; rfl
    have hn : isN .f64 (cvU v) = false := by rw [isN_cvU]; exact notN_fin (k := .f32) (of_decide_eq_true hf)
    obtain ⟨g1, g2⟩ := big_abs (cvU v) hn
    cases hb : decide (4841369599423283200 ≤ rung Ieee.double (cvU v))
    · obtain ⟨k1, k2, k3⟩ := fin_small hf hb
      have e : sineT v = cvN (sinF (cvU v)) := by unfold sineT; rw [hf, if_pos rfl, hb, if_neg (by decide)]
      rw [e]
      rw [g2, hb] at g1
      have h12 := Bool.or_eq_false_iff.1 g1.symm
      have H := Lib.hid (And.intro hs (And.intro h12.1 (And.intro h12.2 (And.intro k2 (And.intro k1 k3)))))
      clear hss hs g1 g2 k1 k2 k3 h12 hn
      go_enter Try.func60, Try.ntmps60
      go_wp2_with (first | (refine wpList_cvU rfl 22 36 _ rfl (Option.isSome_iff_exists.2 ⟨_, Try.underlying22⟩) Try.underlying36 _ rfl _ ?_; intro _ _) | (refine wpList_cvN rfl 36 22 _ rfl (Option.isSome_iff_exists.2 ⟨_, Try.underlying36⟩) Try.underlying22 _ rfl _ (by rw [Fits_pick]; exact Fits_sin H.out.2.2.2.2.2) ?_; intro _ _) | (go_at_call 94; refine (c_l01Sine_ok _ _ _ H.out.2.2.2.1 H.out.2.2.2.2.1 H.out.1 H.out.2.1 H.out.2.2.1).mono ?_; rintro _ _ ⟨_, _, rfl, rfl⟩) | go_in)
      go_ret
      exact ⟨_, _, rfl, rfl⟩
    · have e : sineT v = 0 := by unfold sineT; rw [hf, if_pos rfl, hb, if_pos rfl]
      rw [e]
      rw [g2, hb] at g1
      have H := Lib.hid (And.intro hs g1.symm)
      have hz : cvN 0 = 0 := by decide +kernel
      clear hss hs g1 g2 hn
      go_enter Try.func60, Try.ntmps60
      go_wp2_with (first | (refine wpList_cvU rfl 22 36 _ rfl (Option.isSome_iff_exists.2 ⟨_, Try.underlying22⟩) Try.underlying36 _ rfl _ ?_; intro _ _) | (refine wpList_cvN rfl 36 22 _ rfl (Option.isSome_iff_exists.2 ⟨_, Try.underlying36⟩) Try.underlying22 _ rfl _ (by exact Fits_of_Bd (Bd_const (by decide +kernel))) ?_; intro _ _) | (go_at_call 94; refine (c_l01Sine_big _ _ _ _ H.out.1 H.out.2).mono ?_; rintro _ _ ⟨_, rfl, rfl⟩) | go_in)
      go_ret
      exact ⟨_, _, rfl, rfl⟩
/-! ### l06Cosine -/
theorem c_l06Cosine (v n : Nat) (w : World) (j : Nat) : Calls Try.prog 59 #[.float .f32 (pick .f32 v n)] (w.drewN j) (RetF .f32 (cosT v) w) := by
  unfold cosT
  go_enter Try.func59, Try.ntmps59
  go_wp2_with (first | (first | (refine wpList_fop rfl _ _ _ _ _ rfl _ _ _ rfl rfl (by decide) _ ?_; intro _ _) | (refine upon_fop _ _ _ _ _ (by decide) ?_; intro _ _)) | (go_at_call 60; refine (c_l01Sine _ _ _ _ (fop_lt _ _ _ _)).mono ?_; rintro _ _ ⟨_, _, rfl, rfl⟩))
  go_ret
  exact ⟨_, _, rfl, rfl⟩
theorem c_l06Cosine0 (v n : Nat) (w : World) : Calls Try.prog 59 #[.float .f32 (pick .f32 v n)] w (RetF .f32 (cosT v) w) := by
  have h := c_l06Cosine v n w 0
  rwa [w.drewN_zero] at h
theorem c_l01Sine0 (v n : Nat) (w : World) (hv : v < 2 ^ FloatKind.f32.format.width) : Calls Try.prog 60 #[.float .f32 (pick .f32 v n)] w (RetF .f32 (sineT v) w) := by
  have h := c_l01Sine v n w 0 hv
  rwa [w.drewN_zero] at h
/-! ### l06Give -/
theorem c_l06Give (ar an ag am ab ak : Nat) (w : World) (har : ar < 2 ^ FloatKind.f32.format.width) (hag : ag < 2 ^ FloatKind.f32.format.width) (hab : ab < 2 ^ FloatKind.f32.format.width) : Calls Try.prog 57 #[.agg #[.float .f32 (pick .f32 ar an), .float .f32 (pick .f32 ag am), .float .f32 (pick .f32 ab ak)]] w (WayB2 (giveW (ar, ag, ab)) w) := by
  generalize hw0 : (w.alloc (Obj.cells #[.float .f32 (pick .f32 ar an), .float .f32 (pick .f32 ag am), .float .f32 (pick .f32 ab ak)] 26)).alloc (Obj.cells #[.float .f32 0, .float .f32 0, .float .f32 0] 26) = w0
  have Va_0 := Lib.hid (show Var w0 (w.heap.size) #[.float .f32 (pick .f32 ar an), .float .f32 (pick .f32 ag am), .float .f32 (pick .f32 ab ak)] from by subst hw0; exact ((Var.new' _ _ _ _ (by first | rfl | simp)).alloc _))
  have Vz_0 := Lib.hid (show Var w0 (w.heap.size + 1) #[.float .f32 0, .float .f32 0, .float .f32 0] from by subst hw0; exact (Var.new' _ _ _ _ (by first | rfl | simp)))
  have F_0 := Lib.hid (show Free w0 (w.heap.size + 1) from by subst hw0; exact Free.new' _ _ _ _ (by first | rfl | simp))
  have B_0 := Lib.hid (show Below w.heap.size w w0 from by subst hw0; exact (((Below.refl _ _).alloc (Nat.le_refl _) _).alloc (by simp) _))
  have SZ := Lib.hid (show w0.heap.size = w.heap.size + 2 from by subst hw0; simp)
  have HW := Lib.hid hw0
  clear hw0
  have CF := Lib.hid (fun w => c_l06Is ar an ag am ab ak w)
  cases hq : wayB ar ag ab
  all_goals rw [hq] at CF
  · obtain ⟨ca0, ca1, ca2⟩ := Va_0.out.three
    obtain ⟨cz0, cz1, cz2⟩ := Vz_0.out.three
    have f0 := F_0.out 0
    have f1 := F_0.out 1
    have f2 := F_0.out 2
    go_enter Try.func57, Try.ntmps57
    go_wp2_with fail
    rw [HW.out]
    go_wp2_with fail
    refine (CF.out _).mono ?_
    rintro _ w1 ⟨rfl, b⟩
    have Va_1 := Lib.hid (Va_0.out.keep b)
    have Vz_1 := Lib.hid (Vz_0.out.keep b)
    have F_1 := Lib.hid (F_0.out.below Vz_0.out.lt b)
    have B_1 := Lib.hid (B_0.out.trans (b.mono B_0.out.size))
    clear ca0 ca1 ca2 cz0 cz1 cz2 f0 f1 f2
    clear Va_0 Vz_0 F_0 B_0 b
    obtain ⟨ca0, ca1, ca2⟩ := Va_1.out.three
    obtain ⟨cz0, cz1, cz2⟩ := Vz_1.out.three
    have f0 := F_1.out 0
    have f1 := F_1.out 1
    have f2 := F_1.out 2
    go_wp2_with fail
    refine bodyPost_ret (v := .tuple #[.agg #[.float .f32 0, .float .f32 0, .float .f32 0], .bool false]) (by simp [results, Try.results57, cz0, cz1, cz2, go_sem]) rfl ?_
    rw [giveW_lt_no hq]; refine WayB2.no rfl ?_
    repeat (first | exact B_1.out | exact Nat.le_refl _ | (refine Below.setCell ?_ ?_ _) | (refine below_drewN ?_ _) | (refine Below.alloc ?_ ?_ _) | (simp <;> omega))
  · obtain ⟨ca0, ca1, ca2⟩ := Va_0.out.three
    obtain ⟨cz0, cz1, cz2⟩ := Vz_0.out.three
    have f0 := F_0.out 0
    have f1 := F_0.out 1
    have f2 := F_0.out 2
    go_enter Try.func57, Try.ntmps57
    go_wp2_with fail
    rw [HW.out]
    go_wp2_with fail
    refine (CF.out _).mono ?_
    rintro _ w1 ⟨rfl, b⟩
    have Va_1 := Lib.hid (Va_0.out.keep b)
    have Vz_1 := Lib.hid (Vz_0.out.keep b)
    have F_1 := Lib.hid (F_0.out.below Vz_0.out.lt b)
    have B_1 := Lib.hid (B_0.out.trans (b.mono B_0.out.size))
    clear ca0 ca1 ca2 cz0 cz1 cz2 f0 f1 f2
    clear Va_0 Vz_0 F_0 B_0 b
    obtain ⟨ca0, ca1, ca2⟩ := Va_1.out.three
    obtain ⟨cz0, cz1, cz2⟩ := Vz_1.out.three
    have f0 := F_1.out 0
    have f1 := F_1.out 1
    have f2 := F_1.out 2
    go_wp2_with fail
    refine bodyPost_ret (v := .tuple #[.agg #[.float .f32 (pick .f32 ar an), .float .f32 (pick .f32 ag am), .float .f32 (pick .f32 ab ak)], .bool true]) (by simp [results, Try.results57, cz0, cz1, cz2, go_sem]) rfl ?_
    rw [giveW_yes hq]; refine ⟨_, _, _, rfl, ?_⟩
    repeat (first | exact B_1.out | exact Nat.le_refl _ | (refine Below.setCell ?_ ?_ _) | (refine below_drewN ?_ _) | (refine Below.alloc ?_ ?_ _) | (simp <;> omega))
/-! ### l06Turn -/
theorem c_l06Turn (ar an ag am ab ak : Nat) (c q s l : Nat) (w : World) : Calls Try.prog 58 #[.agg #[.float .f32 (pick .f32 ar an), .float .f32 (pick .f32 ag am), .float .f32 (pick .f32 ab ak)], .float .f32 (pick .f32 c q), .float .f32 (pick .f32 s l)] w (WayR (turT ar ag ab c s) w) := by
  generalize hw0 : (w.alloc (Obj.cells #[.float .f32 (pick .f32 ar an), .float .f32 (pick .f32 ag am), .float .f32 (pick .f32 ab ak)] 26)).alloc (Obj.cells #[.float .f32 0, .float .f32 0, .float .f32 0] 26) = w0
  have Va_0 := Lib.hid (show Var w0 (w.heap.size) #[.float .f32 (pick .f32 ar an), .float .f32 (pick .f32 ag am), .float .f32 (pick .f32 ab ak)] from by subst hw0; exact ((Var.new' _ _ _ _ (by first | rfl | simp)).alloc _))
  have Vz_0 := Lib.hid (show Var w0 (w.heap.size + 1) #[.float .f32 0, .float .f32 0, .float .f32 0] from by subst hw0; exact (Var.new' _ _ _ _ (by first | rfl | simp)))
  have F_0 := Lib.hid (show Free w0 (w.heap.size + 1) from by subst hw0; exact Free.new' _ _ _ _ (by first | rfl | simp))
  have B_0 := Lib.hid (show Below w.heap.size w w0 from by subst hw0; exact (((Below.refl _ _).alloc (Nat.le_refl _) _).alloc (by simp) _))
  have SZ := Lib.hid (show w0.heap.size = w.heap.size + 2 from by subst hw0; simp)
  have HW := Lib.hid hw0
  clear hw0
  unfold turT lessV sumV
  obtain ⟨ca0, ca1, ca2⟩ := Va_0.out.three
  obtain ⟨cz0, cz1, cz2⟩ := Vz_0.out.three
  have f0 := F_0.out 0
  have f1 := F_0.out 1
  have f2 := F_0.out 2
  go_enter Try.func58, Try.ntmps58
  go_wp2_with fail
  rw [HW.out]
  rw [← w0.drewN_zero]
  go_wp2_with (first | (refine wpList_fop rfl _ _ _ _ _ rfl _ _ _ rfl rfl (by decide) _ ?_; intro _ _) | (refine upon_fop _ _ _ _ _ (by decide) ?_; intro _ _))
  refine bodyPost_ret (by simp [results, Try.results58, cz0, cz1, cz2, go_sem]; exact ⟨rfl, rfl, rfl⟩) rfl ⟨_, _, _, rfl, ?_⟩
  repeat (first | exact B_0.out | exact Nat.le_refl _ | (refine Below.setCell ?_ ?_ _) | (refine below_drewN ?_ _) | (refine Below.alloc ?_ ?_ _) | (simp <;> omega))
/-! ### sTurnWay -/
theorem c_sTurnWay (ar an ag am ab ak : Nat) (t tn : Nat) (w : World) (har : ar < 2 ^ FloatKind.f32.format.width) (hag : ag < 2 ^ FloatKind.f32.format.width) (hab : ab < 2 ^ FloatKind.f32.format.width) (ht : t < 2 ^ FloatKind.f32.format.width) : Calls Try.prog 26 #[.agg #[.float .f32 (pick .f32 ar an), .float .f32 (pick .f32 ag am), .float .f32 (pick .f32 ab ak)], .float .f32 (pick .f32 t tn)] w (WayB2 (turnW ar ag ab t) w) := by
  generalize hw0 : (w.alloc (Obj.cells #[.float .f32 (pick .f32 ar an), .float .f32 (pick .f32 ag am), .float .f32 (pick .f32 ab ak)] 26)).alloc (Obj.cells #[.float .f32 0, .float .f32 0, .float .f32 0] 26) = w0
  have Va_0 := Lib.hid (show Var w0 (w.heap.size) #[.float .f32 (pick .f32 ar an), .float .f32 (pick .f32 ag am), .float .f32 (pick .f32 ab ak)] from by subst hw0; exact ((Var.new' _ _ _ _ (by first | rfl | simp)).alloc _))
  have Vz_0 := Lib.hid (show Var w0 (w.heap.size + 1) #[.float .f32 0, .float .f32 0, .float .f32 0] from by subst hw0; exact (Var.new' _ _ _ _ (by first | rfl | simp)))
  have F_0 := Lib.hid (show Free w0 (w.heap.size + 1) from by subst hw0; exact Free.new' _ _ _ _ (by first | rfl | simp))
  have B_0 := Lib.hid (show Below w.heap.size w w0 from by subst hw0; exact (((Below.refl _ _).alloc (Nat.le_refl _) _).alloc (by simp) _))
  have SZ := Lib.hid (show w0.heap.size = w.heap.size + 2 from by subst hw0; simp)
  have HW := Lib.hid hw0
  clear hw0
  obtain ⟨res, hres⟩ : ∃ q, q = turnW ar ag ab t := ⟨_, rfl⟩
  rw [← hres]
  have CQ := Lib.hid (fun w => c_l06Is ar an ag am ab ak w)
  have CG := Lib.hid (fun n m k w => c_l06Give (lessV (cosT t) ar (sineT t) ag) n (sumV (sineT t) ar (cosT t) ag) m (ab) k w (fop_lt _ _ _ _) (fop_lt _ _ _ _) hab)
  have CT := Lib.hid (fun q l w => c_l06Turn ar an ag am ab ak (cosT t) q (sineT t) l w)
  cases hq : wayB ar ag ab
  all_goals rw [hq] at CQ
  · have RES := Lib.hid (hres.trans (turnW_no (t := t) (.inl hq)).1)
    obtain ⟨ca0, ca1, ca2⟩ := Va_0.out.three
    obtain ⟨cz0, cz1, cz2⟩ := Vz_0.out.three
    have f0 := F_0.out 0
    have f1 := F_0.out 1
    have f2 := F_0.out 2
    go_enter Try.func26, Try.ntmps26
    go_wp2_with fail
    rw [HW.out]
    go_wp2_with fail
    refine (CQ.out _).mono ?_
    rintro _ w1 ⟨rfl, b⟩
    have Va_1 := Lib.hid (Va_0.out.keep b)
    have Vz_1 := Lib.hid (Vz_0.out.keep b)
    have F_1 := Lib.hid (F_0.out.below Vz_0.out.lt b)
    have B_1 := Lib.hid (B_0.out.trans (b.mono B_0.out.size))
    clear ca0 ca1 ca2 cz0 cz1 cz2 f0 f1 f2
    clear Va_0 Vz_0 F_0 B_0 b
    obtain ⟨ca0, ca1, ca2⟩ := Va_1.out.three
    obtain ⟨cz0, cz1, cz2⟩ := Vz_1.out.three
    have f0 := F_1.out 0
    have f1 := F_1.out 1
    have f2 := F_1.out 2
    go_wp2_with fail
    refine bodyPost_ret (v := .tuple #[.agg #[.float .f32 0, .float .f32 0, .float .f32 0], .bool false]) (by simp [results, Try.results26, cz0, cz1, cz2, go_sem]) rfl ?_
    rw [RES.out]; refine WayB2.no rfl ?_
    repeat (first | exact B_1.out | exact Nat.le_refl _ | (refine Below.setCell ?_ ?_ _) | (refine below_drewN ?_ _) | (refine Below.alloc ?_ ?_ _) | (simp <;> omega))
  · have CF := Lib.hid (fun w k j => c_l01Finite t k w j)
    cases hf : finB .f32 t
    all_goals rw [hf] at CF
    · have RES := Lib.hid (hres.trans (turnW_no (.inr hf)).1)
      obtain ⟨ca0, ca1, ca2⟩ := Va_0.out.three
      obtain ⟨cz0, cz1, cz2⟩ := Vz_0.out.three
      have f0 := F_0.out 0
      have f1 := F_0.out 1
      have f2 := F_0.out 2
      go_enter Try.func26, Try.ntmps26
      go_wp2_with fail
      rw [HW.out]
      go_wp2_with fail
      refine (CQ.out _).mono ?_
      rintro _ w1 ⟨rfl, b⟩
      have Va_1 := Lib.hid (Va_0.out.keep b)
      have Vz_1 := Lib.hid (Vz_0.out.keep b)
      have F_1 := Lib.hid (F_0.out.below Vz_0.out.lt b)
      have B_1 := Lib.hid (B_0.out.trans (b.mono B_0.out.size))
      clear ca0 ca1 ca2 cz0 cz1 cz2 f0 f1 f2
      clear Va_0 Vz_0 F_0 B_0 b
      obtain ⟨ca0, ca1, ca2⟩ := Va_1.out.three
      obtain ⟨cz0, cz1, cz2⟩ := Vz_1.out.three
      have f0 := F_1.out 0
      have f1 := F_1.out 1
      have f2 := F_1.out 2
      rw [← w1.drewN_zero]
      go_wp2_with (go_at_call 56; refine (CF.out _ _ _).mono ?_; rintro _ _ ⟨_, rfl, rfl⟩)
      refine bodyPost_ret (v := .tuple #[.agg #[.float .f32 0, .float .f32 0, .float .f32 0], .bool false]) (by simp [results, Try.results26, cz0, cz1, cz2, go_sem]) rfl ?_
      rw [RES.out]; refine WayB2.no rfl ?_
      repeat (first | exact B_1.out | exact Nat.le_refl _ | (refine Below.setCell ?_ ?_ _) | (refine below_drewN ?_ _) | (refine Below.alloc ?_ ?_ _) | (simp <;> omega))
    · have RES := Lib.hid (hres.trans (show turnW ar ag ab t = giveW (lessV (cosT t) ar (sineT t) ag, sumV (sineT t) ar (cosT t) ag, ab) from by unfold turnW; rw [hq, hf]; rfl))
      generalize giveW (lessV (cosT t) ar (sineT t) ag, sumV (sineT t) ar (cosT t) ag, ab) = z at CG RES
      obtain ⟨ca0, ca1, ca2⟩ := Va_0.out.three
      obtain ⟨cz0, cz1, cz2⟩ := Vz_0.out.three
      have f0 := F_0.out 0
      have f1 := F_0.out 1
      have f2 := F_0.out 2
      go_enter Try.func26, Try.ntmps26
      go_wp2_with fail
      rw [HW.out]
      go_wp2_with fail
      refine (CQ.out _).mono ?_
      rintro _ w1 ⟨rfl, b⟩
      have Va_1 := Lib.hid (Va_0.out.keep b)
      have Vz_1 := Lib.hid (Vz_0.out.keep b)
      have F_1 := Lib.hid (F_0.out.below Vz_0.out.lt b)
      have B_1 := Lib.hid (B_0.out.trans (b.mono B_0.out.size))
      clear ca0 ca1 ca2 cz0 cz1 cz2 f0 f1 f2
      clear Va_0 Vz_0 F_0 B_0 b
      obtain ⟨ca0, ca1, ca2⟩ := Va_1.out.three
      obtain ⟨cz0, cz1, cz2⟩ := Vz_1.out.three
      have f0 := F_1.out 0
      have f1 := F_1.out 1
      have f2 := F_1.out 2
      rw [← w1.drewN_zero]
      go_wp2_with (go_at_call 56; refine (CF.out _ _ _).mono ?_; rintro _ _ ⟨_, rfl, rfl⟩)
      generalize hw2 : World.drewN w1 _ = w2
      have b : Below w1.heap.size w1 w2 := by subst hw2; exact below_drewN (Below.refl _ _) _
      clear ca0 ca1 ca2 cz0 cz1 cz2 f0 f1 f2
      have Va_2 := Lib.hid (Va_1.out.keep b)
      have Vz_2 := Lib.hid (Vz_1.out.keep b)
      have F_2 := Lib.hid (F_1.out.below Vz_1.out.lt b)
      have B_2 := Lib.hid (B_1.out.trans (b.mono B_1.out.size))
      clear Va_1 Vz_1 F_1 B_1 b hw2
      have KS := Lib.hid (fun (w' : World) (hE : Below w2.heap.size w2 w') => (⟨(Va_2.out.keep hE).three.1, (Va_2.out.keep hE).three.2.1, (Va_2.out.keep hE).three.2.2⟩ : _ ∧ _ ∧ _))
      refine wp_region_facts 9 (fun a b => Below a.heap.size a b) (fun _ => Below.refl _ _) (fun _ _ _ h h' => h.trans (h'.mono h.size)) (Below.refl _ _).drew (by kernel_rfl) (by kernel_rfl) (by kernel_rfl) (by kernel_rfl) ?_
      simp only [List.take_succ_cons, List.take_zero, List.drop_succ_cons, List.drop_zero]
      (with_reducible apply wpF_val); (focus (intro vs w' hE hk; (obtain ⟨d0, d1, d2⟩ := KS.out w' hE); go_simp; exact ⟨Below.refl _ _, rfl⟩)); (simp only [Act.put, List.setIfInBounds_toArray, List.set_cons_zero, List.set_cons_succ, List.cons_append, List.nil_append])
      (with_reducible apply wpF_val); (focus (intro vs w' hE hk; (obtain ⟨d0, d1, d2⟩ := KS.out w' hE); go_simp; exact ⟨Below.refl _ _, rfl⟩)); (simp only [Act.put, List.setIfInBounds_toArray, List.set_cons_zero, List.set_cons_succ, List.cons_append, List.nil_append])
      refine wpF_fact (fun u _ => ∃ m, u = .float .f32 (pick .f32 (cosT t) m)) (fun _ _ _ h _ => h) (fun vs w' hE hk => ?_) ?_; (focus (go_simp; refine (c_l06Cosine0 t tn _).mono ?_; rintro _ _ ⟨m1, m2, rfl, rfl⟩; exact ⟨_, rfl, below_drewN (Below.refl _ _) _, m1, rfl⟩)); (simp only [Act.put, List.setIfInBounds_toArray, List.set_cons_zero, List.set_cons_succ, List.cons_append, List.nil_append])
      (with_reducible apply wpF_val); (focus (intro vs w' hE hk; (obtain ⟨d0, d1, d2⟩ := KS.out w' hE); go_simp; exact ⟨Below.refl _ _, rfl⟩)); (simp only [Act.put, List.setIfInBounds_toArray, List.set_cons_zero, List.set_cons_succ, List.cons_append, List.nil_append])
      refine wpF_fact (fun u _ => ∃ m, u = .float .f32 (pick .f32 (sineT t) m)) (fun _ _ _ h _ => h) (fun vs w' hE hk => ?_) ?_; (focus (go_simp; refine (c_l01Sine0 t tn _ ht).mono ?_; rintro _ _ ⟨m1, m2, rfl, rfl⟩; exact ⟨_, rfl, below_drewN (Below.refl _ _) _, m1, rfl⟩)); (simp only [Act.put, List.setIfInBounds_toArray, List.set_cons_zero, List.set_cons_succ, List.cons_append, List.nil_append])
      refine wpF_fact (fun u _ => ∃ n m k, u = .agg #[.float .f32 (pick .f32 (lessV (cosT t) ar (sineT t) ag) n), .float .f32 (pick .f32 (sumV (sineT t) ar (cosT t) ag) m), .float .f32 (pick .f32 (ab) k)]) (fun _ _ _ h _ => h) (fun vs w' hE hk => ?_) ?_; (focus (obtain ⟨m1, h1⟩ := hk 2 (by kernel_rfl); obtain ⟨m2, h2⟩ := hk 4 (by kernel_rfl); simp only [h1, h2]; go_simp; refine (CT.out _ _ _).mono ?_; rintro _ w9 ⟨n9, m9, k9, rfl, b⟩; exact ⟨_, rfl, b, n9, m9, k9, rfl⟩)); (simp only [Act.put, List.setIfInBounds_toArray, List.set_cons_zero, List.set_cons_succ, List.cons_append, List.nil_append])
      refine wpF_fact (fun u _ => ∃ n m k, u = .tuple #[.agg #[.float .f32 (pick .f32 z.1.1 n), .float .f32 (pick .f32 z.1.2.1 m), .float .f32 (pick .f32 z.1.2.2 k)], .bool z.2]) (fun _ _ _ h _ => h) (fun vs w' hE hk => ?_) ?_; (focus (obtain ⟨n9, m9, k9, h9⟩ := hk 5 (by kernel_rfl); simp only [h9]; go_simp; refine (CG.out _ _ _ _).mono ?_; rintro _ w9 ⟨n8, m8, k8, rfl, b⟩; exact ⟨_, rfl, b, n8, m8, k8, rfl⟩)); (simp only [Act.put, List.setIfInBounds_toArray, List.set_cons_zero, List.set_cons_succ, List.cons_append, List.nil_append])
      refine wpF_fact (fun u _ => ∃ n m k, u = .agg #[.float .f32 (pick .f32 z.1.1 n), .float .f32 (pick .f32 z.1.2.1 m), .float .f32 (pick .f32 z.1.2.2 k)]) (fun _ _ _ h _ => h) (fun vs w' hE hk => ?_) ?_; (focus (obtain ⟨n9, m9, k9, h9⟩ := hk 6 (by kernel_rfl); simp only [h9]; go_simp; exact ⟨Below.refl _ _, n9, m9, k9, rfl⟩)); (simp only [Act.put, List.setIfInBounds_toArray, List.set_cons_zero, List.set_cons_succ, List.cons_append, List.nil_append])
      refine wpF_fact (fun u _ => u = .bool z.2) (fun _ _ _ h _ => h) (fun vs w' hE hk => ?_) ?_; (focus (obtain ⟨n9, m9, k9, h9⟩ := hk 6 (by kernel_rfl); simp only [h9]; go_simp; exact ⟨Below.refl _ _, rfl⟩)); (simp only [Act.put, List.setIfInBounds_toArray, List.set_cons_zero, List.set_cons_succ, List.cons_append, List.nil_append])
      refine wpF_nil (fun vs w3 hE hk => ?_)
      obtain ⟨n9, m9, k9, h91⟩ := hk 7
      have h92 := hk 8
      simp only [h91, show vs 8 = _ from h92]
      have b := hE
      clear hE hk h91 h92
      have Va_3 := Lib.hid (Va_2.out.keep b)
      have Vz_3 := Lib.hid (Vz_2.out.keep b)
      have F_3 := Lib.hid (F_2.out.below Vz_2.out.lt b)
      have B_3 := Lib.hid (B_2.out.trans (b.mono B_2.out.size))
      clear Va_2 Vz_2 F_2 B_2 b KS
      obtain ⟨ca0, ca1, ca2⟩ := Va_3.out.three
      obtain ⟨cz0, cz1, cz2⟩ := Vz_3.out.three
      have f0 := F_3.out 0
      have f1 := F_3.out 1
      have f2 := F_3.out 2
      go_wp2_with fail
      refine bodyPost_ret (v := .tuple #[.agg #[.float .f32 (pick .f32 z.1.1 n9), .float .f32 (pick .f32 z.1.2.1 m9), .float .f32 (pick .f32 z.1.2.2 k9)], .bool z.2]) (by simp [results, Try.results26, cz0, cz1, cz2, go_sem]) rfl ?_
      rw [RES.out]; refine ⟨_, _, _, rfl, ?_⟩
      repeat (first | exact B_3.out | exact Nat.le_refl _ | (refine Below.setCell ?_ ?_ _) | (refine below_drewN ?_ _) | (refine Below.alloc ?_ ?_ _) | (simp <;> omega))
/-! ### IsNaN -/
theorem c_IsNaN (v n : Nat) (w : World) (j : Nat) : Calls Try.prog 111 #[.float .f64 (pick .f64 v n)] (w.drewN j) (RetV (.bool (isN .f64 v)) w) := by
  go_enter Try.func111, Try.ntmps111
  go_wp2
  go_ret
  exact ⟨_, rfl, rfl⟩
/-! ### f64bits -/
@[go_sem] theorem e_f64bits (b : Nat) (w : World) : (callFunc 124 #[.float .f64 b]).run Try.prog w = .ok (.value (.int .u64 b)) w := by kernel_rfl
/-! ### Abs -/
theorem c_Abs (v n : Nat) (w : World) (j : Nat) (hv : v < 2 ^ FloatKind.f64.format.width) : Calls Try.prog 116 #[.float .f64 (pick .f64 v n)] (w.drewN j) (RetF .f64 (fabs .f64 v) w) := by
  have hb := abs_bits hv n
  go_enter Try.func116, Try.ntmps116
  go_wp2
  go_ret
  exact ⟨_, _, rfl, rfl⟩
/-! ### IsInf0 -/
theorem c_IsInf0 (v n : Nat) (w : World) (j : Nat) (hv : v < 2 ^ FloatKind.f64.format.width) : Calls Try.prog 114 #[.float .f64 (pick .f64 v n), .int .i64 0] (w.drewN j) (RetV (.bool (FloatKind.f64.format.order (fabs .f64 v) 9218868437227405311 == some .gt)) w) := by
  go_enter Try.func114, Try.ntmps114
  go_wp2_with ((go_at_call 116; refine (c_Abs _ _ _ _ hv).mono ?_; rintro _ _ ⟨_, _, rfl, rfl⟩))
  go_ret
  exact ⟨_, rfl, rfl⟩
/-! ### isFinite64 -/
theorem c_isFinite64 (v n : Nat) (w : World) (j : Nat) (hv : v < 2 ^ FloatKind.f64.format.width) : Calls Try.prog 95 #[.float .f64 (pick .f64 v n)] (w.drewN j) (RetV (.bool (finB .f64 v)) w) := by
  go_enter Try.func95, Try.ntmps95
  go_wp2_with (first | (go_at_call 111; refine (c_IsNaN _ _ _ _).mono ?_; rintro _ _ ⟨_, rfl, rfl⟩) | (go_at_call 114; refine (c_IsInf0 _ _ _ _ hv).mono ?_; rintro _ _ ⟨_, rfl, rfl⟩))
  all_goals
    go_ret
    refine ⟨_, ?_, rfl⟩
    rw [← abs_gt_max]
    simp [*]
/-! ### iIsFinite -/
theorem c_iIsFinite (v n : Nat) (w : World) (j : Nat) : Calls Try.prog 61 #[.float .f32 (pick .f32 v n)] (w.drewN j) (RetV (.bool (finB .f32 v)) w) := by
  go_enter Try.func61, Try.ntmps61
  go_wp2_with (first | (refine wpList_cvU rfl 22 36 _ rfl (Option.isSome_iff_exists.2 ⟨_, Try.underlying22⟩) Try.underlying36 _ rfl _ ?_; intro _ _) | (go_at_call 95; refine (c_isFinite64 _ _ _ _ (cvU_lt _)).mono ?_; rintro _ _ ⟨_, rfl, rfl⟩))
  go_ret
  rw [← finB_cvU]
  exact ⟨_, rfl, rfl⟩
/-! ### areFinite -/
theorem c_areFinite (a : Option Addr) (len cap : Nat) (zs : List Nat) (w : World) (j0 : Nat) (hr : IsRowF .f32 w a len cap zs) : Calls Try.prog 46 #[.slice a len cap] (w.drewN j0) (RetV (.bool (finL zs)) w) := by
  obtain ⟨h1, h2, h3, h4, h5⟩ := hr
  unfold maxLen at h3
  have H1 := Lib.hid h1
  clear h1
  go_enter Try.func46, Try.ntmps46
  go_wp2
  go_loopw [4, 7] (fun _ i wr => ∃ k m : Nat, k ≤ len ∧ i = .int .i64 k ∧ wr = w.drewN m ∧ finL (zs.take k) = true) (fun _ i _ => len - (intOf i).toNat)
  case atStart => exact ⟨0, j0, Nat.zero_le _, rfl, rfl, rfl⟩
  case round =>
    obtain ⟨k, m, hk, rfl, rfl, hfin⟩ := hrel
    have HFin := Lib.hid hfin
    clear hfin
    by_cases hlt : k < len
    · rcases h5 with h5 | ⟨b, off, rfl, hbl, hc⟩
      · omega
      have hcell : w.cell? ⟨b, off + k, none⟩ = some (.float .f32 (fat zs k)) := hc k hlt
      obtain ⟨n, hn⟩ := pick0 .f32 (fat zs k) (lt_of_wf (h4 _ (by unfold fat; rw [List.getD, List.getElem?_eq_getElem (by have := H1.out; omega)]; exact List.getElem_mem _)))
      rw [hn] at hcell
      have HS := Lib.hid (finL_snoc zs k (by have := H1.out; omega))
      cases hf : finB .f32 (fat zs k)
      · have HO := Lib.hid (finL_of zs k (by have := H1.out; omega) hf)
        clear hc h4 hn
        go_wp2_with ((go_at_call 61; refine (c_iIsFinite _ _ _ _).mono ?_; rintro _ _ ⟨_, rfl, rfl⟩))
        go_ret
        exact ⟨_, by rw [HO.out]; rfl, rfl⟩
      · have HF := Lib.hid hf
        clear hc h4 hn
        go_wp2_with ((go_at_call 61; refine (c_iIsFinite _ _ _ _).mono ?_; rintro _ _ ⟨_, rfl, rfl⟩))
        go_roundw
        case rel => exact ⟨k + 1, _, by omega, by go_num, rfl, by rw [HS.out, HFin.out, HF.out]; rfl⟩
        case measure => simp [intOf]; omega
    · have e : zs.take k = zs := List.take_of_length_le (by have := H1.out; omega)
      have HE := Lib.hid e
      clear h5 h4 e
      go_wp2
      go_ret
      exact ⟨_, by have h := HFin.out; rw [HE.out] at h; rw [h]; rfl, rfl⟩
/-! ### areFinN -/
theorem c_areFinW (a : Option Addr) (len cap : Nat) (zs : List Nat) (w : World) (hr : IsRowF .f32 w a len cap zs) : Calls Try.prog 46 #[.slice a len cap] w (RetV (.bool (finL zs)) w) := by
  have h := c_areFinite a len cap zs w 0 hr
  rwa [w.drewN_zero] at h
theorem row_new (w : World) (b : Nat) (vs : List Nat) (T : TypeId) (hb : b = w.heap.size) (hl : vs.length ≤ 1000) (hwf : ∀ x ∈ vs, (Lit.float .f32 x).wf = true) : IsRowF .f32 (w.alloc (.cells (fl .f32 vs).toArray T)) (some ⟨b, 0, none⟩) vs.length vs.length vs := by
  subst hb
  exact rowF_of_block (heap_alloc_new w _) (by unfold maxLen; omega) hwf

/-! ### wayEq -/
theorem eqWay0 (x0 x1 x2 : Nat) (w : World) : (Op.equalIn 10000 26 (.agg #[.float .f32 x0, .float .f32 x1, .float .f32 x2]) (.agg #[.float .f32 0, .float .f32 0, .float .f32 0])).run Try.prog w = .ok ((FloatKind.f32.format.order x0 0 == some .eq) && (FloatKind.f32.format.order x1 0 == some .eq) && (FloatKind.f32.format.order x2 0 == some .eq)) w := by
  have u3 := Try.underlying22
  rw [show (10000 : Nat) = 9999 + 1 from rfl, run_equalIn_struct _ _ _ _ _ (by kernel_rfl) (by kernel_rfl)]
  have hE : ∀ (x : Nat) (w : World), (Op.equalIn 9999 22 (.float .f32 x) (.float .f32 0)).run Try.prog w = .ok (FloatKind.f32.format.order x 0 == some .eq) w := fun x w => by
    rw [show (9999 : Nat) = 9998 + 1 from rfl, Op.equalIn]
    simp [run_underlying u3, Op.floatEq]
  go_simp
  by_cases h0 : FloatKind.f32.format.order x0 0 = some Ordering.eq
  case neg => simp [h0]
  by_cases h1 : FloatKind.f32.format.order x1 0 = some Ordering.eq
  case neg => simp [h0, h1]
  by_cases h2 : FloatKind.f32.format.order x2 0 = some Ordering.eq
  case neg => simp [h0, h1, h2]
  simp [h0, h1, h2]
/-! ### iIsWay -/
theorem c_iIsWay (r n g m b k : Nat) (w : World) (hr : r < 2 ^ FloatKind.f32.format.width) (hg : g < 2 ^ FloatKind.f32.format.width) (hb : b < 2 ^ FloatKind.f32.format.width) : Calls Try.prog 17 #[.agg #[.float .f32 (pick .f32 r n), .float .f32 (pick .f32 g m), .float .f32 (pick .f32 b k)]] w (RetB (.bool (wayB r g b)) w) := by
  have AF := Lib.hid (fun (w : World) (z : Nat) (hz : z = w.heap.size) => @id (Calls Try.prog 46 #[.slice (some ⟨z, 0, none⟩) 3 3] (w.alloc (.cells #[.float .f32 (pick .f32 r n), .float .f32 (pick .f32 g m), .float .f32 (pick .f32 b k)] 22)) (RetV (.bool (colB r g b)) (w.alloc (.cells #[.float .f32 (pick .f32 r n), .float .f32 (pick .f32 g m), .float .f32 (pick .f32 b k)] 22)))) (by
    have h := c_areFinW _ _ _ _ _ (row_new w z [pick .f32 r n, pick .f32 g m, pick .f32 b k] 22 hz (by simp) (by intro x hx; simp at hx; rcases hx with rfl | rfl | rfl <;> exact pick_wf (by assumption) _))
    rwa [fin3] at h))
  have EQ := eqWay0 (pick .f32 r n) (pick .f32 g m) (pick .f32 b k)
  simp only [order_pick_l] at EQ
  unfold wayB nzB bne
  generalize colB r g b = q at *
  generalize hw0 : w.alloc (Obj.cells #[.float .f32 (pick .f32 r n), .float .f32 (pick .f32 g m), .float .f32 (pick .f32 b k)] 26) = w0
  have X0 : Var w0 w.heap.size #[.float .f32 (pick .f32 r n), .float .f32 (pick .f32 g m), .float .f32 (pick .f32 b k)] := by subst hw0; exact Var.new _ _ _
  have X1 : Below w.heap.size w w0 := by subst hw0; exact (Below.refl _ _).alloc (Nat.le_refl _) _
  have SZ := Lib.hid (show w0.heap.size = w.heap.size + 1 from by subst hw0; simp)
  have HW := Lib.hid hw0
  have B0 := Lib.hid X1
  have V0 := Lib.hid X0
  obtain ⟨q0, q1, q2⟩ := X0.three
  clear hw0 X0 X1
  cases h1 : (FloatKind.f32.format.order r 0 == some .eq) <;> cases h2 : (FloatKind.f32.format.order g 0 == some .eq) <;> cases h3 : (FloatKind.f32.format.order b 0 == some .eq)
  all_goals
    simp only [h1, h2, h3, Bool.true_and, Bool.false_and, Bool.and_false, Bool.and_true] at EQ
    go_enter Try.func17, Try.ntmps17
    go_wp2_with fail
    rw [HW.out]
    go_wp2_with fail
    first
      | (refine (AF.out _ _ (by rw [SZ.out])).mono ?_
         rintro _ _ ⟨m1, rfl, rfl⟩
         go_wp2_with fail
         go_ret
         exact ⟨by simp, below_drewN (B0.out.alloc (B0.out.size) _) _⟩)
      | (go_ret; exact ⟨by simp, B0.out⟩)

/-! ### partOfTurn -/
theorem c_partOfTurn (v : Nat) (w : World) (j : Nat) (hti : floatToIntVal .f64 v .i64 = some (ti v)) : Calls Try.prog 125 #[.float .f64 v] (w.drewN j) (RetF .f64 (partF v) w) := by
  have H := Lib.hid hti
  clear hti
  cases h : (FloatKind.f64.format.order (fop .sub .f64 v (floatOfInt .f64 (ti v))) 0 == some .lt)
  · have e : partF v = fop .sub .f64 v (floatOfInt .f64 (ti v)) := by unfold partF; rw [h, if_neg (by decide)]
    rw [e]
    go_enter Try.func125, Try.ntmps125
    go_wp2_with (first | (first | (refine wpList_fop rfl _ _ _ _ _ rfl _ _ _ rfl rfl (by decide) _ ?_; intro _ _) | (refine upon_fop _ _ _ _ _ (by decide) ?_; intro _ _)) | (refine wpList_ftoi rfl 36 2 _ rfl (Option.isSome_iff_exists.2 ⟨_, Try.underlying36⟩) .i64 Try.underlying2 _ _ rfl (by exact H.out) ?_))
    go_ret
    exact ⟨_, _, rfl, rfl⟩
  · have e : partF v = fop .add .f64 (fop .sub .f64 v (floatOfInt .f64 (ti v))) 4607182418800017408 := by unfold partF; rw [h, if_pos rfl]; rfl
    rw [e]
    go_enter Try.func125, Try.ntmps125
    go_wp2_with (first | (first | (refine wpList_fop rfl _ _ _ _ _ rfl _ _ _ rfl rfl (by decide) _ ?_; intro _ _) | (refine upon_fop _ _ _ _ _ (by decide) ?_; intro _ _)) | (refine wpList_ftoi rfl 36 2 _ rfl (Option.isSome_iff_exists.2 ⟨_, Try.underlying36⟩) .i64 Try.underlying2 _ _ rfl (by exact H.out) ?_))
    go_ret
    exact ⟨_, _, rfl, rfl⟩
/-! ### radians -/

/-! ### sineOf -/
theorem c_sineOf_ff (v f : Nat) (w : World) (j : Nat) (Hti : Hid (floatToIntVal .f64 v .i64 = some (ti v))) (Hf : Hid (partF v = f))
    (hb : (FloatKind.f64.format.order f 4602678819172646912 == some .gt || FloatKind.f64.format.order f 4602678819172646912 == some .eq) = false)
    (hq : (FloatKind.f64.format.order f 4598175219545276416 == some .gt) = false) : Calls Try.prog 117 #[.float .f64 v] (w.drewN j) (RetF .f64 (sinF v) w) := by
  have HF : Hid (sinF v = (sinZ (fop .mul .f64 f 4618760256179416344))) := by
    unfold Hid sinF lowB fold2 half64 quarter64 twopi64; rw [Hf.out, hb]; simp only [if_true, if_false, Bool.false_eq_true, hq]
  go_enter Try.func117, Try.ntmps117
  go_wp2_with (first | (first | (refine wpList_fop rfl _ _ _ _ _ rfl _ _ _ rfl rfl (by decide) _ ?_; intro _ _) | (refine upon_fop _ _ _ _ _ (by decide) ?_; intro _ _)) | (go_at_call 125; refine (c_partOfTurn _ _ _ Hti.out).mono ?_; rw [Hf.out]; rintro _ _ ⟨_, _, rfl, rfl⟩) | go_in)
  generalize hu : fop .mul .f64 (fop .mul .f64 f 4618760256179416344) (fop .mul .f64 f 4618760256179416344) = u
  have Hu := Lib.hid hu
  clear hu
  go_loopw [7, 8] (fun p k wr => ∃ i n m : Nat, i ≤ 8 ∧ p = .float .f64 (pick .f64 (ser u i) n) ∧ k = .float .f64 (kfl i) ∧ wr = w.drewN m) (fun _ k _ => fbits k)
  case atStart => exact ⟨0, 0, _, by omega, by rw [pick_not (show isN .f64 (ser u 0) = false from (by decide +kernel : isN .f64 one64 = false))]; rfl, rfl, rfl⟩
  case round =>
    obtain ⟨i, n, m, hi, rfl, rfl, rfl⟩ := hrel
    by_cases hlt : i < 8
    · have ht := kfl_test i hlt
      unfold one64 at ht
      have HD := Lib.hid (kfl_den i hlt)
      have HN := Lib.hid (kfl_next i hlt)
      have HL := Lib.hid (kfl_lt i hlt)
      go_wp2_with (first | (refine wpList_fop rfl _ _ _ _ _ rfl _ _ _ rfl rfl (by decide) _ ?_; intro _ _) | (refine upon_fop _ _ _ _ _ (by decide) ?_; intro _ _))
      go_roundw
      case rel => exact ⟨i + 1, _, _, by omega, by rw [ser_step, ← HD.out]; rfl, by have e := HN.out; unfold one64 at e; rw [e, pick_not (kfl_notN _)], rfl⟩
      case measure => have e := HN.out; unfold one64 at e; rw [e, pick_not (kfl_notN _)]; exact HL.out
    · obtain rfl : i = 8 := by omega
      have ht := kfl_end
      unfold one64 at ht
      go_wp2_with (first | (refine wpList_fop rfl _ _ _ _ _ rfl _ _ _ rfl rfl (by decide) _ ?_; intro _ _) | (refine upon_fop _ _ _ _ _ (by decide) ?_; intro _ _))
      go_ret
      rw [HF.out]
      unfold sinZ
      rw [Hu.out]
      exact ⟨_, _, rfl, rfl⟩
theorem c_sineOf_ft (v f : Nat) (w : World) (j : Nat) (Hti : Hid (floatToIntVal .f64 v .i64 = some (ti v))) (Hf : Hid (partF v = f))
    (hb : (FloatKind.f64.format.order f 4602678819172646912 == some .gt || FloatKind.f64.format.order f 4602678819172646912 == some .eq) = false)
    (hq : (FloatKind.f64.format.order f 4598175219545276416 == some .gt) = true) : Calls Try.prog 117 #[.float .f64 v] (w.drewN j) (RetF .f64 (sinF v) w) := by
  have HF : Hid (sinF v = (sinZ (fop .mul .f64 (fop .sub .f64 4602678819172646912 f) 4618760256179416344))) := by
    unfold Hid sinF lowB fold2 half64 quarter64 twopi64; rw [Hf.out, hb]; simp only [if_true, if_false, Bool.false_eq_true, hq]
  go_enter Try.func117, Try.ntmps117
  go_wp2_with (first | (first | (refine wpList_fop rfl _ _ _ _ _ rfl _ _ _ rfl rfl (by decide) _ ?_; intro _ _) | (refine upon_fop _ _ _ _ _ (by decide) ?_; intro _ _)) | (go_at_call 125; refine (c_partOfTurn _ _ _ Hti.out).mono ?_; rw [Hf.out]; rintro _ _ ⟨_, _, rfl, rfl⟩) | go_in)
  generalize hu : fop .mul .f64 (fop .mul .f64 (fop .sub .f64 4602678819172646912 f) 4618760256179416344) (fop .mul .f64 (fop .sub .f64 4602678819172646912 f) 4618760256179416344) = u
  have Hu := Lib.hid hu
  clear hu
  go_loopw [7, 8] (fun p k wr => ∃ i n m : Nat, i ≤ 8 ∧ p = .float .f64 (pick .f64 (ser u i) n) ∧ k = .float .f64 (kfl i) ∧ wr = w.drewN m) (fun _ k _ => fbits k)
  case atStart => exact ⟨0, 0, _, by omega, by rw [pick_not (show isN .f64 (ser u 0) = false from (by decide +kernel : isN .f64 one64 = false))]; rfl, rfl, rfl⟩
  case round =>
    obtain ⟨i, n, m, hi, rfl, rfl, rfl⟩ := hrel
    by_cases hlt : i < 8
    · have ht := kfl_test i hlt
      unfold one64 at ht
      have HD := Lib.hid (kfl_den i hlt)
      have HN := Lib.hid (kfl_next i hlt)
      have HL := Lib.hid (kfl_lt i hlt)
      go_wp2_with (first | (refine wpList_fop rfl _ _ _ _ _ rfl _ _ _ rfl rfl (by decide) _ ?_; intro _ _) | (refine upon_fop _ _ _ _ _ (by decide) ?_; intro _ _))
      go_roundw
      case rel => exact ⟨i + 1, _, _, by omega, by rw [ser_step, ← HD.out]; rfl, by have e := HN.out; unfold one64 at e; rw [e, pick_not (kfl_notN _)], rfl⟩
      case measure => have e := HN.out; unfold one64 at e; rw [e, pick_not (kfl_notN _)]; exact HL.out
    · obtain rfl : i = 8 := by omega
      have ht := kfl_end
      unfold one64 at ht
      go_wp2_with (first | (refine wpList_fop rfl _ _ _ _ _ rfl _ _ _ rfl rfl (by decide) _ ?_; intro _ _) | (refine upon_fop _ _ _ _ _ (by decide) ?_; intro _ _))
      go_ret
      rw [HF.out]
      unfold sinZ
      rw [Hu.out]
      exact ⟨_, _, rfl, rfl⟩
theorem c_sineOf_tf (v f : Nat) (w : World) (j : Nat) (Hti : Hid (floatToIntVal .f64 v .i64 = some (ti v))) (Hf : Hid (partF v = f))
    (hb : (FloatKind.f64.format.order f 4602678819172646912 == some .gt || FloatKind.f64.format.order f 4602678819172646912 == some .eq) = true)
    (hq : (FloatKind.f64.format.order (fop .sub .f64 f 4602678819172646912) 4598175219545276416 == some .gt) = false) : Calls Try.prog 117 #[.float .f64 v] (w.drewN j) (RetF .f64 (sinF v) w) := by
  have HF : Hid (sinF v = fneg .f64 (sinZ (fop .mul .f64 (fop .sub .f64 f 4602678819172646912) 4618760256179416344))) := by
    unfold Hid sinF lowB fold2 half64 quarter64 twopi64; rw [Hf.out, hb]; simp only [if_true, if_false, Bool.false_eq_true, hq]
  go_enter Try.func117, Try.ntmps117
  go_wp2_with (first | (first | (refine wpList_fop rfl _ _ _ _ _ rfl _ _ _ rfl rfl (by decide) _ ?_; intro _ _) | (refine upon_fop _ _ _ _ _ (by decide) ?_; intro _ _)) | (go_at_call 125; refine (c_partOfTurn _ _ _ Hti.out).mono ?_; rw [Hf.out]; rintro _ _ ⟨_, _, rfl, rfl⟩) | go_in)
  generalize hu : fop .mul .f64 (fop .mul .f64 (fop .sub .f64 f 4602678819172646912) 4618760256179416344) (fop .mul .f64 (fop .sub .f64 f 4602678819172646912) 4618760256179416344) = u
  have Hu := Lib.hid hu
  clear hu
  go_loopw [7, 8] (fun p k wr => ∃ i n m : Nat, i ≤ 8 ∧ p = .float .f64 (pick .f64 (ser u i) n) ∧ k = .float .f64 (kfl i) ∧ wr = w.drewN m) (fun _ k _ => fbits k)
  case atStart => exact ⟨0, 0, _, by omega, by rw [pick_not (show isN .f64 (ser u 0) = false from (by decide +kernel : isN .f64 one64 = false))]; rfl, rfl, rfl⟩
  case round =>
    obtain ⟨i, n, m, hi, rfl, rfl, rfl⟩ := hrel
    by_cases hlt : i < 8
    · have ht := kfl_test i hlt
      unfold one64 at ht
      have HD := Lib.hid (kfl_den i hlt)
      have HN := Lib.hid (kfl_next i hlt)
      have HL := Lib.hid (kfl_lt i hlt)
      go_wp2_with (first | (refine wpList_fop rfl _ _ _ _ _ rfl _ _ _ rfl rfl (by decide) _ ?_; intro _ _) | (refine upon_fop _ _ _ _ _ (by decide) ?_; intro _ _))
      go_roundw
      case rel => exact ⟨i + 1, _, _, by omega, by rw [ser_step, ← HD.out]; rfl, by have e := HN.out; unfold one64 at e; rw [e, pick_not (kfl_notN _)], rfl⟩
      case measure => have e := HN.out; unfold one64 at e; rw [e, pick_not (kfl_notN _)]; exact HL.out
    · obtain rfl : i = 8 := by omega
      have ht := kfl_end
      unfold one64 at ht
      go_wp2_with (first | (refine wpList_fop rfl _ _ _ _ _ rfl _ _ _ rfl rfl (by decide) _ ?_; intro _ _) | (refine upon_fop _ _ _ _ _ (by decide) ?_; intro _ _))
      go_ret
      rw [HF.out]
      unfold sinZ
      rw [Hu.out]
      exact ⟨_, _, rfl, rfl⟩
theorem c_sineOf_tt (v f : Nat) (w : World) (j : Nat) (Hti : Hid (floatToIntVal .f64 v .i64 = some (ti v))) (Hf : Hid (partF v = f))
    (hb : (FloatKind.f64.format.order f 4602678819172646912 == some .gt || FloatKind.f64.format.order f 4602678819172646912 == some .eq) = true)
    (hq : (FloatKind.f64.format.order (fop .sub .f64 f 4602678819172646912) 4598175219545276416 == some .gt) = true) : Calls Try.prog 117 #[.float .f64 v] (w.drewN j) (RetF .f64 (sinF v) w) := by
  have HF : Hid (sinF v = fneg .f64 (sinZ (fop .mul .f64 (fop .sub .f64 4602678819172646912 (fop .sub .f64 f 4602678819172646912)) 4618760256179416344))) := by
    unfold Hid sinF lowB fold2 half64 quarter64 twopi64; rw [Hf.out, hb]; simp only [if_true, if_false, Bool.false_eq_true, hq]
  go_enter Try.func117, Try.ntmps117
  go_wp2_with (first | (first | (refine wpList_fop rfl _ _ _ _ _ rfl _ _ _ rfl rfl (by decide) _ ?_; intro _ _) | (refine upon_fop _ _ _ _ _ (by decide) ?_; intro _ _)) | (go_at_call 125; refine (c_partOfTurn _ _ _ Hti.out).mono ?_; rw [Hf.out]; rintro _ _ ⟨_, _, rfl, rfl⟩) | go_in)
  generalize hu : fop .mul .f64 (fop .mul .f64 (fop .sub .f64 4602678819172646912 (fop .sub .f64 f 4602678819172646912)) 4618760256179416344) (fop .mul .f64 (fop .sub .f64 4602678819172646912 (fop .sub .f64 f 4602678819172646912)) 4618760256179416344) = u
  have Hu := Lib.hid hu
  clear hu
  go_loopw [7, 8] (fun p k wr => ∃ i n m : Nat, i ≤ 8 ∧ p = .float .f64 (pick .f64 (ser u i) n) ∧ k = .float .f64 (kfl i) ∧ wr = w.drewN m) (fun _ k _ => fbits k)
  case atStart => exact ⟨0, 0, _, by omega, by rw [pick_not (show isN .f64 (ser u 0) = false from (by decide +kernel : isN .f64 one64 = false))]; rfl, rfl, rfl⟩
  case round =>
    obtain ⟨i, n, m, hi, rfl, rfl, rfl⟩ := hrel
    by_cases hlt : i < 8
    · have ht := kfl_test i hlt
      unfold one64 at ht
      have HD := Lib.hid (kfl_den i hlt)
      have HN := Lib.hid (kfl_next i hlt)
      have HL := Lib.hid (kfl_lt i hlt)
      go_wp2_with (first | (refine wpList_fop rfl _ _ _ _ _ rfl _ _ _ rfl rfl (by decide) _ ?_; intro _ _) | (refine upon_fop _ _ _ _ _ (by decide) ?_; intro _ _))
      go_roundw
      case rel => exact ⟨i + 1, _, _, by omega, by rw [ser_step, ← HD.out]; rfl, by have e := HN.out; unfold one64 at e; rw [e, pick_not (kfl_notN _)], rfl⟩
      case measure => have e := HN.out; unfold one64 at e; rw [e, pick_not (kfl_notN _)]; exact HL.out
    · obtain rfl : i = 8 := by omega
      have ht := kfl_end
      unfold one64 at ht
      go_wp2_with (first | (refine wpList_fop rfl _ _ _ _ _ rfl _ _ _ rfl rfl (by decide) _ ?_; intro _ _) | (refine upon_fop _ _ _ _ _ (by decide) ?_; intro _ _))
      go_ret
      rw [HF.out]
      unfold sinZ
      rw [Hu.out]
      exact ⟨_, _, rfl, rfl⟩
/-! ### sineAll -/
theorem c_sineOf (v : Nat) (w : World) (j : Nat) (hti : floatToIntVal .f64 v .i64 = some (ti v)) : Calls Try.prog 117 #[.float .f64 v] (w.drewN j) (RetF .f64 (sinF v) w) := by
  cases hb : (FloatKind.f64.format.order (partF v) 4602678819172646912 == some .gt || FloatKind.f64.format.order (partF v) 4602678819172646912 == some .eq)
  · cases hq : (FloatKind.f64.format.order (partF v) 4598175219545276416 == some .gt)
    · exact c_sineOf_ff v _ w j hti rfl hb hq
    · exact c_sineOf_ft v _ w j hti rfl hb hq
  · cases hq : (FloatKind.f64.format.order (fop .sub .f64 (partF v) 4602678819172646912) 4598175219545276416 == some .gt)
    · exact c_sineOf_tf v _ w j hti rfl hb hq
    · exact c_sineOf_tt v _ w j hti rfl hb hq

/-! ### f32from -/
@[go_sem] theorem e_f32from (n : Int) (w : World) : (callFunc 122 #[.int .u32 n]).run Try.prog w = .ok (.value (.float .f32 n.toNat)) w := by kernel_rfl
/-! ### notANumber -/
theorem c_notANumber (w : World) (j : Nat) : Calls Try.prog 108 #[] (w.drewN j) (RetV (.float .f32 2143289344) w) := by
  go_enter Try.func108, Try.ntmps108
  go_wp2
  go_ret
  exact ⟨_, rfl, rfl⟩
/-! ### iSineTurns -/
theorem c_NarrowNumber (v n : Nat) (w : World) (j : Nat) (hfit : Fits v) : Calls Try.prog 91 #[.float .f64 (pick .f64 v n)] (w.drewN j) (RetF .f32 (cvN v) w) := by
  have H := Lib.hid hfit
  clear hfit
  go_enter Try.func91, Try.ntmps91
  go_wp2_with ((refine wpList_cvN rfl 36 22 _ rfl (Option.isSome_iff_exists.2 ⟨_, Try.underlying36⟩) Try.underlying22 _ rfl _ (by rw [Fits_pick]; exact H.out) ?_; intro _ _))
  go_ret
  exact ⟨_, _, rfl, rfl⟩
theorem c_iSineTurns (v n : Nat) (w : World) (j : Nat) (hv : v < 2 ^ FloatKind.f32.format.width) : Calls Try.prog 98 #[.float .f32 (pick .f32 v n)] (w.drewN j) (RetF .f32 (sineT v) w) := by
  cases hf : finB .f32 v
  · have e : sineT v = qn .f32 := by unfold sineT; rw [hf, if_neg (by decide)]
    obtain ⟨n0, hn0⟩ := nanOf_onto .f32 2143289344 (by decide +kernel) (by decide +kernel)
    rw [e]
    have H := Lib.hid hn0
    clear hn0
    go_enter Try.func98, Try.ntmps98
    go_wp2_with (first | (go_at_call 61; refine (c_iIsFinite _ _ _ _).mono ?_; rintro _ _ ⟨_, rfl, rfl⟩) | (go_at_call 108; refine (c_notANumber _ _).mono ?_; rintro _ _ ⟨_, rfl, rfl⟩))
    go_ret
    exact ⟨n0, _, by simp only [pick, isN_qn, if_true]; rw [← H.out]; rfl, rfl⟩
  · have hn : isN .f64 (cvU v) = false := by rw [isN_cvU]; exact notN_fin (k := .f32) (of_decide_eq_true hf)
    obtain ⟨g1, g2⟩ := big_abs (cvU v) hn
    clear g1
    have hp := pick_not hn
    cases hb : decide (4841369599423283200 ≤ rung Ieee.double (cvU v))
    · obtain ⟨k1, k2, k3⟩ := fin_small hf hb
      have e : sineT v = cvN (sinF (cvU v)) := by unfold sineT; rw [hf, if_pos rfl, hb, if_neg (by decide)]
      rw [e]
      rw [hb] at g2
      have H := Lib.hid (And.intro k2 k3)
      clear k1 k2 k3 hn
      go_enter Try.func98, Try.ntmps98
      go_wp2_with (first | (refine wpList_cvU rfl 22 36 _ rfl (Option.isSome_iff_exists.2 ⟨_, Try.underlying22⟩) Try.underlying36 _ rfl _ ?_; intro _ _) | (go_at_call 61; refine (c_iIsFinite _ _ _ _).mono ?_; rintro _ _ ⟨_, rfl, rfl⟩) | (go_at_call 116; rw [← hp 0]; refine (c_Abs _ _ _ _ (cvU_lt _)).mono ?_; rintro _ _ ⟨_, _, rfl, rfl⟩) | (go_at_call 117; refine (c_sineOf _ _ _ H.out.1).mono ?_; rintro _ _ ⟨_, _, rfl, rfl⟩) | (go_at_call 91; refine (c_NarrowNumber _ _ _ _ (Fits_sin H.out.2)).mono ?_; rintro _ _ ⟨_, _, rfl, rfl⟩))
      go_ret
      exact ⟨_, _, rfl, rfl⟩
    · have e : sineT v = 0 := by unfold sineT; rw [hf, if_pos rfl, hb, if_pos rfl]
      rw [e]
      rw [hb] at g2
      clear hn
      go_enter Try.func98, Try.ntmps98
      go_wp2_with (first | (refine wpList_cvU rfl 22 36 _ rfl (Option.isSome_iff_exists.2 ⟨_, Try.underlying22⟩) Try.underlying36 _ rfl _ ?_; intro _ _) | (go_at_call 61; refine (c_iIsFinite _ _ _ _).mono ?_; rintro _ _ ⟨_, rfl, rfl⟩) | (go_at_call 116; rw [← hp 0]; refine (c_Abs _ _ _ _ (cvU_lt _)).mono ?_; rintro _ _ ⟨_, _, rfl, rfl⟩))
      go_ret
      exact ⟨0, _, by rw [pick_not (show isN .f32 0 = false by decide +kernel)]; rfl, rfl⟩
/-! ### cosineTurns -/
theorem c_cosineTurns (v n : Nat) (w : World) (j : Nat) : Calls Try.prog 97 #[.float .f32 (pick .f32 v n)] (w.drewN j) (RetF .f32 (cosT v) w) := by
  unfold cosT
  go_enter Try.func97, Try.ntmps97
  go_wp2_with (first | (first | (refine wpList_fop rfl _ _ _ _ _ rfl _ _ _ rfl rfl (by decide) _ ?_; intro _ _) | (refine upon_fop _ _ _ _ _ (by decide) ?_; intro _ _)) | (go_at_call 98; refine (c_iSineTurns _ _ _ _ (fop_lt _ _ _ _)).mono ?_; rintro _ _ ⟨_, _, rfl, rfl⟩))
  go_ret
  exact ⟨_, _, rfl, rfl⟩
/-! ### turningBy -/
theorem c_turningBy (v n : Nat) (w : World) (j : Nat) (hv : v < 2 ^ FloatKind.f32.format.width) : Calls Try.prog 63 #[.float .f32 (pick .f32 v n)] (w.drewN j) (RetC .f32 (cosT v) (sineT v) w) := by
  go_enter Try.func63, Try.ntmps63
  go_wp2_with (first | (go_at_call 97; refine (c_cosineTurns _ _ _ _).mono ?_; rintro _ _ ⟨_, _, rfl, rfl⟩) | (go_at_call 98; refine (c_iSineTurns _ _ _ _ hv).mono ?_; rintro _ _ ⟨_, _, rfl, rfl⟩))
  go_ret
  exact ⟨_, _, _, rfl, rfl⟩
theorem c_turningBy0 (v n : Nat) (w : World) (hv : v < 2 ^ FloatKind.f32.format.width) : Calls Try.prog 63 #[.float .f32 (pick .f32 v n)] w (RetC .f32 (cosT v) (sineT v) w) := by
  have h := c_turningBy v n w 0 hv
  rwa [w.drewN_zero] at h
/-! ### ifWay -/
theorem c_ifWay (ar an ag am ab ak : Nat) (w : World) (har : ar < 2 ^ FloatKind.f32.format.width) (hag : ag < 2 ^ FloatKind.f32.format.width) (hab : ab < 2 ^ FloatKind.f32.format.width) : Calls Try.prog 52 #[.agg #[.float .f32 (pick .f32 ar an), .float .f32 (pick .f32 ag am), .float .f32 (pick .f32 ab ak)]] w (WayB2 (giveW (ar, ag, ab)) w) := by
  generalize hw0 : (w.alloc (Obj.cells #[.float .f32 (pick .f32 ar an), .float .f32 (pick .f32 ag am), .float .f32 (pick .f32 ab ak)] 26)).alloc (Obj.cells #[.float .f32 0, .float .f32 0, .float .f32 0] 26) = w0
  have Va_0 := Lib.hid (show Var w0 (w.heap.size) #[.float .f32 (pick .f32 ar an), .float .f32 (pick .f32 ag am), .float .f32 (pick .f32 ab ak)] from by subst hw0; exact ((Var.new' _ _ _ _ (by first | rfl | simp)).alloc _))
  have Vz_0 := Lib.hid (show Var w0 (w.heap.size + 1) #[.float .f32 0, .float .f32 0, .float .f32 0] from by subst hw0; exact (Var.new' _ _ _ _ (by first | rfl | simp)))
  have F_0 := Lib.hid (show Free w0 (w.heap.size + 1) from by subst hw0; exact Free.new' _ _ _ _ (by first | rfl | simp))
  have B_0 := Lib.hid (show Below w.heap.size w w0 from by subst hw0; exact (((Below.refl _ _).alloc (Nat.le_refl _) _).alloc (by simp) _))
  have SZ := Lib.hid (show w0.heap.size = w.heap.size + 2 from by subst hw0; simp)
  have HW := Lib.hid hw0
  clear hw0
  have CF := Lib.hid (fun w => c_iIsWay ar an ag am ab ak w har hag hab)
  cases hq : wayB ar ag ab
  all_goals rw [hq] at CF
  · obtain ⟨ca0, ca1, ca2⟩ := Va_0.out.three
    obtain ⟨cz0, cz1, cz2⟩ := Vz_0.out.three
    have f0 := F_0.out 0
    have f1 := F_0.out 1
    have f2 := F_0.out 2
    go_enter Try.func52, Try.ntmps52
    go_wp2_with fail
    rw [HW.out]
    go_wp2_with fail
    refine (CF.out _).mono ?_
    rintro _ w1 ⟨rfl, b⟩
    have Va_1 := Lib.hid (Va_0.out.keep b)
    have Vz_1 := Lib.hid (Vz_0.out.keep b)
    have F_1 := Lib.hid (F_0.out.below Vz_0.out.lt b)
    have B_1 := Lib.hid (B_0.out.trans (b.mono B_0.out.size))
    clear ca0 ca1 ca2 cz0 cz1 cz2 f0 f1 f2
    clear Va_0 Vz_0 F_0 B_0 b
    obtain ⟨ca0, ca1, ca2⟩ := Va_1.out.three
    obtain ⟨cz0, cz1, cz2⟩ := Vz_1.out.three
    have f0 := F_1.out 0
    have f1 := F_1.out 1
    have f2 := F_1.out 2
    go_wp2_with fail
    refine bodyPost_ret (v := .tuple #[.agg #[.float .f32 0, .float .f32 0, .float .f32 0], .bool false]) (by simp [results, Try.results52, cz0, cz1, cz2, go_sem]) rfl ?_
    rw [giveW_lt_no hq]; refine WayB2.no rfl ?_
    repeat (first | exact B_1.out | exact Nat.le_refl _ | (refine Below.setCell ?_ ?_ _) | (refine below_drewN ?_ _) | (refine Below.alloc ?_ ?_ _) | (simp <;> omega))
  · obtain ⟨ca0, ca1, ca2⟩ := Va_0.out.three
    obtain ⟨cz0, cz1, cz2⟩ := Vz_0.out.three
    have f0 := F_0.out 0
    have f1 := F_0.out 1
    have f2 := F_0.out 2
    go_enter Try.func52, Try.ntmps52
    go_wp2_with fail
    rw [HW.out]
    go_wp2_with fail
    refine (CF.out _).mono ?_
    rintro _ w1 ⟨rfl, b⟩
    have Va_1 := Lib.hid (Va_0.out.keep b)
    have Vz_1 := Lib.hid (Vz_0.out.keep b)
    have F_1 := Lib.hid (F_0.out.below Vz_0.out.lt b)
    have B_1 := Lib.hid (B_0.out.trans (b.mono B_0.out.size))
    clear ca0 ca1 ca2 cz0 cz1 cz2 f0 f1 f2
    clear Va_0 Vz_0 F_0 B_0 b
    obtain ⟨ca0, ca1, ca2⟩ := Va_1.out.three
    obtain ⟨cz0, cz1, cz2⟩ := Vz_1.out.three
    have f0 := F_1.out 0
    have f1 := F_1.out 1
    have f2 := F_1.out 2
    go_wp2_with fail
    refine bodyPost_ret (v := .tuple #[.agg #[.float .f32 (pick .f32 ar an), .float .f32 (pick .f32 ag am), .float .f32 (pick .f32 ab ak)], .bool true]) (by simp [results, Try.results52, cz0, cz1, cz2, go_sem]) rfl ?_
    rw [giveW_yes hq]; refine ⟨_, _, _, rfl, ?_⟩
    repeat (first | exact B_1.out | exact Nat.le_refl _ | (refine Below.setCell ?_ ?_ _) | (refine below_drewN ?_ _) | (refine Below.alloc ?_ ?_ _) | (simp <;> omega))
/-! ### iLess -/
theorem c_iLess (a n b m c k d l : Nat) (w : World) (j : Nat) : Calls Try.prog 115 #[.float .f32 (pick .f32 a n), .float .f32 (pick .f32 b m), .float .f32 (pick .f32 c k), .float .f32 (pick .f32 d l)] (w.drewN j) (RetF .f32 (lessV a b c d) w) := by
  unfold lessV
  go_enter Try.func115, Try.ntmps115
  go_wp2_with (first | (refine wpList_fop rfl _ _ _ _ _ rfl _ _ _ rfl rfl (by decide) _ ?_; intro _ _) | (refine upon_fop _ _ _ _ _ (by decide) ?_; intro _ _))
  go_ret
  exact ⟨_, _, rfl, rfl⟩
theorem c_iLess0 (a n b m c k d l : Nat) (w : World) : Calls Try.prog 115 #[.float .f32 (pick .f32 a n), .float .f32 (pick .f32 b m), .float .f32 (pick .f32 c k), .float .f32 (pick .f32 d l)] w (RetF .f32 (lessV a b c d) w) := by
  have h := c_iLess a n b m c k d l w 0
  rwa [w.drewN_zero] at h
/-! ### turnedPair -/
theorem c_turnedPair (a n b m c k s l : Nat) (w : World) (j : Nat) : Calls Try.prog 96 #[.complex .f32 (pick .f32 a n) (pick .f32 b m), .complex .f32 (pick .f32 c k) (pick .f32 s l)] (w.drewN j) (RetC .f32 (lessV c a s b) (sumV s a c b) w) := by
  unfold sumV
  go_enter Try.func96, Try.ntmps96
  go_wp2_with (first | (first | (refine wpList_fop rfl _ _ _ _ _ rfl _ _ _ rfl rfl (by decide) _ ?_; intro _ _) | (refine upon_fop _ _ _ _ _ (by decide) ?_; intro _ _)) | (go_at_call 115; refine (c_iLess _ _ _ _ _ _ _ _ _ _).mono ?_; rintro _ _ ⟨_, _, rfl, rfl⟩))
  go_ret
  exact ⟨_, _, _, rfl, rfl⟩
/-! ### turnedWay -/
theorem c_turnedWay (ar an ag am ab ak : Nat) (c q s l : Nat) (w : World) : Calls Try.prog 62 #[.agg #[.float .f32 (pick .f32 ar an), .float .f32 (pick .f32 ag am), .float .f32 (pick .f32 ab ak)], .complex .f32 (pick .f32 c q) (pick .f32 s l)] w (WayR (turT ar ag ab c s) w) := by
  generalize hw0 : (w.alloc (Obj.cells #[.float .f32 (pick .f32 ar an), .float .f32 (pick .f32 ag am), .float .f32 (pick .f32 ab ak)] 26)).alloc (Obj.cells #[.float .f32 0, .float .f32 0, .float .f32 0] 26) = w0
  have Va_0 := Lib.hid (show Var w0 (w.heap.size) #[.float .f32 (pick .f32 ar an), .float .f32 (pick .f32 ag am), .float .f32 (pick .f32 ab ak)] from by subst hw0; exact ((Var.new' _ _ _ _ (by first | rfl | simp)).alloc _))
  have Vz_0 := Lib.hid (show Var w0 (w.heap.size + 1) #[.float .f32 0, .float .f32 0, .float .f32 0] from by subst hw0; exact (Var.new' _ _ _ _ (by first | rfl | simp)))
  have F_0 := Lib.hid (show Free w0 (w.heap.size + 1) from by subst hw0; exact Free.new' _ _ _ _ (by first | rfl | simp))
  have B_0 := Lib.hid (show Below w.heap.size w w0 from by subst hw0; exact (((Below.refl _ _).alloc (Nat.le_refl _) _).alloc (by simp) _))
  have SZ := Lib.hid (show w0.heap.size = w.heap.size + 2 from by subst hw0; simp)
  have HW := Lib.hid hw0
  clear hw0
  obtain ⟨ca0, ca1, ca2⟩ := Va_0.out.three
  obtain ⟨cz0, cz1, cz2⟩ := Vz_0.out.three
  have f0 := F_0.out 0
  have f1 := F_0.out 1
  have f2 := F_0.out 2
  go_enter Try.func62, Try.ntmps62
  go_wp2_with fail
  rw [HW.out]
  rw [← w0.drewN_zero]
  go_wp2_with (go_at_call 96; refine (c_turnedPair _ _ _ _ _ _ _ _ _ _).mono ?_; rintro _ _ ⟨k1, k2, _, rfl, rfl⟩)
  refine bodyPost_ret (v := .agg #[.float .f32 (pick .f32 (lessV c ar s ag) k1), .float .f32 (pick .f32 (sumV s ar c ag) k2), .float .f32 (pick .f32 (ab) ak)]) (by simp [results, Try.results62, cz0, cz1, cz2, go_sem]) rfl ⟨_, _, _, rfl, ?_⟩
  repeat (first | exact B_0.out | exact Nat.le_refl _ | (refine Below.setCell ?_ ?_ _) | (refine below_drewN ?_ _) | (refine Below.alloc ?_ ?_ _) | (simp <;> omega))
/-! ### iTurnWay -/
theorem c_iTurnWay (ar an ag am ab ak : Nat) (t tn : Nat) (w : World) (har : ar < 2 ^ FloatKind.f32.format.width) (hag : ag < 2 ^ FloatKind.f32.format.width) (hab : ab < 2 ^ FloatKind.f32.format.width) (ht : t < 2 ^ FloatKind.f32.format.width) : Calls Try.prog 27 #[.agg #[.float .f32 (pick .f32 ar an), .float .f32 (pick .f32 ag am), .float .f32 (pick .f32 ab ak)], .float .f32 (pick .f32 t tn)] w (WayB2 (turnW ar ag ab t) w) := by
  generalize hw0 : (w.alloc (Obj.cells #[.float .f32 (pick .f32 ar an), .float .f32 (pick .f32 ag am), .float .f32 (pick .f32 ab ak)] 26)).alloc (Obj.cells #[.float .f32 0, .float .f32 0, .float .f32 0] 26) = w0
  have Va_0 := Lib.hid (show Var w0 (w.heap.size) #[.float .f32 (pick .f32 ar an), .float .f32 (pick .f32 ag am), .float .f32 (pick .f32 ab ak)] from by subst hw0; exact ((Var.new' _ _ _ _ (by first | rfl | simp)).alloc _))
  have Vz_0 := Lib.hid (show Var w0 (w.heap.size + 1) #[.float .f32 0, .float .f32 0, .float .f32 0] from by subst hw0; exact (Var.new' _ _ _ _ (by first | rfl | simp)))
  have F_0 := Lib.hid (show Free w0 (w.heap.size + 1) from by subst hw0; exact Free.new' _ _ _ _ (by first | rfl | simp))
  have B_0 := Lib.hid (show Below w.heap.size w w0 from by subst hw0; exact (((Below.refl _ _).alloc (Nat.le_refl _) _).alloc (by simp) _))
  have SZ := Lib.hid (show w0.heap.size = w.heap.size + 2 from by subst hw0; simp)
  have HW := Lib.hid hw0
  clear hw0
  obtain ⟨res, hres⟩ : ∃ q, q = turnW ar ag ab t := ⟨_, rfl⟩
  rw [← hres]
  have CQ := Lib.hid (fun w => c_iIsWay ar an ag am ab ak w har hag hab)
  have CG := Lib.hid (fun n m k w => c_ifWay (lessV (cosT t) ar (sineT t) ag) n (sumV (sineT t) ar (cosT t) ag) m (ab) k w (fop_lt _ _ _ _) (fop_lt _ _ _ _) hab)
  have CT := Lib.hid (fun q l w => c_turnedWay ar an ag am ab ak (cosT t) q (sineT t) l w)
  cases hq : wayB ar ag ab
  all_goals rw [hq] at CQ
  · have RES := Lib.hid (hres.trans (turnW_no (t := t) (.inl hq)).1)
    obtain ⟨ca0, ca1, ca2⟩ := Va_0.out.three
    obtain ⟨cz0, cz1, cz2⟩ := Vz_0.out.three
    have f0 := F_0.out 0
    have f1 := F_0.out 1
    have f2 := F_0.out 2
    go_enter Try.func27, Try.ntmps27
    go_wp2_with fail
    rw [HW.out]
    go_wp2_with fail
    refine (CQ.out _).mono ?_
    rintro _ w1 ⟨rfl, b⟩
    have Va_1 := Lib.hid (Va_0.out.keep b)
    have Vz_1 := Lib.hid (Vz_0.out.keep b)
    have F_1 := Lib.hid (F_0.out.below Vz_0.out.lt b)
    have B_1 := Lib.hid (B_0.out.trans (b.mono B_0.out.size))
    clear ca0 ca1 ca2 cz0 cz1 cz2 f0 f1 f2
    clear Va_0 Vz_0 F_0 B_0 b
    obtain ⟨ca0, ca1, ca2⟩ := Va_1.out.three
    obtain ⟨cz0, cz1, cz2⟩ := Vz_1.out.three
    have f0 := F_1.out 0
    have f1 := F_1.out 1
    have f2 := F_1.out 2
    go_wp2_with fail
    refine bodyPost_ret (v := .tuple #[.agg #[.float .f32 0, .float .f32 0, .float .f32 0], .bool false]) (by simp [results, Try.results27, cz0, cz1, cz2, go_sem]) rfl ?_
    rw [RES.out]; refine WayB2.no rfl ?_
    repeat (first | exact B_1.out | exact Nat.le_refl _ | (refine Below.setCell ?_ ?_ _) | (refine below_drewN ?_ _) | (refine Below.alloc ?_ ?_ _) | (simp <;> omega))
  · have CF := Lib.hid (fun w k j => c_iIsFinite t k w j)
    cases hf : finB .f32 t
    all_goals rw [hf] at CF
    · have RES := Lib.hid (hres.trans (turnW_no (.inr hf)).1)
      obtain ⟨ca0, ca1, ca2⟩ := Va_0.out.three
      obtain ⟨cz0, cz1, cz2⟩ := Vz_0.out.three
      have f0 := F_0.out 0
      have f1 := F_0.out 1
      have f2 := F_0.out 2
      go_enter Try.func27, Try.ntmps27
      go_wp2_with fail
      rw [HW.out]
      go_wp2_with fail
      refine (CQ.out _).mono ?_
      rintro _ w1 ⟨rfl, b⟩
      have Va_1 := Lib.hid (Va_0.out.keep b)
      have Vz_1 := Lib.hid (Vz_0.out.keep b)
      have F_1 := Lib.hid (F_0.out.below Vz_0.out.lt b)
      have B_1 := Lib.hid (B_0.out.trans (b.mono B_0.out.size))
      clear ca0 ca1 ca2 cz0 cz1 cz2 f0 f1 f2
      clear Va_0 Vz_0 F_0 B_0 b
      obtain ⟨ca0, ca1, ca2⟩ := Va_1.out.three
      obtain ⟨cz0, cz1, cz2⟩ := Vz_1.out.three
      have f0 := F_1.out 0
      have f1 := F_1.out 1
      have f2 := F_1.out 2
      rw [← w1.drewN_zero]
      go_wp2_with (go_at_call 61; refine (CF.out _ _ _).mono ?_; rintro _ _ ⟨_, rfl, rfl⟩)
      refine bodyPost_ret (v := .tuple #[.agg #[.float .f32 0, .float .f32 0, .float .f32 0], .bool false]) (by simp [results, Try.results27, cz0, cz1, cz2, go_sem]) rfl ?_
      rw [RES.out]; refine WayB2.no rfl ?_
      repeat (first | exact B_1.out | exact Nat.le_refl _ | (refine Below.setCell ?_ ?_ _) | (refine below_drewN ?_ _) | (refine Below.alloc ?_ ?_ _) | (simp <;> omega))
    · have RES := Lib.hid (hres.trans (show turnW ar ag ab t = giveW (lessV (cosT t) ar (sineT t) ag, sumV (sineT t) ar (cosT t) ag, ab) from by unfold turnW; rw [hq, hf]; rfl))
      generalize giveW (lessV (cosT t) ar (sineT t) ag, sumV (sineT t) ar (cosT t) ag, ab) = z at CG RES
      obtain ⟨ca0, ca1, ca2⟩ := Va_0.out.three
      obtain ⟨cz0, cz1, cz2⟩ := Vz_0.out.three
      have f0 := F_0.out 0
      have f1 := F_0.out 1
      have f2 := F_0.out 2
      go_enter Try.func27, Try.ntmps27
      go_wp2_with fail
      rw [HW.out]
      go_wp2_with fail
      refine (CQ.out _).mono ?_
      rintro _ w1 ⟨rfl, b⟩
      have Va_1 := Lib.hid (Va_0.out.keep b)
      have Vz_1 := Lib.hid (Vz_0.out.keep b)
      have F_1 := Lib.hid (F_0.out.below Vz_0.out.lt b)
      have B_1 := Lib.hid (B_0.out.trans (b.mono B_0.out.size))
      clear ca0 ca1 ca2 cz0 cz1 cz2 f0 f1 f2
      clear Va_0 Vz_0 F_0 B_0 b
      obtain ⟨ca0, ca1, ca2⟩ := Va_1.out.three
      obtain ⟨cz0, cz1, cz2⟩ := Vz_1.out.three
      have f0 := F_1.out 0
      have f1 := F_1.out 1
      have f2 := F_1.out 2
      rw [← w1.drewN_zero]
      go_wp2_with (go_at_call 61; refine (CF.out _ _ _).mono ?_; rintro _ _ ⟨_, rfl, rfl⟩)
      generalize hw2 : World.drewN w1 _ = w2
      have b : Below w1.heap.size w1 w2 := by subst hw2; exact below_drewN (Below.refl _ _) _
      clear ca0 ca1 ca2 cz0 cz1 cz2 f0 f1 f2
      have Va_2 := Lib.hid (Va_1.out.keep b)
      have Vz_2 := Lib.hid (Vz_1.out.keep b)
      have F_2 := Lib.hid (F_1.out.below Vz_1.out.lt b)
      have B_2 := Lib.hid (B_1.out.trans (b.mono B_1.out.size))
      clear Va_1 Vz_1 F_1 B_1 b hw2
      have KS := Lib.hid (fun (w' : World) (hE : Below w2.heap.size w2 w') => (⟨(Va_2.out.keep hE).three.1, (Va_2.out.keep hE).three.2.1, (Va_2.out.keep hE).three.2.2⟩ : _ ∧ _ ∧ _))
      refine wp_region_facts 7 (fun a b => Below a.heap.size a b) (fun _ => Below.refl _ _) (fun _ _ _ h h' => h.trans (h'.mono h.size)) (Below.refl _ _).drew (by kernel_rfl) (by kernel_rfl) (by kernel_rfl) (by kernel_rfl) ?_
      simp only [List.take_succ_cons, List.take_zero, List.drop_succ_cons, List.drop_zero]
      (with_reducible apply wpF_val); (focus (intro vs w' hE hk; (obtain ⟨d0, d1, d2⟩ := KS.out w' hE); go_simp; exact ⟨Below.refl _ _, rfl⟩)); (simp only [Act.put, List.setIfInBounds_toArray, List.set_cons_zero, List.set_cons_succ, List.cons_append, List.nil_append])
      (with_reducible apply wpF_val); (focus (intro vs w' hE hk; (obtain ⟨d0, d1, d2⟩ := KS.out w' hE); go_simp; exact ⟨Below.refl _ _, rfl⟩)); (simp only [Act.put, List.setIfInBounds_toArray, List.set_cons_zero, List.set_cons_succ, List.cons_append, List.nil_append])
      refine wpF_fact (fun u _ => ∃ n m, u = .complex .f32 (pick .f32 (cosT t) n) (pick .f32 (sineT t) m)) (fun _ _ _ h _ => h) (fun vs w' hE hk => ?_) ?_; (focus (go_simp; refine (c_turningBy0 t tn _ ht).mono ?_; rintro _ _ ⟨m1, m2, m3, rfl, rfl⟩; exact ⟨_, rfl, below_drewN (Below.refl _ _) _, m1, m2, rfl⟩)); (simp only [Act.put, List.setIfInBounds_toArray, List.set_cons_zero, List.set_cons_succ, List.cons_append, List.nil_append])
      refine wpF_fact (fun u _ => ∃ n m k, u = .agg #[.float .f32 (pick .f32 (lessV (cosT t) ar (sineT t) ag) n), .float .f32 (pick .f32 (sumV (sineT t) ar (cosT t) ag) m), .float .f32 (pick .f32 (ab) k)]) (fun _ _ _ h _ => h) (fun vs w' hE hk => ?_) ?_; (focus (obtain ⟨m1, m2, h1⟩ := hk 2 (by kernel_rfl); simp only [h1]; go_simp; refine (CT.out _ _ _).mono ?_; rintro _ w9 ⟨n9, m9, k9, rfl, b⟩; exact ⟨_, rfl, b, n9, m9, k9, rfl⟩)); (simp only [Act.put, List.setIfInBounds_toArray, List.set_cons_zero, List.set_cons_succ, List.cons_append, List.nil_append])
      refine wpF_fact (fun u _ => ∃ n m k, u = .tuple #[.agg #[.float .f32 (pick .f32 z.1.1 n), .float .f32 (pick .f32 z.1.2.1 m), .float .f32 (pick .f32 z.1.2.2 k)], .bool z.2]) (fun _ _ _ h _ => h) (fun vs w' hE hk => ?_) ?_; (focus (obtain ⟨n9, m9, k9, h9⟩ := hk 3 (by kernel_rfl); simp only [h9]; go_simp; refine (CG.out _ _ _ _).mono ?_; rintro _ w9 ⟨n8, m8, k8, rfl, b⟩; exact ⟨_, rfl, b, n8, m8, k8, rfl⟩)); (simp only [Act.put, List.setIfInBounds_toArray, List.set_cons_zero, List.set_cons_succ, List.cons_append, List.nil_append])
      refine wpF_fact (fun u _ => ∃ n m k, u = .agg #[.float .f32 (pick .f32 z.1.1 n), .float .f32 (pick .f32 z.1.2.1 m), .float .f32 (pick .f32 z.1.2.2 k)]) (fun _ _ _ h _ => h) (fun vs w' hE hk => ?_) ?_; (focus (obtain ⟨n9, m9, k9, h9⟩ := hk 4 (by kernel_rfl); simp only [h9]; go_simp; exact ⟨Below.refl _ _, n9, m9, k9, rfl⟩)); (simp only [Act.put, List.setIfInBounds_toArray, List.set_cons_zero, List.set_cons_succ, List.cons_append, List.nil_append])
      refine wpF_fact (fun u _ => u = .bool z.2) (fun _ _ _ h _ => h) (fun vs w' hE hk => ?_) ?_; (focus (obtain ⟨n9, m9, k9, h9⟩ := hk 4 (by kernel_rfl); simp only [h9]; go_simp; exact ⟨Below.refl _ _, rfl⟩)); (simp only [Act.put, List.setIfInBounds_toArray, List.set_cons_zero, List.set_cons_succ, List.cons_append, List.nil_append])
      refine wpF_nil (fun vs w3 hE hk => ?_)
      obtain ⟨n9, m9, k9, h91⟩ := hk 5
      have h92 := hk 6
      simp only [h91, show vs 6 = _ from h92]
      have b := hE
      clear hE hk h91 h92
      have Va_3 := Lib.hid (Va_2.out.keep b)
      have Vz_3 := Lib.hid (Vz_2.out.keep b)
      have F_3 := Lib.hid (F_2.out.below Vz_2.out.lt b)
      have B_3 := Lib.hid (B_2.out.trans (b.mono B_2.out.size))
      clear Va_2 Vz_2 F_2 B_2 b KS
      obtain ⟨ca0, ca1, ca2⟩ := Va_3.out.three
      obtain ⟨cz0, cz1, cz2⟩ := Vz_3.out.three
      have f0 := F_3.out 0
      have f1 := F_3.out 1
      have f2 := F_3.out 2
      go_wp2_with fail
      refine bodyPost_ret (v := .tuple #[.agg #[.float .f32 (pick .f32 z.1.1 n9), .float .f32 (pick .f32 z.1.2.1 m9), .float .f32 (pick .f32 z.1.2.2 k9)], .bool z.2]) (by simp [results, Try.results27, cz0, cz1, cz2, go_sem]) rfl ?_
      rw [RES.out]; refine ⟨_, _, _, rfl, ?_⟩
      repeat (first | exact B_3.out | exact Nat.le_refl _ | (refine Below.setCell ?_ ?_ _) | (refine below_drewN ?_ _) | (refine Below.alloc ?_ ?_ _) | (simp <;> omega))
/-! ### FnExactTurnWay -/
theorem walk (vWr nWr vWg nWg vWb nWb : Nat) (vT nT : Nat) (w : World) (hWr : vWr < 2 ^ FloatKind.f32.format.width) (hWg : vWg < 2 ^ FloatKind.f32.format.width) (hWb : vWb < 2 ^ FloatKind.f32.format.width) (hT : vT < 2 ^ FloatKind.f32.format.width) : Calls Try.prog 7 #[.agg #[.float .f32 (pick .f32 vWr nWr), .float .f32 (pick .f32 vWg nWg), .float .f32 (pick .f32 vWb nWb)], .float .f32 (pick .f32 vT nT)] w fun e w' => e = .returned (.bool true) ∧ Below w.heap.size w w' := by
  generalize hw0 : w.alloc (Obj.cells #[.float .f32 (pick .f32 vWr nWr), .float .f32 (pick .f32 vWg nWg), .float .f32 (pick .f32 vWb nWb)] 24) = w0
  have X0 : Var w0 w.heap.size #[.float .f32 (pick .f32 vWr nWr), .float .f32 (pick .f32 vWg nWg), .float .f32 (pick .f32 vWb nWb)] := by subst hw0; exact Var.new _ _ _
  have X1 : Below w.heap.size w w0 := by subst hw0; exact (Below.refl _ _).alloc (Nat.le_refl _) _
  have HW := Lib.hid hw0
  have B_0 := Lib.hid X1
  have V_0 := Lib.hid X0
  have CT := Lib.hid (fun w => c_toW vWr nWr vWg nWg vWb nWb w)
  obtain ⟨q0, q1, q2⟩ := X0.three
  have Cs := Lib.hid (fun w => c_sTurnWay vWr nWr vWg nWg vWb nWb vT nT w hWr hWg hWb hT)
  have Ci := Lib.hid (fun w => c_iTurnWay vWr nWr vWg nWg vWb nWb vT nT w hWr hWg hWb hT)
  generalize turnW vWr vWg vWb vT = z at *
  clear hw0 X0 X1
  go_enter Try.func7, Try.ntmps7
  go_wp2_with fail
  rw [HW.out]
  go_wp2_with fail
  refine (CT.out _).mono ?_
  rintro _ w1 ⟨rfl, b⟩
  have B_1 := Lib.hid (B_0.out.trans (b.mono B_0.out.size))
  have V_1 := Lib.hid (V_0.out.keep b)
  clear B_0 V_0
  clear b q0 q1 q2
  go_wp2_with fail
  refine (Cs.out _).mono ?_
  rintro _ w2 ⟨ns, ms, ks, rfl, b⟩
  have B_2 := Lib.hid (B_1.out.trans (b.mono B_1.out.size))
  have V_2 := Lib.hid (V_1.out.keep b)
  clear B_1 V_1
  clear b
  generalize hw3 : w2.alloc (Obj.cells #[.float .f32 (pick .f32 z.1.1 ns), .float .f32 (pick .f32 z.1.2.1 ms), .float .f32 (pick .f32 z.1.2.2 ks)] 26) = w3
  have X0 : Var w3 w2.heap.size #[.float .f32 (pick .f32 z.1.1 ns), .float .f32 (pick .f32 z.1.2.1 ms), .float .f32 (pick .f32 z.1.2.2 ks)] := by subst hw3; exact Var.new _ _ _
  have b : Below w2.heap.size w2 w3 := by subst hw3; exact (Below.refl _ _).alloc (Nat.le_refl _) _
  have Hs := Lib.hid hw3
  have B_3 := Lib.hid (B_2.out.trans (b.mono B_2.out.size))
  have V_3 := Lib.hid (V_2.out.keep b)
  clear B_2 V_2
  have Us_3 := Lib.hid X0
  obtain ⟨q0, q1, q2⟩ := V_3.out.three
  rw [← hw3] at q0 q1 q2
  clear b X0 hw3
  go_wp2_with fail
  rw [Hs.out]
  clear Hs q0 q1 q2
  obtain ⟨q0, q1, q2⟩ := V_3.out.three
  go_wp2_with fail
  refine (CT.out _).mono ?_
  rintro _ w4 ⟨rfl, b⟩
  have B_4 := Lib.hid (B_3.out.trans (b.mono B_3.out.size))
  have V_4 := Lib.hid (V_3.out.keep b)
  have Us_4 := Lib.hid (Us_3.out.keep b)
  clear B_3 V_3 Us_3
  clear b q0 q1 q2
  go_wp2_with fail
  refine (Ci.out _).mono ?_
  rintro _ w5 ⟨ni, mi, ki, rfl, b⟩
  have B_5 := Lib.hid (B_4.out.trans (b.mono B_4.out.size))
  have V_5 := Lib.hid (V_4.out.keep b)
  have Us_5 := Lib.hid (Us_4.out.keep b)
  clear B_4 V_4 Us_4
  clear b
  generalize hw6 : w5.alloc (Obj.cells #[.float .f32 (pick .f32 z.1.1 ni), .float .f32 (pick .f32 z.1.2.1 mi), .float .f32 (pick .f32 z.1.2.2 ki)] 26) = w6
  have X0 : Var w6 w5.heap.size #[.float .f32 (pick .f32 z.1.1 ni), .float .f32 (pick .f32 z.1.2.1 mi), .float .f32 (pick .f32 z.1.2.2 ki)] := by subst hw6; exact Var.new _ _ _
  have b : Below w5.heap.size w5 w6 := by subst hw6; exact (Below.refl _ _).alloc (Nat.le_refl _) _
  have Hi := Lib.hid hw6
  have B_6 := Lib.hid (B_5.out.trans (b.mono B_5.out.size))
  have V_6 := Lib.hid (V_5.out.keep b)
  have Us_6 := Lib.hid (Us_5.out.keep b)
  clear B_5 V_5 Us_5
  have Ui_6 := Lib.hid X0
  obtain ⟨q0, q1, q2⟩ := V_6.out.three
  rw [← hw6] at q0 q1 q2
  obtain ⟨c0, c1, c2⟩ := Us_6.out.three
  rw [← hw6] at c0 c1 c2
  obtain ⟨d0, d1, d2⟩ := Ui_6.out.three
  rw [← hw6] at d0 d1 d2
  clear b X0 hw6
  go_wp2_with fail
  rw [Hi.out]
  clear Hi q0 q1 q2 c0 c1 c2 d0 d1 d2
  refine (c_eqW z.1.1 ni ns z.1.2.1 mi ms z.1.2.2 ki ks w6).mono ?_
  rintro _ w7 ⟨rfl, b⟩
  have B_7 := Lib.hid (B_6.out.trans (b.mono B_6.out.size))
  have V_7 := Lib.hid (V_6.out.keep b)
  have Us_7 := Lib.hid (Us_6.out.keep b)
  have Ui_7 := Lib.hid (Ui_6.out.keep b)
  clear B_6 V_6 Us_6 Ui_6
  clear b
  go_wp2_with fail
  go_ret
  exact ⟨rfl, B_7.out⟩
theorem own : ownKnob Try.prog.godebug = none := by kernel_rfl
theorem laidOut : laidOutB Try.prog = true := by kernel_rfl
set_option maxRecDepth 100000 in
theorem lifted (os : Os) (started : os.Started) (H : Type) (enc : TypeId × Value → H) :
    ReturnsInHanded {} Try.checked os 7 .any (Rows.fnExactTurnWaySpec.pre6 enc Try.prog Try.f7 Rows.fnExactTurnWayRow.domain false) (Rows.fnExactTurnWaySpec.post enc Try.prog Try.f7 false true false false) := by
  refine returnsInHanded_of_change (C := Try.checked) own started (by kernel_rfl) Try.func7
    (ChangeSpec.witness6 (enc := enc) (C := Try.checked) false ⟨#[], #[.agg #[.float .f32 0, .float .f32 0, .float .f32 0], .float .f32 0], []⟩ 8 (by kernel_rfl) (by kernel_rfl) (by kernel_rfl) (by kernel_rfl)) ?_
  intro W base args ds gs before hval0 hW hcnd _
  have hval : ∀ (j : Nat) t v, Try.f7.params[j]? = some t → args[j]? = some v → Value.okWide Try.prog W .any base t v := hval0
  have hW' := hW
  obtain ⟨p, q, hA0, hV, rfl, hfz, hnd⟩ := hW
  have hA : DataW.TrodAll enc Try.prog W 0 (fun _ => true) true Try.f7.params.toList args.toList ds p := hA0
  rw [Try.params7] at hA hval
  obtain ⟨v0, vs0, d0, ds0, p0, q0, hargs, rfl, rfl, h0, r0⟩ := trodAll_cons hA
  obtain ⟨v1, vs1, d1, ds1, p1, q1, rfl, rfl, rfl, h1, r1⟩ := trodAll_cons r0
  obtain ⟨rfl, rfl, rfl⟩ := trodAll_nil r1
  obtain rfl : args = #[v0, v1] := by cases args; simp_all
  obtain ⟨rfl, rfl⟩ := trodVars_none hV
  have k0 := h0
  have lt0 : ∀ x ∈ p0, x.block < W.heap.size := by obtain ⟨m, hm⟩ := k0; exact DataW.trod_lt m _ _ _ hm
  obtain ⟨br0, bg0, bb0, rfl, wr0, wg0, wb0⟩ := open_col Try.underlying24 (by kernel_rfl) (by kernel_rfl) Try.underlying22 Try.underlying22 Try.underlying22 (hval 0 24 v0 rfl rfl) h0
  obtain ⟨nr0, er0⟩ := pick_onto .f32 br0 (lt_of_wf wr0)
  obtain ⟨ng0, eg0⟩ := pick_onto .f32 bg0 (lt_of_wf wg0)
  obtain ⟨nb0, eb0⟩ := pick_onto .f32 bb0 (lt_of_wf wb0)
  obtain ⟨b1, rfl, rfl, rfl, w1⟩ := open_float Try.underlying22 (hval 1 22 v1 rfl rfl) h1
  obtain ⟨n1, en1⟩ := pick_onto .f32 b1 (lt_of_wf w1)
  clear hA0 hval0
  have hcall1 := en1
  have hw0 : Calls Try.prog 7 #[.agg #[.float .f32 br0, .float .f32 bg0, .float .f32 bb0], .float .f32 b1] W fun e w' => e = .returned (.bool true) ∧ Below W.heap.size W w' := by
    rw [er0, eg0, eb0]
    rw [en1]
    exact walk br0 nr0 bg0 ng0 bb0 nb0 b1 n1 W (lt_of_wf wr0) (lt_of_wf wg0) (lt_of_wf wb0) (lt_of_wf w1)
  refine hw0.mono fun e W' ⟨he, bel⟩ => ?_
  subst he
  exact ⟨_, rfl, _, _, _, [], _, [], hW', trodAll_mk1 (shut_bool Try.underlying4 _), (trodAll_cons_mk (Below.trod laidOut (by kernel_rfl) (of_decide_eq_true (by kernel_rfl)) k0 bel lt0) (trodAll_cons_mk (shut_float Try.underlying22 w1) trodAll_mk0)), rfl, bel.frame _, fun h => by cases h⟩

theorem over : Rows.fnExactTurnWayRow.holds Try.pinned (OpenSpec.ofChange Rows.fnExactTurnWaySpec) :=
  OpenClaim.holds_of_wide 7 Try.f7 rfl rfl rfl rfl rfl rfl rfl ⟨rfl, rfl, rfl, rfl, rfl⟩ rfl rfl rfl rfl rfl (by kernel_rfl) Try.func7 (by kernel_rfl)
    (of_decide_eq_true (by kernel_rfl)) (by unfold Func.isWrapper; first | (rw [if_pos (by decide +kernel)]; kernel_rfl) | (rw [if_neg (by decide +kernel)]; exact ⟨rfl, rfl⟩))
    (fun os started H enc _ => lifted os started H enc)

theorem proved : Rows.FnExactTurnWaySaid := over
#print axioms proved

end Go.Proofs.Ytmngedfibmnohaa.fnExactTurnWay

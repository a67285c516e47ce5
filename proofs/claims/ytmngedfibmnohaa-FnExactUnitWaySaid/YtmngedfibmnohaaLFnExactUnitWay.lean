/-
  FnExactUnitWay: for every input this law of the program returns true, and each argument reads as before. No condition.
-/
import Derived.Test.YtmngedfibmnohaaRows
import Derived.Test.YtmngedfibmnohaaRow
import Derived.Test.YtmngedfibmnohaaBy
import Derived.Test.YtmngedfibmnohaaAp
import Derived.ProofKit
import Derived.OpenShut
import Derived.ShutString
import Derived.ChangeOld
import Derived.Below
import Derived.Lib.Hide
import Derived.Outline
import Derived.Deep.RegionHeld3
import Derived.Deep.DeepCutAuto
set_option linter.unusedSimpArgs false
set_option linter.unusedVariables false
set_option exponentiation.threshold 2000
set_option maxRecDepth 20000
set_option maxHeartbeats 4000000
namespace Go.Proofs.Ytmngedfibmnohaa.fnExactUnitWay
open Go Go.Proofs.Ytmngedfibmnohaa Go.Proofs
open Go.ChangeShapes Go.WideShapes Go.ChangeAt Go.RowKit
open Go.ChangeMaps (open_string shut_string)
/-! ### openCol -/
theorem open_col {H : Type} {enc : TypeId × Value → H} {P : Program} {w : World} {base : Nat} {spare : Nat → Bool} {held : Bool} {r : Reach} {b0 : Nat} {t : TypeId} {f0 f1 f2 : Field} {v : Value} {d : DataW H} {p : List MemPlace}
    (hs : P.underlying t = some (.struct #[f0, f1, f2])) (hone : Go.Deep.oneCellFields P #[f0, f1, f2] = true) (hC : P.cellsOf t = 3) (u0 : P.underlying f0.type = some (.float .f32)) (u1 : P.underlying f1.type = some (.float .f32))
    (u2 : P.underlying f2.type = some (.float .f32)) (hv : Value.okWide P w r b0 t v) (h : DataW.Trod enc P w base spare held t v d p) :
    ∃ (x y z : Nat), v = .agg #[.float .f32 x, .float .f32 y, .float .f32 z] ∧ (Lit.float .f32 x).wf = true ∧ (Lit.float .f32 y).wf = true ∧ (Lit.float .f32 z).wf = true := by
  obtain ⟨v0, v1, v2, y0, y1, y2, n, rfl, _, _, h0, h1, h2⟩ := Go.Joins.open_agg3 hs hone hC hv h
  obtain ⟨x, e0, _, w0⟩ := trod_float u0 h0
  obtain ⟨y, e1, _, w1⟩ := trod_float u1 h1
  obtain ⟨z, e2, _, w2⟩ := trod_float u2 h2
  simp only [List.cons.injEq, and_true] at e0 e1 e2
  subst e0 e1 e2
  exact ⟨x, y, z, rfl, w0, w1, w2⟩
/-! ### toWay -/
theorem c_toW (r n g m b k : Nat) (w : World) : Calls Try.prog 16 #[.agg #[.float .f32 (pick .f32 r n), .float .f32 (pick .f32 g m), .float .f32 (pick .f32 b k)]] w (RetB (.agg #[.float .f32 (pick .f32 r n), .float .f32 (pick .f32 g m), .float .f32 (pick .f32 b k)]) w) := by
  go_enter Try.func16, Try.ntmps16
  go_wp2_with fail
  refine bodyPost_ret (v := .agg #[.float .f32 (pick .f32 r n), .float .f32 (pick .f32 g m), .float .f32 (pick .f32 b k)]) (by simp [results, Try.results16, go_sem]) rfl ⟨rfl, ?_⟩
  repeat (first | exact Below.refl _ _ | exact Nat.le_refl _ | (refine Below.setCell ?_ ?_ _) | (refine below_drewN ?_ _) | (refine Below.alloc ?_ ?_ _) | (simp <;> omega))
/-! ### sameFloat -/
theorem c_sameFloat (v n m : Nat) (w : World) (j : Nat) : Calls Try.prog 25 #[.float .f64 (pick .f64 v n), .float .f64 (pick .f64 v m)] (w.drewN j) (RetV (.bool true) w) := by
  have hs := self_ne .f64 v
  have ht := self_eq .f64 v
  cases h : isN .f64 v
  · rw [h] at hs ht
    cases h2 : (FloatKind.f64.format.order v 0 == some .eq)
    · go_enter Try.func25, Try.ntmps25
      go_wp2_with (first | (refine wpList_fop rfl _ _ _ _ _ rfl _ _ _ rfl rfl (by decide) _ ?_; intro _ _) | (refine upon_fop _ _ _ _ _ (by decide) ?_; intro _ _))
      go_ret
      exact ⟨_, rfl, rfl⟩
    · go_enter Try.func25, Try.ntmps25
      go_wp2_with (first | (refine wpList_fop rfl _ _ _ _ _ rfl _ _ _ rfl rfl (by decide) _ ?_; intro _ _) | (refine upon_fop _ _ _ _ _ (by decide) ?_; intro _ _))
      go_ret
      exact ⟨_, by simp, rfl⟩
  · rw [h] at hs ht
    go_enter Try.func25, Try.ntmps25
    go_wp2_with (first | (refine wpList_fop rfl _ _ _ _ _ rfl _ _ _ rfl rfl (by decide) _ ?_; intro _ _) | (refine upon_fop _ _ _ _ _ (by decide) ?_; intro _ _))
    go_ret
    exact ⟨_, rfl, rfl⟩

/-! ### eqWay -/
theorem c_eqW (r nr nr2 g ng ng2 b nb nb2 : Nat) (w : World) : Calls Try.prog 22 #[.agg #[.float .f32 (pick .f32 r nr), .float .f32 (pick .f32 g ng), .float .f32 (pick .f32 b nb)], .agg #[.float .f32 (pick .f32 r nr2), .float .f32 (pick .f32 g ng2), .float .f32 (pick .f32 b nb2)]] w (RetB (.bool true) w) := by
  generalize hw2 : (w.alloc (Obj.cells #[.float .f32 (pick .f32 r nr), .float .f32 (pick .f32 g ng), .float .f32 (pick .f32 b nb)] 26)).alloc (Obj.cells #[.float .f32 (pick .f32 r nr2), .float .f32 (pick .f32 g ng2), .float .f32 (pick .f32 b nb2)] 26) = w2
  have X0 : Var w2 w.heap.size #[.float .f32 (pick .f32 r nr), .float .f32 (pick .f32 g ng), .float .f32 (pick .f32 b nb)] := by subst hw2; exact (Var.new _ _ _).alloc _
  have X1 : Var w2 (w.heap.size + 1) #[.float .f32 (pick .f32 r nr2), .float .f32 (pick .f32 g ng2), .float .f32 (pick .f32 b nb2)] := by subst hw2; exact Var.new' _ _ _ _ (by simp)
  have B0 := Lib.hid (show Below w.heap.size w w2 from by subst hw2; exact ((Below.refl _ _).alloc (Nat.le_refl _) _).alloc (by simp) _)
  have HW := Lib.hid hw2
  obtain ⟨c0, c1, c2⟩ := X0.three
  obtain ⟨d0, d1, d2⟩ := X1.three
  clear hw2 X0 X1
  go_enter Try.func22, Try.ntmps22
  go_wp2_with fail
  rw [HW.out, ← w2.drewN_zero]
  go_wp2_with (first | (refine wpList_cvU rfl 22 36 _ rfl (Option.isSome_iff_exists.2 ⟨_, Try.underlying22⟩) Try.underlying36 _ rfl _ ?_; intro _ _) | (refine upon_cvUp _ _ _ _ (Option.isSome_iff_exists.2 ⟨_, Try.underlying22⟩) Try.underlying36 ?_; intro _ _) | (go_at_call 25; refine (c_sameFloat _ _ _ _ _).mono ?_; rintro _ _ ⟨_, rfl, rfl⟩))
  go_ret
  exact ⟨rfl, below_drewN B0.out _⟩
/-! ### picDefs -/
def sideB (W H : Int) : Bool := decide (1 ≤ W) && decide (W ≤ 16) && (decide (1 ≤ H) && decide (H ≤ 16))
def finL (zs : List Nat) : Bool := zs.all (finB .f32)
def validB (W H : Int) (zs : List Nat) : Bool := sideB W H && decide ((zs.length : Int) = W * H) && finL zs
theorem sideB_true {W H : Int} (h : sideB W H = true) : (1 ≤ W ∧ W ≤ 16) ∧ 1 ≤ H ∧ H ≤ 16 := by simpa [sideB, and_assoc] using h
theorem side_mul {W H : Int} (h : sideB W H = true) : 1 ≤ W * H ∧ W * H ≤ 256 := by
  obtain ⟨⟨h1, h2⟩, h3, h4⟩ := sideB_true h
  have : W * H ≤ 16 * 16 := Int.mul_le_mul h2 h4 (by omega) (by omega)
  have h5 : 1 * 1 ≤ W * H := Int.mul_le_mul h1 h3 (by omega) (by omega)
  omega
theorem sideB_false {W H : Int} (h : sideB W H = false) : W < 1 ∨ 16 < W ∨ H < 1 ∨ 16 < H := by
  simp [sideB] at h; omega
theorem finL_snoc (zs : List Nat) (k : Nat) (hk : k < zs.length) : finL (zs.take (k + 1)) = (finL (zs.take k) && finB .f32 (fat zs k)) := by
  unfold finL fat
  rw [List.take_succ_eq_append_getElem hk, List.all_append, List.getD, List.getElem?_eq_getElem hk]; simp
theorem finL_of (zs : List Nat) (k : Nat) (hk : k < zs.length) (h : finB .f32 (fat zs k) = false) : finL zs = false := by
  unfold finL
  rw [List.all_eq_false]
  refine ⟨zs[k], List.getElem_mem hk, ?_⟩
  unfold fat at h
  rw [List.getD, List.getElem?_eq_getElem hk] at h
  simpa using h
theorem pick0 (k : FloatKind) (v : Nat) (hv : v < 2 ^ k.format.width) : ∃ n, v = pick k v n := pick_onto k v hv
/-! ### meanDefs -/
def meanV (zs : List Nat) : Nat := fop .quo .f32 (sumF .add .f32 0 zs) (floatOfInt .f32 (zs.length : Int))
def numR (v : Nat) : Nat × Bool := if finB .f32 v = true then (v, true) else (0, false)
def meanR (W H : Int) (zs : List Nat) : Nat × Bool := if validB W H zs = true then numR (meanV zs) else (0, false)
theorem mean_len {W H : Int} {zs : List Nat} (h : validB W H zs = true) : zs.length ≤ 256 := by
  simp only [validB, Bool.and_eq_true, decide_eq_true_eq] at h
  obtain ⟨⟨h1, h2⟩, h3⟩ := h
  have := side_mul h1
  omega
theorem pick00 : pick .f32 0 0 = 0 := pick_not (show isN .f32 0 = false from by decide +kernel) 0
/-! ### colDefs -/
def colB (r g b : Nat) : Bool := finB .f32 r && (finB .f32 g && finB .f32 b)
def greyV (r g b : Nat) : Nat := fop .add .f32 (fop .add .f32 (fop .mul .f32 1046066128 r) (fop .mul .f32 1060575065 g)) (fop .mul .f32 1033100696 b)
def greyR (r g b : Nat) : Nat × Bool := if colB r g b = true then numR (greyV r g b) else (0, false)
theorem retF1no {w : World} {e : Ending} {w' : World} (h : e = .returned (.tuple #[.float .f32 0, .bool false])) (hw : Below w.heap.size w w') : RetF1 (0, false) w e w' := ⟨0, by rw [h]; simp only [pick00], hw⟩
theorem fin3 (a b c n m l : Nat) : finL [pick .f32 a n, pick .f32 b m, pick .f32 c l] = colB a b c := by simp [finL, finB_pick, colB]
/-! ### wayDefs -/
def nzB (v : Nat) : Bool := FloatKind.f32.format.order v 0 != some .eq
def wayB (r g b : Nat) : Bool := colB r g b && (nzB r || (nzB g || nzB b))
/-! ### mulInf -/
theorem inf_notfin (s : Bool) : finB .f32 (FloatKind.f32.format.write (.infinity s)) = false := by cases s <;> decide +kernel
theorem rung_split {v : Nat} (h : finB .f32 v = false) (hn : isN .f32 v = false) : FloatKind.f32.format.read v = .infinity (sgn FloatKind.f32.format v) := by
  have h1 : ¬ rung FloatKind.f32.format v < FloatKind.f32.format.infRung := of_decide_eq_false h
  have h2 := isN_rung' .f32 v
  rw [hn] at h2
  have h3 := of_decide_eq_false h2.symm
  exact read_inf .f32 v (by omega)
/-- A product with a factor that isn't finite isn't finite. -/
theorem mul_notfin (x : Nat) {v : Nat} (hv : finB .f32 v = false) : finB .f32 (fop .mul .f32 x v) = false := by
  cases h : isN .f32 v
  · have h3 := rung_split hv h
    cases hx : isN .f32 x
    · cases hf : finB .f32 x
      · have h4 := rung_split hf hx
        have e : fop .mul .f32 x v = FloatKind.f32.format.write (.infinity (sgn FloatKind.f32.format x ^^ sgn FloatKind.f32.format v)) := by
          unfold fop floatBits Ieee.Format.mul
          simp only [h3, h4, Ieee.Datum.product]
          rfl
        rw [e]; exact inf_notfin _
      · obtain ⟨m, e, h4, _, _⟩ := read_fin FloatKind.f32.format x (of_decide_eq_true hf)
        by_cases hm : m = 0
        · have e : fop .mul .f32 x v = qn .f32 := by
            unfold fop floatBits Ieee.Format.mul
            simp only [h3, h4, Ieee.Datum.product, hm, if_true]
            rfl
          rw [e]; exact finB_nan (isN_qn .f32)
        · have e : fop .mul .f32 x v = FloatKind.f32.format.write (.infinity (sgn FloatKind.f32.format v ^^ sgn FloatKind.f32.format x)) := by
            unfold fop floatBits Ieee.Format.mul
            simp only [h3, h4, Ieee.Datum.product, hm, if_false]
            rfl
          rw [e]; exact inf_notfin _
    · exact finB_nan (isN_fop_l v hx)
  · exact finB_nan (isN_fop_r x h)

/-! ### wayFacts -/
theorem quo_inf {x v : Nat} (hx : finB .f32 x = true) (hv : finB .f32 v = false) (hn : isN .f32 v = false) : nzB (fop .quo .f32 x v) = false := by
  have h3 := rung_split hv hn
  obtain ⟨m, e, h4, _, _⟩ := read_fin FloatKind.f32.format x (of_decide_eq_true hx)
  have e : fop .quo .f32 x v = FloatKind.f32.format.write (.number (sgn FloatKind.f32.format x ^^ sgn FloatKind.f32.format v) 0 0) := by
    unfold fop floatBits Ieee.Format.div
    simp only [h3, h4, Ieee.Datum.quotient]
    rfl
  rw [e]
  generalize (sgn FloatKind.f32.format x ^^ sgn FloatKind.f32.format v) = s
  cases s <;> decide +kernel
def rootV (v : Nat) : Nat := cvN (fsqrt (cvU v))
theorem root_notfin {v : Nat} (h : finB .f32 v = false) : finB .f32 (rootV v) = false := by
  unfold rootV
  cases hn : isN .f32 v
  · have h1 : ¬ rung FloatKind.f32.format v < FloatKind.f32.format.infRung := of_decide_eq_false h
    have h2 := isN_rung' .f32 v
    rw [hn] at h2
    have h3 := of_decide_eq_false h2.symm
    have h4 : rung Ieee.single v = Ieee.single.infRung := by
      have : rung FloatKind.f32.format v = FloatKind.f32.format.infRung := by omega
      exact this
    have h5 : cvU v = Ieee.double.word (sgn Ieee.single v) Ieee.double.infRung := by unfold cvU; rw [cvU_inf h4]; rfl
    rw [h5]
    generalize sgn Ieee.single v = s
    cases s <;> decide +kernel
  · rw [cvU_qn hn]; decide +kernel
def t0 : (Nat × Nat × Nat) × Bool := ((0, 0, 0), false)
def giveW (t : Nat × Nat × Nat) : (Nat × Nat × Nat) × Bool := if wayB t.1 t.2.1 t.2.2 = true then (t, true) else t0
theorem unit_no {x y z r : Nat} (hx : finB .f32 x = true) (hy : finB .f32 y = true) (hz : finB .f32 z = true) (hr : finB .f32 r = false) : wayB (fop .quo .f32 x r) (fop .quo .f32 y r) (fop .quo .f32 z r) = false := by
  unfold wayB
  cases hn : isN .f32 r
  · rw [quo_inf hx hr hn, quo_inf hy hr hn, quo_inf hz hr hn]; simp
  · have : colB (fop .quo .f32 x r) (fop .quo .f32 y r) (fop .quo .f32 z r) = false := by
      unfold colB; rw [finB_nan (isN_fop_r x hn)]; rfl
    rw [this]; rfl
def innV (x y z a b c : Nat) : Nat := fop .add .f32 (fop .add .f32 (fop .mul .f32 x a) (fop .mul .f32 y b)) (fop .mul .f32 z c)
def unitT (x y z r : Nat) : Nat × Nat × Nat := (fop .quo .f32 x r, fop .quo .f32 y r, fop .quo .f32 z r)
def unitW (x y z : Nat) : (Nat × Nat × Nat) × Bool := if wayB x y z = true then giveW (unitT x y z (rootV (innV x y z x y z))) else t0
theorem unitW_no {x y z : Nat} (h : wayB x y z = false ∨ finB .f32 (innV x y z x y z) = false) : unitW x y z = t0 := by
  unfold unitW
  cases hw : wayB x y z
  · rfl
  · rcases h with h | h
    · rw [h] at hw; cases hw
    · rw [if_pos rfl]
      have hc : colB x y z = true := by unfold wayB at hw; rw [Bool.and_eq_true] at hw; exact hw.1
      unfold colB at hc
      simp only [Bool.and_eq_true] at hc
      have := unit_no hc.1 hc.2.1 hc.2.2 (root_notfin h)
      unfold giveW unitT
      rw [this]; rfl
def innR (x y z a b c : Nat) : Nat × Bool := if (wayB x y z && wayB a b c) = true then numR (innV x y z a b c) else (0, false)
/-! ### way2Defs -/
def WayB2 (t : (Nat × Nat × Nat) × Bool) (w : World) (e : Ending) (w' : World) : Prop := ∃ n m k, e = .returned (.tuple #[.agg #[.float .f32 (pick .f32 t.1.1 n), .float .f32 (pick .f32 t.1.2.1 m), .float .f32 (pick .f32 t.1.2.2 k)], .bool t.2]) ∧ Below w.heap.size w w'
def WayR (t : Nat × Nat × Nat) (w : World) (e : Ending) (w' : World) : Prop := ∃ n m k, e = .returned (.agg #[.float .f32 (pick .f32 t.1 n), .float .f32 (pick .f32 t.2.1 m), .float .f32 (pick .f32 t.2.2 k)]) ∧ Below w.heap.size w w'
theorem WayB2.no {w : World} {e : Ending} {w' : World} (h : e = .returned (.tuple #[.agg #[.float .f32 0, .float .f32 0, .float .f32 0], .bool false])) (b : Below w.heap.size w w') : WayB2 t0 w e w' := ⟨0, 0, 0, by rw [h]; simp only [t0, pick00], b⟩
def RetN (v : Nat) (w : World) (e : Ending) (w' : World) : Prop := ∃ n, e = .returned (.float .f32 (pick .f32 v n)) ∧ Below w.heap.size w w'
theorem giveW_lt_no {r g b : Nat} (h : wayB r g b = false) : giveW (r, g, b) = t0 := by unfold giveW; rw [h]; rfl
theorem giveW_yes {r g b : Nat} (h : wayB r g b = true) : giveW (r, g, b) = ((r, g, b), true) := by unfold giveW; rw [h]; rfl
/-! ### l06Inner -/
theorem c_l06Inner (ar an ag am ab ak : Nat) (cr cn cg cm cb ck : Nat) (w : World) : Calls Try.prog 54 #[.agg #[.float .f32 (pick .f32 ar an), .float .f32 (pick .f32 ag am), .float .f32 (pick .f32 ab ak)], .agg #[.float .f32 (pick .f32 cr cn), .float .f32 (pick .f32 cg cm), .float .f32 (pick .f32 cb ck)]] w (RetN (innV ar ag ab cr cg cb) w) := by
  generalize hw0 : (w.alloc (Obj.cells #[.float .f32 (pick .f32 ar an), .float .f32 (pick .f32 ag am), .float .f32 (pick .f32 ab ak)] 26)).alloc (Obj.cells #[.float .f32 (pick .f32 cr cn), .float .f32 (pick .f32 cg cm), .float .f32 (pick .f32 cb ck)] 26) = w0
  have Va_0 := Lib.hid (show Var w0 (w.heap.size) #[.float .f32 (pick .f32 ar an), .float .f32 (pick .f32 ag am), .float .f32 (pick .f32 ab ak)] from by subst hw0; exact ((Var.new' _ _ _ _ (by first | rfl | simp)).alloc _))
  have Vc_0 := Lib.hid (show Var w0 (w.heap.size + 1) #[.float .f32 (pick .f32 cr cn), .float .f32 (pick .f32 cg cm), .float .f32 (pick .f32 cb ck)] from by subst hw0; exact (Var.new' _ _ _ _ (by first | rfl | simp)))
  have B_0 := Lib.hid (show Below w.heap.size w w0 from by subst hw0; exact (((Below.refl _ _).alloc (Nat.le_refl _) _).alloc (by simp) _))
  have SZ := Lib.hid (show w0.heap.size = w.heap.size + 2 from by subst hw0; simp)
  have HW := Lib.hid hw0
  clear hw0
  unfold innV
  obtain ⟨ca0, ca1, ca2⟩ := Va_0.out.three
  obtain ⟨cc0, cc1, cc2⟩ := Vc_0.out.three
  go_enter Try.func54, Try.ntmps54
  go_wp2_with fail
  rw [HW.out]
  rw [← w0.drewN_zero]
  go_wp2_with (first | (refine wpList_fop rfl _ _ _ _ _ rfl _ _ _ rfl rfl (by decide) _ ?_; intro _ _) | (refine upon_fop _ _ _ _ _ (by decide) ?_; intro _ _))
  go_ret
  exact ⟨_, rfl, below_drewN B_0.out _⟩
/-! ### l01Finite -/
theorem c_l01Finite (v n : Nat) (w : World) (j : Nat) : Calls Try.prog 56 #[.float .f32 (pick .f32 v n)] (w.drewN j) (RetV (.bool (finB .f32 v)) w) := by
  go_enter Try.func56, Try.ntmps56
  go_wp2_with (first | (refine wpList_fop rfl _ _ _ _ _ rfl _ _ _ rfl rfl (by decide) _ ?_; intro _ _) | (refine upon_fop _ _ _ _ _ (by decide) ?_; intro _ _))
  go_ret
  rw [← sub_self_zero]
  exact ⟨_, rfl, rfl⟩
/-! ### l06Finite -/
theorem c_l06Finite (r n g m b k : Nat) (w : World) : Calls Try.prog 87 #[.agg #[.float .f32 (pick .f32 r n), .float .f32 (pick .f32 g m), .float .f32 (pick .f32 b k)]] w (RetB (.bool (colB r g b)) w) := by
  unfold colB
  generalize hw0 : w.alloc (Obj.cells #[.float .f32 (pick .f32 r n), .float .f32 (pick .f32 g m), .float .f32 (pick .f32 b k)] 26) = w0
  have X0 : Var w0 w.heap.size #[.float .f32 (pick .f32 r n), .float .f32 (pick .f32 g m), .float .f32 (pick .f32 b k)] := by subst hw0; exact Var.new _ _ _
  have X1 : Below w.heap.size w w0 := by subst hw0; exact (Below.refl _ _).alloc (Nat.le_refl _) _
  have SZ := Lib.hid (show w0.heap.size = w.heap.size + 1 from by subst hw0; simp)
  have HW := Lib.hid hw0
  have B0 := Lib.hid X1
  have V0 := Lib.hid X0
  obtain ⟨q0, q1, q2⟩ := X0.three
  clear hw0 X0 X1
  go_enter Try.func87, Try.ntmps87
  go_wp2_with fail
  rw [HW.out, ← w0.drewN_zero]
  go_wp2_with ((go_at_call 56; refine (c_l01Finite _ _ _ _).mono ?_; rintro _ _ ⟨_, rfl, rfl⟩))
  all_goals (go_ret; exact ⟨by simp [*], below_drewN B0.out _⟩)
/-! ### l06Is -/
theorem c_l06Is (r n g m b k : Nat) (w : World) : Calls Try.prog 45 #[.agg #[.float .f32 (pick .f32 r n), .float .f32 (pick .f32 g m), .float .f32 (pick .f32 b k)]] w (RetB (.bool (wayB r g b)) w) := by
  have CF := Lib.hid (fun w => c_l06Finite r n g m b k w)
  unfold wayB
  generalize colB r g b = q at *
  generalize hw0 : w.alloc (Obj.cells #[.float .f32 (pick .f32 r n), .float .f32 (pick .f32 g m), .float .f32 (pick .f32 b k)] 26) = w0
  have X0 : Var w0 w.heap.size #[.float .f32 (pick .f32 r n), .float .f32 (pick .f32 g m), .float .f32 (pick .f32 b k)] := by subst hw0; exact Var.new _ _ _
  have X1 : Below w.heap.size w w0 := by subst hw0; exact (Below.refl _ _).alloc (Nat.le_refl _) _
  have SZ := Lib.hid (show w0.heap.size = w.heap.size + 1 from by subst hw0; simp)
  have HW := Lib.hid hw0
  have B0 := Lib.hid X1
  have V0 := Lib.hid X0
  obtain ⟨q0, q1, q2⟩ := X0.three
  clear hw0 X0 X1
  unfold nzB
  cases h1 : (FloatKind.f32.format.order r 0 != some .eq) <;> cases h2 : (FloatKind.f32.format.order g 0 != some .eq) <;> cases h3 : (FloatKind.f32.format.order b 0 != some .eq) <;> cases q
  all_goals
    go_enter Try.func45, Try.ntmps45
    go_wp2_with fail
    rw [HW.out]
    go_wp2_with fail
    refine (CF.out _).mono ?_
    rintro _ w1 ⟨rfl, b1⟩
    have B1 := Lib.hid (B0.out.trans (b1.mono B0.out.size))
    have V1 := Lib.hid (V0.out.keep b1)
    clear b1 q0 q1 q2
    obtain ⟨q0, q1, q2⟩ := V1.out.three
    go_wp2_with fail
    go_ret
    exact ⟨rfl, B1.out⟩
/-! ### l06Give -/
theorem c_l06Give (ar an ag am ab ak : Nat) (w : World) (har : ar < 2 ^ FloatKind.f32.format.width) (hag : ag < 2 ^ FloatKind.f32.format.width) (hab : ab < 2 ^ FloatKind.f32.format.width) : Calls Try.prog 57 #[.agg #[.float .f32 (pick .f32 ar an), .float .f32 (pick .f32 ag am), .float .f32 (pick .f32 ab ak)]] w (WayB2 (giveW (ar, ag, ab)) w) := by
  generalize hw0 : (w.alloc (Obj.cells #[.float .f32 (pick .f32 ar an), .float .f32 (pick .f32 ag am), .float .f32 (pick .f32 ab ak)] 26)).alloc (Obj.cells #[.float .f32 0, .float .f32 0, .float .f32 0] 26) = w0
  have Va_0 := Lib.hid (show Var w0 (w.heap.size) #[.float .f32 (pick .f32 ar an), .float .f32 (pick .f32 ag am), .float .f32 (pick .f32 ab ak)] from by subst hw0; exact ((Var.new' _ _ _ _ (by first | rfl | simp)).alloc _))
  have Vz_0 := Lib.hid (show Var w0 (w.heap.size + 1) #[.float .f32 0, .float .f32 0, .float .f32 0] from by subst hw0; exact (Var.new' _ _ _ _ (by first | rfl | simp)))
  have F_0 := Lib.hid (show Free w0 (w.heap.size + 1) from by subst hw0; exact Free.new' _ _ _ _ (by first | rfl | simp))
  have B_0 := Lib.hid (show Below w.heap.size w w0 from by subst hw0; exact (((Below.refl _ _).alloc (Nat.le_refl _) _).alloc (by simp) _))
  have SZ := Lib.hid (show w0.heap.size = w.heap.size + 2 from by subst hw0; simp)
  have HW := Lib.hid hw0
  clear hw0
  have CF := Lib.hid (fun w => c_l06Is ar an ag am ab ak w)
  cases hq : wayB ar ag ab
  all_goals rw [hq] at CF
  · obtain ⟨ca0, ca1, ca2⟩ := Va_0.out.three
    obtain ⟨cz0, cz1, cz2⟩ := Vz_0.out.three
    have f0 := F_0.out 0
    have f1 := F_0.out 1
    have f2 := F_0.out 2
    go_enter Try.func57, Try.ntmps57
    go_wp2_with fail
    rw [HW.out]
    go_wp2_with fail
    refine (CF.out _).mono ?_
    rintro _ w1 ⟨rfl, b⟩
    have Va_1 := Lib.hid (Va_0.out.keep b)
    have Vz_1 := Lib.hid (Vz_0.out.keep b)
    have F_1 := Lib.hid (F_0.out.below Vz_0.out.lt b)
    have B_1 := Lib.hid (B_0.out.trans (b.mono B_0.out.size))
    clear ca0 ca1 ca2 cz0 cz1 cz2 f0 f1 f2
    clear Va_0 Vz_0 F_0 B_0 b
    obtain ⟨ca0, ca1, ca2⟩ := Va_1.out.three
    obtain ⟨cz0, cz1, cz2⟩ := Vz_1.out.three
    have f0 := F_1.out 0
    have f1 := F_1.out 1
    have f2 := F_1.out 2
    go_wp2_with fail
    refine bodyPost_ret (v := .tuple #[.agg #[.float .f32 0, .float .f32 0, .float .f32 0], .bool false]) (by simp [results, Try.results57, cz0, cz1, cz2, go_sem]) rfl ?_
    rw [giveW_lt_no hq]; refine WayB2.no rfl ?_
    repeat (first | exact B_1.out | exact Nat.le_refl _ | (refine Below.setCell ?_ ?_ _) | (refine below_drewN ?_ _) | (refine Below.alloc ?_ ?_ _) | (simp <;> omega))
  · obtain ⟨ca0, ca1, ca2⟩ := Va_0.out.three
    obtain ⟨cz0, cz1, cz2⟩ := Vz_0.out.three
    have f0 := F_0.out 0
    have f1 := F_0.out 1
    have f2 := F_0.out 2
    go_enter Try.func57, Try.ntmps57
    go_wp2_with fail
    rw [HW.out]
    go_wp2_with fail
    refine (CF.out _).mono ?_
    rintro _ w1 ⟨rfl, b⟩
    have Va_1 := Lib.hid (Va_0.out.keep b)
    have Vz_1 := Lib.hid (Vz_0.out.keep b)
    have F_1 := Lib.hid (F_0.out.below Vz_0.out.lt b)
    have B_1 := Lib.hid (B_0.out.trans (b.mono B_0.out.size))
    clear ca0 ca1 ca2 cz0 cz1 cz2 f0 f1 f2
    clear Va_0 Vz_0 F_0 B_0 b
    obtain ⟨ca0, ca1, ca2⟩ := Va_1.out.three
    obtain ⟨cz0, cz1, cz2⟩ := Vz_1.out.three
    have f0 := F_1.out 0
    have f1 := F_1.out 1
    have f2 := F_1.out 2
    go_wp2_with fail
    refine bodyPost_ret (v := .tuple #[.agg #[.float .f32 (pick .f32 ar an), .float .f32 (pick .f32 ag am), .float .f32 (pick .f32 ab ak)], .bool true]) (by simp [results, Try.results57, cz0, cz1, cz2, go_sem]) rfl ?_
    rw [giveW_yes hq]; refine ⟨_, _, _, rfl, ?_⟩
    repeat (first | exact B_1.out | exact Nat.le_refl _ | (refine Below.setCell ?_ ?_ _) | (refine below_drewN ?_ _) | (refine Below.alloc ?_ ?_ _) | (simp <;> omega))
/-! ### msqrt -/
theorem run_msqrt (b : Nat) (w : World) : ∃ n m, (callFunc 112 #[.float .f64 b]).run Try.prog w = .ok (.value (.float .f64 (pick .f64 (fsqrt b) n))) (w.drewN m) := by
  have e : (callFunc 112 #[.float .f64 b]).run Try.prog w = ((Extern.MathSqrt.sqrt #[.float .f64 b]).bind fun v => Sem.pure (Next.value v)).run Try.prog w := by kernel_rfl
  rw [e]
  cases h : Ieee.double.sqrt b with
  | some r =>
    refine ⟨0, 0, ?_⟩
    have e2 : Extern.MathSqrt.sqrt #[.float .f64 b] = pure (.float .f64 r) := by
      show (match Ieee.double.sqrt b with | some r => _ | none => _) = _
      rw [h]
    have e3 : fsqrt b = r := by unfold fsqrt; rw [h]; rfl
    rw [e2, e3, pick_not (sqrt_notNaN h)]; rfl
  | none =>
    have e3 : fsqrt b = qn .f64 := by unfold fsqrt; rw [h]; rfl
    refine ⟨w.tape w.drawn (.nanBits .f64 b b), 1, ?_⟩
    have e2 : Extern.MathSqrt.sqrt #[.float .f64 b] = (do pure (.float .f64 (← choose (.nanBits .f64 b b)))) := by
      show (match Ieee.double.sqrt b with | some r => _ | none => _) = _
      rw [h]
    rw [e2, e3]
    have e4 : pick .f64 (qn .f64) (w.tape w.drawn (.nanBits .f64 b b)) = (Question.nanBits .f64 b b).cut (w.tape w.drawn (.nanBits .f64 b b)) := by
      simp only [pick, isN_qn, if_true]; rfl
    rw [e4]
    rfl
/-! ### Sqrt -/
theorem c_Sqrt (v k : Nat) (w : World) (j : Nat) : Calls Try.prog 92 #[.float .f64 (pick .f64 v k)] (w.drewN j) (RetF .f64 (fsqrt v) w) := by
  obtain ⟨n, m, hr⟩ := run_msqrt (pick .f64 v k) (w.drewN j)
  rw [fsqrt_pick] at hr
  go_enter Try.func92, Try.ntmps92
  go_wp2
  go_ret
  exact ⟨_, _, rfl, rfl⟩

/-! ### l01Sqrt -/
theorem c_l01Sqrt (v n : Nat) (w : World) (j : Nat) : Calls Try.prog 90 #[.float .f32 (pick .f32 v n)] (w.drewN j) (RetF .f32 (cvN (fsqrt (cvU v))) w) := by
  have HF := Lib.hid (root_fits v)
  go_enter Try.func90, Try.ntmps90
  go_wp2_with (first | (refine wpList_cvU rfl 22 36 _ rfl (Option.isSome_iff_exists.2 ⟨_, Try.underlying22⟩) Try.underlying36 _ rfl _ ?_; intro _ _) | (refine wpList_cvN rfl 36 22 _ rfl (Option.isSome_iff_exists.2 ⟨_, Try.underlying36⟩) Try.underlying22 _ rfl _ (by rw [Fits_pick]; exact HF.out) ?_; intro _ _) | (go_at_call 92; refine (c_Sqrt _ _ _ _).mono ?_; rintro _ _ ⟨_, _, rfl, rfl⟩) | go_in)
  go_ret
  exact ⟨_, _, rfl, rfl⟩
/-! ### l06Unit -/
theorem c_l06Unit (ar an ag am ab ak : Nat) (w : World) (har : ar < 2 ^ FloatKind.f32.format.width) (hag : ag < 2 ^ FloatKind.f32.format.width) (hab : ab < 2 ^ FloatKind.f32.format.width) : Calls Try.prog 49 #[.agg #[.float .f32 (pick .f32 ar an), .float .f32 (pick .f32 ag am), .float .f32 (pick .f32 ab ak)]] w (WayB2 (unitW ar ag ab) w) := by
  generalize hw0 : (w.alloc (Obj.cells #[.float .f32 (pick .f32 ar an), .float .f32 (pick .f32 ag am), .float .f32 (pick .f32 ab ak)] 26)).alloc (Obj.cells #[.float .f32 0, .float .f32 0, .float .f32 0] 26) = w0
  have Va_0 := Lib.hid (show Var w0 (w.heap.size) #[.float .f32 (pick .f32 ar an), .float .f32 (pick .f32 ag am), .float .f32 (pick .f32 ab ak)] from by subst hw0; exact ((Var.new' _ _ _ _ (by first | rfl | simp)).alloc _))
  have Vz_0 := Lib.hid (show Var w0 (w.heap.size + 1) #[.float .f32 0, .float .f32 0, .float .f32 0] from by subst hw0; exact (Var.new' _ _ _ _ (by first | rfl | simp)))
  have F_0 := Lib.hid (show Free w0 (w.heap.size + 1) from by subst hw0; exact Free.new' _ _ _ _ (by first | rfl | simp))
  have B_0 := Lib.hid (show Below w.heap.size w w0 from by subst hw0; exact (((Below.refl _ _).alloc (Nat.le_refl _) _).alloc (by simp) _))
  have SZ := Lib.hid (show w0.heap.size = w.heap.size + 2 from by subst hw0; simp)
  have HW := Lib.hid hw0
  clear hw0
  obtain ⟨res, hres⟩ : ∃ q, q = unitW ar ag ab := ⟨_, rfl⟩
  rw [← hres]
  have CI := Lib.hid (fun w => c_l06Inner ar an ag am ab ak ar an ag am ab ak w)
  have CQ := Lib.hid (fun w => c_l06Is ar an ag am ab ak w)
  have CG := Lib.hid (fun n m k w => c_l06Give (fop .quo .f32 ar (rootV (innV ar ag ab ar ag ab))) n (fop .quo .f32 ag (rootV (innV ar ag ab ar ag ab))) m (fop .quo .f32 ab (rootV (innV ar ag ab ar ag ab))) k w (fop_lt _ _ _ _) (fop_lt _ _ _ _) (fop_lt _ _ _ _))
  cases hq : wayB ar ag ab
  all_goals rw [hq] at CQ
  · have RES := Lib.hid (hres.trans (unitW_no (.inl hq)))
    obtain ⟨ca0, ca1, ca2⟩ := Va_0.out.three
    obtain ⟨cz0, cz1, cz2⟩ := Vz_0.out.three
    have f0 := F_0.out 0
    have f1 := F_0.out 1
    have f2 := F_0.out 2
    go_enter Try.func49, Try.ntmps49
    go_wp2_with fail
    rw [HW.out]
    go_wp2_with fail
    refine (CI.out _).mono ?_
    rintro _ w1 ⟨k0, rfl, b⟩
    have Va_1 := Lib.hid (Va_0.out.keep b)
    have Vz_1 := Lib.hid (Vz_0.out.keep b)
    have F_1 := Lib.hid (F_0.out.below Vz_0.out.lt b)
    have B_1 := Lib.hid (B_0.out.trans (b.mono B_0.out.size))
    clear ca0 ca1 ca2 cz0 cz1 cz2 f0 f1 f2
    clear Va_0 Vz_0 F_0 B_0 b
    obtain ⟨ca0, ca1, ca2⟩ := Va_1.out.three
    obtain ⟨cz0, cz1, cz2⟩ := Vz_1.out.three
    have f0 := F_1.out 0
    have f1 := F_1.out 1
    have f2 := F_1.out 2
    go_wp2_with fail
    refine (CQ.out _).mono ?_
    rintro _ w2 ⟨rfl, b⟩
    have Va_2 := Lib.hid (Va_1.out.keep b)
    have Vz_2 := Lib.hid (Vz_1.out.keep b)
    have F_2 := Lib.hid (F_1.out.below Vz_1.out.lt b)
    have B_2 := Lib.hid (B_1.out.trans (b.mono B_1.out.size))
    clear ca0 ca1 ca2 cz0 cz1 cz2 f0 f1 f2
    clear Va_1 Vz_1 F_1 B_1 b
    obtain ⟨ca0, ca1, ca2⟩ := Va_2.out.three
    obtain ⟨cz0, cz1, cz2⟩ := Vz_2.out.three
    have f0 := F_2.out 0
    have f1 := F_2.out 1
    have f2 := F_2.out 2
    go_wp2_with fail
    refine bodyPost_ret (v := .tuple #[.agg #[.float .f32 0, .float .f32 0, .float .f32 0], .bool false]) (by simp [results, Try.results49, cz0, cz1, cz2, go_sem]) rfl ?_
    rw [RES.out]; refine WayB2.no rfl ?_
    repeat (first | exact B_2.out | exact Nat.le_refl _ | (refine Below.setCell ?_ ?_ _) | (refine below_drewN ?_ _) | (refine Below.alloc ?_ ?_ _) | (simp <;> omega))
  · have CF := Lib.hid (fun w k j => c_l01Finite (innV ar ag ab ar ag ab) k w j)
    cases hf : finB .f32 (innV ar ag ab ar ag ab)
    all_goals rw [hf] at CF
    · have RES := Lib.hid (hres.trans (unitW_no (.inr hf)))
      obtain ⟨ca0, ca1, ca2⟩ := Va_0.out.three
      obtain ⟨cz0, cz1, cz2⟩ := Vz_0.out.three
      have f0 := F_0.out 0
      have f1 := F_0.out 1
      have f2 := F_0.out 2
      go_enter Try.func49, Try.ntmps49
      go_wp2_with fail
      rw [HW.out]
      go_wp2_with fail
      refine (CI.out _).mono ?_
      rintro _ w1 ⟨k0, rfl, b⟩
      have Va_1 := Lib.hid (Va_0.out.keep b)
      have Vz_1 := Lib.hid (Vz_0.out.keep b)
      have F_1 := Lib.hid (F_0.out.below Vz_0.out.lt b)
      have B_1 := Lib.hid (B_0.out.trans (b.mono B_0.out.size))
      clear ca0 ca1 ca2 cz0 cz1 cz2 f0 f1 f2
      clear Va_0 Vz_0 F_0 B_0 b
      obtain ⟨ca0, ca1, ca2⟩ := Va_1.out.three
      obtain ⟨cz0, cz1, cz2⟩ := Vz_1.out.three
      have f0 := F_1.out 0
      have f1 := F_1.out 1
      have f2 := F_1.out 2
      go_wp2_with fail
      refine (CQ.out _).mono ?_
      rintro _ w2 ⟨rfl, b⟩
      have Va_2 := Lib.hid (Va_1.out.keep b)
      have Vz_2 := Lib.hid (Vz_1.out.keep b)
      have F_2 := Lib.hid (F_1.out.below Vz_1.out.lt b)
      have B_2 := Lib.hid (B_1.out.trans (b.mono B_1.out.size))
      clear ca0 ca1 ca2 cz0 cz1 cz2 f0 f1 f2
      clear Va_1 Vz_1 F_1 B_1 b
      obtain ⟨ca0, ca1, ca2⟩ := Va_2.out.three
      obtain ⟨cz0, cz1, cz2⟩ := Vz_2.out.three
      have f0 := F_2.out 0
      have f1 := F_2.out 1
      have f2 := F_2.out 2
      rw [← w2.drewN_zero]
      go_wp2_with (go_at_call 56; refine (CF.out _ _ _).mono ?_; rintro _ _ ⟨_, rfl, rfl⟩)
      refine bodyPost_ret (v := .tuple #[.agg #[.float .f32 0, .float .f32 0, .float .f32 0], .bool false]) (by simp [results, Try.results49, cz0, cz1, cz2, go_sem]) rfl ?_
      rw [RES.out]; refine WayB2.no rfl ?_
      repeat (first | exact B_2.out | exact Nat.le_refl _ | (refine Below.setCell ?_ ?_ _) | (refine below_drewN ?_ _) | (refine Below.alloc ?_ ?_ _) | (simp <;> omega))
    · have RES := Lib.hid (hres.trans (show unitW ar ag ab = giveW (fop .quo .f32 ar (rootV (innV ar ag ab ar ag ab)), fop .quo .f32 ag (rootV (innV ar ag ab ar ag ab)), fop .quo .f32 ab (rootV (innV ar ag ab ar ag ab))) from by unfold unitW; rw [hq, if_pos rfl]; rfl))
      have CS := Lib.hid (fun k w j => c_l01Sqrt (innV ar ag ab ar ag ab) k w j)
      rw [show cvN (fsqrt (cvU (innV ar ag ab ar ag ab))) = rootV (innV ar ag ab ar ag ab) from rfl] at CS
      generalize giveW (fop .quo .f32 ar (rootV (innV ar ag ab ar ag ab)), fop .quo .f32 ag (rootV (innV ar ag ab ar ag ab)), fop .quo .f32 ab (rootV (innV ar ag ab ar ag ab))) = z at CG RES
      generalize rootV (innV ar ag ab ar ag ab) = rt at *
      obtain ⟨ca0, ca1, ca2⟩ := Va_0.out.three
      obtain ⟨cz0, cz1, cz2⟩ := Vz_0.out.three
      have f0 := F_0.out 0
      have f1 := F_0.out 1
      have f2 := F_0.out 2
      go_enter Try.func49, Try.ntmps49
      go_wp2_with fail
      rw [HW.out]
      go_wp2_with fail
      refine (CI.out _).mono ?_
      rintro _ w1 ⟨k0, rfl, b⟩
      have Va_1 := Lib.hid (Va_0.out.keep b)
      have Vz_1 := Lib.hid (Vz_0.out.keep b)
      have F_1 := Lib.hid (F_0.out.below Vz_0.out.lt b)
      have B_1 := Lib.hid (B_0.out.trans (b.mono B_0.out.size))
      clear ca0 ca1 ca2 cz0 cz1 cz2 f0 f1 f2
      clear Va_0 Vz_0 F_0 B_0 b
      obtain ⟨ca0, ca1, ca2⟩ := Va_1.out.three
      obtain ⟨cz0, cz1, cz2⟩ := Vz_1.out.three
      have f0 := F_1.out 0
      have f1 := F_1.out 1
      have f2 := F_1.out 2
      go_wp2_with fail
      refine (CQ.out _).mono ?_
      rintro _ w2 ⟨rfl, b⟩
      have Va_2 := Lib.hid (Va_1.out.keep b)
      have Vz_2 := Lib.hid (Vz_1.out.keep b)
      have F_2 := Lib.hid (F_1.out.below Vz_1.out.lt b)
      have B_2 := Lib.hid (B_1.out.trans (b.mono B_1.out.size))
      clear ca0 ca1 ca2 cz0 cz1 cz2 f0 f1 f2
      clear Va_1 Vz_1 F_1 B_1 b
      obtain ⟨ca0, ca1, ca2⟩ := Va_2.out.three
      obtain ⟨cz0, cz1, cz2⟩ := Vz_2.out.three
      have f0 := F_2.out 0
      have f1 := F_2.out 1
      have f2 := F_2.out 2
      rw [← w2.drewN_zero]
      go_wp2_with (first | (first | (refine wpList_fop rfl _ _ _ _ _ rfl _ _ _ rfl rfl (by decide) _ ?_; intro _ _) | (refine upon_fop _ _ _ _ _ (by decide) ?_; intro _ _)) | (go_at_call 56; refine (CF.out _ _ _).mono ?_; rintro _ _ ⟨_, rfl, rfl⟩) | (go_at_call 90; refine (CS.out _ _ _).mono ?_; rintro _ _ ⟨_, _, rfl, rfl⟩))
      refine (CG.out _ _ _ _).mono ?_
      rintro _ w3 ⟨n9, m9, k9, rfl, b9⟩
      have b : Below w2.heap.size w2 w3 := by first | exact (below_drewN (Below.refl _ _) _).trans (b9.mono (by simp)) | exact b9
      have Va_3 := Lib.hid (Va_2.out.keep b)
      have Vz_3 := Lib.hid (Vz_2.out.keep b)
      have F_3 := Lib.hid (F_2.out.below Vz_2.out.lt b)
      have B_3 := Lib.hid (B_2.out.trans (b.mono B_2.out.size))
      clear ca0 ca1 ca2 cz0 cz1 cz2 f0 f1 f2
      clear Va_2 Vz_2 F_2 B_2 b b9
      obtain ⟨ca0, ca1, ca2⟩ := Va_3.out.three
      obtain ⟨cz0, cz1, cz2⟩ := Vz_3.out.three
      have f0 := F_3.out 0
      have f1 := F_3.out 1
      have f2 := F_3.out 2
      go_wp2_with fail
      refine bodyPost_ret (v := .tuple #[.agg #[.float .f32 (pick .f32 z.1.1 n9), .float .f32 (pick .f32 z.1.2.1 m9), .float .f32 (pick .f32 z.1.2.2 k9)], .bool z.2]) (by simp [results, Try.results49, cz0, cz1, cz2, go_sem]) rfl ?_
      rw [RES.out]; refine ⟨_, _, _, rfl, ?_⟩
      repeat (first | exact B_3.out | exact Nat.le_refl _ | (refine Below.setCell ?_ ?_ _) | (refine below_drewN ?_ _) | (refine Below.alloc ?_ ?_ _) | (simp <;> omega))
/-! ### sUnitWay -/
theorem c_sUnitWay (ar an ag am ab ak : Nat) (w : World) (har : ar < 2 ^ FloatKind.f32.format.width) (hag : ag < 2 ^ FloatKind.f32.format.width) (hab : ab < 2 ^ FloatKind.f32.format.width) : Calls Try.prog 20 #[.agg #[.float .f32 (pick .f32 ar an), .float .f32 (pick .f32 ag am), .float .f32 (pick .f32 ab ak)]] w (WayB2 (unitW ar ag ab) w) := by
  generalize hw0 : (w.alloc (Obj.cells #[.float .f32 (pick .f32 ar an), .float .f32 (pick .f32 ag am), .float .f32 (pick .f32 ab ak)] 26)).alloc (Obj.cells #[.float .f32 0, .float .f32 0, .float .f32 0] 26) = w0
  have Va_0 := Lib.hid (show Var w0 (w.heap.size) #[.float .f32 (pick .f32 ar an), .float .f32 (pick .f32 ag am), .float .f32 (pick .f32 ab ak)] from by subst hw0; exact ((Var.new' _ _ _ _ (by first | rfl | simp)).alloc _))
  have Vz_0 := Lib.hid (show Var w0 (w.heap.size + 1) #[.float .f32 0, .float .f32 0, .float .f32 0] from by subst hw0; exact (Var.new' _ _ _ _ (by first | rfl | simp)))
  have F_0 := Lib.hid (show Free w0 (w.heap.size + 1) from by subst hw0; exact Free.new' _ _ _ _ (by first | rfl | simp))
  have B_0 := Lib.hid (show Below w.heap.size w w0 from by subst hw0; exact (((Below.refl _ _).alloc (Nat.le_refl _) _).alloc (by simp) _))
  have SZ := Lib.hid (show w0.heap.size = w.heap.size + 2 from by subst hw0; simp)
  have HW := Lib.hid hw0
  clear hw0
  have CG := Lib.hid (fun w => c_l06Unit ar an ag am ab ak w har hag hab)
  generalize unitW ar ag ab = z at *
  obtain ⟨ca0, ca1, ca2⟩ := Va_0.out.three
  obtain ⟨cz0, cz1, cz2⟩ := Vz_0.out.three
  have f0 := F_0.out 0
  have f1 := F_0.out 1
  have f2 := F_0.out 2
  go_enter Try.func20, Try.ntmps20
  go_wp2_with fail
  rw [HW.out]
  go_wp2_with fail
  refine (CG.out _).mono ?_
  rintro _ w1 ⟨n9, m9, k9, rfl, b⟩
  have Va_1 := Lib.hid (Va_0.out.keep b)
  have Vz_1 := Lib.hid (Vz_0.out.keep b)
  have F_1 := Lib.hid (F_0.out.below Vz_0.out.lt b)
  have B_1 := Lib.hid (B_0.out.trans (b.mono B_0.out.size))
  clear ca0 ca1 ca2 cz0 cz1 cz2 f0 f1 f2
  clear Va_0 Vz_0 F_0 B_0 b
  obtain ⟨ca0, ca1, ca2⟩ := Va_1.out.three
  obtain ⟨cz0, cz1, cz2⟩ := Vz_1.out.three
  have f0 := F_1.out 0
  have f1 := F_1.out 1
  have f2 := F_1.out 2
  go_wp2_with fail
  refine bodyPost_ret (v := .tuple #[.agg #[.float .f32 (pick .f32 z.1.1 n9), .float .f32 (pick .f32 z.1.2.1 m9), .float .f32 (pick .f32 z.1.2.2 k9)], .bool z.2]) (by simp [results, Try.results20, cz0, cz1, cz2, go_sem]) rfl ?_
  refine ⟨_, _, _, rfl, ?_⟩
  repeat (first | exact B_1.out | exact Nat.le_refl _ | (refine Below.setCell ?_ ?_ _) | (refine below_drewN ?_ _) | (refine Below.alloc ?_ ?_ _) | (simp <;> omega))
/-! ### innerOf -/
theorem c_innerOf (ar an ag am ab ak : Nat) (cr cn cg cm cb ck : Nat) (w : World) : Calls Try.prog 51 #[.agg #[.float .f32 (pick .f32 ar an), .float .f32 (pick .f32 ag am), .float .f32 (pick .f32 ab ak)], .agg #[.float .f32 (pick .f32 cr cn), .float .f32 (pick .f32 cg cm), .float .f32 (pick .f32 cb ck)]] w (RetN (innV ar ag ab cr cg cb) w) := by
  generalize hw0 : (w.alloc (Obj.cells #[.float .f32 (pick .f32 ar an), .float .f32 (pick .f32 ag am), .float .f32 (pick .f32 ab ak)] 26)).alloc (Obj.cells #[.float .f32 (pick .f32 cr cn), .float .f32 (pick .f32 cg cm), .float .f32 (pick .f32 cb ck)] 26) = w0
  have Va_0 := Lib.hid (show Var w0 (w.heap.size) #[.float .f32 (pick .f32 ar an), .float .f32 (pick .f32 ag am), .float .f32 (pick .f32 ab ak)] from by subst hw0; exact ((Var.new' _ _ _ _ (by first | rfl | simp)).alloc _))
  have Vc_0 := Lib.hid (show Var w0 (w.heap.size + 1) #[.float .f32 (pick .f32 cr cn), .float .f32 (pick .f32 cg cm), .float .f32 (pick .f32 cb ck)] from by subst hw0; exact (Var.new' _ _ _ _ (by first | rfl | simp)))
  have B_0 := Lib.hid (show Below w.heap.size w w0 from by subst hw0; exact (((Below.refl _ _).alloc (Nat.le_refl _) _).alloc (by simp) _))
  have SZ := Lib.hid (show w0.heap.size = w.heap.size + 2 from by subst hw0; simp)
  have HW := Lib.hid hw0
  clear hw0
  unfold innV
  obtain ⟨ca0, ca1, ca2⟩ := Va_0.out.three
  obtain ⟨cc0, cc1, cc2⟩ := Vc_0.out.three
  go_enter Try.func51, Try.ntmps51
  go_wp2_with fail
  rw [HW.out]
  rw [← w0.drewN_zero]
  go_wp2_with (first | (refine wpList_fop rfl _ _ _ _ _ rfl _ _ _ rfl rfl (by decide) _ ?_; intro _ _) | (refine upon_fop _ _ _ _ _ (by decide) ?_; intro _ _))
  go_ret
  exact ⟨_, rfl, below_drewN B_0.out _⟩
/-! ### IsNaN -/
theorem c_IsNaN (v n : Nat) (w : World) (j : Nat) : Calls Try.prog 111 #[.float .f64 (pick .f64 v n)] (w.drewN j) (RetV (.bool (isN .f64 v)) w) := by
  go_enter Try.func111, Try.ntmps111
  go_wp2
  go_ret
  exact ⟨_, rfl, rfl⟩
/-! ### f64bits -/
@[go_sem] theorem e_f64bits (b : Nat) (w : World) : (callFunc 124 #[.float .f64 b]).run Try.prog w = .ok (.value (.int .u64 b)) w := by kernel_rfl
/-! ### f64from -/
@[go_sem] theorem e_f64from (n : Int) (w : World) : (callFunc 123 #[.int .u64 n]).run Try.prog w = .ok (.value (.float .f64 n.toNat)) w := by kernel_rfl
/-! ### Abs -/
theorem c_Abs (v n : Nat) (w : World) (j : Nat) (hv : v < 2 ^ FloatKind.f64.format.width) : Calls Try.prog 116 #[.float .f64 (pick .f64 v n)] (w.drewN j) (RetF .f64 (fabs .f64 v) w) := by
  have hb := abs_bits hv n
  go_enter Try.func116, Try.ntmps116
  go_wp2
  go_ret
  exact ⟨_, _, rfl, rfl⟩
/-! ### IsInf0 -/
theorem c_IsInf0 (v n : Nat) (w : World) (j : Nat) (hv : v < 2 ^ FloatKind.f64.format.width) : Calls Try.prog 114 #[.float .f64 (pick .f64 v n), .int .i64 0] (w.drewN j) (RetV (.bool (FloatKind.f64.format.order (fabs .f64 v) 9218868437227405311 == some .gt)) w) := by
  go_enter Try.func114, Try.ntmps114
  go_wp2_with ((go_at_call 116; refine (c_Abs _ _ _ _ hv).mono ?_; rintro _ _ ⟨_, _, rfl, rfl⟩))
  go_ret
  exact ⟨_, rfl, rfl⟩
/-! ### isFinite64 -/
theorem c_isFinite64 (v n : Nat) (w : World) (j : Nat) (hv : v < 2 ^ FloatKind.f64.format.width) : Calls Try.prog 95 #[.float .f64 (pick .f64 v n)] (w.drewN j) (RetV (.bool (finB .f64 v)) w) := by
  go_enter Try.func95, Try.ntmps95
  go_wp2_with (first | (go_at_call 111; refine (c_IsNaN _ _ _ _).mono ?_; rintro _ _ ⟨_, rfl, rfl⟩) | (go_at_call 114; refine (c_IsInf0 _ _ _ _ hv).mono ?_; rintro _ _ ⟨_, rfl, rfl⟩))
  all_goals
    go_ret
    refine ⟨_, ?_, rfl⟩
    rw [← abs_gt_max]
    simp [*]
/-! ### iIsFinite -/
theorem c_iIsFinite (v n : Nat) (w : World) (j : Nat) : Calls Try.prog 61 #[.float .f32 (pick .f32 v n)] (w.drewN j) (RetV (.bool (finB .f32 v)) w) := by
  go_enter Try.func61, Try.ntmps61
  go_wp2_with (first | (refine wpList_cvU rfl 22 36 _ rfl (Option.isSome_iff_exists.2 ⟨_, Try.underlying22⟩) Try.underlying36 _ rfl _ ?_; intro _ _) | (go_at_call 95; refine (c_isFinite64 _ _ _ _ (cvU_lt _)).mono ?_; rintro _ _ ⟨_, rfl, rfl⟩))
  go_ret
  rw [← finB_cvU]
  exact ⟨_, rfl, rfl⟩
/-! ### areFinite -/
theorem c_areFinite (a : Option Addr) (len cap : Nat) (zs : List Nat) (w : World) (j0 : Nat) (hr : IsRowF .f32 w a len cap zs) : Calls Try.prog 46 #[.slice a len cap] (w.drewN j0) (RetV (.bool (finL zs)) w) := by
  obtain ⟨h1, h2, h3, h4, h5⟩ := hr
  unfold maxLen at h3
  have H1 := Lib.hid h1
  clear h1
  go_enter Try.func46, Try.ntmps46
  go_wp2
  go_loopw [4, 7] (fun _ i wr => ∃ k m : Nat, k ≤ len ∧ i = .int .i64 k ∧ wr = w.drewN m ∧ finL (zs.take k) = true) (fun _ i _ => len - (intOf i).toNat)
  case atStart => exact ⟨0, j0, Nat.zero_le _, rfl, rfl, rfl⟩
  case round =>
    obtain ⟨k, m, hk, rfl, rfl, hfin⟩ := hrel
    have HFin := Lib.hid hfin
    clear hfin
    by_cases hlt : k < len
    · rcases h5 with h5 | ⟨b, off, rfl, hbl, hc⟩
      · omega
      have hcell : w.cell? ⟨b, off + k, none⟩ = some (.float .f32 (fat zs k)) := hc k hlt
      obtain ⟨n, hn⟩ := pick0 .f32 (fat zs k) (lt_of_wf (h4 _ (by unfold fat; rw [List.getD, List.getElem?_eq_getElem (by have := H1.out; omega)]; exact List.getElem_mem _)))
      rw [hn] at hcell
      have HS := Lib.hid (finL_snoc zs k (by have := H1.out; omega))
      cases hf : finB .f32 (fat zs k)
      · have HO := Lib.hid (finL_of zs k (by have := H1.out; omega) hf)
        clear hc h4 hn
        go_wp2_with ((go_at_call 61; refine (c_iIsFinite _ _ _ _).mono ?_; rintro _ _ ⟨_, rfl, rfl⟩))
        go_ret
        exact ⟨_, by rw [HO.out]; rfl, rfl⟩
      · have HF := Lib.hid hf
        clear hc h4 hn
        go_wp2_with ((go_at_call 61; refine (c_iIsFinite _ _ _ _).mono ?_; rintro _ _ ⟨_, rfl, rfl⟩))
        go_roundw
        case rel => exact ⟨k + 1, _, by omega, by go_num, rfl, by rw [HS.out, HFin.out, HF.out]; rfl⟩
        case measure => simp [intOf]; omega
    · have e : zs.take k = zs := List.take_of_length_le (by have := H1.out; omega)
      have HE := Lib.hid e
      clear h5 h4 e
      go_wp2
      go_ret
      exact ⟨_, by have h := HFin.out; rw [HE.out] at h; rw [h]; rfl, rfl⟩
/-! ### areFinN -/
theorem c_areFinW (a : Option Addr) (len cap : Nat) (zs : List Nat) (w : World) (hr : IsRowF .f32 w a len cap zs) : Calls Try.prog 46 #[.slice a len cap] w (RetV (.bool (finL zs)) w) := by
  have h := c_areFinite a len cap zs w 0 hr
  rwa [w.drewN_zero] at h
theorem row_new (w : World) (b : Nat) (vs : List Nat) (T : TypeId) (hb : b = w.heap.size) (hl : vs.length ≤ 1000) (hwf : ∀ x ∈ vs, (Lit.float .f32 x).wf = true) : IsRowF .f32 (w.alloc (.cells (fl .f32 vs).toArray T)) (some ⟨b, 0, none⟩) vs.length vs.length vs := by
  subst hb
  exact rowF_of_block (heap_alloc_new w _) (by unfold maxLen; omega) hwf

/-! ### wayEq -/
theorem eqWay0 (x0 x1 x2 : Nat) (w : World) : (Op.equalIn 10000 26 (.agg #[.float .f32 x0, .float .f32 x1, .float .f32 x2]) (.agg #[.float .f32 0, .float .f32 0, .float .f32 0])).run Try.prog w = .ok ((FloatKind.f32.format.order x0 0 == some .eq) && (FloatKind.f32.format.order x1 0 == some .eq) && (FloatKind.f32.format.order x2 0 == some .eq)) w := by
  have u3 := Try.underlying22
  rw [show (10000 : Nat) = 9999 + 1 from rfl, run_equalIn_struct _ _ _ _ _ (by kernel_rfl) (by kernel_rfl)]
  have hE : ∀ (x : Nat) (w : World), (Op.equalIn 9999 22 (.float .f32 x) (.float .f32 0)).run Try.prog w = .ok (FloatKind.f32.format.order x 0 == some .eq) w := fun x w => by
    rw [show (9999 : Nat) = 9998 + 1 from rfl, Op.equalIn]
    simp [run_underlying u3, Op.floatEq]
  go_simp
  by_cases h0 : FloatKind.f32.format.order x0 0 = some Ordering.eq
  case neg => simp [h0]
  by_cases h1 : FloatKind.f32.format.order x1 0 = some Ordering.eq
  case neg => simp [h0, h1]
  by_cases h2 : FloatKind.f32.format.order x2 0 = some Ordering.eq
  case neg => simp [h0, h1, h2]
  simp [h0, h1, h2]
/-! ### iIsWay -/
theorem c_iIsWay (r n g m b k : Nat) (w : World) (hr : r < 2 ^ FloatKind.f32.format.width) (hg : g < 2 ^ FloatKind.f32.format.width) (hb : b < 2 ^ FloatKind.f32.format.width) : Calls Try.prog 17 #[.agg #[.float .f32 (pick .f32 r n), .float .f32 (pick .f32 g m), .float .f32 (pick .f32 b k)]] w (RetB (.bool (wayB r g b)) w) := by
  have AF := Lib.hid (fun (w : World) (z : Nat) (hz : z = w.heap.size) => @id (Calls Try.prog 46 #[.slice (some ⟨z, 0, none⟩) 3 3] (w.alloc (.cells #[.float .f32 (pick .f32 r n), .float .f32 (pick .f32 g m), .float .f32 (pick .f32 b k)] 22)) (RetV (.bool (colB r g b)) (w.alloc (.cells #[.float .f32 (pick .f32 r n), .float .f32 (pick .f32 g m), .float .f32 (pick .f32 b k)] 22)))) (by
    have h := c_areFinW _ _ _ _ _ (row_new w z [pick .f32 r n, pick .f32 g m, pick .f32 b k] 22 hz (by simp) (by intro x hx; simp at hx; rcases hx with rfl | rfl | rfl <;> exact pick_wf (by assumption) _))
    rwa [fin3] at h))
  have EQ := eqWay0 (pick .f32 r n) (pick .f32 g m) (pick .f32 b k)
  simp only [order_pick_l] at EQ
  unfold wayB nzB bne
  generalize colB r g b = q at *
  generalize hw0 : w.alloc (Obj.cells #[.float .f32 (pick .f32 r n), .float .f32 (pick .f32 g m), .float .f32 (pick .f32 b k)] 26) = w0
  have X0 : Var w0 w.heap.size #[.float .f32 (pick .f32 r n), .float .f32 (pick .f32 g m), .float .f32 (pick .f32 b k)] := by subst hw0; exact Var.new _ _ _
  have X1 : Below w.heap.size w w0 := by subst hw0; exact (Below.refl _ _).alloc (Nat.le_refl _) _
  have SZ := Lib.hid (show w0.heap.size = w.heap.size + 1 from by subst hw0; simp)
  have HW := Lib.hid hw0
  have B0 := Lib.hid X1
  have V0 := Lib.hid X0
  obtain ⟨q0, q1, q2⟩ := X0.three
  clear hw0 X0 X1
  cases h1 : (FloatKind.f32.format.order r 0 == some .eq) <;> cases h2 : (FloatKind.f32.format.order g 0 == some .eq) <;> cases h3 : (FloatKind.f32.format.order b 0 == some .eq)
  all_goals
    simp only [h1, h2, h3, Bool.true_and, Bool.false_and, Bool.and_false, Bool.and_true] at EQ
    go_enter Try.func17, Try.ntmps17
    go_wp2_with fail
    rw [HW.out]
    go_wp2_with fail
    first
      | (refine (AF.out _ _ (by rw [SZ.out])).mono ?_
         rintro _ _ ⟨m1, rfl, rfl⟩
         go_wp2_with fail
         go_ret
         exact ⟨by simp, below_drewN (B0.out.alloc (B0.out.size) _) _⟩)
      | (go_ret; exact ⟨by simp, B0.out⟩)

/-! ### ifWay -/
theorem c_ifWay (ar an ag am ab ak : Nat) (w : World) (har : ar < 2 ^ FloatKind.f32.format.width) (hag : ag < 2 ^ FloatKind.f32.format.width) (hab : ab < 2 ^ FloatKind.f32.format.width) : Calls Try.prog 52 #[.agg #[.float .f32 (pick .f32 ar an), .float .f32 (pick .f32 ag am), .float .f32 (pick .f32 ab ak)]] w (WayB2 (giveW (ar, ag, ab)) w) := by
  generalize hw0 : (w.alloc (Obj.cells #[.float .f32 (pick .f32 ar an), .float .f32 (pick .f32 ag am), .float .f32 (pick .f32 ab ak)] 26)).alloc (Obj.cells #[.float .f32 0, .float .f32 0, .float .f32 0] 26) = w0
  have Va_0 := Lib.hid (show Var w0 (w.heap.size) #[.float .f32 (pick .f32 ar an), .float .f32 (pick .f32 ag am), .float .f32 (pick .f32 ab ak)] from by subst hw0; exact ((Var.new' _ _ _ _ (by first | rfl | simp)).alloc _))
  have Vz_0 := Lib.hid (show Var w0 (w.heap.size + 1) #[.float .f32 0, .float .f32 0, .float .f32 0] from by subst hw0; exact (Var.new' _ _ _ _ (by first | rfl | simp)))
  have F_0 := Lib.hid (show Free w0 (w.heap.size + 1) from by subst hw0; exact Free.new' _ _ _ _ (by first | rfl | simp))
  have B_0 := Lib.hid (show Below w.heap.size w w0 from by subst hw0; exact (((Below.refl _ _).alloc (Nat.le_refl _) _).alloc (by simp) _))
  have SZ := Lib.hid (show w0.heap.size = w.heap.size + 2 from by subst hw0; simp)
  have HW := Lib.hid hw0
  clear hw0
  have CF := Lib.hid (fun w => c_iIsWay ar an ag am ab ak w har hag hab)
  cases hq : wayB ar ag ab
  all_goals rw [hq] at CF
  · obtain ⟨ca0, ca1, ca2⟩ := Va_0.out.three
    obtain ⟨cz0, cz1, cz2⟩ := Vz_0.out.three
    have f0 := F_0.out 0
    have f1 := F_0.out 1
    have f2 := F_0.out 2
    go_enter Try.func52, Try.ntmps52
    go_wp2_with fail
    rw [HW.out]
    go_wp2_with fail
    refine (CF.out _).mono ?_
    rintro _ w1 ⟨rfl, b⟩
    have Va_1 := Lib.hid (Va_0.out.keep b)
    have Vz_1 := Lib.hid (Vz_0.out.keep b)
    have F_1 := Lib.hid (F_0.out.below Vz_0.out.lt b)
    have B_1 := Lib.hid (B_0.out.trans (b.mono B_0.out.size))
    clear ca0 ca1 ca2 cz0 cz1 cz2 f0 f1 f2
    clear Va_0 Vz_0 F_0 B_0 b
    obtain ⟨ca0, ca1, ca2⟩ := Va_1.out.three
    obtain ⟨cz0, cz1, cz2⟩ := Vz_1.out.three
    have f0 := F_1.out 0
    have f1 := F_1.out 1
    have f2 := F_1.out 2
    go_wp2_with fail
    refine bodyPost_ret (v := .tuple #[.agg #[.float .f32 0, .float .f32 0, .float .f32 0], .bool false]) (by simp [results, Try.results52, cz0, cz1, cz2, go_sem]) rfl ?_
    rw [giveW_lt_no hq]; refine WayB2.no rfl ?_
    repeat (first | exact B_1.out | exact Nat.le_refl _ | (refine Below.setCell ?_ ?_ _) | (refine below_drewN ?_ _) | (refine Below.alloc ?_ ?_ _) | (simp <;> omega))
  · obtain ⟨ca0, ca1, ca2⟩ := Va_0.out.three
    obtain ⟨cz0, cz1, cz2⟩ := Vz_0.out.three
    have f0 := F_0.out 0
    have f1 := F_0.out 1
    have f2 := F_0.out 2
    go_enter Try.func52, Try.ntmps52
    go_wp2_with fail
    rw [HW.out]
    go_wp2_with fail
    refine (CF.out _).mono ?_
    rintro _ w1 ⟨rfl, b⟩
    have Va_1 := Lib.hid (Va_0.out.keep b)
    have Vz_1 := Lib.hid (Vz_0.out.keep b)
    have F_1 := Lib.hid (F_0.out.below Vz_0.out.lt b)
    have B_1 := Lib.hid (B_0.out.trans (b.mono B_0.out.size))
    clear ca0 ca1 ca2 cz0 cz1 cz2 f0 f1 f2
    clear Va_0 Vz_0 F_0 B_0 b
    obtain ⟨ca0, ca1, ca2⟩ := Va_1.out.three
    obtain ⟨cz0, cz1, cz2⟩ := Vz_1.out.three
    have f0 := F_1.out 0
    have f1 := F_1.out 1
    have f2 := F_1.out 2
    go_wp2_with fail
    refine bodyPost_ret (v := .tuple #[.agg #[.float .f32 (pick .f32 ar an), .float .f32 (pick .f32 ag am), .float .f32 (pick .f32 ab ak)], .bool true]) (by simp [results, Try.results52, cz0, cz1, cz2, go_sem]) rfl ?_
    rw [giveW_yes hq]; refine ⟨_, _, _, rfl, ?_⟩
    repeat (first | exact B_1.out | exact Nat.le_refl _ | (refine Below.setCell ?_ ?_ _) | (refine below_drewN ?_ _) | (refine Below.alloc ?_ ?_ _) | (simp <;> omega))
/-! ### iSineTurns0 -/
theorem c_NarrowNumber (v n : Nat) (w : World) (j : Nat) (hfit : Fits v) : Calls Try.prog 91 #[.float .f64 (pick .f64 v n)] (w.drewN j) (RetF .f32 (cvN v) w) := by
  have H := Lib.hid hfit
  clear hfit
  go_enter Try.func91, Try.ntmps91
  go_wp2_with ((refine wpList_cvN rfl 36 22 _ rfl (Option.isSome_iff_exists.2 ⟨_, Try.underlying36⟩) Try.underlying22 _ rfl _ (by rw [Fits_pick]; exact H.out) ?_; intro _ _))
  go_ret
  exact ⟨_, _, rfl, rfl⟩
/-! ### iRoot -/
theorem c_iRoot (v n : Nat) (w : World) (j : Nat) : Calls Try.prog 50 #[.float .f32 (pick .f32 v n)] (w.drewN j) (RetF .f32 (cvN (fsqrt (cvU v))) w) := by
  have HF := Lib.hid (root_fits v)
  go_enter Try.func50, Try.ntmps50
  go_wp2_with (first | (refine wpList_cvU rfl 22 36 _ rfl (Option.isSome_iff_exists.2 ⟨_, Try.underlying22⟩) Try.underlying36 _ rfl _ ?_; intro _ _) | (go_at_call 92; refine (c_Sqrt _ _ _ _).mono ?_; rintro _ _ ⟨_, _, rfl, rfl⟩) | (go_at_call 91; refine (c_NarrowNumber _ _ _ _ HF.out).mono ?_; rintro _ _ ⟨_, _, rfl, rfl⟩))
  go_ret
  exact ⟨_, _, rfl, rfl⟩
/-! ### iUnitWay -/
theorem c_iUnitWay (ar an ag am ab ak : Nat) (w : World) (har : ar < 2 ^ FloatKind.f32.format.width) (hag : ag < 2 ^ FloatKind.f32.format.width) (hab : ab < 2 ^ FloatKind.f32.format.width) : Calls Try.prog 21 #[.agg #[.float .f32 (pick .f32 ar an), .float .f32 (pick .f32 ag am), .float .f32 (pick .f32 ab ak)]] w (WayB2 (unitW ar ag ab) w) := by
  generalize hw0 : (w.alloc (Obj.cells #[.float .f32 (pick .f32 ar an), .float .f32 (pick .f32 ag am), .float .f32 (pick .f32 ab ak)] 26)).alloc (Obj.cells #[.float .f32 0, .float .f32 0, .float .f32 0] 26) = w0
  have Va_0 := Lib.hid (show Var w0 (w.heap.size) #[.float .f32 (pick .f32 ar an), .float .f32 (pick .f32 ag am), .float .f32 (pick .f32 ab ak)] from by subst hw0; exact ((Var.new' _ _ _ _ (by first | rfl | simp)).alloc _))
  have Vz_0 := Lib.hid (show Var w0 (w.heap.size + 1) #[.float .f32 0, .float .f32 0, .float .f32 0] from by subst hw0; exact (Var.new' _ _ _ _ (by first | rfl | simp)))
  have F_0 := Lib.hid (show Free w0 (w.heap.size + 1) from by subst hw0; exact Free.new' _ _ _ _ (by first | rfl | simp))
  have B_0 := Lib.hid (show Below w.heap.size w w0 from by subst hw0; exact (((Below.refl _ _).alloc (Nat.le_refl _) _).alloc (by simp) _))
  have SZ := Lib.hid (show w0.heap.size = w.heap.size + 2 from by subst hw0; simp)
  have HW := Lib.hid hw0
  clear hw0
  obtain ⟨res, hres⟩ : ∃ q, q = unitW ar ag ab := ⟨_, rfl⟩
  rw [← hres]
  have CI := Lib.hid (fun w => c_innerOf ar an ag am ab ak ar an ag am ab ak w)
  have CQ := Lib.hid (fun w => c_iIsWay ar an ag am ab ak w har hag hab)
  have CG := Lib.hid (fun n m k w => c_ifWay (fop .quo .f32 ar (rootV (innV ar ag ab ar ag ab))) n (fop .quo .f32 ag (rootV (innV ar ag ab ar ag ab))) m (fop .quo .f32 ab (rootV (innV ar ag ab ar ag ab))) k w (fop_lt _ _ _ _) (fop_lt _ _ _ _) (fop_lt _ _ _ _))
  cases hq : wayB ar ag ab
  all_goals rw [hq] at CQ
  · have RES := Lib.hid (hres.trans (unitW_no (.inl hq)))
    obtain ⟨ca0, ca1, ca2⟩ := Va_0.out.three
    obtain ⟨cz0, cz1, cz2⟩ := Vz_0.out.three
    have f0 := F_0.out 0
    have f1 := F_0.out 1
    have f2 := F_0.out 2
    go_enter Try.func21, Try.ntmps21
    go_wp2_with fail
    rw [HW.out]
    go_wp2_with fail
    refine (CQ.out _).mono ?_
    rintro _ w1 ⟨rfl, b⟩
    have Va_1 := Lib.hid (Va_0.out.keep b)
    have Vz_1 := Lib.hid (Vz_0.out.keep b)
    have F_1 := Lib.hid (F_0.out.below Vz_0.out.lt b)
    have B_1 := Lib.hid (B_0.out.trans (b.mono B_0.out.size))
    clear ca0 ca1 ca2 cz0 cz1 cz2 f0 f1 f2
    clear Va_0 Vz_0 F_0 B_0 b
    obtain ⟨ca0, ca1, ca2⟩ := Va_1.out.three
    obtain ⟨cz0, cz1, cz2⟩ := Vz_1.out.three
    have f0 := F_1.out 0
    have f1 := F_1.out 1
    have f2 := F_1.out 2
    go_wp2_with fail
    refine bodyPost_ret (v := .tuple #[.agg #[.float .f32 0, .float .f32 0, .float .f32 0], .bool false]) (by simp [results, Try.results21, cz0, cz1, cz2, go_sem]) rfl ?_
    rw [RES.out]; refine WayB2.no rfl ?_
    repeat (first | exact B_1.out | exact Nat.le_refl _ | (refine Below.setCell ?_ ?_ _) | (refine below_drewN ?_ _) | (refine Below.alloc ?_ ?_ _) | (simp <;> omega))
  · have RES := Lib.hid (hres.trans (show unitW ar ag ab = giveW (fop .quo .f32 ar (rootV (innV ar ag ab ar ag ab)), fop .quo .f32 ag (rootV (innV ar ag ab ar ag ab)), fop .quo .f32 ab (rootV (innV ar ag ab ar ag ab))) from by unfold unitW; rw [hq, if_pos rfl]; rfl))
    have CS := Lib.hid (fun k w j => c_iRoot (innV ar ag ab ar ag ab) k w j)
    rw [show cvN (fsqrt (cvU (innV ar ag ab ar ag ab))) = rootV (innV ar ag ab ar ag ab) from rfl] at CS
    generalize giveW (fop .quo .f32 ar (rootV (innV ar ag ab ar ag ab)), fop .quo .f32 ag (rootV (innV ar ag ab ar ag ab)), fop .quo .f32 ab (rootV (innV ar ag ab ar ag ab))) = z at CG RES
    generalize rootV (innV ar ag ab ar ag ab) = rt at *
    obtain ⟨ca0, ca1, ca2⟩ := Va_0.out.three
    obtain ⟨cz0, cz1, cz2⟩ := Vz_0.out.three
    have f0 := F_0.out 0
    have f1 := F_0.out 1
    have f2 := F_0.out 2
    go_enter Try.func21, Try.ntmps21
    go_wp2_with fail
    rw [HW.out]
    go_wp2_with fail
    refine (CQ.out _).mono ?_
    rintro _ w1 ⟨rfl, b⟩
    have Va_1 := Lib.hid (Va_0.out.keep b)
    have Vz_1 := Lib.hid (Vz_0.out.keep b)
    have F_1 := Lib.hid (F_0.out.below Vz_0.out.lt b)
    have B_1 := Lib.hid (B_0.out.trans (b.mono B_0.out.size))
    clear ca0 ca1 ca2 cz0 cz1 cz2 f0 f1 f2
    clear Va_0 Vz_0 F_0 B_0 b
    obtain ⟨ca0, ca1, ca2⟩ := Va_1.out.three
    obtain ⟨cz0, cz1, cz2⟩ := Vz_1.out.three
    have f0 := F_1.out 0
    have f1 := F_1.out 1
    have f2 := F_1.out 2
    go_wp2_with fail
    refine (CI.out _).mono ?_
    rintro _ w2 ⟨k0, rfl, b⟩
    have Va_2 := Lib.hid (Va_1.out.keep b)
    have Vz_2 := Lib.hid (Vz_1.out.keep b)
    have F_2 := Lib.hid (F_1.out.below Vz_1.out.lt b)
    have B_2 := Lib.hid (B_1.out.trans (b.mono B_1.out.size))
    clear ca0 ca1 ca2 cz0 cz1 cz2 f0 f1 f2
    clear Va_1 Vz_1 F_1 B_1 b
    obtain ⟨ca0, ca1, ca2⟩ := Va_2.out.three
    obtain ⟨cz0, cz1, cz2⟩ := Vz_2.out.three
    have f0 := F_2.out 0
    have f1 := F_2.out 1
    have f2 := F_2.out 2
    rw [← w2.drewN_zero]
    go_wp2_with (first | (first | (refine wpList_fop rfl _ _ _ _ _ rfl _ _ _ rfl rfl (by decide) _ ?_; intro _ _) | (refine upon_fop _ _ _ _ _ (by decide) ?_; intro _ _)) | (go_at_call 50; refine (CS.out _ _ _).mono ?_; rintro _ _ ⟨_, _, rfl, rfl⟩))
    refine (CG.out _ _ _ _).mono ?_
    rintro _ w3 ⟨n9, m9, k9, rfl, b9⟩
    have b : Below w2.heap.size w2 w3 := by first | exact (below_drewN (Below.refl _ _) _).trans (b9.mono (by simp)) | exact b9
    have Va_3 := Lib.hid (Va_2.out.keep b)
    have Vz_3 := Lib.hid (Vz_2.out.keep b)
    have F_3 := Lib.hid (F_2.out.below Vz_2.out.lt b)
    have B_3 := Lib.hid (B_2.out.trans (b.mono B_2.out.size))
    clear ca0 ca1 ca2 cz0 cz1 cz2 f0 f1 f2
    clear Va_2 Vz_2 F_2 B_2 b b9
    obtain ⟨ca0, ca1, ca2⟩ := Va_3.out.three
    obtain ⟨cz0, cz1, cz2⟩ := Vz_3.out.three
    have f0 := F_3.out 0
    have f1 := F_3.out 1
    have f2 := F_3.out 2
    go_wp2_with fail
    refine bodyPost_ret (v := .tuple #[.agg #[.float .f32 (pick .f32 z.1.1 n9), .float .f32 (pick .f32 z.1.2.1 m9), .float .f32 (pick .f32 z.1.2.2 k9)], .bool z.2]) (by simp [results, Try.results21, cz0, cz1, cz2, go_sem]) rfl ?_
    rw [RES.out]; refine ⟨_, _, _, rfl, ?_⟩
    repeat (first | exact B_3.out | exact Nat.le_refl _ | (refine Below.setCell ?_ ?_ _) | (refine below_drewN ?_ _) | (refine Below.alloc ?_ ?_ _) | (simp <;> omega))
/-! ### FnExactUnitWay -/
theorem walk (vWr nWr vWg nWg vWb nWb : Nat) (w : World) (hWr : vWr < 2 ^ FloatKind.f32.format.width) (hWg : vWg < 2 ^ FloatKind.f32.format.width) (hWb : vWb < 2 ^ FloatKind.f32.format.width) : Calls Try.prog 5 #[.agg #[.float .f32 (pick .f32 vWr nWr), .float .f32 (pick .f32 vWg nWg), .float .f32 (pick .f32 vWb nWb)]] w fun e w' => e = .returned (.bool true) ∧ Below w.heap.size w w' := by
  generalize hw0 : w.alloc (Obj.cells #[.float .f32 (pick .f32 vWr nWr), .float .f32 (pick .f32 vWg nWg), .float .f32 (pick .f32 vWb nWb)] 24) = w0
  have X0 : Var w0 w.heap.size #[.float .f32 (pick .f32 vWr nWr), .float .f32 (pick .f32 vWg nWg), .float .f32 (pick .f32 vWb nWb)] := by subst hw0; exact Var.new _ _ _
  have X1 : Below w.heap.size w w0 := by subst hw0; exact (Below.refl _ _).alloc (Nat.le_refl _) _
  have HW := Lib.hid hw0
  have B_0 := Lib.hid X1
  have V_0 := Lib.hid X0
  have CT := Lib.hid (fun w => c_toW vWr nWr vWg nWg vWb nWb w)
  obtain ⟨q0, q1, q2⟩ := X0.three
  have Cs := Lib.hid (fun w => c_sUnitWay vWr nWr vWg nWg vWb nWb w hWr hWg hWb)
  have Ci := Lib.hid (fun w => c_iUnitWay vWr nWr vWg nWg vWb nWb w hWr hWg hWb)
  generalize unitW vWr vWg vWb = z at *
  clear hw0 X0 X1
  go_enter Try.func5, Try.ntmps5
  go_wp2_with fail
  rw [HW.out]
  go_wp2_with fail
  refine (CT.out _).mono ?_
  rintro _ w1 ⟨rfl, b⟩
  have B_1 := Lib.hid (B_0.out.trans (b.mono B_0.out.size))
  have V_1 := Lib.hid (V_0.out.keep b)
  clear B_0 V_0
  clear b q0 q1 q2
  go_wp2_with fail
  refine (Cs.out _).mono ?_
  rintro _ w2 ⟨ns, ms, ks, rfl, b⟩
  have B_2 := Lib.hid (B_1.out.trans (b.mono B_1.out.size))
  have V_2 := Lib.hid (V_1.out.keep b)
  clear B_1 V_1
  clear b
  generalize hw3 : w2.alloc (Obj.cells #[.float .f32 (pick .f32 z.1.1 ns), .float .f32 (pick .f32 z.1.2.1 ms), .float .f32 (pick .f32 z.1.2.2 ks)] 26) = w3
  have X0 : Var w3 w2.heap.size #[.float .f32 (pick .f32 z.1.1 ns), .float .f32 (pick .f32 z.1.2.1 ms), .float .f32 (pick .f32 z.1.2.2 ks)] := by subst hw3; exact Var.new _ _ _
  have b : Below w2.heap.size w2 w3 := by subst hw3; exact (Below.refl _ _).alloc (Nat.le_refl _) _
  have Hs := Lib.hid hw3
  have B_3 := Lib.hid (B_2.out.trans (b.mono B_2.out.size))
  have V_3 := Lib.hid (V_2.out.keep b)
  clear B_2 V_2
  have Us_3 := Lib.hid X0
  obtain ⟨q0, q1, q2⟩ := V_3.out.three
  rw [← hw3] at q0 q1 q2
  clear b X0 hw3
  go_wp2_with fail
  rw [Hs.out]
  clear Hs q0 q1 q2
  obtain ⟨q0, q1, q2⟩ := V_3.out.three
  go_wp2_with fail
  refine (CT.out _).mono ?_
  rintro _ w4 ⟨rfl, b⟩
  have B_4 := Lib.hid (B_3.out.trans (b.mono B_3.out.size))
  have V_4 := Lib.hid (V_3.out.keep b)
  have Us_4 := Lib.hid (Us_3.out.keep b)
  clear B_3 V_3 Us_3
  clear b q0 q1 q2
  go_wp2_with fail
  refine (Ci.out _).mono ?_
  rintro _ w5 ⟨ni, mi, ki, rfl, b⟩
  have B_5 := Lib.hid (B_4.out.trans (b.mono B_4.out.size))
  have V_5 := Lib.hid (V_4.out.keep b)
  have Us_5 := Lib.hid (Us_4.out.keep b)
  clear B_4 V_4 Us_4
  clear b
  generalize hw6 : w5.alloc (Obj.cells #[.float .f32 (pick .f32 z.1.1 ni), .float .f32 (pick .f32 z.1.2.1 mi), .float .f32 (pick .f32 z.1.2.2 ki)] 26) = w6
  have X0 : Var w6 w5.heap.size #[.float .f32 (pick .f32 z.1.1 ni), .float .f32 (pick .f32 z.1.2.1 mi), .float .f32 (pick .f32 z.1.2.2 ki)] := by subst hw6; exact Var.new _ _ _
  have b : Below w5.heap.size w5 w6 := by subst hw6; exact (Below.refl _ _).alloc (Nat.le_refl _) _
  have Hi := Lib.hid hw6
  have B_6 := Lib.hid (B_5.out.trans (b.mono B_5.out.size))
  have V_6 := Lib.hid (V_5.out.keep b)
  have Us_6 := Lib.hid (Us_5.out.keep b)
  clear B_5 V_5 Us_5
  have Ui_6 := Lib.hid X0
  obtain ⟨q0, q1, q2⟩ := V_6.out.three
  rw [← hw6] at q0 q1 q2
  obtain ⟨c0, c1, c2⟩ := Us_6.out.three
  rw [← hw6] at c0 c1 c2
  obtain ⟨d0, d1, d2⟩ := Ui_6.out.three
  rw [← hw6] at d0 d1 d2
  clear b X0 hw6
  go_wp2_with fail
  rw [Hi.out]
  clear Hi q0 q1 q2 c0 c1 c2 d0 d1 d2
  refine (c_eqW z.1.1 ni ns z.1.2.1 mi ms z.1.2.2 ki ks w6).mono ?_
  rintro _ w7 ⟨rfl, b⟩
  have B_7 := Lib.hid (B_6.out.trans (b.mono B_6.out.size))
  have V_7 := Lib.hid (V_6.out.keep b)
  have Us_7 := Lib.hid (Us_6.out.keep b)
  have Ui_7 := Lib.hid (Ui_6.out.keep b)
  clear B_6 V_6 Us_6 Ui_6
  clear b
  go_wp2_with fail
  go_ret
  exact ⟨rfl, B_7.out⟩
theorem own : ownKnob Try.prog.godebug = none := by kernel_rfl
theorem laidOut : laidOutB Try.prog = true := by kernel_rfl
set_option maxRecDepth 100000 in
theorem lifted (os : Os) (started : os.Started) (H : Type) (enc : TypeId × Value → H) :
    ReturnsInHanded {} Try.checked os 5 .any (Rows.fnExactUnitWaySpec.pre6 enc Try.prog Try.f5 Rows.fnExactUnitWayRow.domain false) (Rows.fnExactUnitWaySpec.post enc Try.prog Try.f5 false true false false) := by
  refine returnsInHanded_of_change (C := Try.checked) own started (by kernel_rfl) Try.func5
    (ChangeSpec.witness6 (enc := enc) (C := Try.checked) false ⟨#[], #[.agg #[.float .f32 0, .float .f32 0, .float .f32 0]], []⟩ 8 (by kernel_rfl) (by kernel_rfl) (by kernel_rfl) (by kernel_rfl)) ?_
  intro W base args ds gs before hval0 hW hcnd _
  have hval : ∀ (j : Nat) t v, Try.f5.params[j]? = some t → args[j]? = some v → Value.okWide Try.prog W .any base t v := hval0
  have hW' := hW
  obtain ⟨p, q, hA0, hV, rfl, hfz, hnd⟩ := hW
  have hA : DataW.TrodAll enc Try.prog W 0 (fun _ => true) true Try.f5.params.toList args.toList ds p := hA0
  rw [Try.params5] at hA hval
  obtain ⟨v0, vs0, d0, ds0, p0, q0, hargs, rfl, rfl, h0, r0⟩ := trodAll_cons hA
  obtain ⟨rfl, rfl, rfl⟩ := trodAll_nil r0
  obtain rfl : args = #[v0] := by cases args; simp_all
  obtain ⟨rfl, rfl⟩ := trodVars_none hV
  have k0 := h0
  have lt0 : ∀ x ∈ p0, x.block < W.heap.size := by obtain ⟨m, hm⟩ := k0; exact DataW.trod_lt m _ _ _ hm
  obtain ⟨br0, bg0, bb0, rfl, wr0, wg0, wb0⟩ := open_col Try.underlying24 (by kernel_rfl) (by kernel_rfl) Try.underlying22 Try.underlying22 Try.underlying22 (hval 0 24 v0 rfl rfl) h0
  obtain ⟨nr0, er0⟩ := pick_onto .f32 br0 (lt_of_wf wr0)
  obtain ⟨ng0, eg0⟩ := pick_onto .f32 bg0 (lt_of_wf wg0)
  obtain ⟨nb0, eb0⟩ := pick_onto .f32 bb0 (lt_of_wf wb0)
  clear hA0 hval0
  have hw0 : Calls Try.prog 5 #[.agg #[.float .f32 br0, .float .f32 bg0, .float .f32 bb0]] W fun e w' => e = .returned (.bool true) ∧ Below W.heap.size W w' := by
    rw [er0, eg0, eb0]
    exact walk br0 nr0 bg0 ng0 bb0 nb0 W (lt_of_wf wr0) (lt_of_wf wg0) (lt_of_wf wb0)
  refine hw0.mono fun e W' ⟨he, bel⟩ => ?_
  subst he
  exact ⟨_, rfl, _, _, _, [], _, [], hW', trodAll_mk1 (shut_bool Try.underlying4 _), (trodAll_cons_mk (Below.trod laidOut (by kernel_rfl) (of_decide_eq_true (by kernel_rfl)) k0 bel lt0) trodAll_mk0), rfl, bel.frame _, fun h => by cases h⟩

theorem over : Rows.fnExactUnitWayRow.holds Try.pinned (OpenSpec.ofChange Rows.fnExactUnitWaySpec) :=
  OpenClaim.holds_of_wide 5 Try.f5 rfl rfl rfl rfl rfl rfl rfl ⟨rfl, rfl, rfl, rfl, rfl⟩ rfl rfl rfl rfl rfl (by kernel_rfl) Try.func5 (by kernel_rfl)
    (of_decide_eq_true (by kernel_rfl)) (by unfold Func.isWrapper; first | (rw [if_pos (by decide +kernel)]; kernel_rfl) | (rw [if_neg (by decide +kernel)]; exact ⟨rfl, rfl⟩))
    (fun os started H enc _ => lifted os started H enc)

theorem proved : Rows.FnExactUnitWaySaid := over
#print axioms proved

end Go.Proofs.Ytmngedfibmnohaa.fnExactUnitWay

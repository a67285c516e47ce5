/-
  FnExactSameWay: for every input this law of the program returns true, and each argument reads as before. No condition.
-/
import Derived.Test.YtmngedfibmnohaaRows
import Derived.Test.YtmngedfibmnohaaRow
import Derived.Test.YtmngedfibmnohaaOg
import Derived.ProofKit
import Derived.OpenShut
import Derived.ShutString
import Derived.ChangeOld
import Derived.Below
import Derived.Lib.Hide
import Derived.Outline
import Derived.Deep.RegionHeld3
import Derived.Deep.DeepCutAuto
set_option linter.unusedSimpArgs false
set_option linter.unusedVariables false
set_option exponentiation.threshold 2000
set_option maxRecDepth 20000
set_option maxHeartbeats 4000000
namespace Go.Proofs.Ytmngedfibmnohaa.fnExactSameWay
open Go Go.Proofs.Ytmngedfibmnohaa Go.Proofs
open Go.ChangeShapes Go.WideShapes Go.ChangeAt Go.RowKit
open Go.ChangeMaps (open_string shut_string)
/-! ### openCol -/
theorem open_col {H : Type} {enc : TypeId × Value → H} {P : Program} {w : World} {base : Nat} {spare : Nat → Bool} {held : Bool} {r : Reach} {b0 : Nat} {t : TypeId} {f0 f1 f2 : Field} {v : Value} {d : DataW H} {p : List MemPlace}
    (hs : P.underlying t = some (.struct #[f0, f1, f2])) (hone : Go.Deep.oneCellFields P #[f0, f1, f2] = true) (hC : P.cellsOf t = 3) (u0 : P.underlying f0.type = some (.float .f32)) (u1 : P.underlying f1.type = some (.float .f32))
    (u2 : P.underlying f2.type = some (.float .f32)) (hv : Value.okWide P w r b0 t v) (h : DataW.Trod enc P w base spare held t v d p) :
    ∃ (x y z : Nat), v = .agg #[.float .f32 x, .float .f32 y, .float .f32 z] ∧ (Lit.float .f32 x).wf = true ∧ (Lit.float .f32 y).wf = true ∧ (Lit.float .f32 z).wf = true := by
  obtain ⟨v0, v1, v2, y0, y1, y2, n, rfl, _, _, h0, h1, h2⟩ := Go.Joins.open_agg3 hs hone hC hv h
  obtain ⟨x, e0, _, w0⟩ := trod_float u0 h0
  obtain ⟨y, e1, _, w1⟩ := trod_float u1 h1
  obtain ⟨z, e2, _, w2⟩ := trod_float u2 h2
  simp only [List.cons.injEq, and_true] at e0 e1 e2
  subst e0 e1 e2
  exact ⟨x, y, z, rfl, w0, w1, w2⟩
/-! ### toWay -/
theorem c_toW (r n g m b k : Nat) (w : World) : Calls Try.prog 16 #[.agg #[.float .f32 (pick .f32 r n), .float .f32 (pick .f32 g m), .float .f32 (pick .f32 b k)]] w (RetB (.agg #[.float .f32 (pick .f32 r n), .float .f32 (pick .f32 g m), .float .f32 (pick .f32 b k)]) w) := by
  go_enter Try.func16, Try.ntmps16
  go_wp2_with fail
  refine bodyPost_ret (v := .agg #[.float .f32 (pick .f32 r n), .float .f32 (pick .f32 g m), .float .f32 (pick .f32 b k)]) (by simp [results, Try.results16, go_sem]) rfl ⟨rfl, ?_⟩
  repeat (first | exact Below.refl _ _ | exact Nat.le_refl _ | (refine Below.setCell ?_ ?_ _) | (refine below_drewN ?_ _) | (refine Below.alloc ?_ ?_ _) | (simp <;> omega))
/-! ### sameCDefs -/
def sameC (rA gA bA rB gB bB : Nat) : Bool := (bitsI rA == bitsI rB) && (bitsI gA == bitsI gB) && (bitsI bA == bitsI bB)
/-! ### f32bits -/
@[go_sem] theorem e_f32bits (b : Nat) (w : World) : (callFunc 110 #[.float .f32 b]).run Try.prog w = .ok (.value (.int .u32 b)) w := by kernel_rfl
/-! ### l01Bits -/
theorem c_l01Bits (v n : Nat) (w : World) (j : Nat) (hv : v < 2 ^ FloatKind.f32.format.width) : Calls Try.prog 88 #[.float .f32 (pick .f32 v n)] (w.drewN j) (RetV (.int .i64 (bitsI v)) w) := by
  have hv' : v < 4294967296 := hv
  cases h : isN .f32 v
  · have e : bitsI v = v := by simp [bitsI, h]
    rw [e, pick_not h]
    have hs := self_ne .f32 v
    rw [h] at hs
    go_enter Try.func88, Try.ntmps88
    go_wp2
    go_ret
    exact ⟨_, rfl, rfl⟩
  · have e : bitsI v = 2143289344 := by simp [bitsI, h]
    rw [e]
    go_enter Try.func88, Try.ntmps88
    go_wp2
    go_ret
    exact ⟨_, rfl, rfl⟩
/-! ### l01SameF -/
theorem c_l01Same (a n b m : Nat) (w : World) (j : Nat) (ha : a < 2 ^ FloatKind.f32.format.width) (hb : b < 2 ^ FloatKind.f32.format.width) : Calls Try.prog 47 #[.float .f32 (pick .f32 a n), .float .f32 (pick .f32 b m)] (w.drewN j) (RetV (.bool (bitsI a == bitsI b)) w) := by
  go_enter Try.func47, Try.ntmps47
  go_wp2_with (first | (go_at_call 88; refine (c_l01Bits _ _ _ _ (by assumption)).mono ?_; rintro _ _ ⟨_, rfl, rfl⟩))
  go_ret
  exact ⟨_, rfl, rfl⟩
/-! ### sSameW -/
theorem c_sSameWay (rA nA gA mA bA kA : Nat) (rB nB gB mB bB kB : Nat) (w : World) (hrA : rA < 2 ^ FloatKind.f32.format.width) (hgA : gA < 2 ^ FloatKind.f32.format.width) (hbA : bA < 2 ^ FloatKind.f32.format.width) (hrB : rB < 2 ^ FloatKind.f32.format.width) (hgB : gB < 2 ^ FloatKind.f32.format.width) (hbB : bB < 2 ^ FloatKind.f32.format.width) : Calls Try.prog 18 #[.agg #[.float .f32 (pick .f32 rA nA), .float .f32 (pick .f32 gA mA), .float .f32 (pick .f32 bA kA)], .agg #[.float .f32 (pick .f32 rB nB), .float .f32 (pick .f32 gB mB), .float .f32 (pick .f32 bB kB)]] w (RetB (.bool (sameC rA gA bA rB gB bB)) w) := by
  generalize hw2 : (w.alloc (Obj.cells #[.float .f32 (pick .f32 rA nA), .float .f32 (pick .f32 gA mA), .float .f32 (pick .f32 bA kA)] 26)).alloc (Obj.cells #[.float .f32 (pick .f32 rB nB), .float .f32 (pick .f32 gB mB), .float .f32 (pick .f32 bB kB)] 26) = w2
  have X0 : Var w2 w.heap.size #[.float .f32 (pick .f32 rA nA), .float .f32 (pick .f32 gA mA), .float .f32 (pick .f32 bA kA)] := by subst hw2; exact (Var.new _ _ _).alloc _
  have X1 : Var w2 (w.heap.size + 1) #[.float .f32 (pick .f32 rB nB), .float .f32 (pick .f32 gB mB), .float .f32 (pick .f32 bB kB)] := by subst hw2; exact Var.new' _ _ _ _ (by simp)
  have X2 : Below w.heap.size w w2 := by subst hw2; exact ((Below.refl _ _).alloc (Nat.le_refl _) _).alloc (by simp) _
  have HW := Lib.hid hw2
  have B0 := Lib.hid X2
  have V0 := Lib.hid X0
  have V1 := Lib.hid X1
  have KS := Lib.hid (fun (w' : World) (hE : Below w2.heap.size w2 w') => (⟨(V0.out.keep hE).three.1, (V0.out.keep hE).three.2.1, (V0.out.keep hE).three.2.2, (V1.out.keep hE).three.1, (V1.out.keep hE).three.2.1, (V1.out.keep hE).three.2.2⟩ : _ ∧ _ ∧ _ ∧ _ ∧ _ ∧ _))
  clear hw2 X0 X1 X2
  obtain ⟨d0, d1, d2, e0, e1, e2⟩ := KS.out w2 (Below.refl _ _)
  unfold sameC
  have C1 := Lib.hid (fun j => c_l01Same rA nA rB nB w2 j hrA hrB)
  have C2 := Lib.hid (fun j => c_l01Same gA mA gB mB w2 j hgA hgB)
  have C3 := Lib.hid (fun j => c_l01Same bA kA bB kB w2 j hbA hbB)
  generalize (bitsI rA == bitsI rB) = q1 at *
  generalize (bitsI gA == bitsI gB) = q2 at *
  generalize (bitsI bA == bitsI bB) = q3 at *
  go_enter Try.func18, Try.ntmps18
  go_wp2_with fail
  rw [HW.out, ← w2.drewN_zero]
  go_wp2_with (go_at_call 47; first | ((with_reducible refine (C1.out _).mono ?_); rintro _ _ ⟨_, rfl, rfl⟩) | ((with_reducible refine (C2.out _).mono ?_); rintro _ _ ⟨_, rfl, rfl⟩) | ((with_reducible refine (C3.out _).mono ?_); rintro _ _ ⟨_, rfl, rfl⟩))
  all_goals (go_ret; exact ⟨by simp [*], below_drewN B0.out _⟩)
/-! ### IsNaN -/
theorem c_IsNaN (v n : Nat) (w : World) (j : Nat) : Calls Try.prog 111 #[.float .f64 (pick .f64 v n)] (w.drewN j) (RetV (.bool (isN .f64 v)) w) := by
  go_enter Try.func111, Try.ntmps111
  go_wp2
  go_ret
  exact ⟨_, rfl, rfl⟩
/-! ### f32from -/
@[go_sem] theorem e_f32from (n : Int) (w : World) : (callFunc 122 #[.int .u32 n]).run Try.prog w = .ok (.value (.float .f32 n.toNat)) w := by kernel_rfl
/-! ### notANumber -/
theorem c_notANumber (w : World) (j : Nat) : Calls Try.prog 108 #[] (w.drewN j) (RetV (.float .f32 2143289344) w) := by
  go_enter Try.func108, Try.ntmps108
  go_wp2
  go_ret
  exact ⟨_, rfl, rfl⟩
/-! ### iBitsOf -/
theorem c_iBitsOf (v n : Nat) (w : World) (j : Nat) (hv : v < 2 ^ FloatKind.f32.format.width) : Calls Try.prog 89 #[.float .f32 (pick .f32 v n)] (w.drewN j) (RetV (.int .i64 (bitsI v)) w) := by
  have hv' : v < 4294967296 := hv
  have hc := isN_cvU v
  cases h : isN .f32 v
  · rw [h] at hc
    have e : bitsI v = v := by simp [bitsI, h]
    rw [e, pick_not h]
    go_enter Try.func89, Try.ntmps89
    go_wp2_with (first | (refine wpList_cvU rfl 22 36 _ rfl (Option.isSome_iff_exists.2 ⟨_, Try.underlying22⟩) Try.underlying36 _ rfl _ ?_; intro _ _) | (go_at_call 111; refine (c_IsNaN _ _ _ _).mono ?_; rintro _ _ ⟨_, rfl, rfl⟩) | (go_at_call 108; refine (c_notANumber _ _).mono ?_; rintro _ _ ⟨_, rfl, rfl⟩))
    go_ret
    exact ⟨_, rfl, rfl⟩
  · rw [h] at hc
    have e : bitsI v = 2143289344 := by simp [bitsI, h]
    rw [e]
    go_enter Try.func89, Try.ntmps89
    go_wp2_with (first | (refine wpList_cvU rfl 22 36 _ rfl (Option.isSome_iff_exists.2 ⟨_, Try.underlying22⟩) Try.underlying36 _ rfl _ ?_; intro _ _) | (go_at_call 111; refine (c_IsNaN _ _ _ _).mono ?_; rintro _ _ ⟨_, rfl, rfl⟩) | (go_at_call 108; refine (c_notANumber _ _).mono ?_; rintro _ _ ⟨_, rfl, rfl⟩))
    go_ret
    exact ⟨_, rfl, rfl⟩
/-! ### iSameNumber -/
theorem c_iSameNumber (a n b m : Nat) (w : World) (j : Nat) (ha : a < 2 ^ FloatKind.f32.format.width) (hb : b < 2 ^ FloatKind.f32.format.width) : Calls Try.prog 48 #[.float .f32 (pick .f32 a n), .float .f32 (pick .f32 b m)] (w.drewN j) (RetV (.bool (bitsI a == bitsI b)) w) := by
  go_enter Try.func48, Try.ntmps48
  go_wp2_with (first | (go_at_call 89; refine (c_iBitsOf _ _ _ _ (by assumption)).mono ?_; rintro _ _ ⟨_, rfl, rfl⟩))
  go_ret
  exact ⟨_, rfl, rfl⟩
/-! ### iSameW -/
theorem c_iSameWay (rA nA gA mA bA kA : Nat) (rB nB gB mB bB kB : Nat) (w : World) (hrA : rA < 2 ^ FloatKind.f32.format.width) (hgA : gA < 2 ^ FloatKind.f32.format.width) (hbA : bA < 2 ^ FloatKind.f32.format.width) (hrB : rB < 2 ^ FloatKind.f32.format.width) (hgB : gB < 2 ^ FloatKind.f32.format.width) (hbB : bB < 2 ^ FloatKind.f32.format.width) : Calls Try.prog 19 #[.agg #[.float .f32 (pick .f32 rA nA), .float .f32 (pick .f32 gA mA), .float .f32 (pick .f32 bA kA)], .agg #[.float .f32 (pick .f32 rB nB), .float .f32 (pick .f32 gB mB), .float .f32 (pick .f32 bB kB)]] w (RetB (.bool (sameC rA gA bA rB gB bB)) w) := by
  generalize hw2 : (w.alloc (Obj.cells #[.float .f32 (pick .f32 rA nA), .float .f32 (pick .f32 gA mA), .float .f32 (pick .f32 bA kA)] 26)).alloc (Obj.cells #[.float .f32 (pick .f32 rB nB), .float .f32 (pick .f32 gB mB), .float .f32 (pick .f32 bB kB)] 26) = w2
  have X0 : Var w2 w.heap.size #[.float .f32 (pick .f32 rA nA), .float .f32 (pick .f32 gA mA), .float .f32 (pick .f32 bA kA)] := by subst hw2; exact (Var.new _ _ _).alloc _
  have X1 : Var w2 (w.heap.size + 1) #[.float .f32 (pick .f32 rB nB), .float .f32 (pick .f32 gB mB), .float .f32 (pick .f32 bB kB)] := by subst hw2; exact Var.new' _ _ _ _ (by simp)
  have X2 : Below w.heap.size w w2 := by subst hw2; exact ((Below.refl _ _).alloc (Nat.le_refl _) _).alloc (by simp) _
  have HW := Lib.hid hw2
  have B0 := Lib.hid X2
  have V0 := Lib.hid X0
  have V1 := Lib.hid X1
  have KS := Lib.hid (fun (w' : World) (hE : Below w2.heap.size w2 w') => (⟨(V0.out.keep hE).three.1, (V0.out.keep hE).three.2.1, (V0.out.keep hE).three.2.2, (V1.out.keep hE).three.1, (V1.out.keep hE).three.2.1, (V1.out.keep hE).three.2.2⟩ : _ ∧ _ ∧ _ ∧ _ ∧ _ ∧ _))
  clear hw2 X0 X1 X2
  obtain ⟨d0, d1, d2, e0, e1, e2⟩ := KS.out w2 (Below.refl _ _)
  unfold sameC
  have C1 := Lib.hid (fun j => c_iSameNumber rA nA rB nB w2 j hrA hrB)
  have C2 := Lib.hid (fun j => c_iSameNumber gA mA gB mB w2 j hgA hgB)
  have C3 := Lib.hid (fun j => c_iSameNumber bA kA bB kB w2 j hbA hbB)
  generalize (bitsI rA == bitsI rB) = q1 at *
  generalize (bitsI gA == bitsI gB) = q2 at *
  generalize (bitsI bA == bitsI bB) = q3 at *
  go_enter Try.func19, Try.ntmps19
  go_wp2_with fail
  rw [HW.out, ← w2.drewN_zero]
  go_wp2_with (go_at_call 48; first | ((with_reducible refine (C1.out _).mono ?_); rintro _ _ ⟨_, rfl, rfl⟩) | ((with_reducible refine (C2.out _).mono ?_); rintro _ _ ⟨_, rfl, rfl⟩) | ((with_reducible refine (C3.out _).mono ?_); rintro _ _ ⟨_, rfl, rfl⟩))
  all_goals (go_ret; exact ⟨by simp [*], below_drewN B0.out _⟩)
/-! ### FnExactSameWay -/
theorem walk (rA nA gA mA bA kA : Nat) (rB nB gB mB bB kB : Nat) (w : World) (hrA : rA < 2 ^ FloatKind.f32.format.width) (hgA : gA < 2 ^ FloatKind.f32.format.width) (hbA : bA < 2 ^ FloatKind.f32.format.width) (hrB : rB < 2 ^ FloatKind.f32.format.width) (hgB : gB < 2 ^ FloatKind.f32.format.width) (hbB : bB < 2 ^ FloatKind.f32.format.width) : Calls Try.prog 4 #[.agg #[.float .f32 (pick .f32 rA nA), .float .f32 (pick .f32 gA mA), .float .f32 (pick .f32 bA kA)], .agg #[.float .f32 (pick .f32 rB nB), .float .f32 (pick .f32 gB mB), .float .f32 (pick .f32 bB kB)]] w fun e w' => e = .returned (.bool true) ∧ Below w.heap.size w w' := by
  have CA := Lib.hid (fun w => c_toW rA nA gA mA bA kA w)
  have CB := Lib.hid (fun w => c_toW rB nB gB mB bB kB w)
  have Cs := Lib.hid (fun w => c_sSameWay rA nA gA mA bA kA rB nB gB mB bB kB w hrA hgA hbA hrB hgB hbB)
  have Ci := Lib.hid (fun w => c_iSameWay rA nA gA mA bA kA rB nB gB mB bB kB w hrA hgA hbA hrB hgB hbB)
  generalize sameC rA gA bA rB gB bB = q at *
  generalize hw2 : (w.alloc (Obj.cells #[.float .f32 (pick .f32 rA nA), .float .f32 (pick .f32 gA mA), .float .f32 (pick .f32 bA kA)] 24)).alloc (Obj.cells #[.float .f32 (pick .f32 rB nB), .float .f32 (pick .f32 gB mB), .float .f32 (pick .f32 bB kB)] 24) = w2
  have X0 : Var w2 w.heap.size #[.float .f32 (pick .f32 rA nA), .float .f32 (pick .f32 gA mA), .float .f32 (pick .f32 bA kA)] := by subst hw2; exact (Var.new _ _ _).alloc _
  have X1 : Var w2 (w.heap.size + 1) #[.float .f32 (pick .f32 rB nB), .float .f32 (pick .f32 gB mB), .float .f32 (pick .f32 bB kB)] := by subst hw2; exact Var.new' _ _ _ _ (by simp)
  have X2 : Below w.heap.size w w2 := by subst hw2; exact ((Below.refl _ _).alloc (Nat.le_refl _) _).alloc (by simp) _
  have HW := Lib.hid hw2
  have B0 := Lib.hid X2
  have V0 := Lib.hid X0
  have V1 := Lib.hid X1
  have KS := Lib.hid (fun (w' : World) (hE : Below w2.heap.size w2 w') => (⟨(V0.out.keep hE).three.1, (V0.out.keep hE).three.2.1, (V0.out.keep hE).three.2.2, (V1.out.keep hE).three.1, (V1.out.keep hE).three.2.1, (V1.out.keep hE).three.2.2⟩ : _ ∧ _ ∧ _ ∧ _ ∧ _ ∧ _))
  clear hw2 X0 X1 X2
  go_enter Try.func4, Try.ntmps4
  go_wp2_with fail
  rw [HW.out]
  refine wp_region_facts 4 (Below w2.heap.size) (Below.refl _) (fun _ _ _ => Below.trans) (below_drewN (Below.refl _ _) 1) (by kernel_rfl) (by kernel_rfl) (by kernel_rfl) (by kernel_rfl) ?_
  simp only [List.take_succ_cons, List.take_zero, List.drop_succ_cons, List.drop_zero]
  (with_reducible apply wpF_val); (focus (intro vs w' hE hk; (obtain ⟨d0, d1, d2, e0, e1, e2⟩ := KS.out w' hE); go_simp; exact ⟨Below.refl _ _, rfl⟩)); (simp only [Act.put, List.setIfInBounds_toArray, List.set_cons_zero, List.set_cons_succ, List.cons_append, List.nil_append])
  (with_reducible apply wpF_val); (focus (intro vs w' hE hk; (obtain ⟨d0, d1, d2, e0, e1, e2⟩ := KS.out w' hE); go_simp; refine (CA.out _).mono ?_; rintro _ w9 ⟨rfl, b⟩; exact ⟨_, rfl, b.mono (by have := hE.size; omega), rfl⟩)); (simp only [Act.put, List.setIfInBounds_toArray, List.set_cons_zero, List.set_cons_succ, List.cons_append, List.nil_append])
  (with_reducible apply wpF_val); (focus (intro vs w' hE hk; (obtain ⟨d0, d1, d2, e0, e1, e2⟩ := KS.out w' hE); go_simp; exact ⟨Below.refl _ _, rfl⟩)); (simp only [Act.put, List.setIfInBounds_toArray, List.set_cons_zero, List.set_cons_succ, List.cons_append, List.nil_append])
  (with_reducible apply wpF_val); (focus (intro vs w' hE hk; (obtain ⟨d0, d1, d2, e0, e1, e2⟩ := KS.out w' hE); go_simp; refine (CB.out _).mono ?_; rintro _ w9 ⟨rfl, b⟩; exact ⟨_, rfl, b.mono (by have := hE.size; omega), rfl⟩)); (simp only [Act.put, List.setIfInBounds_toArray, List.set_cons_zero, List.set_cons_succ, List.cons_append, List.nil_append])
  refine wpF_nil (fun vs w3 hE hk => ?_)
  clear hk
  have BX := Lib.hid hE
  clear hE
  go_wp2_with fail
  refine (Cs.out _).mono ?_
  rintro _ w4 ⟨rfl, b1⟩
  have Bs := Lib.hid (BX.out.trans (b1.mono BX.out.size))
  clear BX b1
  have KT := Lib.hid (fun (w' : World) (hE : Below w4.heap.size w4 w') => KS.out w' (Bs.out.trans (hE.mono Bs.out.size)))
  go_wp2_with fail
  refine wp_region_facts 4 (Below w4.heap.size) (Below.refl _) (fun _ _ _ => Below.trans) (below_drewN (Below.refl _ _) 1) (by kernel_rfl) (by kernel_rfl) (by kernel_rfl) (by kernel_rfl) ?_
  simp only [List.take_succ_cons, List.take_zero, List.drop_succ_cons, List.drop_zero]
  (with_reducible apply wpF_val); (focus (intro vs w' hE hk; (obtain ⟨d0, d1, d2, e0, e1, e2⟩ := KT.out w' hE); go_simp; exact ⟨Below.refl _ _, rfl⟩)); (simp only [Act.put, List.setIfInBounds_toArray, List.set_cons_zero, List.set_cons_succ, List.cons_append, List.nil_append])
  (with_reducible apply wpF_val); (focus (intro vs w' hE hk; (obtain ⟨d0, d1, d2, e0, e1, e2⟩ := KT.out w' hE); go_simp; refine (CA.out _).mono ?_; rintro _ w9 ⟨rfl, b⟩; exact ⟨_, rfl, b.mono (by have := hE.size; omega), rfl⟩)); (simp only [Act.put, List.setIfInBounds_toArray, List.set_cons_zero, List.set_cons_succ, List.cons_append, List.nil_append])
  (with_reducible apply wpF_val); (focus (intro vs w' hE hk; (obtain ⟨d0, d1, d2, e0, e1, e2⟩ := KT.out w' hE); go_simp; exact ⟨Below.refl _ _, rfl⟩)); (simp only [Act.put, List.setIfInBounds_toArray, List.set_cons_zero, List.set_cons_succ, List.cons_append, List.nil_append])
  (with_reducible apply wpF_val); (focus (intro vs w' hE hk; (obtain ⟨d0, d1, d2, e0, e1, e2⟩ := KT.out w' hE); go_simp; refine (CB.out _).mono ?_; rintro _ w9 ⟨rfl, b⟩; exact ⟨_, rfl, b.mono (by have := hE.size; omega), rfl⟩)); (simp only [Act.put, List.setIfInBounds_toArray, List.set_cons_zero, List.set_cons_succ, List.cons_append, List.nil_append])
  refine wpF_nil (fun vs w5 hE hk => ?_)
  clear hk
  have BX := Lib.hid hE
  clear hE
  go_wp2_with fail
  refine (Ci.out _).mono ?_
  rintro _ w6 ⟨rfl, b1⟩
  have Bi := Lib.hid (BX.out.trans (b1.mono BX.out.size))
  clear BX b1
  go_wp2_with fail
  go_ret
  exact ⟨rfl, B0.out.trans ((Bs.out.trans (Bi.out.mono Bs.out.size)).mono B0.out.size)⟩

theorem own : ownKnob Try.prog.godebug = none := by kernel_rfl
theorem laidOut : laidOutB Try.prog = true := by kernel_rfl
set_option maxRecDepth 100000 in
theorem lifted (os : Os) (started : os.Started) (H : Type) (enc : TypeId × Value → H) :
    ReturnsInHanded {} Try.checked os 4 .any (Rows.fnExactSameWaySpec.pre6 enc Try.prog Try.f4 Rows.fnExactSameWayRow.domain false) (Rows.fnExactSameWaySpec.post enc Try.prog Try.f4 false true false false) := by
  refine returnsInHanded_of_change (C := Try.checked) own started (by kernel_rfl) Try.func4
    (ChangeSpec.witness6 (enc := enc) (C := Try.checked) false ⟨#[], #[.agg #[.float .f32 0, .float .f32 0, .float .f32 0], .agg #[.float .f32 0, .float .f32 0, .float .f32 0]], []⟩ 8 (by kernel_rfl) (by kernel_rfl) (by kernel_rfl) (by kernel_rfl)) ?_
  intro W base args ds gs before hval0 hW hcnd _
  have hval : ∀ (j : Nat) t v, Try.f4.params[j]? = some t → args[j]? = some v → Value.okWide Try.prog W .any base t v := hval0
  have hW' := hW
  obtain ⟨p, q, hA0, hV, rfl, hfz, hnd⟩ := hW
  have hA : DataW.TrodAll enc Try.prog W 0 (fun _ => true) true Try.f4.params.toList args.toList ds p := hA0
  rw [Try.params4] at hA hval
  obtain ⟨v0, vs0, d0, ds0, p0, q0, hargs, rfl, rfl, h0, r0⟩ := trodAll_cons hA
  obtain ⟨v1, vs1, d1, ds1, p1, q1, rfl, rfl, rfl, h1, r1⟩ := trodAll_cons r0
  obtain ⟨rfl, rfl, rfl⟩ := trodAll_nil r1
  obtain rfl : args = #[v0, v1] := by cases args; simp_all
  obtain ⟨rfl, rfl⟩ := trodVars_none hV
  have k0 := h0
  have lt0 : ∀ x ∈ p0, x.block < W.heap.size := by obtain ⟨m, hm⟩ := k0; exact DataW.trod_lt m _ _ _ hm
  obtain ⟨br0, bg0, bb0, rfl, wr0, wg0, wb0⟩ := open_col Try.underlying24 (by kernel_rfl) (by kernel_rfl) Try.underlying22 Try.underlying22 Try.underlying22 (hval 0 24 v0 rfl rfl) h0
  obtain ⟨nr0, er0⟩ := pick_onto .f32 br0 (lt_of_wf wr0)
  obtain ⟨ng0, eg0⟩ := pick_onto .f32 bg0 (lt_of_wf wg0)
  obtain ⟨nb0, eb0⟩ := pick_onto .f32 bb0 (lt_of_wf wb0)
  have k1 := h1
  have lt1 : ∀ x ∈ p1, x.block < W.heap.size := by obtain ⟨m, hm⟩ := k1; exact DataW.trod_lt m _ _ _ hm
  obtain ⟨br1, bg1, bb1, rfl, wr1, wg1, wb1⟩ := open_col Try.underlying24 (by kernel_rfl) (by kernel_rfl) Try.underlying22 Try.underlying22 Try.underlying22 (hval 1 24 v1 rfl rfl) h1
  obtain ⟨nr1, er1⟩ := pick_onto .f32 br1 (lt_of_wf wr1)
  obtain ⟨ng1, eg1⟩ := pick_onto .f32 bg1 (lt_of_wf wg1)
  obtain ⟨nb1, eb1⟩ := pick_onto .f32 bb1 (lt_of_wf wb1)
  clear hA0 hval0
  have hw0 : Calls Try.prog 4 #[.agg #[.float .f32 br0, .float .f32 bg0, .float .f32 bb0], .agg #[.float .f32 br1, .float .f32 bg1, .float .f32 bb1]] W fun e w' => e = .returned (.bool true) ∧ Below W.heap.size W w' := by
    rw [er0, eg0, eb0]
    rw [er1, eg1, eb1]
    exact walk br0 nr0 bg0 ng0 bb0 nb0 br1 nr1 bg1 ng1 bb1 nb1 W (lt_of_wf wr0) (lt_of_wf wg0) (lt_of_wf wb0) (lt_of_wf wr1) (lt_of_wf wg1) (lt_of_wf wb1)
  refine hw0.mono fun e W' ⟨he, bel⟩ => ?_
  subst he
  exact ⟨_, rfl, _, _, _, [], _, [], hW', trodAll_mk1 (shut_bool Try.underlying4 _), (trodAll_cons_mk (Below.trod laidOut (by kernel_rfl) (of_decide_eq_true (by kernel_rfl)) k0 bel lt0) (trodAll_cons_mk (Below.trod laidOut (by kernel_rfl) (of_decide_eq_true (by kernel_rfl)) k1 bel lt1) trodAll_mk0)), rfl, bel.frame _, fun h => by cases h⟩

theorem over : Rows.fnExactSameWayRow.holds Try.pinned (OpenSpec.ofChange Rows.fnExactSameWaySpec) :=
  OpenClaim.holds_of_wide 4 Try.f4 rfl rfl rfl rfl rfl rfl rfl ⟨rfl, rfl, rfl, rfl, rfl⟩ rfl rfl rfl rfl rfl (by kernel_rfl) Try.func4 (by kernel_rfl)
    (of_decide_eq_true (by kernel_rfl)) (by unfold Func.isWrapper; first | (rw [if_pos (by decide +kernel)]; kernel_rfl) | (rw [if_neg (by decide +kernel)]; exact ⟨rfl, rfl⟩))
    (fun os started H enc _ => lifted os started H enc)

theorem proved : Rows.FnExactSameWaySaid := over
#print axioms proved

end Go.Proofs.Ytmngedfibmnohaa.fnExactSameWay

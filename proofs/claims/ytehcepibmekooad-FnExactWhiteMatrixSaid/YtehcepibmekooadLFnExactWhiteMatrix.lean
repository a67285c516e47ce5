/-
  FnExactWhiteMatrix: for every input this law of the program returns true, and each argument reads as before. No condition.
-/
import Derived.Test.YtehcepibmekooadRows
import Derived.Test.YtehcepibmekooadLFnExactWhiteMatrixA
import Derived.Test.YtehcepibmekooadRow
import Derived.Test.YtehcepibmekooadLg
import Derived.Test.YtehcepibmekooadMn
import Derived.Test.YtehcepibmekooadOw
import Derived.Test.YtehcepibmekooadAp
import Derived.ProofKit
import Derived.OpenShut
import Derived.ShutString
import Derived.ChangeOld
import Derived.Below
import Derived.Lib.Hide
import Derived.Outline
import Derived.Deep.RegionHeld3
import Derived.Deep.DeepCutAuto
set_option linter.unusedSimpArgs false
set_option linter.unusedVariables false
set_option exponentiation.threshold 2000
set_option maxRecDepth 20000
set_option maxHeartbeats 4000000
namespace Go.Proofs.Ytehcepibmekooad.fnExactWhiteMatrix
open Go Go.Proofs.Ytehcepibmekooad Go.Proofs
open Go.ChangeShapes Go.WideShapes Go.ChangeAt Go.RowKit
open Go.ChangeMaps (open_string shut_string)
/-! ### sWhiteM -/
theorem c_sWhiteMatrix (zs : List Nat) (a : Option Addr) (c : Nat) (rf nrf gf ngf bf nbf rt nrt gt ngt bt nbt : Nat) (w : World) (rA : IsRowF .f32 w a zs.length c zs) (hrf : rf < 2 ^ FloatKind.f32.format.width) (hgf : gf < 2 ^ FloatKind.f32.format.width) (hbf : bf < 2 ^ FloatKind.f32.format.width) (hrt : rt < 2 ^ FloatKind.f32.format.width) (hgt : gt < 2 ^ FloatKind.f32.format.width) (hbt : bt < 2 ^ FloatKind.f32.format.width) : Calls Try.prog 4 #[.slice a zs.length c, .agg #[.float .f32 (pick .f32 rf nrf), .float .f32 (pick .f32 gf ngf), .float .f32 (pick .f32 bf nbf)], .agg #[.float .f32 (pick .f32 rt nrt), .float .f32 (pick .f32 gt ngt), .float .f32 (pick .f32 bt nbt)]] w (RetL 23 (whiteM zs rf gf bf rt gt bt) w) := by
  generalize hw0 : (w.alloc (Obj.cells #[.float .f32 (pick .f32 rf nrf), .float .f32 (pick .f32 gf ngf), .float .f32 (pick .f32 bf nbf)] 29)).alloc (Obj.cells #[.float .f32 (pick .f32 rt nrt), .float .f32 (pick .f32 gt ngt), .float .f32 (pick .f32 bt nbt)] 29) = w0
  have X1 : Var w0 (w.heap.size + 1) #[.float .f32 (pick .f32 rt nrt), .float .f32 (pick .f32 gt ngt), .float .f32 (pick .f32 bt nbt)] := by subst hw0; exact Var.new' _ _ _ _ (by simp)
  have X3 : Below w.heap.size w w0 := by subst hw0; exact ((Below.refl _ _).alloc (Nat.le_refl _) _).alloc (by simp) _
  have HW := Lib.hid hw0
  have V1 := Lib.hid X1
  have B0 := Lib.hid X3
  have z0 : w.heap.size + 1 < w0.heap.size := X1.lt
  have R0 := Lib.hid (rA.below X3)
  obtain ⟨res, hres0⟩ : ∃ q, q = whiteM zs rf gf bf rt gt bt := ⟨_, rfl⟩
  rw [← hres0]
  have CU := fun (w : World) (q : IsRowF .f32 w a zs.length c zs) => c_sTurnColor zs a c rf nrf gf ngf bf nbf w q hrf hgf hbf
  have CV := fun (w : World) (q : IsRowF .f32 w a zs.length c zs) => c_sTurnColor zs a c rt nrt gt ngt bt nbt w q hrt hgt hbt
  have CBk := Lib.hid (fun (w : World) (q : IsRowF .f32 w a zs.length c zs) => c_sBackMatrix zs a c w q)
  unfold whiteM at hres0
  generalize turnC zs rf gf bf = U at *
  generalize turnC zs rt gt bt = V at *
  obtain ⟨⟨u0, u1, u2⟩, uo⟩ := U
  obtain ⟨⟨v0, v1, v2⟩, vo⟩ := V
  simp only [zB] at hres0
  have HR := Lib.hid hres0
  have CU := Lib.hid CU
  have CV := Lib.hid CV
  clear hw0 X1 X3 rA hres0
  go_enter Try.func4, Try.ntmps4
  go_wp2_with fail
  rw [HW.out]
  refine (CU.out w0 R0.out).mono ?_
  rintro _ w1 ⟨k0, k1, k2, rfl, b1⟩
  simp only
  have V2 := V1.out.keep b1
  have B1 := Lib.hid (B0.out.trans (b1.mono (by omega)))
  have R1 := R0.out.below b1
  have z1 : w0.heap.size ≤ w1.heap.size := b1.size
  obtain ⟨M, hM⟩ : ∃ M, M = w1.alloc (.cells #[.float .f32 (pick .f32 u0 k0), .float .f32 (pick .f32 u1 k1), .float .f32 (pick .f32 u2 k2)] 29) := ⟨_, rfl⟩
  have VM := hM ▸ Var.new w1 #[.float .f32 (pick .f32 u0 k0), .float .f32 (pick .f32 u1 k1), .float .f32 (pick .f32 u2 k2)] 29
  have E1 : Below w1.heap.size w1 M := hM ▸ (Below.refl _ _).alloc (Nat.le_refl _) _
  obtain ⟨c0, c1, c2⟩ := (V2.keep E1).three
  rw [hM] at c0 c1 c2
  have UM := Lib.hid VM
  have B2 := Lib.hid (B1.out.trans (E1.mono (by omega)))
  have R2 := Lib.hid (R1.below E1)
  have zM : w1.heap.size < M.heap.size := VM.lt
  have HM := Lib.hid hM.symm
  clear b1 V2 R1 VM E1 hM
  go_wp2_with fail
  rw [HM.out]
  clear c0 c1 c2 HM
  refine (CV.out M R2.out).mono ?_
  rintro _ w2 ⟨l0, l1, l2, rfl, b2⟩
  simp only
  have U2 := UM.out.keep b2
  have B3 := Lib.hid (B2.out.trans (b2.mono (by omega)))
  have R3 := R2.out.below b2
  have z2 : M.heap.size ≤ w2.heap.size := b2.size
  obtain ⟨N, hN⟩ : ∃ N, N = w2.alloc (.cells #[.float .f32 (pick .f32 v0 l0), .float .f32 (pick .f32 v1 l1), .float .f32 (pick .f32 v2 l2)] 29) := ⟨_, rfl⟩
  have VN := hN ▸ Var.new w2 #[.float .f32 (pick .f32 v0 l0), .float .f32 (pick .f32 v1 l1), .float .f32 (pick .f32 v2 l2)] 29
  have E2 : Below w2.heap.size w2 N := hN ▸ (Below.refl _ _).alloc (Nat.le_refl _) _
  have UN := Lib.hid VN
  have U4 := Lib.hid (U2.keep E2)
  have B4 := Lib.hid (B3.out.trans (E2.mono (by omega)))
  have R4 := Lib.hid (R3.below E2)
  have zN : w2.heap.size < N.heap.size := VN.lt
  have HN := Lib.hid hN.symm
  have sN : N.heap.size = w2.heap.size + 1 := by rw [hN]; simp
  obtain ⟨d0, d1, d2⟩ := U4.out.three
  obtain ⟨e0, e1, e2⟩ := UN.out.three
  rw [hN] at d0 d1 d2 e0 e1 e2
  have BN := Lib.hid (show Below w.heap.size w (w2.alloc (.cells #[.float .f32 (pick .f32 v0 l0), .float .f32 (pick .f32 v1 l1), .float .f32 (pick .f32 v2 l2)] 29)) from hN ▸ B4.out)
  clear b2 U2 R3 VN E2 hN
  cases uo
  · have HX := Lib.hid (show res = ([], false) by rw [HR.out]; rfl)
    go_wp2_with fail
    go_ret2
    rw [HX.out]
    exact RetL.no rfl BN.out
  cases vo
  · have HX := Lib.hid (show res = ([], false) by rw [HR.out]; rfl)
    go_wp2_with fail
    go_ret2
    rw [HX.out]
    exact RetL.no rfl BN.out
  cases y0 : (FloatKind.f32.format.order u0 0 == some .eq)
  case true =>
    have HX := Lib.hid (show res = ([], false) by rw [HR.out, y0]; rfl)
    go_wp2_with fail
    go_ret2
    rw [HX.out]
    exact RetL.no rfl BN.out
  cases y1 : (FloatKind.f32.format.order u1 0 == some .eq)
  case true =>
    have HX := Lib.hid (show res = ([], false) by rw [HR.out, y0, y1]; rfl)
    go_wp2_with fail
    go_ret2
    rw [HX.out]
    exact RetL.no rfl BN.out
  cases y2 : (FloatKind.f32.format.order u2 0 == some .eq)
  case true =>
    have HX := Lib.hid (show res = ([], false) by rw [HR.out, y0, y1, y2]; rfl)
    go_wp2_with fail
    go_ret2
    rw [HX.out]
    exact RetL.no rfl BN.out
  have HX := Lib.hid (show res = joinM (backM zs).1 (joinM (midL (u0, u1, u2) (v0, v1, v2)) zs).1 by rw [HR.out, y0, y1, y2]; rfl)
  clear HR
  go_wp2_with (first | (refine wpList_fop rfl _ _ _ _ _ rfl _ _ _ rfl rfl (by decide) _ ?_; intro _ _) | (refine wpList_fop0 rfl _ _ _ _ _ rfl _ _ _ rfl rfl (by decide) ?_; intro _ _) | (refine upon_fop _ _ _ _ _ (by decide) ?_; intro _ _) | (refine upon_fop0 _ _ _ _ _ (by decide) ?_; intro _ _))
  rename_i q0 j0 q1 j1 q2 j2 K1 a1 KK aa
  rw [HN.out]
  have E3 : Below N.heap.size N (N.drewN j2) := below_drewN (Below.refl _ _) _
  have hmid : joinM [pick .f32 (fop .quo .f32 v0 u0) q0, 0, 0, 0, pick .f32 (fop .quo .f32 v1 u1) q1, 0, 0, 0, pick .f32 (fop .quo .f32 v2 u2) q2] zs = joinM (midL (u0, u1, u2) (v0, v1, v2)) zs := join_near (near_mid (u0, u1, u2) (v0, v1, v2) q0 q1 q2)
  have E4 : Below N.heap.size N ((N.drewN j2).alloc (.cells (fl .f32 [pick .f32 (fop .quo .f32 v0 u0) q0, 0, 0, 0, pick .f32 (fop .quo .f32 v1 u1) q1, 0, 0, 0, pick .f32 (fop .quo .f32 v2 u2) q2]).toArray 23)) := E3.alloc (by simp) _
  have hrow := row_new (N.drewN j2) (w2.heap.size + 1) [pick .f32 (fop .quo .f32 v0 u0) q0, 0, 0, 0, pick .f32 (fop .quo .f32 v1 u1) q1, 0, 0, 0, pick .f32 (fop .quo .f32 v2 u2) q2] 23 (by simp [sN]) (by simp) (by
    intro x hx
    simp only [List.mem_cons, List.not_mem_nil, or_false] at hx
    rcases hx with rfl | rfl | rfl | rfl | rfl | rfl | rfl | rfl | rfl <;> first | exact pick_wf (fop_lt _ _ _ _) _ | rfl)
  have CJ := c_sJoinMatrices [pick .f32 (fop .quo .f32 v0 u0) q0, 0, 0, 0, pick .f32 (fop .quo .f32 v1 u1) q1, 0, 0, 0, pick .f32 (fop .quo .f32 v2 u2) q2] (some ⟨w2.heap.size + 1, 0, none⟩) 9 zs a c _ hrow (R4.out.below E4)
  rw [hmid] at CJ
  obtain ⟨SS, hSS⟩ : ∃ q, q = joinM (midL (u0, u1, u2) (v0, v1, v2)) zs := ⟨_, rfl⟩
  obtain ⟨BS, hBS⟩ : ∃ q, q = backM zs := ⟨_, rfl⟩
  have h3 : SS.2 = true ∨ SS = ([], false) := hSS ▸ joinM_cases _ _
  have h4 : BS.2 = true ∨ BS = ([], false) := hBS ▸ backM_cases _
  have HX2 := Lib.hid (show res = joinM BS.1 SS.1 by rw [hSS, hBS]; exact HX.out)
  rw [← hSS] at CJ
  rw [← hBS] at CBk
  clear hSS hBS HX
  obtain ⟨sl, sb⟩ := SS
  obtain ⟨bl, bb⟩ := BS
  simp only at h3 h4 HX2
  refine CJ.mono ?_
  rintro _ w4 ⟨asx, csx, rfl, hls, b4, os⟩
  have b4' := E4.trans (b4.mono (by simp))
  have OS := Lib.hid os
  have R5 := Lib.hid (R4.out.below b4')
  have B6 := Lib.hid (B4.out.trans (b4'.mono (by omega)))
  clear b4 b4' os CJ hrow E3 E4 hmid d0 d1 d2 e0 e1 e2 HN BN
  go_wp2_with fail
  refine (CBk.out w4 R5.out).mono ?_
  rintro _ w5 ⟨ab, cb, rfl, hlb, b5, ob⟩
  have OB := Lib.hid ob
  have OS2 := Lib.hid (OS.out.below b5)
  have B7 := Lib.hid (B6.out.trans (b5.mono B6.out.size))
  clear b5 ob
  cases sb
  · have e : sl = [] := by rcases h3 with h | h <;> simp_all
    have HY := Lib.hid (show res = ([], false) by rw [HX2.out, e]; exact join_nil_r _)
    clear h3 h4 e
    go_wp2_with fail
    go_ret2
    rw [HY.out]
    exact RetL.no rfl B7.out
  cases bb
  · have e : bl = [] := by rcases h4 with h | h <;> simp_all
    have HY := Lib.hid (show res = ([], false) by rw [HX2.out, e]; exact join_nil_l _)
    clear h3 h4 e
    go_wp2_with fail
    go_ret2
    rw [HY.out]
    exact RetL.no rfl B7.out
  clear h3 h4
  go_wp2_with fail
  refine (c_sJoinMatrices _ _ _ _ _ _ w5 OB.out.row OS2.out.row).mono ?_
  rintro _ w6 ⟨ar, cr, rfl, hlr, b6, or6⟩
  have B8 := Lib.hid (B7.out.trans (b6.mono B7.out.size))
  have O8 := Lib.hid (or6.mono (B' := w.heap.size) B7.out.size)
  clear b6 or6
  go_wp2_with fail
  go_ret2
  rw [HX2.out]
  exact ⟨_, _, rfl, hlr, B8.out, O8.out⟩
/-! ### turned1 -/
theorem c_turned1_0 (z : List Nat) (m : Nat → Nat) (r nr g ng b nb : Nat) (bm bc : Nat) (w : World) (hm : Var w bm #[.float .f32 (pick .f32 (fat z 0) (m 0)), .float .f32 (pick .f32 (fat z 1) (m 1)), .float .f32 (pick .f32 (fat z 2) (m 2)), .float .f32 (pick .f32 (fat z 3) (m 3)), .float .f32 (pick .f32 (fat z 4) (m 4)), .float .f32 (pick .f32 (fat z 5) (m 5)), .float .f32 (pick .f32 (fat z 6) (m 6)), .float .f32 (pick .f32 (fat z 7) (m 7)), .float .f32 (pick .f32 (fat z 8) (m 8))]) (hc : Var w bc #[.float .f32 (pick .f32 r nr), .float .f32 (pick .f32 g ng), .float .f32 (pick .f32 b nb)]) : Calls Try.prog 30 #[.int .i64 0, .pointer (some ⟨bm, 0, none⟩), .pointer (some ⟨bc, 0, none⟩)] w (fun e w' => ∃ n, e = .returned (.float .f32 (pick .f32 (turnV (fat z 0) (fat z 1) (fat z 2) r g b) n)) ∧ Below w.heap.size w w') := by
  have VM := Lib.hid hm
  have VC := Lib.hid hc
  have KS := Lib.hid (fun (w' : World) (hE : Below w.heap.size w w') => (⟨(VM.out.keep hE).2 0 (by simp), (VM.out.keep hE).2 1 (by simp), (VM.out.keep hE).2 2 (by simp), (VC.out.keep hE).three⟩ : w'.cell? ⟨bm, 0, none⟩ = some (.float .f32 (pick .f32 (fat z 0) (m 0))) ∧ w'.cell? ⟨bm, 1, none⟩ = some (.float .f32 (pick .f32 (fat z 1) (m 1))) ∧ w'.cell? ⟨bm, 2, none⟩ = some (.float .f32 (pick .f32 (fat z 2) (m 2))) ∧ _))
  clear hm hc
  have wr1 : IntKind.i64.wrap 1 = 1 := by decide
  have wr2 : IntKind.i64.wrap 2 = 2 := by decide
  unfold turnV
  go_enter Try.func30, Try.ntmps30
  go_wp2_with fail
  refine wp_region_facts 22 (fun a b => Below a.heap.size a b) (fun _ => Below.refl _ _) (fun _ _ _ h h' => h.trans (h'.mono h.size)) (Below.refl _ _).drew (by kernel_rfl) (by kernel_rfl) (by kernel_rfl) (by kernel_rfl) ?_
  simp only [List.take_succ_cons, List.take_zero, List.drop_succ_cons, List.drop_zero]
  (with_reducible apply wpF_val); (focus (intro vs w' hE hk; (obtain ⟨m0, m1, m2, c0, c1, c2⟩ := KS.out w' hE); go_simp; exact ⟨Below.refl _ _, rfl⟩)); (simp only [Act.put, List.setIfInBounds_toArray, List.set_cons_zero, List.set_cons_succ, List.cons_append, List.nil_append])
  (with_reducible apply wpF_val); (focus (intro vs w' hE hk; (obtain ⟨m0, m1, m2, c0, c1, c2⟩ := KS.out w' hE); go_simp; exact ⟨Below.refl _ _, rfl⟩)); (simp only [Act.put, List.setIfInBounds_toArray, List.set_cons_zero, List.set_cons_succ, List.cons_append, List.nil_append])
  (with_reducible apply wpF_val); (focus (intro vs w' hE hk; (obtain ⟨m0, m1, m2, c0, c1, c2⟩ := KS.out w' hE); go_simp; exact ⟨Below.refl _ _, rfl⟩)); (simp only [Act.put, List.setIfInBounds_toArray, List.set_cons_zero, List.set_cons_succ, List.cons_append, List.nil_append])
  (with_reducible apply wpF_val); (focus (intro vs w' hE hk; (obtain ⟨m0, m1, m2, c0, c1, c2⟩ := KS.out w' hE); go_simp; exact ⟨Below.refl _ _, rfl⟩)); (simp only [Act.put, List.setIfInBounds_toArray, List.set_cons_zero, List.set_cons_succ, List.cons_append, List.nil_append])
  (with_reducible apply wpF_val); (focus (intro vs w' hE hk; (obtain ⟨m0, m1, m2, c0, c1, c2⟩ := KS.out w' hE); go_simp; exact ⟨Below.refl _ _, rfl⟩)); (simp only [Act.put, List.setIfInBounds_toArray, List.set_cons_zero, List.set_cons_succ, List.cons_append, List.nil_append])
  refine wpF_fact (fun u _ => ∃ m, u = .float .f32 (pick .f32 (fop .mul .f32 (fat z 0) r) m)) (fun _ _ _ h _ => h) (fun vs w' hE hk => ?_) ?_; (focus (rw [if_pos (by rfl)]; refine uponW_fop _ _ _ _ _ rfl .f32 _ _ rfl rfl (by decide) (fun n' m' => ⟨below_drewN (Below.refl _ _) _, n', by simp only [fop_pick_l, fop_pick_r]⟩))); (simp only [Act.put, List.setIfInBounds_toArray, List.set_cons_zero, List.set_cons_succ, List.cons_append, List.nil_append])
  (with_reducible apply wpF_val); (focus (intro vs w' hE hk; (obtain ⟨m0, m1, m2, c0, c1, c2⟩ := KS.out w' hE); go_simp; exact ⟨Below.refl _ _, rfl⟩)); (simp only [Act.put, List.setIfInBounds_toArray, List.set_cons_zero, List.set_cons_succ, List.cons_append, List.nil_append])
  (with_reducible apply wpF_val); (focus (intro vs w' hE hk; (obtain ⟨m0, m1, m2, c0, c1, c2⟩ := KS.out w' hE); go_simp; exact ⟨Below.refl _ _, rfl⟩)); (simp only [Act.put, List.setIfInBounds_toArray, List.set_cons_zero, List.set_cons_succ, List.cons_append, List.nil_append])
  (with_reducible apply wpF_val); (focus (intro vs w' hE hk; (obtain ⟨m0, m1, m2, c0, c1, c2⟩ := KS.out w' hE); go_simp; exact ⟨Below.refl _ _, rfl⟩)); (simp only [Act.put, List.setIfInBounds_toArray, List.set_cons_zero, List.set_cons_succ, List.cons_append, List.nil_append])
  (with_reducible apply wpF_val); (focus (intro vs w' hE hk; (obtain ⟨m0, m1, m2, c0, c1, c2⟩ := KS.out w' hE); go_simp; exact ⟨Below.refl _ _, rfl⟩)); (simp only [Act.put, List.setIfInBounds_toArray, List.set_cons_zero, List.set_cons_succ, List.cons_append, List.nil_append])
  (with_reducible apply wpF_val); (focus (intro vs w' hE hk; (obtain ⟨m0, m1, m2, c0, c1, c2⟩ := KS.out w' hE); go_simp; exact ⟨Below.refl _ _, rfl⟩)); (simp only [Act.put, List.setIfInBounds_toArray, List.set_cons_zero, List.set_cons_succ, List.cons_append, List.nil_append])
  (with_reducible apply wpF_val); (focus (intro vs w' hE hk; (obtain ⟨m0, m1, m2, c0, c1, c2⟩ := KS.out w' hE); go_simp; exact ⟨Below.refl _ _, rfl⟩)); (simp only [Act.put, List.setIfInBounds_toArray, List.set_cons_zero, List.set_cons_succ, List.cons_append, List.nil_append])
  refine wpF_fact (fun u _ => ∃ m, u = .float .f32 (pick .f32 (fop .mul .f32 (fat z 1) g) m)) (fun _ _ _ h _ => h) (fun vs w' hE hk => ?_) ?_; (focus (rw [if_pos (by rfl)]; refine uponW_fop _ _ _ _ _ rfl .f32 _ _ rfl rfl (by decide) (fun n' m' => ⟨below_drewN (Below.refl _ _) _, n', by simp only [fop_pick_l, fop_pick_r]⟩))); (simp only [Act.put, List.setIfInBounds_toArray, List.set_cons_zero, List.set_cons_succ, List.cons_append, List.nil_append])
  refine wpF_fact (fun u _ => ∃ m, u = .float .f32 (pick .f32 (fop .add .f32 (fop .mul .f32 (fat z 0) r) (fop .mul .f32 (fat z 1) g)) m)) (fun _ _ _ h _ => h) (fun vs w' hE hk => ?_) ?_; (focus (obtain ⟨n1, hn1⟩ := hk 5 (by kernel_rfl); simp only [hn1]; obtain ⟨n2, hn2⟩ := hk 12 (by kernel_rfl); simp only [hn2]; rw [if_pos (by rfl)]; refine uponW_fop _ _ _ _ _ rfl .f32 _ _ rfl rfl (by decide) (fun n' m' => ⟨below_drewN (Below.refl _ _) _, n', by simp only [fop_pick_l, fop_pick_r]⟩))); (simp only [Act.put, List.setIfInBounds_toArray, List.set_cons_zero, List.set_cons_succ, List.cons_append, List.nil_append])
  (with_reducible apply wpF_val); (focus (intro vs w' hE hk; (obtain ⟨m0, m1, m2, c0, c1, c2⟩ := KS.out w' hE); go_simp; exact ⟨Below.refl _ _, rfl⟩)); (simp only [Act.put, List.setIfInBounds_toArray, List.set_cons_zero, List.set_cons_succ, List.cons_append, List.nil_append])
  (with_reducible apply wpF_val); (focus (intro vs w' hE hk; (obtain ⟨m0, m1, m2, c0, c1, c2⟩ := KS.out w' hE); go_simp; exact ⟨Below.refl _ _, rfl⟩)); (simp only [Act.put, List.setIfInBounds_toArray, List.set_cons_zero, List.set_cons_succ, List.cons_append, List.nil_append])
  (with_reducible apply wpF_val); (focus (intro vs w' hE hk; (obtain ⟨m0, m1, m2, c0, c1, c2⟩ := KS.out w' hE); go_simp; exact ⟨Below.refl _ _, rfl⟩)); (simp only [Act.put, List.setIfInBounds_toArray, List.set_cons_zero, List.set_cons_succ, List.cons_append, List.nil_append])
  (with_reducible apply wpF_val); (focus (intro vs w' hE hk; (obtain ⟨m0, m1, m2, c0, c1, c2⟩ := KS.out w' hE); go_simp; exact ⟨Below.refl _ _, rfl⟩)); (simp only [Act.put, List.setIfInBounds_toArray, List.set_cons_zero, List.set_cons_succ, List.cons_append, List.nil_append])
  (with_reducible apply wpF_val); (focus (intro vs w' hE hk; (obtain ⟨m0, m1, m2, c0, c1, c2⟩ := KS.out w' hE); go_simp; exact ⟨Below.refl _ _, rfl⟩)); (simp only [Act.put, List.setIfInBounds_toArray, List.set_cons_zero, List.set_cons_succ, List.cons_append, List.nil_append])
  (with_reducible apply wpF_val); (focus (intro vs w' hE hk; (obtain ⟨m0, m1, m2, c0, c1, c2⟩ := KS.out w' hE); go_simp; exact ⟨Below.refl _ _, rfl⟩)); (simp only [Act.put, List.setIfInBounds_toArray, List.set_cons_zero, List.set_cons_succ, List.cons_append, List.nil_append])
  refine wpF_fact (fun u _ => ∃ m, u = .float .f32 (pick .f32 (fop .mul .f32 (fat z 2) b) m)) (fun _ _ _ h _ => h) (fun vs w' hE hk => ?_) ?_; (focus (rw [if_pos (by rfl)]; refine uponW_fop _ _ _ _ _ rfl .f32 _ _ rfl rfl (by decide) (fun n' m' => ⟨below_drewN (Below.refl _ _) _, n', by simp only [fop_pick_l, fop_pick_r]⟩))); (simp only [Act.put, List.setIfInBounds_toArray, List.set_cons_zero, List.set_cons_succ, List.cons_append, List.nil_append])
  refine wpF_fact (fun u _ => ∃ m, u = .float .f32 (pick .f32 (fop .add .f32 (fop .add .f32 (fop .mul .f32 (fat z 0) r) (fop .mul .f32 (fat z 1) g)) (fop .mul .f32 (fat z 2) b)) m)) (fun _ _ _ h _ => h) (fun vs w' hE hk => ?_) ?_; (focus (obtain ⟨n1, hn1⟩ := hk 13 (by kernel_rfl); simp only [hn1]; obtain ⟨n2, hn2⟩ := hk 20 (by kernel_rfl); simp only [hn2]; rw [if_pos (by rfl)]; refine uponW_fop _ _ _ _ _ rfl .f32 _ _ rfl rfl (by decide) (fun n' m' => ⟨below_drewN (Below.refl _ _) _, n', by simp only [fop_pick_l, fop_pick_r]⟩))); (simp only [Act.put, List.setIfInBounds_toArray, List.set_cons_zero, List.set_cons_succ, List.cons_append, List.nil_append])
  refine wpF_nil (fun vs w' hE hk => ?_)
  obtain ⟨n5, h5⟩ := hk 21
  simp only [h5]
  have BX := Lib.hid hE
  clear hE hk h5
  go_wp2_with fail
  go_ret
  exact ⟨_, rfl, BX.out⟩
theorem c_turned1_3 (z : List Nat) (m : Nat → Nat) (r nr g ng b nb : Nat) (bm bc : Nat) (w : World) (hm : Var w bm #[.float .f32 (pick .f32 (fat z 0) (m 0)), .float .f32 (pick .f32 (fat z 1) (m 1)), .float .f32 (pick .f32 (fat z 2) (m 2)), .float .f32 (pick .f32 (fat z 3) (m 3)), .float .f32 (pick .f32 (fat z 4) (m 4)), .float .f32 (pick .f32 (fat z 5) (m 5)), .float .f32 (pick .f32 (fat z 6) (m 6)), .float .f32 (pick .f32 (fat z 7) (m 7)), .float .f32 (pick .f32 (fat z 8) (m 8))]) (hc : Var w bc #[.float .f32 (pick .f32 r nr), .float .f32 (pick .f32 g ng), .float .f32 (pick .f32 b nb)]) : Calls Try.prog 30 #[.int .i64 3, .pointer (some ⟨bm, 0, none⟩), .pointer (some ⟨bc, 0, none⟩)] w (fun e w' => ∃ n, e = .returned (.float .f32 (pick .f32 (turnV (fat z 3) (fat z 4) (fat z 5) r g b) n)) ∧ Below w.heap.size w w') := by
  have VM := Lib.hid hm
  have VC := Lib.hid hc
  have KS := Lib.hid (fun (w' : World) (hE : Below w.heap.size w w') => (⟨(VM.out.keep hE).2 3 (by simp), (VM.out.keep hE).2 4 (by simp), (VM.out.keep hE).2 5 (by simp), (VC.out.keep hE).three⟩ : w'.cell? ⟨bm, 3, none⟩ = some (.float .f32 (pick .f32 (fat z 3) (m 3))) ∧ w'.cell? ⟨bm, 4, none⟩ = some (.float .f32 (pick .f32 (fat z 4) (m 4))) ∧ w'.cell? ⟨bm, 5, none⟩ = some (.float .f32 (pick .f32 (fat z 5) (m 5))) ∧ _))
  clear hm hc
  have wr1 : IntKind.i64.wrap 4 = 4 := by decide
  have wr2 : IntKind.i64.wrap 5 = 5 := by decide
  unfold turnV
  go_enter Try.func30, Try.ntmps30
  go_wp2_with fail
  refine wp_region_facts 22 (fun a b => Below a.heap.size a b) (fun _ => Below.refl _ _) (fun _ _ _ h h' => h.trans (h'.mono h.size)) (Below.refl _ _).drew (by kernel_rfl) (by kernel_rfl) (by kernel_rfl) (by kernel_rfl) ?_
  simp only [List.take_succ_cons, List.take_zero, List.drop_succ_cons, List.drop_zero]
  (with_reducible apply wpF_val); (focus (intro vs w' hE hk; (obtain ⟨m0, m1, m2, c0, c1, c2⟩ := KS.out w' hE); go_simp; exact ⟨Below.refl _ _, rfl⟩)); (simp only [Act.put, List.setIfInBounds_toArray, List.set_cons_zero, List.set_cons_succ, List.cons_append, List.nil_append])
  (with_reducible apply wpF_val); (focus (intro vs w' hE hk; (obtain ⟨m0, m1, m2, c0, c1, c2⟩ := KS.out w' hE); go_simp; exact ⟨Below.refl _ _, rfl⟩)); (simp only [Act.put, List.setIfInBounds_toArray, List.set_cons_zero, List.set_cons_succ, List.cons_append, List.nil_append])
  (with_reducible apply wpF_val); (focus (intro vs w' hE hk; (obtain ⟨m0, m1, m2, c0, c1, c2⟩ := KS.out w' hE); go_simp; exact ⟨Below.refl _ _, rfl⟩)); (simp only [Act.put, List.setIfInBounds_toArray, List.set_cons_zero, List.set_cons_succ, List.cons_append, List.nil_append])
  (with_reducible apply wpF_val); (focus (intro vs w' hE hk; (obtain ⟨m0, m1, m2, c0, c1, c2⟩ := KS.out w' hE); go_simp; exact ⟨Below.refl _ _, rfl⟩)); (simp only [Act.put, List.setIfInBounds_toArray, List.set_cons_zero, List.set_cons_succ, List.cons_append, List.nil_append])
  (with_reducible apply wpF_val); (focus (intro vs w' hE hk; (obtain ⟨m0, m1, m2, c0, c1, c2⟩ := KS.out w' hE); go_simp; exact ⟨Below.refl _ _, rfl⟩)); (simp only [Act.put, List.setIfInBounds_toArray, List.set_cons_zero, List.set_cons_succ, List.cons_append, List.nil_append])
  refine wpF_fact (fun u _ => ∃ m, u = .float .f32 (pick .f32 (fop .mul .f32 (fat z 3) r) m)) (fun _ _ _ h _ => h) (fun vs w' hE hk => ?_) ?_; (focus (rw [if_pos (by rfl)]; refine uponW_fop _ _ _ _ _ rfl .f32 _ _ rfl rfl (by decide) (fun n' m' => ⟨below_drewN (Below.refl _ _) _, n', by simp only [fop_pick_l, fop_pick_r]⟩))); (simp only [Act.put, List.setIfInBounds_toArray, List.set_cons_zero, List.set_cons_succ, List.cons_append, List.nil_append])
  (with_reducible apply wpF_val); (focus (intro vs w' hE hk; (obtain ⟨m0, m1, m2, c0, c1, c2⟩ := KS.out w' hE); go_simp; exact ⟨Below.refl _ _, rfl⟩)); (simp only [Act.put, List.setIfInBounds_toArray, List.set_cons_zero, List.set_cons_succ, List.cons_append, List.nil_append])
  (with_reducible apply wpF_val); (focus (intro vs w' hE hk; (obtain ⟨m0, m1, m2, c0, c1, c2⟩ := KS.out w' hE); go_simp; exact ⟨Below.refl _ _, rfl⟩)); (simp only [Act.put, List.setIfInBounds_toArray, List.set_cons_zero, List.set_cons_succ, List.cons_append, List.nil_append])
  (with_reducible apply wpF_val); (focus (intro vs w' hE hk; (obtain ⟨m0, m1, m2, c0, c1, c2⟩ := KS.out w' hE); go_simp; exact ⟨Below.refl _ _, rfl⟩)); (simp only [Act.put, List.setIfInBounds_toArray, List.set_cons_zero, List.set_cons_succ, List.cons_append, List.nil_append])
  (with_reducible apply wpF_val); (focus (intro vs w' hE hk; (obtain ⟨m0, m1, m2, c0, c1, c2⟩ := KS.out w' hE); go_simp; exact ⟨Below.refl _ _, rfl⟩)); (simp only [Act.put, List.setIfInBounds_toArray, List.set_cons_zero, List.set_cons_succ, List.cons_append, List.nil_append])
  (with_reducible apply wpF_val); (focus (intro vs w' hE hk; (obtain ⟨m0, m1, m2, c0, c1, c2⟩ := KS.out w' hE); go_simp; exact ⟨Below.refl _ _, rfl⟩)); (simp only [Act.put, List.setIfInBounds_toArray, List.set_cons_zero, List.set_cons_succ, List.cons_append, List.nil_append])
  (with_reducible apply wpF_val); (focus (intro vs w' hE hk; (obtain ⟨m0, m1, m2, c0, c1, c2⟩ := KS.out w' hE); go_simp; exact ⟨Below.refl _ _, rfl⟩)); (simp only [Act.put, List.setIfInBounds_toArray, List.set_cons_zero, List.set_cons_succ, List.cons_append, List.nil_append])
  refine wpF_fact (fun u _ => ∃ m, u = .float .f32 (pick .f32 (fop .mul .f32 (fat z 4) g) m)) (fun _ _ _ h _ => h) (fun vs w' hE hk => ?_) ?_; (focus (rw [if_pos (by rfl)]; refine uponW_fop _ _ _ _ _ rfl .f32 _ _ rfl rfl (by decide) (fun n' m' => ⟨below_drewN (Below.refl _ _) _, n', by simp only [fop_pick_l, fop_pick_r]⟩))); (simp only [Act.put, List.setIfInBounds_toArray, List.set_cons_zero, List.set_cons_succ, List.cons_append, List.nil_append])
  refine wpF_fact (fun u _ => ∃ m, u = .float .f32 (pick .f32 (fop .add .f32 (fop .mul .f32 (fat z 3) r) (fop .mul .f32 (fat z 4) g)) m)) (fun _ _ _ h _ => h) (fun vs w' hE hk => ?_) ?_; (focus (obtain ⟨n1, hn1⟩ := hk 5 (by kernel_rfl); simp only [hn1]; obtain ⟨n2, hn2⟩ := hk 12 (by kernel_rfl); simp only [hn2]; rw [if_pos (by rfl)]; refine uponW_fop _ _ _ _ _ rfl .f32 _ _ rfl rfl (by decide) (fun n' m' => ⟨below_drewN (Below.refl _ _) _, n', by simp only [fop_pick_l, fop_pick_r]⟩))); (simp only [Act.put, List.setIfInBounds_toArray, List.set_cons_zero, List.set_cons_succ, List.cons_append, List.nil_append])
  (with_reducible apply wpF_val); (focus (intro vs w' hE hk; (obtain ⟨m0, m1, m2, c0, c1, c2⟩ := KS.out w' hE); go_simp; exact ⟨Below.refl _ _, rfl⟩)); (simp only [Act.put, List.setIfInBounds_toArray, List.set_cons_zero, List.set_cons_succ, List.cons_append, List.nil_append])
  (with_reducible apply wpF_val); (focus (intro vs w' hE hk; (obtain ⟨m0, m1, m2, c0, c1, c2⟩ := KS.out w' hE); go_simp; exact ⟨Below.refl _ _, rfl⟩)); (simp only [Act.put, List.setIfInBounds_toArray, List.set_cons_zero, List.set_cons_succ, List.cons_append, List.nil_append])
  (with_reducible apply wpF_val); (focus (intro vs w' hE hk; (obtain ⟨m0, m1, m2, c0, c1, c2⟩ := KS.out w' hE); go_simp; exact ⟨Below.refl _ _, rfl⟩)); (simp only [Act.put, List.setIfInBounds_toArray, List.set_cons_zero, List.set_cons_succ, List.cons_append, List.nil_append])
  (with_reducible apply wpF_val); (focus (intro vs w' hE hk; (obtain ⟨m0, m1, m2, c0, c1, c2⟩ := KS.out w' hE); go_simp; exact ⟨Below.refl _ _, rfl⟩)); (simp only [Act.put, List.setIfInBounds_toArray, List.set_cons_zero, List.set_cons_succ, List.cons_append, List.nil_append])
  (with_reducible apply wpF_val); (focus (intro vs w' hE hk; (obtain ⟨m0, m1, m2, c0, c1, c2⟩ := KS.out w' hE); go_simp; exact ⟨Below.refl _ _, rfl⟩)); (simp only [Act.put, List.setIfInBounds_toArray, List.set_cons_zero, List.set_cons_succ, List.cons_append, List.nil_append])
  (with_reducible apply wpF_val); (focus (intro vs w' hE hk; (obtain ⟨m0, m1, m2, c0, c1, c2⟩ := KS.out w' hE); go_simp; exact ⟨Below.refl _ _, rfl⟩)); (simp only [Act.put, List.setIfInBounds_toArray, List.set_cons_zero, List.set_cons_succ, List.cons_append, List.nil_append])
  refine wpF_fact (fun u _ => ∃ m, u = .float .f32 (pick .f32 (fop .mul .f32 (fat z 5) b) m)) (fun _ _ _ h _ => h) (fun vs w' hE hk => ?_) ?_; (focus (rw [if_pos (by rfl)]; refine uponW_fop _ _ _ _ _ rfl .f32 _ _ rfl rfl (by decide) (fun n' m' => ⟨below_drewN (Below.refl _ _) _, n', by simp only [fop_pick_l, fop_pick_r]⟩))); (simp only [Act.put, List.setIfInBounds_toArray, List.set_cons_zero, List.set_cons_succ, List.cons_append, List.nil_append])
  refine wpF_fact (fun u _ => ∃ m, u = .float .f32 (pick .f32 (fop .add .f32 (fop .add .f32 (fop .mul .f32 (fat z 3) r) (fop .mul .f32 (fat z 4) g)) (fop .mul .f32 (fat z 5) b)) m)) (fun _ _ _ h _ => h) (fun vs w' hE hk => ?_) ?_; (focus (obtain ⟨n1, hn1⟩ := hk 13 (by kernel_rfl); simp only [hn1]; obtain ⟨n2, hn2⟩ := hk 20 (by kernel_rfl); simp only [hn2]; rw [if_pos (by rfl)]; refine uponW_fop _ _ _ _ _ rfl .f32 _ _ rfl rfl (by decide) (fun n' m' => ⟨below_drewN (Below.refl _ _) _, n', by simp only [fop_pick_l, fop_pick_r]⟩))); (simp only [Act.put, List.setIfInBounds_toArray, List.set_cons_zero, List.set_cons_succ, List.cons_append, List.nil_append])
  refine wpF_nil (fun vs w' hE hk => ?_)
  obtain ⟨n5, h5⟩ := hk 21
  simp only [h5]
  have BX := Lib.hid hE
  clear hE hk h5
  go_wp2_with fail
  go_ret
  exact ⟨_, rfl, BX.out⟩
theorem c_turned1_6 (z : List Nat) (m : Nat → Nat) (r nr g ng b nb : Nat) (bm bc : Nat) (w : World) (hm : Var w bm #[.float .f32 (pick .f32 (fat z 0) (m 0)), .float .f32 (pick .f32 (fat z 1) (m 1)), .float .f32 (pick .f32 (fat z 2) (m 2)), .float .f32 (pick .f32 (fat z 3) (m 3)), .float .f32 (pick .f32 (fat z 4) (m 4)), .float .f32 (pick .f32 (fat z 5) (m 5)), .float .f32 (pick .f32 (fat z 6) (m 6)), .float .f32 (pick .f32 (fat z 7) (m 7)), .float .f32 (pick .f32 (fat z 8) (m 8))]) (hc : Var w bc #[.float .f32 (pick .f32 r nr), .float .f32 (pick .f32 g ng), .float .f32 (pick .f32 b nb)]) : Calls Try.prog 30 #[.int .i64 6, .pointer (some ⟨bm, 0, none⟩), .pointer (some ⟨bc, 0, none⟩)] w (fun e w' => ∃ n, e = .returned (.float .f32 (pick .f32 (turnV (fat z 6) (fat z 7) (fat z 8) r g b) n)) ∧ Below w.heap.size w w') := by
  have VM := Lib.hid hm
  have VC := Lib.hid hc
  have KS := Lib.hid (fun (w' : World) (hE : Below w.heap.size w w') => (⟨(VM.out.keep hE).2 6 (by simp), (VM.out.keep hE).2 7 (by simp), (VM.out.keep hE).2 8 (by simp), (VC.out.keep hE).three⟩ : w'.cell? ⟨bm, 6, none⟩ = some (.float .f32 (pick .f32 (fat z 6) (m 6))) ∧ w'.cell? ⟨bm, 7, none⟩ = some (.float .f32 (pick .f32 (fat z 7) (m 7))) ∧ w'.cell? ⟨bm, 8, none⟩ = some (.float .f32 (pick .f32 (fat z 8) (m 8))) ∧ _))
  clear hm hc
  have wr1 : IntKind.i64.wrap 7 = 7 := by decide
  have wr2 : IntKind.i64.wrap 8 = 8 := by decide
  unfold turnV
  go_enter Try.func30, Try.ntmps30
  go_wp2_with fail
  refine wp_region_facts 22 (fun a b => Below a.heap.size a b) (fun _ => Below.refl _ _) (fun _ _ _ h h' => h.trans (h'.mono h.size)) (Below.refl _ _).drew (by kernel_rfl) (by kernel_rfl) (by kernel_rfl) (by kernel_rfl) ?_
  simp only [List.take_succ_cons, List.take_zero, List.drop_succ_cons, List.drop_zero]
  (with_reducible apply wpF_val); (focus (intro vs w' hE hk; (obtain ⟨m0, m1, m2, c0, c1, c2⟩ := KS.out w' hE); go_simp; exact ⟨Below.refl _ _, rfl⟩)); (simp only [Act.put, List.setIfInBounds_toArray, List.set_cons_zero, List.set_cons_succ, List.cons_append, List.nil_append])
  (with_reducible apply wpF_val); (focus (intro vs w' hE hk; (obtain ⟨m0, m1, m2, c0, c1, c2⟩ := KS.out w' hE); go_simp; exact ⟨Below.refl _ _, rfl⟩)); (simp only [Act.put, List.setIfInBounds_toArray, List.set_cons_zero, List.set_cons_succ, List.cons_append, List.nil_append])
  (with_reducible apply wpF_val); (focus (intro vs w' hE hk; (obtain ⟨m0, m1, m2, c0, c1, c2⟩ := KS.out w' hE); go_simp; exact ⟨Below.refl _ _, rfl⟩)); (simp only [Act.put, List.setIfInBounds_toArray, List.set_cons_zero, List.set_cons_succ, List.cons_append, List.nil_append])
  (with_reducible apply wpF_val); (focus (intro vs w' hE hk; (obtain ⟨m0, m1, m2, c0, c1, c2⟩ := KS.out w' hE); go_simp; exact ⟨Below.refl _ _, rfl⟩)); (simp only [Act.put, List.setIfInBounds_toArray, List.set_cons_zero, List.set_cons_succ, List.cons_append, List.nil_append])
  (with_reducible apply wpF_val); (focus (intro vs w' hE hk; (obtain ⟨m0, m1, m2, c0, c1, c2⟩ := KS.out w' hE); go_simp; exact ⟨Below.refl _ _, rfl⟩)); (simp only [Act.put, List.setIfInBounds_toArray, List.set_cons_zero, List.set_cons_succ, List.cons_append, List.nil_append])
  refine wpF_fact (fun u _ => ∃ m, u = .float .f32 (pick .f32 (fop .mul .f32 (fat z 6) r) m)) (fun _ _ _ h _ => h) (fun vs w' hE hk => ?_) ?_; (focus (rw [if_pos (by rfl)]; refine uponW_fop _ _ _ _ _ rfl .f32 _ _ rfl rfl (by decide) (fun n' m' => ⟨below_drewN (Below.refl _ _) _, n', by simp only [fop_pick_l, fop_pick_r]⟩))); (simp only [Act.put, List.setIfInBounds_toArray, List.set_cons_zero, List.set_cons_succ, List.cons_append, List.nil_append])
  (with_reducible apply wpF_val); (focus (intro vs w' hE hk; (obtain ⟨m0, m1, m2, c0, c1, c2⟩ := KS.out w' hE); go_simp; exact ⟨Below.refl _ _, rfl⟩)); (simp only [Act.put, List.setIfInBounds_toArray, List.set_cons_zero, List.set_cons_succ, List.cons_append, List.nil_append])
  (with_reducible apply wpF_val); (focus (intro vs w' hE hk; (obtain ⟨m0, m1, m2, c0, c1, c2⟩ := KS.out w' hE); go_simp; exact ⟨Below.refl _ _, rfl⟩)); (simp only [Act.put, List.setIfInBounds_toArray, List.set_cons_zero, List.set_cons_succ, List.cons_append, List.nil_append])
  (with_reducible apply wpF_val); (focus (intro vs w' hE hk; (obtain ⟨m0, m1, m2, c0, c1, c2⟩ := KS.out w' hE); go_simp; exact ⟨Below.refl _ _, rfl⟩)); (simp only [Act.put, List.setIfInBounds_toArray, List.set_cons_zero, List.set_cons_succ, List.cons_append, List.nil_append])
  (with_reducible apply wpF_val); (focus (intro vs w' hE hk; (obtain ⟨m0, m1, m2, c0, c1, c2⟩ := KS.out w' hE); go_simp; exact ⟨Below.refl _ _, rfl⟩)); (simp only [Act.put, List.setIfInBounds_toArray, List.set_cons_zero, List.set_cons_succ, List.cons_append, List.nil_append])
  (with_reducible apply wpF_val); (focus (intro vs w' hE hk; (obtain ⟨m0, m1, m2, c0, c1, c2⟩ := KS.out w' hE); go_simp; exact ⟨Below.refl _ _, rfl⟩)); (simp only [Act.put, List.setIfInBounds_toArray, List.set_cons_zero, List.set_cons_succ, List.cons_append, List.nil_append])
  (with_reducible apply wpF_val); (focus (intro vs w' hE hk; (obtain ⟨m0, m1, m2, c0, c1, c2⟩ := KS.out w' hE); go_simp; exact ⟨Below.refl _ _, rfl⟩)); (simp only [Act.put, List.setIfInBounds_toArray, List.set_cons_zero, List.set_cons_succ, List.cons_append, List.nil_append])
  refine wpF_fact (fun u _ => ∃ m, u = .float .f32 (pick .f32 (fop .mul .f32 (fat z 7) g) m)) (fun _ _ _ h _ => h) (fun vs w' hE hk => ?_) ?_; (focus (rw [if_pos (by rfl)]; refine uponW_fop _ _ _ _ _ rfl .f32 _ _ rfl rfl (by decide) (fun n' m' => ⟨below_drewN (Below.refl _ _) _, n', by simp only [fop_pick_l, fop_pick_r]⟩))); (simp only [Act.put, List.setIfInBounds_toArray, List.set_cons_zero, List.set_cons_succ, List.cons_append, List.nil_append])
  refine wpF_fact (fun u _ => ∃ m, u = .float .f32 (pick .f32 (fop .add .f32 (fop .mul .f32 (fat z 6) r) (fop .mul .f32 (fat z 7) g)) m)) (fun _ _ _ h _ => h) (fun vs w' hE hk => ?_) ?_; (focus (obtain ⟨n1, hn1⟩ := hk 5 (by kernel_rfl); simp only [hn1]; obtain ⟨n2, hn2⟩ := hk 12 (by kernel_rfl); simp only [hn2]; rw [if_pos (by rfl)]; refine uponW_fop _ _ _ _ _ rfl .f32 _ _ rfl rfl (by decide) (fun n' m' => ⟨below_drewN (Below.refl _ _) _, n', by simp only [fop_pick_l, fop_pick_r]⟩))); (simp only [Act.put, List.setIfInBounds_toArray, List.set_cons_zero, List.set_cons_succ, List.cons_append, List.nil_append])
  (with_reducible apply wpF_val); (focus (intro vs w' hE hk; (obtain ⟨m0, m1, m2, c0, c1, c2⟩ := KS.out w' hE); go_simp; exact ⟨Below.refl _ _, rfl⟩)); (simp only [Act.put, List.setIfInBounds_toArray, List.set_cons_zero, List.set_cons_succ, List.cons_append, List.nil_append])
  (with_reducible apply wpF_val); (focus (intro vs w' hE hk; (obtain ⟨m0, m1, m2, c0, c1, c2⟩ := KS.out w' hE); go_simp; exact ⟨Below.refl _ _, rfl⟩)); (simp only [Act.put, List.setIfInBounds_toArray, List.set_cons_zero, List.set_cons_succ, List.cons_append, List.nil_append])
  (with_reducible apply wpF_val); (focus (intro vs w' hE hk; (obtain ⟨m0, m1, m2, c0, c1, c2⟩ := KS.out w' hE); go_simp; exact ⟨Below.refl _ _, rfl⟩)); (simp only [Act.put, List.setIfInBounds_toArray, List.set_cons_zero, List.set_cons_succ, List.cons_append, List.nil_append])
  (with_reducible apply wpF_val); (focus (intro vs w' hE hk; (obtain ⟨m0, m1, m2, c0, c1, c2⟩ := KS.out w' hE); go_simp; exact ⟨Below.refl _ _, rfl⟩)); (simp only [Act.put, List.setIfInBounds_toArray, List.set_cons_zero, List.set_cons_succ, List.cons_append, List.nil_append])
  (with_reducible apply wpF_val); (focus (intro vs w' hE hk; (obtain ⟨m0, m1, m2, c0, c1, c2⟩ := KS.out w' hE); go_simp; exact ⟨Below.refl _ _, rfl⟩)); (simp only [Act.put, List.setIfInBounds_toArray, List.set_cons_zero, List.set_cons_succ, List.cons_append, List.nil_append])
  (with_reducible apply wpF_val); (focus (intro vs w' hE hk; (obtain ⟨m0, m1, m2, c0, c1, c2⟩ := KS.out w' hE); go_simp; exact ⟨Below.refl _ _, rfl⟩)); (simp only [Act.put, List.setIfInBounds_toArray, List.set_cons_zero, List.set_cons_succ, List.cons_append, List.nil_append])
  refine wpF_fact (fun u _ => ∃ m, u = .float .f32 (pick .f32 (fop .mul .f32 (fat z 8) b) m)) (fun _ _ _ h _ => h) (fun vs w' hE hk => ?_) ?_; (focus (rw [if_pos (by rfl)]; refine uponW_fop _ _ _ _ _ rfl .f32 _ _ rfl rfl (by decide) (fun n' m' => ⟨below_drewN (Below.refl _ _) _, n', by simp only [fop_pick_l, fop_pick_r]⟩))); (simp only [Act.put, List.setIfInBounds_toArray, List.set_cons_zero, List.set_cons_succ, List.cons_append, List.nil_append])
  refine wpF_fact (fun u _ => ∃ m, u = .float .f32 (pick .f32 (fop .add .f32 (fop .add .f32 (fop .mul .f32 (fat z 6) r) (fop .mul .f32 (fat z 7) g)) (fop .mul .f32 (fat z 8) b)) m)) (fun _ _ _ h _ => h) (fun vs w' hE hk => ?_) ?_; (focus (obtain ⟨n1, hn1⟩ := hk 13 (by kernel_rfl); simp only [hn1]; obtain ⟨n2, hn2⟩ := hk 20 (by kernel_rfl); simp only [hn2]; rw [if_pos (by rfl)]; refine uponW_fop _ _ _ _ _ rfl .f32 _ _ rfl rfl (by decide) (fun n' m' => ⟨below_drewN (Below.refl _ _) _, n', by simp only [fop_pick_l, fop_pick_r]⟩))); (simp only [Act.put, List.setIfInBounds_toArray, List.set_cons_zero, List.set_cons_succ, List.cons_append, List.nil_append])
  refine wpF_nil (fun vs w' hE hk => ?_)
  obtain ⟨n5, h5⟩ := hk 21
  simp only [h5]
  have BX := Lib.hid hE
  clear hE hk h5
  go_wp2_with fail
  go_ret
  exact ⟨_, rfl, BX.out⟩
/-! ### turned -/
theorem c_turned (z : List Nat) (m : Nat → Nat) (r nr g ng b nb : Nat) (w : World) : Calls Try.prog 24 #[.agg #[.float .f32 (pick .f32 (fat z 0) (m 0)), .float .f32 (pick .f32 (fat z 1) (m 1)), .float .f32 (pick .f32 (fat z 2) (m 2)), .float .f32 (pick .f32 (fat z 3) (m 3)), .float .f32 (pick .f32 (fat z 4) (m 4)), .float .f32 (pick .f32 (fat z 5) (m 5)), .float .f32 (pick .f32 (fat z 6) (m 6)), .float .f32 (pick .f32 (fat z 7) (m 7)), .float .f32 (pick .f32 (fat z 8) (m 8))], .agg #[.float .f32 (pick .f32 r nr), .float .f32 (pick .f32 g ng), .float .f32 (pick .f32 b nb)]] w (ColR (turn3 z r g b) w) := by
  generalize hw0 : ((w.alloc (Obj.cells #[.float .f32 (pick .f32 (fat z 0) (m 0)), .float .f32 (pick .f32 (fat z 1) (m 1)), .float .f32 (pick .f32 (fat z 2) (m 2)), .float .f32 (pick .f32 (fat z 3) (m 3)), .float .f32 (pick .f32 (fat z 4) (m 4)), .float .f32 (pick .f32 (fat z 5) (m 5)), .float .f32 (pick .f32 (fat z 6) (m 6)), .float .f32 (pick .f32 (fat z 7) (m 7)), .float .f32 (pick .f32 (fat z 8) (m 8))] 46)).alloc (Obj.cells #[.float .f32 (pick .f32 r nr), .float .f32 (pick .f32 g ng), .float .f32 (pick .f32 b nb)] 29)).alloc (Obj.cells #[.float .f32 0, .float .f32 0, .float .f32 0] 29) = w0
  have X0 : Var w0 w.heap.size #[.float .f32 (pick .f32 (fat z 0) (m 0)), .float .f32 (pick .f32 (fat z 1) (m 1)), .float .f32 (pick .f32 (fat z 2) (m 2)), .float .f32 (pick .f32 (fat z 3) (m 3)), .float .f32 (pick .f32 (fat z 4) (m 4)), .float .f32 (pick .f32 (fat z 5) (m 5)), .float .f32 (pick .f32 (fat z 6) (m 6)), .float .f32 (pick .f32 (fat z 7) (m 7)), .float .f32 (pick .f32 (fat z 8) (m 8))] := by subst hw0; exact ((Var.new _ _ _).alloc _).alloc _
  have X1 : Var w0 (w.heap.size + 1) #[.float .f32 (pick .f32 r nr), .float .f32 (pick .f32 g ng), .float .f32 (pick .f32 b nb)] := by subst hw0; exact (Var.new' _ _ _ _ (by simp)).alloc _
  have X2 : Var w0 (w.heap.size + 1 + 1) #[.float .f32 0, .float .f32 0, .float .f32 0] := by subst hw0; exact Var.new' _ _ _ _ (by simp)
  have X3 : Free w0 (w.heap.size + 1 + 1) := by subst hw0; exact Free.new' _ _ _ _ (by simp)
  have X4 : Below w.heap.size w w0 := by subst hw0; exact (((Below.refl _ _).alloc (Nat.le_refl _) _).alloc (by simp) _).alloc (by simp; omega) _
  have HW := Lib.hid hw0
  have V0 := Lib.hid X0
  have V1 := Lib.hid X1
  have V2 := Lib.hid X2
  have F0 := Lib.hid X3
  have B0 := Lib.hid X4
  have z0 : w.heap.size + 1 + 1 < w0.heap.size := X2.lt
  clear hw0 X0 X1 X2 X3 X4
  unfold ColR turn3
  go_enter Try.func24, Try.ntmps24
  go_wp2_with fail
  rw [HW.out]
  refine (c_turned1_0 z m r nr g ng b nb _ _ w0 V0.out V1.out).mono ?_
  rintro _ w1 ⟨k0, rfl, b1⟩
  go_wp2_with fail
  refine (c_turned1_3 z m r nr g ng b nb _ _ w1 (V0.out.keep b1) (V1.out.keep b1)).mono ?_
  rintro _ w2 ⟨k1, rfl, b2⟩
  have b12 := b1.trans (b2.mono b1.size)
  clear b1 b2
  go_wp2_with fail
  refine (c_turned1_6 z m r nr g ng b nb _ _ w2 (V0.out.keep b12) (V1.out.keep b12)).mono ?_
  rintro _ w3 ⟨k2, rfl, b3⟩
  have b := b12.trans (b3.mono b12.size)
  have BB := Lib.hid (B0.out.trans (b.mono (by omega)))
  have z3 : w0.heap.size ≤ w3.heap.size := b.size
  obtain ⟨q0, q1, q2⟩ := (V2.out.keep b).three
  have fr := F0.out.below z0 b
  have f0 := fr 0
  have f1 := fr 1
  have f2 := fr 2
  clear b b12 b3 fr
  go_wp2_with fail
  refine bodyPost_ret (v := .agg #[.float .f32 (pick .f32 (turnV (fat z 0) (fat z 1) (fat z 2) r g b) k0), .float .f32 (pick .f32 (turnV (fat z 3) (fat z 4) (fat z 5) r g b) k1), .float .f32 (pick .f32 (turnV (fat z 6) (fat z 7) (fat z 8) r g b) k2)]) (by simp [results, Try.results24, q0, q1, q2, go_sem]) rfl ⟨_, _, _, rfl, ?_⟩
  repeat (first | exact Below.refl _ _ | exact BB.out | exact Nat.le_refl _ | (refine Below.setCell ?_ ?_ _) | (refine below_drewN ?_ _) | (refine Below.alloc ?_ ?_ _) | (simp <;> omega))
/-! ### matEq -/
theorem eqMat (x0 x1 x2 x3 x4 x5 x6 x7 x8 : Nat) (w : World) : (Op.equalIn 10000 46 (.agg #[.float .f32 x0, .float .f32 x1, .float .f32 x2, .float .f32 x3, .float .f32 x4, .float .f32 x5, .float .f32 x6, .float .f32 x7, .float .f32 x8]) (.agg #[.float .f32 0, .float .f32 0, .float .f32 0, .float .f32 0, .float .f32 0, .float .f32 0, .float .f32 0, .float .f32 0, .float .f32 0])).run Try.prog w = .ok ((FloatKind.f32.format.order x0 0 == some .eq) && (FloatKind.f32.format.order x1 0 == some .eq) && (FloatKind.f32.format.order x2 0 == some .eq) && (FloatKind.f32.format.order x3 0 == some .eq) && (FloatKind.f32.format.order x4 0 == some .eq) && (FloatKind.f32.format.order x5 0 == some .eq) && (FloatKind.f32.format.order x6 0 == some .eq) && (FloatKind.f32.format.order x7 0 == some .eq) && (FloatKind.f32.format.order x8 0 == some .eq)) w := by
  have u3 := Try.underlying23
  rw [show (10000 : Nat) = 9999 + 1 from rfl, Op.equalIn]
  simp only [Sem.run_bind, run_underlying Try.underlying46, Result.andThen_ok]
  simp only [Std.Legacy.Range.forIn_eq_forIn_range', Std.Legacy.Range.size, Nat.sub_zero, Nat.add_sub_cancel, Nat.div_one, List.range'_succ, List.range'_zero, List.forIn_cons, List.forIn_nil]
  have hE : ∀ (x : Nat) (w : World), (Op.equalIn 9999 23 (.float .f32 x) (.float .f32 0)).run Try.prog w = .ok (FloatKind.f32.format.order x 0 == some .eq) w := fun x w => by
    rw [show (9999 : Nat) = 9998 + 1 from rfl, Op.equalIn]
    simp [run_underlying u3, Op.floatEq]
  go_simp
  by_cases h0 : FloatKind.f32.format.order x0 0 = some Ordering.eq
  case neg => simp [h0]
  by_cases h1 : FloatKind.f32.format.order x1 0 = some Ordering.eq
  case neg => simp [h0, h1]
  by_cases h2 : FloatKind.f32.format.order x2 0 = some Ordering.eq
  case neg => simp [h0, h1, h2]
  by_cases h3 : FloatKind.f32.format.order x3 0 = some Ordering.eq
  case neg => simp [h0, h1, h2, h3]
  by_cases h4 : FloatKind.f32.format.order x4 0 = some Ordering.eq
  case neg => simp [h0, h1, h2, h3, h4]
  by_cases h5 : FloatKind.f32.format.order x5 0 = some Ordering.eq
  case neg => simp [h0, h1, h2, h3, h4, h5]
  by_cases h6 : FloatKind.f32.format.order x6 0 = some Ordering.eq
  case neg => simp [h0, h1, h2, h3, h4, h5, h6]
  by_cases h7 : FloatKind.f32.format.order x7 0 = some Ordering.eq
  case neg => simp [h0, h1, h2, h3, h4, h5, h6, h7]
  by_cases h8 : FloatKind.f32.format.order x8 0 = some Ordering.eq
  case neg => simp [h0, h1, h2, h3, h4, h5, h6, h7, h8]
  simp [h0, h1, h2, h3, h4, h5, h6, h7, h8]
/-! ### matFin -/
theorem c_matFin9 (v0 v1 v2 v3 v4 v5 v6 v7 v8 n0 n1 n2 n3 n4 n5 n6 n7 n8 : Nat) (w : World) : Calls Try.prog 29 #[.agg #[.float .f32 (pick .f32 v0 n0), .float .f32 (pick .f32 v1 n1), .float .f32 (pick .f32 v2 n2), .float .f32 (pick .f32 v3 n3), .float .f32 (pick .f32 v4 n4), .float .f32 (pick .f32 v5 n5), .float .f32 (pick .f32 v6 n6), .float .f32 (pick .f32 v7 n7), .float .f32 (pick .f32 v8 n8)]] w (RetB (.bool (finB .f32 v0 && finB .f32 v1 && finB .f32 v2 && finB .f32 v3 && finB .f32 v4 && finB .f32 v5 && finB .f32 v6 && finB .f32 v7 && finB .f32 v8)) w) := by
  generalize hw0 : (w.alloc (Obj.cells #[.float .f32 (pick .f32 v0 n0), .float .f32 (pick .f32 v1 n1), .float .f32 (pick .f32 v2 n2), .float .f32 (pick .f32 v3 n3), .float .f32 (pick .f32 v4 n4), .float .f32 (pick .f32 v5 n5), .float .f32 (pick .f32 v6 n6), .float .f32 (pick .f32 v7 n7), .float .f32 (pick .f32 v8 n8)] 46)).alloc (Obj.cells #[.float .f32 0, .float .f32 0, .float .f32 0, .float .f32 0, .float .f32 0, .float .f32 0, .float .f32 0, .float .f32 0, .float .f32 0] 46) = w0
  have X0 : Var w0 w.heap.size #[.float .f32 (pick .f32 v0 n0), .float .f32 (pick .f32 v1 n1), .float .f32 (pick .f32 v2 n2), .float .f32 (pick .f32 v3 n3), .float .f32 (pick .f32 v4 n4), .float .f32 (pick .f32 v5 n5), .float .f32 (pick .f32 v6 n6), .float .f32 (pick .f32 v7 n7), .float .f32 (pick .f32 v8 n8)] := by subst hw0; exact (Var.new _ _ _).alloc _
  have X1 : Var w0 (w.heap.size + 1) #[.float .f32 0, .float .f32 0, .float .f32 0, .float .f32 0, .float .f32 0, .float .f32 0, .float .f32 0, .float .f32 0, .float .f32 0] := by subst hw0; exact Var.new' _ _ _ _ (by simp)
  have X2 : Free w0 (w.heap.size + 1) := by subst hw0; exact Free.new' _ _ _ _ (by simp)
  have B0 := Lib.hid (show Below w.heap.size w w0 from by subst hw0; exact ((Below.refl _ _).alloc (Nat.le_refl _) _).alloc (by simp) _)
  have HW := Lib.hid hw0
  have c0 : w0.cell? ⟨w.heap.size, 0, none⟩ = some (.float .f32 (pick .f32 v0 n0)) := X0.2 0 (by simp)
  have c1 : w0.cell? ⟨w.heap.size, 1, none⟩ = some (.float .f32 (pick .f32 v1 n1)) := X0.2 1 (by simp)
  have c2 : w0.cell? ⟨w.heap.size, 2, none⟩ = some (.float .f32 (pick .f32 v2 n2)) := X0.2 2 (by simp)
  have c3 : w0.cell? ⟨w.heap.size, 3, none⟩ = some (.float .f32 (pick .f32 v3 n3)) := X0.2 3 (by simp)
  have c4 : w0.cell? ⟨w.heap.size, 4, none⟩ = some (.float .f32 (pick .f32 v4 n4)) := X0.2 4 (by simp)
  have c5 : w0.cell? ⟨w.heap.size, 5, none⟩ = some (.float .f32 (pick .f32 v5 n5)) := X0.2 5 (by simp)
  have c6 : w0.cell? ⟨w.heap.size, 6, none⟩ = some (.float .f32 (pick .f32 v6 n6)) := X0.2 6 (by simp)
  have c7 : w0.cell? ⟨w.heap.size, 7, none⟩ = some (.float .f32 (pick .f32 v7 n7)) := X0.2 7 (by simp)
  have c8 : w0.cell? ⟨w.heap.size, 8, none⟩ = some (.float .f32 (pick .f32 v8 n8)) := X0.2 8 (by simp)
  have i0 : ∀ w : World, (Instr.index 46 (.agg #[.float .f32 (pick .f32 v0 n0), .float .f32 (pick .f32 v1 n1), .float .f32 (pick .f32 v2 n2), .float .f32 (pick .f32 v3 n3), .float .f32 (pick .f32 v4 n4), .float .f32 (pick .f32 v5 n5), .float .f32 (pick .f32 v6 n6), .float .f32 (pick .f32 v7 n7), .float .f32 (pick .f32 v8 n8)]) (.int .i64 0)).run Try.prog w = .ok (.float .f32 (pick .f32 v0 n0)) w := fun _ => by kernel_rfl
  have i1 : ∀ w : World, (Instr.index 46 (.agg #[.float .f32 (pick .f32 v0 n0), .float .f32 (pick .f32 v1 n1), .float .f32 (pick .f32 v2 n2), .float .f32 (pick .f32 v3 n3), .float .f32 (pick .f32 v4 n4), .float .f32 (pick .f32 v5 n5), .float .f32 (pick .f32 v6 n6), .float .f32 (pick .f32 v7 n7), .float .f32 (pick .f32 v8 n8)]) (.int .i64 1)).run Try.prog w = .ok (.float .f32 (pick .f32 v1 n1)) w := fun _ => by kernel_rfl
  have i2 : ∀ w : World, (Instr.index 46 (.agg #[.float .f32 (pick .f32 v0 n0), .float .f32 (pick .f32 v1 n1), .float .f32 (pick .f32 v2 n2), .float .f32 (pick .f32 v3 n3), .float .f32 (pick .f32 v4 n4), .float .f32 (pick .f32 v5 n5), .float .f32 (pick .f32 v6 n6), .float .f32 (pick .f32 v7 n7), .float .f32 (pick .f32 v8 n8)]) (.int .i64 2)).run Try.prog w = .ok (.float .f32 (pick .f32 v2 n2)) w := fun _ => by kernel_rfl
  have i3 : ∀ w : World, (Instr.index 46 (.agg #[.float .f32 (pick .f32 v0 n0), .float .f32 (pick .f32 v1 n1), .float .f32 (pick .f32 v2 n2), .float .f32 (pick .f32 v3 n3), .float .f32 (pick .f32 v4 n4), .float .f32 (pick .f32 v5 n5), .float .f32 (pick .f32 v6 n6), .float .f32 (pick .f32 v7 n7), .float .f32 (pick .f32 v8 n8)]) (.int .i64 3)).run Try.prog w = .ok (.float .f32 (pick .f32 v3 n3)) w := fun _ => by kernel_rfl
  have i4 : ∀ w : World, (Instr.index 46 (.agg #[.float .f32 (pick .f32 v0 n0), .float .f32 (pick .f32 v1 n1), .float .f32 (pick .f32 v2 n2), .float .f32 (pick .f32 v3 n3), .float .f32 (pick .f32 v4 n4), .float .f32 (pick .f32 v5 n5), .float .f32 (pick .f32 v6 n6), .float .f32 (pick .f32 v7 n7), .float .f32 (pick .f32 v8 n8)]) (.int .i64 4)).run Try.prog w = .ok (.float .f32 (pick .f32 v4 n4)) w := fun _ => by kernel_rfl
  have i5 : ∀ w : World, (Instr.index 46 (.agg #[.float .f32 (pick .f32 v0 n0), .float .f32 (pick .f32 v1 n1), .float .f32 (pick .f32 v2 n2), .float .f32 (pick .f32 v3 n3), .float .f32 (pick .f32 v4 n4), .float .f32 (pick .f32 v5 n5), .float .f32 (pick .f32 v6 n6), .float .f32 (pick .f32 v7 n7), .float .f32 (pick .f32 v8 n8)]) (.int .i64 5)).run Try.prog w = .ok (.float .f32 (pick .f32 v5 n5)) w := fun _ => by kernel_rfl
  have i6 : ∀ w : World, (Instr.index 46 (.agg #[.float .f32 (pick .f32 v0 n0), .float .f32 (pick .f32 v1 n1), .float .f32 (pick .f32 v2 n2), .float .f32 (pick .f32 v3 n3), .float .f32 (pick .f32 v4 n4), .float .f32 (pick .f32 v5 n5), .float .f32 (pick .f32 v6 n6), .float .f32 (pick .f32 v7 n7), .float .f32 (pick .f32 v8 n8)]) (.int .i64 6)).run Try.prog w = .ok (.float .f32 (pick .f32 v6 n6)) w := fun _ => by kernel_rfl
  have i7 : ∀ w : World, (Instr.index 46 (.agg #[.float .f32 (pick .f32 v0 n0), .float .f32 (pick .f32 v1 n1), .float .f32 (pick .f32 v2 n2), .float .f32 (pick .f32 v3 n3), .float .f32 (pick .f32 v4 n4), .float .f32 (pick .f32 v5 n5), .float .f32 (pick .f32 v6 n6), .float .f32 (pick .f32 v7 n7), .float .f32 (pick .f32 v8 n8)]) (.int .i64 7)).run Try.prog w = .ok (.float .f32 (pick .f32 v7 n7)) w := fun _ => by kernel_rfl
  have i8 : ∀ w : World, (Instr.index 46 (.agg #[.float .f32 (pick .f32 v0 n0), .float .f32 (pick .f32 v1 n1), .float .f32 (pick .f32 v2 n2), .float .f32 (pick .f32 v3 n3), .float .f32 (pick .f32 v4 n4), .float .f32 (pick .f32 v5 n5), .float .f32 (pick .f32 v6 n6), .float .f32 (pick .f32 v7 n7), .float .f32 (pick .f32 v8 n8)]) (.int .i64 8)).run Try.prog w = .ok (.float .f32 (pick .f32 v8 n8)) w := fun _ => by kernel_rfl
  have V0 := Lib.hid X1
  have F0 := Lib.hid X2
  have z0 : w.heap.size + 1 < w0.heap.size := X1.lt
  clear X0 X1 X2 hw0
  go_enter Try.func29, Try.ntmps29
  go_wp2_with fail
  rw [HW.out, ← w0.drewN_zero]
  go_wp2_with fail
  rw [w0.drewN_zero]
  clear c0 c1 c2 c3 c4 c5 c6 c7 c8 HW
  refine wp_loop_rounds 10 ?_
  rw [rounds_succ]
  have f := F0.out 0
  go_wp2_with (refine upon_fop0 _ _ _ _ _ (by decide) ?_; intro k0 j0; have b := below_drewN (Below.refl w0.heap.size w0) j0; generalize w0.drewN j0 = u0 at b ⊢; have f := (F0.out.below (by omega) b) 0; have l := (V0.out.keep b).2 0 (by simp))
  have V1 : Hid (Var (u0.setCell ⟨w.heap.size + 1, 0, none⟩ (.float .f32 (pick .f32 (fop .sub .f32 v0 v0) k0))) (w.heap.size + 1) #[.float .f32 (pick .f32 (fop .sub .f32 v0 v0) k0), .float .f32 0, .float .f32 0, .float .f32 0, .float .f32 0, .float .f32 0, .float .f32 0, .float .f32 0, .float .f32 0]) := Lib.hid (var_setAt (V0.out.keep b) (i := 0) (by simp) (.float .f32 (pick .f32 (fop .sub .f32 v0 v0) k0)))
  have F1 := Lib.hid ((F0.out.below (by omega) b).setCell ⟨w.heap.size + 1, 0, none⟩ (.float .f32 (pick .f32 (fop .sub .f32 v0 v0) k0)))
  have B1 := Lib.hid ((B0.out.trans (b.mono (by omega))).setCell (p := ⟨w.heap.size + 1, 0, none⟩) (by show _ ≤ w.heap.size + 1; omega) (.float .f32 (pick .f32 (fop .sub .f32 v0 v0) k0)))
  have z1 : w.heap.size + 1 < (u0.setCell ⟨w.heap.size + 1, 0, none⟩ (.float .f32 (pick .f32 (fop .sub .f32 v0 v0) k0))).heap.size := V1.out.lt
  clear b f l i0 V0 F0 B0
  generalize u0.setCell ⟨w.heap.size + 1, 0, none⟩ (.float .f32 (pick .f32 (fop .sub .f32 v0 v0) k0)) = w1 at *
  rw [rounds_succ]
  have f := F1.out 1
  go_wp2_with (refine upon_fop0 _ _ _ _ _ (by decide) ?_; intro k1 j1; have b := below_drewN (Below.refl w1.heap.size w1) j1; generalize w1.drewN j1 = u1 at b ⊢; have f := (F1.out.below (by omega) b) 1; have l := (V1.out.keep b).2 1 (by simp))
  have V2 : Hid (Var (u1.setCell ⟨w.heap.size + 1, 1, none⟩ (.float .f32 (pick .f32 (fop .sub .f32 v1 v1) k1))) (w.heap.size + 1) #[.float .f32 (pick .f32 (fop .sub .f32 v0 v0) k0), .float .f32 (pick .f32 (fop .sub .f32 v1 v1) k1), .float .f32 0, .float .f32 0, .float .f32 0, .float .f32 0, .float .f32 0, .float .f32 0, .float .f32 0]) := Lib.hid (var_setAt (V1.out.keep b) (i := 1) (by simp) (.float .f32 (pick .f32 (fop .sub .f32 v1 v1) k1)))
  have F2 := Lib.hid ((F1.out.below (by omega) b).setCell ⟨w.heap.size + 1, 1, none⟩ (.float .f32 (pick .f32 (fop .sub .f32 v1 v1) k1)))
  have B2 := Lib.hid ((B1.out.trans (b.mono (by omega))).setCell (p := ⟨w.heap.size + 1, 1, none⟩) (by show _ ≤ w.heap.size + 1; omega) (.float .f32 (pick .f32 (fop .sub .f32 v1 v1) k1)))
  have z2 : w.heap.size + 1 < (u1.setCell ⟨w.heap.size + 1, 1, none⟩ (.float .f32 (pick .f32 (fop .sub .f32 v1 v1) k1))).heap.size := V2.out.lt
  clear b f l i1 V1 F1 B1
  generalize u1.setCell ⟨w.heap.size + 1, 1, none⟩ (.float .f32 (pick .f32 (fop .sub .f32 v1 v1) k1)) = w2 at *
  rw [rounds_succ]
  have f := F2.out 2
  go_wp2_with (refine upon_fop0 _ _ _ _ _ (by decide) ?_; intro k2 j2; have b := below_drewN (Below.refl w2.heap.size w2) j2; generalize w2.drewN j2 = u2 at b ⊢; have f := (F2.out.below (by omega) b) 2; have l := (V2.out.keep b).2 2 (by simp))
  have V3 : Hid (Var (u2.setCell ⟨w.heap.size + 1, 2, none⟩ (.float .f32 (pick .f32 (fop .sub .f32 v2 v2) k2))) (w.heap.size + 1) #[.float .f32 (pick .f32 (fop .sub .f32 v0 v0) k0), .float .f32 (pick .f32 (fop .sub .f32 v1 v1) k1), .float .f32 (pick .f32 (fop .sub .f32 v2 v2) k2), .float .f32 0, .float .f32 0, .float .f32 0, .float .f32 0, .float .f32 0, .float .f32 0]) := Lib.hid (var_setAt (V2.out.keep b) (i := 2) (by simp) (.float .f32 (pick .f32 (fop .sub .f32 v2 v2) k2)))
  have F3 := Lib.hid ((F2.out.below (by omega) b).setCell ⟨w.heap.size + 1, 2, none⟩ (.float .f32 (pick .f32 (fop .sub .f32 v2 v2) k2)))
  have B3 := Lib.hid ((B2.out.trans (b.mono (by omega))).setCell (p := ⟨w.heap.size + 1, 2, none⟩) (by show _ ≤ w.heap.size + 1; omega) (.float .f32 (pick .f32 (fop .sub .f32 v2 v2) k2)))
  have z3 : w.heap.size + 1 < (u2.setCell ⟨w.heap.size + 1, 2, none⟩ (.float .f32 (pick .f32 (fop .sub .f32 v2 v2) k2))).heap.size := V3.out.lt
  clear b f l i2 V2 F2 B2
  generalize u2.setCell ⟨w.heap.size + 1, 2, none⟩ (.float .f32 (pick .f32 (fop .sub .f32 v2 v2) k2)) = w3 at *
  rw [rounds_succ]
  have f := F3.out 3
  go_wp2_with (refine upon_fop0 _ _ _ _ _ (by decide) ?_; intro k3 j3; have b := below_drewN (Below.refl w3.heap.size w3) j3; generalize w3.drewN j3 = u3 at b ⊢; have f := (F3.out.below (by omega) b) 3; have l := (V3.out.keep b).2 3 (by simp))
  have V4 : Hid (Var (u3.setCell ⟨w.heap.size + 1, 3, none⟩ (.float .f32 (pick .f32 (fop .sub .f32 v3 v3) k3))) (w.heap.size + 1) #[.float .f32 (pick .f32 (fop .sub .f32 v0 v0) k0), .float .f32 (pick .f32 (fop .sub .f32 v1 v1) k1), .float .f32 (pick .f32 (fop .sub .f32 v2 v2) k2), .float .f32 (pick .f32 (fop .sub .f32 v3 v3) k3), .float .f32 0, .float .f32 0, .float .f32 0, .float .f32 0, .float .f32 0]) := Lib.hid (var_setAt (V3.out.keep b) (i := 3) (by simp) (.float .f32 (pick .f32 (fop .sub .f32 v3 v3) k3)))
  have F4 := Lib.hid ((F3.out.below (by omega) b).setCell ⟨w.heap.size + 1, 3, none⟩ (.float .f32 (pick .f32 (fop .sub .f32 v3 v3) k3)))
  have B4 := Lib.hid ((B3.out.trans (b.mono (by omega))).setCell (p := ⟨w.heap.size + 1, 3, none⟩) (by show _ ≤ w.heap.size + 1; omega) (.float .f32 (pick .f32 (fop .sub .f32 v3 v3) k3)))
  have z4 : w.heap.size + 1 < (u3.setCell ⟨w.heap.size + 1, 3, none⟩ (.float .f32 (pick .f32 (fop .sub .f32 v3 v3) k3))).heap.size := V4.out.lt
  clear b f l i3 V3 F3 B3
  generalize u3.setCell ⟨w.heap.size + 1, 3, none⟩ (.float .f32 (pick .f32 (fop .sub .f32 v3 v3) k3)) = w4 at *
  rw [rounds_succ]
  have f := F4.out 4
  go_wp2_with (refine upon_fop0 _ _ _ _ _ (by decide) ?_; intro k4 j4; have b := below_drewN (Below.refl w4.heap.size w4) j4; generalize w4.drewN j4 = u4 at b ⊢; have f := (F4.out.below (by omega) b) 4; have l := (V4.out.keep b).2 4 (by simp))
  have V5 : Hid (Var (u4.setCell ⟨w.heap.size + 1, 4, none⟩ (.float .f32 (pick .f32 (fop .sub .f32 v4 v4) k4))) (w.heap.size + 1) #[.float .f32 (pick .f32 (fop .sub .f32 v0 v0) k0), .float .f32 (pick .f32 (fop .sub .f32 v1 v1) k1), .float .f32 (pick .f32 (fop .sub .f32 v2 v2) k2), .float .f32 (pick .f32 (fop .sub .f32 v3 v3) k3), .float .f32 (pick .f32 (fop .sub .f32 v4 v4) k4), .float .f32 0, .float .f32 0, .float .f32 0, .float .f32 0]) := Lib.hid (var_setAt (V4.out.keep b) (i := 4) (by simp) (.float .f32 (pick .f32 (fop .sub .f32 v4 v4) k4)))
  have F5 := Lib.hid ((F4.out.below (by omega) b).setCell ⟨w.heap.size + 1, 4, none⟩ (.float .f32 (pick .f32 (fop .sub .f32 v4 v4) k4)))
  have B5 := Lib.hid ((B4.out.trans (b.mono (by omega))).setCell (p := ⟨w.heap.size + 1, 4, none⟩) (by show _ ≤ w.heap.size + 1; omega) (.float .f32 (pick .f32 (fop .sub .f32 v4 v4) k4)))
  have z5 : w.heap.size + 1 < (u4.setCell ⟨w.heap.size + 1, 4, none⟩ (.float .f32 (pick .f32 (fop .sub .f32 v4 v4) k4))).heap.size := V5.out.lt
  clear b f l i4 V4 F4 B4
  generalize u4.setCell ⟨w.heap.size + 1, 4, none⟩ (.float .f32 (pick .f32 (fop .sub .f32 v4 v4) k4)) = w5 at *
  rw [rounds_succ]
  have f := F5.out 5
  go_wp2_with (refine upon_fop0 _ _ _ _ _ (by decide) ?_; intro k5 j5; have b := below_drewN (Below.refl w5.heap.size w5) j5; generalize w5.drewN j5 = u5 at b ⊢; have f := (F5.out.below (by omega) b) 5; have l := (V5.out.keep b).2 5 (by simp))
  have V6 : Hid (Var (u5.setCell ⟨w.heap.size + 1, 5, none⟩ (.float .f32 (pick .f32 (fop .sub .f32 v5 v5) k5))) (w.heap.size + 1) #[.float .f32 (pick .f32 (fop .sub .f32 v0 v0) k0), .float .f32 (pick .f32 (fop .sub .f32 v1 v1) k1), .float .f32 (pick .f32 (fop .sub .f32 v2 v2) k2), .float .f32 (pick .f32 (fop .sub .f32 v3 v3) k3), .float .f32 (pick .f32 (fop .sub .f32 v4 v4) k4), .float .f32 (pick .f32 (fop .sub .f32 v5 v5) k5), .float .f32 0, .float .f32 0, .float .f32 0]) := Lib.hid (var_setAt (V5.out.keep b) (i := 5) (by simp) (.float .f32 (pick .f32 (fop .sub .f32 v5 v5) k5)))
  have F6 := Lib.hid ((F5.out.below (by omega) b).setCell ⟨w.heap.size + 1, 5, none⟩ (.float .f32 (pick .f32 (fop .sub .f32 v5 v5) k5)))
  have B6 := Lib.hid ((B5.out.trans (b.mono (by omega))).setCell (p := ⟨w.heap.size + 1, 5, none⟩) (by show _ ≤ w.heap.size + 1; omega) (.float .f32 (pick .f32 (fop .sub .f32 v5 v5) k5)))
  have z6 : w.heap.size + 1 < (u5.setCell ⟨w.heap.size + 1, 5, none⟩ (.float .f32 (pick .f32 (fop .sub .f32 v5 v5) k5))).heap.size := V6.out.lt
  clear b f l i5 V5 F5 B5
  generalize u5.setCell ⟨w.heap.size + 1, 5, none⟩ (.float .f32 (pick .f32 (fop .sub .f32 v5 v5) k5)) = w6 at *
  rw [rounds_succ]
  have f := F6.out 6
  go_wp2_with (refine upon_fop0 _ _ _ _ _ (by decide) ?_; intro k6 j6; have b := below_drewN (Below.refl w6.heap.size w6) j6; generalize w6.drewN j6 = u6 at b ⊢; have f := (F6.out.below (by omega) b) 6; have l := (V6.out.keep b).2 6 (by simp))
  have V7 : Hid (Var (u6.setCell ⟨w.heap.size + 1, 6, none⟩ (.float .f32 (pick .f32 (fop .sub .f32 v6 v6) k6))) (w.heap.size + 1) #[.float .f32 (pick .f32 (fop .sub .f32 v0 v0) k0), .float .f32 (pick .f32 (fop .sub .f32 v1 v1) k1), .float .f32 (pick .f32 (fop .sub .f32 v2 v2) k2), .float .f32 (pick .f32 (fop .sub .f32 v3 v3) k3), .float .f32 (pick .f32 (fop .sub .f32 v4 v4) k4), .float .f32 (pick .f32 (fop .sub .f32 v5 v5) k5), .float .f32 (pick .f32 (fop .sub .f32 v6 v6) k6), .float .f32 0, .float .f32 0]) := Lib.hid (var_setAt (V6.out.keep b) (i := 6) (by simp) (.float .f32 (pick .f32 (fop .sub .f32 v6 v6) k6)))
  have F7 := Lib.hid ((F6.out.below (by omega) b).setCell ⟨w.heap.size + 1, 6, none⟩ (.float .f32 (pick .f32 (fop .sub .f32 v6 v6) k6)))
  have B7 := Lib.hid ((B6.out.trans (b.mono (by omega))).setCell (p := ⟨w.heap.size + 1, 6, none⟩) (by show _ ≤ w.heap.size + 1; omega) (.float .f32 (pick .f32 (fop .sub .f32 v6 v6) k6)))
  have z7 : w.heap.size + 1 < (u6.setCell ⟨w.heap.size + 1, 6, none⟩ (.float .f32 (pick .f32 (fop .sub .f32 v6 v6) k6))).heap.size := V7.out.lt
  clear b f l i6 V6 F6 B6
  generalize u6.setCell ⟨w.heap.size + 1, 6, none⟩ (.float .f32 (pick .f32 (fop .sub .f32 v6 v6) k6)) = w7 at *
  rw [rounds_succ]
  have f := F7.out 7
  go_wp2_with (refine upon_fop0 _ _ _ _ _ (by decide) ?_; intro k7 j7; have b := below_drewN (Below.refl w7.heap.size w7) j7; generalize w7.drewN j7 = u7 at b ⊢; have f := (F7.out.below (by omega) b) 7; have l := (V7.out.keep b).2 7 (by simp))
  have V8 : Hid (Var (u7.setCell ⟨w.heap.size + 1, 7, none⟩ (.float .f32 (pick .f32 (fop .sub .f32 v7 v7) k7))) (w.heap.size + 1) #[.float .f32 (pick .f32 (fop .sub .f32 v0 v0) k0), .float .f32 (pick .f32 (fop .sub .f32 v1 v1) k1), .float .f32 (pick .f32 (fop .sub .f32 v2 v2) k2), .float .f32 (pick .f32 (fop .sub .f32 v3 v3) k3), .float .f32 (pick .f32 (fop .sub .f32 v4 v4) k4), .float .f32 (pick .f32 (fop .sub .f32 v5 v5) k5), .float .f32 (pick .f32 (fop .sub .f32 v6 v6) k6), .float .f32 (pick .f32 (fop .sub .f32 v7 v7) k7), .float .f32 0]) := Lib.hid (var_setAt (V7.out.keep b) (i := 7) (by simp) (.float .f32 (pick .f32 (fop .sub .f32 v7 v7) k7)))
  have F8 := Lib.hid ((F7.out.below (by omega) b).setCell ⟨w.heap.size + 1, 7, none⟩ (.float .f32 (pick .f32 (fop .sub .f32 v7 v7) k7)))
  have B8 := Lib.hid ((B7.out.trans (b.mono (by omega))).setCell (p := ⟨w.heap.size + 1, 7, none⟩) (by show _ ≤ w.heap.size + 1; omega) (.float .f32 (pick .f32 (fop .sub .f32 v7 v7) k7)))
  have z8 : w.heap.size + 1 < (u7.setCell ⟨w.heap.size + 1, 7, none⟩ (.float .f32 (pick .f32 (fop .sub .f32 v7 v7) k7))).heap.size := V8.out.lt
  clear b f l i7 V7 F7 B7
  generalize u7.setCell ⟨w.heap.size + 1, 7, none⟩ (.float .f32 (pick .f32 (fop .sub .f32 v7 v7) k7)) = w8 at *
  rw [rounds_succ]
  have f := F8.out 8
  go_wp2_with (refine upon_fop0 _ _ _ _ _ (by decide) ?_; intro k8 j8; have b := below_drewN (Below.refl w8.heap.size w8) j8; generalize w8.drewN j8 = u8 at b ⊢; have f := (F8.out.below (by omega) b) 8; have l := (V8.out.keep b).2 8 (by simp))
  have V9 : Hid (Var (u8.setCell ⟨w.heap.size + 1, 8, none⟩ (.float .f32 (pick .f32 (fop .sub .f32 v8 v8) k8))) (w.heap.size + 1) #[.float .f32 (pick .f32 (fop .sub .f32 v0 v0) k0), .float .f32 (pick .f32 (fop .sub .f32 v1 v1) k1), .float .f32 (pick .f32 (fop .sub .f32 v2 v2) k2), .float .f32 (pick .f32 (fop .sub .f32 v3 v3) k3), .float .f32 (pick .f32 (fop .sub .f32 v4 v4) k4), .float .f32 (pick .f32 (fop .sub .f32 v5 v5) k5), .float .f32 (pick .f32 (fop .sub .f32 v6 v6) k6), .float .f32 (pick .f32 (fop .sub .f32 v7 v7) k7), .float .f32 (pick .f32 (fop .sub .f32 v8 v8) k8)]) := Lib.hid (var_setAt (V8.out.keep b) (i := 8) (by simp) (.float .f32 (pick .f32 (fop .sub .f32 v8 v8) k8)))
  have F9 := Lib.hid ((F8.out.below (by omega) b).setCell ⟨w.heap.size + 1, 8, none⟩ (.float .f32 (pick .f32 (fop .sub .f32 v8 v8) k8)))
  have B9 := Lib.hid ((B8.out.trans (b.mono (by omega))).setCell (p := ⟨w.heap.size + 1, 8, none⟩) (by show _ ≤ w.heap.size + 1; omega) (.float .f32 (pick .f32 (fop .sub .f32 v8 v8) k8)))
  have z9 : w.heap.size + 1 < (u8.setCell ⟨w.heap.size + 1, 8, none⟩ (.float .f32 (pick .f32 (fop .sub .f32 v8 v8) k8))).heap.size := V9.out.lt
  clear b f l i8 V8 F8 B8
  generalize u8.setCell ⟨w.heap.size + 1, 8, none⟩ (.float .f32 (pick .f32 (fop .sub .f32 v8 v8) k8)) = w9 at *
  rw [rounds_succ]
  have l0 : w9.cell? ⟨w.heap.size + 1, 0, none⟩ = some (.float .f32 (pick .f32 (fop .sub .f32 v0 v0) k0)) := V9.out.2 0 (by simp)
  have l1 : w9.cell? ⟨w.heap.size + 1, 1, none⟩ = some (.float .f32 (pick .f32 (fop .sub .f32 v1 v1) k1)) := V9.out.2 1 (by simp)
  have l2 : w9.cell? ⟨w.heap.size + 1, 2, none⟩ = some (.float .f32 (pick .f32 (fop .sub .f32 v2 v2) k2)) := V9.out.2 2 (by simp)
  have l3 : w9.cell? ⟨w.heap.size + 1, 3, none⟩ = some (.float .f32 (pick .f32 (fop .sub .f32 v3 v3) k3)) := V9.out.2 3 (by simp)
  have l4 : w9.cell? ⟨w.heap.size + 1, 4, none⟩ = some (.float .f32 (pick .f32 (fop .sub .f32 v4 v4) k4)) := V9.out.2 4 (by simp)
  have l5 : w9.cell? ⟨w.heap.size + 1, 5, none⟩ = some (.float .f32 (pick .f32 (fop .sub .f32 v5 v5) k5)) := V9.out.2 5 (by simp)
  have l6 : w9.cell? ⟨w.heap.size + 1, 6, none⟩ = some (.float .f32 (pick .f32 (fop .sub .f32 v6 v6) k6)) := V9.out.2 6 (by simp)
  have l7 : w9.cell? ⟨w.heap.size + 1, 7, none⟩ = some (.float .f32 (pick .f32 (fop .sub .f32 v7 v7) k7)) := V9.out.2 7 (by simp)
  have l8 : w9.cell? ⟨w.heap.size + 1, 8, none⟩ = some (.float .f32 (pick .f32 (fop .sub .f32 v8 v8) k8)) := V9.out.2 8 (by simp)
  clear V9 F9
  have hq := fun w => eqMat (pick .f32 (fop .sub .f32 v0 v0) k0) (pick .f32 (fop .sub .f32 v1 v1) k1) (pick .f32 (fop .sub .f32 v2 v2) k2) (pick .f32 (fop .sub .f32 v3 v3) k3) (pick .f32 (fop .sub .f32 v4 v4) k4) (pick .f32 (fop .sub .f32 v5 v5) k5) (pick .f32 (fop .sub .f32 v6 v6) k6) (pick .f32 (fop .sub .f32 v7 v7) k7) (pick .f32 (fop .sub .f32 v8 v8) k8) w
  simp only [order_pick_l, sub_self_zero] at hq
  go_wp2_with fail
  go_ret
  exact ⟨rfl, B9.out⟩
/-! ### matrixOf -/
theorem c_matrixOf (zs : List Nat) (a : Option Addr) (c : Nat) (w : World) (hr : IsRowF .f32 w a zs.length c zs) : Calls Try.prog 23 #[.slice a zs.length c] w (fun e w' => ∃ (z : List Nat) (m : Nat → Nat), e = .returned (.tuple #[.agg #[.float .f32 (pick .f32 (fat z 0) (m 0)), .float .f32 (pick .f32 (fat z 1) (m 1)), .float .f32 (pick .f32 (fat z 2) (m 2)), .float .f32 (pick .f32 (fat z 3) (m 3)), .float .f32 (pick .f32 (fat z 4) (m 4)), .float .f32 (pick .f32 (fat z 5) (m 5)), .float .f32 (pick .f32 (fat z 6) (m 6)), .float .f32 (pick .f32 (fat z 7) (m 7)), .float .f32 (pick .f32 (fat z 8) (m 8))], .bool (matB zs)]) ∧ (matB zs = true → z = zs) ∧ Below w.heap.size w w') := by
  generalize hw0 : w.alloc (Obj.cells #[.float .f32 0, .float .f32 0, .float .f32 0, .float .f32 0, .float .f32 0, .float .f32 0, .float .f32 0, .float .f32 0, .float .f32 0] 46) = w0
  have X1 : Var w0 w.heap.size #[.float .f32 0, .float .f32 0, .float .f32 0, .float .f32 0, .float .f32 0, .float .f32 0, .float .f32 0, .float .f32 0, .float .f32 0] := by subst hw0; exact Var.new _ _ _
  have X2 : Free w0 w.heap.size := by subst hw0; exact Free.new _ _ _
  have X3 : Below w.heap.size w w0 := by subst hw0; exact (Below.refl _ _).alloc (Nat.le_refl _) _
  have sz : w0.heap.size = w.heap.size + 1 := by subst hw0; simp
  have HW := Lib.hid hw0
  have V0 := Lib.hid X1
  have F0 := Lib.hid X2
  have BB := Lib.hid X3
  have z0 : w.heap.size < w0.heap.size := X1.lt
  have R0 := Lib.hid (hr.below X3)
  have mA : zs.length ≤ maxLen := Nat.le_trans hr.2.1 hr.2.2.1
  unfold maxLen at mA
  clear hw0 hr
  by_cases h9 : zs.length = 9
  case neg =>
    have hm : matB zs = false := by unfold matB; rw [decide_eq_false h9]; rfl
    rw [hm]
    have h9' : ¬ ((zs.length : Int) = 9) := by omega
    have q0 : w0.cell? ⟨w.heap.size, 0, none⟩ = some (.float .f32 0) := X1.2 0 (by simp)
    have q1 : w0.cell? ⟨w.heap.size, 1, none⟩ = some (.float .f32 0) := X1.2 1 (by simp)
    have q2 : w0.cell? ⟨w.heap.size, 2, none⟩ = some (.float .f32 0) := X1.2 2 (by simp)
    have q3 : w0.cell? ⟨w.heap.size, 3, none⟩ = some (.float .f32 0) := X1.2 3 (by simp)
    have q4 : w0.cell? ⟨w.heap.size, 4, none⟩ = some (.float .f32 0) := X1.2 4 (by simp)
    have q5 : w0.cell? ⟨w.heap.size, 5, none⟩ = some (.float .f32 0) := X1.2 5 (by simp)
    have q6 : w0.cell? ⟨w.heap.size, 6, none⟩ = some (.float .f32 0) := X1.2 6 (by simp)
    have q7 : w0.cell? ⟨w.heap.size, 7, none⟩ = some (.float .f32 0) := X1.2 7 (by simp)
    have q8 : w0.cell? ⟨w.heap.size, 8, none⟩ = some (.float .f32 0) := X1.2 8 (by simp)
    have f0 := X2 0
    have f1 := X2 1
    have f2 := X2 2
    have f3 := X2 3
    have f4 := X2 4
    have f5 := X2 5
    have f6 := X2 6
    have f7 := X2 7
    have f8 := X2 8
    clear X1 X2 X3
    go_enter Try.func23, Try.ntmps23
    go_wp2_with fail
    rw [HW.out]
    go_wp2_with fail
    refine bodyPost_ret (v := .tuple #[.agg #[.float .f32 0, .float .f32 0, .float .f32 0, .float .f32 0, .float .f32 0, .float .f32 0, .float .f32 0, .float .f32 0, .float .f32 0], .bool false]) (by simp [results, Try.results23, q0, q1, q2, q3, q4, q5, q6, q7, q8, go_sem]) rfl ⟨List.replicate 9 0, fun _ => 0, by simp [fat, pick00], fun h => by simp at h, ?_⟩
    repeat (first | exact Below.refl _ _ | exact BB.out | exact Nat.le_refl _ | (refine Below.setCell ?_ ?_ _) | (refine below_drewN ?_ _) | (refine Below.alloc ?_ ?_ _) | (simp <;> omega))
  case pos =>
  obtain ⟨b, off, n0, rfl, hb, e0⟩ := R0.out.at (k := 0) (by omega)
  obtain ⟨b1, o1, n1, hab1, hb1, e1⟩ := R0.out.at (k := 1) (by omega)
  cases hab1
  obtain ⟨b2, o2, n2, hab2, hb2, e2⟩ := R0.out.at (k := 2) (by omega)
  cases hab2
  obtain ⟨b3, o3, n3, hab3, hb3, e3⟩ := R0.out.at (k := 3) (by omega)
  cases hab3
  obtain ⟨b4, o4, n4, hab4, hb4, e4⟩ := R0.out.at (k := 4) (by omega)
  cases hab4
  obtain ⟨b5, o5, n5, hab5, hb5, e5⟩ := R0.out.at (k := 5) (by omega)
  cases hab5
  obtain ⟨b6, o6, n6, hab6, hb6, e6⟩ := R0.out.at (k := 6) (by omega)
  cases hab6
  obtain ⟨b7, o7, n7, hab7, hb7, e7⟩ := R0.out.at (k := 7) (by omega)
  cases hab7
  obtain ⟨b8, o8, n8, hab8, hb8, e8⟩ := R0.out.at (k := 8) (by omega)
  cases hab8
  simp only [Nat.add_zero] at e0
  rw [← HW.out] at e0 e1 e2 e3 e4 e5 e6 e7 e8
  have HM := Lib.hid (show matB zs = fin9 zs by unfold matB; rw [decide_eq_true h9, Bool.true_and, fin9_eq h9])
  have CF := Lib.hid (fun (w : World) => (c_matFin9 (fat zs 0) (fat zs 1) (fat zs 2) (fat zs 3) (fat zs 4) (fat zs 5) (fat zs 6) (fat zs 7) (fat zs 8) n0 n1 n2 n3 n4 n5 n6 n7 n8 w : Calls Try.prog 29 #[.agg #[.float .f32 (pick .f32 (fat zs 0) n0), .float .f32 (pick .f32 (fat zs 1) n1), .float .f32 (pick .f32 (fat zs 2) n2), .float .f32 (pick .f32 (fat zs 3) n3), .float .f32 (pick .f32 (fat zs 4) n4), .float .f32 (pick .f32 (fat zs 5) n5), .float .f32 (pick .f32 (fat zs 6) n6), .float .f32 (pick .f32 (fat zs 7) n7), .float .f32 (pick .f32 (fat zs 8) n8)]] w (RetB (.bool (fin9 zs)) w)))
  have hc9 : 9 ≤ c := by have := R0.out.2.1; omega
  have hcm : c ≤ maxLen := R0.out.2.2.1
  unfold maxLen at hcm
  rw [h9]
  clear X1 X2 X3 h9
  have hat : ∀ w, (Instr.arrayAt 46 (.slice (some ⟨b, off, none⟩) 9 c)).run Try.prog w = .ok (.pointer (some ⟨b, off, none⟩)) w := fun w => by simp [Instr.arrayAt, run_underlying Try.underlying46]
  go_enter Try.func23, Try.ntmps23
  go_wp2_with fail
  rw [HW.out]
  clear HW hat hb hb1 hb2 hb3 hb4 hb5 hb6 hb7 hb8 e0 e1 e2 e3 e4 e5 e6 e7 e8
  generalize hw1 : w0.alloc (Obj.cells #[.float .f32 (pick .f32 (fat zs 0) n0), .float .f32 (pick .f32 (fat zs 1) n1), .float .f32 (pick .f32 (fat zs 2) n2), .float .f32 (pick .f32 (fat zs 3) n3), .float .f32 (pick .f32 (fat zs 4) n4), .float .f32 (pick .f32 (fat zs 5) n5), .float .f32 (pick .f32 (fat zs 6) n6), .float .f32 (pick .f32 (fat zs 7) n7), .float .f32 (pick .f32 (fat zs 8) n8)] 46) = w1
  have X1 : Var w1 (w.heap.size + 1) #[.float .f32 (pick .f32 (fat zs 0) n0), .float .f32 (pick .f32 (fat zs 1) n1), .float .f32 (pick .f32 (fat zs 2) n2), .float .f32 (pick .f32 (fat zs 3) n3), .float .f32 (pick .f32 (fat zs 4) n4), .float .f32 (pick .f32 (fat zs 5) n5), .float .f32 (pick .f32 (fat zs 6) n6), .float .f32 (pick .f32 (fat zs 7) n7), .float .f32 (pick .f32 (fat zs 8) n8)] := by subst hw1; exact Var.new' _ _ _ _ sz.symm
  have X3 : Below w0.heap.size w0 w1 := by subst hw1; exact (Below.refl _ _).alloc (Nat.le_refl _) _
  have V1 := Lib.hid (V0.out.keep X3)
  have F1 := Lib.hid (F0.out.below z0 X3)
  have B1 := Lib.hid (BB.out.trans (X3.mono (by omega)))
  have z1 : w0.heap.size < w1.heap.size := by rw [sz]; exact X1.lt
  have U1 := Lib.hid X1
  clear hw1 X1 X3
  have KS := Lib.hid (fun (w' : World) (hE : Below w1.heap.size w1 w') => (⟨(U1.out.keep hE).2 0 (by simp), (U1.out.keep hE).2 1 (by simp), (U1.out.keep hE).2 2 (by simp), (U1.out.keep hE).2 3 (by simp), (U1.out.keep hE).2 4 (by simp), (U1.out.keep hE).2 5 (by simp), (U1.out.keep hE).2 6 (by simp), (U1.out.keep hE).2 7 (by simp), (U1.out.keep hE).2 8 (by simp)⟩ : w'.cell? ⟨w.heap.size + 1, 0, none⟩ = some (.float .f32 (pick .f32 (fat zs 0) n0)) ∧ w'.cell? ⟨w.heap.size + 1, 1, none⟩ = some (.float .f32 (pick .f32 (fat zs 1) n1)) ∧ w'.cell? ⟨w.heap.size + 1, 2, none⟩ = some (.float .f32 (pick .f32 (fat zs 2) n2)) ∧ w'.cell? ⟨w.heap.size + 1, 3, none⟩ = some (.float .f32 (pick .f32 (fat zs 3) n3)) ∧ w'.cell? ⟨w.heap.size + 1, 4, none⟩ = some (.float .f32 (pick .f32 (fat zs 4) n4)) ∧ w'.cell? ⟨w.heap.size + 1, 5, none⟩ = some (.float .f32 (pick .f32 (fat zs 5) n5)) ∧ w'.cell? ⟨w.heap.size + 1, 6, none⟩ = some (.float .f32 (pick .f32 (fat zs 6) n6)) ∧ w'.cell? ⟨w.heap.size + 1, 7, none⟩ = some (.float .f32 (pick .f32 (fat zs 7) n7)) ∧ w'.cell? ⟨w.heap.size + 1, 8, none⟩ = some (.float .f32 (pick .f32 (fat zs 8) n8))))
  refine wp_region_facts 3 (fun a b => Below a.heap.size a b) (fun _ => Below.refl _ _) (fun _ _ _ h h' => h.trans (h'.mono h.size)) (Below.refl _ _).drew (by kernel_rfl) (by kernel_rfl) (by kernel_rfl) (by kernel_rfl) ?_
  simp only [List.take_succ_cons, List.take_zero, List.drop_succ_cons, List.drop_zero]
  (with_reducible apply wpF_val); (focus (intro vs w' hE hk; (obtain ⟨d0, d1, d2, d3, d4, d5, d6, d7, d8⟩ := KS.out w' hE); go_simp; exact ⟨Below.refl _ _, rfl⟩)); (simp only [Act.put, List.setIfInBounds_toArray, List.set_cons_zero, List.set_cons_succ, List.cons_append, List.nil_append])
  (with_reducible apply wpF_val); (focus (intro vs w' hE hk; (obtain ⟨d0, d1, d2, d3, d4, d5, d6, d7, d8⟩ := KS.out w' hE); go_simp; exact ⟨Below.refl _ _, rfl⟩)); (simp only [Act.put, List.setIfInBounds_toArray, List.set_cons_zero, List.set_cons_succ, List.cons_append, List.nil_append])
  (with_reducible apply wpF_val); (focus (intro vs w' hE hk; (obtain ⟨d0, d1, d2, d3, d4, d5, d6, d7, d8⟩ := KS.out w' hE); go_simp; refine (CF.out _).mono ?_; rintro _ w9 ⟨rfl, b⟩; exact ⟨_, rfl, b, rfl⟩)); (simp only [Act.put, List.setIfInBounds_toArray, List.set_cons_zero, List.set_cons_succ, List.cons_append, List.nil_append])
  refine wpF_nil (fun vs w' hE hk => ?_)
  have V2 := Lib.hid (V1.out.keep hE)
  have F2 := Lib.hid (F1.out.below (by omega) hE)
  have B2 := Lib.hid (B1.out.trans (hE.mono (by omega)))
  have z2 : w1.heap.size ≤ w'.heap.size := hE.size
  clear hE hk
  have q0 : w'.cell? ⟨w.heap.size, 0, none⟩ = some (.float .f32 0) := V2.out.2 0 (by simp)
  have q1 : w'.cell? ⟨w.heap.size, 1, none⟩ = some (.float .f32 0) := V2.out.2 1 (by simp)
  have q2 : w'.cell? ⟨w.heap.size, 2, none⟩ = some (.float .f32 0) := V2.out.2 2 (by simp)
  have q3 : w'.cell? ⟨w.heap.size, 3, none⟩ = some (.float .f32 0) := V2.out.2 3 (by simp)
  have q4 : w'.cell? ⟨w.heap.size, 4, none⟩ = some (.float .f32 0) := V2.out.2 4 (by simp)
  have q5 : w'.cell? ⟨w.heap.size, 5, none⟩ = some (.float .f32 0) := V2.out.2 5 (by simp)
  have q6 : w'.cell? ⟨w.heap.size, 6, none⟩ = some (.float .f32 0) := V2.out.2 6 (by simp)
  have q7 : w'.cell? ⟨w.heap.size, 7, none⟩ = some (.float .f32 0) := V2.out.2 7 (by simp)
  have q8 : w'.cell? ⟨w.heap.size, 8, none⟩ = some (.float .f32 0) := V2.out.2 8 (by simp)
  have f0 := F2.out 0
  have f1 := F2.out 1
  have f2 := F2.out 2
  have f3 := F2.out 3
  have f4 := F2.out 4
  have f5 := F2.out 5
  have f6 := F2.out 6
  have f7 := F2.out 7
  have f8 := F2.out 8
  go_wp2_with fail
  refine bodyPost_ret (v := .tuple #[.agg #[.float .f32 (pick .f32 (fat zs 0) n0), .float .f32 (pick .f32 (fat zs 1) n1), .float .f32 (pick .f32 (fat zs 2) n2), .float .f32 (pick .f32 (fat zs 3) n3), .float .f32 (pick .f32 (fat zs 4) n4), .float .f32 (pick .f32 (fat zs 5) n5), .float .f32 (pick .f32 (fat zs 6) n6), .float .f32 (pick .f32 (fat zs 7) n7), .float .f32 (pick .f32 (fat zs 8) n8)], .bool (fin9 zs)]) (by simp [results, fin9, Try.results23, q0, q1, q2, q3, q4, q5, q6, q7, q8, go_sem]) rfl ⟨zs, (fun i => ([n0, n1, n2, n3, n4, n5, n6, n7, n8] : List Nat).getD i 0), by rw [HM.out]; rfl, fun _ => rfl, (((((((((B2.out.setCell (Nat.le_refl _) _).setCell (Nat.le_refl _) _).setCell (Nat.le_refl _) _).setCell (Nat.le_refl _) _).setCell (Nat.le_refl _) _).setCell (Nat.le_refl _) _).setCell (Nat.le_refl _) _).setCell (Nat.le_refl _) _).setCell (Nat.le_refl _) _)⟩

/-! ### isColor -/
theorem c_isColor (r n g m b k : Nat) (w : World) (hr : r < 2 ^ FloatKind.f32.format.width) (hg : g < 2 ^ FloatKind.f32.format.width) (hb : b < 2 ^ FloatKind.f32.format.width) : Calls Try.prog 25 #[.agg #[.float .f32 (pick .f32 r n), .float .f32 (pick .f32 g m), .float .f32 (pick .f32 b k)]] w (RetB (.bool (colB r g b)) w) := by
  have AF := Lib.hid (fun (w : World) (z : Nat) (hz : z = w.heap.size) => @id (Calls Try.prog 31 #[.slice (some ⟨z, 0, none⟩) 3 3] (w.alloc (.cells #[.float .f32 (pick .f32 r n), .float .f32 (pick .f32 g m), .float .f32 (pick .f32 b k)] 23)) (RetV (.bool (colB r g b)) (w.alloc (.cells #[.float .f32 (pick .f32 r n), .float .f32 (pick .f32 g m), .float .f32 (pick .f32 b k)] 23)))) (by
    have h := c_areFinW _ _ _ _ _ (row_new w z [pick .f32 r n, pick .f32 g m, pick .f32 b k] 23 hz (by simp) (by intro x hx; simp at hx; rcases hx with rfl | rfl | rfl <;> exact pick_wf (by assumption) _))
    rwa [fin3] at h))
  generalize colB r g b = q at *
  go_enter Try.func25, Try.ntmps25
  go_wp2_with fail
  refine (AF.out _ _ (by simp)).mono ?_
  rintro _ _ ⟨m1, rfl, rfl⟩
  go_wp2_with fail
  go_ret
  exact ⟨rfl, below_drewN (((Below.refl _ _).alloc (Nat.le_refl _) _).alloc (by simp) _) _⟩
/-! ### iTurnColor -/
theorem c_iTurnColor (zs : List Nat) (a : Option Addr) (c : Nat) (r nr g ng b nb : Nat) (w : World) (rA : IsRowF .f32 w a zs.length c zs) (hr : r < 2 ^ FloatKind.f32.format.width) (hg : g < 2 ^ FloatKind.f32.format.width) (hb : b < 2 ^ FloatKind.f32.format.width) : Calls Try.prog 14 #[.slice a zs.length c, .agg #[.float .f32 (pick .f32 r nr), .float .f32 (pick .f32 g ng), .float .f32 (pick .f32 b nb)]] w (ColB2 (turnC zs r g b) w) := by
  generalize hw0 : (w.alloc (Obj.cells #[.float .f32 (pick .f32 r nr), .float .f32 (pick .f32 g ng), .float .f32 (pick .f32 b nb)] 29)).alloc (Obj.cells #[.float .f32 0, .float .f32 0, .float .f32 0] 29) = w0
  have X0 : Var w0 w.heap.size #[.float .f32 (pick .f32 r nr), .float .f32 (pick .f32 g ng), .float .f32 (pick .f32 b nb)] := by subst hw0; exact (Var.new _ _ _).alloc _
  have X1 : Var w0 (w.heap.size + 1) #[.float .f32 0, .float .f32 0, .float .f32 0] := by subst hw0; exact Var.new' _ _ _ _ (by simp)
  have X2 : Free w0 (w.heap.size + 1) := by subst hw0; exact Free.new' _ _ _ _ (by simp)
  have X3 : Below w.heap.size w w0 := by subst hw0; exact ((Below.refl _ _).alloc (Nat.le_refl _) _).alloc (by simp) _
  have HW := Lib.hid hw0
  have V0 := Lib.hid X0
  have V1 := Lib.hid X1
  have F1 := Lib.hid X2
  have B0 := Lib.hid X3
  have z0 : w.heap.size + 1 < w0.heap.size := X1.lt
  have R0 := Lib.hid (rA.below X3)
  clear hw0 X0 X1 X2 X3 rA
  have CM := Lib.hid (c_matrixOf zs a c w0 R0.out)
  obtain ⟨res, hres0⟩ : ∃ q, q = turnC zs r g b := ⟨_, rfl⟩
  rw [← hres0]
  have HR := Lib.hid hres0
  clear hres0
  go_enter Try.func14, Try.ntmps14
  go_wp2_with fail
  rw [HW.out]
  refine CM.out.mono ?_
  rintro _ w1 ⟨z, m, rfl, hz, b1⟩
  have HZ := Lib.hid hz
  have V2 := V0.out.keep b1
  have U2 := Lib.hid (V1.out.keep b1)
  have F2 := Lib.hid (F1.out.below z0 b1)
  have B1 := Lib.hid (B0.out.trans (b1.mono (by omega)))
  have z1 : w0.heap.size ≤ w1.heap.size := b1.size
  have zb : w.heap.size < w1.heap.size := by omega
  obtain ⟨N, hN⟩ : ∃ N, N = w1.alloc (.cells #[.float .f32 (pick .f32 (fat z 0) (m 0)), .float .f32 (pick .f32 (fat z 1) (m 1)), .float .f32 (pick .f32 (fat z 2) (m 2)), .float .f32 (pick .f32 (fat z 3) (m 3)), .float .f32 (pick .f32 (fat z 4) (m 4)), .float .f32 (pick .f32 (fat z 5) (m 5)), .float .f32 (pick .f32 (fat z 6) (m 6)), .float .f32 (pick .f32 (fat z 7) (m 7)), .float .f32 (pick .f32 (fat z 8) (m 8))] 46) := ⟨_, rfl⟩
  have VN := hN ▸ Var.new w1 #[.float .f32 (pick .f32 (fat z 0) (m 0)), .float .f32 (pick .f32 (fat z 1) (m 1)), .float .f32 (pick .f32 (fat z 2) (m 2)), .float .f32 (pick .f32 (fat z 3) (m 3)), .float .f32 (pick .f32 (fat z 4) (m 4)), .float .f32 (pick .f32 (fat z 5) (m 5)), .float .f32 (pick .f32 (fat z 6) (m 6)), .float .f32 (pick .f32 (fat z 7) (m 7)), .float .f32 (pick .f32 (fat z 8) (m 8))] 46
  have E1 : Below w1.heap.size w1 N := hN ▸ (Below.refl _ _).alloc (Nat.le_refl _) _
  have HN := Lib.hid hN.symm
  obtain ⟨c0, c1, c2⟩ := (V2.keep E1).three
  have d0 : N.cell? ⟨w1.heap.size, 0, none⟩ = some (.float .f32 (pick .f32 (fat z 0) (m 0))) := VN.2 0 (by simp)
  have d1 : N.cell? ⟨w1.heap.size, 1, none⟩ = some (.float .f32 (pick .f32 (fat z 1) (m 1))) := VN.2 1 (by simp)
  have d2 : N.cell? ⟨w1.heap.size, 2, none⟩ = some (.float .f32 (pick .f32 (fat z 2) (m 2))) := VN.2 2 (by simp)
  have d3 : N.cell? ⟨w1.heap.size, 3, none⟩ = some (.float .f32 (pick .f32 (fat z 3) (m 3))) := VN.2 3 (by simp)
  have d4 : N.cell? ⟨w1.heap.size, 4, none⟩ = some (.float .f32 (pick .f32 (fat z 4) (m 4))) := VN.2 4 (by simp)
  have d5 : N.cell? ⟨w1.heap.size, 5, none⟩ = some (.float .f32 (pick .f32 (fat z 5) (m 5))) := VN.2 5 (by simp)
  have d6 : N.cell? ⟨w1.heap.size, 6, none⟩ = some (.float .f32 (pick .f32 (fat z 6) (m 6))) := VN.2 6 (by simp)
  have d7 : N.cell? ⟨w1.heap.size, 7, none⟩ = some (.float .f32 (pick .f32 (fat z 7) (m 7))) := VN.2 7 (by simp)
  have d8 : N.cell? ⟨w1.heap.size, 8, none⟩ = some (.float .f32 (pick .f32 (fat z 8) (m 8))) := VN.2 8 (by simp)
  rw [hN] at c0 c1 c2 d0 d1 d2 d3 d4 d5 d6 d7 d8
  have V3 := Lib.hid (V2.keep E1)
  have U3 := Lib.hid (U2.out.keep E1)
  have F3 := Lib.hid (F2.out.below (by omega) E1)
  have B3 := Lib.hid (B1.out.trans (E1.mono (by omega)))
  have z3 : w1.heap.size < N.heap.size := VN.lt
  clear b1 hz V2 VN E1 hN
  go_wp2_with fail
  rw [HN.out]
  clear c0 c1 c2 d0 d1 d2 d3 d4 d5 d6 d7 d8 HN
  refine (c_turned z m r nr g ng b nb N).mono ?_
  rintro _ w4 ⟨k0, k1, k2, rfl, b4⟩
  obtain ⟨T, hT⟩ : ∃ T, T = turn3 z r g b := ⟨_, rfl⟩
  rw [← hT]
  have HT := Lib.hid hT
  have hlt : T.1 < 2 ^ FloatKind.f32.format.width ∧ T.2.1 < 2 ^ FloatKind.f32.format.width ∧ T.2.2 < 2 ^ FloatKind.f32.format.width := by rw [hT]; exact ⟨turnV_lt _ _ _ _ _ _, turnV_lt _ _ _ _ _ _, turnV_lt _ _ _ _ _ _⟩
  clear hT
  obtain ⟨t0, t1, t2⟩ := T
  simp only at hlt ⊢
  have V4 := V3.out.keep b4
  have U4 := Lib.hid (U3.out.keep b4)
  have F4 := Lib.hid (F3.out.below (by omega) b4)
  have B4 := Lib.hid (B3.out.trans (b4.mono (by omega)))
  have z4 : N.heap.size ≤ w4.heap.size := b4.size
  obtain ⟨M, hM⟩ : ∃ M, M = w4.alloc (.cells #[.float .f32 (pick .f32 t0 k0), .float .f32 (pick .f32 t1 k1), .float .f32 (pick .f32 t2 k2)] 29) := ⟨_, rfl⟩
  have VM := hM ▸ Var.new w4 #[.float .f32 (pick .f32 t0 k0), .float .f32 (pick .f32 t1 k1), .float .f32 (pick .f32 t2 k2)] 29
  have E4 : Below w4.heap.size w4 M := hM ▸ (Below.refl _ _).alloc (Nat.le_refl _) _
  have HM := Lib.hid hM.symm
  obtain ⟨c0, c1, c2⟩ := (V4.keep E4).three
  rw [hM] at c0 c1 c2
  have V5 := Lib.hid (V4.keep E4)
  have U5 := Lib.hid (U4.out.keep E4)
  have F5 := Lib.hid (F4.out.below (by omega) E4)
  have B5 := Lib.hid (B4.out.trans (E4.mono (by omega)))
  have T5 := Lib.hid VM
  have z5 : w4.heap.size < M.heap.size := VM.lt
  have q5 := U5.out.three
  have g5 := F5.out
  rw [hM] at q5 g5
  obtain ⟨q0, q1, q2⟩ := q5
  have f0 := g5 0
  have f1 := g5 1
  have f2 := g5 2
  have BM := Lib.hid (show Below w.heap.size w (w4.alloc (.cells #[.float .f32 (pick .f32 t0 k0), .float .f32 (pick .f32 t1 k1), .float .f32 (pick .f32 t2 k2)] 29)) from hM ▸ B5.out)
  clear b4 V4 VM E4 hM g5
  cases hm : matB zs
  · have hres : turnC zs r g b = ((0, 0, 0), false) := by unfold turnC; rw [hm]; rfl
    have HQ := Lib.hid (HR.out.trans hres)
    clear HT HZ hres hlt
    go_wp2_with fail
    refine bodyPost_ret (v := .tuple #[.agg #[.float .f32 0, .float .f32 0, .float .f32 0], .bool false]) (by simp [results, Try.results14, q0, q1, q2, go_sem]) rfl ?_
    rw [HQ.out]
    refine ColB2.no rfl ?_
    repeat (first | exact BM.out | exact Nat.le_refl _ | (refine Below.setCell ?_ ?_ _) | (refine below_drewN ?_ _) | (refine Below.alloc ?_ ?_ _) | (simp <;> omega))
  obtain rfl : z = zs := HZ.out hm
  have hres : turnC z r g b = if (colB r g b && colB t0 t1 t2) = true then ((t0, t1, t2), true) else ((0, 0, 0), false) := by
    unfold turnC; rw [← HT.out, hm, Bool.true_and]
  have HE := Lib.hid (HR.out.trans hres)
  clear HT HZ hres hm HR
  have CC := Lib.hid (c_isColor r nr g ng b nb M hr hg hb)
  cases hc : colB r g b
  all_goals rw [hc] at CC
  · have HQ := Lib.hid (show res = ((0, 0, 0), false) by rw [HE.out, hc]; rfl)
    clear hc
    go_wp2_with fail
    rw [HM.out]
    refine CC.out.mono ?_
    rintro _ w6 ⟨rfl, b6⟩
    have U6 := Lib.hid (U5.out.keep b6)
    have F6 := Lib.hid (F5.out.below (by omega) b6)
    have B6 := Lib.hid (B5.out.trans (b6.mono (by omega)))
    have z6 : M.heap.size ≤ w6.heap.size := b6.size
    clear b6 c0 c1 c2 q0 q1 q2 f0 f1 f2
    obtain ⟨q0, q1, q2⟩ := U6.out.three
    have f0 := F6.out 0
    have f1 := F6.out 1
    have f2 := F6.out 2
    go_wp2_with fail
    refine bodyPost_ret (v := .tuple #[.agg #[.float .f32 0, .float .f32 0, .float .f32 0], .bool false]) (by simp [results, Try.results14, q0, q1, q2, go_sem]) rfl ?_
    rw [HQ.out]
    refine ColB2.no rfl ?_
    repeat (first | exact B6.out | exact Nat.le_refl _ | (refine Below.setCell ?_ ?_ _) | (refine below_drewN ?_ _) | (refine Below.alloc ?_ ?_ _) | (simp <;> omega))
  have HE2 := Lib.hid (show res = if colB t0 t1 t2 = true then ((t0, t1, t2), true) else ((0, 0, 0), false) by rw [HE.out, hc, Bool.true_and])
  clear hc
  go_wp2_with fail
  rw [HM.out]
  refine CC.out.mono ?_
  rintro _ w6 ⟨rfl, b6⟩
  have U6 := Lib.hid (U5.out.keep b6)
  have F6 := Lib.hid (F5.out.below (by omega) b6)
  have B6 := Lib.hid (B5.out.trans (b6.mono (by omega)))
  have T6 := Lib.hid (T5.out.keep b6)
  have z6 : M.heap.size ≤ w6.heap.size := b6.size
  clear b6 c0 c1 c2 q0 q1 q2 f0 f1 f2 HM CC
  obtain ⟨c0, c1, c2⟩ := T6.out.three
  have CD := Lib.hid (c_isColor t0 k0 t1 k1 t2 k2 w6 hlt.1 hlt.2.1 hlt.2.2)
  go_wp2_with fail
  cases hd : colB t0 t1 t2
  all_goals
    rw [hd] at CD
    refine CD.out.mono ?_
    rintro _ w7 ⟨rfl, b7⟩
    have U7 := Lib.hid (U6.out.keep b7)
    have F7 := Lib.hid (F6.out.below (by omega) b7)
    have B7 := Lib.hid (B6.out.trans (b7.mono (by omega)))
    have T7 := Lib.hid (T6.out.keep b7)
    have z7 : w6.heap.size ≤ w7.heap.size := b7.size
  · have HQ := Lib.hid (show res = ((0, 0, 0), false) by rw [HE2.out, hd]; rfl)
    clear b7 c0 c1 c2
    obtain ⟨q0, q1, q2⟩ := U7.out.three
    have f0 := F7.out 0
    have f1 := F7.out 1
    have f2 := F7.out 2
    go_wp2_with fail
    refine bodyPost_ret (v := .tuple #[.agg #[.float .f32 0, .float .f32 0, .float .f32 0], .bool false]) (by simp [results, Try.results14, q0, q1, q2, go_sem]) rfl ?_
    rw [HQ.out]
    refine ColB2.no rfl ?_
    repeat (first | exact B7.out | exact Nat.le_refl _ | (refine Below.setCell ?_ ?_ _) | (refine below_drewN ?_ _) | (refine Below.alloc ?_ ?_ _) | (simp <;> omega))
  · have HQ := Lib.hid (show res = ((t0, t1, t2), true) by rw [HE2.out, hd]; rfl)
    clear b7 c0 c1 c2
    obtain ⟨c0, c1, c2⟩ := T7.out.three
    obtain ⟨q0, q1, q2⟩ := U7.out.three
    have f0 := F7.out 0
    have f1 := F7.out 1
    have f2 := F7.out 2
    go_wp2_with fail
    refine bodyPost_ret (v := .tuple #[.agg #[.float .f32 (pick .f32 t0 k0), .float .f32 (pick .f32 t1 k1), .float .f32 (pick .f32 t2 k2)], .bool true]) (by simp [results, Try.results14, q0, q1, q2, go_sem]) rfl ?_
    rw [HQ.out]
    refine ⟨_, _, _, rfl, ?_⟩
    repeat (first | exact B7.out | exact Nat.le_refl _ | (refine Below.setCell ?_ ?_ _) | (refine below_drewN ?_ _) | (refine Below.alloc ?_ ?_ _) | (simp <;> omega))
/-! ### listOf -/
theorem c_listOf (v0 v1 v2 v3 v4 v5 v6 v7 v8 n0 n1 n2 n3 n4 n5 n6 n7 n8 : Nat) (w : World) (hlt : ∀ x ∈ [v0, v1, v2, v3, v4, v5, v6, v7, v8], x < 2 ^ FloatKind.f32.format.width) : Calls Try.prog 27 #[.agg #[.float .f32 (pick .f32 v0 n0), .float .f32 (pick .f32 v1 n1), .float .f32 (pick .f32 v2 n2), .float .f32 (pick .f32 v3 n3), .float .f32 (pick .f32 v4 n4), .float .f32 (pick .f32 v5 n5), .float .f32 (pick .f32 v6 n6), .float .f32 (pick .f32 v7 n7), .float .f32 (pick .f32 v8 n8)]] w (RetL 46 (listR [v0, v1, v2, v3, v4, v5, v6, v7, v8]) w) := by
  have hfin : finL [v0, v1, v2, v3, v4, v5, v6, v7, v8] = (finB .f32 v0 && finB .f32 v1 && finB .f32 v2 && finB .f32 v3 && finB .f32 v4 && finB .f32 v5 && finB .f32 v6 && finB .f32 v7 && finB .f32 v8) := by simp [finL, Bool.and_assoc]
  unfold listR
  rw [hfin]
  have CF := Lib.hid (fun (w : World) => c_matFin9 v0 v1 v2 v3 v4 v5 v6 v7 v8 n0 n1 n2 n3 n4 n5 n6 n7 n8 w)
  generalize hw0 : w.alloc (Obj.cells #[.float .f32 (pick .f32 v0 n0), .float .f32 (pick .f32 v1 n1), .float .f32 (pick .f32 v2 n2), .float .f32 (pick .f32 v3 n3), .float .f32 (pick .f32 v4 n4), .float .f32 (pick .f32 v5 n5), .float .f32 (pick .f32 v6 n6), .float .f32 (pick .f32 v7 n7), .float .f32 (pick .f32 v8 n8)] 46) = w0
  have X0 : Var w0 w.heap.size #[.float .f32 (pick .f32 v0 n0), .float .f32 (pick .f32 v1 n1), .float .f32 (pick .f32 v2 n2), .float .f32 (pick .f32 v3 n3), .float .f32 (pick .f32 v4 n4), .float .f32 (pick .f32 v5 n5), .float .f32 (pick .f32 v6 n6), .float .f32 (pick .f32 v7 n7), .float .f32 (pick .f32 v8 n8)] := by subst hw0; exact Var.new _ _ _
  have X1 : Below w.heap.size w w0 := by subst hw0; exact (Below.refl _ _).alloc (Nat.le_refl _) _
  have HW := Lib.hid hw0
  have B0 := Lib.hid X1
  have c0 : w0.cell? ⟨w.heap.size, 0, none⟩ = some (.float .f32 (pick .f32 v0 n0)) := X0.2 0 (by simp)
  have c1 : w0.cell? ⟨w.heap.size, 1, none⟩ = some (.float .f32 (pick .f32 v1 n1)) := X0.2 1 (by simp)
  have c2 : w0.cell? ⟨w.heap.size, 2, none⟩ = some (.float .f32 (pick .f32 v2 n2)) := X0.2 2 (by simp)
  have c3 : w0.cell? ⟨w.heap.size, 3, none⟩ = some (.float .f32 (pick .f32 v3 n3)) := X0.2 3 (by simp)
  have c4 : w0.cell? ⟨w.heap.size, 4, none⟩ = some (.float .f32 (pick .f32 v4 n4)) := X0.2 4 (by simp)
  have c5 : w0.cell? ⟨w.heap.size, 5, none⟩ = some (.float .f32 (pick .f32 v5 n5)) := X0.2 5 (by simp)
  have c6 : w0.cell? ⟨w.heap.size, 6, none⟩ = some (.float .f32 (pick .f32 v6 n6)) := X0.2 6 (by simp)
  have c7 : w0.cell? ⟨w.heap.size, 7, none⟩ = some (.float .f32 (pick .f32 v7 n7)) := X0.2 7 (by simp)
  have c8 : w0.cell? ⟨w.heap.size, 8, none⟩ = some (.float .f32 (pick .f32 v8 n8)) := X0.2 8 (by simp)
  cases hf : (finB .f32 v0 && finB .f32 v1 && finB .f32 v2 && finB .f32 v3 && finB .f32 v4 && finB .f32 v5 && finB .f32 v6 && finB .f32 v7 && finB .f32 v8)
  · rw [if_neg (by decide)]
    rw [hf] at CF
    clear hw0 X0 X1 hfin hf
    go_enter Try.func27, Try.ntmps27
    go_wp2_with fail
    rw [HW.out]
    go_wp2_with fail
    refine (CF.out _).mono ?_
    rintro _ w1 ⟨rfl, b⟩
    have B1 := Lib.hid (B0.out.trans (b.mono B0.out.size))
    clear b c0 c1 c2 c3 c4 c5 c6 c7 c8
    go_wp2_with fail
    go_ret2
    exact RetL.no rfl B1.out
  · rw [if_pos rfl]
    rw [hf] at CF
    have hO : Own 46 w0 w.heap.size (some ⟨w.heap.size, 0, none⟩) 9 9 [v0, v1, v2, v3, v4, v5, v6, v7, v8] := by
      simp only [Bool.and_eq_true] at hf
      obtain ⟨⟨⟨⟨⟨⟨⟨⟨h0, h1⟩, h2⟩, h3⟩, h4⟩, h5⟩, h6⟩, h7⟩, h8⟩ := hf
      rw [← hw0, pick_not (fin_notN h0), pick_not (fin_notN h1), pick_not (fin_notN h2), pick_not (fin_notN h3), pick_not (fin_notN h4), pick_not (fin_notN h5), pick_not (fin_notN h6), pick_not (fin_notN h7), pick_not (fin_notN h8)]
      exact own_new9 (zs := [v0, v1, v2, v3, v4, v5, v6, v7, v8]) rfl (Nat.le_refl _) (by simp) (fun b hb => wf_lt (hlt b hb))
    have HO := Lib.hid hO
    have z0 : w.heap.size ≤ w0.heap.size := X1.size
    clear hw0 X0 X1 hfin hf hO
    go_enter Try.func27, Try.ntmps27
    go_wp2_with fail
    rw [HW.out]
    go_wp2_with fail
    refine (CF.out _).mono ?_
    rintro _ w1 ⟨rfl, b⟩
    have B1 := Lib.hid (B0.out.trans (b.mono B0.out.size))
    have O1 := Lib.hid (HO.out.below b)
    clear b c0 c1 c2 c3 c4 c5 c6 c7 c8
    go_wp2_with fail
    go_ret2
    exact ⟨_, _, rfl, by simp, B1.out, O1.out⟩
/-! ### iJoinM -/
theorem c_iJoinMatrices (zA : List Nat) (aA : Option Addr) (cA : Nat) (zB : List Nat) (aB : Option Addr) (cB : Nat) (w : World) (rA : IsRowF .f32 w aA zA.length cA zA) (rB : IsRowF .f32 w aB zB.length cB zB) : Calls Try.prog 16 #[.slice aA zA.length cA, .slice aB zB.length cB] w (RetL 46 (joinM zA zB) w) := by
  have CA := Lib.hid (c_matrixOf zA aA cA w rA)
  have RB := Lib.hid rB
  obtain ⟨res, hres0⟩ : ∃ q, q = joinM zA zB := ⟨_, rfl⟩
  rw [← hres0]
  have HR := Lib.hid hres0
  clear hres0 rA rB
  go_enter Try.func16, Try.ntmps16
  go_wp2_with fail
  refine CA.out.mono ?_
  rintro _ w1 ⟨z1, p1, rfl, hz1, b1⟩
  have HZ1 := Lib.hid hz1
  obtain ⟨N1, hN1⟩ : ∃ N, N = w1.alloc (.cells #[.float .f32 (pick .f32 (fat z1 0) (p1 0)), .float .f32 (pick .f32 (fat z1 1) (p1 1)), .float .f32 (pick .f32 (fat z1 2) (p1 2)), .float .f32 (pick .f32 (fat z1 3) (p1 3)), .float .f32 (pick .f32 (fat z1 4) (p1 4)), .float .f32 (pick .f32 (fat z1 5) (p1 5)), .float .f32 (pick .f32 (fat z1 6) (p1 6)), .float .f32 (pick .f32 (fat z1 7) (p1 7)), .float .f32 (pick .f32 (fat z1 8) (p1 8))] 46) := ⟨_, rfl⟩
  have VA := Lib.hid (hN1 ▸ Var.new w1 #[.float .f32 (pick .f32 (fat z1 0) (p1 0)), .float .f32 (pick .f32 (fat z1 1) (p1 1)), .float .f32 (pick .f32 (fat z1 2) (p1 2)), .float .f32 (pick .f32 (fat z1 3) (p1 3)), .float .f32 (pick .f32 (fat z1 4) (p1 4)), .float .f32 (pick .f32 (fat z1 5) (p1 5)), .float .f32 (pick .f32 (fat z1 6) (p1 6)), .float .f32 (pick .f32 (fat z1 7) (p1 7)), .float .f32 (pick .f32 (fat z1 8) (p1 8))] 46)
  have B1 := Lib.hid (b1.trans (show Below w.heap.size w1 N1 from hN1 ▸ (Below.refl _ _).alloc b1.size _))
  have sz1 : N1.heap.size = w1.heap.size + 1 := by rw [hN1]; simp
  have HN1 := Lib.hid hN1.symm
  have zw : w.heap.size ≤ w1.heap.size := b1.size
  clear b1 hz1 hN1 CA
  go_wp2_with fail
  rw [HN1.out]
  refine (c_matrixOf zB aB cB N1 (RB.out.below B1.out)).mono ?_
  rintro _ w2 ⟨z2, p2, rfl, hz2, b2⟩
  have HZ2 := Lib.hid hz2
  have VA2 := Lib.hid (VA.out.keep b2)
  have zz : N1.heap.size ≤ w2.heap.size := b2.size
  have B2 := Lib.hid (B1.out.trans (b2.mono B1.out.size))
  clear b2 hz2 HN1 VA B1
  cases hA : matB zA
  · have HX := Lib.hid (HR.out.trans (joinM_no (.inl hA)))
    clear hA
    go_wp2_with fail
    go_ret2
    rw [HX.out]
    exact RetL.no rfl (B2.out.alloc B2.out.size _)
  cases hB : matB zB
  · have HX := Lib.hid (HR.out.trans (joinM_no (.inr hB)))
    clear hA hB
    go_wp2_with fail
    go_ret2
    rw [HX.out]
    exact RetL.no rfl (B2.out.alloc B2.out.size _)
  obtain rfl : z1 = zA := HZ1.out hA
  obtain rfl : z2 = zB := HZ2.out hB
  have HX := Lib.hid (show res = listR (joinML z1 z2) by rw [HR.out]; unfold joinM; rw [hA, hB]; rfl)
  clear hA hB HZ1 HZ2 HR
  obtain ⟨N2, hN2⟩ : ∃ N, N = w2.alloc (.cells #[.float .f32 (pick .f32 (fat z2 0) (p2 0)), .float .f32 (pick .f32 (fat z2 1) (p2 1)), .float .f32 (pick .f32 (fat z2 2) (p2 2)), .float .f32 (pick .f32 (fat z2 3) (p2 3)), .float .f32 (pick .f32 (fat z2 4) (p2 4)), .float .f32 (pick .f32 (fat z2 5) (p2 5)), .float .f32 (pick .f32 (fat z2 6) (p2 6)), .float .f32 (pick .f32 (fat z2 7) (p2 7)), .float .f32 (pick .f32 (fat z2 8) (p2 8))] 46) := ⟨_, rfl⟩
  have VB := Lib.hid (hN2 ▸ Var.new w2 #[.float .f32 (pick .f32 (fat z2 0) (p2 0)), .float .f32 (pick .f32 (fat z2 1) (p2 1)), .float .f32 (pick .f32 (fat z2 2) (p2 2)), .float .f32 (pick .f32 (fat z2 3) (p2 3)), .float .f32 (pick .f32 (fat z2 4) (p2 4)), .float .f32 (pick .f32 (fat z2 5) (p2 5)), .float .f32 (pick .f32 (fat z2 6) (p2 6)), .float .f32 (pick .f32 (fat z2 7) (p2 7)), .float .f32 (pick .f32 (fat z2 8) (p2 8))] 46)
  have E2 : Below w2.heap.size w2 N2 := hN2 ▸ (Below.refl _ _).alloc (Nat.le_refl _) _
  have sz2 : N2.heap.size = w2.heap.size + 1 := by rw [hN2]; simp
  have VA3 := Lib.hid (VA2.out.keep E2)
  have B3 := Lib.hid (B2.out.trans (E2.mono B2.out.size))
  obtain ⟨N3, hN3⟩ : ∃ N, N = N2.alloc (.cells #[.float .f32 0, .float .f32 0, .float .f32 0, .float .f32 0, .float .f32 0, .float .f32 0, .float .f32 0, .float .f32 0, .float .f32 0] 46) := ⟨_, rfl⟩
  have VJ : Var N3 (w2.heap.size + 1) #[.float .f32 0, .float .f32 0, .float .f32 0, .float .f32 0, .float .f32 0, .float .f32 0, .float .f32 0, .float .f32 0, .float .f32 0] := hN3 ▸ Var.new' N2 #[.float .f32 0, .float .f32 0, .float .f32 0, .float .f32 0, .float .f32 0, .float .f32 0, .float .f32 0, .float .f32 0, .float .f32 0] 46 _ sz2.symm
  have FJ : Free N3 (w2.heap.size + 1) := hN3 ▸ Free.new' N2 #[.float .f32 0, .float .f32 0, .float .f32 0, .float .f32 0, .float .f32 0, .float .f32 0, .float .f32 0, .float .f32 0, .float .f32 0] 46 _ sz2.symm
  have hJ0 : JP z1 z2 (w2.heap.size + 1) N2 0 0 N3 := ⟨hN3 ▸ (Below.refl _ _).alloc (by omega) _, FJ, VJ.lt, fun c hc => ⟨0, by
    have e : PJ z1 z2 0 0 c = 0 := by unfold PJ; rw [if_neg (by omega)]; split <;> rfl
    rw [e, pick00]; exact var9z VJ c hc⟩⟩
  have J0 := Lib.hid hJ0
  rw [hN2] at hN3
  have HN := Lib.hid hN3.symm
  clear hJ0 VJ FJ hN3 hN2 E2 VA2 B2
  go_wp2_with fail
  rw [HN.out]
  clear HN
  go_loopw [11, 12, 13, 14, 31] (fun _ _ _ _ i wr => ∃ t : Nat, t ≤ 9 ∧ i = .int .i64 t ∧ JP z1 z2 (w2.heap.size + 1) N2 t 0 wr) (fun _ _ _ _ i _ => 9 - (intOf i).toNat)
  case atStart => exact ⟨0, by omega, rfl, J0.out⟩
  case round =>
    obtain ⟨t, ht, rfl, hJ⟩ := hrel
    have HJ := Lib.hid hJ
    clear hJ
    by_cases hlt : t < 9
    · have mt : (t : Int).tmod 3 = ((t % 3 : Nat) : Int) := by rw [Int.tmod_eq_emod_of_nonneg (by omega), Int.natCast_emod]; rfl
      have mt2 : (t : Int) % 3 = ((t % 3 : Nat) : Int) := by omega
      have mq0 : (t : Int).tdiv 3 = ((t / 3 : Nat) : Int) := by rw [Int.tdiv_eq_ediv_of_nonneg (by omega), Int.natCast_ediv]; rfl
      have mq2 : (t : Int) / 3 = ((t / 3 : Nat) : Int) := by omega
      have hI : t / 3 < 3 := by omega
      have hK : t % 3 < 3 := by omega
      have HA := Lib.hid (fun j => PJ_at z1 z2 t j)
      generalize t / 3 = I at *
      generalize t % 3 = K at *
      have mq : IntKind.i64.wrap (I : Int) = (I : Int) := IntWalk.i64_in _ (by omega)
      go_wp2_with fail
      go_loopw [14, 38] (fun _ i wr => ∃ j : Nat, j ≤ 3 ∧ i = .int .i64 j ∧ JP z1 z2 (w2.heap.size + 1) N2 t j wr) (fun _ i _ => 3 - (intOf i).toNat)
      case atStart => exact ⟨0, by omega, rfl, HJ.out⟩
      case round =>
        obtain ⟨j, hj, rfl, hJ⟩ := hrel
        have HJ2 := Lib.hid hJ
        clear hJ
        by_cases hlj : j < 3
        · obtain ⟨nJ, cJ⟩ := HJ2.out.2.2.2 t hlt
          rw [HA.out j] at cJ
          have HS := Lib.hid (show PJ z1 z2 t (j + 1) t = fop .add .f32 (sumJ z1 z2 I K j) (fop .mul .f32 (fat z1 (3 * I + j)) (fat z2 (3 * j + K))) from HA.out (j + 1))
          have hP1 : 3 * I + j < 9 := by omega
          have hP2 : 3 * j + K < 9 := by omega
          have bA : w1.heap.size < w2.heap.size + 1 := by omega
          have cA := var9 (VA3.out.below HJ2.out.1 bA) (3 * I + j) hP1
          have cB := var9 (VB.out.below HJ2.out.1 (by omega)) (3 * j + K) hP2
          have fJ := HJ2.out.2.1 t
          have hJs := HJ2.out.2.2.1
          have W1 : IntKind.i64.wrap (3 * (I : Int)) = ((3 * I : Nat) : Int) := by rw [IntWalk.i64_in _ (by omega)]; omega
          have W3 : IntKind.i64.wrap (3 * (j : Int)) = ((3 * j : Nat) : Int) := by rw [IntWalk.i64_in _ (by omega)]; omega
          generalize sumJ z1 z2 I K j = S at *
          have W2 : IntKind.i64.wrap (((3 * I : Nat) : Int) + (j : Int)) = ((3 * I + j : Nat) : Int) := by rw [IntWalk.i64_in _ (by omega)]; omega
          have W4 : IntKind.i64.wrap (((3 * j : Nat) : Int) + (K : Int)) = ((3 * j + K : Nat) : Int) := by rw [IntWalk.i64_in _ (by omega)]; omega
          generalize 3 * I + j = P1 at *
          generalize 3 * j + K = P2 at *
          generalize 3 * I = Q1 at *
          generalize 3 * j = Q2 at *
          have KS := Lib.hid (fun (w' : World) (hE : Below wr.heap.size wr w') => (⟨(hE.cell (p := ⟨w2.heap.size + 1, t, none⟩) hJs).trans cJ, (hE.cell (p := ⟨w1.heap.size, P1, none⟩) (by show w1.heap.size < _; omega)).trans cA, (hE.cell (p := ⟨w2.heap.size, P2, none⟩) (by show w2.heap.size < _; omega)).trans cB, (hE.frozen (p := ⟨w2.heap.size + 1, t, none⟩) hJs).trans fJ⟩ : _ ∧ _ ∧ _ ∧ _))
          have g1 : (t : Int) < 9 := by omega
          have g2 : (P1 : Int) < 9 := by omega
          have g3 : (P2 : Int) < 9 := by omega
          clear cA cB cJ fJ
          go_wp2_with fail
          refine wp_region_facts 18 (fun a b => Below a.heap.size a b) (fun _ => Below.refl _ _) (fun _ _ _ h h' => h.trans (h'.mono h.size)) (Below.refl _ _).drew (by kernel_rfl) (by kernel_rfl) (by kernel_rfl) (by kernel_rfl) ?_
          simp only [List.take_succ_cons, List.take_zero, List.drop_succ_cons, List.drop_zero]
          (with_reducible apply wpF_val); (focus (intro vs w' hE hk; (obtain ⟨cj, ca, cb, fj⟩ := KS.out w' hE); go_simp; exact ⟨Below.refl _ _, rfl⟩)); (simp only [Act.put, List.setIfInBounds_toArray, List.set_cons_zero, List.set_cons_succ, List.cons_append, List.nil_append])
          (with_reducible apply wpF_val); (focus (intro vs w' hE hk; (obtain ⟨cj, ca, cb, fj⟩ := KS.out w' hE); go_simp; exact ⟨Below.refl _ _, rfl⟩)); (simp only [Act.put, List.setIfInBounds_toArray, List.set_cons_zero, List.set_cons_succ, List.cons_append, List.nil_append])
          (with_reducible apply wpF_val); (focus (intro vs w' hE hk; (obtain ⟨cj, ca, cb, fj⟩ := KS.out w' hE); go_simp; exact ⟨Below.refl _ _, rfl⟩)); (simp only [Act.put, List.setIfInBounds_toArray, List.set_cons_zero, List.set_cons_succ, List.cons_append, List.nil_append])
          (with_reducible apply wpF_val); (focus (intro vs w' hE hk; (obtain ⟨cj, ca, cb, fj⟩ := KS.out w' hE); go_simp; exact ⟨Below.refl _ _, rfl⟩)); (simp only [Act.put, List.setIfInBounds_toArray, List.set_cons_zero, List.set_cons_succ, List.cons_append, List.nil_append])
          (with_reducible apply wpF_val); (focus (intro vs w' hE hk; (obtain ⟨cj, ca, cb, fj⟩ := KS.out w' hE); go_simp; exact ⟨Below.refl _ _, rfl⟩)); (simp only [Act.put, List.setIfInBounds_toArray, List.set_cons_zero, List.set_cons_succ, List.cons_append, List.nil_append])
          (with_reducible apply wpF_val); (focus (intro vs w' hE hk; (obtain ⟨cj, ca, cb, fj⟩ := KS.out w' hE); go_simp; exact ⟨Below.refl _ _, rfl⟩)); (simp only [Act.put, List.setIfInBounds_toArray, List.set_cons_zero, List.set_cons_succ, List.cons_append, List.nil_append])
          (with_reducible apply wpF_val); (focus (intro vs w' hE hk; (obtain ⟨cj, ca, cb, fj⟩ := KS.out w' hE); go_simp; exact ⟨Below.refl _ _, rfl⟩)); (simp only [Act.put, List.setIfInBounds_toArray, List.set_cons_zero, List.set_cons_succ, List.cons_append, List.nil_append])
          (with_reducible apply wpF_val); (focus (intro vs w' hE hk; (obtain ⟨cj, ca, cb, fj⟩ := KS.out w' hE); go_simp; exact ⟨Below.refl _ _, rfl⟩)); (simp only [Act.put, List.setIfInBounds_toArray, List.set_cons_zero, List.set_cons_succ, List.cons_append, List.nil_append])
          (with_reducible apply wpF_val); (focus (intro vs w' hE hk; (obtain ⟨cj, ca, cb, fj⟩ := KS.out w' hE); go_simp; exact ⟨Below.refl _ _, rfl⟩)); (simp only [Act.put, List.setIfInBounds_toArray, List.set_cons_zero, List.set_cons_succ, List.cons_append, List.nil_append])
          (with_reducible apply wpF_val); (focus (intro vs w' hE hk; (obtain ⟨cj, ca, cb, fj⟩ := KS.out w' hE); go_simp; exact ⟨Below.refl _ _, rfl⟩)); (simp only [Act.put, List.setIfInBounds_toArray, List.set_cons_zero, List.set_cons_succ, List.cons_append, List.nil_append])
          (with_reducible apply wpF_val); (focus (intro vs w' hE hk; (obtain ⟨cj, ca, cb, fj⟩ := KS.out w' hE); go_simp; exact ⟨Below.refl _ _, rfl⟩)); (simp only [Act.put, List.setIfInBounds_toArray, List.set_cons_zero, List.set_cons_succ, List.cons_append, List.nil_append])
          (with_reducible apply wpF_val); (focus (intro vs w' hE hk; (obtain ⟨cj, ca, cb, fj⟩ := KS.out w' hE); go_simp; exact ⟨Below.refl _ _, rfl⟩)); (simp only [Act.put, List.setIfInBounds_toArray, List.set_cons_zero, List.set_cons_succ, List.cons_append, List.nil_append])
          (with_reducible apply wpF_val); (focus (intro vs w' hE hk; (obtain ⟨cj, ca, cb, fj⟩ := KS.out w' hE); go_simp; exact ⟨Below.refl _ _, rfl⟩)); (simp only [Act.put, List.setIfInBounds_toArray, List.set_cons_zero, List.set_cons_succ, List.cons_append, List.nil_append])
          (with_reducible apply wpF_val); (focus (intro vs w' hE hk; (obtain ⟨cj, ca, cb, fj⟩ := KS.out w' hE); go_simp; exact ⟨Below.refl _ _, rfl⟩)); (simp only [Act.put, List.setIfInBounds_toArray, List.set_cons_zero, List.set_cons_succ, List.cons_append, List.nil_append])
          (with_reducible apply wpF_val); (focus (intro vs w' hE hk; (obtain ⟨cj, ca, cb, fj⟩ := KS.out w' hE); go_simp; exact ⟨Below.refl _ _, rfl⟩)); (simp only [Act.put, List.setIfInBounds_toArray, List.set_cons_zero, List.set_cons_succ, List.cons_append, List.nil_append])
          refine wpF_fact (fun u _ => ∃ m, u = .float .f32 (pick .f32 (fop .mul .f32 (fat z1 P1) (fat z2 P2)) m)) (fun _ _ _ h _ => h) (fun vs w' hE hk => ?_) ?_; (focus (rw [if_pos (by rfl)]; refine uponW_fop _ _ _ _ _ rfl .f32 _ _ rfl rfl (by decide) (fun n' m' => ⟨below_drewN (Below.refl _ _) _, n', by simp only [fop_pick_l, fop_pick_r]⟩))); (simp only [Act.put, List.setIfInBounds_toArray, List.set_cons_zero, List.set_cons_succ, List.cons_append, List.nil_append])
          refine wpF_fact (fun u _ => ∃ m, u = .float .f32 (pick .f32 (fop .add .f32 S (fop .mul .f32 (fat z1 P1) (fat z2 P2))) m)) (fun _ _ _ h _ => h) (fun vs w' hE hk => ?_) ?_; (focus (obtain ⟨n1, hn1⟩ := hk 15 (by kernel_rfl); simp only [hn1]; rw [if_pos (by rfl)]; refine uponW_fop _ _ _ _ _ rfl .f32 _ _ rfl rfl (by decide) (fun n' m' => ⟨below_drewN (Below.refl _ _) _, n', by simp only [fop_pick_l, fop_pick_r]⟩))); (simp only [Act.put, List.setIfInBounds_toArray, List.set_cons_zero, List.set_cons_succ, List.cons_append, List.nil_append])
          (with_reducible apply wpF_val); (focus (intro vs w' hE hk; (obtain ⟨cj, ca, cb, fj⟩ := KS.out w' hE); go_simp; exact ⟨Below.refl _ _, rfl⟩)); (simp only [Act.put, List.setIfInBounds_toArray, List.set_cons_zero, List.set_cons_succ, List.cons_append, List.nil_append])
          refine wpF_nil (fun vs w' hE hk => ?_)
          obtain ⟨m5, h5⟩ := hk 16
          obtain ⟨cj, ca, cb, fj⟩ := KS.out w' hE
          have J2 := Lib.hid (HJ2.out.step hE hlt (n := m5) (fop .add .f32 S (fop .mul .f32 (fat z1 P1) (fat z2 P2))) HS.out.symm)
          simp only [h5]
          clear hE hk h5
          go_wp2_with fail
          go_roundw
          case rel => exact ⟨j + 1, by omega, by go_num, J2.out⟩
          case measure => simp [intOf]; omega
        · obtain rfl : j = 3 := by omega
          go_wp2_with fail
          go_roundw
          case rel => exact ⟨t + 1, by omega, by go_num, HJ2.out.next⟩
          case measure => simp [intOf]; omega
    · obtain rfl : t = 9 := by omega
      have hb := HJ.out.1
      obtain ⟨n0, c0⟩ := HJ.out.2.2.2 0 (by omega)
      rw [show PJ z1 z2 9 0 0 = sumJ z1 z2 0 0 3 from rfl] at c0
      obtain ⟨n1, c1⟩ := HJ.out.2.2.2 1 (by omega)
      rw [show PJ z1 z2 9 0 1 = sumJ z1 z2 0 1 3 from rfl] at c1
      obtain ⟨n2, c2⟩ := HJ.out.2.2.2 2 (by omega)
      rw [show PJ z1 z2 9 0 2 = sumJ z1 z2 0 2 3 from rfl] at c2
      obtain ⟨n3, c3⟩ := HJ.out.2.2.2 3 (by omega)
      rw [show PJ z1 z2 9 0 3 = sumJ z1 z2 1 0 3 from rfl] at c3
      obtain ⟨n4, c4⟩ := HJ.out.2.2.2 4 (by omega)
      rw [show PJ z1 z2 9 0 4 = sumJ z1 z2 1 1 3 from rfl] at c4
      obtain ⟨n5, c5⟩ := HJ.out.2.2.2 5 (by omega)
      rw [show PJ z1 z2 9 0 5 = sumJ z1 z2 1 2 3 from rfl] at c5
      obtain ⟨n6, c6⟩ := HJ.out.2.2.2 6 (by omega)
      rw [show PJ z1 z2 9 0 6 = sumJ z1 z2 2 0 3 from rfl] at c6
      obtain ⟨n7, c7⟩ := HJ.out.2.2.2 7 (by omega)
      rw [show PJ z1 z2 9 0 7 = sumJ z1 z2 2 1 3 from rfl] at c7
      obtain ⟨n8, c8⟩ := HJ.out.2.2.2 8 (by omega)
      rw [show PJ z1 z2 9 0 8 = sumJ z1 z2 2 2 3 from rfl] at c8
      have B9 := Lib.hid (B3.out.trans (hb.mono (by omega)))
      have zr : w2.heap.size + 1 < wr.heap.size := HJ.out.2.2.1
      have CL := Lib.hid (c_listOf (sumJ z1 z2 0 0 3) (sumJ z1 z2 0 1 3) (sumJ z1 z2 0 2 3) (sumJ z1 z2 1 0 3) (sumJ z1 z2 1 1 3) (sumJ z1 z2 1 2 3) (sumJ z1 z2 2 0 3) (sumJ z1 z2 2 1 3) (sumJ z1 z2 2 2 3) n0 n1 n2 n3 n4 n5 n6 n7 n8 wr (by intro x hx; simp only [List.mem_cons, List.not_mem_nil, or_false] at hx; rcases hx with rfl | rfl | rfl | rfl | rfl | rfl | rfl | rfl | rfl <;> exact sumJ_lt _ _ _ _))
      clear hb
      go_wp2_with fail
      refine CL.out.mono ?_
      rintro _ w9 ⟨a9, cap9, rfl, hl9, b9, o9⟩
      have B10 := Lib.hid (B9.out.trans (b9.mono (by omega)))
      have O9 := Lib.hid (o9.mono (B' := w.heap.size) (by omega))
      clear b9 o9 c0 c1 c2 c3 c4 c5 c6 c7 c8
      go_wp2_with fail
      go_ret2
      rw [HX.out]
      exact ⟨_, _, rfl, hl9, B10.out, O9.out⟩
/-! ### iLess -/
theorem c_iLess (a n b m c k d l : Nat) (w : World) (j : Nat) : Calls Try.prog 26 #[.float .f32 (pick .f32 a n), .float .f32 (pick .f32 b m), .float .f32 (pick .f32 c k), .float .f32 (pick .f32 d l)] (w.drewN j) (RetF .f32 (lessV a b c d) w) := by
  unfold lessV
  go_enter Try.func26, Try.ntmps26
  go_wp2_with (first | (refine wpList_fop rfl _ _ _ _ _ rfl _ _ _ rfl rfl (by decide) _ ?_; intro _ _) | (refine upon_fop _ _ _ _ _ (by decide) ?_; intro _ _))
  go_ret
  exact ⟨_, _, rfl, rfl⟩
theorem c_iLess0 (a n b m c k d l : Nat) (w : World) : Calls Try.prog 26 #[.float .f32 (pick .f32 a n), .float .f32 (pick .f32 b m), .float .f32 (pick .f32 c k), .float .f32 (pick .f32 d l)] w (RetF .f32 (lessV a b c d) w) := by
  have h := c_iLess a n b m c k d l w 0
  rwa [w.drewN_zero] at h
/-! ### iBackM -/
theorem c_iBackMatrix (zs : List Nat) (a : Option Addr) (c : Nat) (w : World) (hr : IsRowF .f32 w a zs.length c zs) : Calls Try.prog 15 #[.slice a zs.length c] w (RetL 46 (backM zs) w) := by
  have CM := Lib.hid (c_matrixOf zs a c w hr)
  obtain ⟨res, hres0⟩ : ∃ q, q = backM zs := ⟨_, rfl⟩
  rw [← hres0]
  have HR := Lib.hid hres0
  clear hres0 hr
  have hbuild : ∀ (x0 x1 x2 x3 x4 x5 x6 x7 x8 : Nat) (w : World), (Instr.build 46 #[(0, .float .f32 x0), (1, .float .f32 x1), (2, .float .f32 x2), (3, .float .f32 x3), (4, .float .f32 x4), (5, .float .f32 x5), (6, .float .f32 x6), (7, .float .f32 x7), (8, .float .f32 x8)]).run Try.prog w = .ok (.agg #[.float .f32 x0, .float .f32 x1, .float .f32 x2, .float .f32 x3, .float .f32 x4, .float .f32 x5, .float .f32 x6, .float .f32 x7, .float .f32 x8]) w := fun x0 x1 x2 x3 x4 x5 x6 x7 x8 w => run_build w 46 _ _ (by kernel_rfl)
  go_enter Try.func15, Try.ntmps15
  go_wp2_with fail
  refine CM.out.mono ?_
  rintro _ w1 ⟨z, m, rfl, hz, b1⟩
  have HZ := Lib.hid hz
  obtain ⟨N, hN⟩ : ∃ N, N = w1.alloc (.cells #[.float .f32 (pick .f32 (fat z 0) (m 0)), .float .f32 (pick .f32 (fat z 1) (m 1)), .float .f32 (pick .f32 (fat z 2) (m 2)), .float .f32 (pick .f32 (fat z 3) (m 3)), .float .f32 (pick .f32 (fat z 4) (m 4)), .float .f32 (pick .f32 (fat z 5) (m 5)), .float .f32 (pick .f32 (fat z 6) (m 6)), .float .f32 (pick .f32 (fat z 7) (m 7)), .float .f32 (pick .f32 (fat z 8) (m 8))] 46) := ⟨_, rfl⟩
  have VN := hN ▸ Var.new w1 #[.float .f32 (pick .f32 (fat z 0) (m 0)), .float .f32 (pick .f32 (fat z 1) (m 1)), .float .f32 (pick .f32 (fat z 2) (m 2)), .float .f32 (pick .f32 (fat z 3) (m 3)), .float .f32 (pick .f32 (fat z 4) (m 4)), .float .f32 (pick .f32 (fat z 5) (m 5)), .float .f32 (pick .f32 (fat z 6) (m 6)), .float .f32 (pick .f32 (fat z 7) (m 7)), .float .f32 (pick .f32 (fat z 8) (m 8))] 46
  have B3 := Lib.hid (b1.trans (show Below w.heap.size w1 N from hN ▸ (Below.refl _ _).alloc b1.size _))
  have HN := Lib.hid hN.symm
  have KS := Lib.hid (fun (w' : World) (hE : Below N.heap.size N w') => (⟨(VN.keep hE).2 0 (by simp), (VN.keep hE).2 1 (by simp), (VN.keep hE).2 2 (by simp), (VN.keep hE).2 3 (by simp), (VN.keep hE).2 4 (by simp), (VN.keep hE).2 5 (by simp), (VN.keep hE).2 6 (by simp), (VN.keep hE).2 7 (by simp), (VN.keep hE).2 8 (by simp)⟩ : w'.cell? ⟨w1.heap.size, 0, none⟩ = some (.float .f32 (pick .f32 (fat z 0) (m 0))) ∧ w'.cell? ⟨w1.heap.size, 1, none⟩ = some (.float .f32 (pick .f32 (fat z 1) (m 1))) ∧ w'.cell? ⟨w1.heap.size, 2, none⟩ = some (.float .f32 (pick .f32 (fat z 2) (m 2))) ∧ w'.cell? ⟨w1.heap.size, 3, none⟩ = some (.float .f32 (pick .f32 (fat z 3) (m 3))) ∧ w'.cell? ⟨w1.heap.size, 4, none⟩ = some (.float .f32 (pick .f32 (fat z 4) (m 4))) ∧ w'.cell? ⟨w1.heap.size, 5, none⟩ = some (.float .f32 (pick .f32 (fat z 5) (m 5))) ∧ w'.cell? ⟨w1.heap.size, 6, none⟩ = some (.float .f32 (pick .f32 (fat z 6) (m 6))) ∧ w'.cell? ⟨w1.heap.size, 7, none⟩ = some (.float .f32 (pick .f32 (fat z 7) (m 7))) ∧ w'.cell? ⟨w1.heap.size, 8, none⟩ = some (.float .f32 (pick .f32 (fat z 8) (m 8)))))
  clear b1 hz VN hN
  go_wp2_with fail
  rw [HN.out]
  refine wp_region_facts 9 (fun a b => Below a.heap.size a b) (fun _ => Below.refl _ _) (fun _ _ _ h h' => h.trans (h'.mono h.size)) (Below.refl _ _).drew (by kernel_rfl) (by kernel_rfl) (by kernel_rfl) (by kernel_rfl) ?_
  simp only [List.take_succ_cons, List.take_zero, List.drop_succ_cons, List.drop_zero]
  (with_reducible apply wpF_val); (focus (intro vs w' hE hk; (obtain ⟨d0, d1, d2, d3, d4, d5, d6, d7, d8⟩ := KS.out w' hE); go_simp; exact ⟨Below.refl _ _, rfl⟩)); (simp only [Act.put, List.setIfInBounds_toArray, List.set_cons_zero, List.set_cons_succ, List.cons_append, List.nil_append])
  (with_reducible apply wpF_val); (focus (intro vs w' hE hk; (obtain ⟨d0, d1, d2, d3, d4, d5, d6, d7, d8⟩ := KS.out w' hE); go_simp; exact ⟨Below.refl _ _, rfl⟩)); (simp only [Act.put, List.setIfInBounds_toArray, List.set_cons_zero, List.set_cons_succ, List.cons_append, List.nil_append])
  (with_reducible apply wpF_val); (focus (intro vs w' hE hk; (obtain ⟨d0, d1, d2, d3, d4, d5, d6, d7, d8⟩ := KS.out w' hE); go_simp; exact ⟨Below.refl _ _, rfl⟩)); (simp only [Act.put, List.setIfInBounds_toArray, List.set_cons_zero, List.set_cons_succ, List.cons_append, List.nil_append])
  (with_reducible apply wpF_val); (focus (intro vs w' hE hk; (obtain ⟨d0, d1, d2, d3, d4, d5, d6, d7, d8⟩ := KS.out w' hE); go_simp; exact ⟨Below.refl _ _, rfl⟩)); (simp only [Act.put, List.setIfInBounds_toArray, List.set_cons_zero, List.set_cons_succ, List.cons_append, List.nil_append])
  (with_reducible apply wpF_val); (focus (intro vs w' hE hk; (obtain ⟨d0, d1, d2, d3, d4, d5, d6, d7, d8⟩ := KS.out w' hE); go_simp; exact ⟨Below.refl _ _, rfl⟩)); (simp only [Act.put, List.setIfInBounds_toArray, List.set_cons_zero, List.set_cons_succ, List.cons_append, List.nil_append])
  (with_reducible apply wpF_val); (focus (intro vs w' hE hk; (obtain ⟨d0, d1, d2, d3, d4, d5, d6, d7, d8⟩ := KS.out w' hE); go_simp; exact ⟨Below.refl _ _, rfl⟩)); (simp only [Act.put, List.setIfInBounds_toArray, List.set_cons_zero, List.set_cons_succ, List.cons_append, List.nil_append])
  (with_reducible apply wpF_val); (focus (intro vs w' hE hk; (obtain ⟨d0, d1, d2, d3, d4, d5, d6, d7, d8⟩ := KS.out w' hE); go_simp; exact ⟨Below.refl _ _, rfl⟩)); (simp only [Act.put, List.setIfInBounds_toArray, List.set_cons_zero, List.set_cons_succ, List.cons_append, List.nil_append])
  (with_reducible apply wpF_val); (focus (intro vs w' hE hk; (obtain ⟨d0, d1, d2, d3, d4, d5, d6, d7, d8⟩ := KS.out w' hE); go_simp; exact ⟨Below.refl _ _, rfl⟩)); (simp only [Act.put, List.setIfInBounds_toArray, List.set_cons_zero, List.set_cons_succ, List.cons_append, List.nil_append])
  (with_reducible apply wpF_val); (focus (intro vs w' hE hk; (obtain ⟨d0, d1, d2, d3, d4, d5, d6, d7, d8⟩ := KS.out w' hE); go_simp; exact ⟨Below.refl _ _, rfl⟩)); (simp only [Act.put, List.setIfInBounds_toArray, List.set_cons_zero, List.set_cons_succ, List.cons_append, List.nil_append])
  refine wpF_nil (fun vs u0 hE hk => ?_)
  have BE0 := Lib.hid (hE)
  clear hE hk
  go_wp2_with fail
  refine wp_region_facts 9 (fun a b => Below a.heap.size a b) (fun _ => Below.refl _ _) (fun _ _ _ h h' => h.trans (h'.mono h.size)) (Below.refl _ _).drew (by kernel_rfl) (by kernel_rfl) (by kernel_rfl) (by kernel_rfl) ?_
  simp only [List.take_succ_cons, List.take_zero, List.drop_succ_cons, List.drop_zero]
  (with_reducible apply wpF_val); (focus (intro vs w' hE hk; (obtain ⟨d0, d1, d2, d3, d4, d5, d6, d7, d8⟩ := KS.out w' (BE0.out.trans (hE.mono BE0.out.size))); go_simp; exact ⟨Below.refl _ _, rfl⟩)); (simp only [Act.put, List.setIfInBounds_toArray, List.set_cons_zero, List.set_cons_succ, List.cons_append, List.nil_append])
  (with_reducible apply wpF_val); (focus (intro vs w' hE hk; (obtain ⟨d0, d1, d2, d3, d4, d5, d6, d7, d8⟩ := KS.out w' (BE0.out.trans (hE.mono BE0.out.size))); go_simp; exact ⟨Below.refl _ _, rfl⟩)); (simp only [Act.put, List.setIfInBounds_toArray, List.set_cons_zero, List.set_cons_succ, List.cons_append, List.nil_append])
  (with_reducible apply wpF_val); (focus (intro vs w' hE hk; (obtain ⟨d0, d1, d2, d3, d4, d5, d6, d7, d8⟩ := KS.out w' (BE0.out.trans (hE.mono BE0.out.size))); go_simp; exact ⟨Below.refl _ _, rfl⟩)); (simp only [Act.put, List.setIfInBounds_toArray, List.set_cons_zero, List.set_cons_succ, List.cons_append, List.nil_append])
  (with_reducible apply wpF_val); (focus (intro vs w' hE hk; (obtain ⟨d0, d1, d2, d3, d4, d5, d6, d7, d8⟩ := KS.out w' (BE0.out.trans (hE.mono BE0.out.size))); go_simp; exact ⟨Below.refl _ _, rfl⟩)); (simp only [Act.put, List.setIfInBounds_toArray, List.set_cons_zero, List.set_cons_succ, List.cons_append, List.nil_append])
  (with_reducible apply wpF_val); (focus (intro vs w' hE hk; (obtain ⟨d0, d1, d2, d3, d4, d5, d6, d7, d8⟩ := KS.out w' (BE0.out.trans (hE.mono BE0.out.size))); go_simp; exact ⟨Below.refl _ _, rfl⟩)); (simp only [Act.put, List.setIfInBounds_toArray, List.set_cons_zero, List.set_cons_succ, List.cons_append, List.nil_append])
  (with_reducible apply wpF_val); (focus (intro vs w' hE hk; (obtain ⟨d0, d1, d2, d3, d4, d5, d6, d7, d8⟩ := KS.out w' (BE0.out.trans (hE.mono BE0.out.size))); go_simp; exact ⟨Below.refl _ _, rfl⟩)); (simp only [Act.put, List.setIfInBounds_toArray, List.set_cons_zero, List.set_cons_succ, List.cons_append, List.nil_append])
  (with_reducible apply wpF_val); (focus (intro vs w' hE hk; (obtain ⟨d0, d1, d2, d3, d4, d5, d6, d7, d8⟩ := KS.out w' (BE0.out.trans (hE.mono BE0.out.size))); go_simp; exact ⟨Below.refl _ _, rfl⟩)); (simp only [Act.put, List.setIfInBounds_toArray, List.set_cons_zero, List.set_cons_succ, List.cons_append, List.nil_append])
  (with_reducible apply wpF_val); (focus (intro vs w' hE hk; (obtain ⟨d0, d1, d2, d3, d4, d5, d6, d7, d8⟩ := KS.out w' (BE0.out.trans (hE.mono BE0.out.size))); go_simp; exact ⟨Below.refl _ _, rfl⟩)); (simp only [Act.put, List.setIfInBounds_toArray, List.set_cons_zero, List.set_cons_succ, List.cons_append, List.nil_append])
  (with_reducible apply wpF_val); (focus (intro vs w' hE hk; (obtain ⟨d0, d1, d2, d3, d4, d5, d6, d7, d8⟩ := KS.out w' (BE0.out.trans (hE.mono BE0.out.size))); go_simp; exact ⟨Below.refl _ _, rfl⟩)); (simp only [Act.put, List.setIfInBounds_toArray, List.set_cons_zero, List.set_cons_succ, List.cons_append, List.nil_append])
  refine wpF_nil (fun vs u1 hE hk => ?_)
  have BE1 := Lib.hid ((BE0.out.trans (hE.mono BE0.out.size)))
  clear hE hk
  go_wp2_with fail
  refine wp_region_facts 9 (fun a b => Below a.heap.size a b) (fun _ => Below.refl _ _) (fun _ _ _ h h' => h.trans (h'.mono h.size)) (Below.refl _ _).drew (by kernel_rfl) (by kernel_rfl) (by kernel_rfl) (by kernel_rfl) ?_
  simp only [List.take_succ_cons, List.take_zero, List.drop_succ_cons, List.drop_zero]
  (with_reducible apply wpF_val); (focus (intro vs w' hE hk; (obtain ⟨d0, d1, d2, d3, d4, d5, d6, d7, d8⟩ := KS.out w' (BE1.out.trans (hE.mono BE1.out.size))); go_simp; exact ⟨Below.refl _ _, rfl⟩)); (simp only [Act.put, List.setIfInBounds_toArray, List.set_cons_zero, List.set_cons_succ, List.cons_append, List.nil_append])
  (with_reducible apply wpF_val); (focus (intro vs w' hE hk; (obtain ⟨d0, d1, d2, d3, d4, d5, d6, d7, d8⟩ := KS.out w' (BE1.out.trans (hE.mono BE1.out.size))); go_simp; exact ⟨Below.refl _ _, rfl⟩)); (simp only [Act.put, List.setIfInBounds_toArray, List.set_cons_zero, List.set_cons_succ, List.cons_append, List.nil_append])
  (with_reducible apply wpF_val); (focus (intro vs w' hE hk; (obtain ⟨d0, d1, d2, d3, d4, d5, d6, d7, d8⟩ := KS.out w' (BE1.out.trans (hE.mono BE1.out.size))); go_simp; exact ⟨Below.refl _ _, rfl⟩)); (simp only [Act.put, List.setIfInBounds_toArray, List.set_cons_zero, List.set_cons_succ, List.cons_append, List.nil_append])
  (with_reducible apply wpF_val); (focus (intro vs w' hE hk; (obtain ⟨d0, d1, d2, d3, d4, d5, d6, d7, d8⟩ := KS.out w' (BE1.out.trans (hE.mono BE1.out.size))); go_simp; exact ⟨Below.refl _ _, rfl⟩)); (simp only [Act.put, List.setIfInBounds_toArray, List.set_cons_zero, List.set_cons_succ, List.cons_append, List.nil_append])
  (with_reducible apply wpF_val); (focus (intro vs w' hE hk; (obtain ⟨d0, d1, d2, d3, d4, d5, d6, d7, d8⟩ := KS.out w' (BE1.out.trans (hE.mono BE1.out.size))); go_simp; exact ⟨Below.refl _ _, rfl⟩)); (simp only [Act.put, List.setIfInBounds_toArray, List.set_cons_zero, List.set_cons_succ, List.cons_append, List.nil_append])
  (with_reducible apply wpF_val); (focus (intro vs w' hE hk; (obtain ⟨d0, d1, d2, d3, d4, d5, d6, d7, d8⟩ := KS.out w' (BE1.out.trans (hE.mono BE1.out.size))); go_simp; exact ⟨Below.refl _ _, rfl⟩)); (simp only [Act.put, List.setIfInBounds_toArray, List.set_cons_zero, List.set_cons_succ, List.cons_append, List.nil_append])
  (with_reducible apply wpF_val); (focus (intro vs w' hE hk; (obtain ⟨d0, d1, d2, d3, d4, d5, d6, d7, d8⟩ := KS.out w' (BE1.out.trans (hE.mono BE1.out.size))); go_simp; exact ⟨Below.refl _ _, rfl⟩)); (simp only [Act.put, List.setIfInBounds_toArray, List.set_cons_zero, List.set_cons_succ, List.cons_append, List.nil_append])
  (with_reducible apply wpF_val); (focus (intro vs w' hE hk; (obtain ⟨d0, d1, d2, d3, d4, d5, d6, d7, d8⟩ := KS.out w' (BE1.out.trans (hE.mono BE1.out.size))); go_simp; exact ⟨Below.refl _ _, rfl⟩)); (simp only [Act.put, List.setIfInBounds_toArray, List.set_cons_zero, List.set_cons_succ, List.cons_append, List.nil_append])
  (with_reducible apply wpF_val); (focus (intro vs w' hE hk; (obtain ⟨d0, d1, d2, d3, d4, d5, d6, d7, d8⟩ := KS.out w' (BE1.out.trans (hE.mono BE1.out.size))); go_simp; exact ⟨Below.refl _ _, rfl⟩)); (simp only [Act.put, List.setIfInBounds_toArray, List.set_cons_zero, List.set_cons_succ, List.cons_append, List.nil_append])
  refine wpF_nil (fun vs u2 hE hk => ?_)
  have BE2 := Lib.hid (BE1.out.trans (hE.mono BE1.out.size))
  clear hE hk
  have B4 := Lib.hid (B3.out.trans (BE2.out.mono B3.out.size))
  clear BE0 BE1 BE2 KS HN
  rw [← u2.drewN_zero]
  obtain ⟨P, hP⟩ : ∃ P, P = lessV (fat z 4) (fat z 8) (fat z 5) (fat z 7) := ⟨_, rfl⟩
  obtain ⟨Q, hQ⟩ : ∃ Q, Q = lessV (fat z 5) (fat z 6) (fat z 3) (fat z 8) := ⟨_, rfl⟩
  obtain ⟨R, hR⟩ : ∃ R, R = lessV (fat z 3) (fat z 7) (fat z 4) (fat z 6) := ⟨_, rfl⟩
  have CP := Lib.hid (fun n1 n2 n3 n4 j => (hP ▸ c_iLess (fat z 4) n1 (fat z 8) n2 (fat z 5) n3 (fat z 7) n4 u2 j : Calls Try.prog 26 #[.float .f32 (pick .f32 (fat z 4) n1), .float .f32 (pick .f32 (fat z 8) n2), .float .f32 (pick .f32 (fat z 5) n3), .float .f32 (pick .f32 (fat z 7) n4)] (u2.drewN j) (RetF .f32 P u2)))
  have CQ := Lib.hid (fun n1 n2 n3 n4 j => (hQ ▸ c_iLess (fat z 5) n1 (fat z 6) n2 (fat z 3) n3 (fat z 8) n4 u2 j : Calls Try.prog 26 #[.float .f32 (pick .f32 (fat z 5) n1), .float .f32 (pick .f32 (fat z 6) n2), .float .f32 (pick .f32 (fat z 3) n3), .float .f32 (pick .f32 (fat z 8) n4)] (u2.drewN j) (RetF .f32 Q u2)))
  have CR := Lib.hid (fun n1 n2 n3 n4 j => (hR ▸ c_iLess (fat z 3) n1 (fat z 7) n2 (fat z 4) n3 (fat z 6) n4 u2 j : Calls Try.prog 26 #[.float .f32 (pick .f32 (fat z 3) n1), .float .f32 (pick .f32 (fat z 7) n2), .float .f32 (pick .f32 (fat z 4) n3), .float .f32 (pick .f32 (fat z 6) n4)] (u2.drewN j) (RetF .f32 R u2)))
  have hS : backDet z = fop .add .f32 (fop .add .f32 (fop .mul .f32 (fat z 0) P) (fop .mul .f32 (fat z 1) Q)) (fop .mul .f32 (fat z 2) R) := by unfold backDet backS; rw [hP, hQ, hR]
  have HS := Lib.hid hS
  have HP := Lib.hid hP
  have HQ := Lib.hid hQ
  have HRr := Lib.hid hR
  clear hS hP hQ hR
  cases hm : matB zs
  · have HX := Lib.hid (HR.out.trans (backM_no (.inl hm)))
    clear hm
    go_wp2_with (first | (first | (refine wpList_fop rfl _ _ _ _ _ rfl _ _ _ rfl rfl (by decide) _ ?_; intro _ _) | (refine upon_fop _ _ _ _ _ (by decide) ?_; intro _ _)) | (go_at_call 26; first | ((with_reducible refine (CP.out _ _ _ _ _).mono ?_); rintro _ _ ⟨_, _, rfl, rfl⟩) | ((with_reducible refine (CQ.out _ _ _ _ _).mono ?_); rintro _ _ ⟨_, _, rfl, rfl⟩) | ((with_reducible refine (CR.out _ _ _ _ _).mono ?_); rintro _ _ ⟨_, _, rfl, rfl⟩)))
    go_ret2
    rw [HX.out]
    exact RetL.no rfl (below_drewN B4.out _)
  obtain rfl : z = zs := HZ.out hm
  cases hd : (FloatKind.f32.format.order (fop .add .f32 (fop .add .f32 (fop .mul .f32 (fat z 0) P) (fop .mul .f32 (fat z 1) Q)) (fop .mul .f32 (fat z 2) R)) 0 == some .eq)
  case true =>
    have HX := Lib.hid (HR.out.trans (backM_no (.inr (by rw [HS.out]; exact hd))))
    clear hm
    go_wp2_with (first | (first | (refine wpList_fop rfl _ _ _ _ _ rfl _ _ _ rfl rfl (by decide) _ ?_; intro _ _) | (refine upon_fop _ _ _ _ _ (by decide) ?_; intro _ _)) | (go_at_call 26; first | ((with_reducible refine (CP.out _ _ _ _ _).mono ?_); rintro _ _ ⟨_, _, rfl, rfl⟩) | ((with_reducible refine (CQ.out _ _ _ _ _).mono ?_); rintro _ _ ⟨_, _, rfl, rfl⟩) | ((with_reducible refine (CR.out _ _ _ _ _).mono ?_); rintro _ _ ⟨_, _, rfl, rfl⟩)))
    go_ret2
    rw [HX.out]
    exact RetL.no rfl (below_drewN B4.out _)
  have HX := Lib.hid (show res = listR [fop .quo .f32 (P) (fop .add .f32 (fop .add .f32 (fop .mul .f32 (fat z 0) P) (fop .mul .f32 (fat z 1) Q)) (fop .mul .f32 (fat z 2) R)), fop .quo .f32 (lessV (fat z 2) (fat z 7) (fat z 1) (fat z 8)) (fop .add .f32 (fop .add .f32 (fop .mul .f32 (fat z 0) P) (fop .mul .f32 (fat z 1) Q)) (fop .mul .f32 (fat z 2) R)), fop .quo .f32 (lessV (fat z 1) (fat z 5) (fat z 2) (fat z 4)) (fop .add .f32 (fop .add .f32 (fop .mul .f32 (fat z 0) P) (fop .mul .f32 (fat z 1) Q)) (fop .mul .f32 (fat z 2) R)), fop .quo .f32 (Q) (fop .add .f32 (fop .add .f32 (fop .mul .f32 (fat z 0) P) (fop .mul .f32 (fat z 1) Q)) (fop .mul .f32 (fat z 2) R)), fop .quo .f32 (lessV (fat z 0) (fat z 8) (fat z 2) (fat z 6)) (fop .add .f32 (fop .add .f32 (fop .mul .f32 (fat z 0) P) (fop .mul .f32 (fat z 1) Q)) (fop .mul .f32 (fat z 2) R)), fop .quo .f32 (lessV (fat z 2) (fat z 3) (fat z 0) (fat z 5)) (fop .add .f32 (fop .add .f32 (fop .mul .f32 (fat z 0) P) (fop .mul .f32 (fat z 1) Q)) (fop .mul .f32 (fat z 2) R)), fop .quo .f32 (R) (fop .add .f32 (fop .add .f32 (fop .mul .f32 (fat z 0) P) (fop .mul .f32 (fat z 1) Q)) (fop .mul .f32 (fat z 2) R)), fop .quo .f32 (lessV (fat z 1) (fat z 6) (fat z 0) (fat z 7)) (fop .add .f32 (fop .add .f32 (fop .mul .f32 (fat z 0) P) (fop .mul .f32 (fat z 1) Q)) (fop .mul .f32 (fat z 2) R)), fop .quo .f32 (lessV (fat z 0) (fat z 4) (fat z 1) (fat z 3)) (fop .add .f32 (fop .add .f32 (fop .mul .f32 (fat z 0) P) (fop .mul .f32 (fat z 1) Q)) (fop .mul .f32 (fat z 2) R))] by rw [HR.out]; unfold backM; rw [hm, HS.out, hd]; simp only [Bool.not_false, Bool.and_true, if_true]; unfold backL; rw [HS.out, HP.out, HQ.out, HRr.out])
  have C1 := Lib.hid (fun n1 n2 n3 n4 j => c_iLess (fat z 2) n1 (fat z 7) n2 (fat z 1) n3 (fat z 8) n4 u2 j)
  have C2 := Lib.hid (fun n1 n2 n3 n4 j => c_iLess (fat z 1) n1 (fat z 5) n2 (fat z 2) n3 (fat z 4) n4 u2 j)
  have C4 := Lib.hid (fun n1 n2 n3 n4 j => c_iLess (fat z 0) n1 (fat z 8) n2 (fat z 2) n3 (fat z 6) n4 u2 j)
  have C5 := Lib.hid (fun n1 n2 n3 n4 j => c_iLess (fat z 2) n1 (fat z 3) n2 (fat z 0) n3 (fat z 5) n4 u2 j)
  have C7 := Lib.hid (fun n1 n2 n3 n4 j => c_iLess (fat z 1) n1 (fat z 6) n2 (fat z 0) n3 (fat z 7) n4 u2 j)
  have C8 := Lib.hid (fun n1 n2 n3 n4 j => c_iLess (fat z 0) n1 (fat z 4) n2 (fat z 1) n3 (fat z 3) n4 u2 j)
  have CL := Lib.hid (fun (k0 k1 k2 k3 k4 k5 k6 k7 k8 : Nat) (w : World) => c_listOf (fop .quo .f32 (P) (fop .add .f32 (fop .add .f32 (fop .mul .f32 (fat z 0) P) (fop .mul .f32 (fat z 1) Q)) (fop .mul .f32 (fat z 2) R))) (fop .quo .f32 (lessV (fat z 2) (fat z 7) (fat z 1) (fat z 8)) (fop .add .f32 (fop .add .f32 (fop .mul .f32 (fat z 0) P) (fop .mul .f32 (fat z 1) Q)) (fop .mul .f32 (fat z 2) R))) (fop .quo .f32 (lessV (fat z 1) (fat z 5) (fat z 2) (fat z 4)) (fop .add .f32 (fop .add .f32 (fop .mul .f32 (fat z 0) P) (fop .mul .f32 (fat z 1) Q)) (fop .mul .f32 (fat z 2) R))) (fop .quo .f32 (Q) (fop .add .f32 (fop .add .f32 (fop .mul .f32 (fat z 0) P) (fop .mul .f32 (fat z 1) Q)) (fop .mul .f32 (fat z 2) R))) (fop .quo .f32 (lessV (fat z 0) (fat z 8) (fat z 2) (fat z 6)) (fop .add .f32 (fop .add .f32 (fop .mul .f32 (fat z 0) P) (fop .mul .f32 (fat z 1) Q)) (fop .mul .f32 (fat z 2) R))) (fop .quo .f32 (lessV (fat z 2) (fat z 3) (fat z 0) (fat z 5)) (fop .add .f32 (fop .add .f32 (fop .mul .f32 (fat z 0) P) (fop .mul .f32 (fat z 1) Q)) (fop .mul .f32 (fat z 2) R))) (fop .quo .f32 (R) (fop .add .f32 (fop .add .f32 (fop .mul .f32 (fat z 0) P) (fop .mul .f32 (fat z 1) Q)) (fop .mul .f32 (fat z 2) R))) (fop .quo .f32 (lessV (fat z 1) (fat z 6) (fat z 0) (fat z 7)) (fop .add .f32 (fop .add .f32 (fop .mul .f32 (fat z 0) P) (fop .mul .f32 (fat z 1) Q)) (fop .mul .f32 (fat z 2) R))) (fop .quo .f32 (lessV (fat z 0) (fat z 4) (fat z 1) (fat z 3)) (fop .add .f32 (fop .add .f32 (fop .mul .f32 (fat z 0) P) (fop .mul .f32 (fat z 1) Q)) (fop .mul .f32 (fat z 2) R))) k0 k1 k2 k3 k4 k5 k6 k7 k8 w (by intro x hx; simp only [List.mem_cons, List.not_mem_nil, or_false] at hx; rcases hx with rfl | rfl | rfl | rfl | rfl | rfl | rfl | rfl | rfl <;> exact fop_lt _ _ _ _))
  clear hm HS HP HQ HRr HR HZ CM
  go_wp2_with (first | (first | (refine wpList_fop rfl _ _ _ _ _ rfl _ _ _ rfl rfl (by decide) _ ?_; intro _ _) | (refine upon_fop _ _ _ _ _ (by decide) ?_; intro _ _)) | (go_at_call 26; first | ((with_reducible refine (CP.out _ _ _ _ _).mono ?_); rintro _ _ ⟨_, _, rfl, rfl⟩) | ((with_reducible refine (CQ.out _ _ _ _ _).mono ?_); rintro _ _ ⟨_, _, rfl, rfl⟩) | ((with_reducible refine (CR.out _ _ _ _ _).mono ?_); rintro _ _ ⟨_, _, rfl, rfl⟩) | ((with_reducible refine (C1.out _ _ _ _ _).mono ?_); rintro _ _ ⟨_, _, rfl, rfl⟩) | ((with_reducible refine (C2.out _ _ _ _ _).mono ?_); rintro _ _ ⟨_, _, rfl, rfl⟩) | ((with_reducible refine (C4.out _ _ _ _ _).mono ?_); rintro _ _ ⟨_, _, rfl, rfl⟩) | ((with_reducible refine (C5.out _ _ _ _ _).mono ?_); rintro _ _ ⟨_, _, rfl, rfl⟩) | ((with_reducible refine (C7.out _ _ _ _ _).mono ?_); rintro _ _ ⟨_, _, rfl, rfl⟩) | ((with_reducible refine (C8.out _ _ _ _ _).mono ?_); rintro _ _ ⟨_, _, rfl, rfl⟩)))
  refine (CL.out _ _ _ _ _ _ _ _ _ _).mono ?_
  rintro _ w9 ⟨a9, cap9, rfl, hl9, b9, o9⟩
  have B9 := Lib.hid ((below_drewN B4.out _).trans (b9.mono (by have := B4.out.size; simpa using this)))
  have O9 := Lib.hid (o9.mono (B' := w.heap.size) (by have := B4.out.size; simpa using this))
  clear b9 o9
  go_wp2_with fail
  go_ret2
  rw [HX.out]
  exact ⟨_, _, rfl, hl9, B9.out, O9.out⟩
/-! ### iWhiteM -/
theorem c_iWhiteMatrix (zs : List Nat) (a : Option Addr) (c : Nat) (rf nrf gf ngf bf nbf rt nrt gt ngt bt nbt : Nat) (w : World) (rA : IsRowF .f32 w a zs.length c zs) (hrf : rf < 2 ^ FloatKind.f32.format.width) (hgf : gf < 2 ^ FloatKind.f32.format.width) (hbf : bf < 2 ^ FloatKind.f32.format.width) (hrt : rt < 2 ^ FloatKind.f32.format.width) (hgt : gt < 2 ^ FloatKind.f32.format.width) (hbt : bt < 2 ^ FloatKind.f32.format.width) : Calls Try.prog 7 #[.slice a zs.length c, .agg #[.float .f32 (pick .f32 rf nrf), .float .f32 (pick .f32 gf ngf), .float .f32 (pick .f32 bf nbf)], .agg #[.float .f32 (pick .f32 rt nrt), .float .f32 (pick .f32 gt ngt), .float .f32 (pick .f32 bt nbt)]] w (RetL 46 (whiteM zs rf gf bf rt gt bt) w) := by
  generalize hw0 : (w.alloc (Obj.cells #[.float .f32 (pick .f32 rf nrf), .float .f32 (pick .f32 gf ngf), .float .f32 (pick .f32 bf nbf)] 29)).alloc (Obj.cells #[.float .f32 (pick .f32 rt nrt), .float .f32 (pick .f32 gt ngt), .float .f32 (pick .f32 bt nbt)] 29) = w0
  have X1 : Var w0 (w.heap.size + 1) #[.float .f32 (pick .f32 rt nrt), .float .f32 (pick .f32 gt ngt), .float .f32 (pick .f32 bt nbt)] := by subst hw0; exact Var.new' _ _ _ _ (by simp)
  have X3 : Below w.heap.size w w0 := by subst hw0; exact ((Below.refl _ _).alloc (Nat.le_refl _) _).alloc (by simp) _
  have HW := Lib.hid hw0
  have V1 := Lib.hid X1
  have B0 := Lib.hid X3
  have z0 : w.heap.size + 1 < w0.heap.size := X1.lt
  have R0 := Lib.hid (rA.below X3)
  obtain ⟨res, hres0⟩ : ∃ q, q = whiteM zs rf gf bf rt gt bt := ⟨_, rfl⟩
  rw [← hres0]
  have CU := fun (w : World) (q : IsRowF .f32 w a zs.length c zs) => c_iTurnColor zs a c rf nrf gf ngf bf nbf w q hrf hgf hbf
  have CV := fun (w : World) (q : IsRowF .f32 w a zs.length c zs) => c_iTurnColor zs a c rt nrt gt ngt bt nbt w q hrt hgt hbt
  have CBk := Lib.hid (fun (w : World) (q : IsRowF .f32 w a zs.length c zs) => c_iBackMatrix zs a c w q)
  unfold whiteM at hres0
  generalize turnC zs rf gf bf = U at *
  generalize turnC zs rt gt bt = V at *
  obtain ⟨⟨u0, u1, u2⟩, uo⟩ := U
  obtain ⟨⟨v0, v1, v2⟩, vo⟩ := V
  simp only [zB] at hres0
  have HR := Lib.hid hres0
  have CU := Lib.hid CU
  have CV := Lib.hid CV
  clear hw0 X1 X3 rA hres0
  go_enter Try.func7, Try.ntmps7
  go_wp2_with fail
  rw [HW.out]
  refine (CU.out w0 R0.out).mono ?_
  rintro _ w1 ⟨k0, k1, k2, rfl, b1⟩
  simp only
  have V2 := V1.out.keep b1
  have B1 := Lib.hid (B0.out.trans (b1.mono (by omega)))
  have R1 := R0.out.below b1
  have z1 : w0.heap.size ≤ w1.heap.size := b1.size
  obtain ⟨M, hM⟩ : ∃ M, M = w1.alloc (.cells #[.float .f32 (pick .f32 u0 k0), .float .f32 (pick .f32 u1 k1), .float .f32 (pick .f32 u2 k2)] 29) := ⟨_, rfl⟩
  have VM := hM ▸ Var.new w1 #[.float .f32 (pick .f32 u0 k0), .float .f32 (pick .f32 u1 k1), .float .f32 (pick .f32 u2 k2)] 29
  have E1 : Below w1.heap.size w1 M := hM ▸ (Below.refl _ _).alloc (Nat.le_refl _) _
  obtain ⟨c0, c1, c2⟩ := (V2.keep E1).three
  rw [hM] at c0 c1 c2
  have UM := Lib.hid VM
  have B2 := Lib.hid (B1.out.trans (E1.mono (by omega)))
  have R2 := Lib.hid (R1.below E1)
  have zM : w1.heap.size < M.heap.size := VM.lt
  have HM := Lib.hid hM.symm
  clear b1 V2 R1 VM E1 hM
  go_wp2_with fail
  rw [HM.out]
  clear c0 c1 c2 HM
  refine (CV.out M R2.out).mono ?_
  rintro _ w2 ⟨l0, l1, l2, rfl, b2⟩
  simp only
  have U2 := UM.out.keep b2
  have B3 := Lib.hid (B2.out.trans (b2.mono (by omega)))
  have R3 := R2.out.below b2
  have z2 : M.heap.size ≤ w2.heap.size := b2.size
  obtain ⟨N, hN⟩ : ∃ N, N = w2.alloc (.cells #[.float .f32 (pick .f32 v0 l0), .float .f32 (pick .f32 v1 l1), .float .f32 (pick .f32 v2 l2)] 29) := ⟨_, rfl⟩
  have VN := hN ▸ Var.new w2 #[.float .f32 (pick .f32 v0 l0), .float .f32 (pick .f32 v1 l1), .float .f32 (pick .f32 v2 l2)] 29
  have E2 : Below w2.heap.size w2 N := hN ▸ (Below.refl _ _).alloc (Nat.le_refl _) _
  have UN := Lib.hid VN
  have U4 := Lib.hid (U2.keep E2)
  have B4 := Lib.hid (B3.out.trans (E2.mono (by omega)))
  have R4 := Lib.hid (R3.below E2)
  have zN : w2.heap.size < N.heap.size := VN.lt
  have HN := Lib.hid hN.symm
  have sN : N.heap.size = w2.heap.size + 1 := by rw [hN]; simp
  obtain ⟨d0, d1, d2⟩ := U4.out.three
  obtain ⟨e0, e1, e2⟩ := UN.out.three
  rw [hN] at d0 d1 d2 e0 e1 e2
  have BN := Lib.hid (show Below w.heap.size w (w2.alloc (.cells #[.float .f32 (pick .f32 v0 l0), .float .f32 (pick .f32 v1 l1), .float .f32 (pick .f32 v2 l2)] 29)) from hN ▸ B4.out)
  clear b2 U2 R3 VN E2 hN
  cases uo
  · have HX := Lib.hid (show res = ([], false) by rw [HR.out]; rfl)
    go_wp2_with fail
    go_ret2
    rw [HX.out]
    exact RetL.no rfl BN.out
  cases vo
  · have HX := Lib.hid (show res = ([], false) by rw [HR.out]; rfl)
    go_wp2_with fail
    go_ret2
    rw [HX.out]
    exact RetL.no rfl BN.out
  cases y0 : (FloatKind.f32.format.order u0 0 == some .eq)
  case true =>
    have HX := Lib.hid (show res = ([], false) by rw [HR.out, y0]; rfl)
    go_wp2_with fail
    go_ret2
    rw [HX.out]
    exact RetL.no rfl BN.out
  cases y1 : (FloatKind.f32.format.order u1 0 == some .eq)
  case true =>
    have HX := Lib.hid (show res = ([], false) by rw [HR.out, y0, y1]; rfl)
    go_wp2_with fail
    go_ret2
    rw [HX.out]
    exact RetL.no rfl BN.out
  cases y2 : (FloatKind.f32.format.order u2 0 == some .eq)
  case true =>
    have HX := Lib.hid (show res = ([], false) by rw [HR.out, y0, y1, y2]; rfl)
    go_wp2_with fail
    go_ret2
    rw [HX.out]
    exact RetL.no rfl BN.out
  have HX := Lib.hid (show res = joinM (backM zs).1 (joinM (midL (u0, u1, u2) (v0, v1, v2)) zs).1 by rw [HR.out, y0, y1, y2]; rfl)
  clear HR
  go_wp2_with fail
  rw [HN.out]
  refine (CBk.out N R4.out).mono ?_
  rintro _ w3 ⟨ab, cb, rfl, hlb, b3, ob⟩
  have OB := Lib.hid ob
  have B5 := Lib.hid (B4.out.trans (b3.mono (by omega)))
  have R5 := Lib.hid (R4.out.below b3)
  have U5 := (U4.out.keep b3).three
  have N5 := (UN.out.keep b3).three
  have z3 : N.heap.size ≤ w3.heap.size := b3.size
  clear b3 ob d0 d1 d2 e0 e1 e2 HN BN
  obtain ⟨d0, d1, d2⟩ := U5
  obtain ⟨e0, e1, e2⟩ := N5
  rw [← w3.drewN_zero]
  go_wp2_with (first | (refine wpList_fop rfl _ _ _ _ _ rfl _ _ _ rfl rfl (by decide) _ ?_; intro _ _) | (refine upon_fop _ _ _ _ _ (by decide) ?_; intro _ _))
  rename_i q0 j0 q1 j1 q2 j2 KK aa
  have E3 : Below w3.heap.size w3 (w3.drewN j2) := below_drewN (Below.refl _ _) _
  have hmid : joinM [pick .f32 (fop .quo .f32 v0 u0) q0, 0, 0, 0, pick .f32 (fop .quo .f32 v1 u1) q1, 0, 0, 0, pick .f32 (fop .quo .f32 v2 u2) q2] zs = joinM (midL (u0, u1, u2) (v0, v1, v2)) zs := join_near (near_mid (u0, u1, u2) (v0, v1, v2) q0 q1 q2)
  have E4 : Below w3.heap.size w3 ((w3.drewN j2).alloc (.cells (fl .f32 [pick .f32 (fop .quo .f32 v0 u0) q0, 0, 0, 0, pick .f32 (fop .quo .f32 v1 u1) q1, 0, 0, 0, pick .f32 (fop .quo .f32 v2 u2) q2]).toArray 23)) := E3.alloc (by simp) _
  have hrow := row_new (w3.drewN j2) _ [pick .f32 (fop .quo .f32 v0 u0) q0, 0, 0, 0, pick .f32 (fop .quo .f32 v1 u1) q1, 0, 0, 0, pick .f32 (fop .quo .f32 v2 u2) q2] 23 rfl (by simp) (by
    intro x hx
    simp only [List.mem_cons, List.not_mem_nil, or_false] at hx
    rcases hx with rfl | rfl | rfl | rfl | rfl | rfl | rfl | rfl | rfl <;> first | exact pick_wf (fop_lt _ _ _ _) _ | rfl)
  have CJ := c_iJoinMatrices [pick .f32 (fop .quo .f32 v0 u0) q0, 0, 0, 0, pick .f32 (fop .quo .f32 v1 u1) q1, 0, 0, 0, pick .f32 (fop .quo .f32 v2 u2) q2] (some ⟨w3.heap.size, 0, none⟩) 9 zs a c _ hrow (R5.out.below E4)
  rw [hmid] at CJ
  refine CJ.mono ?_
  rintro _ w4 ⟨asx, csx, rfl, hls, b4, os⟩
  have b4' := E4.trans (b4.mono (by simp))
  have OB2 := Lib.hid (OB.out.below b4')
  have OS := Lib.hid os
  have B6 := Lib.hid (B5.out.trans (b4'.mono (by omega)))
  clear b4 b4' os CJ hrow E3 E4 hmid d0 d1 d2 e0 e1 e2
  go_wp2_with fail
  refine (c_iJoinMatrices _ _ _ _ _ _ w4 OB2.out.row OS.out.row).mono ?_
  rintro _ w5 ⟨ar, cr, rfl, hlr, b5, or5⟩
  have B7 := Lib.hid (B6.out.trans (b5.mono B6.out.size))
  have O7 := Lib.hid (or5.mono (B' := w.heap.size) B6.out.size)
  clear b5 or5
  go_wp2_with fail
  go_ret2
  rw [HX.out]
  exact ⟨_, _, rfl, hlr, B7.out, O7.out⟩
/-! ### FnExactWhiteMatrix -/
set_option maxHeartbeats 8000000 in
theorem walkG (zM : List Nat) (aM : Option Addr) (cM : Nat) (vFr nFr vFg nFg vFb nFb : Nat) (vTr nTr vTg nTg vTb nTb : Nat) (w : World) (r : List Nat × Bool) (cS : ∀ (aM : Option Addr) (cM : Nat) (w : World), IsRowF .f32 w aM zM.length cM zM → Calls Try.prog 4 #[.slice aM zM.length cM, .agg #[.float .f32 (pick .f32 vFr nFr), .float .f32 (pick .f32 vFg nFg), .float .f32 (pick .f32 vFb nFb)], .agg #[.float .f32 (pick .f32 vTr nTr), .float .f32 (pick .f32 vTg nTg), .float .f32 (pick .f32 vTb nTb)]] w (RetL 23 r w)) (cI : ∀ (aM : Option Addr) (cM : Nat) (w : World), IsRowF .f32 w aM zM.length cM zM → Calls Try.prog 7 #[.slice aM zM.length cM, .agg #[.float .f32 (pick .f32 vFr nFr), .float .f32 (pick .f32 vFg nFg), .float .f32 (pick .f32 vFb nFb)], .agg #[.float .f32 (pick .f32 vTr nTr), .float .f32 (pick .f32 vTg nTg), .float .f32 (pick .f32 vTb nTb)]] w (RetL 46 r w)) (rM : IsRowF .f32 w aM zM.length cM zM) (hlM : zM.length ≤ 1048576) : Calls Try.prog 3 #[.slice aM zM.length cM, .agg #[.float .f32 (pick .f32 vFr nFr), .float .f32 (pick .f32 vFg nFg), .float .f32 (pick .f32 vFb nFb)], .agg #[.float .f32 (pick .f32 vTr nTr), .float .f32 (pick .f32 vTg nTg), .float .f32 (pick .f32 vTb nTb)]] w fun e w' => e = .returned (.bool true) ∧ Below w.heap.size w w' := by
  have CS := Lib.hid cS
  have CI := Lib.hid cI
  clear cS cI
  have RM := Lib.hid rM
  clear rM
  generalize hw0 : (w.alloc (Obj.cells #[.float .f32 (pick .f32 vFr nFr), .float .f32 (pick .f32 vFg nFg), .float .f32 (pick .f32 vFb nFb)] 25)).alloc (Obj.cells #[.float .f32 (pick .f32 vTr nTr), .float .f32 (pick .f32 vTg nTg), .float .f32 (pick .f32 vTb nTb)] 25) = w1
  have VF_1 := Lib.hid (show Var w1 (w.heap.size) #[.float .f32 (pick .f32 vFr nFr), .float .f32 (pick .f32 vFg nFg), .float .f32 (pick .f32 vFb nFb)] from by subst hw0; exact (Var.new _ _ _).alloc _)
  have VT_1 := Lib.hid (show Var w1 (w.heap.size + 1) #[.float .f32 (pick .f32 vTr nTr), .float .f32 (pick .f32 vTg nTg), .float .f32 (pick .f32 vTb nTb)] from by subst hw0; exact Var.new' _ _ _ _ (by first | rfl | simp))
  have B_1 := Lib.hid (show Below w.heap.size w w1 from by subst hw0; exact (((Below.refl _ _).alloc (Nat.le_refl _) _).alloc (by simp) _))
  have S_1 : w.heap.size + 2 ≤ w1.heap.size := by subst hw0; simp
  have HW := Lib.hid hw0
  clear hw0
  go_enter Try.func3, Try.ntmps3
  go_wp2_with fail
  rw [HW.out]
  go_wp2_with fail
  have KS := Lib.hid (fun (w' : World) (hE : Below w1.heap.size w1 w') => (⟨(VF_1.out.keep hE).three.1, (VF_1.out.keep hE).three.2.1, (VF_1.out.keep hE).three.2.2, (VT_1.out.keep hE).three.1, (VT_1.out.keep hE).three.2.1, (VT_1.out.keep hE).three.2.2⟩ : _ ∧ _ ∧ _ ∧ _ ∧ _ ∧ _))
  refine wp_region_facts 12 (fun a b => Below a.heap.size a b) (fun _ => Below.refl _ _) (fun _ _ _ h h' => h.trans (h'.mono h.size)) (Below.refl _ _).drew (by kernel_rfl) (by kernel_rfl) (by kernel_rfl) (by kernel_rfl) ?_
  simp only [List.take_succ_cons, List.take_zero, List.drop_succ_cons, List.drop_zero]
  (with_reducible apply wpF_val); (focus (intro vs w' hE hk; go_simp; exact ⟨Below.refl _ _, rfl⟩)); (simp only [Act.put, List.setIfInBounds_toArray, List.set_cons_zero, List.set_cons_succ, List.cons_append, List.nil_append])
  refine wpF_fact (fun u wx => ∃ g, u = .slice (some ⟨g, 0, none⟩) zM.length zM.length ∧ Own 23 wx w1.heap.size (some ⟨g, 0, none⟩) zM.length zM.length zM) (fun u wa wb h hE => by obtain ⟨g, h1, h2⟩ := h; exact ⟨g, h1, h2.below hE⟩) (fun vs w' hE hk => ?_) ?_; (focus (go_simp; refine (c_toO aM zM.length cM zM _ ((RM.out.below B_1.out).below hE) (by omega)).mono ?_; rintro _ w9 ⟨g, rfl, b, o⟩; exact ⟨_, rfl, b, g, rfl, o.mono (by have := hE.size; omega)⟩)); (simp only [Act.put, List.setIfInBounds_toArray, List.set_cons_zero, List.set_cons_succ, List.cons_append, List.nil_append])
  (with_reducible apply wpF_val); (focus (intro vs w' hE hk; (obtain ⟨dF0, dF1, dF2, dT0, dT1, dT2⟩ := KS.out w' hE); go_simp; exact ⟨Below.refl _ _, rfl⟩)); (simp only [Act.put, List.setIfInBounds_toArray, List.set_cons_zero, List.set_cons_succ, List.cons_append, List.nil_append])
  (with_reducible apply wpF_val); (focus (intro vs w' hE hk; (obtain ⟨dF0, dF1, dF2, dT0, dT1, dT2⟩ := KS.out w' hE); go_simp; refine (c_toC vFr nFr vFg nFg vFb nFb _).mono ?_; rintro _ w9 ⟨rfl, b⟩; exact ⟨_, rfl, b, rfl⟩)); (simp only [Act.put, List.setIfInBounds_toArray, List.set_cons_zero, List.set_cons_succ, List.cons_append, List.nil_append])
  (with_reducible apply wpF_val); (focus (intro vs w' hE hk; (obtain ⟨dF0, dF1, dF2, dT0, dT1, dT2⟩ := KS.out w' hE); go_simp; exact ⟨Below.refl _ _, rfl⟩)); (simp only [Act.put, List.setIfInBounds_toArray, List.set_cons_zero, List.set_cons_succ, List.cons_append, List.nil_append])
  (with_reducible apply wpF_val); (focus (intro vs w' hE hk; (obtain ⟨dF0, dF1, dF2, dT0, dT1, dT2⟩ := KS.out w' hE); go_simp; refine (c_toC vTr nTr vTg nTg vTb nTb _).mono ?_; rintro _ w9 ⟨rfl, b⟩; exact ⟨_, rfl, b, rfl⟩)); (simp only [Act.put, List.setIfInBounds_toArray, List.set_cons_zero, List.set_cons_succ, List.cons_append, List.nil_append])
  refine wpF_fact (fun u wx => TupL 23 w1.heap.size r u wx) (fun u wa wb h hE => by obtain ⟨a, c, h1, h2, h3⟩ := h; exact ⟨a, c, h1, h2, h3.below hE⟩) (fun vs w' hE hk => ?_) ?_; (focus (obtain ⟨gM, hM, oM⟩ := hk 1 (by kernel_rfl); simp only [hM]; go_simp; refine (CS.out _ _ _ oM.row).mono ?_; rintro _ w9 ⟨a9, c9, rfl, hl9, b, o⟩; exact ⟨_, rfl, b, a9, c9, rfl, hl9, o.mono (by have := hE.size; omega)⟩)); (simp only [Act.put, List.setIfInBounds_toArray, List.set_cons_zero, List.set_cons_succ, List.cons_append, List.nil_append])
  refine wpF_fact (fun u wx => TupL 23 w1.heap.size r u wx) (fun u wa wb h hE => by obtain ⟨a, c, h1, h2, h3⟩ := h; exact ⟨a, c, h1, h2, h3.below hE⟩) (fun vs w' hE hk => ?_) ?_; (focus (obtain ⟨a9, c9, h9, hl9, o9⟩ := hk 6 (by kernel_rfl); simp only [h9]; go_simp; exact ⟨Below.refl _ _, a9, c9, rfl, hl9, o9⟩)); (simp only [Act.put, List.setIfInBounds_toArray, List.set_cons_zero, List.set_cons_succ, List.cons_append, List.nil_append])
  refine wpF_fact (fun u wx => SlcL 23 w1.heap.size r u wx) (fun u wa wb h hE => by obtain ⟨a, c, h1, h2, h3⟩ := h; exact ⟨a, c, h1, h2, h3.below hE⟩) (fun vs w' hE hk => ?_) ?_; (focus (obtain ⟨a9, c9, h9, hl9, o9⟩ := hk 7 (by kernel_rfl); simp only [h9]; go_simp; exact ⟨Below.refl _ _, a9, c9, rfl, hl9, o9⟩)); (simp only [Act.put, List.setIfInBounds_toArray, List.set_cons_zero, List.set_cons_succ, List.cons_append, List.nil_append])
  refine wpF_fact (fun u _ => BooL r u) (fun _ _ _ h _ => h) (fun vs w' hE hk => ?_) ?_; (focus (obtain ⟨a9, c9, h9, hl9, o9⟩ := hk 7 (by kernel_rfl); simp only [h9]; go_simp; exact ⟨Below.refl _ _, _, rfl, rfl⟩)); (simp only [Act.put, List.setIfInBounds_toArray, List.set_cons_zero, List.set_cons_succ, List.cons_append, List.nil_append])
  refine wpF_fact (fun u wx => SlcL 23 w1.heap.size r u wx) (fun u wa wb h hE => by obtain ⟨a, c, h1, h2, h3⟩ := h; exact ⟨a, c, h1, h2, h3.below hE⟩) (fun vs w' hE hk => ?_) ?_; (focus (obtain ⟨a9, c9, h9, hl9, o9⟩ := hk 8 (by kernel_rfl); simp only [h9]; go_simp; exact ⟨Below.refl _ _, a9, c9, rfl, hl9, o9⟩)); (simp only [Act.put, List.setIfInBounds_toArray, List.set_cons_zero, List.set_cons_succ, List.cons_append, List.nil_append])
  refine wpF_fact (fun u _ => BooL r u) (fun _ _ _ h _ => h) (fun vs w' hE hk => ?_) ?_; (focus (obtain ⟨x9, h9, hx9⟩ := hk 9 (by kernel_rfl); simp only [h9]; go_simp; first | exact ⟨Below.refl _ _, x9, rfl, hx9⟩ | exact ⟨Below.refl _ _, _, rfl, rfl⟩)); (simp only [Act.put, List.setIfInBounds_toArray, List.set_cons_zero, List.set_cons_succ, List.cons_append, List.nil_append])
  refine wpF_nil (fun vs w2 hE hk => ?_)
  obtain ⟨gtM, hM, _⟩ := hk 1
  obtain ⟨_, _, h91, _, _⟩ := hk 6
  obtain ⟨_, _, h92, _, _⟩ := hk 7
  obtain ⟨_, _, h93, _, _⟩ := hk 8
  obtain ⟨x94, h94, hx94⟩ := hk 9
  obtain ⟨au, cu, h95, hrlu, o⟩ := hk 10
  obtain ⟨x96, h96, hx96⟩ := hk 11
  simp only [hM, h91, h92, h93, h94, h95, h96]
  subst hx94 hx96
  have b := hE
  clear hE hk h91 h92 h93 h94 h95 h96 hM KS
  have Lu := Lib.hid o.in
  have Ou_2 := Lib.hid o
  clear o
  have VF_2 := Lib.hid (VF_1.out.keep b)
  have VT_2 := Lib.hid (VT_1.out.keep b)
  have B_2 := Lib.hid (B_1.out.trans (b.mono (by omega)))
  have S_2 : w1.heap.size ≤ w2.heap.size := b.size
  clear b
  clear VF_1 VT_1 B_1
  go_wp2_with fail
  refine (c_toO aM zM.length cM zM _ (RM.out.below B_2.out) (by omega)).mono ?_
  rintro _ w3 ⟨gxM, rfl, b, o⟩
  have LxM := Lib.hid o.in
  have OxM_3 := Lib.hid o
  clear o
  have Ou_3 := Lib.hid (Ou_2.out.below b)
  have VF_3 := Lib.hid (VF_2.out.keep b)
  have VT_3 := Lib.hid (VT_2.out.keep b)
  have B_3 := Lib.hid (B_2.out.trans (b.mono (by omega)))
  have S_3 : w2.heap.size ≤ w3.heap.size := b.size
  clear b
  clear Ou_2 VF_2 VT_2 B_2
  go_wp2_with fail
  have KS := Lib.hid (fun (w' : World) (hE : Below w3.heap.size w3 w') => (⟨(VF_3.out.keep hE).three.1, (VF_3.out.keep hE).three.2.1, (VF_3.out.keep hE).three.2.2, (VT_3.out.keep hE).three.1, (VT_3.out.keep hE).three.2.1, (VT_3.out.keep hE).three.2.2⟩ : _ ∧ _ ∧ _ ∧ _ ∧ _ ∧ _))
  refine wp_region_facts 11 (fun a b => Below a.heap.size a b) (fun _ => Below.refl _ _) (fun _ _ _ h h' => h.trans (h'.mono h.size)) (Below.refl _ _).drew (by kernel_rfl) (by kernel_rfl) (by kernel_rfl) (by kernel_rfl) ?_
  simp only [List.take_succ_cons, List.take_zero, List.drop_succ_cons, List.drop_zero]
  (with_reducible apply wpF_val); (focus (intro vs w' hE hk; go_simp; exact ⟨Below.refl _ _, rfl⟩)); (simp only [Act.put, List.setIfInBounds_toArray, List.set_cons_zero, List.set_cons_succ, List.cons_append, List.nil_append])
  (with_reducible apply wpF_val); (focus (intro vs w' hE hk; (obtain ⟨dF0, dF1, dF2, dT0, dT1, dT2⟩ := KS.out w' hE); go_simp; exact ⟨Below.refl _ _, rfl⟩)); (simp only [Act.put, List.setIfInBounds_toArray, List.set_cons_zero, List.set_cons_succ, List.cons_append, List.nil_append])
  (with_reducible apply wpF_val); (focus (intro vs w' hE hk; (obtain ⟨dF0, dF1, dF2, dT0, dT1, dT2⟩ := KS.out w' hE); go_simp; refine (c_toC vFr nFr vFg nFg vFb nFb _).mono ?_; rintro _ w9 ⟨rfl, b⟩; exact ⟨_, rfl, b, rfl⟩)); (simp only [Act.put, List.setIfInBounds_toArray, List.set_cons_zero, List.set_cons_succ, List.cons_append, List.nil_append])
  (with_reducible apply wpF_val); (focus (intro vs w' hE hk; (obtain ⟨dF0, dF1, dF2, dT0, dT1, dT2⟩ := KS.out w' hE); go_simp; exact ⟨Below.refl _ _, rfl⟩)); (simp only [Act.put, List.setIfInBounds_toArray, List.set_cons_zero, List.set_cons_succ, List.cons_append, List.nil_append])
  (with_reducible apply wpF_val); (focus (intro vs w' hE hk; (obtain ⟨dF0, dF1, dF2, dT0, dT1, dT2⟩ := KS.out w' hE); go_simp; refine (c_toC vTr nTr vTg nTg vTb nTb _).mono ?_; rintro _ w9 ⟨rfl, b⟩; exact ⟨_, rfl, b, rfl⟩)); (simp only [Act.put, List.setIfInBounds_toArray, List.set_cons_zero, List.set_cons_succ, List.cons_append, List.nil_append])
  refine wpF_fact (fun u wx => TupL 46 w3.heap.size r u wx) (fun u wa wb h hE => by obtain ⟨a, c, h1, h2, h3⟩ := h; exact ⟨a, c, h1, h2, h3.below hE⟩) (fun vs w' hE hk => ?_) ?_; (focus (go_simp; refine (CI.out _ _ _ (OxM_3.out.below hE).row).mono ?_; rintro _ w9 ⟨a9, c9, rfl, hl9, b, o⟩; exact ⟨_, rfl, b, a9, c9, rfl, hl9, o.mono (by have := hE.size; omega)⟩)); (simp only [Act.put, List.setIfInBounds_toArray, List.set_cons_zero, List.set_cons_succ, List.cons_append, List.nil_append])
  refine wpF_fact (fun u wx => TupL 46 w3.heap.size r u wx) (fun u wa wb h hE => by obtain ⟨a, c, h1, h2, h3⟩ := h; exact ⟨a, c, h1, h2, h3.below hE⟩) (fun vs w' hE hk => ?_) ?_; (focus (obtain ⟨a9, c9, h9, hl9, o9⟩ := hk 5 (by kernel_rfl); simp only [h9]; go_simp; exact ⟨Below.refl _ _, a9, c9, rfl, hl9, o9⟩)); (simp only [Act.put, List.setIfInBounds_toArray, List.set_cons_zero, List.set_cons_succ, List.cons_append, List.nil_append])
  refine wpF_fact (fun u wx => SlcL 46 w3.heap.size r u wx) (fun u wa wb h hE => by obtain ⟨a, c, h1, h2, h3⟩ := h; exact ⟨a, c, h1, h2, h3.below hE⟩) (fun vs w' hE hk => ?_) ?_; (focus (obtain ⟨a9, c9, h9, hl9, o9⟩ := hk 6 (by kernel_rfl); simp only [h9]; go_simp; exact ⟨Below.refl _ _, a9, c9, rfl, hl9, o9⟩)); (simp only [Act.put, List.setIfInBounds_toArray, List.set_cons_zero, List.set_cons_succ, List.cons_append, List.nil_append])
  refine wpF_fact (fun u _ => BooL r u) (fun _ _ _ h _ => h) (fun vs w' hE hk => ?_) ?_; (focus (obtain ⟨a9, c9, h9, hl9, o9⟩ := hk 6 (by kernel_rfl); simp only [h9]; go_simp; exact ⟨Below.refl _ _, _, rfl, rfl⟩)); (simp only [Act.put, List.setIfInBounds_toArray, List.set_cons_zero, List.set_cons_succ, List.cons_append, List.nil_append])
  refine wpF_fact (fun u wx => SlcL 46 w3.heap.size r u wx) (fun u wa wb h hE => by obtain ⟨a, c, h1, h2, h3⟩ := h; exact ⟨a, c, h1, h2, h3.below hE⟩) (fun vs w' hE hk => ?_) ?_; (focus (obtain ⟨a9, c9, h9, hl9, o9⟩ := hk 7 (by kernel_rfl); simp only [h9]; go_simp; exact ⟨Below.refl _ _, a9, c9, rfl, hl9, o9⟩)); (simp only [Act.put, List.setIfInBounds_toArray, List.set_cons_zero, List.set_cons_succ, List.cons_append, List.nil_append])
  refine wpF_fact (fun u _ => BooL r u) (fun _ _ _ h _ => h) (fun vs w' hE hk => ?_) ?_; (focus (obtain ⟨x9, h9, hx9⟩ := hk 8 (by kernel_rfl); simp only [h9]; go_simp; first | exact ⟨Below.refl _ _, x9, rfl, hx9⟩ | exact ⟨Below.refl _ _, _, rfl, rfl⟩)); (simp only [Act.put, List.setIfInBounds_toArray, List.set_cons_zero, List.set_cons_succ, List.cons_append, List.nil_append])
  refine wpF_nil (fun vs w4 hE hk => ?_)
  obtain ⟨_, _, h91, _, _⟩ := hk 5
  obtain ⟨_, _, h92, _, _⟩ := hk 6
  obtain ⟨_, _, h93, _, _⟩ := hk 7
  obtain ⟨x94, h94, hx94⟩ := hk 8
  obtain ⟨ag, cg, h95, hrlg, o⟩ := hk 9
  obtain ⟨x96, h96, hx96⟩ := hk 10
  simp only [h91, h92, h93, h94, h95, h96]
  subst hx94 hx96
  have b := hE
  clear hE hk h91 h92 h93 h94 h95 h96 KS
  have Lg := Lib.hid o.in
  have Og_4 := Lib.hid o
  clear o
  have Ou_4 := Lib.hid (Ou_3.out.below b)
  have OxM_4 := Lib.hid (OxM_3.out.below b)
  have VF_4 := Lib.hid (VF_3.out.keep b)
  have VT_4 := Lib.hid (VT_3.out.keep b)
  have B_4 := Lib.hid (B_3.out.trans (b.mono (by omega)))
  have S_4 : w3.heap.size ≤ w4.heap.size := b.size
  clear b
  clear Ou_3 OxM_3 VF_3 VT_3 B_3
  go_wp2_with fail
  refine (c_eqF0 _ _ _ _ _ _ _ Og_4.out.row Ou_4.out.row).mono ?_
  rintro _ _ ⟨jx, rfl, rfl⟩
  have b : Below w4.heap.size w4 (w4.drewN jx) := below_drewN (Below.refl _ _) _
  generalize w4.drewN jx = w5 at *
  have Ou_5 := Lib.hid (Ou_4.out.below b)
  have OxM_5 := Lib.hid (OxM_4.out.below b)
  have Og_5 := Lib.hid (Og_4.out.below b)
  have VF_5 := Lib.hid (VF_4.out.keep b)
  have VT_5 := Lib.hid (VT_4.out.keep b)
  have B_5 := Lib.hid (B_4.out.trans (b.mono (by omega)))
  have S_5 : w4.heap.size ≤ w5.heap.size := b.size
  clear b
  clear Ou_4 OxM_4 Og_4 VF_4 VT_4 B_4
  go_wp2_with fail
  refine (c_toO aM zM.length cM zM _ (RM.out.below B_5.out) (by omega)).mono ?_
  rintro _ w6 ⟨gtc, rfl, b, o⟩
  have Ltc := Lib.hid o.in
  have Otc_6 := Lib.hid o
  clear o
  have Ou_6 := Lib.hid (Ou_5.out.below b)
  have OxM_6 := Lib.hid (OxM_5.out.below b)
  have Og_6 := Lib.hid (Og_5.out.below b)
  have VF_6 := Lib.hid (VF_5.out.keep b)
  have VT_6 := Lib.hid (VT_5.out.keep b)
  have B_6 := Lib.hid (B_5.out.trans (b.mono (by omega)))
  have S_6 : w5.heap.size ≤ w6.heap.size := b.size
  clear b
  clear Ou_5 OxM_5 Og_5 VF_5 VT_5 B_5
  go_wp2_with fail
  refine (c_eqF0 _ _ _ _ _ _ _ OxM_6.out.row Otc_6.out.row).mono ?_
  rintro _ _ ⟨jx, rfl, rfl⟩
  have b : Below w6.heap.size w6 (w6.drewN jx) := below_drewN (Below.refl _ _) _
  generalize w6.drewN jx = w7 at *
  have Ou_7 := Lib.hid (Ou_6.out.below b)
  have OxM_7 := Lib.hid (OxM_6.out.below b)
  have Og_7 := Lib.hid (Og_6.out.below b)
  have Otc_7 := Lib.hid (Otc_6.out.below b)
  have VF_7 := Lib.hid (VF_6.out.keep b)
  have VT_7 := Lib.hid (VT_6.out.keep b)
  have B_7 := Lib.hid (B_6.out.trans (b.mono (by omega)))
  have S_7 : w6.heap.size ≤ w7.heap.size := b.size
  clear b
  clear Ou_6 OxM_6 Og_6 Otc_6 VF_6 VT_6 B_6
  clear Otc_7 Ltc
  go_wp2_with fail
  refine (c_markF _ _ _ _ (1) _ _ OxM_7.out (by omega)).mono ?_
  rintro _ w8 ⟨rfl, b, o⟩
  have On := Lib.hid o
  clear o
  have Ou_8 := Lib.hid (Ou_7.out.kept b (blk_apart Lu.out LxM.out (by omega)))
  have Og_8 := Lib.hid (Og_7.out.kept b (blk_apart Lg.out LxM.out (by omega)))
  have VF_8 := Lib.hid (VF_7.out.kept b (by intro e; have := LxM.out _ e.symm; omega))
  have VT_8 := Lib.hid (VT_7.out.kept b (by intro e; have := LxM.out _ e.symm; omega))
  have B_8 := Lib.hid (B_7.out.grown b (by omega) (fun k e => by have := LxM.out k e; omega))
  have S_8 : w7.heap.size ≤ w8.heap.size := b.size
  clear b
  clear Ou_7 OxM_7 Og_7 VF_7 VT_7 B_7
  have OxM_8 := Lib.hid On.out
  clear On
  have hk : ¬ ((((1 + zM.length) : Nat) : Int) < 0) := by omega
  clear OxM_8 LxM
  go_wp2_with fail
  refine (c_eqF0 _ _ _ _ _ _ _ Og_8.out.row Ou_8.out.row).mono ?_
  rintro _ _ ⟨jx, rfl, rfl⟩
  have b : Below w8.heap.size w8 (w8.drewN jx) := below_drewN (Below.refl _ _) _
  generalize w8.drewN jx = w9 at *
  have Ou_9 := Lib.hid (Ou_8.out.below b)
  have Og_9 := Lib.hid (Og_8.out.below b)
  have VF_9 := Lib.hid (VF_8.out.keep b)
  have VT_9 := Lib.hid (VT_8.out.keep b)
  have B_9 := Lib.hid (B_8.out.trans (b.mono (by omega)))
  have S_9 : w8.heap.size ≤ w9.heap.size := b.size
  clear b
  clear Ou_8 Og_8 VF_8 VT_8 B_8
  go_wp2_with fail
  refine (c_markF _ _ _ _ (1) _ _ Og_9.out (by omega)).mono ?_
  rintro _ w10 ⟨rfl, b, o⟩
  have On := Lib.hid o
  clear o
  have Ou_10 := Lib.hid (Ou_9.out.kept b (blk_apart Lu.out Lg.out (by omega)))
  have VF_10 := Lib.hid (VF_9.out.kept b (by intro e; have := Lg.out _ e.symm; omega))
  have VT_10 := Lib.hid (VT_9.out.kept b (by intro e; have := Lg.out _ e.symm; omega))
  have B_10 := Lib.hid (B_9.out.grown b (by omega) (fun k e => by have := Lg.out k e; omega))
  have S_10 : w9.heap.size ≤ w10.heap.size := b.size
  clear b
  clear Ou_9 Og_9 VF_9 VT_9 B_9
  have Og_10 := Lib.hid On.out
  clear On
  go_wp2_with fail
  refine (c_heldF _ _ _ (1) _ Og_10.out.row (by omega)).mono ?_
  rintro _ wq ⟨rfl, eq⟩
  rw [eq]
  clear eq wq
  have hq : ¬ (((1 + r.1.length : Nat) : Int) < 0) := by omega
  go_wp2_with fail
  have KS := Lib.hid (fun (w' : World) (hE : Below w10.heap.size w10 w') => (⟨(VF_10.out.keep hE).three.1, (VF_10.out.keep hE).three.2.1, (VF_10.out.keep hE).three.2.2, (VT_10.out.keep hE).three.1, (VT_10.out.keep hE).three.2.1, (VT_10.out.keep hE).three.2.2⟩ : _ ∧ _ ∧ _ ∧ _ ∧ _ ∧ _))
  refine wp_region_facts 12 (fun a b => Below a.heap.size a b) (fun _ => Below.refl _ _) (fun _ _ _ h h' => h.trans (h'.mono h.size)) (Below.refl _ _).drew (by kernel_rfl) (by kernel_rfl) (by kernel_rfl) (by kernel_rfl) ?_
  simp only [List.take_succ_cons, List.take_zero, List.drop_succ_cons, List.drop_zero]
  (with_reducible apply wpF_val); (focus (intro vs w' hE hk; go_simp; exact ⟨Below.refl _ _, rfl⟩)); (simp only [Act.put, List.setIfInBounds_toArray, List.set_cons_zero, List.set_cons_succ, List.cons_append, List.nil_append])
  refine wpF_fact (fun u wx => ∃ g, u = .slice (some ⟨g, 0, none⟩) zM.length zM.length ∧ Own 23 wx w10.heap.size (some ⟨g, 0, none⟩) zM.length zM.length zM) (fun u wa wb h hE => by obtain ⟨g, h1, h2⟩ := h; exact ⟨g, h1, h2.below hE⟩) (fun vs w' hE hk => ?_) ?_; (focus (go_simp; refine (c_toO aM zM.length cM zM _ ((RM.out.below B_10.out).below hE) (by omega)).mono ?_; rintro _ w9 ⟨g, rfl, b, o⟩; exact ⟨_, rfl, b, g, rfl, o.mono (by have := hE.size; omega)⟩)); (simp only [Act.put, List.setIfInBounds_toArray, List.set_cons_zero, List.set_cons_succ, List.cons_append, List.nil_append])
  (with_reducible apply wpF_val); (focus (intro vs w' hE hk; (obtain ⟨dF0, dF1, dF2, dT0, dT1, dT2⟩ := KS.out w' hE); go_simp; exact ⟨Below.refl _ _, rfl⟩)); (simp only [Act.put, List.setIfInBounds_toArray, List.set_cons_zero, List.set_cons_succ, List.cons_append, List.nil_append])
  (with_reducible apply wpF_val); (focus (intro vs w' hE hk; (obtain ⟨dF0, dF1, dF2, dT0, dT1, dT2⟩ := KS.out w' hE); go_simp; refine (c_toC vFr nFr vFg nFg vFb nFb _).mono ?_; rintro _ w9 ⟨rfl, b⟩; exact ⟨_, rfl, b, rfl⟩)); (simp only [Act.put, List.setIfInBounds_toArray, List.set_cons_zero, List.set_cons_succ, List.cons_append, List.nil_append])
  (with_reducible apply wpF_val); (focus (intro vs w' hE hk; (obtain ⟨dF0, dF1, dF2, dT0, dT1, dT2⟩ := KS.out w' hE); go_simp; exact ⟨Below.refl _ _, rfl⟩)); (simp only [Act.put, List.setIfInBounds_toArray, List.set_cons_zero, List.set_cons_succ, List.cons_append, List.nil_append])
  (with_reducible apply wpF_val); (focus (intro vs w' hE hk; (obtain ⟨dF0, dF1, dF2, dT0, dT1, dT2⟩ := KS.out w' hE); go_simp; refine (c_toC vTr nTr vTg nTg vTb nTb _).mono ?_; rintro _ w9 ⟨rfl, b⟩; exact ⟨_, rfl, b, rfl⟩)); (simp only [Act.put, List.setIfInBounds_toArray, List.set_cons_zero, List.set_cons_succ, List.cons_append, List.nil_append])
  refine wpF_fact (fun u wx => TupL 46 w10.heap.size r u wx) (fun u wa wb h hE => by obtain ⟨a, c, h1, h2, h3⟩ := h; exact ⟨a, c, h1, h2, h3.below hE⟩) (fun vs w' hE hk => ?_) ?_; (focus (obtain ⟨gM, hM, oM⟩ := hk 1 (by kernel_rfl); simp only [hM]; go_simp; refine (CI.out _ _ _ oM.row).mono ?_; rintro _ w9 ⟨a9, c9, rfl, hl9, b, o⟩; exact ⟨_, rfl, b, a9, c9, rfl, hl9, o.mono (by have := hE.size; omega)⟩)); (simp only [Act.put, List.setIfInBounds_toArray, List.set_cons_zero, List.set_cons_succ, List.cons_append, List.nil_append])
  refine wpF_fact (fun u wx => TupL 46 w10.heap.size r u wx) (fun u wa wb h hE => by obtain ⟨a, c, h1, h2, h3⟩ := h; exact ⟨a, c, h1, h2, h3.below hE⟩) (fun vs w' hE hk => ?_) ?_; (focus (obtain ⟨a9, c9, h9, hl9, o9⟩ := hk 6 (by kernel_rfl); simp only [h9]; go_simp; exact ⟨Below.refl _ _, a9, c9, rfl, hl9, o9⟩)); (simp only [Act.put, List.setIfInBounds_toArray, List.set_cons_zero, List.set_cons_succ, List.cons_append, List.nil_append])
  refine wpF_fact (fun u wx => SlcL 46 w10.heap.size r u wx) (fun u wa wb h hE => by obtain ⟨a, c, h1, h2, h3⟩ := h; exact ⟨a, c, h1, h2, h3.below hE⟩) (fun vs w' hE hk => ?_) ?_; (focus (obtain ⟨a9, c9, h9, hl9, o9⟩ := hk 7 (by kernel_rfl); simp only [h9]; go_simp; exact ⟨Below.refl _ _, a9, c9, rfl, hl9, o9⟩)); (simp only [Act.put, List.setIfInBounds_toArray, List.set_cons_zero, List.set_cons_succ, List.cons_append, List.nil_append])
  refine wpF_fact (fun u _ => BooL r u) (fun _ _ _ h _ => h) (fun vs w' hE hk => ?_) ?_; (focus (obtain ⟨a9, c9, h9, hl9, o9⟩ := hk 7 (by kernel_rfl); simp only [h9]; go_simp; exact ⟨Below.refl _ _, _, rfl, rfl⟩)); (simp only [Act.put, List.setIfInBounds_toArray, List.set_cons_zero, List.set_cons_succ, List.cons_append, List.nil_append])
  refine wpF_fact (fun u wx => SlcL 46 w10.heap.size r u wx) (fun u wa wb h hE => by obtain ⟨a, c, h1, h2, h3⟩ := h; exact ⟨a, c, h1, h2, h3.below hE⟩) (fun vs w' hE hk => ?_) ?_; (focus (obtain ⟨a9, c9, h9, hl9, o9⟩ := hk 8 (by kernel_rfl); simp only [h9]; go_simp; exact ⟨Below.refl _ _, a9, c9, rfl, hl9, o9⟩)); (simp only [Act.put, List.setIfInBounds_toArray, List.set_cons_zero, List.set_cons_succ, List.cons_append, List.nil_append])
  refine wpF_fact (fun u _ => BooL r u) (fun _ _ _ h _ => h) (fun vs w' hE hk => ?_) ?_; (focus (obtain ⟨x9, h9, hx9⟩ := hk 9 (by kernel_rfl); simp only [h9]; go_simp; first | exact ⟨Below.refl _ _, x9, rfl, hx9⟩ | exact ⟨Below.refl _ _, _, rfl, rfl⟩)); (simp only [Act.put, List.setIfInBounds_toArray, List.set_cons_zero, List.set_cons_succ, List.cons_append, List.nil_append])
  refine wpF_nil (fun vs w11 hE hk => ?_)
  obtain ⟨gtM, hM, _⟩ := hk 1
  obtain ⟨_, _, h91, _, _⟩ := hk 6
  obtain ⟨_, _, h92, _, _⟩ := hk 7
  obtain ⟨_, _, h93, _, _⟩ := hk 8
  obtain ⟨x94, h94, hx94⟩ := hk 9
  obtain ⟨ah, ch, h95, hrlh, o⟩ := hk 10
  obtain ⟨x96, h96, hx96⟩ := hk 11
  simp only [hM, h91, h92, h93, h94, h95, h96]
  subst hx94 hx96
  have b := hE
  clear hE hk h91 h92 h93 h94 h95 h96 hM KS
  have Lh := Lib.hid o.in
  have Oh_11 := Lib.hid o
  clear o
  have Ou_11 := Lib.hid (Ou_10.out.below b)
  have Og_11 := Lib.hid (Og_10.out.below b)
  have VF_11 := Lib.hid (VF_10.out.keep b)
  have VT_11 := Lib.hid (VT_10.out.keep b)
  have B_11 := Lib.hid (B_10.out.trans (b.mono (by omega)))
  have S_11 : w10.heap.size ≤ w11.heap.size := b.size
  clear b
  clear Ou_10 Og_10 VF_10 VT_10 B_10
  go_wp2_with fail
  refine (c_eqF0 _ _ _ _ _ _ _ Oh_11.out.row Ou_11.out.row).mono ?_
  rintro _ _ ⟨jx, rfl, rfl⟩
  have b : Below w11.heap.size w11 (w11.drewN jx) := below_drewN (Below.refl _ _) _
  generalize w11.drewN jx = w12 at *
  have Ou_12 := Lib.hid (Ou_11.out.below b)
  have Og_12 := Lib.hid (Og_11.out.below b)
  have Oh_12 := Lib.hid (Oh_11.out.below b)
  have VF_12 := Lib.hid (VF_11.out.keep b)
  have VT_12 := Lib.hid (VT_11.out.keep b)
  have B_12 := Lib.hid (B_11.out.trans (b.mono (by omega)))
  have S_12 : w11.heap.size ≤ w12.heap.size := b.size
  clear b
  clear Ou_11 Og_11 Oh_11 VF_11 VT_11 B_11
  go_wp2_with fail
  refine (c_heldF _ _ _ (1) _ Og_12.out.row (by omega)).mono ?_
  rintro _ wq ⟨rfl, eq⟩
  rw [eq]
  clear eq wq
  go_wp2_with fail
  go_ret
  exact ⟨rfl, B_12.out⟩
theorem walkRM (zM : List Nat) (aM : Option Addr) (cM : Nat) (vFr nFr vFg nFg vFb nFb : Nat) (vTr nTr vTg nTg vTb nTb : Nat) (w : World) (rM : IsRowF .f32 w aM zM.length cM zM) (gC : 1048576 < zM.length) : Calls Try.prog 3 #[.slice aM zM.length cM, .agg #[.float .f32 (pick .f32 vFr nFr), .float .f32 (pick .f32 vFg nFg), .float .f32 (pick .f32 vFb nFb)], .agg #[.float .f32 (pick .f32 vTr nTr), .float .f32 (pick .f32 vTg nTg), .float .f32 (pick .f32 vTb nTb)]] w fun e w' => e = .returned (.bool true) ∧ Below w.heap.size w w' := by
  go_enter Try.func3, Try.ntmps3
  go_wp2_with fail
  go_ret
  exact ⟨rfl, by first | exact Below.refl _ _ | exact (Below.refl _ _).alloc (Nat.le_refl _) _ | exact ((Below.refl _ _).alloc (Nat.le_refl _) _).alloc (by simp) _⟩
theorem walk (aM : Option Addr) (lenM cM : Nat) (zM : List Nat) (vFr nFr vFg nFg vFb nFb : Nat) (vTr nTr vTg nTg vTb nTb : Nat) (w : World) (rM : IsRowF .f32 w aM lenM cM zM) (hFr : vFr < 2 ^ FloatKind.f32.format.width) (hFg : vFg < 2 ^ FloatKind.f32.format.width) (hFb : vFb < 2 ^ FloatKind.f32.format.width) (hTr : vTr < 2 ^ FloatKind.f32.format.width) (hTg : vTg < 2 ^ FloatKind.f32.format.width) (hTb : vTb < 2 ^ FloatKind.f32.format.width) : Calls Try.prog 3 #[.slice aM lenM cM, .agg #[.float .f32 (pick .f32 vFr nFr), .float .f32 (pick .f32 vFg nFg), .float .f32 (pick .f32 vFb nFb)], .agg #[.float .f32 (pick .f32 vTr nTr), .float .f32 (pick .f32 vTg nTg), .float .f32 (pick .f32 vTb nTb)]] w fun e w' => e = .returned (.bool true) ∧ Below w.heap.size w w' := by
  obtain rfl := rM.1
  by_cases gCM : 1048576 < zM.length
  · exact walkRM zM aM cM vFr nFr vFg nFg vFb nFb vTr nTr vTg nTg vTb nTb w rM gCM
  exact walkG zM aM cM vFr nFr vFg nFg vFb nFb vTr nTr vTg nTg vTb nTb w (whiteM zM vFr vFg vFb vTr vTg vTb) (fun aM cM w rM => c_sWhiteMatrix zM aM cM vFr nFr vFg nFg vFb nFb vTr nTr vTg nTg vTb nTb w rM hFr hFg hFb hTr hTg hTb) (fun aM cM w rM => c_iWhiteMatrix zM aM cM vFr nFr vFg nFg vFb nFb vTr nTr vTg nTg vTb nTb w rM hFr hFg hFb hTr hTg hTb) rM (by omega)

theorem own : ownKnob Try.prog.godebug = none := by kernel_rfl
theorem laidOut : laidOutB Try.prog = true := by kernel_rfl
set_option maxRecDepth 100000 in
theorem lifted (os : Os) (started : os.Started) (H : Type) (enc : TypeId × Value → H) :
    ReturnsInHanded {} Try.checked os 3 .any (Rows.fnExactWhiteMatrixSpec.pre6 enc Try.prog Try.f3 Rows.fnExactWhiteMatrixRow.domain false) (Rows.fnExactWhiteMatrixSpec.post enc Try.prog Try.f3 false true false false) := by
  refine returnsInHanded_of_change (C := Try.checked) own started (by kernel_rfl) Try.func3
    (ChangeSpec.witness6 (enc := enc) (C := Try.checked) false ⟨#[], #[.slice none 0 0, .agg #[.float .f32 0, .float .f32 0, .float .f32 0], .agg #[.float .f32 0, .float .f32 0, .float .f32 0]], []⟩ 8 (by kernel_rfl) (by kernel_rfl) (by kernel_rfl) (by kernel_rfl)) ?_
  intro W base args ds gs before hval0 hW hcnd _
  have hval : ∀ (j : Nat) t v, Try.f3.params[j]? = some t → args[j]? = some v → Value.okWide Try.prog W .any base t v := hval0
  have hW' := hW
  obtain ⟨p, q, hA0, hV, rfl, hfz, hnd⟩ := hW
  have hA : DataW.TrodAll enc Try.prog W 0 (fun _ => true) true Try.f3.params.toList args.toList ds p := hA0
  rw [Try.params3] at hA hval
  obtain ⟨v0, vs0, d0, ds0, p0, q0, hargs, rfl, rfl, h0, r0⟩ := trodAll_cons hA
  obtain ⟨v1, vs1, d1, ds1, p1, q1, rfl, rfl, rfl, h1, r1⟩ := trodAll_cons r0
  obtain ⟨v2, vs2, d2, ds2, p2, q2, rfl, rfl, rfl, h2, r2⟩ := trodAll_cons r1
  obtain ⟨rfl, rfl, rfl⟩ := trodAll_nil r2
  obtain rfl : args = #[v0, v1, v2] := by cases args; simp_all
  obtain ⟨rfl, rfl⟩ := trodVars_none hV
  obtain ⟨a0, len0, cap0, rfl⟩ := okWide_slice Try.underlying22 (hval 0 22 v0 rfl rfl)
  have k0 := h0
  have lt0 : ∀ x ∈ p0, x.block < W.heap.size := by obtain ⟨m, hm⟩ := k0; exact DataW.trod_lt m _ _ _ hm
  obtain ⟨z0, w0⟩ := rowF_of Try.underlying22 Try.underlying23 (by kernel_rfl) h0
  have k1 := h1
  have lt1 : ∀ x ∈ p1, x.block < W.heap.size := by obtain ⟨m, hm⟩ := k1; exact DataW.trod_lt m _ _ _ hm
  obtain ⟨br1, bg1, bb1, rfl, wr1, wg1, wb1⟩ := open_col Try.underlying25 (by kernel_rfl) (by kernel_rfl) Try.underlying23 Try.underlying23 Try.underlying23 (hval 1 25 v1 rfl rfl) h1
  obtain ⟨nr1, er1⟩ := pick_onto .f32 br1 (lt_of_wf wr1)
  obtain ⟨ng1, eg1⟩ := pick_onto .f32 bg1 (lt_of_wf wg1)
  obtain ⟨nb1, eb1⟩ := pick_onto .f32 bb1 (lt_of_wf wb1)
  have k2 := h2
  have lt2 : ∀ x ∈ p2, x.block < W.heap.size := by obtain ⟨m, hm⟩ := k2; exact DataW.trod_lt m _ _ _ hm
  obtain ⟨br2, bg2, bb2, rfl, wr2, wg2, wb2⟩ := open_col Try.underlying25 (by kernel_rfl) (by kernel_rfl) Try.underlying23 Try.underlying23 Try.underlying23 (hval 2 25 v2 rfl rfl) h2
  obtain ⟨nr2, er2⟩ := pick_onto .f32 br2 (lt_of_wf wr2)
  obtain ⟨ng2, eg2⟩ := pick_onto .f32 bg2 (lt_of_wf wg2)
  obtain ⟨nb2, eb2⟩ := pick_onto .f32 bb2 (lt_of_wf wb2)
  clear hA0 hval0
  have hw0 : Calls Try.prog 3 #[.slice a0 len0 cap0, .agg #[.float .f32 br1, .float .f32 bg1, .float .f32 bb1], .agg #[.float .f32 br2, .float .f32 bg2, .float .f32 bb2]] W fun e w' => e = .returned (.bool true) ∧ Below W.heap.size W w' := by
    rw [er1, eg1, eb1]
    rw [er2, eg2, eb2]
    exact walk a0 len0 cap0 z0 br1 nr1 bg1 ng1 bb1 nb1 br2 nr2 bg2 ng2 bb2 nb2 W w0 (lt_of_wf wr1) (lt_of_wf wg1) (lt_of_wf wb1) (lt_of_wf wr2) (lt_of_wf wg2) (lt_of_wf wb2)
  refine hw0.mono fun e W' ⟨he, bel⟩ => ?_
  subst he
  exact ⟨_, rfl, _, _, _, [], _, [], hW', trodAll_mk1 (shut_bool Try.underlying4 _), (trodAll_cons_mk (Below.trod laidOut (by kernel_rfl) (of_decide_eq_true (by kernel_rfl)) k0 bel lt0) (trodAll_cons_mk (Below.trod laidOut (by kernel_rfl) (of_decide_eq_true (by kernel_rfl)) k1 bel lt1) (trodAll_cons_mk (Below.trod laidOut (by kernel_rfl) (of_decide_eq_true (by kernel_rfl)) k2 bel lt2) trodAll_mk0))), rfl, bel.frame _, fun h => by cases h⟩

theorem over : Rows.fnExactWhiteMatrixRow.holds Try.pinned (OpenSpec.ofChange Rows.fnExactWhiteMatrixSpec) :=
  OpenClaim.holds_of_wide 3 Try.f3 rfl rfl rfl rfl rfl rfl rfl ⟨rfl, rfl, rfl, rfl, rfl⟩ rfl rfl rfl rfl rfl (by kernel_rfl) Try.func3 (by kernel_rfl)
    (of_decide_eq_true (by kernel_rfl)) (by unfold Func.isWrapper; first | (rw [if_pos (by decide +kernel)]; kernel_rfl) | (rw [if_neg (by decide +kernel)]; exact ⟨rfl, rfl⟩))
    (fun os started H enc _ => lifted os started H enc)

theorem proved : Rows.FnExactWhiteMatrixSaid := over
#print axioms proved

end Go.Proofs.Ytehcepibmekooad.fnExactWhiteMatrix

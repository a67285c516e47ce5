/-
  FnExactSumNumbers: for every input this law of the program returns true, and each argument reads as before. No condition.
-/
import Derived.Test.YtfohhljadpchgagRows
import Derived.Test.YtfohhljadpchgagRow
import Derived.ProofKit
import Derived.OpenShut
import Derived.ShutString
import Derived.ChangeOld
import Derived.Below
import Derived.Lib.Hide
set_option linter.unusedSimpArgs false
set_option linter.unusedVariables false
set_option exponentiation.threshold 2000
namespace Go.Proofs.Ytfohhljadpchgag.fnExactSumNumbers
open Go Go.Proofs.Ytfohhljadpchgag Go.Proofs
open Go.ChangeShapes Go.WideShapes Go.ChangeAt Go.RowKit
open Go.ChangeMaps (open_string shut_string)
/-! ### toFloat32S -/
theorem infoF : (Try.prog.info? 22).map (fun i => (i.zero, i.size, i.bytes)) = some (some (.float .f32 0), 1, 4) := by kernel_rfl
theorem c_toF (a : Option Addr) (len cap : Nat) (zs : List Nat) (w : World) (hr : IsRowF .f32 w a len cap zs) (hl : len ≤ 1048576) : Calls Try.prog 16 #[.slice a len cap] w (NewF .f32 zs len w) := by
  obtain ⟨i0, hi, hz0, hz1, hz2⟩ := info_parts infoF
  obtain ⟨h1, h2, h3, h4, h5⟩ := hr
  go_enter Try.func16, Try.ntmps16
  go_wp2_with (at_make; refine wpList_make_full _ rfl _ _ 29 rfl w.heap.size 22 i0 (.float .f32 0) 1 Try.underlying29 hi hz0 hz1 _ _ _ _ len rfl rfl rfl rfl (by rw [hz2]; omega) (by unfold maxLen; omega) (by simp) ?_; intro w1 hown hgrow)
  have hblk := block_of_owns hown
  have e0 : (madeCells (Value.float FloatKind.f32 0).cells (len * 1)).toList = List.replicate len (.float .f32 0) := by rw [Nat.mul_one]; exact made_zeros _ _
  rw [e0] at hblk
  have hbel : Below w.heap.size w w1 := (Below.refl _ _).grown hgrow (Nat.le_refl _) (by simp)
  have HB := Lib.hid hblk
  clear hown hgrow hblk e0 hz0 hz1 hz2
  go_loopw [4] (fun i wr => ∃ j : Nat, j ≤ len ∧ i = .int .i64 j ∧ Below w.heap.size w wr ∧ wr.heap[w.heap.size]? = some (.cells (fl .f32 (zs.take j) ++ List.replicate (zs.length - j) (Value.float .f32 0)).toArray 22 (0, 0))) (fun i _ => len - (intOf i).toNat)
  case atStart => exact ⟨0, Nat.zero_le _, rfl, hbel, by rw [HB.out, h1]; rfl⟩
  case round =>
    obtain ⟨j, hj, rfl, hb, hblk⟩ := hrel
    have Hblk := Lib.hid hblk
    clear hblk
    by_cases hlt : j < len
    · rcases h5 with h5 | ⟨b, off, rfl, hbl, hc⟩
      · omega
      have hcell : wr.cell? ⟨b, off + j, none⟩ = some (.float .f32 (fat zs j)) := by rw [hb.cell (p := ⟨b, off + j, none⟩) hbl]; exact hc j hlt
      have hold : wr.cell? ⟨w.heap.size, j, none⟩ = some (.float .f32 0) := by
        rw [cell_of_block Hblk.out, List.getElem?_append_right (by simp [fl]; omega)]
        have e : (fl FloatKind.f32 (List.take j zs)).length = j := by simp [fl]; omega
        rw [e, Nat.sub_self, List.getElem?_replicate, if_pos (by omega)]
      have hfz : wr.frozen? ⟨w.heap.size, j, none⟩ = false := frozen_of_block Hblk.out j
      have hset := block_set Hblk.out j (.float .f32 (fat zs j))
      rw [set_step zs _ j (by omega)] at hset
      have Hset := Lib.hid hset
      clear hset hc
      go_wp2
      go_roundw
      case rel => exact ⟨j + 1, by omega, by go_num, hb.setCell (Nat.le_refl _) _, Hset.out⟩
      case measure => simp [intOf]; omega
    · obtain rfl : j = len := by omega
      have e1 : fl .f32 (zs.take j) ++ List.replicate (zs.length - j) (Value.float .f32 0) = fl .f32 zs := by rw [h1, Nat.sub_self, List.replicate_zero, List.append_nil, List.take_of_length_le (by omega)]
      have hblk2 := Hblk.out
      rw [e1] at hblk2
      have hrow := rowF_of_block hblk2 (by unfold maxLen at *; omega) h4
      have hfz := frozen_of_block hblk2
      have HF := Lib.hid hfz
      have HR := Lib.hid hrow
      clear hfz hrow hblk2 e1
      go_wp2
      go_ret
      exact ⟨w.heap.size, rfl, Nat.le_refl _, hb, by have := HR.out; rwa [h1] at this, HF.out⟩
/-! ### l01Sum -/
theorem c_l01Sum (a : Option Addr) (len cap : Nat) (zs : List Nat) (w : World) (j0 : Nat) (hr : IsRowF .f32 w a len cap zs) : Calls Try.prog 33 #[.slice a len cap] (w.drewN j0) (RetF .f32 (sumF .add .f32 0 zs) w) := by
  obtain ⟨h1, h2, h3, h4, h5⟩ := hr
  unfold maxLen at h3
  go_enter Try.func33, Try.ntmps33
  go_wp2
  go_loopw [3, 4] (fun s i wr => ∃ k n m : Nat, k ≤ len ∧ i = .int .i64 k ∧ s = .float .f32 (pick .f32 (sumF .add .f32 0 (zs.take k)) n) ∧ wr = w.drewN m) (fun _ i _ => len - (intOf i).toNat)
  case atStart => exact ⟨0, 0, j0, Nat.zero_le _, rfl, rfl, rfl⟩
  case round =>
    obtain ⟨k, n, m, hk, rfl, rfl, rfl⟩ := hrel
    by_cases hlt : k < len
    · rcases h5 with h5 | ⟨b, off, rfl, hbl, hc⟩
      · omega
      have hcell : w.cell? ⟨b, off + k, none⟩ = some (.float .f32 (fat zs k)) := hc k hlt
      have HS := Lib.hid (sumF_snoc .add .f32 0 zs k (by omega))
      clear hc h4
      go_wp2_with (refine wpList_fop rfl _ _ _ _ _ rfl _ _ _ rfl rfl (by decide) _ ?_; intro _ _)
      go_roundw
      case rel => exact ⟨k + 1, _, _, by omega, by go_num, by rw [HS.out], rfl⟩
      case measure => simp [intOf]; omega
    · have e : zs.take k = zs := List.take_of_length_le (by omega)
      rw [e]
      clear h5 h4
      go_wp2
      go_ret
      exact ⟨_, _, rfl, rfl⟩
/-! ### sSumNumbers -/
theorem c_sSum_no (a : Option Addr) (len cap : Nat) (w : World) (j0 : Nat) (h : 256 < len) : Calls Try.prog 15 #[.slice a len cap] (w.drewN j0) (RetV (.tuple #[.float .f32 0, .bool false]) w) := by
  have hd : decide ((len : Int) ≤ 256) = false := decide_eq_false (by omega)
  go_enter Try.func15, Try.ntmps15
  go_wp2
  go_ret2
  exact ⟨_, rfl, rfl⟩
theorem c_sSum_yes (a : Option Addr) (len cap : Nat) (zs : List Nat) (w : World) (j0 : Nat) (hr : IsRowF .f32 w a len cap zs) (h : len ≤ 256) : Calls Try.prog 15 #[.slice a len cap] (w.drewN j0) (RetFB .f32 (sumF .add .f32 0 zs) w) := by
  have hd : decide ((len : Int) ≤ 256) = true := decide_eq_true (by omega)
  have H := Lib.hid hr
  clear hr
  go_enter Try.func15, Try.ntmps15
  go_wp2_with (first | (go_at_call 33; refine (c_l01Sum _ _ _ _ _ _ H.out).mono ?_; rintro _ _ ⟨_, _, rfl, rfl⟩) | go_in)
  go_ret2
  exact ⟨_, _, rfl, rfl⟩
/-! ### iSumNumbers -/
theorem c_iSum_no (a : Option Addr) (len cap : Nat) (w : World) (j0 : Nat) (h : 256 < len) : Calls Try.prog 17 #[.slice a len cap] (w.drewN j0) (RetV (.tuple #[.float .f32 0, .bool false]) w) := by
  go_enter Try.func17, Try.ntmps17
  go_wp2
  go_ret2
  exact ⟨_, rfl, rfl⟩
theorem c_iSum_yes (a : Option Addr) (len cap : Nat) (zs : List Nat) (w : World) (j0 : Nat) (hr : IsRowF .f32 w a len cap zs) (h : len ≤ 256) : Calls Try.prog 17 #[.slice a len cap] (w.drewN j0) (RetFB .f32 (sumF .add .f32 0 zs) w) := by
  obtain ⟨h1, h2, h3, h4, h5⟩ := hr
  unfold maxLen at h3
  go_enter Try.func17, Try.ntmps17
  go_wp2
  go_loopw [4, 12] (fun s i wr => ∃ k n m : Nat, k ≤ len ∧ i = .int .i64 k ∧ s = .float .f32 (pick .f32 (sumF .add .f32 0 (zs.take k)) n) ∧ wr = w.drewN m) (fun _ i _ => len - (intOf i).toNat)
  case atStart => exact ⟨0, 0, j0, Nat.zero_le _, rfl, rfl, rfl⟩
  case round =>
    obtain ⟨k, n, m, hk, rfl, rfl, rfl⟩ := hrel
    by_cases hlt : k < len
    · rcases h5 with h5 | ⟨b, off, rfl, hbl, hc⟩
      · omega
      have hcell : w.cell? ⟨b, off + k, none⟩ = some (.float .f32 (fat zs k)) := hc k hlt
      have HS := Lib.hid (sumF_snoc .add .f32 0 zs k (by omega))
      clear hc h4
      go_wp2_with (refine wpList_fop rfl _ _ _ _ _ rfl _ _ _ rfl rfl (by decide) _ ?_; intro _ _)
      go_roundw
      case rel => exact ⟨k + 1, _, _, by omega, by go_num, by rw [HS.out], rfl⟩
      case measure => simp [intOf]; omega
    · have e : zs.take k = zs := List.take_of_length_le (by omega)
      rw [e]
      clear h5 h4
      go_wp2
      go_ret2
      exact ⟨_, _, rfl, rfl⟩
/-! ### sameFloat -/
theorem c_sameFloat (v n m : Nat) (w : World) (j : Nat) : Calls Try.prog 10 #[.float .f64 (pick .f64 v n), .float .f64 (pick .f64 v m)] (w.drewN j) (RetV (.bool true) w) := by
  have hs := self_ne .f64 v
  have ht := self_eq .f64 v
  cases h : isN .f64 v
  · rw [h] at hs ht
    cases h2 : (FloatKind.f64.format.order v 0 == some .eq)
    · go_enter Try.func10, Try.ntmps10
      go_wp2_with (refine wpList_fop rfl _ _ _ _ _ rfl _ _ _ rfl rfl (by decide) _ ?_; intro _ _)
      go_ret
      exact ⟨_, rfl, rfl⟩
    · go_enter Try.func10, Try.ntmps10
      go_wp2_with (refine wpList_fop rfl _ _ _ _ _ rfl _ _ _ rfl rfl (by decide) _ ?_; intro _ _)
      go_ret
      exact ⟨_, by simp, rfl⟩
  · rw [h] at hs ht
    go_enter Try.func10, Try.ntmps10
    go_wp2_with (refine wpList_fop rfl _ _ _ _ _ rfl _ _ _ rfl rfl (by decide) _ ?_; intro _ _)
    go_ret
    exact ⟨_, rfl, rfl⟩

/-! ### eqFloat32S -/
theorem c_eqF (a b : Option Addr) (len c d : Nat) (zs : List Nat) (w : World) (j0 : Nat) (hr : IsRowF .f32 w a len c zs) (hs : IsRowF .f32 w b len d zs) : Calls Try.prog 18 #[.slice a len c, .slice b len d] (w.drewN j0) (RetV (.bool true) w) := by
  obtain ⟨h1, h2, h3, h4, h5⟩ := hr
  obtain ⟨g1, g2, g3, g4, g5⟩ := hs
  unfold maxLen at h3
  go_enter Try.func18, Try.ntmps18
  go_wp2
  go_loopw [5] (fun i wr => ∃ k m : Nat, k ≤ len ∧ i = .int .i64 k ∧ wr = w.drewN m) (fun i _ => len - (intOf i).toNat)
  case atStart => exact ⟨0, j0, Nat.zero_le _, rfl, rfl⟩
  case round =>
    obtain ⟨k, m, hk, rfl, rfl⟩ := hrel
    by_cases hlt : k < len
    · rcases h5 with h5 | ⟨x, off, rfl, hbl, hc⟩
      · omega
      rcases g5 with g5 | ⟨y, off2, rfl, gbl, gc⟩
      · omega
      have hcell : w.cell? ⟨x, off + k, none⟩ = some (.float .f32 (fat zs k)) := hc k hlt
      have gcell : w.cell? ⟨y, off2 + k, none⟩ = some (.float .f32 (fat zs k)) := gc k hlt
      clear hc h4 gc g4
      go_wp2
      refine wp_region_N (fun _ _ u => u = .bool true) (by kernel_rfl) (by kernel_rfl) ?_
      repeat (first | (refine wpN_fop rfl _ _ _ _ _ rfl _ _ _ rfl rfl (by decide) ?_; intro _) | (refine wpN_cvU rfl 22 25 _ rfl (Option.isSome_iff_exists.2 ⟨_, Try.underlying22⟩) Try.underlying25 _ rfl ?_; intro _) | ((refine wpN_plain rfl (fun K hK => ?_); intro _; go_simp; first | (refine uponN_value (hK _ ?_)) | ((refine uponN_call (callN rfl (c_sameFloat _ _ _ _ _)) ?_; intro u hu; obtain rfl : u = _ := hu); refine hK _ ?_)); clear hK K) | (refine wpN_step (fun K hK => ?_); go_simp; first | (refine hK _ ?_) | (intro _; first | (refine uponN_value (hK _ ?_)) | ((refine uponN_call (callN rfl (c_sameFloat _ _ _ _ _)) ?_; intro u hu; obtain rfl : u = _ := hu); refine hK _ ?_)); clear hK K))
      refine wpN_nil ?_
      intro _
      go_wp2
      go_roundw
      case rel => exact ⟨k + 1, _, by omega, by go_num, rfl⟩
      case measure => simp [intOf]; omega
    · clear h5 h4 g4 g5
      go_wp2
      go_ret
      exact ⟨_, rfl, rfl⟩
/-! ### FnExactSumNumbers -/
theorem walk (a : Option Addr) (len cap : Nat) (zs : List Nat) (w : World) (hr : IsRowF .f32 w a len cap zs) : Calls Try.prog 6 #[.slice a len cap] w fun e w' => e = .returned (.bool true) ∧ Below w.heap.size w w' := by
  by_cases hl : 1048576 < len
  · go_enter Try.func6, Try.ntmps6
    go_wp2_with fail
    go_ret
    exact ⟨rfl, Below.refl _ _⟩
  · by_cases h : 256 < len
    · have h1 := Lib.hid hr.1
      go_enter Try.func6, Try.ntmps6
      go_wp2_with fail
      refine (c_toF a len cap zs w hr (by omega)).mono ?_
      rintro _ w1 ⟨g1, rfl, hg1, hb1, hr1, _⟩
      go_wp2_with fail
      refine (c_sSum_no _ _ _ w1 0 (by have := h1.out; omega)).mono ?_
      rintro _ _ ⟨_, rfl, rfl⟩
      go_wp2_with fail
      refine (c_toF a len cap zs _ ((hr.below hb1).below (below_drewN (Below.refl _ _) _)) (by omega)).mono ?_
      rintro _ w2 ⟨g2, rfl, hg2, hb2, hr2, _⟩
      go_wp2_with fail
      refine (c_iSum_no _ _ _ w2 0 (by have := h1.out; omega)).mono ?_
      rintro _ _ ⟨_, rfl, rfl⟩
      have hB2 : Below w.heap.size w w2 := hb1.trans ((below_drewN (Below.refl _ _) _).trans (hb2.mono hb1.size))
      go_wp2_with (first | (refine wpList_cvU rfl 22 25 _ rfl (Option.isSome_iff_exists.2 ⟨_, Try.underlying22⟩) Try.underlying25 _ rfl _ ?_; intro _ _) | (go_at_call 10; refine (c_sameFloat _ _ _ _ _).mono ?_; rintro _ _ ⟨_, rfl, rfl⟩))
      refine (c_toF a len cap zs _ ((hr.below hB2).below (below_drewN (Below.refl _ _) _)) (by omega)).mono ?_
      rintro _ w3 ⟨g3, rfl, hg3, hb3, hr3, _⟩
      go_wp2_with fail
      have hr4 : IsRowF .f32 w3 (some ⟨g2, 0, none⟩) len len zs := (hr2.below (below_drewN (Below.refl _ _) _)).below hb3
      refine (c_eqF (some ⟨g2, 0, none⟩) (some ⟨g3, 0, none⟩) len len len zs w3 0 hr4 hr3).mono ?_
      rintro _ _ ⟨_, rfl, rfl⟩
      go_wp2_with fail
      go_ret
      exact ⟨rfl, hB2.trans ((below_drewN (Below.refl _ _) _).trans ((hb3.mono hB2.size).trans (below_drewN (Below.refl _ _) _)))⟩
    · have h1 := Lib.hid hr.1
      go_enter Try.func6, Try.ntmps6
      go_wp2_with fail
      refine (c_toF a len cap zs w hr (by omega)).mono ?_
      rintro _ w1 ⟨g1, rfl, hg1, hb1, hr1, _⟩
      go_wp2_with fail
      refine (c_sSum_yes _ _ _ zs w1 0 hr1 (by have := h1.out; omega)).mono ?_
      rintro _ _ ⟨_, _, rfl, rfl⟩
      go_wp2_with fail
      refine (c_toF a len cap zs _ ((hr.below hb1).below (below_drewN (Below.refl _ _) _)) (by omega)).mono ?_
      rintro _ w2 ⟨g2, rfl, hg2, hb2, hr2, _⟩
      go_wp2_with fail
      refine (c_iSum_yes _ _ _ zs w2 0 hr2 (by have := h1.out; omega)).mono ?_
      rintro _ _ ⟨_, _, rfl, rfl⟩
      have hB2 : Below w.heap.size w w2 := hb1.trans ((below_drewN (Below.refl _ _) _).trans (hb2.mono hb1.size))
      go_wp2_with (first | (refine wpList_cvU rfl 22 25 _ rfl (Option.isSome_iff_exists.2 ⟨_, Try.underlying22⟩) Try.underlying25 _ rfl _ ?_; intro _ _) | (go_at_call 10; refine (c_sameFloat _ _ _ _ _).mono ?_; rintro _ _ ⟨_, rfl, rfl⟩))
      refine (c_toF a len cap zs _ ((hr.below hB2).below (below_drewN (Below.refl _ _) _)) (by omega)).mono ?_
      rintro _ w3 ⟨g3, rfl, hg3, hb3, hr3, _⟩
      go_wp2_with fail
      have hr4 : IsRowF .f32 w3 (some ⟨g2, 0, none⟩) len len zs := (hr2.below (below_drewN (Below.refl _ _) _)).below hb3
      refine (c_eqF (some ⟨g2, 0, none⟩) (some ⟨g3, 0, none⟩) len len len zs w3 0 hr4 hr3).mono ?_
      rintro _ _ ⟨_, rfl, rfl⟩
      go_wp2_with fail
      go_ret
      exact ⟨rfl, hB2.trans ((below_drewN (Below.refl _ _) _).trans ((hb3.mono hB2.size).trans (below_drewN (Below.refl _ _) _)))⟩
theorem own : ownKnob Try.prog.godebug = none := by kernel_rfl
theorem laidOut : laidOutB Try.prog = true := by kernel_rfl
set_option maxRecDepth 100000 in
theorem lifted (os : Os) (started : os.Started) (H : Type) (enc : TypeId × Value → H) :
    ReturnsInHanded {} Try.checked os 6 .any (Rows.fnExactSumNumbersSpec.pre6 enc Try.prog Try.f6 Rows.fnExactSumNumbersRow.domain false) (Rows.fnExactSumNumbersSpec.post enc Try.prog Try.f6 false true false false) := by
  refine returnsInHanded_of_change (C := Try.checked) own started (by kernel_rfl) Try.func6
    (ChangeSpec.witness6 (enc := enc) (C := Try.checked) false ⟨#[], #[.slice none 0 0], []⟩ 8 (by kernel_rfl) (by kernel_rfl) (by kernel_rfl) (by kernel_rfl)) ?_
  intro W base args ds gs before hval0 hW hcnd _
  have hval : ∀ (j : Nat) t v, Try.f6.params[j]? = some t → args[j]? = some v → Value.okWide Try.prog W .any base t v := hval0
  have hW' := hW
  obtain ⟨p, q, hA0, hV, rfl, hfz, hnd⟩ := hW
  have hA : DataW.TrodAll enc Try.prog W 0 (fun _ => true) true Try.f6.params.toList args.toList ds p := hA0
  rw [Try.params6] at hA hval
  obtain ⟨v0, vs0, d0, ds0, p0, q0, hargs, rfl, rfl, h0, r0⟩ := trodAll_cons hA
  obtain ⟨rfl, rfl, rfl⟩ := trodAll_nil r0
  obtain rfl : args = #[v0] := by cases args; simp_all
  obtain ⟨rfl, rfl⟩ := trodVars_none hV
  obtain ⟨a0, len0, cap0, rfl⟩ := okWide_slice Try.underlying29 (hval 0 29 v0 rfl rfl)
  have k0 := h0
  have lt0 : ∀ x ∈ p0, x.block < W.heap.size := by obtain ⟨m, hm⟩ := k0; exact DataW.trod_lt m _ _ _ hm
  obtain ⟨z0, w0⟩ := rowF_of Try.underlying29 Try.underlying22 (by kernel_rfl) h0
  clear hA0 hval0
  have hw0 : Calls Try.prog 6 #[.slice a0 len0 cap0] W fun e w' => e = .returned (.bool true) ∧ Below W.heap.size W w' := by
    exact walk a0 len0 cap0 z0 W w0
  refine hw0.mono fun e W' ⟨he, bel⟩ => ?_
  subst he
  exact ⟨_, rfl, _, _, _, [], _, [], hW', trodAll_mk1 (shut_bool Try.underlying4 _), (trodAll_cons_mk (Below.trod laidOut (by kernel_rfl) (of_decide_eq_true (by kernel_rfl)) k0 bel lt0) trodAll_mk0), rfl, bel.frame _, fun h => by cases h⟩

theorem over : Rows.fnExactSumNumbersRow.holds Try.pinned (OpenSpec.ofChange Rows.fnExactSumNumbersSpec) :=
  OpenClaim.holds_of_wide 6 Try.f6 rfl rfl rfl rfl rfl rfl rfl ⟨rfl, rfl, rfl, rfl, rfl⟩ rfl rfl rfl rfl rfl (by kernel_rfl) Try.func6 (by kernel_rfl)
    (of_decide_eq_true (by kernel_rfl)) (by unfold Func.isWrapper; first | (rw [if_pos (by decide +kernel)]; kernel_rfl) | (rw [if_neg (by decide +kernel)]; exact ⟨rfl, rfl⟩))
    (fun os started H enc _ => lifted os started H enc)

theorem proved : Rows.FnExactSumNumbersSaid := over
#print axioms proved

end Go.Proofs.Ytfohhljadpchgag.fnExactSumNumbers

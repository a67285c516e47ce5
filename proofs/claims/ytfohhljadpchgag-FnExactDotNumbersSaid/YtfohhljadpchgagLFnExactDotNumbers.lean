/-
  FnExactDotNumbers: for every input this law of the program returns true, and each argument reads as before. No condition.
-/
import Derived.Test.YtfohhljadpchgagRows
import Derived.Test.YtfohhljadpchgagRow
import Derived.ProofKit
import Derived.OpenShut
import Derived.ShutString
import Derived.ChangeOld
import Derived.Below
import Derived.Lib.Hide
set_option linter.unusedSimpArgs false
set_option linter.unusedVariables false
set_option exponentiation.threshold 2000
namespace Go.Proofs.Ytfohhljadpchgag.fnExactDotNumbers
open Go Go.Proofs.Ytfohhljadpchgag Go.Proofs
open Go.ChangeShapes Go.WideShapes Go.ChangeAt Go.RowKit
open Go.ChangeMaps (open_string shut_string)
/-! ### toFloat32S -/
theorem infoF : (Try.prog.info? 22).map (fun i => (i.zero, i.size, i.bytes)) = some (some (.float .f32 0), 1, 4) := by kernel_rfl
theorem c_toF (a : Option Addr) (len cap : Nat) (zs : List Nat) (w : World) (hr : IsRowF .f32 w a len cap zs) (hl : len ≤ 1048576) : Calls Try.prog 16 #[.slice a len cap] w (NewF .f32 zs len w) := by
  obtain ⟨i0, hi, hz0, hz1, hz2⟩ := info_parts infoF
  obtain ⟨h1, h2, h3, h4, h5⟩ := hr
  go_enter Try.func16, Try.ntmps16
  go_wp2_with (at_make; refine wpList_make_full _ rfl _ _ 29 rfl w.heap.size 22 i0 (.float .f32 0) 1 Try.underlying29 hi hz0 hz1 _ _ _ _ len rfl rfl rfl rfl (by rw [hz2]; omega) (by unfold maxLen; omega) (by simp) ?_; intro w1 hown hgrow)
  have hblk := block_of_owns hown
  have e0 : (madeCells (Value.float FloatKind.f32 0).cells (len * 1)).toList = List.replicate len (.float .f32 0) := by rw [Nat.mul_one]; exact made_zeros _ _
  rw [e0] at hblk
  have hbel : Below w.heap.size w w1 := (Below.refl _ _).grown hgrow (Nat.le_refl _) (by simp)
  have HB := Lib.hid hblk
  clear hown hgrow hblk e0 hz0 hz1 hz2
  go_loopw [4] (fun i wr => ∃ j : Nat, j ≤ len ∧ i = .int .i64 j ∧ Below w.heap.size w wr ∧ wr.heap[w.heap.size]? = some (.cells (fl .f32 (zs.take j) ++ List.replicate (zs.length - j) (Value.float .f32 0)).toArray 22 (0, 0))) (fun i _ => len - (intOf i).toNat)
  case atStart => exact ⟨0, Nat.zero_le _, rfl, hbel, by rw [HB.out, h1]; rfl⟩
  case round =>
    obtain ⟨j, hj, rfl, hb, hblk⟩ := hrel
    have Hblk := Lib.hid hblk
    clear hblk
    by_cases hlt : j < len
    · rcases h5 with h5 | ⟨b, off, rfl, hbl, hc⟩
      · omega
      have hcell : wr.cell? ⟨b, off + j, none⟩ = some (.float .f32 (fat zs j)) := by rw [hb.cell (p := ⟨b, off + j, none⟩) hbl]; exact hc j hlt
      have hold : wr.cell? ⟨w.heap.size, j, none⟩ = some (.float .f32 0) := by
        rw [cell_of_block Hblk.out, List.getElem?_append_right (by simp [fl]; omega)]
        have e : (fl FloatKind.f32 (List.take j zs)).length = j := by simp [fl]; omega
        rw [e, Nat.sub_self, List.getElem?_replicate, if_pos (by omega)]
      have hfz : wr.frozen? ⟨w.heap.size, j, none⟩ = false := frozen_of_block Hblk.out j
      have hset := block_set Hblk.out j (.float .f32 (fat zs j))
      rw [set_step zs _ j (by omega)] at hset
      have Hset := Lib.hid hset
      clear hset hc
      go_wp2
      go_roundw
      case rel => exact ⟨j + 1, by omega, by go_num, hb.setCell (Nat.le_refl _) _, Hset.out⟩
      case measure => simp [intOf]; omega
    · obtain rfl : j = len := by omega
      have e1 : fl .f32 (zs.take j) ++ List.replicate (zs.length - j) (Value.float .f32 0) = fl .f32 zs := by rw [h1, Nat.sub_self, List.replicate_zero, List.append_nil, List.take_of_length_le (by omega)]
      have hblk2 := Hblk.out
      rw [e1] at hblk2
      have hrow := rowF_of_block hblk2 (by unfold maxLen at *; omega) h4
      have hfz := frozen_of_block hblk2
      have HF := Lib.hid hfz
      have HR := Lib.hid hrow
      clear hfz hrow hblk2 e1
      go_wp2
      go_ret
      exact ⟨w.heap.size, rfl, Nat.le_refl _, hb, by have := HR.out; rwa [h1] at this, HF.out⟩
/-! ### l01Dot -/
theorem c_l01Dot (a b : Option Addr) (len c d : Nat) (xs ys : List Nat) (w : World) (j0 : Nat) (hr : IsRowF .f32 w a len c xs) (hs : IsRowF .f32 w b len d ys) : Calls Try.prog 34 #[.slice a len c, .slice b len d] (w.drewN j0) (RetF .f32 (dotF .f32 0 xs ys) w) := by
  obtain ⟨h1, h2, h3, h4, h5⟩ := hr
  obtain ⟨g1, g2, g3, g4, g5⟩ := hs
  unfold maxLen at h3
  have G1 := Lib.hid g1
  have H1 := Lib.hid h1
  clear g1 h1
  go_enter Try.func34, Try.ntmps34
  go_wp2
  go_loopw [5, 6] (fun s i wr => ∃ k n m : Nat, k ≤ len ∧ i = .int .i64 k ∧ s = .float .f32 (pick .f32 (dotF .f32 0 (xs.take k) (ys.take k)) n) ∧ wr = w.drewN m) (fun _ i _ => len - (intOf i).toNat)
  case atStart => exact ⟨0, 0, j0, Nat.zero_le _, rfl, rfl, rfl⟩
  case round =>
    obtain ⟨k, n, m, hk, rfl, rfl, rfl⟩ := hrel
    by_cases hlt : k < len
    · rcases h5 with h5 | ⟨x, off, rfl, hbl, hc⟩
      · omega
      rcases g5 with g5 | ⟨y, off2, rfl, gbl, gc⟩
      · omega
      have hcell : w.cell? ⟨x, off + k, none⟩ = some (.float .f32 (fat xs k)) := hc k hlt
      have gcell : w.cell? ⟨y, off2 + k, none⟩ = some (.float .f32 (fat ys k)) := gc k hlt
      have HS := Lib.hid (dotF_snoc .f32 xs ys 0 k (by have := H1.out; omega) (by have := G1.out; omega))
      clear hc h4 gc g4
      go_wp2
      refine wp_region_N (fun _ _ _ => False) (by kernel_rfl) (by kernel_rfl) ?_
      repeat (first | (refine wpN_fop rfl _ _ _ _ _ rfl _ _ _ rfl rfl (by decide) ?_; intro _) | (refine wpN_cvU rfl 22 25 _ rfl (Option.isSome_iff_exists.2 ⟨_, Try.underlying22⟩) Try.underlying25 _ rfl ?_; intro _) | ((refine wpN_plain rfl (fun K hK => ?_); intro _; go_simp; first | (refine uponN_value (hK _ ?_)) | (fail; refine hK _ ?_)); clear hK K) | (refine wpN_step (fun K hK => ?_); go_simp; first | (refine hK _ ?_) | (intro _; first | (refine uponN_value (hK _ ?_)) | (fail; refine hK _ ?_)); clear hK K))
      refine wpN_nil ?_
      intro _
      go_wp2
      go_roundw
      case rel => exact ⟨k + 1, _, _, by omega, by go_num, by rw [HS.out], rfl⟩
      case measure => simp [intOf]; omega
    · have e : xs.take k = xs := List.take_of_length_le (by have := H1.out; omega)
      have e2 : ys.take k = ys := List.take_of_length_le (by have := G1.out; omega)
      rw [e, e2]
      clear h5 h4 g5 g4 e e2
      go_wp2
      go_ret
      exact ⟨_, _, rfl, rfl⟩
/-! ### sDotNumbers -/
theorem c_sDot_no (a b : Option Addr) (len c len2 d : Nat) (w : World) (j0 : Nat) (h : 256 < len ∨ len ≠ len2) : Calls Try.prog 19 #[.slice a len c, .slice b len2 d] (w.drewN j0) (RetV (.tuple #[.float .f32 0, .bool false]) w) := by
  by_cases h1 : 256 < len
  · have hd : decide ((len : Int) ≤ 256) = false := decide_eq_false (by omega)
    clear h
    go_enter Try.func19, Try.ntmps19
    go_wp2
    go_ret2
    exact ⟨_, rfl, rfl⟩
  · have hd : decide ((len : Int) ≤ 256) = true := decide_eq_true (by omega)
    have he : ((len : Int) != (len2 : Int)) = true := by rw [bne_iff_ne]; omega
    clear h
    go_enter Try.func19, Try.ntmps19
    go_wp2
    go_ret2
    exact ⟨_, rfl, rfl⟩
theorem c_sDot_yes (a b : Option Addr) (len c d : Nat) (xs ys : List Nat) (w : World) (j0 : Nat) (hr : IsRowF .f32 w a len c xs) (hs : IsRowF .f32 w b len d ys) (h : len ≤ 256) : Calls Try.prog 19 #[.slice a len c, .slice b len d] (w.drewN j0) (RetFB .f32 (dotF .f32 0 xs ys) w) := by
  have hd : decide ((len : Int) ≤ 256) = true := decide_eq_true (by omega)
  have H := Lib.hid hr
  have G := Lib.hid hs
  clear hr hs
  go_enter Try.func19, Try.ntmps19
  go_wp2_with (first | (go_at_call 34; refine (c_l01Dot _ _ _ _ _ _ _ _ _ H.out G.out).mono ?_; rintro _ _ ⟨_, _, rfl, rfl⟩) | go_in)
  go_ret2
  exact ⟨_, _, rfl, rfl⟩
/-! ### iDotNumbers -/
theorem c_iDot_no (a b : Option Addr) (len c len2 d : Nat) (w : World) (j0 : Nat) (h : 256 < len ∨ len ≠ len2) : Calls Try.prog 20 #[.slice a len c, .slice b len2 d] (w.drewN j0) (RetV (.tuple #[.float .f32 0, .bool false]) w) := by
  by_cases h1 : len ≠ len2
  · have he : ((len : Int) != (len2 : Int)) = true := by rw [bne_iff_ne]; omega
    clear h
    go_enter Try.func20, Try.ntmps20
    go_wp2
    go_ret2
    exact ⟨_, rfl, rfl⟩
  · obtain rfl : len = len2 := by omega
    have h2 : 256 < len := by omega
    clear h h1
    go_enter Try.func20, Try.ntmps20
    go_wp2
    go_ret2
    exact ⟨_, rfl, rfl⟩
theorem c_iDot_yes (a b : Option Addr) (len c d : Nat) (xs ys : List Nat) (w : World) (j0 : Nat) (hr : IsRowF .f32 w a len c xs) (hs : IsRowF .f32 w b len d ys) (h : len ≤ 256) : Calls Try.prog 20 #[.slice a len c, .slice b len d] (w.drewN j0) (RetFB .f32 (dotF .f32 0 xs ys) w) := by
  obtain ⟨h1, h2, h3, h4, h5⟩ := hr
  obtain ⟨g1, g2, g3, g4, g5⟩ := hs
  unfold maxLen at h3
  have G1 := Lib.hid g1
  have H1 := Lib.hid h1
  clear g1 h1
  go_enter Try.func20, Try.ntmps20
  go_wp2
  go_loopw [6, 21] (fun s i wr => ∃ k n m : Nat, k ≤ len ∧ i = .int .i64 k ∧ s = .float .f32 (pick .f32 (dotF .f32 0 (xs.take k) (ys.take k)) n) ∧ wr = w.drewN m) (fun _ i _ => len - (intOf i).toNat)
  case atStart => exact ⟨0, 0, j0, Nat.zero_le _, rfl, rfl, rfl⟩
  case round =>
    obtain ⟨k, n, m, hk, rfl, rfl, rfl⟩ := hrel
    by_cases hlt : k < len
    · rcases h5 with h5 | ⟨x, off, rfl, hbl, hc⟩
      · omega
      rcases g5 with g5 | ⟨y, off2, rfl, gbl, gc⟩
      · omega
      have hcell : w.cell? ⟨x, off + k, none⟩ = some (.float .f32 (fat xs k)) := hc k hlt
      have gcell : w.cell? ⟨y, off2 + k, none⟩ = some (.float .f32 (fat ys k)) := gc k hlt
      have HS := Lib.hid (dotF_snoc .f32 xs ys 0 k (by have := H1.out; omega) (by have := G1.out; omega))
      clear hc h4 gc g4
      go_wp2_with (refine wpList_fop rfl _ _ _ _ _ rfl _ _ _ rfl rfl (by decide) _ ?_; intro _ _)
      go_roundw
      case rel => exact ⟨k + 1, _, _, by omega, by go_num, by rw [HS.out], rfl⟩
      case measure => simp [intOf]; omega
    · have e : xs.take k = xs := List.take_of_length_le (by have := H1.out; omega)
      have e2 : ys.take k = ys := List.take_of_length_le (by have := G1.out; omega)
      rw [e, e2]
      clear h5 h4 g5 g4 e e2
      go_wp2
      go_ret2
      exact ⟨_, _, rfl, rfl⟩
/-! ### sameFloat -/
theorem c_sameFloat (v n m : Nat) (w : World) (j : Nat) : Calls Try.prog 10 #[.float .f64 (pick .f64 v n), .float .f64 (pick .f64 v m)] (w.drewN j) (RetV (.bool true) w) := by
  have hs := self_ne .f64 v
  have ht := self_eq .f64 v
  cases h : isN .f64 v
  · rw [h] at hs ht
    cases h2 : (FloatKind.f64.format.order v 0 == some .eq)
    · go_enter Try.func10, Try.ntmps10
      go_wp2_with (refine wpList_fop rfl _ _ _ _ _ rfl _ _ _ rfl rfl (by decide) _ ?_; intro _ _)
      go_ret
      exact ⟨_, rfl, rfl⟩
    · go_enter Try.func10, Try.ntmps10
      go_wp2_with (refine wpList_fop rfl _ _ _ _ _ rfl _ _ _ rfl rfl (by decide) _ ?_; intro _ _)
      go_ret
      exact ⟨_, by simp, rfl⟩
  · rw [h] at hs ht
    go_enter Try.func10, Try.ntmps10
    go_wp2_with (refine wpList_fop rfl _ _ _ _ _ rfl _ _ _ rfl rfl (by decide) _ ?_; intro _ _)
    go_ret
    exact ⟨_, rfl, rfl⟩

/-! ### eqFloat32S -/
theorem c_eqF (a b : Option Addr) (len c d : Nat) (zs : List Nat) (w : World) (j0 : Nat) (hr : IsRowF .f32 w a len c zs) (hs : IsRowF .f32 w b len d zs) : Calls Try.prog 18 #[.slice a len c, .slice b len d] (w.drewN j0) (RetV (.bool true) w) := by
  obtain ⟨h1, h2, h3, h4, h5⟩ := hr
  obtain ⟨g1, g2, g3, g4, g5⟩ := hs
  unfold maxLen at h3
  go_enter Try.func18, Try.ntmps18
  go_wp2
  go_loopw [5] (fun i wr => ∃ k m : Nat, k ≤ len ∧ i = .int .i64 k ∧ wr = w.drewN m) (fun i _ => len - (intOf i).toNat)
  case atStart => exact ⟨0, j0, Nat.zero_le _, rfl, rfl⟩
  case round =>
    obtain ⟨k, m, hk, rfl, rfl⟩ := hrel
    by_cases hlt : k < len
    · rcases h5 with h5 | ⟨x, off, rfl, hbl, hc⟩
      · omega
      rcases g5 with g5 | ⟨y, off2, rfl, gbl, gc⟩
      · omega
      have hcell : w.cell? ⟨x, off + k, none⟩ = some (.float .f32 (fat zs k)) := hc k hlt
      have gcell : w.cell? ⟨y, off2 + k, none⟩ = some (.float .f32 (fat zs k)) := gc k hlt
      clear hc h4 gc g4
      go_wp2
      refine wp_region_N (fun _ _ u => u = .bool true) (by kernel_rfl) (by kernel_rfl) ?_
      repeat (first | (refine wpN_fop rfl _ _ _ _ _ rfl _ _ _ rfl rfl (by decide) ?_; intro _) | (refine wpN_cvU rfl 22 25 _ rfl (Option.isSome_iff_exists.2 ⟨_, Try.underlying22⟩) Try.underlying25 _ rfl ?_; intro _) | ((refine wpN_plain rfl (fun K hK => ?_); intro _; go_simp; first | (refine uponN_value (hK _ ?_)) | ((refine uponN_call (callN rfl (c_sameFloat _ _ _ _ _)) ?_; intro u hu; obtain rfl : u = _ := hu); refine hK _ ?_)); clear hK K) | (refine wpN_step (fun K hK => ?_); go_simp; first | (refine hK _ ?_) | (intro _; first | (refine uponN_value (hK _ ?_)) | ((refine uponN_call (callN rfl (c_sameFloat _ _ _ _ _)) ?_; intro u hu; obtain rfl : u = _ := hu); refine hK _ ?_)); clear hK K))
      refine wpN_nil ?_
      intro _
      go_wp2
      go_roundw
      case rel => exact ⟨k + 1, _, by omega, by go_num, rfl⟩
      case measure => simp [intOf]; omega
    · clear h5 h4 g4 g5
      go_wp2
      go_ret
      exact ⟨_, rfl, rfl⟩
/-! ### FnExactDotNumbers -/
set_option maxHeartbeats 1000000 in
theorem walk_no (a : Option Addr) (len cap : Nat) (xs : List Nat) (b : Option Addr) (len2 cap2 : Nat) (ys : List Nat) (w : World) (hr : IsRowF .f32 w a len cap xs) (hs : IsRowF .f32 w b len2 cap2 ys) (h1 : len ≤ 1048576) (h2 : len2 ≤ 1048576) (h : 256 < len ∨ len ≠ len2) : Calls Try.prog 7 #[.slice a len cap, .slice b len2 cap2] w fun e w' => e = .returned (.bool true) ∧ Below w.heap.size w w' := by
  have H0 := Lib.hid hr.1
  have H1 := Lib.hid hs.1
  go_enter Try.func7, Try.ntmps7
  go_wp2_with fail
  refine (c_toF a len cap xs w hr h1).mono ?_
  rintro _ w1 ⟨g1, rfl, _, b1, r1', _⟩
  go_wp2_with fail
  refine (c_toF b len2 cap2 ys w1 (hs.below b1) h2).mono ?_
  rintro _ w2 ⟨g2, rfl, _, b2, r2, _⟩
  have r1 := r1'.below b2
  go_wp2_with fail
  refine (c_sDot_no _ _ _ _ _ _ w2 0 (by have := H0.out; have := H1.out; omega)).mono ?_
  rintro _ _ ⟨_, rfl, rfl⟩
  have B2 : Below w.heap.size w w2 := b1.trans (b2.mono b1.size)
  go_wp2_with fail
  refine (c_toF a len cap xs _ ((hr.below B2).below (below_drewN (Below.refl _ _) _)) h1).mono ?_
  rintro _ w3 ⟨g3, rfl, _, b3, r3', _⟩
  have B3 : Below w.heap.size w w3 := B2.trans ((below_drewN (Below.refl _ _) _).trans (b3.mono B2.size))
  go_wp2_with fail
  refine (c_toF b len2 cap2 ys w3 (hs.below B3) h2).mono ?_
  rintro _ w4 ⟨g4, rfl, _, b4, r4, _⟩
  have r3 := r3'.below b4
  have B4 : Below w.heap.size w w4 := B3.trans (b4.mono B3.size)
  go_wp2_with fail
  refine (c_iDot_no _ _ _ _ _ _ w4 0 (by have := H0.out; have := H1.out; omega)).mono ?_
  rintro _ _ ⟨_, rfl, rfl⟩
  go_wp2_with (first | (refine wpList_cvU rfl 22 25 _ rfl (Option.isSome_iff_exists.2 ⟨_, Try.underlying22⟩) Try.underlying25 _ rfl _ ?_; intro _ _) | (go_at_call 10; refine (c_sameFloat _ _ _ _ _).mono ?_; rintro _ _ ⟨_, rfl, rfl⟩))
  refine (c_toF a len cap xs _ ((hr.below B4).below (below_drewN (Below.refl _ _) _)) h1).mono ?_
  rintro _ w5 ⟨g5, rfl, _, b5, r5, _⟩
  have r3b := (r3.below (below_drewN (Below.refl _ _) _)).below b5
  have r4b := (r4.below (below_drewN (Below.refl _ _) _)).below b5
  have B5 : Below w.heap.size w w5 := B4.trans ((below_drewN (Below.refl _ _) _).trans (b5.mono B4.size))
  go_wp2_with fail
  refine (c_eqF _ _ _ _ _ xs w5 0 r3b r5).mono ?_
  rintro _ _ ⟨_, rfl, rfl⟩
  go_wp2_with fail
  refine (c_toF b len2 cap2 ys _ ((hs.below B5).below (below_drewN (Below.refl _ _) _)) h2).mono ?_
  rintro _ w6 ⟨g6, rfl, _, b6, r6, _⟩
  have r4c := (r4b.below (below_drewN (Below.refl _ _) _)).below b6
  have B6 : Below w.heap.size w w6 := B5.trans ((below_drewN (Below.refl _ _) _).trans (b6.mono B5.size))
  go_wp2_with fail
  refine (c_eqF _ _ _ _ _ ys w6 0 r4c r6).mono ?_
  rintro _ _ ⟨_, rfl, rfl⟩
  go_wp2_with fail
  go_ret
  exact ⟨rfl, below_drewN B6 _⟩
set_option maxHeartbeats 1000000 in
theorem walk_yes (a : Option Addr) (len cap : Nat) (xs : List Nat) (b : Option Addr) (cap2 : Nat) (ys : List Nat) (w : World) (hr : IsRowF .f32 w a len cap xs) (hs : IsRowF .f32 w b len cap2 ys) (h1 : len ≤ 1048576) (h : len ≤ 256) : Calls Try.prog 7 #[.slice a len cap, .slice b len cap2] w fun e w' => e = .returned (.bool true) ∧ Below w.heap.size w w' := by
  have h2 := h1
  have H0 := Lib.hid hr.1
  have H1 := Lib.hid hs.1
  go_enter Try.func7, Try.ntmps7
  go_wp2_with fail
  refine (c_toF a len cap xs w hr h1).mono ?_
  rintro _ w1 ⟨g1, rfl, _, b1, r1', _⟩
  go_wp2_with fail
  refine (c_toF b len cap2 ys w1 (hs.below b1) h2).mono ?_
  rintro _ w2 ⟨g2, rfl, _, b2, r2, _⟩
  have r1 := r1'.below b2
  go_wp2_with fail
  refine (c_sDot_yes _ _ _ _ _ xs ys w2 0 r1 r2 (by have := H0.out; omega)).mono ?_
  rintro _ _ ⟨_, _, rfl, rfl⟩
  have B2 : Below w.heap.size w w2 := b1.trans (b2.mono b1.size)
  go_wp2_with fail
  refine (c_toF a len cap xs _ ((hr.below B2).below (below_drewN (Below.refl _ _) _)) h1).mono ?_
  rintro _ w3 ⟨g3, rfl, _, b3, r3', _⟩
  have B3 : Below w.heap.size w w3 := B2.trans ((below_drewN (Below.refl _ _) _).trans (b3.mono B2.size))
  go_wp2_with fail
  refine (c_toF b len cap2 ys w3 (hs.below B3) h2).mono ?_
  rintro _ w4 ⟨g4, rfl, _, b4, r4, _⟩
  have r3 := r3'.below b4
  have B4 : Below w.heap.size w w4 := B3.trans (b4.mono B3.size)
  go_wp2_with fail
  refine (c_iDot_yes _ _ _ _ _ xs ys w4 0 r3 r4 (by have := H0.out; omega)).mono ?_
  rintro _ _ ⟨_, _, rfl, rfl⟩
  go_wp2_with (first | (refine wpList_cvU rfl 22 25 _ rfl (Option.isSome_iff_exists.2 ⟨_, Try.underlying22⟩) Try.underlying25 _ rfl _ ?_; intro _ _) | (go_at_call 10; refine (c_sameFloat _ _ _ _ _).mono ?_; rintro _ _ ⟨_, rfl, rfl⟩))
  refine (c_toF a len cap xs _ ((hr.below B4).below (below_drewN (Below.refl _ _) _)) h1).mono ?_
  rintro _ w5 ⟨g5, rfl, _, b5, r5, _⟩
  have r3b := (r3.below (below_drewN (Below.refl _ _) _)).below b5
  have r4b := (r4.below (below_drewN (Below.refl _ _) _)).below b5
  have B5 : Below w.heap.size w w5 := B4.trans ((below_drewN (Below.refl _ _) _).trans (b5.mono B4.size))
  go_wp2_with fail
  refine (c_eqF _ _ _ _ _ xs w5 0 r3b r5).mono ?_
  rintro _ _ ⟨_, rfl, rfl⟩
  go_wp2_with fail
  refine (c_toF b len cap2 ys _ ((hs.below B5).below (below_drewN (Below.refl _ _) _)) h2).mono ?_
  rintro _ w6 ⟨g6, rfl, _, b6, r6, _⟩
  have r4c := (r4b.below (below_drewN (Below.refl _ _) _)).below b6
  have B6 : Below w.heap.size w w6 := B5.trans ((below_drewN (Below.refl _ _) _).trans (b6.mono B5.size))
  go_wp2_with fail
  refine (c_eqF _ _ _ _ _ ys w6 0 r4c r6).mono ?_
  rintro _ _ ⟨_, rfl, rfl⟩
  go_wp2_with fail
  go_ret
  exact ⟨rfl, below_drewN B6 _⟩
theorem walk (a : Option Addr) (len cap : Nat) (xs : List Nat) (b : Option Addr) (len2 cap2 : Nat) (ys : List Nat) (w : World) (hr : IsRowF .f32 w a len cap xs) (hs : IsRowF .f32 w b len2 cap2 ys) : Calls Try.prog 7 #[.slice a len cap, .slice b len2 cap2] w fun e w' => e = .returned (.bool true) ∧ Below w.heap.size w w' := by
  by_cases h1 : 1048576 < len
  · go_enter Try.func7, Try.ntmps7
    go_wp2_with fail
    go_ret
    exact ⟨rfl, Below.refl _ _⟩
  · by_cases h2 : 1048576 < len2
    · go_enter Try.func7, Try.ntmps7
      go_wp2_with fail
      go_ret
      exact ⟨rfl, Below.refl _ _⟩
    · by_cases h : 256 < len ∨ len ≠ len2
      · exact walk_no a len cap xs b len2 cap2 ys w hr hs (by omega) (by omega) h
      · obtain rfl : len = len2 := by omega
        exact walk_yes a len cap xs b cap2 ys w hr hs (by omega) (by omega)

theorem own : ownKnob Try.prog.godebug = none := by kernel_rfl
theorem laidOut : laidOutB Try.prog = true := by kernel_rfl
set_option maxRecDepth 100000 in
theorem lifted (os : Os) (started : os.Started) (H : Type) (enc : TypeId × Value → H) :
    ReturnsInHanded {} Try.checked os 7 .any (Rows.fnExactDotNumbersSpec.pre6 enc Try.prog Try.f7 Rows.fnExactDotNumbersRow.domain false) (Rows.fnExactDotNumbersSpec.post enc Try.prog Try.f7 false true false false) := by
  refine returnsInHanded_of_change (C := Try.checked) own started (by kernel_rfl) Try.func7
    (ChangeSpec.witness6 (enc := enc) (C := Try.checked) false ⟨#[], #[.slice none 0 0, .slice none 0 0], []⟩ 8 (by kernel_rfl) (by kernel_rfl) (by kernel_rfl) (by kernel_rfl)) ?_
  intro W base args ds gs before hval0 hW hcnd _
  have hval : ∀ (j : Nat) t v, Try.f7.params[j]? = some t → args[j]? = some v → Value.okWide Try.prog W .any base t v := hval0
  have hW' := hW
  obtain ⟨p, q, hA0, hV, rfl, hfz, hnd⟩ := hW
  have hA : DataW.TrodAll enc Try.prog W 0 (fun _ => true) true Try.f7.params.toList args.toList ds p := hA0
  rw [Try.params7] at hA hval
  obtain ⟨v0, vs0, d0, ds0, p0, q0, hargs, rfl, rfl, h0, r0⟩ := trodAll_cons hA
  obtain ⟨v1, vs1, d1, ds1, p1, q1, rfl, rfl, rfl, h1, r1⟩ := trodAll_cons r0
  obtain ⟨rfl, rfl, rfl⟩ := trodAll_nil r1
  obtain rfl : args = #[v0, v1] := by cases args; simp_all
  obtain ⟨rfl, rfl⟩ := trodVars_none hV
  obtain ⟨a0, len0, cap0, rfl⟩ := okWide_slice Try.underlying29 (hval 0 29 v0 rfl rfl)
  have k0 := h0
  have lt0 : ∀ x ∈ p0, x.block < W.heap.size := by obtain ⟨m, hm⟩ := k0; exact DataW.trod_lt m _ _ _ hm
  obtain ⟨z0, w0⟩ := rowF_of Try.underlying29 Try.underlying22 (by kernel_rfl) h0
  obtain ⟨a1, len1, cap1, rfl⟩ := okWide_slice Try.underlying29 (hval 1 29 v1 rfl rfl)
  have k1 := h1
  have lt1 : ∀ x ∈ p1, x.block < W.heap.size := by obtain ⟨m, hm⟩ := k1; exact DataW.trod_lt m _ _ _ hm
  obtain ⟨z1, w1⟩ := rowF_of Try.underlying29 Try.underlying22 (by kernel_rfl) h1
  clear hA0 hval0
  have hw0 : Calls Try.prog 7 #[.slice a0 len0 cap0, .slice a1 len1 cap1] W fun e w' => e = .returned (.bool true) ∧ Below W.heap.size W w' := by
    exact walk a0 len0 cap0 z0 a1 len1 cap1 z1 W w0 w1
  refine hw0.mono fun e W' ⟨he, bel⟩ => ?_
  subst he
  exact ⟨_, rfl, _, _, _, [], _, [], hW', trodAll_mk1 (shut_bool Try.underlying4 _), (trodAll_cons_mk (Below.trod laidOut (by kernel_rfl) (of_decide_eq_true (by kernel_rfl)) k0 bel lt0) (trodAll_cons_mk (Below.trod laidOut (by kernel_rfl) (of_decide_eq_true (by kernel_rfl)) k1 bel lt1) trodAll_mk0)), rfl, bel.frame _, fun h => by cases h⟩

theorem over : Rows.fnExactDotNumbersRow.holds Try.pinned (OpenSpec.ofChange Rows.fnExactDotNumbersSpec) :=
  OpenClaim.holds_of_wide 7 Try.f7 rfl rfl rfl rfl rfl rfl rfl ⟨rfl, rfl, rfl, rfl, rfl⟩ rfl rfl rfl rfl rfl (by kernel_rfl) Try.func7 (by kernel_rfl)
    (of_decide_eq_true (by kernel_rfl)) (by unfold Func.isWrapper; first | (rw [if_pos (by decide +kernel)]; kernel_rfl) | (rw [if_neg (by decide +kernel)]; exact ⟨rfl, rfl⟩))
    (fun os started H enc _ => lifted os started H enc)

theorem proved : Rows.FnExactDotNumbersSaid := over
#print axioms proved

end Go.Proofs.Ytfohhljadpchgag.fnExactDotNumbers

/-
  FnExactBendAt: for every input this law of the program returns true, and each argument reads as before. No condition.
-/
import Derived.Test.YtbloibljjhddaabRows
import Derived.Test.YtbloibljjhddaabRow
import Derived.Test.YtbloibljjhddaabTi
import Derived.Test.YtbloibljjhddaabAp
import Derived.ProofKit
import Derived.OpenShut
import Derived.ShutString
import Derived.ChangeOld
import Derived.Below
import Derived.Lib.Hide
import Derived.Outline
import Derived.Deep.RegionHeld3
import Derived.Deep.DeepCutAuto
set_option linter.unusedSimpArgs false
set_option linter.unusedVariables false
set_option exponentiation.threshold 2000
set_option maxRecDepth 20000
set_option maxHeartbeats 4000000
namespace Go.Proofs.Ytbloibljjhddaab.fnExactBendAt
open Go Go.Proofs.Ytbloibljjhddaab Go.Proofs
open Go.ChangeShapes Go.WideShapes Go.ChangeAt Go.RowKit
open Go.ChangeMaps (open_string shut_string)
/-! ### toFloat32S -/
theorem infoF : (Try.prog.info? 36).map (fun i => (i.zero, i.size, i.bytes)) = some (some (.float .f32 0), 1, 4) := by kernel_rfl
theorem c_toF (a : Option Addr) (len cap : Nat) (zs : List Nat) (w : World) (hr : IsRowF .f32 w a len cap zs) (hl : len ≤ 1048576) : Calls Try.prog 13 #[.slice a len cap] w (NewF .f32 zs len w) := by
  obtain ⟨i0, hi, hz0, hz1, hz2⟩ := info_parts infoF
  obtain ⟨h1, h2, h3, h4, h5⟩ := hr
  go_enter Try.func13, Try.ntmps13
  go_wp2_with (at_make; refine wpList_make_full _ rfl _ _ 22 rfl w.heap.size 36 i0 (.float .f32 0) 1 Try.underlying22 hi hz0 hz1 _ _ _ _ len rfl rfl rfl rfl (by rw [hz2]; omega) (by unfold maxLen; omega) (by simp) ?_; intro w1 hown hgrow)
  have hblk := block_of_owns hown
  have e0 : (madeCells (Value.float FloatKind.f32 0).cells (len * 1)).toList = List.replicate len (.float .f32 0) := by rw [Nat.mul_one]; exact made_zeros _ _
  rw [e0] at hblk
  have hbel : Below w.heap.size w w1 := (Below.refl _ _).grown hgrow (Nat.le_refl _) (by simp)
  have HB := Lib.hid hblk
  clear hown hgrow hblk e0 hz0 hz1 hz2
  go_loopw [4] (fun i wr => ∃ j : Nat, j ≤ len ∧ i = .int .i64 j ∧ Below w.heap.size w wr ∧ wr.heap[w.heap.size]? = some (.cells (fl .f32 (zs.take j) ++ List.replicate (zs.length - j) (Value.float .f32 0)).toArray 36 (0, 0))) (fun i _ => len - (intOf i).toNat)
  case atStart => exact ⟨0, Nat.zero_le _, rfl, hbel, by rw [HB.out, h1]; rfl⟩
  case round =>
    obtain ⟨j, hj, rfl, hb, hblk⟩ := hrel
    have Hblk := Lib.hid hblk
    clear hblk
    by_cases hlt : j < len
    · rcases h5 with h5 | ⟨b, off, rfl, hbl, hc⟩
      · omega
      have hcell : wr.cell? ⟨b, off + j, none⟩ = some (.float .f32 (fat zs j)) := by rw [hb.cell (p := ⟨b, off + j, none⟩) hbl]; exact hc j hlt
      have hold : wr.cell? ⟨w.heap.size, j, none⟩ = some (.float .f32 0) := by
        rw [cell_of_block Hblk.out, List.getElem?_append_right (by simp [fl]; omega)]
        have e : (fl FloatKind.f32 (List.take j zs)).length = j := by simp [fl]; omega
        rw [e, Nat.sub_self, List.getElem?_replicate, if_pos (by omega)]
      have hfz : wr.frozen? ⟨w.heap.size, j, none⟩ = false := frozen_of_block Hblk.out j
      have hset := block_set Hblk.out j (.float .f32 (fat zs j))
      rw [set_step zs _ j (by omega)] at hset
      have Hset := Lib.hid hset
      clear hset hc
      go_wp2
      go_roundw
      case rel => exact ⟨j + 1, by omega, by go_num, hb.setCell (Nat.le_refl _) _, Hset.out⟩
      case measure => simp [intOf]; omega
    · obtain rfl : j = len := by omega
      have e1 : fl .f32 (zs.take j) ++ List.replicate (zs.length - j) (Value.float .f32 0) = fl .f32 zs := by rw [h1, Nat.sub_self, List.replicate_zero, List.append_nil, List.take_of_length_le (by omega)]
      have hblk2 := Hblk.out
      rw [e1] at hblk2
      have hrow := rowF_of_block hblk2 (by unfold maxLen at *; omega) h4
      have hfz := frozen_of_block hblk2
      have HF := Lib.hid hfz
      have HR := Lib.hid hrow
      clear hfz hrow hblk2 e1
      go_wp2
      go_ret
      exact ⟨w.heap.size, rfl, Nat.le_refl _, hb, by have := HR.out; rwa [h1] at this, HF.out⟩
/-! ### sameFloat -/
theorem c_sameFloat (v n m : Nat) (w : World) (j : Nat) : Calls Try.prog 28 #[.float .f64 (pick .f64 v n), .float .f64 (pick .f64 v m)] (w.drewN j) (RetV (.bool true) w) := by
  have hs := self_ne .f64 v
  have ht := self_eq .f64 v
  cases h : isN .f64 v
  · rw [h] at hs ht
    cases h2 : (FloatKind.f64.format.order v 0 == some .eq)
    · go_enter Try.func28, Try.ntmps28
      go_wp2_with (first | (refine wpList_fop rfl _ _ _ _ _ rfl _ _ _ rfl rfl (by decide) _ ?_; intro _ _) | (refine upon_fop _ _ _ _ _ (by decide) ?_; intro _ _))
      go_ret
      exact ⟨_, rfl, rfl⟩
    · go_enter Try.func28, Try.ntmps28
      go_wp2_with (first | (refine wpList_fop rfl _ _ _ _ _ rfl _ _ _ rfl rfl (by decide) _ ?_; intro _ _) | (refine upon_fop _ _ _ _ _ (by decide) ?_; intro _ _))
      go_ret
      exact ⟨_, by simp, rfl⟩
  · rw [h] at hs ht
    go_enter Try.func28, Try.ntmps28
    go_wp2_with (first | (refine wpList_fop rfl _ _ _ _ _ rfl _ _ _ rfl rfl (by decide) _ ?_; intro _ _) | (refine upon_fop _ _ _ _ _ (by decide) ?_; intro _ _))
    go_ret
    exact ⟨_, rfl, rfl⟩

/-! ### eqFloat32S -/
theorem c_eqF (a b : Option Addr) (len c d : Nat) (zs : List Nat) (w : World) (j0 : Nat) (hr : IsRowF .f32 w a len c zs) (hs : IsRowF .f32 w b len d zs) : Calls Try.prog 16 #[.slice a len c, .slice b len d] (w.drewN j0) (RetV (.bool true) w) := by
  obtain ⟨h1, h2, h3, h4, h5⟩ := hr
  obtain ⟨g1, g2, g3, g4, g5⟩ := hs
  unfold maxLen at h3
  go_enter Try.func16, Try.ntmps16
  go_wp2
  go_loopw [5] (fun i wr => ∃ k m : Nat, k ≤ len ∧ i = .int .i64 k ∧ wr = w.drewN m) (fun i _ => len - (intOf i).toNat)
  case atStart => exact ⟨0, j0, Nat.zero_le _, rfl, rfl⟩
  case round =>
    obtain ⟨k, m, hk, rfl, rfl⟩ := hrel
    by_cases hlt : k < len
    · rcases h5 with h5 | ⟨x, off, rfl, hbl, hc⟩
      · omega
      rcases g5 with g5 | ⟨y, off2, rfl, gbl, gc⟩
      · omega
      have hcell : w.cell? ⟨x, off + k, none⟩ = some (.float .f32 (fat zs k)) := hc k hlt
      have gcell : w.cell? ⟨y, off2 + k, none⟩ = some (.float .f32 (fat zs k)) := gc k hlt
      clear hc h4 gc g4
      go_wp2
      refine wp_region_N (fun _ _ u => u = .bool true) (by kernel_rfl) (by kernel_rfl) ?_; (repeat (first | ((with_reducible show wpN _ _ _ _ _ (Oper.mk _ (Op.binOp _ _ _ _ _) _ _ _ none :: _) _); refine wpN_fop rfl _ _ _ _ _ rfl _ _ _ rfl rfl (by decide) ?_; intro _) | ((with_reducible show wpN _ _ _ _ _ (Oper.mk _ (Op.convert _ _ _) _ _ _ none :: _) _); refine wpN_cvU rfl 36 47 _ rfl (Option.isSome_iff_exists.2 ⟨_, Try.underlying36⟩) Try.underlying47 _ rfl ?_; intro _) | ((with_reducible show wpN _ _ _ _ _ (Oper.mk _ _ _ _ _ (some _) :: _) _); (with_reducible refine wpN_off ?_ ?_); focus rfl; (simp only [Act.put, List.setIfInBounds_toArray, List.set_cons_zero, List.set_cons_succ])) | ((with_reducible show wpN _ _ _ _ _ (Oper.mk _ _ _ _ _ (some _) :: _) _); ((with_reducible refine wpN_on ?_ (fun K hK => ?_)); (focus rfl); intro _; go_simp; first | (refine uponN_value (hK _ ?_)) | ((refine uponN_call (callN rfl (c_sameFloat _ _ _ _ _)) ?_; intro u hu; obtain rfl : u = _ := hu); refine hK _ ?_)); clear hK K) | (((with_reducible refine wpN_plain rfl (fun K hK => ?_)); intro _; go_simp; first | (refine uponN_value (hK _ ?_)) | ((refine uponN_call (callN rfl (c_sameFloat _ _ _ _ _)) ?_; intro u hu; obtain rfl : u = _ := hu); refine hK _ ?_)); clear hK K) | ((with_reducible refine wpN_step (fun K hK => ?_)); go_simp; first | (refine hK _ ?_) | (intro _; first | (refine uponN_value (hK _ ?_)) | ((refine uponN_call (callN rfl (c_sameFloat _ _ _ _ _)) ?_; intro u hu; obtain rfl : u = _ := hu); refine hK _ ?_)); clear hK K))); refine wpN_nil ?_; intro _
      go_wp2
      go_roundw
      case rel => exact ⟨k + 1, _, by omega, by go_num, rfl⟩
      case measure => simp [intOf]; omega
    · clear h5 h4 g4 g5
      go_wp2
      go_ret
      exact ⟨_, rfl, rfl⟩
/-! ### eqFloat32S0 -/
theorem c_eqF0 (a b : Option Addr) (len c d : Nat) (zs : List Nat) (w : World) (hr : IsRowF .f32 w a len c zs) (hs : IsRowF .f32 w b len d zs) : Calls Try.prog 16 #[.slice a len c, .slice b len d] w (RetV (.bool true) w) := by
  have h := c_eqF a b len c d zs w 0 hr hs
  rwa [w.drewN_zero] at h
/-! ### picDefs -/
def sideB (W H : Int) : Bool := decide (1 ≤ W) && decide (W ≤ 16) && (decide (1 ≤ H) && decide (H ≤ 16))
def finL (zs : List Nat) : Bool := zs.all (finB .f32)
def validB (W H : Int) (zs : List Nat) : Bool := sideB W H && decide ((zs.length : Int) = W * H) && finL zs
theorem sideB_true {W H : Int} (h : sideB W H = true) : (1 ≤ W ∧ W ≤ 16) ∧ 1 ≤ H ∧ H ≤ 16 := by simpa [sideB, and_assoc] using h
theorem side_mul {W H : Int} (h : sideB W H = true) : 1 ≤ W * H ∧ W * H ≤ 256 := by
  obtain ⟨⟨h1, h2⟩, h3, h4⟩ := sideB_true h
  have : W * H ≤ 16 * 16 := Int.mul_le_mul h2 h4 (by omega) (by omega)
  have h5 : 1 * 1 ≤ W * H := Int.mul_le_mul h1 h3 (by omega) (by omega)
  omega
theorem sideB_false {W H : Int} (h : sideB W H = false) : W < 1 ∨ 16 < W ∨ H < 1 ∨ 16 < H := by
  simp [sideB] at h; omega
theorem finL_snoc (zs : List Nat) (k : Nat) (hk : k < zs.length) : finL (zs.take (k + 1)) = (finL (zs.take k) && finB .f32 (fat zs k)) := by
  unfold finL fat
  rw [List.take_succ_eq_append_getElem hk, List.all_append, List.getD, List.getElem?_eq_getElem hk]; simp
theorem finL_of (zs : List Nat) (k : Nat) (hk : k < zs.length) (h : finB .f32 (fat zs k) = false) : finL zs = false := by
  unfold finL
  rw [List.all_eq_false]
  refine ⟨zs[k], List.getElem_mem hk, ?_⟩
  unfold fat at h
  rw [List.getD, List.getElem?_eq_getElem hk] at h
  simpa using h
theorem pick0 (k : FloatKind) (v : Nat) (hv : v < 2 ^ k.format.width) : ∃ n, v = pick k v n := pick_onto k v hv
/-! ### ordDefs -/
theorem cmp_bools (a b : Int) : ((some (compare a b) == some Ordering.lt) = decide (a < b)) ∧ ((some (compare a b) == some Ordering.gt) = decide (b < a)) ∧ ((some (compare a b) == some Ordering.eq) = decide (a = b)) := by
  rcases Int.lt_trichotomy a b with h | h | h
  · rw [cmp_of_lt h, decide_eq_true h, decide_eq_false (by omega), decide_eq_false (by omega)]; exact ⟨rfl, rfl, rfl⟩
  · subst h; rw [Int.compare_eq_eq.2 rfl, decide_eq_false (by omega), decide_eq_true rfl]; exact ⟨rfl, rfl, rfl⟩
  · rw [cmp_of_gt h, decide_eq_false (by omega), decide_eq_true h, decide_eq_false (by omega)]; exact ⟨rfl, rfl, rfl⟩
theorem o_lt {v c : Nat} (h : isN .f32 v = false) (hc : isN .f32 c = false) : (FloatKind.f32.format.order v c == some .lt) = decide (srung FloatKind.f32.format v < srung FloatKind.f32.format c) := by
  rw [order_rungs .f32 v c h hc]; exact (cmp_bools _ _).1
theorem o_gt {v c : Nat} (h : isN .f32 v = false) (hc : isN .f32 c = false) : (FloatKind.f32.format.order v c == some .gt) = decide (srung FloatKind.f32.format c < srung FloatKind.f32.format v) := by
  rw [order_rungs .f32 v c h hc]; exact (cmp_bools _ _).2.1
theorem o_eq {v c : Nat} (h : isN .f32 v = false) (hc : isN .f32 c = false) : (FloatKind.f32.format.order v c == some .eq) = decide (srung FloatKind.f32.format v = srung FloatKind.f32.format c) := by
  rw [order_rungs .f32 v c h hc]; exact (cmp_bools _ _).2.2
theorem o_le {v c : Nat} (h : isN .f32 v = false) (hc : isN .f32 c = false) : (FloatKind.f32.format.order v c == some .lt || FloatKind.f32.format.order v c == some .eq) = decide (srung FloatKind.f32.format v ≤ srung FloatKind.f32.format c) := by
  rw [o_lt h hc, o_eq h hc, ← Bool.decide_or]; exact decide_eq_decide.2 (by omega)
theorem o_ge {v c : Nat} (h : isN .f32 v = false) (hc : isN .f32 c = false) : (FloatKind.f32.format.order v c == some .gt || FloatKind.f32.format.order v c == some .eq) = decide (srung FloatKind.f32.format c ≤ srung FloatKind.f32.format v) := by
  rw [o_gt h hc, o_eq h hc, ← Bool.decide_or]; exact decide_eq_decide.2 (by omega)
theorem s_zero : srung FloatKind.f32.format 0 = 0 := by decide +kernel
theorem s_half : srung FloatKind.f32.format 1056964608 = 1056964608 := by decide +kernel
theorem s_one : srung FloatKind.f32.format 1065353216 = 1065353216 := by decide +kernel
theorem n_zero : isN .f32 0 = false := by decide +kernel
theorem n_half : isN .f32 1056964608 = false := by decide +kernel
theorem n_one : isN .f32 1065353216 = false := by decide +kernel
theorem pick_zero (n : Nat) : pick .f32 0 n = 0 := pick_not n_zero n
/-! ### bendDefs -/
def leB (x y : Nat) : Bool := FloatKind.f32.format.order x y == some .lt || FloatKind.f32.format.order x y == some .eq
def riseK (zs : List Nat) : Nat → Bool
  | 0 => true
  | 1 => true
  | k + 2 => riseK zs (k + 1) && !leB (fat zs (k + 1)) (fat zs k)
theorem riseK_succ {zs : List Nat} {k : Nat} (h : 1 ≤ k) : riseK zs (k + 1) = (riseK zs k && !leB (fat zs k) (fat zs (k - 1))) := by
  obtain ⟨j, rfl⟩ : ∃ j, k = j + 1 := ⟨k - 1, by omega⟩
  rfl
theorem riseK_false {zs : List Nat} {k : Nat} (h : riseK zs k = false) : ∀ n, k ≤ n → riseK zs n = false := by
  intro n hn
  induction n with
  | zero => obtain rfl : k = 0 := by omega
            exact h
  | succ m ih =>
    by_cases hk : k = m + 1
    · rw [← hk]; exact h
    · have h2 := ih (by omega)
      by_cases hm : 1 ≤ m
      · rw [riseK_succ hm, h2]; rfl
      · obtain rfl : m = 0 := by omega
        obtain rfl : k = 0 := by omega
        cases h
def bendB (zs : List Nat) : Bool := decide (2 ≤ zs.length) && decide (zs.length ≤ 17) && (finL zs && riseK zs zs.length)
/-! ### meanDefs -/
def meanV (zs : List Nat) : Nat := fop .quo .f32 (sumF .add .f32 0 zs) (floatOfInt .f32 (zs.length : Int))
def numR (v : Nat) : Nat × Bool := if finB .f32 v = true then (v, true) else (0, false)
def meanR (W H : Int) (zs : List Nat) : Nat × Bool := if validB W H zs = true then numR (meanV zs) else (0, false)
theorem mean_len {W H : Int} {zs : List Nat} (h : validB W H zs = true) : zs.length ≤ 256 := by
  simp only [validB, Bool.and_eq_true, decide_eq_true_eq] at h
  obtain ⟨⟨h1, h2⟩, h3⟩ := h
  have := side_mul h1
  omega
theorem pick00 : pick .f32 0 0 = 0 := pick_not (show isN .f32 0 = false from by decide +kernel) 0
/-! ### l02Share -/
def one32 : Nat := 1065353216
def shareB (v : Nat) : Bool := (FloatKind.f32.format.order v 0 == some .gt || FloatKind.f32.format.order v 0 == some .eq) && (FloatKind.f32.format.order v one32 == some .lt || FloatKind.f32.format.order v one32 == some .eq)
theorem c_l02Share (v n : Nat) (w : World) (j : Nat) : Calls Try.prog 89 #[.float .f32 (pick .f32 v n)] (w.drewN j) (RetV (.bool (shareB v)) w) := by
  unfold shareB one32
  cases h : (FloatKind.f32.format.order v 0 == some .gt || FloatKind.f32.format.order v 0 == some .eq)
  all_goals
    have HH := Lib.hid h
    go_enter Try.func89, Try.ntmps89
    go_wp2
    go_ret
    exact ⟨_, by simp [HH.out], rfl⟩
/-! ### bendAtDefs -/
def bendI (N u : Nat) : Nat := if N < whole32 u then N else whole32 u
def bendV (zs : List Nat) (x N : Nat) : Nat := fop .add .f32 (fat zs (bendI N (fop .mul .f32 x (floatOfInt .f32 ((N : Int) + 2 - 1))))) (fop .mul .f32 (fop .sub .f32 (fop .mul .f32 x (floatOfInt .f32 ((N : Int) + 2 - 1))) (floatOfInt .f32 (bendI N (fop .mul .f32 x (floatOfInt .f32 ((N : Int) + 2 - 1))) : Int))) (fop .sub .f32 (fat zs (bendI N (fop .mul .f32 x (floatOfInt .f32 ((N : Int) + 2 - 1))) + 1)) (fat zs (bendI N (fop .mul .f32 x (floatOfInt .f32 ((N : Int) + 2 - 1)))))))
def bendAtR (zs : List Nat) (x : Nat) : Nat × Bool := if (bendB zs && shareB x) = true then numR (bendV zs x (zs.length - 2)) else (0, false)
theorem share_facts {x : Nat} (h : shareB x = true) : isN .f32 x = false ∧ 0 ≤ srung Ieee.single x ∧ srung Ieee.single x ≤ 1065353216 := by
  unfold shareB one32 at h
  cases hn : isN .f32 x
  · rw [o_ge hn n_zero, o_le hn n_one, s_zero, s_one] at h
    simp only [Bool.and_eq_true, decide_eq_true_eq] at h
    exact ⟨rfl, h.1, h.2⟩
  · rw [order_nan_l _ hn] at h; cases h
theorem num_pick (v n : Nat) : pick .f32 (numR v).1 n = (numR v).1 := by
  unfold numR
  cases h : finB .f32 v
  · exact pick_zero n
  · exact pick_not (fin_notN h) n
theorem bend_len {zs : List Nat} (h : bendB zs = true) : 2 ≤ zs.length ∧ zs.length ≤ 17 := by
  unfold bendB at h
  simp only [Bool.and_eq_true, decide_eq_true_eq] at h
  exact h.1
theorem u_facts {x N : Nat} (hs : shareB x = true) (hN : N ≤ 15) : (∀ n, pick .f32 (fop .mul .f32 x (floatOfInt .f32 ((N : Int) + 2 - 1))) n = (fop .mul .f32 x (floatOfInt .f32 ((N : Int) + 2 - 1)))) ∧ (∀ n, pick .f64 (cvU (fop .mul .f32 x (floatOfInt .f32 ((N : Int) + 2 - 1)))) n = cvU (fop .mul .f32 x (floatOfInt .f32 ((N : Int) + 2 - 1)))) ∧ isN .f64 (cvU (fop .mul .f32 x (floatOfInt .f32 ((N : Int) + 2 - 1)))) = false ∧ floatToIntVal .f32 (fop .mul .f32 x (floatOfInt .f32 ((N : Int) + 2 - 1))) .i64 = some (whole32 (fop .mul .f32 x (floatOfInt .f32 ((N : Int) + 2 - 1))) : Int) ∧ floatToIntVal .f64 (floorF (cvU (fop .mul .f32 x (floatOfInt .f32 ((N : Int) + 2 - 1))))) .i64 = some (whole32 (fop .mul .f32 x (floatOfInt .f32 ((N : Int) + 2 - 1))) : Int) := by
  obtain ⟨h1, h2, h3⟩ := share_facts hs
  have e : ((N : Int) + 2 - 1) = ((N + 1 : Nat) : Int) := by omega
  rw [e]
  obtain ⟨a1, a2, a3⟩ := share_mul h1 h2 h3 (show N + 1 ≤ 16 by omega)
  obtain ⟨b1, b2, b3, b4⟩ := both_whole a1 a2 a3
  exact ⟨fun n => pick_not (notN_fin (k := .f32) a1) n, fun n => pick_not b2 n, b2, b1, b4⟩
/-! ### Floor -/
theorem run_floor (x : Nat) (w : World) (hx : isN .f64 x = false) : (callFunc 120 #[.float .f64 x]).run Try.prog w = .ok (.value (.float .f64 (floorF x))) w := by
  have e : (callFunc 120 #[.float .f64 x]).run Try.prog w = ((Extern.MathFloor.toIntegral "math.archFloor" .down #[.float .f64 x]).bind fun v => Sem.pure (Next.value v)).run Try.prog w := by kernel_rfl
  rw [e]
  have e2 : Extern.MathFloor.toIntegral "math.archFloor" .down #[.float .f64 x] = pure (.float .f64 (floorF x)) := by
    have hd : ∀ s t, FloatKind.f64.decode x ≠ .nan s t := by
      intro s t h
      have h2 : FloatKind.f64.format.read x = .nan s t := h
      unfold isN at hx
      rw [h2] at hx; cases hx
    show (match FloatKind.f64.decode x with | .nan s t => _ | d => _) = _
    cases hh : FloatKind.f64.decode x with
    | nan s t => exact absurd hh (hd s t)
    | number s m i =>
      have h2 : Ieee.double.read x = .number s m i := hh
      unfold floorF; rw [h2]; rfl
    | infinity s =>
      have h2 : Ieee.double.read x = .infinity s := hh
      unfold floorF; rw [h2]; rfl
  rw [e2]; rfl
theorem c_Floor (x : Nat) (w : World) (j : Nat) (hx : isN .f64 x = false) : Calls Try.prog 71 #[.float .f64 x] (w.drewN j) (RetV (.float .f64 (floorF x)) w) := by
  have hr := run_floor x (w.drewN j) hx
  go_enter Try.func71, Try.ntmps71
  go_wp2
  go_ret
  exact ⟨_, rfl, rfl⟩
/-! ### l03At -/
theorem c_l03At (zs : List Nat) (N : Nat) (a : Option Addr) (c x n : Nat) (w : World) (j : Nat) (hN : zs.length = N + 2) (hN2 : N ≤ 15) (hr : IsRowF .f32 w a (N + 2) c zs) (hs : shareB x = true) : Calls Try.prog 91 #[.slice a (N + 2) c, .float .f32 (pick .f32 x n)] (w.drewN j) (RetF .f32 (bendV zs x N) w) := by
  obtain ⟨hp1, hp2, hfl, hi1, hi2⟩ := u_facts (N := N) hs hN2
  have HP1 := Lib.hid hp1
  have HP2 := Lib.hid hp2
  have HFl := Lib.hid hfl
  have R2 := Lib.hid hr
  clear hN hr hs hp1 hp2 hfl
  by_cases hc : N < whole32 (fop .mul .f32 x (floatOfInt .f32 ((N : Int) + 2 - 1)))
  · have HI1 := Lib.hid hi1
    have HI2 := Lib.hid hi2
    have hc2 : (N : Int) < (whole32 (fop .mul .f32 x (floatOfInt .f32 ((N : Int) + 2 - 1))) : Int) := by omega
    have hc3 : ¬ (whole32 (fop .mul .f32 x (floatOfInt .f32 ((N : Int) + 2 - 1))) : Int) ≤ (N : Int) := by omega
    clear hi1 hi2
    have hI : bendI N (fop .mul .f32 x (floatOfInt .f32 ((N : Int) + 2 - 1))) = N := by unfold bendI; rw [if_pos hc]
    have e : bendV zs x N = fop .add .f32 (fat zs N) (fop .mul .f32 (fop .sub .f32 (fop .mul .f32 x (floatOfInt .f32 ((N : Int) + 2 - 1))) (floatOfInt .f32 (N : Int))) (fop .sub .f32 (fat zs (N + 1)) (fat zs N))) := by unfold bendV; rw [hI]
    rw [e]
    clear e hI
    obtain ⟨b0, o0, n0, rfl, hb0, e0⟩ := R2.out.at (k := N) (by omega)
    obtain ⟨b1, o1, n1, hab, hb1, e1⟩ := R2.out.at (k := N + 1) (by omega)
    cases hab
    clear hb0 hb1
    have hp1 := HP1.out
    have hp2 := HP2.out
    go_enter Try.func91, Try.ntmps91
    go_wp2_with (first | (first | (refine wpList_fop rfl _ _ _ _ _ rfl _ _ _ rfl rfl (by decide) _ ?_; intro _ _) | (refine upon_fop _ _ _ _ _ (by decide) ?_; intro _ _)) | (refine wpList_cvU rfl 36 47 _ rfl (Option.isSome_iff_exists.2 ⟨_, Try.underlying36⟩) Try.underlying47 _ rfl _ ?_; intro _ _) | (refine wpList_ftoi rfl 47 3 _ rfl (Option.isSome_iff_exists.2 ⟨_, Try.underlying47⟩) .i64 Try.underlying3 _ _ rfl (by exact HI2.out) ?_) | (go_at_call 71; refine (c_Floor _ _ _ HFl.out).mono ?_; rintro _ _ ⟨_, rfl, rfl⟩))
    have g1 : N < N + 2 := by omega
    have g2 : N + 1 < N + 2 := by omega
    have g3 : (N : Int) < (N : Int) + 2 := by omega
    have g4 : (N : Int) + 1 < (N : Int) + 2 := by omega
    have mw : IntKind.i64.wrap ((N : Int) + 1) = (N : Int) + 1 := IntWalk.i64_in _ (by omega)
    have g5 : (0 : Int) ≤ (N : Int) + 1 := by omega
    have g6 : ((N : Int) + 1).toNat = N + 1 := by omega
    refine wp_region_N (fun _ _ _ => True) (by kernel_rfl) (by kernel_rfl) ?_; (repeat (first | ((with_reducible show wpN _ _ _ _ _ (Oper.mk _ (Op.binOp _ _ _ _ _) _ _ _ none :: _) _); refine wpN_fop rfl _ _ _ _ _ rfl _ _ _ rfl rfl (by decide) ?_; intro _) | ((with_reducible show wpN _ _ _ _ _ (Oper.mk _ (Op.convert _ _ _) _ _ _ none :: _) _); refine wpN_cvU rfl 36 47 _ rfl (Option.isSome_iff_exists.2 ⟨_, Try.underlying36⟩) Try.underlying47 _ rfl ?_; intro _) | ((with_reducible show wpN _ _ _ _ _ (Oper.mk _ _ _ _ _ (some _) :: _) _); (with_reducible refine wpN_off ?_ ?_); focus rfl; (simp only [Act.put, List.setIfInBounds_toArray, List.set_cons_zero, List.set_cons_succ])) | ((with_reducible show wpN _ _ _ _ _ (Oper.mk _ _ _ _ _ (some _) :: _) _); ((with_reducible refine wpN_on ?_ (fun K hK => ?_)); (focus rfl); intro _; go_simp; first | (refine uponN_value (hK _ ?_)) | (fail; refine hK _ ?_)); clear hK K) | (((with_reducible refine wpN_plain rfl (fun K hK => ?_)); intro _; go_simp; first | (refine uponN_value (hK _ ?_)) | (fail; refine hK _ ?_)); clear hK K) | ((with_reducible refine wpN_step (fun K hK => ?_)); go_simp; first | (refine hK _ ?_) | (intro _; first | (refine uponN_value (hK _ ?_)) | (fail; refine hK _ ?_)); clear hK K))); refine wpN_nil ?_; intro _
    clear g1 g2 g3 g4 g5 g6 mw e0 e1 hp1 hp2
    go_wp2_with fail
    go_ret
    exact ⟨_, _, rfl, rfl⟩
  · obtain ⟨t, ht⟩ : ∃ t, t = whole32 (fop .mul .f32 x (floatOfInt .f32 ((N : Int) + 2 - 1))) := ⟨_, rfl⟩
    have htN : t ≤ N := by omega
    rw [← ht] at hi1 hi2
    have HI1 := Lib.hid hi1
    have HI2 := Lib.hid hi2
    have hc2 : ¬ (N : Int) < (t : Int) := by omega
    have hc3 : (t : Int) ≤ (N : Int) := by omega
    clear hi1 hi2
    have hI : bendI N (fop .mul .f32 x (floatOfInt .f32 ((N : Int) + 2 - 1))) = t := by unfold bendI; rw [if_neg hc, ht]
    have e : bendV zs x N = fop .add .f32 (fat zs t) (fop .mul .f32 (fop .sub .f32 (fop .mul .f32 x (floatOfInt .f32 ((N : Int) + 2 - 1))) (floatOfInt .f32 (t : Int))) (fop .sub .f32 (fat zs (t + 1)) (fat zs t))) := by unfold bendV; rw [hI]
    rw [e]
    clear e hI ht hc
    obtain ⟨b0, o0, n0, rfl, hb0, e0⟩ := R2.out.at (k := t) (by omega)
    obtain ⟨b1, o1, n1, hab, hb1, e1⟩ := R2.out.at (k := t + 1) (by omega)
    cases hab
    clear hb0 hb1
    have hp1 := HP1.out
    have hp2 := HP2.out
    go_enter Try.func91, Try.ntmps91
    go_wp2_with (first | (first | (refine wpList_fop rfl _ _ _ _ _ rfl _ _ _ rfl rfl (by decide) _ ?_; intro _ _) | (refine upon_fop _ _ _ _ _ (by decide) ?_; intro _ _)) | (refine wpList_cvU rfl 36 47 _ rfl (Option.isSome_iff_exists.2 ⟨_, Try.underlying36⟩) Try.underlying47 _ rfl _ ?_; intro _ _) | (refine wpList_ftoi rfl 47 3 _ rfl (Option.isSome_iff_exists.2 ⟨_, Try.underlying47⟩) .i64 Try.underlying3 _ _ rfl (by exact HI2.out) ?_) | (go_at_call 71; refine (c_Floor _ _ _ HFl.out).mono ?_; rintro _ _ ⟨_, rfl, rfl⟩))
    have g1 : t < N + 2 := by omega
    have g2 : t + 1 < N + 2 := by omega
    have g3 : (t : Int) < (N : Int) + 2 := by omega
    have g4 : (t : Int) + 1 < (N : Int) + 2 := by omega
    have mw : IntKind.i64.wrap ((t : Int) + 1) = (t : Int) + 1 := IntWalk.i64_in _ (by omega)
    have g5 : (0 : Int) ≤ (t : Int) + 1 := by omega
    have g6 : ((t : Int) + 1).toNat = t + 1 := by omega
    refine wp_region_N (fun _ _ _ => True) (by kernel_rfl) (by kernel_rfl) ?_; (repeat (first | ((with_reducible show wpN _ _ _ _ _ (Oper.mk _ (Op.binOp _ _ _ _ _) _ _ _ none :: _) _); refine wpN_fop rfl _ _ _ _ _ rfl _ _ _ rfl rfl (by decide) ?_; intro _) | ((with_reducible show wpN _ _ _ _ _ (Oper.mk _ (Op.convert _ _ _) _ _ _ none :: _) _); refine wpN_cvU rfl 36 47 _ rfl (Option.isSome_iff_exists.2 ⟨_, Try.underlying36⟩) Try.underlying47 _ rfl ?_; intro _) | ((with_reducible show wpN _ _ _ _ _ (Oper.mk _ _ _ _ _ (some _) :: _) _); (with_reducible refine wpN_off ?_ ?_); focus rfl; (simp only [Act.put, List.setIfInBounds_toArray, List.set_cons_zero, List.set_cons_succ])) | ((with_reducible show wpN _ _ _ _ _ (Oper.mk _ _ _ _ _ (some _) :: _) _); ((with_reducible refine wpN_on ?_ (fun K hK => ?_)); (focus rfl); intro _; go_simp; first | (refine uponN_value (hK _ ?_)) | (fail; refine hK _ ?_)); clear hK K) | (((with_reducible refine wpN_plain rfl (fun K hK => ?_)); intro _; go_simp; first | (refine uponN_value (hK _ ?_)) | (fail; refine hK _ ?_)); clear hK K) | ((with_reducible refine wpN_step (fun K hK => ?_)); go_simp; first | (refine hK _ ?_) | (intro _; first | (refine uponN_value (hK _ ?_)) | (fail; refine hK _ ?_)); clear hK K))); refine wpN_nil ?_; intro _
    clear g1 g2 g3 g4 g5 g6 mw e0 e1 hp1 hp2
    go_wp2_with fail
    go_ret
    exact ⟨_, _, rfl, rfl⟩
/-! ### l01Finite -/
theorem c_l01Finite (v n : Nat) (w : World) (j : Nat) : Calls Try.prog 50 #[.float .f32 (pick .f32 v n)] (w.drewN j) (RetV (.bool (finB .f32 v)) w) := by
  go_enter Try.func50, Try.ntmps50
  go_wp2_with (first | (refine wpList_fop rfl _ _ _ _ _ rfl _ _ _ rfl rfl (by decide) _ ?_; intro _ _) | (refine upon_fop _ _ _ _ _ (by decide) ?_; intro _ _))
  go_ret
  rw [← sub_self_zero]
  exact ⟨_, rfl, rfl⟩
/-! ### l02Finite -/
theorem c_l02Finite (a : Option Addr) (len cap : Nat) (zs : List Nat) (w : World) (j0 : Nat) (hr : IsRowF .f32 w a len cap zs) : Calls Try.prog 97 #[.slice a len cap] (w.drewN j0) (RetV (.bool (finL zs)) w) := by
  obtain ⟨h1, h2, h3, h4, h5⟩ := hr
  unfold maxLen at h3
  have H1 := Lib.hid h1
  clear h1
  go_enter Try.func97, Try.ntmps97
  go_wp2
  go_loopw [3] (fun i wr => ∃ k m : Nat, k ≤ len ∧ i = .int .i64 k ∧ wr = w.drewN m ∧ finL (zs.take k) = true) (fun i _ => len - (intOf i).toNat)
  case atStart => exact ⟨0, j0, Nat.zero_le _, rfl, rfl, rfl⟩
  case round =>
    obtain ⟨k, m, hk, rfl, rfl, hfin⟩ := hrel
    have HFin := Lib.hid hfin
    clear hfin
    by_cases hlt : k < len
    · rcases h5 with h5 | ⟨b, off, rfl, hbl, hc⟩
      · omega
      have hcell : w.cell? ⟨b, off + k, none⟩ = some (.float .f32 (fat zs k)) := hc k hlt
      obtain ⟨n, hn⟩ := pick0 .f32 (fat zs k) (lt_of_wf (h4 _ (by unfold fat; rw [List.getD, List.getElem?_eq_getElem (by have := H1.out; omega)]; exact List.getElem_mem _)))
      rw [hn] at hcell
      have HN := Lib.hid hn
      have HS := Lib.hid (finL_snoc zs k (by have := H1.out; omega))
      cases hf : finB .f32 (fat zs k)
      · have HO := Lib.hid (finL_of zs k (by have := H1.out; omega) hf)
        clear hc h4 hn
        go_wp2_with ((go_at_call 50; refine (c_l01Finite _ _ _ _).mono ?_; rintro _ _ ⟨_, rfl, rfl⟩))
        go_ret
        exact ⟨_, by rw [HO.out]; rfl, rfl⟩
      · have HF := Lib.hid hf
        clear hc h4 hn
        go_wp2_with ((go_at_call 50; refine (c_l01Finite _ _ _ _).mono ?_; rintro _ _ ⟨_, rfl, rfl⟩))
        go_roundw
        case rel => exact ⟨k + 1, _, by omega, by go_num, rfl, by rw [HS.out, HFin.out, HF.out]; rfl⟩
        case measure => simp [intOf]; omega
    · have e : zs.take k = zs := List.take_of_length_le (by have := H1.out; omega)
      have HE := Lib.hid e
      clear h5 h4 e
      go_wp2
      go_ret
      exact ⟨_, by have h := HFin.out; rw [HE.out] at h; rw [h]; rfl, rfl⟩
/-! ### l03Curve -/
theorem bendB_short {zs : List Nat} (h : zs.length < 2) : bendB zs = false := by unfold bendB; rw [decide_eq_false (by omega)]; rfl
theorem bendB_long {zs : List Nat} (h : 17 < zs.length) : bendB zs = false := by unfold bendB; rw [decide_eq_false (p := zs.length ≤ 17) (by omega), Bool.and_false]; rfl
theorem bendB_mid {zs : List Nat} (h1 : ¬ zs.length < 2) (h2 : ¬ 17 < zs.length) : bendB zs = (finL zs && riseK zs zs.length) := by unfold bendB; rw [decide_eq_true (p := zs.length ≤ 17) (by omega), decide_eq_true (by omega)]; rfl
theorem c_l03Curve (zs : List Nat) (a : Option Addr) (c : Nat) (w : World) (j0 : Nat) (hr : IsRowF .f32 w a zs.length c zs) : Calls Try.prog 88 #[.slice a zs.length c] (w.drewN j0) (RetV (.bool (bendB zs)) w) := by
  have mA : zs.length ≤ maxLen := Nat.le_trans hr.2.1 hr.2.2.1
  unfold maxLen at mA
  have RA := Lib.hid hr
  clear hr
  by_cases h1 : zs.length < 2
  · rw [bendB_short h1]
    go_enter Try.func88, Try.ntmps88
    go_wp2_with fail
    go_ret
    exact ⟨_, rfl, rfl⟩
  by_cases h2 : 17 < zs.length
  · rw [bendB_long h2]
    go_enter Try.func88, Try.ntmps88
    go_wp2_with fail
    go_ret
    exact ⟨_, rfl, rfl⟩
  rw [bendB_mid h1 h2]
  have CF := Lib.hid (fun j => c_l02Finite a zs.length c zs w j RA.out)
  cases hf : finL zs
  · have C1 := Lib.hid (fun j => (by have h := CF.out j; rwa [hf] at h : Calls Try.prog 97 #[.slice a zs.length c] (w.drewN j) (RetV (.bool false) w)))
    clear hf CF
    go_enter Try.func88, Try.ntmps88
    go_wp2_with ((go_at_call 97; refine (C1.out _).mono ?_; rintro _ _ ⟨_, rfl, rfl⟩))
    go_ret
    exact ⟨_, rfl, rfl⟩
  · have C1 := Lib.hid (fun j => (by have h := CF.out j; rwa [hf] at h : Calls Try.prog 97 #[.slice a zs.length c] (w.drewN j) (RetV (.bool true) w)))
    clear hf CF
    rw [Bool.true_and]
    go_enter Try.func88, Try.ntmps88
    go_wp2_with ((go_at_call 97; refine (C1.out _).mono ?_; rintro _ _ ⟨_, rfl, rfl⟩))
    go_loopw [4] (fun i wr => ∃ k m : Nat, k + 1 ≤ zs.length ∧ i = .int .i64 ((k + 1 : Nat) : Int) ∧ wr = w.drewN m ∧ riseK zs (k + 1) = true) (fun i _ => zs.length - (intOf i).toNat)
    case atStart => exact ⟨0, _, by omega, rfl, rfl, rfl⟩
    case round =>
      obtain ⟨k, m, hk, rfl, rfl, hR⟩ := hrel
      have HR := Lib.hid hR
      clear hR
      by_cases hlt : k + 1 < zs.length
      · obtain ⟨bA, oA, nA, rfl, hbA, eA⟩ := RA.out.at hlt
        obtain ⟨bB, oB, nB, hab, hbB, eB⟩ := RA.out.at (k := k) (by omega)
        cases hab
        clear hbA hbB
        cases hle : leB (fat zs (k + 1)) (fat zs k)
        all_goals
          have HL := Lib.hid hle
          unfold leB at hle
          go_wp2_with fail
          have g0 : (0 : Int) ≤ (k : Int) := by omega
          have g1 : (k : Int) < (zs.length : Int) := by omega
          have g2 : (k : Int) + 1 < (zs.length : Int) := by omega
          have g3 : k < zs.length := by omega
          have mw : IntKind.i64.wrap (k : Int) = (k : Int) := IntWalk.i64_in _ (by omega)
          refine wp_region_N (fun _ _ _ => True) (by kernel_rfl) (by kernel_rfl) ?_; (repeat (first | ((with_reducible show wpN _ _ _ _ _ (Oper.mk _ (Op.binOp _ _ _ _ _) _ _ _ none :: _) _); refine wpN_fop rfl _ _ _ _ _ rfl _ _ _ rfl rfl (by decide) ?_; intro _) | ((with_reducible show wpN _ _ _ _ _ (Oper.mk _ (Op.convert _ _ _) _ _ _ none :: _) _); refine wpN_cvU rfl 36 47 _ rfl (Option.isSome_iff_exists.2 ⟨_, Try.underlying36⟩) Try.underlying47 _ rfl ?_; intro _) | ((with_reducible show wpN _ _ _ _ _ (Oper.mk _ _ _ _ _ (some _) :: _) _); (with_reducible refine wpN_off ?_ ?_); focus rfl; (simp only [Act.put, List.setIfInBounds_toArray, List.set_cons_zero, List.set_cons_succ])) | ((with_reducible show wpN _ _ _ _ _ (Oper.mk _ _ _ _ _ (some _) :: _) _); ((with_reducible refine wpN_on ?_ (fun K hK => ?_)); (focus rfl); intro _; go_simp; first | (refine uponN_value (hK _ ?_)) | (fail; refine hK _ ?_)); clear hK K) | (((with_reducible refine wpN_plain rfl (fun K hK => ?_)); intro _; go_simp; first | (refine uponN_value (hK _ ?_)) | (fail; refine hK _ ?_)); clear hK K) | ((with_reducible refine wpN_step (fun K hK => ?_)); go_simp; first | (refine hK _ ?_) | (intro _; first | (refine uponN_value (hK _ ?_)) | (fail; refine hK _ ?_)); clear hK K))); refine wpN_nil ?_; intro _
          clear g0 g1 g2 g3 mw
          go_wp2_with fail
        · go_roundw
          case rel => exact ⟨k + 1, _, by omega, by go_num, rfl, by show (riseK zs (k + 1) && !leB (fat zs (k + 1)) (fat zs k)) = true; rw [HR.out, HL.out]; rfl⟩
          case measure => simp [intOf]; omega
        · go_ret
          exact ⟨_, by rw [riseK_false (k := k + 2) (show (riseK zs (k + 1) && !leB (fat zs (k + 1)) (fat zs k)) = false by rw [HL.out, Bool.not_true, Bool.and_false]) zs.length (by omega)]; rfl, rfl⟩
      · have e : zs.length = k + 1 := by omega
        have HE := Lib.hid e
        clear e
        go_wp2_with fail
        go_ret
        exact ⟨_, by rw [HE.out, HR.out]; rfl, rfl⟩
/-! ### l02Number -/
theorem c_l02Number (v n : Nat) (w : World) (j : Nat) : Calls Try.prog 90 #[.float .f32 (pick .f32 v n)] (w.drewN j) (fun e w' => ∃ k m, e = .returned (.tuple #[.float .f32 (pick .f32 (numR v).1 k), .bool (numR v).2]) ∧ w' = w.drewN m) := by
  cases h : finB .f32 v
  · have e : numR v = (0, false) := by unfold numR; rw [if_neg (by rw [h]; decide)]
    rw [e]
    go_enter Try.func90, Try.ntmps90
    go_wp2_with (first | (go_at_call 50; refine (c_l01Finite _ _ _ _).mono ?_; rintro _ _ ⟨_, rfl, rfl⟩))
    go_ret2
    exact ⟨0, _, by simp only [pick00]; rfl, rfl⟩
  · have e : numR v = (v, true) := by unfold numR; rw [if_pos h]
    rw [e]
    go_enter Try.func90, Try.ntmps90
    go_wp2_with (first | (go_at_call 50; refine (c_l01Finite _ _ _ _).mono ?_; rintro _ _ ⟨_, rfl, rfl⟩))
    go_ret2
    exact ⟨n, _, rfl, rfl⟩
theorem c_l02Number0 (v n : Nat) (w : World) : Calls Try.prog 90 #[.float .f32 (pick .f32 v n)] w (fun e w' => ∃ k m, e = .returned (.tuple #[.float .f32 (pick .f32 (numR v).1 k), .bool (numR v).2]) ∧ w' = w.drewN m) := by
  have h := c_l02Number v n w 0
  rwa [w.drewN_zero] at h
/-! ### numT -/
def RetT (r : Nat × Bool) (w : World) (e : Ending) (w' : World) : Prop := ∃ k m, e = .returned (.tuple #[.float .f32 (pick .f32 r.1 k), .bool r.2]) ∧ w' = w.drewN m
theorem RetT.no {w : World} {e : Ending} {w' : World} (h : e = .returned (.tuple #[.float .f32 0, .bool false])) (hw : ∃ m, w' = w.drewN m) : RetT (0, false) w e w' := ⟨0, hw.choose, by rw [h]; simp only [pick_zero], hw.choose_spec⟩
theorem RetF1.no {w : World} {e : Ending} {w' : World} (h : e = .returned (.tuple #[.float .f32 0, .bool false])) (hw : Below w.heap.size w w') : RetF1 (0, false) w e w' := ⟨0, by rw [h]; simp only [pick_zero], hw⟩
theorem numR_pick (v n : Nat) : (numR (pick .f32 v n)).2 = (numR v).2 ∧ ∀ m, ∃ k, pick .f32 (numR (pick .f32 v n)).1 m = pick .f32 (numR v).1 k := by
  unfold numR
  rw [finB_pick]
  cases h : finB .f32 v
  · exact ⟨rfl, fun m => ⟨m, rfl⟩⟩
  · refine ⟨rfl, fun m => ⟨0, ?_⟩⟩
    rw [if_pos rfl, if_pos rfl, pick_not (fin_notN h), pick_not (fin_notN h), pick_not (fin_notN h)]
/-! ### sBendAt -/
theorem c_sBendAt (zs : List Nat) (a : Option Addr) (c : Nat) (x n : Nat) (w : World) (hr : IsRowF .f32 w a zs.length c zs) (hx : x < 2 ^ FloatKind.f32.format.width) : Calls Try.prog 31 #[.slice a zs.length c, .float .f32 (pick .f32 x n)] w (RetF1 (bendAtR zs x) w) := by
  have mA : zs.length ≤ maxLen := Nat.le_trans hr.2.1 hr.2.2.1
  unfold maxLen at mA
  rw [← w.drewN_zero]
  cases hB : bendB zs
  · have e : bendAtR zs x = (0, false) := by unfold bendAtR; rw [hB]; rfl
    rw [e]
    have C1 := Lib.hid (fun j => (by have h := c_l03Curve zs a c w j hr; rwa [hB] at h : Calls Try.prog 88 #[.slice a zs.length c] (w.drewN j) (RetV (.bool false) w)))
    clear hB hr e
    go_enter Try.func31, Try.ntmps31
    go_wp2_with ((go_at_call 88; refine (C1.out _).mono ?_; rintro _ _ ⟨_, rfl, rfl⟩))
    go_ret2
    exact RetF1.no rfl (below_drewN (Below.refl _ _) _)
  have C1 := Lib.hid (fun j => (by have h := c_l03Curve zs a c w j hr; rwa [hB] at h : Calls Try.prog 88 #[.slice a zs.length c] (w.drewN j) (RetV (.bool true) w)))
  cases hS : shareB x
  · have e : bendAtR zs x = (0, false) := by unfold bendAtR; rw [hB, hS]; rfl
    rw [e]
    have C2 := Lib.hid (fun n j => (by have h := c_l02Share x n w j; rwa [hS] at h : Calls Try.prog 89 #[.float .f32 (pick .f32 x n)] (w.drewN j) (RetV (.bool false) w)))
    clear hB hr e hS
    go_enter Try.func31, Try.ntmps31
    go_wp2_with (first | (go_at_call 88; refine (C1.out _).mono ?_; rintro _ _ ⟨_, rfl, rfl⟩) | (go_at_call 89; refine (C2.out _ _).mono ?_; rintro _ _ ⟨_, rfl, rfl⟩))
    go_ret2
    exact RetF1.no rfl (below_drewN (Below.refl _ _) _)
  obtain ⟨hl1, hl2⟩ := bend_len hB
  obtain ⟨N, hN⟩ : ∃ N, zs.length = N + 2 := ⟨zs.length - 2, by omega⟩
  have e : bendAtR zs x = numR (bendV zs x N) := by unfold bendAtR; rw [hB, hS, hN]; rfl
  rw [e]
  have C2 := Lib.hid (fun n j => (by have h := c_l02Share x n w j; rwa [hS] at h : Calls Try.prog 89 #[.float .f32 (pick .f32 x n)] (w.drewN j) (RetV (.bool true) w)))
  have CA := Lib.hid (fun n j => (by have h := c_l03At zs N a c x n w j hN (by omega) (by rw [← hN]; exact hr) hS; rwa [← hN] at h : Calls Try.prog 91 #[.slice a zs.length c, .float .f32 (pick .f32 x n)] (w.drewN j) (RetF .f32 (bendV zs x N) w)))
  clear hB hr e hS hN hl1 hl2
  go_enter Try.func31, Try.ntmps31
  go_wp2_with (first | (go_at_call 88; refine (C1.out _).mono ?_; rintro _ _ ⟨_, rfl, rfl⟩) | (go_at_call 89; refine (C2.out _ _).mono ?_; rintro _ _ ⟨_, rfl, rfl⟩) | (go_at_call 91; refine (CA.out _ _).mono ?_; rintro _ _ ⟨_, _, rfl, rfl⟩) | (go_at_call 90; refine (c_l02Number _ _ _ _).mono ?_; rintro _ _ ⟨_, _, rfl, rfl⟩))
  go_ret2
  exact ⟨_, rfl, below_drewN (Below.refl _ _) _⟩
/-! ### between -/
theorem c_between (x nx y ny s ns : Nat) (w : World) (j : Nat) : Calls Try.prog 116 #[.float .f32 (pick .f32 x nx), .float .f32 (pick .f32 y ny), .float .f32 (pick .f32 s ns)] (w.drewN j) (RetF .f32 (fop .add .f32 x (fop .mul .f32 s (fop .sub .f32 y x))) w) := by
  go_enter Try.func116, Try.ntmps116
  go_wp2_with (first | (refine wpList_fop rfl _ _ _ _ _ rfl _ _ _ rfl rfl (by decide) _ ?_; intro _ _) | (refine upon_fop _ _ _ _ _ (by decide) ?_; intro _ _))
  go_ret
  exact ⟨_, _, rfl, rfl⟩
theorem c_between0 (x nx y ny s ns : Nat) (w : World) : Calls Try.prog 116 #[.float .f32 (pick .f32 x nx), .float .f32 (pick .f32 y ny), .float .f32 (pick .f32 s ns)] w (RetF .f32 (fop .add .f32 x (fop .mul .f32 s (fop .sub .f32 y x))) w) := by
  have h := c_between x nx y ny s ns w 0
  rwa [w.drewN_zero] at h
/-! ### bendAt -/
theorem c_bendAt (zs : List Nat) (N : Nat) (a : Option Addr) (c x n : Nat) (w : World) (j : Nat) (hN : zs.length = N + 2) (hN2 : N ≤ 15) (hr : IsRowF .f32 w a (N + 2) c zs) (hs : shareB x = true) : Calls Try.prog 95 #[.slice a (N + 2) c, .float .f32 (pick .f32 x n)] (w.drewN j) (RetF .f32 (bendV zs x N) w) := by
  obtain ⟨hp1, hp2, hfl, hi1, hi2⟩ := u_facts (N := N) hs hN2
  have HP1 := Lib.hid hp1
  have HP2 := Lib.hid hp2
  have HFl := Lib.hid hfl
  have R2 := Lib.hid hr
  clear hN hr hs hp1 hp2 hfl
  by_cases hc : N < whole32 (fop .mul .f32 x (floatOfInt .f32 ((N : Int) + 2 - 1)))
  · have HI1 := Lib.hid hi1
    have HI2 := Lib.hid hi2
    have hc2 : (N : Int) < (whole32 (fop .mul .f32 x (floatOfInt .f32 ((N : Int) + 2 - 1))) : Int) := by omega
    have hc3 : ¬ (whole32 (fop .mul .f32 x (floatOfInt .f32 ((N : Int) + 2 - 1))) : Int) ≤ (N : Int) := by omega
    clear hi1 hi2
    have hI : bendI N (fop .mul .f32 x (floatOfInt .f32 ((N : Int) + 2 - 1))) = N := by unfold bendI; rw [if_pos hc]
    have e : bendV zs x N = fop .add .f32 (fat zs N) (fop .mul .f32 (fop .sub .f32 (fop .mul .f32 x (floatOfInt .f32 ((N : Int) + 2 - 1))) (floatOfInt .f32 (N : Int))) (fop .sub .f32 (fat zs (N + 1)) (fat zs N))) := by unfold bendV; rw [hI]
    rw [e]
    clear e hI
    obtain ⟨b0, o0, n0, rfl, hb0, e0⟩ := R2.out.at (k := N) (by omega)
    obtain ⟨b1, o1, n1, hab, hb1, e1⟩ := R2.out.at (k := N + 1) (by omega)
    cases hab
    clear hb0 hb1
    have hp1 := HP1.out
    have hp2 := HP2.out
    go_enter Try.func95, Try.ntmps95
    go_wp2_with (first | (first | (refine wpList_fop rfl _ _ _ _ _ rfl _ _ _ rfl rfl (by decide) _ ?_; intro _ _) | (refine upon_fop _ _ _ _ _ (by decide) ?_; intro _ _)) | (refine wpList_ftoi32 rfl 36 3 _ rfl (Option.isSome_iff_exists.2 ⟨_, Try.underlying36⟩) .i64 Try.underlying3 _ _ rfl (by exact HI1.out) ?_))
    have g1 : N < N + 2 := by omega
    have g2 : N + 1 < N + 2 := by omega
    have g3 : (N : Int) < (N : Int) + 2 := by omega
    have g4 : (N : Int) + 1 < (N : Int) + 2 := by omega
    have mw : IntKind.i64.wrap ((N : Int) + 1) = (N : Int) + 1 := IntWalk.i64_in _ (by omega)
    have g5 : (0 : Int) ≤ (N : Int) + 1 := by omega
    have g6 : ((N : Int) + 1).toNat = N + 1 := by omega
    refine wp_region_facts 14 (fun a b => ∃ n, b = a.drewN n) (fun a => ⟨0, (World.drewN_zero a).symm⟩) (fun a b c h h' => by obtain ⟨n, rfl⟩ := h; obtain ⟨m, rfl⟩ := h'; exact ⟨_, World.drewN_drewN _ _ _⟩) ⟨1, rfl⟩ (by kernel_rfl) (by kernel_rfl) (by kernel_rfl) (by kernel_rfl) ?_
    simp only [List.take_succ_cons, List.take_zero, List.drop_succ_cons, List.drop_zero]
    (with_reducible apply wpF_val); (focus (intro vs w1 hE hk; obtain ⟨q, rfl⟩ := hE; go_simp; exact ⟨⟨0, (World.drewN_zero _).symm⟩, rfl⟩)); (simp only [Act.put, List.setIfInBounds_toArray, List.set_cons_zero, List.set_cons_succ, List.cons_append, List.nil_append])
    (with_reducible apply wpF_val); (focus (intro vs w1 hE hk; obtain ⟨q, rfl⟩ := hE; go_simp; exact ⟨⟨0, (World.drewN_zero _).symm⟩, rfl⟩)); (simp only [Act.put, List.setIfInBounds_toArray, List.set_cons_zero, List.set_cons_succ, List.cons_append, List.nil_append])
    (with_reducible apply wpF_val); (focus (intro vs w1 hE hk; obtain ⟨q, rfl⟩ := hE; go_simp; exact ⟨⟨0, (World.drewN_zero _).symm⟩, rfl⟩)); (simp only [Act.put, List.setIfInBounds_toArray, List.set_cons_zero, List.set_cons_succ, List.cons_append, List.nil_append])
    (with_reducible apply wpF_val); (focus (intro vs w1 hE hk; obtain ⟨q, rfl⟩ := hE; go_simp; exact ⟨⟨0, (World.drewN_zero _).symm⟩, rfl⟩)); (simp only [Act.put, List.setIfInBounds_toArray, List.set_cons_zero, List.set_cons_succ, List.cons_append, List.nil_append])
    (with_reducible apply wpF_val); (focus (intro vs w1 hE hk; obtain ⟨q, rfl⟩ := hE; go_simp; exact ⟨⟨0, (World.drewN_zero _).symm⟩, rfl⟩)); (simp only [Act.put, List.setIfInBounds_toArray, List.set_cons_zero, List.set_cons_succ, List.cons_append, List.nil_append])
    (with_reducible apply wpF_val); (focus (intro vs w1 hE hk; obtain ⟨q, rfl⟩ := hE; go_simp; exact ⟨⟨0, (World.drewN_zero _).symm⟩, rfl⟩)); (simp only [Act.put, List.setIfInBounds_toArray, List.set_cons_zero, List.set_cons_succ, List.cons_append, List.nil_append])
    (with_reducible apply wpF_val); (focus (intro vs w1 hE hk; obtain ⟨q, rfl⟩ := hE; go_simp; exact ⟨⟨0, (World.drewN_zero _).symm⟩, rfl⟩)); (simp only [Act.put, List.setIfInBounds_toArray, List.set_cons_zero, List.set_cons_succ, List.cons_append, List.nil_append])
    (with_reducible apply wpF_val); (focus (intro vs w1 hE hk; obtain ⟨q, rfl⟩ := hE; go_simp; exact ⟨⟨0, (World.drewN_zero _).symm⟩, rfl⟩)); (simp only [Act.put, List.setIfInBounds_toArray, List.set_cons_zero, List.set_cons_succ, List.cons_append, List.nil_append])
    (with_reducible apply wpF_val); (focus (intro vs w1 hE hk; obtain ⟨q, rfl⟩ := hE; go_simp; exact ⟨⟨0, (World.drewN_zero _).symm⟩, rfl⟩)); (simp only [Act.put, List.setIfInBounds_toArray, List.set_cons_zero, List.set_cons_succ, List.cons_append, List.nil_append])
    (with_reducible apply wpF_val); (focus (intro vs w1 hE hk; obtain ⟨q, rfl⟩ := hE; go_simp; exact ⟨⟨0, (World.drewN_zero _).symm⟩, rfl⟩)); (simp only [Act.put, List.setIfInBounds_toArray, List.set_cons_zero, List.set_cons_succ, List.cons_append, List.nil_append])
    (with_reducible apply wpF_val); (focus (intro vs w1 hE hk; obtain ⟨q, rfl⟩ := hE; go_simp; exact ⟨⟨0, (World.drewN_zero _).symm⟩, rfl⟩)); (simp only [Act.put, List.setIfInBounds_toArray, List.set_cons_zero, List.set_cons_succ, List.cons_append, List.nil_append])
    (with_reducible apply wpF_val); (focus (intro vs w1 hE hk; obtain ⟨q, rfl⟩ := hE; go_simp; exact ⟨⟨0, (World.drewN_zero _).symm⟩, rfl⟩)); (simp only [Act.put, List.setIfInBounds_toArray, List.set_cons_zero, List.set_cons_succ, List.cons_append, List.nil_append])
    refine wpF_fact (fun u _ => ∃ m, u = .float .f32 (pick .f32 (fop .sub .f32 (fop .mul .f32 x (floatOfInt .f32 ((N : Int) + 2 - 1))) (floatOfInt .f32 (N : Int))) m)) (fun _ _ _ h _ => h) (fun vs w1 hE hk => ?_) ?_; (focus (rw [if_pos (by rfl)]; refine uponW_fop _ _ _ _ _ rfl .f32 _ _ rfl rfl (by decide) (fun n' m' => ⟨⟨_, rfl⟩, n', by first | rfl | simp only [fop_pick_l, fop_pick_r]⟩))); (simp only [Act.put, List.setIfInBounds_toArray, List.set_cons_zero, List.set_cons_succ, List.cons_append, List.nil_append])
    refine wpF_fact (fun u _ => ∃ m, u = .float .f32 (pick .f32 (fop .add .f32 (fat zs N) (fop .mul .f32 (fop .sub .f32 (fop .mul .f32 x (floatOfInt .f32 ((N : Int) + 2 - 1))) (floatOfInt .f32 (N : Int))) (fop .sub .f32 (fat zs (N + 1)) (fat zs N)))) m)) (fun _ _ _ h _ => h) (fun vs w1 hE hk => ?_) ?_; (focus (obtain ⟨n1, hn1⟩ := hk 12 (by kernel_rfl); simp only [hn1]; go_simp; refine (c_between0 _ _ _ _ _ _ _).mono ?_; rintro _ _ ⟨m1, m2, rfl, rfl⟩; exact ⟨_, rfl, ⟨_, rfl⟩, m1, rfl⟩)); (simp only [Act.put, List.setIfInBounds_toArray, List.set_cons_zero, List.set_cons_succ, List.cons_append, List.nil_append])
    refine wpF_nil (fun vs w1 hE hk => ?_)
    obtain ⟨m5, h5⟩ := hk 13
    obtain ⟨q, rfl⟩ := hE
    simp only [h5]
    clear hk h5
    go_wp2_with fail
    go_ret
    exact ⟨_, _, rfl, World.drewN_drewN _ _ _⟩
  · obtain ⟨t, ht⟩ : ∃ t, t = whole32 (fop .mul .f32 x (floatOfInt .f32 ((N : Int) + 2 - 1))) := ⟨_, rfl⟩
    have htN : t ≤ N := by omega
    rw [← ht] at hi1 hi2
    have HI1 := Lib.hid hi1
    have HI2 := Lib.hid hi2
    have hc2 : ¬ (N : Int) < (t : Int) := by omega
    have hc3 : (t : Int) ≤ (N : Int) := by omega
    clear hi1 hi2
    have hI : bendI N (fop .mul .f32 x (floatOfInt .f32 ((N : Int) + 2 - 1))) = t := by unfold bendI; rw [if_neg hc, ht]
    have e : bendV zs x N = fop .add .f32 (fat zs t) (fop .mul .f32 (fop .sub .f32 (fop .mul .f32 x (floatOfInt .f32 ((N : Int) + 2 - 1))) (floatOfInt .f32 (t : Int))) (fop .sub .f32 (fat zs (t + 1)) (fat zs t))) := by unfold bendV; rw [hI]
    rw [e]
    clear e hI ht hc
    obtain ⟨b0, o0, n0, rfl, hb0, e0⟩ := R2.out.at (k := t) (by omega)
    obtain ⟨b1, o1, n1, hab, hb1, e1⟩ := R2.out.at (k := t + 1) (by omega)
    cases hab
    clear hb0 hb1
    have hp1 := HP1.out
    have hp2 := HP2.out
    go_enter Try.func95, Try.ntmps95
    go_wp2_with (first | (first | (refine wpList_fop rfl _ _ _ _ _ rfl _ _ _ rfl rfl (by decide) _ ?_; intro _ _) | (refine upon_fop _ _ _ _ _ (by decide) ?_; intro _ _)) | (refine wpList_ftoi32 rfl 36 3 _ rfl (Option.isSome_iff_exists.2 ⟨_, Try.underlying36⟩) .i64 Try.underlying3 _ _ rfl (by exact HI1.out) ?_))
    have g1 : t < N + 2 := by omega
    have g2 : t + 1 < N + 2 := by omega
    have g3 : (t : Int) < (N : Int) + 2 := by omega
    have g4 : (t : Int) + 1 < (N : Int) + 2 := by omega
    have mw : IntKind.i64.wrap ((t : Int) + 1) = (t : Int) + 1 := IntWalk.i64_in _ (by omega)
    have g5 : (0 : Int) ≤ (t : Int) + 1 := by omega
    have g6 : ((t : Int) + 1).toNat = t + 1 := by omega
    refine wp_region_facts 14 (fun a b => ∃ n, b = a.drewN n) (fun a => ⟨0, (World.drewN_zero a).symm⟩) (fun a b c h h' => by obtain ⟨n, rfl⟩ := h; obtain ⟨m, rfl⟩ := h'; exact ⟨_, World.drewN_drewN _ _ _⟩) ⟨1, rfl⟩ (by kernel_rfl) (by kernel_rfl) (by kernel_rfl) (by kernel_rfl) ?_
    simp only [List.take_succ_cons, List.take_zero, List.drop_succ_cons, List.drop_zero]
    (with_reducible apply wpF_val); (focus (intro vs w1 hE hk; obtain ⟨q, rfl⟩ := hE; go_simp; exact ⟨⟨0, (World.drewN_zero _).symm⟩, rfl⟩)); (simp only [Act.put, List.setIfInBounds_toArray, List.set_cons_zero, List.set_cons_succ, List.cons_append, List.nil_append])
    (with_reducible apply wpF_val); (focus (intro vs w1 hE hk; obtain ⟨q, rfl⟩ := hE; go_simp; exact ⟨⟨0, (World.drewN_zero _).symm⟩, rfl⟩)); (simp only [Act.put, List.setIfInBounds_toArray, List.set_cons_zero, List.set_cons_succ, List.cons_append, List.nil_append])
    (with_reducible apply wpF_val); (focus (intro vs w1 hE hk; obtain ⟨q, rfl⟩ := hE; go_simp; exact ⟨⟨0, (World.drewN_zero _).symm⟩, rfl⟩)); (simp only [Act.put, List.setIfInBounds_toArray, List.set_cons_zero, List.set_cons_succ, List.cons_append, List.nil_append])
    (with_reducible apply wpF_val); (focus (intro vs w1 hE hk; obtain ⟨q, rfl⟩ := hE; go_simp; exact ⟨⟨0, (World.drewN_zero _).symm⟩, rfl⟩)); (simp only [Act.put, List.setIfInBounds_toArray, List.set_cons_zero, List.set_cons_succ, List.cons_append, List.nil_append])
    (with_reducible apply wpF_val); (focus (intro vs w1 hE hk; obtain ⟨q, rfl⟩ := hE; go_simp; exact ⟨⟨0, (World.drewN_zero _).symm⟩, rfl⟩)); (simp only [Act.put, List.setIfInBounds_toArray, List.set_cons_zero, List.set_cons_succ, List.cons_append, List.nil_append])
    (with_reducible apply wpF_val); (focus (intro vs w1 hE hk; obtain ⟨q, rfl⟩ := hE; go_simp; exact ⟨⟨0, (World.drewN_zero _).symm⟩, rfl⟩)); (simp only [Act.put, List.setIfInBounds_toArray, List.set_cons_zero, List.set_cons_succ, List.cons_append, List.nil_append])
    (with_reducible apply wpF_val); (focus (intro vs w1 hE hk; obtain ⟨q, rfl⟩ := hE; go_simp; exact ⟨⟨0, (World.drewN_zero _).symm⟩, rfl⟩)); (simp only [Act.put, List.setIfInBounds_toArray, List.set_cons_zero, List.set_cons_succ, List.cons_append, List.nil_append])
    (with_reducible apply wpF_val); (focus (intro vs w1 hE hk; obtain ⟨q, rfl⟩ := hE; go_simp; exact ⟨⟨0, (World.drewN_zero _).symm⟩, rfl⟩)); (simp only [Act.put, List.setIfInBounds_toArray, List.set_cons_zero, List.set_cons_succ, List.cons_append, List.nil_append])
    (with_reducible apply wpF_val); (focus (intro vs w1 hE hk; obtain ⟨q, rfl⟩ := hE; go_simp; exact ⟨⟨0, (World.drewN_zero _).symm⟩, rfl⟩)); (simp only [Act.put, List.setIfInBounds_toArray, List.set_cons_zero, List.set_cons_succ, List.cons_append, List.nil_append])
    (with_reducible apply wpF_val); (focus (intro vs w1 hE hk; obtain ⟨q, rfl⟩ := hE; go_simp; exact ⟨⟨0, (World.drewN_zero _).symm⟩, rfl⟩)); (simp only [Act.put, List.setIfInBounds_toArray, List.set_cons_zero, List.set_cons_succ, List.cons_append, List.nil_append])
    (with_reducible apply wpF_val); (focus (intro vs w1 hE hk; obtain ⟨q, rfl⟩ := hE; go_simp; exact ⟨⟨0, (World.drewN_zero _).symm⟩, rfl⟩)); (simp only [Act.put, List.setIfInBounds_toArray, List.set_cons_zero, List.set_cons_succ, List.cons_append, List.nil_append])
    (with_reducible apply wpF_val); (focus (intro vs w1 hE hk; obtain ⟨q, rfl⟩ := hE; go_simp; exact ⟨⟨0, (World.drewN_zero _).symm⟩, rfl⟩)); (simp only [Act.put, List.setIfInBounds_toArray, List.set_cons_zero, List.set_cons_succ, List.cons_append, List.nil_append])
    refine wpF_fact (fun u _ => ∃ m, u = .float .f32 (pick .f32 (fop .sub .f32 (fop .mul .f32 x (floatOfInt .f32 ((N : Int) + 2 - 1))) (floatOfInt .f32 (t : Int))) m)) (fun _ _ _ h _ => h) (fun vs w1 hE hk => ?_) ?_; (focus (rw [if_pos (by rfl)]; refine uponW_fop _ _ _ _ _ rfl .f32 _ _ rfl rfl (by decide) (fun n' m' => ⟨⟨_, rfl⟩, n', by first | rfl | simp only [fop_pick_l, fop_pick_r]⟩))); (simp only [Act.put, List.setIfInBounds_toArray, List.set_cons_zero, List.set_cons_succ, List.cons_append, List.nil_append])
    refine wpF_fact (fun u _ => ∃ m, u = .float .f32 (pick .f32 (fop .add .f32 (fat zs t) (fop .mul .f32 (fop .sub .f32 (fop .mul .f32 x (floatOfInt .f32 ((N : Int) + 2 - 1))) (floatOfInt .f32 (t : Int))) (fop .sub .f32 (fat zs (t + 1)) (fat zs t)))) m)) (fun _ _ _ h _ => h) (fun vs w1 hE hk => ?_) ?_; (focus (obtain ⟨n1, hn1⟩ := hk 12 (by kernel_rfl); simp only [hn1]; go_simp; refine (c_between0 _ _ _ _ _ _ _).mono ?_; rintro _ _ ⟨m1, m2, rfl, rfl⟩; exact ⟨_, rfl, ⟨_, rfl⟩, m1, rfl⟩)); (simp only [Act.put, List.setIfInBounds_toArray, List.set_cons_zero, List.set_cons_succ, List.cons_append, List.nil_append])
    refine wpF_nil (fun vs w1 hE hk => ?_)
    obtain ⟨m5, h5⟩ := hk 13
    obtain ⟨q, rfl⟩ := hE
    simp only [h5]
    clear hk h5
    go_wp2_with fail
    go_ret
    exact ⟨_, _, rfl, World.drewN_drewN _ _ _⟩
/-! ### IsNaN -/
theorem c_IsNaN (v n : Nat) (w : World) (j : Nat) : Calls Try.prog 135 #[.float .f64 (pick .f64 v n)] (w.drewN j) (RetV (.bool (isN .f64 v)) w) := by
  go_enter Try.func135, Try.ntmps135
  go_wp2
  go_ret
  exact ⟨_, rfl, rfl⟩
/-! ### f64bits -/
@[go_sem] theorem e_f64bits (b : Nat) (w : World) : (callFunc 151 #[.float .f64 b]).run Try.prog w = .ok (.value (.int .u64 b)) w := by kernel_rfl
/-! ### f64from -/
@[go_sem] theorem e_f64from (n : Int) (w : World) : (callFunc 150 #[.int .u64 n]).run Try.prog w = .ok (.value (.float .f64 n.toNat)) w := by kernel_rfl
/-! ### Abs -/
theorem c_Abs (v n : Nat) (w : World) (j : Nat) (hv : v < 2 ^ FloatKind.f64.format.width) : Calls Try.prog 144 #[.float .f64 (pick .f64 v n)] (w.drewN j) (RetF .f64 (fabs .f64 v) w) := by
  have hb := abs_bits hv n
  go_enter Try.func144, Try.ntmps144
  go_wp2
  go_ret
  exact ⟨_, _, rfl, rfl⟩
/-! ### IsInf0 -/
theorem c_IsInf0 (v n : Nat) (w : World) (j : Nat) (hv : v < 2 ^ FloatKind.f64.format.width) : Calls Try.prog 136 #[.float .f64 (pick .f64 v n), .int .i64 0] (w.drewN j) (RetV (.bool (FloatKind.f64.format.order (fabs .f64 v) 9218868437227405311 == some .gt)) w) := by
  go_enter Try.func136, Try.ntmps136
  go_wp2_with ((go_at_call 144; refine (c_Abs _ _ _ _ hv).mono ?_; rintro _ _ ⟨_, _, rfl, rfl⟩))
  go_ret
  exact ⟨_, rfl, rfl⟩
/-! ### isFinite64 -/
theorem c_isFinite64 (v n : Nat) (w : World) (j : Nat) (hv : v < 2 ^ FloatKind.f64.format.width) : Calls Try.prog 107 #[.float .f64 (pick .f64 v n)] (w.drewN j) (RetV (.bool (finB .f64 v)) w) := by
  go_enter Try.func107, Try.ntmps107
  go_wp2_with (first | (go_at_call 135; refine (c_IsNaN _ _ _ _).mono ?_; rintro _ _ ⟨_, rfl, rfl⟩) | (go_at_call 136; refine (c_IsInf0 _ _ _ _ hv).mono ?_; rintro _ _ ⟨_, rfl, rfl⟩))
  all_goals
    go_ret
    refine ⟨_, ?_, rfl⟩
    rw [← abs_gt_max]
    simp [*]
/-! ### iIsFinite -/
theorem c_iIsFinite (v n : Nat) (w : World) (j : Nat) : Calls Try.prog 52 #[.float .f32 (pick .f32 v n)] (w.drewN j) (RetV (.bool (finB .f32 v)) w) := by
  go_enter Try.func52, Try.ntmps52
  go_wp2_with (first | (refine wpList_cvU rfl 36 47 _ rfl (Option.isSome_iff_exists.2 ⟨_, Try.underlying36⟩) Try.underlying47 _ rfl _ ?_; intro _ _) | (go_at_call 107; refine (c_isFinite64 _ _ _ _ (cvU_lt _)).mono ?_; rintro _ _ ⟨_, rfl, rfl⟩))
  go_ret
  rw [← finB_cvU]
  exact ⟨_, rfl, rfl⟩
/-! ### areFinite -/
theorem c_areFinite (a : Option Addr) (len cap : Nat) (zs : List Nat) (w : World) (j0 : Nat) (hr : IsRowF .f32 w a len cap zs) : Calls Try.prog 101 #[.slice a len cap] (w.drewN j0) (RetV (.bool (finL zs)) w) := by
  obtain ⟨h1, h2, h3, h4, h5⟩ := hr
  unfold maxLen at h3
  have H1 := Lib.hid h1
  clear h1
  go_enter Try.func101, Try.ntmps101
  go_wp2
  go_loopw [4, 7] (fun _ i wr => ∃ k m : Nat, k ≤ len ∧ i = .int .i64 k ∧ wr = w.drewN m ∧ finL (zs.take k) = true) (fun _ i _ => len - (intOf i).toNat)
  case atStart => exact ⟨0, j0, Nat.zero_le _, rfl, rfl, rfl⟩
  case round =>
    obtain ⟨k, m, hk, rfl, rfl, hfin⟩ := hrel
    have HFin := Lib.hid hfin
    clear hfin
    by_cases hlt : k < len
    · rcases h5 with h5 | ⟨b, off, rfl, hbl, hc⟩
      · omega
      have hcell : w.cell? ⟨b, off + k, none⟩ = some (.float .f32 (fat zs k)) := hc k hlt
      obtain ⟨n, hn⟩ := pick0 .f32 (fat zs k) (lt_of_wf (h4 _ (by unfold fat; rw [List.getD, List.getElem?_eq_getElem (by have := H1.out; omega)]; exact List.getElem_mem _)))
      rw [hn] at hcell
      have HS := Lib.hid (finL_snoc zs k (by have := H1.out; omega))
      cases hf : finB .f32 (fat zs k)
      · have HO := Lib.hid (finL_of zs k (by have := H1.out; omega) hf)
        clear hc h4 hn
        go_wp2_with ((go_at_call 52; refine (c_iIsFinite _ _ _ _).mono ?_; rintro _ _ ⟨_, rfl, rfl⟩))
        go_ret
        exact ⟨_, by rw [HO.out]; rfl, rfl⟩
      · have HF := Lib.hid hf
        clear hc h4 hn
        go_wp2_with ((go_at_call 52; refine (c_iIsFinite _ _ _ _).mono ?_; rintro _ _ ⟨_, rfl, rfl⟩))
        go_roundw
        case rel => exact ⟨k + 1, _, by omega, by go_num, rfl, by rw [HS.out, HFin.out, HF.out]; rfl⟩
        case measure => simp [intOf]; omega
    · have e : zs.take k = zs := List.take_of_length_le (by have := H1.out; omega)
      have HE := Lib.hid e
      clear h5 h4 e
      go_wp2
      go_ret
      exact ⟨_, by have h := HFin.out; rw [HE.out] at h; rw [h]; rfl, rfl⟩
/-! ### areRising -/
theorem c_areRising (zs : List Nat) (a : Option Addr) (c : Nat) (w : World) (j0 : Nat) (hr : IsRowF .f32 w a zs.length c zs) : Calls Try.prog 132 #[.slice a zs.length c] (w.drewN j0) (RetV (.bool (riseK zs zs.length && finL zs)) w) := by
  have mA : zs.length ≤ maxLen := Nat.le_trans hr.2.1 hr.2.2.1
  unfold maxLen at mA
  have RA := Lib.hid hr
  clear hr
  go_enter Try.func132, Try.ntmps132
  go_wp2_with fail
  go_loopw [3, 4, 7] (fun _ _ i wr => ∃ k m : Nat, k ≤ zs.length ∧ i = .int .i64 k ∧ wr = w.drewN m ∧ riseK zs k = true) (fun _ _ i _ => zs.length - (intOf i).toNat)
  case atStart => exact ⟨0, _, by omega, rfl, rfl, rfl⟩
  case round =>
    obtain ⟨k, m, hk, rfl, rfl, hR⟩ := hrel
    have HR := Lib.hid hR
    clear hR
    by_cases hlt : k < zs.length
    · obtain ⟨bA, oA, nA, rfl, hbA, eA⟩ := RA.out.at hlt
      clear hbA
      cases k with
      | zero =>
        rw [Nat.add_zero] at eA
        go_wp2_with fail
        go_roundw
        case rel => exact ⟨1, _, by omega, by go_num, rfl, rfl⟩
        case measure => simp [intOf]; omega
      | succ k =>
        obtain ⟨bB, oB, nB, hab, hbB, eB⟩ := RA.out.at (k := k) (by omega)
        cases hab
        clear hbB
        cases hle : leB (fat zs (k + 1)) (fat zs k)
        all_goals
          have HL := Lib.hid hle
          unfold leB at hle
          go_wp2_with fail
        · go_roundw
          case rel => exact ⟨k + 2, _, by omega, by go_num, rfl, by show (riseK zs (k + 1) && !leB (fat zs (k + 1)) (fat zs k)) = true; rw [HR.out, HL.out]; rfl⟩
          case measure => simp [intOf]; omega
        · go_ret
          exact ⟨_, by rw [riseK_false (k := k + 2) (show (riseK zs (k + 1) && !leB (fat zs (k + 1)) (fat zs k)) = false by rw [HL.out, Bool.not_true, Bool.and_false]) zs.length (by omega)]; rfl, rfl⟩
    · obtain rfl : k = zs.length := by omega
      go_wp2_with ((go_at_call 101; refine (c_areFinite a zs.length c zs w _ RA.out).mono ?_; rintro _ _ ⟨_, rfl, rfl⟩))
      go_ret
      exact ⟨_, by rw [HR.out]; rfl, rfl⟩
/-! ### iIsBend -/
theorem bendC_short {zs : List Nat} (h : zs.length < 2) : bendB zs = false := by unfold bendB; rw [decide_eq_false (by omega)]; rfl
theorem bendC_long {zs : List Nat} (h : 17 < zs.length) : bendB zs = false := by unfold bendB; rw [decide_eq_false (p := zs.length ≤ 17) (by omega), Bool.and_false]; rfl
theorem bendB_mid2 {zs : List Nat} (h1 : ¬ zs.length < 2) (h2 : ¬ 17 < zs.length) : bendB zs = (riseK zs zs.length && finL zs) := by unfold bendB; rw [decide_eq_true (p := zs.length ≤ 17) (by omega), decide_eq_true (by omega), Bool.and_comm (finL zs)]; rfl
theorem c_iIsBend0 (zs : List Nat) (a : Option Addr) (c : Nat) (w : World) (j0 : Nat) (hr : IsRowF .f32 w a zs.length c zs) : Calls Try.prog 92 #[.slice a zs.length c] (w.drewN j0) (RetV (.bool (bendB zs)) w) := by
  have mA : zs.length ≤ maxLen := Nat.le_trans hr.2.1 hr.2.2.1
  unfold maxLen at mA
  have RA := Lib.hid hr
  clear hr
  by_cases h1 : zs.length < 2
  · rw [bendC_short h1]
    have g : ¬ (2 : Int) ≤ (zs.length : Int) := by omega
    go_enter Try.func92, Try.ntmps92
    go_wp2_with fail
    go_ret
    exact ⟨_, by simp, rfl⟩
  by_cases h2 : 17 < zs.length
  · rw [bendC_long h2]
    go_enter Try.func92, Try.ntmps92
    go_wp2_with fail
    go_ret
    exact ⟨_, by simp, rfl⟩
  rw [bendB_mid2 h1 h2]
  have C := Lib.hid (fun j => c_areRising zs a c w j RA.out)
  generalize (riseK zs zs.length && finL zs) = r at *
  go_enter Try.func92, Try.ntmps92
  go_wp2_with ((go_at_call 132; refine (C.out _).mono ?_; rintro _ _ ⟨_, rfl, rfl⟩))
  go_ret
  exact ⟨_, by simp, rfl⟩
/-! ### ifFinite -/
theorem c_ifFinite (v n : Nat) (w : World) (j : Nat) : Calls Try.prog 94 #[.float .f32 (pick .f32 v n)] (w.drewN j) (fun e w' => ∃ k m, e = .returned (.tuple #[.float .f32 (pick .f32 (numR v).1 k), .bool (numR v).2]) ∧ w' = w.drewN m) := by
  cases h : finB .f32 v
  · have e : numR v = (0, false) := by unfold numR; rw [if_neg (by rw [h]; decide)]
    rw [e]
    go_enter Try.func94, Try.ntmps94
    go_wp2_with (first | (go_at_call 52; refine (c_iIsFinite _ _ _ _).mono ?_; rintro _ _ ⟨_, rfl, rfl⟩))
    go_ret2
    exact ⟨0, _, by simp only [pick00]; rfl, rfl⟩
  · have e : numR v = (v, true) := by unfold numR; rw [if_pos h]
    rw [e]
    go_enter Try.func94, Try.ntmps94
    go_wp2_with (first | (go_at_call 52; refine (c_iIsFinite _ _ _ _).mono ?_; rintro _ _ ⟨_, rfl, rfl⟩))
    go_ret2
    exact ⟨n, _, rfl, rfl⟩
/-! ### isLevel -/
theorem c_isLevel (v n : Nat) (w : World) (j : Nat) : Calls Try.prog 93 #[.float .f32 (pick .f32 v n)] (w.drewN j) (RetV (.bool (shareB v)) w) := by
  unfold shareB one32
  cases h : (FloatKind.f32.format.order v 0 == some .gt || FloatKind.f32.format.order v 0 == some .eq)
  all_goals
    have HH := Lib.hid h
    go_enter Try.func93, Try.ntmps93
    go_wp2
    go_ret
    exact ⟨_, by simp [HH.out], rfl⟩
/-! ### iBendAt -/
theorem c_iBendAt (zs : List Nat) (a : Option Addr) (c : Nat) (x n : Nat) (w : World) (hr : IsRowF .f32 w a zs.length c zs) (hx : x < 2 ^ FloatKind.f32.format.width) : Calls Try.prog 32 #[.slice a zs.length c, .float .f32 (pick .f32 x n)] w (RetF1 (bendAtR zs x) w) := by
  have mA : zs.length ≤ maxLen := Nat.le_trans hr.2.1 hr.2.2.1
  unfold maxLen at mA
  rw [← w.drewN_zero]
  cases hB : bendB zs
  · have e : bendAtR zs x = (0, false) := by unfold bendAtR; rw [hB]; rfl
    rw [e]
    have C1 := Lib.hid (fun j => (by have h := c_iIsBend0 zs a c w j hr; rwa [hB] at h : Calls Try.prog 92 #[.slice a zs.length c] (w.drewN j) (RetV (.bool false) w)))
    clear hB hr e
    go_enter Try.func32, Try.ntmps32
    go_wp2_with ((go_at_call 92; refine (C1.out _).mono ?_; rintro _ _ ⟨_, rfl, rfl⟩))
    go_ret2
    exact RetF1.no rfl (below_drewN (Below.refl _ _) _)
  have C1 := Lib.hid (fun j => (by have h := c_iIsBend0 zs a c w j hr; rwa [hB] at h : Calls Try.prog 92 #[.slice a zs.length c] (w.drewN j) (RetV (.bool true) w)))
  cases hS : shareB x
  · have e : bendAtR zs x = (0, false) := by unfold bendAtR; rw [hB, hS]; rfl
    rw [e]
    have C2 := Lib.hid (fun n j => (by have h := c_isLevel x n w j; rwa [hS] at h : Calls Try.prog 93 #[.float .f32 (pick .f32 x n)] (w.drewN j) (RetV (.bool false) w)))
    clear hB hr e hS
    go_enter Try.func32, Try.ntmps32
    go_wp2_with (first | (go_at_call 92; refine (C1.out _).mono ?_; rintro _ _ ⟨_, rfl, rfl⟩) | (go_at_call 93; refine (C2.out _ _).mono ?_; rintro _ _ ⟨_, rfl, rfl⟩))
    go_ret2
    exact RetF1.no rfl (below_drewN (Below.refl _ _) _)
  obtain ⟨hl1, hl2⟩ := bend_len hB
  obtain ⟨N, hN⟩ : ∃ N, zs.length = N + 2 := ⟨zs.length - 2, by omega⟩
  have e : bendAtR zs x = numR (bendV zs x N) := by unfold bendAtR; rw [hB, hS, hN]; rfl
  rw [e]
  have C2 := Lib.hid (fun n j => (by have h := c_isLevel x n w j; rwa [hS] at h : Calls Try.prog 93 #[.float .f32 (pick .f32 x n)] (w.drewN j) (RetV (.bool true) w)))
  have CA := Lib.hid (fun n j => (by have h := c_bendAt zs N a c x n w j hN (by omega) (by rw [← hN]; exact hr) hS; rwa [← hN] at h : Calls Try.prog 95 #[.slice a zs.length c, .float .f32 (pick .f32 x n)] (w.drewN j) (RetF .f32 (bendV zs x N) w)))
  clear hB hr e hS hN hl1 hl2
  go_enter Try.func32, Try.ntmps32
  go_wp2_with (first | (go_at_call 92; refine (C1.out _).mono ?_; rintro _ _ ⟨_, rfl, rfl⟩) | (go_at_call 93; refine (C2.out _ _).mono ?_; rintro _ _ ⟨_, rfl, rfl⟩) | (go_at_call 95; refine (CA.out _ _).mono ?_; rintro _ _ ⟨_, _, rfl, rfl⟩) | (go_at_call 94; refine (c_ifFinite _ _ _ _).mono ?_; rintro _ _ ⟨_, _, rfl, rfl⟩))
  go_ret2
  exact ⟨_, rfl, below_drewN (Below.refl _ _) _⟩
/-! ### lawBendAt -/

/-! ### FnExactBendAt -/
theorem walk (a : Option Addr) (len cap : Nat) (zs : List Nat) (vX nX : Nat) (w : World) (hr : IsRowF .f32 w a len cap zs) (hX : vX < 2 ^ FloatKind.f32.format.width) : Calls Try.prog 9 #[.slice a len cap, .float .f32 (pick .f32 vX nX)] w fun e w' => e = .returned (.bool true) ∧ Below w.heap.size w w' := by
  obtain rfl := hr.1
  by_cases hl : 1048576 < zs.length
  · go_enter Try.func9, Try.ntmps9
    go_wp2_with fail
    go_ret
    exact ⟨rfl, Below.refl _ _⟩
  have R := Lib.hid hr
  clear hr
  have Cs := Lib.hid (fun (a : Option Addr) (c : Nat) (w : World) (hq : IsRowF .f32 w a zs.length c zs) => (c_sBendAt zs a c vX nX w hq hX : Calls Try.prog 31 #[.slice a zs.length c, .float .f32 (pick .f32 vX nX)] w (RetF1 (bendAtR zs vX) w)))
  have Ci := Lib.hid (fun (a : Option Addr) (c : Nat) (w : World) (hq : IsRowF .f32 w a zs.length c zs) => (c_iBendAt zs a c vX nX w hq hX : Calls Try.prog 32 #[.slice a zs.length c, .float .f32 (pick .f32 vX nX)] w (RetF1 (bendAtR zs vX) w)))
  generalize bendAtR zs vX = r at *
  go_enter Try.func9, Try.ntmps9
  go_wp2_with fail
  refine (c_toF a zs.length cap zs w R.out (by omega)).mono ?_
  rintro _ w1 ⟨g1, rfl, hg1, hb1, hr1, _⟩
  have B1 := Lib.hid hb1
  have R1 := Lib.hid hr1
  clear hb1 hr1
  go_wp2_with fail
  refine (Cs.out _ _ w1 R1.out).mono ?_
  rintro _ w2 ⟨m1, rfl, b⟩
  have B2 := Lib.hid (B1.out.trans (b.mono B1.out.size))
  clear b
  go_wp2_with fail
  refine (c_toF a zs.length cap zs w2 (R.out.below B2.out) (by omega)).mono ?_
  rintro _ w3 ⟨g3, rfl, hg3, hb3, hr3, _⟩
  have B3 := Lib.hid (B2.out.trans (hb3.mono B2.out.size))
  have R3 := Lib.hid hr3
  clear hb3 hr3
  go_wp2_with fail
  refine (Ci.out _ _ w3 R3.out).mono ?_
  rintro _ w4 ⟨m2, rfl, b⟩
  have B4 := Lib.hid (B3.out.trans (b.mono B3.out.size))
  have R4 := Lib.hid (R3.out.below b)
  clear b
  rw [← w4.drewN_zero]
  go_wp2_with (first | (refine wpList_cvU rfl 36 47 _ rfl (Option.isSome_iff_exists.2 ⟨_, Try.underlying36⟩) Try.underlying47 _ rfl _ ?_; intro _ _) | (go_at_call 28; refine (c_sameFloat _ _ _ _ _).mono ?_; rintro _ _ ⟨jx, rfl, rfl⟩))
  have b : Below w4.heap.size w4 (w4.drewN jx) := below_drewN (Below.refl _ _) _
  generalize w4.drewN jx = w5 at *
  have B5 := Lib.hid (B4.out.trans (b.mono B4.out.size))
  have R5 := Lib.hid (R4.out.below b)
  clear b
  refine (c_toF a zs.length cap zs w5 (R.out.below B5.out) (by omega)).mono ?_
  rintro _ w6 ⟨g6, rfl, hg6, hb6, hr6, _⟩
  have B6 := Lib.hid (B5.out.trans (hb6.mono B5.out.size))
  have R6 := Lib.hid (R5.out.below hb6)
  have R7 := Lib.hid hr6
  clear hb6 hr6
  go_wp2_with fail
  refine (c_eqF0 _ _ _ _ _ zs w6 R6.out R7.out).mono ?_
  rintro _ _ ⟨jy, rfl, rfl⟩
  go_wp2_with fail
  go_ret
  exact ⟨rfl, below_drewN B6.out _⟩
theorem own : ownKnob Try.prog.godebug = none := by kernel_rfl
theorem laidOut : laidOutB Try.prog = true := by kernel_rfl
set_option maxRecDepth 100000 in
theorem lifted (os : Os) (started : os.Started) (H : Type) (enc : TypeId × Value → H) :
    ReturnsInHanded {} Try.checked os 9 .any (Rows.fnExactBendAtSpec.pre6 enc Try.prog Try.f9 Rows.fnExactBendAtRow.domain false) (Rows.fnExactBendAtSpec.post enc Try.prog Try.f9 false true false false) := by
  refine returnsInHanded_of_change (C := Try.checked) own started (by kernel_rfl) Try.func9
    (ChangeSpec.witness6 (enc := enc) (C := Try.checked) false ⟨#[], #[.slice none 0 0, .float .f32 0], []⟩ 8 (by kernel_rfl) (by kernel_rfl) (by kernel_rfl) (by kernel_rfl)) ?_
  intro W base args ds gs before hval0 hW hcnd _
  have hval : ∀ (j : Nat) t v, Try.f9.params[j]? = some t → args[j]? = some v → Value.okWide Try.prog W .any base t v := hval0
  have hW' := hW
  obtain ⟨p, q, hA0, hV, rfl, hfz, hnd⟩ := hW
  have hA : DataW.TrodAll enc Try.prog W 0 (fun _ => true) true Try.f9.params.toList args.toList ds p := hA0
  rw [Try.params9] at hA hval
  obtain ⟨v0, vs0, d0, ds0, p0, q0, hargs, rfl, rfl, h0, r0⟩ := trodAll_cons hA
  obtain ⟨v1, vs1, d1, ds1, p1, q1, rfl, rfl, rfl, h1, r1⟩ := trodAll_cons r0
  obtain ⟨rfl, rfl, rfl⟩ := trodAll_nil r1
  obtain rfl : args = #[v0, v1] := by cases args; simp_all
  obtain ⟨rfl, rfl⟩ := trodVars_none hV
  obtain ⟨a0, len0, cap0, rfl⟩ := okWide_slice Try.underlying22 (hval 0 22 v0 rfl rfl)
  have k0 := h0
  have lt0 : ∀ x ∈ p0, x.block < W.heap.size := by obtain ⟨m, hm⟩ := k0; exact DataW.trod_lt m _ _ _ hm
  obtain ⟨z0, w0⟩ := rowF_of Try.underlying22 Try.underlying36 (by kernel_rfl) h0
  obtain ⟨b1, rfl, rfl, rfl, w1⟩ := open_float Try.underlying36 (hval 1 36 v1 rfl rfl) h1
  obtain ⟨n1, en1⟩ := pick_onto .f32 b1 (lt_of_wf w1)
  clear hA0 hval0
  have hcall1 := en1
  have hw0 : Calls Try.prog 9 #[.slice a0 len0 cap0, .float .f32 b1] W fun e w' => e = .returned (.bool true) ∧ Below W.heap.size W w' := by
    rw [en1]
    exact walk a0 len0 cap0 z0 b1 n1 W w0 (lt_of_wf w1)
  refine hw0.mono fun e W' ⟨he, bel⟩ => ?_
  subst he
  exact ⟨_, rfl, _, _, _, [], _, [], hW', trodAll_mk1 (shut_bool Try.underlying4 _), (trodAll_cons_mk (Below.trod laidOut (by kernel_rfl) (of_decide_eq_true (by kernel_rfl)) k0 bel lt0) (trodAll_cons_mk (shut_float Try.underlying36 w1) trodAll_mk0)), rfl, bel.frame _, fun h => by cases h⟩

theorem over : Rows.fnExactBendAtRow.holds Try.pinned (OpenSpec.ofChange Rows.fnExactBendAtSpec) :=
  OpenClaim.holds_of_wide 9 Try.f9 rfl rfl rfl rfl rfl rfl rfl ⟨rfl, rfl, rfl, rfl, rfl⟩ rfl rfl rfl rfl rfl (by kernel_rfl) Try.func9 (by kernel_rfl)
    (of_decide_eq_true (by kernel_rfl)) (by unfold Func.isWrapper; first | (rw [if_pos (by decide +kernel)]; kernel_rfl) | (rw [if_neg (by decide +kernel)]; exact ⟨rfl, rfl⟩))
    (fun os started H enc _ => lifted os started H enc)

theorem proved : Rows.FnExactBendAtSaid := over
#print axioms proved

end Go.Proofs.Ytbloibljjhddaab.fnExactBendAt

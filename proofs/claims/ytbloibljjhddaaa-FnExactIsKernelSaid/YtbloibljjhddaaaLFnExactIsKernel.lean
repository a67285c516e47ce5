/-
  FnExactIsKernel: for every input this law of the program returns true, and each argument reads as before. No condition.
-/
import Derived.Test.YtbloibljjhddaaaRows
import Derived.Test.YtbloibljjhddaaaRow
import Derived.ProofKit
import Derived.OpenShut
import Derived.ShutString
import Derived.ChangeOld
import Derived.Below
import Derived.Lib.Hide
import Derived.Outline
import Derived.Deep.RegionHeld3
import Derived.Deep.DeepCutAuto
set_option linter.unusedSimpArgs false
set_option linter.unusedVariables false
set_option exponentiation.threshold 2000
set_option maxRecDepth 20000
set_option maxHeartbeats 4000000
namespace Go.Proofs.Ytbloibljjhddaaa.fnExactIsKernel
open Go Go.Proofs.Ytbloibljjhddaaa Go.Proofs
open Go.ChangeShapes Go.WideShapes Go.ChangeAt Go.RowKit
open Go.ChangeMaps (open_string shut_string)
/-! ### toFloat32S -/
theorem infoF : (Try.prog.info? 26).map (fun i => (i.zero, i.size, i.bytes)) = some (some (.float .f32 0), 1, 4) := by kernel_rfl
theorem c_toF (a : Option Addr) (len cap : Nat) (zs : List Nat) (w : World) (hr : IsRowF .f32 w a len cap zs) (hl : len ≤ 1048576) : Calls Try.prog 15 #[.slice a len cap] w (NewF .f32 zs len w) := by
  obtain ⟨i0, hi, hz0, hz1, hz2⟩ := info_parts infoF
  obtain ⟨h1, h2, h3, h4, h5⟩ := hr
  go_enter Try.func15, Try.ntmps15
  go_wp2_with (at_make; refine wpList_make_full _ rfl _ _ 22 rfl w.heap.size 26 i0 (.float .f32 0) 1 Try.underlying22 hi hz0 hz1 _ _ _ _ len rfl rfl rfl rfl (by rw [hz2]; omega) (by unfold maxLen; omega) (by simp) ?_; intro w1 hown hgrow)
  have hblk := block_of_owns hown
  have e0 : (madeCells (Value.float FloatKind.f32 0).cells (len * 1)).toList = List.replicate len (.float .f32 0) := by rw [Nat.mul_one]; exact made_zeros _ _
  rw [e0] at hblk
  have hbel : Below w.heap.size w w1 := (Below.refl _ _).grown hgrow (Nat.le_refl _) (by simp)
  have HB := Lib.hid hblk
  clear hown hgrow hblk e0 hz0 hz1 hz2
  go_loopw [4] (fun i wr => ∃ j : Nat, j ≤ len ∧ i = .int .i64 j ∧ Below w.heap.size w wr ∧ wr.heap[w.heap.size]? = some (.cells (fl .f32 (zs.take j) ++ List.replicate (zs.length - j) (Value.float .f32 0)).toArray 26 (0, 0))) (fun i _ => len - (intOf i).toNat)
  case atStart => exact ⟨0, Nat.zero_le _, rfl, hbel, by rw [HB.out, h1]; rfl⟩
  case round =>
    obtain ⟨j, hj, rfl, hb, hblk⟩ := hrel
    have Hblk := Lib.hid hblk
    clear hblk
    by_cases hlt : j < len
    · rcases h5 with h5 | ⟨b, off, rfl, hbl, hc⟩
      · omega
      have hcell : wr.cell? ⟨b, off + j, none⟩ = some (.float .f32 (fat zs j)) := by rw [hb.cell (p := ⟨b, off + j, none⟩) hbl]; exact hc j hlt
      have hold : wr.cell? ⟨w.heap.size, j, none⟩ = some (.float .f32 0) := by
        rw [cell_of_block Hblk.out, List.getElem?_append_right (by simp [fl]; omega)]
        have e : (fl FloatKind.f32 (List.take j zs)).length = j := by simp [fl]; omega
        rw [e, Nat.sub_self, List.getElem?_replicate, if_pos (by omega)]
      have hfz : wr.frozen? ⟨w.heap.size, j, none⟩ = false := frozen_of_block Hblk.out j
      have hset := block_set Hblk.out j (.float .f32 (fat zs j))
      rw [set_step zs _ j (by omega)] at hset
      have Hset := Lib.hid hset
      clear hset hc
      go_wp2
      go_roundw
      case rel => exact ⟨j + 1, by omega, by go_num, hb.setCell (Nat.le_refl _) _, Hset.out⟩
      case measure => simp [intOf]; omega
    · obtain rfl : j = len := by omega
      have e1 : fl .f32 (zs.take j) ++ List.replicate (zs.length - j) (Value.float .f32 0) = fl .f32 zs := by rw [h1, Nat.sub_self, List.replicate_zero, List.append_nil, List.take_of_length_le (by omega)]
      have hblk2 := Hblk.out
      rw [e1] at hblk2
      have hrow := rowF_of_block hblk2 (by unfold maxLen at *; omega) h4
      have hfz := frozen_of_block hblk2
      have HF := Lib.hid hfz
      have HR := Lib.hid hrow
      clear hfz hrow hblk2 e1
      go_wp2
      go_ret
      exact ⟨w.heap.size, rfl, Nat.le_refl _, hb, by have := HR.out; rwa [h1] at this, HF.out⟩
/-! ### sameFloat -/
theorem c_sameFloat (v n m : Nat) (w : World) (j : Nat) : Calls Try.prog 36 #[.float .f64 (pick .f64 v n), .float .f64 (pick .f64 v m)] (w.drewN j) (RetV (.bool true) w) := by
  have hs := self_ne .f64 v
  have ht := self_eq .f64 v
  cases h : isN .f64 v
  · rw [h] at hs ht
    cases h2 : (FloatKind.f64.format.order v 0 == some .eq)
    · go_enter Try.func36, Try.ntmps36
      go_wp2_with (first | (refine wpList_fop rfl _ _ _ _ _ rfl _ _ _ rfl rfl (by decide) _ ?_; intro _ _) | (refine upon_fop _ _ _ _ _ (by decide) ?_; intro _ _))
      go_ret
      exact ⟨_, rfl, rfl⟩
    · go_enter Try.func36, Try.ntmps36
      go_wp2_with (first | (refine wpList_fop rfl _ _ _ _ _ rfl _ _ _ rfl rfl (by decide) _ ?_; intro _ _) | (refine upon_fop _ _ _ _ _ (by decide) ?_; intro _ _))
      go_ret
      exact ⟨_, by simp, rfl⟩
  · rw [h] at hs ht
    go_enter Try.func36, Try.ntmps36
    go_wp2_with (first | (refine wpList_fop rfl _ _ _ _ _ rfl _ _ _ rfl rfl (by decide) _ ?_; intro _ _) | (refine upon_fop _ _ _ _ _ (by decide) ?_; intro _ _))
    go_ret
    exact ⟨_, rfl, rfl⟩

/-! ### eqFloat32S -/
theorem c_eqF (a b : Option Addr) (len c d : Nat) (zs : List Nat) (w : World) (j0 : Nat) (hr : IsRowF .f32 w a len c zs) (hs : IsRowF .f32 w b len d zs) : Calls Try.prog 17 #[.slice a len c, .slice b len d] (w.drewN j0) (RetV (.bool true) w) := by
  obtain ⟨h1, h2, h3, h4, h5⟩ := hr
  obtain ⟨g1, g2, g3, g4, g5⟩ := hs
  unfold maxLen at h3
  go_enter Try.func17, Try.ntmps17
  go_wp2
  go_loopw [5] (fun i wr => ∃ k m : Nat, k ≤ len ∧ i = .int .i64 k ∧ wr = w.drewN m) (fun i _ => len - (intOf i).toNat)
  case atStart => exact ⟨0, j0, Nat.zero_le _, rfl, rfl⟩
  case round =>
    obtain ⟨k, m, hk, rfl, rfl⟩ := hrel
    by_cases hlt : k < len
    · rcases h5 with h5 | ⟨x, off, rfl, hbl, hc⟩
      · omega
      rcases g5 with g5 | ⟨y, off2, rfl, gbl, gc⟩
      · omega
      have hcell : w.cell? ⟨x, off + k, none⟩ = some (.float .f32 (fat zs k)) := hc k hlt
      have gcell : w.cell? ⟨y, off2 + k, none⟩ = some (.float .f32 (fat zs k)) := gc k hlt
      clear hc h4 gc g4
      go_wp2
      refine wp_region_N (fun _ _ u => u = .bool true) (by kernel_rfl) (by kernel_rfl) ?_; (repeat (first | ((with_reducible show wpN _ _ _ _ _ (Oper.mk _ (Op.binOp _ _ _ _ _) _ _ _ none :: _) _); refine wpN_fop rfl _ _ _ _ _ rfl _ _ _ rfl rfl (by decide) ?_; intro _) | ((with_reducible show wpN _ _ _ _ _ (Oper.mk _ (Op.convert _ _ _) _ _ _ none :: _) _); refine wpN_cvU rfl 26 48 _ rfl (Option.isSome_iff_exists.2 ⟨_, Try.underlying26⟩) Try.underlying48 _ rfl ?_; intro _) | ((with_reducible show wpN _ _ _ _ _ (Oper.mk _ _ _ _ _ (some _) :: _) _); (with_reducible refine wpN_off ?_ ?_); focus rfl; (simp only [Act.put, List.setIfInBounds_toArray, List.set_cons_zero, List.set_cons_succ])) | ((with_reducible show wpN _ _ _ _ _ (Oper.mk _ _ _ _ _ (some _) :: _) _); ((with_reducible refine wpN_on ?_ (fun K hK => ?_)); (focus rfl); intro _; go_simp; first | (refine uponN_value (hK _ ?_)) | ((refine uponN_call (callN rfl (c_sameFloat _ _ _ _ _)) ?_; intro u hu; obtain rfl : u = _ := hu); refine hK _ ?_)); clear hK K) | (((with_reducible refine wpN_plain rfl (fun K hK => ?_)); intro _; go_simp; first | (refine uponN_value (hK _ ?_)) | ((refine uponN_call (callN rfl (c_sameFloat _ _ _ _ _)) ?_; intro u hu; obtain rfl : u = _ := hu); refine hK _ ?_)); clear hK K) | ((with_reducible refine wpN_step (fun K hK => ?_)); go_simp; first | (refine hK _ ?_) | (intro _; first | (refine uponN_value (hK _ ?_)) | ((refine uponN_call (callN rfl (c_sameFloat _ _ _ _ _)) ?_; intro u hu; obtain rfl : u = _ := hu); refine hK _ ?_)); clear hK K))); refine wpN_nil ?_; intro _
      go_wp2
      go_roundw
      case rel => exact ⟨k + 1, _, by omega, by go_num, rfl⟩
      case measure => simp [intOf]; omega
    · clear h5 h4 g4 g5
      go_wp2
      go_ret
      exact ⟨_, rfl, rfl⟩
/-! ### eqFloat32S0 -/
theorem c_eqF0 (a b : Option Addr) (len c d : Nat) (zs : List Nat) (w : World) (hr : IsRowF .f32 w a len c zs) (hs : IsRowF .f32 w b len d zs) : Calls Try.prog 17 #[.slice a len c, .slice b len d] w (RetV (.bool true) w) := by
  have h := c_eqF a b len c d zs w 0 hr hs
  rwa [w.drewN_zero] at h
/-! ### picDefs -/
def sideB (W H : Int) : Bool := decide (1 ≤ W) && decide (W ≤ 16) && (decide (1 ≤ H) && decide (H ≤ 16))
def finL (zs : List Nat) : Bool := zs.all (finB .f32)
def validB (W H : Int) (zs : List Nat) : Bool := sideB W H && decide ((zs.length : Int) = W * H) && finL zs
theorem sideB_true {W H : Int} (h : sideB W H = true) : (1 ≤ W ∧ W ≤ 16) ∧ 1 ≤ H ∧ H ≤ 16 := by simpa [sideB, and_assoc] using h
theorem side_mul {W H : Int} (h : sideB W H = true) : 1 ≤ W * H ∧ W * H ≤ 256 := by
  obtain ⟨⟨h1, h2⟩, h3, h4⟩ := sideB_true h
  have : W * H ≤ 16 * 16 := Int.mul_le_mul h2 h4 (by omega) (by omega)
  have h5 : 1 * 1 ≤ W * H := Int.mul_le_mul h1 h3 (by omega) (by omega)
  omega
theorem sideB_false {W H : Int} (h : sideB W H = false) : W < 1 ∨ 16 < W ∨ H < 1 ∨ 16 < H := by
  simp [sideB] at h; omega
theorem finL_snoc (zs : List Nat) (k : Nat) (hk : k < zs.length) : finL (zs.take (k + 1)) = (finL (zs.take k) && finB .f32 (fat zs k)) := by
  unfold finL fat
  rw [List.take_succ_eq_append_getElem hk, List.all_append, List.getD, List.getElem?_eq_getElem hk]; simp
theorem finL_of (zs : List Nat) (k : Nat) (hk : k < zs.length) (h : finB .f32 (fat zs k) = false) : finL zs = false := by
  unfold finL
  rw [List.all_eq_false]
  refine ⟨zs[k], List.getElem_mem hk, ?_⟩
  unfold fat at h
  rw [List.getD, List.getElem?_eq_getElem hk] at h
  simpa using h
theorem pick0 (k : FloatKind) (v : Nat) (hv : v < 2 ^ k.format.width) : ∃ n, v = pick k v n := pick_onto k v hv
/-! ### ordDefs -/
theorem cmp_bools (a b : Int) : ((some (compare a b) == some Ordering.lt) = decide (a < b)) ∧ ((some (compare a b) == some Ordering.gt) = decide (b < a)) ∧ ((some (compare a b) == some Ordering.eq) = decide (a = b)) := by
  rcases Int.lt_trichotomy a b with h | h | h
  · rw [cmp_of_lt h, decide_eq_true h, decide_eq_false (by omega), decide_eq_false (by omega)]; exact ⟨rfl, rfl, rfl⟩
  · subst h; rw [Int.compare_eq_eq.2 rfl, decide_eq_false (by omega), decide_eq_true rfl]; exact ⟨rfl, rfl, rfl⟩
  · rw [cmp_of_gt h, decide_eq_false (by omega), decide_eq_true h, decide_eq_false (by omega)]; exact ⟨rfl, rfl, rfl⟩
theorem o_lt {v c : Nat} (h : isN .f32 v = false) (hc : isN .f32 c = false) : (FloatKind.f32.format.order v c == some .lt) = decide (srung FloatKind.f32.format v < srung FloatKind.f32.format c) := by
  rw [order_rungs .f32 v c h hc]; exact (cmp_bools _ _).1
theorem o_gt {v c : Nat} (h : isN .f32 v = false) (hc : isN .f32 c = false) : (FloatKind.f32.format.order v c == some .gt) = decide (srung FloatKind.f32.format c < srung FloatKind.f32.format v) := by
  rw [order_rungs .f32 v c h hc]; exact (cmp_bools _ _).2.1
theorem o_eq {v c : Nat} (h : isN .f32 v = false) (hc : isN .f32 c = false) : (FloatKind.f32.format.order v c == some .eq) = decide (srung FloatKind.f32.format v = srung FloatKind.f32.format c) := by
  rw [order_rungs .f32 v c h hc]; exact (cmp_bools _ _).2.2
theorem o_le {v c : Nat} (h : isN .f32 v = false) (hc : isN .f32 c = false) : (FloatKind.f32.format.order v c == some .lt || FloatKind.f32.format.order v c == some .eq) = decide (srung FloatKind.f32.format v ≤ srung FloatKind.f32.format c) := by
  rw [o_lt h hc, o_eq h hc, ← Bool.decide_or]; exact decide_eq_decide.2 (by omega)
theorem o_ge {v c : Nat} (h : isN .f32 v = false) (hc : isN .f32 c = false) : (FloatKind.f32.format.order v c == some .gt || FloatKind.f32.format.order v c == some .eq) = decide (srung FloatKind.f32.format c ≤ srung FloatKind.f32.format v) := by
  rw [o_gt h hc, o_eq h hc, ← Bool.decide_or]; exact decide_eq_decide.2 (by omega)
theorem s_zero : srung FloatKind.f32.format 0 = 0 := by decide +kernel
theorem s_half : srung FloatKind.f32.format 1056964608 = 1056964608 := by decide +kernel
theorem s_one : srung FloatKind.f32.format 1065353216 = 1065353216 := by decide +kernel
theorem n_zero : isN .f32 0 = false := by decide +kernel
theorem n_half : isN .f32 1056964608 = false := by decide +kernel
theorem n_one : isN .f32 1065353216 = false := by decide +kernel
theorem pick_zero (n : Nat) : pick .f32 0 n = 0 := pick_not n_zero n
/-! ### meanDefs -/
def meanV (zs : List Nat) : Nat := fop .quo .f32 (sumF .add .f32 0 zs) (floatOfInt .f32 (zs.length : Int))
def numR (v : Nat) : Nat × Bool := if finB .f32 v = true then (v, true) else (0, false)
def meanR (W H : Int) (zs : List Nat) : Nat × Bool := if validB W H zs = true then numR (meanV zs) else (0, false)
theorem mean_len {W H : Int} {zs : List Nat} (h : validB W H zs = true) : zs.length ≤ 256 := by
  simp only [validB, Bool.and_eq_true, decide_eq_true_eq] at h
  obtain ⟨⟨h1, h2⟩, h3⟩ := h
  have := side_mul h1
  omega
theorem pick00 : pick .f32 0 0 = 0 := pick_not (show isN .f32 0 = false from by decide +kernel) 0
/-! ### numT -/
def RetT (r : Nat × Bool) (w : World) (e : Ending) (w' : World) : Prop := ∃ k m, e = .returned (.tuple #[.float .f32 (pick .f32 r.1 k), .bool r.2]) ∧ w' = w.drewN m
theorem RetT.no {w : World} {e : Ending} {w' : World} (h : e = .returned (.tuple #[.float .f32 0, .bool false])) (hw : ∃ m, w' = w.drewN m) : RetT (0, false) w e w' := ⟨0, hw.choose, by rw [h]; simp only [pick_zero], hw.choose_spec⟩
theorem RetF1.no {w : World} {e : Ending} {w' : World} (h : e = .returned (.tuple #[.float .f32 0, .bool false])) (hw : Below w.heap.size w w') : RetF1 (0, false) w e w' := ⟨0, by rw [h]; simp only [pick_zero], hw⟩
theorem numR_pick (v n : Nat) : (numR (pick .f32 v n)).2 = (numR v).2 ∧ ∀ m, ∃ k, pick .f32 (numR (pick .f32 v n)).1 m = pick .f32 (numR v).1 k := by
  unfold numR
  rw [finB_pick]
  cases h : finB .f32 v
  · exact ⟨rfl, fun m => ⟨m, rfl⟩⟩
  · refine ⟨rfl, fun m => ⟨0, ?_⟩⟩
    rw [if_pos rfl, if_pos rfl, pick_not (fin_notN h), pick_not (fin_notN h), pick_not (fin_notN h)]
/-! ### l01Finite -/
theorem c_l01Finite (v n : Nat) (w : World) (j : Nat) : Calls Try.prog 58 #[.float .f32 (pick .f32 v n)] (w.drewN j) (RetV (.bool (finB .f32 v)) w) := by
  go_enter Try.func58, Try.ntmps58
  go_wp2_with (first | (refine wpList_fop rfl _ _ _ _ _ rfl _ _ _ rfl rfl (by decide) _ ?_; intro _ _) | (refine upon_fop _ _ _ _ _ (by decide) ?_; intro _ _))
  go_ret
  rw [← sub_self_zero]
  exact ⟨_, rfl, rfl⟩
/-! ### l02Least -/
def leastB (v : Nat) : Bool := finB .f32 v && (FloatKind.f32.format.order v 0 == some .gt || FloatKind.f32.format.order v 0 == some .eq)
theorem leastB_pick (v n : Nat) : leastB (pick .f32 v n) = leastB v := by unfold leastB; rw [finB_pick, order_pick_l]
theorem c_l02Least (v n : Nat) (w : World) (j : Nat) : Calls Try.prog 63 #[.float .f32 (pick .f32 v n)] (w.drewN j) (RetV (.bool (leastB v)) w) := by
  unfold leastB
  cases h : finB .f32 v
  all_goals
    have HH := Lib.hid h
    go_enter Try.func63, Try.ntmps63
    go_wp2_with ((go_at_call 58; refine (c_l01Finite _ _ _ _).mono ?_; rintro _ _ ⟨_, rfl, rfl⟩))
    go_ret
    exact ⟨_, by simp [HH.out], rfl⟩
/-! ### clearDefs -/
def rootV (v : Nat) : Nat := cvN (fsqrt (cvU v))
def sigV (l t : Nat) : Nat := fop .mul .f32 l t
def underV (l t s r : Nat) : Nat := fop .add .f32 (fop .mul .f32 (fop .mul .f32 l t) s) (fop .mul .f32 r r)
def clearR (l t s r : Nat) : Nat × Bool :=
  if (leastB l && leastB t && leastB s && leastB r && (FloatKind.f32.format.order (cvN (fsqrt (cvU (underV l t s r)))) 0 == some .gt)) = true then numR (fop .quo .f32 (sigV l t) (cvN (fsqrt (cvU (underV l t s r))))) else (0, false)
theorem least_lt {v : Nat} (h : finB .f32 v = true) : (FloatKind.f32.format.order v 0 == some .lt) = !leastB v := by
  have hn := fin_notN h
  unfold leastB
  rw [h, o_ge hn n_zero, o_lt hn n_zero, s_zero, Bool.true_and, ← decide_not]
  exact decide_eq_decide.2 (by omega)
/-! ### kernDefs -/
def lstL (zs : List Nat) : Bool := zs.all leastB
theorem lstL_snoc (zs : List Nat) (k : Nat) (hk : k < zs.length) : lstL (zs.take (k + 1)) = (lstL (zs.take k) && leastB (fat zs k)) := by
  unfold lstL fat
  rw [List.take_succ_eq_append_getElem hk, List.all_append, List.getD, List.getElem?_eq_getElem hk]; simp
theorem lstL_of (zs : List Nat) (k : Nat) (hk : k < zs.length) (h : leastB (fat zs k) = false) : lstL zs = false := by
  unfold lstL
  rw [List.all_eq_false]
  refine ⟨zs[k], List.getElem_mem hk, ?_⟩
  unfold fat at h
  rw [List.getD, List.getElem?_eq_getElem hk] at h
  simpa using h
theorem fin_at {zs : List Nat} (h : finL zs = true) {k : Nat} (hk : k < zs.length) : finB .f32 (fat zs k) = true := by
  cases hf : finB .f32 (fat zs k)
  · rw [finL_of zs k hk hf] at h; cases h
  · rfl
theorem lstL_fin {zs : List Nat} (h : finL zs = false) : lstL zs = false := by
  cases hl : lstL zs
  · rfl
  · unfold lstL at hl
    unfold finL at h
    rw [List.all_eq_true] at hl
    have : zs.all (finB .f32) = true := by
      rw [List.all_eq_true]
      intro x hx
      have h2 := hl x hx
      unfold leastB at h2
      simp only [Bool.and_eq_true] at h2
      exact h2.1
    rw [this] at h; cases h
def withinB (m v : Nat) : Bool := (FloatKind.f32.format.order v (fneg .f32 m) == some .gt || FloatKind.f32.format.order v (fneg .f32 m) == some .eq) && (FloatKind.f32.format.order v m == some .lt || FloatKind.f32.format.order v m == some .eq)
def near1B (s : Nat) : Bool := withinB 981668463 (fop .sub .f32 s 1065353216)
def kernB (zs : List Nat) : Bool := decide (zs.length ≤ 9) && decide (zs.length % 2 = 1) && (lstL zs && near1B (sumF .add .f32 0 zs))
theorem kernB_no {zs : List Nat} (h : zs.length % 2 = 0 ∨ 9 < zs.length) : kernB zs = false := by
  unfold kernB
  rcases h with h | h
  · rw [decide_eq_false (p := zs.length % 2 = 1) (by omega)]; simp
  · rw [decide_eq_false (p := zs.length ≤ 9) (by omega)]; simp
theorem kernB_yes {zs : List Nat} (h1 : ¬ zs.length % 2 = 0) (h2 : ¬ 9 < zs.length) : kernB zs = (lstL zs && near1B (sumF .add .f32 0 zs)) := by
  unfold kernB
  rw [decide_eq_true (p := zs.length % 2 = 1) (by omega), decide_eq_true (p := zs.length ≤ 9) (by omega)]; rfl
/-! ### l05Kernel -/
theorem c_l05Kernel (zs : List Nat) (a : Option Addr) (c : Nat) (w : World) (j0 : Nat) (hr : IsRowF .f32 w a zs.length c zs) : Calls Try.prog 48 #[.slice a zs.length c] (w.drewN j0) (RetV (.bool (kernB zs)) w) := by
  have mA : zs.length ≤ maxLen := Nat.le_trans hr.2.1 hr.2.2.1
  unfold maxLen at mA
  have RA := Lib.hid hr
  clear hr
  by_cases h1 : zs.length % 2 = 0
  · rw [kernB_no (.inl h1)]
    have h1' : ((zs.length : Int) % 2 == 0) = true := by rw [beq_iff_eq]; omega
    go_enter Try.func48, Try.ntmps48
    go_wp2_with fail
    go_ret
    exact ⟨_, rfl, rfl⟩
  have h1' : ((zs.length : Int) % 2 == 0) = false := by rw [beq_eq_false_iff_ne]; omega
  by_cases h2 : 9 < zs.length
  · rw [kernB_no (.inr h2)]
    go_enter Try.func48, Try.ntmps48
    go_wp2_with fail
    go_ret
    exact ⟨_, rfl, rfl⟩
  rw [kernB_yes h1 h2]
  clear h1
  go_enter Try.func48, Try.ntmps48
  go_wp2_with fail
  go_loopw [4, 5, 17] (fun s _ i wr => ∃ k n m : Nat, k ≤ zs.length ∧ i = .int .i64 k ∧ s = .float .f32 (pick .f32 (sumF .add .f32 0 (zs.take k)) n) ∧ wr = w.drewN m ∧ lstL (zs.take k) = true) (fun _ _ i _ => zs.length - (intOf i).toNat)
  case atStart => exact ⟨0, 0, _, Nat.zero_le _, rfl, rfl, rfl, rfl⟩
  case round =>
    obtain ⟨k, n, m, hk, rfl, rfl, rfl, hR⟩ := hrel
    have HR := Lib.hid hR
    clear hR
    by_cases hlt : k < zs.length
    · obtain ⟨bA, oA, nA, rfl, hbA, eA⟩ := RA.out.at hlt
      clear hbA
      cases hf : leastB (fat zs k)
      · have HO := Lib.hid (lstL_of zs k hlt hf)
        have HF := Lib.hid (fun n j => (by have h := c_l02Least (fat zs k) n w j; rwa [hf] at h : Calls Try.prog 63 #[.float .f32 (pick .f32 (fat zs k) n)] (w.drewN j) (RetV (.bool false) w)))
        clear hf
        go_wp2_with ((go_at_call 63; refine (HF.out _ _).mono ?_; rintro _ _ ⟨_, rfl, rfl⟩))
        go_ret
        exact ⟨_, by rw [HO.out]; rfl, rfl⟩
      · have HS := Lib.hid (sumF_snoc .add .f32 0 zs k hlt)
        have HL := Lib.hid (show lstL (zs.take (k + 1)) = true by rw [lstL_snoc zs k hlt, HR.out, hf]; rfl)
        have HF := Lib.hid (fun n j => (by have h := c_l02Least (fat zs k) n w j; rwa [hf] at h : Calls Try.prog 63 #[.float .f32 (pick .f32 (fat zs k) n)] (w.drewN j) (RetV (.bool true) w)))
        clear hf
        go_wp2_with (first | (first | (refine wpList_fop rfl _ _ _ _ _ rfl _ _ _ rfl rfl (by decide) _ ?_; intro _ _) | (refine upon_fop _ _ _ _ _ (by decide) ?_; intro _ _)) | (go_at_call 63; refine (HF.out _ _).mono ?_; rintro _ _ ⟨_, rfl, rfl⟩))
        go_roundw
        case rel => exact ⟨k + 1, _, _, by omega, by go_num, by rw [HS.out], rfl, HL.out⟩
        case measure => simp [intOf]; omega
    · obtain rfl : k = zs.length := by omega
      have HE := Lib.hid (List.take_of_length_le (Nat.le_refl zs.length))
      have HL := Lib.hid (show lstL zs = true by have h := HR.out; rwa [HE.out] at h)
      clear HR
      obtain ⟨S, hS⟩ : ∃ S, S = sumF .add .f32 0 zs := ⟨_, rfl⟩
      rw [HE.out, ← hS]
      have hneg : fneg .f32 981668463 = 3129152111 := by decide +kernel
      cases e2 : (FloatKind.f32.format.order (fop .sub .f32 S 1065353216) 981668463 == some .lt || FloatKind.f32.format.order (fop .sub .f32 S 1065353216) 981668463 == some .eq)
      · have HQ := Lib.hid (show (lstL zs && near1B (sumF .add .f32 0 zs)) = false by rw [← hS, HL.out, Bool.true_and]; unfold near1B withinB; rw [hneg, e2, Bool.and_false])
        clear hS hneg
        go_wp2_with (first | (refine wpList_fop rfl _ _ _ _ _ rfl _ _ _ rfl rfl (by decide) _ ?_; intro _ _) | (refine upon_fop _ _ _ _ _ (by decide) ?_; intro _ _))
        go_ret
        exact ⟨_, by rw [HQ.out]; rfl, rfl⟩
      · have HQ := Lib.hid (show (lstL zs && near1B (sumF .add .f32 0 zs)) = (FloatKind.f32.format.order (fop .sub .f32 S 1065353216) 3129152111 == some .gt || FloatKind.f32.format.order (fop .sub .f32 S 1065353216) 3129152111 == some .eq) by rw [← hS, HL.out, Bool.true_and]; unfold near1B withinB; rw [hneg, e2, Bool.and_true])
        clear hS hneg
        go_wp2_with (first | (refine wpList_fop rfl _ _ _ _ _ rfl _ _ _ rfl rfl (by decide) _ ?_; intro _ _) | (refine upon_fop _ _ _ _ _ (by decide) ?_; intro _ _))
        go_ret
        exact ⟨_, by rw [HQ.out]; rfl, rfl⟩
/-! ### sKernel -/
theorem c_sIsKernel (zs : List Nat) (a : Option Addr) (c : Nat) (w : World) (hr : IsRowF .f32 w a zs.length c zs) : Calls Try.prog 14 #[.slice a zs.length c] w (RetB (.bool (kernB zs)) w) := by
  have h := Lib.hid (fun j => c_l05Kernel zs a c w j hr)
  rw [← w.drewN_zero]
  clear hr
  go_enter Try.func14, Try.ntmps14
  go_wp2_with ((go_at_call 48; refine (h.out _).mono ?_; rintro _ _ ⟨_, rfl, rfl⟩))
  go_ret
  exact ⟨rfl, below_drewN (Below.refl _ _) _⟩
/-! ### within1 -/
theorem c_isWithin1p (m q v n g : Nat) (w : World) (j : Nat) (hc : w.cell? ⟨g, 0, none⟩ = some (.float .f32 (pick .f32 v n))) : Calls Try.prog 50 #[.float .f32 (pick .f32 m q), .slice (some ⟨g, 0, none⟩) 1 1] (w.drewN j) (RetV (.bool (withinB m v)) w) := by
  have hc' : w.cell? ⟨g, 0 + 0, none⟩ = some (.float .f32 (pick .f32 v n)) := hc
  unfold withinB
  cases e1 : (FloatKind.f32.format.order v (fneg .f32 m) == some .gt || FloatKind.f32.format.order v (fneg .f32 m) == some .eq) <;> cases e2 : (FloatKind.f32.format.order v m == some .lt || FloatKind.f32.format.order v m == some .eq)
  all_goals
    go_enter Try.func50, Try.ntmps50
    go_wp2_with fail
    refine wp_loop_rounds 2 ?_
    rw [rounds_succ]
    go_wp2_with fail
    first
      | (go_ret; exact ⟨_, rfl, rfl⟩)
      | (rw [rounds_succ]; go_wp2_with fail; go_ret; exact ⟨_, rfl, rfl⟩)
theorem c_isWithin1 (m v n g : Nat) (w : World) (j : Nat) (hm : isN .f32 m = false) (hc : w.cell? ⟨g, 0, none⟩ = some (.float .f32 (pick .f32 v n))) : Calls Try.prog 50 #[.float .f32 m, .slice (some ⟨g, 0, none⟩) 1 1] (w.drewN j) (RetV (.bool (withinB m v)) w) := by
  have h := c_isWithin1p m 0 v n g w j hc
  rwa [pick_not hm] at h
/-! ### IsNaN -/
theorem c_IsNaN (v n : Nat) (w : World) (j : Nat) : Calls Try.prog 102 #[.float .f64 (pick .f64 v n)] (w.drewN j) (RetV (.bool (isN .f64 v)) w) := by
  go_enter Try.func102, Try.ntmps102
  go_wp2
  go_ret
  exact ⟨_, rfl, rfl⟩
/-! ### f64bits -/
@[go_sem] theorem e_f64bits (b : Nat) (w : World) : (callFunc 111 #[.float .f64 b]).run Try.prog w = .ok (.value (.int .u64 b)) w := by kernel_rfl
/-! ### f64from -/
@[go_sem] theorem e_f64from (n : Int) (w : World) : (callFunc 104 #[.int .u64 n]).run Try.prog w = .ok (.value (.float .f64 n.toNat)) w := by kernel_rfl
/-! ### Abs -/
theorem c_Abs (v n : Nat) (w : World) (j : Nat) (hv : v < 2 ^ FloatKind.f64.format.width) : Calls Try.prog 109 #[.float .f64 (pick .f64 v n)] (w.drewN j) (RetF .f64 (fabs .f64 v) w) := by
  have hb := abs_bits hv n
  go_enter Try.func109, Try.ntmps109
  go_wp2
  go_ret
  exact ⟨_, _, rfl, rfl⟩
/-! ### IsInf0 -/
theorem c_IsInf0 (v n : Nat) (w : World) (j : Nat) (hv : v < 2 ^ FloatKind.f64.format.width) : Calls Try.prog 103 #[.float .f64 (pick .f64 v n), .int .i64 0] (w.drewN j) (RetV (.bool (FloatKind.f64.format.order (fabs .f64 v) 9218868437227405311 == some .gt)) w) := by
  go_enter Try.func103, Try.ntmps103
  go_wp2_with ((go_at_call 109; refine (c_Abs _ _ _ _ hv).mono ?_; rintro _ _ ⟨_, _, rfl, rfl⟩))
  go_ret
  exact ⟨_, rfl, rfl⟩
/-! ### isFinite64 -/
theorem c_isFinite64 (v n : Nat) (w : World) (j : Nat) (hv : v < 2 ^ FloatKind.f64.format.width) : Calls Try.prog 85 #[.float .f64 (pick .f64 v n)] (w.drewN j) (RetV (.bool (finB .f64 v)) w) := by
  go_enter Try.func85, Try.ntmps85
  go_wp2_with (first | (go_at_call 102; refine (c_IsNaN _ _ _ _).mono ?_; rintro _ _ ⟨_, rfl, rfl⟩) | (go_at_call 103; refine (c_IsInf0 _ _ _ _ hv).mono ?_; rintro _ _ ⟨_, rfl, rfl⟩))
  all_goals
    go_ret
    refine ⟨_, ?_, rfl⟩
    rw [← abs_gt_max]
    simp [*]
/-! ### iIsFinite -/
theorem c_iIsFinite (v n : Nat) (w : World) (j : Nat) : Calls Try.prog 54 #[.float .f32 (pick .f32 v n)] (w.drewN j) (RetV (.bool (finB .f32 v)) w) := by
  go_enter Try.func54, Try.ntmps54
  go_wp2_with (first | (refine wpList_cvU rfl 26 48 _ rfl (Option.isSome_iff_exists.2 ⟨_, Try.underlying26⟩) Try.underlying48 _ rfl _ ?_; intro _ _) | (go_at_call 85; refine (c_isFinite64 _ _ _ _ (cvU_lt _)).mono ?_; rintro _ _ ⟨_, rfl, rfl⟩))
  go_ret
  rw [← finB_cvU]
  exact ⟨_, rfl, rfl⟩
/-! ### areFinite -/
theorem c_areFinite (a : Option Addr) (len cap : Nat) (zs : List Nat) (w : World) (j0 : Nat) (hr : IsRowF .f32 w a len cap zs) : Calls Try.prog 49 #[.slice a len cap] (w.drewN j0) (RetV (.bool (finL zs)) w) := by
  obtain ⟨h1, h2, h3, h4, h5⟩ := hr
  unfold maxLen at h3
  have H1 := Lib.hid h1
  clear h1
  go_enter Try.func49, Try.ntmps49
  go_wp2
  go_loopw [4, 7] (fun _ i wr => ∃ k m : Nat, k ≤ len ∧ i = .int .i64 k ∧ wr = w.drewN m ∧ finL (zs.take k) = true) (fun _ i _ => len - (intOf i).toNat)
  case atStart => exact ⟨0, j0, Nat.zero_le _, rfl, rfl, rfl⟩
  case round =>
    obtain ⟨k, m, hk, rfl, rfl, hfin⟩ := hrel
    have HFin := Lib.hid hfin
    clear hfin
    by_cases hlt : k < len
    · rcases h5 with h5 | ⟨b, off, rfl, hbl, hc⟩
      · omega
      have hcell : w.cell? ⟨b, off + k, none⟩ = some (.float .f32 (fat zs k)) := hc k hlt
      obtain ⟨n, hn⟩ := pick0 .f32 (fat zs k) (lt_of_wf (h4 _ (by unfold fat; rw [List.getD, List.getElem?_eq_getElem (by have := H1.out; omega)]; exact List.getElem_mem _)))
      rw [hn] at hcell
      have HS := Lib.hid (finL_snoc zs k (by have := H1.out; omega))
      cases hf : finB .f32 (fat zs k)
      · have HO := Lib.hid (finL_of zs k (by have := H1.out; omega) hf)
        clear hc h4 hn
        go_wp2_with ((go_at_call 54; refine (c_iIsFinite _ _ _ _).mono ?_; rintro _ _ ⟨_, rfl, rfl⟩))
        go_ret
        exact ⟨_, by rw [HO.out]; rfl, rfl⟩
      · have HF := Lib.hid hf
        clear hc h4 hn
        go_wp2_with ((go_at_call 54; refine (c_iIsFinite _ _ _ _).mono ?_; rintro _ _ ⟨_, rfl, rfl⟩))
        go_roundw
        case rel => exact ⟨k + 1, _, by omega, by go_num, rfl, by rw [HS.out, HFin.out, HF.out]; rfl⟩
        case measure => simp [intOf]; omega
    · have e : zs.take k = zs := List.take_of_length_le (by have := H1.out; omega)
      have HE := Lib.hid e
      clear h5 h4 e
      go_wp2
      go_ret
      exact ⟨_, by have h := HFin.out; rw [HE.out] at h; rw [h]; rfl, rfl⟩
/-! ### iKernel -/
theorem c_iIsKernel0 (zs : List Nat) (a : Option Addr) (c : Nat) (w : World) (j0 : Nat) (hr : IsRowF .f32 w a zs.length c zs) : Calls Try.prog 16 #[.slice a zs.length c] (w.drewN j0) (RetB (.bool (kernB zs)) w) := by
  have mA : zs.length ≤ maxLen := Nat.le_trans hr.2.1 hr.2.2.1
  unfold maxLen at mA
  have RA := Lib.hid hr
  clear hr
  by_cases h2 : 9 < zs.length
  · rw [kernB_no (.inr h2)]
    go_enter Try.func16, Try.ntmps16
    go_wp2_with fail
    go_ret
    exact ⟨rfl, below_drewN (Below.refl _ _) _⟩
  by_cases h1 : zs.length % 2 = 0
  · rw [kernB_no (.inl h1)]
    have h1' : ((zs.length : Int) % 2 == 0) = true := by rw [beq_iff_eq]; omega
    go_enter Try.func16, Try.ntmps16
    go_wp2_with fail
    go_ret
    exact ⟨rfl, below_drewN (Below.refl _ _) _⟩
  have h1' : ((zs.length : Int) % 2 == 0) = false := by rw [beq_eq_false_iff_ne]; omega
  rw [kernB_yes h1 h2]
  clear h1
  have CF := Lib.hid (fun j => c_areFinite a zs.length c zs w j RA.out)
  cases hf : finL zs
  · have C1 := Lib.hid (fun j => (by have h := CF.out j; rwa [hf] at h : Calls Try.prog 49 #[.slice a zs.length c] (w.drewN j) (RetV (.bool false) w)))
    rw [lstL_fin hf]
    clear hf CF
    go_enter Try.func16, Try.ntmps16
    go_wp2_with ((go_at_call 49; refine (C1.out _).mono ?_; rintro _ _ ⟨_, rfl, rfl⟩))
    go_ret
    exact ⟨rfl, below_drewN (Below.refl _ _) _⟩
  have C1 := Lib.hid (fun j => (by have h := CF.out j; rwa [hf] at h : Calls Try.prog 49 #[.slice a zs.length c] (w.drewN j) (RetV (.bool true) w)))
  have HFin := Lib.hid hf
  clear hf CF
  go_enter Try.func16, Try.ntmps16
  go_wp2_with ((go_at_call 49; refine (C1.out _).mono ?_; rintro _ _ ⟨_, rfl, rfl⟩))
  go_loopw [3, 5, 22] (fun s _ i wr => ∃ k n m : Nat, k ≤ zs.length ∧ i = .int .i64 k ∧ s = .float .f32 (pick .f32 (sumF .add .f32 0 (zs.take k)) n) ∧ wr = w.drewN m ∧ lstL (zs.take k) = true) (fun _ _ i _ => zs.length - (intOf i).toNat)
  case atStart => exact ⟨0, 0, _, Nat.zero_le _, rfl, rfl, rfl, rfl⟩
  case round =>
    obtain ⟨k, n, m, hk, rfl, rfl, rfl, hR⟩ := hrel
    have HR := Lib.hid hR
    clear hR
    by_cases hlt : k < zs.length
    · obtain ⟨bA, oA, nA, rfl, hbA, eA⟩ := RA.out.at hlt
      clear hbA
      have hlst := least_lt (fin_at HFin.out hlt)
      cases hf : leastB (fat zs k)
      · have HO := Lib.hid (lstL_of zs k hlt hf)
        rw [hf, Bool.not_false] at hlst
        clear hf
        go_wp2_with fail
        go_ret
        exact ⟨by rw [HO.out]; rfl, below_drewN (Below.refl _ _) _⟩
      · have HS := Lib.hid (sumF_snoc .add .f32 0 zs k hlt)
        have HL := Lib.hid (show lstL (zs.take (k + 1)) = true by rw [lstL_snoc zs k hlt, HR.out, hf]; rfl)
        rw [hf, Bool.not_true] at hlst
        clear hf
        go_wp2_with (first | (refine wpList_fop rfl _ _ _ _ _ rfl _ _ _ rfl rfl (by decide) _ ?_; intro _ _) | (refine upon_fop _ _ _ _ _ (by decide) ?_; intro _ _))
        go_roundw
        case rel => exact ⟨k + 1, _, _, by omega, by go_num, by rw [HS.out], rfl, HL.out⟩
        case measure => simp [intOf]; omega
    · obtain rfl : k = zs.length := by omega
      have HE := Lib.hid (List.take_of_length_le (Nat.le_refl zs.length))
      have HL := Lib.hid (show lstL zs = true by have h := HR.out; rwa [HE.out] at h)
      clear HR
      obtain ⟨S, hS⟩ : ∃ S, S = sumF .add .f32 0 zs := ⟨_, rfl⟩
      rw [HE.out, ← hS]
      have HQ := Lib.hid (show (lstL zs && near1B (sumF .add .f32 0 zs)) = withinB 981668463 (fop .sub .f32 S 1065353216) by rw [← hS, HL.out, Bool.true_and]; rfl)
      clear hS
      have hm : isN .f32 981668463 = false := by decide +kernel
      go_wp2_with (refine wpList_fop rfl _ _ _ _ _ rfl _ _ _ rfl rfl (by decide) _ ?_; intro n1 m1; have b1 := below_drewN (Below.refl w.heap.size w) m1; have e1 : (w.drewN m1).heap.size = w.heap.size := rfl; generalize w.drewN m1 = w1 at b1 e1 ⊢)
      have hc := (Var.new' w1 #[.float .f32 (pick .f32 (fop .sub .f32 S 1065353216) n1)] 26 w.heap.size e1.symm).2 0 (by simp)
      have CW := Lib.hid (c_isWithin1 981668463 (fop .sub .f32 S 1065353216) n1 w.heap.size (w1.alloc (.cells #[.float .f32 (pick .f32 (fop .sub .f32 S 1065353216) n1)] 26)) 0 hm hc)
      rw [World.drewN_zero] at CW
      refine CW.out.mono ?_
      rintro _ _ ⟨m2, rfl, rfl⟩
      clear hc
      go_wp2_with fail
      go_ret
      exact ⟨by rw [HQ.out]; rfl, below_drewN (b1.alloc (by omega) _) _⟩
theorem c_iIsKernel (zs : List Nat) (a : Option Addr) (c : Nat) (w : World) (hr : IsRowF .f32 w a zs.length c zs) : Calls Try.prog 16 #[.slice a zs.length c] w (RetB (.bool (kernB zs)) w) := by
  have h := c_iIsKernel0 zs a c w 0 hr
  rwa [w.drewN_zero] at h
/-! ### lawKernel -/

/-! ### FnExactIsKernel -/
theorem walk (a : Option Addr) (len cap : Nat) (zs : List Nat) (w : World) (hr : IsRowF .f32 w a len cap zs) : Calls Try.prog 3 #[.slice a len cap] w fun e w' => e = .returned (.bool true) ∧ Below w.heap.size w w' := by
  obtain rfl := hr.1
  by_cases hl : 1048576 < zs.length
  · go_enter Try.func3, Try.ntmps3
    go_wp2_with fail
    go_ret
    exact ⟨rfl, Below.refl _ _⟩
  have R := Lib.hid hr
  clear hr
  have Cs := Lib.hid (fun (a : Option Addr) (c : Nat) (w : World) (hq : IsRowF .f32 w a zs.length c zs) => (c_sIsKernel zs a c w hq : Calls Try.prog 14 #[.slice a zs.length c] w (RetB (.bool (kernB zs)) w)))
  have Ci := Lib.hid (fun (a : Option Addr) (c : Nat) (w : World) (hq : IsRowF .f32 w a zs.length c zs) => (c_iIsKernel zs a c w hq : Calls Try.prog 16 #[.slice a zs.length c] w (RetB (.bool (kernB zs)) w)))
  generalize kernB zs = r at *
  go_enter Try.func3, Try.ntmps3
  go_wp2_with fail
  refine (c_toF a zs.length cap zs w R.out (by omega)).mono ?_
  rintro _ w1 ⟨g1, rfl, hg1, hb1, hr1, _⟩
  have B1 := Lib.hid hb1
  have R1 := Lib.hid hr1
  clear hb1 hr1
  go_wp2_with fail
  refine (Cs.out _ _ w1 R1.out).mono ?_
  rintro _ w2 ⟨rfl, b⟩
  have B2 := Lib.hid (B1.out.trans (b.mono B1.out.size))
  clear b
  go_wp2_with fail
  refine (c_toF a zs.length cap zs w2 (R.out.below B2.out) (by omega)).mono ?_
  rintro _ w3 ⟨g3, rfl, hg3, hb3, hr3, _⟩
  have B3 := Lib.hid (B2.out.trans (hb3.mono B2.out.size))
  have R3 := Lib.hid hr3
  clear hb3 hr3
  go_wp2_with fail
  refine (Ci.out _ _ w3 R3.out).mono ?_
  rintro _ w4 ⟨rfl, b⟩
  have B4 := Lib.hid (B3.out.trans (b.mono B3.out.size))
  have R4 := Lib.hid (R3.out.below b)
  clear b
  go_wp2_with fail
  obtain ⟨w5, hw5⟩ : ∃ x, x = w4 := ⟨_, rfl⟩
  have b : Below w4.heap.size w4 w5 := by rw [hw5]; exact Below.refl _ _
  rw [← hw5]
  clear hw5
  have B5 := Lib.hid (B4.out.trans (b.mono B4.out.size))
  have R5 := Lib.hid (R4.out.below b)
  clear b
  refine (c_toF a zs.length cap zs w5 (R.out.below B5.out) (by omega)).mono ?_
  rintro _ w6 ⟨g6, rfl, hg6, hb6, hr6, _⟩
  have B6 := Lib.hid (B5.out.trans (hb6.mono B5.out.size))
  have R6 := Lib.hid (R5.out.below hb6)
  have R7 := Lib.hid hr6
  clear hb6 hr6
  go_wp2_with fail
  refine (c_eqF0 _ _ _ _ _ zs w6 R6.out R7.out).mono ?_
  rintro _ _ ⟨jy, rfl, rfl⟩
  go_wp2_with fail
  go_ret
  exact ⟨rfl, below_drewN B6.out _⟩
theorem own : ownKnob Try.prog.godebug = none := by kernel_rfl
theorem laidOut : laidOutB Try.prog = true := by kernel_rfl
set_option maxRecDepth 100000 in
theorem lifted (os : Os) (started : os.Started) (H : Type) (enc : TypeId × Value → H) :
    ReturnsInHanded {} Try.checked os 3 .any (Rows.fnExactIsKernelSpec.pre6 enc Try.prog Try.f3 Rows.fnExactIsKernelRow.domain false) (Rows.fnExactIsKernelSpec.post enc Try.prog Try.f3 false true false false) := by
  refine returnsInHanded_of_change (C := Try.checked) own started (by kernel_rfl) Try.func3
    (ChangeSpec.witness6 (enc := enc) (C := Try.checked) false ⟨#[], #[.slice none 0 0], []⟩ 8 (by kernel_rfl) (by kernel_rfl) (by kernel_rfl) (by kernel_rfl)) ?_
  intro W base args ds gs before hval0 hW hcnd _
  have hval : ∀ (j : Nat) t v, Try.f3.params[j]? = some t → args[j]? = some v → Value.okWide Try.prog W .any base t v := hval0
  have hW' := hW
  obtain ⟨p, q, hA0, hV, rfl, hfz, hnd⟩ := hW
  have hA : DataW.TrodAll enc Try.prog W 0 (fun _ => true) true Try.f3.params.toList args.toList ds p := hA0
  rw [Try.params3] at hA hval
  obtain ⟨v0, vs0, d0, ds0, p0, q0, hargs, rfl, rfl, h0, r0⟩ := trodAll_cons hA
  obtain ⟨rfl, rfl, rfl⟩ := trodAll_nil r0
  obtain rfl : args = #[v0] := by cases args; simp_all
  obtain ⟨rfl, rfl⟩ := trodVars_none hV
  obtain ⟨a0, len0, cap0, rfl⟩ := okWide_slice Try.underlying22 (hval 0 22 v0 rfl rfl)
  have k0 := h0
  have lt0 : ∀ x ∈ p0, x.block < W.heap.size := by obtain ⟨m, hm⟩ := k0; exact DataW.trod_lt m _ _ _ hm
  obtain ⟨z0, w0⟩ := rowF_of Try.underlying22 Try.underlying26 (by kernel_rfl) h0
  clear hA0 hval0
  have hw0 : Calls Try.prog 3 #[.slice a0 len0 cap0] W fun e w' => e = .returned (.bool true) ∧ Below W.heap.size W w' := by
    exact walk a0 len0 cap0 z0 W w0
  refine hw0.mono fun e W' ⟨he, bel⟩ => ?_
  subst he
  exact ⟨_, rfl, _, _, _, [], _, [], hW', trodAll_mk1 (shut_bool Try.underlying4 _), (trodAll_cons_mk (Below.trod laidOut (by kernel_rfl) (of_decide_eq_true (by kernel_rfl)) k0 bel lt0) trodAll_mk0), rfl, bel.frame _, fun h => by cases h⟩

theorem over : Rows.fnExactIsKernelRow.holds Try.pinned (OpenSpec.ofChange Rows.fnExactIsKernelSpec) :=
  OpenClaim.holds_of_wide 3 Try.f3 rfl rfl rfl rfl rfl rfl rfl ⟨rfl, rfl, rfl, rfl, rfl⟩ rfl rfl rfl rfl rfl (by kernel_rfl) Try.func3 (by kernel_rfl)
    (of_decide_eq_true (by kernel_rfl)) (by unfold Func.isWrapper; first | (rw [if_pos (by decide +kernel)]; kernel_rfl) | (rw [if_neg (by decide +kernel)]; exact ⟨rfl, rfl⟩))
    (fun os started H enc _ => lifted os started H enc)

theorem proved : Rows.FnExactIsKernelSaid := over
#print axioms proved

end Go.Proofs.Ytbloibljjhddaaa.fnExactIsKernel

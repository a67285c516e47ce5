/-
  FnExactOverlapError: for every input this law of the program returns true, and each argument reads as before. No condition.
-/
import Derived.Test.YtclbliflmhjebaaRows
import Derived.Test.YtclbliflmhjebaaRow
import Derived.Test.YtclbliflmhjebaaMn
import Derived.Test.YtclbliflmhjebaaOw
import Derived.Test.YtclbliflmhjebaaAp
import Derived.ProofKit
import Derived.OpenShut
import Derived.ShutString
import Derived.ChangeOld
import Derived.Below
import Derived.Lib.Hide
import Derived.Outline
import Derived.Deep.RegionHeld3
import Derived.Deep.DeepCutAuto
set_option linter.unusedSimpArgs false
set_option linter.unusedVariables false
set_option exponentiation.threshold 2000
set_option maxRecDepth 20000
set_option maxHeartbeats 4000000
namespace Go.Proofs.Ytclbliflmhjebaa.fnExactOverlapError
open Go Go.Proofs.Ytclbliflmhjebaa Go.Proofs
open Go.ChangeShapes Go.WideShapes Go.ChangeAt Go.RowKit
open Go.ChangeMaps (open_string shut_string)
/-! ### szPicture -/
theorem c_szF (a : Option Addr) (len cap : Nat) (L : Int) (w : World) (h : (len : Int) ≤ L) (hL : L ≤ 1048576) : Calls Try.prog 60 #[.slice a len cap, .int .i64 L] w (fun e w' => e = .returned (.int .i64 (L - (len : Int))) ∧ w' = w) := by
  have h' : ¬ (L - (len : Int) < 0) := by omega
  go_enter Try.func60, Try.ntmps60
  go_wp2
  go_ret
  exact ⟨rfl, rfl⟩
theorem c_szF_no (a : Option Addr) (len cap : Nat) (L : Int) (w : World) (h : L < len) (hL : 0 ≤ L) (hm : len ≤ 9223372036854775807) : Calls Try.prog 60 #[.slice a len cap, .int .i64 L] w (fun e w' => e = .returned (.int .i64 (-1)) ∧ w' = w) := by
  have h' : L - (len : Int) < 0 := by omega
  go_enter Try.func60, Try.ntmps60
  go_wp2
  go_ret
  exact ⟨rfl, rfl⟩
theorem c_szP (W H : Int) (a : Option Addr) (len cap : Nat) (L : Int) (w : World) (h : (len : Int) ≤ L) (hL : L ≤ 1048576) : Calls Try.prog 15 #[.agg #[.int .i64 W, .int .i64 H, .slice a len cap], .int .i64 L] w (RetB (.int .i64 (L - (len : Int))) w) := by
  have h' : ¬ (L - (len : Int) < 0) := by omega
  go_enter Try.func15, Try.ntmps15
  go_wp2_with (go_at_call 60; refine (c_szF a len cap L _ h hL).mono ?_; rintro _ _ ⟨rfl, rfl⟩)
  go_ret
  exact ⟨rfl, (Below.refl _ _).alloc (Nat.le_refl _) _⟩
theorem c_szP_no (W H : Int) (a : Option Addr) (len cap : Nat) (L : Int) (w : World) (h : L < len) (hL : 0 ≤ L ∧ len ≤ 9223372036854775807) : Calls Try.prog 15 #[.agg #[.int .i64 W, .int .i64 H, .slice a len cap], .int .i64 L] w (RetB (.int .i64 (-1)) w) := by
  go_enter Try.func15, Try.ntmps15
  go_wp2_with (go_at_call 60; refine (c_szF_no a len cap L _ h hL.1 hL.2).mono ?_; rintro _ _ ⟨rfl, rfl⟩)
  go_ret
  exact ⟨rfl, (Below.refl _ _).alloc (Nat.le_refl _) _⟩
/-! ### toOwn -/
theorem infoFo : (Try.prog.info? 38).map (fun i => (i.zero, i.size, i.bytes)) = some (some (.float .f32 0), 1, 4) := by kernel_rfl
theorem c_toO (a : Option Addr) (len cap : Nat) (zs : List Nat) (w : World) (hr : IsRowF .f32 w a len cap zs) (hl : len ≤ 1048576) : Calls Try.prog 44 #[.slice a len cap] w (NewO 38 len zs w) := by
  obtain ⟨i0, hi, hz0, hz1, hz2⟩ := info_parts infoFo
  obtain ⟨h1, h2, h3, h4, h5⟩ := hr
  go_enter Try.func44, Try.ntmps44
  go_wp2_with (at_make; refine wpList_make_full _ rfl _ _ 22 rfl w.heap.size 38 i0 (.float .f32 0) 1 Try.underlying22 hi hz0 hz1 _ _ _ _ len rfl rfl rfl rfl (by rw [hz2]; omega) (by unfold maxLen; omega) (by simp) ?_; intro w1 hown hgrow)
  have hblk := block_of_owns hown
  have e0 : (madeCells (Value.float FloatKind.f32 0).cells (len * 1)).toList = List.replicate len (.float .f32 0) := by rw [Nat.mul_one]; exact made_zeros _ _
  rw [e0] at hblk
  have hbel : Below w.heap.size w w1 := (Below.refl _ _).grown hgrow (Nat.le_refl _) (by simp)
  have HB := Lib.hid hblk
  clear hown hgrow hblk e0 hz0 hz1 hz2
  go_loopw [4] (fun i wr => ∃ j : Nat, j ≤ len ∧ i = .int .i64 j ∧ Below w.heap.size w wr ∧ wr.heap[w.heap.size]? = some (.cells (fl .f32 (zs.take j) ++ List.replicate (zs.length - j) (Value.float .f32 0)).toArray 38 (0, 0))) (fun i _ => len - (intOf i).toNat)
  case atStart => exact ⟨0, Nat.zero_le _, rfl, hbel, by rw [HB.out, h1]; rfl⟩
  case round =>
    obtain ⟨j, hj, rfl, hb, hblk⟩ := hrel
    have Hblk := Lib.hid hblk
    clear hblk
    by_cases hlt : j < len
    · rcases h5 with h5 | ⟨b, off, rfl, hbl, hc⟩
      · omega
      have hcell : wr.cell? ⟨b, off + j, none⟩ = some (.float .f32 (fat zs j)) := by rw [hb.cell (p := ⟨b, off + j, none⟩) hbl]; exact hc j hlt
      have hold : wr.cell? ⟨w.heap.size, j, none⟩ = some (.float .f32 0) := by
        rw [cell_of_block Hblk.out, List.getElem?_append_right (by simp [fl]; omega)]
        have e : (fl FloatKind.f32 (List.take j zs)).length = j := by simp [fl]; omega
        rw [e, Nat.sub_self, List.getElem?_replicate, if_pos (by omega)]
      have hfz : wr.frozen? ⟨w.heap.size, j, none⟩ = false := frozen_of_block Hblk.out j
      have hset := block_set Hblk.out j (.float .f32 (fat zs j))
      rw [set_step zs _ j (by omega)] at hset
      have Hset := Lib.hid hset
      clear hset hc
      go_wp2
      go_roundw
      case rel => exact ⟨j + 1, by omega, by go_num, hb.setCell (Nat.le_refl _) _, Hset.out⟩
      case measure => simp [intOf]; omega
    · obtain rfl : j = len := by omega
      have e1 : fl .f32 (zs.take j) ++ List.replicate (zs.length - j) (Value.float .f32 0) = fl .f32 zs := by rw [h1, Nat.sub_self, List.replicate_zero, List.append_nil, List.take_of_length_le (by omega)]
      have hblk2 := Hblk.out
      rw [e1] at hblk2
      have hown : Own 38 wr w.heap.size (some ⟨w.heap.size, 0, none⟩) j j zs :=
        ⟨h1, ⟨by simp [fl, h1], .inr ⟨w.heap.size, j, _, rfl, Nat.le_refl _, hblk2, Nat.le_refl _, by unfold maxLen; omega, by simp [fl, h1], by rw [List.take_of_length_le (by simp [fl, h1])]⟩⟩, h4⟩
      have HO := Lib.hid hown
      clear hown hblk2 e1
      go_wp2
      go_ret
      exact ⟨w.heap.size, rfl, hb, HO.out⟩
/-! ### toPicture -/
theorem c_toP (W H : Int) (a : Option Addr) (len cap : Nat) (zs : List Nat) (w : World) (hr : IsRowF .f32 w a len cap zs) (hl : len ≤ 1048576) : Calls Try.prog 17 #[.agg #[.int .i64 W, .int .i64 H, .slice a len cap]] w (NewP 38 W H zs w) := by
  have HR := Lib.hid hr
  have HL := Lib.hid hr.1
  clear hr
  go_enter Try.func17, Try.ntmps17
  go_wp2_with fail
  refine (c_toO a len cap zs _ (HR.out.below ((((Below.refl _ _).alloc (Nat.le_refl _) _).alloc (by simp) _).alloc (by simp; omega) _)) hl).mono ?_
  rintro _ w1 ⟨g, rfl, hb, hown⟩
  obtain ⟨hc, hf⟩ := bcell hb
  have hz : w.heap.size + 1 + 1 < w1.heap.size := by have := hb.size; simp at this; omega
  have hg' : w.heap.size + 1 + 1 < g := by have := hown.lt.1; simp at this; omega
  have HB := Lib.hid hb
  have HO := Lib.hid hown
  clear hb hown
  go_wp2_with fail
  refine bodyPost_ret (v := .agg #[.int .i64 W, .int .i64 H, .slice (some ⟨g, 0, none⟩) len len]) (by simp [results, Try.results17, hc, hz, go_sem]) rfl ⟨g, by rw [HL.out], ?_, ?_⟩
  · exact ((((((((Below.refl _ _).alloc (Nat.le_refl _) _).alloc (by simp) _).alloc (by simp; omega) _).trans (HB.out.mono (by simp; omega))).setCell (by simp; omega) _).setCell (by simp) _).setCell (by simp) _).setCell (by simp) _
  · rw [HL.out]
    exact ((((HO.out.setCell (by simp [blk]; omega) _).setCell (by simp [blk]; omega) _).setCell (by simp [blk]; omega) _).setCell (by simp [blk]; omega) _).mono (by simp; omega)
/-! ### sameFloat -/
theorem c_sameFloat (v n m : Nat) (w : World) (j : Nat) : Calls Try.prog 28 #[.float .f64 (pick .f64 v n), .float .f64 (pick .f64 v m)] (w.drewN j) (RetV (.bool true) w) := by
  have hs := self_ne .f64 v
  have ht := self_eq .f64 v
  cases h : isN .f64 v
  · rw [h] at hs ht
    cases h2 : (FloatKind.f64.format.order v 0 == some .eq)
    · go_enter Try.func28, Try.ntmps28
      go_wp2_with (first | (refine wpList_fop rfl _ _ _ _ _ rfl _ _ _ rfl rfl (by decide) _ ?_; intro _ _) | (refine upon_fop _ _ _ _ _ (by decide) ?_; intro _ _))
      go_ret
      exact ⟨_, rfl, rfl⟩
    · go_enter Try.func28, Try.ntmps28
      go_wp2_with (first | (refine wpList_fop rfl _ _ _ _ _ rfl _ _ _ rfl rfl (by decide) _ ?_; intro _ _) | (refine upon_fop _ _ _ _ _ (by decide) ?_; intro _ _))
      go_ret
      exact ⟨_, by simp, rfl⟩
  · rw [h] at hs ht
    go_enter Try.func28, Try.ntmps28
    go_wp2_with (first | (refine wpList_fop rfl _ _ _ _ _ rfl _ _ _ rfl rfl (by decide) _ ?_; intro _ _) | (refine upon_fop _ _ _ _ _ (by decide) ?_; intro _ _))
    go_ret
    exact ⟨_, rfl, rfl⟩

/-! ### eqFloat32S -/
theorem c_eqF (a b : Option Addr) (len c d : Nat) (zs : List Nat) (w : World) (j0 : Nat) (hr : IsRowF .f32 w a len c zs) (hs : IsRowF .f32 w b len d zs) : Calls Try.prog 46 #[.slice a len c, .slice b len d] (w.drewN j0) (RetV (.bool true) w) := by
  obtain ⟨h1, h2, h3, h4, h5⟩ := hr
  obtain ⟨g1, g2, g3, g4, g5⟩ := hs
  unfold maxLen at h3
  go_enter Try.func46, Try.ntmps46
  go_wp2
  go_loopw [5] (fun i wr => ∃ k m : Nat, k ≤ len ∧ i = .int .i64 k ∧ wr = w.drewN m) (fun i _ => len - (intOf i).toNat)
  case atStart => exact ⟨0, j0, Nat.zero_le _, rfl, rfl⟩
  case round =>
    obtain ⟨k, m, hk, rfl, rfl⟩ := hrel
    by_cases hlt : k < len
    · rcases h5 with h5 | ⟨x, off, rfl, hbl, hc⟩
      · omega
      rcases g5 with g5 | ⟨y, off2, rfl, gbl, gc⟩
      · omega
      have hcell : w.cell? ⟨x, off + k, none⟩ = some (.float .f32 (fat zs k)) := hc k hlt
      have gcell : w.cell? ⟨y, off2 + k, none⟩ = some (.float .f32 (fat zs k)) := gc k hlt
      clear hc h4 gc g4
      go_wp2
      refine wp_region_N (fun _ _ u => u = .bool true) (by kernel_rfl) (by kernel_rfl) ?_; (repeat (first | ((with_reducible show wpN _ _ _ _ _ (Oper.mk _ (Op.binOp _ _ _ _ _) _ _ _ none :: _) _); refine wpN_fop rfl _ _ _ _ _ rfl _ _ _ rfl rfl (by decide) ?_; intro _) | ((with_reducible show wpN _ _ _ _ _ (Oper.mk _ (Op.convert _ _ _) _ _ _ none :: _) _); refine wpN_cvU rfl 38 42 _ rfl (Option.isSome_iff_exists.2 ⟨_, Try.underlying38⟩) Try.underlying42 _ rfl ?_; intro _) | ((with_reducible show wpN _ _ _ _ _ (Oper.mk _ _ _ _ _ (some _) :: _) _); (with_reducible refine wpN_off ?_ ?_); focus rfl; (simp only [Act.put, List.setIfInBounds_toArray, List.set_cons_zero, List.set_cons_succ])) | ((with_reducible show wpN _ _ _ _ _ (Oper.mk _ _ _ _ _ (some _) :: _) _); ((with_reducible refine wpN_on ?_ (fun K hK => ?_)); (focus rfl); intro _; go_simp; first | (refine uponN_value (hK _ ?_)) | ((refine uponN_call (callN rfl (c_sameFloat _ _ _ _ _)) ?_; intro u hu; obtain rfl : u = _ := hu); refine hK _ ?_)); clear hK K) | (((with_reducible refine wpN_plain rfl (fun K hK => ?_)); intro _; go_simp; first | (refine uponN_value (hK _ ?_)) | ((refine uponN_call (callN rfl (c_sameFloat _ _ _ _ _)) ?_; intro u hu; obtain rfl : u = _ := hu); refine hK _ ?_)); clear hK K) | ((with_reducible refine wpN_step (fun K hK => ?_)); go_simp; first | (refine hK _ ?_) | (intro _; first | (refine uponN_value (hK _ ?_)) | ((refine uponN_call (callN rfl (c_sameFloat _ _ _ _ _)) ?_; intro u hu; obtain rfl : u = _ := hu); refine hK _ ?_)); clear hK K))); refine wpN_nil ?_; intro _
      go_wp2
      go_roundw
      case rel => exact ⟨k + 1, _, by omega, by go_num, rfl⟩
      case measure => simp [intOf]; omega
    · clear h5 h4 g4 g5
      go_wp2
      go_ret
      exact ⟨_, rfl, rfl⟩
/-! ### eqPicture -/
theorem c_eqF0 (a b : Option Addr) (len c d : Nat) (zs : List Nat) (w : World) (hr : IsRowF .f32 w a len c zs) (hs : IsRowF .f32 w b len d zs) : Calls Try.prog 46 #[.slice a len c, .slice b len d] w (RetV (.bool true) w) := by
  have h := c_eqF a b len c d zs w 0 hr hs
  rwa [w.drewN_zero] at h
theorem c_eqP (W H : Int) (a b : Option Addr) (len c d : Nat) (zs : List Nat) (w : World) (hr : IsRowF .f32 w a len c zs) (hs : IsRowF .f32 w b len d zs) : Calls Try.prog 19 #[.agg #[.int .i64 W, .int .i64 H, .slice a len c], .agg #[.int .i64 W, .int .i64 H, .slice b len d]] w (RetB (.bool true) w) := by
  have HR := Lib.hid hr
  have HS := Lib.hid hs
  clear hr hs
  go_enter Try.func19, Try.ntmps19
  go_wp2_with fail
  refine (c_eqF0 a b len c d zs _ ((HR.out.alloc _).alloc _) ((HS.out.alloc _).alloc _)).mono ?_
  rintro _ _ ⟨m, rfl, rfl⟩
  go_wp2_with fail
  go_ret
  exact ⟨rfl, below_drewN (((Below.refl _ _).alloc (Nat.le_refl _) _).alloc (by simp) _) _⟩
/-! ### picDefs -/
def sideB (W H : Int) : Bool := decide (1 ≤ W) && decide (W ≤ 16) && (decide (1 ≤ H) && decide (H ≤ 16))
def finL (zs : List Nat) : Bool := zs.all (finB .f32)
def validB (W H : Int) (zs : List Nat) : Bool := sideB W H && decide ((zs.length : Int) = W * H) && finL zs
theorem sideB_true {W H : Int} (h : sideB W H = true) : (1 ≤ W ∧ W ≤ 16) ∧ 1 ≤ H ∧ H ≤ 16 := by simpa [sideB, and_assoc] using h
theorem side_mul {W H : Int} (h : sideB W H = true) : 1 ≤ W * H ∧ W * H ≤ 256 := by
  obtain ⟨⟨h1, h2⟩, h3, h4⟩ := sideB_true h
  have : W * H ≤ 16 * 16 := Int.mul_le_mul h2 h4 (by omega) (by omega)
  have h5 : 1 * 1 ≤ W * H := Int.mul_le_mul h1 h3 (by omega) (by omega)
  omega
theorem sideB_false {W H : Int} (h : sideB W H = false) : W < 1 ∨ 16 < W ∨ H < 1 ∨ 16 < H := by
  simp [sideB] at h; omega
theorem finL_snoc (zs : List Nat) (k : Nat) (hk : k < zs.length) : finL (zs.take (k + 1)) = (finL (zs.take k) && finB .f32 (fat zs k)) := by
  unfold finL fat
  rw [List.take_succ_eq_append_getElem hk, List.all_append, List.getD, List.getElem?_eq_getElem hk]; simp
theorem finL_of (zs : List Nat) (k : Nat) (hk : k < zs.length) (h : finB .f32 (fat zs k) = false) : finL zs = false := by
  unfold finL
  rw [List.all_eq_false]
  refine ⟨zs[k], List.getElem_mem hk, ?_⟩
  unfold fat at h
  rw [List.getD, List.getElem?_eq_getElem hk] at h
  simpa using h
theorem pick0 (k : FloatKind) (v : Nat) (hv : v < 2 ^ k.format.width) : ∃ n, v = pick k v n := pick_onto k v hv
/-! ### give -/
def giveP (W H : Int) (zs : List Nat) : PRes := if validB W H zs = true then ⟨W, H, zs, true⟩ else PRes.no
theorem near_valid {W H : Int} {zs' zs : List Nat} (h : near zs' zs) : validB W H zs' = validB W H zs := by
  unfold validB finL; rw [near_fin h, h.1]
theorem valid_fin {W H : Int} {zs : List Nat} (h : validB W H zs = true) : zs.all (finB .f32) = true := by
  simp [validB, finL] at h ⊢; exact h.2
theorem valid_len {W H : Int} {zs : List Nat} (h : validB W H zs = true) : (zs.length : Int) = W * H ∧ zs.length ≤ 256 ∧ 1 ≤ zs.length := by
  simp only [validB, Bool.and_eq_true, decide_eq_true_eq] at h
  obtain ⟨⟨h1, h2⟩, h3⟩ := h
  have := side_mul h1
  exact ⟨h2, by omega, by omega⟩
/-! ### makeDefs -/
def makeL (F : Nat → Nat → Nat) (Wn Hn : Nat) : List Nat := (List.range (Wn * Hn)).map fun i => F (i % Wn) (i / Wn)
theorem makeL_len {F : Nat → Nat → Nat} {Wn Hn : Nat} : (makeL F Wn Hn).length = Wn * Hn := by simp [makeL]
theorem makeL_at {F : Nat → Nat → Nat} {Wn Hn x y k : Nat} (hk : k = y * Wn + x) (hx : x < Wn) (hy : y < Hn) : fat (makeL F Wn Hn) k = F x y := by
  have h1 : k < Wn * Hn := by
    have : (y + 1) * Wn ≤ Hn * Wn := Nat.mul_le_mul_right _ (by omega)
    rw [Nat.succ_mul] at this
    rw [Nat.mul_comm Wn Hn]; omega
  have h2 : k % Wn = x := by rw [hk, Nat.mul_comm y Wn, Nat.mul_add_mod, Nat.mod_eq_of_lt hx]
  have h3 : k / Wn = y := by rw [hk, Nat.mul_comm y Wn, Nat.mul_add_div (by omega), Nat.div_eq_of_lt hx, Nat.add_zero]
  simp [fat, makeL, h1, h2, h3]
theorem make_lt {Wn Hn x y k : Nat} (hk : k = y * Wn + x) (hx : x < Wn) (hy : y < Hn) : k + 1 ≤ Wn * Hn := by
  have : (y + 1) * Wn ≤ Hn * Wn := Nat.mul_le_mul_right _ (by omega)
  rw [Nat.succ_mul] at this
  rw [Nat.mul_comm Wn Hn]; omega
def resMake (F : Nat → Nat → Nat) (W H : Int) : PRes := if sideB W H = true then giveP W H (makeL F W.toNat H.toNat) else PRes.no
/-! ### atDefs -/
def minI (a b : Int) : Int := if a < b then a else b
def maxI (a b : Int) : Int := if b < a then a else b
theorem clamp_in (n : Nat) (h : 1 ≤ n) (i : Int) : ∃ c : Nat, maxI 0 (minI ((n : Int) - 1) i) = (c : Int) ∧ c < n := by
  refine ⟨(maxI 0 (minI ((n : Int) - 1) i)).toNat, ?_, ?_⟩
  · unfold maxI minI; split <;> split <;> omega
  · unfold maxI minI; split <;> split <;> omega
theorem clamp_is {n c : Nat} (h : c < n) : maxI 0 (minI ((n : Int) - 1) (c : Int)) = (c : Int) := by
  unfold maxI minI; split <;> split <;> omega
theorem mul_bound {cy Wn Hn : Nat} (hy : cy < Hn) (hW : Wn ≤ 16) (hH : Hn ≤ 16) : cy * Wn + Wn ≤ Wn * Hn ∧ cy * Wn ≤ 256 := by
  have h1 : (cy + 1) * Wn ≤ Hn * Wn := Nat.mul_le_mul_right _ (by omega)
  rw [Nat.succ_mul, Nat.mul_comm Hn Wn] at h1
  have h2 : Wn * Hn ≤ 16 * 16 := Nat.mul_le_mul hW hH
  exact ⟨h1, by omega⟩
/-! ### cropDefs -/
def cropK (Wn xn yn wn k : Nat) : Nat := (yn + k / wn) * Wn + (xn + k % wn)
def cropL (zA : List Nat) (Wn xn yn wn hn : Nat) : List Nat := (List.range (wn * hn)).map fun k => fat zA (cropK Wn xn yn wn k)
theorem cropL_len {zA : List Nat} {Wn xn yn wn hn : Nat} : (cropL zA Wn xn yn wn hn).length = wn * hn := by simp [cropL]
theorem cropL_at {zA : List Nat} {Wn xn yn wn hn k : Nat} (hk : k < wn * hn) : fat (cropL zA Wn xn yn wn hn) k = fat zA (cropK Wn xn yn wn k) := by simp [fat, cropL, hk]
theorem crop_div {wn hn k : Nat} (hk : k < wn * hn) (hw : 1 ≤ wn) : k % wn < wn ∧ k / wn < hn := ⟨Nat.mod_lt _ hw, Nat.div_lt_of_lt_mul hk⟩
theorem crop_idx {Wn Hn xn yn wn hn i j : Nat} (hx : xn + wn ≤ Wn) (hy : yn + hn ≤ Hn) (hi : i < wn) (hj : j < hn) : (yn + j) * Wn + (xn + i) < Wn * Hn := by
  have h1 : (yn + j + 1) * Wn ≤ Hn * Wn := Nat.mul_le_mul_right _ (by omega)
  rw [Nat.succ_mul, Nat.mul_comm Hn Wn] at h1
  omega
theorem crop_mem {zA : List Nat} {Wn Hn xn yn wn hn k : Nat} (hl : zA.length = Wn * Hn) (hx : xn + wn ≤ Wn) (hy : yn + hn ≤ Hn) (hw : 1 ≤ wn) (hk : k < wn * hn) : fat zA (cropK Wn xn yn wn k) ∈ zA := by
  obtain ⟨h1, h2⟩ := crop_div hk hw
  exact fat_mem (by rw [hl]; exact crop_idx hx hy h1 h2)
theorem crop_mem2 {zA : List Nat} {Wn Hn xn yn wn hn : Nat} (hl : zA.length = Wn * Hn) (hx : xn + wn ≤ Wn) (hy : yn + hn ≤ Hn) (hw : 1 ≤ wn) : ∀ y ∈ cropL zA Wn xn yn wn hn, y ∈ zA := by
  intro y h
  obtain ⟨i, hi, rfl⟩ := mem_fat h
  rw [cropL_len] at hi
  rw [cropL_at hi]
  exact crop_mem hl hx hy hw hi
theorem crop_fin {zA : List Nat} {Wn Hn xn yn wn hn : Nat} (hl : zA.length = Wn * Hn) (hx : xn + wn ≤ Wn) (hy : yn + hn ≤ Hn) (hw : 1 ≤ wn) (hf : zA.all (finB .f32) = true) : (cropL zA Wn xn yn wn hn).all (finB .f32) = true := by
  rw [List.all_eq_true] at hf ⊢
  exact fun y h => hf _ (crop_mem2 hl hx hy hw y h)
theorem crop_valid {zA : List Nat} {Wn Hn xn yn wn hn : Nat} (hl : zA.length = Wn * Hn) (hx : xn + wn ≤ Wn) (hy : yn + hn ≤ Hn) (hw : 1 ≤ wn) (hh : 1 ≤ hn) (hW : Wn ≤ 16) (hH : Hn ≤ 16) (hf : zA.all (finB .f32) = true) : validB (wn : Int) (hn : Int) (cropL zA Wn xn yn wn hn) = true := by
  have h3 := crop_fin hl hx hy hw hf
  simp only [validB, finL, Bool.and_eq_true, sideB, decide_eq_true_eq]
  exact ⟨⟨⟨⟨by omega, by omega⟩, by omega, by omega⟩, by rw [cropL_len, Int.natCast_mul]⟩, h3⟩
def fitsB (a l r : Int) : Bool := decide (0 ≤ a) && decide (1 ≤ l) && decide (l ≤ r) && decide (a ≤ r - l)
def resCrop (WA HA : Int) (zA : List Nat) (x y wd hg : Int) : PRes := if (validB WA HA zA && (fitsB x wd WA && fitsB y hg HA)) = true then ⟨wd, hg, cropL zA WA.toNat x.toNat y.toNat wd.toNat hg.toNat, true⟩ else PRes.no
theorem IsRowF.appE {T : TypeId} {w w' : World} {row : Option Nat} {k F : Nat} {a : Option Addr} {len cap : Nat} {zs : List Nat} (h : IsRowF .f32 w a len cap zs) (hE : AppE T row k F w w') (hne : ∀ b off, a = some ⟨b, off, none⟩ → row ≠ some b) : IsRowF .f32 w' a len cap zs := by
  obtain ⟨h1, h2, h3, h4, h5⟩ := h
  refine ⟨h1, h2, h3, h4, ?_⟩
  rcases h5 with h5 | ⟨b, off, e, hb, hc⟩
  · exact .inl h5
  · exact .inr ⟨b, off, e, Nat.lt_of_lt_of_le hb hE.1.size, fun i hi => hE.cell (hc i hi) (hne b off e)⟩
theorem row_lt {w : World} {a : Option Addr} {len cap : Nat} {zs : List Nat} (h : IsRowF .f32 w a len cap zs) (h1 : 1 ≤ len) {b off : Nat} (e : a = some ⟨b, off, none⟩) : b < w.heap.size := by
  rcases h.2.2.2.2 with h' | ⟨b', off', e', hb', _⟩
  · omega
  · rw [e] at e'; cases e'; exact hb'
theorem crop_nats {WA HA : Int} {zA : List Nat} {x y wd hg : Int} (hb : validB WA HA zA = true) (hx : fitsB x wd WA = true) (hy : fitsB y hg HA = true) : ∃ Wn Hn xn yn wn hn : Nat, WA = Wn ∧ HA = Hn ∧ x = xn ∧ y = yn ∧ wd = wn ∧ hg = hn ∧ zA.length = Wn * Hn ∧ Wn ≤ 16 ∧ Hn ≤ 16 ∧ 1 ≤ wn ∧ 1 ≤ hn ∧ xn + wn ≤ Wn ∧ yn + hn ≤ Hn := by
  have hlen := (valid_len hb).1
  have hsb : sideB WA HA = true := by have h := hb; simp only [validB, Bool.and_eq_true] at h; exact h.1.1
  obtain ⟨⟨s1, s2⟩, s3, s4⟩ := sideB_true hsb
  simp only [fitsB, Bool.and_eq_true, decide_eq_true_eq] at hx hy
  refine ⟨WA.toNat, HA.toNat, x.toNat, y.toNat, wd.toNat, hg.toNat, by omega, by omega, by omega, by omega, by omega, by omega, ?_, by omega, by omega, by omega, by omega, by omega, by omega⟩
  have : (zA.length : Int) = ((WA.toNat * HA.toNat : Nat) : Int) := by rw [hlen, Int.natCast_mul, Int.toNat_of_nonneg (by omega), Int.toNat_of_nonneg (by omega)]
  omega
/-! ### l00In -/
theorem c_l00In (x lo hi : Int) (w : World) (j : Nat) : Calls Try.prog 84 #[.int .i64 x, .int .i64 lo, .int .i64 hi] (w.drewN j) (RetV (.bool (decide (lo ≤ x) && decide (x ≤ hi))) w) := by
  by_cases h1 : lo ≤ x
  · by_cases h2 : x ≤ hi
    · have d1 : decide (lo ≤ x) = true := decide_eq_true h1
      have d2 : decide (x ≤ hi) = true := decide_eq_true h2
      go_enter Try.func84, Try.ntmps84
      go_wp2
      go_ret
      exact ⟨_, by simp [*], rfl⟩
    · have d1 : decide (lo ≤ x) = true := decide_eq_true h1
      have d2 : decide (x ≤ hi) = false := decide_eq_false h2
      go_enter Try.func84, Try.ntmps84
      go_wp2
      go_ret
      exact ⟨_, by simp [*], rfl⟩
  · have d1 : decide (lo ≤ x) = false := decide_eq_false h1
    go_enter Try.func84, Try.ntmps84
    go_wp2
    go_ret
    exact ⟨_, by simp [*], rfl⟩
/-! ### l02Sides -/
theorem c_l02Sides (W H : Int) (w : World) (j : Nat) : Calls Try.prog 109 #[.int .i64 W, .int .i64 H] (w.drewN j) (RetV (.bool (sideB W H)) w) := by
  unfold sideB
  cases hw : (decide (1 ≤ W) && decide (W ≤ 16))
  all_goals
    have HW := Lib.hid hw
    go_enter Try.func109, Try.ntmps109
    go_wp2_with (go_at_call 84; refine (c_l00In _ _ _ _ _).mono ?_; rintro _ _ ⟨_, rfl, rfl⟩)
    go_ret
    exact ⟨_, by simp [HW.out], rfl⟩
/-! ### l01Finite -/
theorem c_l01Finite (v n : Nat) (w : World) (j : Nat) : Calls Try.prog 114 #[.float .f32 (pick .f32 v n)] (w.drewN j) (RetV (.bool (finB .f32 v)) w) := by
  go_enter Try.func114, Try.ntmps114
  go_wp2_with (first | (refine wpList_fop rfl _ _ _ _ _ rfl _ _ _ rfl rfl (by decide) _ ?_; intro _ _) | (refine upon_fop _ _ _ _ _ (by decide) ?_; intro _ _))
  go_ret
  rw [← sub_self_zero]
  exact ⟨_, rfl, rfl⟩
/-! ### l02Finite -/
theorem c_l02Finite (a : Option Addr) (len cap : Nat) (zs : List Nat) (w : World) (j0 : Nat) (hr : IsRowF .f32 w a len cap zs) : Calls Try.prog 110 #[.slice a len cap] (w.drewN j0) (RetV (.bool (finL zs)) w) := by
  obtain ⟨h1, h2, h3, h4, h5⟩ := hr
  unfold maxLen at h3
  have H1 := Lib.hid h1
  clear h1
  go_enter Try.func110, Try.ntmps110
  go_wp2
  go_loopw [3] (fun i wr => ∃ k m : Nat, k ≤ len ∧ i = .int .i64 k ∧ wr = w.drewN m ∧ finL (zs.take k) = true) (fun i _ => len - (intOf i).toNat)
  case atStart => exact ⟨0, j0, Nat.zero_le _, rfl, rfl, rfl⟩
  case round =>
    obtain ⟨k, m, hk, rfl, rfl, hfin⟩ := hrel
    have HFin := Lib.hid hfin
    clear hfin
    by_cases hlt : k < len
    · rcases h5 with h5 | ⟨b, off, rfl, hbl, hc⟩
      · omega
      have hcell : w.cell? ⟨b, off + k, none⟩ = some (.float .f32 (fat zs k)) := hc k hlt
      obtain ⟨n, hn⟩ := pick0 .f32 (fat zs k) (lt_of_wf (h4 _ (by unfold fat; rw [List.getD, List.getElem?_eq_getElem (by have := H1.out; omega)]; exact List.getElem_mem _)))
      rw [hn] at hcell
      have HN := Lib.hid hn
      have HS := Lib.hid (finL_snoc zs k (by have := H1.out; omega))
      cases hf : finB .f32 (fat zs k)
      · have HO := Lib.hid (finL_of zs k (by have := H1.out; omega) hf)
        clear hc h4 hn
        go_wp2_with ((go_at_call 114; refine (c_l01Finite _ _ _ _).mono ?_; rintro _ _ ⟨_, rfl, rfl⟩))
        go_ret
        exact ⟨_, by rw [HO.out]; rfl, rfl⟩
      · have HF := Lib.hid hf
        clear hc h4 hn
        go_wp2_with ((go_at_call 114; refine (c_l01Finite _ _ _ _).mono ?_; rintro _ _ ⟨_, rfl, rfl⟩))
        go_roundw
        case rel => exact ⟨k + 1, _, by omega, by go_num, rfl, by rw [HS.out, HFin.out, HF.out]; rfl⟩
        case measure => simp [intOf]; omega
    · have e : zs.take k = zs := List.take_of_length_le (by have := H1.out; omega)
      have HE := Lib.hid e
      clear h5 h4 e
      go_wp2
      go_ret
      exact ⟨_, by have h := HFin.out; rw [HE.out] at h; rw [h]; rfl, rfl⟩
/-! ### l02Is -/
theorem c_l02Is (W H : Int) (b : Nat) (a : Option Addr) (len cap : Nat) (zs : List Nat) (w : World) (j0 : Nat) (hv : Var w b #[.int .i64 W, .int .i64 H, .slice a len cap]) (hr : IsRowF .f32 w a len cap zs) :
    Calls Try.prog 61 #[.pointer (some ⟨b, 0, none⟩)] (w.drewN j0) (RetV (.bool (validB W H zs)) w) := by
  obtain ⟨p0, p1, p2⟩ := hv.three
  have H1 := Lib.hid hr.1
  have HR := Lib.hid hr
  clear hr hv
  cases hs : sideB W H
  · have e : validB W H zs = false := by simp [validB, hs]
    have E := Lib.hid e
    have C1 := Lib.hid (fun n => (by have h := c_l02Sides W H w n; rwa [hs] at h : Calls Try.prog 109 #[.int .i64 W, .int .i64 H] (w.drewN n) (RetV (.bool false) w)))
    clear e hs
    go_enter Try.func61, Try.ntmps61
    go_wp2
    refine wp_region_N (fun f _ u => (f = 109 → u = .bool false)) (by kernel_rfl) (by kernel_rfl) ?_; (repeat (first | ((with_reducible show wpN _ _ _ _ _ (Oper.mk _ (Op.binOp _ _ _ _ _) _ _ _ none :: _) _); refine wpN_fop rfl _ _ _ _ _ rfl _ _ _ rfl rfl (by decide) ?_; intro _) | ((with_reducible show wpN _ _ _ _ _ (Oper.mk _ (Op.convert _ _ _) _ _ _ none :: _) _); refine wpN_cvU rfl 38 42 _ rfl (Option.isSome_iff_exists.2 ⟨_, Try.underlying38⟩) Try.underlying42 _ rfl ?_; intro _) | ((with_reducible show wpN _ _ _ _ _ (Oper.mk _ _ _ _ _ (some _) :: _) _); (with_reducible refine wpN_off ?_ ?_); focus rfl; (simp only [Act.put, List.setIfInBounds_toArray, List.set_cons_zero, List.set_cons_succ])) | ((with_reducible show wpN _ _ _ _ _ (Oper.mk _ _ _ _ _ (some _) :: _) _); ((with_reducible refine wpN_on ?_ (fun K hK => ?_)); (focus rfl); intro _; go_simp; first | (refine uponN_value (hK _ ?_)) | ((refine uponN_call (callN (v := .bool false) (fun _ => rfl) (C1.out _)) ?_; intro u hu; obtain rfl : u = _ := hu rfl; clear hu); refine hK _ ?_)); clear hK K) | (((with_reducible refine wpN_plain rfl (fun K hK => ?_)); intro _; go_simp; first | (refine uponN_value (hK _ ?_)) | ((refine uponN_call (callN (v := .bool false) (fun _ => rfl) (C1.out _)) ?_; intro u hu; obtain rfl : u = _ := hu rfl; clear hu); refine hK _ ?_)); clear hK K) | ((with_reducible refine wpN_step (fun K hK => ?_)); go_simp; first | (refine hK _ ?_) | (intro _; first | (refine uponN_value (hK _ ?_)) | ((refine uponN_call (callN (v := .bool false) (fun _ => rfl) (C1.out _)) ?_; intro u hu; obtain rfl : u = _ := hu rfl; clear hu); refine hK _ ?_)); clear hK K))); refine wpN_nil ?_; intro _
    go_wp2
    go_ret
    exact ⟨_, by rw [E.out]; rfl, rfl⟩
  · obtain ⟨m1, m2⟩ := side_mul hs
    have mw : IntKind.i64.wrap (W * H) = W * H := IntWalk.i64_in _ (by omega)
    have C1 := Lib.hid (fun n => (by have h := c_l02Sides W H w n; rwa [hs] at h : Calls Try.prog 109 #[.int .i64 W, .int .i64 H] (w.drewN n) (RetV (.bool true) w)))
    have C2 := Lib.hid (fun n => c_l02Finite a len cap zs w n HR.out)
    by_cases hl : (len : Int) = W * H
    · have hd : ((len : Int) == W * H) = true := by simpa using hl
      have e : validB W H zs = finL zs := by simp [validB, hs, H1.out, hl]
      have E := Lib.hid e
      have HL := Lib.hid hl
      clear e hs hl
      go_enter Try.func61, Try.ntmps61
      go_wp2
      refine wp_region_N (fun f _ u => (f = 109 → u = .bool true) ∧ (f = 110 → u = .bool (finL zs))) (by kernel_rfl) (by kernel_rfl) ?_; (repeat (first | ((with_reducible show wpN _ _ _ _ _ (Oper.mk _ (Op.binOp _ _ _ _ _) _ _ _ none :: _) _); refine wpN_fop rfl _ _ _ _ _ rfl _ _ _ rfl rfl (by decide) ?_; intro _) | ((with_reducible show wpN _ _ _ _ _ (Oper.mk _ (Op.convert _ _ _) _ _ _ none :: _) _); refine wpN_cvU rfl 38 42 _ rfl (Option.isSome_iff_exists.2 ⟨_, Try.underlying38⟩) Try.underlying42 _ rfl ?_; intro _) | ((with_reducible show wpN _ _ _ _ _ (Oper.mk _ _ _ _ _ (some _) :: _) _); (with_reducible refine wpN_off ?_ ?_); focus rfl; (simp only [Act.put, List.setIfInBounds_toArray, List.set_cons_zero, List.set_cons_succ])) | ((with_reducible show wpN _ _ _ _ _ (Oper.mk _ _ _ _ _ (some _) :: _) _); ((with_reducible refine wpN_on ?_ (fun K hK => ?_)); (focus rfl); intro _; go_simp; first | (refine uponN_value (hK _ ?_)) | ((first | (refine uponN_call (callN (v := .bool true) ⟨fun _ => rfl, fun h => absurd h (by decide)⟩ (C1.out _)) ?_; intro u hu; obtain rfl : u = _ := hu.1 rfl; clear hu) | (refine uponN_call (callN (v := .bool (finL zs)) ⟨fun h => absurd h (by decide), fun _ => rfl⟩ (C2.out _)) ?_; intro u hu; obtain rfl : u = _ := hu.2 rfl; clear hu)); refine hK _ ?_)); clear hK K) | (((with_reducible refine wpN_plain rfl (fun K hK => ?_)); intro _; go_simp; first | (refine uponN_value (hK _ ?_)) | ((first | (refine uponN_call (callN (v := .bool true) ⟨fun _ => rfl, fun h => absurd h (by decide)⟩ (C1.out _)) ?_; intro u hu; obtain rfl : u = _ := hu.1 rfl; clear hu) | (refine uponN_call (callN (v := .bool (finL zs)) ⟨fun h => absurd h (by decide), fun _ => rfl⟩ (C2.out _)) ?_; intro u hu; obtain rfl : u = _ := hu.2 rfl; clear hu)); refine hK _ ?_)); clear hK K) | ((with_reducible refine wpN_step (fun K hK => ?_)); go_simp; first | (refine hK _ ?_) | (intro _; first | (refine uponN_value (hK _ ?_)) | ((first | (refine uponN_call (callN (v := .bool true) ⟨fun _ => rfl, fun h => absurd h (by decide)⟩ (C1.out _)) ?_; intro u hu; obtain rfl : u = _ := hu.1 rfl; clear hu) | (refine uponN_call (callN (v := .bool (finL zs)) ⟨fun h => absurd h (by decide), fun _ => rfl⟩ (C2.out _)) ?_; intro u hu; obtain rfl : u = _ := hu.2 rfl; clear hu)); refine hK _ ?_)); clear hK K))); refine wpN_nil ?_; intro _
      go_wp2
      go_ret
      exact ⟨_, by rw [E.out]; rfl, rfl⟩
    · have hd : ((len : Int) == W * H) = false := by simpa using hl
      have e : validB W H zs = false := by simp [validB, hs, H1.out, hl]
      have E := Lib.hid e
      clear e hs hl
      go_enter Try.func61, Try.ntmps61
      go_wp2
      refine wp_region_N (fun f _ u => (f = 109 → u = .bool true)) (by kernel_rfl) (by kernel_rfl) ?_; (repeat (first | ((with_reducible show wpN _ _ _ _ _ (Oper.mk _ (Op.binOp _ _ _ _ _) _ _ _ none :: _) _); refine wpN_fop rfl _ _ _ _ _ rfl _ _ _ rfl rfl (by decide) ?_; intro _) | ((with_reducible show wpN _ _ _ _ _ (Oper.mk _ (Op.convert _ _ _) _ _ _ none :: _) _); refine wpN_cvU rfl 38 42 _ rfl (Option.isSome_iff_exists.2 ⟨_, Try.underlying38⟩) Try.underlying42 _ rfl ?_; intro _) | ((with_reducible show wpN _ _ _ _ _ (Oper.mk _ _ _ _ _ (some _) :: _) _); (with_reducible refine wpN_off ?_ ?_); focus rfl; (simp only [Act.put, List.setIfInBounds_toArray, List.set_cons_zero, List.set_cons_succ])) | ((with_reducible show wpN _ _ _ _ _ (Oper.mk _ _ _ _ _ (some _) :: _) _); ((with_reducible refine wpN_on ?_ (fun K hK => ?_)); (focus rfl); intro _; go_simp; first | (refine uponN_value (hK _ ?_)) | ((refine uponN_call (callN (v := .bool true) (fun _ => rfl) (C1.out _)) ?_; intro u hu; obtain rfl : u = _ := hu rfl; clear hu); refine hK _ ?_)); clear hK K) | (((with_reducible refine wpN_plain rfl (fun K hK => ?_)); intro _; go_simp; first | (refine uponN_value (hK _ ?_)) | ((refine uponN_call (callN (v := .bool true) (fun _ => rfl) (C1.out _)) ?_; intro u hu; obtain rfl : u = _ := hu rfl; clear hu); refine hK _ ?_)); clear hK K) | ((with_reducible refine wpN_step (fun K hK => ?_)); go_simp; first | (refine hK _ ?_) | (intro _; first | (refine uponN_value (hK _ ?_)) | ((refine uponN_call (callN (v := .bool true) (fun _ => rfl) (C1.out _)) ?_; intro u hu; obtain rfl : u = _ := hu rfl; clear hu); refine hK _ ?_)); clear hK K))); refine wpN_nil ?_; intro _
      go_wp2
      go_ret
      exact ⟨_, by rw [E.out]; rfl, rfl⟩
/-! ### l02Both -/
def bothB (WA HA : Int) (zA : List Nat) (WB HB : Int) (zB : List Nat) : Bool := validB WA HA zA && validB WB HB zB && WA == WB && HA == HB
theorem c_l02Both (WA HA : Int) (zA : List Nat) (aA : Option Addr) (cA : Nat) (WB HB : Int) (zB : List Nat) (aB : Option Addr) (cB : Nat) (x y : Nat) (w : World) (j : Nat) (vx : Var w x #[.int .i64 WA, .int .i64 HA, .slice aA zA.length cA]) (vy : Var w y #[.int .i64 WB, .int .i64 HB, .slice aB zB.length cB])
    (rA : IsRowF .f32 w aA zA.length cA zA) (rB : IsRowF .f32 w aB zB.length cB zB) (hxy : x ≠ y) : Calls Try.prog 77 #[.pointer (some ⟨x, 0, none⟩), .pointer (some ⟨y, 0, none⟩)] (w.drewN j) (RetV (.bool (bothB WA HA zA WB HB zB)) w) := by
  obtain ⟨p0, p1, p2⟩ := vx.three
  obtain ⟨q0, q1, q2⟩ := vy.three
  have CA := Lib.hid (fun n => c_l02Is WA HA x aA zA.length cA zA w n vx rA)
  have CB := Lib.hid (fun n => c_l02Is WB HB y aB zB.length cB zB w n vy rB)
  clear vx vy rA rB
  unfold bothB
  have hx : ∀ u, (#[Value.pointer (some ⟨x, 0, none⟩)] : Array Value) = #[.pointer (some ⟨y, 0, none⟩)] → u := fun u h => absurd h (by simp <;> omega)
  have hy : ∀ u, (#[Value.pointer (some ⟨y, 0, none⟩)] : Array Value) = #[.pointer (some ⟨x, 0, none⟩)] → u := fun u h => absurd h (by simp <;> omega)
  have HX := Lib.hid hx
  have HY := Lib.hid hy
  clear hx hy
  cases hA : validB WA HA zA
  · have C1 := Lib.hid (fun n => (by have h := CA.out n; rwa [hA] at h : Calls Try.prog 61 #[.pointer (some ⟨x, 0, none⟩)] (w.drewN n) (RetV (.bool false) w)))
    clear CA CB hA
    go_enter Try.func77, Try.ntmps77
    go_wp2
    refine wp_region_N (fun f args u => args = #[.pointer (some ⟨x, 0, none⟩)] → u = .bool false) (by kernel_rfl) (by kernel_rfl) ?_; (repeat (first | ((with_reducible show wpN _ _ _ _ _ (Oper.mk _ (Op.binOp _ _ _ _ _) _ _ _ none :: _) _); refine wpN_fop rfl _ _ _ _ _ rfl _ _ _ rfl rfl (by decide) ?_; intro _) | ((with_reducible show wpN _ _ _ _ _ (Oper.mk _ (Op.convert _ _ _) _ _ _ none :: _) _); refine wpN_cvU rfl 38 42 _ rfl (Option.isSome_iff_exists.2 ⟨_, Try.underlying38⟩) Try.underlying42 _ rfl ?_; intro _) | ((with_reducible show wpN _ _ _ _ _ (Oper.mk _ _ _ _ _ (some _) :: _) _); (with_reducible refine wpN_off ?_ ?_); focus rfl; (simp only [Act.put, List.setIfInBounds_toArray, List.set_cons_zero, List.set_cons_succ])) | ((with_reducible show wpN _ _ _ _ _ (Oper.mk _ _ _ _ _ (some _) :: _) _); ((with_reducible refine wpN_on ?_ (fun K hK => ?_)); (focus rfl); intro _; go_simp; first | (refine uponN_value (hK _ ?_)) | ((refine uponN_call (callN (v := .bool false) (fun _ => rfl) (C1.out _)) ?_; intro u hu; obtain rfl : u = _ := hu rfl; clear hu); refine hK _ ?_)); clear hK K) | (((with_reducible refine wpN_plain rfl (fun K hK => ?_)); intro _; go_simp; first | (refine uponN_value (hK _ ?_)) | ((refine uponN_call (callN (v := .bool false) (fun _ => rfl) (C1.out _)) ?_; intro u hu; obtain rfl : u = _ := hu rfl; clear hu); refine hK _ ?_)); clear hK K) | ((with_reducible refine wpN_step (fun K hK => ?_)); go_simp; first | (refine hK _ ?_) | (intro _; first | (refine uponN_value (hK _ ?_)) | ((refine uponN_call (callN (v := .bool false) (fun _ => rfl) (C1.out _)) ?_; intro u hu; obtain rfl : u = _ := hu rfl; clear hu); refine hK _ ?_)); clear hK K))); refine wpN_nil ?_; intro _
    go_wp2
    go_ret
    exact ⟨_, by simp, rfl⟩
  · have C1 := Lib.hid (fun n => (by have h := CA.out n; rwa [hA] at h : Calls Try.prog 61 #[.pointer (some ⟨x, 0, none⟩)] (w.drewN n) (RetV (.bool true) w)))
    cases hB : validB WB HB zB
    · have C2 := Lib.hid (fun n => (by have h := CB.out n; rwa [hB] at h : Calls Try.prog 61 #[.pointer (some ⟨y, 0, none⟩)] (w.drewN n) (RetV (.bool false) w)))
      clear CA CB hA hB
      go_enter Try.func77, Try.ntmps77
      go_wp2
      refine wp_region_N (fun f args u => (args = #[.pointer (some ⟨x, 0, none⟩)] → u = .bool true) ∧ (args = #[.pointer (some ⟨y, 0, none⟩)] → u = .bool false)) (by kernel_rfl) (by kernel_rfl) ?_; (repeat (first | ((with_reducible show wpN _ _ _ _ _ (Oper.mk _ (Op.binOp _ _ _ _ _) _ _ _ none :: _) _); refine wpN_fop rfl _ _ _ _ _ rfl _ _ _ rfl rfl (by decide) ?_; intro _) | ((with_reducible show wpN _ _ _ _ _ (Oper.mk _ (Op.convert _ _ _) _ _ _ none :: _) _); refine wpN_cvU rfl 38 42 _ rfl (Option.isSome_iff_exists.2 ⟨_, Try.underlying38⟩) Try.underlying42 _ rfl ?_; intro _) | ((with_reducible show wpN _ _ _ _ _ (Oper.mk _ _ _ _ _ (some _) :: _) _); (with_reducible refine wpN_off ?_ ?_); focus rfl; (simp only [Act.put, List.setIfInBounds_toArray, List.set_cons_zero, List.set_cons_succ])) | ((with_reducible show wpN _ _ _ _ _ (Oper.mk _ _ _ _ _ (some _) :: _) _); ((with_reducible refine wpN_on ?_ (fun K hK => ?_)); (focus rfl); intro _; go_simp; first | (refine uponN_value (hK _ ?_)) | ((first | ((with_reducible show uponN _ _ _ _ (Result.ok (Next.enter _ #[Value.pointer (some ⟨x, 0, none⟩)]) _)); refine uponN_call (callN (v := .bool true) ⟨fun _ => rfl, HX.out _⟩ (C1.out _)) ?_; intro u hu; obtain rfl : u = _ := hu.1 rfl; clear hu) | ((with_reducible show uponN _ _ _ _ (Result.ok (Next.enter _ #[Value.pointer (some ⟨y, 0, none⟩)]) _)); refine uponN_call (callN (v := .bool false) ⟨HY.out _, fun _ => rfl⟩ (C2.out _)) ?_; intro u hu; obtain rfl : u = _ := hu.2 rfl; clear hu)); refine hK _ ?_)); clear hK K) | (((with_reducible refine wpN_plain rfl (fun K hK => ?_)); intro _; go_simp; first | (refine uponN_value (hK _ ?_)) | ((first | ((with_reducible show uponN _ _ _ _ (Result.ok (Next.enter _ #[Value.pointer (some ⟨x, 0, none⟩)]) _)); refine uponN_call (callN (v := .bool true) ⟨fun _ => rfl, HX.out _⟩ (C1.out _)) ?_; intro u hu; obtain rfl : u = _ := hu.1 rfl; clear hu) | ((with_reducible show uponN _ _ _ _ (Result.ok (Next.enter _ #[Value.pointer (some ⟨y, 0, none⟩)]) _)); refine uponN_call (callN (v := .bool false) ⟨HY.out _, fun _ => rfl⟩ (C2.out _)) ?_; intro u hu; obtain rfl : u = _ := hu.2 rfl; clear hu)); refine hK _ ?_)); clear hK K) | ((with_reducible refine wpN_step (fun K hK => ?_)); go_simp; first | (refine hK _ ?_) | (intro _; first | (refine uponN_value (hK _ ?_)) | ((first | ((with_reducible show uponN _ _ _ _ (Result.ok (Next.enter _ #[Value.pointer (some ⟨x, 0, none⟩)]) _)); refine uponN_call (callN (v := .bool true) ⟨fun _ => rfl, HX.out _⟩ (C1.out _)) ?_; intro u hu; obtain rfl : u = _ := hu.1 rfl; clear hu) | ((with_reducible show uponN _ _ _ _ (Result.ok (Next.enter _ #[Value.pointer (some ⟨y, 0, none⟩)]) _)); refine uponN_call (callN (v := .bool false) ⟨HY.out _, fun _ => rfl⟩ (C2.out _)) ?_; intro u hu; obtain rfl : u = _ := hu.2 rfl; clear hu)); refine hK _ ?_)); clear hK K))); refine wpN_nil ?_; intro _
      go_wp2
      go_ret
      exact ⟨_, by simp, rfl⟩
    · have C2 := Lib.hid (fun n => (by have h := CB.out n; rwa [hB] at h : Calls Try.prog 61 #[.pointer (some ⟨y, 0, none⟩)] (w.drewN n) (RetV (.bool true) w)))
      clear CA CB hA hB
      cases hW : (WA == WB) <;> cases hH : (HA == HB)
      all_goals
        go_enter Try.func77, Try.ntmps77
        go_wp2
        refine wp_region_N (fun f args u => (args = #[.pointer (some ⟨x, 0, none⟩)] → u = .bool true) ∧ (args = #[.pointer (some ⟨y, 0, none⟩)] → u = .bool true)) (by kernel_rfl) (by kernel_rfl) ?_; (repeat (first | ((with_reducible show wpN _ _ _ _ _ (Oper.mk _ (Op.binOp _ _ _ _ _) _ _ _ none :: _) _); refine wpN_fop rfl _ _ _ _ _ rfl _ _ _ rfl rfl (by decide) ?_; intro _) | ((with_reducible show wpN _ _ _ _ _ (Oper.mk _ (Op.convert _ _ _) _ _ _ none :: _) _); refine wpN_cvU rfl 38 42 _ rfl (Option.isSome_iff_exists.2 ⟨_, Try.underlying38⟩) Try.underlying42 _ rfl ?_; intro _) | ((with_reducible show wpN _ _ _ _ _ (Oper.mk _ _ _ _ _ (some _) :: _) _); (with_reducible refine wpN_off ?_ ?_); focus rfl; (simp only [Act.put, List.setIfInBounds_toArray, List.set_cons_zero, List.set_cons_succ])) | ((with_reducible show wpN _ _ _ _ _ (Oper.mk _ _ _ _ _ (some _) :: _) _); ((with_reducible refine wpN_on ?_ (fun K hK => ?_)); (focus rfl); intro _; go_simp; first | (refine uponN_value (hK _ ?_)) | ((first | ((with_reducible show uponN _ _ _ _ (Result.ok (Next.enter _ #[Value.pointer (some ⟨x, 0, none⟩)]) _)); refine uponN_call (callN (v := .bool true) ⟨fun _ => rfl, HX.out _⟩ (C1.out _)) ?_; intro u hu; obtain rfl : u = _ := hu.1 rfl; clear hu) | ((with_reducible show uponN _ _ _ _ (Result.ok (Next.enter _ #[Value.pointer (some ⟨y, 0, none⟩)]) _)); refine uponN_call (callN (v := .bool true) ⟨HY.out _, fun _ => rfl⟩ (C2.out _)) ?_; intro u hu; obtain rfl : u = _ := hu.2 rfl; clear hu)); refine hK _ ?_)); clear hK K) | (((with_reducible refine wpN_plain rfl (fun K hK => ?_)); intro _; go_simp; first | (refine uponN_value (hK _ ?_)) | ((first | ((with_reducible show uponN _ _ _ _ (Result.ok (Next.enter _ #[Value.pointer (some ⟨x, 0, none⟩)]) _)); refine uponN_call (callN (v := .bool true) ⟨fun _ => rfl, HX.out _⟩ (C1.out _)) ?_; intro u hu; obtain rfl : u = _ := hu.1 rfl; clear hu) | ((with_reducible show uponN _ _ _ _ (Result.ok (Next.enter _ #[Value.pointer (some ⟨y, 0, none⟩)]) _)); refine uponN_call (callN (v := .bool true) ⟨HY.out _, fun _ => rfl⟩ (C2.out _)) ?_; intro u hu; obtain rfl : u = _ := hu.2 rfl; clear hu)); refine hK _ ?_)); clear hK K) | ((with_reducible refine wpN_step (fun K hK => ?_)); go_simp; first | (refine hK _ ?_) | (intro _; first | (refine uponN_value (hK _ ?_)) | ((first | ((with_reducible show uponN _ _ _ _ (Result.ok (Next.enter _ #[Value.pointer (some ⟨x, 0, none⟩)]) _)); refine uponN_call (callN (v := .bool true) ⟨fun _ => rfl, HX.out _⟩ (C1.out _)) ?_; intro u hu; obtain rfl : u = _ := hu.1 rfl; clear hu) | ((with_reducible show uponN _ _ _ _ (Result.ok (Next.enter _ #[Value.pointer (some ⟨y, 0, none⟩)]) _)); refine uponN_call (callN (v := .bool true) ⟨HY.out _, fun _ => rfl⟩ (C2.out _)) ?_; intro u hu; obtain rfl : u = _ := hu.2 rfl; clear hu)); refine hK _ ?_)); clear hK K))); refine wpN_nil ?_; intro _
        go_wp2
        go_ret
        exact ⟨_, by simp, rfl⟩
/-! ### bothDefs -/
theorem bothB_spec {WA HA : Int} {zA : List Nat} {WB HB : Int} {zB : List Nat} (h : bothB WA HA zA WB HB zB = true) : validB WA HA zA = true ∧ validB WB HB zB = true ∧ WA = WB ∧ HA = HB ∧ zA.length = zB.length := by
  simp only [bothB, Bool.and_eq_true, beq_iff_eq] at h
  obtain ⟨⟨⟨h1, h2⟩, rfl⟩, rfl⟩ := h
  have a := (valid_len h1).1
  have b := (valid_len h2).1
  exact ⟨h1, h2, rfl, rfl, by omega⟩
/-! ### mulInf -/
theorem inf_notfin (s : Bool) : finB .f32 (FloatKind.f32.format.write (.infinity s)) = false := by cases s <;> decide +kernel
theorem rung_split {v : Nat} (h : finB .f32 v = false) (hn : isN .f32 v = false) : FloatKind.f32.format.read v = .infinity (sgn FloatKind.f32.format v) := by
  have h1 : ¬ rung FloatKind.f32.format v < FloatKind.f32.format.infRung := of_decide_eq_false h
  have h2 := isN_rung' .f32 v
  rw [hn] at h2
  have h3 := of_decide_eq_false h2.symm
  exact read_inf .f32 v (by omega)
/-- A product with a factor that isn't finite isn't finite. -/
theorem mul_notfin (x : Nat) {v : Nat} (hv : finB .f32 v = false) : finB .f32 (fop .mul .f32 x v) = false := by
  cases h : isN .f32 v
  · have h3 := rung_split hv h
    cases hx : isN .f32 x
    · cases hf : finB .f32 x
      · have h4 := rung_split hf hx
        have e : fop .mul .f32 x v = FloatKind.f32.format.write (.infinity (sgn FloatKind.f32.format x ^^ sgn FloatKind.f32.format v)) := by
          unfold fop floatBits Ieee.Format.mul
          simp only [h3, h4, Ieee.Datum.product]
          rfl
        rw [e]; exact inf_notfin _
      · obtain ⟨m, e, h4, _, _⟩ := read_fin FloatKind.f32.format x (of_decide_eq_true hf)
        by_cases hm : m = 0
        · have e : fop .mul .f32 x v = qn .f32 := by
            unfold fop floatBits Ieee.Format.mul
            simp only [h3, h4, Ieee.Datum.product, hm, if_true]
            rfl
          rw [e]; exact finB_nan (isN_qn .f32)
        · have e : fop .mul .f32 x v = FloatKind.f32.format.write (.infinity (sgn FloatKind.f32.format v ^^ sgn FloatKind.f32.format x)) := by
            unfold fop floatBits Ieee.Format.mul
            simp only [h3, h4, Ieee.Datum.product, hm, if_false]
            rfl
          rw [e]; exact inf_notfin _
    · exact finB_nan (isN_fop_l v hx)
  · exact finB_nan (isN_fop_r x h)

/-! ### notFin -/
theorem notfin_cases {v : Nat} (h : finB .f32 v = false) : isN .f32 v = true ∨ FloatKind.f32.format.read v = .infinity (sgn FloatKind.f32.format v) := by
  cases hn : isN .f32 v
  · exact .inr (rung_split h hn)
  · exact .inl rfl
theorem fin_read {v : Nat} (h : finB .f32 v = true) : ∃ m e, FloatKind.f32.format.read v = .number (sgn FloatKind.f32.format v) m e := by
  obtain ⟨m, e, h4, _, _⟩ := read_fin FloatKind.f32.format v (of_decide_eq_true h)
  exact ⟨m, e, h4⟩
theorem add_notfin_r (x : Nat) {v : Nat} (hv : finB .f32 v = false) : finB .f32 (fop .add .f32 x v) = false := by
  rcases notfin_cases hv with h | h
  · exact finB_nan (isN_fop_r x h)
  · cases hx : finB .f32 x
    · rcases notfin_cases hx with h2 | h2
      · exact finB_nan (isN_fop_l v h2)
      · unfold fop floatBits Ieee.Format.add
        simp only [h, h2, Ieee.Datum.sum]
        split
        · exact inf_notfin _
        · exact finB_nan (isN_qn .f32)
    · obtain ⟨m, e, h2⟩ := fin_read hx
      unfold fop floatBits Ieee.Format.add
      simp only [h, h2, Ieee.Datum.sum]
      exact inf_notfin _
theorem add_notfin_l {x : Nat} (v : Nat) (hx : finB .f32 x = false) : finB .f32 (fop .add .f32 x v) = false := by
  cases hv : finB .f32 v
  · exact add_notfin_r x hv
  · rcases notfin_cases hx with h | h
    · exact finB_nan (isN_fop_l v h)
    · obtain ⟨m, e, h2⟩ := fin_read hv
      unfold fop floatBits Ieee.Format.add
      simp only [h, h2, Ieee.Datum.sum]
      exact inf_notfin _
theorem sub_notfin_r (x : Nat) {v : Nat} (hv : finB .f32 v = false) : finB .f32 (fop .sub .f32 x v) = false := by
  rcases notfin_cases hv with h | h
  · exact finB_nan (isN_fop_r x h)
  · cases hx : finB .f32 x
    · rcases notfin_cases hx with h2 | h2
      · exact finB_nan (isN_fop_l v h2)
      · unfold fop floatBits Ieee.Format.sub
        simp only [h, h2, Ieee.Datum.opposite, Ieee.Datum.sum]
        split
        · exact inf_notfin _
        · exact finB_nan (isN_qn .f32)
    · obtain ⟨m, e, h2⟩ := fin_read hx
      unfold fop floatBits Ieee.Format.sub
      simp only [h, h2, Ieee.Datum.opposite, Ieee.Datum.sum]
      exact inf_notfin _
theorem quo_notfin_l {x v : Nat} (hx : finB .f32 x = false) (hv : finB .f32 v = true) : finB .f32 (fop .quo .f32 x v) = false := by
  rcases notfin_cases hx with h | h
  · exact finB_nan (isN_fop_l v h)
  · obtain ⟨m, e, h2⟩ := fin_read hv
    unfold fop floatBits Ieee.Format.div
    simp only [h, h2, Ieee.Datum.quotient]
    exact inf_notfin _
theorem ofInt_fin {n : Nat} (h : n ≤ 256) : finB .f32 (floatOfInt .f32 (n : Int)) = true := by
  have : (List.range 257).all (fun n => finB .f32 (floatOfInt .f32 (n : Int))) = true := by decide +kernel
  rw [List.all_eq_true] at this
  exact this n (List.mem_range.2 (by omega))
/-! ### meanDefs -/
def meanV (zs : List Nat) : Nat := fop .quo .f32 (sumF .add .f32 0 zs) (floatOfInt .f32 (zs.length : Int))
def numR (v : Nat) : Nat × Bool := if finB .f32 v = true then (v, true) else (0, false)
def meanR (W H : Int) (zs : List Nat) : Nat × Bool := if validB W H zs = true then numR (meanV zs) else (0, false)
theorem mean_len {W H : Int} {zs : List Nat} (h : validB W H zs = true) : zs.length ≤ 256 := by
  simp only [validB, Bool.and_eq_true, decide_eq_true_eq] at h
  obtain ⟨⟨h1, h2⟩, h3⟩ := h
  have := side_mul h1
  omega
theorem pick00 : pick .f32 0 0 = 0 := pick_not (show isN .f32 0 = false from by decide +kernel) 0
/-! ### anyDefs -/
theorem map_at {g : Nat → Nat} {zA : List Nat} {k : Nat} (hk : k < zA.length) : fat (zA.map g) k = g (fat zA k) := by simp [fat, hk]
theorem zip_at {g : Nat → Nat → Nat} {zA zB : List Nat} (h : zA.length = zB.length) {k : Nat} (hk : k < zA.length) : fat (List.zipWith g zA zB) k = g (fat zA k) (fat zB k) := by
  have hk2 : k < zB.length := by omega
  simp [fat, List.getElem?_zipWith, hk, hk2]
theorem zip_len {g : Nat → Nat → Nat} {zA zB : List Nat} (h : zA.length = zB.length) : (List.zipWith g zA zB).length = zA.length := by simp [h]
/-! ### lapDefs -/
def missG (x y : Nat) : Nat := fop .mul .f32 (fop .sub .f32 x y) (fop .sub .f32 x y)
def missI (zA zB : List Nat) (Wa Wb on k : Nat) : Nat := missG (fat zA (cropK Wa (Wa - on) 0 on k)) (fat zB (cropK Wb 0 0 on k))
def missL (zA zB : List Nat) (Wa Wb on hn : Nat) : List Nat := (List.range (on * hn)).map (missI zA zB Wa Wb on)
theorem missL_len {zA zB : List Nat} {Wa Wb on hn : Nat} : (missL zA zB Wa Wb on hn).length = on * hn := by simp [missL]
theorem missL_at {zA zB : List Nat} {Wa Wb on hn k : Nat} (hk : k < on * hn) : fat (missL zA zB Wa Wb on hn) k = missI zA zB Wa Wb on k := by simp [fat, missL, hk]
theorem missG_lt (x y : Nat) : missG x y < 2 ^ FloatKind.f32.format.width := fop_lt _ _ _ _
def meetB (WA HA : Int) (zA : List Nat) (WB HB : Int) (zB : List Nat) (O : Int) : Bool := validB WA HA zA && validB WB HB zB && decide (HA = HB) && (decide (1 ≤ O) && decide (O ≤ minI WA WB))
theorem meetB_true {WA HA : Int} {zA : List Nat} {WB HB : Int} {zB : List Nat} {O : Int} (h : meetB WA HA zA WB HB zB O = true) : validB WA HA zA = true ∧ validB WB HB zB = true ∧ HA = HB ∧ 1 ≤ O ∧ O ≤ WA ∧ O ≤ WB := by
  simp only [meetB, Bool.and_eq_true, decide_eq_true_eq] at h
  obtain ⟨⟨⟨h1, h2⟩, h3⟩, h4, h5⟩ := h
  unfold minI at h5
  split at h5 <;> exact ⟨h1, h2, h3, h4, by omega, by omega⟩
def lapL (WA HA : Int) (zA : List Nat) (WB : Int) (zB : List Nat) (O : Int) : List Nat := missL zA zB WA.toNat WB.toNat O.toNat HA.toNat
def resMiss (WA HA : Int) (zA : List Nat) (WB HB : Int) (zB : List Nat) (O : Int) : PRes := if meetB WA HA zA WB HB zB O = true then giveP O HA (lapL WA HA zA WB zB O) else PRes.no
def overR (WA HA : Int) (zA : List Nat) (WB HB : Int) (zB : List Nat) (O : Int) : Nat × Bool := if meetB WA HA zA WB HB zB O = true then numR (meanV (lapL WA HA zA WB zB O)) else (0, false)
theorem sum_notfin : ∀ (zs : List Nat) (s : Nat), (finB .f32 s = false ∨ zs.all (finB .f32) = false) → finB .f32 (sumF .add .f32 s zs) = false := by
  intro zs
  induction zs with
  | nil => intro s h; rcases h with h | h; exact h; simp at h
  | cons x xs ih =>
    intro s h
    show finB .f32 (sumF .add .f32 (fop .add .f32 s x) xs) = false
    apply ih
    rcases h with h | h
    · exact .inl (add_notfin_l x h)
    · rw [List.all_cons, Bool.and_eq_false_iff] at h
      rcases h with h | h
      · exact .inl (add_notfin_r s h)
      · exact .inr h
theorem mean_no : meanR 0 0 [] = (0, false) := by unfold meanR; rw [if_neg (by decide)]
theorem over_mean (WA HA : Int) (zA : List Nat) (WB HB : Int) (zB : List Nat) (O : Int) : meanR (resMiss WA HA zA WB HB zB O).W (resMiss WA HA zA WB HB zB O).H (resMiss WA HA zA WB HB zB O).zs = overR WA HA zA WB HB zB O := by
  unfold resMiss overR
  cases hm : meetB WA HA zA WB HB zB O
  · exact mean_no
  · rw [if_pos rfl, if_pos rfl]
    unfold giveP
    cases hv : validB O HA (lapL WA HA zA WB zB O)
    · rw [if_neg (by decide)]
      refine mean_no.trans ?_
      obtain ⟨h1, h2, h3, h4, h5, h6⟩ := meetB_true hm
      have hsb : sideB WA HA = true := by have h := h1; simp only [validB, Bool.and_eq_true] at h; exact h.1.1
      obtain ⟨⟨s1, s2⟩, s3, s4⟩ := sideB_true hsb
      have hs : sideB O HA = true := by simp [sideB]; omega
      have hl : ((lapL WA HA zA WB zB O).length : Int) = O * HA := by
        unfold lapL
        rw [missL_len, Int.natCast_mul, Int.toNat_of_nonneg (by omega), Int.toNat_of_nonneg (by omega)]
      have hn : (lapL WA HA zA WB zB O).all (finB .f32) = false := by
        unfold validB finL at hv
        rw [hs, decide_eq_true hl] at hv
        simpa using hv
      have h256 : (lapL WA HA zA WB zB O).length ≤ 256 := by have := (side_mul hs).2; omega
      have hq : finB .f32 (meanV (lapL WA HA zA WB zB O)) = false := quo_notfin_l (sum_notfin _ _ (.inr hn)) (ofInt_fin h256)
      unfold numR
      rw [hq]; rfl
    · rw [if_pos rfl]
      show meanR O HA (lapL WA HA zA WB zB O) = _
      unfold meanR
      rw [hv, if_pos rfl]
theorem both_no {WB HB : Int} {zB : List Nat} : bothB 0 0 [] WB HB zB = false := by unfold bothB; rw [show validB 0 0 [] = false from by decide]; rfl
theorem both_no' {WA HA : Int} {zA : List Nat} : bothB WA HA zA 0 0 [] = false := by unfold bothB; rw [show validB 0 0 [] = false from by decide, Bool.and_false]; rfl
theorem crop_no2 {WA HA : Int} {zA : List Nat} {x y wd hg : Int} (h : validB WA HA zA = false ∨ fitsB x wd WA = false ∨ fitsB y hg HA = false) : resCrop WA HA zA x y wd hg = PRes.no := by
  unfold resCrop
  rcases h with h | h | h <;> simp [h]
def resJoin (r1 r2 : PRes) : PRes := if bothB r1.W r1.H r1.zs r2.W r2.H r2.zs = true then giveP r1.W r1.H (List.zipWith missG r1.zs r2.zs) else PRes.no
theorem miss_join (WA HA : Int) (zA : List Nat) (WB HB : Int) (zB : List Nat) (O : Int) : resJoin (resCrop WA HA zA (IntKind.i64.wrap (WA - O)) 0 O HA) (resCrop WB HB zB 0 0 O HB) = resMiss WA HA zA WB HB zB O := by
  cases h1 : validB WA HA zA
  · rw [crop_no2 (.inl h1)]
    unfold resJoin resMiss meetB
    rw [h1]
    show (if bothB 0 0 [] _ _ _ = true then _ else _) = _
    rw [both_no]; rfl
  cases h2 : validB WB HB zB
  · rw [crop_no2 (WA := WB) (.inl h2)]
    unfold resJoin resMiss meetB
    rw [h1, h2]
    show (if bothB _ _ _ 0 0 [] = true then _ else _) = _
    rw [both_no']; rfl
  have hsA : sideB WA HA = true := by have h := h1; simp only [validB, Bool.and_eq_true] at h; exact h.1.1
  have hsB : sideB WB HB = true := by have h := h2; simp only [validB, Bool.and_eq_true] at h; exact h.1.1
  obtain ⟨⟨s1, s2⟩, s3, s4⟩ := sideB_true hsA
  obtain ⟨⟨t1, t2⟩, t3, t4⟩ := sideB_true hsB
  have hlA := (valid_len h1).1
  have hlB := (valid_len h2).1
  by_cases ho : 1 ≤ O ∧ O ≤ WA
  · have hw : IntKind.i64.wrap (WA - O) = WA - O := IntWalk.i64_in _ (by omega)
    rw [hw]
    by_cases ho2 : O ≤ WB
    · have f1 : fitsB (WA - O) O WA = true := by simp [fitsB]; omega
      have f2 : fitsB 0 HA HA = true := by simp [fitsB]; omega
      have f3 : fitsB 0 O WB = true := by simp [fitsB]; omega
      have f4 : fitsB 0 HB HB = true := by simp [fitsB]; omega
      have e1 : resCrop WA HA zA (WA - O) 0 O HA = ⟨O, HA, cropL zA WA.toNat (WA - O).toNat 0 O.toNat HA.toNat, true⟩ := by unfold resCrop; rw [h1, f1, f2]; rfl
      have e2 : resCrop WB HB zB 0 0 O HB = ⟨O, HB, cropL zB WB.toNat 0 0 O.toNat HB.toNat, true⟩ := by unfold resCrop; rw [h2, f3, f4]; rfl
      rw [e1, e2]
      obtain ⟨Wa, rfl⟩ : ∃ n : Nat, WA = n := ⟨WA.toNat, by omega⟩
      obtain ⟨Ha, rfl⟩ : ∃ n : Nat, HA = n := ⟨HA.toNat, by omega⟩
      obtain ⟨Wb, rfl⟩ : ∃ n : Nat, WB = n := ⟨WB.toNat, by omega⟩
      obtain ⟨Hb, rfl⟩ : ∃ n : Nat, HB = n := ⟨HB.toNat, by omega⟩
      obtain ⟨on, rfl⟩ : ∃ n : Nat, O = n := ⟨O.toNat, by omega⟩
      rw [show (((Wa : Int) - (on : Int)).toNat) = Wa - on by omega]
      simp only [Int.toNat_natCast]
      rw [← Int.natCast_mul] at hlA hlB
      have v1 := crop_valid (zA := zA) (Wn := Wa) (Hn := Ha) (xn := Wa - on) (yn := 0) (wn := on) (hn := Ha) (by omega) (by omega) (by omega) (by omega) (by omega) (by omega) (by omega) (valid_fin h1)
      have v2 := crop_valid (zA := zB) (Wn := Wb) (Hn := Hb) (xn := 0) (yn := 0) (wn := on) (hn := Hb) (by omega) (by omega) (by omega) (by omega) (by omega) (by omega) (by omega) (valid_fin h2)
      by_cases hh : Ha = Hb
      · subst hh
        have hb : bothB (on : Int) (Ha : Int) (cropL zA Wa (Wa - on) 0 on Ha) (on : Int) (Ha : Int) (cropL zB Wb 0 0 on Ha) = true := by unfold bothB; rw [v1, v2]; simp
        have hm : meetB (Wa : Int) (Ha : Int) zA (Wb : Int) (Ha : Int) zB (on : Int) = true := by
          unfold meetB minI
          rw [h1, h2]
          split <;> simp <;> omega
        unfold resJoin resMiss
        rw [hm, if_pos rfl]
        dsimp only
        rw [hb, if_pos rfl]
        congr 1
        unfold lapL
        simp only [Int.toNat_natCast]
        refine fat_ext (by rw [zip_len (by rw [cropL_len, cropL_len]), cropL_len, missL_len]) (fun k hk => ?_)
        rw [missL_len] at hk
        rw [zip_at (by rw [cropL_len, cropL_len]) (by rw [cropL_len]; exact hk), cropL_at hk, cropL_at hk, missL_at hk]
        rfl
      · have hb : bothB (on : Int) (Ha : Int) (cropL zA Wa (Wa - on) 0 on Ha) (on : Int) (Hb : Int) (cropL zB Wb 0 0 on Hb) = false := by
          unfold bothB
          rw [v1, v2]
          simp; omega
        have hm : meetB (Wa : Int) (Ha : Int) zA (Wb : Int) (Hb : Int) zB (on : Int) = false := by
          unfold meetB
          rw [h1, h2, decide_eq_false (show ¬ ((Ha : Int) = (Hb : Int)) by omega)]
          rfl
        unfold resJoin resMiss
        rw [hm]
        dsimp only
        rw [hb]; rfl
    · have f3 : fitsB 0 O WB = false := by simp [fitsB]; omega
      rw [crop_no2 (WA := WB) (.inr (.inl f3))]
      have hm : meetB WA HA zA WB HB zB O = false := by
        unfold meetB minI
        rw [h1, h2]
        split <;> simp <;> omega
      unfold resJoin resMiss
      rw [hm]
      show (if bothB _ _ _ 0 0 [] = true then _ else _) = _
      rw [both_no']; rfl
  · have f1 : fitsB (IntKind.i64.wrap (WA - O)) O WA = false := by simp [fitsB]; omega
    rw [crop_no2 (WA := WA) (.inr (.inl f1))]
    have hm : meetB WA HA zA WB HB zB O = false := by
      unfold meetB minI
      rw [h1, h2]
      split <;> simp <;> omega
    unfold resJoin resMiss
    rw [hm]
    show (if bothB 0 0 [] _ _ _ = true then _ else _) = _
    rw [both_no]; rfl
/-! ### l02Is0 -/
theorem c_l02Is0 (W H : Int) (b : Nat) (a : Option Addr) (len cap : Nat) (zs : List Nat) (w : World) (hv : Var w b #[.int .i64 W, .int .i64 H, .slice a len cap]) (hr : IsRowF .f32 w a len cap zs) :
    Calls Try.prog 61 #[.pointer (some ⟨b, 0, none⟩)] w (RetV (.bool (validB W H zs)) w) := by
  have h := c_l02Is W H b a len cap zs w 0 hv hr
  rwa [w.drewN_zero] at h
/-! ### l00MinMax -/
theorem c_l00Min (x y : Int) (w : World) (j : Nat) : Calls Try.prog 118 #[.int .i64 x, .int .i64 y] (w.drewN j) (RetV (.int .i64 (minI x y)) w) := by
  unfold minI
  by_cases h : x < y
  · rw [if_pos h]
    go_enter Try.func118, Try.ntmps118
    go_wp2
    go_ret
    exact ⟨_, rfl, rfl⟩
  · rw [if_neg h]
    go_enter Try.func118, Try.ntmps118
    go_wp2
    go_ret
    exact ⟨_, rfl, rfl⟩
theorem c_l00Max (x y : Int) (w : World) (j : Nat) : Calls Try.prog 126 #[.int .i64 x, .int .i64 y] (w.drewN j) (RetV (.int .i64 (maxI x y)) w) := by
  unfold maxI
  by_cases h : y < x
  · rw [if_pos h]
    go_enter Try.func126, Try.ntmps126
    go_wp2
    go_ret
    exact ⟨_, rfl, rfl⟩
  · rw [if_neg h]
    go_enter Try.func126, Try.ntmps126
    go_wp2
    go_ret
    exact ⟨_, rfl, rfl⟩
/-! ### l07Meets -/
theorem c_l07Meets (WA HA : Int) (zA : List Nat) (aA : Option Addr) (cA : Nat) (WB HB : Int) (zB : List Nat) (aB : Option Addr) (cB : Nat) (O : Int) (x y : Nat) (w : World) (vx : Var w x #[.int .i64 WA, .int .i64 HA, .slice aA zA.length cA]) (vy : Var w y #[.int .i64 WB, .int .i64 HB, .slice aB zB.length cB]) (rA : IsRowF .f32 w aA zA.length cA zA) (rB : IsRowF .f32 w aB zB.length cB zB) :
    Calls Try.prog 87 #[.pointer (some ⟨x, 0, none⟩), .pointer (some ⟨y, 0, none⟩), .int .i64 O] w (RetB (.bool (meetB WA HA zA WB HB zB O)) w) := by
  have KS := Lib.hid (fun (w' : World) (hE : Below w.heap.size w w') => (⟨(vx.keep hE).three.1, (vx.keep hE).three.2.1, (vx.keep hE).three.2.2, (vy.keep hE).three.1, (vy.keep hE).three.2.1, (vy.keep hE).three.2.2⟩ : _ ∧ _ ∧ _ ∧ _ ∧ _ ∧ _))
  have CA := Lib.hid (fun (w' : World) (hE : Below w.heap.size w w') => c_l02Is0 WA HA x aA _ cA zA w' (vx.keep hE) (rA.below hE))
  have CB := Lib.hid (fun (w' : World) (hE : Below w.heap.size w w') => c_l02Is0 WB HB y aB _ cB zB w' (vy.keep hE) (rB.below hE))
  have CN := Lib.hid (fun (w' : World) => (by have h := c_l00Min WA WB w' 0; rwa [w'.drewN_zero] at h : Calls Try.prog 118 #[.int .i64 WA, .int .i64 WB] w' (RetV (.int .i64 (minI WA WB)) w')))
  have CI := Lib.hid (fun (w' : World) => (by have h := c_l00In O 1 (minI WA WB) w' 0; rwa [w'.drewN_zero] at h : Calls Try.prog 84 #[.int .i64 O, .int .i64 1, .int .i64 (minI WA WB)] w' (RetV (.bool (decide (1 ≤ O) && decide (O ≤ minI WA WB))) w')))
  clear vx vy rA rB
  unfold meetB
  cases hA : validB WA HA zA
  · rw [hA] at CA
    clear hA
    go_enter Try.func87, Try.ntmps87
    go_upto_region 1 with fail
    refine wp_region_facts 31 (fun a b => Below a.heap.size a b) (fun _ => Below.refl _ _) (fun _ _ _ h h' => h.trans (h'.mono h.size)) (Below.refl _ _).drew (by kernel_rfl) (by kernel_rfl) (by kernel_rfl) (by kernel_rfl) ?_
    simp only [List.take_succ_cons, List.take_zero, List.drop_succ_cons, List.drop_zero]
    (with_reducible apply wpF_val); (focus (intro vs w' hE hk; (obtain ⟨d0, d1, d2, e0, e1, e2⟩ := KS.out w' hE); go_simp; exact ⟨Below.refl _ _, rfl⟩)); (simp only [Act.put, List.setIfInBounds_toArray, List.set_cons_zero, List.set_cons_succ, List.cons_append, List.nil_append])
    (with_reducible apply wpF_val); (focus (intro vs w' hE hk; (obtain ⟨d0, d1, d2, e0, e1, e2⟩ := KS.out w' hE); go_simp; refine ((CA.out w' hE).mono (fun _ _ h => RetV.toB h)).mono ?_; rintro _ w9 ⟨rfl, b⟩; exact ⟨_, rfl, b, rfl⟩)); (simp only [Act.put, List.setIfInBounds_toArray, List.set_cons_zero, List.set_cons_succ, List.cons_append, List.nil_append])
    (with_reducible apply wpF_val); (focus (intro vs w' hE hk; (obtain ⟨d0, d1, d2, e0, e1, e2⟩ := KS.out w' hE); go_simp; exact ⟨Below.refl _ _, rfl⟩)); (simp only [Act.put, List.setIfInBounds_toArray, List.set_cons_zero, List.set_cons_succ, List.cons_append, List.nil_append])
    (with_reducible apply wpF_val); (focus (intro vs w' hE hk; (obtain ⟨d0, d1, d2, e0, e1, e2⟩ := KS.out w' hE); go_simp; rfl)); (simp only [Act.put, List.setIfInBounds_toArray, List.set_cons_zero, List.set_cons_succ, List.cons_append, List.nil_append])
    (with_reducible apply wpF_val); (focus (intro vs w' hE hk; (obtain ⟨d0, d1, d2, e0, e1, e2⟩ := KS.out w' hE); go_simp; rfl)); (simp only [Act.put, List.setIfInBounds_toArray, List.set_cons_zero, List.set_cons_succ, List.cons_append, List.nil_append])
    (with_reducible apply wpF_val); (focus (intro vs w' hE hk; (obtain ⟨d0, d1, d2, e0, e1, e2⟩ := KS.out w' hE); go_simp; exact ⟨Below.refl _ _, rfl⟩)); (simp only [Act.put, List.setIfInBounds_toArray, List.set_cons_zero, List.set_cons_succ, List.cons_append, List.nil_append])
    (with_reducible apply wpF_val); (focus (intro vs w' hE hk; (obtain ⟨d0, d1, d2, e0, e1, e2⟩ := KS.out w' hE); go_simp; exact ⟨Below.refl _ _, rfl⟩)); (simp only [Act.put, List.setIfInBounds_toArray, List.set_cons_zero, List.set_cons_succ, List.cons_append, List.nil_append])
    (with_reducible apply wpF_val); (focus (intro vs w' hE hk; (obtain ⟨d0, d1, d2, e0, e1, e2⟩ := KS.out w' hE); go_simp; rfl)); (simp only [Act.put, List.setIfInBounds_toArray, List.set_cons_zero, List.set_cons_succ, List.cons_append, List.nil_append])
    (with_reducible apply wpF_val); (focus (intro vs w' hE hk; (obtain ⟨d0, d1, d2, e0, e1, e2⟩ := KS.out w' hE); go_simp; rfl)); (simp only [Act.put, List.setIfInBounds_toArray, List.set_cons_zero, List.set_cons_succ, List.cons_append, List.nil_append])
    (with_reducible apply wpF_val); (focus (intro vs w' hE hk; (obtain ⟨d0, d1, d2, e0, e1, e2⟩ := KS.out w' hE); go_simp; rfl)); (simp only [Act.put, List.setIfInBounds_toArray, List.set_cons_zero, List.set_cons_succ, List.cons_append, List.nil_append])
    (with_reducible apply wpF_val); (focus (intro vs w' hE hk; (obtain ⟨d0, d1, d2, e0, e1, e2⟩ := KS.out w' hE); go_simp; rfl)); (simp only [Act.put, List.setIfInBounds_toArray, List.set_cons_zero, List.set_cons_succ, List.cons_append, List.nil_append])
    (with_reducible apply wpF_val); (focus (intro vs w' hE hk; (obtain ⟨d0, d1, d2, e0, e1, e2⟩ := KS.out w' hE); go_simp; rfl)); (simp only [Act.put, List.setIfInBounds_toArray, List.set_cons_zero, List.set_cons_succ, List.cons_append, List.nil_append])
    (with_reducible apply wpF_val); (focus (intro vs w' hE hk; (obtain ⟨d0, d1, d2, e0, e1, e2⟩ := KS.out w' hE); go_simp; rfl)); (simp only [Act.put, List.setIfInBounds_toArray, List.set_cons_zero, List.set_cons_succ, List.cons_append, List.nil_append])
    (with_reducible apply wpF_val); (focus (intro vs w' hE hk; (obtain ⟨d0, d1, d2, e0, e1, e2⟩ := KS.out w' hE); go_simp; rfl)); (simp only [Act.put, List.setIfInBounds_toArray, List.set_cons_zero, List.set_cons_succ, List.cons_append, List.nil_append])
    (with_reducible apply wpF_val); (focus (intro vs w' hE hk; (obtain ⟨d0, d1, d2, e0, e1, e2⟩ := KS.out w' hE); go_simp; rfl)); (simp only [Act.put, List.setIfInBounds_toArray, List.set_cons_zero, List.set_cons_succ, List.cons_append, List.nil_append])
    (with_reducible apply wpF_val); (focus (intro vs w' hE hk; (obtain ⟨d0, d1, d2, e0, e1, e2⟩ := KS.out w' hE); go_simp; rfl)); (simp only [Act.put, List.setIfInBounds_toArray, List.set_cons_zero, List.set_cons_succ, List.cons_append, List.nil_append])
    (with_reducible apply wpF_val); (focus (intro vs w' hE hk; (obtain ⟨d0, d1, d2, e0, e1, e2⟩ := KS.out w' hE); go_simp; exact ⟨Below.refl _ _, rfl⟩)); (simp only [Act.put, List.setIfInBounds_toArray, List.set_cons_zero, List.set_cons_succ, List.cons_append, List.nil_append])
    (with_reducible apply wpF_val); (focus (intro vs w' hE hk; (obtain ⟨d0, d1, d2, e0, e1, e2⟩ := KS.out w' hE); go_simp; exact ⟨Below.refl _ _, rfl⟩)); (simp only [Act.put, List.setIfInBounds_toArray, List.set_cons_zero, List.set_cons_succ, List.cons_append, List.nil_append])
    (with_reducible apply wpF_val); (focus (intro vs w' hE hk; (obtain ⟨d0, d1, d2, e0, e1, e2⟩ := KS.out w' hE); go_simp; rfl)); (simp only [Act.put, List.setIfInBounds_toArray, List.set_cons_zero, List.set_cons_succ, List.cons_append, List.nil_append])
    (with_reducible apply wpF_val); (focus (intro vs w' hE hk; (obtain ⟨d0, d1, d2, e0, e1, e2⟩ := KS.out w' hE); go_simp; rfl)); (simp only [Act.put, List.setIfInBounds_toArray, List.set_cons_zero, List.set_cons_succ, List.cons_append, List.nil_append])
    (with_reducible apply wpF_val); (focus (intro vs w' hE hk; (obtain ⟨d0, d1, d2, e0, e1, e2⟩ := KS.out w' hE); go_simp; rfl)); (simp only [Act.put, List.setIfInBounds_toArray, List.set_cons_zero, List.set_cons_succ, List.cons_append, List.nil_append])
    (with_reducible apply wpF_val); (focus (intro vs w' hE hk; (obtain ⟨d0, d1, d2, e0, e1, e2⟩ := KS.out w' hE); go_simp; rfl)); (simp only [Act.put, List.setIfInBounds_toArray, List.set_cons_zero, List.set_cons_succ, List.cons_append, List.nil_append])
    (with_reducible apply wpF_val); (focus (intro vs w' hE hk; (obtain ⟨d0, d1, d2, e0, e1, e2⟩ := KS.out w' hE); go_simp; rfl)); (simp only [Act.put, List.setIfInBounds_toArray, List.set_cons_zero, List.set_cons_succ, List.cons_append, List.nil_append])
    (with_reducible apply wpF_val); (focus (intro vs w' hE hk; (obtain ⟨d0, d1, d2, e0, e1, e2⟩ := KS.out w' hE); go_simp; rfl)); (simp only [Act.put, List.setIfInBounds_toArray, List.set_cons_zero, List.set_cons_succ, List.cons_append, List.nil_append])
    (with_reducible apply wpF_val); (focus (intro vs w' hE hk; (obtain ⟨d0, d1, d2, e0, e1, e2⟩ := KS.out w' hE); go_simp; rfl)); (simp only [Act.put, List.setIfInBounds_toArray, List.set_cons_zero, List.set_cons_succ, List.cons_append, List.nil_append])
    (with_reducible apply wpF_val); (focus (intro vs w' hE hk; (obtain ⟨d0, d1, d2, e0, e1, e2⟩ := KS.out w' hE); go_simp; rfl)); (simp only [Act.put, List.setIfInBounds_toArray, List.set_cons_zero, List.set_cons_succ, List.cons_append, List.nil_append])
    (with_reducible apply wpF_val); (focus (intro vs w' hE hk; (obtain ⟨d0, d1, d2, e0, e1, e2⟩ := KS.out w' hE); go_simp; rfl)); (simp only [Act.put, List.setIfInBounds_toArray, List.set_cons_zero, List.set_cons_succ, List.cons_append, List.nil_append])
    (with_reducible apply wpF_val); (focus (intro vs w' hE hk; (obtain ⟨d0, d1, d2, e0, e1, e2⟩ := KS.out w' hE); go_simp; rfl)); (simp only [Act.put, List.setIfInBounds_toArray, List.set_cons_zero, List.set_cons_succ, List.cons_append, List.nil_append])
    (with_reducible apply wpF_val); (focus (intro vs w' hE hk; (obtain ⟨d0, d1, d2, e0, e1, e2⟩ := KS.out w' hE); go_simp; rfl)); (simp only [Act.put, List.setIfInBounds_toArray, List.set_cons_zero, List.set_cons_succ, List.cons_append, List.nil_append])
    (with_reducible apply wpF_val); (focus (intro vs w' hE hk; (obtain ⟨d0, d1, d2, e0, e1, e2⟩ := KS.out w' hE); go_simp; exact ⟨Below.refl _ _, rfl⟩)); (simp only [Act.put, List.setIfInBounds_toArray, List.set_cons_zero, List.set_cons_succ, List.cons_append, List.nil_append])
    (with_reducible apply wpF_val); (focus (intro vs w' hE hk; (obtain ⟨d0, d1, d2, e0, e1, e2⟩ := KS.out w' hE); go_simp; exact ⟨Below.refl _ _, rfl⟩)); (simp only [Act.put, List.setIfInBounds_toArray, List.set_cons_zero, List.set_cons_succ, List.cons_append, List.nil_append])
    refine wpF_nil (fun vs w' hE hk => ?_)
    have BX := Lib.hid hE
    clear hE hk
    go_wp2_with fail
    go_ret
    exact ⟨by simp, BX.out⟩
  cases hB : validB WB HB zB
  · rw [hA] at CA
    rw [hB] at CB
    clear hA hB
    go_enter Try.func87, Try.ntmps87
    go_upto_region 1 with fail
    refine wp_region_facts 31 (fun a b => Below a.heap.size a b) (fun _ => Below.refl _ _) (fun _ _ _ h h' => h.trans (h'.mono h.size)) (Below.refl _ _).drew (by kernel_rfl) (by kernel_rfl) (by kernel_rfl) (by kernel_rfl) ?_
    simp only [List.take_succ_cons, List.take_zero, List.drop_succ_cons, List.drop_zero]
    (with_reducible apply wpF_val); (focus (intro vs w' hE hk; (obtain ⟨d0, d1, d2, e0, e1, e2⟩ := KS.out w' hE); go_simp; exact ⟨Below.refl _ _, rfl⟩)); (simp only [Act.put, List.setIfInBounds_toArray, List.set_cons_zero, List.set_cons_succ, List.cons_append, List.nil_append])
    (with_reducible apply wpF_val); (focus (intro vs w' hE hk; (obtain ⟨d0, d1, d2, e0, e1, e2⟩ := KS.out w' hE); go_simp; refine ((CA.out w' hE).mono (fun _ _ h => RetV.toB h)).mono ?_; rintro _ w9 ⟨rfl, b⟩; exact ⟨_, rfl, b, rfl⟩)); (simp only [Act.put, List.setIfInBounds_toArray, List.set_cons_zero, List.set_cons_succ, List.cons_append, List.nil_append])
    (with_reducible apply wpF_val); (focus (intro vs w' hE hk; (obtain ⟨d0, d1, d2, e0, e1, e2⟩ := KS.out w' hE); go_simp; exact ⟨Below.refl _ _, rfl⟩)); (simp only [Act.put, List.setIfInBounds_toArray, List.set_cons_zero, List.set_cons_succ, List.cons_append, List.nil_append])
    (with_reducible apply wpF_val); (focus (intro vs w' hE hk; (obtain ⟨d0, d1, d2, e0, e1, e2⟩ := KS.out w' hE); go_simp; exact ⟨Below.refl _ _, rfl⟩)); (simp only [Act.put, List.setIfInBounds_toArray, List.set_cons_zero, List.set_cons_succ, List.cons_append, List.nil_append])
    (with_reducible apply wpF_val); (focus (intro vs w' hE hk; (obtain ⟨d0, d1, d2, e0, e1, e2⟩ := KS.out w' hE); go_simp; refine ((CB.out w' hE).mono (fun _ _ h => RetV.toB h)).mono ?_; rintro _ w9 ⟨rfl, b⟩; exact ⟨_, rfl, b, rfl⟩)); (simp only [Act.put, List.setIfInBounds_toArray, List.set_cons_zero, List.set_cons_succ, List.cons_append, List.nil_append])
    (with_reducible apply wpF_val); (focus (intro vs w' hE hk; (obtain ⟨d0, d1, d2, e0, e1, e2⟩ := KS.out w' hE); go_simp; exact ⟨Below.refl _ _, rfl⟩)); (simp only [Act.put, List.setIfInBounds_toArray, List.set_cons_zero, List.set_cons_succ, List.cons_append, List.nil_append])
    (with_reducible apply wpF_val); (focus (intro vs w' hE hk; (obtain ⟨d0, d1, d2, e0, e1, e2⟩ := KS.out w' hE); go_simp; exact ⟨Below.refl _ _, rfl⟩)); (simp only [Act.put, List.setIfInBounds_toArray, List.set_cons_zero, List.set_cons_succ, List.cons_append, List.nil_append])
    (with_reducible apply wpF_val); (focus (intro vs w' hE hk; (obtain ⟨d0, d1, d2, e0, e1, e2⟩ := KS.out w' hE); go_simp; rfl)); (simp only [Act.put, List.setIfInBounds_toArray, List.set_cons_zero, List.set_cons_succ, List.cons_append, List.nil_append])
    (with_reducible apply wpF_val); (focus (intro vs w' hE hk; (obtain ⟨d0, d1, d2, e0, e1, e2⟩ := KS.out w' hE); go_simp; rfl)); (simp only [Act.put, List.setIfInBounds_toArray, List.set_cons_zero, List.set_cons_succ, List.cons_append, List.nil_append])
    (with_reducible apply wpF_val); (focus (intro vs w' hE hk; (obtain ⟨d0, d1, d2, e0, e1, e2⟩ := KS.out w' hE); go_simp; rfl)); (simp only [Act.put, List.setIfInBounds_toArray, List.set_cons_zero, List.set_cons_succ, List.cons_append, List.nil_append])
    (with_reducible apply wpF_val); (focus (intro vs w' hE hk; (obtain ⟨d0, d1, d2, e0, e1, e2⟩ := KS.out w' hE); go_simp; rfl)); (simp only [Act.put, List.setIfInBounds_toArray, List.set_cons_zero, List.set_cons_succ, List.cons_append, List.nil_append])
    (with_reducible apply wpF_val); (focus (intro vs w' hE hk; (obtain ⟨d0, d1, d2, e0, e1, e2⟩ := KS.out w' hE); go_simp; rfl)); (simp only [Act.put, List.setIfInBounds_toArray, List.set_cons_zero, List.set_cons_succ, List.cons_append, List.nil_append])
    (with_reducible apply wpF_val); (focus (intro vs w' hE hk; (obtain ⟨d0, d1, d2, e0, e1, e2⟩ := KS.out w' hE); go_simp; rfl)); (simp only [Act.put, List.setIfInBounds_toArray, List.set_cons_zero, List.set_cons_succ, List.cons_append, List.nil_append])
    (with_reducible apply wpF_val); (focus (intro vs w' hE hk; (obtain ⟨d0, d1, d2, e0, e1, e2⟩ := KS.out w' hE); go_simp; rfl)); (simp only [Act.put, List.setIfInBounds_toArray, List.set_cons_zero, List.set_cons_succ, List.cons_append, List.nil_append])
    (with_reducible apply wpF_val); (focus (intro vs w' hE hk; (obtain ⟨d0, d1, d2, e0, e1, e2⟩ := KS.out w' hE); go_simp; rfl)); (simp only [Act.put, List.setIfInBounds_toArray, List.set_cons_zero, List.set_cons_succ, List.cons_append, List.nil_append])
    (with_reducible apply wpF_val); (focus (intro vs w' hE hk; (obtain ⟨d0, d1, d2, e0, e1, e2⟩ := KS.out w' hE); go_simp; rfl)); (simp only [Act.put, List.setIfInBounds_toArray, List.set_cons_zero, List.set_cons_succ, List.cons_append, List.nil_append])
    (with_reducible apply wpF_val); (focus (intro vs w' hE hk; (obtain ⟨d0, d1, d2, e0, e1, e2⟩ := KS.out w' hE); go_simp; exact ⟨Below.refl _ _, rfl⟩)); (simp only [Act.put, List.setIfInBounds_toArray, List.set_cons_zero, List.set_cons_succ, List.cons_append, List.nil_append])
    (with_reducible apply wpF_val); (focus (intro vs w' hE hk; (obtain ⟨d0, d1, d2, e0, e1, e2⟩ := KS.out w' hE); go_simp; exact ⟨Below.refl _ _, rfl⟩)); (simp only [Act.put, List.setIfInBounds_toArray, List.set_cons_zero, List.set_cons_succ, List.cons_append, List.nil_append])
    (with_reducible apply wpF_val); (focus (intro vs w' hE hk; (obtain ⟨d0, d1, d2, e0, e1, e2⟩ := KS.out w' hE); go_simp; rfl)); (simp only [Act.put, List.setIfInBounds_toArray, List.set_cons_zero, List.set_cons_succ, List.cons_append, List.nil_append])
    (with_reducible apply wpF_val); (focus (intro vs w' hE hk; (obtain ⟨d0, d1, d2, e0, e1, e2⟩ := KS.out w' hE); go_simp; rfl)); (simp only [Act.put, List.setIfInBounds_toArray, List.set_cons_zero, List.set_cons_succ, List.cons_append, List.nil_append])
    (with_reducible apply wpF_val); (focus (intro vs w' hE hk; (obtain ⟨d0, d1, d2, e0, e1, e2⟩ := KS.out w' hE); go_simp; rfl)); (simp only [Act.put, List.setIfInBounds_toArray, List.set_cons_zero, List.set_cons_succ, List.cons_append, List.nil_append])
    (with_reducible apply wpF_val); (focus (intro vs w' hE hk; (obtain ⟨d0, d1, d2, e0, e1, e2⟩ := KS.out w' hE); go_simp; rfl)); (simp only [Act.put, List.setIfInBounds_toArray, List.set_cons_zero, List.set_cons_succ, List.cons_append, List.nil_append])
    (with_reducible apply wpF_val); (focus (intro vs w' hE hk; (obtain ⟨d0, d1, d2, e0, e1, e2⟩ := KS.out w' hE); go_simp; rfl)); (simp only [Act.put, List.setIfInBounds_toArray, List.set_cons_zero, List.set_cons_succ, List.cons_append, List.nil_append])
    (with_reducible apply wpF_val); (focus (intro vs w' hE hk; (obtain ⟨d0, d1, d2, e0, e1, e2⟩ := KS.out w' hE); go_simp; rfl)); (simp only [Act.put, List.setIfInBounds_toArray, List.set_cons_zero, List.set_cons_succ, List.cons_append, List.nil_append])
    (with_reducible apply wpF_val); (focus (intro vs w' hE hk; (obtain ⟨d0, d1, d2, e0, e1, e2⟩ := KS.out w' hE); go_simp; rfl)); (simp only [Act.put, List.setIfInBounds_toArray, List.set_cons_zero, List.set_cons_succ, List.cons_append, List.nil_append])
    (with_reducible apply wpF_val); (focus (intro vs w' hE hk; (obtain ⟨d0, d1, d2, e0, e1, e2⟩ := KS.out w' hE); go_simp; rfl)); (simp only [Act.put, List.setIfInBounds_toArray, List.set_cons_zero, List.set_cons_succ, List.cons_append, List.nil_append])
    (with_reducible apply wpF_val); (focus (intro vs w' hE hk; (obtain ⟨d0, d1, d2, e0, e1, e2⟩ := KS.out w' hE); go_simp; rfl)); (simp only [Act.put, List.setIfInBounds_toArray, List.set_cons_zero, List.set_cons_succ, List.cons_append, List.nil_append])
    (with_reducible apply wpF_val); (focus (intro vs w' hE hk; (obtain ⟨d0, d1, d2, e0, e1, e2⟩ := KS.out w' hE); go_simp; rfl)); (simp only [Act.put, List.setIfInBounds_toArray, List.set_cons_zero, List.set_cons_succ, List.cons_append, List.nil_append])
    (with_reducible apply wpF_val); (focus (intro vs w' hE hk; (obtain ⟨d0, d1, d2, e0, e1, e2⟩ := KS.out w' hE); go_simp; rfl)); (simp only [Act.put, List.setIfInBounds_toArray, List.set_cons_zero, List.set_cons_succ, List.cons_append, List.nil_append])
    (with_reducible apply wpF_val); (focus (intro vs w' hE hk; (obtain ⟨d0, d1, d2, e0, e1, e2⟩ := KS.out w' hE); go_simp; exact ⟨Below.refl _ _, rfl⟩)); (simp only [Act.put, List.setIfInBounds_toArray, List.set_cons_zero, List.set_cons_succ, List.cons_append, List.nil_append])
    (with_reducible apply wpF_val); (focus (intro vs w' hE hk; (obtain ⟨d0, d1, d2, e0, e1, e2⟩ := KS.out w' hE); go_simp; exact ⟨Below.refl _ _, rfl⟩)); (simp only [Act.put, List.setIfInBounds_toArray, List.set_cons_zero, List.set_cons_succ, List.cons_append, List.nil_append])
    refine wpF_nil (fun vs w' hE hk => ?_)
    have BX := Lib.hid hE
    clear hE hk
    go_wp2_with fail
    go_ret
    exact ⟨by simp, BX.out⟩
  rw [hA] at CA
  rw [hB] at CB
  clear hA hB
  by_cases hH : HA = HB
  · subst hH
    go_enter Try.func87, Try.ntmps87
    go_upto_region 1 with fail
    refine wp_region_facts 31 (fun a b => Below a.heap.size a b) (fun _ => Below.refl _ _) (fun _ _ _ h h' => h.trans (h'.mono h.size)) (Below.refl _ _).drew (by kernel_rfl) (by kernel_rfl) (by kernel_rfl) (by kernel_rfl) ?_
    simp only [List.take_succ_cons, List.take_zero, List.drop_succ_cons, List.drop_zero]
    (with_reducible apply wpF_val); (focus (intro vs w' hE hk; (obtain ⟨d0, d1, d2, e0, e1, e2⟩ := KS.out w' hE); go_simp; exact ⟨Below.refl _ _, rfl⟩)); (simp only [Act.put, List.setIfInBounds_toArray, List.set_cons_zero, List.set_cons_succ, List.cons_append, List.nil_append])
    (with_reducible apply wpF_val); (focus (intro vs w' hE hk; (obtain ⟨d0, d1, d2, e0, e1, e2⟩ := KS.out w' hE); go_simp; refine ((CA.out w' hE).mono (fun _ _ h => RetV.toB h)).mono ?_; rintro _ w9 ⟨rfl, b⟩; exact ⟨_, rfl, b, rfl⟩)); (simp only [Act.put, List.setIfInBounds_toArray, List.set_cons_zero, List.set_cons_succ, List.cons_append, List.nil_append])
    (with_reducible apply wpF_val); (focus (intro vs w' hE hk; (obtain ⟨d0, d1, d2, e0, e1, e2⟩ := KS.out w' hE); go_simp; exact ⟨Below.refl _ _, rfl⟩)); (simp only [Act.put, List.setIfInBounds_toArray, List.set_cons_zero, List.set_cons_succ, List.cons_append, List.nil_append])
    (with_reducible apply wpF_val); (focus (intro vs w' hE hk; (obtain ⟨d0, d1, d2, e0, e1, e2⟩ := KS.out w' hE); go_simp; exact ⟨Below.refl _ _, rfl⟩)); (simp only [Act.put, List.setIfInBounds_toArray, List.set_cons_zero, List.set_cons_succ, List.cons_append, List.nil_append])
    (with_reducible apply wpF_val); (focus (intro vs w' hE hk; (obtain ⟨d0, d1, d2, e0, e1, e2⟩ := KS.out w' hE); go_simp; refine ((CB.out w' hE).mono (fun _ _ h => RetV.toB h)).mono ?_; rintro _ w9 ⟨rfl, b⟩; exact ⟨_, rfl, b, rfl⟩)); (simp only [Act.put, List.setIfInBounds_toArray, List.set_cons_zero, List.set_cons_succ, List.cons_append, List.nil_append])
    (with_reducible apply wpF_val); (focus (intro vs w' hE hk; (obtain ⟨d0, d1, d2, e0, e1, e2⟩ := KS.out w' hE); go_simp; exact ⟨Below.refl _ _, rfl⟩)); (simp only [Act.put, List.setIfInBounds_toArray, List.set_cons_zero, List.set_cons_succ, List.cons_append, List.nil_append])
    (with_reducible apply wpF_val); (focus (intro vs w' hE hk; (obtain ⟨d0, d1, d2, e0, e1, e2⟩ := KS.out w' hE); go_simp; exact ⟨Below.refl _ _, rfl⟩)); (simp only [Act.put, List.setIfInBounds_toArray, List.set_cons_zero, List.set_cons_succ, List.cons_append, List.nil_append])
    (with_reducible apply wpF_val); (focus (intro vs w' hE hk; (obtain ⟨d0, d1, d2, e0, e1, e2⟩ := KS.out w' hE); go_simp; exact ⟨Below.refl _ _, rfl⟩)); (simp only [Act.put, List.setIfInBounds_toArray, List.set_cons_zero, List.set_cons_succ, List.cons_append, List.nil_append])
    (with_reducible apply wpF_val); (focus (intro vs w' hE hk; (obtain ⟨d0, d1, d2, e0, e1, e2⟩ := KS.out w' hE); go_simp; exact ⟨Below.refl _ _, rfl⟩)); (simp only [Act.put, List.setIfInBounds_toArray, List.set_cons_zero, List.set_cons_succ, List.cons_append, List.nil_append])
    (with_reducible apply wpF_val); (focus (intro vs w' hE hk; (obtain ⟨d0, d1, d2, e0, e1, e2⟩ := KS.out w' hE); go_simp; exact ⟨Below.refl _ _, rfl⟩)); (simp only [Act.put, List.setIfInBounds_toArray, List.set_cons_zero, List.set_cons_succ, List.cons_append, List.nil_append])
    (with_reducible apply wpF_val); (focus (intro vs w' hE hk; (obtain ⟨d0, d1, d2, e0, e1, e2⟩ := KS.out w' hE); go_simp; exact ⟨Below.refl _ _, rfl⟩)); (simp only [Act.put, List.setIfInBounds_toArray, List.set_cons_zero, List.set_cons_succ, List.cons_append, List.nil_append])
    (with_reducible apply wpF_val); (focus (intro vs w' hE hk; (obtain ⟨d0, d1, d2, e0, e1, e2⟩ := KS.out w' hE); go_simp; exact ⟨Below.refl _ _, rfl⟩)); (simp only [Act.put, List.setIfInBounds_toArray, List.set_cons_zero, List.set_cons_succ, List.cons_append, List.nil_append])
    (with_reducible apply wpF_val); (focus (intro vs w' hE hk; (obtain ⟨d0, d1, d2, e0, e1, e2⟩ := KS.out w' hE); go_simp; exact ⟨Below.refl _ _, rfl⟩)); (simp only [Act.put, List.setIfInBounds_toArray, List.set_cons_zero, List.set_cons_succ, List.cons_append, List.nil_append])
    (with_reducible apply wpF_val); (focus (intro vs w' hE hk; (obtain ⟨d0, d1, d2, e0, e1, e2⟩ := KS.out w' hE); go_simp; exact ⟨Below.refl _ _, rfl⟩)); (simp only [Act.put, List.setIfInBounds_toArray, List.set_cons_zero, List.set_cons_succ, List.cons_append, List.nil_append])
    (with_reducible apply wpF_val); (focus (intro vs w' hE hk; (obtain ⟨d0, d1, d2, e0, e1, e2⟩ := KS.out w' hE); go_simp; exact ⟨Below.refl _ _, rfl⟩)); (simp only [Act.put, List.setIfInBounds_toArray, List.set_cons_zero, List.set_cons_succ, List.cons_append, List.nil_append])
    (with_reducible apply wpF_val); (focus (intro vs w' hE hk; (obtain ⟨d0, d1, d2, e0, e1, e2⟩ := KS.out w' hE); go_simp; exact ⟨Below.refl _ _, rfl⟩)); (simp only [Act.put, List.setIfInBounds_toArray, List.set_cons_zero, List.set_cons_succ, List.cons_append, List.nil_append])
    (with_reducible apply wpF_val); (focus (intro vs w' hE hk; (obtain ⟨d0, d1, d2, e0, e1, e2⟩ := KS.out w' hE); go_simp; exact ⟨Below.refl _ _, rfl⟩)); (simp only [Act.put, List.setIfInBounds_toArray, List.set_cons_zero, List.set_cons_succ, List.cons_append, List.nil_append])
    (with_reducible apply wpF_val); (focus (intro vs w' hE hk; (obtain ⟨d0, d1, d2, e0, e1, e2⟩ := KS.out w' hE); go_simp; exact ⟨Below.refl _ _, rfl⟩)); (simp only [Act.put, List.setIfInBounds_toArray, List.set_cons_zero, List.set_cons_succ, List.cons_append, List.nil_append])
    (with_reducible apply wpF_val); (focus (intro vs w' hE hk; (obtain ⟨d0, d1, d2, e0, e1, e2⟩ := KS.out w' hE); go_simp; exact ⟨Below.refl _ _, rfl⟩)); (simp only [Act.put, List.setIfInBounds_toArray, List.set_cons_zero, List.set_cons_succ, List.cons_append, List.nil_append])
    (with_reducible apply wpF_val); (focus (intro vs w' hE hk; (obtain ⟨d0, d1, d2, e0, e1, e2⟩ := KS.out w' hE); go_simp; exact ⟨Below.refl _ _, rfl⟩)); (simp only [Act.put, List.setIfInBounds_toArray, List.set_cons_zero, List.set_cons_succ, List.cons_append, List.nil_append])
    (with_reducible apply wpF_val); (focus (intro vs w' hE hk; (obtain ⟨d0, d1, d2, e0, e1, e2⟩ := KS.out w' hE); go_simp; exact ⟨Below.refl _ _, rfl⟩)); (simp only [Act.put, List.setIfInBounds_toArray, List.set_cons_zero, List.set_cons_succ, List.cons_append, List.nil_append])
    (with_reducible apply wpF_val); (focus (intro vs w' hE hk; (obtain ⟨d0, d1, d2, e0, e1, e2⟩ := KS.out w' hE); go_simp; exact ⟨Below.refl _ _, rfl⟩)); (simp only [Act.put, List.setIfInBounds_toArray, List.set_cons_zero, List.set_cons_succ, List.cons_append, List.nil_append])
    (with_reducible apply wpF_val); (focus (intro vs w' hE hk; (obtain ⟨d0, d1, d2, e0, e1, e2⟩ := KS.out w' hE); go_simp; exact ⟨Below.refl _ _, rfl⟩)); (simp only [Act.put, List.setIfInBounds_toArray, List.set_cons_zero, List.set_cons_succ, List.cons_append, List.nil_append])
    (with_reducible apply wpF_val); (focus (intro vs w' hE hk; (obtain ⟨d0, d1, d2, e0, e1, e2⟩ := KS.out w' hE); go_simp; exact ⟨Below.refl _ _, rfl⟩)); (simp only [Act.put, List.setIfInBounds_toArray, List.set_cons_zero, List.set_cons_succ, List.cons_append, List.nil_append])
    (with_reducible apply wpF_val); (focus (intro vs w' hE hk; (obtain ⟨d0, d1, d2, e0, e1, e2⟩ := KS.out w' hE); go_simp; exact ⟨Below.refl _ _, rfl⟩)); (simp only [Act.put, List.setIfInBounds_toArray, List.set_cons_zero, List.set_cons_succ, List.cons_append, List.nil_append])
    (with_reducible apply wpF_val); (focus (intro vs w' hE hk; (obtain ⟨d0, d1, d2, e0, e1, e2⟩ := KS.out w' hE); go_simp; exact ⟨Below.refl _ _, rfl⟩)); (simp only [Act.put, List.setIfInBounds_toArray, List.set_cons_zero, List.set_cons_succ, List.cons_append, List.nil_append])
    (with_reducible apply wpF_val); (focus (intro vs w' hE hk; (obtain ⟨d0, d1, d2, e0, e1, e2⟩ := KS.out w' hE); go_simp; exact ⟨Below.refl _ _, rfl⟩)); (simp only [Act.put, List.setIfInBounds_toArray, List.set_cons_zero, List.set_cons_succ, List.cons_append, List.nil_append])
    (with_reducible apply wpF_val); (focus (intro vs w' hE hk; (obtain ⟨d0, d1, d2, e0, e1, e2⟩ := KS.out w' hE); go_simp; refine ((CN.out _).mono (fun _ _ h => RetV.toB h)).mono ?_; rintro _ w9 ⟨rfl, b⟩; exact ⟨_, rfl, b, rfl⟩)); (simp only [Act.put, List.setIfInBounds_toArray, List.set_cons_zero, List.set_cons_succ, List.cons_append, List.nil_append])
    (with_reducible apply wpF_val); (focus (intro vs w' hE hk; (obtain ⟨d0, d1, d2, e0, e1, e2⟩ := KS.out w' hE); go_simp; refine ((CI.out _).mono (fun _ _ h => RetV.toB h)).mono ?_; rintro _ w9 ⟨rfl, b⟩; exact ⟨_, rfl, b, rfl⟩)); (simp only [Act.put, List.setIfInBounds_toArray, List.set_cons_zero, List.set_cons_succ, List.cons_append, List.nil_append])
    (with_reducible apply wpF_val); (focus (intro vs w' hE hk; (obtain ⟨d0, d1, d2, e0, e1, e2⟩ := KS.out w' hE); go_simp; exact ⟨Below.refl _ _, rfl⟩)); (simp only [Act.put, List.setIfInBounds_toArray, List.set_cons_zero, List.set_cons_succ, List.cons_append, List.nil_append])
    (with_reducible apply wpF_val); (focus (intro vs w' hE hk; (obtain ⟨d0, d1, d2, e0, e1, e2⟩ := KS.out w' hE); go_simp; exact ⟨Below.refl _ _, rfl⟩)); (simp only [Act.put, List.setIfInBounds_toArray, List.set_cons_zero, List.set_cons_succ, List.cons_append, List.nil_append])
    refine wpF_nil (fun vs w' hE hk => ?_)
    have BX := Lib.hid hE
    clear hE hk
    go_wp2_with fail
    go_ret
    exact ⟨by simp, BX.out⟩
  · have hH2 : decide (HA = HB) = false := decide_eq_false hH
    rw [hH2]
    go_enter Try.func87, Try.ntmps87
    go_upto_region 1 with fail
    refine wp_region_facts 31 (fun a b => Below a.heap.size a b) (fun _ => Below.refl _ _) (fun _ _ _ h h' => h.trans (h'.mono h.size)) (Below.refl _ _).drew (by kernel_rfl) (by kernel_rfl) (by kernel_rfl) (by kernel_rfl) ?_
    simp only [List.take_succ_cons, List.take_zero, List.drop_succ_cons, List.drop_zero]
    (with_reducible apply wpF_val); (focus (intro vs w' hE hk; (obtain ⟨d0, d1, d2, e0, e1, e2⟩ := KS.out w' hE); go_simp; exact ⟨Below.refl _ _, rfl⟩)); (simp only [Act.put, List.setIfInBounds_toArray, List.set_cons_zero, List.set_cons_succ, List.cons_append, List.nil_append])
    (with_reducible apply wpF_val); (focus (intro vs w' hE hk; (obtain ⟨d0, d1, d2, e0, e1, e2⟩ := KS.out w' hE); go_simp; refine ((CA.out w' hE).mono (fun _ _ h => RetV.toB h)).mono ?_; rintro _ w9 ⟨rfl, b⟩; exact ⟨_, rfl, b, rfl⟩)); (simp only [Act.put, List.setIfInBounds_toArray, List.set_cons_zero, List.set_cons_succ, List.cons_append, List.nil_append])
    (with_reducible apply wpF_val); (focus (intro vs w' hE hk; (obtain ⟨d0, d1, d2, e0, e1, e2⟩ := KS.out w' hE); go_simp; exact ⟨Below.refl _ _, rfl⟩)); (simp only [Act.put, List.setIfInBounds_toArray, List.set_cons_zero, List.set_cons_succ, List.cons_append, List.nil_append])
    (with_reducible apply wpF_val); (focus (intro vs w' hE hk; (obtain ⟨d0, d1, d2, e0, e1, e2⟩ := KS.out w' hE); go_simp; exact ⟨Below.refl _ _, rfl⟩)); (simp only [Act.put, List.setIfInBounds_toArray, List.set_cons_zero, List.set_cons_succ, List.cons_append, List.nil_append])
    (with_reducible apply wpF_val); (focus (intro vs w' hE hk; (obtain ⟨d0, d1, d2, e0, e1, e2⟩ := KS.out w' hE); go_simp; refine ((CB.out w' hE).mono (fun _ _ h => RetV.toB h)).mono ?_; rintro _ w9 ⟨rfl, b⟩; exact ⟨_, rfl, b, rfl⟩)); (simp only [Act.put, List.setIfInBounds_toArray, List.set_cons_zero, List.set_cons_succ, List.cons_append, List.nil_append])
    (with_reducible apply wpF_val); (focus (intro vs w' hE hk; (obtain ⟨d0, d1, d2, e0, e1, e2⟩ := KS.out w' hE); go_simp; exact ⟨Below.refl _ _, rfl⟩)); (simp only [Act.put, List.setIfInBounds_toArray, List.set_cons_zero, List.set_cons_succ, List.cons_append, List.nil_append])
    (with_reducible apply wpF_val); (focus (intro vs w' hE hk; (obtain ⟨d0, d1, d2, e0, e1, e2⟩ := KS.out w' hE); go_simp; exact ⟨Below.refl _ _, rfl⟩)); (simp only [Act.put, List.setIfInBounds_toArray, List.set_cons_zero, List.set_cons_succ, List.cons_append, List.nil_append])
    (with_reducible apply wpF_val); (focus (intro vs w' hE hk; (obtain ⟨d0, d1, d2, e0, e1, e2⟩ := KS.out w' hE); go_simp; exact ⟨Below.refl _ _, rfl⟩)); (simp only [Act.put, List.setIfInBounds_toArray, List.set_cons_zero, List.set_cons_succ, List.cons_append, List.nil_append])
    (with_reducible apply wpF_val); (focus (intro vs w' hE hk; (obtain ⟨d0, d1, d2, e0, e1, e2⟩ := KS.out w' hE); go_simp; exact ⟨Below.refl _ _, rfl⟩)); (simp only [Act.put, List.setIfInBounds_toArray, List.set_cons_zero, List.set_cons_succ, List.cons_append, List.nil_append])
    (with_reducible apply wpF_val); (focus (intro vs w' hE hk; (obtain ⟨d0, d1, d2, e0, e1, e2⟩ := KS.out w' hE); go_simp; exact ⟨Below.refl _ _, rfl⟩)); (simp only [Act.put, List.setIfInBounds_toArray, List.set_cons_zero, List.set_cons_succ, List.cons_append, List.nil_append])
    (with_reducible apply wpF_val); (focus (intro vs w' hE hk; (obtain ⟨d0, d1, d2, e0, e1, e2⟩ := KS.out w' hE); go_simp; exact ⟨Below.refl _ _, rfl⟩)); (simp only [Act.put, List.setIfInBounds_toArray, List.set_cons_zero, List.set_cons_succ, List.cons_append, List.nil_append])
    (with_reducible apply wpF_val); (focus (intro vs w' hE hk; (obtain ⟨d0, d1, d2, e0, e1, e2⟩ := KS.out w' hE); go_simp; exact ⟨Below.refl _ _, rfl⟩)); (simp only [Act.put, List.setIfInBounds_toArray, List.set_cons_zero, List.set_cons_succ, List.cons_append, List.nil_append])
    (with_reducible apply wpF_val); (focus (intro vs w' hE hk; (obtain ⟨d0, d1, d2, e0, e1, e2⟩ := KS.out w' hE); go_simp; exact ⟨Below.refl _ _, rfl⟩)); (simp only [Act.put, List.setIfInBounds_toArray, List.set_cons_zero, List.set_cons_succ, List.cons_append, List.nil_append])
    (with_reducible apply wpF_val); (focus (intro vs w' hE hk; (obtain ⟨d0, d1, d2, e0, e1, e2⟩ := KS.out w' hE); go_simp; exact ⟨Below.refl _ _, rfl⟩)); (simp only [Act.put, List.setIfInBounds_toArray, List.set_cons_zero, List.set_cons_succ, List.cons_append, List.nil_append])
    (with_reducible apply wpF_val); (focus (intro vs w' hE hk; (obtain ⟨d0, d1, d2, e0, e1, e2⟩ := KS.out w' hE); go_simp; exact ⟨Below.refl _ _, rfl⟩)); (simp only [Act.put, List.setIfInBounds_toArray, List.set_cons_zero, List.set_cons_succ, List.cons_append, List.nil_append])
    (with_reducible apply wpF_val); (focus (intro vs w' hE hk; (obtain ⟨d0, d1, d2, e0, e1, e2⟩ := KS.out w' hE); go_simp; exact ⟨Below.refl _ _, rfl⟩)); (simp only [Act.put, List.setIfInBounds_toArray, List.set_cons_zero, List.set_cons_succ, List.cons_append, List.nil_append])
    (with_reducible apply wpF_val); (focus (intro vs w' hE hk; (obtain ⟨d0, d1, d2, e0, e1, e2⟩ := KS.out w' hE); go_simp; exact ⟨Below.refl _ _, rfl⟩)); (simp only [Act.put, List.setIfInBounds_toArray, List.set_cons_zero, List.set_cons_succ, List.cons_append, List.nil_append])
    (with_reducible apply wpF_val); (focus (intro vs w' hE hk; (obtain ⟨d0, d1, d2, e0, e1, e2⟩ := KS.out w' hE); go_simp; exact ⟨Below.refl _ _, rfl⟩)); (simp only [Act.put, List.setIfInBounds_toArray, List.set_cons_zero, List.set_cons_succ, List.cons_append, List.nil_append])
    (with_reducible apply wpF_val); (focus (intro vs w' hE hk; (obtain ⟨d0, d1, d2, e0, e1, e2⟩ := KS.out w' hE); go_simp; rfl)); (simp only [Act.put, List.setIfInBounds_toArray, List.set_cons_zero, List.set_cons_succ, List.cons_append, List.nil_append])
    (with_reducible apply wpF_val); (focus (intro vs w' hE hk; (obtain ⟨d0, d1, d2, e0, e1, e2⟩ := KS.out w' hE); go_simp; rfl)); (simp only [Act.put, List.setIfInBounds_toArray, List.set_cons_zero, List.set_cons_succ, List.cons_append, List.nil_append])
    (with_reducible apply wpF_val); (focus (intro vs w' hE hk; (obtain ⟨d0, d1, d2, e0, e1, e2⟩ := KS.out w' hE); go_simp; rfl)); (simp only [Act.put, List.setIfInBounds_toArray, List.set_cons_zero, List.set_cons_succ, List.cons_append, List.nil_append])
    (with_reducible apply wpF_val); (focus (intro vs w' hE hk; (obtain ⟨d0, d1, d2, e0, e1, e2⟩ := KS.out w' hE); go_simp; rfl)); (simp only [Act.put, List.setIfInBounds_toArray, List.set_cons_zero, List.set_cons_succ, List.cons_append, List.nil_append])
    (with_reducible apply wpF_val); (focus (intro vs w' hE hk; (obtain ⟨d0, d1, d2, e0, e1, e2⟩ := KS.out w' hE); go_simp; rfl)); (simp only [Act.put, List.setIfInBounds_toArray, List.set_cons_zero, List.set_cons_succ, List.cons_append, List.nil_append])
    (with_reducible apply wpF_val); (focus (intro vs w' hE hk; (obtain ⟨d0, d1, d2, e0, e1, e2⟩ := KS.out w' hE); go_simp; rfl)); (simp only [Act.put, List.setIfInBounds_toArray, List.set_cons_zero, List.set_cons_succ, List.cons_append, List.nil_append])
    (with_reducible apply wpF_val); (focus (intro vs w' hE hk; (obtain ⟨d0, d1, d2, e0, e1, e2⟩ := KS.out w' hE); go_simp; rfl)); (simp only [Act.put, List.setIfInBounds_toArray, List.set_cons_zero, List.set_cons_succ, List.cons_append, List.nil_append])
    (with_reducible apply wpF_val); (focus (intro vs w' hE hk; (obtain ⟨d0, d1, d2, e0, e1, e2⟩ := KS.out w' hE); go_simp; rfl)); (simp only [Act.put, List.setIfInBounds_toArray, List.set_cons_zero, List.set_cons_succ, List.cons_append, List.nil_append])
    (with_reducible apply wpF_val); (focus (intro vs w' hE hk; (obtain ⟨d0, d1, d2, e0, e1, e2⟩ := KS.out w' hE); go_simp; rfl)); (simp only [Act.put, List.setIfInBounds_toArray, List.set_cons_zero, List.set_cons_succ, List.cons_append, List.nil_append])
    (with_reducible apply wpF_val); (focus (intro vs w' hE hk; (obtain ⟨d0, d1, d2, e0, e1, e2⟩ := KS.out w' hE); go_simp; rfl)); (simp only [Act.put, List.setIfInBounds_toArray, List.set_cons_zero, List.set_cons_succ, List.cons_append, List.nil_append])
    (with_reducible apply wpF_val); (focus (intro vs w' hE hk; (obtain ⟨d0, d1, d2, e0, e1, e2⟩ := KS.out w' hE); go_simp; rfl)); (simp only [Act.put, List.setIfInBounds_toArray, List.set_cons_zero, List.set_cons_succ, List.cons_append, List.nil_append])
    (with_reducible apply wpF_val); (focus (intro vs w' hE hk; (obtain ⟨d0, d1, d2, e0, e1, e2⟩ := KS.out w' hE); go_simp; exact ⟨Below.refl _ _, rfl⟩)); (simp only [Act.put, List.setIfInBounds_toArray, List.set_cons_zero, List.set_cons_succ, List.cons_append, List.nil_append])
    (with_reducible apply wpF_val); (focus (intro vs w' hE hk; (obtain ⟨d0, d1, d2, e0, e1, e2⟩ := KS.out w' hE); go_simp; exact ⟨Below.refl _ _, rfl⟩)); (simp only [Act.put, List.setIfInBounds_toArray, List.set_cons_zero, List.set_cons_succ, List.cons_append, List.nil_append])
    refine wpF_nil (fun vs w' hE hk => ?_)
    have BX := Lib.hid hE
    clear hE hk
    go_wp2_with fail
    go_ret
    exact ⟨by simp, BX.out⟩
/-! ### l07Diff -/
theorem c_l07Differences (Wa Wb Hn on : Nat) (zA : List Nat) (aA : Option Addr) (cA : Nat) (zB : List Nat) (aB : Option Addr) (cB : Nat) (x y : Nat) (w : World) (vx : Var w x #[.int .i64 (Wa : Int), .int .i64 (Hn : Int), .slice aA zA.length cA]) (vy : Var w y #[.int .i64 (Wb : Int), .int .i64 (Hn : Int), .slice aB zB.length cB]) (rA : IsRowF .f32 w aA zA.length cA zA) (rB : IsRowF .f32 w aB zB.length cB zB) (hWa : Wa ≤ 16) (hWb : Wb ≤ 16) (hHn : 1 ≤ Hn ∧ Hn ≤ 16) (ho : 1 ≤ on) (hoA : on ≤ Wa) (hoB : on ≤ Wb) (lA : zA.length = Wa * Hn) (lB : zB.length = Wb * Hn) :
    Calls Try.prog 119 #[.pointer (some ⟨x, 0, none⟩), .pointer (some ⟨y, 0, none⟩), .int .i64 (on : Int)] w (fun e w' => ∃ a c zs, e = .returned (.agg #[.int .i64 (on : Int), .int .i64 (Hn : Int), .slice a (on * Hn) c]) ∧ Below w.heap.size w w' ∧ Own 38 w' w.heap.size a (on * Hn) c zs ∧ near zs (missL zA zB Wa Wb on Hn)) := by
  obtain ⟨h1, h2⟩ := hHn
  obtain ⟨N, hNN⟩ : ∃ N, N = on * Hn := ⟨_, rfl⟩
  have hN2 : N ≤ 256 := by rw [hNN]; exact Nat.le_trans (Nat.mul_le_mul (show on ≤ 16 by omega) h2) (by decide)
  have mw : IntKind.i64.wrap ((on : Int) * (Hn : Int)) = (N : Int) := by rw [hNN]; rw [show ((on : Int) * (Hn : Int)) = ((on * Hn : Nat) : Int) by rw [Int.natCast_mul]]; exact IntWalk.i64_in _ (by omega)
  have HIx := Lib.hid (fun (k : Nat) (hk : k < N) => (by
    rw [hNN] at hk
    obtain ⟨q1, q2⟩ := crop_div hk ho
    have e1 := crop_idx (Wn := Wa) (Hn := Hn) (xn := Wa - on) (yn := 0) (wn := on) (hn := Hn) (by omega) (by omega) q1 q2
    have e2 := crop_idx (Wn := Wb) (Hn := Hn) (xn := 0) (yn := 0) (wn := on) (hn := Hn) (by omega) (by omega) q1 q2
    have e3 := mul_bound (cy := k / on) (Wn := Wa) q2 hWa h2
    have e4 := mul_bound (cy := k / on) (Wn := Wb) q2 hWb h2
    rw [← lA] at e1
    rw [← lB] at e2
    exact ⟨e1, e2, e3.2, e4.2, q1, q2⟩ : cropK Wa (Wa - on) 0 on k < zA.length ∧ cropK Wb 0 0 on k < zB.length ∧ k / on * Wa ≤ 256 ∧ k / on * Wb ≤ 256 ∧ k % on < on ∧ k / on < Hn))
  obtain ⟨L, hL⟩ : ∃ L, L = missL zA zB Wa Wb on Hn := ⟨_, rfl⟩
  have HAt := Lib.hid (fun (k : Nat) (hk : k < N) => (by rw [hL]; exact missL_at (by rw [← hNN]; exact hk) : fat L k = missI zA zB Wa Wb on k))
  have HLen := Lib.hid (show L.length = N by rw [hL, missL_len, hNN])
  rw [← hL, ← hNN]
  clear hNN hL lA lB
  obtain ⟨i0, hinf, hz0, hz1, hz2⟩ := info_parts infoFo
  generalize hw0 : w.alloc (Obj.cells #[.int .i64 0, .int .i64 0, .slice none 0 0] 26) = w0
  have X0 : Var w0 w.heap.size #[.int .i64 0, .int .i64 0, .slice none 0 0] := by subst hw0; exact Var.new _ _ _
  have X1 : Free w0 w.heap.size := by subst hw0; exact Free.new _ _ _
  have X2 : Below w.heap.size w w0 := by subst hw0; exact (Below.refl _ _).alloc (Nat.le_refl _) _
  have HS1 := Lib.hid (show w0.heap.size = w.heap.size + 1 by subst hw0; simp)
  have S1 : w.heap.size + 1 ≤ w0.heap.size := by subst hw0; simp
  have HW := Lib.hid hw0
  have V1 := Lib.hid X0
  have F1 := Lib.hid X1
  have B1 := Lib.hid X2
  have VX := Lib.hid (vx.keep X2)
  have VY := Lib.hid (vy.keep X2)
  have RX := Lib.hid (rA.below X2)
  have RY := Lib.hid (rB.below X2)
  have hx : x < w.heap.size := vx.lt
  have hy : y < w.heap.size := vy.lt
  clear hw0 X0 X1 X2 vx vy rA rB
  obtain ⟨u0, u1, u2⟩ := VX.out.three
  go_enter Try.func119, Try.ntmps119
  go_upto_region 1 with fail
  rw [HW.out]
  go_wp2_with fail
  clear u0 u1 u2
  go_loopw [8, 9, 10, 11] (fun i _ _ _ wr => ∃ (k : Nat) (a : Option Addr) (c : Nat) (zs : List Nat), k ≤ N ∧ i = .int .i64 k ∧ Var wr w0.heap.size #[.int .i64 (on : Int), .int .i64 (Hn : Int), .slice a k c] ∧ Own 38 wr (w.heap.size + 1) a k c zs ∧ near zs (L.take k) ∧ Below (w.heap.size + 1) w0 wr ∧ Free wr w0.heap.size ∧ blk a ≠ some w0.heap.size) (fun i _ _ _ _ => N - (intOf i).toNat)
  case atStart => exact ⟨0, _, 0, [], Nat.zero_le _, rfl, Var.new _ _ _, Own.nil _ _ _, by simpa using near_nil, (Below.refl _ _).alloc (by omega) _, Free.new _ _ _, by simp [blk]⟩
  case round =>
    obtain ⟨k, a, c, zs, hk, rfl, hV, hO, hnear, hBl, hfree, hne⟩ := hrel
    have HV := Lib.hid hV
    have HO := Lib.hid hO
    have HNr := Lib.hid hnear
    have HB := Lib.hid hBl
    have HF := Lib.hid hfree
    have HNe := Lib.hid hne
    clear hV hO hnear hBl hfree hne
    have zr : w0.heap.size < wr.heap.size := HV.out.lt
    have BX := Lib.hid (show Below w0.heap.size w0 wr from by rw [HS1.out]; exact HB.out)
    have VXr := Lib.hid (VX.out.keep BX.out)
    have VYr := Lib.hid (VY.out.keep BX.out)
    obtain ⟨u0, u1, u2⟩ := VXr.out.three
    by_cases hlt : k < N
    · obtain ⟨j1, j2, j3, j4, j5, j6⟩ := HIx.out k hlt
      have HR := Lib.hid (HAt.out k hlt)
      obtain ⟨K1, hK1⟩ : ∃ K, K = cropK Wa (Wa - on) 0 on k := ⟨_, rfl⟩
      obtain ⟨K2, hK2⟩ : ∃ K, K = cropK Wb 0 0 on k := ⟨_, rfl⟩
      have hR2 : fat L k = missG (fat zA K1) (fat zB K2) := by rw [hK1, hK2]; exact HR.out
      rw [← hK1] at j1
      rw [← hK2] at j2
      unfold cropK at hK1 hK2
      rw [Nat.zero_add] at hK1 hK2
      rw [Nat.zero_add] at hK2
      have hon : ¬ ((on : Int) = 0) := by omega
      have mt : (k : Int).tmod (on : Int) = ((k % on : Nat) : Int) := by rw [Int.natCast_emod]; exact Int.tmod_eq_emod_of_nonneg (by omega)
      have mq : (k : Int).tdiv (on : Int) = ((k / on : Nat) : Int) := by rw [Int.natCast_ediv]; exact Int.tdiv_eq_ediv_of_nonneg (by omega)
      generalize k % on = qx at *
      generalize k / on = qy at *
      obtain ⟨PA, hPA⟩ : ∃ P, P = qy * Wa := ⟨_, rfl⟩
      obtain ⟨PB, hPB⟩ : ∃ P, P = qy * Wb := ⟨_, rfl⟩
      have mA1 : IntKind.i64.wrap ((qy : Int) * (Wa : Int)) = (PA : Int) := by rw [hPA, Int.natCast_mul]; exact IntWalk.i64_in _ (by rw [← Int.natCast_mul]; omega)
      have mB1 : IntKind.i64.wrap ((qy : Int) * (Wb : Int)) = (PB : Int) := by rw [hPB, Int.natCast_mul]; exact IntWalk.i64_in _ (by rw [← Int.natCast_mul]; omega)
      rw [← hPA] at hK1 j3
      rw [← hPB] at hK2 j4
      have mq2 : IntKind.i64.wrap (qy : Int) = (qy : Int) := IntWalk.i64_in _ (by omega)
      have mA2 : IntKind.i64.wrap ((PA : Int) + (Wa : Int)) = (PA : Int) + (Wa : Int) := IntWalk.i64_in _ (by omega)
      have mA3 : IntKind.i64.wrap ((PA : Int) + (Wa : Int) - (on : Int)) = (PA : Int) + (Wa : Int) - (on : Int) := IntWalk.i64_in _ (by omega)
      have mA4 : IntKind.i64.wrap ((PA : Int) + (Wa : Int) - (on : Int) + (qx : Int)) = (K1 : Int) := by rw [IntWalk.i64_in _ (by omega)]; omega
      have mB2 : IntKind.i64.wrap ((PB : Int) + (qx : Int)) = (K2 : Int) := by rw [IntWalk.i64_in _ (by omega)]; omega
      have HR2 := Lib.hid hR2
      clear hPA hPB hK1 hK2 hR2 HR
      obtain ⟨bA, oA, nA, haA, gA, eA⟩ := (RX.out.below BX.out).at j1
      obtain ⟨bB, oB, nB, haB, gB, eB⟩ := (RY.out.below BX.out).at j2
      subst haA haB
      have KS := Lib.hid (fun (w' : World) (hE : Below wr.heap.size wr w') => (⟨(VXr.out.keep hE).three.1, (VXr.out.keep hE).three.2.1, (VXr.out.keep hE).three.2.2, (VYr.out.keep hE).three.1, (VYr.out.keep hE).three.2.1, (VYr.out.keep hE).three.2.2, (hE.cell (p := ⟨bA, oA + K1, none⟩) gA).trans eA, (hE.cell (p := ⟨bB, oB + K2, none⟩) gB).trans eB⟩ : _ ∧ _ ∧ _ ∧ _ ∧ _ ∧ _ ∧ _ ∧ _))
      clear eA eB
      go_upto_region 7 with fail
      clear u0 u1 u2
      refine wp_region_facts 37 (fun a b => Below a.heap.size a b) (fun _ => Below.refl _ _) (fun _ _ _ h h' => h.trans (h'.mono h.size)) (Below.refl _ _).drew (by kernel_rfl) (by kernel_rfl) (by kernel_rfl) (by kernel_rfl) ?_
      simp only [List.take_succ_cons, List.take_zero, List.drop_succ_cons, List.drop_zero]
      (with_reducible apply wpF_val); (focus (intro vs w' hE hk; (obtain ⟨u0, u1, u2, v0, v1, v2, ea, eb⟩ := KS.out w' hE); go_simp; exact ⟨Below.refl _ _, rfl⟩)); (simp only [Act.put, List.setIfInBounds_toArray, List.set_cons_zero, List.set_cons_succ, List.cons_append, List.nil_append])
      (with_reducible apply wpF_val); (focus (intro vs w' hE hk; (obtain ⟨u0, u1, u2, v0, v1, v2, ea, eb⟩ := KS.out w' hE); go_simp; exact ⟨Below.refl _ _, rfl⟩)); (simp only [Act.put, List.setIfInBounds_toArray, List.set_cons_zero, List.set_cons_succ, List.cons_append, List.nil_append])
      (with_reducible apply wpF_val); (focus (intro vs w' hE hk; (obtain ⟨u0, u1, u2, v0, v1, v2, ea, eb⟩ := KS.out w' hE); go_simp; exact ⟨Below.refl _ _, rfl⟩)); (simp only [Act.put, List.setIfInBounds_toArray, List.set_cons_zero, List.set_cons_succ, List.cons_append, List.nil_append])
      (with_reducible apply wpF_val); (focus (intro vs w' hE hk; (obtain ⟨u0, u1, u2, v0, v1, v2, ea, eb⟩ := KS.out w' hE); go_simp; exact ⟨Below.refl _ _, rfl⟩)); (simp only [Act.put, List.setIfInBounds_toArray, List.set_cons_zero, List.set_cons_succ, List.cons_append, List.nil_append])
      (with_reducible apply wpF_val); (focus (intro vs w' hE hk; (obtain ⟨u0, u1, u2, v0, v1, v2, ea, eb⟩ := KS.out w' hE); go_simp; exact ⟨Below.refl _ _, rfl⟩)); (simp only [Act.put, List.setIfInBounds_toArray, List.set_cons_zero, List.set_cons_succ, List.cons_append, List.nil_append])
      (with_reducible apply wpF_val); (focus (intro vs w' hE hk; (obtain ⟨u0, u1, u2, v0, v1, v2, ea, eb⟩ := KS.out w' hE); go_simp; exact ⟨Below.refl _ _, rfl⟩)); (simp only [Act.put, List.setIfInBounds_toArray, List.set_cons_zero, List.set_cons_succ, List.cons_append, List.nil_append])
      (with_reducible apply wpF_val); (focus (intro vs w' hE hk; (obtain ⟨u0, u1, u2, v0, v1, v2, ea, eb⟩ := KS.out w' hE); go_simp; exact ⟨Below.refl _ _, rfl⟩)); (simp only [Act.put, List.setIfInBounds_toArray, List.set_cons_zero, List.set_cons_succ, List.cons_append, List.nil_append])
      (with_reducible apply wpF_val); (focus (intro vs w' hE hk; (obtain ⟨u0, u1, u2, v0, v1, v2, ea, eb⟩ := KS.out w' hE); go_simp; exact ⟨Below.refl _ _, rfl⟩)); (simp only [Act.put, List.setIfInBounds_toArray, List.set_cons_zero, List.set_cons_succ, List.cons_append, List.nil_append])
      (with_reducible apply wpF_val); (focus (intro vs w' hE hk; (obtain ⟨u0, u1, u2, v0, v1, v2, ea, eb⟩ := KS.out w' hE); go_simp; exact ⟨Below.refl _ _, rfl⟩)); (simp only [Act.put, List.setIfInBounds_toArray, List.set_cons_zero, List.set_cons_succ, List.cons_append, List.nil_append])
      (with_reducible apply wpF_val); (focus (intro vs w' hE hk; (obtain ⟨u0, u1, u2, v0, v1, v2, ea, eb⟩ := KS.out w' hE); go_simp; exact ⟨Below.refl _ _, rfl⟩)); (simp only [Act.put, List.setIfInBounds_toArray, List.set_cons_zero, List.set_cons_succ, List.cons_append, List.nil_append])
      (with_reducible apply wpF_val); (focus (intro vs w' hE hk; (obtain ⟨u0, u1, u2, v0, v1, v2, ea, eb⟩ := KS.out w' hE); go_simp; exact ⟨Below.refl _ _, rfl⟩)); (simp only [Act.put, List.setIfInBounds_toArray, List.set_cons_zero, List.set_cons_succ, List.cons_append, List.nil_append])
      (with_reducible apply wpF_val); (focus (intro vs w' hE hk; (obtain ⟨u0, u1, u2, v0, v1, v2, ea, eb⟩ := KS.out w' hE); go_simp; exact ⟨Below.refl _ _, rfl⟩)); (simp only [Act.put, List.setIfInBounds_toArray, List.set_cons_zero, List.set_cons_succ, List.cons_append, List.nil_append])
      (with_reducible apply wpF_val); (focus (intro vs w' hE hk; (obtain ⟨u0, u1, u2, v0, v1, v2, ea, eb⟩ := KS.out w' hE); go_simp; exact ⟨Below.refl _ _, rfl⟩)); (simp only [Act.put, List.setIfInBounds_toArray, List.set_cons_zero, List.set_cons_succ, List.cons_append, List.nil_append])
      (with_reducible apply wpF_val); (focus (intro vs w' hE hk; (obtain ⟨u0, u1, u2, v0, v1, v2, ea, eb⟩ := KS.out w' hE); go_simp; exact ⟨Below.refl _ _, rfl⟩)); (simp only [Act.put, List.setIfInBounds_toArray, List.set_cons_zero, List.set_cons_succ, List.cons_append, List.nil_append])
      (with_reducible apply wpF_val); (focus (intro vs w' hE hk; (obtain ⟨u0, u1, u2, v0, v1, v2, ea, eb⟩ := KS.out w' hE); go_simp; exact ⟨Below.refl _ _, rfl⟩)); (simp only [Act.put, List.setIfInBounds_toArray, List.set_cons_zero, List.set_cons_succ, List.cons_append, List.nil_append])
      (with_reducible apply wpF_val); (focus (intro vs w' hE hk; (obtain ⟨u0, u1, u2, v0, v1, v2, ea, eb⟩ := KS.out w' hE); go_simp; exact ⟨Below.refl _ _, rfl⟩)); (simp only [Act.put, List.setIfInBounds_toArray, List.set_cons_zero, List.set_cons_succ, List.cons_append, List.nil_append])
      (with_reducible apply wpF_val); (focus (intro vs w' hE hk; (obtain ⟨u0, u1, u2, v0, v1, v2, ea, eb⟩ := KS.out w' hE); go_simp; exact ⟨Below.refl _ _, rfl⟩)); (simp only [Act.put, List.setIfInBounds_toArray, List.set_cons_zero, List.set_cons_succ, List.cons_append, List.nil_append])
      (with_reducible apply wpF_val); (focus (intro vs w' hE hk; (obtain ⟨u0, u1, u2, v0, v1, v2, ea, eb⟩ := KS.out w' hE); go_simp; exact ⟨Below.refl _ _, rfl⟩)); (simp only [Act.put, List.setIfInBounds_toArray, List.set_cons_zero, List.set_cons_succ, List.cons_append, List.nil_append])
      (with_reducible apply wpF_val); (focus (intro vs w' hE hk; (obtain ⟨u0, u1, u2, v0, v1, v2, ea, eb⟩ := KS.out w' hE); go_simp; exact ⟨Below.refl _ _, rfl⟩)); (simp only [Act.put, List.setIfInBounds_toArray, List.set_cons_zero, List.set_cons_succ, List.cons_append, List.nil_append])
      (with_reducible apply wpF_val); (focus (intro vs w' hE hk; (obtain ⟨u0, u1, u2, v0, v1, v2, ea, eb⟩ := KS.out w' hE); go_simp; exact ⟨Below.refl _ _, rfl⟩)); (simp only [Act.put, List.setIfInBounds_toArray, List.set_cons_zero, List.set_cons_succ, List.cons_append, List.nil_append])
      (with_reducible apply wpF_val); (focus (intro vs w' hE hk; (obtain ⟨u0, u1, u2, v0, v1, v2, ea, eb⟩ := KS.out w' hE); go_simp; exact ⟨Below.refl _ _, rfl⟩)); (simp only [Act.put, List.setIfInBounds_toArray, List.set_cons_zero, List.set_cons_succ, List.cons_append, List.nil_append])
      (with_reducible apply wpF_val); (focus (intro vs w' hE hk; (obtain ⟨u0, u1, u2, v0, v1, v2, ea, eb⟩ := KS.out w' hE); go_simp; exact ⟨Below.refl _ _, rfl⟩)); (simp only [Act.put, List.setIfInBounds_toArray, List.set_cons_zero, List.set_cons_succ, List.cons_append, List.nil_append])
      (with_reducible apply wpF_val); (focus (intro vs w' hE hk; (obtain ⟨u0, u1, u2, v0, v1, v2, ea, eb⟩ := KS.out w' hE); go_simp; exact ⟨Below.refl _ _, rfl⟩)); (simp only [Act.put, List.setIfInBounds_toArray, List.set_cons_zero, List.set_cons_succ, List.cons_append, List.nil_append])
      (with_reducible apply wpF_val); (focus (intro vs w' hE hk; (obtain ⟨u0, u1, u2, v0, v1, v2, ea, eb⟩ := KS.out w' hE); go_simp; exact ⟨Below.refl _ _, rfl⟩)); (simp only [Act.put, List.setIfInBounds_toArray, List.set_cons_zero, List.set_cons_succ, List.cons_append, List.nil_append])
      (with_reducible apply wpF_val); (focus (intro vs w' hE hk; (obtain ⟨u0, u1, u2, v0, v1, v2, ea, eb⟩ := KS.out w' hE); go_simp; exact ⟨Below.refl _ _, rfl⟩)); (simp only [Act.put, List.setIfInBounds_toArray, List.set_cons_zero, List.set_cons_succ, List.cons_append, List.nil_append])
      (with_reducible apply wpF_val); (focus (intro vs w' hE hk; (obtain ⟨u0, u1, u2, v0, v1, v2, ea, eb⟩ := KS.out w' hE); go_simp; exact ⟨Below.refl _ _, rfl⟩)); (simp only [Act.put, List.setIfInBounds_toArray, List.set_cons_zero, List.set_cons_succ, List.cons_append, List.nil_append])
      (with_reducible apply wpF_val); (focus (intro vs w' hE hk; (obtain ⟨u0, u1, u2, v0, v1, v2, ea, eb⟩ := KS.out w' hE); go_simp; exact ⟨Below.refl _ _, rfl⟩)); (simp only [Act.put, List.setIfInBounds_toArray, List.set_cons_zero, List.set_cons_succ, List.cons_append, List.nil_append])
      (with_reducible apply wpF_val); (focus (intro vs w' hE hk; (obtain ⟨u0, u1, u2, v0, v1, v2, ea, eb⟩ := KS.out w' hE); go_simp; exact ⟨Below.refl _ _, rfl⟩)); (simp only [Act.put, List.setIfInBounds_toArray, List.set_cons_zero, List.set_cons_succ, List.cons_append, List.nil_append])
      (with_reducible apply wpF_val); (focus (intro vs w' hE hk; (obtain ⟨u0, u1, u2, v0, v1, v2, ea, eb⟩ := KS.out w' hE); go_simp; exact ⟨Below.refl _ _, rfl⟩)); (simp only [Act.put, List.setIfInBounds_toArray, List.set_cons_zero, List.set_cons_succ, List.cons_append, List.nil_append])
      (with_reducible apply wpF_val); (focus (intro vs w' hE hk; (obtain ⟨u0, u1, u2, v0, v1, v2, ea, eb⟩ := KS.out w' hE); go_simp; exact ⟨Below.refl _ _, rfl⟩)); (simp only [Act.put, List.setIfInBounds_toArray, List.set_cons_zero, List.set_cons_succ, List.cons_append, List.nil_append])
      (with_reducible apply wpF_val); (focus (intro vs w' hE hk; (obtain ⟨u0, u1, u2, v0, v1, v2, ea, eb⟩ := KS.out w' hE); go_simp; exact ⟨Below.refl _ _, rfl⟩)); (simp only [Act.put, List.setIfInBounds_toArray, List.set_cons_zero, List.set_cons_succ, List.cons_append, List.nil_append])
      (with_reducible apply wpF_val); (focus (intro vs w' hE hk; (obtain ⟨u0, u1, u2, v0, v1, v2, ea, eb⟩ := KS.out w' hE); go_simp; exact ⟨Below.refl _ _, rfl⟩)); (simp only [Act.put, List.setIfInBounds_toArray, List.set_cons_zero, List.set_cons_succ, List.cons_append, List.nil_append])
      (with_reducible apply wpF_val); (focus (intro vs w' hE hk; (obtain ⟨u0, u1, u2, v0, v1, v2, ea, eb⟩ := KS.out w' hE); go_simp; exact ⟨Below.refl _ _, rfl⟩)); (simp only [Act.put, List.setIfInBounds_toArray, List.set_cons_zero, List.set_cons_succ, List.cons_append, List.nil_append])
      (with_reducible apply wpF_val); (focus (intro vs w' hE hk; (obtain ⟨u0, u1, u2, v0, v1, v2, ea, eb⟩ := KS.out w' hE); go_simp; exact ⟨Below.refl _ _, rfl⟩)); (simp only [Act.put, List.setIfInBounds_toArray, List.set_cons_zero, List.set_cons_succ, List.cons_append, List.nil_append])
      (with_reducible apply wpF_val); (focus (intro vs w' hE hk; (obtain ⟨u0, u1, u2, v0, v1, v2, ea, eb⟩ := KS.out w' hE); go_simp; exact ⟨Below.refl _ _, rfl⟩)); (simp only [Act.put, List.setIfInBounds_toArray, List.set_cons_zero, List.set_cons_succ, List.cons_append, List.nil_append])
      refine wpF_fact (fun u _ => ∃ m, u = .float .f32 (pick .f32 (fop .sub .f32 (fat zA K1) (fat zB K2)) m)) (fun _ _ _ h _ => h) (fun vs w' hE hk => ?_) ?_; (focus (rw [if_pos (by rfl)]; refine uponW_fop _ _ _ _ _ rfl .f32 _ _ rfl rfl (by decide) (fun n' m' => ⟨below_drewN (Below.refl _ _) _, n', by simp only [fop_pick_l, fop_pick_r]⟩))); (simp only [Act.put, List.setIfInBounds_toArray, List.set_cons_zero, List.set_cons_succ, List.cons_append, List.nil_append])
      refine wpF_fact (fun u _ => ∃ m, u = .float .f32 (pick .f32 (fop .sub .f32 (fat zA K1) (fat zB K2)) m)) (fun _ _ _ h _ => h) (fun vs w' hE hk => ?_) ?_; (focus (obtain ⟨n9, hn9⟩ := hk 35 (by kernel_rfl); simp only [hn9]; go_simp; exact ⟨Below.refl _ _, n9, rfl⟩)); (simp only [Act.put, List.setIfInBounds_toArray, List.set_cons_zero, List.set_cons_succ, List.cons_append, List.nil_append])
      refine wpF_nil (fun vs w5 hE hk => ?_)
      obtain ⟨_, h35⟩ := hk 35
      obtain ⟨n5, h36⟩ := hk 36
      simp only [h35, h36]
      have HV5 := Lib.hid (HV.out.keep hE)
      have HO5 := Lib.hid (HO.out.below hE)
      have HB5 := Lib.hid (HB.out.trans (hE.mono (by omega)))
      have HF5 := Lib.hid (HF.out.below HV.out.lt hE)
      have z5 : w0.heap.size < w5.heap.size := HV5.out.lt
      have HR3 := Lib.hid (show fat L k = fop .mul .f32 (fop .sub .f32 (fat zA K1) (fat zB K2)) (fop .sub .f32 (fat zA K1) (fat zB K2)) from HR2.out)
      clear hE hk h35 h36 KS HR2 HV HO HB HF
      generalize fop .sub .f32 (fat zA K1) (fat zB K2) = D at *
      obtain ⟨co0, co1, co2⟩ := HV5.out.three
      rw [← w5.drewN_zero]
      go_wp2_with (first | (refine wpList_fop rfl _ _ _ _ _ rfl _ _ _ rfl rfl (by decide) _ ?_; intro n9 m9) | (refine upon_fop _ _ _ _ _ (by decide) ?_; intro n9 m9) | (at_builtin; go_loud (refine wpList_append_own _ rfl _ _ 22 rfl (w.heap.size + 1) 38 i0 (.float .f32 0) 1 4 Try.underlying22 hinf hz0 hz1 hz2 rfl (by decide) _ _ _ rfl (((HO5.out.drewN m9).alloc _).2.1) ⟨w5.heap.size, 0, none⟩ 1 1 [.float .f32 (pick .f32 (fop .mul .f32 D D) n9)] rfl rfl ?_ ?_ ?_ ?_ ?_ ?_)))
      any_goals first
        | (intro j u hj; match j, hj with | 0, hj => (simp at hj; subst hj; first | (simp [Addr.add]; done) | (have hq := (Var.new' (w5.drewN m9) #[Value.float .f32 (pick .f32 (fop .mul .f32 D D) n9)] 38 w5.heap.size rfl).2 0 (by simp); simpa [Addr.add] using hq)))
        | (intro u hu; simp at hu; subst hu; rfl)
        | rfl
        | (unfold maxLen; omega)
        | omega
        | (simp; omega)
      intro v' w6 hown' hgrow _
      obtain ⟨a', c', rfl, hV2, hO2, hne2, hB2, hF2, hs2, hc2, hf2⟩ := own_round (HV5.out.keep (below_drewN (Below.refl _ _) m9)) (HO5.out.drewN m9) (below_drewN HB5.out m9) (by omega) (HF5.out.below HV5.out.lt (below_drewN (Below.refl _ _) m9)) HNe.out hown' hgrow (pick_wf (fop_lt _ _ _ _) n9)
      have GV := Lib.hid hV2
      have GO := Lib.hid hO2
      have GN := Lib.hid hne2
      have GB := Lib.hid hB2
      have GF := Lib.hid hF2
      clear hV2 hO2 hne2 hB2 hF2 hs2 hown' hgrow co0 co1 co2
      go_wp2_with fail
      go_roundw
      case rel => exact ⟨k + 1, a', c', _, by omega, by go_num, GV.out, GO.out, by have h3 := near_snoc HNr.out (show k < L.length by rw [HLen.out]; exact hlt) n9; rw [HR3.out] at h3; exact h3, GB.out, GF.out, GN.out⟩
      case measure => simp [intOf]; omega
    · obtain rfl : k = N := by omega
      have hz : near zs L := by have h := HNr.out; rwa [List.take_of_length_le (by rw [HLen.out]; exact Nat.le_refl _)] at h
      have HZ := Lib.hid hz
      clear hz
      obtain ⟨co0, co1, co2⟩ := HV.out.three
      obtain ⟨cr0, cr1, cr2⟩ := (V1.out.below HB.out (by omega)).three
      have fr := F1.out.keep HB.out (by omega)
      have f0 := fr 0
      have f1 := fr 1
      have f2 := fr 2
      clear fr
      go_wp2_with fail
      have hrow : blk a ≠ some w.heap.size := fun e => by have := HO.out.in _ e; omega
      have BW := B1.out.trans (HB.out.mono (by omega))
      refine bodyPost_ret (v := .agg #[.int .i64 (on : Int), .int .i64 (Hn : Int), .slice a k c]) (by simp [results, Try.results119, cr0, cr1, cr2, co0, co1, co2, go_sem]) rfl ⟨a, c, zs, rfl, ((BW.setCell (by simp <;> omega) _).setCell (by simp <;> omega) _).setCell (by simp <;> omega) _, (((HO.out.setCell hrow _).setCell hrow _).setCell hrow _).mono (by omega), HZ.out⟩
/-! ### l07Error -/
theorem c_l07Error (Wa Wb Hn on : Nat) (zA : List Nat) (aA : Option Addr) (cA : Nat) (zB : List Nat) (aB : Option Addr) (cB : Nat) (x y : Nat) (w : World) (vx : Var w x #[.int .i64 (Wa : Int), .int .i64 (Hn : Int), .slice aA zA.length cA]) (vy : Var w y #[.int .i64 (Wb : Int), .int .i64 (Hn : Int), .slice aB zB.length cB]) (rA : IsRowF .f32 w aA zA.length cA zA) (rB : IsRowF .f32 w aB zB.length cB zB) (hWa : Wa ≤ 16) (hWb : Wb ≤ 16) (hHn : 1 ≤ Hn ∧ Hn ≤ 16) (ho : 1 ≤ on) (hoA : on ≤ Wa) (hoB : on ≤ Wb) (lA : zA.length = Wa * Hn) (lB : zB.length = Wb * Hn) :
    Calls Try.prog 88 #[.pointer (some ⟨x, 0, none⟩), .pointer (some ⟨y, 0, none⟩), .int .i64 (on : Int)] w (fun e w' => ∃ n, e = .returned (.float .f32 (pick .f32 (meanV (missL zA zB Wa Wb on Hn)) n)) ∧ Below w.heap.size w w') := by
  have CD := Lib.hid (c_l07Differences Wa Wb Hn on zA aA cA zB aB cB x y w vx vy rA rB hWa hWb hHn ho hoA hoB lA lB)
  obtain ⟨N, hNN⟩ : ∃ N, N = on * Hn := ⟨_, rfl⟩
  have hN1 : 1 ≤ N := by rw [hNN]; exact Nat.mul_le_mul ho hHn.1
  have hN2 : N ≤ 256 := by rw [hNN]; exact Nat.le_trans (Nat.mul_le_mul (show on ≤ 16 by omega) hHn.2) (by decide)
  obtain ⟨L, hL⟩ : ∃ L, L = missL zA zB Wa Wb on Hn := ⟨_, rfl⟩
  have HLen := Lib.hid (show L.length = N by rw [hL, missL_len, hNN])
  rw [← hL] at CD ⊢
  rw [← hNN] at CD
  clear hNN hL vx vy rA rB lA lB
  have HM := Lib.hid (show meanV L = fop .quo .f32 (sumF .add .f32 0 L) (floatOfInt .f32 (N : Int)) by unfold meanV; rw [HLen.out])
  rw [HM.out]
  go_enter Try.func88, Try.ntmps88
  go_wp2_with fail
  refine CD.out.mono ?_
  rintro _ w1 ⟨a, c, zs, rfl, b, o, hz⟩
  obtain ⟨g, hg⟩ := o.at0 hN1
  subst hg
  have O1 := Lib.hid o
  have B1 := Lib.hid b
  have HZ := Lib.hid hz
  clear o b hz CD
  go_upto_region 2 with fail
  generalize hw2 : w1.alloc (Obj.cells #[.int .i64 (on : Int), .int .i64 (Hn : Int), .slice (some ⟨g, 0, none⟩) N c] 26) = w2
  have V2 := Lib.hid (show Var w2 w1.heap.size #[.int .i64 (on : Int), .int .i64 (Hn : Int), .slice (some ⟨g, 0, none⟩) N c] from by subst hw2; exact Var.new _ _ _)
  have B2 := Lib.hid (show Below w.heap.size w w2 from by subst hw2; exact B1.out.alloc B1.out.size _)
  have O2 := Lib.hid (show Own 38 w2 w.heap.size (some ⟨g, 0, none⟩) N c zs from by subst hw2; exact O1.out.alloc _)
  clear hw2 O1 B1
  obtain ⟨c0, c1, c2⟩ := V2.out.three
  go_wp2_with fail
  clear c0 c1 c2
  go_loopw [8, 9, 17] (fun s _ i wr => ∃ k n : Nat, k ≤ N ∧ i = .int .i64 k ∧ s = .float .f32 (pick .f32 (sumF .add .f32 0 (L.take k)) n) ∧ Below w2.heap.size w2 wr) (fun _ _ i _ => N - (intOf i).toNat)
  case atStart => exact ⟨0, 0, Nat.zero_le _, rfl, by simp [sumF]; first | rfl | exact (pick_not (show isN .f32 0 = false from by decide +kernel) 0).symm, Below.refl _ _⟩
  case round =>
    obtain ⟨k, n, hk, rfl, rfl, hB⟩ := hrel
    have HB := Lib.hid hB
    obtain ⟨c0, c1, c2⟩ := (V2.out.keep hB).three
    by_cases hlt : k < N
    · have hc := (O2.out.below hB).cellAt hlt
      obtain ⟨m, hm⟩ := HZ.out.2 k (by rw [HLen.out]; exact hlt)
      rw [hm] at hc
      have HS := Lib.hid (sumF_snoc .add .f32 0 L k (by rw [HLen.out]; exact hlt))
      clear hB hm
      go_wp2_with (first | (refine wpList_fop rfl _ _ _ _ _ rfl _ _ _ rfl rfl (by decide) _ ?_; intro _ _) | (refine wpList_fop0 rfl _ _ _ _ _ rfl _ _ _ rfl rfl (by decide) ?_; intro _ _) | (refine upon_fop _ _ _ _ _ (by decide) ?_; intro _ _) | (refine upon_fop0 _ _ _ _ _ (by decide) ?_; intro _ _))
      go_roundw
      case rel => exact ⟨k + 1, _, by omega, by go_num, by rw [HS.out], below_drewN HB.out _⟩
      case measure => simp [intOf]; omega
    · obtain rfl : k = N := by omega
      have e : L.take k = L := List.take_of_length_le (by rw [HLen.out]; exact Nat.le_refl _)
      rw [e]
      clear hB e
      go_wp2_with (first | (refine wpList_fop rfl _ _ _ _ _ rfl _ _ _ rfl rfl (by decide) _ ?_; intro _ _) | (refine wpList_fop0 rfl _ _ _ _ _ rfl _ _ _ rfl rfl (by decide) ?_; intro _ _) | (refine upon_fop _ _ _ _ _ (by decide) ?_; intro _ _) | (refine upon_fop0 _ _ _ _ _ (by decide) ?_; intro _ _))
      go_ret
      exact ⟨_, rfl, below_drewN (B2.out.trans (HB.out.mono B2.out.size)) _⟩
/-! ### l02Number -/
theorem c_l02Number (v n : Nat) (w : World) (j : Nat) : Calls Try.prog 71 #[.float .f32 (pick .f32 v n)] (w.drewN j) (fun e w' => ∃ k m, e = .returned (.tuple #[.float .f32 (pick .f32 (numR v).1 k), .bool (numR v).2]) ∧ w' = w.drewN m) := by
  cases h : finB .f32 v
  · have e : numR v = (0, false) := by unfold numR; rw [if_neg (by rw [h]; decide)]
    rw [e]
    go_enter Try.func71, Try.ntmps71
    go_wp2_with (first | (go_at_call 114; refine (c_l01Finite _ _ _ _).mono ?_; rintro _ _ ⟨_, rfl, rfl⟩))
    go_ret2
    exact ⟨0, _, by simp only [pick00]; rfl, rfl⟩
  · have e : numR v = (v, true) := by unfold numR; rw [if_pos h]
    rw [e]
    go_enter Try.func71, Try.ntmps71
    go_wp2_with (first | (go_at_call 114; refine (c_l01Finite _ _ _ _).mono ?_; rintro _ _ ⟨_, rfl, rfl⟩))
    go_ret2
    exact ⟨n, _, rfl, rfl⟩
theorem c_l02Number0 (v n : Nat) (w : World) : Calls Try.prog 71 #[.float .f32 (pick .f32 v n)] w (fun e w' => ∃ k m, e = .returned (.tuple #[.float .f32 (pick .f32 (numR v).1 k), .bool (numR v).2]) ∧ w' = w.drewN m) := by
  have h := c_l02Number v n w 0
  rwa [w.drewN_zero] at h
/-! ### sOverlap -/
theorem c_sOverlapError (WA HA : Int) (zA : List Nat) (aA : Option Addr) (cA : Nat) (WB HB : Int) (zB : List Nat) (aB : Option Addr) (cB : Nat) (O : Int) (w : World) (rA : IsRowF .f32 w aA zA.length cA zA) (rB : IsRowF .f32 w aB zB.length cB zB) (hO : (Lit.int .i64 O).wf = true) : Calls Try.prog 36 #[.agg #[.int .i64 WA, .int .i64 HA, .slice aA zA.length cA], .agg #[.int .i64 WB, .int .i64 HB, .slice aB zB.length cB], .int .i64 O] w (RetF1 (overR WA HA zA WB HB zB O) w) := by
  clear hO
  generalize hw0 : (w.alloc (Obj.cells #[.int .i64 WA, .int .i64 HA, .slice aA zA.length cA] 26)).alloc (Obj.cells #[.int .i64 WB, .int .i64 HB, .slice aB zB.length cB] 26) = w0
  have X0 : Var w0 w.heap.size #[.int .i64 WA, .int .i64 HA, .slice aA zA.length cA] := by subst hw0; exact (Var.new _ _ _).alloc _
  have X1 : Var w0 (w.heap.size + 1) #[.int .i64 WB, .int .i64 HB, .slice aB zB.length cB] := by subst hw0; exact Var.new' _ _ _ _ (by simp)
  have X5 : Below w.heap.size w w0 := by subst hw0; exact ((Below.refl _ _).alloc (Nat.le_refl _) _).alloc (by simp) _
  have HW := Lib.hid hw0
  have BW := Lib.hid X5
  have VA := Lib.hid X0
  have VB := Lib.hid X1
  have RA := Lib.hid (rA.below X5)
  have RB := Lib.hid (rB.below X5)
  have CM := Lib.hid (c_l07Meets WA HA zA aA cA WB HB zB aB cB O _ _ w0 X0 X1 RA.out RB.out)
  clear hw0 X0 X1 X5 rA rB
  unfold overR
  cases hm : meetB WA HA zA WB HB zB O
  · rw [if_neg (by decide)]
    rw [hm] at CM
    clear hm
    go_enter Try.func36, Try.ntmps36
    go_wp2_with fail
    rw [HW.out]
    refine CM.out.mono ?_
    rintro _ w1 ⟨rfl, b⟩
    have B1 := Lib.hid (BW.out.trans (b.mono BW.out.size))
    clear b
    go_wp2_with fail
    go_ret2
    exact ⟨0, by simp only [pick_not (show isN .f32 0 = false from by decide +kernel)]; rfl, B1.out⟩
  · rw [if_pos rfl]
    rw [hm] at CM
    obtain ⟨h1, h2, h3, h4, h5, h6⟩ := meetB_true hm
    subst h3
    have hsA : sideB WA HA = true := by have h := h1; simp only [validB, Bool.and_eq_true] at h; exact h.1.1
    have hsB : sideB WB HA = true := by have h := h2; simp only [validB, Bool.and_eq_true] at h; exact h.1.1
    obtain ⟨⟨s1, s2⟩, s3, s4⟩ := sideB_true hsA
    obtain ⟨⟨t1, t2⟩, t3, t4⟩ := sideB_true hsB
    have hlA := (valid_len h1).1
    have hlB := (valid_len h2).1
    obtain ⟨Wa, rfl⟩ : ∃ n : Nat, WA = n := ⟨WA.toNat, by omega⟩
    obtain ⟨Hn, rfl⟩ : ∃ n : Nat, HA = n := ⟨HA.toNat, by omega⟩
    obtain ⟨Wb, rfl⟩ : ∃ n : Nat, WB = n := ⟨WB.toNat, by omega⟩
    obtain ⟨on, rfl⟩ : ∃ n : Nat, O = n := ⟨O.toNat, by omega⟩
    rw [← Int.natCast_mul] at hlA hlB
    have CE := Lib.hid (fun (w' : World) (hE : Below w0.heap.size w0 w') => c_l07Error Wa Wb Hn on zA aA cA zB aB cB _ _ w' (VA.out.keep hE) (VB.out.keep hE) (RA.out.below hE) (RB.out.below hE) (by omega) (by omega) (by omega) (by omega) (by omega) (by omega) (by omega) (by omega))
    unfold lapL
    simp only [Int.toNat_natCast]
    generalize meanV (missL zA zB Wa Wb on Hn) = v at *
    clear hm h1 h2 hsA hsB hlA hlB
    go_enter Try.func36, Try.ntmps36
    go_wp2_with fail
    rw [HW.out]
    refine CM.out.mono ?_
    rintro _ w1 ⟨rfl, b⟩
    have B1 := Lib.hid b
    clear b
    go_wp2_with fail
    refine (CE.out w1 B1.out).mono ?_
    rintro _ w2 ⟨n2, rfl, b⟩
    have B2 := Lib.hid ((BW.out.trans (B1.out.mono BW.out.size)).trans (b.mono (by have h1 := BW.out.size; have h2 := B1.out.size; omega)))
    clear b
    go_wp2_with fail
    refine (c_l02Number0 v n2 w2).mono ?_
    rintro _ _ ⟨k3, m3, rfl, rfl⟩
    go_wp2_with fail
    go_ret2
    exact ⟨_, rfl, below_drewN B2.out _⟩
/-! ### sidesOf -/
theorem c_sidesOf (W H : Int) (s : Value) (w : World) : Calls Try.prog 66 #[.agg #[.int .i64 W, .int .i64 H, s]] w (RetB (.agg #[.int .i64 W, .int .i64 H]) w) := by
  go_enter Try.func66, Try.ntmps66
  go_wp2
  exact bodyPost_ret (v := .agg #[.int .i64 W, .int .i64 H]) (by simp [results, Try.results66, go_sem]) rfl ⟨rfl, ((Below.refl _ _).alloc (Nat.le_refl _) _).alloc (by simp) _⟩
/-! ### allowed -/
theorem c_allowed (W H : Int) (w : World) : Calls Try.prog 112 #[.agg #[.int .i64 W, .int .i64 H]] w (RetB (.bool (sideB W H)) w) := by
  unfold sideB
  by_cases h1 : 1 ≤ W
  · by_cases h2 : W ≤ 16
    · by_cases h3 : 1 ≤ H
      · by_cases h4 : H ≤ 16
        all_goals
          go_enter Try.func112, Try.ntmps112
          go_wp2
          go_ret
          exact ⟨by simp [*] <;> (intros; omega), (Below.refl _ _).alloc (Nat.le_refl _) _⟩
      · go_enter Try.func112, Try.ntmps112
        go_wp2
        go_ret
        exact ⟨by simp [*] <;> (intros; omega), (Below.refl _ _).alloc (Nat.le_refl _) _⟩
    · go_enter Try.func112, Try.ntmps112
      go_wp2
      go_ret
      exact ⟨by simp [*] <;> (intros; omega), (Below.refl _ _).alloc (Nat.le_refl _) _⟩
  · go_enter Try.func112, Try.ntmps112
    go_wp2
    go_ret
    exact ⟨by simp [*] <;> (intros; omega), (Below.refl _ _).alloc (Nat.le_refl _) _⟩
/-! ### IsNaN -/
theorem c_IsNaN (v n : Nat) (w : World) (j : Nat) : Calls Try.prog 131 #[.float .f64 (pick .f64 v n)] (w.drewN j) (RetV (.bool (isN .f64 v)) w) := by
  go_enter Try.func131, Try.ntmps131
  go_wp2
  go_ret
  exact ⟨_, rfl, rfl⟩
/-! ### f64bits -/
@[go_sem] theorem e_f64bits (b : Nat) (w : World) : (callFunc 135 #[.float .f64 b]).run Try.prog w = .ok (.value (.int .u64 b)) w := by kernel_rfl
/-! ### f64from -/
@[go_sem] theorem e_f64from (n : Int) (w : World) : (callFunc 134 #[.int .u64 n]).run Try.prog w = .ok (.value (.float .f64 n.toNat)) w := by kernel_rfl
/-! ### Abs -/
theorem c_Abs (v n : Nat) (w : World) (j : Nat) (hv : v < 2 ^ FloatKind.f64.format.width) : Calls Try.prog 133 #[.float .f64 (pick .f64 v n)] (w.drewN j) (RetF .f64 (fabs .f64 v) w) := by
  have hb := abs_bits hv n
  go_enter Try.func133, Try.ntmps133
  go_wp2
  go_ret
  exact ⟨_, _, rfl, rfl⟩
/-! ### IsInf0 -/
theorem c_IsInf0 (v n : Nat) (w : World) (j : Nat) (hv : v < 2 ^ FloatKind.f64.format.width) : Calls Try.prog 132 #[.float .f64 (pick .f64 v n), .int .i64 0] (w.drewN j) (RetV (.bool (FloatKind.f64.format.order (fabs .f64 v) 9218868437227405311 == some .gt)) w) := by
  go_enter Try.func132, Try.ntmps132
  go_wp2_with ((go_at_call 133; refine (c_Abs _ _ _ _ hv).mono ?_; rintro _ _ ⟨_, _, rfl, rfl⟩))
  go_ret
  exact ⟨_, rfl, rfl⟩
/-! ### isFinite64 -/
theorem c_isFinite64 (v n : Nat) (w : World) (j : Nat) (hv : v < 2 ^ FloatKind.f64.format.width) : Calls Try.prog 129 #[.float .f64 (pick .f64 v n)] (w.drewN j) (RetV (.bool (finB .f64 v)) w) := by
  go_enter Try.func129, Try.ntmps129
  go_wp2_with (first | (go_at_call 131; refine (c_IsNaN _ _ _ _).mono ?_; rintro _ _ ⟨_, rfl, rfl⟩) | (go_at_call 132; refine (c_IsInf0 _ _ _ _ hv).mono ?_; rintro _ _ ⟨_, rfl, rfl⟩))
  all_goals
    go_ret
    refine ⟨_, ?_, rfl⟩
    rw [← abs_gt_max]
    simp [*]
/-! ### iIsFinite -/
theorem c_iIsFinite (v n : Nat) (w : World) (j : Nat) : Calls Try.prog 115 #[.float .f32 (pick .f32 v n)] (w.drewN j) (RetV (.bool (finB .f32 v)) w) := by
  go_enter Try.func115, Try.ntmps115
  go_wp2_with (first | (refine wpList_cvU rfl 38 42 _ rfl (Option.isSome_iff_exists.2 ⟨_, Try.underlying38⟩) Try.underlying42 _ rfl _ ?_; intro _ _) | (go_at_call 129; refine (c_isFinite64 _ _ _ _ (cvU_lt _)).mono ?_; rintro _ _ ⟨_, rfl, rfl⟩))
  go_ret
  rw [← finB_cvU]
  exact ⟨_, rfl, rfl⟩
/-! ### areFinite -/
theorem c_areFinite (a : Option Addr) (len cap : Nat) (zs : List Nat) (w : World) (j0 : Nat) (hr : IsRowF .f32 w a len cap zs) : Calls Try.prog 98 #[.slice a len cap] (w.drewN j0) (RetV (.bool (finL zs)) w) := by
  obtain ⟨h1, h2, h3, h4, h5⟩ := hr
  unfold maxLen at h3
  have H1 := Lib.hid h1
  clear h1
  go_enter Try.func98, Try.ntmps98
  go_wp2
  go_loopw [4, 7] (fun _ i wr => ∃ k m : Nat, k ≤ len ∧ i = .int .i64 k ∧ wr = w.drewN m ∧ finL (zs.take k) = true) (fun _ i _ => len - (intOf i).toNat)
  case atStart => exact ⟨0, j0, Nat.zero_le _, rfl, rfl, rfl⟩
  case round =>
    obtain ⟨k, m, hk, rfl, rfl, hfin⟩ := hrel
    have HFin := Lib.hid hfin
    clear hfin
    by_cases hlt : k < len
    · rcases h5 with h5 | ⟨b, off, rfl, hbl, hc⟩
      · omega
      have hcell : w.cell? ⟨b, off + k, none⟩ = some (.float .f32 (fat zs k)) := hc k hlt
      obtain ⟨n, hn⟩ := pick0 .f32 (fat zs k) (lt_of_wf (h4 _ (by unfold fat; rw [List.getD, List.getElem?_eq_getElem (by have := H1.out; omega)]; exact List.getElem_mem _)))
      rw [hn] at hcell
      have HS := Lib.hid (finL_snoc zs k (by have := H1.out; omega))
      cases hf : finB .f32 (fat zs k)
      · have HO := Lib.hid (finL_of zs k (by have := H1.out; omega) hf)
        clear hc h4 hn
        go_wp2_with ((go_at_call 115; refine (c_iIsFinite _ _ _ _).mono ?_; rintro _ _ ⟨_, rfl, rfl⟩))
        go_ret
        exact ⟨_, by rw [HO.out]; rfl, rfl⟩
      · have HF := Lib.hid hf
        clear hc h4 hn
        go_wp2_with ((go_at_call 115; refine (c_iIsFinite _ _ _ _).mono ?_; rintro _ _ ⟨_, rfl, rfl⟩))
        go_roundw
        case rel => exact ⟨k + 1, _, by omega, by go_num, rfl, by rw [HS.out, HFin.out, HF.out]; rfl⟩
        case measure => simp [intOf]; omega
    · have e : zs.take k = zs := List.take_of_length_le (by have := H1.out; omega)
      have HE := Lib.hid e
      clear h5 h4 e
      go_wp2
      go_ret
      exact ⟨_, by have h := HFin.out; rw [HE.out] at h; rw [h]; rfl, rfl⟩
/-! ### iValid -/
theorem c_areFinite0 (a : Option Addr) (len cap : Nat) (zs : List Nat) (w : World) (hr : IsRowF .f32 w a len cap zs) : Calls Try.prog 98 #[.slice a len cap] w (RetV (.bool (finL zs)) w) := by
  have h := c_areFinite a len cap zs w 0 hr
  rwa [w.drewN_zero] at h
theorem c_iValid (W H : Int) (a : Option Addr) (len cap : Nat) (zs : List Nat) (w : World) (hr : IsRowF .f32 w a len cap zs) :
    Calls Try.prog 64 #[.agg #[.int .i64 W, .int .i64 H, .slice a len cap]] w (RetB (.bool (validB W H zs)) w) := by
  have H1 := Lib.hid hr.1
  have HR := Lib.hid hr
  clear hr
  have two : ∀ s : Bool, sideB W H = s → (s = true → ∀ t : Bool, ((len : Int) == W * H) = t → (Calls Try.prog 64 #[.agg #[.int .i64 W, .int .i64 H, .slice a len cap]] w (RetB (.bool (validB W H zs)) w))) → (s = false → Calls Try.prog 64 #[.agg #[.int .i64 W, .int .i64 H, .slice a len cap]] w (RetB (.bool (validB W H zs)) w)) → Calls Try.prog 64 #[.agg #[.int .i64 W, .int .i64 H, .slice a len cap]] w (RetB (.bool (validB W H zs)) w) := by
    intro s hs h1 h2
    cases s
    · exact h2 rfl
    · exact h1 rfl _ rfl
  refine two _ rfl ?_ ?_
  · intro hs t ht
    obtain ⟨m1, m2⟩ := side_mul hs
    have mw : IntKind.i64.wrap (W * H) = W * H := IntWalk.i64_in _ (by omega)
    clear two
    cases t
    · have e : validB W H zs = false := by simp at ht; simp [validB, hs, H1.out, ht]
      have E := Lib.hid e
      have HT := Lib.hid hs
      clear e
      go_enter Try.func64, Try.ntmps64
      go_wp2_with fail
      refine (c_sidesOf W H _ _).mono ?_
      rintro _ w1 ⟨rfl, b1⟩
      obtain ⟨p0, p1, p2⟩ := ((Var.new _ _ _).keep b1).three
      have z1 : w.heap.size < w1.heap.size := by have := b1.size; simp at this; omega
      have B1 := Lib.hid (((Below.refl w.heap.size w).alloc (Nat.le_refl _) _).trans (b1.mono (by simp)))
      clear b1
      go_wp2_with fail
      refine (c_allowed W H _).mono ?_
      rintro _ w2 ⟨rfl, b2⟩
      rw [HT.out]
      have q0 := (b2.cell (p := ⟨w.heap.size, 0, none⟩) z1).trans p0
      have q1 := (b2.cell (p := ⟨w.heap.size, 1, none⟩) z1).trans p1
      have q2 := (b2.cell (p := ⟨w.heap.size, 2, none⟩) z1).trans p2
      have B2 := Lib.hid (B1.out.trans (b2.mono (by omega)))
      clear p0 p1 p2 b2 hs
      go_wp2_with fail
      go_ret
      exact ⟨by rw [E.out]; rfl, B2.out⟩
    · have e : validB W H zs = finL zs := by simp at ht; simp [validB, hs, H1.out, ht]
      have E := Lib.hid e
      have HT := Lib.hid hs
      clear e
      go_enter Try.func64, Try.ntmps64
      go_wp2_with fail
      refine (c_sidesOf W H _ _).mono ?_
      rintro _ w1 ⟨rfl, b1⟩
      obtain ⟨p0, p1, p2⟩ := ((Var.new _ _ _).keep b1).three
      have z1 : w.heap.size < w1.heap.size := by have := b1.size; simp at this; omega
      have B1 := Lib.hid (((Below.refl w.heap.size w).alloc (Nat.le_refl _) _).trans (b1.mono (by simp)))
      clear b1
      go_wp2_with fail
      refine (c_allowed W H _).mono ?_
      rintro _ w2 ⟨rfl, b2⟩
      rw [HT.out]
      have q0 := (b2.cell (p := ⟨w.heap.size, 0, none⟩) z1).trans p0
      have q1 := (b2.cell (p := ⟨w.heap.size, 1, none⟩) z1).trans p1
      have q2 := (b2.cell (p := ⟨w.heap.size, 2, none⟩) z1).trans p2
      have B2 := Lib.hid (B1.out.trans (b2.mono (by omega)))
      clear p0 p1 p2 b2 hs
      go_wp2_with fail
      refine (c_areFinite0 a len cap zs _ (HR.out.below B2.out)).mono ?_
      rintro _ w3 ⟨m, rfl, rfl⟩
      rw [← E.out]
      go_wp2_with fail
      go_ret
      exact ⟨rfl, below_drewN B2.out _⟩
  · intro hs
    have e : validB W H zs = false := by simp [validB, hs]
    have E := Lib.hid e
    have HT := Lib.hid hs
    clear e two
    go_enter Try.func64, Try.ntmps64
    go_wp2_with fail
    refine (c_sidesOf W H _ _).mono ?_
    rintro _ w1 ⟨rfl, b1⟩
    have B1 := Lib.hid (((Below.refl w.heap.size w).alloc (Nat.le_refl _) _).trans (b1.mono (by simp)))
    have z1 : w.heap.size < w1.heap.size := by have := b1.size; simp at this; omega
    clear b1
    go_wp2_with fail
    refine (c_allowed W H _).mono ?_
    rintro _ w2 ⟨rfl, b2⟩
    rw [HT.out]
    have B2 := Lib.hid (B1.out.trans (b2.mono (by omega)))
    clear b2 hs
    go_wp2_with fail
    go_ret
    exact ⟨by rw [E.out]; rfl, B2.out⟩
/-! ### ifValid -/
theorem c_ifValid_yes (W H : Int) (a : Option Addr) (len cap : Nat) (zs : List Nat) (w : World) (hr : IsRowF .f32 w a len cap zs) (hv : validB W H zs = true) : Calls Try.prog 103 #[.agg #[.int .i64 W, .int .i64 H, .slice a len cap]] w (RetB (.tuple #[.agg #[.int .i64 W, .int .i64 H, .slice a len cap], .bool true]) w) := by
  have HR := Lib.hid hr
  have HV := Lib.hid hv
  clear hr hv
  go_enter Try.func103, Try.ntmps103
  go_wp2_with fail
  refine (c_iValid W H a len cap zs _ ((HR.out.alloc _).alloc _)).mono ?_
  rintro _ w1 ⟨rfl, b⟩
  rw [HV.out]
  have V1 := Lib.hid ((((Var.new' _ _ _ (w.heap.size) rfl).alloc _)).keep b)
  have V2 := Lib.hid ((Var.new' _ _ _ (w.heap.size + 1) (by simp)).keep b)
  have z1 : w.heap.size + 1 < w1.heap.size := by have := b.size; simp at this; omega
  have B1 := Lib.hid ((((Below.refl w.heap.size w).alloc (Nat.le_refl _) _).alloc (by simp) _).trans (b.mono (by simp; omega)))
  have Fr := Lib.hid ((Free.new' _ _ _ (w.heap.size + 1) (by simp)).below (by simp <;> omega) b)
  clear b
  obtain ⟨p0, p1, p2⟩ := V1.out.three
  obtain ⟨q0, q1, q2⟩ := V2.out.three
  have f0 := Fr.out 0
  have f1 := Fr.out 1
  have f2 := Fr.out 2
  go_wp2_with fail
  refine bodyPost_ret (v := .tuple #[.agg #[.int .i64 W, .int .i64 H, .slice a len cap], .bool true]) (by simp [results, Try.results103, q0, q1, q2, go_sem]) rfl ⟨rfl, ?_⟩
  exact ((B1.out.setCell (by simp <;> omega) _).setCell (by simp <;> omega) _).setCell (by simp <;> omega) _
theorem c_ifValid_no (W H : Int) (a : Option Addr) (len cap : Nat) (zs : List Nat) (w : World) (hr : IsRowF .f32 w a len cap zs) (hv : validB W H zs = false) : Calls Try.prog 103 #[.agg #[.int .i64 W, .int .i64 H, .slice a len cap]] w (RetB (.tuple #[.agg #[.int .i64 0, .int .i64 0, .slice none 0 0], .bool false]) w) := by
  have HR := Lib.hid hr
  have HV := Lib.hid hv
  clear hr hv
  go_enter Try.func103, Try.ntmps103
  go_wp2_with fail
  refine (c_iValid W H a len cap zs _ ((HR.out.alloc _).alloc _)).mono ?_
  rintro _ w1 ⟨rfl, b⟩
  rw [HV.out]
  have V2 := Lib.hid ((Var.new' _ _ _ (w.heap.size + 1) (by simp)).keep b)
  have z1 : w.heap.size + 1 < w1.heap.size := by have := b.size; simp at this; omega
  have B1 := Lib.hid ((((Below.refl w.heap.size w).alloc (Nat.le_refl _) _).alloc (by simp) _).trans (b.mono (by simp; omega)))
  have Fr := Lib.hid ((Free.new' _ _ _ (w.heap.size + 1) (by simp)).below (by simp <;> omega) b)
  clear b
  obtain ⟨q0, q1, q2⟩ := V2.out.three
  have f0 := Fr.out 0
  have f1 := Fr.out 1
  have f2 := Fr.out 2
  go_wp2_with fail
  refine bodyPost_ret (v := .tuple #[.agg #[.int .i64 0, .int .i64 0, .slice none 0 0], .bool false]) (by simp [results, Try.results103, q0, q1, q2, go_sem]) rfl ⟨rfl, ?_⟩
  exact ((B1.out.setCell (by simp <;> omega) _).setCell (by simp <;> omega) _).setCell (by simp <;> omega) _

/-! ### rowOf -/
theorem c_rowOf (Wn Hn : Nat) (a : Option Addr) (cap : Nat) (zs : List Nat) (y : Nat) (w : World) (hr : IsRowF .f32 w a zs.length cap zs) (hW1 : 1 ≤ Wn) (hW2 : Wn ≤ 16) (hH2 : Hn ≤ 16) (hl : zs.length = Wn * Hn) (hy : y < Hn) :
    Calls Try.prog 72 #[.agg #[.int .i64 (Wn : Int), .int .i64 (Hn : Int), .slice a zs.length cap], .int .i64 (y : Int)] w (fun e w' => ∃ b off, a = some ⟨b, off, none⟩ ∧ e = .returned (.slice (some ⟨b, off + y * Wn, none⟩) Wn Wn) ∧ Below w.heap.size w w') := by
  obtain ⟨hb1, hb2⟩ := mul_bound hy hW2 hH2
  obtain ⟨N, hN⟩ : ∃ N, N = zs.length := ⟨_, rfl⟩
  obtain ⟨P, hP⟩ : ∃ P : Nat, P = y * Wn := ⟨_, rfl⟩
  have hPi : (y : Int) * (Wn : Int) = (P : Int) := by rw [hP, Int.natCast_mul]
  have hPi2 : ((y : Int) + 1) * (Wn : Int) = (P : Int) + (Wn : Int) := by rw [Int.add_mul, hPi, Int.one_mul]
  rw [← hP] at hb1 hb2 ⊢
  rw [← hl, ← hN] at hb1
  rw [← hN] at hr ⊢
  have hcap : N ≤ cap := hr.2.1
  have hcm : cap ≤ maxLen := hr.2.2.1
  unfold maxLen at hcm
  obtain ⟨b, off, n0, rfl, hb, e0⟩ := hr.at (k := 0) (by omega)
  have M1 := Lib.hid (show IntKind.i64.wrap ((y : Int) * (Wn : Int)) = (P : Int) by rw [hPi]; exact IntWalk.i64_in _ (by omega))
  have M2 := Lib.hid (show IntKind.i64.wrap (((y : Int) + 1) * (Wn : Int)) = (P : Int) + (Wn : Int) by rw [hPi2]; exact IntWalk.i64_in _ (by omega))
  have M3 := Lib.hid (show IntKind.i64.wrap ((y : Int) + 1) = (y : Int) + 1 from IntWalk.i64_in _ (by omega))
  have hc2 : P + Wn ≤ cap := by omega
  clear hN hP hPi hPi2 hl hr hb e0 n0
  generalize hw0 : w.alloc (Obj.cells #[.int .i64 (Wn : Int), .int .i64 (Hn : Int), .slice (some ⟨b, off, none⟩) N cap] 26) = w0
  have X0 : Var w0 w.heap.size #[.int .i64 (Wn : Int), .int .i64 (Hn : Int), .slice (some ⟨b, off, none⟩) N cap] := by subst hw0; exact Var.new _ _ _
  have X3 : Below w.heap.size w w0 := by subst hw0; exact (Below.refl _ _).alloc (Nat.le_refl _) _
  have HW := Lib.hid hw0
  have B0 := Lib.hid X3
  obtain ⟨v0, v1, v2⟩ := X0.three
  clear hw0 X0 X3
  go_enter Try.func72, Try.ntmps72
  go_wp2_with fail
  rw [HW.out]
  rw [← w0.drewN_zero]
  have m1 := M1.out
  have m2 := M2.out
  have m3 := M3.out
  refine wp_region_N (fun _ _ _ => True) (by kernel_rfl) (by kernel_rfl) ?_; (repeat (first | ((with_reducible show wpN _ _ _ _ _ (Oper.mk _ (Op.binOp _ _ _ _ _) _ _ _ none :: _) _); refine wpN_fop rfl _ _ _ _ _ rfl _ _ _ rfl rfl (by decide) ?_; intro _) | ((with_reducible show wpN _ _ _ _ _ (Oper.mk _ (Op.convert _ _ _) _ _ _ none :: _) _); refine wpN_cvU rfl 38 42 _ rfl (Option.isSome_iff_exists.2 ⟨_, Try.underlying38⟩) Try.underlying42 _ rfl ?_; intro _) | ((with_reducible show wpN _ _ _ _ _ (Oper.mk _ _ _ _ _ (some _) :: _) _); (with_reducible refine wpN_off ?_ ?_); focus rfl; (simp only [Act.put, List.setIfInBounds_toArray, List.set_cons_zero, List.set_cons_succ])) | ((with_reducible show wpN _ _ _ _ _ (Oper.mk _ _ _ _ _ (some _) :: _) _); ((with_reducible refine wpN_on ?_ (fun K hK => ?_)); (focus rfl); intro _; go_simp; first | (refine uponN_value (hK _ ?_)) | (fail; refine hK _ ?_)); clear hK K) | (((with_reducible refine wpN_plain rfl (fun K hK => ?_)); intro _; go_simp; first | (refine uponN_value (hK _ ?_)) | (fail; refine hK _ ?_)); clear hK K) | ((with_reducible refine wpN_step (fun K hK => ?_)); go_simp; first | (refine hK _ ?_) | (intro _; first | (refine uponN_value (hK _ ?_)) | (fail; refine hK _ ?_)); clear hK K))); refine wpN_nil ?_; intro _
  clear m1 m2 m3
  go_wp2_with fail
  go_ret
  exact ⟨b, off, rfl, by simp, below_drewN B0.out _⟩

/-! ### iCropAny -/
theorem c_fits (a l r : Int) (w : World) (j : Nat) (h2 : 1 ≤ r ∧ r ≤ 16) : Calls Try.prog 130 #[.int .i64 a, .int .i64 l, .int .i64 r] (w.drewN j) (RetV (.bool (fitsB a l r)) w) := by
  unfold fitsB
  by_cases g1 : 0 ≤ a
  · by_cases g2 : 1 ≤ l
    · by_cases g3 : l ≤ r
      · have mw : IntKind.i64.wrap (r - l) = r - l := IntWalk.i64_in _ (by omega)
        by_cases g4 : a ≤ r - l
        all_goals
          go_enter Try.func130, Try.ntmps130
          go_wp2
          go_ret
          exact ⟨_, by simp [*] <;> (intros; omega), rfl⟩
      · go_enter Try.func130, Try.ntmps130
        go_wp2
        go_ret
        exact ⟨_, by simp [*] <;> (intros; omega), rfl⟩
    · go_enter Try.func130, Try.ntmps130
      go_wp2
      go_ret
      exact ⟨_, by simp [*] <;> (intros; omega), rfl⟩
  · go_enter Try.func130, Try.ntmps130
    go_wp2
    go_ret
    exact ⟨_, by simp [*] <;> (intros; omega), rfl⟩
theorem crop_no' {WA HA : Int} {zA : List Nat} {x y wd hg : Int} (h : validB WA HA zA = false ∨ fitsB x wd WA = false ∨ fitsB y hg HA = false) : resCrop WA HA zA x y wd hg = PRes.no := by
  unfold resCrop
  rcases h with h | h | h <;> simp [h]
theorem c_iCropAny (WA HA : Int) (zA : List Nat) (aA : Option Addr) (cA : Nat) (x y wd hg : Int) (w : World) (rA : IsRowF .f32 w aA zA.length cA zA) : Calls Try.prog 120 #[.agg #[.int .i64 WA, .int .i64 HA, .slice aA zA.length cA], .int .i64 x, .int .i64 y, .int .i64 wd, .int .i64 hg] w (RetP 38 (resCrop WA HA zA x y wd hg) w) := by
  generalize hw0 : (w.alloc (Obj.cells #[.int .i64 WA, .int .i64 HA, .slice aA zA.length cA] 26)).alloc (Obj.cells #[.int .i64 0, .int .i64 0, .slice none 0 0] 26) = w0
  have X0 : Var w0 w.heap.size #[.int .i64 WA, .int .i64 HA, .slice aA zA.length cA] := by subst hw0; exact (Var.new _ _ _).alloc _
  have X1 : Var w0 (w.heap.size + 1) #[.int .i64 0, .int .i64 0, .slice none 0 0] := by subst hw0; exact Var.new' _ _ _ _ (by simp)
  have X2 : Free w0 (w.heap.size + 1) := by subst hw0; exact Free.new' _ _ _ _ (by simp)
  have X3 : Below w.heap.size w w0 := by subst hw0; exact ((Below.refl _ _).alloc (Nat.le_refl _) _).alloc (by simp) _
  have X4 : w0.heap.size = w.heap.size + 1 + 1 := by subst hw0; simp
  have HW := Lib.hid hw0
  have V0 := Lib.hid X0
  have V1 := Lib.hid X1
  have F1 := Lib.hid X2
  have B0 := Lib.hid X3
  have RX := Lib.hid (rA.below X3)
  have CV := Lib.hid (c_iValid WA HA aA _ cA zA w0 (rA.below X3))
  clear hw0 X0 X1 X2 X3
  cases hv : validB WA HA zA
  · rw [crop_no' (.inl hv)]
    have HS := Lib.hid hv
    clear hv rA
    go_enter Try.func120, Try.ntmps120
    go_wp2_with fail
    rw [HW.out]
    refine CV.out.mono ?_
    rintro _ w1 ⟨rfl, b⟩
    rw [HS.out]
    have UU := Lib.hid (V0.out.keep b)
    have VV := Lib.hid (V1.out.keep b)
    have FF := Lib.hid (F1.out.below V1.out.lt b)
    have BB := Lib.hid (B0.out.trans (b.mono (by omega)))
    have RR := Lib.hid (RX.out.below b)
    have zz : w.heap.size + 1 < w1.heap.size := VV.out.lt
    clear b
    obtain ⟨u0, u1, u2⟩ := UU.out.three
    obtain ⟨q0, q1, q2⟩ := VV.out.three
    have f0 := FF.out 0
    have f1 := FF.out 1
    have f2 := FF.out 2
    rw [← w1.drewN_zero]
    go_wp2_with fail
    refine bodyPost_ret (v := .tuple #[.agg #[.int .i64 0, .int .i64 0, .slice none 0 0], .bool false]) (by simp [results, Try.results120, q0, q1, q2, go_sem]) rfl (show RetP _ PRes.no _ _ _ from ⟨none, 0, rfl, Nat.zero_le _, ?_, Own.nil _ _ _⟩)
    repeat (first | exact BB.out | exact Nat.le_refl _ | (refine Below.setCell ?_ ?_ _) | (refine below_drewN ?_ _) | (refine Below.alloc ?_ ?_ _) | (simp <;> omega))
  have hsb : sideB WA HA = true := by have h := hv; simp only [validB, Bool.and_eq_true] at h; exact h.1.1
  obtain ⟨⟨s1, s2⟩, s3, s4⟩ := sideB_true hsb
  clear hsb
  have FX := Lib.hid (fun (w1 : World) (j : Nat) => c_fits x wd WA w1 j ⟨s1, s2⟩)
  have FY := Lib.hid (fun (w1 : World) (j : Nat) => c_fits y hg HA w1 j ⟨s3, s4⟩)
  cases h1 : fitsB x wd WA
  · rw [crop_no' (.inr (.inl h1))]
    have HS := Lib.hid hv
    clear hv rA
    go_enter Try.func120, Try.ntmps120
    go_wp2_with fail
    rw [HW.out]
    refine CV.out.mono ?_
    rintro _ w1 ⟨rfl, b⟩
    rw [HS.out]
    have UU := Lib.hid (V0.out.keep b)
    have VV := Lib.hid (V1.out.keep b)
    have FF := Lib.hid (F1.out.below V1.out.lt b)
    have BB := Lib.hid (B0.out.trans (b.mono (by omega)))
    have RR := Lib.hid (RX.out.below b)
    have zz : w.heap.size + 1 < w1.heap.size := VV.out.lt
    clear b
    obtain ⟨u0, u1, u2⟩ := UU.out.three
    obtain ⟨q0, q1, q2⟩ := VV.out.three
    have f0 := FF.out 0
    have f1 := FF.out 1
    have f2 := FF.out 2
    rw [← w1.drewN_zero]
    go_wp2_with (go_at_call 130; first | ((with_reducible refine (FX.out _ _).mono ?_); rintro _ _ ⟨_, rfl, rfl⟩) | ((with_reducible refine (FY.out _ _).mono ?_); rintro _ _ ⟨_, rfl, rfl⟩))
    refine bodyPost_ret (v := .tuple #[.agg #[.int .i64 0, .int .i64 0, .slice none 0 0], .bool false]) (by simp [results, Try.results120, q0, q1, q2, go_sem]) rfl (show RetP _ PRes.no _ _ _ from ⟨none, 0, rfl, Nat.zero_le _, ?_, Own.nil _ _ _⟩)
    repeat (first | exact BB.out | exact Nat.le_refl _ | (refine Below.setCell ?_ ?_ _) | (refine below_drewN ?_ _) | (refine Below.alloc ?_ ?_ _) | (simp <;> omega))
  cases h2 : fitsB y hg HA
  · rw [crop_no' (.inr (.inr h2))]
    have HS := Lib.hid hv
    clear hv rA
    go_enter Try.func120, Try.ntmps120
    go_wp2_with fail
    rw [HW.out]
    refine CV.out.mono ?_
    rintro _ w1 ⟨rfl, b⟩
    rw [HS.out]
    have UU := Lib.hid (V0.out.keep b)
    have VV := Lib.hid (V1.out.keep b)
    have FF := Lib.hid (F1.out.below V1.out.lt b)
    have BB := Lib.hid (B0.out.trans (b.mono (by omega)))
    have RR := Lib.hid (RX.out.below b)
    have zz : w.heap.size + 1 < w1.heap.size := VV.out.lt
    clear b
    obtain ⟨u0, u1, u2⟩ := UU.out.three
    obtain ⟨q0, q1, q2⟩ := VV.out.three
    have f0 := FF.out 0
    have f1 := FF.out 1
    have f2 := FF.out 2
    rw [← w1.drewN_zero]
    go_wp2_with (go_at_call 130; first | ((with_reducible refine (FX.out _ _).mono ?_); rintro _ _ ⟨_, rfl, rfl⟩) | ((with_reducible refine (FY.out _ _).mono ?_); rintro _ _ ⟨_, rfl, rfl⟩))
    refine bodyPost_ret (v := .tuple #[.agg #[.int .i64 0, .int .i64 0, .slice none 0 0], .bool false]) (by simp [results, Try.results120, q0, q1, q2, go_sem]) rfl (show RetP _ PRes.no _ _ _ from ⟨none, 0, rfl, Nat.zero_le _, ?_, Own.nil _ _ _⟩)
    repeat (first | exact BB.out | exact Nat.le_refl _ | (refine Below.setCell ?_ ?_ _) | (refine below_drewN ?_ _) | (refine Below.alloc ?_ ?_ _) | (simp <;> omega))
  have hres : resCrop WA HA zA x y wd hg = ⟨wd, hg, cropL zA WA.toNat x.toNat y.toNat wd.toNat hg.toNat, true⟩ := by unfold resCrop; rw [hv, h1, h2]; rfl
  rw [hres]
  clear hres
  have HS := Lib.hid hv
  have H1 := Lib.hid h1
  have H2 := Lib.hid h2
  have hb := hv
  have hfx := h1
  have hfy := h2
  clear hv h1 h2
  obtain ⟨Wn, Hn, xn, yn, wn, hn, rfl, rfl, rfl, rfl, rfl, rfl, hln, hW16, hH16, hw1, hh1, hxw, hyh⟩ := crop_nats hb hfx hfy
  rw [Int.toNat_natCast, Int.toNat_natCast, Int.toNat_natCast, Int.toNat_natCast, Int.toNat_natCast]
  have hl1 := (valid_len hb).2.2
  have hfinz := valid_fin hb
  have RAw := rA.2.2.2.1
  obtain ⟨N, hNN⟩ : ∃ N, N = wn * hn := ⟨_, rfl⟩
  have hN2 : N ≤ 256 := by rw [hNN]; exact Nat.le_trans (Nat.mul_le_mul (show wn ≤ 16 by omega) (show hn ≤ 16 by omega)) (by decide)
  have mw : IntKind.i64.wrap ((wn : Int) * (hn : Int)) = (N : Int) := by rw [hNN]; rw [show ((wn : Int) * (hn : Int)) = ((wn * hn : Nat) : Int) by rw [Int.natCast_mul]]; exact IntWalk.i64_in _ (by omega)
  obtain ⟨L, hL⟩ : ∃ L, L = cropL zA Wn xn yn wn hn := ⟨_, rfl⟩
  have HAt := Lib.hid (fun (k : Nat) (hk : k < N) => (by rw [hL]; exact cropL_at (by rw [← hNN]; exact hk) : fat L k = fat zA (cropK Wn xn yn wn k)))
  have HLn := Lib.hid (show L.length = N by rw [hL, cropL_len, hNN])
  have HFi := Lib.hid (show L.all (finB .f32) = true by rw [hL]; exact crop_fin hln hxw hyh hw1 hfinz)
  have HLw := Lib.hid (show ∀ b ∈ L, (Lit.float .f32 b).wf = true by rw [hL]; exact fun b h => RAw _ (crop_mem2 hln hxw hyh hw1 b h))
  have HLT := Lib.hid (fun (k : Nat) (hk : k < N) => lt_of_wf (RAw _ (crop_mem (k := k) hln hxw hyh hw1 (by rw [← hNN]; exact hk))))
  have HDv := Lib.hid (fun (k : Nat) (hk : k < N) => crop_div (wn := wn) (hn := hn) (k := k) (by rw [← hNN]; exact hk) hw1)
  have HLL := Lib.hid hln
  have HVal := Lib.hid (show validB (wn : Int) (hn : Int) L = true by rw [hL]; exact crop_valid hln hxw hyh hw1 hh1 hW16 hH16 hfinz)
  have HNN := Lib.hid hNN
  have hW1 : 1 ≤ Wn := by omega
  rw [← hL]
  have HSeg := Lib.hid (fun (j t : Nat) (hj : j < hn) (ht : t < wn) => (by
    have hk : j * wn + t < wn * hn := by
      have h9 : (j + 1) * wn ≤ hn * wn := Nat.mul_le_mul_right _ (by omega)
      rw [Nat.succ_mul, Nat.mul_comm hn wn] at h9; omega
    rw [hL, cropL_at hk]
    unfold cropK
    rw [Nat.mul_comm j wn, Nat.mul_add_div (by omega), Nat.div_eq_of_lt ht, Nat.add_zero, Nat.mul_add_mod, Nat.mod_eq_of_lt ht] : fat L (j * wn + t) = fat zA ((yn + j) * Wn + (xn + t))))
  clear hL hb hfx hfy hfinz RAw rA hNN
  have CR := Lib.hid (fun (j : Nat) (hj : j < hn) (w' : World) (hr : IsRowF .f32 w' aA zA.length cA zA) => @id (Calls Try.prog 72 #[.agg #[.int .i64 (Wn : Int), .int .i64 (Hn : Int), .slice aA zA.length cA], .int .i64 ((yn : Int) + (j : Int))] w' (fun e w'' => ∃ b off, aA = some ⟨b, off, none⟩ ∧ e = .returned (.slice (some ⟨b, off + (yn + j) * Wn, none⟩) Wn Wn) ∧ Below w'.heap.size w' w'')) (by
    have h := c_rowOf Wn Hn aA cA zA (yn + j) w' hr hW1 hW16 hH16 hln (by omega)
    rwa [Int.natCast_add] at h))
  clear hln
  obtain ⟨i0, hinf, hz0, hz1, hz2⟩ := info_parts infoFo
  have h1 := H1.out
  have h2 := H2.out
  go_enter Try.func120, Try.ntmps120
  go_wp2_with fail
  rw [HW.out]
  refine CV.out.mono ?_
  rintro _ w1 ⟨rfl, b⟩
  rw [HS.out]
  have UU := Lib.hid (V0.out.keep b)
  have VV := Lib.hid (V1.out.keep b)
  have FF := Lib.hid (F1.out.below V1.out.lt b)
  have BB := Lib.hid (B0.out.trans (b.mono (by omega)))
  have RR := Lib.hid (RX.out.below b)
  have zz : w.heap.size + 1 < w1.heap.size := VV.out.lt
  clear b
  obtain ⟨u0, u1, u2⟩ := UU.out.three
  obtain ⟨q0, q1, q2⟩ := VV.out.three
  have f0 := FF.out 0
  have f1 := FF.out 1
  have f2 := FF.out 2
  rw [← w1.drewN_zero]
  have KX := Lib.hid (fun (wr : World) (hB : Below w1.heap.size w1 wr) => (UU.out.keep hB).three)
  clear f0 f1 f2 q0 q1 q2
  go_wp2_with (first | (go_at_call 130; first | ((with_reducible refine (FX.out _ _).mono ?_); rintro _ _ ⟨_, rfl, rfl⟩) | ((with_reducible refine (FY.out _ _).mono ?_); rintro _ _ ⟨_, rfl, rfl⟩)) | (at_make; refine wpList_make_own _ rfl _ _ 22 rfl w1.heap.size 38 i0 (.float .f32 0) 1 Try.underlying22 hinf hz0 hz1 _ _ _ N rfl rfl rfl (by rw [hz2]; omega) (by unfold maxLen; omega) (by simp) ?_; intro w4 hown hgrow; have B4 : Below w1.heap.size w1 w4 := (below_drewN (Below.refl _ _) _).grown hgrow (by simp) (by simp); obtain ⟨g0, g1, g2⟩ := KX.out w4 B4))
  have OW : Own 38 w4 w1.heap.size (some ⟨w1.heap.size, 0, none⟩) 0 N [] := ⟨rfl, hown, by simp⟩
  have HO4 := Lib.hid OW
  have HB4 := Lib.hid B4
  clear hown hgrow B4 OW u0 u1 u2 g0 g1 g2 mw h1 h2
  go_loopw [12, 13, 14, 40] (fun l _ _ i wr => ∃ (j k : Nat) (a : Option Addr) (c : Nat), j ≤ hn ∧ k = j * wn ∧ i = .int .i64 j ∧ l = .slice a k c ∧ Own 38 wr w1.heap.size a k c (L.take k) ∧ Below w1.heap.size w1 wr) (fun _ _ _ i _ => hn - (intOf i).toNat)
  case atStart => exact ⟨0, 0, _, _, Nat.zero_le _, by simp, rfl, rfl, HO4.out, HB4.out⟩
  case round =>
    obtain ⟨j, k, a, c, hj, hk, rfl, rfl, hO, hB⟩ := hrel
    have HO := Lib.hid hO
    have HB := Lib.hid hB
    have HK := Lib.hid hk
    clear hO hB hk
    obtain ⟨d0, d1, d2⟩ := KX.out wr HB.out
    by_cases hlj : j < hn
    · have hkN : k + wn ≤ N := by
        rw [HNN.out, HK.out]
        have h9 : (j + 1) * wn ≤ hn * wn := Nat.mul_le_mul_right _ (by omega)
        rw [Nat.succ_mul, Nat.mul_comm hn wn] at h9; exact h9
      go_wp2_with fail
      refine (CR.out j hlj _ (RR.out.below HB.out)).mono ?_
      rintro _ w5 ⟨b0, off, rfl, rfl, b5⟩
      have HO5 := Lib.hid (HO.out.below b5)
      have HB5 := Lib.hid (HB.out.trans (b5.mono HB.out.size))
      have z5 : w1.heap.size ≤ w5.heap.size := HB5.out.size
      have R5 := Lib.hid ((RR.out.below HB.out).below b5)
      clear b5 d0 d1 d2
      obtain ⟨P, hP⟩ : ∃ P, P = (yn + j) * Wn := ⟨_, rfl⟩
      rw [← hP]
      have HP := Lib.hid hP
      clear hP
      have HSL := Lib.hid (show ((L.drop k).take wn).length = wn by rw [List.length_take, List.length_drop, HLn.out]; omega)
      go_wp2_with (at_builtin; (refine wpList_append_own _ rfl _ _ 22 rfl w1.heap.size 38 i0 (.float .f32 0) 1 4 Try.underlying22 hinf hz0 hz1 hz2 rfl (by decide) _ _ _ rfl (HO5.out.2.1) ⟨b0, off + P + xn, none⟩ (xn + wn - xn) (xn + wn - xn) (fl .f32 ((L.drop k).take wn)) rfl ?c1 ?c2 ?c3 ?c4 ?c5 ?c6 ?_))
      case c1 => first | (unfold fl; rw [List.length_map, HSL.out]; omega) | (simp [fl]; have := HLn.out; omega)
      case c2 =>
        intro t u hu
        have ht : t < wn := by
          have h7 := (List.getElem?_eq_some_iff.1 hu).1
          unfold fl at h7
          rw [List.length_map, HSL.out] at h7
          exact h7
        have e1 : (fl FloatKind.f32 ((L.drop k).take wn))[t]? = some (.float .f32 (fat L (k + t))) := by
          have hkt : k + t < L.length := by rw [HLn.out]; omega
          simp [fl, fat, ht, hkt]
        rw [e1] at hu
        cases hu
        have e2 := HSeg.out j t hlj ht
        rw [← HK.out, ← HP.out] at e2
        have hidx := crop_idx hxw hyh ht hlj
        rw [← HLL.out, ← HP.out] at hidx
        have hcell := (by
          have h := R5.out.2.2.2.2
          rcases h with h | ⟨b', off', he, hb', hc'⟩
          · omega
          · cases he; exact hc' _ hidx : w5.cell? ⟨b0, off + (P + (xn + t)), none⟩ = some (.float .f32 (fat zA (P + (xn + t)))))
        have e3 : ((⟨b0, off + P + xn, none⟩ : Addr).add t) = ⟨b0, off + (P + (xn + t)), none⟩ := by
          have e4 : ((⟨b0, off + P + xn, none⟩ : Addr).add t) = ⟨b0, off + P + xn + t, none⟩ := by simp [Addr.add]
          rw [e4, show off + P + xn + t = off + (P + (xn + t)) by omega]
        rw [e3, hcell, e2]
      case c3 => intro u hu; unfold fl at hu; obtain ⟨q, _, rfl⟩ := List.mem_map.1 hu; rfl
      case c4 => unfold maxLen; omega
      case c5 => omega
      case c6 => exact z5
      intro v' w6 hown' hgrow _
      try rw [Nat.add_sub_cancel_left] at hown'
      have hB6 : Below w1.heap.size w1 w6 := HB5.out.grown hgrow z5 (fun g e => by have := HO5.out.in g (by rw [← own_blk _ k c]; exact e); exact this.1)
      have hT : L.take k ++ (L.drop k).take wn = L.take (k + wn) := (List.take_add).symm
      obtain ⟨a', c', rfl, hO6⟩ := own_apps hown' HO5.out.1 HSL.out hw1 (by rw [hT]; exact fun b h => HLw.out b (List.mem_of_mem_take h))
      rw [hT] at hO6
      have GO := Lib.hid hO6
      have GB := Lib.hid hB6
      clear hown' hgrow hB6 hO6 hT
      go_wp2_with fail
      go_roundw
      case rel => exact ⟨j + 1, k + wn, a', c', by omega, by rw [HK.out, Nat.succ_mul], by go_num, rfl, GO.out, GB.out⟩
      case measure => simp [intOf]; omega
    · obtain rfl : j = hn := by omega
      have hkN : k = N := by rw [HK.out, HNN.out, Nat.mul_comm]
      subst hkN
      have hO2 : Own 38 wr w1.heap.size a k c L := by have h := HO.out; rwa [List.take_of_length_le (by rw [HLn.out]; exact Nat.le_refl _)] at h
      have O2 := Lib.hid hO2
      clear hO2
      have VR := Lib.hid (VV.out.keep HB.out)
      have FR := Lib.hid (FF.out.below zz HB.out)
      have BW := Lib.hid (BB.out.trans (HB.out.mono (by omega)))
      have SW : w1.heap.size ≤ wr.heap.size := HB.out.size
      go_wp2_with fail
      refine (c_ifValid_yes _ _ _ _ _ _ wr O2.out.row HVal.out).mono ?_
      rintro _ wz ⟨rfl, b⟩
      obtain ⟨cr0, cr1, cr2⟩ := (VR.out.keep b).three
      have fr := FR.out.below (by omega) b
      have f0 := fr 0
      have f1 := fr 1
      have f2 := fr 2
      have hsz := b.size
      have HB2 := Lib.hid (BW.out.trans (b.mono (by omega)))
      have HO2 := Lib.hid (O2.out.below b)
      clear fr b
      go_wp2_with fail
      have hrow : blk a ≠ some (w.heap.size + 1) := fun e => by have := HO2.out.in _ e; omega
      refine bodyPost_ret (v := .tuple #[.agg #[.int .i64 (wn : Int), .int .i64 (j : Int), .slice a k c], .bool true]) (by simp [results, Try.results120, cr0, cr1, cr2, go_sem]) rfl ⟨_, _, by rw [HLn.out], by (show L.length ≤ 1048576); rw [HLn.out]; omega, ((HB2.out.setCell (by simp <;> omega) _).setCell (by simp <;> omega) _).setCell (by simp <;> omega) _, (((Own.re HLn.out.symm HO2.out).setCell hrow _).setCell hrow _).setCell hrow _ |>.mono (by omega)⟩
/-! ### setSnoc -/
theorem set_snoc (zs : List Nat) (n k v : Nat) (hz : zs.length = k) (hk : k < n) : (fl .f32 zs ++ List.replicate (n - k) (Value.float .f32 0)).set k (.float .f32 v) = fl .f32 (zs ++ [v]) ++ List.replicate (n - (k + 1)) (Value.float .f32 0) := by
  obtain ⟨r, hr⟩ : ∃ r, n - k = r + 1 := ⟨n - k - 1, by omega⟩
  have hr2 : n - (k + 1) = r := by omega
  have hl : (fl .f32 zs).length = k := by simp [fl, hz]
  rw [hr, hr2, List.set_append_right _ _ (by omega), hl, Nat.sub_self, List.replicate_succ, List.set_cons_zero]
  simp [fl]
/-! ### areAlike -/
theorem c_areAlike (WA HA : Int) (zA : List Nat) (aA : Option Addr) (cA : Nat) (WB HB : Int) (zB : List Nat) (aB : Option Addr) (cB : Nat) (w : World) (rA : IsRowF .f32 w aA zA.length cA zA) (rB : IsRowF .f32 w aB zB.length cB zB) : Calls Try.prog 80 #[.agg #[.int .i64 WA, .int .i64 HA, .slice aA zA.length cA], .agg #[.int .i64 WB, .int .i64 HB, .slice aB zB.length cB]] w (RetB (.bool (bothB WA HA zA WB HB zB)) w) := by
  have RA := Lib.hid rA
  have RB := Lib.hid rB
  clear rA rB
  generalize hw2 : (w.alloc (Obj.cells #[.int .i64 WA, .int .i64 HA, .slice aA zA.length cA] 26)).alloc (Obj.cells #[.int .i64 WB, .int .i64 HB, .slice aB zB.length cB] 26) = w2
  have B0 : Below w.heap.size w w2 := by subst hw2; exact ((Below.refl _ _).alloc (Nat.le_refl _) _).alloc (by simp) _
  have VA' : Var w2 w.heap.size #[.int .i64 WA, .int .i64 HA, .slice aA zA.length cA] := by subst hw2; exact (Var.new _ _ _).alloc _
  have VB' : Var w2 (w.heap.size + 1) #[.int .i64 WB, .int .i64 HB, .slice aB zB.length cB] := by subst hw2; exact Var.new' _ _ _ _ (by simp)
  have BW := Lib.hid B0
  have HW2 := Lib.hid hw2
  have SZ : w2.heap.size = w.heap.size + 1 + 1 := by subst hw2; simp
  have KS := Lib.hid (fun (w' : World) (hE : Below w2.heap.size w2 w') => (⟨(VA'.keep hE).three.1, (VA'.keep hE).three.2.1, (VA'.keep hE).three.2.2, (VB'.keep hE).three.1, (VB'.keep hE).three.2.1, (VB'.keep hE).three.2.2⟩ : w'.cell? ⟨w.heap.size, 0, none⟩ = some (.int .i64 WA) ∧ w'.cell? ⟨w.heap.size, 1, none⟩ = some (.int .i64 HA) ∧ w'.cell? ⟨w.heap.size, 2, none⟩ = some (.slice aA zA.length cA) ∧ w'.cell? ⟨w.heap.size + 1, 0, none⟩ = some (.int .i64 WB) ∧ w'.cell? ⟨w.heap.size + 1, 1, none⟩ = some (.int .i64 HB) ∧ w'.cell? ⟨w.heap.size + 1, 2, none⟩ = some (.slice aB zB.length cB)))
  clear B0 VA' VB' hw2
  unfold bothB
  cases hA : validB WA HA zA
  · have HVA := Lib.hid hA
    clear hA
    go_enter Try.func80, Try.ntmps80
    go_wp2_with fail
    rw [HW2.out]
    refine wp_region_facts 13 (Below w2.heap.size) (Below.refl _) (fun _ _ _ => Below.trans) (below_drewN (Below.refl _ _) 1) (by kernel_rfl) (by kernel_rfl) (by kernel_rfl) (by kernel_rfl) ?_
    simp only [List.take_succ_cons, List.take_zero, List.drop_succ_cons, List.drop_zero]
    (with_reducible apply wpF_val); (focus (intro vs w' hE hk; (obtain ⟨d0, d1, d2, e0, e1, e2⟩ := KS.out w' hE); go_simp; exact ⟨Below.refl _ _, rfl⟩)); (simp only [Act.put, List.setIfInBounds_toArray, List.set_cons_zero, List.set_cons_succ, List.cons_append, List.nil_append])
    (with_reducible apply wpF_val); (focus (intro vs w' hE hk; (obtain ⟨d0, d1, d2, e0, e1, e2⟩ := KS.out w' hE); go_simp; refine (c_iValid WA HA aA _ cA zA _ (RA.out.below (BW.out.trans (hE.mono (by omega))))).mono ?_; rintro _ w9 ⟨rfl, b⟩; rw [HVA.out]; exact ⟨_, rfl, b.mono (by have := hE.size; omega), rfl⟩)); (simp only [Act.put, List.setIfInBounds_toArray, List.set_cons_zero, List.set_cons_succ, List.cons_append, List.nil_append])
    (with_reducible apply wpF_val); (focus (intro vs w' hE hk; (obtain ⟨d0, d1, d2, e0, e1, e2⟩ := KS.out w' hE); go_simp; exact ⟨Below.refl _ _, rfl⟩)); (simp only [Act.put, List.setIfInBounds_toArray, List.set_cons_zero, List.set_cons_succ, List.cons_append, List.nil_append])
    (with_reducible apply wpF_val); (focus (intro vs w' hE hk; (obtain ⟨d0, d1, d2, e0, e1, e2⟩ := KS.out w' hE); go_simp; rfl)); (simp only [Act.put, List.setIfInBounds_toArray, List.set_cons_zero, List.set_cons_succ, List.cons_append, List.nil_append])
    (with_reducible apply wpF_val); (focus (intro vs w' hE hk; (obtain ⟨d0, d1, d2, e0, e1, e2⟩ := KS.out w' hE); go_simp; rfl)); (simp only [Act.put, List.setIfInBounds_toArray, List.set_cons_zero, List.set_cons_succ, List.cons_append, List.nil_append])
    (with_reducible apply wpF_val); (focus (intro vs w' hE hk; (obtain ⟨d0, d1, d2, e0, e1, e2⟩ := KS.out w' hE); go_simp; exact ⟨Below.refl _ _, rfl⟩)); (simp only [Act.put, List.setIfInBounds_toArray, List.set_cons_zero, List.set_cons_succ, List.cons_append, List.nil_append])
    (with_reducible apply wpF_val); (focus (intro vs w' hE hk; (obtain ⟨d0, d1, d2, e0, e1, e2⟩ := KS.out w' hE); go_simp; exact ⟨Below.refl _ _, rfl⟩)); (simp only [Act.put, List.setIfInBounds_toArray, List.set_cons_zero, List.set_cons_succ, List.cons_append, List.nil_append])
    (with_reducible apply wpF_val); (focus (intro vs w' hE hk; (obtain ⟨d0, d1, d2, e0, e1, e2⟩ := KS.out w' hE); go_simp; rfl)); (simp only [Act.put, List.setIfInBounds_toArray, List.set_cons_zero, List.set_cons_succ, List.cons_append, List.nil_append])
    (with_reducible apply wpF_val); (focus (intro vs w' hE hk; (obtain ⟨d0, d1, d2, e0, e1, e2⟩ := KS.out w' hE); go_simp; rfl)); (simp only [Act.put, List.setIfInBounds_toArray, List.set_cons_zero, List.set_cons_succ, List.cons_append, List.nil_append])
    (with_reducible apply wpF_val); (focus (intro vs w' hE hk; (obtain ⟨d0, d1, d2, e0, e1, e2⟩ := KS.out w' hE); go_simp; rfl)); (simp only [Act.put, List.setIfInBounds_toArray, List.set_cons_zero, List.set_cons_succ, List.cons_append, List.nil_append])
    (with_reducible apply wpF_val); (focus (intro vs w' hE hk; (obtain ⟨d0, d1, d2, e0, e1, e2⟩ := KS.out w' hE); go_simp; rfl)); (simp only [Act.put, List.setIfInBounds_toArray, List.set_cons_zero, List.set_cons_succ, List.cons_append, List.nil_append])
    (with_reducible apply wpF_val); (focus (intro vs w' hE hk; (obtain ⟨d0, d1, d2, e0, e1, e2⟩ := KS.out w' hE); go_simp; rfl)); (simp only [Act.put, List.setIfInBounds_toArray, List.set_cons_zero, List.set_cons_succ, List.cons_append, List.nil_append])
    (with_reducible apply wpF_val); (focus (intro vs w' hE hk; (obtain ⟨d0, d1, d2, e0, e1, e2⟩ := KS.out w' hE); go_simp; exact ⟨Below.refl _ _, rfl⟩)); (simp only [Act.put, List.setIfInBounds_toArray, List.set_cons_zero, List.set_cons_succ, List.cons_append, List.nil_append])
    refine wpF_nil (fun vs w' hE hk => ?_)
    have BX := Lib.hid (BW.out.trans (hE.mono (by omega)))
    clear hE hk
    go_wp2_with fail
    go_ret
    exact ⟨by simp only [Bool.false_and]; rfl, BX.out⟩
  cases hB : validB WB HB zB
  · have HVA := Lib.hid hA
    have HVB := Lib.hid hB
    clear hA hB
    go_enter Try.func80, Try.ntmps80
    go_wp2_with fail
    rw [HW2.out]
    refine wp_region_facts 13 (Below w2.heap.size) (Below.refl _) (fun _ _ _ => Below.trans) (below_drewN (Below.refl _ _) 1) (by kernel_rfl) (by kernel_rfl) (by kernel_rfl) (by kernel_rfl) ?_
    simp only [List.take_succ_cons, List.take_zero, List.drop_succ_cons, List.drop_zero]
    (with_reducible apply wpF_val); (focus (intro vs w' hE hk; (obtain ⟨d0, d1, d2, e0, e1, e2⟩ := KS.out w' hE); go_simp; exact ⟨Below.refl _ _, rfl⟩)); (simp only [Act.put, List.setIfInBounds_toArray, List.set_cons_zero, List.set_cons_succ, List.cons_append, List.nil_append])
    (with_reducible apply wpF_val); (focus (intro vs w' hE hk; (obtain ⟨d0, d1, d2, e0, e1, e2⟩ := KS.out w' hE); go_simp; refine (c_iValid WA HA aA _ cA zA _ (RA.out.below (BW.out.trans (hE.mono (by omega))))).mono ?_; rintro _ w9 ⟨rfl, b⟩; rw [HVA.out]; exact ⟨_, rfl, b.mono (by have := hE.size; omega), rfl⟩)); (simp only [Act.put, List.setIfInBounds_toArray, List.set_cons_zero, List.set_cons_succ, List.cons_append, List.nil_append])
    (with_reducible apply wpF_val); (focus (intro vs w' hE hk; (obtain ⟨d0, d1, d2, e0, e1, e2⟩ := KS.out w' hE); go_simp; exact ⟨Below.refl _ _, rfl⟩)); (simp only [Act.put, List.setIfInBounds_toArray, List.set_cons_zero, List.set_cons_succ, List.cons_append, List.nil_append])
    (with_reducible apply wpF_val); (focus (intro vs w' hE hk; (obtain ⟨d0, d1, d2, e0, e1, e2⟩ := KS.out w' hE); go_simp; exact ⟨Below.refl _ _, rfl⟩)); (simp only [Act.put, List.setIfInBounds_toArray, List.set_cons_zero, List.set_cons_succ, List.cons_append, List.nil_append])
    (with_reducible apply wpF_val); (focus (intro vs w' hE hk; (obtain ⟨d0, d1, d2, e0, e1, e2⟩ := KS.out w' hE); go_simp; refine (c_iValid WB HB aB _ cB zB _ (RB.out.below (BW.out.trans (hE.mono (by omega))))).mono ?_; rintro _ w9 ⟨rfl, b⟩; rw [HVB.out]; exact ⟨_, rfl, b.mono (by have := hE.size; omega), rfl⟩)); (simp only [Act.put, List.setIfInBounds_toArray, List.set_cons_zero, List.set_cons_succ, List.cons_append, List.nil_append])
    (with_reducible apply wpF_val); (focus (intro vs w' hE hk; (obtain ⟨d0, d1, d2, e0, e1, e2⟩ := KS.out w' hE); go_simp; exact ⟨Below.refl _ _, rfl⟩)); (simp only [Act.put, List.setIfInBounds_toArray, List.set_cons_zero, List.set_cons_succ, List.cons_append, List.nil_append])
    (with_reducible apply wpF_val); (focus (intro vs w' hE hk; (obtain ⟨d0, d1, d2, e0, e1, e2⟩ := KS.out w' hE); go_simp; exact ⟨Below.refl _ _, rfl⟩)); (simp only [Act.put, List.setIfInBounds_toArray, List.set_cons_zero, List.set_cons_succ, List.cons_append, List.nil_append])
    (with_reducible apply wpF_val); (focus (intro vs w' hE hk; (obtain ⟨d0, d1, d2, e0, e1, e2⟩ := KS.out w' hE); go_simp; rfl)); (simp only [Act.put, List.setIfInBounds_toArray, List.set_cons_zero, List.set_cons_succ, List.cons_append, List.nil_append])
    (with_reducible apply wpF_val); (focus (intro vs w' hE hk; (obtain ⟨d0, d1, d2, e0, e1, e2⟩ := KS.out w' hE); go_simp; rfl)); (simp only [Act.put, List.setIfInBounds_toArray, List.set_cons_zero, List.set_cons_succ, List.cons_append, List.nil_append])
    (with_reducible apply wpF_val); (focus (intro vs w' hE hk; (obtain ⟨d0, d1, d2, e0, e1, e2⟩ := KS.out w' hE); go_simp; rfl)); (simp only [Act.put, List.setIfInBounds_toArray, List.set_cons_zero, List.set_cons_succ, List.cons_append, List.nil_append])
    (with_reducible apply wpF_val); (focus (intro vs w' hE hk; (obtain ⟨d0, d1, d2, e0, e1, e2⟩ := KS.out w' hE); go_simp; rfl)); (simp only [Act.put, List.setIfInBounds_toArray, List.set_cons_zero, List.set_cons_succ, List.cons_append, List.nil_append])
    (with_reducible apply wpF_val); (focus (intro vs w' hE hk; (obtain ⟨d0, d1, d2, e0, e1, e2⟩ := KS.out w' hE); go_simp; rfl)); (simp only [Act.put, List.setIfInBounds_toArray, List.set_cons_zero, List.set_cons_succ, List.cons_append, List.nil_append])
    (with_reducible apply wpF_val); (focus (intro vs w' hE hk; (obtain ⟨d0, d1, d2, e0, e1, e2⟩ := KS.out w' hE); go_simp; exact ⟨Below.refl _ _, rfl⟩)); (simp only [Act.put, List.setIfInBounds_toArray, List.set_cons_zero, List.set_cons_succ, List.cons_append, List.nil_append])
    refine wpF_nil (fun vs w' hE hk => ?_)
    have BX := Lib.hid (BW.out.trans (hE.mono (by omega)))
    clear hE hk
    go_wp2_with fail
    go_ret
    exact ⟨by simp only [Bool.true_and, Bool.false_and]; rfl, BX.out⟩
  have HVA := Lib.hid hA
  have HVB := Lib.hid hB
  clear hA hB
  cases hW : (WA == WB) <;> cases hH : (HA == HB)
  all_goals
    go_enter Try.func80, Try.ntmps80
    go_wp2_with fail
    rw [HW2.out]
    refine wp_region_facts 13 (Below w2.heap.size) (Below.refl _) (fun _ _ _ => Below.trans) (below_drewN (Below.refl _ _) 1) (by kernel_rfl) (by kernel_rfl) (by kernel_rfl) (by kernel_rfl) ?_
    simp only [List.take_succ_cons, List.take_zero, List.drop_succ_cons, List.drop_zero]
    (with_reducible apply wpF_val); (focus (intro vs w' hE hk; (obtain ⟨d0, d1, d2, e0, e1, e2⟩ := KS.out w' hE); go_simp; exact ⟨Below.refl _ _, rfl⟩)); (simp only [Act.put, List.setIfInBounds_toArray, List.set_cons_zero, List.set_cons_succ, List.cons_append, List.nil_append])
    (with_reducible apply wpF_val); (focus (intro vs w' hE hk; (obtain ⟨d0, d1, d2, e0, e1, e2⟩ := KS.out w' hE); go_simp; refine (c_iValid WA HA aA _ cA zA _ (RA.out.below (BW.out.trans (hE.mono (by omega))))).mono ?_; rintro _ w9 ⟨rfl, b⟩; rw [HVA.out]; exact ⟨_, rfl, b.mono (by have := hE.size; omega), rfl⟩)); (simp only [Act.put, List.setIfInBounds_toArray, List.set_cons_zero, List.set_cons_succ, List.cons_append, List.nil_append])
    (with_reducible apply wpF_val); (focus (intro vs w' hE hk; (obtain ⟨d0, d1, d2, e0, e1, e2⟩ := KS.out w' hE); go_simp; exact ⟨Below.refl _ _, rfl⟩)); (simp only [Act.put, List.setIfInBounds_toArray, List.set_cons_zero, List.set_cons_succ, List.cons_append, List.nil_append])
    (with_reducible apply wpF_val); (focus (intro vs w' hE hk; (obtain ⟨d0, d1, d2, e0, e1, e2⟩ := KS.out w' hE); go_simp; exact ⟨Below.refl _ _, rfl⟩)); (simp only [Act.put, List.setIfInBounds_toArray, List.set_cons_zero, List.set_cons_succ, List.cons_append, List.nil_append])
    (with_reducible apply wpF_val); (focus (intro vs w' hE hk; (obtain ⟨d0, d1, d2, e0, e1, e2⟩ := KS.out w' hE); go_simp; refine (c_iValid WB HB aB _ cB zB _ (RB.out.below (BW.out.trans (hE.mono (by omega))))).mono ?_; rintro _ w9 ⟨rfl, b⟩; rw [HVB.out]; exact ⟨_, rfl, b.mono (by have := hE.size; omega), rfl⟩)); (simp only [Act.put, List.setIfInBounds_toArray, List.set_cons_zero, List.set_cons_succ, List.cons_append, List.nil_append])
    (with_reducible apply wpF_val); (focus (intro vs w' hE hk; (obtain ⟨d0, d1, d2, e0, e1, e2⟩ := KS.out w' hE); go_simp; exact ⟨Below.refl _ _, rfl⟩)); (simp only [Act.put, List.setIfInBounds_toArray, List.set_cons_zero, List.set_cons_succ, List.cons_append, List.nil_append])
    (with_reducible apply wpF_val); (focus (intro vs w' hE hk; (obtain ⟨d0, d1, d2, e0, e1, e2⟩ := KS.out w' hE); go_simp; exact ⟨Below.refl _ _, rfl⟩)); (simp only [Act.put, List.setIfInBounds_toArray, List.set_cons_zero, List.set_cons_succ, List.cons_append, List.nil_append])
    (with_reducible apply wpF_val); (focus (intro vs w' hE hk; (obtain ⟨d0, d1, d2, e0, e1, e2⟩ := KS.out w' hE); go_simp; exact ⟨Below.refl _ _, rfl⟩)); (simp only [Act.put, List.setIfInBounds_toArray, List.set_cons_zero, List.set_cons_succ, List.cons_append, List.nil_append])
    (with_reducible apply wpF_val); (focus (intro vs w' hE hk; (obtain ⟨d0, d1, d2, e0, e1, e2⟩ := KS.out w' hE); go_simp; refine (c_sidesOf WA HA _ _).mono ?_; rintro _ w9 ⟨rfl, b⟩; exact ⟨_, rfl, b.mono (by have := hE.size; omega), rfl⟩)); (simp only [Act.put, List.setIfInBounds_toArray, List.set_cons_zero, List.set_cons_succ, List.cons_append, List.nil_append])
    (with_reducible apply wpF_val); (focus (intro vs w' hE hk; (obtain ⟨d0, d1, d2, e0, e1, e2⟩ := KS.out w' hE); go_simp; exact ⟨Below.refl _ _, rfl⟩)); (simp only [Act.put, List.setIfInBounds_toArray, List.set_cons_zero, List.set_cons_succ, List.cons_append, List.nil_append])
    (with_reducible apply wpF_val); (focus (intro vs w' hE hk; (obtain ⟨d0, d1, d2, e0, e1, e2⟩ := KS.out w' hE); go_simp; refine (c_sidesOf WB HB _ _).mono ?_; rintro _ w9 ⟨rfl, b⟩; exact ⟨_, rfl, b.mono (by have := hE.size; omega), rfl⟩)); (simp only [Act.put, List.setIfInBounds_toArray, List.set_cons_zero, List.set_cons_succ, List.cons_append, List.nil_append])
    (with_reducible apply wpF_val); (focus (intro vs w' hE hk; (obtain ⟨d0, d1, d2, e0, e1, e2⟩ := KS.out w' hE); go_simp; exact ⟨Below.refl _ _, rfl⟩)); (simp only [Act.put, List.setIfInBounds_toArray, List.set_cons_zero, List.set_cons_succ, List.cons_append, List.nil_append])
    (with_reducible apply wpF_val); (focus (intro vs w' hE hk; (obtain ⟨d0, d1, d2, e0, e1, e2⟩ := KS.out w' hE); go_simp; exact ⟨Below.refl _ _, rfl⟩)); (simp only [Act.put, List.setIfInBounds_toArray, List.set_cons_zero, List.set_cons_succ, List.cons_append, List.nil_append])
    refine wpF_nil (fun vs w' hE hk => ?_)
    have BX := Lib.hid (BW.out.trans (hE.mono (by omega)))
    clear hE hk
    go_wp2_with fail
    go_ret
    exact ⟨by simp only [Bool.true_and, Bool.and_true, Bool.and_false]; rfl, BX.out⟩
/-! ### jnMiss -/
theorem c_jnMiss (WA HA : Int) (zA : List Nat) (aA : Option Addr) (cA : Nat) (WB HB : Int) (zB : List Nat) (aB : Option Addr) (cB : Nat) (g : Nat → Nat → Nat) (w : World) (rA : IsRowF .f32 w aA zA.length cA zA) (rB : IsRowF .f32 w aB zB.length cB zB) (hb : bothB WA HA zA WB HB zB = true) (hlt0 : ∀ k, k < zA.length → g (fat zA k) (fat zB k) < 2 ^ FloatKind.f32.format.width)
    (hF0 : ∀ (k n m : Nat) (wr : World), k < zA.length → Below w.heap.size w wr → Calls Try.prog 122 #[.float .f32 (pick .f32 (fat zA k) n), .float .f32 (pick .f32 (fat zB k) m)] wr (fun e w' => ∃ n, e = .returned (.float .f32 (pick .f32 (g (fat zA k) (fat zB k)) n)) ∧ Below wr.heap.size wr w')) :
    Calls Try.prog 121 #[.agg #[.int .i64 WA, .int .i64 HA, .slice aA zA.length cA], .agg #[.int .i64 WB, .int .i64 HB, .slice aB zB.length cB], .func (.func 122) #[] #[]] w (RetP 38 (giveP WA HA (List.zipWith g zA zB)) w) := by
  have hboth := hb
  have HBT := Lib.hid hb
  have HFF := Lib.hid hF0
  have HLT := Lib.hid hlt0
  clear hF0 hlt0
  have RA := Lib.hid rA
  have RB := Lib.hid rB
  clear rA rB
  generalize hw2 : ((w.alloc (Obj.cells #[.int .i64 WA, .int .i64 HA, .slice aA zA.length cA] 26)).alloc (Obj.cells #[.int .i64 WB, .int .i64 HB, .slice aB zB.length cB] 26)).alloc (Obj.cells #[.int .i64 0, .int .i64 0, .slice none 0 0] 26) = w2
  have B0 : Below w.heap.size w w2 := by subst hw2; exact (((Below.refl _ _).alloc (Nat.le_refl _) _).alloc (by simp) _).alloc (by simp; omega) _
  have VA' : Var w2 w.heap.size #[.int .i64 WA, .int .i64 HA, .slice aA zA.length cA] := by subst hw2; exact ((Var.new _ _ _).alloc _).alloc _
  have VB' : Var w2 (w.heap.size + 1) #[.int .i64 WB, .int .i64 HB, .slice aB zB.length cB] := by subst hw2; exact (Var.new' _ _ _ _ (by simp)).alloc _
  have VR := Lib.hid (show Var w2 (w.heap.size + 1 + 1) #[.int .i64 0, .int .i64 0, .slice none 0 0] from by subst hw2; exact Var.new' _ _ _ _ (by simp))
  have FR := Lib.hid (show Free w2 (w.heap.size + 1 + 1) from by subst hw2; exact Free.new' _ _ _ _ (by simp))
  have BW := Lib.hid B0
  have HW2 := Lib.hid hw2
  have SZ : w2.heap.size = w.heap.size + 1 + 1 + 1 := by subst hw2; simp
  have KS := Lib.hid (fun (w' : World) (hE : Below w2.heap.size w2 w') => (⟨(hE.cell (p := ⟨w.heap.size, 0, none⟩) (by show w.heap.size < _; omega)).trans VA'.three.1, (hE.cell (p := ⟨w.heap.size, 1, none⟩) (by show w.heap.size < _; omega)).trans VA'.three.2.1, (hE.cell (p := ⟨w.heap.size, 2, none⟩) (by show w.heap.size < _; omega)).trans VA'.three.2.2, (hE.cell (p := ⟨w.heap.size + 1, 0, none⟩) (by show w.heap.size + 1 < _; omega)).trans VB'.three.1, (hE.cell (p := ⟨w.heap.size + 1, 1, none⟩) (by show w.heap.size + 1 < _; omega)).trans VB'.three.2.1, (hE.cell (p := ⟨w.heap.size + 1, 2, none⟩) (by show w.heap.size + 1 < _; omega)).trans VB'.three.2.2⟩ : w'.cell? ⟨w.heap.size, 0, none⟩ = some (.int .i64 WA) ∧ w'.cell? ⟨w.heap.size, 1, none⟩ = some (.int .i64 HA) ∧ w'.cell? ⟨w.heap.size, 2, none⟩ = some (.slice aA zA.length cA) ∧ w'.cell? ⟨w.heap.size + 1, 0, none⟩ = some (.int .i64 WB) ∧ w'.cell? ⟨w.heap.size + 1, 1, none⟩ = some (.int .i64 HB) ∧ w'.cell? ⟨w.heap.size + 1, 2, none⟩ = some (.slice aB zB.length cB)))
  clear B0 VA' VB' hw2
  obtain ⟨hvA, hvB, hWW, hHH, hlen⟩ := bothB_spec hboth
  have hl256 := (valid_len hvA).2.1
  have hl1 := (valid_len hvA).2.2
  have hw : (WA == WB) = true := by simpa using hWW
  have hh : (HA == HB) = true := by simpa using hHH
  have HVA := Lib.hid hvA
  have HVB := Lib.hid hvB
  have HLen := Lib.hid hlen
  obtain ⟨i0, hi, hz0, hz1, hz2⟩ := info_parts infoFo
  clear hb hboth hvA hvB hlen hWW hHH
  obtain ⟨d0, d1, d2, e0, e1, e2⟩ := KS.out w2 (Below.refl _ _)
  go_enter Try.func121, Try.ntmps121
  go_wp2_with fail
  rw [HW2.out]
  refine (c_areAlike WA HA zA aA cA WB HB zB aB cB w2 (RA.out.below BW.out) (RB.out.below BW.out)).mono ?_
  rintro _ w3 ⟨rfl, hE⟩
  rw [HBT.out]
  clear d0 d1 d2 e0 e1 e2
  have BX := Lib.hid (BW.out.trans (hE.mono (by omega)))
  have VX := Lib.hid (VR.out.keep hE)
  have FX := Lib.hid (FR.out.below (by omega) hE)
  have S2 : w.heap.size + 1 + 1 < w3.heap.size := by have := hE.size; omega
  have RA3 := Lib.hid (RA.out.below BX.out)
  have RB3 := Lib.hid (RB.out.below BX.out)
  have K3 := Lib.hid (KS.out w3 hE)
  clear hE KS VR FR BW
  have KX := Lib.hid (fun (wr : World) (hB : Below w3.heap.size w3 wr) => (by obtain ⟨d0, d1, d2, e0, e1, e2⟩ := K3.out; exact ⟨(hB.cell (p := ⟨w.heap.size, 0, none⟩) (by show w.heap.size < _; omega)).trans d0, (hB.cell (p := ⟨w.heap.size, 1, none⟩) (by show w.heap.size < _; omega)).trans d1, (hB.cell (p := ⟨w.heap.size, 2, none⟩) (by show w.heap.size < _; omega)).trans d2, (hB.cell (p := ⟨w.heap.size + 1, 0, none⟩) (by show w.heap.size + 1 < _; omega)).trans e0, (hB.cell (p := ⟨w.heap.size + 1, 1, none⟩) (by show w.heap.size + 1 < _; omega)).trans e1, (hB.cell (p := ⟨w.heap.size + 1, 2, none⟩) (by show w.heap.size + 1 < _; omega)).trans e2⟩ : wr.cell? ⟨w.heap.size, 0, none⟩ = some (.int .i64 WA) ∧ wr.cell? ⟨w.heap.size, 1, none⟩ = some (.int .i64 HA) ∧ wr.cell? ⟨w.heap.size, 2, none⟩ = some (.slice aA zA.length cA) ∧ wr.cell? ⟨w.heap.size + 1, 0, none⟩ = some (.int .i64 WB) ∧ wr.cell? ⟨w.heap.size + 1, 1, none⟩ = some (.int .i64 HB) ∧ wr.cell? ⟨w.heap.size + 1, 2, none⟩ = some (.slice aB zB.length cB)))
  obtain ⟨d0, d1, d2, e0, e1, e2⟩ := K3.out
  go_wp2_with (at_make; refine wpList_make_full _ rfl _ _ 22 rfl w3.heap.size 38 i0 (.float .f32 0) 1 Try.underlying22 hi hz0 hz1 _ _ _ _ zA.length rfl rfl rfl rfl (by rw [hz2]; omega) (by unfold maxLen; omega) (by simp) ?_; intro w4 hown hgrow; have B4 : Below w3.heap.size w3 w4 := (Below.refl _ _).grown hgrow (Nat.le_refl _) (by simp); obtain ⟨g0, g1, g2, g3, g4, g5⟩ := KX.out w4 B4)
  have hblk := block_of_owns hown
  have ez : (madeCells (Value.float FloatKind.f32 0).cells (zA.length * 1)).toList = List.replicate zA.length (.float .f32 0) := by rw [Nat.mul_one]; exact made_zeros _ _
  rw [ez] at hblk
  have hz4 : w3.heap.size < w4.heap.size := block_lt hblk
  have HB4 := Lib.hid hblk
  have HG := Lib.hid B4
  clear hown hgrow hblk ez hz0 hz1 hz2 d0 d1 d2 e0 e1 e2 g0 g1 g2 g3 g4 g5 B4
  go_loopw [9, 10, 23] (fun _ _ i wr => ∃ (k : Nat) (zs : List Nat), k ≤ zA.length ∧ i = .int .i64 k ∧ Below w3.heap.size w3 wr ∧ near zs ((List.zipWith g zA zB).take k) ∧ zs.length = k ∧ (∀ b ∈ zs, (Lit.float .f32 b).wf = true) ∧ w3.heap.size < wr.heap.size ∧ wr.heap[w3.heap.size]? = some (.cells (fl .f32 zs ++ List.replicate (zA.length - k) (Value.float .f32 0)).toArray 38 (0, 0))) (fun _ _ i _ => zA.length - (intOf i).toNat)
  case atStart => exact ⟨0, [], Nat.zero_le _, rfl, HG.out, by simpa using near_nil, rfl, by simp, hz4, by rw [HB4.out]; rfl⟩
  case round =>
    obtain ⟨k, zs, hk, rfl, hB, hnear, hzl, hwf, hzr, hblk⟩ := hrel
    have HB := Lib.hid hB
    have HN := Lib.hid hnear
    have HZ := Lib.hid hzl
    have HW := Lib.hid hwf
    have Hblk := Lib.hid hblk
    clear hB hnear hzl hwf hblk
    obtain ⟨d0, d1, d2, e0, e1, e2⟩ := KX.out wr HB.out
    by_cases hlt : k < zA.length
    · have hltB : k < zB.length := by have := HLen.out; omega
      obtain ⟨bA, oA, nA, rfl, hbA, eA⟩ := (RA3.out.below HB.out).at hlt
      obtain ⟨bB, oB, nB, rfl, hbB, eB⟩ := (RB3.out.below HB.out).at hltB
      have HLat := Lib.hid (zip_at (g := g) HLen.out hlt)
      clear hbA hbB
      go_wp2_with fail
      refine (HFF.out k nA nB wr hlt (BX.out.trans (HB.out.mono (by omega)))).mono ?_
      rintro _ w5 ⟨n5, rfl, b5⟩
      have Hblk5 := Lib.hid ((b5.block _ hzr).trans Hblk.out)
      have hold : w5.cell? ⟨w3.heap.size, k, none⟩ = some (.float .f32 0) := by
        rw [cell_of_block Hblk5.out, List.getElem?_append_right (by simp [fl, HZ.out])]
        have e : (fl FloatKind.f32 zs).length = k := by simp [fl, HZ.out]
        rw [e, Nat.sub_self, List.getElem?_replicate, if_pos (by omega)]
      have hfz : w5.frozen? ⟨w3.heap.size, k, none⟩ = false := frozen_of_block Hblk5.out k
      have HSet := Lib.hid (fun (u : Nat) => (by have h := block_set Hblk5.out k (.float .f32 u); rwa [set_snoc zs _ k u HZ.out hlt] at h : (w5.setCell ⟨w3.heap.size, k, none⟩ (.float .f32 u)).heap[w3.heap.size]? = some (.cells (fl .f32 (zs ++ [u]) ++ List.replicate (zA.length - (k + 1)) (Value.float .f32 0)).toArray 38 (0, 0))))
      have HB5 := Lib.hid (HB.out.trans (b5.mono HB.out.size))
      have hz5 : w3.heap.size < w5.heap.size := Nat.lt_of_lt_of_le hzr b5.size
      clear b5 d0 d1 d2 e0 e1 e2
      go_wp2_with fail
      go_roundw
      case rel => exact ⟨k + 1, zs ++ [pick .f32 (g (fat zA k) (fat zB k)) n5], by omega, by go_num, HB5.out.setCell (Nat.le_refl _) _, by rw [← HLat.out]; exact near_snoc HN.out (by rw [zip_len HLen.out]; exact hlt) n5, by simp [HZ.out], (fun b hb => by
        rcases List.mem_append.1 hb with h | h
        · exact HW.out b h
        · simp at h; subst h; exact pick_wf (HLT.out k hlt) n5), by simpa using hz5, HSet.out _⟩
      case measure => simp [intOf]; omega
    · obtain rfl : k = zA.length := by omega
      have hz : near zs (List.zipWith g zA zB) := by have h := HN.out; rwa [List.take_of_length_le (by rw [zip_len HLen.out]; exact Nat.le_refl _)] at h
      have hblk2 := Hblk.out
      rw [Nat.sub_self, List.replicate_zero, List.append_nil] at hblk2
      have hown : Own 38 wr w3.heap.size (some ⟨w3.heap.size, 0, none⟩) zA.length zA.length zs :=
        ⟨HZ.out, ⟨by simp [fl, HZ.out], .inr ⟨w3.heap.size, zA.length, _, rfl, Nat.le_refl _, hblk2, Nat.le_refl _, by unfold maxLen; omega, by simp [fl, HZ.out], by rw [List.take_of_length_le (by simp [fl, HZ.out])]⟩⟩, HW.out⟩
      have HO := Lib.hid hown
      have HZN := Lib.hid hz
      have HML := Lib.hid (show (List.zipWith g zA zB).length = zA.length from by rw [zip_len HLen.out])
      have VR := Lib.hid (VX.out.keep HB.out)
      have FR := Lib.hid (FX.out.below (by omega) HB.out)
      have BW := Lib.hid (BX.out.trans (HB.out.mono (by omega)))
      have SW : w3.heap.size ≤ wr.heap.size := HB.out.size
      have HVZ := Lib.hid (near_valid (W := WA) (H := HA) hz)
      clear hz hown hblk2
      go_wp2_with fail
      cases hv2 : validB WA HA (List.zipWith g zA zB)
      · have HG2 := Lib.hid (show giveP WA HA (List.zipWith g zA zB) = PRes.no from by unfold giveP; rw [hv2]; rfl)
        have HV2 := Lib.hid hv2
        clear hv2
        refine (c_ifValid_no WA HA _ _ _ zs wr HO.out.row (by rw [HVZ.out]; exact HV2.out)).mono ?_
        rintro _ wz ⟨rfl, b⟩
        obtain ⟨cr0, cr1, cr2⟩ := (VR.out.keep b).three
        have fr := FR.out.below (by omega) b
        have f0 := fr 0
        have f1 := fr 1
        have f2 := fr 2
        have hsz := b.size
        have HB2 := Lib.hid (BW.out.trans (b.mono (by omega)))
        clear fr b
        go_wp2_with fail
        refine bodyPost_ret (v := .tuple #[.agg #[.int .i64 0, .int .i64 0, .slice none 0 0], .bool false]) (by simp [results, Try.results121, cr0, cr1, cr2, go_sem]) rfl (by rw [HG2.out]; exact ⟨none, 0, rfl, Nat.zero_le _, ((HB2.out.setCell (by simp <;> omega) _).setCell (by simp <;> omega) _).setCell (by simp <;> omega) _, Own.nil _ _ _⟩)
      · have HG2 := Lib.hid (show giveP WA HA (List.zipWith g zA zB) = ⟨WA, HA, List.zipWith g zA zB, true⟩ from by unfold giveP; rw [hv2]; rfl)
        have hfin := valid_fin hv2
        obtain rfl := near_eq HZN.out hfin
        clear hfin
        have HV2 := Lib.hid hv2
        clear hv2
        refine (c_ifValid_yes WA HA _ _ _ _ wr HO.out.row HV2.out).mono ?_
        rintro _ wz ⟨rfl, b⟩
        obtain ⟨cr0, cr1, cr2⟩ := (VR.out.keep b).three
        have fr := FR.out.below (by omega) b
        have f0 := fr 0
        have f1 := fr 1
        have f2 := fr 2
        have hsz := b.size
        have HB2 := Lib.hid (BW.out.trans (b.mono (by omega)))
        have HO2 := Lib.hid (HO.out.below b)
        clear fr b
        go_wp2_with fail
        have hrow : blk (some ⟨w3.heap.size, 0, none⟩) ≠ some (w.heap.size + 1 + 1) := fun e => by simp [blk] at e; omega
        refine bodyPost_ret (v := .tuple #[.agg #[.int .i64 WA, .int .i64 HA, .slice (some ⟨w3.heap.size, 0, none⟩) zA.length zA.length], .bool true]) (by simp [results, Try.results121, cr0, cr1, cr2, go_sem]) rfl (by rw [HG2.out]; exact ⟨_, _, by rw [HML.out], by (show (List.zipWith g zA zB).length ≤ 1048576); rw [HML.out]; omega, ((HB2.out.setCell (by simp <;> omega) _).setCell (by simp <;> omega) _).setCell (by simp <;> omega) _, (((Own.re HML.out.symm HO2.out).setCell hrow _).setCell hrow _).setCell hrow _ |>.mono (by omega)⟩)

/-! ### jnNo -/
theorem c_jnNo (WA HA : Int) (zA : List Nat) (aA : Option Addr) (cA : Nat) (WB HB : Int) (zB : List Nat) (aB : Option Addr) (cB : Nat) (f : Value) (w : World) (rA : IsRowF .f32 w aA zA.length cA zA) (rB : IsRowF .f32 w aB zB.length cB zB)
    (hb : bothB WA HA zA WB HB zB = false) : Calls Try.prog 121 #[.agg #[.int .i64 WA, .int .i64 HA, .slice aA zA.length cA], .agg #[.int .i64 WB, .int .i64 HB, .slice aB zB.length cB], f] w (RetP 38 PRes.no w) := by
  have RA := Lib.hid rA
  have RB := Lib.hid rB
  clear rA rB
  generalize hw2 : ((w.alloc (Obj.cells #[.int .i64 WA, .int .i64 HA, .slice aA zA.length cA] 26)).alloc (Obj.cells #[.int .i64 WB, .int .i64 HB, .slice aB zB.length cB] 26)).alloc (Obj.cells #[.int .i64 0, .int .i64 0, .slice none 0 0] 26) = w2
  have B0 : Below w.heap.size w w2 := by subst hw2; exact (((Below.refl _ _).alloc (Nat.le_refl _) _).alloc (by simp) _).alloc (by simp; omega) _
  have VA' : Var w2 w.heap.size #[.int .i64 WA, .int .i64 HA, .slice aA zA.length cA] := by subst hw2; exact ((Var.new _ _ _).alloc _).alloc _
  have VB' : Var w2 (w.heap.size + 1) #[.int .i64 WB, .int .i64 HB, .slice aB zB.length cB] := by subst hw2; exact (Var.new' _ _ _ _ (by simp)).alloc _
  have VR := Lib.hid (show Var w2 (w.heap.size + 1 + 1) #[.int .i64 0, .int .i64 0, .slice none 0 0] from by subst hw2; exact Var.new' _ _ _ _ (by simp))
  have FR := Lib.hid (show Free w2 (w.heap.size + 1 + 1) from by subst hw2; exact Free.new' _ _ _ _ (by simp))
  have BW := Lib.hid B0
  have HW2 := Lib.hid hw2
  have SZ : w2.heap.size = w.heap.size + 1 + 1 + 1 := by subst hw2; simp
  have KS := Lib.hid (fun (w' : World) (hE : Below w2.heap.size w2 w') => (⟨(hE.cell (p := ⟨w.heap.size, 0, none⟩) (by show w.heap.size < _; omega)).trans VA'.three.1, (hE.cell (p := ⟨w.heap.size, 1, none⟩) (by show w.heap.size < _; omega)).trans VA'.three.2.1, (hE.cell (p := ⟨w.heap.size, 2, none⟩) (by show w.heap.size < _; omega)).trans VA'.three.2.2, (hE.cell (p := ⟨w.heap.size + 1, 0, none⟩) (by show w.heap.size + 1 < _; omega)).trans VB'.three.1, (hE.cell (p := ⟨w.heap.size + 1, 1, none⟩) (by show w.heap.size + 1 < _; omega)).trans VB'.three.2.1, (hE.cell (p := ⟨w.heap.size + 1, 2, none⟩) (by show w.heap.size + 1 < _; omega)).trans VB'.three.2.2⟩ : w'.cell? ⟨w.heap.size, 0, none⟩ = some (.int .i64 WA) ∧ w'.cell? ⟨w.heap.size, 1, none⟩ = some (.int .i64 HA) ∧ w'.cell? ⟨w.heap.size, 2, none⟩ = some (.slice aA zA.length cA) ∧ w'.cell? ⟨w.heap.size + 1, 0, none⟩ = some (.int .i64 WB) ∧ w'.cell? ⟨w.heap.size + 1, 1, none⟩ = some (.int .i64 HB) ∧ w'.cell? ⟨w.heap.size + 1, 2, none⟩ = some (.slice aB zB.length cB)))
  clear B0 VA' VB' hw2
  have HBo := Lib.hid hb
  clear hb
  obtain ⟨d0, d1, d2, e0, e1, e2⟩ := KS.out w2 (Below.refl _ _)
  go_enter Try.func121, Try.ntmps121
  go_wp2_with fail
  rw [HW2.out]
  refine (c_areAlike WA HA zA aA cA WB HB zB aB cB w2 (RA.out.below BW.out) (RB.out.below BW.out)).mono ?_
  rintro _ w3 ⟨rfl, hE⟩
  rw [HBo.out]
  have BX := Lib.hid (BW.out.trans (hE.mono (by omega)))
  have VX := Lib.hid (VR.out.keep hE)
  have FX := Lib.hid (FR.out.below (by omega) hE)
  have S2 : w.heap.size + 1 + 1 < w3.heap.size := by have := hE.size; omega
  clear hE d0 d1 d2 e0 e1 e2
  obtain ⟨q0, q1, q2⟩ := VX.out.three
  have f0 := FX.out 0
  have f1 := FX.out 1
  have f2 := FX.out 2
  go_wp2_with fail
  refine bodyPost_ret (v := .tuple #[.agg #[.int .i64 0, .int .i64 0, .slice none 0 0], .bool false]) (by simp [results, Try.results121, q0, q1, q2, go_sem]) rfl (show RetP _ PRes.no _ _ _ from ⟨none, 0, rfl, Nat.zero_le _, ((BX.out.setCell (by simp <;> omega) _).setCell (by simp <;> omega) _).setCell (by simp <;> omega) _, Own.nil _ _ _⟩)
/-! ### miss1 -/
theorem c_miss1 (x n y m : Nat) (w : World) : Calls Try.prog 122 #[.float .f32 (pick .f32 x n), .float .f32 (pick .f32 y m)] w (fun e w' => ∃ n, e = .returned (.float .f32 (pick .f32 (fop .mul .f32 (fop .sub .f32 x y) (fop .sub .f32 x y)) n)) ∧ Below w.heap.size w w') := by
  rw [← w.drewN_zero]
  go_enter Try.func122, Try.ntmps122
  go_wp2_with (first | (refine wpList_fop rfl _ _ _ _ _ rfl _ _ _ rfl rfl (by decide) _ ?_; intro _ _) | (refine upon_fop _ _ _ _ _ (by decide) ?_; intro _ _))
  go_ret
  exact ⟨_, rfl, below_drewN (Below.refl _ _) _⟩
/-! ### missesOf -/
theorem c_missesOf (WA HA : Int) (zA : List Nat) (aA : Option Addr) (cA : Nat) (WB HB : Int) (zB : List Nat) (aB : Option Addr) (cB : Nat) (O : Int) (w : World) (rA : IsRowF .f32 w aA zA.length cA zA) (rB : IsRowF .f32 w aB zB.length cB zB) : Calls Try.prog 89 #[.agg #[.int .i64 WA, .int .i64 HA, .slice aA zA.length cA], .agg #[.int .i64 WB, .int .i64 HB, .slice aB zB.length cB], .int .i64 O] w (RetP 38 (resMiss WA HA zA WB HB zB O) w) := by
  rw [← miss_join]
  generalize hw0 : ((w.alloc (Obj.cells #[.int .i64 WA, .int .i64 HA, .slice aA zA.length cA] 26)).alloc (Obj.cells #[.int .i64 WB, .int .i64 HB, .slice aB zB.length cB] 26)).alloc (Obj.cells #[.int .i64 0, .int .i64 0, .slice none 0 0] 26) = w0
  have X0 : Var w0 w.heap.size #[.int .i64 WA, .int .i64 HA, .slice aA zA.length cA] := by subst hw0; exact ((Var.new _ _ _).alloc _).alloc _
  have X1 : Var w0 (w.heap.size + 1) #[.int .i64 WB, .int .i64 HB, .slice aB zB.length cB] := by subst hw0; exact (Var.new' _ _ _ _ (by simp)).alloc _
  have X3 : Var w0 (w.heap.size + 1 + 1) #[.int .i64 0, .int .i64 0, .slice none 0 0] := by subst hw0; exact Var.new' _ _ _ _ (by simp)
  have X4 : Free w0 (w.heap.size + 1 + 1) := by subst hw0; exact Free.new' _ _ _ _ (by simp)
  have X5 : Below w.heap.size w w0 := by subst hw0; exact (((Below.refl _ _).alloc (Nat.le_refl _) _).alloc (by simp) _).alloc (by simp; omega) _
  have HW := Lib.hid hw0
  have VA := Lib.hid X0
  have VB := Lib.hid X1
  have VR := Lib.hid X3
  have FR := Lib.hid X4
  have BW := Lib.hid X5
  have RA := Lib.hid (rA.below X5)
  have RB := Lib.hid (rB.below X5)
  have SZ : w.heap.size + 1 + 1 < w0.heap.size := X3.lt
  clear hw0 X0 X1 X3 X4 X5 rA rB
  obtain ⟨r1, hr1⟩ : ∃ r, r = resCrop WA HA zA (IntKind.i64.wrap (WA - O)) 0 O HA := ⟨_, rfl⟩
  obtain ⟨r2, hr2⟩ : ∃ r, r = resCrop WB HB zB 0 0 O HB := ⟨_, rfl⟩
  have C1 := Lib.hid (by have h := c_iCropAny WA HA zA aA cA (IntKind.i64.wrap (WA - O)) 0 O HA w0 RA.out; rwa [← hr1] at h : Calls Try.prog 120 #[.agg #[.int .i64 WA, .int .i64 HA, .slice aA zA.length cA], .int .i64 (IntKind.i64.wrap (WA - O)), .int .i64 0, .int .i64 O, .int .i64 HA] w0 (RetP 38 r1 w0))
  have C2 := Lib.hid (fun (w' : World) (hE : Below w0.heap.size w0 w') => (by have h := c_iCropAny WB HB zB aB cB 0 0 O HB w' (RB.out.below hE); rwa [← hr2] at h : Calls Try.prog 120 #[.agg #[.int .i64 WB, .int .i64 HB, .slice aB zB.length cB], .int .i64 0, .int .i64 0, .int .i64 O, .int .i64 HB] w' (RetP 38 r2 w')))
  rw [← hr1, ← hr2]
  clear hr1 hr2
  have hwr : wrap64 (WA - O) = IntKind.i64.wrap (WA - O) := (IntWalk.i64_left _).symm
  obtain ⟨c0, c1, c2⟩ := VA.out.three
  go_enter Try.func89, Try.ntmps89
  go_wp2_with fail
  rw [HW.out]
  rw [hwr]
  refine C1.out.mono ?_
  rintro _ w1 ⟨a1, d1, rfl, hl1, b, o⟩
  have O1 := Lib.hid o
  have B1 := Lib.hid b
  have S1 : w0.heap.size ≤ w1.heap.size := b.size
  have HL1 := Lib.hid hl1
  clear o b hl1 c0 c1 c2
  go_upto_region 2 with fail
  generalize hw2 : w1.alloc (Obj.cells #[.int .i64 r1.W, .int .i64 r1.H, .slice a1 r1.zs.length d1] 26) = w2
  have V8 := Lib.hid (show Var w2 w1.heap.size #[.int .i64 r1.W, .int .i64 r1.H, .slice a1 r1.zs.length d1] from by subst hw2; exact Var.new _ _ _)
  have B2 := Lib.hid (show Below w0.heap.size w0 w2 from by subst hw2; exact B1.out.alloc B1.out.size _)
  have O2 := Lib.hid (show Own 38 w2 w0.heap.size a1 r1.zs.length d1 r1.zs from by subst hw2; exact O1.out.alloc _)
  have S2 : w1.heap.size < w2.heap.size := V8.out.lt
  clear hw2 O1 B1
  obtain ⟨c0, c1, c2⟩ := (VB.out.keep B2.out).three
  go_wp2_with fail
  refine (C2.out w2 B2.out).mono ?_
  rintro _ w3 ⟨a2, d2, rfl, hl2, b, o⟩
  have O3 := Lib.hid o
  have HL2 := Lib.hid hl2
  have V83 := Lib.hid (V8.out.keep b)
  have O23 := Lib.hid (O2.out.below b)
  have B3 := Lib.hid (B2.out.trans (b.mono (by omega)))
  have S3 : w2.heap.size ≤ w3.heap.size := b.size
  clear o b hl2 c0 c1 c2 V8 O2 B2
  go_upto_region 3 with fail
  generalize hw4 : w3.alloc (Obj.cells #[.int .i64 r2.W, .int .i64 r2.H, .slice a2 r2.zs.length d2] 26) = w4
  have V10 := Lib.hid (show Var w4 w3.heap.size #[.int .i64 r2.W, .int .i64 r2.H, .slice a2 r2.zs.length d2] from by subst hw4; exact Var.new _ _ _)
  have V84 := Lib.hid (show Var w4 w1.heap.size #[.int .i64 r1.W, .int .i64 r1.H, .slice a1 r1.zs.length d1] from by subst hw4; exact V83.out.alloc _)
  have B4 := Lib.hid (show Below w0.heap.size w0 w4 from by subst hw4; exact B3.out.alloc B3.out.size _)
  have O24 := Lib.hid (show Own 38 w4 w0.heap.size a1 r1.zs.length d1 r1.zs from by subst hw4; exact O23.out.alloc _)
  have O34 := Lib.hid (show Own 38 w4 w2.heap.size a2 r2.zs.length d2 r2.zs from by subst hw4; exact O3.out.alloc _)
  have S4 : w3.heap.size < w4.heap.size := V10.out.lt
  clear hw4 V83 B3 O23 O3
  have CJ := Lib.hid (show Calls Try.prog 121 #[.agg #[.int .i64 r1.W, .int .i64 r1.H, .slice a1 r1.zs.length d1], .agg #[.int .i64 r2.W, .int .i64 r2.H, .slice a2 r2.zs.length d2], .func (.func 122) #[] #[]] w4 (RetP 38 (resJoin r1 r2) w4) from by
    unfold resJoin
    cases hb : bothB r1.W r1.H r1.zs r2.W r2.H r2.zs
    · rw [if_neg (by decide)]; exact c_jnNo _ _ _ _ _ _ _ _ _ _ _ w4 O24.out.row O34.out.row hb
    · rw [if_pos rfl]; exact c_jnMiss _ _ _ _ _ _ _ _ _ _ missG w4 O24.out.row O34.out.row hb (fun k hk => missG_lt _ _) (fun k n m wr hk hB => c_miss1 _ n _ m wr))
  generalize resJoin r1 r2 = r at *
  obtain ⟨c0, c1, c2⟩ := V84.out.three
  obtain ⟨e0, e1, e2⟩ := V10.out.three
  go_wp2_with fail
  refine CJ.out.mono ?_
  rintro _ w5 ⟨a, cap, rfl, hl, b, o⟩
  have V5 := Lib.hid ((VR.out.below B4.out SZ).keep b)
  have F5 := Lib.hid ((FR.out.below SZ B4.out).below (by have := B4.out.size; omega) b)
  have B5 := Lib.hid ((BW.out.trans (B4.out.mono BW.out.size)).trans (b.mono (by have := BW.out.size; omega)))
  have z5 : w4.heap.size ≤ w5.heap.size := b.size
  have O5 := Lib.hid o
  have HL := Lib.hid hl
  clear b o hl c0 c1 c2 e0 e1 e2
  obtain ⟨q0, q1, q2⟩ := V5.out.three
  have f0 := F5.out 0
  have f1 := F5.out 1
  have f2 := F5.out 2
  go_wp2_with fail
  have hrow : blk a ≠ some (w.heap.size + 1 + 1) := fun e => by have := O5.out.in _ e; omega
  refine bodyPost_ret (v := .tuple #[.agg #[.int .i64 r.W, .int .i64 r.H, .slice a r.zs.length cap], .bool r.ok]) (by simp [results, Try.results89, q0, q1, q2, go_sem]) rfl ⟨a, cap, rfl, HL.out, ((B5.out.setCell (by simp <;> omega) _).setCell (by simp <;> omega) _).setCell (by simp <;> omega) _, (((O5.out.setCell hrow _).setCell hrow _).setCell hrow _).mono (by omega)⟩
/-! ### iSumNumbers -/
theorem c_iSum_no (a : Option Addr) (len cap : Nat) (w : World) (j0 : Nat) (h : 256 < len) : Calls Try.prog 123 #[.slice a len cap] (w.drewN j0) (RetV (.tuple #[.float .f32 0, .bool false]) w) := by
  go_enter Try.func123, Try.ntmps123
  go_wp2
  go_ret2
  exact ⟨_, rfl, rfl⟩
theorem c_iSum_yes (a : Option Addr) (len cap : Nat) (zs : List Nat) (w : World) (j0 : Nat) (hr : IsRowF .f32 w a len cap zs) (h : len ≤ 256) : Calls Try.prog 123 #[.slice a len cap] (w.drewN j0) (RetFB .f32 (sumF .add .f32 0 zs) w) := by
  obtain ⟨h1, h2, h3, h4, h5⟩ := hr
  unfold maxLen at h3
  go_enter Try.func123, Try.ntmps123
  go_wp2
  go_loopw [4, 12] (fun s i wr => ∃ k n m : Nat, k ≤ len ∧ i = .int .i64 k ∧ s = .float .f32 (pick .f32 (sumF .add .f32 0 (zs.take k)) n) ∧ wr = w.drewN m) (fun _ i _ => len - (intOf i).toNat)
  case atStart => exact ⟨0, 0, j0, Nat.zero_le _, rfl, rfl, rfl⟩
  case round =>
    obtain ⟨k, n, m, hk, rfl, rfl, rfl⟩ := hrel
    by_cases hlt : k < len
    · rcases h5 with h5 | ⟨b, off, rfl, hbl, hc⟩
      · omega
      have hcell : w.cell? ⟨b, off + k, none⟩ = some (.float .f32 (fat zs k)) := hc k hlt
      have HS := Lib.hid (sumF_snoc .add .f32 0 zs k (by omega))
      clear hc h4
      go_wp2_with (refine wpList_fop rfl _ _ _ _ _ rfl _ _ _ rfl rfl (by decide) _ ?_; intro _ _)
      go_roundw
      case rel => exact ⟨k + 1, _, _, by omega, by go_num, by rw [HS.out], rfl⟩
      case measure => simp [intOf]; omega
    · have e : zs.take k = zs := List.take_of_length_le (by omega)
      rw [e]
      clear h5 h4
      go_wp2
      go_ret2
      exact ⟨_, _, rfl, rfl⟩
/-! ### ifFinite -/
theorem c_ifFinite (v n : Nat) (w : World) (j : Nat) : Calls Try.prog 73 #[.float .f32 (pick .f32 v n)] (w.drewN j) (fun e w' => ∃ k m, e = .returned (.tuple #[.float .f32 (pick .f32 (numR v).1 k), .bool (numR v).2]) ∧ w' = w.drewN m) := by
  cases h : finB .f32 v
  · have e : numR v = (0, false) := by unfold numR; rw [if_neg (by rw [h]; decide)]
    rw [e]
    go_enter Try.func73, Try.ntmps73
    go_wp2_with (first | (go_at_call 115; refine (c_iIsFinite _ _ _ _).mono ?_; rintro _ _ ⟨_, rfl, rfl⟩))
    go_ret2
    exact ⟨0, _, by simp only [pick00]; rfl, rfl⟩
  · have e : numR v = (v, true) := by unfold numR; rw [if_pos h]
    rw [e]
    go_enter Try.func73, Try.ntmps73
    go_wp2_with (first | (go_at_call 115; refine (c_iIsFinite _ _ _ _).mono ?_; rintro _ _ ⟨_, rfl, rfl⟩))
    go_ret2
    exact ⟨n, _, rfl, rfl⟩
/-! ### iMean -/
theorem c_iSum0 (a : Option Addr) (len cap : Nat) (zs : List Nat) (w : World) (hr : IsRowF .f32 w a len cap zs) (h : len ≤ 256) : Calls Try.prog 123 #[.slice a len cap] w (RetFB .f32 (sumF .add .f32 0 zs) w) := by
  have h := c_iSum_yes a len cap zs w 0 hr h
  rwa [w.drewN_zero] at h
theorem c_iMeanLight (W H : Int) (z : List Nat) (a : Option Addr) (c : Nat) (w : World) (r : IsRowF .f32 w a z.length c z) : Calls Try.prog 90 #[.agg #[.int .i64 W, .int .i64 H, .slice a z.length c]] w (RetF1 (meanR W H z) w) := by
  have R := Lib.hid r
  clear r
  cases hv : validB W H z
  · have e : meanR W H z = (0, false) := by unfold meanR; rw [if_neg (by rw [hv]; decide)]
    rw [e]
    have HV := Lib.hid hv
    clear hv
    go_enter Try.func90, Try.ntmps90
    go_wp2_with fail
    refine (c_iValid W H a _ c z _ (R.out.alloc _)).mono ?_
    rintro _ w1 ⟨rfl, b1⟩
    rw [HV.out]
    have B1 := Lib.hid (((Below.refl w.heap.size w).alloc (Nat.le_refl _) _).trans (b1.mono (by simp)))
    clear b1
    go_wp2_with fail
    go_ret2
    exact ⟨0, by simp only [pick00]; rfl, B1.out⟩
  · have e : meanR W H z = numR (meanV z) := by unfold meanR; rw [if_pos hv]
    rw [e]
    unfold meanV
    have hle := mean_len hv
    have HV := Lib.hid hv
    have HL := Lib.hid hle
    clear hv hle
    go_enter Try.func90, Try.ntmps90
    go_wp2_with fail
    refine (c_iValid W H a _ c z _ (R.out.alloc _)).mono ?_
    rintro _ w1 ⟨rfl, b1⟩
    rw [HV.out]
    obtain ⟨p0, p1, p2⟩ := ((Var.new _ _ _).keep b1).three
    have B1 := Lib.hid (((Below.refl w.heap.size w).alloc (Nat.le_refl _) _).trans (b1.mono (by simp)))
    clear b1
    go_wp2_with fail
    refine (c_iSum0 a _ c z _ (R.out.below B1.out) HL.out).mono ?_
    rintro _ _ ⟨n1, m1, rfl, rfl⟩
    go_wp2_with (first | (first | (refine wpList_fop rfl _ _ _ _ _ rfl _ _ _ rfl rfl (by decide) _ ?_; intro _ _) | (refine upon_fop _ _ _ _ _ (by decide) ?_; intro _ _)) | (go_at_call 73; refine (c_ifFinite _ _ _ _).mono ?_; rintro _ _ ⟨k, m, rfl, rfl⟩))
    go_ret2
    exact ⟨_, rfl, below_drewN B1.out _⟩
/-! ### iOverlap -/
theorem c_iOverlapError (WA HA : Int) (zA : List Nat) (aA : Option Addr) (cA : Nat) (WB HB : Int) (zB : List Nat) (aB : Option Addr) (cB : Nat) (O : Int) (w : World) (rA : IsRowF .f32 w aA zA.length cA zA) (rB : IsRowF .f32 w aB zB.length cB zB) (hO : (Lit.int .i64 O).wf = true) : Calls Try.prog 37 #[.agg #[.int .i64 WA, .int .i64 HA, .slice aA zA.length cA], .agg #[.int .i64 WB, .int .i64 HB, .slice aB zB.length cB], .int .i64 O] w (RetF1 (overR WA HA zA WB HB zB O) w) := by
  clear hO
  rw [← over_mean]
  generalize hw0 : (w.alloc (Obj.cells #[.int .i64 WA, .int .i64 HA, .slice aA zA.length cA] 26)).alloc (Obj.cells #[.int .i64 WB, .int .i64 HB, .slice aB zB.length cB] 26) = w0
  have X0 : Var w0 w.heap.size #[.int .i64 WA, .int .i64 HA, .slice aA zA.length cA] := by subst hw0; exact (Var.new _ _ _).alloc _
  have X1 : Var w0 (w.heap.size + 1) #[.int .i64 WB, .int .i64 HB, .slice aB zB.length cB] := by subst hw0; exact Var.new' _ _ _ _ (by simp)
  have X5 : Below w.heap.size w w0 := by subst hw0; exact ((Below.refl _ _).alloc (Nat.le_refl _) _).alloc (by simp) _
  have HW := Lib.hid hw0
  have BW := Lib.hid X5
  have CM := Lib.hid (c_missesOf WA HA zA aA cA WB HB zB aB cB O w0 (rA.below X5) (rB.below X5))
  obtain ⟨c0, c1, c2⟩ := X0.three
  obtain ⟨e0, e1, e2⟩ := X1.three
  clear hw0 X0 X1 X5 rA rB
  generalize resMiss WA HA zA WB HB zB O = r at *
  go_enter Try.func37, Try.ntmps37
  go_wp2_with fail
  rw [HW.out]
  go_wp2_with fail
  refine CM.out.mono ?_
  rintro _ w1 ⟨a, cap, rfl, hl, b, o⟩
  have B1 := Lib.hid (BW.out.trans (b.mono BW.out.size))
  have O1 := Lib.hid o
  clear b o hl c0 c1 c2 e0 e1 e2
  go_upto_region 2 with fail
  generalize hw2 : w1.alloc (Obj.cells #[.int .i64 r.W, .int .i64 r.H, .slice a r.zs.length cap] 26) = w2
  have V2 : Var w2 w1.heap.size #[.int .i64 r.W, .int .i64 r.H, .slice a r.zs.length cap] := by subst hw2; exact Var.new _ _ _
  have B2 := Lib.hid (show Below w.heap.size w w2 from by subst hw2; exact B1.out.alloc B1.out.size _)
  have O2 := Lib.hid (show Own 38 w2 w0.heap.size a r.zs.length cap r.zs from by subst hw2; exact O1.out.alloc _)
  clear hw2
  obtain ⟨c0, c1, c2⟩ := V2.three
  clear V2
  go_wp2_with fail
  refine (c_iMeanLight r.W r.H r.zs a cap w2 O2.out.row).mono ?_
  rintro _ w3 ⟨n3, rfl, b3⟩
  have B3 := Lib.hid (B2.out.trans (b3.mono B2.out.size))
  clear b3 c0 c1 c2
  go_wp2_with fail
  go_ret2
  exact ⟨_, rfl, B3.out⟩
/-! ### lawOverlap -/

/-! ### FnExactOverlapError -/
set_option maxHeartbeats 8000000 in
theorem walkG (WA HA : Int) (zA : List Nat) (aA : Option Addr) (cA : Nat) (WB HB : Int) (zB : List Nat) (aB : Option Addr) (cB : Nat) (xO : Int) (w : World) (r : Nat × Bool) (cS : ∀ (aA : Option Addr) (cA : Nat) (aB : Option Addr) (cB : Nat) (w : World), IsRowF .f32 w aA zA.length cA zA → IsRowF .f32 w aB zB.length cB zB → Calls Try.prog 36 #[.agg #[.int .i64 WA, .int .i64 HA, .slice aA zA.length cA], .agg #[.int .i64 WB, .int .i64 HB, .slice aB zB.length cB], .int .i64 xO] w (RetF1 r w)) (cI : ∀ (aA : Option Addr) (cA : Nat) (aB : Option Addr) (cB : Nat) (w : World), IsRowF .f32 w aA zA.length cA zA → IsRowF .f32 w aB zB.length cB zB → Calls Try.prog 37 #[.agg #[.int .i64 WA, .int .i64 HA, .slice aA zA.length cA], .agg #[.int .i64 WB, .int .i64 HB, .slice aB zB.length cB], .int .i64 xO] w (RetF1 r w)) (rA : IsRowF .f32 w aA zA.length cA zA) (rB : IsRowF .f32 w aB zB.length cB zB) (hl : zA.length + zB.length ≤ 1048576) : Calls Try.prog 9 #[.agg #[.int .i64 WA, .int .i64 HA, .slice aA zA.length cA], .agg #[.int .i64 WB, .int .i64 HB, .slice aB zB.length cB], .int .i64 xO] w fun e w' => e = .returned (.bool true) ∧ Below w.heap.size w w' := by
  have CS := Lib.hid cS
  have CI := Lib.hid cI
  clear cS cI
  have RA := Lib.hid rA
  have RB := Lib.hid rB
  clear rA rB
  go_enter Try.func9, Try.ntmps9
  go_wp2_with fail
  refine (c_szP WA HA aA zA.length cA (1048576 : Int) _ (by omega) (by omega)).mono ?_
  rintro _ w1 ⟨rfl, b⟩
  have VpA_1 := Lib.hid (((Var.new' _ _ _ (w.heap.size) (by first | rfl | simp)).alloc _).keep b)
  have VpB_1 := Lib.hid ((Var.new' _ _ _ (w.heap.size + 1) (by first | rfl | simp)).keep b)
  have B_1 := Lib.hid ((((Below.refl w.heap.size w).alloc (Nat.le_refl _) _).alloc (by simp) _).trans (b.mono (by simp; omega)))
  have S_1 : w.heap.size + 2 ≤ w1.heap.size := by have := b.size; simp at this; omega
  have zpA_1 : w.heap.size < w1.heap.size := by omega
  have zpB_1 : w.heap.size + 1 < w1.heap.size := by omega
  clear b
  have hzA : ¬ (((1048576 : Int) - (zA.length : Int)) < 0) := by omega
  obtain ⟨cpB0, cpB1, cpB2⟩ := VpB_1.out.three
  go_wp2_with fail
  clear cpB0 cpB1 cpB2
  refine (c_szP WB HB aB zB.length cB ((1048576 : Int) - (zA.length : Int)) _ (by omega) (by omega)).mono ?_
  rintro _ w2 ⟨rfl, b⟩
  have VpA_2 := Lib.hid (VpA_1.out.keep b)
  have VpB_2 := Lib.hid (VpB_1.out.keep b)
  have B_2 := Lib.hid (B_1.out.trans (b.mono (by omega)))
  have S_2 : w1.heap.size + 0 ≤ w2.heap.size := by have := b.size; omega
  have zpA_2 : w.heap.size < w2.heap.size := by omega
  have zpB_2 : w.heap.size + 1 < w2.heap.size := by omega
  clear b
  clear VpA_1 zpA_1 VpB_1 zpB_1 B_1
  have hzB : ¬ ((((1048576 : Int) - (zA.length : Int)) - (zB.length : Int)) < 0) := by omega
  obtain ⟨cpA0, cpA1, cpA2⟩ := VpA_2.out.three
  obtain ⟨cpB0, cpB1, cpB2⟩ := VpB_2.out.three
  go_wp2_with fail
  have QA := Lib.hid (RA.out.below B_2.out)
  have QB := Lib.hid (RB.out.below B_2.out)
  go_cut [8, 9] (fun s6 s7 wx => ∃ n, s6 = .float .f32 (pick .f32 r.1 n) ∧ s7 = .bool r.2 ∧ Below w2.heap.size w2 wx)
  case first =>
    have KS : ∀ w' : World, Below w2.heap.size w2 w' → (Below w2.heap.size w2 w' ∧ w'.cell? ⟨w.heap.size, 0, none⟩ = some (.int .i64 WA) ∧ w'.cell? ⟨w.heap.size, 1, none⟩ = some (.int .i64 HA) ∧ w'.cell? ⟨w.heap.size, 2, none⟩ = some (.slice aA zA.length cA) ∧ w'.cell? ⟨w.heap.size + 1, 0, none⟩ = some (.int .i64 WB) ∧ w'.cell? ⟨w.heap.size + 1, 1, none⟩ = some (.int .i64 HB) ∧ w'.cell? ⟨w.heap.size + 1, 2, none⟩ = some (.slice aB zB.length cB)) := fun w' hB => ⟨hB, (VpA_2.out.keep hB).three.1, (VpA_2.out.keep hB).three.2.1, (VpA_2.out.keep hB).three.2.2, (VpB_2.out.keep hB).three.1, (VpB_2.out.keep hB).three.2.1, (VpB_2.out.keep hB).three.2.2⟩
    have KD := Lib.hid (KS _ (Below.refl _ _).drew)
    have KH := Lib.hid KS
    clear KS
    have eD : Below w2.heap.size w2 w2.drew := (Below.refl _ _).drew
    go_region_held3 (fun w' => Below w2.heap.size w2 w' ∧ w'.cell? ⟨w.heap.size, 0, none⟩ = some (.int .i64 WA) ∧ w'.cell? ⟨w.heap.size, 1, none⟩ = some (.int .i64 HA) ∧ w'.cell? ⟨w.heap.size, 2, none⟩ = some (.slice aA zA.length cA) ∧ w'.cell? ⟨w.heap.size + 1, 0, none⟩ = some (.int .i64 WB) ∧ w'.cell? ⟨w.heap.size + 1, 1, none⟩ = some (.int .i64 HB) ∧ w'.cell? ⟨w.heap.size + 1, 2, none⟩ = some (.slice aB zB.length cB)) (first | exact KD.out | exact KH.out _ eD | exact KH.out _ (eD.alloc eD.size _) | exact KH.out _ eA | exact KH.out _ (eA.alloc eA.size _) | exact KH.out _ eB | exact KH.out _ (eB.alloc eB.size _) | exact KH.out _ ef | exact KH.out _ (ef.alloc ef.size _) | exact KH.out _ (((ef.setCell (by first | omega | (simp <;> omega)) _).setCell (by first | omega | (simp <;> omega)) _).setCell (by first | omega | (simp <;> omega)) _)) (first | (go_at_call 17; ((with_reducible refine (c_toP WA HA aA zA.length cA zA _ (QA.out.below (And.left (by assumption))) (by omega)).mono ?_); rintro _ wwA ⟨gA, rfl, bA, oA⟩; obtain ⟨hcA, hfA⟩ := bcell bA; have eA : Below w2.heap.size w2 wwA := (Below.trans (And.left (by assumption)) (Below.mono bA (Below.size (And.left (by assumption))))); have qA := bA.size; (try (simp at qA)); (try (have tDA : w2.heap.size < wwA.heap.size := by omega)); (try (have tBA : wwB.heap.size < wwA.heap.size := by omega)))) | (go_at_call 17; ((with_reducible refine (c_toP WB HB aB zB.length cB zB _ (QB.out.below (And.left (by assumption))) (by omega)).mono ?_); rintro _ wwB ⟨gB, rfl, bB, oB⟩; obtain ⟨hcB, hfB⟩ := bcell bB; have eB : Below w2.heap.size w2 wwB := (Below.trans (And.left (by assumption)) (Below.mono bB (Below.size (And.left (by assumption))))); have qB := bB.size; (try (simp at qB)); (try (have tDB : w2.heap.size < wwB.heap.size := by omega)); (try (have tAB : wwA.heap.size < wwB.heap.size := by omega)))) | (go_at_call 36; (refine (CS.out _ _ _ _ _ (oA.below (by first | exact Below.refl _ _ | exact (Below.refl _ _).alloc (Nat.le_refl _) _ | exact bB | exact bB.alloc bB.size _ | exact (((Below.refl _ _).alloc (Nat.le_refl _) _).trans (bB.mono (by simp))))).row (oB.below (by first | exact Below.refl _ _ | exact (Below.refl _ _).alloc (Nat.le_refl _) _ | exact bA | exact bA.alloc bA.size _ | exact (((Below.refl _ _).alloc (Nat.le_refl _) _).trans (bA.mono (by simp))))).row).mono ?_); rintro _ wf ⟨nf, rfl, bf⟩; obtain ⟨hcf, hff⟩ := bcell bf; have ef : Below w2.heap.size w2 wf := (Below.trans (And.left (by assumption)) (Below.mono bf (Below.size (And.left (by assumption))))); have qf := bf.size; (try (simp at qf)); (try (have tDf : w2.heap.size < wf.heap.size := by omega)); (try (have tAf : wwA.heap.size < wf.heap.size := by omega)); (try (have tBf : wwB.heap.size < wf.heap.size := by omega))))
    all_goals (go_wp2_with fail; go_meet; exact ⟨_, rfl, rfl, ef⟩)
  obtain ⟨nu, rfl, rfl, b⟩ := hcut
  obtain ⟨w3, rfl⟩ : ∃ x : World, x = wc := ⟨_, rfl⟩
  clear QA QB
  clear cpA0 cpA1 cpA2 cpB0 cpB1 cpB2
  have VpA_3 := Lib.hid (VpA_2.out.keep b)
  have VpB_3 := Lib.hid (VpB_2.out.keep b)
  have B_3 := Lib.hid (B_2.out.trans (b.mono (by omega)))
  have S_3 : w2.heap.size + 0 ≤ w3.heap.size := by have := b.size; omega
  have zpA_3 : w.heap.size < w3.heap.size := by omega
  have zpB_3 : w.heap.size + 1 < w3.heap.size := by omega
  clear b
  clear VpA_2 zpA_2 VpB_2 zpB_2 B_2
  obtain ⟨cpA0, cpA1, cpA2⟩ := VpA_3.out.three
  go_wp2_with fail
  clear cpA0 cpA1 cpA2
  refine (c_toP WA HA aA zA.length cA zA _ (RA.out.below B_3.out) (by omega)).mono ?_
  rintro _ w4 ⟨gxA, rfl, b, o⟩
  have LxA := Lib.hid o.in
  have OxA_4 := Lib.hid o
  clear o
  have VpA_4 := Lib.hid (VpA_3.out.keep b)
  have VpB_4 := Lib.hid (VpB_3.out.keep b)
  have B_4 := Lib.hid (B_3.out.trans (b.mono (by omega)))
  have S_4 : w3.heap.size + 0 ≤ w4.heap.size := by have := b.size; omega
  have zpA_4 : w.heap.size < w4.heap.size := by omega
  have zpB_4 : w.heap.size + 1 < w4.heap.size := by omega
  clear b
  clear VpA_3 zpA_3 VpB_3 zpB_3 B_3
  obtain ⟨cpB0, cpB1, cpB2⟩ := VpB_4.out.three
  go_wp2_with fail
  clear cpB0 cpB1 cpB2
  refine (c_toP WB HB aB zB.length cB zB _ ((RB.out.below B_4.out).alloc _) (by omega)).mono ?_
  rintro _ w5 ⟨gxB, rfl, b, o⟩
  have LxB := Lib.hid o.in
  have LxB := Lib.hid (by have h := LxB.out; simp only [World.size_alloc] at h; exact h)
  have OxB_5 := Lib.hid o
  clear o
  have VpA_5 := Lib.hid ((VpA_4.out.alloc _).keep b)
  have VpB_5 := Lib.hid ((VpB_4.out.alloc _).keep b)
  have VxA_5 := Lib.hid ((Var.new' _ _ _ (w4.heap.size) (by first | rfl | simp)).keep b)
  have OxA_5 := Lib.hid ((OxA_4.out.alloc _).below b)
  have B_5 := Lib.hid ((B_4.out.alloc (by omega) _).trans (b.mono (by simp; omega)))
  have S_5 : w4.heap.size + 1 ≤ w5.heap.size := by have := b.size; simp at this; omega
  have zpA_5 : w.heap.size < w5.heap.size := by omega
  have zpB_5 : w.heap.size + 1 < w5.heap.size := by omega
  have zxA_5 : w4.heap.size < w5.heap.size := by omega
  clear b
  clear VpA_4 zpA_4 VpB_4 zpB_4 OxA_4 B_4
  obtain ⟨cxA0, cxA1, cxA2⟩ := VxA_5.out.three
  go_wp2_with fail
  clear cxA0 cxA1 cxA2
  refine (CI.out _ _ _ _ _ (OxA_5.out.alloc _).row (OxB_5.out.alloc _).row).mono ?_
  rintro _ w6 ⟨mg0, rfl, b⟩
  have VpA_6 := Lib.hid ((VpA_5.out.alloc _).keep b)
  have VpB_6 := Lib.hid ((VpB_5.out.alloc _).keep b)
  have VxA_6 := Lib.hid ((VxA_5.out.alloc _).keep b)
  have VxB_6 := Lib.hid ((Var.new' _ _ _ (w5.heap.size) (by first | rfl | simp)).keep b)
  have OxA_6 := Lib.hid ((OxA_5.out.alloc _).below b)
  have OxB_6 := Lib.hid ((OxB_5.out.alloc _).below b)
  have B_6 := Lib.hid ((B_5.out.alloc (by omega) _).trans (b.mono (by simp; omega)))
  have S_6 : w5.heap.size + 1 ≤ w6.heap.size := by have := b.size; simp at this; omega
  have zpA_6 : w.heap.size < w6.heap.size := by omega
  have zpB_6 : w.heap.size + 1 < w6.heap.size := by omega
  have zxA_6 : w4.heap.size < w6.heap.size := by omega
  have zxB_6 : w5.heap.size < w6.heap.size := by omega
  clear b
  clear VpA_5 zpA_5 VpB_5 zpB_5 VxA_5 zxA_5 OxA_5 OxB_5 B_5
  rw [← w6.drewN_zero]
  go_wp2_with (first | (refine wpList_cvU rfl 38 42 _ rfl (Option.isSome_iff_exists.2 ⟨_, Try.underlying38⟩) Try.underlying42 _ rfl _ ?_; intro _ _) | (go_at_call 28; refine (c_sameFloat _ _ _ _ _).mono ?_; rintro _ _ ⟨jx, rfl, rfl⟩))
  have b : Below w6.heap.size w6 (w6.drewN jx) := below_drewN (Below.refl _ _) _
  generalize w6.drewN jx = w7 at *
  have VpA_7 := Lib.hid (VpA_6.out.keep b)
  have VpB_7 := Lib.hid (VpB_6.out.keep b)
  have VxA_7 := Lib.hid (VxA_6.out.keep b)
  have VxB_7 := Lib.hid (VxB_6.out.keep b)
  have OxA_7 := Lib.hid (OxA_6.out.below b)
  have OxB_7 := Lib.hid (OxB_6.out.below b)
  have B_7 := Lib.hid (B_6.out.trans (b.mono (by omega)))
  have S_7 : w6.heap.size + 0 ≤ w7.heap.size := by have := b.size; omega
  have zpA_7 : w.heap.size < w7.heap.size := by omega
  have zpB_7 : w.heap.size + 1 < w7.heap.size := by omega
  have zxA_7 : w4.heap.size < w7.heap.size := by omega
  have zxB_7 : w5.heap.size < w7.heap.size := by omega
  clear b
  clear VpA_6 zpA_6 VpB_6 zpB_6 VxA_6 zxA_6 VxB_6 zxB_6 OxA_6 OxB_6 B_6
  obtain ⟨cpA0, cpA1, cpA2⟩ := VpA_7.out.three
  obtain ⟨cxA0, cxA1, cxA2⟩ := VxA_7.out.three
  try (go_wp2_with fail)
  have D : Below w7.heap.size w7 w7.drew := (Below.refl _ _).drew
  have RD := Lib.hid ((RA.out.below B_7.out).below D)
  have XD := Lib.hid (OxA_7.out.below D)
  have HD := Lib.hid D
  clear D
  go_region_held3 (fun w' => w'.cell? ⟨w.heap.size, 0, none⟩ = some (.int .i64 WA) ∧ w'.cell? ⟨w.heap.size, 1, none⟩ = some (.int .i64 HA) ∧ w'.cell? ⟨w.heap.size, 2, none⟩ = some (.slice aA zA.length cA) ∧ w'.cell? ⟨w4.heap.size, 0, none⟩ = some (.int .i64 WA) ∧ w'.cell? ⟨w4.heap.size, 1, none⟩ = some (.int .i64 HA) ∧ w'.cell? ⟨w4.heap.size, 2, none⟩ = some (.slice (some ⟨gxA, 0, none⟩) zA.length zA.length)) (first | exact ⟨cpA0, cpA1, cpA2, cxA0, cxA1, cxA2⟩ | (have e1 := ((VpA_7.out.keep HD.out).keep b7).three; have e2 := ((VxA_7.out.keep HD.out).keep b7).three; exact ⟨e1.1, e1.2.1, e1.2.2, e2.1, e2.2.1, e2.2.2⟩) | (have e1 := (((VpA_7.out.keep HD.out).keep b7).keep b8).three; have e2 := (((VxA_7.out.keep HD.out).keep b7).keep b8).three; exact ⟨e1.1, e1.2.1, e1.2.2, e2.1, e2.2.1, e2.2.2⟩)) (first | (go_at_call 17; refine (c_toP WA HA aA zA.length cA zA _ RD.out (by omega)).mono ?_; rintro _ wt ⟨g7, rfl, b7, o7⟩) | (go_at_call 19; refine (c_eqP _ _ _ _ _ _ _ _ _ (XD.out.below b7).row o7.row).mono ?_; rintro _ w8 ⟨rfl, b8⟩))
  have b := HD.out.trans (b7.trans (b8.mono b7.size))
  clear RD XD HD b7 b8 o7
  clear cpA0 cpA1 cpA2 cxA0 cxA1 cxA2
  have VpA_8 := Lib.hid (VpA_7.out.keep b)
  have VpB_8 := Lib.hid (VpB_7.out.keep b)
  have VxA_8 := Lib.hid (VxA_7.out.keep b)
  have VxB_8 := Lib.hid (VxB_7.out.keep b)
  have OxA_8 := Lib.hid (OxA_7.out.below b)
  have OxB_8 := Lib.hid (OxB_7.out.below b)
  have B_8 := Lib.hid (B_7.out.trans (b.mono (by omega)))
  have S_8 : w7.heap.size + 0 ≤ w8.heap.size := by have := b.size; omega
  have zpA_8 : w.heap.size < w8.heap.size := by omega
  have zpB_8 : w.heap.size + 1 < w8.heap.size := by omega
  have zxA_8 : w4.heap.size < w8.heap.size := by omega
  have zxB_8 : w5.heap.size < w8.heap.size := by omega
  clear b
  clear VpA_7 zpA_7 VpB_7 zpB_7 VxA_7 zxA_7 VxB_7 zxB_7 OxA_7 OxB_7 B_7
  obtain ⟨cpB0, cpB1, cpB2⟩ := VpB_8.out.three
  obtain ⟨cxB0, cxB1, cxB2⟩ := VxB_8.out.three
  try (go_wp2_with fail)
  have D : Below w8.heap.size w8 w8.drew := (Below.refl _ _).drew
  have RD := Lib.hid ((RB.out.below B_8.out).below D)
  have XD := Lib.hid (OxB_8.out.below D)
  have HD := Lib.hid D
  clear D
  go_region_held3 (fun w' => w'.cell? ⟨w.heap.size + 1, 0, none⟩ = some (.int .i64 WB) ∧ w'.cell? ⟨w.heap.size + 1, 1, none⟩ = some (.int .i64 HB) ∧ w'.cell? ⟨w.heap.size + 1, 2, none⟩ = some (.slice aB zB.length cB) ∧ w'.cell? ⟨w5.heap.size, 0, none⟩ = some (.int .i64 WB) ∧ w'.cell? ⟨w5.heap.size, 1, none⟩ = some (.int .i64 HB) ∧ w'.cell? ⟨w5.heap.size, 2, none⟩ = some (.slice (some ⟨gxB, 0, none⟩) zB.length zB.length)) (first | exact ⟨cpB0, cpB1, cpB2, cxB0, cxB1, cxB2⟩ | (have e1 := ((VpB_8.out.keep HD.out).keep b7).three; have e2 := ((VxB_8.out.keep HD.out).keep b7).three; exact ⟨e1.1, e1.2.1, e1.2.2, e2.1, e2.2.1, e2.2.2⟩) | (have e1 := (((VpB_8.out.keep HD.out).keep b7).keep b8).three; have e2 := (((VxB_8.out.keep HD.out).keep b7).keep b8).three; exact ⟨e1.1, e1.2.1, e1.2.2, e2.1, e2.2.1, e2.2.2⟩)) (first | (go_at_call 17; refine (c_toP WB HB aB zB.length cB zB _ RD.out (by omega)).mono ?_; rintro _ wt ⟨g7, rfl, b7, o7⟩) | (go_at_call 19; refine (c_eqP _ _ _ _ _ _ _ _ _ (XD.out.below b7).row o7.row).mono ?_; rintro _ w9 ⟨rfl, b8⟩))
  have b := HD.out.trans (b7.trans (b8.mono b7.size))
  clear RD XD HD b7 b8 o7
  clear cpB0 cpB1 cpB2 cxB0 cxB1 cxB2
  have VpA_9 := Lib.hid (VpA_8.out.keep b)
  have VpB_9 := Lib.hid (VpB_8.out.keep b)
  have VxA_9 := Lib.hid (VxA_8.out.keep b)
  have VxB_9 := Lib.hid (VxB_8.out.keep b)
  have OxA_9 := Lib.hid (OxA_8.out.below b)
  have OxB_9 := Lib.hid (OxB_8.out.below b)
  have B_9 := Lib.hid (B_8.out.trans (b.mono (by omega)))
  have S_9 : w8.heap.size + 0 ≤ w9.heap.size := by have := b.size; omega
  have zpA_9 : w.heap.size < w9.heap.size := by omega
  have zpB_9 : w.heap.size + 1 < w9.heap.size := by omega
  have zxA_9 : w4.heap.size < w9.heap.size := by omega
  have zxB_9 : w5.heap.size < w9.heap.size := by omega
  clear b
  clear VpA_8 zpA_8 VpB_8 zpB_8 VxA_8 zxA_8 VxB_8 zxB_8 OxA_8 OxB_8 B_8
  go_wp2_with fail
  go_ret
  exact ⟨rfl, B_9.out⟩
theorem walkL0 (WA HA : Int) (zA : List Nat) (aA : Option Addr) (cA : Nat) (WB HB : Int) (zB : List Nat) (aB : Option Addr) (cB : Nat) (xO : Int) (w : World) (rA : IsRowF .f32 w aA zA.length cA zA) (rB : IsRowF .f32 w aB zB.length cB zB)  (hm : zA.length ≤ maxLen) (hl : 1048576 < zA.length) : Calls Try.prog 9 #[.agg #[.int .i64 WA, .int .i64 HA, .slice aA zA.length cA], .agg #[.int .i64 WB, .int .i64 HB, .slice aB zB.length cB], .int .i64 xO] w fun e w' => e = .returned (.bool true) ∧ Below w.heap.size w w' := by
  unfold maxLen at hm
  have RA := Lib.hid rA
  have RB := Lib.hid rB
  clear rA rB
  go_enter Try.func9, Try.ntmps9
  go_wp2_with fail
  refine (c_szP_no WA HA aA zA.length cA (1048576 : Int) _ (by omega) (by omega)).mono ?_
  rintro _ w1 ⟨rfl, b⟩
  have VpA_1 := Lib.hid (((Var.new' _ _ _ (w.heap.size) (by first | rfl | simp)).alloc _).keep b)
  have VpB_1 := Lib.hid ((Var.new' _ _ _ (w.heap.size + 1) (by first | rfl | simp)).keep b)
  have B_1 := Lib.hid ((((Below.refl w.heap.size w).alloc (Nat.le_refl _) _).alloc (by simp) _).trans (b.mono (by simp; omega)))
  have S_1 : w.heap.size + 2 ≤ w1.heap.size := by have := b.size; simp at this; omega
  have zpA_1 : w.heap.size < w1.heap.size := by omega
  have zpB_1 : w.heap.size + 1 < w1.heap.size := by omega
  clear b
  go_wp2_with fail
  go_ret
  exact ⟨rfl, B_1.out⟩
theorem walkL1 (WA HA : Int) (zA : List Nat) (aA : Option Addr) (cA : Nat) (WB HB : Int) (zB : List Nat) (aB : Option Addr) (cB : Nat) (xO : Int) (w : World) (rA : IsRowF .f32 w aA zA.length cA zA) (rB : IsRowF .f32 w aB zB.length cB zB) (hp : zA.length ≤ 1048576) (hm : zB.length ≤ maxLen) (hl : 1048576 < zA.length + zB.length) : Calls Try.prog 9 #[.agg #[.int .i64 WA, .int .i64 HA, .slice aA zA.length cA], .agg #[.int .i64 WB, .int .i64 HB, .slice aB zB.length cB], .int .i64 xO] w fun e w' => e = .returned (.bool true) ∧ Below w.heap.size w w' := by
  unfold maxLen at hm
  have RA := Lib.hid rA
  have RB := Lib.hid rB
  clear rA rB
  go_enter Try.func9, Try.ntmps9
  go_wp2_with fail
  refine (c_szP WA HA aA zA.length cA (1048576 : Int) _ (by omega) (by omega)).mono ?_
  rintro _ w1 ⟨rfl, b⟩
  have VpA_1 := Lib.hid (((Var.new' _ _ _ (w.heap.size) (by first | rfl | simp)).alloc _).keep b)
  have VpB_1 := Lib.hid ((Var.new' _ _ _ (w.heap.size + 1) (by first | rfl | simp)).keep b)
  have B_1 := Lib.hid ((((Below.refl w.heap.size w).alloc (Nat.le_refl _) _).alloc (by simp) _).trans (b.mono (by simp; omega)))
  have S_1 : w.heap.size + 2 ≤ w1.heap.size := by have := b.size; simp at this; omega
  have zpA_1 : w.heap.size < w1.heap.size := by omega
  have zpB_1 : w.heap.size + 1 < w1.heap.size := by omega
  clear b
  have hzA : ¬ (((1048576 : Int) - (zA.length : Int)) < 0) := by omega
  obtain ⟨cpB0, cpB1, cpB2⟩ := VpB_1.out.three
  go_wp2_with fail
  clear cpB0 cpB1 cpB2
  refine (c_szP_no WB HB aB zB.length cB ((1048576 : Int) - (zA.length : Int)) _ (by omega) (by omega)).mono ?_
  rintro _ w2 ⟨rfl, b⟩
  have VpA_2 := Lib.hid (VpA_1.out.keep b)
  have VpB_2 := Lib.hid (VpB_1.out.keep b)
  have B_2 := Lib.hid (B_1.out.trans (b.mono (by omega)))
  have S_2 : w1.heap.size + 0 ≤ w2.heap.size := by have := b.size; omega
  have zpA_2 : w.heap.size < w2.heap.size := by omega
  have zpB_2 : w.heap.size + 1 < w2.heap.size := by omega
  clear b
  clear VpA_1 zpA_1 VpB_1 zpB_1 B_1
  go_wp2_with fail
  go_ret
  exact ⟨rfl, B_2.out⟩
theorem walk (WA HA : Int) (zA : List Nat) (aA : Option Addr) (cA : Nat) (WB HB : Int) (zB : List Nat) (aB : Option Addr) (cB : Nat) (xO : Int) (w : World) (rA : IsRowF .f32 w aA zA.length cA zA) (rB : IsRowF .f32 w aB zB.length cB zB) (hO : (Lit.int .i64 xO).wf = true) : Calls Try.prog 9 #[.agg #[.int .i64 WA, .int .i64 HA, .slice aA zA.length cA], .agg #[.int .i64 WB, .int .i64 HB, .slice aB zB.length cB], .int .i64 xO] w fun e w' => e = .returned (.bool true) ∧ Below w.heap.size w w' := by
  have mA : zA.length ≤ maxLen := Nat.le_trans rA.2.1 rA.2.2.1
  have mB : zB.length ≤ maxLen := Nat.le_trans rB.2.1 rB.2.2.1
  by_cases g0 : 1048576 < zA.length
  · exact walkL0 WA HA zA aA cA WB HB zB aB cB xO w rA rB  mA g0
  by_cases g1 : 1048576 < zA.length + zB.length
  · exact walkL1 WA HA zA aA cA WB HB zB aB cB xO w rA rB (by omega) mB g1
  exact walkG WA HA zA aA cA WB HB zB aB cB xO w (overR WA HA zA WB HB zB xO) (fun aA cA aB cB w rA rB => c_sOverlapError WA HA zA aA cA WB HB zB aB cB xO w rA rB hO) (fun aA cA aB cB w rA rB => c_iOverlapError WA HA zA aA cA WB HB zB aB cB xO w rA rB hO) rA rB (by omega)
theorem own : ownKnob Try.prog.godebug = none := by kernel_rfl
theorem laidOut : laidOutB Try.prog = true := by kernel_rfl
set_option maxRecDepth 100000 in
theorem lifted (os : Os) (started : os.Started) (H : Type) (enc : TypeId × Value → H) :
    ReturnsInHanded {} Try.checked os 9 .any (Rows.fnExactOverlapErrorSpec.pre6 enc Try.prog Try.f9 Rows.fnExactOverlapErrorRow.domain false) (Rows.fnExactOverlapErrorSpec.post enc Try.prog Try.f9 false true false false) := by
  refine returnsInHanded_of_change (C := Try.checked) own started (by kernel_rfl) Try.func9
    (ChangeSpec.witness6 (enc := enc) (C := Try.checked) false ⟨#[], #[.agg #[.int .i64 0, .int .i64 0, .slice none 0 0], .agg #[.int .i64 0, .int .i64 0, .slice none 0 0], .int .i64 0], []⟩ 8 (by kernel_rfl) (by kernel_rfl) (by kernel_rfl) (by kernel_rfl)) ?_
  intro W base args ds gs before hval0 hW hcnd _
  have hval : ∀ (j : Nat) t v, Try.f9.params[j]? = some t → args[j]? = some v → Value.okWide Try.prog W .any base t v := hval0
  have hW' := hW
  obtain ⟨p, q, hA0, hV, rfl, hfz, hnd⟩ := hW
  have hA : DataW.TrodAll enc Try.prog W 0 (fun _ => true) true Try.f9.params.toList args.toList ds p := hA0
  rw [Try.params9] at hA hval
  obtain ⟨v0, vs0, d0, ds0, p0, q0, hargs, rfl, rfl, h0, r0⟩ := trodAll_cons hA
  obtain ⟨v1, vs1, d1, ds1, p1, q1, rfl, rfl, rfl, h1, r1⟩ := trodAll_cons r0
  obtain ⟨v2, vs2, d2, ds2, p2, q2, rfl, rfl, rfl, h2, r2⟩ := trodAll_cons r1
  obtain ⟨rfl, rfl, rfl⟩ := trodAll_nil r2
  obtain rfl : args = #[v0, v1, v2] := by cases args; simp_all
  obtain ⟨rfl, rfl⟩ := trodVars_none hV
  have k0 := h0
  have lt0 : ∀ x ∈ p0, x.block < W.heap.size := by obtain ⟨m, hm⟩ := k0; exact DataW.trod_lt m _ _ _ hm
  obtain ⟨W0, H0, z0, a0, c0, rfl, wW0, wH0, w0⟩ := open_pic Try.underlying24 (by kernel_rfl) (by kernel_rfl) Try.underlying2 Try.underlying2 Try.underlying22 Try.underlying38 (by kernel_rfl) (hval 0 24 v0 rfl rfl) h0
  have k1 := h1
  have lt1 : ∀ x ∈ p1, x.block < W.heap.size := by obtain ⟨m, hm⟩ := k1; exact DataW.trod_lt m _ _ _ hm
  obtain ⟨W1, H1, z1, a1, c1, rfl, wW1, wH1, w1⟩ := open_pic Try.underlying24 (by kernel_rfl) (by kernel_rfl) Try.underlying2 Try.underlying2 Try.underlying22 Try.underlying38 (by kernel_rfl) (hval 1 24 v1 rfl rfl) h1
  obtain ⟨a2, rfl, rfl, rfl, w2⟩ := open_int Try.underlying2 (hval 2 2 v2 rfl rfl) h2
  clear hA0 hval0
  have hw0 : Calls Try.prog 9 #[.agg #[.int .i64 W0, .int .i64 H0, .slice a0 z0.length c0], .agg #[.int .i64 W1, .int .i64 H1, .slice a1 z1.length c1], .int .i64 a2] W fun e w' => e = .returned (.bool true) ∧ Below W.heap.size W w' := by
    exact walk W0 H0 z0 a0 c0 W1 H1 z1 a1 c1 a2 W w0 w1 w2
  refine hw0.mono fun e W' ⟨he, bel⟩ => ?_
  subst he
  exact ⟨_, rfl, _, _, _, [], _, [], hW', trodAll_mk1 (shut_bool Try.underlying4 _), (trodAll_cons_mk (Below.trod laidOut (by kernel_rfl) (of_decide_eq_true (by kernel_rfl)) k0 bel lt0) (trodAll_cons_mk (Below.trod laidOut (by kernel_rfl) (of_decide_eq_true (by kernel_rfl)) k1 bel lt1) (trodAll_cons_mk (shut_int Try.underlying2 w2) trodAll_mk0))), rfl, bel.frame _, fun h => by cases h⟩

theorem over : Rows.fnExactOverlapErrorRow.holds Try.pinned (OpenSpec.ofChange Rows.fnExactOverlapErrorSpec) :=
  OpenClaim.holds_of_wide 9 Try.f9 rfl rfl rfl rfl rfl rfl rfl ⟨rfl, rfl, rfl, rfl, rfl⟩ rfl rfl rfl rfl rfl (by kernel_rfl) Try.func9 (by kernel_rfl)
    (of_decide_eq_true (by kernel_rfl)) (by unfold Func.isWrapper; first | (rw [if_pos (by decide +kernel)]; kernel_rfl) | (rw [if_neg (by decide +kernel)]; exact ⟨rfl, rfl⟩))
    (fun os started H enc _ => lifted os started H enc)

theorem proved : Rows.FnExactOverlapErrorSaid := over
#print axioms proved

end Go.Proofs.Ytclbliflmhjebaa.fnExactOverlapError

/-
  FnExactBrightestWay: for every input this law of the program returns true, and each argument reads as before. No condition.
-/
import Derived.Test.YtmngedfibmnohabRows
import Derived.Test.YtmngedfibmnohabRow
import Derived.Test.YtmngedfibmnohabBy
import Derived.Test.YtmngedfibmnohabMn
import Derived.Test.YtmngedfibmnohabAp
import Derived.ProofKit
import Derived.OpenShut
import Derived.ShutString
import Derived.ChangeOld
import Derived.Below
import Derived.Lib.Hide
import Derived.Outline
import Derived.Deep.RegionHeld3
import Derived.Deep.DeepCutAuto
set_option linter.unusedSimpArgs false
set_option linter.unusedVariables false
set_option exponentiation.threshold 2000
set_option maxRecDepth 20000
set_option maxHeartbeats 4000000
namespace Go.Proofs.Ytmngedfibmnohab.fnExactBrightestWay
open Go Go.Proofs.Ytmngedfibmnohab Go.Proofs
open Go.ChangeShapes Go.WideShapes Go.ChangeAt Go.RowKit
open Go.ChangeMaps (open_string shut_string)
/-! ### szPicture -/
theorem c_szF (a : Option Addr) (len cap : Nat) (L : Int) (w : World) (h : (len : Int) ≤ L) (hL : L ≤ 1048576) : Calls Try.prog 51 #[.slice a len cap, .int .i64 L] w (fun e w' => e = .returned (.int .i64 (L - (len : Int))) ∧ w' = w) := by
  have h' : ¬ (L - (len : Int) < 0) := by omega
  go_enter Try.func51, Try.ntmps51
  go_wp2
  go_ret
  exact ⟨rfl, rfl⟩
theorem c_szF_no (a : Option Addr) (len cap : Nat) (L : Int) (w : World) (h : L < len) (hL : 0 ≤ L) (hm : len ≤ 9223372036854775807) : Calls Try.prog 51 #[.slice a len cap, .int .i64 L] w (fun e w' => e = .returned (.int .i64 (-1)) ∧ w' = w) := by
  have h' : L - (len : Int) < 0 := by omega
  go_enter Try.func51, Try.ntmps51
  go_wp2
  go_ret
  exact ⟨rfl, rfl⟩
theorem c_szP (W H : Int) (a : Option Addr) (len cap : Nat) (L : Int) (w : World) (h : (len : Int) ≤ L) (hL : L ≤ 1048576) : Calls Try.prog 15 #[.agg #[.int .i64 W, .int .i64 H, .slice a len cap], .int .i64 L] w (RetB (.int .i64 (L - (len : Int))) w) := by
  have h' : ¬ (L - (len : Int) < 0) := by omega
  go_enter Try.func15, Try.ntmps15
  go_wp2_with (go_at_call 51; refine (c_szF a len cap L _ h hL).mono ?_; rintro _ _ ⟨rfl, rfl⟩)
  go_ret
  exact ⟨rfl, (Below.refl _ _).alloc (Nat.le_refl _) _⟩
theorem c_szP_no (W H : Int) (a : Option Addr) (len cap : Nat) (L : Int) (w : World) (h : L < len) (hL : 0 ≤ L ∧ len ≤ 9223372036854775807) : Calls Try.prog 15 #[.agg #[.int .i64 W, .int .i64 H, .slice a len cap], .int .i64 L] w (RetB (.int .i64 (-1)) w) := by
  go_enter Try.func15, Try.ntmps15
  go_wp2_with (go_at_call 51; refine (c_szF_no a len cap L _ h hL.1 hL.2).mono ?_; rintro _ _ ⟨rfl, rfl⟩)
  go_ret
  exact ⟨rfl, (Below.refl _ _).alloc (Nat.le_refl _) _⟩
/-! ### toOwn -/
theorem infoFo : (Try.prog.info? 26).map (fun i => (i.zero, i.size, i.bytes)) = some (some (.float .f32 0), 1, 4) := by kernel_rfl
theorem c_toO (a : Option Addr) (len cap : Nat) (zs : List Nat) (w : World) (hr : IsRowF .f32 w a len cap zs) (hl : len ≤ 1048576) : Calls Try.prog 39 #[.slice a len cap] w (NewO 26 len zs w) := by
  obtain ⟨i0, hi, hz0, hz1, hz2⟩ := info_parts infoFo
  obtain ⟨h1, h2, h3, h4, h5⟩ := hr
  go_enter Try.func39, Try.ntmps39
  go_wp2_with (at_make; refine wpList_make_full _ rfl _ _ 22 rfl w.heap.size 26 i0 (.float .f32 0) 1 Try.underlying22 hi hz0 hz1 _ _ _ _ len rfl rfl rfl rfl (by rw [hz2]; omega) (by unfold maxLen; omega) (by simp) ?_; intro w1 hown hgrow)
  have hblk := block_of_owns hown
  have e0 : (madeCells (Value.float FloatKind.f32 0).cells (len * 1)).toList = List.replicate len (.float .f32 0) := by rw [Nat.mul_one]; exact made_zeros _ _
  rw [e0] at hblk
  have hbel : Below w.heap.size w w1 := (Below.refl _ _).grown hgrow (Nat.le_refl _) (by simp)
  have HB := Lib.hid hblk
  clear hown hgrow hblk e0 hz0 hz1 hz2
  go_loopw [4] (fun i wr => ∃ j : Nat, j ≤ len ∧ i = .int .i64 j ∧ Below w.heap.size w wr ∧ wr.heap[w.heap.size]? = some (.cells (fl .f32 (zs.take j) ++ List.replicate (zs.length - j) (Value.float .f32 0)).toArray 26 (0, 0))) (fun i _ => len - (intOf i).toNat)
  case atStart => exact ⟨0, Nat.zero_le _, rfl, hbel, by rw [HB.out, h1]; rfl⟩
  case round =>
    obtain ⟨j, hj, rfl, hb, hblk⟩ := hrel
    have Hblk := Lib.hid hblk
    clear hblk
    by_cases hlt : j < len
    · rcases h5 with h5 | ⟨b, off, rfl, hbl, hc⟩
      · omega
      have hcell : wr.cell? ⟨b, off + j, none⟩ = some (.float .f32 (fat zs j)) := by rw [hb.cell (p := ⟨b, off + j, none⟩) hbl]; exact hc j hlt
      have hold : wr.cell? ⟨w.heap.size, j, none⟩ = some (.float .f32 0) := by
        rw [cell_of_block Hblk.out, List.getElem?_append_right (by simp [fl]; omega)]
        have e : (fl FloatKind.f32 (List.take j zs)).length = j := by simp [fl]; omega
        rw [e, Nat.sub_self, List.getElem?_replicate, if_pos (by omega)]
      have hfz : wr.frozen? ⟨w.heap.size, j, none⟩ = false := frozen_of_block Hblk.out j
      have hset := block_set Hblk.out j (.float .f32 (fat zs j))
      rw [set_step zs _ j (by omega)] at hset
      have Hset := Lib.hid hset
      clear hset hc
      go_wp2
      go_roundw
      case rel => exact ⟨j + 1, by omega, by go_num, hb.setCell (Nat.le_refl _) _, Hset.out⟩
      case measure => simp [intOf]; omega
    · obtain rfl : j = len := by omega
      have e1 : fl .f32 (zs.take j) ++ List.replicate (zs.length - j) (Value.float .f32 0) = fl .f32 zs := by rw [h1, Nat.sub_self, List.replicate_zero, List.append_nil, List.take_of_length_le (by omega)]
      have hblk2 := Hblk.out
      rw [e1] at hblk2
      have hown : Own 26 wr w.heap.size (some ⟨w.heap.size, 0, none⟩) j j zs :=
        ⟨h1, ⟨by simp [fl, h1], .inr ⟨w.heap.size, j, _, rfl, Nat.le_refl _, hblk2, Nat.le_refl _, by unfold maxLen; omega, by simp [fl, h1], by rw [List.take_of_length_le (by simp [fl, h1])]⟩⟩, h4⟩
      have HO := Lib.hid hown
      clear hown hblk2 e1
      go_wp2
      go_ret
      exact ⟨w.heap.size, rfl, hb, HO.out⟩
/-! ### toPicture -/
theorem c_toP (W H : Int) (a : Option Addr) (len cap : Nat) (zs : List Nat) (w : World) (hr : IsRowF .f32 w a len cap zs) (hl : len ≤ 1048576) : Calls Try.prog 17 #[.agg #[.int .i64 W, .int .i64 H, .slice a len cap]] w (NewP 26 W H zs w) := by
  have HR := Lib.hid hr
  have HL := Lib.hid hr.1
  clear hr
  go_enter Try.func17, Try.ntmps17
  go_wp2_with fail
  refine (c_toO a len cap zs _ (HR.out.below ((((Below.refl _ _).alloc (Nat.le_refl _) _).alloc (by simp) _).alloc (by simp; omega) _)) hl).mono ?_
  rintro _ w1 ⟨g, rfl, hb, hown⟩
  obtain ⟨hc, hf⟩ := bcell hb
  have hz : w.heap.size + 1 + 1 < w1.heap.size := by have := hb.size; simp at this; omega
  have hg' : w.heap.size + 1 + 1 < g := by have := hown.lt.1; simp at this; omega
  have HB := Lib.hid hb
  have HO := Lib.hid hown
  clear hb hown
  go_wp2_with fail
  refine bodyPost_ret (v := .agg #[.int .i64 W, .int .i64 H, .slice (some ⟨g, 0, none⟩) len len]) (by simp [results, Try.results17, hc, hz, go_sem]) rfl ⟨g, by rw [HL.out], ?_, ?_⟩
  · exact ((((((((Below.refl _ _).alloc (Nat.le_refl _) _).alloc (by simp) _).alloc (by simp; omega) _).trans (HB.out.mono (by simp; omega))).setCell (by simp; omega) _).setCell (by simp) _).setCell (by simp) _).setCell (by simp) _
  · rw [HL.out]
    exact ((((HO.out.setCell (by simp [blk]; omega) _).setCell (by simp [blk]; omega) _).setCell (by simp [blk]; omega) _).setCell (by simp [blk]; omega) _).mono (by simp; omega)
/-! ### sameFloat -/
theorem c_sameFloat (v n m : Nat) (w : World) (j : Nat) : Calls Try.prog 19 #[.float .f64 (pick .f64 v n), .float .f64 (pick .f64 v m)] (w.drewN j) (RetV (.bool true) w) := by
  have hs := self_ne .f64 v
  have ht := self_eq .f64 v
  cases h : isN .f64 v
  · rw [h] at hs ht
    cases h2 : (FloatKind.f64.format.order v 0 == some .eq)
    · go_enter Try.func19, Try.ntmps19
      go_wp2_with (first | (refine wpList_fop rfl _ _ _ _ _ rfl _ _ _ rfl rfl (by decide) _ ?_; intro _ _) | (refine upon_fop _ _ _ _ _ (by decide) ?_; intro _ _))
      go_ret
      exact ⟨_, rfl, rfl⟩
    · go_enter Try.func19, Try.ntmps19
      go_wp2_with (first | (refine wpList_fop rfl _ _ _ _ _ rfl _ _ _ rfl rfl (by decide) _ ?_; intro _ _) | (refine upon_fop _ _ _ _ _ (by decide) ?_; intro _ _))
      go_ret
      exact ⟨_, by simp, rfl⟩
  · rw [h] at hs ht
    go_enter Try.func19, Try.ntmps19
    go_wp2_with (first | (refine wpList_fop rfl _ _ _ _ _ rfl _ _ _ rfl rfl (by decide) _ ?_; intro _ _) | (refine upon_fop _ _ _ _ _ (by decide) ?_; intro _ _))
    go_ret
    exact ⟨_, rfl, rfl⟩

/-! ### eqFloat32S -/
theorem c_eqF (a b : Option Addr) (len c d : Nat) (zs : List Nat) (w : World) (j0 : Nat) (hr : IsRowF .f32 w a len c zs) (hs : IsRowF .f32 w b len d zs) : Calls Try.prog 33 #[.slice a len c, .slice b len d] (w.drewN j0) (RetV (.bool true) w) := by
  obtain ⟨h1, h2, h3, h4, h5⟩ := hr
  obtain ⟨g1, g2, g3, g4, g5⟩ := hs
  unfold maxLen at h3
  go_enter Try.func33, Try.ntmps33
  go_wp2
  go_loopw [5] (fun i wr => ∃ k m : Nat, k ≤ len ∧ i = .int .i64 k ∧ wr = w.drewN m) (fun i _ => len - (intOf i).toNat)
  case atStart => exact ⟨0, j0, Nat.zero_le _, rfl, rfl⟩
  case round =>
    obtain ⟨k, m, hk, rfl, rfl⟩ := hrel
    by_cases hlt : k < len
    · rcases h5 with h5 | ⟨x, off, rfl, hbl, hc⟩
      · omega
      rcases g5 with g5 | ⟨y, off2, rfl, gbl, gc⟩
      · omega
      have hcell : w.cell? ⟨x, off + k, none⟩ = some (.float .f32 (fat zs k)) := hc k hlt
      have gcell : w.cell? ⟨y, off2 + k, none⟩ = some (.float .f32 (fat zs k)) := gc k hlt
      clear hc h4 gc g4
      go_wp2
      refine wp_region_N (fun _ _ u => u = .bool true) (by kernel_rfl) (by kernel_rfl) ?_; (repeat (first | ((with_reducible show wpN _ _ _ _ _ (Oper.mk _ (Op.binOp _ _ _ _ _) _ _ _ none :: _) _); refine wpN_fop rfl _ _ _ _ _ rfl _ _ _ rfl rfl (by decide) ?_; intro _) | ((with_reducible show wpN _ _ _ _ _ (Oper.mk _ (Op.convert _ _ _) _ _ _ none :: _) _); refine wpN_cvU rfl 26 32 _ rfl (Option.isSome_iff_exists.2 ⟨_, Try.underlying26⟩) Try.underlying32 _ rfl ?_; intro _) | ((with_reducible show wpN _ _ _ _ _ (Oper.mk _ _ _ _ _ (some _) :: _) _); (with_reducible refine wpN_off ?_ ?_); focus rfl; (simp only [Act.put, List.setIfInBounds_toArray, List.set_cons_zero, List.set_cons_succ])) | ((with_reducible show wpN _ _ _ _ _ (Oper.mk _ _ _ _ _ (some _) :: _) _); ((with_reducible refine wpN_on ?_ (fun K hK => ?_)); (focus rfl); intro _; go_simp; first | (refine uponN_value (hK _ ?_)) | ((refine uponN_call (callN rfl (c_sameFloat _ _ _ _ _)) ?_; intro u hu; obtain rfl : u = _ := hu); refine hK _ ?_)); clear hK K) | (((with_reducible refine wpN_plain rfl (fun K hK => ?_)); intro _; go_simp; first | (refine uponN_value (hK _ ?_)) | ((refine uponN_call (callN rfl (c_sameFloat _ _ _ _ _)) ?_; intro u hu; obtain rfl : u = _ := hu); refine hK _ ?_)); clear hK K) | ((with_reducible refine wpN_step (fun K hK => ?_)); go_simp; first | (refine hK _ ?_) | (intro _; first | (refine uponN_value (hK _ ?_)) | ((refine uponN_call (callN rfl (c_sameFloat _ _ _ _ _)) ?_; intro u hu; obtain rfl : u = _ := hu); refine hK _ ?_)); clear hK K))); refine wpN_nil ?_; intro _
      go_wp2
      go_roundw
      case rel => exact ⟨k + 1, _, by omega, by go_num, rfl⟩
      case measure => simp [intOf]; omega
    · clear h5 h4 g4 g5
      go_wp2
      go_ret
      exact ⟨_, rfl, rfl⟩
/-! ### eqPicture -/
theorem c_eqF0 (a b : Option Addr) (len c d : Nat) (zs : List Nat) (w : World) (hr : IsRowF .f32 w a len c zs) (hs : IsRowF .f32 w b len d zs) : Calls Try.prog 33 #[.slice a len c, .slice b len d] w (RetV (.bool true) w) := by
  have h := c_eqF a b len c d zs w 0 hr hs
  rwa [w.drewN_zero] at h
theorem c_eqP (W H : Int) (a b : Option Addr) (len c d : Nat) (zs : List Nat) (w : World) (hr : IsRowF .f32 w a len c zs) (hs : IsRowF .f32 w b len d zs) : Calls Try.prog 20 #[.agg #[.int .i64 W, .int .i64 H, .slice a len c], .agg #[.int .i64 W, .int .i64 H, .slice b len d]] w (RetB (.bool true) w) := by
  have HR := Lib.hid hr
  have HS := Lib.hid hs
  clear hr hs
  go_enter Try.func20, Try.ntmps20
  go_wp2_with fail
  refine (c_eqF0 a b len c d zs _ ((HR.out.alloc _).alloc _) ((HS.out.alloc _).alloc _)).mono ?_
  rintro _ _ ⟨m, rfl, rfl⟩
  go_wp2_with fail
  go_ret
  exact ⟨rfl, below_drewN (((Below.refl _ _).alloc (Nat.le_refl _) _).alloc (by simp) _) _⟩
/-! ### eqWay -/
theorem c_eqW (r nr nr2 g ng ng2 b nb nb2 : Nat) (w : World) : Calls Try.prog 23 #[.agg #[.float .f32 (pick .f32 r nr), .float .f32 (pick .f32 g ng), .float .f32 (pick .f32 b nb)], .agg #[.float .f32 (pick .f32 r nr2), .float .f32 (pick .f32 g ng2), .float .f32 (pick .f32 b nb2)]] w (RetB (.bool true) w) := by
  generalize hw2 : (w.alloc (Obj.cells #[.float .f32 (pick .f32 r nr), .float .f32 (pick .f32 g ng), .float .f32 (pick .f32 b nb)] 36)).alloc (Obj.cells #[.float .f32 (pick .f32 r nr2), .float .f32 (pick .f32 g ng2), .float .f32 (pick .f32 b nb2)] 36) = w2
  have X0 : Var w2 w.heap.size #[.float .f32 (pick .f32 r nr), .float .f32 (pick .f32 g ng), .float .f32 (pick .f32 b nb)] := by subst hw2; exact (Var.new _ _ _).alloc _
  have X1 : Var w2 (w.heap.size + 1) #[.float .f32 (pick .f32 r nr2), .float .f32 (pick .f32 g ng2), .float .f32 (pick .f32 b nb2)] := by subst hw2; exact Var.new' _ _ _ _ (by simp)
  have B0 := Lib.hid (show Below w.heap.size w w2 from by subst hw2; exact ((Below.refl _ _).alloc (Nat.le_refl _) _).alloc (by simp) _)
  have HW := Lib.hid hw2
  obtain ⟨c0, c1, c2⟩ := X0.three
  obtain ⟨d0, d1, d2⟩ := X1.three
  clear hw2 X0 X1
  go_enter Try.func23, Try.ntmps23
  go_wp2_with fail
  rw [HW.out, ← w2.drewN_zero]
  go_wp2_with (first | (refine wpList_cvU rfl 26 32 _ rfl (Option.isSome_iff_exists.2 ⟨_, Try.underlying26⟩) Try.underlying32 _ rfl _ ?_; intro _ _) | (refine upon_cvUp _ _ _ _ (Option.isSome_iff_exists.2 ⟨_, Try.underlying26⟩) Try.underlying32 ?_; intro _ _) | (go_at_call 19; refine (c_sameFloat _ _ _ _ _).mono ?_; rintro _ _ ⟨_, rfl, rfl⟩))
  go_ret
  exact ⟨rfl, below_drewN B0.out _⟩
/-! ### picDefs -/
def sideB (W H : Int) : Bool := decide (1 ≤ W) && decide (W ≤ 16) && (decide (1 ≤ H) && decide (H ≤ 16))
def finL (zs : List Nat) : Bool := zs.all (finB .f32)
def validB (W H : Int) (zs : List Nat) : Bool := sideB W H && decide ((zs.length : Int) = W * H) && finL zs
theorem sideB_true {W H : Int} (h : sideB W H = true) : (1 ≤ W ∧ W ≤ 16) ∧ 1 ≤ H ∧ H ≤ 16 := by simpa [sideB, and_assoc] using h
theorem side_mul {W H : Int} (h : sideB W H = true) : 1 ≤ W * H ∧ W * H ≤ 256 := by
  obtain ⟨⟨h1, h2⟩, h3, h4⟩ := sideB_true h
  have : W * H ≤ 16 * 16 := Int.mul_le_mul h2 h4 (by omega) (by omega)
  have h5 : 1 * 1 ≤ W * H := Int.mul_le_mul h1 h3 (by omega) (by omega)
  omega
theorem sideB_false {W H : Int} (h : sideB W H = false) : W < 1 ∨ 16 < W ∨ H < 1 ∨ 16 < H := by
  simp [sideB] at h; omega
theorem finL_snoc (zs : List Nat) (k : Nat) (hk : k < zs.length) : finL (zs.take (k + 1)) = (finL (zs.take k) && finB .f32 (fat zs k)) := by
  unfold finL fat
  rw [List.take_succ_eq_append_getElem hk, List.all_append, List.getD, List.getElem?_eq_getElem hk]; simp
theorem finL_of (zs : List Nat) (k : Nat) (hk : k < zs.length) (h : finB .f32 (fat zs k) = false) : finL zs = false := by
  unfold finL
  rw [List.all_eq_false]
  refine ⟨zs[k], List.getElem_mem hk, ?_⟩
  unfold fat at h
  rw [List.getD, List.getElem?_eq_getElem hk] at h
  simpa using h
theorem pick0 (k : FloatKind) (v : Nat) (hv : v < 2 ^ k.format.width) : ∃ n, v = pick k v n := pick_onto k v hv
/-! ### meanDefs -/
def meanV (zs : List Nat) : Nat := fop .quo .f32 (sumF .add .f32 0 zs) (floatOfInt .f32 (zs.length : Int))
def numR (v : Nat) : Nat × Bool := if finB .f32 v = true then (v, true) else (0, false)
def meanR (W H : Int) (zs : List Nat) : Nat × Bool := if validB W H zs = true then numR (meanV zs) else (0, false)
theorem mean_len {W H : Int} {zs : List Nat} (h : validB W H zs = true) : zs.length ≤ 256 := by
  simp only [validB, Bool.and_eq_true, decide_eq_true_eq] at h
  obtain ⟨⟨h1, h2⟩, h3⟩ := h
  have := side_mul h1
  omega
theorem pick00 : pick .f32 0 0 = 0 := pick_not (show isN .f32 0 = false from by decide +kernel) 0
/-! ### colDefs -/
def colB (r g b : Nat) : Bool := finB .f32 r && (finB .f32 g && finB .f32 b)
def greyV (r g b : Nat) : Nat := fop .add .f32 (fop .add .f32 (fop .mul .f32 1046066128 r) (fop .mul .f32 1060575065 g)) (fop .mul .f32 1033100696 b)
def greyR (r g b : Nat) : Nat × Bool := if colB r g b = true then numR (greyV r g b) else (0, false)
theorem retF1no {w : World} {e : Ending} {w' : World} (h : e = .returned (.tuple #[.float .f32 0, .bool false])) (hw : Below w.heap.size w w') : RetF1 (0, false) w e w' := ⟨0, by rw [h]; simp only [pick00], hw⟩
theorem fin3 (a b c n m l : Nat) : finL [pick .f32 a n, pick .f32 b m, pick .f32 c l] = colB a b c := by simp [finL, finB_pick, colB]
/-! ### wayDefs -/
def nzB (v : Nat) : Bool := FloatKind.f32.format.order v 0 != some .eq
def wayB (r g b : Nat) : Bool := colB r g b && (nzB r || (nzB g || nzB b))
/-! ### mulInf -/
theorem inf_notfin (s : Bool) : finB .f32 (FloatKind.f32.format.write (.infinity s)) = false := by cases s <;> decide +kernel
theorem rung_split {v : Nat} (h : finB .f32 v = false) (hn : isN .f32 v = false) : FloatKind.f32.format.read v = .infinity (sgn FloatKind.f32.format v) := by
  have h1 : ¬ rung FloatKind.f32.format v < FloatKind.f32.format.infRung := of_decide_eq_false h
  have h2 := isN_rung' .f32 v
  rw [hn] at h2
  have h3 := of_decide_eq_false h2.symm
  exact read_inf .f32 v (by omega)
/-- A product with a factor that isn't finite isn't finite. -/
theorem mul_notfin (x : Nat) {v : Nat} (hv : finB .f32 v = false) : finB .f32 (fop .mul .f32 x v) = false := by
  cases h : isN .f32 v
  · have h3 := rung_split hv h
    cases hx : isN .f32 x
    · cases hf : finB .f32 x
      · have h4 := rung_split hf hx
        have e : fop .mul .f32 x v = FloatKind.f32.format.write (.infinity (sgn FloatKind.f32.format x ^^ sgn FloatKind.f32.format v)) := by
          unfold fop floatBits Ieee.Format.mul
          simp only [h3, h4, Ieee.Datum.product]
          rfl
        rw [e]; exact inf_notfin _
      · obtain ⟨m, e, h4, _, _⟩ := read_fin FloatKind.f32.format x (of_decide_eq_true hf)
        by_cases hm : m = 0
        · have e : fop .mul .f32 x v = qn .f32 := by
            unfold fop floatBits Ieee.Format.mul
            simp only [h3, h4, Ieee.Datum.product, hm, if_true]
            rfl
          rw [e]; exact finB_nan (isN_qn .f32)
        · have e : fop .mul .f32 x v = FloatKind.f32.format.write (.infinity (sgn FloatKind.f32.format v ^^ sgn FloatKind.f32.format x)) := by
            unfold fop floatBits Ieee.Format.mul
            simp only [h3, h4, Ieee.Datum.product, hm, if_false]
            rfl
          rw [e]; exact inf_notfin _
    · exact finB_nan (isN_fop_l v hx)
  · exact finB_nan (isN_fop_r x h)

/-! ### wayFacts -/
theorem quo_inf {x v : Nat} (hx : finB .f32 x = true) (hv : finB .f32 v = false) (hn : isN .f32 v = false) : nzB (fop .quo .f32 x v) = false := by
  have h3 := rung_split hv hn
  obtain ⟨m, e, h4, _, _⟩ := read_fin FloatKind.f32.format x (of_decide_eq_true hx)
  have e : fop .quo .f32 x v = FloatKind.f32.format.write (.number (sgn FloatKind.f32.format x ^^ sgn FloatKind.f32.format v) 0 0) := by
    unfold fop floatBits Ieee.Format.div
    simp only [h3, h4, Ieee.Datum.quotient]
    rfl
  rw [e]
  generalize (sgn FloatKind.f32.format x ^^ sgn FloatKind.f32.format v) = s
  cases s <;> decide +kernel
def rootV (v : Nat) : Nat := cvN (fsqrt (cvU v))
theorem root_notfin {v : Nat} (h : finB .f32 v = false) : finB .f32 (rootV v) = false := by
  unfold rootV
  cases hn : isN .f32 v
  · have h1 : ¬ rung FloatKind.f32.format v < FloatKind.f32.format.infRung := of_decide_eq_false h
    have h2 := isN_rung' .f32 v
    rw [hn] at h2
    have h3 := of_decide_eq_false h2.symm
    have h4 : rung Ieee.single v = Ieee.single.infRung := by
      have : rung FloatKind.f32.format v = FloatKind.f32.format.infRung := by omega
      exact this
    have h5 : cvU v = Ieee.double.word (sgn Ieee.single v) Ieee.double.infRung := by unfold cvU; rw [cvU_inf h4]; rfl
    rw [h5]
    generalize sgn Ieee.single v = s
    cases s <;> decide +kernel
  · rw [cvU_qn hn]; decide +kernel
def t0 : (Nat × Nat × Nat) × Bool := ((0, 0, 0), false)
def giveW (t : Nat × Nat × Nat) : (Nat × Nat × Nat) × Bool := if wayB t.1 t.2.1 t.2.2 = true then (t, true) else t0
theorem unit_no {x y z r : Nat} (hx : finB .f32 x = true) (hy : finB .f32 y = true) (hz : finB .f32 z = true) (hr : finB .f32 r = false) : wayB (fop .quo .f32 x r) (fop .quo .f32 y r) (fop .quo .f32 z r) = false := by
  unfold wayB
  cases hn : isN .f32 r
  · rw [quo_inf hx hr hn, quo_inf hy hr hn, quo_inf hz hr hn]; simp
  · have : colB (fop .quo .f32 x r) (fop .quo .f32 y r) (fop .quo .f32 z r) = false := by
      unfold colB; rw [finB_nan (isN_fop_r x hn)]; rfl
    rw [this]; rfl
def innV (x y z a b c : Nat) : Nat := fop .add .f32 (fop .add .f32 (fop .mul .f32 x a) (fop .mul .f32 y b)) (fop .mul .f32 z c)
def unitT (x y z r : Nat) : Nat × Nat × Nat := (fop .quo .f32 x r, fop .quo .f32 y r, fop .quo .f32 z r)
def unitW (x y z : Nat) : (Nat × Nat × Nat) × Bool := if wayB x y z = true then giveW (unitT x y z (rootV (innV x y z x y z))) else t0
theorem unitW_no {x y z : Nat} (h : wayB x y z = false ∨ finB .f32 (innV x y z x y z) = false) : unitW x y z = t0 := by
  unfold unitW
  cases hw : wayB x y z
  · rfl
  · rcases h with h | h
    · rw [h] at hw; cases hw
    · rw [if_pos rfl]
      have hc : colB x y z = true := by unfold wayB at hw; rw [Bool.and_eq_true] at hw; exact hw.1
      unfold colB at hc
      simp only [Bool.and_eq_true] at hc
      have := unit_no hc.1 hc.2.1 hc.2.2 (root_notfin h)
      unfold giveW unitT
      rw [this]; rfl
def innR (x y z a b c : Nat) : Nat × Bool := if (wayB x y z && wayB a b c) = true then numR (innV x y z a b c) else (0, false)
/-! ### way2Defs -/
def WayB2 (t : (Nat × Nat × Nat) × Bool) (w : World) (e : Ending) (w' : World) : Prop := ∃ n m k, e = .returned (.tuple #[.agg #[.float .f32 (pick .f32 t.1.1 n), .float .f32 (pick .f32 t.1.2.1 m), .float .f32 (pick .f32 t.1.2.2 k)], .bool t.2]) ∧ Below w.heap.size w w'
def WayR (t : Nat × Nat × Nat) (w : World) (e : Ending) (w' : World) : Prop := ∃ n m k, e = .returned (.agg #[.float .f32 (pick .f32 t.1 n), .float .f32 (pick .f32 t.2.1 m), .float .f32 (pick .f32 t.2.2 k)]) ∧ Below w.heap.size w w'
theorem WayB2.no {w : World} {e : Ending} {w' : World} (h : e = .returned (.tuple #[.agg #[.float .f32 0, .float .f32 0, .float .f32 0], .bool false])) (b : Below w.heap.size w w') : WayB2 t0 w e w' := ⟨0, 0, 0, by rw [h]; simp only [t0, pick00], b⟩
def RetN (v : Nat) (w : World) (e : Ending) (w' : World) : Prop := ∃ n, e = .returned (.float .f32 (pick .f32 v n)) ∧ Below w.heap.size w w'
theorem giveW_lt_no {r g b : Nat} (h : wayB r g b = false) : giveW (r, g, b) = t0 := by unfold giveW; rw [h]; rfl
theorem giveW_yes {r g b : Nat} (h : wayB r g b = true) : giveW (r, g, b) = ((r, g, b), true) := by unfold giveW; rw [h]; rfl
/-! ### matDefs -/
def fin9 (z : List Nat) : Bool := finB .f32 (fat z 0) && finB .f32 (fat z 1) && finB .f32 (fat z 2) && finB .f32 (fat z 3) && finB .f32 (fat z 4) && finB .f32 (fat z 5) && finB .f32 (fat z 6) && finB .f32 (fat z 7) && finB .f32 (fat z 8)
def matB (zs : List Nat) : Bool := decide (zs.length = 9) && finL zs
theorem fin9_eq {zs : List Nat} (h : zs.length = 9) : fin9 zs = finL zs := by
  obtain ⟨a0, a1, a2, a3, a4, a5, a6, a7, a8, rfl⟩ : ∃ a0 a1 a2 a3 a4 a5 a6 a7 a8, zs = [a0, a1, a2, a3, a4, a5, a6, a7, a8] := by
    match zs, h with
    | [a0, a1, a2, a3, a4, a5, a6, a7, a8], _ => exact ⟨a0, a1, a2, a3, a4, a5, a6, a7, a8, rfl⟩
  simp [fin9, finL, fat, Bool.and_assoc]
/-! ### listDefs -/
/-- Of a new list of floats and a bool. -/
def RetL (T : TypeId) (r : List Nat × Bool) (w : World) (e : Ending) (w' : World) : Prop :=
  ∃ a cap, e = .returned (.tuple #[.slice a r.1.length cap, .bool r.2]) ∧ r.1.length ≤ 1048576 ∧ Below w.heap.size w w' ∧ Own T w' w.heap.size a r.1.length cap r.1
def TupL (T : TypeId) (B : Nat) (r : List Nat × Bool) (u : Value) (w : World) : Prop := ∃ a c, u = .tuple #[.slice a r.1.length c, .bool r.2] ∧ r.1.length ≤ 1048576 ∧ Own T w B a r.1.length c r.1
def SlcL (T : TypeId) (B : Nat) (r : List Nat × Bool) (u : Value) (w : World) : Prop := ∃ a c, u = .slice a r.1.length c ∧ r.1.length ≤ 1048576 ∧ Own T w B a r.1.length c r.1
def BooL (r : List Nat × Bool) (u : Value) : Prop := ∃ x : Bool, u = .bool x ∧ x = r.2
theorem RetL.no {T : TypeId} {w : World} {e : Ending} {w' : World} (h : e = .returned (.tuple #[.slice none 0 0, .bool false])) (b : Below w.heap.size w w') : RetL T ([], false) w e w' :=
  ⟨none, 0, h, Nat.zero_le _, b, Own.nil _ _ _⟩
/-! ### backDefs -/
def listR (l : List Nat) : List Nat × Bool := if finL l = true then (l, true) else ([], false)
def lessV (a b c d : Nat) : Nat := fop .sub .f32 (fop .mul .f32 a b) (fop .mul .f32 c d)
def backS (p q r a b c : Nat) : Nat := fop .add .f32 (fop .add .f32 (fop .mul .f32 a p) (fop .mul .f32 b q)) (fop .mul .f32 c r)
theorem own_new9 {T : TypeId} {w : World} {B g : Nat} {zs : List Nat} (hg : g = w.heap.size) (hB : B ≤ g) (hl : zs.length ≤ 1000) (hw : ∀ b ∈ zs, (Lit.float .f32 b).wf = true) : Own T (w.alloc (.cells (fl .f32 zs).toArray T)) B (some ⟨g, 0, none⟩) zs.length zs.length zs := by
  subst hg
  refine ⟨rfl, ⟨by simp [fl], .inr ⟨_, _, (fl .f32 zs).toArray, rfl, hB, heap_alloc_new w _, Nat.le_refl _, by unfold maxLen; omega, by simp [fl], by simp [fl, List.take_of_length_le]⟩⟩, hw⟩
theorem wf_lt {v : Nat} (h : v < 2 ^ FloatKind.f32.format.width) : (Lit.float .f32 v).wf = true := by
  have := pick_wf h 0
  cases hn : isN .f32 v
  · rwa [pick_not hn] at this
  · have hw : (2 : Nat) ^ FloatKind.f32.format.width = 4294967296 := by decide +kernel
    rw [hw] at h
    simp [Lit.wf, h]
/-! ### sineFacts -/
theorem fin_small {v : Nat} (h : finB .f32 v = true) (hb : decide (4841369599423283200 ≤ rung Ieee.double (cvU v)) = false) :
    isN .f64 (cvU v) = false ∧ floatToIntVal .f64 (cvU v) .i64 = some (ti (cvU v)) ∧ Bd .f64 1184 (sinF (cvU v)) := by
  have h1 : rung Ieee.single v < Ieee.single.infRung := of_decide_eq_true h
  have h2 : isN .f32 v = false := notN_fin (k := .f32) h1
  obtain ⟨_, c2, _, c4, _, _⟩ := cvU_spec h2
  have h3 := c4.2 h1
  have h4 := whole_small (v := cvU v) (by have := of_decide_eq_false hb; omega)
  exact ⟨c2, toInt64 h3 h4, sinF_bd (partF_bd h3 h4)⟩
theorem Fits_sin {v : Nat} (h : Bd .f64 1184 v) : Fits v := Fits_of_Bd (Bd_mono h (by decide))
theorem raw_nan {b : Nat} (h1 : isN .f64 b = true) (h2 : b < 2 ^ FloatKind.f64.format.width) : ∃ n, b = pick .f64 (qn .f64) n := by
  obtain ⟨n, e⟩ := nanOf_onto .f64 b h2 h1
  exact ⟨n, by rw [e]; simp [pick, isN_qn]⟩
def sineT (v : Nat) : Nat := if finB .f32 v = true then (if decide (4841369599423283200 ≤ rung Ieee.double (cvU v)) = true then 0 else cvN (sinF (cvU v))) else qn .f32
/-! ### turnDefs6 -/
def cosT (v : Nat) : Nat := sineT (fop .add .f32 v 1048576000)
def sumV (s x c y : Nat) : Nat := fop .add .f32 (fop .mul .f32 s x) (fop .mul .f32 c y)
def turT (x y z c s : Nat) : Nat × Nat × Nat := (lessV c x s y, sumV s x c y, z)
def tilT (x y z c s : Nat) : Nat × Nat × Nat := (x, lessV c y s z, sumV s y c z)
def turnW (x y z t : Nat) : (Nat × Nat × Nat) × Bool := if (wayB x y z && finB .f32 t) = true then giveW (turT x y z (cosT t) (sineT t)) else t0
def tiltW (x y z t : Nat) : (Nat × Nat × Nat) × Bool := if (wayB x y z && finB .f32 t) = true then giveW (tilT x y z (cosT t) (sineT t)) else t0
theorem turnW_no {x y z t : Nat} (h : wayB x y z = false ∨ finB .f32 t = false) : turnW x y z t = t0 ∧ tiltW x y z t = t0 := by
  unfold turnW tiltW
  rcases h with h | h <;> rw [h] <;> simp
/-! ### pixDefs -/
def HF : Nat := 1056964608
def atT (x wide : Int) : Nat := fop .quo .f32 (fop .add .f32 (floatOfInt .f32 x) 1056964608) (floatOfInt .f32 wide)
def wayT (t u : Nat) : Nat × Nat × Nat := (fop .mul .f32 (sineT u) (cosT t), fop .mul .f32 (sineT u) (sineT t), cosT u)
def wayV (W H x y : Int) : Nat × Nat × Nat := wayT (atT x W) (atT y (2 * H))
def hiV (H y : Int) : Nat := cosT (fop .quo .f32 (floatOfInt .f32 y) (floatOfInt .f32 (2 * H)))
def solV (W H y : Int) : Nat := fop .quo .f32 (fop .mul .f32 1086918619 (fop .sub .f32 (hiV H y) (hiV H (y + 1)))) (floatOfInt .f32 W)
/-! ### wayOfDefs -/
def inB (x H : Int) : Bool := decide (0 ≤ x) && decide (x ≤ H - 1)
def solidR (W H : Int) (z : List Nat) (y : Int) : Nat × Bool := if (validB W H z && inB y H) = true then (solV W H y, true) else (0, false)
def wayR (W H : Int) (z : List Nat) (x y : Int) : (Nat × Nat × Nat) × Bool := if (validB W H z && (inB x W && inB y H)) = true then (wayV W H x y, true) else t0
theorem valid_nat {W H : Int} {z : List Nat} (h : validB W H z = true) : ∃ Wn Hn : Nat, W = (Wn : Int) ∧ H = (Hn : Int) ∧ 1 ≤ Wn ∧ Wn ≤ 16 ∧ 1 ≤ Hn ∧ Hn ≤ 16 := by
  simp only [validB, sideB, Bool.and_eq_true, decide_eq_true_eq] at h
  obtain ⟨⟨⟨⟨h1, h2⟩, h3, h4⟩, _⟩, _⟩ := h
  exact ⟨W.toNat, H.toNat, by omega, by omega, by omega, by omega, by omega, by omega⟩
theorem inB_nat {x : Int} {Wn : Nat} (h : inB x (Wn : Int) = true) : ∃ n : Nat, x = (n : Int) ∧ n < Wn := by
  simp only [inB, Bool.and_eq_true, decide_eq_true_eq] at h
  exact ⟨x.toNat, by omega, by omega⟩
/-! ### rangeDefs -/
def lowF (m x : Nat) : Nat := if (FloatKind.f32.format.order x m == some .lt) = true then x else m
def highF (m x : Nat) : Nat := if (FloatKind.f32.format.order x m == some .gt) = true then x else m
def lowK (zs : List Nat) (k : Nat) : Nat := (zs.take k).foldl lowF (fat zs 0)
def highK (zs : List Nat) (k : Nat) : Nat := (zs.take k).foldl highF (fat zs 0)
def rangeR (W H : Int) (zs : List Nat) : Nat × Nat × Bool := if validB W H zs = true then (lowK zs zs.length, highK zs zs.length, true) else (0, 0, false)
theorem pick00r : pick .f32 0 0 = 0 := pick_not (show isN .f32 0 = false from by decide +kernel) 0
theorem lowK_succ {zs : List Nat} {k : Nat} (hk : k < zs.length) : lowK zs (k + 1) = lowF (lowK zs k) (fat zs k) := by
  have e : fat zs k = zs[k] := by unfold fat; rw [List.getD, List.getElem?_eq_getElem hk]; rfl
  unfold lowK
  rw [List.take_succ_eq_append_getElem hk, List.foldl_append, e]; rfl
theorem highK_succ {zs : List Nat} {k : Nat} (hk : k < zs.length) : highK zs (k + 1) = highF (highK zs k) (fat zs k) := by
  have e : fat zs k = zs[k] := by unfold fat; rw [List.getD, List.getElem?_eq_getElem hk]; rfl
  unfold highK
  rw [List.take_succ_eq_append_getElem hk, List.foldl_append, e]; rfl
theorem order_same {x : Nat} : (FloatKind.f32.format.order x x == some .lt) = false ∧ (FloatKind.f32.format.order x x == some .gt) = false := by
  cases h : isN .f32 x
  · rw [order_rungs .f32 x x h h, Int.compare_eq_eq.2 rfl]; exact ⟨rfl, rfl⟩
  · rw [order_nan_l _ h]; exact ⟨rfl, rfl⟩
theorem lowK_one {zs : List Nat} (h : 0 < zs.length) : lowK zs 1 = fat zs 0 := by
  rw [lowK_succ h]; unfold lowF lowK; simp [order_same.1]
theorem highK_one {zs : List Nat} (h : 0 < zs.length) : highK zs 1 = fat zs 0 := by
  rw [highK_succ h]; unfold highF highK; simp [order_same.2]
theorem lowK_zero {zs : List Nat} : lowK zs 0 = fat zs 0 := rfl
theorem highK_zero {zs : List Nat} : highK zs 0 = fat zs 0 := rfl
theorem some_len {W H : Int} {zs : List Nat} (h : validB W H zs = true) : 1 ≤ zs.length := by
  simp only [validB, Bool.and_eq_true, decide_eq_true_eq] at h
  obtain ⟨⟨h1, h2⟩, h3⟩ := h
  have := side_mul h1
  omega
/-! ### ordDefs -/
theorem cmp_bools (a b : Int) : ((some (compare a b) == some Ordering.lt) = decide (a < b)) ∧ ((some (compare a b) == some Ordering.gt) = decide (b < a)) ∧ ((some (compare a b) == some Ordering.eq) = decide (a = b)) := by
  rcases Int.lt_trichotomy a b with h | h | h
  · rw [cmp_of_lt h, decide_eq_true h, decide_eq_false (by omega), decide_eq_false (by omega)]; exact ⟨rfl, rfl, rfl⟩
  · subst h; rw [Int.compare_eq_eq.2 rfl, decide_eq_false (by omega), decide_eq_true rfl]; exact ⟨rfl, rfl, rfl⟩
  · rw [cmp_of_gt h, decide_eq_false (by omega), decide_eq_true h, decide_eq_false (by omega)]; exact ⟨rfl, rfl, rfl⟩
theorem o_lt {v c : Nat} (h : isN .f32 v = false) (hc : isN .f32 c = false) : (FloatKind.f32.format.order v c == some .lt) = decide (srung FloatKind.f32.format v < srung FloatKind.f32.format c) := by
  rw [order_rungs .f32 v c h hc]; exact (cmp_bools _ _).1
theorem o_gt {v c : Nat} (h : isN .f32 v = false) (hc : isN .f32 c = false) : (FloatKind.f32.format.order v c == some .gt) = decide (srung FloatKind.f32.format c < srung FloatKind.f32.format v) := by
  rw [order_rungs .f32 v c h hc]; exact (cmp_bools _ _).2.1
theorem o_eq {v c : Nat} (h : isN .f32 v = false) (hc : isN .f32 c = false) : (FloatKind.f32.format.order v c == some .eq) = decide (srung FloatKind.f32.format v = srung FloatKind.f32.format c) := by
  rw [order_rungs .f32 v c h hc]; exact (cmp_bools _ _).2.2
theorem o_le {v c : Nat} (h : isN .f32 v = false) (hc : isN .f32 c = false) : (FloatKind.f32.format.order v c == some .lt || FloatKind.f32.format.order v c == some .eq) = decide (srung FloatKind.f32.format v ≤ srung FloatKind.f32.format c) := by
  rw [o_lt h hc, o_eq h hc, ← Bool.decide_or]; exact decide_eq_decide.2 (by omega)
theorem o_ge {v c : Nat} (h : isN .f32 v = false) (hc : isN .f32 c = false) : (FloatKind.f32.format.order v c == some .gt || FloatKind.f32.format.order v c == some .eq) = decide (srung FloatKind.f32.format c ≤ srung FloatKind.f32.format v) := by
  rw [o_gt h hc, o_eq h hc, ← Bool.decide_or]; exact decide_eq_decide.2 (by omega)
theorem s_zero : srung FloatKind.f32.format 0 = 0 := by decide +kernel
theorem s_half : srung FloatKind.f32.format 1056964608 = 1056964608 := by decide +kernel
theorem s_one : srung FloatKind.f32.format 1065353216 = 1065353216 := by decide +kernel
theorem n_zero : isN .f32 0 = false := by decide +kernel
theorem n_half : isN .f32 1056964608 = false := by decide +kernel
theorem n_one : isN .f32 1065353216 = false := by decide +kernel
theorem pick_zero (n : Nat) : pick .f32 0 n = 0 := pick_not n_zero n
/-! ### brightDefs -/
def bestK (zs : List Nat) : Nat → Nat
  | 0 => 0
  | k + 1 => if (FloatKind.f32.format.order (fat zs k) (fat zs (bestK zs k)) == some .gt) = true then k else bestK zs k
theorem bestK_lt (zs : List Nat) : ∀ k, 1 ≤ k → bestK zs k < k
  | 0, h => by omega
  | k + 1, _ => by
    show (if _ then _ else _) < _
    split
    · omega
    · rcases Nat.eq_zero_or_pos k with h | h
      · subst h; show 0 < 1; omega
      · have := bestK_lt zs k h; omega
theorem bestK_one (zs : List Nat) : bestK zs 1 = 0 := by
  show (if _ then _ else _) = _
  split <;> rfl
theorem highK_best {zs : List Nat} : ∀ k, k ≤ zs.length → highK zs k = fat zs (bestK zs k)
  | 0, _ => rfl
  | k + 1, h => by
    rw [highK_succ (by omega), highK_best k (by omega)]
    show (if _ then _ else _) = fat zs (if _ then _ else _)
    split <;> rfl
def sr (zs : List Nat) (k : Nat) : Int := srung FloatKind.f32.format (fat zs k)
theorem best_max {zs : List Nat} (hn : ∀ k, k < zs.length → isN .f32 (fat zs k) = false) : ∀ k, k ≤ zs.length → ∀ i, i < k → sr zs i ≤ sr zs (bestK zs k) ∧ (i < bestK zs k → sr zs i < sr zs (bestK zs k))
  | 0, _, i, hi => by omega
  | k + 1, h, i, hi => by
    have hb : bestK zs k < zs.length := by
      rcases Nat.eq_zero_or_pos k with h0 | h0
      · subst h0; show 0 < _; omega
      · have := bestK_lt zs k h0; omega
    have hgt := o_gt (hn k (by omega)) (hn _ hb)
    have e : bestK zs (k + 1) = if (FloatKind.f32.format.order (fat zs k) (fat zs (bestK zs k)) == some .gt) = true then k else bestK zs k := rfl
    rw [e, hgt]
    by_cases hc : srung FloatKind.f32.format (fat zs (bestK zs k)) < srung FloatKind.f32.format (fat zs k)
    · rw [decide_eq_true hc, if_pos rfl]
      rcases Nat.lt_or_ge i k with h1 | h1
      · have := (best_max hn k (by omega) i h1).1
        unfold sr at *
        exact ⟨by omega, fun _ => by omega⟩
      · have : i = k := by omega
        subst this
        exact ⟨Int.le_refl _, fun h => by omega⟩
    · rw [decide_eq_false hc, if_neg (by decide)]
      rcases Nat.lt_or_ge i k with h1 | h1
      · exact best_max hn k (by omega) i h1
      · have : i = k := by omega
        subst this
        unfold sr
        refine ⟨by omega, fun h2 => ?_⟩
        rcases Nat.eq_zero_or_pos i with h0 | h0
        · subst h0; exact absurd h2 (by show ¬ 0 < 0; omega)
        · have := bestK_lt zs i h0; omega
def bestI (zs : List Nat) : Nat := bestK zs zs.length
theorem best_tests {zs : List Nat} (hn : ∀ k, k < zs.length → isN .f32 (fat zs k) = false) (h1 : 1 ≤ zs.length) : bestI zs < zs.length ∧ (FloatKind.f32.format.order (fat zs (bestI zs)) (fat zs (bestI zs)) == some .eq) = true ∧ ∀ j, j < bestI zs → (FloatKind.f32.format.order (fat zs (bestI zs)) (fat zs j) == some .eq) = false := by
  have hb : bestI zs < zs.length := bestK_lt zs zs.length h1
  refine ⟨hb, ?_, fun j hj => ?_⟩
  · rw [o_eq (hn _ hb) (hn _ hb)]; exact decide_eq_true rfl
  · have hj2 : j < zs.length := Nat.lt_trans hj hb
    rw [o_eq (hn _ hb) (hn _ hj2)]
    have := (best_max hn zs.length (Nat.le_refl _) j hj2).2 hj
    unfold sr at this
    exact decide_eq_false (fun h => by unfold bestI at h; omega)
def brightR (W H : Int) (zs : List Nat) : (Nat × Nat × Nat) × Nat × Bool := if validB W H zs = true then (wayV W H ((bestI zs % W.toNat : Nat) : Int) ((bestI zs / W.toNat : Nat) : Int), fat zs (bestI zs), true) else ((0, 0, 0), 0, false)
def WayF (t : (Nat × Nat × Nat) × Nat × Bool) (w : World) (e : Ending) (w' : World) : Prop := ∃ n m k q, e = .returned (.tuple #[.agg #[.float .f32 (pick .f32 t.1.1 n), .float .f32 (pick .f32 t.1.2.1 m), .float .f32 (pick .f32 t.1.2.2 k)], .float .f32 (pick .f32 t.2.1 q), .bool t.2.2]) ∧ Below w.heap.size w w'
theorem WayF.no {w : World} {e : Ending} {w' : World} (h : e = .returned (.tuple #[.agg #[.float .f32 0, .float .f32 0, .float .f32 0], .float .f32 0, .bool false])) (b : Below w.heap.size w w') : WayF ((0, 0, 0), 0, false) w e w' := ⟨0, 0, 0, 0, by rw [h]; simp only [pick00], b⟩
theorem valid_notN {W H : Int} {zs : List Nat} (h : validB W H zs = true) : ∀ k, k < zs.length → isN .f32 (fat zs k) = false := fun k hk => by
  unfold validB at h
  rw [Bool.and_eq_true] at h
  have h2 := h.2
  unfold finL at h2
  rw [List.all_eq_true] at h2
  exact fin_notN (h2 _ (fat_mem hk))
/-! ### varSet -/
theorem var_setAt {w : World} {b i : Nat} {cs : Array Value} (h : Var w b cs) (hi : i < cs.size) (v : Value) : Var (w.setCell ⟨b, i, none⟩ v) b (cs.set i v hi) := by
  refine ⟨by simpa using h.1, fun j hj => ?_⟩
  have hj' : j < cs.size := by simpa using hj
  by_cases e : i = j
  · subst e
    rw [Array.getElem_set_self]
    exact World.cell?_setCell_same w _ _ (h.2 i hi)
  · rw [Array.getElem_set_ne _ _ e]
    rw [World.cell?_setCell_other w ⟨b, i, none⟩ ⟨b, j, none⟩ v (fun h2 => e (by have := congrArg Addr.off h2; simpa using this))]
    exact h.2 j hj'
/-! ### zeDefs -/
theorem grown_set (w : World) (a : Addr) (v : Value) : w.grownBy (w.setCell a v) (some a.block) :=
  ⟨by simp [World.setCell], by simp [World.setCell], by simp [World.setCell], by simp, fun k _ hk => Below.heap_setCell w a v k (fun e => hk (by rw [e]))⟩
theorem grown_trans {a b c : World} {row : Option Nat} (h : a.grownBy b row) (h' : b.grownBy c row) : a.grownBy c row :=
  ⟨h'.os.trans h.os, h'.tape.trans h.tape, h'.output.trans h.output, Nat.le_trans h.size h'.size, fun i hi hn => (h'.block i (Nat.lt_of_lt_of_le hi h.size) hn).trans (h.block i hi hn)⟩
def HasZ (z : Nat) (a : World) : Prop := ∃ x y u, Var a z #[x, y, u]
def Writ (z : Nat) (t : Nat × Nat × Nat) (a : World) : Prop := ∃ n m k, Var a z #[.float .f32 (pick .f32 t.1 n), .float .f32 (pick .f32 t.2.1 m), .float .f32 (pick .f32 t.2.2 k)]
/-- Nothing old is changed but the block z, and what is written there, once, stays. -/
structure ZE (z : Nat) (t : Nat × Nat × Nat) (a b : World) : Prop where
  g : a.grownBy b (some z)
  f : Free a z → Free b z
  h : HasZ z a → HasZ z b
  k : Writ z t a → Writ z t b
theorem ZE.of_below {z : Nat} {t : Nat × Nat × Nat} {a b : World} (hz : z < a.heap.size) (h : Below a.heap.size a b) : ZE z t a b :=
  ⟨⟨h.os, h.tape, h.output, h.size, fun i hi _ => h.block i hi⟩, fun f => f.below hz h, fun ⟨x, y, u, v⟩ => ⟨x, y, u, v.keep h⟩, fun ⟨n, m, k, v⟩ => ⟨n, m, k, v.keep h⟩⟩
theorem ZE.refl {z : Nat} {t : Nat × Nat × Nat} (a : World) : ZE z t a a :=
  ⟨⟨rfl, rfl, rfl, Nat.le_refl _, fun _ _ _ => rfl⟩, fun f => f, fun h => h, fun h => h⟩
theorem ZE.trans {z : Nat} {t : Nat × Nat × Nat} (a b c : World) (h : ZE z t a b) (h' : ZE z t b c) : ZE z t a c :=
  ⟨⟨h'.g.os.trans h.g.os, h'.g.tape.trans h.g.tape, h'.g.output.trans h.g.output, Nat.le_trans h.g.size h'.g.size, fun i hi hn => (h'.g.block i (Nat.lt_of_lt_of_le hi h.g.size) hn).trans (h.g.block i hi hn)⟩, fun f => h'.f (h.f f), fun q => h'.h (h.h q), fun q => h'.k (h.k q)⟩
theorem ZE.store {z n m k : Nat} {t : Nat × Nat × Nat} {a : World} (hz : HasZ z a) : ZE z t a (((a.setCell ⟨z, 0, none⟩ (.float .f32 (pick .f32 t.1 n))).setCell ⟨z, 1, none⟩ (.float .f32 (pick .f32 t.2.1 m))).setCell ⟨z, 2, none⟩ (.float .f32 (pick .f32 t.2.2 k))) ∧ Writ z t (((a.setCell ⟨z, 0, none⟩ (.float .f32 (pick .f32 t.1 n))).setCell ⟨z, 1, none⟩ (.float .f32 (pick .f32 t.2.1 m))).setCell ⟨z, 2, none⟩ (.float .f32 (pick .f32 t.2.2 k))) := by
  obtain ⟨x, y, u, V⟩ := hz
  have W := var_setAt (var_setAt (var_setAt V (i := 0) (by simp) (.float .f32 (pick .f32 t.1 n))) (i := 1) (by simp) (.float .f32 (pick .f32 t.2.1 m))) (i := 2) (by simp) (.float .f32 (pick .f32 t.2.2 k))
  have hw : Writ z t (((a.setCell ⟨z, 0, none⟩ (.float .f32 (pick .f32 t.1 n))).setCell ⟨z, 1, none⟩ (.float .f32 (pick .f32 t.2.1 m))).setCell ⟨z, 2, none⟩ (.float .f32 (pick .f32 t.2.2 k))) := ⟨n, m, k, W⟩
  have g1 := grown_set a ⟨z, 0, none⟩ (.float .f32 (pick .f32 t.1 n))
  have g2 := grown_set (a.setCell ⟨z, 0, none⟩ (.float .f32 (pick .f32 t.1 n))) ⟨z, 1, none⟩ (.float .f32 (pick .f32 t.2.1 m))
  have g3 := grown_set ((a.setCell ⟨z, 0, none⟩ (.float .f32 (pick .f32 t.1 n))).setCell ⟨z, 1, none⟩ (.float .f32 (pick .f32 t.2.1 m))) ⟨z, 2, none⟩ (.float .f32 (pick .f32 t.2.2 k))
  exact ⟨⟨grown_trans (grown_trans g1 g2) g3, fun f => ((f.setCell _ _).setCell _ _).setCell _ _, fun _ => ⟨_, _, _, W⟩, fun _ => hw⟩, hw⟩
/-! ### l01SineWide -/
theorem c_l01SineWide_fff (v f : Nat) (w : World) (j : Nat) (Hti : Hid (floatToIntVal .f64 v .i64 = some (ti v))) (Hf : Hid (partF v = f))
    (hs : (FloatKind.f64.format.order (fop .sub .f64 v v) 0 != some .eq) = false)
    (h1 : (FloatKind.f64.format.order v 4841369599423283200 == some .gt || FloatKind.f64.format.order v 4841369599423283200 == some .eq) = false)
    (h2 : (FloatKind.f64.format.order v 14064741636278059008 == some .lt || FloatKind.f64.format.order v 14064741636278059008 == some .eq) = false)
    {j2 : Nat} (hnan : isN .f64 v = false) (hf : fop .sub .f64 v (floatOfInt .f64 (ti v)) = f) (hlt : (FloatKind.f64.format.order f 0 == some .lt) = false)
    (hb : (FloatKind.f64.format.order f 4602678819172646912 == some .gt || FloatKind.f64.format.order f 4602678819172646912 == some .eq) = false)
    (hq : (FloatKind.f64.format.order f 4598175219545276416 == some .gt) = false) : Calls Try.prog 121 #[.float .f64 (pick .f64 v j2)] (w.drewN j) (RetF .f64 (sinF v) w) := by
  have HF : Hid (sinF v = (sinZ (fop .mul .f64 f 4618760256179416344))) := by
    unfold Hid sinF lowB fold2 half64 quarter64 twopi64; rw [Hf.out, hb]; simp only [if_true, if_false, Bool.false_eq_true, hq]
  rw [pick_not hnan]
  go_enter Try.func121, Try.ntmps121
  go_wp2_with (first | (first | (refine wpList_fop rfl _ _ _ _ _ rfl _ _ _ rfl rfl (by decide) _ ?_; intro _ _) | (refine upon_fop _ _ _ _ _ (by decide) ?_; intro _ _)) | (refine wpList_ftoi rfl 32 2 _ rfl (Option.isSome_iff_exists.2 ⟨_, Try.underlying32⟩) .i64 Try.underlying2 _ _ rfl (by exact Hti.out) ?_) | go_in)
  generalize hu : fop .mul .f64 (fop .mul .f64 f 4618760256179416344) (fop .mul .f64 f 4618760256179416344) = u
  have Hu := Lib.hid hu
  clear hu
  go_loopw [7, 8] (fun p k wr => ∃ (i n m : Nat) (kI : Int), i ≤ 8 ∧ Hid (kI = 8 - (i : Int)) ∧ p = .float .f64 (pick .f64 (ser u i) n) ∧ k = .int .i64 kI ∧ wr = w.drewN m) (fun _ k _ => (intOf k).toNat)
  case atStart => exact ⟨0, 0, _, 8, by omega, rfl, by rw [pick_not (show isN .f64 (ser u 0) = false from (by decide +kernel : isN .f64 one64 = false))]; rfl, rfl, rfl⟩
  case round =>
    obtain ⟨i, n, m, kI, hi, HK, rfl, rfl, rfl⟩ := hrel
    by_cases hlt8 : i < 8
    · have b1 : 1 ≤ kI := by have := HK.out; omega
      have b2 : kI ≤ 8 := by have := HK.out; omega
      have b3 : 0 ≤ 2 * kI * (2 * kI + 1) := Int.mul_nonneg (by omega) (by omega)
      have b4 : 2 * kI * (2 * kI + 1) ≤ 272 := Int.le_trans (Int.mul_le_mul (show 2 * kI ≤ 16 by omega) (show 2 * kI + 1 ≤ 17 by omega) (by omega) (by omega)) (by decide)
      have HD : Hid (den i = floatOfInt .f64 (2 * kI * (2 * kI + 1))) := by unfold Hid; rw [HK.out]; exact den_int i hlt8
      go_wp2_with (first | (refine wpList_fop rfl _ _ _ _ _ rfl _ _ _ rfl rfl (by decide) _ ?_; intro _ _) | (refine upon_fop _ _ _ _ _ (by decide) ?_; intro _ _))
      go_roundw
      case rel => exact ⟨i + 1, _, _, kI - 1, by omega, by have := HK.out; unfold Hid; omega, by rw [ser_step, HD.out]; rfl, rfl, rfl⟩
      case measure => simp [intOf]; omega
    · obtain rfl : i = 8 := by omega
      have b1 : kI < 1 := by have := HK.out; omega
      have b2 : 0 ≤ kI := by have := HK.out; omega
      go_wp2_with (first | (refine wpList_fop rfl _ _ _ _ _ rfl _ _ _ rfl rfl (by decide) _ ?_; intro _ _) | (refine upon_fop _ _ _ _ _ (by decide) ?_; intro _ _))
      go_ret
      rw [HF.out]
      unfold sinZ
      rw [Hu.out]
      exact ⟨_, _, rfl, rfl⟩
theorem c_l01SineWide_fft (v f : Nat) (w : World) (j : Nat) (Hti : Hid (floatToIntVal .f64 v .i64 = some (ti v))) (Hf : Hid (partF v = f))
    (hs : (FloatKind.f64.format.order (fop .sub .f64 v v) 0 != some .eq) = false)
    (h1 : (FloatKind.f64.format.order v 4841369599423283200 == some .gt || FloatKind.f64.format.order v 4841369599423283200 == some .eq) = false)
    (h2 : (FloatKind.f64.format.order v 14064741636278059008 == some .lt || FloatKind.f64.format.order v 14064741636278059008 == some .eq) = false)
    {j2 : Nat} (hnan : isN .f64 v = false) (hf : fop .sub .f64 v (floatOfInt .f64 (ti v)) = f) (hlt : (FloatKind.f64.format.order f 0 == some .lt) = false)
    (hb : (FloatKind.f64.format.order f 4602678819172646912 == some .gt || FloatKind.f64.format.order f 4602678819172646912 == some .eq) = false)
    (hq : (FloatKind.f64.format.order f 4598175219545276416 == some .gt) = true) : Calls Try.prog 121 #[.float .f64 (pick .f64 v j2)] (w.drewN j) (RetF .f64 (sinF v) w) := by
  have HF : Hid (sinF v = (sinZ (fop .mul .f64 (fop .sub .f64 4602678819172646912 f) 4618760256179416344))) := by
    unfold Hid sinF lowB fold2 half64 quarter64 twopi64; rw [Hf.out, hb]; simp only [if_true, if_false, Bool.false_eq_true, hq]
  rw [pick_not hnan]
  go_enter Try.func121, Try.ntmps121
  go_wp2_with (first | (first | (refine wpList_fop rfl _ _ _ _ _ rfl _ _ _ rfl rfl (by decide) _ ?_; intro _ _) | (refine upon_fop _ _ _ _ _ (by decide) ?_; intro _ _)) | (refine wpList_ftoi rfl 32 2 _ rfl (Option.isSome_iff_exists.2 ⟨_, Try.underlying32⟩) .i64 Try.underlying2 _ _ rfl (by exact Hti.out) ?_) | go_in)
  generalize hu : fop .mul .f64 (fop .mul .f64 (fop .sub .f64 4602678819172646912 f) 4618760256179416344) (fop .mul .f64 (fop .sub .f64 4602678819172646912 f) 4618760256179416344) = u
  have Hu := Lib.hid hu
  clear hu
  go_loopw [7, 8] (fun p k wr => ∃ (i n m : Nat) (kI : Int), i ≤ 8 ∧ Hid (kI = 8 - (i : Int)) ∧ p = .float .f64 (pick .f64 (ser u i) n) ∧ k = .int .i64 kI ∧ wr = w.drewN m) (fun _ k _ => (intOf k).toNat)
  case atStart => exact ⟨0, 0, _, 8, by omega, rfl, by rw [pick_not (show isN .f64 (ser u 0) = false from (by decide +kernel : isN .f64 one64 = false))]; rfl, rfl, rfl⟩
  case round =>
    obtain ⟨i, n, m, kI, hi, HK, rfl, rfl, rfl⟩ := hrel
    by_cases hlt8 : i < 8
    · have b1 : 1 ≤ kI := by have := HK.out; omega
      have b2 : kI ≤ 8 := by have := HK.out; omega
      have b3 : 0 ≤ 2 * kI * (2 * kI + 1) := Int.mul_nonneg (by omega) (by omega)
      have b4 : 2 * kI * (2 * kI + 1) ≤ 272 := Int.le_trans (Int.mul_le_mul (show 2 * kI ≤ 16 by omega) (show 2 * kI + 1 ≤ 17 by omega) (by omega) (by omega)) (by decide)
      have HD : Hid (den i = floatOfInt .f64 (2 * kI * (2 * kI + 1))) := by unfold Hid; rw [HK.out]; exact den_int i hlt8
      go_wp2_with (first | (refine wpList_fop rfl _ _ _ _ _ rfl _ _ _ rfl rfl (by decide) _ ?_; intro _ _) | (refine upon_fop _ _ _ _ _ (by decide) ?_; intro _ _))
      go_roundw
      case rel => exact ⟨i + 1, _, _, kI - 1, by omega, by have := HK.out; unfold Hid; omega, by rw [ser_step, HD.out]; rfl, rfl, rfl⟩
      case measure => simp [intOf]; omega
    · obtain rfl : i = 8 := by omega
      have b1 : kI < 1 := by have := HK.out; omega
      have b2 : 0 ≤ kI := by have := HK.out; omega
      go_wp2_with (first | (refine wpList_fop rfl _ _ _ _ _ rfl _ _ _ rfl rfl (by decide) _ ?_; intro _ _) | (refine upon_fop _ _ _ _ _ (by decide) ?_; intro _ _))
      go_ret
      rw [HF.out]
      unfold sinZ
      rw [Hu.out]
      exact ⟨_, _, rfl, rfl⟩
theorem c_l01SineWide_ftf (v f : Nat) (w : World) (j : Nat) (Hti : Hid (floatToIntVal .f64 v .i64 = some (ti v))) (Hf : Hid (partF v = f))
    (hs : (FloatKind.f64.format.order (fop .sub .f64 v v) 0 != some .eq) = false)
    (h1 : (FloatKind.f64.format.order v 4841369599423283200 == some .gt || FloatKind.f64.format.order v 4841369599423283200 == some .eq) = false)
    (h2 : (FloatKind.f64.format.order v 14064741636278059008 == some .lt || FloatKind.f64.format.order v 14064741636278059008 == some .eq) = false)
    {j2 : Nat} (hnan : isN .f64 v = false) (hf : fop .sub .f64 v (floatOfInt .f64 (ti v)) = f) (hlt : (FloatKind.f64.format.order f 0 == some .lt) = false)
    (hb : (FloatKind.f64.format.order f 4602678819172646912 == some .gt || FloatKind.f64.format.order f 4602678819172646912 == some .eq) = true)
    (hq : (FloatKind.f64.format.order (fop .sub .f64 f 4602678819172646912) 4598175219545276416 == some .gt) = false) : Calls Try.prog 121 #[.float .f64 (pick .f64 v j2)] (w.drewN j) (RetF .f64 (sinF v) w) := by
  have HF : Hid (sinF v = fneg .f64 (sinZ (fop .mul .f64 (fop .sub .f64 f 4602678819172646912) 4618760256179416344))) := by
    unfold Hid sinF lowB fold2 half64 quarter64 twopi64; rw [Hf.out, hb]; simp only [if_true, if_false, Bool.false_eq_true, hq]
  rw [pick_not hnan]
  go_enter Try.func121, Try.ntmps121
  go_wp2_with (first | (first | (refine wpList_fop rfl _ _ _ _ _ rfl _ _ _ rfl rfl (by decide) _ ?_; intro _ _) | (refine upon_fop _ _ _ _ _ (by decide) ?_; intro _ _)) | (refine wpList_ftoi rfl 32 2 _ rfl (Option.isSome_iff_exists.2 ⟨_, Try.underlying32⟩) .i64 Try.underlying2 _ _ rfl (by exact Hti.out) ?_) | go_in)
  generalize hu : fop .mul .f64 (fop .mul .f64 (fop .sub .f64 f 4602678819172646912) 4618760256179416344) (fop .mul .f64 (fop .sub .f64 f 4602678819172646912) 4618760256179416344) = u
  have Hu := Lib.hid hu
  clear hu
  go_loopw [7, 8] (fun p k wr => ∃ (i n m : Nat) (kI : Int), i ≤ 8 ∧ Hid (kI = 8 - (i : Int)) ∧ p = .float .f64 (pick .f64 (ser u i) n) ∧ k = .int .i64 kI ∧ wr = w.drewN m) (fun _ k _ => (intOf k).toNat)
  case atStart => exact ⟨0, 0, _, 8, by omega, rfl, by rw [pick_not (show isN .f64 (ser u 0) = false from (by decide +kernel : isN .f64 one64 = false))]; rfl, rfl, rfl⟩
  case round =>
    obtain ⟨i, n, m, kI, hi, HK, rfl, rfl, rfl⟩ := hrel
    by_cases hlt8 : i < 8
    · have b1 : 1 ≤ kI := by have := HK.out; omega
      have b2 : kI ≤ 8 := by have := HK.out; omega
      have b3 : 0 ≤ 2 * kI * (2 * kI + 1) := Int.mul_nonneg (by omega) (by omega)
      have b4 : 2 * kI * (2 * kI + 1) ≤ 272 := Int.le_trans (Int.mul_le_mul (show 2 * kI ≤ 16 by omega) (show 2 * kI + 1 ≤ 17 by omega) (by omega) (by omega)) (by decide)
      have HD : Hid (den i = floatOfInt .f64 (2 * kI * (2 * kI + 1))) := by unfold Hid; rw [HK.out]; exact den_int i hlt8
      go_wp2_with (first | (refine wpList_fop rfl _ _ _ _ _ rfl _ _ _ rfl rfl (by decide) _ ?_; intro _ _) | (refine upon_fop _ _ _ _ _ (by decide) ?_; intro _ _))
      go_roundw
      case rel => exact ⟨i + 1, _, _, kI - 1, by omega, by have := HK.out; unfold Hid; omega, by rw [ser_step, HD.out]; rfl, rfl, rfl⟩
      case measure => simp [intOf]; omega
    · obtain rfl : i = 8 := by omega
      have b1 : kI < 1 := by have := HK.out; omega
      have b2 : 0 ≤ kI := by have := HK.out; omega
      go_wp2_with (first | (refine wpList_fop rfl _ _ _ _ _ rfl _ _ _ rfl rfl (by decide) _ ?_; intro _ _) | (refine upon_fop _ _ _ _ _ (by decide) ?_; intro _ _))
      go_ret
      rw [HF.out]
      unfold sinZ
      rw [Hu.out]
      exact ⟨_, _, rfl, rfl⟩
theorem c_l01SineWide_ftt (v f : Nat) (w : World) (j : Nat) (Hti : Hid (floatToIntVal .f64 v .i64 = some (ti v))) (Hf : Hid (partF v = f))
    (hs : (FloatKind.f64.format.order (fop .sub .f64 v v) 0 != some .eq) = false)
    (h1 : (FloatKind.f64.format.order v 4841369599423283200 == some .gt || FloatKind.f64.format.order v 4841369599423283200 == some .eq) = false)
    (h2 : (FloatKind.f64.format.order v 14064741636278059008 == some .lt || FloatKind.f64.format.order v 14064741636278059008 == some .eq) = false)
    {j2 : Nat} (hnan : isN .f64 v = false) (hf : fop .sub .f64 v (floatOfInt .f64 (ti v)) = f) (hlt : (FloatKind.f64.format.order f 0 == some .lt) = false)
    (hb : (FloatKind.f64.format.order f 4602678819172646912 == some .gt || FloatKind.f64.format.order f 4602678819172646912 == some .eq) = true)
    (hq : (FloatKind.f64.format.order (fop .sub .f64 f 4602678819172646912) 4598175219545276416 == some .gt) = true) : Calls Try.prog 121 #[.float .f64 (pick .f64 v j2)] (w.drewN j) (RetF .f64 (sinF v) w) := by
  have HF : Hid (sinF v = fneg .f64 (sinZ (fop .mul .f64 (fop .sub .f64 4602678819172646912 (fop .sub .f64 f 4602678819172646912)) 4618760256179416344))) := by
    unfold Hid sinF lowB fold2 half64 quarter64 twopi64; rw [Hf.out, hb]; simp only [if_true, if_false, Bool.false_eq_true, hq]
  rw [pick_not hnan]
  go_enter Try.func121, Try.ntmps121
  go_wp2_with (first | (first | (refine wpList_fop rfl _ _ _ _ _ rfl _ _ _ rfl rfl (by decide) _ ?_; intro _ _) | (refine upon_fop _ _ _ _ _ (by decide) ?_; intro _ _)) | (refine wpList_ftoi rfl 32 2 _ rfl (Option.isSome_iff_exists.2 ⟨_, Try.underlying32⟩) .i64 Try.underlying2 _ _ rfl (by exact Hti.out) ?_) | go_in)
  generalize hu : fop .mul .f64 (fop .mul .f64 (fop .sub .f64 4602678819172646912 (fop .sub .f64 f 4602678819172646912)) 4618760256179416344) (fop .mul .f64 (fop .sub .f64 4602678819172646912 (fop .sub .f64 f 4602678819172646912)) 4618760256179416344) = u
  have Hu := Lib.hid hu
  clear hu
  go_loopw [7, 8] (fun p k wr => ∃ (i n m : Nat) (kI : Int), i ≤ 8 ∧ Hid (kI = 8 - (i : Int)) ∧ p = .float .f64 (pick .f64 (ser u i) n) ∧ k = .int .i64 kI ∧ wr = w.drewN m) (fun _ k _ => (intOf k).toNat)
  case atStart => exact ⟨0, 0, _, 8, by omega, rfl, by rw [pick_not (show isN .f64 (ser u 0) = false from (by decide +kernel : isN .f64 one64 = false))]; rfl, rfl, rfl⟩
  case round =>
    obtain ⟨i, n, m, kI, hi, HK, rfl, rfl, rfl⟩ := hrel
    by_cases hlt8 : i < 8
    · have b1 : 1 ≤ kI := by have := HK.out; omega
      have b2 : kI ≤ 8 := by have := HK.out; omega
      have b3 : 0 ≤ 2 * kI * (2 * kI + 1) := Int.mul_nonneg (by omega) (by omega)
      have b4 : 2 * kI * (2 * kI + 1) ≤ 272 := Int.le_trans (Int.mul_le_mul (show 2 * kI ≤ 16 by omega) (show 2 * kI + 1 ≤ 17 by omega) (by omega) (by omega)) (by decide)
      have HD : Hid (den i = floatOfInt .f64 (2 * kI * (2 * kI + 1))) := by unfold Hid; rw [HK.out]; exact den_int i hlt8
      go_wp2_with (first | (refine wpList_fop rfl _ _ _ _ _ rfl _ _ _ rfl rfl (by decide) _ ?_; intro _ _) | (refine upon_fop _ _ _ _ _ (by decide) ?_; intro _ _))
      go_roundw
      case rel => exact ⟨i + 1, _, _, kI - 1, by omega, by have := HK.out; unfold Hid; omega, by rw [ser_step, HD.out]; rfl, rfl, rfl⟩
      case measure => simp [intOf]; omega
    · obtain rfl : i = 8 := by omega
      have b1 : kI < 1 := by have := HK.out; omega
      have b2 : 0 ≤ kI := by have := HK.out; omega
      go_wp2_with (first | (refine wpList_fop rfl _ _ _ _ _ rfl _ _ _ rfl rfl (by decide) _ ?_; intro _ _) | (refine upon_fop _ _ _ _ _ (by decide) ?_; intro _ _))
      go_ret
      rw [HF.out]
      unfold sinZ
      rw [Hu.out]
      exact ⟨_, _, rfl, rfl⟩
theorem c_l01SineWide_tff (v f : Nat) (w : World) (j : Nat) (Hti : Hid (floatToIntVal .f64 v .i64 = some (ti v))) (Hf : Hid (partF v = f))
    (hs : (FloatKind.f64.format.order (fop .sub .f64 v v) 0 != some .eq) = false)
    (h1 : (FloatKind.f64.format.order v 4841369599423283200 == some .gt || FloatKind.f64.format.order v 4841369599423283200 == some .eq) = false)
    (h2 : (FloatKind.f64.format.order v 14064741636278059008 == some .lt || FloatKind.f64.format.order v 14064741636278059008 == some .eq) = false)
    {j2 : Nat} (hnan : isN .f64 v = false) (hf : fop .add .f64 (fop .sub .f64 v (floatOfInt .f64 (ti v))) 4607182418800017408 = f) (hlt : (FloatKind.f64.format.order (fop .sub .f64 v (floatOfInt .f64 (ti v))) 0 == some .lt) = true)
    (hb : (FloatKind.f64.format.order f 4602678819172646912 == some .gt || FloatKind.f64.format.order f 4602678819172646912 == some .eq) = false)
    (hq : (FloatKind.f64.format.order f 4598175219545276416 == some .gt) = false) : Calls Try.prog 121 #[.float .f64 (pick .f64 v j2)] (w.drewN j) (RetF .f64 (sinF v) w) := by
  have HF : Hid (sinF v = (sinZ (fop .mul .f64 f 4618760256179416344))) := by
    unfold Hid sinF lowB fold2 half64 quarter64 twopi64; rw [Hf.out, hb]; simp only [if_true, if_false, Bool.false_eq_true, hq]
  rw [pick_not hnan]
  go_enter Try.func121, Try.ntmps121
  go_wp2_with (first | (first | (refine wpList_fop rfl _ _ _ _ _ rfl _ _ _ rfl rfl (by decide) _ ?_; intro _ _) | (refine upon_fop _ _ _ _ _ (by decide) ?_; intro _ _)) | (refine wpList_ftoi rfl 32 2 _ rfl (Option.isSome_iff_exists.2 ⟨_, Try.underlying32⟩) .i64 Try.underlying2 _ _ rfl (by exact Hti.out) ?_) | go_in)
  generalize hu : fop .mul .f64 (fop .mul .f64 f 4618760256179416344) (fop .mul .f64 f 4618760256179416344) = u
  have Hu := Lib.hid hu
  clear hu
  go_loopw [7, 8] (fun p k wr => ∃ (i n m : Nat) (kI : Int), i ≤ 8 ∧ Hid (kI = 8 - (i : Int)) ∧ p = .float .f64 (pick .f64 (ser u i) n) ∧ k = .int .i64 kI ∧ wr = w.drewN m) (fun _ k _ => (intOf k).toNat)
  case atStart => exact ⟨0, 0, _, 8, by omega, rfl, by rw [pick_not (show isN .f64 (ser u 0) = false from (by decide +kernel : isN .f64 one64 = false))]; rfl, rfl, rfl⟩
  case round =>
    obtain ⟨i, n, m, kI, hi, HK, rfl, rfl, rfl⟩ := hrel
    by_cases hlt8 : i < 8
    · have b1 : 1 ≤ kI := by have := HK.out; omega
      have b2 : kI ≤ 8 := by have := HK.out; omega
      have b3 : 0 ≤ 2 * kI * (2 * kI + 1) := Int.mul_nonneg (by omega) (by omega)
      have b4 : 2 * kI * (2 * kI + 1) ≤ 272 := Int.le_trans (Int.mul_le_mul (show 2 * kI ≤ 16 by omega) (show 2 * kI + 1 ≤ 17 by omega) (by omega) (by omega)) (by decide)
      have HD : Hid (den i = floatOfInt .f64 (2 * kI * (2 * kI + 1))) := by unfold Hid; rw [HK.out]; exact den_int i hlt8
      go_wp2_with (first | (refine wpList_fop rfl _ _ _ _ _ rfl _ _ _ rfl rfl (by decide) _ ?_; intro _ _) | (refine upon_fop _ _ _ _ _ (by decide) ?_; intro _ _))
      go_roundw
      case rel => exact ⟨i + 1, _, _, kI - 1, by omega, by have := HK.out; unfold Hid; omega, by rw [ser_step, HD.out]; rfl, rfl, rfl⟩
      case measure => simp [intOf]; omega
    · obtain rfl : i = 8 := by omega
      have b1 : kI < 1 := by have := HK.out; omega
      have b2 : 0 ≤ kI := by have := HK.out; omega
      go_wp2_with (first | (refine wpList_fop rfl _ _ _ _ _ rfl _ _ _ rfl rfl (by decide) _ ?_; intro _ _) | (refine upon_fop _ _ _ _ _ (by decide) ?_; intro _ _))
      go_ret
      rw [HF.out]
      unfold sinZ
      rw [Hu.out]
      exact ⟨_, _, rfl, rfl⟩
theorem c_l01SineWide_tft (v f : Nat) (w : World) (j : Nat) (Hti : Hid (floatToIntVal .f64 v .i64 = some (ti v))) (Hf : Hid (partF v = f))
    (hs : (FloatKind.f64.format.order (fop .sub .f64 v v) 0 != some .eq) = false)
    (h1 : (FloatKind.f64.format.order v 4841369599423283200 == some .gt || FloatKind.f64.format.order v 4841369599423283200 == some .eq) = false)
    (h2 : (FloatKind.f64.format.order v 14064741636278059008 == some .lt || FloatKind.f64.format.order v 14064741636278059008 == some .eq) = false)
    {j2 : Nat} (hnan : isN .f64 v = false) (hf : fop .add .f64 (fop .sub .f64 v (floatOfInt .f64 (ti v))) 4607182418800017408 = f) (hlt : (FloatKind.f64.format.order (fop .sub .f64 v (floatOfInt .f64 (ti v))) 0 == some .lt) = true)
    (hb : (FloatKind.f64.format.order f 4602678819172646912 == some .gt || FloatKind.f64.format.order f 4602678819172646912 == some .eq) = false)
    (hq : (FloatKind.f64.format.order f 4598175219545276416 == some .gt) = true) : Calls Try.prog 121 #[.float .f64 (pick .f64 v j2)] (w.drewN j) (RetF .f64 (sinF v) w) := by
  have HF : Hid (sinF v = (sinZ (fop .mul .f64 (fop .sub .f64 4602678819172646912 f) 4618760256179416344))) := by
    unfold Hid sinF lowB fold2 half64 quarter64 twopi64; rw [Hf.out, hb]; simp only [if_true, if_false, Bool.false_eq_true, hq]
  rw [pick_not hnan]
  go_enter Try.func121, Try.ntmps121
  go_wp2_with (first | (first | (refine wpList_fop rfl _ _ _ _ _ rfl _ _ _ rfl rfl (by decide) _ ?_; intro _ _) | (refine upon_fop _ _ _ _ _ (by decide) ?_; intro _ _)) | (refine wpList_ftoi rfl 32 2 _ rfl (Option.isSome_iff_exists.2 ⟨_, Try.underlying32⟩) .i64 Try.underlying2 _ _ rfl (by exact Hti.out) ?_) | go_in)
  generalize hu : fop .mul .f64 (fop .mul .f64 (fop .sub .f64 4602678819172646912 f) 4618760256179416344) (fop .mul .f64 (fop .sub .f64 4602678819172646912 f) 4618760256179416344) = u
  have Hu := Lib.hid hu
  clear hu
  go_loopw [7, 8] (fun p k wr => ∃ (i n m : Nat) (kI : Int), i ≤ 8 ∧ Hid (kI = 8 - (i : Int)) ∧ p = .float .f64 (pick .f64 (ser u i) n) ∧ k = .int .i64 kI ∧ wr = w.drewN m) (fun _ k _ => (intOf k).toNat)
  case atStart => exact ⟨0, 0, _, 8, by omega, rfl, by rw [pick_not (show isN .f64 (ser u 0) = false from (by decide +kernel : isN .f64 one64 = false))]; rfl, rfl, rfl⟩
  case round =>
    obtain ⟨i, n, m, kI, hi, HK, rfl, rfl, rfl⟩ := hrel
    by_cases hlt8 : i < 8
    · have b1 : 1 ≤ kI := by have := HK.out; omega
      have b2 : kI ≤ 8 := by have := HK.out; omega
      have b3 : 0 ≤ 2 * kI * (2 * kI + 1) := Int.mul_nonneg (by omega) (by omega)
      have b4 : 2 * kI * (2 * kI + 1) ≤ 272 := Int.le_trans (Int.mul_le_mul (show 2 * kI ≤ 16 by omega) (show 2 * kI + 1 ≤ 17 by omega) (by omega) (by omega)) (by decide)
      have HD : Hid (den i = floatOfInt .f64 (2 * kI * (2 * kI + 1))) := by unfold Hid; rw [HK.out]; exact den_int i hlt8
      go_wp2_with (first | (refine wpList_fop rfl _ _ _ _ _ rfl _ _ _ rfl rfl (by decide) _ ?_; intro _ _) | (refine upon_fop _ _ _ _ _ (by decide) ?_; intro _ _))
      go_roundw
      case rel => exact ⟨i + 1, _, _, kI - 1, by omega, by have := HK.out; unfold Hid; omega, by rw [ser_step, HD.out]; rfl, rfl, rfl⟩
      case measure => simp [intOf]; omega
    · obtain rfl : i = 8 := by omega
      have b1 : kI < 1 := by have := HK.out; omega
      have b2 : 0 ≤ kI := by have := HK.out; omega
      go_wp2_with (first | (refine wpList_fop rfl _ _ _ _ _ rfl _ _ _ rfl rfl (by decide) _ ?_; intro _ _) | (refine upon_fop _ _ _ _ _ (by decide) ?_; intro _ _))
      go_ret
      rw [HF.out]
      unfold sinZ
      rw [Hu.out]
      exact ⟨_, _, rfl, rfl⟩
theorem c_l01SineWide_ttf (v f : Nat) (w : World) (j : Nat) (Hti : Hid (floatToIntVal .f64 v .i64 = some (ti v))) (Hf : Hid (partF v = f))
    (hs : (FloatKind.f64.format.order (fop .sub .f64 v v) 0 != some .eq) = false)
    (h1 : (FloatKind.f64.format.order v 4841369599423283200 == some .gt || FloatKind.f64.format.order v 4841369599423283200 == some .eq) = false)
    (h2 : (FloatKind.f64.format.order v 14064741636278059008 == some .lt || FloatKind.f64.format.order v 14064741636278059008 == some .eq) = false)
    {j2 : Nat} (hnan : isN .f64 v = false) (hf : fop .add .f64 (fop .sub .f64 v (floatOfInt .f64 (ti v))) 4607182418800017408 = f) (hlt : (FloatKind.f64.format.order (fop .sub .f64 v (floatOfInt .f64 (ti v))) 0 == some .lt) = true)
    (hb : (FloatKind.f64.format.order f 4602678819172646912 == some .gt || FloatKind.f64.format.order f 4602678819172646912 == some .eq) = true)
    (hq : (FloatKind.f64.format.order (fop .sub .f64 f 4602678819172646912) 4598175219545276416 == some .gt) = false) : Calls Try.prog 121 #[.float .f64 (pick .f64 v j2)] (w.drewN j) (RetF .f64 (sinF v) w) := by
  have HF : Hid (sinF v = fneg .f64 (sinZ (fop .mul .f64 (fop .sub .f64 f 4602678819172646912) 4618760256179416344))) := by
    unfold Hid sinF lowB fold2 half64 quarter64 twopi64; rw [Hf.out, hb]; simp only [if_true, if_false, Bool.false_eq_true, hq]
  rw [pick_not hnan]
  go_enter Try.func121, Try.ntmps121
  go_wp2_with (first | (first | (refine wpList_fop rfl _ _ _ _ _ rfl _ _ _ rfl rfl (by decide) _ ?_; intro _ _) | (refine upon_fop _ _ _ _ _ (by decide) ?_; intro _ _)) | (refine wpList_ftoi rfl 32 2 _ rfl (Option.isSome_iff_exists.2 ⟨_, Try.underlying32⟩) .i64 Try.underlying2 _ _ rfl (by exact Hti.out) ?_) | go_in)
  generalize hu : fop .mul .f64 (fop .mul .f64 (fop .sub .f64 f 4602678819172646912) 4618760256179416344) (fop .mul .f64 (fop .sub .f64 f 4602678819172646912) 4618760256179416344) = u
  have Hu := Lib.hid hu
  clear hu
  go_loopw [7, 8] (fun p k wr => ∃ (i n m : Nat) (kI : Int), i ≤ 8 ∧ Hid (kI = 8 - (i : Int)) ∧ p = .float .f64 (pick .f64 (ser u i) n) ∧ k = .int .i64 kI ∧ wr = w.drewN m) (fun _ k _ => (intOf k).toNat)
  case atStart => exact ⟨0, 0, _, 8, by omega, rfl, by rw [pick_not (show isN .f64 (ser u 0) = false from (by decide +kernel : isN .f64 one64 = false))]; rfl, rfl, rfl⟩
  case round =>
    obtain ⟨i, n, m, kI, hi, HK, rfl, rfl, rfl⟩ := hrel
    by_cases hlt8 : i < 8
    · have b1 : 1 ≤ kI := by have := HK.out; omega
      have b2 : kI ≤ 8 := by have := HK.out; omega
      have b3 : 0 ≤ 2 * kI * (2 * kI + 1) := Int.mul_nonneg (by omega) (by omega)
      have b4 : 2 * kI * (2 * kI + 1) ≤ 272 := Int.le_trans (Int.mul_le_mul (show 2 * kI ≤ 16 by omega) (show 2 * kI + 1 ≤ 17 by omega) (by omega) (by omega)) (by decide)
      have HD : Hid (den i = floatOfInt .f64 (2 * kI * (2 * kI + 1))) := by unfold Hid; rw [HK.out]; exact den_int i hlt8
      go_wp2_with (first | (refine wpList_fop rfl _ _ _ _ _ rfl _ _ _ rfl rfl (by decide) _ ?_; intro _ _) | (refine upon_fop _ _ _ _ _ (by decide) ?_; intro _ _))
      go_roundw
      case rel => exact ⟨i + 1, _, _, kI - 1, by omega, by have := HK.out; unfold Hid; omega, by rw [ser_step, HD.out]; rfl, rfl, rfl⟩
      case measure => simp [intOf]; omega
    · obtain rfl : i = 8 := by omega
      have b1 : kI < 1 := by have := HK.out; omega
      have b2 : 0 ≤ kI := by have := HK.out; omega
      go_wp2_with (first | (refine wpList_fop rfl _ _ _ _ _ rfl _ _ _ rfl rfl (by decide) _ ?_; intro _ _) | (refine upon_fop _ _ _ _ _ (by decide) ?_; intro _ _))
      go_ret
      rw [HF.out]
      unfold sinZ
      rw [Hu.out]
      exact ⟨_, _, rfl, rfl⟩
theorem c_l01SineWide_ttt (v f : Nat) (w : World) (j : Nat) (Hti : Hid (floatToIntVal .f64 v .i64 = some (ti v))) (Hf : Hid (partF v = f))
    (hs : (FloatKind.f64.format.order (fop .sub .f64 v v) 0 != some .eq) = false)
    (h1 : (FloatKind.f64.format.order v 4841369599423283200 == some .gt || FloatKind.f64.format.order v 4841369599423283200 == some .eq) = false)
    (h2 : (FloatKind.f64.format.order v 14064741636278059008 == some .lt || FloatKind.f64.format.order v 14064741636278059008 == some .eq) = false)
    {j2 : Nat} (hnan : isN .f64 v = false) (hf : fop .add .f64 (fop .sub .f64 v (floatOfInt .f64 (ti v))) 4607182418800017408 = f) (hlt : (FloatKind.f64.format.order (fop .sub .f64 v (floatOfInt .f64 (ti v))) 0 == some .lt) = true)
    (hb : (FloatKind.f64.format.order f 4602678819172646912 == some .gt || FloatKind.f64.format.order f 4602678819172646912 == some .eq) = true)
    (hq : (FloatKind.f64.format.order (fop .sub .f64 f 4602678819172646912) 4598175219545276416 == some .gt) = true) : Calls Try.prog 121 #[.float .f64 (pick .f64 v j2)] (w.drewN j) (RetF .f64 (sinF v) w) := by
  have HF : Hid (sinF v = fneg .f64 (sinZ (fop .mul .f64 (fop .sub .f64 4602678819172646912 (fop .sub .f64 f 4602678819172646912)) 4618760256179416344))) := by
    unfold Hid sinF lowB fold2 half64 quarter64 twopi64; rw [Hf.out, hb]; simp only [if_true, if_false, Bool.false_eq_true, hq]
  rw [pick_not hnan]
  go_enter Try.func121, Try.ntmps121
  go_wp2_with (first | (first | (refine wpList_fop rfl _ _ _ _ _ rfl _ _ _ rfl rfl (by decide) _ ?_; intro _ _) | (refine upon_fop _ _ _ _ _ (by decide) ?_; intro _ _)) | (refine wpList_ftoi rfl 32 2 _ rfl (Option.isSome_iff_exists.2 ⟨_, Try.underlying32⟩) .i64 Try.underlying2 _ _ rfl (by exact Hti.out) ?_) | go_in)
  generalize hu : fop .mul .f64 (fop .mul .f64 (fop .sub .f64 4602678819172646912 (fop .sub .f64 f 4602678819172646912)) 4618760256179416344) (fop .mul .f64 (fop .sub .f64 4602678819172646912 (fop .sub .f64 f 4602678819172646912)) 4618760256179416344) = u
  have Hu := Lib.hid hu
  clear hu
  go_loopw [7, 8] (fun p k wr => ∃ (i n m : Nat) (kI : Int), i ≤ 8 ∧ Hid (kI = 8 - (i : Int)) ∧ p = .float .f64 (pick .f64 (ser u i) n) ∧ k = .int .i64 kI ∧ wr = w.drewN m) (fun _ k _ => (intOf k).toNat)
  case atStart => exact ⟨0, 0, _, 8, by omega, rfl, by rw [pick_not (show isN .f64 (ser u 0) = false from (by decide +kernel : isN .f64 one64 = false))]; rfl, rfl, rfl⟩
  case round =>
    obtain ⟨i, n, m, kI, hi, HK, rfl, rfl, rfl⟩ := hrel
    by_cases hlt8 : i < 8
    · have b1 : 1 ≤ kI := by have := HK.out; omega
      have b2 : kI ≤ 8 := by have := HK.out; omega
      have b3 : 0 ≤ 2 * kI * (2 * kI + 1) := Int.mul_nonneg (by omega) (by omega)
      have b4 : 2 * kI * (2 * kI + 1) ≤ 272 := Int.le_trans (Int.mul_le_mul (show 2 * kI ≤ 16 by omega) (show 2 * kI + 1 ≤ 17 by omega) (by omega) (by omega)) (by decide)
      have HD : Hid (den i = floatOfInt .f64 (2 * kI * (2 * kI + 1))) := by unfold Hid; rw [HK.out]; exact den_int i hlt8
      go_wp2_with (first | (refine wpList_fop rfl _ _ _ _ _ rfl _ _ _ rfl rfl (by decide) _ ?_; intro _ _) | (refine upon_fop _ _ _ _ _ (by decide) ?_; intro _ _))
      go_roundw
      case rel => exact ⟨i + 1, _, _, kI - 1, by omega, by have := HK.out; unfold Hid; omega, by rw [ser_step, HD.out]; rfl, rfl, rfl⟩
      case measure => simp [intOf]; omega
    · obtain rfl : i = 8 := by omega
      have b1 : kI < 1 := by have := HK.out; omega
      have b2 : 0 ≤ kI := by have := HK.out; omega
      go_wp2_with (first | (refine wpList_fop rfl _ _ _ _ _ rfl _ _ _ rfl rfl (by decide) _ ?_; intro _ _) | (refine upon_fop _ _ _ _ _ (by decide) ?_; intro _ _))
      go_ret
      rw [HF.out]
      unfold sinZ
      rw [Hu.out]
      exact ⟨_, _, rfl, rfl⟩
/-! ### l01SineAll -/
theorem c_l01Sine_ok (v : Nat) {j2 : Nat} (w : World) (j : Nat) (hti : floatToIntVal .f64 v .i64 = some (ti v)) (hnan : isN .f64 v = false)
    (hs : (FloatKind.f64.format.order (fop .sub .f64 v v) 0 != some .eq) = false)
    (h1 : (FloatKind.f64.format.order v 4841369599423283200 == some .gt || FloatKind.f64.format.order v 4841369599423283200 == some .eq) = false)
    (h2 : (FloatKind.f64.format.order v 14064741636278059008 == some .lt || FloatKind.f64.format.order v 14064741636278059008 == some .eq) = false) :
    Calls Try.prog 121 #[.float .f64 (pick .f64 v j2)] (w.drewN j) (RetF .f64 (sinF v) w) := by
  cases hl : (FloatKind.f64.format.order (fop .sub .f64 v (floatOfInt .f64 (ti v))) 0 == some .lt)
  · have e : fop .sub .f64 v (floatOfInt .f64 (ti v)) = partF v := by unfold partF; rw [hl, if_neg (by decide)]
    have hl' := hl
    rw [e] at hl'
    cases hb : (FloatKind.f64.format.order (partF v) 4602678819172646912 == some .gt || FloatKind.f64.format.order (partF v) 4602678819172646912 == some .eq)
    · cases hq : (FloatKind.f64.format.order (partF v) 4598175219545276416 == some .gt)
      · exact c_l01SineWide_fff v _ w j hti rfl hs h1 h2 hnan e hl' hb hq
      · exact c_l01SineWide_fft v _ w j hti rfl hs h1 h2 hnan e hl' hb hq
    · cases hq : (FloatKind.f64.format.order (fop .sub .f64 (partF v) 4602678819172646912) 4598175219545276416 == some .gt)
      · exact c_l01SineWide_ftf v _ w j hti rfl hs h1 h2 hnan e hl' hb hq
      · exact c_l01SineWide_ftt v _ w j hti rfl hs h1 h2 hnan e hl' hb hq
  · have e : fop .add .f64 (fop .sub .f64 v (floatOfInt .f64 (ti v))) 4607182418800017408 = partF v := by unfold partF; rw [hl, if_pos rfl]; rfl
    cases hb : (FloatKind.f64.format.order (partF v) 4602678819172646912 == some .gt || FloatKind.f64.format.order (partF v) 4602678819172646912 == some .eq)
    · cases hq : (FloatKind.f64.format.order (partF v) 4598175219545276416 == some .gt)
      · exact c_l01SineWide_tff v _ w j hti rfl hs h1 h2 hnan e hl hb hq
      · exact c_l01SineWide_tft v _ w j hti rfl hs h1 h2 hnan e hl hb hq
    · cases hq : (FloatKind.f64.format.order (fop .sub .f64 (partF v) 4602678819172646912) 4598175219545276416 == some .gt)
      · exact c_l01SineWide_ttf v _ w j hti rfl hs h1 h2 hnan e hl hb hq
      · exact c_l01SineWide_ttt v _ w j hti rfl hs h1 h2 hnan e hl hb hq

/-! ### f64from -/
@[go_sem] theorem e_f64from (n : Int) (w : World) : (callFunc 144 #[.int .u64 n]).run Try.prog w = .ok (.value (.float .f64 n.toNat)) w := by kernel_rfl
/-! ### mathNaN -/
theorem c_NaN (w : World) (j : Nat) : Calls Try.prog 139 #[] (w.drewN j) (RetF .f64 (qn .f64) w) := by
  obtain ⟨n, hn⟩ := raw_nan (b := 9221120237041090561) (by decide +kernel) (by decide +kernel)
  go_enter Try.func139, Try.ntmps139
  go_wp2
  go_ret
  exact ⟨n, _, by rw [← hn]; rfl, rfl⟩
/-! ### sSine -/
theorem c_l01Sine_nan (v j2 : Nat) (w : World) (j : Nat) (hs : (FloatKind.f64.format.order (fop .sub .f64 v v) 0 != some .eq) = true) : Calls Try.prog 121 #[.float .f64 (pick .f64 v j2)] (w.drewN j) (RetF .f64 (qn .f64) w) := by
  go_enter Try.func121, Try.ntmps121
  go_wp2_with (first | (first | (refine wpList_fop rfl _ _ _ _ _ rfl _ _ _ rfl rfl (by decide) _ ?_; intro _ _) | (refine upon_fop _ _ _ _ _ (by decide) ?_; intro _ _)) | (go_at_call 139; refine (c_NaN _ _).mono ?_; rintro _ _ ⟨_, _, rfl, rfl⟩))
  go_ret
  exact ⟨_, _, rfl, rfl⟩
theorem c_l01Sine_big (v j2 : Nat) (w : World) (j : Nat) (hs : (FloatKind.f64.format.order (fop .sub .f64 v v) 0 != some .eq) = false)
    (h : ((FloatKind.f64.format.order v 4841369599423283200 == some .gt || FloatKind.f64.format.order v 4841369599423283200 == some .eq) ||
     (FloatKind.f64.format.order v 14064741636278059008 == some .lt || FloatKind.f64.format.order v 14064741636278059008 == some .eq)) = true) : Calls Try.prog 121 #[.float .f64 (pick .f64 v j2)] (w.drewN j) (RetV (.float .f64 0) w) := by
  cases h1 : (FloatKind.f64.format.order v 4841369599423283200 == some .gt || FloatKind.f64.format.order v 4841369599423283200 == some .eq)
  · rw [h1, Bool.false_or] at h
    go_enter Try.func121, Try.ntmps121
    go_wp2_with (first | (first | (refine wpList_fop rfl _ _ _ _ _ rfl _ _ _ rfl rfl (by decide) _ ?_; intro _ _) | (refine upon_fop _ _ _ _ _ (by decide) ?_; intro _ _)))
    go_ret
    exact ⟨_, rfl, rfl⟩
  · clear h
    go_enter Try.func121, Try.ntmps121
    go_wp2_with (first | (first | (refine wpList_fop rfl _ _ _ _ _ rfl _ _ _ rfl rfl (by decide) _ ?_; intro _ _) | (refine upon_fop _ _ _ _ _ (by decide) ?_; intro _ _)))
    go_ret
    exact ⟨_, rfl, rfl⟩
theorem c_l01Sine (v n : Nat) (w : World) (j : Nat) (hv : v < 2 ^ FloatKind.f32.format.width) : Calls Try.prog 83 #[.float .f32 (pick .f32 v n)] (w.drewN j) (RetF .f32 (sineT v) w) := by
  have hss := sub_self_zero .f64 (cvU v)
  rw [finB_cvU] at hss
  cases hf : finB .f32 v
  · have e : sineT v = cvN (qn .f64) := by unfold sineT; rw [hf, if_neg (by decide)]; exact (cvN_qn (isN_qn .f64)).symm
    rw [e]
    have hs : (FloatKind.f64.format.order (fop .sub .f64 (cvU v) (cvU v)) 0 != some .eq) = true := by rw [bne, hss, hf]; rfl
    have HS := Lib.hid hs
    clear hss hs
    go_enter Try.func83, Try.ntmps83
    go_wp2_with (first | (refine wpList_cvU rfl 26 32 _ rfl (Option.isSome_iff_exists.2 ⟨_, Try.underlying26⟩) Try.underlying32 _ rfl _ ?_; intro _ _) | (refine wpList_cvN rfl 32 26 _ rfl (Option.isSome_iff_exists.2 ⟨_, Try.underlying32⟩) Try.underlying26 _ rfl _ (by exact .inl (by rw [isN_pick]; exact isN_qn _)) ?_; intro _ _) | (go_at_call 121; refine (c_l01Sine_nan _ _ _ _ HS.out).mono ?_; rintro _ _ ⟨_, _, rfl, rfl⟩) | go_in)
    go_ret
    exact ⟨_, _, rfl, rfl⟩
  · have hs : (FloatKind.f64.format.order (fop .sub .f64 (cvU v) (cvU v)) 0 != some .eq) = false := by rw [bne, hss, hf]; rfl
    have hn : isN .f64 (cvU v) = false := by rw [isN_cvU]; exact notN_fin (k := .f32) (of_decide_eq_true hf)
    obtain ⟨g1, g2⟩ := big_abs (cvU v) hn
    cases hb : decide (4841369599423283200 ≤ rung Ieee.double (cvU v))
    · obtain ⟨k1, k2, k3⟩ := fin_small hf hb
      have e : sineT v = cvN (sinF (cvU v)) := by unfold sineT; rw [hf, if_pos rfl, hb, if_neg (by decide)]
      rw [e]
      rw [g2, hb] at g1
      have h12 := Bool.or_eq_false_iff.1 g1.symm
      have H := Lib.hid (And.intro hs (And.intro h12.1 (And.intro h12.2 (And.intro k2 (And.intro k1 k3)))))
      clear hss hs g1 g2 k1 k2 k3 h12 hn
      go_enter Try.func83, Try.ntmps83
      go_wp2_with (first | (refine wpList_cvU rfl 26 32 _ rfl (Option.isSome_iff_exists.2 ⟨_, Try.underlying26⟩) Try.underlying32 _ rfl _ ?_; intro _ _) | (refine wpList_cvN rfl 32 26 _ rfl (Option.isSome_iff_exists.2 ⟨_, Try.underlying32⟩) Try.underlying26 _ rfl _ (by rw [Fits_pick]; exact Fits_sin H.out.2.2.2.2.2) ?_; intro _ _) | (go_at_call 121; refine (c_l01Sine_ok _ _ _ H.out.2.2.2.1 H.out.2.2.2.2.1 H.out.1 H.out.2.1 H.out.2.2.1).mono ?_; rintro _ _ ⟨_, _, rfl, rfl⟩) | go_in)
      go_ret
      exact ⟨_, _, rfl, rfl⟩
    · have e : sineT v = 0 := by unfold sineT; rw [hf, if_pos rfl, hb, if_pos rfl]
      rw [e]
      rw [g2, hb] at g1
      have H := Lib.hid (And.intro hs g1.symm)
      have hz : cvN 0 = 0 := by decide +kernel
      clear hss hs g1 g2 hn
      go_enter Try.func83, Try.ntmps83
      go_wp2_with (first | (refine wpList_cvU rfl 26 32 _ rfl (Option.isSome_iff_exists.2 ⟨_, Try.underlying26⟩) Try.underlying32 _ rfl _ ?_; intro _ _) | (refine wpList_cvN rfl 32 26 _ rfl (Option.isSome_iff_exists.2 ⟨_, Try.underlying32⟩) Try.underlying26 _ rfl _ (by exact Fits_of_Bd (Bd_const (by decide +kernel))) ?_; intro _ _) | (go_at_call 121; refine (c_l01Sine_big _ _ _ _ H.out.1 H.out.2).mono ?_; rintro _ _ ⟨_, rfl, rfl⟩) | go_in)
      go_ret
      exact ⟨_, _, rfl, rfl⟩
/-! ### l06Cosine -/
theorem c_l06Cosine (v n : Nat) (w : World) (j : Nat) : Calls Try.prog 82 #[.float .f32 (pick .f32 v n)] (w.drewN j) (RetF .f32 (cosT v) w) := by
  unfold cosT
  go_enter Try.func82, Try.ntmps82
  go_wp2_with (first | (first | (refine wpList_fop rfl _ _ _ _ _ rfl _ _ _ rfl rfl (by decide) _ ?_; intro _ _) | (refine upon_fop _ _ _ _ _ (by decide) ?_; intro _ _)) | (go_at_call 83; refine (c_l01Sine _ _ _ _ (fop_lt _ _ _ _)).mono ?_; rintro _ _ ⟨_, _, rfl, rfl⟩))
  go_ret
  exact ⟨_, _, rfl, rfl⟩
theorem c_l06Cosine0 (v n : Nat) (w : World) : Calls Try.prog 82 #[.float .f32 (pick .f32 v n)] w (RetF .f32 (cosT v) w) := by
  have h := c_l06Cosine v n w 0
  rwa [w.drewN_zero] at h
theorem c_l01Sine0 (v n : Nat) (w : World) (hv : v < 2 ^ FloatKind.f32.format.width) : Calls Try.prog 83 #[.float .f32 (pick .f32 v n)] w (RetF .f32 (sineT v) w) := by
  have h := c_l01Sine v n w 0 hv
  rwa [w.drewN_zero] at h
/-! ### l06Way -/
theorem c_l06Way (Wn Hn x y : Nat) (w : World) (hx : x < Wn) (hW : Wn ≤ 16) (hy : y < Hn) (hH : Hn ≤ 16) : Calls Try.prog 59 #[.int .i64 (Wn : Int), .int .i64 (Hn : Int), .int .i64 ((y * Wn + x : Nat) : Int)] w (WayR (wayV (Wn : Int) (Hn : Int) (x : Int) (y : Int)) w) := by
  have ex : (y * Wn + x) % Wn = x := by rw [Nat.add_comm, Nat.add_mul_mod_self_right]; exact Nat.mod_eq_of_lt hx
  have ey : (y * Wn + x) / Wn = y := by rw [Nat.add_comm, Nat.add_mul_div_right _ _ (by omega), Nat.div_eq_of_lt hx]; omega
  generalize hk : y * Wn + x = k at *
  have mt : (k : Int).tmod (Wn : Int) = (x : Int) := by rw [Int.tmod_eq_emod_of_nonneg (by omega), ← Int.natCast_emod, ex]
  have mt2 : (k : Int) % (Wn : Int) = (x : Int) := by rw [← Int.natCast_emod, ex]
  have mq0 : (k : Int).tdiv (Wn : Int) = (y : Int) := by rw [Int.tdiv_eq_ediv_of_nonneg (by omega), ← Int.natCast_ediv, ey]
  have mq2 : (k : Int) / (Wn : Int) = (y : Int) := by rw [← Int.natCast_ediv, ey]
  have mq : IntKind.i64.wrap (y : Int) = (y : Int) := IntWalk.i64_in _ (by omega)
  have mx : IntKind.i64.wrap (x : Int) = (x : Int) := IntWalk.i64_in _ (by omega)
  have m2 : IntKind.i64.wrap (2 * (Hn : Int)) = 2 * (Hn : Int) := IntWalk.i64_in _ (by omega)
  have hzW : ¬ ((Wn : Int) = 0) := by omega
  clear hk ex ey
  unfold wayV wayT atT
  generalize hw0 : w.alloc (Obj.cells #[.float .f32 0, .float .f32 0, .float .f32 0] 36) = w0
  have V0 := Lib.hid (show Var w0 w.heap.size #[.float .f32 0, .float .f32 0, .float .f32 0] from by subst hw0; exact Var.new _ _ _)
  have F0 := Lib.hid (show Free w0 w.heap.size from by subst hw0; exact Free.new _ _ _)
  have B0 := Lib.hid (show Below w.heap.size w w0 from by subst hw0; exact (Below.refl _ _).alloc (Nat.le_refl _) _)
  have HW := Lib.hid hw0
  clear hw0
  obtain ⟨c0, c1, c2⟩ := V0.out.three
  have f0 := F0.out 0
  have f1 := F0.out 1
  have f2 := F0.out 2
  go_enter Try.func59, Try.ntmps59
  go_wp2_with fail
  rw [HW.out]
  refine upon_fop0 _ _ _ _ _ (by decide) ?_
  intro _ _
  go_wp2_with (first | (first | (refine wpList_fop rfl _ _ _ _ _ rfl _ _ _ rfl rfl (by decide) _ ?_; intro _ _) | (refine upon_fop _ _ _ _ _ (by decide) ?_; intro _ _)) | (go_at_call 82; refine (c_l06Cosine _ _ _ _).mono ?_; rintro _ _ ⟨_, _, rfl, rfl⟩) | (go_at_call 83; refine (c_l01Sine _ _ _ _ (fop_lt _ _ _ _)).mono ?_; rintro _ _ ⟨_, _, rfl, rfl⟩))
  refine bodyPost_ret (by simp [results, Try.results59, c0, c1, c2, go_sem]; exact ⟨rfl, rfl, rfl⟩) rfl ⟨_, _, _, rfl, ?_⟩
  repeat (first | exact B0.out | exact Nat.le_refl _ | (refine Below.setCell ?_ ?_ _) | (refine below_drewN ?_ _) | (refine Below.alloc ?_ ?_ _) | (simp <;> omega))
/-! ### l00In -/
theorem c_l00In (x lo hi : Int) (w : World) (j : Nat) : Calls Try.prog 100 #[.int .i64 x, .int .i64 lo, .int .i64 hi] (w.drewN j) (RetV (.bool (decide (lo ≤ x) && decide (x ≤ hi))) w) := by
  by_cases h1 : lo ≤ x
  · by_cases h2 : x ≤ hi
    · have d1 : decide (lo ≤ x) = true := decide_eq_true h1
      have d2 : decide (x ≤ hi) = true := decide_eq_true h2
      go_enter Try.func100, Try.ntmps100
      go_wp2
      go_ret
      exact ⟨_, by simp [*], rfl⟩
    · have d1 : decide (lo ≤ x) = true := decide_eq_true h1
      have d2 : decide (x ≤ hi) = false := decide_eq_false h2
      go_enter Try.func100, Try.ntmps100
      go_wp2
      go_ret
      exact ⟨_, by simp [*], rfl⟩
  · have d1 : decide (lo ≤ x) = false := decide_eq_false h1
    go_enter Try.func100, Try.ntmps100
    go_wp2
    go_ret
    exact ⟨_, by simp [*], rfl⟩
/-! ### l02Sides -/
theorem c_l02Sides (W H : Int) (w : World) (j : Nat) : Calls Try.prog 88 #[.int .i64 W, .int .i64 H] (w.drewN j) (RetV (.bool (sideB W H)) w) := by
  unfold sideB
  cases hw : (decide (1 ≤ W) && decide (W ≤ 16))
  all_goals
    have HW := Lib.hid hw
    go_enter Try.func88, Try.ntmps88
    go_wp2_with (go_at_call 100; refine (c_l00In _ _ _ _ _).mono ?_; rintro _ _ ⟨_, rfl, rfl⟩)
    go_ret
    exact ⟨_, by simp [HW.out], rfl⟩
/-! ### l01Finite -/
theorem c_l01Finite (v n : Nat) (w : World) (j : Nat) : Calls Try.prog 64 #[.float .f32 (pick .f32 v n)] (w.drewN j) (RetV (.bool (finB .f32 v)) w) := by
  go_enter Try.func64, Try.ntmps64
  go_wp2_with (first | (refine wpList_fop rfl _ _ _ _ _ rfl _ _ _ rfl rfl (by decide) _ ?_; intro _ _) | (refine upon_fop _ _ _ _ _ (by decide) ?_; intro _ _))
  go_ret
  rw [← sub_self_zero]
  exact ⟨_, rfl, rfl⟩
/-! ### l02Finite -/
theorem c_l02Finite (a : Option Addr) (len cap : Nat) (zs : List Nat) (w : World) (j0 : Nat) (hr : IsRowF .f32 w a len cap zs) : Calls Try.prog 104 #[.slice a len cap] (w.drewN j0) (RetV (.bool (finL zs)) w) := by
  obtain ⟨h1, h2, h3, h4, h5⟩ := hr
  unfold maxLen at h3
  have H1 := Lib.hid h1
  clear h1
  go_enter Try.func104, Try.ntmps104
  go_wp2
  go_loopw [3] (fun i wr => ∃ k m : Nat, k ≤ len ∧ i = .int .i64 k ∧ wr = w.drewN m ∧ finL (zs.take k) = true) (fun i _ => len - (intOf i).toNat)
  case atStart => exact ⟨0, j0, Nat.zero_le _, rfl, rfl, rfl⟩
  case round =>
    obtain ⟨k, m, hk, rfl, rfl, hfin⟩ := hrel
    have HFin := Lib.hid hfin
    clear hfin
    by_cases hlt : k < len
    · rcases h5 with h5 | ⟨b, off, rfl, hbl, hc⟩
      · omega
      have hcell : w.cell? ⟨b, off + k, none⟩ = some (.float .f32 (fat zs k)) := hc k hlt
      obtain ⟨n, hn⟩ := pick0 .f32 (fat zs k) (lt_of_wf (h4 _ (by unfold fat; rw [List.getD, List.getElem?_eq_getElem (by have := H1.out; omega)]; exact List.getElem_mem _)))
      rw [hn] at hcell
      have HN := Lib.hid hn
      have HS := Lib.hid (finL_snoc zs k (by have := H1.out; omega))
      cases hf : finB .f32 (fat zs k)
      · have HO := Lib.hid (finL_of zs k (by have := H1.out; omega) hf)
        clear hc h4 hn
        go_wp2_with ((go_at_call 64; refine (c_l01Finite _ _ _ _).mono ?_; rintro _ _ ⟨_, rfl, rfl⟩))
        go_ret
        exact ⟨_, by rw [HO.out]; rfl, rfl⟩
      · have HF := Lib.hid hf
        clear hc h4 hn
        go_wp2_with ((go_at_call 64; refine (c_l01Finite _ _ _ _).mono ?_; rintro _ _ ⟨_, rfl, rfl⟩))
        go_roundw
        case rel => exact ⟨k + 1, _, by omega, by go_num, rfl, by rw [HS.out, HFin.out, HF.out]; rfl⟩
        case measure => simp [intOf]; omega
    · have e : zs.take k = zs := List.take_of_length_le (by have := H1.out; omega)
      have HE := Lib.hid e
      clear h5 h4 e
      go_wp2
      go_ret
      exact ⟨_, by have h := HFin.out; rw [HE.out] at h; rw [h]; rfl, rfl⟩
/-! ### l02Is -/
theorem c_l02Is (W H : Int) (b : Nat) (a : Option Addr) (len cap : Nat) (zs : List Nat) (w : World) (j0 : Nat) (hv : Var w b #[.int .i64 W, .int .i64 H, .slice a len cap]) (hr : IsRowF .f32 w a len cap zs) :
    Calls Try.prog 52 #[.pointer (some ⟨b, 0, none⟩)] (w.drewN j0) (RetV (.bool (validB W H zs)) w) := by
  obtain ⟨p0, p1, p2⟩ := hv.three
  have H1 := Lib.hid hr.1
  have HR := Lib.hid hr
  clear hr hv
  cases hs : sideB W H
  · have e : validB W H zs = false := by simp [validB, hs]
    have E := Lib.hid e
    have C1 := Lib.hid (fun n => (by have h := c_l02Sides W H w n; rwa [hs] at h : Calls Try.prog 88 #[.int .i64 W, .int .i64 H] (w.drewN n) (RetV (.bool false) w)))
    clear e hs
    go_enter Try.func52, Try.ntmps52
    go_wp2
    refine wp_region_N (fun f _ u => (f = 88 → u = .bool false)) (by kernel_rfl) (by kernel_rfl) ?_; (repeat (first | ((with_reducible show wpN _ _ _ _ _ (Oper.mk _ (Op.binOp _ _ _ _ _) _ _ _ none :: _) _); refine wpN_fop rfl _ _ _ _ _ rfl _ _ _ rfl rfl (by decide) ?_; intro _) | ((with_reducible show wpN _ _ _ _ _ (Oper.mk _ (Op.convert _ _ _) _ _ _ none :: _) _); refine wpN_cvU rfl 26 32 _ rfl (Option.isSome_iff_exists.2 ⟨_, Try.underlying26⟩) Try.underlying32 _ rfl ?_; intro _) | ((with_reducible show wpN _ _ _ _ _ (Oper.mk _ _ _ _ _ (some _) :: _) _); (with_reducible refine wpN_off ?_ ?_); focus rfl; (simp only [Act.put, List.setIfInBounds_toArray, List.set_cons_zero, List.set_cons_succ])) | ((with_reducible show wpN _ _ _ _ _ (Oper.mk _ _ _ _ _ (some _) :: _) _); ((with_reducible refine wpN_on ?_ (fun K hK => ?_)); (focus rfl); intro _; go_simp; first | (refine uponN_value (hK _ ?_)) | ((refine uponN_call (callN (v := .bool false) (fun _ => rfl) (C1.out _)) ?_; intro u hu; obtain rfl : u = _ := hu rfl; clear hu); refine hK _ ?_)); clear hK K) | (((with_reducible refine wpN_plain rfl (fun K hK => ?_)); intro _; go_simp; first | (refine uponN_value (hK _ ?_)) | ((refine uponN_call (callN (v := .bool false) (fun _ => rfl) (C1.out _)) ?_; intro u hu; obtain rfl : u = _ := hu rfl; clear hu); refine hK _ ?_)); clear hK K) | ((with_reducible refine wpN_step (fun K hK => ?_)); go_simp; first | (refine hK _ ?_) | (intro _; first | (refine uponN_value (hK _ ?_)) | ((refine uponN_call (callN (v := .bool false) (fun _ => rfl) (C1.out _)) ?_; intro u hu; obtain rfl : u = _ := hu rfl; clear hu); refine hK _ ?_)); clear hK K))); refine wpN_nil ?_; intro _
    go_wp2
    go_ret
    exact ⟨_, by rw [E.out]; rfl, rfl⟩
  · obtain ⟨m1, m2⟩ := side_mul hs
    have mw : IntKind.i64.wrap (W * H) = W * H := IntWalk.i64_in _ (by omega)
    have C1 := Lib.hid (fun n => (by have h := c_l02Sides W H w n; rwa [hs] at h : Calls Try.prog 88 #[.int .i64 W, .int .i64 H] (w.drewN n) (RetV (.bool true) w)))
    have C2 := Lib.hid (fun n => c_l02Finite a len cap zs w n HR.out)
    by_cases hl : (len : Int) = W * H
    · have hd : ((len : Int) == W * H) = true := by simpa using hl
      have e : validB W H zs = finL zs := by simp [validB, hs, H1.out, hl]
      have E := Lib.hid e
      have HL := Lib.hid hl
      clear e hs hl
      go_enter Try.func52, Try.ntmps52
      go_wp2
      refine wp_region_N (fun f _ u => (f = 88 → u = .bool true) ∧ (f = 104 → u = .bool (finL zs))) (by kernel_rfl) (by kernel_rfl) ?_; (repeat (first | ((with_reducible show wpN _ _ _ _ _ (Oper.mk _ (Op.binOp _ _ _ _ _) _ _ _ none :: _) _); refine wpN_fop rfl _ _ _ _ _ rfl _ _ _ rfl rfl (by decide) ?_; intro _) | ((with_reducible show wpN _ _ _ _ _ (Oper.mk _ (Op.convert _ _ _) _ _ _ none :: _) _); refine wpN_cvU rfl 26 32 _ rfl (Option.isSome_iff_exists.2 ⟨_, Try.underlying26⟩) Try.underlying32 _ rfl ?_; intro _) | ((with_reducible show wpN _ _ _ _ _ (Oper.mk _ _ _ _ _ (some _) :: _) _); (with_reducible refine wpN_off ?_ ?_); focus rfl; (simp only [Act.put, List.setIfInBounds_toArray, List.set_cons_zero, List.set_cons_succ])) | ((with_reducible show wpN _ _ _ _ _ (Oper.mk _ _ _ _ _ (some _) :: _) _); ((with_reducible refine wpN_on ?_ (fun K hK => ?_)); (focus rfl); intro _; go_simp; first | (refine uponN_value (hK _ ?_)) | ((first | (refine uponN_call (callN (v := .bool true) ⟨fun _ => rfl, fun h => absurd h (by decide)⟩ (C1.out _)) ?_; intro u hu; obtain rfl : u = _ := hu.1 rfl; clear hu) | (refine uponN_call (callN (v := .bool (finL zs)) ⟨fun h => absurd h (by decide), fun _ => rfl⟩ (C2.out _)) ?_; intro u hu; obtain rfl : u = _ := hu.2 rfl; clear hu)); refine hK _ ?_)); clear hK K) | (((with_reducible refine wpN_plain rfl (fun K hK => ?_)); intro _; go_simp; first | (refine uponN_value (hK _ ?_)) | ((first | (refine uponN_call (callN (v := .bool true) ⟨fun _ => rfl, fun h => absurd h (by decide)⟩ (C1.out _)) ?_; intro u hu; obtain rfl : u = _ := hu.1 rfl; clear hu) | (refine uponN_call (callN (v := .bool (finL zs)) ⟨fun h => absurd h (by decide), fun _ => rfl⟩ (C2.out _)) ?_; intro u hu; obtain rfl : u = _ := hu.2 rfl; clear hu)); refine hK _ ?_)); clear hK K) | ((with_reducible refine wpN_step (fun K hK => ?_)); go_simp; first | (refine hK _ ?_) | (intro _; first | (refine uponN_value (hK _ ?_)) | ((first | (refine uponN_call (callN (v := .bool true) ⟨fun _ => rfl, fun h => absurd h (by decide)⟩ (C1.out _)) ?_; intro u hu; obtain rfl : u = _ := hu.1 rfl; clear hu) | (refine uponN_call (callN (v := .bool (finL zs)) ⟨fun h => absurd h (by decide), fun _ => rfl⟩ (C2.out _)) ?_; intro u hu; obtain rfl : u = _ := hu.2 rfl; clear hu)); refine hK _ ?_)); clear hK K))); refine wpN_nil ?_; intro _
      go_wp2
      go_ret
      exact ⟨_, by rw [E.out]; rfl, rfl⟩
    · have hd : ((len : Int) == W * H) = false := by simpa using hl
      have e : validB W H zs = false := by simp [validB, hs, H1.out, hl]
      have E := Lib.hid e
      clear e hs hl
      go_enter Try.func52, Try.ntmps52
      go_wp2
      refine wp_region_N (fun f _ u => (f = 88 → u = .bool true)) (by kernel_rfl) (by kernel_rfl) ?_; (repeat (first | ((with_reducible show wpN _ _ _ _ _ (Oper.mk _ (Op.binOp _ _ _ _ _) _ _ _ none :: _) _); refine wpN_fop rfl _ _ _ _ _ rfl _ _ _ rfl rfl (by decide) ?_; intro _) | ((with_reducible show wpN _ _ _ _ _ (Oper.mk _ (Op.convert _ _ _) _ _ _ none :: _) _); refine wpN_cvU rfl 26 32 _ rfl (Option.isSome_iff_exists.2 ⟨_, Try.underlying26⟩) Try.underlying32 _ rfl ?_; intro _) | ((with_reducible show wpN _ _ _ _ _ (Oper.mk _ _ _ _ _ (some _) :: _) _); (with_reducible refine wpN_off ?_ ?_); focus rfl; (simp only [Act.put, List.setIfInBounds_toArray, List.set_cons_zero, List.set_cons_succ])) | ((with_reducible show wpN _ _ _ _ _ (Oper.mk _ _ _ _ _ (some _) :: _) _); ((with_reducible refine wpN_on ?_ (fun K hK => ?_)); (focus rfl); intro _; go_simp; first | (refine uponN_value (hK _ ?_)) | ((refine uponN_call (callN (v := .bool true) (fun _ => rfl) (C1.out _)) ?_; intro u hu; obtain rfl : u = _ := hu rfl; clear hu); refine hK _ ?_)); clear hK K) | (((with_reducible refine wpN_plain rfl (fun K hK => ?_)); intro _; go_simp; first | (refine uponN_value (hK _ ?_)) | ((refine uponN_call (callN (v := .bool true) (fun _ => rfl) (C1.out _)) ?_; intro u hu; obtain rfl : u = _ := hu rfl; clear hu); refine hK _ ?_)); clear hK K) | ((with_reducible refine wpN_step (fun K hK => ?_)); go_simp; first | (refine hK _ ?_) | (intro _; first | (refine uponN_value (hK _ ?_)) | ((refine uponN_call (callN (v := .bool true) (fun _ => rfl) (C1.out _)) ?_; intro u hu; obtain rfl : u = _ := hu rfl; clear hu); refine hK _ ?_)); clear hK K))); refine wpN_nil ?_; intro _
      go_wp2
      go_ret
      exact ⟨_, by rw [E.out]; rfl, rfl⟩
/-! ### l02Is0 -/
theorem c_l02Is0 (W H : Int) (b : Nat) (a : Option Addr) (len cap : Nat) (zs : List Nat) (w : World) (hv : Var w b #[.int .i64 W, .int .i64 H, .slice a len cap]) (hr : IsRowF .f32 w a len cap zs) :
    Calls Try.prog 52 #[.pointer (some ⟨b, 0, none⟩)] w (RetV (.bool (validB W H zs)) w) := by
  have h := c_l02Is W H b a len cap zs w 0 hv hr
  rwa [w.drewN_zero] at h
/-! ### sBrightestWay -/
theorem c_sBrightestWay (WP HP : Int) (zP : List Nat) (aP : Option Addr) (cP : Nat) (w : World) (rP : IsRowF .f32 w aP zP.length cP zP) : Calls Try.prog 21 #[.agg #[.int .i64 WP, .int .i64 HP, .slice aP zP.length cP]] w (WayF (brightR WP HP zP) w) := by
  have RP := Lib.hid rP
  clear rP
  generalize hw0 : (w.alloc (Obj.cells #[.int .i64 WP, .int .i64 HP, .slice aP zP.length cP] 29)).alloc (Obj.cells #[.float .f32 0, .float .f32 0, .float .f32 0] 36) = w0
  have Vp_0 := Lib.hid (show Var w0 (w.heap.size) #[.int .i64 WP, .int .i64 HP, .slice aP zP.length cP] from by subst hw0; exact ((Var.new' _ _ _ _ (by first | rfl | simp)).alloc _))
  have Vz_0 := Lib.hid (show Var w0 (w.heap.size + 1) #[.float .f32 0, .float .f32 0, .float .f32 0] from by subst hw0; exact (Var.new' _ _ _ _ (by first | rfl | simp)))
  have F_0 := Lib.hid (show Free w0 (w.heap.size + 1) from by subst hw0; exact Free.new' _ _ _ _ (by first | rfl | simp))
  have B_0 := Lib.hid (show Below w.heap.size w w0 from by subst hw0; exact (((Below.refl _ _).alloc (Nat.le_refl _) _).alloc (by simp) _))
  have SZ := Lib.hid (show w0.heap.size = w.heap.size + 2 from by subst hw0; simp)
  have HW := Lib.hid hw0
  clear hw0
  obtain ⟨res, hres⟩ : ∃ q, q = brightR WP HP zP := ⟨_, rfl⟩
  rw [← hres]
  unfold brightR at hres
  have CV := Lib.hid (c_l02Is0 WP HP w.heap.size aP _ cP zP w0 Vp_0.out (RP.out.below B_0.out))
  cases hv : validB WP HP zP
  all_goals rw [hv] at CV hres
  · have RES := Lib.hid (show res = ((0, 0, 0), 0, false) from hres)
    clear hres hv
    obtain ⟨cp0, cp1, cp2⟩ := Vp_0.out.three
    obtain ⟨cz0, cz1, cz2⟩ := Vz_0.out.three
    have f0 := F_0.out 0
    have f1 := F_0.out 1
    have f2 := F_0.out 2
    go_enter Try.func21, Try.ntmps21
    go_wp2_with fail
    rw [HW.out]
    refine CV.out.mono ?_
    rintro _ _ ⟨m0, rfl, rfl⟩
    generalize hw1 : World.drewN w0 _ = w1
    have b : Below w0.heap.size w0 w1 := by subst hw1; exact below_drewN (Below.refl _ _) _
    clear cp0 cp1 cp2 cz0 cz1 cz2 f0 f1 f2
    have Vp_1 := Lib.hid (Vp_0.out.keep b)
    have Vz_1 := Lib.hid (Vz_0.out.keep b)
    have F_1 := Lib.hid (F_0.out.below Vz_0.out.lt b)
    have B_1 := Lib.hid (B_0.out.trans (b.mono B_0.out.size))
    clear Vp_0 Vz_0 F_0 B_0 b hw1
    obtain ⟨cp0, cp1, cp2⟩ := Vp_1.out.three
    obtain ⟨cz0, cz1, cz2⟩ := Vz_1.out.three
    have f0 := F_1.out 0
    have f1 := F_1.out 1
    have f2 := F_1.out 2
    go_wp2_with fail
    rw [RES.out]; refine bodyPost_ret (v := .tuple #[.agg #[.float .f32 0, .float .f32 0, .float .f32 0], .float .f32 0, .bool false]) (by simp [results, Try.results21, cz0, cz1, cz2, go_sem]) rfl (WayF.no rfl ?_)
    repeat (first | exact B_1.out | exact Nat.le_refl _ | (refine Below.setCell ?_ ?_ _) | (refine below_drewN ?_ _) | (refine Below.alloc ?_ ?_ _) | (simp <;> omega))
  · obtain ⟨Wn, Hn, rfl, rfl, hW1, hW2, hH1, hH2⟩ := valid_nat hv
    have hln : zP.length = Wn * Hn := by have h := hv; simp only [validB, Bool.and_eq_true, decide_eq_true_eq] at h; have h2 := h.1.2; rw [← Int.natCast_mul] at h2; omega
    have hnn := valid_notN hv
    have h1l : 1 ≤ zP.length := by rw [hln]; exact Nat.mul_pos hW1 hH1
    obtain ⟨tb, te, tf⟩ := best_tests hnn h1l
    have hbx : bestI zP % Wn < Wn := Nat.mod_lt _ (by omega)
    have hby : bestI zP / Wn < Hn := Nat.div_lt_of_lt_mul (by omega)
    have hbi : bestI zP / Wn * Wn + bestI zP % Wn = bestI zP := by rw [Nat.mul_comm]; exact Nat.div_add_mod _ _
    rw [if_pos rfl, Int.toNat_natCast] at hres
    have RES := Lib.hid hres
    have CW := Lib.hid (fun w => (by have h := c_l06Way Wn Hn (bestI zP % Wn) (bestI zP / Wn) w hbx hW2 hby hH2; rwa [hbi] at h : Calls Try.prog 59 #[.int .i64 (Wn : Int), .int .i64 (Hn : Int), .int .i64 ((bestI zP : Nat) : Int)] w (WayR (wayV (Wn : Int) (Hn : Int) ((bestI zP % Wn : Nat) : Int) ((bestI zP / Wn : Nat) : Int)) w)))
    generalize wayV (Wn : Int) (Hn : Int) ((bestI zP % Wn : Nat) : Int) ((bestI zP / Wn : Nat) : Int) = wv at *
    have mm : IntKind.i64.wrap ((Wn : Int) * (Hn : Int)) = ((Wn * Hn : Nat) : Int) := by rw [← Int.natCast_mul]; have : Wn * Hn ≤ 16 * 16 := Nat.mul_le_mul hW2 hH2; exact IntWalk.i64_in _ (by omega)
    have HLN := Lib.hid hln
    have HM := Lib.hid hnn
    have hn256 : Wn * Hn ≤ 256 := by have : Wn * Hn ≤ 16 * 16 := Nat.mul_le_mul hW2 hH2; omega
    clear hres te tf hbi hbx hby hnn
    have hbI : bestI zP = bestK zP (Wn * Hn) := by unfold bestI; rw [hln]
    have HBI := Lib.hid hbI
    have tb2 : bestI zP < Wn * Hn := by omega
    have h1n : 1 ≤ Wn * Hn := by omega
    have hnl : ∀ k, k < Wn * Hn → k < zP.length := fun k hk => by omega
    have HNL := Lib.hid hnl
    clear hln hv hnl hbI h1l tb
    generalize hN : Wn * Hn = N at *
    clear hN
    obtain ⟨cp0, cp1, cp2⟩ := Vp_0.out.three
    obtain ⟨cz0, cz1, cz2⟩ := Vz_0.out.three
    have f0 := F_0.out 0
    have f1 := F_0.out 1
    have f2 := F_0.out 2
    go_enter Try.func21, Try.ntmps21
    go_wp2_with fail
    rw [HW.out]
    refine CV.out.mono ?_
    rintro _ _ ⟨m0, rfl, rfl⟩
    generalize hw1 : World.drewN w0 _ = w1
    have b : Below w0.heap.size w0 w1 := by subst hw1; exact below_drewN (Below.refl _ _) _
    clear cp0 cp1 cp2 cz0 cz1 cz2 f0 f1 f2
    have Vp_1 := Lib.hid (Vp_0.out.keep b)
    have Vz_1 := Lib.hid (Vz_0.out.keep b)
    have F_1 := Lib.hid (F_0.out.below Vz_0.out.lt b)
    have B_1 := Lib.hid (B_0.out.trans (b.mono B_0.out.size))
    clear Vp_0 Vz_0 F_0 B_0 b hw1
    obtain ⟨cp0, cp1, cp2⟩ := Vp_1.out.three
    obtain ⟨cz0, cz1, cz2⟩ := Vz_1.out.three
    have f0 := F_1.out 0
    have f1 := F_1.out 1
    have f2 := F_1.out 2
    go_wp2_with fail
    clear cp0 cp1 cp2 cz0 cz1 cz2 f0 f1 f2
    go_loopw [5, 6] (fun s i wr => ∃ k : Nat, 1 ≤ k ∧ k ≤ N ∧ s = .int .i64 ((bestK zP k : Nat) : Int) ∧ i = .int .i64 (k : Int) ∧ Below w1.heap.size w1 wr) (fun _ i _ => N - (intOf i).toNat)
    case atStart => exact ⟨1, Nat.le_refl _, h1n, by rw [bestK_one]; rfl, rfl, Below.refl _ _⟩
    case round =>
      obtain ⟨k, hk1, hk2, rfl, rfl, hB⟩ := hrel
      have HB := Lib.hid hB
      clear hB
      obtain ⟨d0, d1, d2⟩ := (Vp_1.out.keep HB.out).three
      have KS := Lib.hid (fun (w' : World) (hE : Below wr.heap.size wr w') => ((Vp_1.out.keep HB.out).keep hE).three)
      have hbl : bestK zP k < N := by have := bestK_lt zP k hk1; omega
      by_cases hlt : k < N
      · obtain ⟨bA, oA, nA, ha, hbA, eA⟩ := ((RP.out.below B_1.out).below HB.out).at (HNL.out k hlt)
        subst ha
        obtain ⟨bB, oB, nB, hab, hbB, eB⟩ := ((RP.out.below B_1.out).below HB.out).at (HNL.out _ hbl)
        cases hab
        have KA := Lib.hid (fun (w' : World) (hE : Below wr.heap.size wr w') => (⟨(hE.cell (p := ⟨bA, oA + k, none⟩) hbA).trans eA, (hE.cell (p := ⟨bA, oA + bestK zP k, none⟩) hbA).trans eB⟩ : _ ∧ _))
        have hkz : k < zP.length := HNL.out k hlt
        have hbz : bestK zP k < zP.length := HNL.out _ hbl
        have HB1 := Lib.hid (show bestK zP (k + 1) = if (FloatKind.f32.format.order (fat zP k) (fat zP (bestK zP k)) == some .gt) = true then k else bestK zP k from rfl)
        have mk : IntKind.i64.wrap ((k : Int) + 1) = ((k + 1 : Nat) : Int) := by rw [show ((k : Int) + 1) = ((k + 1 : Nat) : Int) from by omega]; exact IntWalk.i64_in _ (by omega)
        generalize hK1 : k + 1 = k1 at *
        have hk1N : k1 ≤ N := by omega
        clear eA eB
        generalize bestK zP k = bk at *
        go_wp2_with fail
        clear d0 d1 d2
        refine wp_region_facts 11 (fun a b => Below a.heap.size a b) (fun _ => Below.refl _ _) (fun _ _ _ h h' => h.trans (h'.mono h.size)) (Below.refl _ _).drew (by kernel_rfl) (by kernel_rfl) (by kernel_rfl) (by kernel_rfl) ?_
        simp only [List.take_succ_cons, List.take_zero, List.drop_succ_cons, List.drop_zero]
        (with_reducible apply wpF_val); (focus (intro vs w' hE hk; (obtain ⟨d0, d1, d2⟩ := KS.out w' hE); (obtain ⟨e0, e1⟩ := KA.out w' hE); go_simp; exact ⟨Below.refl _ _, rfl⟩)); (simp only [Act.put, List.setIfInBounds_toArray, List.set_cons_zero, List.set_cons_succ, List.cons_append, List.nil_append])
        (with_reducible apply wpF_val); (focus (intro vs w' hE hk; (obtain ⟨d0, d1, d2⟩ := KS.out w' hE); (obtain ⟨e0, e1⟩ := KA.out w' hE); go_simp; exact ⟨Below.refl _ _, rfl⟩)); (simp only [Act.put, List.setIfInBounds_toArray, List.set_cons_zero, List.set_cons_succ, List.cons_append, List.nil_append])
        (with_reducible apply wpF_val); (focus (intro vs w' hE hk; (obtain ⟨d0, d1, d2⟩ := KS.out w' hE); (obtain ⟨e0, e1⟩ := KA.out w' hE); go_simp; exact ⟨Below.refl _ _, rfl⟩)); (simp only [Act.put, List.setIfInBounds_toArray, List.set_cons_zero, List.set_cons_succ, List.cons_append, List.nil_append])
        (with_reducible apply wpF_val); (focus (intro vs w' hE hk; (obtain ⟨d0, d1, d2⟩ := KS.out w' hE); (obtain ⟨e0, e1⟩ := KA.out w' hE); go_simp; exact ⟨Below.refl _ _, rfl⟩)); (simp only [Act.put, List.setIfInBounds_toArray, List.set_cons_zero, List.set_cons_succ, List.cons_append, List.nil_append])
        (with_reducible apply wpF_val); (focus (intro vs w' hE hk; (obtain ⟨d0, d1, d2⟩ := KS.out w' hE); (obtain ⟨e0, e1⟩ := KA.out w' hE); go_simp; exact ⟨Below.refl _ _, rfl⟩)); (simp only [Act.put, List.setIfInBounds_toArray, List.set_cons_zero, List.set_cons_succ, List.cons_append, List.nil_append])
        (with_reducible apply wpF_val); (focus (intro vs w' hE hk; (obtain ⟨d0, d1, d2⟩ := KS.out w' hE); (obtain ⟨e0, e1⟩ := KA.out w' hE); go_simp; exact ⟨Below.refl _ _, rfl⟩)); (simp only [Act.put, List.setIfInBounds_toArray, List.set_cons_zero, List.set_cons_succ, List.cons_append, List.nil_append])
        (with_reducible apply wpF_val); (focus (intro vs w' hE hk; (obtain ⟨d0, d1, d2⟩ := KS.out w' hE); (obtain ⟨e0, e1⟩ := KA.out w' hE); go_simp; exact ⟨Below.refl _ _, rfl⟩)); (simp only [Act.put, List.setIfInBounds_toArray, List.set_cons_zero, List.set_cons_succ, List.cons_append, List.nil_append])
        (with_reducible apply wpF_val); (focus (intro vs w' hE hk; (obtain ⟨d0, d1, d2⟩ := KS.out w' hE); (obtain ⟨e0, e1⟩ := KA.out w' hE); go_simp; exact ⟨Below.refl _ _, rfl⟩)); (simp only [Act.put, List.setIfInBounds_toArray, List.set_cons_zero, List.set_cons_succ, List.cons_append, List.nil_append])
        (with_reducible apply wpF_val); (focus (intro vs w' hE hk; (obtain ⟨d0, d1, d2⟩ := KS.out w' hE); (obtain ⟨e0, e1⟩ := KA.out w' hE); go_simp; exact ⟨Below.refl _ _, rfl⟩)); (simp only [Act.put, List.setIfInBounds_toArray, List.set_cons_zero, List.set_cons_succ, List.cons_append, List.nil_append])
        (with_reducible apply wpF_val); (focus (intro vs w' hE hk; (obtain ⟨d0, d1, d2⟩ := KS.out w' hE); (obtain ⟨e0, e1⟩ := KA.out w' hE); go_simp; exact ⟨Below.refl _ _, rfl⟩)); (simp only [Act.put, List.setIfInBounds_toArray, List.set_cons_zero, List.set_cons_succ, List.cons_append, List.nil_append])
        (with_reducible apply wpF_val); (focus (intro vs w' hE hk; (obtain ⟨d0, d1, d2⟩ := KS.out w' hE); (obtain ⟨e0, e1⟩ := KA.out w' hE); go_simp; exact ⟨Below.refl _ _, rfl⟩)); (simp only [Act.put, List.setIfInBounds_toArray, List.set_cons_zero, List.set_cons_succ, List.cons_append, List.nil_append])
        refine wpF_nil (fun vs w9 hE hk => ?_)
        have BX := Lib.hid (HB.out.trans (hE.mono HB.out.size))
        clear hE hk KA KS
        obtain ⟨d0, d1, d2⟩ := (Vp_1.out.keep BX.out).three
        cases hgt : (FloatKind.f32.format.order (fat zP k) (fat zP bk) == some .gt)
        · rw [hgt] at HB1
          have HB2 := Lib.hid (HB1.out.trans (if_neg (by decide)))
          go_wp2_with fail
          go_roundw
          case rel => exact ⟨k1, by omega, hk1N, by rw [HB2.out], rfl, BX.out⟩
          case measure => simp [intOf]; omega
        · rw [hgt] at HB1
          have HB2 := Lib.hid (HB1.out.trans (if_pos rfl))
          go_wp2_with fail
          go_roundw
          case rel => exact ⟨k1, by omega, hk1N, by rw [HB2.out], rfl, BX.out⟩
          case measure => simp [intOf]; omega
      · obtain rfl : k = N := by omega
        rw [← HBI.out] at hbl ⊢
        obtain ⟨bB, oB, nB, hab, hbB, eB⟩ := RP.out.at (HNL.out _ hbl)
        subst hab
        have hbz : bestI zP < zP.length := HNL.out _ hbl
        have BW := Lib.hid (B_1.out.trans (HB.out.mono B_1.out.size))
        have eB2 := (BW.out.cell (p := ⟨bB, oB + bestI zP, none⟩) hbB).trans eB
        have hbW : bB < wr.heap.size := Nat.lt_of_lt_of_le hbB BW.out.size
        have VZ := Lib.hid (Vz_1.out.keep HB.out)
        have FZ := Lib.hid (F_1.out.below Vz_1.out.lt HB.out)
        have HZ := Lib.hid (show HasZ (w.heap.size + 1) wr from ⟨_, _, _, VZ.out⟩)
        have zlt : w.heap.size + 1 < wr.heap.size := VZ.out.lt
        have VPr := Lib.hid (Vp_1.out.keep HB.out)
        clear eB HBI HM hlt KS
        generalize bestI zP = bi at *
        have KS := Lib.hid (fun (w' : World) (hE : ZE (w.heap.size + 1) wv wr w') => (⟨(VPr.out.kept hE.g (by simp)).three.1, (VPr.out.kept hE.g (by simp)).three.2.1, (VPr.out.kept hE.g (by simp)).three.2.2, (by rw [World.cell?_of_block (w := wr) (hE.g.block bB hbW (by simp; omega))]; exact eB2)⟩ : _ ∧ _ ∧ _ ∧ w'.cell? ⟨bB, oB + bi, none⟩ = some (.float .f32 (pick .f32 (fat zP bi) nB))))
        clear eB2
        go_wp2_with fail
        clear d0 d1 d2
        refine wp_region_facts 14 (ZE (w.heap.size + 1) wv) ZE.refl ZE.trans (ZE.of_below zlt (Below.refl _ _).drew) (by kernel_rfl) (by kernel_rfl) (by kernel_rfl) (by kernel_rfl) ?_
        simp only [List.take_succ_cons, List.take_zero, List.drop_succ_cons, List.drop_zero]
        (with_reducible apply wpF_val); (focus (intro vs w' hE hk; (obtain ⟨d0, d1, d2, e1⟩ := KS.out w' hE); go_simp; exact ⟨ZE.refl _, rfl⟩)); (simp only [Act.put, List.setIfInBounds_toArray, List.set_cons_zero, List.set_cons_succ, List.cons_append, List.nil_append])
        (with_reducible apply wpF_val); (focus (intro vs w' hE hk; (obtain ⟨d0, d1, d2, e1⟩ := KS.out w' hE); go_simp; exact ⟨ZE.refl _, rfl⟩)); (simp only [Act.put, List.setIfInBounds_toArray, List.set_cons_zero, List.set_cons_succ, List.cons_append, List.nil_append])
        (with_reducible apply wpF_val); (focus (intro vs w' hE hk; (obtain ⟨d0, d1, d2, e1⟩ := KS.out w' hE); go_simp; exact ⟨ZE.refl _, rfl⟩)); (simp only [Act.put, List.setIfInBounds_toArray, List.set_cons_zero, List.set_cons_succ, List.cons_append, List.nil_append])
        (with_reducible apply wpF_val); (focus (intro vs w' hE hk; (obtain ⟨d0, d1, d2, e1⟩ := KS.out w' hE); go_simp; exact ⟨ZE.refl _, rfl⟩)); (simp only [Act.put, List.setIfInBounds_toArray, List.set_cons_zero, List.set_cons_succ, List.cons_append, List.nil_append])
        (with_reducible apply wpF_val); (focus (intro vs w' hE hk; (obtain ⟨d0, d1, d2, e1⟩ := KS.out w' hE); go_simp; exact ⟨ZE.refl _, rfl⟩)); (simp only [Act.put, List.setIfInBounds_toArray, List.set_cons_zero, List.set_cons_succ, List.cons_append, List.nil_append])
        refine wpF_fact (fun u _ => ∃ n m k, u = .agg #[.float .f32 (pick .f32 wv.1 n), .float .f32 (pick .f32 wv.2.1 m), .float .f32 (pick .f32 wv.2.2 k)]) (fun _ _ _ h _ => h) (fun vs w' hE hk => ?_) ?_; (focus (have zl := Nat.lt_of_lt_of_le zlt hE.g.size; (obtain ⟨d0, d1, d2, e1⟩ := KS.out w' hE); go_simp; refine (CW.out _).mono ?_; rintro _ w9 ⟨n9, m9, k9, rfl, b⟩; exact ⟨_, rfl, ZE.of_below zl b, n9, m9, k9, rfl⟩)); (simp only [Act.put, List.setIfInBounds_toArray, List.set_cons_zero, List.set_cons_succ, List.cons_append, List.nil_append])
        (with_reducible apply wpF_val); (focus (intro vs w' hE hk; (obtain ⟨d0, d1, d2, e1⟩ := KS.out w' hE); go_simp; exact ⟨ZE.refl _, rfl⟩)); (simp only [Act.put, List.setIfInBounds_toArray, List.set_cons_zero, List.set_cons_succ, List.cons_append, List.nil_append])
        (with_reducible apply wpF_val); (focus (intro vs w' hE hk; (obtain ⟨d0, d1, d2, e1⟩ := KS.out w' hE); go_simp; exact ⟨ZE.refl _, rfl⟩)); (simp only [Act.put, List.setIfInBounds_toArray, List.set_cons_zero, List.set_cons_succ, List.cons_append, List.nil_append])
        (with_reducible apply wpF_val); (focus (intro vs w' hE hk; (obtain ⟨d0, d1, d2, e1⟩ := KS.out w' hE); go_simp; exact ⟨ZE.refl _, rfl⟩)); (simp only [Act.put, List.setIfInBounds_toArray, List.set_cons_zero, List.set_cons_succ, List.cons_append, List.nil_append])
        (with_reducible apply wpF_val); (focus (intro vs w' hE hk; (obtain ⟨d0, d1, d2, e1⟩ := KS.out w' hE); go_simp; exact ⟨ZE.refl _, rfl⟩)); (simp only [Act.put, List.setIfInBounds_toArray, List.set_cons_zero, List.set_cons_succ, List.cons_append, List.nil_append])
        (with_reducible apply wpF_val); (focus (intro vs w' hE hk; (obtain ⟨d0, d1, d2, e1⟩ := KS.out w' hE); go_simp; exact ⟨ZE.refl _, rfl⟩)); (simp only [Act.put, List.setIfInBounds_toArray, List.set_cons_zero, List.set_cons_succ, List.cons_append, List.nil_append])
        refine wpF_fact (fun _ x => Writ (w.heap.size + 1) wv x) (fun _ _ _ h hE => hE.k h) (fun vs w' hE hk => ?_) ?_; (focus (obtain ⟨n9, m9, k9, h9⟩ := hk 5 (by kernel_rfl); simp only [h9]; have hz := hE.h HZ.out; obtain ⟨x9, y9, u9, V9⟩ := id hz; obtain ⟨cz0, cz1, cz2⟩ := V9.three; have FF := hE.f FZ.out; have f0 := FF 0; have f1 := FF 1; have f2 := FF 2; clear FF; go_simp; exact ZE.store hz)); (simp only [Act.put, List.setIfInBounds_toArray, List.set_cons_zero, List.set_cons_succ, List.cons_append, List.nil_append])
        (with_reducible apply wpF_val); (focus (intro vs w' hE hk; (obtain ⟨d0, d1, d2, e1⟩ := KS.out w' hE); go_simp; exact ⟨ZE.refl _, rfl⟩)); (simp only [Act.put, List.setIfInBounds_toArray, List.set_cons_zero, List.set_cons_succ, List.cons_append, List.nil_append])
        (with_reducible apply wpF_val); (focus (intro vs w' hE hk; (obtain ⟨d0, d1, d2, e1⟩ := KS.out w' hE); go_simp; exact ⟨ZE.refl _, rfl⟩)); (simp only [Act.put, List.setIfInBounds_toArray, List.set_cons_zero, List.set_cons_succ, List.cons_append, List.nil_append])
        refine wpF_nil (fun vs w9 hE hk => ?_)
        obtain ⟨_, _, _, h9⟩ := hk 5
        obtain ⟨n9, m9, k9, V9⟩ := hk 11
        simp only [h9]
        obtain ⟨cz0, cz1, cz2⟩ := V9.three
        have B_9 := Lib.hid (BW.out.grown hE.g (by omega) (fun k e => by cases e; omega))
        clear hE hk h9 V9
        go_wp2_with fail
        rw [RES.out]; refine bodyPost_ret (v := .tuple #[.agg #[.float .f32 (pick .f32 wv.1 n9), .float .f32 (pick .f32 wv.2.1 m9), .float .f32 (pick .f32 wv.2.2 k9)], .float .f32 (pick .f32 (fat zP bi) nB), .bool true]) (by simp [results, Try.results21, cz0, cz1, cz2, go_sem]) rfl ⟨_, _, _, _, rfl, B_9.out⟩
/-! ### index -/
theorem c_Index (zs : List Nat) (a : Option Addr) (cap best v n : Nat) (w : World) (j : Nat) (hr : IsRowF .f32 w a zs.length cap zs) (hb : best < zs.length) (heq : (FloatKind.f32.format.order v (fat zs best) == some .eq) = true) (hne : ∀ i, i < best → (FloatKind.f32.format.order v (fat zs i) == some .eq) = false) : Calls Try.prog 61 #[.slice a zs.length cap, .float .f32 (pick .f32 v n)] (w.drewN j) (RetV (.int .i64 (best : Int)) w) := by
  have R := Lib.hid hr
  have HE := Lib.hid heq
  have HN := Lib.hid hne
  have mA : zs.length ≤ maxLen := Nat.le_trans hr.2.1 hr.2.2.1
  unfold maxLen at mA
  generalize hN : zs.length = N at *
  clear hr heq hne
  go_enter Try.func61, Try.ntmps61
  go_wp2_with fail
  go_loopw [8] (fun i wr => ∃ k : Nat, k ≤ best ∧ i = .int .i64 k ∧ wr = w.drewN j) (fun i _ => best - (intOf i).toNat)
  case atStart => exact ⟨0, Nat.zero_le _, rfl, rfl⟩
  case round =>
    obtain ⟨k, hk, rfl, hw⟩ := hrel
    subst hw
    obtain ⟨bA, oA, nA, rfl, hbA, eA⟩ := R.out.at (show k < N by omega)
    rcases Nat.lt_or_ge k best with hlt | hge
    · have ht := HN.out k hlt
      go_wp2_with fail
      go_roundw
      case rel => exact ⟨k + 1, by omega, by go_num, by first | rfl | trivial⟩
      case measure => simp [intOf]; omega
    · obtain rfl : k = best := by omega
      have ht := HE.out
      go_wp2_with fail
      go_ret
      exact ⟨_, rfl, rfl⟩
/-! ### partOfTurn -/
theorem c_partOfTurn (v : Nat) (w : World) (j : Nat) (hti : floatToIntVal .f64 v .i64 = some (ti v)) : Calls Try.prog 146 #[.float .f64 v] (w.drewN j) (RetF .f64 (partF v) w) := by
  have H := Lib.hid hti
  clear hti
  cases h : (FloatKind.f64.format.order (fop .sub .f64 v (floatOfInt .f64 (ti v))) 0 == some .lt)
  · have e : partF v = fop .sub .f64 v (floatOfInt .f64 (ti v)) := by unfold partF; rw [h, if_neg (by decide)]
    rw [e]
    go_enter Try.func146, Try.ntmps146
    go_wp2_with (first | (first | (refine wpList_fop rfl _ _ _ _ _ rfl _ _ _ rfl rfl (by decide) _ ?_; intro _ _) | (refine upon_fop _ _ _ _ _ (by decide) ?_; intro _ _)) | (refine wpList_ftoi rfl 32 2 _ rfl (Option.isSome_iff_exists.2 ⟨_, Try.underlying32⟩) .i64 Try.underlying2 _ _ rfl (by exact H.out) ?_))
    go_ret
    exact ⟨_, _, rfl, rfl⟩
  · have e : partF v = fop .add .f64 (fop .sub .f64 v (floatOfInt .f64 (ti v))) 4607182418800017408 := by unfold partF; rw [h, if_pos rfl]; rfl
    rw [e]
    go_enter Try.func146, Try.ntmps146
    go_wp2_with (first | (first | (refine wpList_fop rfl _ _ _ _ _ rfl _ _ _ rfl rfl (by decide) _ ?_; intro _ _) | (refine upon_fop _ _ _ _ _ (by decide) ?_; intro _ _)) | (refine wpList_ftoi rfl 32 2 _ rfl (Option.isSome_iff_exists.2 ⟨_, Try.underlying32⟩) .i64 Try.underlying2 _ _ rfl (by exact H.out) ?_))
    go_ret
    exact ⟨_, _, rfl, rfl⟩
/-! ### radians -/

/-! ### sineOf -/
theorem c_sineOf_ff (v f : Nat) (w : World) (j : Nat) (Hti : Hid (floatToIntVal .f64 v .i64 = some (ti v))) (Hf : Hid (partF v = f))
    (hb : (FloatKind.f64.format.order f 4602678819172646912 == some .gt || FloatKind.f64.format.order f 4602678819172646912 == some .eq) = false)
    (hq : (FloatKind.f64.format.order f 4598175219545276416 == some .gt) = false) : Calls Try.prog 134 #[.float .f64 v] (w.drewN j) (RetF .f64 (sinF v) w) := by
  have HF : Hid (sinF v = (sinZ (fop .mul .f64 f 4618760256179416344))) := by
    unfold Hid sinF lowB fold2 half64 quarter64 twopi64; rw [Hf.out, hb]; simp only [if_true, if_false, Bool.false_eq_true, hq]
  go_enter Try.func134, Try.ntmps134
  go_wp2_with (first | (first | (refine wpList_fop rfl _ _ _ _ _ rfl _ _ _ rfl rfl (by decide) _ ?_; intro _ _) | (refine upon_fop _ _ _ _ _ (by decide) ?_; intro _ _)) | (go_at_call 146; refine (c_partOfTurn _ _ _ Hti.out).mono ?_; rw [Hf.out]; rintro _ _ ⟨_, _, rfl, rfl⟩) | go_in)
  generalize hu : fop .mul .f64 (fop .mul .f64 f 4618760256179416344) (fop .mul .f64 f 4618760256179416344) = u
  have Hu := Lib.hid hu
  clear hu
  go_loopw [7, 8] (fun p k wr => ∃ i n m : Nat, i ≤ 8 ∧ p = .float .f64 (pick .f64 (ser u i) n) ∧ k = .float .f64 (kfl i) ∧ wr = w.drewN m) (fun _ k _ => fbits k)
  case atStart => exact ⟨0, 0, _, by omega, by rw [pick_not (show isN .f64 (ser u 0) = false from (by decide +kernel : isN .f64 one64 = false))]; rfl, rfl, rfl⟩
  case round =>
    obtain ⟨i, n, m, hi, rfl, rfl, rfl⟩ := hrel
    by_cases hlt : i < 8
    · have ht := kfl_test i hlt
      unfold one64 at ht
      have HD := Lib.hid (kfl_den i hlt)
      have HN := Lib.hid (kfl_next i hlt)
      have HL := Lib.hid (kfl_lt i hlt)
      go_wp2_with (first | (refine wpList_fop rfl _ _ _ _ _ rfl _ _ _ rfl rfl (by decide) _ ?_; intro _ _) | (refine upon_fop _ _ _ _ _ (by decide) ?_; intro _ _))
      go_roundw
      case rel => exact ⟨i + 1, _, _, by omega, by rw [ser_step, ← HD.out]; rfl, by have e := HN.out; unfold one64 at e; rw [e, pick_not (kfl_notN _)], rfl⟩
      case measure => have e := HN.out; unfold one64 at e; rw [e, pick_not (kfl_notN _)]; exact HL.out
    · obtain rfl : i = 8 := by omega
      have ht := kfl_end
      unfold one64 at ht
      go_wp2_with (first | (refine wpList_fop rfl _ _ _ _ _ rfl _ _ _ rfl rfl (by decide) _ ?_; intro _ _) | (refine upon_fop _ _ _ _ _ (by decide) ?_; intro _ _))
      go_ret
      rw [HF.out]
      unfold sinZ
      rw [Hu.out]
      exact ⟨_, _, rfl, rfl⟩
theorem c_sineOf_ft (v f : Nat) (w : World) (j : Nat) (Hti : Hid (floatToIntVal .f64 v .i64 = some (ti v))) (Hf : Hid (partF v = f))
    (hb : (FloatKind.f64.format.order f 4602678819172646912 == some .gt || FloatKind.f64.format.order f 4602678819172646912 == some .eq) = false)
    (hq : (FloatKind.f64.format.order f 4598175219545276416 == some .gt) = true) : Calls Try.prog 134 #[.float .f64 v] (w.drewN j) (RetF .f64 (sinF v) w) := by
  have HF : Hid (sinF v = (sinZ (fop .mul .f64 (fop .sub .f64 4602678819172646912 f) 4618760256179416344))) := by
    unfold Hid sinF lowB fold2 half64 quarter64 twopi64; rw [Hf.out, hb]; simp only [if_true, if_false, Bool.false_eq_true, hq]
  go_enter Try.func134, Try.ntmps134
  go_wp2_with (first | (first | (refine wpList_fop rfl _ _ _ _ _ rfl _ _ _ rfl rfl (by decide) _ ?_; intro _ _) | (refine upon_fop _ _ _ _ _ (by decide) ?_; intro _ _)) | (go_at_call 146; refine (c_partOfTurn _ _ _ Hti.out).mono ?_; rw [Hf.out]; rintro _ _ ⟨_, _, rfl, rfl⟩) | go_in)
  generalize hu : fop .mul .f64 (fop .mul .f64 (fop .sub .f64 4602678819172646912 f) 4618760256179416344) (fop .mul .f64 (fop .sub .f64 4602678819172646912 f) 4618760256179416344) = u
  have Hu := Lib.hid hu
  clear hu
  go_loopw [7, 8] (fun p k wr => ∃ i n m : Nat, i ≤ 8 ∧ p = .float .f64 (pick .f64 (ser u i) n) ∧ k = .float .f64 (kfl i) ∧ wr = w.drewN m) (fun _ k _ => fbits k)
  case atStart => exact ⟨0, 0, _, by omega, by rw [pick_not (show isN .f64 (ser u 0) = false from (by decide +kernel : isN .f64 one64 = false))]; rfl, rfl, rfl⟩
  case round =>
    obtain ⟨i, n, m, hi, rfl, rfl, rfl⟩ := hrel
    by_cases hlt : i < 8
    · have ht := kfl_test i hlt
      unfold one64 at ht
      have HD := Lib.hid (kfl_den i hlt)
      have HN := Lib.hid (kfl_next i hlt)
      have HL := Lib.hid (kfl_lt i hlt)
      go_wp2_with (first | (refine wpList_fop rfl _ _ _ _ _ rfl _ _ _ rfl rfl (by decide) _ ?_; intro _ _) | (refine upon_fop _ _ _ _ _ (by decide) ?_; intro _ _))
      go_roundw
      case rel => exact ⟨i + 1, _, _, by omega, by rw [ser_step, ← HD.out]; rfl, by have e := HN.out; unfold one64 at e; rw [e, pick_not (kfl_notN _)], rfl⟩
      case measure => have e := HN.out; unfold one64 at e; rw [e, pick_not (kfl_notN _)]; exact HL.out
    · obtain rfl : i = 8 := by omega
      have ht := kfl_end
      unfold one64 at ht
      go_wp2_with (first | (refine wpList_fop rfl _ _ _ _ _ rfl _ _ _ rfl rfl (by decide) _ ?_; intro _ _) | (refine upon_fop _ _ _ _ _ (by decide) ?_; intro _ _))
      go_ret
      rw [HF.out]
      unfold sinZ
      rw [Hu.out]
      exact ⟨_, _, rfl, rfl⟩
theorem c_sineOf_tf (v f : Nat) (w : World) (j : Nat) (Hti : Hid (floatToIntVal .f64 v .i64 = some (ti v))) (Hf : Hid (partF v = f))
    (hb : (FloatKind.f64.format.order f 4602678819172646912 == some .gt || FloatKind.f64.format.order f 4602678819172646912 == some .eq) = true)
    (hq : (FloatKind.f64.format.order (fop .sub .f64 f 4602678819172646912) 4598175219545276416 == some .gt) = false) : Calls Try.prog 134 #[.float .f64 v] (w.drewN j) (RetF .f64 (sinF v) w) := by
  have HF : Hid (sinF v = fneg .f64 (sinZ (fop .mul .f64 (fop .sub .f64 f 4602678819172646912) 4618760256179416344))) := by
    unfold Hid sinF lowB fold2 half64 quarter64 twopi64; rw [Hf.out, hb]; simp only [if_true, if_false, Bool.false_eq_true, hq]
  go_enter Try.func134, Try.ntmps134
  go_wp2_with (first | (first | (refine wpList_fop rfl _ _ _ _ _ rfl _ _ _ rfl rfl (by decide) _ ?_; intro _ _) | (refine upon_fop _ _ _ _ _ (by decide) ?_; intro _ _)) | (go_at_call 146; refine (c_partOfTurn _ _ _ Hti.out).mono ?_; rw [Hf.out]; rintro _ _ ⟨_, _, rfl, rfl⟩) | go_in)
  generalize hu : fop .mul .f64 (fop .mul .f64 (fop .sub .f64 f 4602678819172646912) 4618760256179416344) (fop .mul .f64 (fop .sub .f64 f 4602678819172646912) 4618760256179416344) = u
  have Hu := Lib.hid hu
  clear hu
  go_loopw [7, 8] (fun p k wr => ∃ i n m : Nat, i ≤ 8 ∧ p = .float .f64 (pick .f64 (ser u i) n) ∧ k = .float .f64 (kfl i) ∧ wr = w.drewN m) (fun _ k _ => fbits k)
  case atStart => exact ⟨0, 0, _, by omega, by rw [pick_not (show isN .f64 (ser u 0) = false from (by decide +kernel : isN .f64 one64 = false))]; rfl, rfl, rfl⟩
  case round =>
    obtain ⟨i, n, m, hi, rfl, rfl, rfl⟩ := hrel
    by_cases hlt : i < 8
    · have ht := kfl_test i hlt
      unfold one64 at ht
      have HD := Lib.hid (kfl_den i hlt)
      have HN := Lib.hid (kfl_next i hlt)
      have HL := Lib.hid (kfl_lt i hlt)
      go_wp2_with (first | (refine wpList_fop rfl _ _ _ _ _ rfl _ _ _ rfl rfl (by decide) _ ?_; intro _ _) | (refine upon_fop _ _ _ _ _ (by decide) ?_; intro _ _))
      go_roundw
      case rel => exact ⟨i + 1, _, _, by omega, by rw [ser_step, ← HD.out]; rfl, by have e := HN.out; unfold one64 at e; rw [e, pick_not (kfl_notN _)], rfl⟩
      case measure => have e := HN.out; unfold one64 at e; rw [e, pick_not (kfl_notN _)]; exact HL.out
    · obtain rfl : i = 8 := by omega
      have ht := kfl_end
      unfold one64 at ht
      go_wp2_with (first | (refine wpList_fop rfl _ _ _ _ _ rfl _ _ _ rfl rfl (by decide) _ ?_; intro _ _) | (refine upon_fop _ _ _ _ _ (by decide) ?_; intro _ _))
      go_ret
      rw [HF.out]
      unfold sinZ
      rw [Hu.out]
      exact ⟨_, _, rfl, rfl⟩
theorem c_sineOf_tt (v f : Nat) (w : World) (j : Nat) (Hti : Hid (floatToIntVal .f64 v .i64 = some (ti v))) (Hf : Hid (partF v = f))
    (hb : (FloatKind.f64.format.order f 4602678819172646912 == some .gt || FloatKind.f64.format.order f 4602678819172646912 == some .eq) = true)
    (hq : (FloatKind.f64.format.order (fop .sub .f64 f 4602678819172646912) 4598175219545276416 == some .gt) = true) : Calls Try.prog 134 #[.float .f64 v] (w.drewN j) (RetF .f64 (sinF v) w) := by
  have HF : Hid (sinF v = fneg .f64 (sinZ (fop .mul .f64 (fop .sub .f64 4602678819172646912 (fop .sub .f64 f 4602678819172646912)) 4618760256179416344))) := by
    unfold Hid sinF lowB fold2 half64 quarter64 twopi64; rw [Hf.out, hb]; simp only [if_true, if_false, Bool.false_eq_true, hq]
  go_enter Try.func134, Try.ntmps134
  go_wp2_with (first | (first | (refine wpList_fop rfl _ _ _ _ _ rfl _ _ _ rfl rfl (by decide) _ ?_; intro _ _) | (refine upon_fop _ _ _ _ _ (by decide) ?_; intro _ _)) | (go_at_call 146; refine (c_partOfTurn _ _ _ Hti.out).mono ?_; rw [Hf.out]; rintro _ _ ⟨_, _, rfl, rfl⟩) | go_in)
  generalize hu : fop .mul .f64 (fop .mul .f64 (fop .sub .f64 4602678819172646912 (fop .sub .f64 f 4602678819172646912)) 4618760256179416344) (fop .mul .f64 (fop .sub .f64 4602678819172646912 (fop .sub .f64 f 4602678819172646912)) 4618760256179416344) = u
  have Hu := Lib.hid hu
  clear hu
  go_loopw [7, 8] (fun p k wr => ∃ i n m : Nat, i ≤ 8 ∧ p = .float .f64 (pick .f64 (ser u i) n) ∧ k = .float .f64 (kfl i) ∧ wr = w.drewN m) (fun _ k _ => fbits k)
  case atStart => exact ⟨0, 0, _, by omega, by rw [pick_not (show isN .f64 (ser u 0) = false from (by decide +kernel : isN .f64 one64 = false))]; rfl, rfl, rfl⟩
  case round =>
    obtain ⟨i, n, m, hi, rfl, rfl, rfl⟩ := hrel
    by_cases hlt : i < 8
    · have ht := kfl_test i hlt
      unfold one64 at ht
      have HD := Lib.hid (kfl_den i hlt)
      have HN := Lib.hid (kfl_next i hlt)
      have HL := Lib.hid (kfl_lt i hlt)
      go_wp2_with (first | (refine wpList_fop rfl _ _ _ _ _ rfl _ _ _ rfl rfl (by decide) _ ?_; intro _ _) | (refine upon_fop _ _ _ _ _ (by decide) ?_; intro _ _))
      go_roundw
      case rel => exact ⟨i + 1, _, _, by omega, by rw [ser_step, ← HD.out]; rfl, by have e := HN.out; unfold one64 at e; rw [e, pick_not (kfl_notN _)], rfl⟩
      case measure => have e := HN.out; unfold one64 at e; rw [e, pick_not (kfl_notN _)]; exact HL.out
    · obtain rfl : i = 8 := by omega
      have ht := kfl_end
      unfold one64 at ht
      go_wp2_with (first | (refine wpList_fop rfl _ _ _ _ _ rfl _ _ _ rfl rfl (by decide) _ ?_; intro _ _) | (refine upon_fop _ _ _ _ _ (by decide) ?_; intro _ _))
      go_ret
      rw [HF.out]
      unfold sinZ
      rw [Hu.out]
      exact ⟨_, _, rfl, rfl⟩
/-! ### sineAll -/
theorem c_sineOf (v : Nat) (w : World) (j : Nat) (hti : floatToIntVal .f64 v .i64 = some (ti v)) : Calls Try.prog 134 #[.float .f64 v] (w.drewN j) (RetF .f64 (sinF v) w) := by
  cases hb : (FloatKind.f64.format.order (partF v) 4602678819172646912 == some .gt || FloatKind.f64.format.order (partF v) 4602678819172646912 == some .eq)
  · cases hq : (FloatKind.f64.format.order (partF v) 4598175219545276416 == some .gt)
    · exact c_sineOf_ff v _ w j hti rfl hb hq
    · exact c_sineOf_ft v _ w j hti rfl hb hq
  · cases hq : (FloatKind.f64.format.order (fop .sub .f64 (partF v) 4602678819172646912) 4598175219545276416 == some .gt)
    · exact c_sineOf_tf v _ w j hti rfl hb hq
    · exact c_sineOf_tt v _ w j hti rfl hb hq

/-! ### IsNaN -/
theorem c_IsNaN (v n : Nat) (w : World) (j : Nat) : Calls Try.prog 140 #[.float .f64 (pick .f64 v n)] (w.drewN j) (RetV (.bool (isN .f64 v)) w) := by
  go_enter Try.func140, Try.ntmps140
  go_wp2
  go_ret
  exact ⟨_, rfl, rfl⟩
/-! ### f64bits -/
@[go_sem] theorem e_f64bits (b : Nat) (w : World) : (callFunc 145 #[.float .f64 b]).run Try.prog w = .ok (.value (.int .u64 b)) w := by kernel_rfl
/-! ### Abs -/
theorem c_Abs (v n : Nat) (w : World) (j : Nat) (hv : v < 2 ^ FloatKind.f64.format.width) : Calls Try.prog 132 #[.float .f64 (pick .f64 v n)] (w.drewN j) (RetF .f64 (fabs .f64 v) w) := by
  have hb := abs_bits hv n
  go_enter Try.func132, Try.ntmps132
  go_wp2
  go_ret
  exact ⟨_, _, rfl, rfl⟩
/-! ### IsInf0 -/
theorem c_IsInf0 (v n : Nat) (w : World) (j : Nat) (hv : v < 2 ^ FloatKind.f64.format.width) : Calls Try.prog 141 #[.float .f64 (pick .f64 v n), .int .i64 0] (w.drewN j) (RetV (.bool (FloatKind.f64.format.order (fabs .f64 v) 9218868437227405311 == some .gt)) w) := by
  go_enter Try.func141, Try.ntmps141
  go_wp2_with ((go_at_call 132; refine (c_Abs _ _ _ _ hv).mono ?_; rintro _ _ ⟨_, _, rfl, rfl⟩))
  go_ret
  exact ⟨_, rfl, rfl⟩
/-! ### isFinite64 -/
theorem c_isFinite64 (v n : Nat) (w : World) (j : Nat) (hv : v < 2 ^ FloatKind.f64.format.width) : Calls Try.prog 122 #[.float .f64 (pick .f64 v n)] (w.drewN j) (RetV (.bool (finB .f64 v)) w) := by
  go_enter Try.func122, Try.ntmps122
  go_wp2_with (first | (go_at_call 140; refine (c_IsNaN _ _ _ _).mono ?_; rintro _ _ ⟨_, rfl, rfl⟩) | (go_at_call 141; refine (c_IsInf0 _ _ _ _ hv).mono ?_; rintro _ _ ⟨_, rfl, rfl⟩))
  all_goals
    go_ret
    refine ⟨_, ?_, rfl⟩
    rw [← abs_gt_max]
    simp [*]
/-! ### iIsFinite -/
theorem c_iIsFinite (v n : Nat) (w : World) (j : Nat) : Calls Try.prog 85 #[.float .f32 (pick .f32 v n)] (w.drewN j) (RetV (.bool (finB .f32 v)) w) := by
  go_enter Try.func85, Try.ntmps85
  go_wp2_with (first | (refine wpList_cvU rfl 26 32 _ rfl (Option.isSome_iff_exists.2 ⟨_, Try.underlying26⟩) Try.underlying32 _ rfl _ ?_; intro _ _) | (go_at_call 122; refine (c_isFinite64 _ _ _ _ (cvU_lt _)).mono ?_; rintro _ _ ⟨_, rfl, rfl⟩))
  go_ret
  rw [← finB_cvU]
  exact ⟨_, rfl, rfl⟩
/-! ### f32from -/
@[go_sem] theorem e_f32from (n : Int) (w : World) : (callFunc 143 #[.int .u32 n]).run Try.prog w = .ok (.value (.float .f32 n.toNat)) w := by kernel_rfl
/-! ### notANumber -/
theorem c_notANumber (w : World) (j : Nat) : Calls Try.prog 131 #[] (w.drewN j) (RetV (.float .f32 2143289344) w) := by
  go_enter Try.func131, Try.ntmps131
  go_wp2
  go_ret
  exact ⟨_, rfl, rfl⟩
/-! ### iSineTurns -/
theorem c_NarrowNumber (v n : Nat) (w : World) (j : Nat) (hfit : Fits v) : Calls Try.prog 133 #[.float .f64 (pick .f64 v n)] (w.drewN j) (RetF .f32 (cvN v) w) := by
  have H := Lib.hid hfit
  clear hfit
  go_enter Try.func133, Try.ntmps133
  go_wp2_with ((refine wpList_cvN rfl 32 26 _ rfl (Option.isSome_iff_exists.2 ⟨_, Try.underlying32⟩) Try.underlying26 _ rfl _ (by rw [Fits_pick]; exact H.out) ?_; intro _ _))
  go_ret
  exact ⟨_, _, rfl, rfl⟩
theorem c_iSineTurns (v n : Nat) (w : World) (j : Nat) (hv : v < 2 ^ FloatKind.f32.format.width) : Calls Try.prog 108 #[.float .f32 (pick .f32 v n)] (w.drewN j) (RetF .f32 (sineT v) w) := by
  cases hf : finB .f32 v
  · have e : sineT v = qn .f32 := by unfold sineT; rw [hf, if_neg (by decide)]
    obtain ⟨n0, hn0⟩ := nanOf_onto .f32 2143289344 (by decide +kernel) (by decide +kernel)
    rw [e]
    have H := Lib.hid hn0
    clear hn0
    go_enter Try.func108, Try.ntmps108
    go_wp2_with (first | (go_at_call 85; refine (c_iIsFinite _ _ _ _).mono ?_; rintro _ _ ⟨_, rfl, rfl⟩) | (go_at_call 131; refine (c_notANumber _ _).mono ?_; rintro _ _ ⟨_, rfl, rfl⟩))
    go_ret
    exact ⟨n0, _, by simp only [pick, isN_qn, if_true]; rw [← H.out]; rfl, rfl⟩
  · have hn : isN .f64 (cvU v) = false := by rw [isN_cvU]; exact notN_fin (k := .f32) (of_decide_eq_true hf)
    obtain ⟨g1, g2⟩ := big_abs (cvU v) hn
    clear g1
    have hp := pick_not hn
    cases hb : decide (4841369599423283200 ≤ rung Ieee.double (cvU v))
    · obtain ⟨k1, k2, k3⟩ := fin_small hf hb
      have e : sineT v = cvN (sinF (cvU v)) := by unfold sineT; rw [hf, if_pos rfl, hb, if_neg (by decide)]
      rw [e]
      rw [hb] at g2
      have H := Lib.hid (And.intro k2 k3)
      clear k1 k2 k3 hn
      go_enter Try.func108, Try.ntmps108
      go_wp2_with (first | (refine wpList_cvU rfl 26 32 _ rfl (Option.isSome_iff_exists.2 ⟨_, Try.underlying26⟩) Try.underlying32 _ rfl _ ?_; intro _ _) | (go_at_call 85; refine (c_iIsFinite _ _ _ _).mono ?_; rintro _ _ ⟨_, rfl, rfl⟩) | (go_at_call 132; rw [← hp 0]; refine (c_Abs _ _ _ _ (cvU_lt _)).mono ?_; rintro _ _ ⟨_, _, rfl, rfl⟩) | (go_at_call 134; refine (c_sineOf _ _ _ H.out.1).mono ?_; rintro _ _ ⟨_, _, rfl, rfl⟩) | (go_at_call 133; refine (c_NarrowNumber _ _ _ _ (Fits_sin H.out.2)).mono ?_; rintro _ _ ⟨_, _, rfl, rfl⟩))
      go_ret
      exact ⟨_, _, rfl, rfl⟩
    · have e : sineT v = 0 := by unfold sineT; rw [hf, if_pos rfl, hb, if_pos rfl]
      rw [e]
      rw [hb] at g2
      clear hn
      go_enter Try.func108, Try.ntmps108
      go_wp2_with (first | (refine wpList_cvU rfl 26 32 _ rfl (Option.isSome_iff_exists.2 ⟨_, Try.underlying26⟩) Try.underlying32 _ rfl _ ?_; intro _ _) | (go_at_call 85; refine (c_iIsFinite _ _ _ _).mono ?_; rintro _ _ ⟨_, rfl, rfl⟩) | (go_at_call 132; rw [← hp 0]; refine (c_Abs _ _ _ _ (cvU_lt _)).mono ?_; rintro _ _ ⟨_, _, rfl, rfl⟩))
      go_ret
      exact ⟨0, _, by rw [pick_not (show isN .f32 0 = false by decide +kernel)]; rfl, rfl⟩
/-! ### cosineTurns -/
theorem c_cosineTurns (v n : Nat) (w : World) (j : Nat) : Calls Try.prog 109 #[.float .f32 (pick .f32 v n)] (w.drewN j) (RetF .f32 (cosT v) w) := by
  unfold cosT
  go_enter Try.func109, Try.ntmps109
  go_wp2_with (first | (first | (refine wpList_fop rfl _ _ _ _ _ rfl _ _ _ rfl rfl (by decide) _ ?_; intro _ _) | (refine upon_fop _ _ _ _ _ (by decide) ?_; intro _ _)) | (go_at_call 108; refine (c_iSineTurns _ _ _ _ (fop_lt _ _ _ _)).mono ?_; rintro _ _ ⟨_, _, rfl, rfl⟩))
  go_ret
  exact ⟨_, _, rfl, rfl⟩
/-! ### iWayOfS -/
theorem c_iWayOfS (Wn Hn x y : Nat) (w : World) (hx : x < Wn) (hW : Wn ≤ 16) (hy : y < Hn) (hH : Hn ≤ 16) : Calls Try.prog 63 #[.agg #[.int .i64 (Wn : Int), .int .i64 (Hn : Int)], .int .i64 (x : Int), .int .i64 (y : Int)] w (WayR (wayV (Wn : Int) (Hn : Int) (x : Int) (y : Int)) w) := by
  unfold wayV wayT atT
  have m2 : IntKind.i64.wrap (2 * (Hn : Int)) = 2 * (Hn : Int) := IntWalk.i64_in _ (by omega)
  generalize hw0 : (w.alloc (Obj.cells #[.int .i64 (Wn : Int), .int .i64 (Hn : Int)] 77)).alloc (Obj.cells #[.float .f32 0, .float .f32 0, .float .f32 0] 36) = w0
  have V0 := Lib.hid (show Var w0 w.heap.size #[.int .i64 (Wn : Int), .int .i64 (Hn : Int)] from by subst hw0; exact (Var.new _ _ _).alloc _)
  have Vz := Lib.hid (show Var w0 (w.heap.size + 1) #[.float .f32 0, .float .f32 0, .float .f32 0] from by subst hw0; exact Var.new' _ _ _ _ (by first | rfl | simp))
  have F0 := Lib.hid (show Free w0 (w.heap.size + 1) from by subst hw0; exact Free.new' _ _ _ _ (by first | rfl | simp))
  have B0 := Lib.hid (show Below w.heap.size w w0 from by subst hw0; exact ((Below.refl _ _).alloc (Nat.le_refl _) _).alloc (by simp) _)
  have HW := Lib.hid hw0
  clear hw0
  have KS := Lib.hid (fun (w' : World) (hE : Below w0.heap.size w0 w') => (⟨(V0.out.keep hE).2 0 (by simp), (V0.out.keep hE).2 1 (by simp)⟩ : w'.cell? ⟨w.heap.size, 0, none⟩ = some (.int .i64 (Wn : Int)) ∧ w'.cell? ⟨w.heap.size, 1, none⟩ = some (.int .i64 (Hn : Int))))
  obtain ⟨s0, s1⟩ := KS.out w0 (Below.refl _ _)
  obtain ⟨c0, c1, c2⟩ := Vz.out.three
  have f0 := F0.out 0
  have f1 := F0.out 1
  have f2 := F0.out 2
  go_enter Try.func63, Try.ntmps63
  go_wp2_with fail
  rw [HW.out]
  refine upon_fop0 _ _ _ _ _ (by decide) ?_
  intro _ _
  go_wp2_with (first | (first | (refine wpList_fop rfl _ _ _ _ _ rfl _ _ _ rfl rfl (by decide) _ ?_; intro _ _) | (refine upon_fop _ _ _ _ _ (by decide) ?_; intro _ _)) | (go_at_call 109; refine (c_cosineTurns _ _ _ _).mono ?_; rintro _ _ ⟨_, _, rfl, rfl⟩) | (go_at_call 108; refine (c_iSineTurns _ _ _ _ (fop_lt _ _ _ _)).mono ?_; rintro _ _ ⟨_, _, rfl, rfl⟩))
  refine bodyPost_ret (by simp [results, Try.results63, c0, c1, c2, go_sem]; exact ⟨rfl, rfl, rfl⟩) rfl ⟨_, _, _, rfl, ?_⟩
  repeat (first | exact B0.out | exact Nat.le_refl _ | (refine Below.setCell ?_ ?_ _) | (refine below_drewN ?_ _) | (refine Below.alloc ?_ ?_ _) | (simp <;> omega))
/-! ### sidesOf -/
theorem c_sidesOf (W H : Int) (s : Value) (w : World) : Calls Try.prog 62 #[.agg #[.int .i64 W, .int .i64 H, s]] w (RetB (.agg #[.int .i64 W, .int .i64 H]) w) := by
  go_enter Try.func62, Try.ntmps62
  go_wp2
  exact bodyPost_ret (v := .agg #[.int .i64 W, .int .i64 H]) (by simp [results, Try.results62, go_sem]) rfl ⟨rfl, ((Below.refl _ _).alloc (Nat.le_refl _) _).alloc (by simp) _⟩
/-! ### allowed -/
theorem c_allowed (W H : Int) (w : World) : Calls Try.prog 105 #[.agg #[.int .i64 W, .int .i64 H]] w (RetB (.bool (sideB W H)) w) := by
  unfold sideB
  by_cases h1 : 1 ≤ W
  · by_cases h2 : W ≤ 16
    · by_cases h3 : 1 ≤ H
      · by_cases h4 : H ≤ 16
        all_goals
          go_enter Try.func105, Try.ntmps105
          go_wp2
          go_ret
          exact ⟨by simp [*] <;> (intros; omega), (Below.refl _ _).alloc (Nat.le_refl _) _⟩
      · go_enter Try.func105, Try.ntmps105
        go_wp2
        go_ret
        exact ⟨by simp [*] <;> (intros; omega), (Below.refl _ _).alloc (Nat.le_refl _) _⟩
    · go_enter Try.func105, Try.ntmps105
      go_wp2
      go_ret
      exact ⟨by simp [*] <;> (intros; omega), (Below.refl _ _).alloc (Nat.le_refl _) _⟩
  · go_enter Try.func105, Try.ntmps105
    go_wp2
    go_ret
    exact ⟨by simp [*] <;> (intros; omega), (Below.refl _ _).alloc (Nat.le_refl _) _⟩
/-! ### areFinite -/
theorem c_areFinite (a : Option Addr) (len cap : Nat) (zs : List Nat) (w : World) (j0 : Nat) (hr : IsRowF .f32 w a len cap zs) : Calls Try.prog 81 #[.slice a len cap] (w.drewN j0) (RetV (.bool (finL zs)) w) := by
  obtain ⟨h1, h2, h3, h4, h5⟩ := hr
  unfold maxLen at h3
  have H1 := Lib.hid h1
  clear h1
  go_enter Try.func81, Try.ntmps81
  go_wp2
  go_loopw [4, 7] (fun _ i wr => ∃ k m : Nat, k ≤ len ∧ i = .int .i64 k ∧ wr = w.drewN m ∧ finL (zs.take k) = true) (fun _ i _ => len - (intOf i).toNat)
  case atStart => exact ⟨0, j0, Nat.zero_le _, rfl, rfl, rfl⟩
  case round =>
    obtain ⟨k, m, hk, rfl, rfl, hfin⟩ := hrel
    have HFin := Lib.hid hfin
    clear hfin
    by_cases hlt : k < len
    · rcases h5 with h5 | ⟨b, off, rfl, hbl, hc⟩
      · omega
      have hcell : w.cell? ⟨b, off + k, none⟩ = some (.float .f32 (fat zs k)) := hc k hlt
      obtain ⟨n, hn⟩ := pick0 .f32 (fat zs k) (lt_of_wf (h4 _ (by unfold fat; rw [List.getD, List.getElem?_eq_getElem (by have := H1.out; omega)]; exact List.getElem_mem _)))
      rw [hn] at hcell
      have HS := Lib.hid (finL_snoc zs k (by have := H1.out; omega))
      cases hf : finB .f32 (fat zs k)
      · have HO := Lib.hid (finL_of zs k (by have := H1.out; omega) hf)
        clear hc h4 hn
        go_wp2_with ((go_at_call 85; refine (c_iIsFinite _ _ _ _).mono ?_; rintro _ _ ⟨_, rfl, rfl⟩))
        go_ret
        exact ⟨_, by rw [HO.out]; rfl, rfl⟩
      · have HF := Lib.hid hf
        clear hc h4 hn
        go_wp2_with ((go_at_call 85; refine (c_iIsFinite _ _ _ _).mono ?_; rintro _ _ ⟨_, rfl, rfl⟩))
        go_roundw
        case rel => exact ⟨k + 1, _, by omega, by go_num, rfl, by rw [HS.out, HFin.out, HF.out]; rfl⟩
        case measure => simp [intOf]; omega
    · have e : zs.take k = zs := List.take_of_length_le (by have := H1.out; omega)
      have HE := Lib.hid e
      clear h5 h4 e
      go_wp2
      go_ret
      exact ⟨_, by have h := HFin.out; rw [HE.out] at h; rw [h]; rfl, rfl⟩
/-! ### iValid -/
theorem c_areFinite0 (a : Option Addr) (len cap : Nat) (zs : List Nat) (w : World) (hr : IsRowF .f32 w a len cap zs) : Calls Try.prog 81 #[.slice a len cap] w (RetV (.bool (finL zs)) w) := by
  have h := c_areFinite a len cap zs w 0 hr
  rwa [w.drewN_zero] at h
theorem c_iValid (W H : Int) (a : Option Addr) (len cap : Nat) (zs : List Nat) (w : World) (hr : IsRowF .f32 w a len cap zs) :
    Calls Try.prog 55 #[.agg #[.int .i64 W, .int .i64 H, .slice a len cap]] w (RetB (.bool (validB W H zs)) w) := by
  have H1 := Lib.hid hr.1
  have HR := Lib.hid hr
  clear hr
  have two : ∀ s : Bool, sideB W H = s → (s = true → ∀ t : Bool, ((len : Int) == W * H) = t → (Calls Try.prog 55 #[.agg #[.int .i64 W, .int .i64 H, .slice a len cap]] w (RetB (.bool (validB W H zs)) w))) → (s = false → Calls Try.prog 55 #[.agg #[.int .i64 W, .int .i64 H, .slice a len cap]] w (RetB (.bool (validB W H zs)) w)) → Calls Try.prog 55 #[.agg #[.int .i64 W, .int .i64 H, .slice a len cap]] w (RetB (.bool (validB W H zs)) w) := by
    intro s hs h1 h2
    cases s
    · exact h2 rfl
    · exact h1 rfl _ rfl
  refine two _ rfl ?_ ?_
  · intro hs t ht
    obtain ⟨m1, m2⟩ := side_mul hs
    have mw : IntKind.i64.wrap (W * H) = W * H := IntWalk.i64_in _ (by omega)
    clear two
    cases t
    · have e : validB W H zs = false := by simp at ht; simp [validB, hs, H1.out, ht]
      have E := Lib.hid e
      have HT := Lib.hid hs
      clear e
      go_enter Try.func55, Try.ntmps55
      go_wp2_with fail
      refine (c_sidesOf W H _ _).mono ?_
      rintro _ w1 ⟨rfl, b1⟩
      obtain ⟨p0, p1, p2⟩ := ((Var.new _ _ _).keep b1).three
      have z1 : w.heap.size < w1.heap.size := by have := b1.size; simp at this; omega
      have B1 := Lib.hid (((Below.refl w.heap.size w).alloc (Nat.le_refl _) _).trans (b1.mono (by simp)))
      clear b1
      go_wp2_with fail
      refine (c_allowed W H _).mono ?_
      rintro _ w2 ⟨rfl, b2⟩
      rw [HT.out]
      have q0 := (b2.cell (p := ⟨w.heap.size, 0, none⟩) z1).trans p0
      have q1 := (b2.cell (p := ⟨w.heap.size, 1, none⟩) z1).trans p1
      have q2 := (b2.cell (p := ⟨w.heap.size, 2, none⟩) z1).trans p2
      have B2 := Lib.hid (B1.out.trans (b2.mono (by omega)))
      clear p0 p1 p2 b2 hs
      go_wp2_with fail
      go_ret
      exact ⟨by rw [E.out]; rfl, B2.out⟩
    · have e : validB W H zs = finL zs := by simp at ht; simp [validB, hs, H1.out, ht]
      have E := Lib.hid e
      have HT := Lib.hid hs
      clear e
      go_enter Try.func55, Try.ntmps55
      go_wp2_with fail
      refine (c_sidesOf W H _ _).mono ?_
      rintro _ w1 ⟨rfl, b1⟩
      obtain ⟨p0, p1, p2⟩ := ((Var.new _ _ _).keep b1).three
      have z1 : w.heap.size < w1.heap.size := by have := b1.size; simp at this; omega
      have B1 := Lib.hid (((Below.refl w.heap.size w).alloc (Nat.le_refl _) _).trans (b1.mono (by simp)))
      clear b1
      go_wp2_with fail
      refine (c_allowed W H _).mono ?_
      rintro _ w2 ⟨rfl, b2⟩
      rw [HT.out]
      have q0 := (b2.cell (p := ⟨w.heap.size, 0, none⟩) z1).trans p0
      have q1 := (b2.cell (p := ⟨w.heap.size, 1, none⟩) z1).trans p1
      have q2 := (b2.cell (p := ⟨w.heap.size, 2, none⟩) z1).trans p2
      have B2 := Lib.hid (B1.out.trans (b2.mono (by omega)))
      clear p0 p1 p2 b2 hs
      go_wp2_with fail
      refine (c_areFinite0 a len cap zs _ (HR.out.below B2.out)).mono ?_
      rintro _ w3 ⟨m, rfl, rfl⟩
      rw [← E.out]
      go_wp2_with fail
      go_ret
      exact ⟨rfl, below_drewN B2.out _⟩
  · intro hs
    have e : validB W H zs = false := by simp [validB, hs]
    have E := Lib.hid e
    have HT := Lib.hid hs
    clear e two
    go_enter Try.func55, Try.ntmps55
    go_wp2_with fail
    refine (c_sidesOf W H _ _).mono ?_
    rintro _ w1 ⟨rfl, b1⟩
    have B1 := Lib.hid (((Below.refl w.heap.size w).alloc (Nat.le_refl _) _).trans (b1.mono (by simp)))
    have z1 : w.heap.size < w1.heap.size := by have := b1.size; simp at this; omega
    clear b1
    go_wp2_with fail
    refine (c_allowed W H _).mono ?_
    rintro _ w2 ⟨rfl, b2⟩
    rw [HT.out]
    have B2 := Lib.hid (B1.out.trans (b2.mono (by omega)))
    clear b2 hs
    go_wp2_with fail
    go_ret
    exact ⟨by rw [E.out]; rfl, B2.out⟩
/-! ### iRange -/
theorem c_iRangeOfPicture (W H : Int) (z : List Nat) (a : Option Addr) (c : Nat) (w : World) (r : IsRowF .f32 w a z.length c z) : Calls Try.prog 60 #[.agg #[.int .i64 W, .int .i64 H, .slice a z.length c]] w (RetF2 (rangeR W H z) w) := by
  have mA : z.length ≤ maxLen := Nat.le_trans r.2.1 r.2.2.1
  unfold maxLen at mA
  have R := Lib.hid r
  clear r
  cases hv : validB W H z
  · have e : rangeR W H z = (0, 0, false) := by unfold rangeR; rw [if_neg (by rw [hv]; decide)]
    rw [e]
    have HV := Lib.hid hv
    clear hv
    go_enter Try.func60, Try.ntmps60
    go_wp2_with fail
    refine (c_iValid W H a _ c z _ (R.out.alloc _)).mono ?_
    rintro _ w1 ⟨rfl, b1⟩
    rw [HV.out]
    have B1 := Lib.hid (((Below.refl w.heap.size w).alloc (Nat.le_refl _) _).trans (b1.mono (by simp)))
    clear b1
    go_wp2_with fail
    refine bodyPost_ret (v := .tuple #[.float .f32 0, .float .f32 0, .bool false]) (by simp [results, Try.results60, go_sem]) rfl ⟨0, 0, by simp only [pick00r], B1.out⟩
  · have e : rangeR W H z = (lowK z z.length, highK z z.length, true) := by unfold rangeR; rw [if_pos hv]
    rw [e]
    have hle := some_len hv
    have HV := Lib.hid hv
    clear hv e
    go_enter Try.func60, Try.ntmps60
    go_wp2_with fail
    refine (c_iValid W H a _ c z _ (R.out.alloc _)).mono ?_
    rintro _ w1 ⟨rfl, b1⟩
    rw [HV.out]
    obtain ⟨p0, p1, p2⟩ := ((Var.new _ _ _).keep b1).three
    have B1 := Lib.hid (((Below.refl w.heap.size w).alloc (Nat.le_refl _) _).trans (b1.mono (by simp)))
    clear b1
    have RA := Lib.hid (R.out.below B1.out)
    clear R
    obtain ⟨b0, o0, n0, rfl, hb0, e0⟩ := RA.out.at (k := 0) (by omega)
    rw [Nat.add_zero] at e0
    go_wp2_with fail
    have g1 : 0 < z.length := hle
    have g2 : (0 : Int) < (z.length : Int) := by omega
    rw [← w1.drewN_zero]
    refine wp_region_N (fun _ _ _ => True) (by kernel_rfl) (by kernel_rfl) ?_; (repeat (first | ((with_reducible show wpN _ _ _ _ _ (Oper.mk _ (Op.binOp _ _ _ _ _) _ _ _ none :: _) _); refine wpN_fop rfl _ _ _ _ _ rfl _ _ _ rfl rfl (by decide) ?_; intro _) | ((with_reducible show wpN _ _ _ _ _ (Oper.mk _ (Op.convert _ _ _) _ _ _ none :: _) _); refine wpN_cvU rfl 26 32 _ rfl (Option.isSome_iff_exists.2 ⟨_, Try.underlying26⟩) Try.underlying32 _ rfl ?_; intro _) | ((with_reducible show wpN _ _ _ _ _ (Oper.mk _ _ _ _ _ (some _) :: _) _); (with_reducible refine wpN_off ?_ ?_); focus rfl; (simp only [Act.put, List.setIfInBounds_toArray, List.set_cons_zero, List.set_cons_succ])) | ((with_reducible show wpN _ _ _ _ _ (Oper.mk _ _ _ _ _ (some _) :: _) _); ((with_reducible refine wpN_on ?_ (fun K hK => ?_)); (focus rfl); intro _; go_simp; first | (refine uponN_value (hK _ ?_)) | (fail; refine hK _ ?_)); clear hK K) | (((with_reducible refine wpN_plain rfl (fun K hK => ?_)); intro _; go_simp; first | (refine uponN_value (hK _ ?_)) | (fail; refine hK _ ?_)); clear hK K) | ((with_reducible refine wpN_step (fun K hK => ?_)); go_simp; first | (refine hK _ ?_) | (intro _; first | (refine uponN_value (hK _ ?_)) | (fail; refine hK _ ?_)); clear hK K))); refine wpN_nil ?_; intro _
    clear g1 g2
    go_wp2_with fail
    go_loopw [5, 6, 8, 23] (fun s t _ i wr => ∃ k n m l : Nat, k ≤ z.length ∧ i = .int .i64 k ∧ s = .float .f32 (pick .f32 (lowK z k) n) ∧ t = .float .f32 (pick .f32 (highK z k) m) ∧ wr = w1.drewN l) (fun _ _ _ i _ => z.length - (intOf i).toNat)
    case atStart => exact ⟨0, n0, n0, _, by omega, rfl, rfl, rfl, rfl⟩
    case round =>
      obtain ⟨k, n, m, l, hk, rfl, rfl, rfl, rfl⟩ := hrel
      by_cases hlt : k < z.length
      · obtain ⟨bA, oA, nA, hab, hbA, eA⟩ := RA.out.at hlt
        cases hab
        have HS := Lib.hid (lowK_succ hlt)
        have HT := Lib.hid (highK_succ hlt)
        cases hl : (FloatKind.f32.format.order (fat z k) (lowK z k) == some .lt) <;> cases hh : (FloatKind.f32.format.order (fat z k) (highK z k) == some .gt)
        all_goals
          have HL := Lib.hid hl
          have HH := Lib.hid hh
          clear e0 hbA hb0
          go_wp2_with (first | (refine wpList_fop rfl _ _ _ _ _ rfl _ _ _ rfl rfl (by decide) _ ?_; intro _ _) | (refine upon_fop _ _ _ _ _ (by decide) ?_; intro _ _))
          go_roundw
          case rel => exact ⟨k + 1, _, _, _, by omega, by go_num, by rw [HS.out]; unfold lowF; rw [HL.out]; rfl, by rw [HT.out]; unfold highF; rw [HH.out]; rfl, rfl⟩
          case measure => simp [intOf]; omega
      · obtain rfl : k = z.length := by omega
        clear e0 hb0
        go_wp2
        refine bodyPost_ret (v := .tuple #[.float .f32 (pick .f32 (lowK z z.length) n), .float .f32 (pick .f32 (highK z z.length) m), .bool true]) (by simp [results, Try.results60, go_sem]) rfl ⟨_, _, rfl, below_drewN B1.out _⟩
/-! ### iBrightestWay -/
theorem c_iBrightestWay (WP HP : Int) (zP : List Nat) (aP : Option Addr) (cP : Nat) (w : World) (rP : IsRowF .f32 w aP zP.length cP zP) : Calls Try.prog 22 #[.agg #[.int .i64 WP, .int .i64 HP, .slice aP zP.length cP]] w (WayF (brightR WP HP zP) w) := by
  have RP := Lib.hid rP
  clear rP
  generalize hw0 : (w.alloc (Obj.cells #[.int .i64 WP, .int .i64 HP, .slice aP zP.length cP] 29)).alloc (Obj.cells #[.float .f32 0, .float .f32 0, .float .f32 0] 36) = w0
  have Vp_0 := Lib.hid (show Var w0 (w.heap.size) #[.int .i64 WP, .int .i64 HP, .slice aP zP.length cP] from by subst hw0; exact ((Var.new' _ _ _ _ (by first | rfl | simp)).alloc _))
  have Vz_0 := Lib.hid (show Var w0 (w.heap.size + 1) #[.float .f32 0, .float .f32 0, .float .f32 0] from by subst hw0; exact (Var.new' _ _ _ _ (by first | rfl | simp)))
  have F_0 := Lib.hid (show Free w0 (w.heap.size + 1) from by subst hw0; exact Free.new' _ _ _ _ (by first | rfl | simp))
  have B_0 := Lib.hid (show Below w.heap.size w w0 from by subst hw0; exact (((Below.refl _ _).alloc (Nat.le_refl _) _).alloc (by simp) _))
  have SZ := Lib.hid (show w0.heap.size = w.heap.size + 2 from by subst hw0; simp)
  have HW := Lib.hid hw0
  clear hw0
  obtain ⟨res, hres⟩ : ∃ q, q = brightR WP HP zP := ⟨_, rfl⟩
  rw [← hres]
  unfold brightR at hres
  have CR := Lib.hid (c_iRangeOfPicture WP HP zP aP cP w0 (RP.out.below B_0.out))
  unfold rangeR at CR
  cases hv : validB WP HP zP
  all_goals rw [hv] at CR hres
  · have RES := Lib.hid (show res = ((0, 0, 0), 0, false) from hres)
    clear hres hv
    obtain ⟨cp0, cp1, cp2⟩ := Vp_0.out.three
    obtain ⟨cz0, cz1, cz2⟩ := Vz_0.out.three
    have f0 := F_0.out 0
    have f1 := F_0.out 1
    have f2 := F_0.out 2
    go_enter Try.func22, Try.ntmps22
    go_wp2_with fail
    rw [HW.out]
    go_wp2_with fail
    refine CR.out.mono ?_
    rintro _ w1 ⟨n0, n1, rfl, b⟩
    have Vp_1 := Lib.hid (Vp_0.out.keep b)
    have Vz_1 := Lib.hid (Vz_0.out.keep b)
    have F_1 := Lib.hid (F_0.out.below Vz_0.out.lt b)
    have B_1 := Lib.hid (B_0.out.trans (b.mono B_0.out.size))
    clear cp0 cp1 cp2 cz0 cz1 cz2 f0 f1 f2
    clear Vp_0 Vz_0 F_0 B_0 b
    obtain ⟨cp0, cp1, cp2⟩ := Vp_1.out.three
    obtain ⟨cz0, cz1, cz2⟩ := Vz_1.out.three
    have f0 := F_1.out 0
    have f1 := F_1.out 1
    have f2 := F_1.out 2
    go_wp2_with fail
    rw [RES.out]; refine bodyPost_ret (v := .tuple #[.agg #[.float .f32 0, .float .f32 0, .float .f32 0], .float .f32 0, .bool false]) (by simp [results, Try.results22, cz0, cz1, cz2, go_sem]) rfl (WayF.no rfl ?_)
    repeat (first | exact B_1.out | exact Nat.le_refl _ | (refine Below.setCell ?_ ?_ _) | (refine below_drewN ?_ _) | (refine Below.alloc ?_ ?_ _) | (simp <;> omega))
  · obtain ⟨Wn, Hn, rfl, rfl, hW1, hW2, hH1, hH2⟩ := valid_nat hv
    have hln : zP.length = Wn * Hn := by have h := hv; simp only [validB, Bool.and_eq_true, decide_eq_true_eq] at h; have h2 := h.1.2; rw [← Int.natCast_mul] at h2; omega
    have hnn := valid_notN hv
    have h1l : 1 ≤ zP.length := by rw [hln]; exact Nat.mul_pos hW1 hH1
    obtain ⟨tb, te, tf⟩ := best_tests hnn h1l
    have hbx : bestI zP % Wn < Wn := Nat.mod_lt _ (by omega)
    have hby : bestI zP / Wn < Hn := Nat.div_lt_of_lt_mul (by omega)
    have hbi : bestI zP / Wn * Wn + bestI zP % Wn = bestI zP := by rw [Nat.mul_comm]; exact Nat.div_add_mod _ _
    rw [if_pos rfl, Int.toNat_natCast] at hres
    rw [if_pos rfl] at CR
    have hbest := highK_best (zs := zP) zP.length (Nat.le_refl _)
    rw [show bestK zP zP.length = bestI zP from rfl] at hbest
    rw [hbest] at CR
    have RES := Lib.hid hres
    have CI := Lib.hid (fun w rP n => c_Index zP aP cP (bestI zP) (fat zP (bestI zP)) n w 0 rP tb te tf)
    have CW := Lib.hid (fun w => c_iWayOfS Wn Hn (bestI zP % Wn) (bestI zP / Wn) w hbx hW2 hby hH2)
    generalize wayV (Wn : Int) (Hn : Int) ((bestI zP % Wn : Nat) : Int) ((bestI zP / Wn : Nat) : Int) = wv at *
    have hbN : bestI zP < 1000 := by have : Wn * Hn ≤ 16 * 16 := Nat.mul_le_mul hW2 hH2; omega
    generalize fat zP (bestI zP) = fv at *
    generalize lowK zP zP.length = lv at *
    clear hres te tf hbi hbest hnn hv h1l tb hln
    generalize hX : bestI zP % Wn = X at *
    generalize hY : bestI zP / Wn = Y at *
    generalize bestI zP = bi at *
    have mt : (bi : Int).tmod (Wn : Int) = (X : Int) := by rw [Int.tmod_eq_emod_of_nonneg (by omega), ← Int.natCast_emod, hX]
    have mt2 : (bi : Int) % (Wn : Int) = (X : Int) := by rw [← Int.natCast_emod, hX]
    have mq0 : (bi : Int).tdiv (Wn : Int) = (Y : Int) := by rw [Int.tdiv_eq_ediv_of_nonneg (by omega), ← Int.natCast_ediv, hY]
    have mq2 : (bi : Int) / (Wn : Int) = (Y : Int) := by rw [← Int.natCast_ediv, hY]
    have mq : IntKind.i64.wrap (Y : Int) = (Y : Int) := IntWalk.i64_in _ (by omega)
    have mx : IntKind.i64.wrap (X : Int) = (X : Int) := IntWalk.i64_in _ (by omega)
    have hzW : ¬ ((Wn : Int) = 0) := by omega
    have hzN : ¬ (Wn = 0) := by omega
    have mb : IntKind.i64.wrap (bi : Int) = (bi : Int) := IntWalk.i64_in _ (by omega)
    clear hX hY
    obtain ⟨cp0, cp1, cp2⟩ := Vp_0.out.three
    obtain ⟨cz0, cz1, cz2⟩ := Vz_0.out.three
    have f0 := F_0.out 0
    have f1 := F_0.out 1
    have f2 := F_0.out 2
    go_enter Try.func22, Try.ntmps22
    go_wp2_with fail
    rw [HW.out]
    go_wp2_with fail
    refine CR.out.mono ?_
    rintro _ w1 ⟨n0, n1, rfl, b⟩
    have Vp_1 := Lib.hid (Vp_0.out.keep b)
    have Vz_1 := Lib.hid (Vz_0.out.keep b)
    have F_1 := Lib.hid (F_0.out.below Vz_0.out.lt b)
    have B_1 := Lib.hid (B_0.out.trans (b.mono B_0.out.size))
    clear cp0 cp1 cp2 cz0 cz1 cz2 f0 f1 f2
    clear Vp_0 Vz_0 F_0 B_0 b
    obtain ⟨cp0, cp1, cp2⟩ := Vp_1.out.three
    obtain ⟨cz0, cz1, cz2⟩ := Vz_1.out.three
    have f0 := F_1.out 0
    have f1 := F_1.out 1
    have f2 := F_1.out 2
    go_wp2_with fail
    rw [← w1.drewN_zero]
    refine (CI.out _ (RP.out.below B_1.out) _).mono ?_
    rintro _ _ ⟨m1, rfl, rfl⟩
    generalize hw2 : World.drewN w1 _ = w2
    have b : Below w1.heap.size w1 w2 := by subst hw2; exact below_drewN (Below.refl _ _) _
    clear cp0 cp1 cp2 cz0 cz1 cz2 f0 f1 f2
    have Vp_2 := Lib.hid (Vp_1.out.keep b)
    have Vz_2 := Lib.hid (Vz_1.out.keep b)
    have F_2 := Lib.hid (F_1.out.below Vz_1.out.lt b)
    have B_2 := Lib.hid (B_1.out.trans (b.mono B_1.out.size))
    clear Vp_1 Vz_1 F_1 B_1 b hw2
    obtain ⟨cp0, cp1, cp2⟩ := Vp_2.out.three
    obtain ⟨cz0, cz1, cz2⟩ := Vz_2.out.three
    have f0 := F_2.out 0
    have f1 := F_2.out 1
    have f2 := F_2.out 2
    go_wp2_with fail
    clear cp0 cp1 cp2 cz0 cz1 cz2 f0 f1 f2
    have HZ := Lib.hid (show HasZ (w.heap.size + 1) w2 from ⟨_, _, _, Vz_2.out⟩)
    have FZ := Lib.hid F_2.out
    have zlt : w.heap.size + 1 < w2.heap.size := Vz_2.out.lt
    have KS := Lib.hid (fun (w' : World) (hE : ZE (w.heap.size + 1) wv w2 w') => (Vp_2.out.kept hE.g (by simp)).three)
    refine wp_region_facts 15 (ZE (w.heap.size + 1) wv) ZE.refl ZE.trans (ZE.of_below zlt (Below.refl _ _).drew) (by kernel_rfl) (by kernel_rfl) (by kernel_rfl) (by kernel_rfl) ?_
    simp only [List.take_succ_cons, List.take_zero, List.drop_succ_cons, List.drop_zero]
    (with_reducible apply wpF_val); (focus (intro vs w' hE hk; (obtain ⟨d0, d1, d2⟩ := KS.out w' hE); go_simp; exact ⟨ZE.refl _, rfl⟩)); (simp only [Act.put, List.setIfInBounds_toArray, List.set_cons_zero, List.set_cons_succ, List.cons_append, List.nil_append])
    (with_reducible apply wpF_val); (focus (intro vs w' hE hk; have zl := Nat.lt_of_lt_of_le zlt hE.g.size; (obtain ⟨d0, d1, d2⟩ := KS.out w' hE); go_simp; refine (c_sidesOf _ _ _ _).mono ?_; rintro _ w9 ⟨rfl, b⟩; exact ⟨_, rfl, ZE.of_below zl b, rfl⟩)); (simp only [Act.put, List.setIfInBounds_toArray, List.set_cons_zero, List.set_cons_succ, List.cons_append, List.nil_append])
    (with_reducible apply wpF_val); (focus (intro vs w' hE hk; (obtain ⟨d0, d1, d2⟩ := KS.out w' hE); go_simp; exact ⟨ZE.refl _, rfl⟩)); (simp only [Act.put, List.setIfInBounds_toArray, List.set_cons_zero, List.set_cons_succ, List.cons_append, List.nil_append])
    (with_reducible apply wpF_val); (focus (intro vs w' hE hk; (obtain ⟨d0, d1, d2⟩ := KS.out w' hE); go_simp; exact ⟨ZE.refl _, rfl⟩)); (simp only [Act.put, List.setIfInBounds_toArray, List.set_cons_zero, List.set_cons_succ, List.cons_append, List.nil_append])
    (with_reducible apply wpF_val); (focus (intro vs w' hE hk; (obtain ⟨d0, d1, d2⟩ := KS.out w' hE); go_simp; exact ⟨ZE.refl _, rfl⟩)); (simp only [Act.put, List.setIfInBounds_toArray, List.set_cons_zero, List.set_cons_succ, List.cons_append, List.nil_append])
    (with_reducible apply wpF_val); (focus (intro vs w' hE hk; (obtain ⟨d0, d1, d2⟩ := KS.out w' hE); go_simp; exact ⟨ZE.refl _, rfl⟩)); (simp only [Act.put, List.setIfInBounds_toArray, List.set_cons_zero, List.set_cons_succ, List.cons_append, List.nil_append])
    (with_reducible apply wpF_val); (focus (intro vs w' hE hk; (obtain ⟨d0, d1, d2⟩ := KS.out w' hE); go_simp; exact ⟨ZE.refl _, rfl⟩)); (simp only [Act.put, List.setIfInBounds_toArray, List.set_cons_zero, List.set_cons_succ, List.cons_append, List.nil_append])
    (with_reducible apply wpF_val); (focus (intro vs w' hE hk; (obtain ⟨d0, d1, d2⟩ := KS.out w' hE); go_simp; exact ⟨ZE.refl _, rfl⟩)); (simp only [Act.put, List.setIfInBounds_toArray, List.set_cons_zero, List.set_cons_succ, List.cons_append, List.nil_append])
    (with_reducible apply wpF_val); (focus (intro vs w' hE hk; (obtain ⟨d0, d1, d2⟩ := KS.out w' hE); go_simp; exact ⟨ZE.refl _, rfl⟩)); (simp only [Act.put, List.setIfInBounds_toArray, List.set_cons_zero, List.set_cons_succ, List.cons_append, List.nil_append])
    (with_reducible apply wpF_val); (focus (intro vs w' hE hk; (obtain ⟨d0, d1, d2⟩ := KS.out w' hE); go_simp; exact ⟨ZE.refl _, rfl⟩)); (simp only [Act.put, List.setIfInBounds_toArray, List.set_cons_zero, List.set_cons_succ, List.cons_append, List.nil_append])
    refine wpF_fact (fun u _ => ∃ n m k, u = .agg #[.float .f32 (pick .f32 wv.1 n), .float .f32 (pick .f32 wv.2.1 m), .float .f32 (pick .f32 wv.2.2 k)]) (fun _ _ _ h _ => h) (fun vs w' hE hk => ?_) ?_; (focus (have zl := Nat.lt_of_lt_of_le zlt hE.g.size; (obtain ⟨d0, d1, d2⟩ := KS.out w' hE); go_simp; refine (CW.out _).mono ?_; rintro _ w9 ⟨n9, m9, k9, rfl, b⟩; exact ⟨_, rfl, ZE.of_below zl b, n9, m9, k9, rfl⟩)); (simp only [Act.put, List.setIfInBounds_toArray, List.set_cons_zero, List.set_cons_succ, List.cons_append, List.nil_append])
    (with_reducible apply wpF_val); (focus (intro vs w' hE hk; (obtain ⟨d0, d1, d2⟩ := KS.out w' hE); go_simp; exact ⟨ZE.refl _, rfl⟩)); (simp only [Act.put, List.setIfInBounds_toArray, List.set_cons_zero, List.set_cons_succ, List.cons_append, List.nil_append])
    refine wpF_fact (fun _ x => Writ (w.heap.size + 1) wv x) (fun _ _ _ h hE => hE.k h) (fun vs w' hE hk => ?_) ?_; (focus (obtain ⟨n9, m9, k9, h9⟩ := hk 10 (by kernel_rfl); simp only [h9]; have hz := hE.h HZ.out; obtain ⟨x9, y9, u9, V9⟩ := id hz; obtain ⟨cz0, cz1, cz2⟩ := V9.three; have FF := hE.f FZ.out; have f0 := FF 0; have f1 := FF 1; have f2 := FF 2; clear FF; go_simp; exact ZE.store hz)); (simp only [Act.put, List.setIfInBounds_toArray, List.set_cons_zero, List.set_cons_succ, List.cons_append, List.nil_append])
    (with_reducible apply wpF_val); (focus (intro vs w' hE hk; (obtain ⟨d0, d1, d2⟩ := KS.out w' hE); go_simp; exact ⟨ZE.refl _, rfl⟩)); (simp only [Act.put, List.setIfInBounds_toArray, List.set_cons_zero, List.set_cons_succ, List.cons_append, List.nil_append])
    (with_reducible apply wpF_val); (focus (intro vs w' hE hk; (obtain ⟨d0, d1, d2⟩ := KS.out w' hE); go_simp; exact ⟨ZE.refl _, rfl⟩)); (simp only [Act.put, List.setIfInBounds_toArray, List.set_cons_zero, List.set_cons_succ, List.cons_append, List.nil_append])
    refine wpF_nil (fun vs w9 hE hk => ?_)
    obtain ⟨_, _, _, h9⟩ := hk 10
    obtain ⟨n9, m9, k9, V9⟩ := hk 12
    simp only [h9]
    obtain ⟨cz0, cz1, cz2⟩ := V9.three
    have B_9 := Lib.hid (B_2.out.grown hE.g B_2.out.size (fun k e => by cases e; omega))
    clear hE hk h9 V9
    go_wp2_with fail
    rw [RES.out]; refine bodyPost_ret (v := .tuple #[.agg #[.float .f32 (pick .f32 wv.1 n9), .float .f32 (pick .f32 wv.2.1 m9), .float .f32 (pick .f32 wv.2.2 k9)], .float .f32 (pick .f32 fv n1), .bool true]) (by simp [results, Try.results22, cz0, cz1, cz2, go_sem]) rfl ⟨_, _, _, _, rfl, B_9.out⟩

/-! ### FnExactBrightestWay -/
set_option maxHeartbeats 8000000 in
theorem walkG (WP HP : Int) (zP : List Nat) (aP : Option Addr) (cP : Nat) (w : World) (r : (Nat × Nat × Nat) × Nat × Bool) (cS : ∀ (aP : Option Addr) (cP : Nat) (w : World), IsRowF .f32 w aP zP.length cP zP → Calls Try.prog 21 #[.agg #[.int .i64 WP, .int .i64 HP, .slice aP zP.length cP]] w (WayF r w)) (cI : ∀ (aP : Option Addr) (cP : Nat) (w : World), IsRowF .f32 w aP zP.length cP zP → Calls Try.prog 22 #[.agg #[.int .i64 WP, .int .i64 HP, .slice aP zP.length cP]] w (WayF r w)) (rP : IsRowF .f32 w aP zP.length cP zP) (hl : zP.length ≤ 1048576) : Calls Try.prog 4 #[.agg #[.int .i64 WP, .int .i64 HP, .slice aP zP.length cP]] w fun e w' => e = .returned (.bool true) ∧ Below w.heap.size w w' := by
  have CS := Lib.hid cS
  have CI := Lib.hid cI
  clear cS cI
  have RP := Lib.hid rP
  clear rP
  go_enter Try.func4, Try.ntmps4
  go_wp2_with fail
  refine (c_szP WP HP aP zP.length cP (1048576 : Int) _ (by omega) (by omega)).mono ?_
  rintro _ w1 ⟨rfl, b⟩
  have VpP_1 := Lib.hid ((Var.new' _ _ _ (w.heap.size) (by first | rfl | simp)).keep b)
  have B_1 := Lib.hid (((Below.refl w.heap.size w).alloc (Nat.le_refl _) _).trans (b.mono (by simp)))
  have S_1 : w.heap.size + 1 ≤ w1.heap.size := by have := b.size; simp at this; omega
  have zpP_1 : w.heap.size < w1.heap.size := by omega
  clear b
  have hzP : ¬ (((1048576 : Int) - (zP.length : Int)) < 0) := by omega
  obtain ⟨cpP0, cpP1, cpP2⟩ := VpP_1.out.three
  go_wp2_with fail
  clear cpP0 cpP1 cpP2
  refine (c_toP WP HP aP zP.length cP zP _ (RP.out.below B_1.out) (by omega)).mono ?_
  rintro _ w2 ⟨gt, rfl, b, o⟩
  have Lt := Lib.hid o.in
  have Ot_2 := Lib.hid o
  clear o
  have VpP_2 := Lib.hid (VpP_1.out.keep b)
  have B_2 := Lib.hid (B_1.out.trans (b.mono (by omega)))
  have S_2 : w1.heap.size + 0 ≤ w2.heap.size := by have := b.size; omega
  have zpP_2 : w.heap.size < w2.heap.size := by omega
  clear b
  clear VpP_1 zpP_1 B_1
  go_wp2_with fail
  refine (CS.out _ _ _ Ot_2.out.row).mono ?_
  rintro _ w3 ⟨nu, mu, ku, qu, rfl, b⟩
  have VpP_3 := Lib.hid (VpP_2.out.keep b)
  have Ot_3 := Lib.hid (Ot_2.out.below b)
  have B_3 := Lib.hid (B_2.out.trans (b.mono (by omega)))
  have S_3 : w2.heap.size + 0 ≤ w3.heap.size := by have := b.size; omega
  have zpP_3 : w.heap.size < w3.heap.size := by omega
  clear b
  clear VpP_2 zpP_2 Ot_2 B_2
  clear Ot_3 Lt
  obtain ⟨cpP0, cpP1, cpP2⟩ := VpP_3.out.three
  go_wp2_with fail
  clear cpP0 cpP1 cpP2
  refine (c_toP WP HP aP zP.length cP zP _ ((RP.out.below B_3.out).alloc _) (by omega)).mono ?_
  rintro _ w4 ⟨gxP, rfl, b, o⟩
  have LxP := Lib.hid o.in
  have LxP := Lib.hid (by have h := LxP.out; simp only [World.size_alloc] at h; exact h)
  have OxP_4 := Lib.hid o
  clear o
  have VpP_4 := Lib.hid ((VpP_3.out.alloc _).keep b)
  have Vu_4 := Lib.hid ((Var.new' _ _ _ (w3.heap.size) (by first | rfl | simp)).keep b)
  have B_4 := Lib.hid ((B_3.out.alloc (by omega) _).trans (b.mono (by simp; omega)))
  have S_4 : w3.heap.size + 1 ≤ w4.heap.size := by have := b.size; simp at this; omega
  have zpP_4 : w.heap.size < w4.heap.size := by omega
  have zu_4 : w3.heap.size < w4.heap.size := by omega
  clear b
  clear VpP_3 zpP_3 B_3
  go_wp2_with fail
  refine (CI.out _ _ _ (OxP_4.out.alloc _).row).mono ?_
  rintro _ w5 ⟨ng, mg, kg, qg, rfl, b⟩
  have VpP_5 := Lib.hid ((VpP_4.out.alloc _).keep b)
  have Vu_5 := Lib.hid ((Vu_4.out.alloc _).keep b)
  have VxP_5 := Lib.hid ((Var.new' _ _ _ (w4.heap.size) (by first | rfl | simp)).keep b)
  have OxP_5 := Lib.hid ((OxP_4.out.alloc _).below b)
  have B_5 := Lib.hid ((B_4.out.alloc (by omega) _).trans (b.mono (by simp; omega)))
  have S_5 : w4.heap.size + 1 ≤ w5.heap.size := by have := b.size; simp at this; omega
  have zpP_5 : w.heap.size < w5.heap.size := by omega
  have zu_5 : w3.heap.size < w5.heap.size := by omega
  have zxP_5 : w4.heap.size < w5.heap.size := by omega
  clear b
  clear VpP_4 zpP_4 Vu_4 zu_4 OxP_4 B_4
  obtain ⟨cu0, cu1, cu2⟩ := Vu_5.out.three
  go_wp2_with fail
  clear cu0 cu1 cu2
  refine (c_eqW _ _ _ _ _ _ _ _ _ _).mono ?_
  rintro _ w6 ⟨rfl, b⟩
  have VpP_6 := Lib.hid ((VpP_5.out.alloc _).keep b)
  have Vu_6 := Lib.hid ((Vu_5.out.alloc _).keep b)
  have VxP_6 := Lib.hid ((VxP_5.out.alloc _).keep b)
  have Vg_6 := Lib.hid ((Var.new' _ _ _ (w5.heap.size) (by first | rfl | simp)).keep b)
  have OxP_6 := Lib.hid ((OxP_5.out.alloc _).below b)
  have B_6 := Lib.hid ((B_5.out.alloc (by omega) _).trans (b.mono (by simp; omega)))
  have S_6 : w5.heap.size + 1 ≤ w6.heap.size := by have := b.size; simp at this; omega
  have zpP_6 : w.heap.size < w6.heap.size := by omega
  have zu_6 : w3.heap.size < w6.heap.size := by omega
  have zxP_6 : w4.heap.size < w6.heap.size := by omega
  have zg_6 : w5.heap.size < w6.heap.size := by omega
  clear b
  clear VpP_5 zpP_5 Vu_5 zu_5 VxP_5 zxP_5 OxP_5 B_5
  rw [← w6.drewN_zero]
  go_wp2_with (first | (refine wpList_cvU rfl 26 32 _ rfl (Option.isSome_iff_exists.2 ⟨_, Try.underlying26⟩) Try.underlying32 _ rfl _ ?_; intro _ _) | (refine upon_cvUp _ _ _ _ (Option.isSome_iff_exists.2 ⟨_, Try.underlying26⟩) Try.underlying32 ?_; intro _ _) | (go_at_call 19; refine (c_sameFloat _ _ _ _ _).mono ?_; rintro _ _ ⟨jx, rfl, rfl⟩))
  have b : Below w6.heap.size w6 (w6.drewN jx) := below_drewN (Below.refl _ _) _
  generalize w6.drewN jx = w7 at *
  have VpP_7 := Lib.hid (VpP_6.out.keep b)
  have Vu_7 := Lib.hid (Vu_6.out.keep b)
  have VxP_7 := Lib.hid (VxP_6.out.keep b)
  have Vg_7 := Lib.hid (Vg_6.out.keep b)
  have OxP_7 := Lib.hid (OxP_6.out.below b)
  have B_7 := Lib.hid (B_6.out.trans (b.mono (by omega)))
  have S_7 : w6.heap.size + 0 ≤ w7.heap.size := by have := b.size; omega
  have zpP_7 : w.heap.size < w7.heap.size := by omega
  have zu_7 : w3.heap.size < w7.heap.size := by omega
  have zxP_7 : w4.heap.size < w7.heap.size := by omega
  have zg_7 : w5.heap.size < w7.heap.size := by omega
  clear b
  clear VpP_6 zpP_6 Vu_6 zu_6 VxP_6 zxP_6 Vg_6 zg_6 OxP_6 B_6
  obtain ⟨cpP0, cpP1, cpP2⟩ := VpP_7.out.three
  obtain ⟨cxP0, cxP1, cxP2⟩ := VxP_7.out.three
  try (go_wp2_with fail)
  have D : Below w7.heap.size w7 w7.drew := (Below.refl _ _).drew
  have RD := Lib.hid ((RP.out.below B_7.out).below D)
  have XD := Lib.hid (OxP_7.out.below D)
  have HD := Lib.hid D
  clear D
  go_region_held3 (fun w' => w'.cell? ⟨w.heap.size, 0, none⟩ = some (.int .i64 WP) ∧ w'.cell? ⟨w.heap.size, 1, none⟩ = some (.int .i64 HP) ∧ w'.cell? ⟨w.heap.size, 2, none⟩ = some (.slice aP zP.length cP) ∧ w'.cell? ⟨w4.heap.size, 0, none⟩ = some (.int .i64 WP) ∧ w'.cell? ⟨w4.heap.size, 1, none⟩ = some (.int .i64 HP) ∧ w'.cell? ⟨w4.heap.size, 2, none⟩ = some (.slice (some ⟨gxP, 0, none⟩) zP.length zP.length)) (first | exact ⟨cpP0, cpP1, cpP2, cxP0, cxP1, cxP2⟩ | (have e1 := ((VpP_7.out.keep HD.out).keep b7).three; have e2 := ((VxP_7.out.keep HD.out).keep b7).three; exact ⟨e1.1, e1.2.1, e1.2.2, e2.1, e2.2.1, e2.2.2⟩) | (have e1 := (((VpP_7.out.keep HD.out).keep b7).keep b8).three; have e2 := (((VxP_7.out.keep HD.out).keep b7).keep b8).three; exact ⟨e1.1, e1.2.1, e1.2.2, e2.1, e2.2.1, e2.2.2⟩)) (first | (go_at_call 17; refine (c_toP WP HP aP zP.length cP zP _ RD.out (by omega)).mono ?_; rintro _ wt ⟨g7, rfl, b7, o7⟩) | (go_at_call 20; refine (c_eqP _ _ _ _ _ _ _ _ _ (XD.out.below b7).row o7.row).mono ?_; rintro _ w8 ⟨rfl, b8⟩))
  have b := HD.out.trans (b7.trans (b8.mono b7.size))
  clear RD XD HD b7 b8 o7
  clear cpP0 cpP1 cpP2 cxP0 cxP1 cxP2
  have VpP_8 := Lib.hid (VpP_7.out.keep b)
  have Vu_8 := Lib.hid (Vu_7.out.keep b)
  have VxP_8 := Lib.hid (VxP_7.out.keep b)
  have Vg_8 := Lib.hid (Vg_7.out.keep b)
  have OxP_8 := Lib.hid (OxP_7.out.below b)
  have B_8 := Lib.hid (B_7.out.trans (b.mono (by omega)))
  have S_8 : w7.heap.size + 0 ≤ w8.heap.size := by have := b.size; omega
  have zpP_8 : w.heap.size < w8.heap.size := by omega
  have zu_8 : w3.heap.size < w8.heap.size := by omega
  have zxP_8 : w4.heap.size < w8.heap.size := by omega
  have zg_8 : w5.heap.size < w8.heap.size := by omega
  clear b
  clear VpP_7 zpP_7 Vu_7 zu_7 VxP_7 zxP_7 Vg_7 zg_7 OxP_7 B_7
  go_wp2_with fail
  go_ret
  exact ⟨rfl, B_8.out⟩
theorem walkL0 (WP HP : Int) (zP : List Nat) (aP : Option Addr) (cP : Nat) (w : World) (rP : IsRowF .f32 w aP zP.length cP zP)  (hm : zP.length ≤ maxLen) (hl : 1048576 < zP.length) : Calls Try.prog 4 #[.agg #[.int .i64 WP, .int .i64 HP, .slice aP zP.length cP]] w fun e w' => e = .returned (.bool true) ∧ Below w.heap.size w w' := by
  unfold maxLen at hm
  have RP := Lib.hid rP
  clear rP
  go_enter Try.func4, Try.ntmps4
  go_wp2_with fail
  refine (c_szP_no WP HP aP zP.length cP (1048576 : Int) _ (by omega) (by omega)).mono ?_
  rintro _ w1 ⟨rfl, b⟩
  have VpP_1 := Lib.hid ((Var.new' _ _ _ (w.heap.size) (by first | rfl | simp)).keep b)
  have B_1 := Lib.hid (((Below.refl w.heap.size w).alloc (Nat.le_refl _) _).trans (b.mono (by simp)))
  have S_1 : w.heap.size + 1 ≤ w1.heap.size := by have := b.size; simp at this; omega
  have zpP_1 : w.heap.size < w1.heap.size := by omega
  clear b
  go_wp2_with fail
  go_ret
  exact ⟨rfl, B_1.out⟩
theorem walk (WP HP : Int) (zP : List Nat) (aP : Option Addr) (cP : Nat) (w : World) (rP : IsRowF .f32 w aP zP.length cP zP) : Calls Try.prog 4 #[.agg #[.int .i64 WP, .int .i64 HP, .slice aP zP.length cP]] w fun e w' => e = .returned (.bool true) ∧ Below w.heap.size w w' := by
  have mP : zP.length ≤ maxLen := Nat.le_trans rP.2.1 rP.2.2.1
  by_cases g0 : 1048576 < zP.length
  · exact walkL0 WP HP zP aP cP w rP  mP g0
  exact walkG WP HP zP aP cP w (brightR WP HP zP) (fun aP cP w rP => c_sBrightestWay WP HP zP aP cP w rP ) (fun aP cP w rP => c_iBrightestWay WP HP zP aP cP w rP ) rP (by omega)
theorem own : ownKnob Try.prog.godebug = none := by kernel_rfl
theorem laidOut : laidOutB Try.prog = true := by kernel_rfl
set_option maxRecDepth 100000 in
theorem lifted (os : Os) (started : os.Started) (H : Type) (enc : TypeId × Value → H) :
    ReturnsInHanded {} Try.checked os 4 .any (Rows.fnExactBrightestWaySpec.pre6 enc Try.prog Try.f4 Rows.fnExactBrightestWayRow.domain false) (Rows.fnExactBrightestWaySpec.post enc Try.prog Try.f4 false true false false) := by
  refine returnsInHanded_of_change (C := Try.checked) own started (by kernel_rfl) Try.func4
    (ChangeSpec.witness6 (enc := enc) (C := Try.checked) false ⟨#[], #[.agg #[.int .i64 0, .int .i64 0, .slice none 0 0]], []⟩ 8 (by kernel_rfl) (by kernel_rfl) (by kernel_rfl) (by kernel_rfl)) ?_
  intro W base args ds gs before hval0 hW hcnd _
  have hval : ∀ (j : Nat) t v, Try.f4.params[j]? = some t → args[j]? = some v → Value.okWide Try.prog W .any base t v := hval0
  have hW' := hW
  obtain ⟨p, q, hA0, hV, rfl, hfz, hnd⟩ := hW
  have hA : DataW.TrodAll enc Try.prog W 0 (fun _ => true) true Try.f4.params.toList args.toList ds p := hA0
  rw [Try.params4] at hA hval
  obtain ⟨v0, vs0, d0, ds0, p0, q0, hargs, rfl, rfl, h0, r0⟩ := trodAll_cons hA
  obtain ⟨rfl, rfl, rfl⟩ := trodAll_nil r0
  obtain rfl : args = #[v0] := by cases args; simp_all
  obtain ⟨rfl, rfl⟩ := trodVars_none hV
  have k0 := h0
  have lt0 : ∀ x ∈ p0, x.block < W.heap.size := by obtain ⟨m, hm⟩ := k0; exact DataW.trod_lt m _ _ _ hm
  obtain ⟨W0, H0, z0, a0, c0, rfl, wW0, wH0, w0⟩ := open_pic Try.underlying24 (by kernel_rfl) (by kernel_rfl) Try.underlying2 Try.underlying2 Try.underlying22 Try.underlying26 (by kernel_rfl) (hval 0 24 v0 rfl rfl) h0
  clear hA0 hval0
  have hw0 : Calls Try.prog 4 #[.agg #[.int .i64 W0, .int .i64 H0, .slice a0 z0.length c0]] W fun e w' => e = .returned (.bool true) ∧ Below W.heap.size W w' := by
    exact walk W0 H0 z0 a0 c0 W w0
  refine hw0.mono fun e W' ⟨he, bel⟩ => ?_
  subst he
  exact ⟨_, rfl, _, _, _, [], _, [], hW', trodAll_mk1 (shut_bool Try.underlying4 _), (trodAll_cons_mk (Below.trod laidOut (by kernel_rfl) (of_decide_eq_true (by kernel_rfl)) k0 bel lt0) trodAll_mk0), rfl, bel.frame _, fun h => by cases h⟩

theorem over : Rows.fnExactBrightestWayRow.holds Try.pinned (OpenSpec.ofChange Rows.fnExactBrightestWaySpec) :=
  OpenClaim.holds_of_wide 4 Try.f4 rfl rfl rfl rfl rfl rfl rfl ⟨rfl, rfl, rfl, rfl, rfl⟩ rfl rfl rfl rfl rfl (by kernel_rfl) Try.func4 (by kernel_rfl)
    (of_decide_eq_true (by kernel_rfl)) (by unfold Func.isWrapper; first | (rw [if_pos (by decide +kernel)]; kernel_rfl) | (rw [if_neg (by decide +kernel)]; exact ⟨rfl, rfl⟩))
    (fun os started H enc _ => lifted os started H enc)

theorem proved : Rows.FnExactBrightestWaySaid := over
#print axioms proved

end Go.Proofs.Ytmngedfibmnohab.fnExactBrightestWay

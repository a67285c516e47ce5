/-
  FnExactDirectLight: for every input this law of the program returns true, and each argument reads as before. No condition.
-/
import Derived.Test.YtmngedfibmnohabRows
import Derived.Test.YtmngedfibmnohabRow
import Derived.Test.YtmngedfibmnohabMn
import Derived.Test.YtmngedfibmnohabAp
import Derived.ProofKit
import Derived.OpenShut
import Derived.ShutString
import Derived.ChangeOld
import Derived.Below
import Derived.Lib.Hide
import Derived.Outline
import Derived.Deep.RegionHeld3
import Derived.Deep.DeepCutAuto
set_option linter.unusedSimpArgs false
set_option linter.unusedVariables false
set_option exponentiation.threshold 2000
set_option maxRecDepth 20000
set_option maxHeartbeats 4000000
namespace Go.Proofs.Ytmngedfibmnohab.fnExactDirectLight
open Go Go.Proofs.Ytmngedfibmnohab Go.Proofs
open Go.ChangeShapes Go.WideShapes Go.ChangeAt Go.RowKit
open Go.ChangeMaps (open_string shut_string)
/-! ### szPicture -/
theorem c_szF (a : Option Addr) (len cap : Nat) (L : Int) (w : World) (h : (len : Int) ≤ L) (hL : L ≤ 1048576) : Calls Try.prog 51 #[.slice a len cap, .int .i64 L] w (fun e w' => e = .returned (.int .i64 (L - (len : Int))) ∧ w' = w) := by
  have h' : ¬ (L - (len : Int) < 0) := by omega
  go_enter Try.func51, Try.ntmps51
  go_wp2
  go_ret
  exact ⟨rfl, rfl⟩
theorem c_szF_no (a : Option Addr) (len cap : Nat) (L : Int) (w : World) (h : L < len) (hL : 0 ≤ L) (hm : len ≤ 9223372036854775807) : Calls Try.prog 51 #[.slice a len cap, .int .i64 L] w (fun e w' => e = .returned (.int .i64 (-1)) ∧ w' = w) := by
  have h' : L - (len : Int) < 0 := by omega
  go_enter Try.func51, Try.ntmps51
  go_wp2
  go_ret
  exact ⟨rfl, rfl⟩
theorem c_szP (W H : Int) (a : Option Addr) (len cap : Nat) (L : Int) (w : World) (h : (len : Int) ≤ L) (hL : L ≤ 1048576) : Calls Try.prog 15 #[.agg #[.int .i64 W, .int .i64 H, .slice a len cap], .int .i64 L] w (RetB (.int .i64 (L - (len : Int))) w) := by
  have h' : ¬ (L - (len : Int) < 0) := by omega
  go_enter Try.func15, Try.ntmps15
  go_wp2_with (go_at_call 51; refine (c_szF a len cap L _ h hL).mono ?_; rintro _ _ ⟨rfl, rfl⟩)
  go_ret
  exact ⟨rfl, (Below.refl _ _).alloc (Nat.le_refl _) _⟩
theorem c_szP_no (W H : Int) (a : Option Addr) (len cap : Nat) (L : Int) (w : World) (h : L < len) (hL : 0 ≤ L ∧ len ≤ 9223372036854775807) : Calls Try.prog 15 #[.agg #[.int .i64 W, .int .i64 H, .slice a len cap], .int .i64 L] w (RetB (.int .i64 (-1)) w) := by
  go_enter Try.func15, Try.ntmps15
  go_wp2_with (go_at_call 51; refine (c_szF_no a len cap L _ h hL.1 hL.2).mono ?_; rintro _ _ ⟨rfl, rfl⟩)
  go_ret
  exact ⟨rfl, (Below.refl _ _).alloc (Nat.le_refl _) _⟩
/-! ### toOwn -/
theorem infoFo : (Try.prog.info? 26).map (fun i => (i.zero, i.size, i.bytes)) = some (some (.float .f32 0), 1, 4) := by kernel_rfl
theorem c_toO (a : Option Addr) (len cap : Nat) (zs : List Nat) (w : World) (hr : IsRowF .f32 w a len cap zs) (hl : len ≤ 1048576) : Calls Try.prog 39 #[.slice a len cap] w (NewO 26 len zs w) := by
  obtain ⟨i0, hi, hz0, hz1, hz2⟩ := info_parts infoFo
  obtain ⟨h1, h2, h3, h4, h5⟩ := hr
  go_enter Try.func39, Try.ntmps39
  go_wp2_with (at_make; refine wpList_make_full _ rfl _ _ 22 rfl w.heap.size 26 i0 (.float .f32 0) 1 Try.underlying22 hi hz0 hz1 _ _ _ _ len rfl rfl rfl rfl (by rw [hz2]; omega) (by unfold maxLen; omega) (by simp) ?_; intro w1 hown hgrow)
  have hblk := block_of_owns hown
  have e0 : (madeCells (Value.float FloatKind.f32 0).cells (len * 1)).toList = List.replicate len (.float .f32 0) := by rw [Nat.mul_one]; exact made_zeros _ _
  rw [e0] at hblk
  have hbel : Below w.heap.size w w1 := (Below.refl _ _).grown hgrow (Nat.le_refl _) (by simp)
  have HB := Lib.hid hblk
  clear hown hgrow hblk e0 hz0 hz1 hz2
  go_loopw [4] (fun i wr => ∃ j : Nat, j ≤ len ∧ i = .int .i64 j ∧ Below w.heap.size w wr ∧ wr.heap[w.heap.size]? = some (.cells (fl .f32 (zs.take j) ++ List.replicate (zs.length - j) (Value.float .f32 0)).toArray 26 (0, 0))) (fun i _ => len - (intOf i).toNat)
  case atStart => exact ⟨0, Nat.zero_le _, rfl, hbel, by rw [HB.out, h1]; rfl⟩
  case round =>
    obtain ⟨j, hj, rfl, hb, hblk⟩ := hrel
    have Hblk := Lib.hid hblk
    clear hblk
    by_cases hlt : j < len
    · rcases h5 with h5 | ⟨b, off, rfl, hbl, hc⟩
      · omega
      have hcell : wr.cell? ⟨b, off + j, none⟩ = some (.float .f32 (fat zs j)) := by rw [hb.cell (p := ⟨b, off + j, none⟩) hbl]; exact hc j hlt
      have hold : wr.cell? ⟨w.heap.size, j, none⟩ = some (.float .f32 0) := by
        rw [cell_of_block Hblk.out, List.getElem?_append_right (by simp [fl]; omega)]
        have e : (fl FloatKind.f32 (List.take j zs)).length = j := by simp [fl]; omega
        rw [e, Nat.sub_self, List.getElem?_replicate, if_pos (by omega)]
      have hfz : wr.frozen? ⟨w.heap.size, j, none⟩ = false := frozen_of_block Hblk.out j
      have hset := block_set Hblk.out j (.float .f32 (fat zs j))
      rw [set_step zs _ j (by omega)] at hset
      have Hset := Lib.hid hset
      clear hset hc
      go_wp2
      go_roundw
      case rel => exact ⟨j + 1, by omega, by go_num, hb.setCell (Nat.le_refl _) _, Hset.out⟩
      case measure => simp [intOf]; omega
    · obtain rfl : j = len := by omega
      have e1 : fl .f32 (zs.take j) ++ List.replicate (zs.length - j) (Value.float .f32 0) = fl .f32 zs := by rw [h1, Nat.sub_self, List.replicate_zero, List.append_nil, List.take_of_length_le (by omega)]
      have hblk2 := Hblk.out
      rw [e1] at hblk2
      have hown : Own 26 wr w.heap.size (some ⟨w.heap.size, 0, none⟩) j j zs :=
        ⟨h1, ⟨by simp [fl, h1], .inr ⟨w.heap.size, j, _, rfl, Nat.le_refl _, hblk2, Nat.le_refl _, by unfold maxLen; omega, by simp [fl, h1], by rw [List.take_of_length_le (by simp [fl, h1])]⟩⟩, h4⟩
      have HO := Lib.hid hown
      clear hown hblk2 e1
      go_wp2
      go_ret
      exact ⟨w.heap.size, rfl, hb, HO.out⟩
/-! ### toPicture -/
theorem c_toP (W H : Int) (a : Option Addr) (len cap : Nat) (zs : List Nat) (w : World) (hr : IsRowF .f32 w a len cap zs) (hl : len ≤ 1048576) : Calls Try.prog 17 #[.agg #[.int .i64 W, .int .i64 H, .slice a len cap]] w (NewP 26 W H zs w) := by
  have HR := Lib.hid hr
  have HL := Lib.hid hr.1
  clear hr
  go_enter Try.func17, Try.ntmps17
  go_wp2_with fail
  refine (c_toO a len cap zs _ (HR.out.below ((((Below.refl _ _).alloc (Nat.le_refl _) _).alloc (by simp) _).alloc (by simp; omega) _)) hl).mono ?_
  rintro _ w1 ⟨g, rfl, hb, hown⟩
  obtain ⟨hc, hf⟩ := bcell hb
  have hz : w.heap.size + 1 + 1 < w1.heap.size := by have := hb.size; simp at this; omega
  have hg' : w.heap.size + 1 + 1 < g := by have := hown.lt.1; simp at this; omega
  have HB := Lib.hid hb
  have HO := Lib.hid hown
  clear hb hown
  go_wp2_with fail
  refine bodyPost_ret (v := .agg #[.int .i64 W, .int .i64 H, .slice (some ⟨g, 0, none⟩) len len]) (by simp [results, Try.results17, hc, hz, go_sem]) rfl ⟨g, by rw [HL.out], ?_, ?_⟩
  · exact ((((((((Below.refl _ _).alloc (Nat.le_refl _) _).alloc (by simp) _).alloc (by simp; omega) _).trans (HB.out.mono (by simp; omega))).setCell (by simp; omega) _).setCell (by simp) _).setCell (by simp) _).setCell (by simp) _
  · rw [HL.out]
    exact ((((HO.out.setCell (by simp [blk]; omega) _).setCell (by simp [blk]; omega) _).setCell (by simp [blk]; omega) _).setCell (by simp [blk]; omega) _).mono (by simp; omega)
/-! ### sameFloat -/
theorem c_sameFloat (v n m : Nat) (w : World) (j : Nat) : Calls Try.prog 19 #[.float .f64 (pick .f64 v n), .float .f64 (pick .f64 v m)] (w.drewN j) (RetV (.bool true) w) := by
  have hs := self_ne .f64 v
  have ht := self_eq .f64 v
  cases h : isN .f64 v
  · rw [h] at hs ht
    cases h2 : (FloatKind.f64.format.order v 0 == some .eq)
    · go_enter Try.func19, Try.ntmps19
      go_wp2_with (first | (refine wpList_fop rfl _ _ _ _ _ rfl _ _ _ rfl rfl (by decide) _ ?_; intro _ _) | (refine upon_fop _ _ _ _ _ (by decide) ?_; intro _ _))
      go_ret
      exact ⟨_, rfl, rfl⟩
    · go_enter Try.func19, Try.ntmps19
      go_wp2_with (first | (refine wpList_fop rfl _ _ _ _ _ rfl _ _ _ rfl rfl (by decide) _ ?_; intro _ _) | (refine upon_fop _ _ _ _ _ (by decide) ?_; intro _ _))
      go_ret
      exact ⟨_, by simp, rfl⟩
  · rw [h] at hs ht
    go_enter Try.func19, Try.ntmps19
    go_wp2_with (first | (refine wpList_fop rfl _ _ _ _ _ rfl _ _ _ rfl rfl (by decide) _ ?_; intro _ _) | (refine upon_fop _ _ _ _ _ (by decide) ?_; intro _ _))
    go_ret
    exact ⟨_, rfl, rfl⟩

/-! ### eqFloat32S -/
theorem c_eqF (a b : Option Addr) (len c d : Nat) (zs : List Nat) (w : World) (j0 : Nat) (hr : IsRowF .f32 w a len c zs) (hs : IsRowF .f32 w b len d zs) : Calls Try.prog 33 #[.slice a len c, .slice b len d] (w.drewN j0) (RetV (.bool true) w) := by
  obtain ⟨h1, h2, h3, h4, h5⟩ := hr
  obtain ⟨g1, g2, g3, g4, g5⟩ := hs
  unfold maxLen at h3
  go_enter Try.func33, Try.ntmps33
  go_wp2
  go_loopw [5] (fun i wr => ∃ k m : Nat, k ≤ len ∧ i = .int .i64 k ∧ wr = w.drewN m) (fun i _ => len - (intOf i).toNat)
  case atStart => exact ⟨0, j0, Nat.zero_le _, rfl, rfl⟩
  case round =>
    obtain ⟨k, m, hk, rfl, rfl⟩ := hrel
    by_cases hlt : k < len
    · rcases h5 with h5 | ⟨x, off, rfl, hbl, hc⟩
      · omega
      rcases g5 with g5 | ⟨y, off2, rfl, gbl, gc⟩
      · omega
      have hcell : w.cell? ⟨x, off + k, none⟩ = some (.float .f32 (fat zs k)) := hc k hlt
      have gcell : w.cell? ⟨y, off2 + k, none⟩ = some (.float .f32 (fat zs k)) := gc k hlt
      clear hc h4 gc g4
      go_wp2
      refine wp_region_N (fun _ _ u => u = .bool true) (by kernel_rfl) (by kernel_rfl) ?_; (repeat (first | ((with_reducible show wpN _ _ _ _ _ (Oper.mk _ (Op.binOp _ _ _ _ _) _ _ _ none :: _) _); refine wpN_fop rfl _ _ _ _ _ rfl _ _ _ rfl rfl (by decide) ?_; intro _) | ((with_reducible show wpN _ _ _ _ _ (Oper.mk _ (Op.convert _ _ _) _ _ _ none :: _) _); refine wpN_cvU rfl 26 32 _ rfl (Option.isSome_iff_exists.2 ⟨_, Try.underlying26⟩) Try.underlying32 _ rfl ?_; intro _) | ((with_reducible show wpN _ _ _ _ _ (Oper.mk _ _ _ _ _ (some _) :: _) _); (with_reducible refine wpN_off ?_ ?_); focus rfl; (simp only [Act.put, List.setIfInBounds_toArray, List.set_cons_zero, List.set_cons_succ])) | ((with_reducible show wpN _ _ _ _ _ (Oper.mk _ _ _ _ _ (some _) :: _) _); ((with_reducible refine wpN_on ?_ (fun K hK => ?_)); (focus rfl); intro _; go_simp; first | (refine uponN_value (hK _ ?_)) | ((refine uponN_call (callN rfl (c_sameFloat _ _ _ _ _)) ?_; intro u hu; obtain rfl : u = _ := hu); refine hK _ ?_)); clear hK K) | (((with_reducible refine wpN_plain rfl (fun K hK => ?_)); intro _; go_simp; first | (refine uponN_value (hK _ ?_)) | ((refine uponN_call (callN rfl (c_sameFloat _ _ _ _ _)) ?_; intro u hu; obtain rfl : u = _ := hu); refine hK _ ?_)); clear hK K) | ((with_reducible refine wpN_step (fun K hK => ?_)); go_simp; first | (refine hK _ ?_) | (intro _; first | (refine uponN_value (hK _ ?_)) | ((refine uponN_call (callN rfl (c_sameFloat _ _ _ _ _)) ?_; intro u hu; obtain rfl : u = _ := hu); refine hK _ ?_)); clear hK K))); refine wpN_nil ?_; intro _
      go_wp2
      go_roundw
      case rel => exact ⟨k + 1, _, by omega, by go_num, rfl⟩
      case measure => simp [intOf]; omega
    · clear h5 h4 g4 g5
      go_wp2
      go_ret
      exact ⟨_, rfl, rfl⟩
/-! ### eqPicture -/
theorem c_eqF0 (a b : Option Addr) (len c d : Nat) (zs : List Nat) (w : World) (hr : IsRowF .f32 w a len c zs) (hs : IsRowF .f32 w b len d zs) : Calls Try.prog 33 #[.slice a len c, .slice b len d] w (RetV (.bool true) w) := by
  have h := c_eqF a b len c d zs w 0 hr hs
  rwa [w.drewN_zero] at h
theorem c_eqP (W H : Int) (a b : Option Addr) (len c d : Nat) (zs : List Nat) (w : World) (hr : IsRowF .f32 w a len c zs) (hs : IsRowF .f32 w b len d zs) : Calls Try.prog 20 #[.agg #[.int .i64 W, .int .i64 H, .slice a len c], .agg #[.int .i64 W, .int .i64 H, .slice b len d]] w (RetB (.bool true) w) := by
  have HR := Lib.hid hr
  have HS := Lib.hid hs
  clear hr hs
  go_enter Try.func20, Try.ntmps20
  go_wp2_with fail
  refine (c_eqF0 a b len c d zs _ ((HR.out.alloc _).alloc _) ((HS.out.alloc _).alloc _)).mono ?_
  rintro _ _ ⟨m, rfl, rfl⟩
  go_wp2_with fail
  go_ret
  exact ⟨rfl, below_drewN (((Below.refl _ _).alloc (Nat.le_refl _) _).alloc (by simp) _) _⟩
/-! ### openCol -/
theorem open_col {H : Type} {enc : TypeId × Value → H} {P : Program} {w : World} {base : Nat} {spare : Nat → Bool} {held : Bool} {r : Reach} {b0 : Nat} {t : TypeId} {f0 f1 f2 : Field} {v : Value} {d : DataW H} {p : List MemPlace}
    (hs : P.underlying t = some (.struct #[f0, f1, f2])) (hone : Go.Deep.oneCellFields P #[f0, f1, f2] = true) (hC : P.cellsOf t = 3) (u0 : P.underlying f0.type = some (.float .f32)) (u1 : P.underlying f1.type = some (.float .f32))
    (u2 : P.underlying f2.type = some (.float .f32)) (hv : Value.okWide P w r b0 t v) (h : DataW.Trod enc P w base spare held t v d p) :
    ∃ (x y z : Nat), v = .agg #[.float .f32 x, .float .f32 y, .float .f32 z] ∧ (Lit.float .f32 x).wf = true ∧ (Lit.float .f32 y).wf = true ∧ (Lit.float .f32 z).wf = true := by
  obtain ⟨v0, v1, v2, y0, y1, y2, n, rfl, _, _, h0, h1, h2⟩ := Go.Joins.open_agg3 hs hone hC hv h
  obtain ⟨x, e0, _, w0⟩ := trod_float u0 h0
  obtain ⟨y, e1, _, w1⟩ := trod_float u1 h1
  obtain ⟨z, e2, _, w2⟩ := trod_float u2 h2
  simp only [List.cons.injEq, and_true] at e0 e1 e2
  subst e0 e1 e2
  exact ⟨x, y, z, rfl, w0, w1, w2⟩
/-! ### toWay -/
theorem c_toW (r n g m b k : Nat) (w : World) : Calls Try.prog 31 #[.agg #[.float .f32 (pick .f32 r n), .float .f32 (pick .f32 g m), .float .f32 (pick .f32 b k)]] w (RetB (.agg #[.float .f32 (pick .f32 r n), .float .f32 (pick .f32 g m), .float .f32 (pick .f32 b k)]) w) := by
  go_enter Try.func31, Try.ntmps31
  go_wp2_with fail
  refine bodyPost_ret (v := .agg #[.float .f32 (pick .f32 r n), .float .f32 (pick .f32 g m), .float .f32 (pick .f32 b k)]) (by simp [results, Try.results31, go_sem]) rfl ⟨rfl, ?_⟩
  repeat (first | exact Below.refl _ _ | exact Nat.le_refl _ | (refine Below.setCell ?_ ?_ _) | (refine below_drewN ?_ _) | (refine Below.alloc ?_ ?_ _) | (simp <;> omega))
/-! ### picDefs -/
def sideB (W H : Int) : Bool := decide (1 ≤ W) && decide (W ≤ 16) && (decide (1 ≤ H) && decide (H ≤ 16))
def finL (zs : List Nat) : Bool := zs.all (finB .f32)
def validB (W H : Int) (zs : List Nat) : Bool := sideB W H && decide ((zs.length : Int) = W * H) && finL zs
theorem sideB_true {W H : Int} (h : sideB W H = true) : (1 ≤ W ∧ W ≤ 16) ∧ 1 ≤ H ∧ H ≤ 16 := by simpa [sideB, and_assoc] using h
theorem side_mul {W H : Int} (h : sideB W H = true) : 1 ≤ W * H ∧ W * H ≤ 256 := by
  obtain ⟨⟨h1, h2⟩, h3, h4⟩ := sideB_true h
  have : W * H ≤ 16 * 16 := Int.mul_le_mul h2 h4 (by omega) (by omega)
  have h5 : 1 * 1 ≤ W * H := Int.mul_le_mul h1 h3 (by omega) (by omega)
  omega
theorem sideB_false {W H : Int} (h : sideB W H = false) : W < 1 ∨ 16 < W ∨ H < 1 ∨ 16 < H := by
  simp [sideB] at h; omega
theorem finL_snoc (zs : List Nat) (k : Nat) (hk : k < zs.length) : finL (zs.take (k + 1)) = (finL (zs.take k) && finB .f32 (fat zs k)) := by
  unfold finL fat
  rw [List.take_succ_eq_append_getElem hk, List.all_append, List.getD, List.getElem?_eq_getElem hk]; simp
theorem finL_of (zs : List Nat) (k : Nat) (hk : k < zs.length) (h : finB .f32 (fat zs k) = false) : finL zs = false := by
  unfold finL
  rw [List.all_eq_false]
  refine ⟨zs[k], List.getElem_mem hk, ?_⟩
  unfold fat at h
  rw [List.getD, List.getElem?_eq_getElem hk] at h
  simpa using h
theorem pick0 (k : FloatKind) (v : Nat) (hv : v < 2 ^ k.format.width) : ∃ n, v = pick k v n := pick_onto k v hv
/-! ### meanDefs -/
def meanV (zs : List Nat) : Nat := fop .quo .f32 (sumF .add .f32 0 zs) (floatOfInt .f32 (zs.length : Int))
def numR (v : Nat) : Nat × Bool := if finB .f32 v = true then (v, true) else (0, false)
def meanR (W H : Int) (zs : List Nat) : Nat × Bool := if validB W H zs = true then numR (meanV zs) else (0, false)
theorem mean_len {W H : Int} {zs : List Nat} (h : validB W H zs = true) : zs.length ≤ 256 := by
  simp only [validB, Bool.and_eq_true, decide_eq_true_eq] at h
  obtain ⟨⟨h1, h2⟩, h3⟩ := h
  have := side_mul h1
  omega
theorem pick00 : pick .f32 0 0 = 0 := pick_not (show isN .f32 0 = false from by decide +kernel) 0
/-! ### colDefs -/
def colB (r g b : Nat) : Bool := finB .f32 r && (finB .f32 g && finB .f32 b)
def greyV (r g b : Nat) : Nat := fop .add .f32 (fop .add .f32 (fop .mul .f32 1046066128 r) (fop .mul .f32 1060575065 g)) (fop .mul .f32 1033100696 b)
def greyR (r g b : Nat) : Nat × Bool := if colB r g b = true then numR (greyV r g b) else (0, false)
theorem retF1no {w : World} {e : Ending} {w' : World} (h : e = .returned (.tuple #[.float .f32 0, .bool false])) (hw : Below w.heap.size w w') : RetF1 (0, false) w e w' := ⟨0, by rw [h]; simp only [pick00], hw⟩
theorem fin3 (a b c n m l : Nat) : finL [pick .f32 a n, pick .f32 b m, pick .f32 c l] = colB a b c := by simp [finL, finB_pick, colB]
/-! ### wayDefs -/
def nzB (v : Nat) : Bool := FloatKind.f32.format.order v 0 != some .eq
def wayB (r g b : Nat) : Bool := colB r g b && (nzB r || (nzB g || nzB b))
/-! ### mulInf -/
theorem inf_notfin (s : Bool) : finB .f32 (FloatKind.f32.format.write (.infinity s)) = false := by cases s <;> decide +kernel
theorem rung_split {v : Nat} (h : finB .f32 v = false) (hn : isN .f32 v = false) : FloatKind.f32.format.read v = .infinity (sgn FloatKind.f32.format v) := by
  have h1 : ¬ rung FloatKind.f32.format v < FloatKind.f32.format.infRung := of_decide_eq_false h
  have h2 := isN_rung' .f32 v
  rw [hn] at h2
  have h3 := of_decide_eq_false h2.symm
  exact read_inf .f32 v (by omega)
/-- A product with a factor that isn't finite isn't finite. -/
theorem mul_notfin (x : Nat) {v : Nat} (hv : finB .f32 v = false) : finB .f32 (fop .mul .f32 x v) = false := by
  cases h : isN .f32 v
  · have h3 := rung_split hv h
    cases hx : isN .f32 x
    · cases hf : finB .f32 x
      · have h4 := rung_split hf hx
        have e : fop .mul .f32 x v = FloatKind.f32.format.write (.infinity (sgn FloatKind.f32.format x ^^ sgn FloatKind.f32.format v)) := by
          unfold fop floatBits Ieee.Format.mul
          simp only [h3, h4, Ieee.Datum.product]
          rfl
        rw [e]; exact inf_notfin _
      · obtain ⟨m, e, h4, _, _⟩ := read_fin FloatKind.f32.format x (of_decide_eq_true hf)
        by_cases hm : m = 0
        · have e : fop .mul .f32 x v = qn .f32 := by
            unfold fop floatBits Ieee.Format.mul
            simp only [h3, h4, Ieee.Datum.product, hm, if_true]
            rfl
          rw [e]; exact finB_nan (isN_qn .f32)
        · have e : fop .mul .f32 x v = FloatKind.f32.format.write (.infinity (sgn FloatKind.f32.format v ^^ sgn FloatKind.f32.format x)) := by
            unfold fop floatBits Ieee.Format.mul
            simp only [h3, h4, Ieee.Datum.product, hm, if_false]
            rfl
          rw [e]; exact inf_notfin _
    · exact finB_nan (isN_fop_l v hx)
  · exact finB_nan (isN_fop_r x h)

/-! ### wayFacts -/
theorem quo_inf {x v : Nat} (hx : finB .f32 x = true) (hv : finB .f32 v = false) (hn : isN .f32 v = false) : nzB (fop .quo .f32 x v) = false := by
  have h3 := rung_split hv hn
  obtain ⟨m, e, h4, _, _⟩ := read_fin FloatKind.f32.format x (of_decide_eq_true hx)
  have e : fop .quo .f32 x v = FloatKind.f32.format.write (.number (sgn FloatKind.f32.format x ^^ sgn FloatKind.f32.format v) 0 0) := by
    unfold fop floatBits Ieee.Format.div
    simp only [h3, h4, Ieee.Datum.quotient]
    rfl
  rw [e]
  generalize (sgn FloatKind.f32.format x ^^ sgn FloatKind.f32.format v) = s
  cases s <;> decide +kernel
def rootV (v : Nat) : Nat := cvN (fsqrt (cvU v))
theorem root_notfin {v : Nat} (h : finB .f32 v = false) : finB .f32 (rootV v) = false := by
  unfold rootV
  cases hn : isN .f32 v
  · have h1 : ¬ rung FloatKind.f32.format v < FloatKind.f32.format.infRung := of_decide_eq_false h
    have h2 := isN_rung' .f32 v
    rw [hn] at h2
    have h3 := of_decide_eq_false h2.symm
    have h4 : rung Ieee.single v = Ieee.single.infRung := by
      have : rung FloatKind.f32.format v = FloatKind.f32.format.infRung := by omega
      exact this
    have h5 : cvU v = Ieee.double.word (sgn Ieee.single v) Ieee.double.infRung := by unfold cvU; rw [cvU_inf h4]; rfl
    rw [h5]
    generalize sgn Ieee.single v = s
    cases s <;> decide +kernel
  · rw [cvU_qn hn]; decide +kernel
def t0 : (Nat × Nat × Nat) × Bool := ((0, 0, 0), false)
def giveW (t : Nat × Nat × Nat) : (Nat × Nat × Nat) × Bool := if wayB t.1 t.2.1 t.2.2 = true then (t, true) else t0
theorem unit_no {x y z r : Nat} (hx : finB .f32 x = true) (hy : finB .f32 y = true) (hz : finB .f32 z = true) (hr : finB .f32 r = false) : wayB (fop .quo .f32 x r) (fop .quo .f32 y r) (fop .quo .f32 z r) = false := by
  unfold wayB
  cases hn : isN .f32 r
  · rw [quo_inf hx hr hn, quo_inf hy hr hn, quo_inf hz hr hn]; simp
  · have : colB (fop .quo .f32 x r) (fop .quo .f32 y r) (fop .quo .f32 z r) = false := by
      unfold colB; rw [finB_nan (isN_fop_r x hn)]; rfl
    rw [this]; rfl
def innV (x y z a b c : Nat) : Nat := fop .add .f32 (fop .add .f32 (fop .mul .f32 x a) (fop .mul .f32 y b)) (fop .mul .f32 z c)
def unitT (x y z r : Nat) : Nat × Nat × Nat := (fop .quo .f32 x r, fop .quo .f32 y r, fop .quo .f32 z r)
def unitW (x y z : Nat) : (Nat × Nat × Nat) × Bool := if wayB x y z = true then giveW (unitT x y z (rootV (innV x y z x y z))) else t0
theorem unitW_no {x y z : Nat} (h : wayB x y z = false ∨ finB .f32 (innV x y z x y z) = false) : unitW x y z = t0 := by
  unfold unitW
  cases hw : wayB x y z
  · rfl
  · rcases h with h | h
    · rw [h] at hw; cases hw
    · rw [if_pos rfl]
      have hc : colB x y z = true := by unfold wayB at hw; rw [Bool.and_eq_true] at hw; exact hw.1
      unfold colB at hc
      simp only [Bool.and_eq_true] at hc
      have := unit_no hc.1 hc.2.1 hc.2.2 (root_notfin h)
      unfold giveW unitT
      rw [this]; rfl
def innR (x y z a b c : Nat) : Nat × Bool := if (wayB x y z && wayB a b c) = true then numR (innV x y z a b c) else (0, false)
/-! ### way2Defs -/
def WayB2 (t : (Nat × Nat × Nat) × Bool) (w : World) (e : Ending) (w' : World) : Prop := ∃ n m k, e = .returned (.tuple #[.agg #[.float .f32 (pick .f32 t.1.1 n), .float .f32 (pick .f32 t.1.2.1 m), .float .f32 (pick .f32 t.1.2.2 k)], .bool t.2]) ∧ Below w.heap.size w w'
def WayR (t : Nat × Nat × Nat) (w : World) (e : Ending) (w' : World) : Prop := ∃ n m k, e = .returned (.agg #[.float .f32 (pick .f32 t.1 n), .float .f32 (pick .f32 t.2.1 m), .float .f32 (pick .f32 t.2.2 k)]) ∧ Below w.heap.size w w'
theorem WayB2.no {w : World} {e : Ending} {w' : World} (h : e = .returned (.tuple #[.agg #[.float .f32 0, .float .f32 0, .float .f32 0], .bool false])) (b : Below w.heap.size w w') : WayB2 t0 w e w' := ⟨0, 0, 0, by rw [h]; simp only [t0, pick00], b⟩
def RetN (v : Nat) (w : World) (e : Ending) (w' : World) : Prop := ∃ n, e = .returned (.float .f32 (pick .f32 v n)) ∧ Below w.heap.size w w'
theorem giveW_lt_no {r g b : Nat} (h : wayB r g b = false) : giveW (r, g, b) = t0 := by unfold giveW; rw [h]; rfl
theorem giveW_yes {r g b : Nat} (h : wayB r g b = true) : giveW (r, g, b) = ((r, g, b), true) := by unfold giveW; rw [h]; rfl
/-! ### matDefs -/
def fin9 (z : List Nat) : Bool := finB .f32 (fat z 0) && finB .f32 (fat z 1) && finB .f32 (fat z 2) && finB .f32 (fat z 3) && finB .f32 (fat z 4) && finB .f32 (fat z 5) && finB .f32 (fat z 6) && finB .f32 (fat z 7) && finB .f32 (fat z 8)
def matB (zs : List Nat) : Bool := decide (zs.length = 9) && finL zs
theorem fin9_eq {zs : List Nat} (h : zs.length = 9) : fin9 zs = finL zs := by
  obtain ⟨a0, a1, a2, a3, a4, a5, a6, a7, a8, rfl⟩ : ∃ a0 a1 a2 a3 a4 a5 a6 a7 a8, zs = [a0, a1, a2, a3, a4, a5, a6, a7, a8] := by
    match zs, h with
    | [a0, a1, a2, a3, a4, a5, a6, a7, a8], _ => exact ⟨a0, a1, a2, a3, a4, a5, a6, a7, a8, rfl⟩
  simp [fin9, finL, fat, Bool.and_assoc]
/-! ### listDefs -/
/-- Of a new list of floats and a bool. -/
def RetL (T : TypeId) (r : List Nat × Bool) (w : World) (e : Ending) (w' : World) : Prop :=
  ∃ a cap, e = .returned (.tuple #[.slice a r.1.length cap, .bool r.2]) ∧ r.1.length ≤ 1048576 ∧ Below w.heap.size w w' ∧ Own T w' w.heap.size a r.1.length cap r.1
def TupL (T : TypeId) (B : Nat) (r : List Nat × Bool) (u : Value) (w : World) : Prop := ∃ a c, u = .tuple #[.slice a r.1.length c, .bool r.2] ∧ r.1.length ≤ 1048576 ∧ Own T w B a r.1.length c r.1
def SlcL (T : TypeId) (B : Nat) (r : List Nat × Bool) (u : Value) (w : World) : Prop := ∃ a c, u = .slice a r.1.length c ∧ r.1.length ≤ 1048576 ∧ Own T w B a r.1.length c r.1
def BooL (r : List Nat × Bool) (u : Value) : Prop := ∃ x : Bool, u = .bool x ∧ x = r.2
theorem RetL.no {T : TypeId} {w : World} {e : Ending} {w' : World} (h : e = .returned (.tuple #[.slice none 0 0, .bool false])) (b : Below w.heap.size w w') : RetL T ([], false) w e w' :=
  ⟨none, 0, h, Nat.zero_le _, b, Own.nil _ _ _⟩
/-! ### backDefs -/
def listR (l : List Nat) : List Nat × Bool := if finL l = true then (l, true) else ([], false)
def lessV (a b c d : Nat) : Nat := fop .sub .f32 (fop .mul .f32 a b) (fop .mul .f32 c d)
def backS (p q r a b c : Nat) : Nat := fop .add .f32 (fop .add .f32 (fop .mul .f32 a p) (fop .mul .f32 b q)) (fop .mul .f32 c r)
theorem own_new9 {T : TypeId} {w : World} {B g : Nat} {zs : List Nat} (hg : g = w.heap.size) (hB : B ≤ g) (hl : zs.length ≤ 1000) (hw : ∀ b ∈ zs, (Lit.float .f32 b).wf = true) : Own T (w.alloc (.cells (fl .f32 zs).toArray T)) B (some ⟨g, 0, none⟩) zs.length zs.length zs := by
  subst hg
  refine ⟨rfl, ⟨by simp [fl], .inr ⟨_, _, (fl .f32 zs).toArray, rfl, hB, heap_alloc_new w _, Nat.le_refl _, by unfold maxLen; omega, by simp [fl], by simp [fl, List.take_of_length_le]⟩⟩, hw⟩
theorem wf_lt {v : Nat} (h : v < 2 ^ FloatKind.f32.format.width) : (Lit.float .f32 v).wf = true := by
  have := pick_wf h 0
  cases hn : isN .f32 v
  · rwa [pick_not hn] at this
  · have hw : (2 : Nat) ^ FloatKind.f32.format.width = 4294967296 := by decide +kernel
    rw [hw] at h
    simp [Lit.wf, h]
/-! ### sineFacts -/
theorem fin_small {v : Nat} (h : finB .f32 v = true) (hb : decide (4841369599423283200 ≤ rung Ieee.double (cvU v)) = false) :
    isN .f64 (cvU v) = false ∧ floatToIntVal .f64 (cvU v) .i64 = some (ti (cvU v)) ∧ Bd .f64 1184 (sinF (cvU v)) := by
  have h1 : rung Ieee.single v < Ieee.single.infRung := of_decide_eq_true h
  have h2 : isN .f32 v = false := notN_fin (k := .f32) h1
  obtain ⟨_, c2, _, c4, _, _⟩ := cvU_spec h2
  have h3 := c4.2 h1
  have h4 := whole_small (v := cvU v) (by have := of_decide_eq_false hb; omega)
  exact ⟨c2, toInt64 h3 h4, sinF_bd (partF_bd h3 h4)⟩
theorem Fits_sin {v : Nat} (h : Bd .f64 1184 v) : Fits v := Fits_of_Bd (Bd_mono h (by decide))
theorem raw_nan {b : Nat} (h1 : isN .f64 b = true) (h2 : b < 2 ^ FloatKind.f64.format.width) : ∃ n, b = pick .f64 (qn .f64) n := by
  obtain ⟨n, e⟩ := nanOf_onto .f64 b h2 h1
  exact ⟨n, by rw [e]; simp [pick, isN_qn]⟩
def sineT (v : Nat) : Nat := if finB .f32 v = true then (if decide (4841369599423283200 ≤ rung Ieee.double (cvU v)) = true then 0 else cvN (sinF (cvU v))) else qn .f32
/-! ### turnDefs6 -/
def cosT (v : Nat) : Nat := sineT (fop .add .f32 v 1048576000)
def sumV (s x c y : Nat) : Nat := fop .add .f32 (fop .mul .f32 s x) (fop .mul .f32 c y)
def turT (x y z c s : Nat) : Nat × Nat × Nat := (lessV c x s y, sumV s x c y, z)
def tilT (x y z c s : Nat) : Nat × Nat × Nat := (x, lessV c y s z, sumV s y c z)
def turnW (x y z t : Nat) : (Nat × Nat × Nat) × Bool := if (wayB x y z && finB .f32 t) = true then giveW (turT x y z (cosT t) (sineT t)) else t0
def tiltW (x y z t : Nat) : (Nat × Nat × Nat) × Bool := if (wayB x y z && finB .f32 t) = true then giveW (tilT x y z (cosT t) (sineT t)) else t0
theorem turnW_no {x y z t : Nat} (h : wayB x y z = false ∨ finB .f32 t = false) : turnW x y z t = t0 ∧ tiltW x y z t = t0 := by
  unfold turnW tiltW
  rcases h with h | h <;> rw [h] <;> simp
/-! ### pixDefs -/
def HF : Nat := 1056964608
def atT (x wide : Int) : Nat := fop .quo .f32 (fop .add .f32 (floatOfInt .f32 x) 1056964608) (floatOfInt .f32 wide)
def wayT (t u : Nat) : Nat × Nat × Nat := (fop .mul .f32 (sineT u) (cosT t), fop .mul .f32 (sineT u) (sineT t), cosT u)
def wayV (W H x y : Int) : Nat × Nat × Nat := wayT (atT x W) (atT y (2 * H))
def hiV (H y : Int) : Nat := cosT (fop .quo .f32 (floatOfInt .f32 y) (floatOfInt .f32 (2 * H)))
def solV (W H y : Int) : Nat := fop .quo .f32 (fop .mul .f32 1086918619 (fop .sub .f32 (hiV H y) (hiV H (y + 1)))) (floatOfInt .f32 W)
/-! ### wayOfDefs -/
def inB (x H : Int) : Bool := decide (0 ≤ x) && decide (x ≤ H - 1)
def solidR (W H : Int) (z : List Nat) (y : Int) : Nat × Bool := if (validB W H z && inB y H) = true then (solV W H y, true) else (0, false)
def wayR (W H : Int) (z : List Nat) (x y : Int) : (Nat × Nat × Nat) × Bool := if (validB W H z && (inB x W && inB y H)) = true then (wayV W H x y, true) else t0
theorem valid_nat {W H : Int} {z : List Nat} (h : validB W H z = true) : ∃ Wn Hn : Nat, W = (Wn : Int) ∧ H = (Hn : Int) ∧ 1 ≤ Wn ∧ Wn ≤ 16 ∧ 1 ≤ Hn ∧ Hn ≤ 16 := by
  simp only [validB, sideB, Bool.and_eq_true, decide_eq_true_eq] at h
  obtain ⟨⟨⟨⟨h1, h2⟩, h3, h4⟩, _⟩, _⟩ := h
  exact ⟨W.toNat, H.toNat, by omega, by omega, by omega, by omega, by omega, by omega⟩
theorem inB_nat {x : Int} {Wn : Nat} (h : inB x (Wn : Int) = true) : ∃ n : Nat, x = (n : Int) ∧ n < Wn := by
  simp only [inB, Bool.and_eq_true, decide_eq_true_eq] at h
  exact ⟨x.toNat, by omega, by omega⟩
/-! ### rangeDefs -/
def lowF (m x : Nat) : Nat := if (FloatKind.f32.format.order x m == some .lt) = true then x else m
def highF (m x : Nat) : Nat := if (FloatKind.f32.format.order x m == some .gt) = true then x else m
def lowK (zs : List Nat) (k : Nat) : Nat := (zs.take k).foldl lowF (fat zs 0)
def highK (zs : List Nat) (k : Nat) : Nat := (zs.take k).foldl highF (fat zs 0)
def rangeR (W H : Int) (zs : List Nat) : Nat × Nat × Bool := if validB W H zs = true then (lowK zs zs.length, highK zs zs.length, true) else (0, 0, false)
theorem pick00r : pick .f32 0 0 = 0 := pick_not (show isN .f32 0 = false from by decide +kernel) 0
theorem lowK_succ {zs : List Nat} {k : Nat} (hk : k < zs.length) : lowK zs (k + 1) = lowF (lowK zs k) (fat zs k) := by
  have e : fat zs k = zs[k] := by unfold fat; rw [List.getD, List.getElem?_eq_getElem hk]; rfl
  unfold lowK
  rw [List.take_succ_eq_append_getElem hk, List.foldl_append, e]; rfl
theorem highK_succ {zs : List Nat} {k : Nat} (hk : k < zs.length) : highK zs (k + 1) = highF (highK zs k) (fat zs k) := by
  have e : fat zs k = zs[k] := by unfold fat; rw [List.getD, List.getElem?_eq_getElem hk]; rfl
  unfold highK
  rw [List.take_succ_eq_append_getElem hk, List.foldl_append, e]; rfl
theorem order_same {x : Nat} : (FloatKind.f32.format.order x x == some .lt) = false ∧ (FloatKind.f32.format.order x x == some .gt) = false := by
  cases h : isN .f32 x
  · rw [order_rungs .f32 x x h h, Int.compare_eq_eq.2 rfl]; exact ⟨rfl, rfl⟩
  · rw [order_nan_l _ h]; exact ⟨rfl, rfl⟩
theorem lowK_one {zs : List Nat} (h : 0 < zs.length) : lowK zs 1 = fat zs 0 := by
  rw [lowK_succ h]; unfold lowF lowK; simp [order_same.1]
theorem highK_one {zs : List Nat} (h : 0 < zs.length) : highK zs 1 = fat zs 0 := by
  rw [highK_succ h]; unfold highF highK; simp [order_same.2]
theorem lowK_zero {zs : List Nat} : lowK zs 0 = fat zs 0 := rfl
theorem highK_zero {zs : List Nat} : highK zs 0 = fat zs 0 := rfl
theorem some_len {W H : Int} {zs : List Nat} (h : validB W H zs = true) : 1 ≤ zs.length := by
  simp only [validB, Bool.and_eq_true, decide_eq_true_eq] at h
  obtain ⟨⟨h1, h2⟩, h3⟩ := h
  have := side_mul h1
  omega
/-! ### totDefs -/
def shV (zs : List Nat) (Wn Hn x j k : Nat) : Nat := fop .mul .f32 (fat zs k) (solV (Wn : Int) (Hn : Int) ((j : Nat) : Int))
def totK (zs : List Nat) (Wn Hn : Nat) : Nat → Nat
  | 0 => 0
  | k + 1 => fop .add .f32 (totK zs Wn Hn k) (shV zs Wn Hn 0 (k / Wn) k)
def totalR (W H : Int) (zs : List Nat) : Nat × Bool := if validB W H zs = true then numR (totK zs W.toNat H.toNat (W.toNat * H.toNat)) else (0, false)
theorem valid_len2 {Wn Hn : Nat} {zs : List Nat} (h : validB (Wn : Int) (Hn : Int) zs = true) : zs.length = Wn * Hn := by
  have h1 := h
  simp only [validB, Bool.and_eq_true, decide_eq_true_eq] at h1
  have h2 := h1.1.2
  rw [← Int.natCast_mul] at h2; omega
/-! ### dirDefs -/
def innT (u v : Nat × Nat × Nat) : Nat := innV u.1 u.2.1 u.2.2 v.1 v.2.1 v.2.2
def dirS (u : Nat × Nat × Nat) (tk sh : Nat) (v : Nat × Nat × Nat) : Nat := if (FloatKind.f32.format.order (innT u v) 0 == some .gt) = true then fop .add .f32 tk (fop .mul .f32 sh (innT u v)) else tk
def dirK (zs : List Nat) (Wn Hn : Nat) (u : Nat × Nat × Nat) : Nat → Nat
  | 0 => 0
  | k + 1 => dirS u (dirK zs Wn Hn u k) (shV zs Wn Hn 0 (k / Wn) k) (wayV (Wn : Int) (Hn : Int) ((k % Wn : Nat) : Int) ((k / Wn : Nat) : Int))
def directR (W H : Int) (zs : List Nat) (x y z : Nat) : Nat × Bool := if ((unitW x y z).2 && validB W H zs) = true then numR (dirK zs W.toNat H.toNat (unitW x y z).1 (W.toNat * H.toNat)) else (0, false)
theorem directR_no {W H : Int} {zs : List Nat} {x y z : Nat} (h : (unitW x y z).2 = false ∨ validB W H zs = false) : directR W H zs x y z = (0, false) := by
  unfold directR; rcases h with h | h <;> rw [h] <;> simp
theorem directR_yes {Wn Hn : Nat} {zs : List Nat} {x y z : Nat} (h : (unitW x y z).2 = true) (h2 : validB (Wn : Int) (Hn : Int) zs = true) : directR (Wn : Int) (Hn : Int) zs x y z = numR (dirK zs Wn Hn (unitW x y z).1 (Wn * Hn)) := by
  unfold directR; rw [h, h2, if_pos (by rfl), Int.toNat_natCast, Int.toNat_natCast]
theorem dir_step (zP : List Nat) (Wn Hn j x : Nat) (u : Nat × Nat × Nat) (hx : x < Wn) : dirK zP Wn Hn u (j * Wn + x + 1) = dirS u (dirK zP Wn Hn u (j * Wn + x)) (shV zP Wn Hn 0 j (j * Wn + x)) (wayV (Wn : Int) (Hn : Int) (x : Int) (j : Int)) := by
  have hd : (j * Wn + x) / Wn = j := by rw [Nat.mul_comm, Nat.mul_add_div (by omega), Nat.div_eq_of_lt hx, Nat.add_zero]
  have hm : (j * Wn + x) % Wn = x := by rw [Nat.mul_comm, Nat.mul_add_mod, Nat.mod_eq_of_lt hx]
  show dirS u (dirK zP Wn Hn u (j * Wn + x)) (shV zP Wn Hn 0 ((j * Wn + x) / Wn) (j * Wn + x)) (wayV (Wn : Int) (Hn : Int) (((j * Wn + x) % Wn : Nat) : Int) (((j * Wn + x) / Wn : Nat) : Int)) = _
  rw [hd, hm]
/-! ### l06Inner -/
theorem c_l06Inner (ar an ag am ab ak : Nat) (cr cn cg cm cb ck : Nat) (w : World) : Calls Try.prog 96 #[.agg #[.float .f32 (pick .f32 ar an), .float .f32 (pick .f32 ag am), .float .f32 (pick .f32 ab ak)], .agg #[.float .f32 (pick .f32 cr cn), .float .f32 (pick .f32 cg cm), .float .f32 (pick .f32 cb ck)]] w (RetN (innV ar ag ab cr cg cb) w) := by
  generalize hw0 : (w.alloc (Obj.cells #[.float .f32 (pick .f32 ar an), .float .f32 (pick .f32 ag am), .float .f32 (pick .f32 ab ak)] 36)).alloc (Obj.cells #[.float .f32 (pick .f32 cr cn), .float .f32 (pick .f32 cg cm), .float .f32 (pick .f32 cb ck)] 36) = w0
  have Va_0 := Lib.hid (show Var w0 (w.heap.size) #[.float .f32 (pick .f32 ar an), .float .f32 (pick .f32 ag am), .float .f32 (pick .f32 ab ak)] from by subst hw0; exact ((Var.new' _ _ _ _ (by first | rfl | simp)).alloc _))
  have Vc_0 := Lib.hid (show Var w0 (w.heap.size + 1) #[.float .f32 (pick .f32 cr cn), .float .f32 (pick .f32 cg cm), .float .f32 (pick .f32 cb ck)] from by subst hw0; exact (Var.new' _ _ _ _ (by first | rfl | simp)))
  have B_0 := Lib.hid (show Below w.heap.size w w0 from by subst hw0; exact (((Below.refl _ _).alloc (Nat.le_refl _) _).alloc (by simp) _))
  have SZ := Lib.hid (show w0.heap.size = w.heap.size + 2 from by subst hw0; simp)
  have HW := Lib.hid hw0
  clear hw0
  unfold innV
  obtain ⟨ca0, ca1, ca2⟩ := Va_0.out.three
  obtain ⟨cc0, cc1, cc2⟩ := Vc_0.out.three
  go_enter Try.func96, Try.ntmps96
  go_wp2_with fail
  rw [HW.out]
  rw [← w0.drewN_zero]
  go_wp2_with (first | (refine wpList_fop rfl _ _ _ _ _ rfl _ _ _ rfl rfl (by decide) _ ?_; intro _ _) | (refine upon_fop _ _ _ _ _ (by decide) ?_; intro _ _))
  go_ret
  exact ⟨_, rfl, below_drewN B_0.out _⟩
/-! ### l01Finite -/
theorem c_l01Finite (v n : Nat) (w : World) (j : Nat) : Calls Try.prog 64 #[.float .f32 (pick .f32 v n)] (w.drewN j) (RetV (.bool (finB .f32 v)) w) := by
  go_enter Try.func64, Try.ntmps64
  go_wp2_with (first | (refine wpList_fop rfl _ _ _ _ _ rfl _ _ _ rfl rfl (by decide) _ ?_; intro _ _) | (refine upon_fop _ _ _ _ _ (by decide) ?_; intro _ _))
  go_ret
  rw [← sub_self_zero]
  exact ⟨_, rfl, rfl⟩
/-! ### l06Finite -/
theorem c_l06Finite (r n g m b k : Nat) (w : World) : Calls Try.prog 135 #[.agg #[.float .f32 (pick .f32 r n), .float .f32 (pick .f32 g m), .float .f32 (pick .f32 b k)]] w (RetB (.bool (colB r g b)) w) := by
  unfold colB
  generalize hw0 : w.alloc (Obj.cells #[.float .f32 (pick .f32 r n), .float .f32 (pick .f32 g m), .float .f32 (pick .f32 b k)] 36) = w0
  have X0 : Var w0 w.heap.size #[.float .f32 (pick .f32 r n), .float .f32 (pick .f32 g m), .float .f32 (pick .f32 b k)] := by subst hw0; exact Var.new _ _ _
  have X1 : Below w.heap.size w w0 := by subst hw0; exact (Below.refl _ _).alloc (Nat.le_refl _) _
  have SZ := Lib.hid (show w0.heap.size = w.heap.size + 1 from by subst hw0; simp)
  have HW := Lib.hid hw0
  have B0 := Lib.hid X1
  have V0 := Lib.hid X0
  obtain ⟨q0, q1, q2⟩ := X0.three
  clear hw0 X0 X1
  go_enter Try.func135, Try.ntmps135
  go_wp2_with fail
  rw [HW.out, ← w0.drewN_zero]
  go_wp2_with ((go_at_call 64; refine (c_l01Finite _ _ _ _).mono ?_; rintro _ _ ⟨_, rfl, rfl⟩))
  all_goals (go_ret; exact ⟨by simp [*], below_drewN B0.out _⟩)
/-! ### l06Is -/
theorem c_l06Is (r n g m b k : Nat) (w : World) : Calls Try.prog 110 #[.agg #[.float .f32 (pick .f32 r n), .float .f32 (pick .f32 g m), .float .f32 (pick .f32 b k)]] w (RetB (.bool (wayB r g b)) w) := by
  have CF := Lib.hid (fun w => c_l06Finite r n g m b k w)
  unfold wayB
  generalize colB r g b = q at *
  generalize hw0 : w.alloc (Obj.cells #[.float .f32 (pick .f32 r n), .float .f32 (pick .f32 g m), .float .f32 (pick .f32 b k)] 36) = w0
  have X0 : Var w0 w.heap.size #[.float .f32 (pick .f32 r n), .float .f32 (pick .f32 g m), .float .f32 (pick .f32 b k)] := by subst hw0; exact Var.new _ _ _
  have X1 : Below w.heap.size w w0 := by subst hw0; exact (Below.refl _ _).alloc (Nat.le_refl _) _
  have SZ := Lib.hid (show w0.heap.size = w.heap.size + 1 from by subst hw0; simp)
  have HW := Lib.hid hw0
  have B0 := Lib.hid X1
  have V0 := Lib.hid X0
  obtain ⟨q0, q1, q2⟩ := X0.three
  clear hw0 X0 X1
  unfold nzB
  cases h1 : (FloatKind.f32.format.order r 0 != some .eq) <;> cases h2 : (FloatKind.f32.format.order g 0 != some .eq) <;> cases h3 : (FloatKind.f32.format.order b 0 != some .eq) <;> cases q
  all_goals
    go_enter Try.func110, Try.ntmps110
    go_wp2_with fail
    rw [HW.out]
    go_wp2_with fail
    refine (CF.out _).mono ?_
    rintro _ w1 ⟨rfl, b1⟩
    have B1 := Lib.hid (B0.out.trans (b1.mono B0.out.size))
    have V1 := Lib.hid (V0.out.keep b1)
    clear b1 q0 q1 q2
    obtain ⟨q0, q1, q2⟩ := V1.out.three
    go_wp2_with fail
    go_ret
    exact ⟨rfl, B1.out⟩
/-! ### l06Give -/
theorem c_l06Give (ar an ag am ab ak : Nat) (w : World) (har : ar < 2 ^ FloatKind.f32.format.width) (hag : ag < 2 ^ FloatKind.f32.format.width) (hab : ab < 2 ^ FloatKind.f32.format.width) : Calls Try.prog 111 #[.agg #[.float .f32 (pick .f32 ar an), .float .f32 (pick .f32 ag am), .float .f32 (pick .f32 ab ak)]] w (WayB2 (giveW (ar, ag, ab)) w) := by
  generalize hw0 : (w.alloc (Obj.cells #[.float .f32 (pick .f32 ar an), .float .f32 (pick .f32 ag am), .float .f32 (pick .f32 ab ak)] 36)).alloc (Obj.cells #[.float .f32 0, .float .f32 0, .float .f32 0] 36) = w0
  have Va_0 := Lib.hid (show Var w0 (w.heap.size) #[.float .f32 (pick .f32 ar an), .float .f32 (pick .f32 ag am), .float .f32 (pick .f32 ab ak)] from by subst hw0; exact ((Var.new' _ _ _ _ (by first | rfl | simp)).alloc _))
  have Vz_0 := Lib.hid (show Var w0 (w.heap.size + 1) #[.float .f32 0, .float .f32 0, .float .f32 0] from by subst hw0; exact (Var.new' _ _ _ _ (by first | rfl | simp)))
  have F_0 := Lib.hid (show Free w0 (w.heap.size + 1) from by subst hw0; exact Free.new' _ _ _ _ (by first | rfl | simp))
  have B_0 := Lib.hid (show Below w.heap.size w w0 from by subst hw0; exact (((Below.refl _ _).alloc (Nat.le_refl _) _).alloc (by simp) _))
  have SZ := Lib.hid (show w0.heap.size = w.heap.size + 2 from by subst hw0; simp)
  have HW := Lib.hid hw0
  clear hw0
  have CF := Lib.hid (fun w => c_l06Is ar an ag am ab ak w)
  cases hq : wayB ar ag ab
  all_goals rw [hq] at CF
  · obtain ⟨ca0, ca1, ca2⟩ := Va_0.out.three
    obtain ⟨cz0, cz1, cz2⟩ := Vz_0.out.three
    have f0 := F_0.out 0
    have f1 := F_0.out 1
    have f2 := F_0.out 2
    go_enter Try.func111, Try.ntmps111
    go_wp2_with fail
    rw [HW.out]
    go_wp2_with fail
    refine (CF.out _).mono ?_
    rintro _ w1 ⟨rfl, b⟩
    have Va_1 := Lib.hid (Va_0.out.keep b)
    have Vz_1 := Lib.hid (Vz_0.out.keep b)
    have F_1 := Lib.hid (F_0.out.below Vz_0.out.lt b)
    have B_1 := Lib.hid (B_0.out.trans (b.mono B_0.out.size))
    clear ca0 ca1 ca2 cz0 cz1 cz2 f0 f1 f2
    clear Va_0 Vz_0 F_0 B_0 b
    obtain ⟨ca0, ca1, ca2⟩ := Va_1.out.three
    obtain ⟨cz0, cz1, cz2⟩ := Vz_1.out.three
    have f0 := F_1.out 0
    have f1 := F_1.out 1
    have f2 := F_1.out 2
    go_wp2_with fail
    refine bodyPost_ret (v := .tuple #[.agg #[.float .f32 0, .float .f32 0, .float .f32 0], .bool false]) (by simp [results, Try.results111, cz0, cz1, cz2, go_sem]) rfl ?_
    rw [giveW_lt_no hq]; refine WayB2.no rfl ?_
    repeat (first | exact B_1.out | exact Nat.le_refl _ | (refine Below.setCell ?_ ?_ _) | (refine below_drewN ?_ _) | (refine Below.alloc ?_ ?_ _) | (simp <;> omega))
  · obtain ⟨ca0, ca1, ca2⟩ := Va_0.out.three
    obtain ⟨cz0, cz1, cz2⟩ := Vz_0.out.three
    have f0 := F_0.out 0
    have f1 := F_0.out 1
    have f2 := F_0.out 2
    go_enter Try.func111, Try.ntmps111
    go_wp2_with fail
    rw [HW.out]
    go_wp2_with fail
    refine (CF.out _).mono ?_
    rintro _ w1 ⟨rfl, b⟩
    have Va_1 := Lib.hid (Va_0.out.keep b)
    have Vz_1 := Lib.hid (Vz_0.out.keep b)
    have F_1 := Lib.hid (F_0.out.below Vz_0.out.lt b)
    have B_1 := Lib.hid (B_0.out.trans (b.mono B_0.out.size))
    clear ca0 ca1 ca2 cz0 cz1 cz2 f0 f1 f2
    clear Va_0 Vz_0 F_0 B_0 b
    obtain ⟨ca0, ca1, ca2⟩ := Va_1.out.three
    obtain ⟨cz0, cz1, cz2⟩ := Vz_1.out.three
    have f0 := F_1.out 0
    have f1 := F_1.out 1
    have f2 := F_1.out 2
    go_wp2_with fail
    refine bodyPost_ret (v := .tuple #[.agg #[.float .f32 (pick .f32 ar an), .float .f32 (pick .f32 ag am), .float .f32 (pick .f32 ab ak)], .bool true]) (by simp [results, Try.results111, cz0, cz1, cz2, go_sem]) rfl ?_
    rw [giveW_yes hq]; refine ⟨_, _, _, rfl, ?_⟩
    repeat (first | exact B_1.out | exact Nat.le_refl _ | (refine Below.setCell ?_ ?_ _) | (refine below_drewN ?_ _) | (refine Below.alloc ?_ ?_ _) | (simp <;> omega))
/-! ### msqrt -/
theorem run_msqrt (b : Nat) (w : World) : ∃ n m, (callFunc 142 #[.float .f64 b]).run Try.prog w = .ok (.value (.float .f64 (pick .f64 (fsqrt b) n))) (w.drewN m) := by
  have e : (callFunc 142 #[.float .f64 b]).run Try.prog w = ((Extern.MathSqrt.sqrt #[.float .f64 b]).bind fun v => Sem.pure (Next.value v)).run Try.prog w := by kernel_rfl
  rw [e]
  cases h : Ieee.double.sqrt b with
  | some r =>
    refine ⟨0, 0, ?_⟩
    have e2 : Extern.MathSqrt.sqrt #[.float .f64 b] = pure (.float .f64 r) := by
      show (match Ieee.double.sqrt b with | some r => _ | none => _) = _
      rw [h]
    have e3 : fsqrt b = r := by unfold fsqrt; rw [h]; rfl
    rw [e2, e3, pick_not (sqrt_notNaN h)]; rfl
  | none =>
    have e3 : fsqrt b = qn .f64 := by unfold fsqrt; rw [h]; rfl
    refine ⟨w.tape w.drawn (.nanBits .f64 b b), 1, ?_⟩
    have e2 : Extern.MathSqrt.sqrt #[.float .f64 b] = (do pure (.float .f64 (← choose (.nanBits .f64 b b)))) := by
      show (match Ieee.double.sqrt b with | some r => _ | none => _) = _
      rw [h]
    rw [e2, e3]
    have e4 : pick .f64 (qn .f64) (w.tape w.drawn (.nanBits .f64 b b)) = (Question.nanBits .f64 b b).cut (w.tape w.drawn (.nanBits .f64 b b)) := by
      simp only [pick, isN_qn, if_true]; rfl
    rw [e4]
    rfl
/-! ### Sqrt -/
theorem c_Sqrt (v k : Nat) (w : World) (j : Nat) : Calls Try.prog 128 #[.float .f64 (pick .f64 v k)] (w.drewN j) (RetF .f64 (fsqrt v) w) := by
  obtain ⟨n, m, hr⟩ := run_msqrt (pick .f64 v k) (w.drewN j)
  rw [fsqrt_pick] at hr
  go_enter Try.func128, Try.ntmps128
  go_wp2
  go_ret
  exact ⟨_, _, rfl, rfl⟩

/-! ### l01Sqrt -/
theorem c_l01Sqrt (v n : Nat) (w : World) (j : Nat) : Calls Try.prog 101 #[.float .f32 (pick .f32 v n)] (w.drewN j) (RetF .f32 (cvN (fsqrt (cvU v))) w) := by
  have HF := Lib.hid (root_fits v)
  go_enter Try.func101, Try.ntmps101
  go_wp2_with (first | (refine wpList_cvU rfl 26 32 _ rfl (Option.isSome_iff_exists.2 ⟨_, Try.underlying26⟩) Try.underlying32 _ rfl _ ?_; intro _ _) | (refine wpList_cvN rfl 32 26 _ rfl (Option.isSome_iff_exists.2 ⟨_, Try.underlying32⟩) Try.underlying26 _ rfl _ (by rw [Fits_pick]; exact HF.out) ?_; intro _ _) | (go_at_call 128; refine (c_Sqrt _ _ _ _).mono ?_; rintro _ _ ⟨_, _, rfl, rfl⟩) | go_in)
  go_ret
  exact ⟨_, _, rfl, rfl⟩
/-! ### l06Unit -/
theorem c_l06Unit (ar an ag am ab ak : Nat) (w : World) (har : ar < 2 ^ FloatKind.f32.format.width) (hag : ag < 2 ^ FloatKind.f32.format.width) (hab : ab < 2 ^ FloatKind.f32.format.width) : Calls Try.prog 95 #[.agg #[.float .f32 (pick .f32 ar an), .float .f32 (pick .f32 ag am), .float .f32 (pick .f32 ab ak)]] w (WayB2 (unitW ar ag ab) w) := by
  generalize hw0 : (w.alloc (Obj.cells #[.float .f32 (pick .f32 ar an), .float .f32 (pick .f32 ag am), .float .f32 (pick .f32 ab ak)] 36)).alloc (Obj.cells #[.float .f32 0, .float .f32 0, .float .f32 0] 36) = w0
  have Va_0 := Lib.hid (show Var w0 (w.heap.size) #[.float .f32 (pick .f32 ar an), .float .f32 (pick .f32 ag am), .float .f32 (pick .f32 ab ak)] from by subst hw0; exact ((Var.new' _ _ _ _ (by first | rfl | simp)).alloc _))
  have Vz_0 := Lib.hid (show Var w0 (w.heap.size + 1) #[.float .f32 0, .float .f32 0, .float .f32 0] from by subst hw0; exact (Var.new' _ _ _ _ (by first | rfl | simp)))
  have F_0 := Lib.hid (show Free w0 (w.heap.size + 1) from by subst hw0; exact Free.new' _ _ _ _ (by first | rfl | simp))
  have B_0 := Lib.hid (show Below w.heap.size w w0 from by subst hw0; exact (((Below.refl _ _).alloc (Nat.le_refl _) _).alloc (by simp) _))
  have SZ := Lib.hid (show w0.heap.size = w.heap.size + 2 from by subst hw0; simp)
  have HW := Lib.hid hw0
  clear hw0
  obtain ⟨res, hres⟩ : ∃ q, q = unitW ar ag ab := ⟨_, rfl⟩
  rw [← hres]
  have CI := Lib.hid (fun w => c_l06Inner ar an ag am ab ak ar an ag am ab ak w)
  have CQ := Lib.hid (fun w => c_l06Is ar an ag am ab ak w)
  have CG := Lib.hid (fun n m k w => c_l06Give (fop .quo .f32 ar (rootV (innV ar ag ab ar ag ab))) n (fop .quo .f32 ag (rootV (innV ar ag ab ar ag ab))) m (fop .quo .f32 ab (rootV (innV ar ag ab ar ag ab))) k w (fop_lt _ _ _ _) (fop_lt _ _ _ _) (fop_lt _ _ _ _))
  cases hq : wayB ar ag ab
  all_goals rw [hq] at CQ
  · have RES := Lib.hid (hres.trans (unitW_no (.inl hq)))
    obtain ⟨ca0, ca1, ca2⟩ := Va_0.out.three
    obtain ⟨cz0, cz1, cz2⟩ := Vz_0.out.three
    have f0 := F_0.out 0
    have f1 := F_0.out 1
    have f2 := F_0.out 2
    go_enter Try.func95, Try.ntmps95
    go_wp2_with fail
    rw [HW.out]
    go_wp2_with fail
    refine (CI.out _).mono ?_
    rintro _ w1 ⟨k0, rfl, b⟩
    have Va_1 := Lib.hid (Va_0.out.keep b)
    have Vz_1 := Lib.hid (Vz_0.out.keep b)
    have F_1 := Lib.hid (F_0.out.below Vz_0.out.lt b)
    have B_1 := Lib.hid (B_0.out.trans (b.mono B_0.out.size))
    clear ca0 ca1 ca2 cz0 cz1 cz2 f0 f1 f2
    clear Va_0 Vz_0 F_0 B_0 b
    obtain ⟨ca0, ca1, ca2⟩ := Va_1.out.three
    obtain ⟨cz0, cz1, cz2⟩ := Vz_1.out.three
    have f0 := F_1.out 0
    have f1 := F_1.out 1
    have f2 := F_1.out 2
    go_wp2_with fail
    refine (CQ.out _).mono ?_
    rintro _ w2 ⟨rfl, b⟩
    have Va_2 := Lib.hid (Va_1.out.keep b)
    have Vz_2 := Lib.hid (Vz_1.out.keep b)
    have F_2 := Lib.hid (F_1.out.below Vz_1.out.lt b)
    have B_2 := Lib.hid (B_1.out.trans (b.mono B_1.out.size))
    clear ca0 ca1 ca2 cz0 cz1 cz2 f0 f1 f2
    clear Va_1 Vz_1 F_1 B_1 b
    obtain ⟨ca0, ca1, ca2⟩ := Va_2.out.three
    obtain ⟨cz0, cz1, cz2⟩ := Vz_2.out.three
    have f0 := F_2.out 0
    have f1 := F_2.out 1
    have f2 := F_2.out 2
    go_wp2_with fail
    refine bodyPost_ret (v := .tuple #[.agg #[.float .f32 0, .float .f32 0, .float .f32 0], .bool false]) (by simp [results, Try.results95, cz0, cz1, cz2, go_sem]) rfl ?_
    rw [RES.out]; refine WayB2.no rfl ?_
    repeat (first | exact B_2.out | exact Nat.le_refl _ | (refine Below.setCell ?_ ?_ _) | (refine below_drewN ?_ _) | (refine Below.alloc ?_ ?_ _) | (simp <;> omega))
  · have CF := Lib.hid (fun w k j => c_l01Finite (innV ar ag ab ar ag ab) k w j)
    cases hf : finB .f32 (innV ar ag ab ar ag ab)
    all_goals rw [hf] at CF
    · have RES := Lib.hid (hres.trans (unitW_no (.inr hf)))
      obtain ⟨ca0, ca1, ca2⟩ := Va_0.out.three
      obtain ⟨cz0, cz1, cz2⟩ := Vz_0.out.three
      have f0 := F_0.out 0
      have f1 := F_0.out 1
      have f2 := F_0.out 2
      go_enter Try.func95, Try.ntmps95
      go_wp2_with fail
      rw [HW.out]
      go_wp2_with fail
      refine (CI.out _).mono ?_
      rintro _ w1 ⟨k0, rfl, b⟩
      have Va_1 := Lib.hid (Va_0.out.keep b)
      have Vz_1 := Lib.hid (Vz_0.out.keep b)
      have F_1 := Lib.hid (F_0.out.below Vz_0.out.lt b)
      have B_1 := Lib.hid (B_0.out.trans (b.mono B_0.out.size))
      clear ca0 ca1 ca2 cz0 cz1 cz2 f0 f1 f2
      clear Va_0 Vz_0 F_0 B_0 b
      obtain ⟨ca0, ca1, ca2⟩ := Va_1.out.three
      obtain ⟨cz0, cz1, cz2⟩ := Vz_1.out.three
      have f0 := F_1.out 0
      have f1 := F_1.out 1
      have f2 := F_1.out 2
      go_wp2_with fail
      refine (CQ.out _).mono ?_
      rintro _ w2 ⟨rfl, b⟩
      have Va_2 := Lib.hid (Va_1.out.keep b)
      have Vz_2 := Lib.hid (Vz_1.out.keep b)
      have F_2 := Lib.hid (F_1.out.below Vz_1.out.lt b)
      have B_2 := Lib.hid (B_1.out.trans (b.mono B_1.out.size))
      clear ca0 ca1 ca2 cz0 cz1 cz2 f0 f1 f2
      clear Va_1 Vz_1 F_1 B_1 b
      obtain ⟨ca0, ca1, ca2⟩ := Va_2.out.three
      obtain ⟨cz0, cz1, cz2⟩ := Vz_2.out.three
      have f0 := F_2.out 0
      have f1 := F_2.out 1
      have f2 := F_2.out 2
      rw [← w2.drewN_zero]
      go_wp2_with (go_at_call 64; refine (CF.out _ _ _).mono ?_; rintro _ _ ⟨_, rfl, rfl⟩)
      refine bodyPost_ret (v := .tuple #[.agg #[.float .f32 0, .float .f32 0, .float .f32 0], .bool false]) (by simp [results, Try.results95, cz0, cz1, cz2, go_sem]) rfl ?_
      rw [RES.out]; refine WayB2.no rfl ?_
      repeat (first | exact B_2.out | exact Nat.le_refl _ | (refine Below.setCell ?_ ?_ _) | (refine below_drewN ?_ _) | (refine Below.alloc ?_ ?_ _) | (simp <;> omega))
    · have RES := Lib.hid (hres.trans (show unitW ar ag ab = giveW (fop .quo .f32 ar (rootV (innV ar ag ab ar ag ab)), fop .quo .f32 ag (rootV (innV ar ag ab ar ag ab)), fop .quo .f32 ab (rootV (innV ar ag ab ar ag ab))) from by unfold unitW; rw [hq, if_pos rfl]; rfl))
      have CS := Lib.hid (fun k w j => c_l01Sqrt (innV ar ag ab ar ag ab) k w j)
      rw [show cvN (fsqrt (cvU (innV ar ag ab ar ag ab))) = rootV (innV ar ag ab ar ag ab) from rfl] at CS
      generalize giveW (fop .quo .f32 ar (rootV (innV ar ag ab ar ag ab)), fop .quo .f32 ag (rootV (innV ar ag ab ar ag ab)), fop .quo .f32 ab (rootV (innV ar ag ab ar ag ab))) = z at CG RES
      generalize rootV (innV ar ag ab ar ag ab) = rt at *
      obtain ⟨ca0, ca1, ca2⟩ := Va_0.out.three
      obtain ⟨cz0, cz1, cz2⟩ := Vz_0.out.three
      have f0 := F_0.out 0
      have f1 := F_0.out 1
      have f2 := F_0.out 2
      go_enter Try.func95, Try.ntmps95
      go_wp2_with fail
      rw [HW.out]
      go_wp2_with fail
      refine (CI.out _).mono ?_
      rintro _ w1 ⟨k0, rfl, b⟩
      have Va_1 := Lib.hid (Va_0.out.keep b)
      have Vz_1 := Lib.hid (Vz_0.out.keep b)
      have F_1 := Lib.hid (F_0.out.below Vz_0.out.lt b)
      have B_1 := Lib.hid (B_0.out.trans (b.mono B_0.out.size))
      clear ca0 ca1 ca2 cz0 cz1 cz2 f0 f1 f2
      clear Va_0 Vz_0 F_0 B_0 b
      obtain ⟨ca0, ca1, ca2⟩ := Va_1.out.three
      obtain ⟨cz0, cz1, cz2⟩ := Vz_1.out.three
      have f0 := F_1.out 0
      have f1 := F_1.out 1
      have f2 := F_1.out 2
      go_wp2_with fail
      refine (CQ.out _).mono ?_
      rintro _ w2 ⟨rfl, b⟩
      have Va_2 := Lib.hid (Va_1.out.keep b)
      have Vz_2 := Lib.hid (Vz_1.out.keep b)
      have F_2 := Lib.hid (F_1.out.below Vz_1.out.lt b)
      have B_2 := Lib.hid (B_1.out.trans (b.mono B_1.out.size))
      clear ca0 ca1 ca2 cz0 cz1 cz2 f0 f1 f2
      clear Va_1 Vz_1 F_1 B_1 b
      obtain ⟨ca0, ca1, ca2⟩ := Va_2.out.three
      obtain ⟨cz0, cz1, cz2⟩ := Vz_2.out.three
      have f0 := F_2.out 0
      have f1 := F_2.out 1
      have f2 := F_2.out 2
      rw [← w2.drewN_zero]
      go_wp2_with (first | (first | (refine wpList_fop rfl _ _ _ _ _ rfl _ _ _ rfl rfl (by decide) _ ?_; intro _ _) | (refine upon_fop _ _ _ _ _ (by decide) ?_; intro _ _)) | (go_at_call 64; refine (CF.out _ _ _).mono ?_; rintro _ _ ⟨_, rfl, rfl⟩) | (go_at_call 101; refine (CS.out _ _ _).mono ?_; rintro _ _ ⟨_, _, rfl, rfl⟩))
      refine (CG.out _ _ _ _).mono ?_
      rintro _ w3 ⟨n9, m9, k9, rfl, b9⟩
      have b : Below w2.heap.size w2 w3 := by first | exact (below_drewN (Below.refl _ _) _).trans (b9.mono (by simp)) | exact b9
      have Va_3 := Lib.hid (Va_2.out.keep b)
      have Vz_3 := Lib.hid (Vz_2.out.keep b)
      have F_3 := Lib.hid (F_2.out.below Vz_2.out.lt b)
      have B_3 := Lib.hid (B_2.out.trans (b.mono B_2.out.size))
      clear ca0 ca1 ca2 cz0 cz1 cz2 f0 f1 f2
      clear Va_2 Vz_2 F_2 B_2 b b9
      obtain ⟨ca0, ca1, ca2⟩ := Va_3.out.three
      obtain ⟨cz0, cz1, cz2⟩ := Vz_3.out.three
      have f0 := F_3.out 0
      have f1 := F_3.out 1
      have f2 := F_3.out 2
      go_wp2_with fail
      refine bodyPost_ret (v := .tuple #[.agg #[.float .f32 (pick .f32 z.1.1 n9), .float .f32 (pick .f32 z.1.2.1 m9), .float .f32 (pick .f32 z.1.2.2 k9)], .bool z.2]) (by simp [results, Try.results95, cz0, cz1, cz2, go_sem]) rfl ?_
      rw [RES.out]; refine ⟨_, _, _, rfl, ?_⟩
      repeat (first | exact B_3.out | exact Nat.le_refl _ | (refine Below.setCell ?_ ?_ _) | (refine below_drewN ?_ _) | (refine Below.alloc ?_ ?_ _) | (simp <;> omega))
/-! ### l01SineWide -/
theorem c_l01SineWide_fff (v f : Nat) (w : World) (j : Nat) (Hti : Hid (floatToIntVal .f64 v .i64 = some (ti v))) (Hf : Hid (partF v = f))
    (hs : (FloatKind.f64.format.order (fop .sub .f64 v v) 0 != some .eq) = false)
    (h1 : (FloatKind.f64.format.order v 4841369599423283200 == some .gt || FloatKind.f64.format.order v 4841369599423283200 == some .eq) = false)
    (h2 : (FloatKind.f64.format.order v 14064741636278059008 == some .lt || FloatKind.f64.format.order v 14064741636278059008 == some .eq) = false)
    {j2 : Nat} (hnan : isN .f64 v = false) (hf : fop .sub .f64 v (floatOfInt .f64 (ti v)) = f) (hlt : (FloatKind.f64.format.order f 0 == some .lt) = false)
    (hb : (FloatKind.f64.format.order f 4602678819172646912 == some .gt || FloatKind.f64.format.order f 4602678819172646912 == some .eq) = false)
    (hq : (FloatKind.f64.format.order f 4598175219545276416 == some .gt) = false) : Calls Try.prog 121 #[.float .f64 (pick .f64 v j2)] (w.drewN j) (RetF .f64 (sinF v) w) := by
  have HF : Hid (sinF v = (sinZ (fop .mul .f64 f 4618760256179416344))) := by
    unfold Hid sinF lowB fold2 half64 quarter64 twopi64; rw [Hf.out, hb]; simp only [if_true, if_false, Bool.false_eq_true, hq]
  rw [pick_not hnan]
  go_enter Try.func121, Try.ntmps121
  go_wp2_with (first | (first | (refine wpList_fop rfl _ _ _ _ _ rfl _ _ _ rfl rfl (by decide) _ ?_; intro _ _) | (refine upon_fop _ _ _ _ _ (by decide) ?_; intro _ _)) | (refine wpList_ftoi rfl 32 2 _ rfl (Option.isSome_iff_exists.2 ⟨_, Try.underlying32⟩) .i64 Try.underlying2 _ _ rfl (by exact Hti.out) ?_) | go_in)
  generalize hu : fop .mul .f64 (fop .mul .f64 f 4618760256179416344) (fop .mul .f64 f 4618760256179416344) = u
  have Hu := Lib.hid hu
  clear hu
  go_loopw [7, 8] (fun p k wr => ∃ (i n m : Nat) (kI : Int), i ≤ 8 ∧ Hid (kI = 8 - (i : Int)) ∧ p = .float .f64 (pick .f64 (ser u i) n) ∧ k = .int .i64 kI ∧ wr = w.drewN m) (fun _ k _ => (intOf k).toNat)
  case atStart => exact ⟨0, 0, _, 8, by omega, rfl, by rw [pick_not (show isN .f64 (ser u 0) = false from (by decide +kernel : isN .f64 one64 = false))]; rfl, rfl, rfl⟩
  case round =>
    obtain ⟨i, n, m, kI, hi, HK, rfl, rfl, rfl⟩ := hrel
    by_cases hlt8 : i < 8
    · have b1 : 1 ≤ kI := by have := HK.out; omega
      have b2 : kI ≤ 8 := by have := HK.out; omega
      have b3 : 0 ≤ 2 * kI * (2 * kI + 1) := Int.mul_nonneg (by omega) (by omega)
      have b4 : 2 * kI * (2 * kI + 1) ≤ 272 := Int.le_trans (Int.mul_le_mul (show 2 * kI ≤ 16 by omega) (show 2 * kI + 1 ≤ 17 by omega) (by omega) (by omega)) (by decide)
      have HD : Hid (den i = floatOfInt .f64 (2 * kI * (2 * kI + 1))) := by unfold Hid; rw [HK.out]; exact den_int i hlt8
      go_wp2_with (first | (refine wpList_fop rfl _ _ _ _ _ rfl _ _ _ rfl rfl (by decide) _ ?_; intro _ _) | (refine upon_fop _ _ _ _ _ (by decide) ?_; intro _ _))
      go_roundw
      case rel => exact ⟨i + 1, _, _, kI - 1, by omega, by have := HK.out; unfold Hid; omega, by rw [ser_step, HD.out]; rfl, rfl, rfl⟩
      case measure => simp [intOf]; omega
    · obtain rfl : i = 8 := by omega
      have b1 : kI < 1 := by have := HK.out; omega
      have b2 : 0 ≤ kI := by have := HK.out; omega
      go_wp2_with (first | (refine wpList_fop rfl _ _ _ _ _ rfl _ _ _ rfl rfl (by decide) _ ?_; intro _ _) | (refine upon_fop _ _ _ _ _ (by decide) ?_; intro _ _))
      go_ret
      rw [HF.out]
      unfold sinZ
      rw [Hu.out]
      exact ⟨_, _, rfl, rfl⟩
theorem c_l01SineWide_fft (v f : Nat) (w : World) (j : Nat) (Hti : Hid (floatToIntVal .f64 v .i64 = some (ti v))) (Hf : Hid (partF v = f))
    (hs : (FloatKind.f64.format.order (fop .sub .f64 v v) 0 != some .eq) = false)
    (h1 : (FloatKind.f64.format.order v 4841369599423283200 == some .gt || FloatKind.f64.format.order v 4841369599423283200 == some .eq) = false)
    (h2 : (FloatKind.f64.format.order v 14064741636278059008 == some .lt || FloatKind.f64.format.order v 14064741636278059008 == some .eq) = false)
    {j2 : Nat} (hnan : isN .f64 v = false) (hf : fop .sub .f64 v (floatOfInt .f64 (ti v)) = f) (hlt : (FloatKind.f64.format.order f 0 == some .lt) = false)
    (hb : (FloatKind.f64.format.order f 4602678819172646912 == some .gt || FloatKind.f64.format.order f 4602678819172646912 == some .eq) = false)
    (hq : (FloatKind.f64.format.order f 4598175219545276416 == some .gt) = true) : Calls Try.prog 121 #[.float .f64 (pick .f64 v j2)] (w.drewN j) (RetF .f64 (sinF v) w) := by
  have HF : Hid (sinF v = (sinZ (fop .mul .f64 (fop .sub .f64 4602678819172646912 f) 4618760256179416344))) := by
    unfold Hid sinF lowB fold2 half64 quarter64 twopi64; rw [Hf.out, hb]; simp only [if_true, if_false, Bool.false_eq_true, hq]
  rw [pick_not hnan]
  go_enter Try.func121, Try.ntmps121
  go_wp2_with (first | (first | (refine wpList_fop rfl _ _ _ _ _ rfl _ _ _ rfl rfl (by decide) _ ?_; intro _ _) | (refine upon_fop _ _ _ _ _ (by decide) ?_; intro _ _)) | (refine wpList_ftoi rfl 32 2 _ rfl (Option.isSome_iff_exists.2 ⟨_, Try.underlying32⟩) .i64 Try.underlying2 _ _ rfl (by exact Hti.out) ?_) | go_in)
  generalize hu : fop .mul .f64 (fop .mul .f64 (fop .sub .f64 4602678819172646912 f) 4618760256179416344) (fop .mul .f64 (fop .sub .f64 4602678819172646912 f) 4618760256179416344) = u
  have Hu := Lib.hid hu
  clear hu
  go_loopw [7, 8] (fun p k wr => ∃ (i n m : Nat) (kI : Int), i ≤ 8 ∧ Hid (kI = 8 - (i : Int)) ∧ p = .float .f64 (pick .f64 (ser u i) n) ∧ k = .int .i64 kI ∧ wr = w.drewN m) (fun _ k _ => (intOf k).toNat)
  case atStart => exact ⟨0, 0, _, 8, by omega, rfl, by rw [pick_not (show isN .f64 (ser u 0) = false from (by decide +kernel : isN .f64 one64 = false))]; rfl, rfl, rfl⟩
  case round =>
    obtain ⟨i, n, m, kI, hi, HK, rfl, rfl, rfl⟩ := hrel
    by_cases hlt8 : i < 8
    · have b1 : 1 ≤ kI := by have := HK.out; omega
      have b2 : kI ≤ 8 := by have := HK.out; omega
      have b3 : 0 ≤ 2 * kI * (2 * kI + 1) := Int.mul_nonneg (by omega) (by omega)
      have b4 : 2 * kI * (2 * kI + 1) ≤ 272 := Int.le_trans (Int.mul_le_mul (show 2 * kI ≤ 16 by omega) (show 2 * kI + 1 ≤ 17 by omega) (by omega) (by omega)) (by decide)
      have HD : Hid (den i = floatOfInt .f64 (2 * kI * (2 * kI + 1))) := by unfold Hid; rw [HK.out]; exact den_int i hlt8
      go_wp2_with (first | (refine wpList_fop rfl _ _ _ _ _ rfl _ _ _ rfl rfl (by decide) _ ?_; intro _ _) | (refine upon_fop _ _ _ _ _ (by decide) ?_; intro _ _))
      go_roundw
      case rel => exact ⟨i + 1, _, _, kI - 1, by omega, by have := HK.out; unfold Hid; omega, by rw [ser_step, HD.out]; rfl, rfl, rfl⟩
      case measure => simp [intOf]; omega
    · obtain rfl : i = 8 := by omega
      have b1 : kI < 1 := by have := HK.out; omega
      have b2 : 0 ≤ kI := by have := HK.out; omega
      go_wp2_with (first | (refine wpList_fop rfl _ _ _ _ _ rfl _ _ _ rfl rfl (by decide) _ ?_; intro _ _) | (refine upon_fop _ _ _ _ _ (by decide) ?_; intro _ _))
      go_ret
      rw [HF.out]
      unfold sinZ
      rw [Hu.out]
      exact ⟨_, _, rfl, rfl⟩
theorem c_l01SineWide_ftf (v f : Nat) (w : World) (j : Nat) (Hti : Hid (floatToIntVal .f64 v .i64 = some (ti v))) (Hf : Hid (partF v = f))
    (hs : (FloatKind.f64.format.order (fop .sub .f64 v v) 0 != some .eq) = false)
    (h1 : (FloatKind.f64.format.order v 4841369599423283200 == some .gt || FloatKind.f64.format.order v 4841369599423283200 == some .eq) = false)
    (h2 : (FloatKind.f64.format.order v 14064741636278059008 == some .lt || FloatKind.f64.format.order v 14064741636278059008 == some .eq) = false)
    {j2 : Nat} (hnan : isN .f64 v = false) (hf : fop .sub .f64 v (floatOfInt .f64 (ti v)) = f) (hlt : (FloatKind.f64.format.order f 0 == some .lt) = false)
    (hb : (FloatKind.f64.format.order f 4602678819172646912 == some .gt || FloatKind.f64.format.order f 4602678819172646912 == some .eq) = true)
    (hq : (FloatKind.f64.format.order (fop .sub .f64 f 4602678819172646912) 4598175219545276416 == some .gt) = false) : Calls Try.prog 121 #[.float .f64 (pick .f64 v j2)] (w.drewN j) (RetF .f64 (sinF v) w) := by
  have HF : Hid (sinF v = fneg .f64 (sinZ (fop .mul .f64 (fop .sub .f64 f 4602678819172646912) 4618760256179416344))) := by
    unfold Hid sinF lowB fold2 half64 quarter64 twopi64; rw [Hf.out, hb]; simp only [if_true, if_false, Bool.false_eq_true, hq]
  rw [pick_not hnan]
  go_enter Try.func121, Try.ntmps121
  go_wp2_with (first | (first | (refine wpList_fop rfl _ _ _ _ _ rfl _ _ _ rfl rfl (by decide) _ ?_; intro _ _) | (refine upon_fop _ _ _ _ _ (by decide) ?_; intro _ _)) | (refine wpList_ftoi rfl 32 2 _ rfl (Option.isSome_iff_exists.2 ⟨_, Try.underlying32⟩) .i64 Try.underlying2 _ _ rfl (by exact Hti.out) ?_) | go_in)
  generalize hu : fop .mul .f64 (fop .mul .f64 (fop .sub .f64 f 4602678819172646912) 4618760256179416344) (fop .mul .f64 (fop .sub .f64 f 4602678819172646912) 4618760256179416344) = u
  have Hu := Lib.hid hu
  clear hu
  go_loopw [7, 8] (fun p k wr => ∃ (i n m : Nat) (kI : Int), i ≤ 8 ∧ Hid (kI = 8 - (i : Int)) ∧ p = .float .f64 (pick .f64 (ser u i) n) ∧ k = .int .i64 kI ∧ wr = w.drewN m) (fun _ k _ => (intOf k).toNat)
  case atStart => exact ⟨0, 0, _, 8, by omega, rfl, by rw [pick_not (show isN .f64 (ser u 0) = false from (by decide +kernel : isN .f64 one64 = false))]; rfl, rfl, rfl⟩
  case round =>
    obtain ⟨i, n, m, kI, hi, HK, rfl, rfl, rfl⟩ := hrel
    by_cases hlt8 : i < 8
    · have b1 : 1 ≤ kI := by have := HK.out; omega
      have b2 : kI ≤ 8 := by have := HK.out; omega
      have b3 : 0 ≤ 2 * kI * (2 * kI + 1) := Int.mul_nonneg (by omega) (by omega)
      have b4 : 2 * kI * (2 * kI + 1) ≤ 272 := Int.le_trans (Int.mul_le_mul (show 2 * kI ≤ 16 by omega) (show 2 * kI + 1 ≤ 17 by omega) (by omega) (by omega)) (by decide)
      have HD : Hid (den i = floatOfInt .f64 (2 * kI * (2 * kI + 1))) := by unfold Hid; rw [HK.out]; exact den_int i hlt8
      go_wp2_with (first | (refine wpList_fop rfl _ _ _ _ _ rfl _ _ _ rfl rfl (by decide) _ ?_; intro _ _) | (refine upon_fop _ _ _ _ _ (by decide) ?_; intro _ _))
      go_roundw
      case rel => exact ⟨i + 1, _, _, kI - 1, by omega, by have := HK.out; unfold Hid; omega, by rw [ser_step, HD.out]; rfl, rfl, rfl⟩
      case measure => simp [intOf]; omega
    · obtain rfl : i = 8 := by omega
      have b1 : kI < 1 := by have := HK.out; omega
      have b2 : 0 ≤ kI := by have := HK.out; omega
      go_wp2_with (first | (refine wpList_fop rfl _ _ _ _ _ rfl _ _ _ rfl rfl (by decide) _ ?_; intro _ _) | (refine upon_fop _ _ _ _ _ (by decide) ?_; intro _ _))
      go_ret
      rw [HF.out]
      unfold sinZ
      rw [Hu.out]
      exact ⟨_, _, rfl, rfl⟩
theorem c_l01SineWide_ftt (v f : Nat) (w : World) (j : Nat) (Hti : Hid (floatToIntVal .f64 v .i64 = some (ti v))) (Hf : Hid (partF v = f))
    (hs : (FloatKind.f64.format.order (fop .sub .f64 v v) 0 != some .eq) = false)
    (h1 : (FloatKind.f64.format.order v 4841369599423283200 == some .gt || FloatKind.f64.format.order v 4841369599423283200 == some .eq) = false)
    (h2 : (FloatKind.f64.format.order v 14064741636278059008 == some .lt || FloatKind.f64.format.order v 14064741636278059008 == some .eq) = false)
    {j2 : Nat} (hnan : isN .f64 v = false) (hf : fop .sub .f64 v (floatOfInt .f64 (ti v)) = f) (hlt : (FloatKind.f64.format.order f 0 == some .lt) = false)
    (hb : (FloatKind.f64.format.order f 4602678819172646912 == some .gt || FloatKind.f64.format.order f 4602678819172646912 == some .eq) = true)
    (hq : (FloatKind.f64.format.order (fop .sub .f64 f 4602678819172646912) 4598175219545276416 == some .gt) = true) : Calls Try.prog 121 #[.float .f64 (pick .f64 v j2)] (w.drewN j) (RetF .f64 (sinF v) w) := by
  have HF : Hid (sinF v = fneg .f64 (sinZ (fop .mul .f64 (fop .sub .f64 4602678819172646912 (fop .sub .f64 f 4602678819172646912)) 4618760256179416344))) := by
    unfold Hid sinF lowB fold2 half64 quarter64 twopi64; rw [Hf.out, hb]; simp only [if_true, if_false, Bool.false_eq_true, hq]
  rw [pick_not hnan]
  go_enter Try.func121, Try.ntmps121
  go_wp2_with (first | (first | (refine wpList_fop rfl _ _ _ _ _ rfl _ _ _ rfl rfl (by decide) _ ?_; intro _ _) | (refine upon_fop _ _ _ _ _ (by decide) ?_; intro _ _)) | (refine wpList_ftoi rfl 32 2 _ rfl (Option.isSome_iff_exists.2 ⟨_, Try.underlying32⟩) .i64 Try.underlying2 _ _ rfl (by exact Hti.out) ?_) | go_in)
  generalize hu : fop .mul .f64 (fop .mul .f64 (fop .sub .f64 4602678819172646912 (fop .sub .f64 f 4602678819172646912)) 4618760256179416344) (fop .mul .f64 (fop .sub .f64 4602678819172646912 (fop .sub .f64 f 4602678819172646912)) 4618760256179416344) = u
  have Hu := Lib.hid hu
  clear hu
  go_loopw [7, 8] (fun p k wr => ∃ (i n m : Nat) (kI : Int), i ≤ 8 ∧ Hid (kI = 8 - (i : Int)) ∧ p = .float .f64 (pick .f64 (ser u i) n) ∧ k = .int .i64 kI ∧ wr = w.drewN m) (fun _ k _ => (intOf k).toNat)
  case atStart => exact ⟨0, 0, _, 8, by omega, rfl, by rw [pick_not (show isN .f64 (ser u 0) = false from (by decide +kernel : isN .f64 one64 = false))]; rfl, rfl, rfl⟩
  case round =>
    obtain ⟨i, n, m, kI, hi, HK, rfl, rfl, rfl⟩ := hrel
    by_cases hlt8 : i < 8
    · have b1 : 1 ≤ kI := by have := HK.out; omega
      have b2 : kI ≤ 8 := by have := HK.out; omega
      have b3 : 0 ≤ 2 * kI * (2 * kI + 1) := Int.mul_nonneg (by omega) (by omega)
      have b4 : 2 * kI * (2 * kI + 1) ≤ 272 := Int.le_trans (Int.mul_le_mul (show 2 * kI ≤ 16 by omega) (show 2 * kI + 1 ≤ 17 by omega) (by omega) (by omega)) (by decide)
      have HD : Hid (den i = floatOfInt .f64 (2 * kI * (2 * kI + 1))) := by unfold Hid; rw [HK.out]; exact den_int i hlt8
      go_wp2_with (first | (refine wpList_fop rfl _ _ _ _ _ rfl _ _ _ rfl rfl (by decide) _ ?_; intro _ _) | (refine upon_fop _ _ _ _ _ (by decide) ?_; intro _ _))
      go_roundw
      case rel => exact ⟨i + 1, _, _, kI - 1, by omega, by have := HK.out; unfold Hid; omega, by rw [ser_step, HD.out]; rfl, rfl, rfl⟩
      case measure => simp [intOf]; omega
    · obtain rfl : i = 8 := by omega
      have b1 : kI < 1 := by have := HK.out; omega
      have b2 : 0 ≤ kI := by have := HK.out; omega
      go_wp2_with (first | (refine wpList_fop rfl _ _ _ _ _ rfl _ _ _ rfl rfl (by decide) _ ?_; intro _ _) | (refine upon_fop _ _ _ _ _ (by decide) ?_; intro _ _))
      go_ret
      rw [HF.out]
      unfold sinZ
      rw [Hu.out]
      exact ⟨_, _, rfl, rfl⟩
theorem c_l01SineWide_tff (v f : Nat) (w : World) (j : Nat) (Hti : Hid (floatToIntVal .f64 v .i64 = some (ti v))) (Hf : Hid (partF v = f))
    (hs : (FloatKind.f64.format.order (fop .sub .f64 v v) 0 != some .eq) = false)
    (h1 : (FloatKind.f64.format.order v 4841369599423283200 == some .gt || FloatKind.f64.format.order v 4841369599423283200 == some .eq) = false)
    (h2 : (FloatKind.f64.format.order v 14064741636278059008 == some .lt || FloatKind.f64.format.order v 14064741636278059008 == some .eq) = false)
    {j2 : Nat} (hnan : isN .f64 v = false) (hf : fop .add .f64 (fop .sub .f64 v (floatOfInt .f64 (ti v))) 4607182418800017408 = f) (hlt : (FloatKind.f64.format.order (fop .sub .f64 v (floatOfInt .f64 (ti v))) 0 == some .lt) = true)
    (hb : (FloatKind.f64.format.order f 4602678819172646912 == some .gt || FloatKind.f64.format.order f 4602678819172646912 == some .eq) = false)
    (hq : (FloatKind.f64.format.order f 4598175219545276416 == some .gt) = false) : Calls Try.prog 121 #[.float .f64 (pick .f64 v j2)] (w.drewN j) (RetF .f64 (sinF v) w) := by
  have HF : Hid (sinF v = (sinZ (fop .mul .f64 f 4618760256179416344))) := by
    unfold Hid sinF lowB fold2 half64 quarter64 twopi64; rw [Hf.out, hb]; simp only [if_true, if_false, Bool.false_eq_true, hq]
  rw [pick_not hnan]
  go_enter Try.func121, Try.ntmps121
  go_wp2_with (first | (first | (refine wpList_fop rfl _ _ _ _ _ rfl _ _ _ rfl rfl (by decide) _ ?_; intro _ _) | (refine upon_fop _ _ _ _ _ (by decide) ?_; intro _ _)) | (refine wpList_ftoi rfl 32 2 _ rfl (Option.isSome_iff_exists.2 ⟨_, Try.underlying32⟩) .i64 Try.underlying2 _ _ rfl (by exact Hti.out) ?_) | go_in)
  generalize hu : fop .mul .f64 (fop .mul .f64 f 4618760256179416344) (fop .mul .f64 f 4618760256179416344) = u
  have Hu := Lib.hid hu
  clear hu
  go_loopw [7, 8] (fun p k wr => ∃ (i n m : Nat) (kI : Int), i ≤ 8 ∧ Hid (kI = 8 - (i : Int)) ∧ p = .float .f64 (pick .f64 (ser u i) n) ∧ k = .int .i64 kI ∧ wr = w.drewN m) (fun _ k _ => (intOf k).toNat)
  case atStart => exact ⟨0, 0, _, 8, by omega, rfl, by rw [pick_not (show isN .f64 (ser u 0) = false from (by decide +kernel : isN .f64 one64 = false))]; rfl, rfl, rfl⟩
  case round =>
    obtain ⟨i, n, m, kI, hi, HK, rfl, rfl, rfl⟩ := hrel
    by_cases hlt8 : i < 8
    · have b1 : 1 ≤ kI := by have := HK.out; omega
      have b2 : kI ≤ 8 := by have := HK.out; omega
      have b3 : 0 ≤ 2 * kI * (2 * kI + 1) := Int.mul_nonneg (by omega) (by omega)
      have b4 : 2 * kI * (2 * kI + 1) ≤ 272 := Int.le_trans (Int.mul_le_mul (show 2 * kI ≤ 16 by omega) (show 2 * kI + 1 ≤ 17 by omega) (by omega) (by omega)) (by decide)
      have HD : Hid (den i = floatOfInt .f64 (2 * kI * (2 * kI + 1))) := by unfold Hid; rw [HK.out]; exact den_int i hlt8
      go_wp2_with (first | (refine wpList_fop rfl _ _ _ _ _ rfl _ _ _ rfl rfl (by decide) _ ?_; intro _ _) | (refine upon_fop _ _ _ _ _ (by decide) ?_; intro _ _))
      go_roundw
      case rel => exact ⟨i + 1, _, _, kI - 1, by omega, by have := HK.out; unfold Hid; omega, by rw [ser_step, HD.out]; rfl, rfl, rfl⟩
      case measure => simp [intOf]; omega
    · obtain rfl : i = 8 := by omega
      have b1 : kI < 1 := by have := HK.out; omega
      have b2 : 0 ≤ kI := by have := HK.out; omega
      go_wp2_with (first | (refine wpList_fop rfl _ _ _ _ _ rfl _ _ _ rfl rfl (by decide) _ ?_; intro _ _) | (refine upon_fop _ _ _ _ _ (by decide) ?_; intro _ _))
      go_ret
      rw [HF.out]
      unfold sinZ
      rw [Hu.out]
      exact ⟨_, _, rfl, rfl⟩
theorem c_l01SineWide_tft (v f : Nat) (w : World) (j : Nat) (Hti : Hid (floatToIntVal .f64 v .i64 = some (ti v))) (Hf : Hid (partF v = f))
    (hs : (FloatKind.f64.format.order (fop .sub .f64 v v) 0 != some .eq) = false)
    (h1 : (FloatKind.f64.format.order v 4841369599423283200 == some .gt || FloatKind.f64.format.order v 4841369599423283200 == some .eq) = false)
    (h2 : (FloatKind.f64.format.order v 14064741636278059008 == some .lt || FloatKind.f64.format.order v 14064741636278059008 == some .eq) = false)
    {j2 : Nat} (hnan : isN .f64 v = false) (hf : fop .add .f64 (fop .sub .f64 v (floatOfInt .f64 (ti v))) 4607182418800017408 = f) (hlt : (FloatKind.f64.format.order (fop .sub .f64 v (floatOfInt .f64 (ti v))) 0 == some .lt) = true)
    (hb : (FloatKind.f64.format.order f 4602678819172646912 == some .gt || FloatKind.f64.format.order f 4602678819172646912 == some .eq) = false)
    (hq : (FloatKind.f64.format.order f 4598175219545276416 == some .gt) = true) : Calls Try.prog 121 #[.float .f64 (pick .f64 v j2)] (w.drewN j) (RetF .f64 (sinF v) w) := by
  have HF : Hid (sinF v = (sinZ (fop .mul .f64 (fop .sub .f64 4602678819172646912 f) 4618760256179416344))) := by
    unfold Hid sinF lowB fold2 half64 quarter64 twopi64; rw [Hf.out, hb]; simp only [if_true, if_false, Bool.false_eq_true, hq]
  rw [pick_not hnan]
  go_enter Try.func121, Try.ntmps121
  go_wp2_with (first | (first | (refine wpList_fop rfl _ _ _ _ _ rfl _ _ _ rfl rfl (by decide) _ ?_; intro _ _) | (refine upon_fop _ _ _ _ _ (by decide) ?_; intro _ _)) | (refine wpList_ftoi rfl 32 2 _ rfl (Option.isSome_iff_exists.2 ⟨_, Try.underlying32⟩) .i64 Try.underlying2 _ _ rfl (by exact Hti.out) ?_) | go_in)
  generalize hu : fop .mul .f64 (fop .mul .f64 (fop .sub .f64 4602678819172646912 f) 4618760256179416344) (fop .mul .f64 (fop .sub .f64 4602678819172646912 f) 4618760256179416344) = u
  have Hu := Lib.hid hu
  clear hu
  go_loopw [7, 8] (fun p k wr => ∃ (i n m : Nat) (kI : Int), i ≤ 8 ∧ Hid (kI = 8 - (i : Int)) ∧ p = .float .f64 (pick .f64 (ser u i) n) ∧ k = .int .i64 kI ∧ wr = w.drewN m) (fun _ k _ => (intOf k).toNat)
  case atStart => exact ⟨0, 0, _, 8, by omega, rfl, by rw [pick_not (show isN .f64 (ser u 0) = false from (by decide +kernel : isN .f64 one64 = false))]; rfl, rfl, rfl⟩
  case round =>
    obtain ⟨i, n, m, kI, hi, HK, rfl, rfl, rfl⟩ := hrel
    by_cases hlt8 : i < 8
    · have b1 : 1 ≤ kI := by have := HK.out; omega
      have b2 : kI ≤ 8 := by have := HK.out; omega
      have b3 : 0 ≤ 2 * kI * (2 * kI + 1) := Int.mul_nonneg (by omega) (by omega)
      have b4 : 2 * kI * (2 * kI + 1) ≤ 272 := Int.le_trans (Int.mul_le_mul (show 2 * kI ≤ 16 by omega) (show 2 * kI + 1 ≤ 17 by omega) (by omega) (by omega)) (by decide)
      have HD : Hid (den i = floatOfInt .f64 (2 * kI * (2 * kI + 1))) := by unfold Hid; rw [HK.out]; exact den_int i hlt8
      go_wp2_with (first | (refine wpList_fop rfl _ _ _ _ _ rfl _ _ _ rfl rfl (by decide) _ ?_; intro _ _) | (refine upon_fop _ _ _ _ _ (by decide) ?_; intro _ _))
      go_roundw
      case rel => exact ⟨i + 1, _, _, kI - 1, by omega, by have := HK.out; unfold Hid; omega, by rw [ser_step, HD.out]; rfl, rfl, rfl⟩
      case measure => simp [intOf]; omega
    · obtain rfl : i = 8 := by omega
      have b1 : kI < 1 := by have := HK.out; omega
      have b2 : 0 ≤ kI := by have := HK.out; omega
      go_wp2_with (first | (refine wpList_fop rfl _ _ _ _ _ rfl _ _ _ rfl rfl (by decide) _ ?_; intro _ _) | (refine upon_fop _ _ _ _ _ (by decide) ?_; intro _ _))
      go_ret
      rw [HF.out]
      unfold sinZ
      rw [Hu.out]
      exact ⟨_, _, rfl, rfl⟩
theorem c_l01SineWide_ttf (v f : Nat) (w : World) (j : Nat) (Hti : Hid (floatToIntVal .f64 v .i64 = some (ti v))) (Hf : Hid (partF v = f))
    (hs : (FloatKind.f64.format.order (fop .sub .f64 v v) 0 != some .eq) = false)
    (h1 : (FloatKind.f64.format.order v 4841369599423283200 == some .gt || FloatKind.f64.format.order v 4841369599423283200 == some .eq) = false)
    (h2 : (FloatKind.f64.format.order v 14064741636278059008 == some .lt || FloatKind.f64.format.order v 14064741636278059008 == some .eq) = false)
    {j2 : Nat} (hnan : isN .f64 v = false) (hf : fop .add .f64 (fop .sub .f64 v (floatOfInt .f64 (ti v))) 4607182418800017408 = f) (hlt : (FloatKind.f64.format.order (fop .sub .f64 v (floatOfInt .f64 (ti v))) 0 == some .lt) = true)
    (hb : (FloatKind.f64.format.order f 4602678819172646912 == some .gt || FloatKind.f64.format.order f 4602678819172646912 == some .eq) = true)
    (hq : (FloatKind.f64.format.order (fop .sub .f64 f 4602678819172646912) 4598175219545276416 == some .gt) = false) : Calls Try.prog 121 #[.float .f64 (pick .f64 v j2)] (w.drewN j) (RetF .f64 (sinF v) w) := by
  have HF : Hid (sinF v = fneg .f64 (sinZ (fop .mul .f64 (fop .sub .f64 f 4602678819172646912) 4618760256179416344))) := by
    unfold Hid sinF lowB fold2 half64 quarter64 twopi64; rw [Hf.out, hb]; simp only [if_true, if_false, Bool.false_eq_true, hq]
  rw [pick_not hnan]
  go_enter Try.func121, Try.ntmps121
  go_wp2_with (first | (first | (refine wpList_fop rfl _ _ _ _ _ rfl _ _ _ rfl rfl (by decide) _ ?_; intro _ _) | (refine upon_fop _ _ _ _ _ (by decide) ?_; intro _ _)) | (refine wpList_ftoi rfl 32 2 _ rfl (Option.isSome_iff_exists.2 ⟨_, Try.underlying32⟩) .i64 Try.underlying2 _ _ rfl (by exact Hti.out) ?_) | go_in)
  generalize hu : fop .mul .f64 (fop .mul .f64 (fop .sub .f64 f 4602678819172646912) 4618760256179416344) (fop .mul .f64 (fop .sub .f64 f 4602678819172646912) 4618760256179416344) = u
  have Hu := Lib.hid hu
  clear hu
  go_loopw [7, 8] (fun p k wr => ∃ (i n m : Nat) (kI : Int), i ≤ 8 ∧ Hid (kI = 8 - (i : Int)) ∧ p = .float .f64 (pick .f64 (ser u i) n) ∧ k = .int .i64 kI ∧ wr = w.drewN m) (fun _ k _ => (intOf k).toNat)
  case atStart => exact ⟨0, 0, _, 8, by omega, rfl, by rw [pick_not (show isN .f64 (ser u 0) = false from (by decide +kernel : isN .f64 one64 = false))]; rfl, rfl, rfl⟩
  case round =>
    obtain ⟨i, n, m, kI, hi, HK, rfl, rfl, rfl⟩ := hrel
    by_cases hlt8 : i < 8
    · have b1 : 1 ≤ kI := by have := HK.out; omega
      have b2 : kI ≤ 8 := by have := HK.out; omega
      have b3 : 0 ≤ 2 * kI * (2 * kI + 1) := Int.mul_nonneg (by omega) (by omega)
      have b4 : 2 * kI * (2 * kI + 1) ≤ 272 := Int.le_trans (Int.mul_le_mul (show 2 * kI ≤ 16 by omega) (show 2 * kI + 1 ≤ 17 by omega) (by omega) (by omega)) (by decide)
      have HD : Hid (den i = floatOfInt .f64 (2 * kI * (2 * kI + 1))) := by unfold Hid; rw [HK.out]; exact den_int i hlt8
      go_wp2_with (first | (refine wpList_fop rfl _ _ _ _ _ rfl _ _ _ rfl rfl (by decide) _ ?_; intro _ _) | (refine upon_fop _ _ _ _ _ (by decide) ?_; intro _ _))
      go_roundw
      case rel => exact ⟨i + 1, _, _, kI - 1, by omega, by have := HK.out; unfold Hid; omega, by rw [ser_step, HD.out]; rfl, rfl, rfl⟩
      case measure => simp [intOf]; omega
    · obtain rfl : i = 8 := by omega
      have b1 : kI < 1 := by have := HK.out; omega
      have b2 : 0 ≤ kI := by have := HK.out; omega
      go_wp2_with (first | (refine wpList_fop rfl _ _ _ _ _ rfl _ _ _ rfl rfl (by decide) _ ?_; intro _ _) | (refine upon_fop _ _ _ _ _ (by decide) ?_; intro _ _))
      go_ret
      rw [HF.out]
      unfold sinZ
      rw [Hu.out]
      exact ⟨_, _, rfl, rfl⟩
theorem c_l01SineWide_ttt (v f : Nat) (w : World) (j : Nat) (Hti : Hid (floatToIntVal .f64 v .i64 = some (ti v))) (Hf : Hid (partF v = f))
    (hs : (FloatKind.f64.format.order (fop .sub .f64 v v) 0 != some .eq) = false)
    (h1 : (FloatKind.f64.format.order v 4841369599423283200 == some .gt || FloatKind.f64.format.order v 4841369599423283200 == some .eq) = false)
    (h2 : (FloatKind.f64.format.order v 14064741636278059008 == some .lt || FloatKind.f64.format.order v 14064741636278059008 == some .eq) = false)
    {j2 : Nat} (hnan : isN .f64 v = false) (hf : fop .add .f64 (fop .sub .f64 v (floatOfInt .f64 (ti v))) 4607182418800017408 = f) (hlt : (FloatKind.f64.format.order (fop .sub .f64 v (floatOfInt .f64 (ti v))) 0 == some .lt) = true)
    (hb : (FloatKind.f64.format.order f 4602678819172646912 == some .gt || FloatKind.f64.format.order f 4602678819172646912 == some .eq) = true)
    (hq : (FloatKind.f64.format.order (fop .sub .f64 f 4602678819172646912) 4598175219545276416 == some .gt) = true) : Calls Try.prog 121 #[.float .f64 (pick .f64 v j2)] (w.drewN j) (RetF .f64 (sinF v) w) := by
  have HF : Hid (sinF v = fneg .f64 (sinZ (fop .mul .f64 (fop .sub .f64 4602678819172646912 (fop .sub .f64 f 4602678819172646912)) 4618760256179416344))) := by
    unfold Hid sinF lowB fold2 half64 quarter64 twopi64; rw [Hf.out, hb]; simp only [if_true, if_false, Bool.false_eq_true, hq]
  rw [pick_not hnan]
  go_enter Try.func121, Try.ntmps121
  go_wp2_with (first | (first | (refine wpList_fop rfl _ _ _ _ _ rfl _ _ _ rfl rfl (by decide) _ ?_; intro _ _) | (refine upon_fop _ _ _ _ _ (by decide) ?_; intro _ _)) | (refine wpList_ftoi rfl 32 2 _ rfl (Option.isSome_iff_exists.2 ⟨_, Try.underlying32⟩) .i64 Try.underlying2 _ _ rfl (by exact Hti.out) ?_) | go_in)
  generalize hu : fop .mul .f64 (fop .mul .f64 (fop .sub .f64 4602678819172646912 (fop .sub .f64 f 4602678819172646912)) 4618760256179416344) (fop .mul .f64 (fop .sub .f64 4602678819172646912 (fop .sub .f64 f 4602678819172646912)) 4618760256179416344) = u
  have Hu := Lib.hid hu
  clear hu
  go_loopw [7, 8] (fun p k wr => ∃ (i n m : Nat) (kI : Int), i ≤ 8 ∧ Hid (kI = 8 - (i : Int)) ∧ p = .float .f64 (pick .f64 (ser u i) n) ∧ k = .int .i64 kI ∧ wr = w.drewN m) (fun _ k _ => (intOf k).toNat)
  case atStart => exact ⟨0, 0, _, 8, by omega, rfl, by rw [pick_not (show isN .f64 (ser u 0) = false from (by decide +kernel : isN .f64 one64 = false))]; rfl, rfl, rfl⟩
  case round =>
    obtain ⟨i, n, m, kI, hi, HK, rfl, rfl, rfl⟩ := hrel
    by_cases hlt8 : i < 8
    · have b1 : 1 ≤ kI := by have := HK.out; omega
      have b2 : kI ≤ 8 := by have := HK.out; omega
      have b3 : 0 ≤ 2 * kI * (2 * kI + 1) := Int.mul_nonneg (by omega) (by omega)
      have b4 : 2 * kI * (2 * kI + 1) ≤ 272 := Int.le_trans (Int.mul_le_mul (show 2 * kI ≤ 16 by omega) (show 2 * kI + 1 ≤ 17 by omega) (by omega) (by omega)) (by decide)
      have HD : Hid (den i = floatOfInt .f64 (2 * kI * (2 * kI + 1))) := by unfold Hid; rw [HK.out]; exact den_int i hlt8
      go_wp2_with (first | (refine wpList_fop rfl _ _ _ _ _ rfl _ _ _ rfl rfl (by decide) _ ?_; intro _ _) | (refine upon_fop _ _ _ _ _ (by decide) ?_; intro _ _))
      go_roundw
      case rel => exact ⟨i + 1, _, _, kI - 1, by omega, by have := HK.out; unfold Hid; omega, by rw [ser_step, HD.out]; rfl, rfl, rfl⟩
      case measure => simp [intOf]; omega
    · obtain rfl : i = 8 := by omega
      have b1 : kI < 1 := by have := HK.out; omega
      have b2 : 0 ≤ kI := by have := HK.out; omega
      go_wp2_with (first | (refine wpList_fop rfl _ _ _ _ _ rfl _ _ _ rfl rfl (by decide) _ ?_; intro _ _) | (refine upon_fop _ _ _ _ _ (by decide) ?_; intro _ _))
      go_ret
      rw [HF.out]
      unfold sinZ
      rw [Hu.out]
      exact ⟨_, _, rfl, rfl⟩
/-! ### l01SineAll -/
theorem c_l01Sine_ok (v : Nat) {j2 : Nat} (w : World) (j : Nat) (hti : floatToIntVal .f64 v .i64 = some (ti v)) (hnan : isN .f64 v = false)
    (hs : (FloatKind.f64.format.order (fop .sub .f64 v v) 0 != some .eq) = false)
    (h1 : (FloatKind.f64.format.order v 4841369599423283200 == some .gt || FloatKind.f64.format.order v 4841369599423283200 == some .eq) = false)
    (h2 : (FloatKind.f64.format.order v 14064741636278059008 == some .lt || FloatKind.f64.format.order v 14064741636278059008 == some .eq) = false) :
    Calls Try.prog 121 #[.float .f64 (pick .f64 v j2)] (w.drewN j) (RetF .f64 (sinF v) w) := by
  cases hl : (FloatKind.f64.format.order (fop .sub .f64 v (floatOfInt .f64 (ti v))) 0 == some .lt)
  · have e : fop .sub .f64 v (floatOfInt .f64 (ti v)) = partF v := by unfold partF; rw [hl, if_neg (by decide)]
    have hl' := hl
    rw [e] at hl'
    cases hb : (FloatKind.f64.format.order (partF v) 4602678819172646912 == some .gt || FloatKind.f64.format.order (partF v) 4602678819172646912 == some .eq)
    · cases hq : (FloatKind.f64.format.order (partF v) 4598175219545276416 == some .gt)
      · exact c_l01SineWide_fff v _ w j hti rfl hs h1 h2 hnan e hl' hb hq
      · exact c_l01SineWide_fft v _ w j hti rfl hs h1 h2 hnan e hl' hb hq
    · cases hq : (FloatKind.f64.format.order (fop .sub .f64 (partF v) 4602678819172646912) 4598175219545276416 == some .gt)
      · exact c_l01SineWide_ftf v _ w j hti rfl hs h1 h2 hnan e hl' hb hq
      · exact c_l01SineWide_ftt v _ w j hti rfl hs h1 h2 hnan e hl' hb hq
  · have e : fop .add .f64 (fop .sub .f64 v (floatOfInt .f64 (ti v))) 4607182418800017408 = partF v := by unfold partF; rw [hl, if_pos rfl]; rfl
    cases hb : (FloatKind.f64.format.order (partF v) 4602678819172646912 == some .gt || FloatKind.f64.format.order (partF v) 4602678819172646912 == some .eq)
    · cases hq : (FloatKind.f64.format.order (partF v) 4598175219545276416 == some .gt)
      · exact c_l01SineWide_tff v _ w j hti rfl hs h1 h2 hnan e hl hb hq
      · exact c_l01SineWide_tft v _ w j hti rfl hs h1 h2 hnan e hl hb hq
    · cases hq : (FloatKind.f64.format.order (fop .sub .f64 (partF v) 4602678819172646912) 4598175219545276416 == some .gt)
      · exact c_l01SineWide_ttf v _ w j hti rfl hs h1 h2 hnan e hl hb hq
      · exact c_l01SineWide_ttt v _ w j hti rfl hs h1 h2 hnan e hl hb hq

/-! ### f64from -/
@[go_sem] theorem e_f64from (n : Int) (w : World) : (callFunc 144 #[.int .u64 n]).run Try.prog w = .ok (.value (.float .f64 n.toNat)) w := by kernel_rfl
/-! ### mathNaN -/
theorem c_NaN (w : World) (j : Nat) : Calls Try.prog 139 #[] (w.drewN j) (RetF .f64 (qn .f64) w) := by
  obtain ⟨n, hn⟩ := raw_nan (b := 9221120237041090561) (by decide +kernel) (by decide +kernel)
  go_enter Try.func139, Try.ntmps139
  go_wp2
  go_ret
  exact ⟨n, _, by rw [← hn]; rfl, rfl⟩
/-! ### sSine -/
theorem c_l01Sine_nan (v j2 : Nat) (w : World) (j : Nat) (hs : (FloatKind.f64.format.order (fop .sub .f64 v v) 0 != some .eq) = true) : Calls Try.prog 121 #[.float .f64 (pick .f64 v j2)] (w.drewN j) (RetF .f64 (qn .f64) w) := by
  go_enter Try.func121, Try.ntmps121
  go_wp2_with (first | (first | (refine wpList_fop rfl _ _ _ _ _ rfl _ _ _ rfl rfl (by decide) _ ?_; intro _ _) | (refine upon_fop _ _ _ _ _ (by decide) ?_; intro _ _)) | (go_at_call 139; refine (c_NaN _ _).mono ?_; rintro _ _ ⟨_, _, rfl, rfl⟩))
  go_ret
  exact ⟨_, _, rfl, rfl⟩
theorem c_l01Sine_big (v j2 : Nat) (w : World) (j : Nat) (hs : (FloatKind.f64.format.order (fop .sub .f64 v v) 0 != some .eq) = false)
    (h : ((FloatKind.f64.format.order v 4841369599423283200 == some .gt || FloatKind.f64.format.order v 4841369599423283200 == some .eq) ||
     (FloatKind.f64.format.order v 14064741636278059008 == some .lt || FloatKind.f64.format.order v 14064741636278059008 == some .eq)) = true) : Calls Try.prog 121 #[.float .f64 (pick .f64 v j2)] (w.drewN j) (RetV (.float .f64 0) w) := by
  cases h1 : (FloatKind.f64.format.order v 4841369599423283200 == some .gt || FloatKind.f64.format.order v 4841369599423283200 == some .eq)
  · rw [h1, Bool.false_or] at h
    go_enter Try.func121, Try.ntmps121
    go_wp2_with (first | (first | (refine wpList_fop rfl _ _ _ _ _ rfl _ _ _ rfl rfl (by decide) _ ?_; intro _ _) | (refine upon_fop _ _ _ _ _ (by decide) ?_; intro _ _)))
    go_ret
    exact ⟨_, rfl, rfl⟩
  · clear h
    go_enter Try.func121, Try.ntmps121
    go_wp2_with (first | (first | (refine wpList_fop rfl _ _ _ _ _ rfl _ _ _ rfl rfl (by decide) _ ?_; intro _ _) | (refine upon_fop _ _ _ _ _ (by decide) ?_; intro _ _)))
    go_ret
    exact ⟨_, rfl, rfl⟩
theorem c_l01Sine (v n : Nat) (w : World) (j : Nat) (hv : v < 2 ^ FloatKind.f32.format.width) : Calls Try.prog 83 #[.float .f32 (pick .f32 v n)] (w.drewN j) (RetF .f32 (sineT v) w) := by
  have hss := sub_self_zero .f64 (cvU v)
  rw [finB_cvU] at hss
  cases hf : finB .f32 v
  · have e : sineT v = cvN (qn .f64) := by unfold sineT; rw [hf, if_neg (by decide)]; exact (cvN_qn (isN_qn .f64)).symm
    rw [e]
    have hs : (FloatKind.f64.format.order (fop .sub .f64 (cvU v) (cvU v)) 0 != some .eq) = true := by rw [bne, hss, hf]; rfl
    have HS := Lib.hid hs
    clear hss hs
    go_enter Try.func83, Try.ntmps83
    go_wp2_with (first | (refine wpList_cvU rfl 26 32 _ rfl (Option.isSome_iff_exists.2 ⟨_, Try.underlying26⟩) Try.underlying32 _ rfl _ ?_; intro _ _) | (refine wpList_cvN rfl 32 26 _ rfl (Option.isSome_iff_exists.2 ⟨_, Try.underlying32⟩) Try.underlying26 _ rfl _ (by exact .inl (by rw [isN_pick]; exact isN_qn _)) ?_; intro _ _) | (go_at_call 121; refine (c_l01Sine_nan _ _ _ _ HS.out).mono ?_; rintro _ _ ⟨_, _, rfl, rfl⟩) | go_in)
    go_ret
    exact ⟨_, _, rfl, rfl⟩
  · have hs : (FloatKind.f64.format.order (fop .sub .f64 (cvU v) (cvU v)) 0 != some .eq) = false := by rw [bne, hss, hf]; rfl
    have hn : isN .f64 (cvU v) = false := by rw [isN_cvU]; exact notN_fin (k := .f32) (of_decide_eq_true hf)
    obtain ⟨g1, g2⟩ := big_abs (cvU v) hn
    cases hb : decide (4841369599423283200 ≤ rung Ieee.double (cvU v))
    · obtain ⟨k1, k2, k3⟩ := fin_small hf hb
      have e : sineT v = cvN (sinF (cvU v)) := by unfold sineT; rw [hf, if_pos rfl, hb, if_neg (by decide)]
      rw [e]
      rw [g2, hb] at g1
      have h12 := Bool.or_eq_false_iff.1 g1.symm
      have H := Lib.hid (And.intro hs (And.intro h12.1 (And.intro h12.2 (And.intro k2 (And.intro k1 k3)))))
      clear hss hs g1 g2 k1 k2 k3 h12 hn
      go_enter Try.func83, Try.ntmps83
      go_wp2_with (first | (refine wpList_cvU rfl 26 32 _ rfl (Option.isSome_iff_exists.2 ⟨_, Try.underlying26⟩) Try.underlying32 _ rfl _ ?_; intro _ _) | (refine wpList_cvN rfl 32 26 _ rfl (Option.isSome_iff_exists.2 ⟨_, Try.underlying32⟩) Try.underlying26 _ rfl _ (by rw [Fits_pick]; exact Fits_sin H.out.2.2.2.2.2) ?_; intro _ _) | (go_at_call 121; refine (c_l01Sine_ok _ _ _ H.out.2.2.2.1 H.out.2.2.2.2.1 H.out.1 H.out.2.1 H.out.2.2.1).mono ?_; rintro _ _ ⟨_, _, rfl, rfl⟩) | go_in)
      go_ret
      exact ⟨_, _, rfl, rfl⟩
    · have e : sineT v = 0 := by unfold sineT; rw [hf, if_pos rfl, hb, if_pos rfl]
      rw [e]
      rw [g2, hb] at g1
      have H := Lib.hid (And.intro hs g1.symm)
      have hz : cvN 0 = 0 := by decide +kernel
      clear hss hs g1 g2 hn
      go_enter Try.func83, Try.ntmps83
      go_wp2_with (first | (refine wpList_cvU rfl 26 32 _ rfl (Option.isSome_iff_exists.2 ⟨_, Try.underlying26⟩) Try.underlying32 _ rfl _ ?_; intro _ _) | (refine wpList_cvN rfl 32 26 _ rfl (Option.isSome_iff_exists.2 ⟨_, Try.underlying32⟩) Try.underlying26 _ rfl _ (by exact Fits_of_Bd (Bd_const (by decide +kernel))) ?_; intro _ _) | (go_at_call 121; refine (c_l01Sine_big _ _ _ _ H.out.1 H.out.2).mono ?_; rintro _ _ ⟨_, rfl, rfl⟩) | go_in)
      go_ret
      exact ⟨_, _, rfl, rfl⟩
/-! ### l06Cosine -/
theorem c_l06Cosine (v n : Nat) (w : World) (j : Nat) : Calls Try.prog 82 #[.float .f32 (pick .f32 v n)] (w.drewN j) (RetF .f32 (cosT v) w) := by
  unfold cosT
  go_enter Try.func82, Try.ntmps82
  go_wp2_with (first | (first | (refine wpList_fop rfl _ _ _ _ _ rfl _ _ _ rfl rfl (by decide) _ ?_; intro _ _) | (refine upon_fop _ _ _ _ _ (by decide) ?_; intro _ _)) | (go_at_call 83; refine (c_l01Sine _ _ _ _ (fop_lt _ _ _ _)).mono ?_; rintro _ _ ⟨_, _, rfl, rfl⟩))
  go_ret
  exact ⟨_, _, rfl, rfl⟩
theorem c_l06Cosine0 (v n : Nat) (w : World) : Calls Try.prog 82 #[.float .f32 (pick .f32 v n)] w (RetF .f32 (cosT v) w) := by
  have h := c_l06Cosine v n w 0
  rwa [w.drewN_zero] at h
theorem c_l01Sine0 (v n : Nat) (w : World) (hv : v < 2 ^ FloatKind.f32.format.width) : Calls Try.prog 83 #[.float .f32 (pick .f32 v n)] w (RetF .f32 (sineT v) w) := by
  have h := c_l01Sine v n w 0 hv
  rwa [w.drewN_zero] at h
/-! ### l06Solid -/
theorem c_l06Solid (Wn Hn y x : Nat) (sl : Value) (w : World) (hv : Var w x #[.int .i64 (Wn : Int), .int .i64 (Hn : Int), sl]) (hy : y < Hn) (hH : Hn ≤ 16) : Calls Try.prog 53 #[.pointer (some ⟨x, 0, none⟩), .int .i64 (y : Int)] w (RetN (solV (Wn : Int) (Hn : Int) (y : Int)) w) := by
  unfold solV hiV
  have e1 : ((y : Int) + 1) = ((y + 1 : Nat) : Int) := by omega
  have m1 : IntKind.i64.wrap ((y : Int) + 1) = ((y + 1 : Nat) : Int) := by rw [e1]; exact IntWalk.i64_in _ (by omega)
  have m2 : IntKind.i64.wrap (2 * (Hn : Int)) = 2 * (Hn : Int) := IntWalk.i64_in _ (by omega)
  rw [e1]
  obtain ⟨s0, s1, s2⟩ := hv.three
  clear hv e1
  rw [← w.drewN_zero]
  go_enter Try.func53, Try.ntmps53
  go_wp2_with (first | (first | (refine wpList_fop rfl _ _ _ _ _ rfl _ _ _ rfl rfl (by decide) _ ?_; intro _ _) | (refine upon_fop _ _ _ _ _ (by decide) ?_; intro _ _)) | (go_at_call 82; refine (c_l06Cosine _ _ _ _).mono ?_; rintro _ _ ⟨_, _, rfl, rfl⟩))
  go_ret
  exact ⟨_, rfl, below_drewN (by rw [w.drewN_zero]; exact Below.refl _ _) _⟩

/-! ### l06Way -/
theorem c_l06Way (Wn Hn x y : Nat) (w : World) (hx : x < Wn) (hW : Wn ≤ 16) (hy : y < Hn) (hH : Hn ≤ 16) : Calls Try.prog 59 #[.int .i64 (Wn : Int), .int .i64 (Hn : Int), .int .i64 ((y * Wn + x : Nat) : Int)] w (WayR (wayV (Wn : Int) (Hn : Int) (x : Int) (y : Int)) w) := by
  have ex : (y * Wn + x) % Wn = x := by rw [Nat.add_comm, Nat.add_mul_mod_self_right]; exact Nat.mod_eq_of_lt hx
  have ey : (y * Wn + x) / Wn = y := by rw [Nat.add_comm, Nat.add_mul_div_right _ _ (by omega), Nat.div_eq_of_lt hx]; omega
  generalize hk : y * Wn + x = k at *
  have mt : (k : Int).tmod (Wn : Int) = (x : Int) := by rw [Int.tmod_eq_emod_of_nonneg (by omega), ← Int.natCast_emod, ex]
  have mt2 : (k : Int) % (Wn : Int) = (x : Int) := by rw [← Int.natCast_emod, ex]
  have mq0 : (k : Int).tdiv (Wn : Int) = (y : Int) := by rw [Int.tdiv_eq_ediv_of_nonneg (by omega), ← Int.natCast_ediv, ey]
  have mq2 : (k : Int) / (Wn : Int) = (y : Int) := by rw [← Int.natCast_ediv, ey]
  have mq : IntKind.i64.wrap (y : Int) = (y : Int) := IntWalk.i64_in _ (by omega)
  have mx : IntKind.i64.wrap (x : Int) = (x : Int) := IntWalk.i64_in _ (by omega)
  have m2 : IntKind.i64.wrap (2 * (Hn : Int)) = 2 * (Hn : Int) := IntWalk.i64_in _ (by omega)
  have hzW : ¬ ((Wn : Int) = 0) := by omega
  clear hk ex ey
  unfold wayV wayT atT
  generalize hw0 : w.alloc (Obj.cells #[.float .f32 0, .float .f32 0, .float .f32 0] 36) = w0
  have V0 := Lib.hid (show Var w0 w.heap.size #[.float .f32 0, .float .f32 0, .float .f32 0] from by subst hw0; exact Var.new _ _ _)
  have F0 := Lib.hid (show Free w0 w.heap.size from by subst hw0; exact Free.new _ _ _)
  have B0 := Lib.hid (show Below w.heap.size w w0 from by subst hw0; exact (Below.refl _ _).alloc (Nat.le_refl _) _)
  have HW := Lib.hid hw0
  clear hw0
  obtain ⟨c0, c1, c2⟩ := V0.out.three
  have f0 := F0.out 0
  have f1 := F0.out 1
  have f2 := F0.out 2
  go_enter Try.func59, Try.ntmps59
  go_wp2_with fail
  rw [HW.out]
  refine upon_fop0 _ _ _ _ _ (by decide) ?_
  intro _ _
  go_wp2_with (first | (first | (refine wpList_fop rfl _ _ _ _ _ rfl _ _ _ rfl rfl (by decide) _ ?_; intro _ _) | (refine upon_fop _ _ _ _ _ (by decide) ?_; intro _ _)) | (go_at_call 82; refine (c_l06Cosine _ _ _ _).mono ?_; rintro _ _ ⟨_, _, rfl, rfl⟩) | (go_at_call 83; refine (c_l01Sine _ _ _ _ (fop_lt _ _ _ _)).mono ?_; rintro _ _ ⟨_, _, rfl, rfl⟩))
  refine bodyPost_ret (by simp [results, Try.results59, c0, c1, c2, go_sem]; exact ⟨rfl, rfl, rfl⟩) rfl ⟨_, _, _, rfl, ?_⟩
  repeat (first | exact B0.out | exact Nat.le_refl _ | (refine Below.setCell ?_ ?_ _) | (refine below_drewN ?_ _) | (refine Below.alloc ?_ ?_ _) | (simp <;> omega))
/-! ### l00In -/
theorem c_l00In (x lo hi : Int) (w : World) (j : Nat) : Calls Try.prog 100 #[.int .i64 x, .int .i64 lo, .int .i64 hi] (w.drewN j) (RetV (.bool (decide (lo ≤ x) && decide (x ≤ hi))) w) := by
  by_cases h1 : lo ≤ x
  · by_cases h2 : x ≤ hi
    · have d1 : decide (lo ≤ x) = true := decide_eq_true h1
      have d2 : decide (x ≤ hi) = true := decide_eq_true h2
      go_enter Try.func100, Try.ntmps100
      go_wp2
      go_ret
      exact ⟨_, by simp [*], rfl⟩
    · have d1 : decide (lo ≤ x) = true := decide_eq_true h1
      have d2 : decide (x ≤ hi) = false := decide_eq_false h2
      go_enter Try.func100, Try.ntmps100
      go_wp2
      go_ret
      exact ⟨_, by simp [*], rfl⟩
  · have d1 : decide (lo ≤ x) = false := decide_eq_false h1
    go_enter Try.func100, Try.ntmps100
    go_wp2
    go_ret
    exact ⟨_, by simp [*], rfl⟩
/-! ### l02Sides -/
theorem c_l02Sides (W H : Int) (w : World) (j : Nat) : Calls Try.prog 88 #[.int .i64 W, .int .i64 H] (w.drewN j) (RetV (.bool (sideB W H)) w) := by
  unfold sideB
  cases hw : (decide (1 ≤ W) && decide (W ≤ 16))
  all_goals
    have HW := Lib.hid hw
    go_enter Try.func88, Try.ntmps88
    go_wp2_with (go_at_call 100; refine (c_l00In _ _ _ _ _).mono ?_; rintro _ _ ⟨_, rfl, rfl⟩)
    go_ret
    exact ⟨_, by simp [HW.out], rfl⟩
/-! ### l02Finite -/
theorem c_l02Finite (a : Option Addr) (len cap : Nat) (zs : List Nat) (w : World) (j0 : Nat) (hr : IsRowF .f32 w a len cap zs) : Calls Try.prog 104 #[.slice a len cap] (w.drewN j0) (RetV (.bool (finL zs)) w) := by
  obtain ⟨h1, h2, h3, h4, h5⟩ := hr
  unfold maxLen at h3
  have H1 := Lib.hid h1
  clear h1
  go_enter Try.func104, Try.ntmps104
  go_wp2
  go_loopw [3] (fun i wr => ∃ k m : Nat, k ≤ len ∧ i = .int .i64 k ∧ wr = w.drewN m ∧ finL (zs.take k) = true) (fun i _ => len - (intOf i).toNat)
  case atStart => exact ⟨0, j0, Nat.zero_le _, rfl, rfl, rfl⟩
  case round =>
    obtain ⟨k, m, hk, rfl, rfl, hfin⟩ := hrel
    have HFin := Lib.hid hfin
    clear hfin
    by_cases hlt : k < len
    · rcases h5 with h5 | ⟨b, off, rfl, hbl, hc⟩
      · omega
      have hcell : w.cell? ⟨b, off + k, none⟩ = some (.float .f32 (fat zs k)) := hc k hlt
      obtain ⟨n, hn⟩ := pick0 .f32 (fat zs k) (lt_of_wf (h4 _ (by unfold fat; rw [List.getD, List.getElem?_eq_getElem (by have := H1.out; omega)]; exact List.getElem_mem _)))
      rw [hn] at hcell
      have HN := Lib.hid hn
      have HS := Lib.hid (finL_snoc zs k (by have := H1.out; omega))
      cases hf : finB .f32 (fat zs k)
      · have HO := Lib.hid (finL_of zs k (by have := H1.out; omega) hf)
        clear hc h4 hn
        go_wp2_with ((go_at_call 64; refine (c_l01Finite _ _ _ _).mono ?_; rintro _ _ ⟨_, rfl, rfl⟩))
        go_ret
        exact ⟨_, by rw [HO.out]; rfl, rfl⟩
      · have HF := Lib.hid hf
        clear hc h4 hn
        go_wp2_with ((go_at_call 64; refine (c_l01Finite _ _ _ _).mono ?_; rintro _ _ ⟨_, rfl, rfl⟩))
        go_roundw
        case rel => exact ⟨k + 1, _, by omega, by go_num, rfl, by rw [HS.out, HFin.out, HF.out]; rfl⟩
        case measure => simp [intOf]; omega
    · have e : zs.take k = zs := List.take_of_length_le (by have := H1.out; omega)
      have HE := Lib.hid e
      clear h5 h4 e
      go_wp2
      go_ret
      exact ⟨_, by have h := HFin.out; rw [HE.out] at h; rw [h]; rfl, rfl⟩
/-! ### l02Is -/
theorem c_l02Is (W H : Int) (b : Nat) (a : Option Addr) (len cap : Nat) (zs : List Nat) (w : World) (j0 : Nat) (hv : Var w b #[.int .i64 W, .int .i64 H, .slice a len cap]) (hr : IsRowF .f32 w a len cap zs) :
    Calls Try.prog 52 #[.pointer (some ⟨b, 0, none⟩)] (w.drewN j0) (RetV (.bool (validB W H zs)) w) := by
  obtain ⟨p0, p1, p2⟩ := hv.three
  have H1 := Lib.hid hr.1
  have HR := Lib.hid hr
  clear hr hv
  cases hs : sideB W H
  · have e : validB W H zs = false := by simp [validB, hs]
    have E := Lib.hid e
    have C1 := Lib.hid (fun n => (by have h := c_l02Sides W H w n; rwa [hs] at h : Calls Try.prog 88 #[.int .i64 W, .int .i64 H] (w.drewN n) (RetV (.bool false) w)))
    clear e hs
    go_enter Try.func52, Try.ntmps52
    go_wp2
    refine wp_region_N (fun f _ u => (f = 88 → u = .bool false)) (by kernel_rfl) (by kernel_rfl) ?_; (repeat (first | ((with_reducible show wpN _ _ _ _ _ (Oper.mk _ (Op.binOp _ _ _ _ _) _ _ _ none :: _) _); refine wpN_fop rfl _ _ _ _ _ rfl _ _ _ rfl rfl (by decide) ?_; intro _) | ((with_reducible show wpN _ _ _ _ _ (Oper.mk _ (Op.convert _ _ _) _ _ _ none :: _) _); refine wpN_cvU rfl 26 32 _ rfl (Option.isSome_iff_exists.2 ⟨_, Try.underlying26⟩) Try.underlying32 _ rfl ?_; intro _) | ((with_reducible show wpN _ _ _ _ _ (Oper.mk _ _ _ _ _ (some _) :: _) _); (with_reducible refine wpN_off ?_ ?_); focus rfl; (simp only [Act.put, List.setIfInBounds_toArray, List.set_cons_zero, List.set_cons_succ])) | ((with_reducible show wpN _ _ _ _ _ (Oper.mk _ _ _ _ _ (some _) :: _) _); ((with_reducible refine wpN_on ?_ (fun K hK => ?_)); (focus rfl); intro _; go_simp; first | (refine uponN_value (hK _ ?_)) | ((refine uponN_call (callN (v := .bool false) (fun _ => rfl) (C1.out _)) ?_; intro u hu; obtain rfl : u = _ := hu rfl; clear hu); refine hK _ ?_)); clear hK K) | (((with_reducible refine wpN_plain rfl (fun K hK => ?_)); intro _; go_simp; first | (refine uponN_value (hK _ ?_)) | ((refine uponN_call (callN (v := .bool false) (fun _ => rfl) (C1.out _)) ?_; intro u hu; obtain rfl : u = _ := hu rfl; clear hu); refine hK _ ?_)); clear hK K) | ((with_reducible refine wpN_step (fun K hK => ?_)); go_simp; first | (refine hK _ ?_) | (intro _; first | (refine uponN_value (hK _ ?_)) | ((refine uponN_call (callN (v := .bool false) (fun _ => rfl) (C1.out _)) ?_; intro u hu; obtain rfl : u = _ := hu rfl; clear hu); refine hK _ ?_)); clear hK K))); refine wpN_nil ?_; intro _
    go_wp2
    go_ret
    exact ⟨_, by rw [E.out]; rfl, rfl⟩
  · obtain ⟨m1, m2⟩ := side_mul hs
    have mw : IntKind.i64.wrap (W * H) = W * H := IntWalk.i64_in _ (by omega)
    have C1 := Lib.hid (fun n => (by have h := c_l02Sides W H w n; rwa [hs] at h : Calls Try.prog 88 #[.int .i64 W, .int .i64 H] (w.drewN n) (RetV (.bool true) w)))
    have C2 := Lib.hid (fun n => c_l02Finite a len cap zs w n HR.out)
    by_cases hl : (len : Int) = W * H
    · have hd : ((len : Int) == W * H) = true := by simpa using hl
      have e : validB W H zs = finL zs := by simp [validB, hs, H1.out, hl]
      have E := Lib.hid e
      have HL := Lib.hid hl
      clear e hs hl
      go_enter Try.func52, Try.ntmps52
      go_wp2
      refine wp_region_N (fun f _ u => (f = 88 → u = .bool true) ∧ (f = 104 → u = .bool (finL zs))) (by kernel_rfl) (by kernel_rfl) ?_; (repeat (first | ((with_reducible show wpN _ _ _ _ _ (Oper.mk _ (Op.binOp _ _ _ _ _) _ _ _ none :: _) _); refine wpN_fop rfl _ _ _ _ _ rfl _ _ _ rfl rfl (by decide) ?_; intro _) | ((with_reducible show wpN _ _ _ _ _ (Oper.mk _ (Op.convert _ _ _) _ _ _ none :: _) _); refine wpN_cvU rfl 26 32 _ rfl (Option.isSome_iff_exists.2 ⟨_, Try.underlying26⟩) Try.underlying32 _ rfl ?_; intro _) | ((with_reducible show wpN _ _ _ _ _ (Oper.mk _ _ _ _ _ (some _) :: _) _); (with_reducible refine wpN_off ?_ ?_); focus rfl; (simp only [Act.put, List.setIfInBounds_toArray, List.set_cons_zero, List.set_cons_succ])) | ((with_reducible show wpN _ _ _ _ _ (Oper.mk _ _ _ _ _ (some _) :: _) _); ((with_reducible refine wpN_on ?_ (fun K hK => ?_)); (focus rfl); intro _; go_simp; first | (refine uponN_value (hK _ ?_)) | ((first | (refine uponN_call (callN (v := .bool true) ⟨fun _ => rfl, fun h => absurd h (by decide)⟩ (C1.out _)) ?_; intro u hu; obtain rfl : u = _ := hu.1 rfl; clear hu) | (refine uponN_call (callN (v := .bool (finL zs)) ⟨fun h => absurd h (by decide), fun _ => rfl⟩ (C2.out _)) ?_; intro u hu; obtain rfl : u = _ := hu.2 rfl; clear hu)); refine hK _ ?_)); clear hK K) | (((with_reducible refine wpN_plain rfl (fun K hK => ?_)); intro _; go_simp; first | (refine uponN_value (hK _ ?_)) | ((first | (refine uponN_call (callN (v := .bool true) ⟨fun _ => rfl, fun h => absurd h (by decide)⟩ (C1.out _)) ?_; intro u hu; obtain rfl : u = _ := hu.1 rfl; clear hu) | (refine uponN_call (callN (v := .bool (finL zs)) ⟨fun h => absurd h (by decide), fun _ => rfl⟩ (C2.out _)) ?_; intro u hu; obtain rfl : u = _ := hu.2 rfl; clear hu)); refine hK _ ?_)); clear hK K) | ((with_reducible refine wpN_step (fun K hK => ?_)); go_simp; first | (refine hK _ ?_) | (intro _; first | (refine uponN_value (hK _ ?_)) | ((first | (refine uponN_call (callN (v := .bool true) ⟨fun _ => rfl, fun h => absurd h (by decide)⟩ (C1.out _)) ?_; intro u hu; obtain rfl : u = _ := hu.1 rfl; clear hu) | (refine uponN_call (callN (v := .bool (finL zs)) ⟨fun h => absurd h (by decide), fun _ => rfl⟩ (C2.out _)) ?_; intro u hu; obtain rfl : u = _ := hu.2 rfl; clear hu)); refine hK _ ?_)); clear hK K))); refine wpN_nil ?_; intro _
      go_wp2
      go_ret
      exact ⟨_, by rw [E.out]; rfl, rfl⟩
    · have hd : ((len : Int) == W * H) = false := by simpa using hl
      have e : validB W H zs = false := by simp [validB, hs, H1.out, hl]
      have E := Lib.hid e
      clear e hs hl
      go_enter Try.func52, Try.ntmps52
      go_wp2
      refine wp_region_N (fun f _ u => (f = 88 → u = .bool true)) (by kernel_rfl) (by kernel_rfl) ?_; (repeat (first | ((with_reducible show wpN _ _ _ _ _ (Oper.mk _ (Op.binOp _ _ _ _ _) _ _ _ none :: _) _); refine wpN_fop rfl _ _ _ _ _ rfl _ _ _ rfl rfl (by decide) ?_; intro _) | ((with_reducible show wpN _ _ _ _ _ (Oper.mk _ (Op.convert _ _ _) _ _ _ none :: _) _); refine wpN_cvU rfl 26 32 _ rfl (Option.isSome_iff_exists.2 ⟨_, Try.underlying26⟩) Try.underlying32 _ rfl ?_; intro _) | ((with_reducible show wpN _ _ _ _ _ (Oper.mk _ _ _ _ _ (some _) :: _) _); (with_reducible refine wpN_off ?_ ?_); focus rfl; (simp only [Act.put, List.setIfInBounds_toArray, List.set_cons_zero, List.set_cons_succ])) | ((with_reducible show wpN _ _ _ _ _ (Oper.mk _ _ _ _ _ (some _) :: _) _); ((with_reducible refine wpN_on ?_ (fun K hK => ?_)); (focus rfl); intro _; go_simp; first | (refine uponN_value (hK _ ?_)) | ((refine uponN_call (callN (v := .bool true) (fun _ => rfl) (C1.out _)) ?_; intro u hu; obtain rfl : u = _ := hu rfl; clear hu); refine hK _ ?_)); clear hK K) | (((with_reducible refine wpN_plain rfl (fun K hK => ?_)); intro _; go_simp; first | (refine uponN_value (hK _ ?_)) | ((refine uponN_call (callN (v := .bool true) (fun _ => rfl) (C1.out _)) ?_; intro u hu; obtain rfl : u = _ := hu rfl; clear hu); refine hK _ ?_)); clear hK K) | ((with_reducible refine wpN_step (fun K hK => ?_)); go_simp; first | (refine hK _ ?_) | (intro _; first | (refine uponN_value (hK _ ?_)) | ((refine uponN_call (callN (v := .bool true) (fun _ => rfl) (C1.out _)) ?_; intro u hu; obtain rfl : u = _ := hu rfl; clear hu); refine hK _ ?_)); clear hK K))); refine wpN_nil ?_; intro _
      go_wp2
      go_ret
      exact ⟨_, by rw [E.out]; rfl, rfl⟩
/-! ### l02Is0 -/
theorem c_l02Is0 (W H : Int) (b : Nat) (a : Option Addr) (len cap : Nat) (zs : List Nat) (w : World) (hv : Var w b #[.int .i64 W, .int .i64 H, .slice a len cap]) (hr : IsRowF .f32 w a len cap zs) :
    Calls Try.prog 52 #[.pointer (some ⟨b, 0, none⟩)] w (RetV (.bool (validB W H zs)) w) := by
  have h := c_l02Is W H b a len cap zs w 0 hv hr
  rwa [w.drewN_zero] at h
/-! ### l02Number -/
theorem c_l02Number (v n : Nat) (w : World) (j : Nat) : Calls Try.prog 54 #[.float .f32 (pick .f32 v n)] (w.drewN j) (fun e w' => ∃ k m, e = .returned (.tuple #[.float .f32 (pick .f32 (numR v).1 k), .bool (numR v).2]) ∧ w' = w.drewN m) := by
  cases h : finB .f32 v
  · have e : numR v = (0, false) := by unfold numR; rw [if_neg (by rw [h]; decide)]
    rw [e]
    go_enter Try.func54, Try.ntmps54
    go_wp2_with (first | (go_at_call 64; refine (c_l01Finite _ _ _ _).mono ?_; rintro _ _ ⟨_, rfl, rfl⟩))
    go_ret2
    exact ⟨0, _, by simp only [pick00]; rfl, rfl⟩
  · have e : numR v = (v, true) := by unfold numR; rw [if_pos h]
    rw [e]
    go_enter Try.func54, Try.ntmps54
    go_wp2_with (first | (go_at_call 64; refine (c_l01Finite _ _ _ _).mono ?_; rintro _ _ ⟨_, rfl, rfl⟩))
    go_ret2
    exact ⟨n, _, rfl, rfl⟩
theorem c_l02Number0 (v n : Nat) (w : World) : Calls Try.prog 54 #[.float .f32 (pick .f32 v n)] w (fun e w' => ∃ k m, e = .returned (.tuple #[.float .f32 (pick .f32 (numR v).1 k), .bool (numR v).2]) ∧ w' = w.drewN m) := by
  have h := c_l02Number v n w 0
  rwa [w.drewN_zero] at h
/-! ### sDirectLight -/
theorem c_sDirectLight (WP HP : Int) (zP : List Nat) (aP : Option Addr) (cP : Nat) (ar an ag am ab ak : Nat) (w : World) (rP : IsRowF .f32 w aP zP.length cP zP) (har : ar < 2 ^ FloatKind.f32.format.width) (hag : ag < 2 ^ FloatKind.f32.format.width) (hab : ab < 2 ^ FloatKind.f32.format.width) : Calls Try.prog 47 #[.agg #[.int .i64 WP, .int .i64 HP, .slice aP zP.length cP], .agg #[.float .f32 (pick .f32 ar an), .float .f32 (pick .f32 ag am), .float .f32 (pick .f32 ab ak)]] w (RetF1 (directR WP HP zP ar ag ab) w) := by
  have RP := Lib.hid rP
  clear rP
  generalize hw0 : (w.alloc (Obj.cells #[.int .i64 WP, .int .i64 HP, .slice aP zP.length cP] 29)).alloc (Obj.cells #[.float .f32 (pick .f32 ar an), .float .f32 (pick .f32 ag am), .float .f32 (pick .f32 ab ak)] 36) = w0
  have X0 : Var w0 w.heap.size #[.int .i64 WP, .int .i64 HP, .slice aP zP.length cP] := by subst hw0; exact (Var.new _ _ _).alloc _
  have X1 : Var w0 (w.heap.size + 1) #[.float .f32 (pick .f32 ar an), .float .f32 (pick .f32 ag am), .float .f32 (pick .f32 ab ak)] := by subst hw0; exact Var.new' _ _ _ _ (by simp)
  have X3 : Below w.heap.size w w0 := by subst hw0; exact ((Below.refl _ _).alloc (Nat.le_refl _) _).alloc (by simp) _
  have HW := Lib.hid hw0
  have V0 := Lib.hid X0
  have B0 := Lib.hid X3
  obtain ⟨c0, c1, c2⟩ := X0.three
  obtain ⟨e0, e1, e2⟩ := X1.three
  clear hw0 X0 X1 X3
  have hyes := fun h h2 => (directR_yes (Wn := WP.toNat) (Hn := HP.toNat) (zs := zP) (x := ar) (y := ag) (z := ab) h h2)
  have hno := directR_no (W := WP) (H := HP) (zs := zP) (x := ar) (y := ag) (z := ab)
  obtain ⟨res, hres⟩ : ∃ q, q = directR WP HP zP ar ag ab := ⟨_, rfl⟩
  rw [← hres] at hno ⊢
  have CU := c_l06Unit ar an ag am ab ak w0 har hag hab
  obtain ⟨U, hU⟩ : ∃ q, q = unitW ar ag ab := ⟨_, rfl⟩
  rw [← hU] at CU hyes hno
  have CU := Lib.hid CU
  have HNO := Lib.hid hno
  clear hno
  cases hv : validB WP HP zP
  · have RES := Lib.hid (HNO.out (.inr hv))
    clear hres hyes HNO hU
    go_enter Try.func47, Try.ntmps47
    go_wp2_with fail
    rw [HW.out]
    refine CU.out.mono ?_
    rintro _ w1 ⟨n1, m1, q1, rfl, b⟩
    have B1 := Lib.hid (B0.out.trans (b.mono B0.out.size))
    have V1 := Lib.hid (V0.out.keep b)
    have zz1 : w.heap.size < w1.heap.size := V1.out.lt
    clear b c0 c1 c2 e0 e1 e2
    obtain ⟨c0, c1, c2⟩ := V1.out.three
    go_wp2_with fail
    have VU1 := Lib.hid (Var.new w1 #[.float .f32 (pick .f32 U.1.1 n1), .float .f32 (pick .f32 U.1.2.1 m1), .float .f32 (pick .f32 U.1.2.2 q1)] 36)
    have E : Below w1.heap.size w1 (w1.alloc (Obj.cells #[.float .f32 (pick .f32 U.1.1 n1), .float .f32 (pick .f32 U.1.2.1 m1), .float .f32 (pick .f32 U.1.2.2 q1)] 36)) := (Below.refl _ _).alloc (Nat.le_refl _) _
    refine (c_l02Is0 WP HP w.heap.size aP _ cP zP _ (V1.out.keep E) (RP.out.below (B1.out.trans (E.mono B1.out.size)))).mono ?_
    rintro _ _ ⟨m0, rfl, rfl⟩
    rw [hv]
    generalize hw2 : World.drewN (w1.alloc (Obj.cells #[.float .f32 (pick .f32 U.1.1 n1), .float .f32 (pick .f32 U.1.2.1 m1), .float .f32 (pick .f32 U.1.2.2 q1)] 36)) _ = w2
    have b : Below (w1.alloc (Obj.cells #[.float .f32 (pick .f32 U.1.1 n1), .float .f32 (pick .f32 U.1.2.1 m1), .float .f32 (pick .f32 U.1.2.2 q1)] 36)).heap.size (w1.alloc (Obj.cells #[.float .f32 (pick .f32 U.1.1 n1), .float .f32 (pick .f32 U.1.2.1 m1), .float .f32 (pick .f32 U.1.2.2 q1)] 36)) w2 := by subst hw2; exact below_drewN (Below.refl _ _) _
    have B2 := Lib.hid (B1.out.trans ((E.trans (b.mono E.size)).mono B1.out.size))
    have VU2 := Lib.hid (VU1.out.keep b)
    have V2 := Lib.hid ((V1.out.keep E).keep b)
    clear b E c0 c1 c2 hw2 VU1
    go_wp2_with fail
    rw [RES.out]
    go_ret2
    exact ⟨0, by simp only [pick00]; rfl, B2.out⟩
  · obtain ⟨Wn, Hn, rfl, rfl, hW1, hW2, hH1, hH2⟩ := valid_nat hv
    have hln := valid_len2 hv
    cases hu : U.2
    · have RES := Lib.hid (HNO.out (.inl hu))
      have HV := Lib.hid hv
      clear hres hyes HNO hU hln
      go_enter Try.func47, Try.ntmps47
      go_wp2_with fail
      rw [HW.out]
      refine CU.out.mono ?_
      rintro _ w1 ⟨n1, m1, q1, rfl, b⟩
      rw [hu]
      have B1 := Lib.hid (B0.out.trans (b.mono B0.out.size))
      have V1 := Lib.hid (V0.out.keep b)
      have zz1 : w.heap.size < w1.heap.size := V1.out.lt
      clear b c0 c1 c2 e0 e1 e2
      obtain ⟨c0, c1, c2⟩ := V1.out.three
      go_wp2_with fail
      have VU1 := Lib.hid (Var.new w1 #[.float .f32 (pick .f32 U.1.1 n1), .float .f32 (pick .f32 U.1.2.1 m1), .float .f32 (pick .f32 U.1.2.2 q1)] 36)
      have E : Below w1.heap.size w1 (w1.alloc (Obj.cells #[.float .f32 (pick .f32 U.1.1 n1), .float .f32 (pick .f32 U.1.2.1 m1), .float .f32 (pick .f32 U.1.2.2 q1)] 36)) := (Below.refl _ _).alloc (Nat.le_refl _) _
      refine (c_l02Is0 (Wn : Int) (Hn : Int) w.heap.size aP _ cP zP _ (V1.out.keep E) (RP.out.below (B1.out.trans (E.mono B1.out.size)))).mono ?_
      rintro _ _ ⟨m0, rfl, rfl⟩
      rw [HV.out]
      generalize hw2 : World.drewN (w1.alloc (Obj.cells #[.float .f32 (pick .f32 U.1.1 n1), .float .f32 (pick .f32 U.1.2.1 m1), .float .f32 (pick .f32 U.1.2.2 q1)] 36)) _ = w2
      have b : Below (w1.alloc (Obj.cells #[.float .f32 (pick .f32 U.1.1 n1), .float .f32 (pick .f32 U.1.2.1 m1), .float .f32 (pick .f32 U.1.2.2 q1)] 36)).heap.size (w1.alloc (Obj.cells #[.float .f32 (pick .f32 U.1.1 n1), .float .f32 (pick .f32 U.1.2.1 m1), .float .f32 (pick .f32 U.1.2.2 q1)] 36)) w2 := by subst hw2; exact below_drewN (Below.refl _ _) _
      have B2 := Lib.hid (B1.out.trans ((E.trans (b.mono E.size)).mono B1.out.size))
      have VU2 := Lib.hid (VU1.out.keep b)
      have V2 := Lib.hid ((V1.out.keep E).keep b)
      clear b E c0 c1 c2 hw2 VU1
      go_wp2_with fail
      rw [RES.out]
      go_ret2
      exact ⟨0, by simp only [pick00]; rfl, B2.out⟩
    · have RES := Lib.hid ((hres.trans (by unfold directR; rw [← hU, hu, hv, if_pos (by rfl), Int.toNat_natCast, Int.toNat_natCast]) : res = numR (dirK zP Wn Hn U.1 (Wn * Hn))))
      obtain ⟨N, hN⟩ : ∃ N, N = Wn * Hn := ⟨_, rfl⟩
      have HN256 : N ≤ 256 := by rw [hN]; exact Nat.le_trans (Nat.mul_le_mul hW2 hH2) (by decide)
      have MW := Lib.hid (show IntKind.i64.wrap ((Wn : Int) * (Hn : Int)) = (N : Int) by rw [hN]; rw [show ((Wn : Int) * (Hn : Int)) = ((Wn * Hn : Nat) : Int) by rw [Int.natCast_mul]]; exact IntWalk.i64_in _ (by omega))
      have HL := Lib.hid (show zP.length = N by rw [hN]; exact hln)
      rw [← hN] at RES
      have HD := Lib.hid (fun k (hk : k < N) => (Nat.div_lt_of_lt_mul (by rw [← hN]; exact hk) : k / Wn < Hn))
      have hwz : ¬ (Wn = 0) := by omega
      have HV := Lib.hid hv
      clear hres hyes HNO hU hv hln hN
      go_enter Try.func47, Try.ntmps47
      go_wp2_with fail
      rw [HW.out]
      refine CU.out.mono ?_
      rintro _ w1 ⟨n1, m1, q1, rfl, b⟩
      rw [hu]
      have B1 := Lib.hid (B0.out.trans (b.mono B0.out.size))
      have V1 := Lib.hid (V0.out.keep b)
      have zz1 : w.heap.size < w1.heap.size := V1.out.lt
      clear b c0 c1 c2 e0 e1 e2
      obtain ⟨c0, c1, c2⟩ := V1.out.three
      go_wp2_with fail
      have VU1 := Lib.hid (Var.new w1 #[.float .f32 (pick .f32 U.1.1 n1), .float .f32 (pick .f32 U.1.2.1 m1), .float .f32 (pick .f32 U.1.2.2 q1)] 36)
      have E : Below w1.heap.size w1 (w1.alloc (Obj.cells #[.float .f32 (pick .f32 U.1.1 n1), .float .f32 (pick .f32 U.1.2.1 m1), .float .f32 (pick .f32 U.1.2.2 q1)] 36)) := (Below.refl _ _).alloc (Nat.le_refl _) _
      refine (c_l02Is0 (Wn : Int) (Hn : Int) w.heap.size aP _ cP zP _ (V1.out.keep E) (RP.out.below (B1.out.trans (E.mono B1.out.size)))).mono ?_
      rintro _ _ ⟨m0, rfl, rfl⟩
      rw [HV.out]
      generalize hw2 : World.drewN (w1.alloc (Obj.cells #[.float .f32 (pick .f32 U.1.1 n1), .float .f32 (pick .f32 U.1.2.1 m1), .float .f32 (pick .f32 U.1.2.2 q1)] 36)) _ = w2
      have b : Below (w1.alloc (Obj.cells #[.float .f32 (pick .f32 U.1.1 n1), .float .f32 (pick .f32 U.1.2.1 m1), .float .f32 (pick .f32 U.1.2.2 q1)] 36)).heap.size (w1.alloc (Obj.cells #[.float .f32 (pick .f32 U.1.1 n1), .float .f32 (pick .f32 U.1.2.1 m1), .float .f32 (pick .f32 U.1.2.2 q1)] 36)) w2 := by subst hw2; exact below_drewN (Below.refl _ _) _
      have B2 := Lib.hid (B1.out.trans ((E.trans (b.mono E.size)).mono B1.out.size))
      have VU2 := Lib.hid (VU1.out.keep b)
      have V2 := Lib.hid ((V1.out.keep E).keep b)
      clear hu b E c0 c1 c2 hw2 VU1
      go_wp2_with fail
      go_loopw [8, 9] (fun s i wr => ∃ k n : Nat, k ≤ N ∧ s = .float .f32 (pick .f32 (dirK zP Wn Hn U.1 k) n) ∧ i = .int .i64 (k : Int) ∧ Below w2.heap.size w2 wr) (fun _ i _ => N - (intOf i).toNat)
      case atStart => exact ⟨0, 0, Nat.zero_le _, by rw [show dirK zP Wn Hn U.1 0 = 0 from rfl, pick00], rfl, Below.refl _ _⟩
      case round =>
        obtain ⟨k, n, hk, rfl, rfl, hB⟩ := hrel
        have HB := Lib.hid hB
        have VR := Lib.hid (V2.out.keep hB)
        have VUR := Lib.hid (VU2.out.keep hB)
        have BR := Lib.hid (B2.out.trans (hB.mono B2.out.size))
        have mw := MW.out
        clear hB
        obtain ⟨d0, d1, d2⟩ := VR.out.three
        by_cases hlt : k < N
        · have hlt2 : (k : Int) < (N : Int) := by omega
          obtain ⟨b0, o0, n0, ha, hb0, e0⟩ := (RP.out.below BR.out).at (k := k) (by rw [HL.out]; exact hlt)
          subst ha
          have hkz : k < zP.length := by rw [HL.out]; exact hlt
          obtain ⟨y, hy⟩ : ∃ y, y = k / Wn := ⟨_, rfl⟩
          have hyH : y < Hn := by rw [hy]; exact HD.out k hlt
          obtain ⟨wv, hwv⟩ : ∃ q, q = wayV (Wn : Int) (Hn : Int) ((k % Wn : Nat) : Int) ((k / Wn : Nat) : Int) := ⟨_, rfl⟩
          have HT := Lib.hid (show dirK zP Wn Hn U.1 (k + 1) = if (FloatKind.f32.format.order (innV U.1.1 U.1.2.1 U.1.2.2 wv.1 wv.2.1 wv.2.2) 0 == some .gt) = true then fop .add .f32 (dirK zP Wn Hn U.1 k) (fop .mul .f32 (fop .mul .f32 (fat zP k) (solV (Wn : Int) (Hn : Int) (y : Int))) (innV U.1.1 U.1.2.1 U.1.2.2 wv.1 wv.2.1 wv.2.2)) else dirK zP Wn Hn U.1 k from by rw [hy, hwv]; rfl)
          have CW := Lib.hid (fun w9 => (by
            have he : k / Wn * Wn + k % Wn = k := by rw [Nat.mul_comm]; exact Nat.div_add_mod _ _
            have h := c_l06Way Wn Hn (k % Wn) (k / Wn) w9 (Nat.mod_lt _ (by omega)) hW2 (HD.out k hlt) hH2
            rw [he, ← hwv] at h; exact h : Calls Try.prog 59 #[.int .i64 (Wn : Int), .int .i64 (Hn : Int), .int .i64 (k : Int)] w9 (WayR wv w9)))
          have CI := Lib.hid (fun n9 m9 q9 w9 => c_l06Inner U.1.1 n1 U.1.2.1 m1 U.1.2.2 q1 wv.1 n9 wv.2.1 m9 wv.2.2 q9 w9)
          have mi2 : (k : Int) / (Wn : Int) = (y : Int) := by rw [hy, Int.natCast_ediv]
          have mi3 : IntKind.i64.wrap (y : Int) = (y : Int) := IntWalk.i64_in _ (by omega)
          have mk : IntKind.i64.wrap ((k : Int) + 1) = ((k + 1 : Nat) : Int) := by rw [show ((k : Int) + 1) = ((k + 1 : Nat) : Int) from by omega]; exact IntWalk.i64_in _ (by omega)
          have KA := Lib.hid (fun (w' : World) (hE : Below wr.heap.size wr w') => (⟨(VR.out.keep hE).three.1, (VR.out.keep hE).three.2.1, (VR.out.keep hE).three.2.2, (VUR.out.keep hE).three.1, (VUR.out.keep hE).three.2.1, (VUR.out.keep hE).three.2.2, (hE.cell (p := ⟨b0, o0 + k, none⟩) hb0).trans e0⟩ : _ ∧ _ ∧ _ ∧ _ ∧ _ ∧ _ ∧ _))
          have CA := Lib.hid (fun (w' : World) (hE : Below wr.heap.size wr w') => c_l06Solid Wn Hn y w.heap.size _ w' (VR.out.keep hE) hyH hH2)
          have KS := KA
          clear e0 hy hwv
          generalize dirK zP Wn Hn U.1 k = tk at *
          go_wp2_with fail
          clear d0 d1 d2
          refine wp_region_facts 9 (fun a b => Below a.heap.size a b) (fun _ => Below.refl _ _) (fun _ _ _ h h' => h.trans (h'.mono h.size)) (Below.refl _ _).drew (by kernel_rfl) (by kernel_rfl) (by kernel_rfl) (by kernel_rfl) ?_
          simp only [List.take_succ_cons, List.take_zero, List.drop_succ_cons, List.drop_zero]
          (with_reducible apply wpF_val); (focus (intro vs w' hE hk; (obtain ⟨d0, d1, d2, u0, u1, u2, e0⟩ := KS.out w' hE); go_simp; exact ⟨Below.refl _ _, rfl⟩)); (simp only [Act.put, List.setIfInBounds_toArray, List.set_cons_zero, List.set_cons_succ, List.cons_append, List.nil_append])
          (with_reducible apply wpF_val); (focus (intro vs w' hE hk; (obtain ⟨d0, d1, d2, u0, u1, u2, e0⟩ := KS.out w' hE); go_simp; exact ⟨Below.refl _ _, rfl⟩)); (simp only [Act.put, List.setIfInBounds_toArray, List.set_cons_zero, List.set_cons_succ, List.cons_append, List.nil_append])
          (with_reducible apply wpF_val); (focus (intro vs w' hE hk; (obtain ⟨d0, d1, d2, u0, u1, u2, e0⟩ := KS.out w' hE); go_simp; exact ⟨Below.refl _ _, rfl⟩)); (simp only [Act.put, List.setIfInBounds_toArray, List.set_cons_zero, List.set_cons_succ, List.cons_append, List.nil_append])
          (with_reducible apply wpF_val); (focus (intro vs w' hE hk; (obtain ⟨d0, d1, d2, u0, u1, u2, e0⟩ := KS.out w' hE); go_simp; exact ⟨Below.refl _ _, rfl⟩)); (simp only [Act.put, List.setIfInBounds_toArray, List.set_cons_zero, List.set_cons_succ, List.cons_append, List.nil_append])
          (with_reducible apply wpF_val); (focus (intro vs w' hE hk; (obtain ⟨d0, d1, d2, u0, u1, u2, e0⟩ := KS.out w' hE); go_simp; exact ⟨Below.refl _ _, rfl⟩)); (simp only [Act.put, List.setIfInBounds_toArray, List.set_cons_zero, List.set_cons_succ, List.cons_append, List.nil_append])
          (with_reducible apply wpF_val); (focus (intro vs w' hE hk; (obtain ⟨d0, d1, d2, u0, u1, u2, e0⟩ := KS.out w' hE); go_simp; exact ⟨Below.refl _ _, rfl⟩)); (simp only [Act.put, List.setIfInBounds_toArray, List.set_cons_zero, List.set_cons_succ, List.cons_append, List.nil_append])
          refine wpF_fact (fun u _ => ∃ n m q, u = .agg #[.float .f32 (pick .f32 wv.1 n), .float .f32 (pick .f32 wv.2.1 m), .float .f32 (pick .f32 wv.2.2 q)]) (fun _ _ _ h _ => h) (fun vs w' hE hk => ?_) ?_; (focus ((obtain ⟨d0, d1, d2, u0, u1, u2, e0⟩ := KS.out w' hE); go_simp; refine (CW.out _).mono ?_; rintro _ w9 ⟨n9, m9, q9, rfl, b⟩; exact ⟨_, rfl, b, n9, m9, q9, rfl⟩)); (simp only [Act.put, List.setIfInBounds_toArray, List.set_cons_zero, List.set_cons_succ, List.cons_append, List.nil_append])
          refine wpF_fact (fun u _ => ∃ n, u = .float .f32 (pick .f32 (innV U.1.1 U.1.2.1 U.1.2.2 wv.1 wv.2.1 wv.2.2) n)) (fun _ _ _ h _ => h) (fun vs w' hE hk => ?_) ?_; (focus (obtain ⟨n9, m9, q9, h9⟩ := hk 6 (by kernel_rfl); simp only [h9]; go_simp; refine (CI.out n9 m9 q9 _).mono ?_; rintro _ w9 ⟨n8, rfl, b⟩; exact ⟨_, rfl, b, n8, rfl⟩)); (simp only [Act.put, List.setIfInBounds_toArray, List.set_cons_zero, List.set_cons_succ, List.cons_append, List.nil_append])
          refine wpF_fact (fun u _ => ∃ n, u = .float .f32 (pick .f32 (innV U.1.1 U.1.2.1 U.1.2.2 wv.1 wv.2.1 wv.2.2) n)) (fun _ _ _ h _ => h) (fun vs w' hE hk => ?_) ?_; (focus (obtain ⟨n9, h9⟩ := hk 7 (by kernel_rfl); simp only [h9]; go_simp; exact ⟨Below.refl _ _, n9, rfl⟩)); (simp only [Act.put, List.setIfInBounds_toArray, List.set_cons_zero, List.set_cons_succ, List.cons_append, List.nil_append])
          refine wpF_nil (fun vs w9 hE hk => ?_)
          obtain ⟨_, _, _, h6⟩ := hk 6
          obtain ⟨_, h7⟩ := hk 7
          obtain ⟨n8, h8⟩ := hk 8
          simp only [h6, h7, h8]
          have HE9 := Lib.hid hE
          have BX := Lib.hid (HB.out.trans (hE.mono HB.out.size))
          clear hE hk KS CW CI h6 h7 h8
          generalize innV U.1.1 U.1.2.1 U.1.2.2 wv.1 wv.2.1 wv.2.2 = iv at *
          cases hg : (FloatKind.f32.format.order iv 0 == some .gt)
          · rw [hg] at HT
            have HT2 := Lib.hid (HT.out.trans (if_neg (by decide)))
            go_wp2_with fail
            go_roundw
            case rel => exact ⟨k + 1, n, by omega, by rw [HT2.out], by go_num, BX.out⟩
            case measure => simp [intOf]; omega
          · rw [hg] at HT
            have HT2 := Lib.hid (HT.out.trans (if_pos rfl))
            have KS := Lib.hid (fun (w' : World) (hE : Below w9.heap.size w9 w') => KA.out w' (HE9.out.trans (hE.mono HE9.out.size)))
            have CS := Lib.hid (fun (w' : World) (hE : Below w9.heap.size w9 w') => CA.out w' (HE9.out.trans (hE.mono HE9.out.size)))
            go_wp2_with fail
            refine wp_region_facts 16 (fun a b => Below a.heap.size a b) (fun _ => Below.refl _ _) (fun _ _ _ h h' => h.trans (h'.mono h.size)) (Below.refl _ _).drew (by kernel_rfl) (by kernel_rfl) (by kernel_rfl) (by kernel_rfl) ?_
            simp only [List.take_succ_cons, List.take_zero, List.drop_succ_cons, List.drop_zero]
            (with_reducible apply wpF_val); (focus (intro vs w' hE hk; (obtain ⟨d0, d1, d2, u0, u1, u2, e0⟩ := KS.out w' hE); go_simp; exact ⟨Below.refl _ _, rfl⟩)); (simp only [Act.put, List.setIfInBounds_toArray, List.set_cons_zero, List.set_cons_succ, List.cons_append, List.nil_append])
            (with_reducible apply wpF_val); (focus (intro vs w' hE hk; (obtain ⟨d0, d1, d2, u0, u1, u2, e0⟩ := KS.out w' hE); go_simp; exact ⟨Below.refl _ _, rfl⟩)); (simp only [Act.put, List.setIfInBounds_toArray, List.set_cons_zero, List.set_cons_succ, List.cons_append, List.nil_append])
            (with_reducible apply wpF_val); (focus (intro vs w' hE hk; (obtain ⟨d0, d1, d2, u0, u1, u2, e0⟩ := KS.out w' hE); go_simp; exact ⟨Below.refl _ _, rfl⟩)); (simp only [Act.put, List.setIfInBounds_toArray, List.set_cons_zero, List.set_cons_succ, List.cons_append, List.nil_append])
            (with_reducible apply wpF_val); (focus (intro vs w' hE hk; (obtain ⟨d0, d1, d2, u0, u1, u2, e0⟩ := KS.out w' hE); go_simp; exact ⟨Below.refl _ _, rfl⟩)); (simp only [Act.put, List.setIfInBounds_toArray, List.set_cons_zero, List.set_cons_succ, List.cons_append, List.nil_append])
            (with_reducible apply wpF_val); (focus (intro vs w' hE hk; (obtain ⟨d0, d1, d2, u0, u1, u2, e0⟩ := KS.out w' hE); go_simp; exact ⟨Below.refl _ _, rfl⟩)); (simp only [Act.put, List.setIfInBounds_toArray, List.set_cons_zero, List.set_cons_succ, List.cons_append, List.nil_append])
            (with_reducible apply wpF_val); (focus (intro vs w' hE hk; (obtain ⟨d0, d1, d2, u0, u1, u2, e0⟩ := KS.out w' hE); go_simp; exact ⟨Below.refl _ _, rfl⟩)); (simp only [Act.put, List.setIfInBounds_toArray, List.set_cons_zero, List.set_cons_succ, List.cons_append, List.nil_append])
            (with_reducible apply wpF_val); (focus (intro vs w' hE hk; (obtain ⟨d0, d1, d2, u0, u1, u2, e0⟩ := KS.out w' hE); go_simp; exact ⟨Below.refl _ _, rfl⟩)); (simp only [Act.put, List.setIfInBounds_toArray, List.set_cons_zero, List.set_cons_succ, List.cons_append, List.nil_append])
            (with_reducible apply wpF_val); (focus (intro vs w' hE hk; (obtain ⟨d0, d1, d2, u0, u1, u2, e0⟩ := KS.out w' hE); go_simp; exact ⟨Below.refl _ _, rfl⟩)); (simp only [Act.put, List.setIfInBounds_toArray, List.set_cons_zero, List.set_cons_succ, List.cons_append, List.nil_append])
            (with_reducible apply wpF_val); (focus (intro vs w' hE hk; (obtain ⟨d0, d1, d2, u0, u1, u2, e0⟩ := KS.out w' hE); go_simp; exact ⟨Below.refl _ _, rfl⟩)); (simp only [Act.put, List.setIfInBounds_toArray, List.set_cons_zero, List.set_cons_succ, List.cons_append, List.nil_append])
            (with_reducible apply wpF_val); (focus (intro vs w' hE hk; (obtain ⟨d0, d1, d2, u0, u1, u2, e0⟩ := KS.out w' hE); go_simp; exact ⟨Below.refl _ _, rfl⟩)); (simp only [Act.put, List.setIfInBounds_toArray, List.set_cons_zero, List.set_cons_succ, List.cons_append, List.nil_append])
            refine wpF_fact (fun u _ => ∃ m, u = .float .f32 (pick .f32 (solV (Wn : Int) (Hn : Int) (y : Int)) m)) (fun _ _ _ h _ => h) (fun vs w' hE hk => ?_) ?_; (focus ((obtain ⟨d0, d1, d2, u0, u1, u2, e0⟩ := KS.out w' hE); go_simp; refine (CS.out w' hE).mono ?_; rintro _ w9 ⟨n9, rfl, b⟩; exact ⟨_, rfl, b, n9, rfl⟩)); (simp only [Act.put, List.setIfInBounds_toArray, List.set_cons_zero, List.set_cons_succ, List.cons_append, List.nil_append])
            refine wpF_fact (fun u _ => ∃ m, u = .float .f32 (pick .f32 (fop .mul .f32 (fat zP k) (solV (Wn : Int) (Hn : Int) (y : Int))) m)) (fun _ _ _ h _ => h) (fun vs w' hE hk => ?_) ?_; (focus (obtain ⟨n9, h9⟩ := hk 10 (by kernel_rfl); simp only [h9]; rw [if_pos (by rfl)]; refine uponW_fop _ _ _ _ _ rfl .f32 _ _ rfl rfl (by decide) (fun n' m' => ⟨below_drewN (Below.refl _ _) _, n', by simp only [fop_pick_l, fop_pick_r]⟩))); (simp only [Act.put, List.setIfInBounds_toArray, List.set_cons_zero, List.set_cons_succ, List.cons_append, List.nil_append])
            (with_reducible apply wpF_val); (focus (intro vs w' hE hk; (obtain ⟨d0, d1, d2, u0, u1, u2, e0⟩ := KS.out w' hE); go_simp; exact ⟨Below.refl _ _, rfl⟩)); (simp only [Act.put, List.setIfInBounds_toArray, List.set_cons_zero, List.set_cons_succ, List.cons_append, List.nil_append])
            refine wpF_fact (fun u _ => ∃ m, u = .float .f32 (pick .f32 (fop .mul .f32 (fop .mul .f32 (fat zP k) (solV (Wn : Int) (Hn : Int) (y : Int))) iv) m)) (fun _ _ _ h _ => h) (fun vs w' hE hk => ?_) ?_; (focus (obtain ⟨n9, h9⟩ := hk 11 (by kernel_rfl); simp only [h9]; rw [if_pos (by rfl)]; refine uponW_fop _ _ _ _ _ rfl .f32 _ _ rfl rfl (by decide) (fun n' m' => ⟨below_drewN (Below.refl _ _) _, n', by simp only [fop_pick_l, fop_pick_r]⟩))); (simp only [Act.put, List.setIfInBounds_toArray, List.set_cons_zero, List.set_cons_succ, List.cons_append, List.nil_append])
            refine wpF_fact (fun u _ => ∃ m, u = .float .f32 (pick .f32 (fop .add .f32 tk (fop .mul .f32 (fop .mul .f32 (fat zP k) (solV (Wn : Int) (Hn : Int) (y : Int))) iv)) m)) (fun _ _ _ h _ => h) (fun vs w' hE hk => ?_) ?_; (focus (obtain ⟨n9, h9⟩ := hk 13 (by kernel_rfl); simp only [h9]; rw [if_pos (by rfl)]; refine uponW_fop _ _ _ _ _ rfl .f32 _ _ rfl rfl (by decide) (fun n' m' => ⟨below_drewN (Below.refl _ _) _, n', by simp only [fop_pick_l, fop_pick_r]⟩))); (simp only [Act.put, List.setIfInBounds_toArray, List.set_cons_zero, List.set_cons_succ, List.cons_append, List.nil_append])
            refine wpF_fact (fun u _ => ∃ m, u = .float .f32 (pick .f32 (fop .add .f32 tk (fop .mul .f32 (fop .mul .f32 (fat zP k) (solV (Wn : Int) (Hn : Int) (y : Int))) iv)) m)) (fun _ _ _ h _ => h) (fun vs w' hE hk => ?_) ?_; (focus (obtain ⟨n9, h9⟩ := hk 14 (by kernel_rfl); simp only [h9]; go_simp; exact ⟨Below.refl _ _, n9, rfl⟩)); (simp only [Act.put, List.setIfInBounds_toArray, List.set_cons_zero, List.set_cons_succ, List.cons_append, List.nil_append])
            refine wpF_nil (fun vs w8 hE hk => ?_)
            obtain ⟨_, h10⟩ := hk 10
            obtain ⟨_, h11⟩ := hk 11
            obtain ⟨_, h13⟩ := hk 13
            obtain ⟨_, h14⟩ := hk 14
            obtain ⟨n15, h15⟩ := hk 15
            simp only [h10, h11, h13, h14, h15]
            have BY := Lib.hid (BX.out.trans (hE.mono BX.out.size))
            clear hE hk KS CS h10 h11 h13 h14 h15
            go_wp2_with fail
            go_roundw
            case rel => exact ⟨k + 1, n15, by omega, by rw [HT2.out], by go_num, BY.out⟩
            case measure => simp [intOf]; omega
        · obtain rfl : k = N := by omega
          have CF := Lib.hid (by have h := c_l02Number0 (dirK zP Wn Hn U.1 k) n wr; rw [← RES.out] at h; exact h : Calls Try.prog 54 #[.float .f32 (pick .f32 (dirK zP Wn Hn U.1 k) n)] wr (fun e w' => ∃ k m, e = .returned (.tuple #[.float .f32 (pick .f32 res.1 k), .bool res.2]) ∧ w' = wr.drewN m))
          have hn : ¬ ((k : Int) < (k : Int)) := by omega
          generalize dirK zP Wn Hn U.1 k = tk at *
          go_wp2_with fail
          refine CF.out.mono ?_
          rintro _ _ ⟨k9, m9, rfl, rfl⟩
          go_wp2_with fail
          go_ret2
          exact ⟨k9, rfl, below_drewN BR.out _⟩

/-! ### partOfTurn -/
theorem c_partOfTurn (v : Nat) (w : World) (j : Nat) (hti : floatToIntVal .f64 v .i64 = some (ti v)) : Calls Try.prog 146 #[.float .f64 v] (w.drewN j) (RetF .f64 (partF v) w) := by
  have H := Lib.hid hti
  clear hti
  cases h : (FloatKind.f64.format.order (fop .sub .f64 v (floatOfInt .f64 (ti v))) 0 == some .lt)
  · have e : partF v = fop .sub .f64 v (floatOfInt .f64 (ti v)) := by unfold partF; rw [h, if_neg (by decide)]
    rw [e]
    go_enter Try.func146, Try.ntmps146
    go_wp2_with (first | (first | (refine wpList_fop rfl _ _ _ _ _ rfl _ _ _ rfl rfl (by decide) _ ?_; intro _ _) | (refine upon_fop _ _ _ _ _ (by decide) ?_; intro _ _)) | (refine wpList_ftoi rfl 32 2 _ rfl (Option.isSome_iff_exists.2 ⟨_, Try.underlying32⟩) .i64 Try.underlying2 _ _ rfl (by exact H.out) ?_))
    go_ret
    exact ⟨_, _, rfl, rfl⟩
  · have e : partF v = fop .add .f64 (fop .sub .f64 v (floatOfInt .f64 (ti v))) 4607182418800017408 := by unfold partF; rw [h, if_pos rfl]; rfl
    rw [e]
    go_enter Try.func146, Try.ntmps146
    go_wp2_with (first | (first | (refine wpList_fop rfl _ _ _ _ _ rfl _ _ _ rfl rfl (by decide) _ ?_; intro _ _) | (refine upon_fop _ _ _ _ _ (by decide) ?_; intro _ _)) | (refine wpList_ftoi rfl 32 2 _ rfl (Option.isSome_iff_exists.2 ⟨_, Try.underlying32⟩) .i64 Try.underlying2 _ _ rfl (by exact H.out) ?_))
    go_ret
    exact ⟨_, _, rfl, rfl⟩
/-! ### radians -/

/-! ### sineOf -/
theorem c_sineOf_ff (v f : Nat) (w : World) (j : Nat) (Hti : Hid (floatToIntVal .f64 v .i64 = some (ti v))) (Hf : Hid (partF v = f))
    (hb : (FloatKind.f64.format.order f 4602678819172646912 == some .gt || FloatKind.f64.format.order f 4602678819172646912 == some .eq) = false)
    (hq : (FloatKind.f64.format.order f 4598175219545276416 == some .gt) = false) : Calls Try.prog 134 #[.float .f64 v] (w.drewN j) (RetF .f64 (sinF v) w) := by
  have HF : Hid (sinF v = (sinZ (fop .mul .f64 f 4618760256179416344))) := by
    unfold Hid sinF lowB fold2 half64 quarter64 twopi64; rw [Hf.out, hb]; simp only [if_true, if_false, Bool.false_eq_true, hq]
  go_enter Try.func134, Try.ntmps134
  go_wp2_with (first | (first | (refine wpList_fop rfl _ _ _ _ _ rfl _ _ _ rfl rfl (by decide) _ ?_; intro _ _) | (refine upon_fop _ _ _ _ _ (by decide) ?_; intro _ _)) | (go_at_call 146; refine (c_partOfTurn _ _ _ Hti.out).mono ?_; rw [Hf.out]; rintro _ _ ⟨_, _, rfl, rfl⟩) | go_in)
  generalize hu : fop .mul .f64 (fop .mul .f64 f 4618760256179416344) (fop .mul .f64 f 4618760256179416344) = u
  have Hu := Lib.hid hu
  clear hu
  go_loopw [7, 8] (fun p k wr => ∃ i n m : Nat, i ≤ 8 ∧ p = .float .f64 (pick .f64 (ser u i) n) ∧ k = .float .f64 (kfl i) ∧ wr = w.drewN m) (fun _ k _ => fbits k)
  case atStart => exact ⟨0, 0, _, by omega, by rw [pick_not (show isN .f64 (ser u 0) = false from (by decide +kernel : isN .f64 one64 = false))]; rfl, rfl, rfl⟩
  case round =>
    obtain ⟨i, n, m, hi, rfl, rfl, rfl⟩ := hrel
    by_cases hlt : i < 8
    · have ht := kfl_test i hlt
      unfold one64 at ht
      have HD := Lib.hid (kfl_den i hlt)
      have HN := Lib.hid (kfl_next i hlt)
      have HL := Lib.hid (kfl_lt i hlt)
      go_wp2_with (first | (refine wpList_fop rfl _ _ _ _ _ rfl _ _ _ rfl rfl (by decide) _ ?_; intro _ _) | (refine upon_fop _ _ _ _ _ (by decide) ?_; intro _ _))
      go_roundw
      case rel => exact ⟨i + 1, _, _, by omega, by rw [ser_step, ← HD.out]; rfl, by have e := HN.out; unfold one64 at e; rw [e, pick_not (kfl_notN _)], rfl⟩
      case measure => have e := HN.out; unfold one64 at e; rw [e, pick_not (kfl_notN _)]; exact HL.out
    · obtain rfl : i = 8 := by omega
      have ht := kfl_end
      unfold one64 at ht
      go_wp2_with (first | (refine wpList_fop rfl _ _ _ _ _ rfl _ _ _ rfl rfl (by decide) _ ?_; intro _ _) | (refine upon_fop _ _ _ _ _ (by decide) ?_; intro _ _))
      go_ret
      rw [HF.out]
      unfold sinZ
      rw [Hu.out]
      exact ⟨_, _, rfl, rfl⟩
theorem c_sineOf_ft (v f : Nat) (w : World) (j : Nat) (Hti : Hid (floatToIntVal .f64 v .i64 = some (ti v))) (Hf : Hid (partF v = f))
    (hb : (FloatKind.f64.format.order f 4602678819172646912 == some .gt || FloatKind.f64.format.order f 4602678819172646912 == some .eq) = false)
    (hq : (FloatKind.f64.format.order f 4598175219545276416 == some .gt) = true) : Calls Try.prog 134 #[.float .f64 v] (w.drewN j) (RetF .f64 (sinF v) w) := by
  have HF : Hid (sinF v = (sinZ (fop .mul .f64 (fop .sub .f64 4602678819172646912 f) 4618760256179416344))) := by
    unfold Hid sinF lowB fold2 half64 quarter64 twopi64; rw [Hf.out, hb]; simp only [if_true, if_false, Bool.false_eq_true, hq]
  go_enter Try.func134, Try.ntmps134
  go_wp2_with (first | (first | (refine wpList_fop rfl _ _ _ _ _ rfl _ _ _ rfl rfl (by decide) _ ?_; intro _ _) | (refine upon_fop _ _ _ _ _ (by decide) ?_; intro _ _)) | (go_at_call 146; refine (c_partOfTurn _ _ _ Hti.out).mono ?_; rw [Hf.out]; rintro _ _ ⟨_, _, rfl, rfl⟩) | go_in)
  generalize hu : fop .mul .f64 (fop .mul .f64 (fop .sub .f64 4602678819172646912 f) 4618760256179416344) (fop .mul .f64 (fop .sub .f64 4602678819172646912 f) 4618760256179416344) = u
  have Hu := Lib.hid hu
  clear hu
  go_loopw [7, 8] (fun p k wr => ∃ i n m : Nat, i ≤ 8 ∧ p = .float .f64 (pick .f64 (ser u i) n) ∧ k = .float .f64 (kfl i) ∧ wr = w.drewN m) (fun _ k _ => fbits k)
  case atStart => exact ⟨0, 0, _, by omega, by rw [pick_not (show isN .f64 (ser u 0) = false from (by decide +kernel : isN .f64 one64 = false))]; rfl, rfl, rfl⟩
  case round =>
    obtain ⟨i, n, m, hi, rfl, rfl, rfl⟩ := hrel
    by_cases hlt : i < 8
    · have ht := kfl_test i hlt
      unfold one64 at ht
      have HD := Lib.hid (kfl_den i hlt)
      have HN := Lib.hid (kfl_next i hlt)
      have HL := Lib.hid (kfl_lt i hlt)
      go_wp2_with (first | (refine wpList_fop rfl _ _ _ _ _ rfl _ _ _ rfl rfl (by decide) _ ?_; intro _ _) | (refine upon_fop _ _ _ _ _ (by decide) ?_; intro _ _))
      go_roundw
      case rel => exact ⟨i + 1, _, _, by omega, by rw [ser_step, ← HD.out]; rfl, by have e := HN.out; unfold one64 at e; rw [e, pick_not (kfl_notN _)], rfl⟩
      case measure => have e := HN.out; unfold one64 at e; rw [e, pick_not (kfl_notN _)]; exact HL.out
    · obtain rfl : i = 8 := by omega
      have ht := kfl_end
      unfold one64 at ht
      go_wp2_with (first | (refine wpList_fop rfl _ _ _ _ _ rfl _ _ _ rfl rfl (by decide) _ ?_; intro _ _) | (refine upon_fop _ _ _ _ _ (by decide) ?_; intro _ _))
      go_ret
      rw [HF.out]
      unfold sinZ
      rw [Hu.out]
      exact ⟨_, _, rfl, rfl⟩
theorem c_sineOf_tf (v f : Nat) (w : World) (j : Nat) (Hti : Hid (floatToIntVal .f64 v .i64 = some (ti v))) (Hf : Hid (partF v = f))
    (hb : (FloatKind.f64.format.order f 4602678819172646912 == some .gt || FloatKind.f64.format.order f 4602678819172646912 == some .eq) = true)
    (hq : (FloatKind.f64.format.order (fop .sub .f64 f 4602678819172646912) 4598175219545276416 == some .gt) = false) : Calls Try.prog 134 #[.float .f64 v] (w.drewN j) (RetF .f64 (sinF v) w) := by
  have HF : Hid (sinF v = fneg .f64 (sinZ (fop .mul .f64 (fop .sub .f64 f 4602678819172646912) 4618760256179416344))) := by
    unfold Hid sinF lowB fold2 half64 quarter64 twopi64; rw [Hf.out, hb]; simp only [if_true, if_false, Bool.false_eq_true, hq]
  go_enter Try.func134, Try.ntmps134
  go_wp2_with (first | (first | (refine wpList_fop rfl _ _ _ _ _ rfl _ _ _ rfl rfl (by decide) _ ?_; intro _ _) | (refine upon_fop _ _ _ _ _ (by decide) ?_; intro _ _)) | (go_at_call 146; refine (c_partOfTurn _ _ _ Hti.out).mono ?_; rw [Hf.out]; rintro _ _ ⟨_, _, rfl, rfl⟩) | go_in)
  generalize hu : fop .mul .f64 (fop .mul .f64 (fop .sub .f64 f 4602678819172646912) 4618760256179416344) (fop .mul .f64 (fop .sub .f64 f 4602678819172646912) 4618760256179416344) = u
  have Hu := Lib.hid hu
  clear hu
  go_loopw [7, 8] (fun p k wr => ∃ i n m : Nat, i ≤ 8 ∧ p = .float .f64 (pick .f64 (ser u i) n) ∧ k = .float .f64 (kfl i) ∧ wr = w.drewN m) (fun _ k _ => fbits k)
  case atStart => exact ⟨0, 0, _, by omega, by rw [pick_not (show isN .f64 (ser u 0) = false from (by decide +kernel : isN .f64 one64 = false))]; rfl, rfl, rfl⟩
  case round =>
    obtain ⟨i, n, m, hi, rfl, rfl, rfl⟩ := hrel
    by_cases hlt : i < 8
    · have ht := kfl_test i hlt
      unfold one64 at ht
      have HD := Lib.hid (kfl_den i hlt)
      have HN := Lib.hid (kfl_next i hlt)
      have HL := Lib.hid (kfl_lt i hlt)
      go_wp2_with (first | (refine wpList_fop rfl _ _ _ _ _ rfl _ _ _ rfl rfl (by decide) _ ?_; intro _ _) | (refine upon_fop _ _ _ _ _ (by decide) ?_; intro _ _))
      go_roundw
      case rel => exact ⟨i + 1, _, _, by omega, by rw [ser_step, ← HD.out]; rfl, by have e := HN.out; unfold one64 at e; rw [e, pick_not (kfl_notN _)], rfl⟩
      case measure => have e := HN.out; unfold one64 at e; rw [e, pick_not (kfl_notN _)]; exact HL.out
    · obtain rfl : i = 8 := by omega
      have ht := kfl_end
      unfold one64 at ht
      go_wp2_with (first | (refine wpList_fop rfl _ _ _ _ _ rfl _ _ _ rfl rfl (by decide) _ ?_; intro _ _) | (refine upon_fop _ _ _ _ _ (by decide) ?_; intro _ _))
      go_ret
      rw [HF.out]
      unfold sinZ
      rw [Hu.out]
      exact ⟨_, _, rfl, rfl⟩
theorem c_sineOf_tt (v f : Nat) (w : World) (j : Nat) (Hti : Hid (floatToIntVal .f64 v .i64 = some (ti v))) (Hf : Hid (partF v = f))
    (hb : (FloatKind.f64.format.order f 4602678819172646912 == some .gt || FloatKind.f64.format.order f 4602678819172646912 == some .eq) = true)
    (hq : (FloatKind.f64.format.order (fop .sub .f64 f 4602678819172646912) 4598175219545276416 == some .gt) = true) : Calls Try.prog 134 #[.float .f64 v] (w.drewN j) (RetF .f64 (sinF v) w) := by
  have HF : Hid (sinF v = fneg .f64 (sinZ (fop .mul .f64 (fop .sub .f64 4602678819172646912 (fop .sub .f64 f 4602678819172646912)) 4618760256179416344))) := by
    unfold Hid sinF lowB fold2 half64 quarter64 twopi64; rw [Hf.out, hb]; simp only [if_true, if_false, Bool.false_eq_true, hq]
  go_enter Try.func134, Try.ntmps134
  go_wp2_with (first | (first | (refine wpList_fop rfl _ _ _ _ _ rfl _ _ _ rfl rfl (by decide) _ ?_; intro _ _) | (refine upon_fop _ _ _ _ _ (by decide) ?_; intro _ _)) | (go_at_call 146; refine (c_partOfTurn _ _ _ Hti.out).mono ?_; rw [Hf.out]; rintro _ _ ⟨_, _, rfl, rfl⟩) | go_in)
  generalize hu : fop .mul .f64 (fop .mul .f64 (fop .sub .f64 4602678819172646912 (fop .sub .f64 f 4602678819172646912)) 4618760256179416344) (fop .mul .f64 (fop .sub .f64 4602678819172646912 (fop .sub .f64 f 4602678819172646912)) 4618760256179416344) = u
  have Hu := Lib.hid hu
  clear hu
  go_loopw [7, 8] (fun p k wr => ∃ i n m : Nat, i ≤ 8 ∧ p = .float .f64 (pick .f64 (ser u i) n) ∧ k = .float .f64 (kfl i) ∧ wr = w.drewN m) (fun _ k _ => fbits k)
  case atStart => exact ⟨0, 0, _, by omega, by rw [pick_not (show isN .f64 (ser u 0) = false from (by decide +kernel : isN .f64 one64 = false))]; rfl, rfl, rfl⟩
  case round =>
    obtain ⟨i, n, m, hi, rfl, rfl, rfl⟩ := hrel
    by_cases hlt : i < 8
    · have ht := kfl_test i hlt
      unfold one64 at ht
      have HD := Lib.hid (kfl_den i hlt)
      have HN := Lib.hid (kfl_next i hlt)
      have HL := Lib.hid (kfl_lt i hlt)
      go_wp2_with (first | (refine wpList_fop rfl _ _ _ _ _ rfl _ _ _ rfl rfl (by decide) _ ?_; intro _ _) | (refine upon_fop _ _ _ _ _ (by decide) ?_; intro _ _))
      go_roundw
      case rel => exact ⟨i + 1, _, _, by omega, by rw [ser_step, ← HD.out]; rfl, by have e := HN.out; unfold one64 at e; rw [e, pick_not (kfl_notN _)], rfl⟩
      case measure => have e := HN.out; unfold one64 at e; rw [e, pick_not (kfl_notN _)]; exact HL.out
    · obtain rfl : i = 8 := by omega
      have ht := kfl_end
      unfold one64 at ht
      go_wp2_with (first | (refine wpList_fop rfl _ _ _ _ _ rfl _ _ _ rfl rfl (by decide) _ ?_; intro _ _) | (refine upon_fop _ _ _ _ _ (by decide) ?_; intro _ _))
      go_ret
      rw [HF.out]
      unfold sinZ
      rw [Hu.out]
      exact ⟨_, _, rfl, rfl⟩
/-! ### sineAll -/
theorem c_sineOf (v : Nat) (w : World) (j : Nat) (hti : floatToIntVal .f64 v .i64 = some (ti v)) : Calls Try.prog 134 #[.float .f64 v] (w.drewN j) (RetF .f64 (sinF v) w) := by
  cases hb : (FloatKind.f64.format.order (partF v) 4602678819172646912 == some .gt || FloatKind.f64.format.order (partF v) 4602678819172646912 == some .eq)
  · cases hq : (FloatKind.f64.format.order (partF v) 4598175219545276416 == some .gt)
    · exact c_sineOf_ff v _ w j hti rfl hb hq
    · exact c_sineOf_ft v _ w j hti rfl hb hq
  · cases hq : (FloatKind.f64.format.order (fop .sub .f64 (partF v) 4602678819172646912) 4598175219545276416 == some .gt)
    · exact c_sineOf_tf v _ w j hti rfl hb hq
    · exact c_sineOf_tt v _ w j hti rfl hb hq

/-! ### IsNaN -/
theorem c_IsNaN (v n : Nat) (w : World) (j : Nat) : Calls Try.prog 140 #[.float .f64 (pick .f64 v n)] (w.drewN j) (RetV (.bool (isN .f64 v)) w) := by
  go_enter Try.func140, Try.ntmps140
  go_wp2
  go_ret
  exact ⟨_, rfl, rfl⟩
/-! ### f64bits -/
@[go_sem] theorem e_f64bits (b : Nat) (w : World) : (callFunc 145 #[.float .f64 b]).run Try.prog w = .ok (.value (.int .u64 b)) w := by kernel_rfl
/-! ### Abs -/
theorem c_Abs (v n : Nat) (w : World) (j : Nat) (hv : v < 2 ^ FloatKind.f64.format.width) : Calls Try.prog 132 #[.float .f64 (pick .f64 v n)] (w.drewN j) (RetF .f64 (fabs .f64 v) w) := by
  have hb := abs_bits hv n
  go_enter Try.func132, Try.ntmps132
  go_wp2
  go_ret
  exact ⟨_, _, rfl, rfl⟩
/-! ### IsInf0 -/
theorem c_IsInf0 (v n : Nat) (w : World) (j : Nat) (hv : v < 2 ^ FloatKind.f64.format.width) : Calls Try.prog 141 #[.float .f64 (pick .f64 v n), .int .i64 0] (w.drewN j) (RetV (.bool (FloatKind.f64.format.order (fabs .f64 v) 9218868437227405311 == some .gt)) w) := by
  go_enter Try.func141, Try.ntmps141
  go_wp2_with ((go_at_call 132; refine (c_Abs _ _ _ _ hv).mono ?_; rintro _ _ ⟨_, _, rfl, rfl⟩))
  go_ret
  exact ⟨_, rfl, rfl⟩
/-! ### isFinite64 -/
theorem c_isFinite64 (v n : Nat) (w : World) (j : Nat) (hv : v < 2 ^ FloatKind.f64.format.width) : Calls Try.prog 122 #[.float .f64 (pick .f64 v n)] (w.drewN j) (RetV (.bool (finB .f64 v)) w) := by
  go_enter Try.func122, Try.ntmps122
  go_wp2_with (first | (go_at_call 140; refine (c_IsNaN _ _ _ _).mono ?_; rintro _ _ ⟨_, rfl, rfl⟩) | (go_at_call 141; refine (c_IsInf0 _ _ _ _ hv).mono ?_; rintro _ _ ⟨_, rfl, rfl⟩))
  all_goals
    go_ret
    refine ⟨_, ?_, rfl⟩
    rw [← abs_gt_max]
    simp [*]
/-! ### iIsFinite -/
theorem c_iIsFinite (v n : Nat) (w : World) (j : Nat) : Calls Try.prog 85 #[.float .f32 (pick .f32 v n)] (w.drewN j) (RetV (.bool (finB .f32 v)) w) := by
  go_enter Try.func85, Try.ntmps85
  go_wp2_with (first | (refine wpList_cvU rfl 26 32 _ rfl (Option.isSome_iff_exists.2 ⟨_, Try.underlying26⟩) Try.underlying32 _ rfl _ ?_; intro _ _) | (go_at_call 122; refine (c_isFinite64 _ _ _ _ (cvU_lt _)).mono ?_; rintro _ _ ⟨_, rfl, rfl⟩))
  go_ret
  rw [← finB_cvU]
  exact ⟨_, rfl, rfl⟩
/-! ### f32from -/
@[go_sem] theorem e_f32from (n : Int) (w : World) : (callFunc 143 #[.int .u32 n]).run Try.prog w = .ok (.value (.float .f32 n.toNat)) w := by kernel_rfl
/-! ### notANumber -/
theorem c_notANumber (w : World) (j : Nat) : Calls Try.prog 131 #[] (w.drewN j) (RetV (.float .f32 2143289344) w) := by
  go_enter Try.func131, Try.ntmps131
  go_wp2
  go_ret
  exact ⟨_, rfl, rfl⟩
/-! ### iSineTurns0 -/
theorem c_NarrowNumber (v n : Nat) (w : World) (j : Nat) (hfit : Fits v) : Calls Try.prog 133 #[.float .f64 (pick .f64 v n)] (w.drewN j) (RetF .f32 (cvN v) w) := by
  have H := Lib.hid hfit
  clear hfit
  go_enter Try.func133, Try.ntmps133
  go_wp2_with ((refine wpList_cvN rfl 32 26 _ rfl (Option.isSome_iff_exists.2 ⟨_, Try.underlying32⟩) Try.underlying26 _ rfl _ (by rw [Fits_pick]; exact H.out) ?_; intro _ _))
  go_ret
  exact ⟨_, _, rfl, rfl⟩
/-! ### iSineTurns -/
theorem c_iSineTurns (v n : Nat) (w : World) (j : Nat) (hv : v < 2 ^ FloatKind.f32.format.width) : Calls Try.prog 108 #[.float .f32 (pick .f32 v n)] (w.drewN j) (RetF .f32 (sineT v) w) := by
  cases hf : finB .f32 v
  · have e : sineT v = qn .f32 := by unfold sineT; rw [hf, if_neg (by decide)]
    obtain ⟨n0, hn0⟩ := nanOf_onto .f32 2143289344 (by decide +kernel) (by decide +kernel)
    rw [e]
    have H := Lib.hid hn0
    clear hn0
    go_enter Try.func108, Try.ntmps108
    go_wp2_with (first | (go_at_call 85; refine (c_iIsFinite _ _ _ _).mono ?_; rintro _ _ ⟨_, rfl, rfl⟩) | (go_at_call 131; refine (c_notANumber _ _).mono ?_; rintro _ _ ⟨_, rfl, rfl⟩))
    go_ret
    exact ⟨n0, _, by simp only [pick, isN_qn, if_true]; rw [← H.out]; rfl, rfl⟩
  · have hn : isN .f64 (cvU v) = false := by rw [isN_cvU]; exact notN_fin (k := .f32) (of_decide_eq_true hf)
    obtain ⟨g1, g2⟩ := big_abs (cvU v) hn
    clear g1
    have hp := pick_not hn
    cases hb : decide (4841369599423283200 ≤ rung Ieee.double (cvU v))
    · obtain ⟨k1, k2, k3⟩ := fin_small hf hb
      have e : sineT v = cvN (sinF (cvU v)) := by unfold sineT; rw [hf, if_pos rfl, hb, if_neg (by decide)]
      rw [e]
      rw [hb] at g2
      have H := Lib.hid (And.intro k2 k3)
      clear k1 k2 k3 hn
      go_enter Try.func108, Try.ntmps108
      go_wp2_with (first | (refine wpList_cvU rfl 26 32 _ rfl (Option.isSome_iff_exists.2 ⟨_, Try.underlying26⟩) Try.underlying32 _ rfl _ ?_; intro _ _) | (go_at_call 85; refine (c_iIsFinite _ _ _ _).mono ?_; rintro _ _ ⟨_, rfl, rfl⟩) | (go_at_call 132; rw [← hp 0]; refine (c_Abs _ _ _ _ (cvU_lt _)).mono ?_; rintro _ _ ⟨_, _, rfl, rfl⟩) | (go_at_call 134; refine (c_sineOf _ _ _ H.out.1).mono ?_; rintro _ _ ⟨_, _, rfl, rfl⟩) | (go_at_call 133; refine (c_NarrowNumber _ _ _ _ (Fits_sin H.out.2)).mono ?_; rintro _ _ ⟨_, _, rfl, rfl⟩))
      go_ret
      exact ⟨_, _, rfl, rfl⟩
    · have e : sineT v = 0 := by unfold sineT; rw [hf, if_pos rfl, hb, if_pos rfl]
      rw [e]
      rw [hb] at g2
      clear hn
      go_enter Try.func108, Try.ntmps108
      go_wp2_with (first | (refine wpList_cvU rfl 26 32 _ rfl (Option.isSome_iff_exists.2 ⟨_, Try.underlying26⟩) Try.underlying32 _ rfl _ ?_; intro _ _) | (go_at_call 85; refine (c_iIsFinite _ _ _ _).mono ?_; rintro _ _ ⟨_, rfl, rfl⟩) | (go_at_call 132; rw [← hp 0]; refine (c_Abs _ _ _ _ (cvU_lt _)).mono ?_; rintro _ _ ⟨_, _, rfl, rfl⟩))
      go_ret
      exact ⟨0, _, by rw [pick_not (show isN .f32 0 = false by decide +kernel)]; rfl, rfl⟩
/-! ### cosineTurns -/
theorem c_cosineTurns (v n : Nat) (w : World) (j : Nat) : Calls Try.prog 109 #[.float .f32 (pick .f32 v n)] (w.drewN j) (RetF .f32 (cosT v) w) := by
  unfold cosT
  go_enter Try.func109, Try.ntmps109
  go_wp2_with (first | (first | (refine wpList_fop rfl _ _ _ _ _ rfl _ _ _ rfl rfl (by decide) _ ?_; intro _ _) | (refine upon_fop _ _ _ _ _ (by decide) ?_; intro _ _)) | (go_at_call 108; refine (c_iSineTurns _ _ _ _ (fop_lt _ _ _ _)).mono ?_; rintro _ _ ⟨_, _, rfl, rfl⟩))
  go_ret
  exact ⟨_, _, rfl, rfl⟩
/-! ### iWayOfS -/
theorem c_iWayOfS (Wn Hn x y : Nat) (w : World) (hx : x < Wn) (hW : Wn ≤ 16) (hy : y < Hn) (hH : Hn ≤ 16) : Calls Try.prog 63 #[.agg #[.int .i64 (Wn : Int), .int .i64 (Hn : Int)], .int .i64 (x : Int), .int .i64 (y : Int)] w (WayR (wayV (Wn : Int) (Hn : Int) (x : Int) (y : Int)) w) := by
  unfold wayV wayT atT
  have m2 : IntKind.i64.wrap (2 * (Hn : Int)) = 2 * (Hn : Int) := IntWalk.i64_in _ (by omega)
  generalize hw0 : (w.alloc (Obj.cells #[.int .i64 (Wn : Int), .int .i64 (Hn : Int)] 77)).alloc (Obj.cells #[.float .f32 0, .float .f32 0, .float .f32 0] 36) = w0
  have V0 := Lib.hid (show Var w0 w.heap.size #[.int .i64 (Wn : Int), .int .i64 (Hn : Int)] from by subst hw0; exact (Var.new _ _ _).alloc _)
  have Vz := Lib.hid (show Var w0 (w.heap.size + 1) #[.float .f32 0, .float .f32 0, .float .f32 0] from by subst hw0; exact Var.new' _ _ _ _ (by first | rfl | simp))
  have F0 := Lib.hid (show Free w0 (w.heap.size + 1) from by subst hw0; exact Free.new' _ _ _ _ (by first | rfl | simp))
  have B0 := Lib.hid (show Below w.heap.size w w0 from by subst hw0; exact ((Below.refl _ _).alloc (Nat.le_refl _) _).alloc (by simp) _)
  have HW := Lib.hid hw0
  clear hw0
  have KS := Lib.hid (fun (w' : World) (hE : Below w0.heap.size w0 w') => (⟨(V0.out.keep hE).2 0 (by simp), (V0.out.keep hE).2 1 (by simp)⟩ : w'.cell? ⟨w.heap.size, 0, none⟩ = some (.int .i64 (Wn : Int)) ∧ w'.cell? ⟨w.heap.size, 1, none⟩ = some (.int .i64 (Hn : Int))))
  obtain ⟨s0, s1⟩ := KS.out w0 (Below.refl _ _)
  obtain ⟨c0, c1, c2⟩ := Vz.out.three
  have f0 := F0.out 0
  have f1 := F0.out 1
  have f2 := F0.out 2
  go_enter Try.func63, Try.ntmps63
  go_wp2_with fail
  rw [HW.out]
  refine upon_fop0 _ _ _ _ _ (by decide) ?_
  intro _ _
  go_wp2_with (first | (first | (refine wpList_fop rfl _ _ _ _ _ rfl _ _ _ rfl rfl (by decide) _ ?_; intro _ _) | (refine upon_fop _ _ _ _ _ (by decide) ?_; intro _ _)) | (go_at_call 109; refine (c_cosineTurns _ _ _ _).mono ?_; rintro _ _ ⟨_, _, rfl, rfl⟩) | (go_at_call 108; refine (c_iSineTurns _ _ _ _ (fop_lt _ _ _ _)).mono ?_; rintro _ _ ⟨_, _, rfl, rfl⟩))
  refine bodyPost_ret (by simp [results, Try.results63, c0, c1, c2, go_sem]; exact ⟨rfl, rfl, rfl⟩) rfl ⟨_, _, _, rfl, ?_⟩
  repeat (first | exact B0.out | exact Nat.le_refl _ | (refine Below.setCell ?_ ?_ _) | (refine below_drewN ?_ _) | (refine Below.alloc ?_ ?_ _) | (simp <;> omega))
/-! ### heightAt -/
theorem c_heightAt (Wn Hn y : Nat) (w : World) (hy : y ≤ Hn) (hH : Hn ≤ 16) : Calls Try.prog 130 #[.agg #[.int .i64 (Wn : Int), .int .i64 (Hn : Int)], .int .i64 (y : Int)] w (RetN (hiV (Hn : Int) (y : Int)) w) := by
  unfold hiV
  have m2 : IntKind.i64.wrap (2 * (Hn : Int)) = 2 * (Hn : Int) := IntWalk.i64_in _ (by omega)
  generalize hw0 : w.alloc (Obj.cells #[.int .i64 (Wn : Int), .int .i64 (Hn : Int)] 77) = w0
  have V0 := Lib.hid (show Var w0 w.heap.size #[.int .i64 (Wn : Int), .int .i64 (Hn : Int)] from by subst hw0; exact Var.new _ _ _)
  have B0 := Lib.hid (show Below w.heap.size w w0 from by subst hw0; exact (Below.refl _ _).alloc (Nat.le_refl _) _)
  have HW := Lib.hid hw0
  clear hw0
  have KS := Lib.hid (fun (w' : World) (hE : Below w0.heap.size w0 w') => (⟨(V0.out.keep hE).2 0 (by simp), (V0.out.keep hE).2 1 (by simp)⟩ : w'.cell? ⟨w.heap.size, 0, none⟩ = some (.int .i64 (Wn : Int)) ∧ w'.cell? ⟨w.heap.size, 1, none⟩ = some (.int .i64 (Hn : Int))))
  obtain ⟨s0, s1⟩ := KS.out w0 (Below.refl _ _)
  go_enter Try.func130, Try.ntmps130
  go_wp2_with fail
  rw [HW.out]
  refine upon_fop0 _ _ _ _ _ (by decide) ?_
  intro _ _
  go_wp2_with (first | (first | (refine wpList_fop rfl _ _ _ _ _ rfl _ _ _ rfl rfl (by decide) _ ?_; intro _ _) | (refine upon_fop _ _ _ _ _ (by decide) ?_; intro _ _)) | (go_at_call 109; refine (c_cosineTurns _ _ _ _).mono ?_; rintro _ _ ⟨_, _, rfl, rfl⟩))
  go_ret
  exact ⟨_, rfl, below_drewN B0.out _⟩
/-! ### solidOfS -/
theorem c_solidOfS (Wn Hn y : Nat) (w : World) (hy : y < Hn) (hH : Hn ≤ 16) : Calls Try.prog 106 #[.agg #[.int .i64 (Wn : Int), .int .i64 (Hn : Int)], .int .i64 (y : Int)] w (RetN (solV (Wn : Int) (Hn : Int) (y : Int)) w) := by
  unfold solV
  have e1 : ((y : Int) + 1) = ((y + 1 : Nat) : Int) := by omega
  have m1 : IntKind.i64.wrap ((y : Int) + 1) = ((y + 1 : Nat) : Int) := by rw [e1]; exact IntWalk.i64_in _ (by omega)
  rw [e1]
  have C1 := Lib.hid (fun w => c_heightAt Wn Hn y w (by omega) hH)
  have C2 := Lib.hid (fun w => c_heightAt Wn Hn (y + 1) w (by omega) hH)
  generalize hiV (Hn : Int) (y : Int) = p at *
  generalize hiV (Hn : Int) ((y + 1 : Nat) : Int) = q at *
  generalize hy1 : y + 1 = y1 at *
  clear e1 hy1
  generalize hw0 : w.alloc (Obj.cells #[.int .i64 (Wn : Int), .int .i64 (Hn : Int)] 77) = w0
  have V0 := Lib.hid (show Var w0 w.heap.size #[.int .i64 (Wn : Int), .int .i64 (Hn : Int)] from by subst hw0; exact Var.new _ _ _)
  have B0 := Lib.hid (show Below w.heap.size w w0 from by subst hw0; exact (Below.refl _ _).alloc (Nat.le_refl _) _)
  have HW := Lib.hid hw0
  clear hw0
  have KS := Lib.hid (fun (w' : World) (hE : Below w0.heap.size w0 w') => (⟨(V0.out.keep hE).2 0 (by simp), (V0.out.keep hE).2 1 (by simp)⟩ : w'.cell? ⟨w.heap.size, 0, none⟩ = some (.int .i64 (Wn : Int)) ∧ w'.cell? ⟨w.heap.size, 1, none⟩ = some (.int .i64 (Hn : Int))))
  obtain ⟨s0, s1⟩ := KS.out w0 (Below.refl _ _)
  go_enter Try.func106, Try.ntmps106
  go_wp2_with fail
  rw [HW.out]
  clear s0 s1
  refine wp_region_facts 13 (fun a b => Below a.heap.size a b) (fun _ => Below.refl _ _) (fun _ _ _ h h' => h.trans (h'.mono h.size)) (Below.refl _ _).drew (by kernel_rfl) (by kernel_rfl) (by kernel_rfl) (by kernel_rfl) ?_
  simp only [List.take_succ_cons, List.take_zero, List.drop_succ_cons, List.drop_zero]
  (with_reducible apply wpF_val); (focus (intro vs w' hE hk; (obtain ⟨s0, s1⟩ := KS.out w' hE); go_simp; exact ⟨Below.refl _ _, rfl⟩)); (simp only [Act.put, List.setIfInBounds_toArray, List.set_cons_zero, List.set_cons_succ, List.cons_append, List.nil_append])
  (with_reducible apply wpF_val); (focus (intro vs w' hE hk; (obtain ⟨s0, s1⟩ := KS.out w' hE); go_simp; exact ⟨Below.refl _ _, rfl⟩)); (simp only [Act.put, List.setIfInBounds_toArray, List.set_cons_zero, List.set_cons_succ, List.cons_append, List.nil_append])
  refine wpF_fact (fun u _ => ∃ m, u = .float .f32 (pick .f32 (p) m)) (fun _ _ _ h _ => h) (fun vs w' hE hk => ?_) ?_; (focus ((obtain ⟨s0, s1⟩ := KS.out w' hE); go_simp; refine (C1.out _).mono ?_; rintro _ w9 ⟨m1, rfl, b⟩; exact ⟨_, rfl, b, m1, rfl⟩)); (simp only [Act.put, List.setIfInBounds_toArray, List.set_cons_zero, List.set_cons_succ, List.cons_append, List.nil_append])
  (with_reducible apply wpF_val); (focus (intro vs w' hE hk; (obtain ⟨s0, s1⟩ := KS.out w' hE); go_simp; exact ⟨Below.refl _ _, rfl⟩)); (simp only [Act.put, List.setIfInBounds_toArray, List.set_cons_zero, List.set_cons_succ, List.cons_append, List.nil_append])
  (with_reducible apply wpF_val); (focus (intro vs w' hE hk; (obtain ⟨s0, s1⟩ := KS.out w' hE); go_simp; exact ⟨Below.refl _ _, rfl⟩)); (simp only [Act.put, List.setIfInBounds_toArray, List.set_cons_zero, List.set_cons_succ, List.cons_append, List.nil_append])
  (with_reducible apply wpF_val); (focus (intro vs w' hE hk; (obtain ⟨s0, s1⟩ := KS.out w' hE); go_simp; exact ⟨Below.refl _ _, rfl⟩)); (simp only [Act.put, List.setIfInBounds_toArray, List.set_cons_zero, List.set_cons_succ, List.cons_append, List.nil_append])
  refine wpF_fact (fun u _ => ∃ m, u = .float .f32 (pick .f32 (q) m)) (fun _ _ _ h _ => h) (fun vs w' hE hk => ?_) ?_; (focus ((obtain ⟨s0, s1⟩ := KS.out w' hE); go_simp; refine (C2.out _).mono ?_; rintro _ w9 ⟨m1, rfl, b⟩; exact ⟨_, rfl, b, m1, rfl⟩)); (simp only [Act.put, List.setIfInBounds_toArray, List.set_cons_zero, List.set_cons_succ, List.cons_append, List.nil_append])
  refine wpF_fact (fun u _ => ∃ m, u = .float .f32 (pick .f32 (fop .sub .f32 p q) m)) (fun _ _ _ h _ => h) (fun vs w' hE hk => ?_) ?_; (focus (obtain ⟨n1, hn1⟩ := hk 2 (by kernel_rfl); simp only [hn1]; obtain ⟨n2, hn2⟩ := hk 6 (by kernel_rfl); simp only [hn2]; rw [if_pos (by rfl)]; refine uponW_fop _ _ _ _ _ rfl .f32 _ _ rfl rfl (by decide) (fun n' m' => ⟨below_drewN (Below.refl _ _) _, n', by simp only [fop_pick_l, fop_pick_r]⟩))); (simp only [Act.put, List.setIfInBounds_toArray, List.set_cons_zero, List.set_cons_succ, List.cons_append, List.nil_append])
  refine wpF_fact (fun u _ => ∃ m, u = .float .f32 (pick .f32 (fop .mul .f32 1086918619 (fop .sub .f32 p q)) m)) (fun _ _ _ h _ => h) (fun vs w' hE hk => ?_) ?_; (focus (obtain ⟨n1, hn1⟩ := hk 7 (by kernel_rfl); simp only [hn1]; rw [if_pos (by rfl)]; refine uponW_fop _ _ _ _ _ rfl .f32 _ _ rfl rfl (by decide) (fun n' m' => ⟨below_drewN (Below.refl _ _) _, n', by simp only [fop_pick_l, fop_pick_r]⟩))); (simp only [Act.put, List.setIfInBounds_toArray, List.set_cons_zero, List.set_cons_succ, List.cons_append, List.nil_append])
  (with_reducible apply wpF_val); (focus (intro vs w' hE hk; (obtain ⟨s0, s1⟩ := KS.out w' hE); go_simp; exact ⟨Below.refl _ _, rfl⟩)); (simp only [Act.put, List.setIfInBounds_toArray, List.set_cons_zero, List.set_cons_succ, List.cons_append, List.nil_append])
  (with_reducible apply wpF_val); (focus (intro vs w' hE hk; (obtain ⟨s0, s1⟩ := KS.out w' hE); go_simp; exact ⟨Below.refl _ _, rfl⟩)); (simp only [Act.put, List.setIfInBounds_toArray, List.set_cons_zero, List.set_cons_succ, List.cons_append, List.nil_append])
  (with_reducible apply wpF_val); (focus (intro vs w' hE hk; (obtain ⟨s0, s1⟩ := KS.out w' hE); go_simp; exact ⟨Below.refl _ _, rfl⟩)); (simp only [Act.put, List.setIfInBounds_toArray, List.set_cons_zero, List.set_cons_succ, List.cons_append, List.nil_append])
  refine wpF_fact (fun u _ => ∃ m, u = .float .f32 (pick .f32 (fop .quo .f32 (fop .mul .f32 1086918619 (fop .sub .f32 p q)) (floatOfInt .f32 (Wn : Int))) m)) (fun _ _ _ h _ => h) (fun vs w' hE hk => ?_) ?_; (focus (obtain ⟨n1, hn1⟩ := hk 8 (by kernel_rfl); simp only [hn1]; rw [if_pos (by rfl)]; refine uponW_fop _ _ _ _ _ rfl .f32 _ _ rfl rfl (by decide) (fun n' m' => ⟨below_drewN (Below.refl _ _) _, n', by simp only [fop_pick_l, fop_pick_r]⟩))); (simp only [Act.put, List.setIfInBounds_toArray, List.set_cons_zero, List.set_cons_succ, List.cons_append, List.nil_append])
  refine wpF_nil (fun vs w1 hE hk => ?_)
  obtain ⟨n5, h5⟩ := hk 12
  simp only [h5]
  have BX := Lib.hid (B0.out.trans (hE.mono B0.out.size))
  clear hE hk h5
  go_wp2_with fail
  go_ret
  exact ⟨_, rfl, BX.out⟩
/-! ### give -/
def giveP (W H : Int) (zs : List Nat) : PRes := if validB W H zs = true then ⟨W, H, zs, true⟩ else PRes.no
theorem near_valid {W H : Int} {zs' zs : List Nat} (h : near zs' zs) : validB W H zs' = validB W H zs := by
  unfold validB finL; rw [near_fin h, h.1]
theorem valid_fin {W H : Int} {zs : List Nat} (h : validB W H zs = true) : zs.all (finB .f32) = true := by
  simp [validB, finL] at h ⊢; exact h.2
theorem valid_len {W H : Int} {zs : List Nat} (h : validB W H zs = true) : (zs.length : Int) = W * H ∧ zs.length ≤ 256 ∧ 1 ≤ zs.length := by
  simp only [validB, Bool.and_eq_true, decide_eq_true_eq] at h
  obtain ⟨⟨h1, h2⟩, h3⟩ := h
  have := side_mul h1
  exact ⟨h2, by omega, by omega⟩
/-! ### atDefs -/
def minI (a b : Int) : Int := if a < b then a else b
def maxI (a b : Int) : Int := if b < a then a else b
theorem clamp_in (n : Nat) (h : 1 ≤ n) (i : Int) : ∃ c : Nat, maxI 0 (minI ((n : Int) - 1) i) = (c : Int) ∧ c < n := by
  refine ⟨(maxI 0 (minI ((n : Int) - 1) i)).toNat, ?_, ?_⟩
  · unfold maxI minI; split <;> split <;> omega
  · unfold maxI minI; split <;> split <;> omega
theorem clamp_is {n c : Nat} (h : c < n) : maxI 0 (minI ((n : Int) - 1) (c : Int)) = (c : Int) := by
  unfold maxI minI; split <;> split <;> omega
theorem mul_bound {cy Wn Hn : Nat} (hy : cy < Hn) (hW : Wn ≤ 16) (hH : Hn ≤ 16) : cy * Wn + Wn ≤ Wn * Hn ∧ cy * Wn ≤ 256 := by
  have h1 : (cy + 1) * Wn ≤ Hn * Wn := Nat.mul_le_mul_right _ (by omega)
  rw [Nat.succ_mul, Nat.mul_comm Hn Wn] at h1
  have h2 : Wn * Hn ≤ 16 * 16 := Nat.mul_le_mul hW hH
  exact ⟨h1, by omega⟩
/-! ### rowOf -/
theorem c_rowOf (Wn Hn : Nat) (a : Option Addr) (cap : Nat) (zs : List Nat) (y : Nat) (w : World) (hr : IsRowF .f32 w a zs.length cap zs) (hW1 : 1 ≤ Wn) (hW2 : Wn ≤ 16) (hH2 : Hn ≤ 16) (hl : zs.length = Wn * Hn) (hy : y < Hn) :
    Calls Try.prog 107 #[.agg #[.int .i64 (Wn : Int), .int .i64 (Hn : Int), .slice a zs.length cap], .int .i64 (y : Int)] w (fun e w' => ∃ b off, a = some ⟨b, off, none⟩ ∧ e = .returned (.slice (some ⟨b, off + y * Wn, none⟩) Wn Wn) ∧ Below w.heap.size w w') := by
  obtain ⟨hb1, hb2⟩ := mul_bound hy hW2 hH2
  obtain ⟨N, hN⟩ : ∃ N, N = zs.length := ⟨_, rfl⟩
  obtain ⟨P, hP⟩ : ∃ P : Nat, P = y * Wn := ⟨_, rfl⟩
  have hPi : (y : Int) * (Wn : Int) = (P : Int) := by rw [hP, Int.natCast_mul]
  have hPi2 : ((y : Int) + 1) * (Wn : Int) = (P : Int) + (Wn : Int) := by rw [Int.add_mul, hPi, Int.one_mul]
  rw [← hP] at hb1 hb2 ⊢
  rw [← hl, ← hN] at hb1
  rw [← hN] at hr ⊢
  have hcap : N ≤ cap := hr.2.1
  have hcm : cap ≤ maxLen := hr.2.2.1
  unfold maxLen at hcm
  obtain ⟨b, off, n0, rfl, hb, e0⟩ := hr.at (k := 0) (by omega)
  have M1 := Lib.hid (show IntKind.i64.wrap ((y : Int) * (Wn : Int)) = (P : Int) by rw [hPi]; exact IntWalk.i64_in _ (by omega))
  have M2 := Lib.hid (show IntKind.i64.wrap (((y : Int) + 1) * (Wn : Int)) = (P : Int) + (Wn : Int) by rw [hPi2]; exact IntWalk.i64_in _ (by omega))
  have M3 := Lib.hid (show IntKind.i64.wrap ((y : Int) + 1) = (y : Int) + 1 from IntWalk.i64_in _ (by omega))
  have hc2 : P + Wn ≤ cap := by omega
  clear hN hP hPi hPi2 hl hr hb e0 n0
  generalize hw0 : w.alloc (Obj.cells #[.int .i64 (Wn : Int), .int .i64 (Hn : Int), .slice (some ⟨b, off, none⟩) N cap] 29) = w0
  have X0 : Var w0 w.heap.size #[.int .i64 (Wn : Int), .int .i64 (Hn : Int), .slice (some ⟨b, off, none⟩) N cap] := by subst hw0; exact Var.new _ _ _
  have X3 : Below w.heap.size w w0 := by subst hw0; exact (Below.refl _ _).alloc (Nat.le_refl _) _
  have HW := Lib.hid hw0
  have B0 := Lib.hid X3
  obtain ⟨v0, v1, v2⟩ := X0.three
  clear hw0 X0 X3
  go_enter Try.func107, Try.ntmps107
  go_wp2_with fail
  rw [HW.out]
  rw [← w0.drewN_zero]
  have m1 := M1.out
  have m2 := M2.out
  have m3 := M3.out
  refine wp_region_N (fun _ _ _ => True) (by kernel_rfl) (by kernel_rfl) ?_; (repeat (first | ((with_reducible show wpN _ _ _ _ _ (Oper.mk _ (Op.binOp _ _ _ _ _) _ _ _ none :: _) _); refine wpN_fop rfl _ _ _ _ _ rfl _ _ _ rfl rfl (by decide) ?_; intro _) | ((with_reducible show wpN _ _ _ _ _ (Oper.mk _ (Op.convert _ _ _) _ _ _ none :: _) _); refine wpN_cvU rfl 26 32 _ rfl (Option.isSome_iff_exists.2 ⟨_, Try.underlying26⟩) Try.underlying32 _ rfl ?_; intro _) | ((with_reducible show wpN _ _ _ _ _ (Oper.mk _ _ _ _ _ (some _) :: _) _); (with_reducible refine wpN_off ?_ ?_); focus rfl; (simp only [Act.put, List.setIfInBounds_toArray, List.set_cons_zero, List.set_cons_succ])) | ((with_reducible show wpN _ _ _ _ _ (Oper.mk _ _ _ _ _ (some _) :: _) _); ((with_reducible refine wpN_on ?_ (fun K hK => ?_)); (focus rfl); intro _; go_simp; first | (refine uponN_value (hK _ ?_)) | (fail; refine hK _ ?_)); clear hK K) | (((with_reducible refine wpN_plain rfl (fun K hK => ?_)); intro _; go_simp; first | (refine uponN_value (hK _ ?_)) | (fail; refine hK _ ?_)); clear hK K) | ((with_reducible refine wpN_step (fun K hK => ?_)); go_simp; first | (refine hK _ ?_) | (intro _; first | (refine uponN_value (hK _ ?_)) | (fail; refine hK _ ?_)); clear hK K))); refine wpN_nil ?_; intro _
  clear m1 m2 m3
  go_wp2_with fail
  go_ret
  exact ⟨b, off, rfl, by simp, below_drewN B0.out _⟩

/-! ### sidesOf -/
theorem c_sidesOf (W H : Int) (s : Value) (w : World) : Calls Try.prog 62 #[.agg #[.int .i64 W, .int .i64 H, s]] w (RetB (.agg #[.int .i64 W, .int .i64 H]) w) := by
  go_enter Try.func62, Try.ntmps62
  go_wp2
  exact bodyPost_ret (v := .agg #[.int .i64 W, .int .i64 H]) (by simp [results, Try.results62, go_sem]) rfl ⟨rfl, ((Below.refl _ _).alloc (Nat.le_refl _) _).alloc (by simp) _⟩
/-! ### varSet -/
theorem var_setAt {w : World} {b i : Nat} {cs : Array Value} (h : Var w b cs) (hi : i < cs.size) (v : Value) : Var (w.setCell ⟨b, i, none⟩ v) b (cs.set i v hi) := by
  refine ⟨by simpa using h.1, fun j hj => ?_⟩
  have hj' : j < cs.size := by simpa using hj
  by_cases e : i = j
  · subst e
    rw [Array.getElem_set_self]
    exact World.cell?_setCell_same w _ _ (h.2 i hi)
  · rw [Array.getElem_set_ne _ _ e]
    rw [World.cell?_setCell_other w ⟨b, i, none⟩ ⟨b, j, none⟩ v (fun h2 => e (by have := congrArg Addr.off h2; simpa using this))]
    exact h.2 j hj'
/-! ### zeDefs -/
theorem grown_set (w : World) (a : Addr) (v : Value) : w.grownBy (w.setCell a v) (some a.block) :=
  ⟨by simp [World.setCell], by simp [World.setCell], by simp [World.setCell], by simp, fun k _ hk => Below.heap_setCell w a v k (fun e => hk (by rw [e]))⟩
theorem grown_trans {a b c : World} {row : Option Nat} (h : a.grownBy b row) (h' : b.grownBy c row) : a.grownBy c row :=
  ⟨h'.os.trans h.os, h'.tape.trans h.tape, h'.output.trans h.output, Nat.le_trans h.size h'.size, fun i hi hn => (h'.block i (Nat.lt_of_lt_of_le hi h.size) hn).trans (h.block i hi hn)⟩
def HasZ (z : Nat) (a : World) : Prop := ∃ x y u, Var a z #[x, y, u]
def Writ (z : Nat) (t : Nat × Nat × Nat) (a : World) : Prop := ∃ n m k, Var a z #[.float .f32 (pick .f32 t.1 n), .float .f32 (pick .f32 t.2.1 m), .float .f32 (pick .f32 t.2.2 k)]
/-- Nothing old is changed but the block z, and what is written there, once, stays. -/
structure ZE (z : Nat) (t : Nat × Nat × Nat) (a b : World) : Prop where
  g : a.grownBy b (some z)
  f : Free a z → Free b z
  h : HasZ z a → HasZ z b
  k : Writ z t a → Writ z t b
theorem ZE.of_below {z : Nat} {t : Nat × Nat × Nat} {a b : World} (hz : z < a.heap.size) (h : Below a.heap.size a b) : ZE z t a b :=
  ⟨⟨h.os, h.tape, h.output, h.size, fun i hi _ => h.block i hi⟩, fun f => f.below hz h, fun ⟨x, y, u, v⟩ => ⟨x, y, u, v.keep h⟩, fun ⟨n, m, k, v⟩ => ⟨n, m, k, v.keep h⟩⟩
theorem ZE.refl {z : Nat} {t : Nat × Nat × Nat} (a : World) : ZE z t a a :=
  ⟨⟨rfl, rfl, rfl, Nat.le_refl _, fun _ _ _ => rfl⟩, fun f => f, fun h => h, fun h => h⟩
theorem ZE.trans {z : Nat} {t : Nat × Nat × Nat} (a b c : World) (h : ZE z t a b) (h' : ZE z t b c) : ZE z t a c :=
  ⟨⟨h'.g.os.trans h.g.os, h'.g.tape.trans h.g.tape, h'.g.output.trans h.g.output, Nat.le_trans h.g.size h'.g.size, fun i hi hn => (h'.g.block i (Nat.lt_of_lt_of_le hi h.g.size) hn).trans (h.g.block i hi hn)⟩, fun f => h'.f (h.f f), fun q => h'.h (h.h q), fun q => h'.k (h.k q)⟩
theorem ZE.store {z n m k : Nat} {t : Nat × Nat × Nat} {a : World} (hz : HasZ z a) : ZE z t a (((a.setCell ⟨z, 0, none⟩ (.float .f32 (pick .f32 t.1 n))).setCell ⟨z, 1, none⟩ (.float .f32 (pick .f32 t.2.1 m))).setCell ⟨z, 2, none⟩ (.float .f32 (pick .f32 t.2.2 k))) ∧ Writ z t (((a.setCell ⟨z, 0, none⟩ (.float .f32 (pick .f32 t.1 n))).setCell ⟨z, 1, none⟩ (.float .f32 (pick .f32 t.2.1 m))).setCell ⟨z, 2, none⟩ (.float .f32 (pick .f32 t.2.2 k))) := by
  obtain ⟨x, y, u, V⟩ := hz
  have W := var_setAt (var_setAt (var_setAt V (i := 0) (by simp) (.float .f32 (pick .f32 t.1 n))) (i := 1) (by simp) (.float .f32 (pick .f32 t.2.1 m))) (i := 2) (by simp) (.float .f32 (pick .f32 t.2.2 k))
  have hw : Writ z t (((a.setCell ⟨z, 0, none⟩ (.float .f32 (pick .f32 t.1 n))).setCell ⟨z, 1, none⟩ (.float .f32 (pick .f32 t.2.1 m))).setCell ⟨z, 2, none⟩ (.float .f32 (pick .f32 t.2.2 k))) := ⟨n, m, k, W⟩
  have g1 := grown_set a ⟨z, 0, none⟩ (.float .f32 (pick .f32 t.1 n))
  have g2 := grown_set (a.setCell ⟨z, 0, none⟩ (.float .f32 (pick .f32 t.1 n))) ⟨z, 1, none⟩ (.float .f32 (pick .f32 t.2.1 m))
  have g3 := grown_set ((a.setCell ⟨z, 0, none⟩ (.float .f32 (pick .f32 t.1 n))).setCell ⟨z, 1, none⟩ (.float .f32 (pick .f32 t.2.1 m))) ⟨z, 2, none⟩ (.float .f32 (pick .f32 t.2.2 k))
  exact ⟨⟨grown_trans (grown_trans g1 g2) g3, fun f => ((f.setCell _ _).setCell _ _).setCell _ _, fun _ => ⟨_, _, _, W⟩, fun _ => hw⟩, hw⟩
/-! ### eachDirect -/
theorem c_eachDirect (Wn Hn : Nat) (zP : List Nat) (aP : Option Addr) (cP : Nat) (K : Nat → World → Prop) (ub tb : Nat) (w : World) (hW1 : 1 ≤ Wn) (hW2 : Wn ≤ 16) (hH1 : 1 ≤ Hn) (hH2 : Hn ≤ 16) (hl : zP.length = Wn * Hn) (htb : tb < w.heap.size)
    (hV : ∀ (j x n n1 m1 q1 : Nat) (w : World), j < Hn → x < Wn → K (j * Wn + x) w → Calls Try.prog 98 #[.float .f32 (pick .f32 (shV zP Wn Hn 0 j (j * Wn + x)) n), .agg #[.float .f32 (pick .f32 (wayV (Wn : Int) (Hn : Int) (x : Int) (j : Int)).1 n1), .float .f32 (pick .f32 (wayV (Wn : Int) (Hn : Int) (x : Int) (j : Int)).2.1 m1), .float .f32 (pick .f32 (wayV (Wn : Int) (Hn : Int) (x : Int) (j : Int)).2.2 q1)], .pointer (some ⟨ub, 0, none⟩), .pointer (some ⟨tb, 0, none⟩)] w (fun e w' => e = .returned (.tuple #[]) ∧ K (j * Wn + x + 1) w' ∧ w.grownBy w' (some tb)))
    (hK : ∀ k w w', K k w → Below w.heap.size w w' → K k w') (hR : ∀ k w, K k w → IsRowF .f32 w aP zP.length cP zP) (h0 : K 0 w) :
    Calls Try.prog 56 #[.agg #[.int .i64 (Wn : Int), .int .i64 (Hn : Int), .slice aP zP.length cP], .func (.func 98) #[] #[.pointer (some ⟨ub, 0, none⟩), .pointer (some ⟨tb, 0, none⟩)]] w (fun e w' => e = .returned (.tuple #[]) ∧ K (Wn * Hn) w') := by
  have CV := Lib.hid hV
  have HR := Lib.hid hR
  have HK := Lib.hid hK
  have HL := Lib.hid hl
  have H0 := Lib.hid h0
  have HMul := Lib.hid (fun j (h : j < Hn) => mul_bound h hW2 hH2)
  clear hV hR hK hl h0
  go_enter Try.func56, Try.ntmps56
  go_wp2_with fail
  refine (c_sidesOf (Wn : Int) (Hn : Int) _ _).mono ?_
  rintro _ w2 ⟨rfl, b⟩
  have VP2 := Lib.hid ((Var.new w #[.int .i64 (Wn : Int), .int .i64 (Hn : Int), .slice aP zP.length cP] 29).keep b)
  have K2 := Lib.hid (HK.out _ _ _ (HK.out _ _ _ H0.out ((Below.refl _ _).alloc (Nat.le_refl _) _)) b)
  have z2 : w.heap.size + 1 ≤ w2.heap.size := by have := b.size; simp at this; omega
  clear b H0
  go_wp2_with fail
  go_loopw [13] (fun i wr => ∃ j : Nat, j ≤ Hn ∧ i = .int .i64 (j : Int) ∧ K (j * Wn) wr ∧ Var wr w.heap.size #[.int .i64 (Wn : Int), .int .i64 (Hn : Int), .slice aP zP.length cP] ∧ Var wr w2.heap.size #[.int .i64 (Wn : Int), .int .i64 (Hn : Int)] ∧ w2.heap.size + 1 ≤ wr.heap.size) (fun i _ => Hn - (intOf i).toNat)
  case atStart => exact ⟨0, Nat.zero_le _, rfl, (by rw [Nat.zero_mul]; exact HK.out _ _ _ K2.out ((Below.refl _ _).alloc (Nat.le_refl _) _)), VP2.out.alloc _, Var.new _ _ _, by simp⟩
  case round =>
    obtain ⟨j, hj, rfl, hk, vp, vs, zr⟩ := hrel
    have K3 := Lib.hid hk
    have VP3 := Lib.hid vp
    have VS3 := Lib.hid vs
    clear hk vp vs
    obtain ⟨d0, d1, d2⟩ := VP3.out.three
    have s0 : wr.cell? ⟨w2.heap.size, 0, none⟩ = some (.int .i64 (Wn : Int)) := VS3.out.2 0 (by simp)
    have s1 : wr.cell? ⟨w2.heap.size, 1, none⟩ = some (.int .i64 (Hn : Int)) := VS3.out.2 1 (by simp)
    by_cases hlt : j < Hn
    · have hlt2 : (j : Int) < (Hn : Int) := by omega
      have mj : IntKind.i64.wrap ((j : Int) + 1) = ((j + 1 : Nat) : Int) := by rw [show ((j : Int) + 1) = ((j + 1 : Nat) : Int) from by omega]; exact IntWalk.i64_in _ (by omega)
      go_wp2_with fail
      refine (c_solidOfS Wn Hn j _ hlt hH2).mono ?_
      rintro _ w5 ⟨ns, rfl, b5⟩
      have K5 := Lib.hid (HK.out _ _ _ K3.out b5)
      have VP5 := Lib.hid (VP3.out.keep b5)
      have VS5 := Lib.hid (VS3.out.keep b5)
      have z5 : w2.heap.size + 1 ≤ w5.heap.size := by have := b5.size; omega
      clear b5 d0 d1 d2 s0 s1
      obtain ⟨d0, d1, d2⟩ := VP5.out.three
      go_wp2_with fail
      refine (c_rowOf Wn Hn aP cP zP j _ (HR.out _ _ K5.out) hW1 hW2 hH2 HL.out hlt).mono ?_
      rintro _ w6 ⟨b0, off, ha, rfl, b6⟩
      have K6 := Lib.hid (HK.out _ _ _ K5.out b6)
      have VP6 := Lib.hid (VP5.out.keep b6)
      have VS6 := Lib.hid (VS5.out.keep b6)
      have HA := Lib.hid ha
      have z6 : w2.heap.size + 1 ≤ w6.heap.size := by have := b6.size; omega
      clear b6 d0 d1 d2 ha
      go_wp2_with fail
      go_loopw [23] (fun i wq => ∃ x : Nat, x ≤ Wn ∧ i = .int .i64 (x : Int) ∧ K (j * Wn + x) wq ∧ Var wq w.heap.size #[.int .i64 (Wn : Int), .int .i64 (Hn : Int), .slice aP zP.length cP] ∧ Var wq w2.heap.size #[.int .i64 (Wn : Int), .int .i64 (Hn : Int)] ∧ w2.heap.size + 1 ≤ wq.heap.size) (fun i _ => Wn - (intOf i).toNat)
      case atStart => exact ⟨0, Nat.zero_le _, rfl, K6.out, VP6.out, VS6.out, z6⟩
      case round =>
        obtain ⟨x, hx, rfl, hk, vp, vs, zr2⟩ := hrel
        have K7 := Lib.hid hk
        have VP7 := Lib.hid vp
        have VS7 := Lib.hid vs
        clear hk vp vs
        by_cases hxl : x < Wn
        · have hxl2 : (x : Int) < (Wn : Int) := by omega
          have hkl : j * Wn + x < zP.length := by have h1 := HMul.out j hlt; rw [HL.out]; have h2 := h1.1; omega
          obtain ⟨b1, o1, n1, ha1, hb1, e1⟩ := (HR.out _ _ K7.out).at hkl
          have ha2 := HA.out.symm.trans ha1
          simp only [Option.some.injEq, Addr.mk.injEq, and_true] at ha2
          obtain ⟨rfl, rfl⟩ := ha2
          have e2 : wr.cell? ⟨b0, off + j * Wn + x, none⟩ = some (.float .f32 (pick .f32 (fat zP (j * Wn + x)) n1)) := by rw [Nat.add_assoc]; exact e1
          have HS := Lib.hid (show fop .mul .f32 (fat zP (j * Wn + x)) (solV (Wn : Int) (Hn : Int) (j : Int)) = shV zP Wn Hn 0 j (j * Wn + x) from rfl)
          have CVx := Lib.hid (fun n n1 m1 q1 w h => CV.out j x n n1 m1 q1 w hlt hxl h)
          have mx : IntKind.i64.wrap ((x : Int) + 1) = ((x + 1 : Nat) : Int) := by rw [show ((x : Int) + 1) = ((x + 1 : Nat) : Int) from by omega]; exact IntWalk.i64_in _ (by omega)
          have s0 : wr.cell? ⟨w2.heap.size, 0, none⟩ = some (.int .i64 (Wn : Int)) := VS7.out.2 0 (by simp)
          have s1 : wr.cell? ⟨w2.heap.size, 1, none⟩ = some (.int .i64 (Hn : Int)) := VS7.out.2 1 (by simp)
          clear e1 ha1 hkl
          generalize j * Wn = P at *
          go_wp2_with (first | (refine wpList_fop rfl _ _ _ _ _ rfl _ _ _ rfl rfl (by decide) _ ?_; intro _ _) | (refine wpList_fop0 rfl _ _ _ _ _ rfl _ _ _ rfl rfl (by decide) ?_; intro _ _) | (refine upon_fop _ _ _ _ _ (by decide) ?_; intro _ _) | (refine upon_fop0 _ _ _ _ _ (by decide) ?_; intro _ _))
          simp only [fop_pick_l, fop_pick_r, HS.out]
          refine (c_iWayOfS Wn Hn x j _ hxl hW2 hlt hH2).mono ?_
          rintro _ w8 ⟨n2, m2, q2, rfl, b8⟩
          have b9 : Below wr.heap.size wr w8 := (below_drewN (Below.refl _ _) _).trans (b8.mono (by simp))
          have K8 := Lib.hid (HK.out _ _ _ K7.out b9)
          have VP8 := Lib.hid (VP7.out.keep b9)
          have VS8 := Lib.hid (VS7.out.keep b9)
          have z8 : w2.heap.size + 1 ≤ w8.heap.size := by have := b9.size; omega
          clear b8 b9 e2 s0 s1
          go_wp2_with fail
          refine (CVx.out _ n2 m2 q2 w8 K8.out).mono ?_
          rintro _ w9 ⟨rfl, k9, g9⟩
          have K9 := Lib.hid k9
          have VP9 := Lib.hid (VP8.out.kept g9 (by simp; omega))
          have VS9 := Lib.hid (VS8.out.kept g9 (by simp; omega))
          have z9 : w2.heap.size + 1 ≤ w9.heap.size := by have := g9.size; omega
          clear k9 g9
          go_wp2_with fail
          go_roundw
          case rel => exact ⟨x + 1, by omega, by go_num, K9.out, VP9.out, VS9.out, by omega⟩
          case measure => simp [intOf]; omega
        · have e : x = Wn := by omega
          have hn : ¬ ((x : Int) < (Wn : Int)) := by omega
          have K9 := Lib.hid (by have h := K7.out; rw [e] at h; rw [Nat.succ_mul]; exact h : K ((j + 1) * Wn) wr)
          clear e
          go_wp2_with fail
          go_roundw
          case rel => exact ⟨j + 1, by omega, by go_num, K9.out, VP7.out, VS7.out, by omega⟩
          case measure => simp [intOf]; omega
    · have e : j = Hn := by omega
      have hn : ¬ ((j : Int) < (Hn : Int)) := by omega
      have K9 := Lib.hid (by have h := K3.out; rw [e, Nat.mul_comm] at h; exact h : K (Wn * Hn) wr)
      clear e
      go_wp2_with fail
      refine bodyPost_end (v := .tuple #[]) (by simp [results, Try.results56, go_sem]) rfl ⟨rfl, K9.out⟩
/-! ### innerOf -/
theorem c_innerOf (ar an ag am ab ak : Nat) (cr cn cg cm cb ck : Nat) (w : World) : Calls Try.prog 99 #[.agg #[.float .f32 (pick .f32 ar an), .float .f32 (pick .f32 ag am), .float .f32 (pick .f32 ab ak)], .agg #[.float .f32 (pick .f32 cr cn), .float .f32 (pick .f32 cg cm), .float .f32 (pick .f32 cb ck)]] w (RetN (innV ar ag ab cr cg cb) w) := by
  generalize hw0 : (w.alloc (Obj.cells #[.float .f32 (pick .f32 ar an), .float .f32 (pick .f32 ag am), .float .f32 (pick .f32 ab ak)] 36)).alloc (Obj.cells #[.float .f32 (pick .f32 cr cn), .float .f32 (pick .f32 cg cm), .float .f32 (pick .f32 cb ck)] 36) = w0
  have Va_0 := Lib.hid (show Var w0 (w.heap.size) #[.float .f32 (pick .f32 ar an), .float .f32 (pick .f32 ag am), .float .f32 (pick .f32 ab ak)] from by subst hw0; exact ((Var.new' _ _ _ _ (by first | rfl | simp)).alloc _))
  have Vc_0 := Lib.hid (show Var w0 (w.heap.size + 1) #[.float .f32 (pick .f32 cr cn), .float .f32 (pick .f32 cg cm), .float .f32 (pick .f32 cb ck)] from by subst hw0; exact (Var.new' _ _ _ _ (by first | rfl | simp)))
  have B_0 := Lib.hid (show Below w.heap.size w w0 from by subst hw0; exact (((Below.refl _ _).alloc (Nat.le_refl _) _).alloc (by simp) _))
  have SZ := Lib.hid (show w0.heap.size = w.heap.size + 2 from by subst hw0; simp)
  have HW := Lib.hid hw0
  clear hw0
  unfold innV
  obtain ⟨ca0, ca1, ca2⟩ := Va_0.out.three
  obtain ⟨cc0, cc1, cc2⟩ := Vc_0.out.three
  go_enter Try.func99, Try.ntmps99
  go_wp2_with fail
  rw [HW.out]
  rw [← w0.drewN_zero]
  go_wp2_with (first | (refine wpList_fop rfl _ _ _ _ _ rfl _ _ _ rfl rfl (by decide) _ ?_; intro _ _) | (refine upon_fop _ _ _ _ _ (by decide) ?_; intro _ _))
  go_ret
  exact ⟨_, rfl, below_drewN B_0.out _⟩
/-! ### addDirect -/
theorem c_addDirect (v n tot m ub tb : Nat) (u wv : Nat × Nat × Nat) (un um uk wn wm wk : Nat) (w : World) (hu : Var w ub #[.float .f32 (pick .f32 u.1 un), .float .f32 (pick .f32 u.2.1 um), .float .f32 (pick .f32 u.2.2 uk)]) (ht : Var w tb #[.float .f32 (pick .f32 tot m)]) (hf : Free w tb) : Calls Try.prog 98 #[.float .f32 (pick .f32 v n), .agg #[.float .f32 (pick .f32 wv.1 wn), .float .f32 (pick .f32 wv.2.1 wm), .float .f32 (pick .f32 wv.2.2 wk)], .pointer (some ⟨ub, 0, none⟩), .pointer (some ⟨tb, 0, none⟩)] w (fun e w' => e = .returned (.tuple #[]) ∧ (∃ q, Var w' tb #[.float .f32 (pick .f32 (dirS u tot v wv) q)]) ∧ Free w' tb ∧ w.grownBy w' (some tb)) := by
  obtain ⟨D, hD⟩ : ∃ q, q = dirS u tot v wv := ⟨_, rfl⟩
  rw [← hD]
  have hD := Lib.hid hD
  have zl : tb < w.heap.size := ht.lt
  have zu : ub < w.heap.size := hu.lt
  generalize hw0 : w.alloc (Obj.cells #[.float .f32 (pick .f32 wv.1 wn), .float .f32 (pick .f32 wv.2.1 wm), .float .f32 (pick .f32 wv.2.2 wk)] 36) = w0
  have E : Below w.heap.size w w0 := by subst hw0; exact (Below.refl _ _).alloc (Nat.le_refl _) _
  have VW : Var w0 w.heap.size #[.float .f32 (pick .f32 wv.1 wn), .float .f32 (pick .f32 wv.2.1 wm), .float .f32 (pick .f32 wv.2.2 wk)] := by subst hw0; exact Var.new _ _ _
  have HV := Lib.hid (ht.keep E)
  have HU := Lib.hid (hu.keep E)
  have HF := Lib.hid (hf.below zl E)
  have HE := Lib.hid E
  have HW := Lib.hid hw0
  have HVW := Lib.hid VW
  obtain ⟨u0, u1, u2⟩ := hu.three
  have CI := Lib.hid (c_innerOf u.1 un u.2.1 um u.2.2 uk wv.1 wn wv.2.1 wm wv.2.2 wk w0)
  clear ht hf hu E hw0 VW
  go_enter Try.func98, Try.ntmps98
  go_wp2_with fail
  rw [HW.out]
  refine CI.out.mono ?_
  rintro _ w1 ⟨ni, rfl, b⟩
  have B1 := Lib.hid (HE.out.trans (b.mono HE.out.size))
  have HV1 := Lib.hid (HV.out.keep b)
  have HF1 := Lib.hid (HF.out.below HV.out.lt b)
  clear b u0 u1 u2 CI
  have zl0 : tb < w1.heap.size := HV1.out.lt
  have c1 : w1.cell? ⟨tb, 0, none⟩ = some (.float .f32 (pick .f32 tot m)) := HV1.out.2 0 (by simp)
  have f0 := HF1.out 0
  have E : ∀ j, Below w1.heap.size w1 (w1.drewN j) := fun j => below_drewN (Below.refl _ _) _
  have G0 : ∀ j, w.grownBy (w1.drewN j) (some tb) := fun j => (by have e := B1.out.trans ((E j).mono B1.out.size); exact ⟨e.os, e.tape, e.output, e.size, fun i hi _ => e.block i hi⟩)
  have HD := Lib.hid (show D = if (FloatKind.f32.format.order (innV u.1 u.2.1 u.2.2 wv.1 wv.2.1 wv.2.2) 0 == some .gt) = true then fop .add .f32 tot (fop .mul .f32 v (innV u.1 u.2.1 u.2.2 wv.1 wv.2.1 wv.2.2)) else tot from hD.out)
  generalize innV u.1 u.2.1 u.2.2 wv.1 wv.2.1 wv.2.2 = iv at *
  clear hD
  have G1 := Lib.hid G0
  have E1 := Lib.hid E
  clear G0 E
  cases hg : (FloatKind.f32.format.order iv 0 == some .gt)
  · rw [hg] at HD
    have HD2 := Lib.hid (HD.out.trans (if_neg (by decide)))
    go_wp2_with fail
    refine bodyPost_end (v := .tuple #[]) (by simp [results, Try.results98, go_sem]) rfl ⟨rfl, ⟨m, by rw [HD2.out]; exact HV1.out⟩, HF1.out, ?_⟩
    have g := G1.out 0
    rwa [w1.drewN_zero] at g
  · rw [hg] at HD
    have HD2 := Lib.hid (HD.out.trans (if_pos rfl))
    go_wp2_with (first | (refine wpList_fop rfl _ _ _ _ _ rfl _ _ _ rfl rfl (by decide) _ ?_; intro _ _) | (refine wpList_fop0 rfl _ _ _ _ _ rfl _ _ _ rfl rfl (by decide) ?_; intro _ _) | (refine upon_fop _ _ _ _ _ (by decide) ?_; intro _ _) | (refine upon_fop0 _ _ _ _ _ (by decide) ?_; intro _ _))
    refine bodyPost_end (v := .tuple #[]) (by simp [results, Try.results98, go_sem]) rfl ?_
    rw [HD2.out]
    simp only [fop_pick_l, fop_pick_r]
    exact ⟨trivial, ⟨_, var_setAt (HV1.out.keep (E1.out _)) (i := 0) (by simp) _⟩, (HF1.out.below zl0 (E1.out _)).setCell _ _, grown_trans (G1.out _) (grown_set _ _ _)⟩
/-! ### areFinite -/
theorem c_areFinite (a : Option Addr) (len cap : Nat) (zs : List Nat) (w : World) (j0 : Nat) (hr : IsRowF .f32 w a len cap zs) : Calls Try.prog 81 #[.slice a len cap] (w.drewN j0) (RetV (.bool (finL zs)) w) := by
  obtain ⟨h1, h2, h3, h4, h5⟩ := hr
  unfold maxLen at h3
  have H1 := Lib.hid h1
  clear h1
  go_enter Try.func81, Try.ntmps81
  go_wp2
  go_loopw [4, 7] (fun _ i wr => ∃ k m : Nat, k ≤ len ∧ i = .int .i64 k ∧ wr = w.drewN m ∧ finL (zs.take k) = true) (fun _ i _ => len - (intOf i).toNat)
  case atStart => exact ⟨0, j0, Nat.zero_le _, rfl, rfl, rfl⟩
  case round =>
    obtain ⟨k, m, hk, rfl, rfl, hfin⟩ := hrel
    have HFin := Lib.hid hfin
    clear hfin
    by_cases hlt : k < len
    · rcases h5 with h5 | ⟨b, off, rfl, hbl, hc⟩
      · omega
      have hcell : w.cell? ⟨b, off + k, none⟩ = some (.float .f32 (fat zs k)) := hc k hlt
      obtain ⟨n, hn⟩ := pick0 .f32 (fat zs k) (lt_of_wf (h4 _ (by unfold fat; rw [List.getD, List.getElem?_eq_getElem (by have := H1.out; omega)]; exact List.getElem_mem _)))
      rw [hn] at hcell
      have HS := Lib.hid (finL_snoc zs k (by have := H1.out; omega))
      cases hf : finB .f32 (fat zs k)
      · have HO := Lib.hid (finL_of zs k (by have := H1.out; omega) hf)
        clear hc h4 hn
        go_wp2_with ((go_at_call 85; refine (c_iIsFinite _ _ _ _).mono ?_; rintro _ _ ⟨_, rfl, rfl⟩))
        go_ret
        exact ⟨_, by rw [HO.out]; rfl, rfl⟩
      · have HF := Lib.hid hf
        clear hc h4 hn
        go_wp2_with ((go_at_call 85; refine (c_iIsFinite _ _ _ _).mono ?_; rintro _ _ ⟨_, rfl, rfl⟩))
        go_roundw
        case rel => exact ⟨k + 1, _, by omega, by go_num, rfl, by rw [HS.out, HFin.out, HF.out]; rfl⟩
        case measure => simp [intOf]; omega
    · have e : zs.take k = zs := List.take_of_length_le (by have := H1.out; omega)
      have HE := Lib.hid e
      clear h5 h4 e
      go_wp2
      go_ret
      exact ⟨_, by have h := HFin.out; rw [HE.out] at h; rw [h]; rfl, rfl⟩
/-! ### areFinN -/
theorem c_areFinW (a : Option Addr) (len cap : Nat) (zs : List Nat) (w : World) (hr : IsRowF .f32 w a len cap zs) : Calls Try.prog 81 #[.slice a len cap] w (RetV (.bool (finL zs)) w) := by
  have h := c_areFinite a len cap zs w 0 hr
  rwa [w.drewN_zero] at h
theorem row_new (w : World) (b : Nat) (vs : List Nat) (T : TypeId) (hb : b = w.heap.size) (hl : vs.length ≤ 1000) (hwf : ∀ x ∈ vs, (Lit.float .f32 x).wf = true) : IsRowF .f32 (w.alloc (.cells (fl .f32 vs).toArray T)) (some ⟨b, 0, none⟩) vs.length vs.length vs := by
  subst hb
  exact rowF_of_block (heap_alloc_new w _) (by unfold maxLen; omega) hwf

/-! ### wayEq -/
theorem eqWay0 (x0 x1 x2 : Nat) (w : World) : (Op.equalIn 10000 36 (.agg #[.float .f32 x0, .float .f32 x1, .float .f32 x2]) (.agg #[.float .f32 0, .float .f32 0, .float .f32 0])).run Try.prog w = .ok ((FloatKind.f32.format.order x0 0 == some .eq) && (FloatKind.f32.format.order x1 0 == some .eq) && (FloatKind.f32.format.order x2 0 == some .eq)) w := by
  have u3 := Try.underlying26
  rw [show (10000 : Nat) = 9999 + 1 from rfl, run_equalIn_struct _ _ _ _ _ (by kernel_rfl) (by kernel_rfl)]
  have hE : ∀ (x : Nat) (w : World), (Op.equalIn 9999 26 (.float .f32 x) (.float .f32 0)).run Try.prog w = .ok (FloatKind.f32.format.order x 0 == some .eq) w := fun x w => by
    rw [show (9999 : Nat) = 9998 + 1 from rfl, Op.equalIn]
    simp [run_underlying u3, Op.floatEq]
  go_simp
  by_cases h0 : FloatKind.f32.format.order x0 0 = some Ordering.eq
  case neg => simp [h0]
  by_cases h1 : FloatKind.f32.format.order x1 0 = some Ordering.eq
  case neg => simp [h0, h1]
  by_cases h2 : FloatKind.f32.format.order x2 0 = some Ordering.eq
  case neg => simp [h0, h1, h2]
  simp [h0, h1, h2]
/-! ### iIsWay -/
theorem c_iIsWay (r n g m b k : Nat) (w : World) (hr : r < 2 ^ FloatKind.f32.format.width) (hg : g < 2 ^ FloatKind.f32.format.width) (hb : b < 2 ^ FloatKind.f32.format.width) : Calls Try.prog 125 #[.agg #[.float .f32 (pick .f32 r n), .float .f32 (pick .f32 g m), .float .f32 (pick .f32 b k)]] w (RetB (.bool (wayB r g b)) w) := by
  have AF := Lib.hid (fun (w : World) (z : Nat) (hz : z = w.heap.size) => @id (Calls Try.prog 81 #[.slice (some ⟨z, 0, none⟩) 3 3] (w.alloc (.cells #[.float .f32 (pick .f32 r n), .float .f32 (pick .f32 g m), .float .f32 (pick .f32 b k)] 26)) (RetV (.bool (colB r g b)) (w.alloc (.cells #[.float .f32 (pick .f32 r n), .float .f32 (pick .f32 g m), .float .f32 (pick .f32 b k)] 26)))) (by
    have h := c_areFinW _ _ _ _ _ (row_new w z [pick .f32 r n, pick .f32 g m, pick .f32 b k] 26 hz (by simp) (by intro x hx; simp at hx; rcases hx with rfl | rfl | rfl <;> exact pick_wf (by assumption) _))
    rwa [fin3] at h))
  have EQ := eqWay0 (pick .f32 r n) (pick .f32 g m) (pick .f32 b k)
  simp only [order_pick_l] at EQ
  unfold wayB nzB bne
  generalize colB r g b = q at *
  generalize hw0 : w.alloc (Obj.cells #[.float .f32 (pick .f32 r n), .float .f32 (pick .f32 g m), .float .f32 (pick .f32 b k)] 36) = w0
  have X0 : Var w0 w.heap.size #[.float .f32 (pick .f32 r n), .float .f32 (pick .f32 g m), .float .f32 (pick .f32 b k)] := by subst hw0; exact Var.new _ _ _
  have X1 : Below w.heap.size w w0 := by subst hw0; exact (Below.refl _ _).alloc (Nat.le_refl _) _
  have SZ := Lib.hid (show w0.heap.size = w.heap.size + 1 from by subst hw0; simp)
  have HW := Lib.hid hw0
  have B0 := Lib.hid X1
  have V0 := Lib.hid X0
  obtain ⟨q0, q1, q2⟩ := X0.three
  clear hw0 X0 X1
  cases h1 : (FloatKind.f32.format.order r 0 == some .eq) <;> cases h2 : (FloatKind.f32.format.order g 0 == some .eq) <;> cases h3 : (FloatKind.f32.format.order b 0 == some .eq)
  all_goals
    simp only [h1, h2, h3, Bool.true_and, Bool.false_and, Bool.and_false, Bool.and_true] at EQ
    go_enter Try.func125, Try.ntmps125
    go_wp2_with fail
    rw [HW.out]
    go_wp2_with fail
    first
      | (refine (AF.out _ _ (by rw [SZ.out])).mono ?_
         rintro _ _ ⟨m1, rfl, rfl⟩
         go_wp2_with fail
         go_ret
         exact ⟨by simp, below_drewN (B0.out.alloc (B0.out.size) _) _⟩)
      | (go_ret; exact ⟨by simp, B0.out⟩)

/-! ### ifWay -/
theorem c_ifWay (ar an ag am ab ak : Nat) (w : World) (har : ar < 2 ^ FloatKind.f32.format.width) (hag : ag < 2 ^ FloatKind.f32.format.width) (hab : ab < 2 ^ FloatKind.f32.format.width) : Calls Try.prog 127 #[.agg #[.float .f32 (pick .f32 ar an), .float .f32 (pick .f32 ag am), .float .f32 (pick .f32 ab ak)]] w (WayB2 (giveW (ar, ag, ab)) w) := by
  generalize hw0 : (w.alloc (Obj.cells #[.float .f32 (pick .f32 ar an), .float .f32 (pick .f32 ag am), .float .f32 (pick .f32 ab ak)] 36)).alloc (Obj.cells #[.float .f32 0, .float .f32 0, .float .f32 0] 36) = w0
  have Va_0 := Lib.hid (show Var w0 (w.heap.size) #[.float .f32 (pick .f32 ar an), .float .f32 (pick .f32 ag am), .float .f32 (pick .f32 ab ak)] from by subst hw0; exact ((Var.new' _ _ _ _ (by first | rfl | simp)).alloc _))
  have Vz_0 := Lib.hid (show Var w0 (w.heap.size + 1) #[.float .f32 0, .float .f32 0, .float .f32 0] from by subst hw0; exact (Var.new' _ _ _ _ (by first | rfl | simp)))
  have F_0 := Lib.hid (show Free w0 (w.heap.size + 1) from by subst hw0; exact Free.new' _ _ _ _ (by first | rfl | simp))
  have B_0 := Lib.hid (show Below w.heap.size w w0 from by subst hw0; exact (((Below.refl _ _).alloc (Nat.le_refl _) _).alloc (by simp) _))
  have SZ := Lib.hid (show w0.heap.size = w.heap.size + 2 from by subst hw0; simp)
  have HW := Lib.hid hw0
  clear hw0
  have CF := Lib.hid (fun w => c_iIsWay ar an ag am ab ak w har hag hab)
  cases hq : wayB ar ag ab
  all_goals rw [hq] at CF
  · obtain ⟨ca0, ca1, ca2⟩ := Va_0.out.three
    obtain ⟨cz0, cz1, cz2⟩ := Vz_0.out.three
    have f0 := F_0.out 0
    have f1 := F_0.out 1
    have f2 := F_0.out 2
    go_enter Try.func127, Try.ntmps127
    go_wp2_with fail
    rw [HW.out]
    go_wp2_with fail
    refine (CF.out _).mono ?_
    rintro _ w1 ⟨rfl, b⟩
    have Va_1 := Lib.hid (Va_0.out.keep b)
    have Vz_1 := Lib.hid (Vz_0.out.keep b)
    have F_1 := Lib.hid (F_0.out.below Vz_0.out.lt b)
    have B_1 := Lib.hid (B_0.out.trans (b.mono B_0.out.size))
    clear ca0 ca1 ca2 cz0 cz1 cz2 f0 f1 f2
    clear Va_0 Vz_0 F_0 B_0 b
    obtain ⟨ca0, ca1, ca2⟩ := Va_1.out.three
    obtain ⟨cz0, cz1, cz2⟩ := Vz_1.out.three
    have f0 := F_1.out 0
    have f1 := F_1.out 1
    have f2 := F_1.out 2
    go_wp2_with fail
    refine bodyPost_ret (v := .tuple #[.agg #[.float .f32 0, .float .f32 0, .float .f32 0], .bool false]) (by simp [results, Try.results127, cz0, cz1, cz2, go_sem]) rfl ?_
    rw [giveW_lt_no hq]; refine WayB2.no rfl ?_
    repeat (first | exact B_1.out | exact Nat.le_refl _ | (refine Below.setCell ?_ ?_ _) | (refine below_drewN ?_ _) | (refine Below.alloc ?_ ?_ _) | (simp <;> omega))
  · obtain ⟨ca0, ca1, ca2⟩ := Va_0.out.three
    obtain ⟨cz0, cz1, cz2⟩ := Vz_0.out.three
    have f0 := F_0.out 0
    have f1 := F_0.out 1
    have f2 := F_0.out 2
    go_enter Try.func127, Try.ntmps127
    go_wp2_with fail
    rw [HW.out]
    go_wp2_with fail
    refine (CF.out _).mono ?_
    rintro _ w1 ⟨rfl, b⟩
    have Va_1 := Lib.hid (Va_0.out.keep b)
    have Vz_1 := Lib.hid (Vz_0.out.keep b)
    have F_1 := Lib.hid (F_0.out.below Vz_0.out.lt b)
    have B_1 := Lib.hid (B_0.out.trans (b.mono B_0.out.size))
    clear ca0 ca1 ca2 cz0 cz1 cz2 f0 f1 f2
    clear Va_0 Vz_0 F_0 B_0 b
    obtain ⟨ca0, ca1, ca2⟩ := Va_1.out.three
    obtain ⟨cz0, cz1, cz2⟩ := Vz_1.out.three
    have f0 := F_1.out 0
    have f1 := F_1.out 1
    have f2 := F_1.out 2
    go_wp2_with fail
    refine bodyPost_ret (v := .tuple #[.agg #[.float .f32 (pick .f32 ar an), .float .f32 (pick .f32 ag am), .float .f32 (pick .f32 ab ak)], .bool true]) (by simp [results, Try.results127, cz0, cz1, cz2, go_sem]) rfl ?_
    rw [giveW_yes hq]; refine ⟨_, _, _, rfl, ?_⟩
    repeat (first | exact B_1.out | exact Nat.le_refl _ | (refine Below.setCell ?_ ?_ _) | (refine below_drewN ?_ _) | (refine Below.alloc ?_ ?_ _) | (simp <;> omega))
/-! ### iRoot -/
theorem c_iRoot (v n : Nat) (w : World) (j : Nat) : Calls Try.prog 126 #[.float .f32 (pick .f32 v n)] (w.drewN j) (RetF .f32 (cvN (fsqrt (cvU v))) w) := by
  have HF := Lib.hid (root_fits v)
  go_enter Try.func126, Try.ntmps126
  go_wp2_with (first | (refine wpList_cvU rfl 26 32 _ rfl (Option.isSome_iff_exists.2 ⟨_, Try.underlying26⟩) Try.underlying32 _ rfl _ ?_; intro _ _) | (go_at_call 128; refine (c_Sqrt _ _ _ _).mono ?_; rintro _ _ ⟨_, _, rfl, rfl⟩) | (go_at_call 133; refine (c_NarrowNumber _ _ _ _ HF.out).mono ?_; rintro _ _ ⟨_, _, rfl, rfl⟩))
  go_ret
  exact ⟨_, _, rfl, rfl⟩
/-! ### iUnitWay -/
theorem c_iUnitWay (ar an ag am ab ak : Nat) (w : World) (har : ar < 2 ^ FloatKind.f32.format.width) (hag : ag < 2 ^ FloatKind.f32.format.width) (hab : ab < 2 ^ FloatKind.f32.format.width) : Calls Try.prog 97 #[.agg #[.float .f32 (pick .f32 ar an), .float .f32 (pick .f32 ag am), .float .f32 (pick .f32 ab ak)]] w (WayB2 (unitW ar ag ab) w) := by
  generalize hw0 : (w.alloc (Obj.cells #[.float .f32 (pick .f32 ar an), .float .f32 (pick .f32 ag am), .float .f32 (pick .f32 ab ak)] 36)).alloc (Obj.cells #[.float .f32 0, .float .f32 0, .float .f32 0] 36) = w0
  have Va_0 := Lib.hid (show Var w0 (w.heap.size) #[.float .f32 (pick .f32 ar an), .float .f32 (pick .f32 ag am), .float .f32 (pick .f32 ab ak)] from by subst hw0; exact ((Var.new' _ _ _ _ (by first | rfl | simp)).alloc _))
  have Vz_0 := Lib.hid (show Var w0 (w.heap.size + 1) #[.float .f32 0, .float .f32 0, .float .f32 0] from by subst hw0; exact (Var.new' _ _ _ _ (by first | rfl | simp)))
  have F_0 := Lib.hid (show Free w0 (w.heap.size + 1) from by subst hw0; exact Free.new' _ _ _ _ (by first | rfl | simp))
  have B_0 := Lib.hid (show Below w.heap.size w w0 from by subst hw0; exact (((Below.refl _ _).alloc (Nat.le_refl _) _).alloc (by simp) _))
  have SZ := Lib.hid (show w0.heap.size = w.heap.size + 2 from by subst hw0; simp)
  have HW := Lib.hid hw0
  clear hw0
  obtain ⟨res, hres⟩ : ∃ q, q = unitW ar ag ab := ⟨_, rfl⟩
  rw [← hres]
  have CI := Lib.hid (fun w => c_innerOf ar an ag am ab ak ar an ag am ab ak w)
  have CQ := Lib.hid (fun w => c_iIsWay ar an ag am ab ak w har hag hab)
  have CG := Lib.hid (fun n m k w => c_ifWay (fop .quo .f32 ar (rootV (innV ar ag ab ar ag ab))) n (fop .quo .f32 ag (rootV (innV ar ag ab ar ag ab))) m (fop .quo .f32 ab (rootV (innV ar ag ab ar ag ab))) k w (fop_lt _ _ _ _) (fop_lt _ _ _ _) (fop_lt _ _ _ _))
  cases hq : wayB ar ag ab
  all_goals rw [hq] at CQ
  · have RES := Lib.hid (hres.trans (unitW_no (.inl hq)))
    obtain ⟨ca0, ca1, ca2⟩ := Va_0.out.three
    obtain ⟨cz0, cz1, cz2⟩ := Vz_0.out.three
    have f0 := F_0.out 0
    have f1 := F_0.out 1
    have f2 := F_0.out 2
    go_enter Try.func97, Try.ntmps97
    go_wp2_with fail
    rw [HW.out]
    go_wp2_with fail
    refine (CQ.out _).mono ?_
    rintro _ w1 ⟨rfl, b⟩
    have Va_1 := Lib.hid (Va_0.out.keep b)
    have Vz_1 := Lib.hid (Vz_0.out.keep b)
    have F_1 := Lib.hid (F_0.out.below Vz_0.out.lt b)
    have B_1 := Lib.hid (B_0.out.trans (b.mono B_0.out.size))
    clear ca0 ca1 ca2 cz0 cz1 cz2 f0 f1 f2
    clear Va_0 Vz_0 F_0 B_0 b
    obtain ⟨ca0, ca1, ca2⟩ := Va_1.out.three
    obtain ⟨cz0, cz1, cz2⟩ := Vz_1.out.three
    have f0 := F_1.out 0
    have f1 := F_1.out 1
    have f2 := F_1.out 2
    go_wp2_with fail
    refine bodyPost_ret (v := .tuple #[.agg #[.float .f32 0, .float .f32 0, .float .f32 0], .bool false]) (by simp [results, Try.results97, cz0, cz1, cz2, go_sem]) rfl ?_
    rw [RES.out]; refine WayB2.no rfl ?_
    repeat (first | exact B_1.out | exact Nat.le_refl _ | (refine Below.setCell ?_ ?_ _) | (refine below_drewN ?_ _) | (refine Below.alloc ?_ ?_ _) | (simp <;> omega))
  · have RES := Lib.hid (hres.trans (show unitW ar ag ab = giveW (fop .quo .f32 ar (rootV (innV ar ag ab ar ag ab)), fop .quo .f32 ag (rootV (innV ar ag ab ar ag ab)), fop .quo .f32 ab (rootV (innV ar ag ab ar ag ab))) from by unfold unitW; rw [hq, if_pos rfl]; rfl))
    have CS := Lib.hid (fun k w j => c_iRoot (innV ar ag ab ar ag ab) k w j)
    rw [show cvN (fsqrt (cvU (innV ar ag ab ar ag ab))) = rootV (innV ar ag ab ar ag ab) from rfl] at CS
    generalize giveW (fop .quo .f32 ar (rootV (innV ar ag ab ar ag ab)), fop .quo .f32 ag (rootV (innV ar ag ab ar ag ab)), fop .quo .f32 ab (rootV (innV ar ag ab ar ag ab))) = z at CG RES
    generalize rootV (innV ar ag ab ar ag ab) = rt at *
    obtain ⟨ca0, ca1, ca2⟩ := Va_0.out.three
    obtain ⟨cz0, cz1, cz2⟩ := Vz_0.out.three
    have f0 := F_0.out 0
    have f1 := F_0.out 1
    have f2 := F_0.out 2
    go_enter Try.func97, Try.ntmps97
    go_wp2_with fail
    rw [HW.out]
    go_wp2_with fail
    refine (CQ.out _).mono ?_
    rintro _ w1 ⟨rfl, b⟩
    have Va_1 := Lib.hid (Va_0.out.keep b)
    have Vz_1 := Lib.hid (Vz_0.out.keep b)
    have F_1 := Lib.hid (F_0.out.below Vz_0.out.lt b)
    have B_1 := Lib.hid (B_0.out.trans (b.mono B_0.out.size))
    clear ca0 ca1 ca2 cz0 cz1 cz2 f0 f1 f2
    clear Va_0 Vz_0 F_0 B_0 b
    obtain ⟨ca0, ca1, ca2⟩ := Va_1.out.three
    obtain ⟨cz0, cz1, cz2⟩ := Vz_1.out.three
    have f0 := F_1.out 0
    have f1 := F_1.out 1
    have f2 := F_1.out 2
    go_wp2_with fail
    refine (CI.out _).mono ?_
    rintro _ w2 ⟨k0, rfl, b⟩
    have Va_2 := Lib.hid (Va_1.out.keep b)
    have Vz_2 := Lib.hid (Vz_1.out.keep b)
    have F_2 := Lib.hid (F_1.out.below Vz_1.out.lt b)
    have B_2 := Lib.hid (B_1.out.trans (b.mono B_1.out.size))
    clear ca0 ca1 ca2 cz0 cz1 cz2 f0 f1 f2
    clear Va_1 Vz_1 F_1 B_1 b
    obtain ⟨ca0, ca1, ca2⟩ := Va_2.out.three
    obtain ⟨cz0, cz1, cz2⟩ := Vz_2.out.three
    have f0 := F_2.out 0
    have f1 := F_2.out 1
    have f2 := F_2.out 2
    rw [← w2.drewN_zero]
    go_wp2_with (first | (first | (refine wpList_fop rfl _ _ _ _ _ rfl _ _ _ rfl rfl (by decide) _ ?_; intro _ _) | (refine upon_fop _ _ _ _ _ (by decide) ?_; intro _ _)) | (go_at_call 126; refine (CS.out _ _ _).mono ?_; rintro _ _ ⟨_, _, rfl, rfl⟩))
    refine (CG.out _ _ _ _).mono ?_
    rintro _ w3 ⟨n9, m9, k9, rfl, b9⟩
    have b : Below w2.heap.size w2 w3 := by first | exact (below_drewN (Below.refl _ _) _).trans (b9.mono (by simp)) | exact b9
    have Va_3 := Lib.hid (Va_2.out.keep b)
    have Vz_3 := Lib.hid (Vz_2.out.keep b)
    have F_3 := Lib.hid (F_2.out.below Vz_2.out.lt b)
    have B_3 := Lib.hid (B_2.out.trans (b.mono B_2.out.size))
    clear ca0 ca1 ca2 cz0 cz1 cz2 f0 f1 f2
    clear Va_2 Vz_2 F_2 B_2 b b9
    obtain ⟨ca0, ca1, ca2⟩ := Va_3.out.three
    obtain ⟨cz0, cz1, cz2⟩ := Vz_3.out.three
    have f0 := F_3.out 0
    have f1 := F_3.out 1
    have f2 := F_3.out 2
    go_wp2_with fail
    refine bodyPost_ret (v := .tuple #[.agg #[.float .f32 (pick .f32 z.1.1 n9), .float .f32 (pick .f32 z.1.2.1 m9), .float .f32 (pick .f32 z.1.2.2 k9)], .bool z.2]) (by simp [results, Try.results97, cz0, cz1, cz2, go_sem]) rfl ?_
    rw [RES.out]; refine ⟨_, _, _, rfl, ?_⟩
    repeat (first | exact B_3.out | exact Nat.le_refl _ | (refine Below.setCell ?_ ?_ _) | (refine below_drewN ?_ _) | (refine Below.alloc ?_ ?_ _) | (simp <;> omega))
/-! ### allowed -/
theorem c_allowed (W H : Int) (w : World) : Calls Try.prog 105 #[.agg #[.int .i64 W, .int .i64 H]] w (RetB (.bool (sideB W H)) w) := by
  unfold sideB
  by_cases h1 : 1 ≤ W
  · by_cases h2 : W ≤ 16
    · by_cases h3 : 1 ≤ H
      · by_cases h4 : H ≤ 16
        all_goals
          go_enter Try.func105, Try.ntmps105
          go_wp2
          go_ret
          exact ⟨by simp [*] <;> (intros; omega), (Below.refl _ _).alloc (Nat.le_refl _) _⟩
      · go_enter Try.func105, Try.ntmps105
        go_wp2
        go_ret
        exact ⟨by simp [*] <;> (intros; omega), (Below.refl _ _).alloc (Nat.le_refl _) _⟩
    · go_enter Try.func105, Try.ntmps105
      go_wp2
      go_ret
      exact ⟨by simp [*] <;> (intros; omega), (Below.refl _ _).alloc (Nat.le_refl _) _⟩
  · go_enter Try.func105, Try.ntmps105
    go_wp2
    go_ret
    exact ⟨by simp [*] <;> (intros; omega), (Below.refl _ _).alloc (Nat.le_refl _) _⟩
/-! ### iValid -/
theorem c_areFinite0 (a : Option Addr) (len cap : Nat) (zs : List Nat) (w : World) (hr : IsRowF .f32 w a len cap zs) : Calls Try.prog 81 #[.slice a len cap] w (RetV (.bool (finL zs)) w) := by
  have h := c_areFinite a len cap zs w 0 hr
  rwa [w.drewN_zero] at h
theorem c_iValid (W H : Int) (a : Option Addr) (len cap : Nat) (zs : List Nat) (w : World) (hr : IsRowF .f32 w a len cap zs) :
    Calls Try.prog 55 #[.agg #[.int .i64 W, .int .i64 H, .slice a len cap]] w (RetB (.bool (validB W H zs)) w) := by
  have H1 := Lib.hid hr.1
  have HR := Lib.hid hr
  clear hr
  have two : ∀ s : Bool, sideB W H = s → (s = true → ∀ t : Bool, ((len : Int) == W * H) = t → (Calls Try.prog 55 #[.agg #[.int .i64 W, .int .i64 H, .slice a len cap]] w (RetB (.bool (validB W H zs)) w))) → (s = false → Calls Try.prog 55 #[.agg #[.int .i64 W, .int .i64 H, .slice a len cap]] w (RetB (.bool (validB W H zs)) w)) → Calls Try.prog 55 #[.agg #[.int .i64 W, .int .i64 H, .slice a len cap]] w (RetB (.bool (validB W H zs)) w) := by
    intro s hs h1 h2
    cases s
    · exact h2 rfl
    · exact h1 rfl _ rfl
  refine two _ rfl ?_ ?_
  · intro hs t ht
    obtain ⟨m1, m2⟩ := side_mul hs
    have mw : IntKind.i64.wrap (W * H) = W * H := IntWalk.i64_in _ (by omega)
    clear two
    cases t
    · have e : validB W H zs = false := by simp at ht; simp [validB, hs, H1.out, ht]
      have E := Lib.hid e
      have HT := Lib.hid hs
      clear e
      go_enter Try.func55, Try.ntmps55
      go_wp2_with fail
      refine (c_sidesOf W H _ _).mono ?_
      rintro _ w1 ⟨rfl, b1⟩
      obtain ⟨p0, p1, p2⟩ := ((Var.new _ _ _).keep b1).three
      have z1 : w.heap.size < w1.heap.size := by have := b1.size; simp at this; omega
      have B1 := Lib.hid (((Below.refl w.heap.size w).alloc (Nat.le_refl _) _).trans (b1.mono (by simp)))
      clear b1
      go_wp2_with fail
      refine (c_allowed W H _).mono ?_
      rintro _ w2 ⟨rfl, b2⟩
      rw [HT.out]
      have q0 := (b2.cell (p := ⟨w.heap.size, 0, none⟩) z1).trans p0
      have q1 := (b2.cell (p := ⟨w.heap.size, 1, none⟩) z1).trans p1
      have q2 := (b2.cell (p := ⟨w.heap.size, 2, none⟩) z1).trans p2
      have B2 := Lib.hid (B1.out.trans (b2.mono (by omega)))
      clear p0 p1 p2 b2 hs
      go_wp2_with fail
      go_ret
      exact ⟨by rw [E.out]; rfl, B2.out⟩
    · have e : validB W H zs = finL zs := by simp at ht; simp [validB, hs, H1.out, ht]
      have E := Lib.hid e
      have HT := Lib.hid hs
      clear e
      go_enter Try.func55, Try.ntmps55
      go_wp2_with fail
      refine (c_sidesOf W H _ _).mono ?_
      rintro _ w1 ⟨rfl, b1⟩
      obtain ⟨p0, p1, p2⟩ := ((Var.new _ _ _).keep b1).three
      have z1 : w.heap.size < w1.heap.size := by have := b1.size; simp at this; omega
      have B1 := Lib.hid (((Below.refl w.heap.size w).alloc (Nat.le_refl _) _).trans (b1.mono (by simp)))
      clear b1
      go_wp2_with fail
      refine (c_allowed W H _).mono ?_
      rintro _ w2 ⟨rfl, b2⟩
      rw [HT.out]
      have q0 := (b2.cell (p := ⟨w.heap.size, 0, none⟩) z1).trans p0
      have q1 := (b2.cell (p := ⟨w.heap.size, 1, none⟩) z1).trans p1
      have q2 := (b2.cell (p := ⟨w.heap.size, 2, none⟩) z1).trans p2
      have B2 := Lib.hid (B1.out.trans (b2.mono (by omega)))
      clear p0 p1 p2 b2 hs
      go_wp2_with fail
      refine (c_areFinite0 a len cap zs _ (HR.out.below B2.out)).mono ?_
      rintro _ w3 ⟨m, rfl, rfl⟩
      rw [← E.out]
      go_wp2_with fail
      go_ret
      exact ⟨rfl, below_drewN B2.out _⟩
  · intro hs
    have e : validB W H zs = false := by simp [validB, hs]
    have E := Lib.hid e
    have HT := Lib.hid hs
    clear e two
    go_enter Try.func55, Try.ntmps55
    go_wp2_with fail
    refine (c_sidesOf W H _ _).mono ?_
    rintro _ w1 ⟨rfl, b1⟩
    have B1 := Lib.hid (((Below.refl w.heap.size w).alloc (Nat.le_refl _) _).trans (b1.mono (by simp)))
    have z1 : w.heap.size < w1.heap.size := by have := b1.size; simp at this; omega
    clear b1
    go_wp2_with fail
    refine (c_allowed W H _).mono ?_
    rintro _ w2 ⟨rfl, b2⟩
    rw [HT.out]
    have B2 := Lib.hid (B1.out.trans (b2.mono (by omega)))
    clear b2 hs
    go_wp2_with fail
    go_ret
    exact ⟨by rw [E.out]; rfl, B2.out⟩
/-! ### ifFinite -/
theorem c_ifFinite (v n : Nat) (w : World) (j : Nat) : Calls Try.prog 58 #[.float .f32 (pick .f32 v n)] (w.drewN j) (fun e w' => ∃ k m, e = .returned (.tuple #[.float .f32 (pick .f32 (numR v).1 k), .bool (numR v).2]) ∧ w' = w.drewN m) := by
  cases h : finB .f32 v
  · have e : numR v = (0, false) := by unfold numR; rw [if_neg (by rw [h]; decide)]
    rw [e]
    go_enter Try.func58, Try.ntmps58
    go_wp2_with (first | (go_at_call 85; refine (c_iIsFinite _ _ _ _).mono ?_; rintro _ _ ⟨_, rfl, rfl⟩))
    go_ret2
    exact ⟨0, _, by simp only [pick00]; rfl, rfl⟩
  · have e : numR v = (v, true) := by unfold numR; rw [if_pos h]
    rw [e]
    go_enter Try.func58, Try.ntmps58
    go_wp2_with (first | (go_at_call 85; refine (c_iIsFinite _ _ _ _).mono ?_; rintro _ _ ⟨_, rfl, rfl⟩))
    go_ret2
    exact ⟨n, _, rfl, rfl⟩
/-! ### iDirectLight -/
theorem c_iDirectLight (WP HP : Int) (zP : List Nat) (aP : Option Addr) (cP : Nat) (ar an ag am ab ak : Nat) (w : World) (rP : IsRowF .f32 w aP zP.length cP zP) (har : ar < 2 ^ FloatKind.f32.format.width) (hag : ag < 2 ^ FloatKind.f32.format.width) (hab : ab < 2 ^ FloatKind.f32.format.width) : Calls Try.prog 48 #[.agg #[.int .i64 WP, .int .i64 HP, .slice aP zP.length cP], .agg #[.float .f32 (pick .f32 ar an), .float .f32 (pick .f32 ag am), .float .f32 (pick .f32 ab ak)]] w (RetF1 (directR WP HP zP ar ag ab) w) := by
  have RP := Lib.hid rP
  clear rP
  generalize hw0 : (w.alloc (Obj.cells #[.int .i64 WP, .int .i64 HP, .slice aP zP.length cP] 29)).alloc (Obj.cells #[.float .f32 (pick .f32 ar an), .float .f32 (pick .f32 ag am), .float .f32 (pick .f32 ab ak)] 36) = w0
  have X0 : Var w0 w.heap.size #[.int .i64 WP, .int .i64 HP, .slice aP zP.length cP] := by subst hw0; exact (Var.new _ _ _).alloc _
  have X1 : Var w0 (w.heap.size + 1) #[.float .f32 (pick .f32 ar an), .float .f32 (pick .f32 ag am), .float .f32 (pick .f32 ab ak)] := by subst hw0; exact Var.new' _ _ _ _ (by simp)
  have X3 : Below w.heap.size w w0 := by subst hw0; exact ((Below.refl _ _).alloc (Nat.le_refl _) _).alloc (by simp) _
  have HW := Lib.hid hw0
  have V0 := Lib.hid X0
  have B0 := Lib.hid X3
  obtain ⟨c0, c1, c2⟩ := X0.three
  obtain ⟨e0, e1, e2⟩ := X1.three
  clear hw0 X0 X1 X3
  have hyes := fun h h2 => (directR_yes (Wn := WP.toNat) (Hn := HP.toNat) (zs := zP) (x := ar) (y := ag) (z := ab) h h2)
  have hno := directR_no (W := WP) (H := HP) (zs := zP) (x := ar) (y := ag) (z := ab)
  obtain ⟨res, hres⟩ : ∃ q, q = directR WP HP zP ar ag ab := ⟨_, rfl⟩
  rw [← hres] at hno ⊢
  have CU := c_iUnitWay ar an ag am ab ak w0 har hag hab
  obtain ⟨U, hU⟩ : ∃ q, q = unitW ar ag ab := ⟨_, rfl⟩
  rw [← hU] at CU hyes hno
  have CU := Lib.hid CU
  have HNO := Lib.hid hno
  clear hno
  cases hu : U.2
  · have RES := Lib.hid (HNO.out (.inl hu))
    clear hres hyes HNO hU
    go_enter Try.func48, Try.ntmps48
    go_wp2_with fail
    rw [HW.out]
    refine CU.out.mono ?_
    rintro _ w1 ⟨n1, m1, q1, rfl, b⟩
    rw [hu]
    have B1 := Lib.hid (B0.out.trans (b.mono B0.out.size))
    have V1 := Lib.hid (V0.out.keep b)
    have zz1 : w.heap.size < w1.heap.size := V1.out.lt
    clear b c0 c1 c2 e0 e1 e2
    go_wp2_with fail
    rw [RES.out]
    go_ret2
    exact ⟨0, by simp only [pick00]; rfl, B1.out.alloc (by omega) _⟩
  · cases hv : validB WP HP zP
    · have RES := Lib.hid (HNO.out (.inr hv))
      clear hres hyes HNO hU
      go_enter Try.func48, Try.ntmps48
      go_wp2_with fail
      rw [HW.out]
      refine CU.out.mono ?_
      rintro _ w1 ⟨n1, m1, q1, rfl, b⟩
      rw [hu]
      have B1 := Lib.hid (B0.out.trans (b.mono B0.out.size))
      have V1 := Lib.hid (V0.out.keep b)
      have zz1 : w.heap.size < w1.heap.size := V1.out.lt
      clear b c0 c1 c2 e0 e1 e2
      obtain ⟨c0, c1, c2⟩ := V1.out.three
      go_wp2_with fail
      have E : Below w1.heap.size w1 (w1.alloc (Obj.cells #[.float .f32 (pick .f32 U.1.1 n1), .float .f32 (pick .f32 U.1.2.1 m1), .float .f32 (pick .f32 U.1.2.2 q1)] 36)) := (Below.refl _ _).alloc (Nat.le_refl _) _
      refine (c_iValid WP HP aP _ cP zP _ (RP.out.below (B1.out.trans (E.mono B1.out.size)))).mono ?_
      rintro _ w2 ⟨rfl, b⟩
      rw [hv]
      have B2 := Lib.hid (B1.out.trans ((E.trans (b.mono E.size)).mono B1.out.size))
      clear b E c0 c1 c2
      go_wp2_with fail
      rw [RES.out]
      go_ret2
      exact ⟨0, by simp only [pick00]; rfl, B2.out⟩
    · obtain ⟨Wn, Hn, rfl, rfl, hW1, hW2, hH1, hH2⟩ := valid_nat hv
      have HLN := Lib.hid (valid_len2 hv)
      rw [Int.toNat_natCast, Int.toNat_natCast] at hyes
      have RES := Lib.hid ((hres.trans (by unfold directR; rw [← hU, hu, hv, if_pos (by rfl), Int.toNat_natCast, Int.toNat_natCast]) : res = numR (dirK zP Wn Hn U.1 (Wn * Hn))))
      clear hres hyes HNO hU
      go_enter Try.func48, Try.ntmps48
      go_wp2_with fail
      rw [HW.out]
      refine CU.out.mono ?_
      rintro _ w1 ⟨n1, m1, q1, rfl, b⟩
      rw [hu]
      have B1 := Lib.hid (B0.out.trans (b.mono B0.out.size))
      have V1 := Lib.hid (V0.out.keep b)
      have zz1 : w.heap.size < w1.heap.size := V1.out.lt
      clear b c0 c1 c2 e0 e1 e2
      obtain ⟨c0, c1, c2⟩ := V1.out.three
      go_wp2_with fail
      have VU1 := Lib.hid (Var.new w1 #[.float .f32 (pick .f32 U.1.1 n1), .float .f32 (pick .f32 U.1.2.1 m1), .float .f32 (pick .f32 U.1.2.2 q1)] 36)
      have E : Below w1.heap.size w1 (w1.alloc (Obj.cells #[.float .f32 (pick .f32 U.1.1 n1), .float .f32 (pick .f32 U.1.2.1 m1), .float .f32 (pick .f32 U.1.2.2 q1)] 36)) := (Below.refl _ _).alloc (Nat.le_refl _) _
      refine (c_iValid (Wn : Int) (Hn : Int) aP _ cP zP _ (RP.out.below (B1.out.trans (E.mono B1.out.size)))).mono ?_
      rintro _ w2 ⟨rfl, b⟩
      rw [hv]
      have B2 := Lib.hid (B1.out.trans ((E.trans (b.mono E.size)).mono B1.out.size))
      have VU2 := Lib.hid (VU1.out.keep b)
      have V2 := Lib.hid ((V1.out.keep E).keep b)
      have zz2 : w1.heap.size < w2.heap.size := VU2.out.lt
      have zp2 : w.heap.size < w2.heap.size := V2.out.lt
      clear b E c0 c1 c2 hv VU1
      obtain ⟨c0, c1, c2⟩ := V2.out.three
      go_wp2_with fail
      refine (c_eachDirect Wn Hn zP aP cP (fun k wk => (∃ n, Var wk w2.heap.size #[.float .f32 (pick .f32 (dirK zP Wn Hn U.1 k) n)]) ∧ Free wk w2.heap.size ∧ Below w.heap.size w wk ∧ Var wk w1.heap.size #[.float .f32 (pick .f32 U.1.1 n1), .float .f32 (pick .f32 U.1.2.1 m1), .float .f32 (pick .f32 U.1.2.2 q1)]) w1.heap.size w2.heap.size _ hW1 hW2 hH1 hH2 HLN.out ?htb ?hV ?hK ?hR ?h0).mono ?_
      case htb => simp
      case hV =>
        rintro j x n n5 m5 q5 wk hj hx ⟨⟨m, v⟩, f, b, vu⟩
        refine (c_addDirect _ n _ m w1.heap.size w2.heap.size U.1 _ _ _ _ _ _ _ wk vu v f).mono ?_
        rintro _ w' ⟨rfl, ⟨q, v'⟩, f', g⟩
        refine ⟨rfl, ⟨⟨q, ?_⟩, f', b.grown g b.size (fun k e => by cases e; omega), vu.kept g (by simp; omega)⟩, g⟩
        rw [dir_step zP Wn Hn j x U.1 hx]; exact v'
      case hK =>
        rintro k wk w' ⟨⟨n, v⟩, f, b, vu⟩ hb
        exact ⟨⟨n, v.keep hb⟩, f.below v.lt hb, b.trans (hb.mono b.size), vu.keep hb⟩
      case hR =>
        rintro k wk ⟨_, _, b, _⟩
        exact RP.out.below b
      case h0 => exact ⟨⟨0, by rw [show dirK zP Wn Hn U.1 0 = 0 from rfl, pick00]; exact Var.new _ _ _⟩, Free.new _ _ _, B2.out.alloc (by omega) _, VU2.out.alloc _⟩
      rintro _ w9 ⟨rfl, ⟨n9, v9⟩, f9, b9, _⟩
      have c9 : w9.cell? ⟨w2.heap.size, 0, none⟩ = some (.float .f32 (pick .f32 (dirK zP Wn Hn U.1 (Wn * Hn)) n9)) := v9.2 0 (by simp)
      have B9 := Lib.hid b9
      have CF := c_ifFinite (dirK zP Wn Hn U.1 (Wn * Hn)) n9 w9 0
      rw [w9.drewN_zero] at CF
      have CF := Lib.hid CF
      rw [← RES.out] at CF
      clear b9 v9 f9 c0 c1 c2
      generalize dirK zP Wn Hn U.1 (Wn * Hn) = tt at *
      go_wp2_with fail
      refine CF.out.mono ?_
      rintro _ _ ⟨k9, m9, rfl, rfl⟩
      go_wp2_with fail
      go_ret2
      exact ⟨k9, rfl, below_drewN B9.out _⟩
/-! ### FnExactDirectLight -/
set_option maxHeartbeats 8000000 in
theorem walkG (WP HP : Int) (zP : List Nat) (aP : Option Addr) (cP : Nat) (ar an ag am ab ak : Nat) (w : World) (rP : IsRowF .f32 w aP zP.length cP zP) (har : ar < 2 ^ FloatKind.f32.format.width) (hag : ag < 2 ^ FloatKind.f32.format.width) (hab : ab < 2 ^ FloatKind.f32.format.width) (hl : zP.length ≤ 1048576) : Calls Try.prog 13 #[.agg #[.int .i64 WP, .int .i64 HP, .slice aP zP.length cP], .agg #[.float .f32 (pick .f32 ar an), .float .f32 (pick .f32 ag am), .float .f32 (pick .f32 ab ak)]] w fun e w' => e = .returned (.bool true) ∧ Below w.heap.size w w' := by
  have RP := Lib.hid rP
  clear rP
  generalize hw0 : (w.alloc (Obj.cells #[.int .i64 WP, .int .i64 HP, .slice aP zP.length cP] 24)).alloc (Obj.cells #[.float .f32 (pick .f32 ar an), .float .f32 (pick .f32 ag am), .float .f32 (pick .f32 ab ak)] 44) = w0
  have Vp_0 := Lib.hid (show Var w0 (w.heap.size) #[.int .i64 WP, .int .i64 HP, .slice aP zP.length cP] from by subst hw0; exact (Var.new _ _ _).alloc _)
  have Va_0 := Lib.hid (show Var w0 (w.heap.size + 1) #[.float .f32 (pick .f32 ar an), .float .f32 (pick .f32 ag am), .float .f32 (pick .f32 ab ak)] from by subst hw0; exact Var.new' _ _ _ _ (by first | rfl | simp))
  have B_0 := Lib.hid (show Below w.heap.size w w0 from by subst hw0; exact ((Below.refl _ _).alloc (Nat.le_refl _) _).alloc (by simp) _)
  have HW := Lib.hid hw0
  clear hw0
  have CT := Lib.hid (fun w => c_toW ar an ag am ab ak w)
  have Cs := Lib.hid (fun (aP : Option Addr) (cP : Nat) (w : World) (rP : IsRowF .f32 w aP zP.length cP zP) => c_sDirectLight WP HP zP aP cP ar an ag am ab ak w rP har hag hab)
  have Ci := Lib.hid (fun (aP : Option Addr) (cP : Nat) (w : World) (rP : IsRowF .f32 w aP zP.length cP zP) => c_iDirectLight WP HP zP aP cP ar an ag am ab ak w rP har hag hab)
  generalize directR WP HP zP ar ag ab = z at *
  obtain ⟨cp0, cp1, cp2⟩ := Vp_0.out.three
  obtain ⟨ca0, ca1, ca2⟩ := Va_0.out.three
  go_enter Try.func13, Try.ntmps13
  go_wp2_with fail
  rw [HW.out]
  refine (c_szP WP HP aP zP.length cP (1048576 : Int) _ (by omega) (by omega)).mono ?_
  rintro _ w1 ⟨rfl, b⟩
  have Vp_1 := Lib.hid (Vp_0.out.keep b)
  have Va_1 := Lib.hid (Va_0.out.keep b)
  have B_1 := Lib.hid (B_0.out.trans (b.mono B_0.out.size))
  clear cp0 cp1 cp2 ca0 ca1 ca2
  clear Vp_0 Va_0 B_0 b
  obtain ⟨cp0, cp1, cp2⟩ := Vp_1.out.three
  obtain ⟨ca0, ca1, ca2⟩ := Va_1.out.three
  have hz : ¬ ((1048576 : Int) - (zP.length : Int) < 0) := by omega
  go_wp2_with fail
  clear cp0 cp1 cp2 ca0 ca1 ca2
  have KS := Lib.hid (fun (w' : World) (hE : Below w1.heap.size w1 w') => (⟨(Vp_1.out.keep hE).three.1, (Vp_1.out.keep hE).three.2.1, (Vp_1.out.keep hE).three.2.2, (Va_1.out.keep hE).three.1, (Va_1.out.keep hE).three.2.1, (Va_1.out.keep hE).three.2.2⟩ : _ ∧ _ ∧ _ ∧ _ ∧ _ ∧ _))
  refine wp_region_facts 10 (fun a b => Below a.heap.size a b) (fun _ => Below.refl _ _) (fun _ _ _ h h' => h.trans (h'.mono h.size)) (Below.refl _ _).drew (by kernel_rfl) (by kernel_rfl) (by kernel_rfl) (by kernel_rfl) ?_
  simp only [List.take_succ_cons, List.take_zero, List.drop_succ_cons, List.drop_zero]
  (with_reducible apply wpF_val); (focus (intro vs w' hE hk; (obtain ⟨d0, d1, d2, e0, e1, e2⟩ := KS.out w' hE); go_simp; exact ⟨Below.refl _ _, rfl⟩)); (simp only [Act.put, List.setIfInBounds_toArray, List.set_cons_zero, List.set_cons_succ, List.cons_append, List.nil_append])
  refine wpF_fact (fun u wx => ∃ g, u = .agg #[.int .i64 WP, .int .i64 HP, .slice (some ⟨g, 0, none⟩) zP.length zP.length] ∧ Own 26 wx w1.heap.size (some ⟨g, 0, none⟩) zP.length zP.length zP) (fun u wa wb h hE => by obtain ⟨g, h1, h2⟩ := h; exact ⟨g, h1, h2.below hE⟩) (fun vs w' hE hk => ?_) ?_; (focus ((obtain ⟨d0, d1, d2, e0, e1, e2⟩ := KS.out w' hE); go_simp; refine (c_toP WP HP aP zP.length cP zP _ ((RP.out.below B_1.out).below hE) (by omega)).mono ?_; rintro _ w9 ⟨g, rfl, b, o⟩; exact ⟨_, rfl, b, g, rfl, o.mono (by have := hE.size; omega)⟩)); (simp only [Act.put, List.setIfInBounds_toArray, List.set_cons_zero, List.set_cons_succ, List.cons_append, List.nil_append])
  (with_reducible apply wpF_val); (focus (intro vs w' hE hk; (obtain ⟨d0, d1, d2, e0, e1, e2⟩ := KS.out w' hE); go_simp; exact ⟨Below.refl _ _, rfl⟩)); (simp only [Act.put, List.setIfInBounds_toArray, List.set_cons_zero, List.set_cons_succ, List.cons_append, List.nil_append])
  (with_reducible apply wpF_val); (focus (intro vs w' hE hk; (obtain ⟨d0, d1, d2, e0, e1, e2⟩ := KS.out w' hE); go_simp; refine (CT.out _).mono ?_; rintro _ w9 ⟨rfl, b⟩; exact ⟨_, rfl, b, rfl⟩)); (simp only [Act.put, List.setIfInBounds_toArray, List.set_cons_zero, List.set_cons_succ, List.cons_append, List.nil_append])
  refine wpF_fact (fun u _ => ∃ n, u = .tuple #[.float .f32 (pick .f32 z.1 n), .bool z.2]) (fun _ _ _ h _ => h) (fun vs w' hE hk => ?_) ?_; (focus (obtain ⟨g, h9, o9⟩ := hk 1 (by kernel_rfl); simp only [h9]; (obtain ⟨d0, d1, d2, e0, e1, e2⟩ := KS.out w' hE); go_simp; refine (Cs.out _ _ _ o9.row).mono ?_; rintro _ w9 ⟨n9, rfl, b⟩; exact ⟨_, rfl, b, n9, rfl⟩)); (simp only [Act.put, List.setIfInBounds_toArray, List.set_cons_zero, List.set_cons_succ, List.cons_append, List.nil_append])
  refine wpF_fact (fun u _ => ∃ n, u = .tuple #[.float .f32 (pick .f32 z.1 n), .bool z.2]) (fun _ _ _ h _ => h) (fun vs w' hE hk => ?_) ?_; (focus (obtain ⟨n9, h9⟩ := hk 4 (by kernel_rfl); simp only [h9]; go_simp; exact ⟨Below.refl _ _, n9, rfl⟩)); (simp only [Act.put, List.setIfInBounds_toArray, List.set_cons_zero, List.set_cons_succ, List.cons_append, List.nil_append])
  refine wpF_fact (fun u _ => ∃ n, u = .float .f32 (pick .f32 z.1 n)) (fun _ _ _ h _ => h) (fun vs w' hE hk => ?_) ?_; (focus (obtain ⟨n9, h9⟩ := hk 5 (by kernel_rfl); simp only [h9]; go_simp; exact ⟨Below.refl _ _, n9, rfl⟩)); (simp only [Act.put, List.setIfInBounds_toArray, List.set_cons_zero, List.set_cons_succ, List.cons_append, List.nil_append])
  refine wpF_fact (fun u _ => u = .bool z.2) (fun _ _ _ h _ => h) (fun vs w' hE hk => ?_) ?_; (focus (obtain ⟨n9, h9⟩ := hk 5 (by kernel_rfl); simp only [h9]; go_simp; exact ⟨Below.refl _ _, rfl⟩)); (simp only [Act.put, List.setIfInBounds_toArray, List.set_cons_zero, List.set_cons_succ, List.cons_append, List.nil_append])
  refine wpF_fact (fun u _ => ∃ n, u = .float .f32 (pick .f32 z.1 n)) (fun _ _ _ h _ => h) (fun vs w' hE hk => ?_) ?_; (focus (obtain ⟨n9, h9⟩ := hk 6 (by kernel_rfl); simp only [h9]; go_simp; exact ⟨Below.refl _ _, n9, rfl⟩)); (simp only [Act.put, List.setIfInBounds_toArray, List.set_cons_zero, List.set_cons_succ, List.cons_append, List.nil_append])
  refine wpF_fact (fun u _ => u = .bool z.2) (fun _ _ _ h _ => h) (fun vs w' hE hk => ?_) ?_; (focus (have h9 := hk 7 (by kernel_rfl); simp only [show vs 7 = _ from h9]; go_simp; exact ⟨Below.refl _ _, rfl⟩)); (simp only [Act.put, List.setIfInBounds_toArray, List.set_cons_zero, List.set_cons_succ, List.cons_append, List.nil_append])
  refine wpF_nil (fun vs w2 hE hk => ?_)
  obtain ⟨g1, h0, _⟩ := hk 1
  obtain ⟨a1, h1⟩ := hk 4
  obtain ⟨a2, h2⟩ := hk 5
  obtain ⟨a3, h3⟩ := hk 6
  have h4 := hk 7
  obtain ⟨ns, h5⟩ := hk 8
  have h6 := hk 9
  simp only [h1, h2, h3, show vs 7 = _ from h4, h5, show vs 9 = _ from h6]
  clear h1 h2 h3 h4 h5 h6
  simp only [h0]
  have b := hE
  clear hE hk KS h0
  have Vp_2 := Lib.hid (Vp_1.out.keep b)
  have Va_2 := Lib.hid (Va_1.out.keep b)
  have B_2 := Lib.hid (B_1.out.trans (b.mono B_1.out.size))
  clear Vp_1 Va_1 B_1 b
  obtain ⟨cp0, cp1, cp2⟩ := Vp_2.out.three
  obtain ⟨ca0, ca1, ca2⟩ := Va_2.out.three
  go_wp2_with fail
  refine (c_toP WP HP aP zP.length cP zP _ (RP.out.below B_2.out) (by omega)).mono ?_
  rintro _ w3 ⟨gx, rfl, b, o⟩
  have Ox_3 := Lib.hid o
  clear o
  have Vp_3 := Lib.hid (Vp_2.out.keep b)
  have Va_3 := Lib.hid (Va_2.out.keep b)
  have B_3 := Lib.hid (B_2.out.trans (b.mono B_2.out.size))
  clear cp0 cp1 cp2 ca0 ca1 ca2
  clear Vp_2 Va_2 B_2 b
  generalize hw4 : w3.alloc (Obj.cells #[.int .i64 WP, .int .i64 HP, .slice (some ⟨gx, 0, none⟩) zP.length zP.length] 29) = w4
  have X0 : Var w4 w3.heap.size #[.int .i64 WP, .int .i64 HP, .slice (some ⟨gx, 0, none⟩) zP.length zP.length] := by subst hw4; exact Var.new _ _ _
  have b : Below w3.heap.size w3 w4 := by subst hw4; exact (Below.refl _ _).alloc (Nat.le_refl _) _
  have Hx := Lib.hid hw4
  have Ox_4 := Lib.hid (Ox_3.out.below b)
  have Vp_4 := Lib.hid (Vp_3.out.keep b)
  have Va_4 := Lib.hid (Va_3.out.keep b)
  have B_4 := Lib.hid (B_3.out.trans (b.mono B_3.out.size))
  clear Vp_3 Va_3 B_3 b Ox_3
  have Vx_4 := Lib.hid X0
  obtain ⟨cp0, cp1, cp2⟩ := Vp_4.out.three
  obtain ⟨ca0, ca1, ca2⟩ := Va_4.out.three
  obtain ⟨cx0, cx1, cx2⟩ := Vx_4.out.three
  rw [← hw4] at cp0 cp1 cp2 ca0 ca1 ca2 cx0 cx1 cx2
  clear X0 hw4
  go_wp2_with fail
  rw [Hx.out]
  clear cp0 cp1 cp2 ca0 ca1 ca2 cx0 cx1 cx2
  clear Hx
  have KS := Lib.hid (fun (w' : World) (hE : Below w4.heap.size w4 w') => (⟨(Vp_4.out.keep hE).three.1, (Vp_4.out.keep hE).three.2.1, (Vp_4.out.keep hE).three.2.2, (Va_4.out.keep hE).three.1, (Va_4.out.keep hE).three.2.1, (Va_4.out.keep hE).three.2.2, (Vx_4.out.keep hE).three.1, (Vx_4.out.keep hE).three.2.1, (Vx_4.out.keep hE).three.2.2⟩ : _ ∧ _ ∧ _ ∧ _ ∧ _ ∧ _ ∧ _ ∧ _ ∧ _))
  refine wp_region_facts 9 (fun a b => Below a.heap.size a b) (fun _ => Below.refl _ _) (fun _ _ _ h h' => h.trans (h'.mono h.size)) (Below.refl _ _).drew (by kernel_rfl) (by kernel_rfl) (by kernel_rfl) (by kernel_rfl) ?_
  simp only [List.take_succ_cons, List.take_zero, List.drop_succ_cons, List.drop_zero]
  (with_reducible apply wpF_val); (focus (intro vs w' hE hk; (obtain ⟨d0, d1, d2, e0, e1, e2, k0, k1, k2⟩ := KS.out w' hE); go_simp; exact ⟨Below.refl _ _, rfl⟩)); (simp only [Act.put, List.setIfInBounds_toArray, List.set_cons_zero, List.set_cons_succ, List.cons_append, List.nil_append])
  (with_reducible apply wpF_val); (focus (intro vs w' hE hk; (obtain ⟨d0, d1, d2, e0, e1, e2, k0, k1, k2⟩ := KS.out w' hE); go_simp; exact ⟨Below.refl _ _, rfl⟩)); (simp only [Act.put, List.setIfInBounds_toArray, List.set_cons_zero, List.set_cons_succ, List.cons_append, List.nil_append])
  (with_reducible apply wpF_val); (focus (intro vs w' hE hk; (obtain ⟨d0, d1, d2, e0, e1, e2, k0, k1, k2⟩ := KS.out w' hE); go_simp; refine (CT.out _).mono ?_; rintro _ w9 ⟨rfl, b⟩; exact ⟨_, rfl, b, rfl⟩)); (simp only [Act.put, List.setIfInBounds_toArray, List.set_cons_zero, List.set_cons_succ, List.cons_append, List.nil_append])
  refine wpF_fact (fun u _ => ∃ n, u = .tuple #[.float .f32 (pick .f32 z.1 n), .bool z.2]) (fun _ _ _ h _ => h) (fun vs w' hE hk => ?_) ?_; (focus ((obtain ⟨d0, d1, d2, e0, e1, e2, k0, k1, k2⟩ := KS.out w' hE); go_simp; refine (Ci.out _ _ _ (Ox_4.out.below hE).row).mono ?_; rintro _ w9 ⟨n9, rfl, b⟩; exact ⟨_, rfl, b, n9, rfl⟩)); (simp only [Act.put, List.setIfInBounds_toArray, List.set_cons_zero, List.set_cons_succ, List.cons_append, List.nil_append])
  refine wpF_fact (fun u _ => ∃ n, u = .tuple #[.float .f32 (pick .f32 z.1 n), .bool z.2]) (fun _ _ _ h _ => h) (fun vs w' hE hk => ?_) ?_; (focus (obtain ⟨n9, h9⟩ := hk 3 (by kernel_rfl); simp only [h9]; go_simp; exact ⟨Below.refl _ _, n9, rfl⟩)); (simp only [Act.put, List.setIfInBounds_toArray, List.set_cons_zero, List.set_cons_succ, List.cons_append, List.nil_append])
  refine wpF_fact (fun u _ => ∃ n, u = .float .f32 (pick .f32 z.1 n)) (fun _ _ _ h _ => h) (fun vs w' hE hk => ?_) ?_; (focus (obtain ⟨n9, h9⟩ := hk 4 (by kernel_rfl); simp only [h9]; go_simp; exact ⟨Below.refl _ _, n9, rfl⟩)); (simp only [Act.put, List.setIfInBounds_toArray, List.set_cons_zero, List.set_cons_succ, List.cons_append, List.nil_append])
  refine wpF_fact (fun u _ => u = .bool z.2) (fun _ _ _ h _ => h) (fun vs w' hE hk => ?_) ?_; (focus (obtain ⟨n9, h9⟩ := hk 4 (by kernel_rfl); simp only [h9]; go_simp; exact ⟨Below.refl _ _, rfl⟩)); (simp only [Act.put, List.setIfInBounds_toArray, List.set_cons_zero, List.set_cons_succ, List.cons_append, List.nil_append])
  refine wpF_fact (fun u _ => ∃ n, u = .float .f32 (pick .f32 z.1 n)) (fun _ _ _ h _ => h) (fun vs w' hE hk => ?_) ?_; (focus (obtain ⟨n9, h9⟩ := hk 5 (by kernel_rfl); simp only [h9]; go_simp; exact ⟨Below.refl _ _, n9, rfl⟩)); (simp only [Act.put, List.setIfInBounds_toArray, List.set_cons_zero, List.set_cons_succ, List.cons_append, List.nil_append])
  refine wpF_fact (fun u _ => u = .bool z.2) (fun _ _ _ h _ => h) (fun vs w' hE hk => ?_) ?_; (focus (have h9 := hk 6 (by kernel_rfl); simp only [show vs 6 = _ from h9]; go_simp; exact ⟨Below.refl _ _, rfl⟩)); (simp only [Act.put, List.setIfInBounds_toArray, List.set_cons_zero, List.set_cons_succ, List.cons_append, List.nil_append])
  refine wpF_nil (fun vs w5 hE hk => ?_)
  obtain ⟨a1, h1⟩ := hk 3
  obtain ⟨a2, h2⟩ := hk 4
  obtain ⟨a3, h3⟩ := hk 5
  have h4 := hk 6
  obtain ⟨ni, h5⟩ := hk 7
  have h6 := hk 8
  simp only [h1, h2, h3, show vs 6 = _ from h4, h5, show vs 8 = _ from h6]
  clear h1 h2 h3 h4 h5 h6
  have b := hE
  clear hE hk KS
  have Ox_5 := Lib.hid (Ox_4.out.below b)
  have Vp_5 := Lib.hid (Vp_4.out.keep b)
  have Va_5 := Lib.hid (Va_4.out.keep b)
  have Vx_5 := Lib.hid (Vx_4.out.keep b)
  have B_5 := Lib.hid (B_4.out.trans (b.mono B_4.out.size))
  clear Vp_4 Va_4 Vx_4 B_4 b Ox_4
  obtain ⟨cp0, cp1, cp2⟩ := Vp_5.out.three
  obtain ⟨ca0, ca1, ca2⟩ := Va_5.out.three
  obtain ⟨cx0, cx1, cx2⟩ := Vx_5.out.three
  rw [← w5.drewN_zero]
  go_wp2_with (first | (refine wpList_cvU rfl 26 32 _ rfl (Option.isSome_iff_exists.2 ⟨_, Try.underlying26⟩) Try.underlying32 _ rfl _ ?_; intro _ _) | (go_at_call 19; refine (c_sameFloat _ _ _ _ _).mono ?_; rintro _ _ ⟨_, rfl, rfl⟩))
  generalize hw6 : World.drewN w5 _ = w6
  have b : Below w5.heap.size w5 w6 := by subst hw6; exact below_drewN (Below.refl _ _) _
  clear cp0 cp1 cp2 ca0 ca1 ca2 cx0 cx1 cx2
  have Ox_6 := Lib.hid (Ox_5.out.below b)
  have Vp_6 := Lib.hid (Vp_5.out.keep b)
  have Va_6 := Lib.hid (Va_5.out.keep b)
  have Vx_6 := Lib.hid (Vx_5.out.keep b)
  have B_6 := Lib.hid (B_5.out.trans (b.mono B_5.out.size))
  clear Vp_5 Va_5 Vx_5 B_5 b hw6 Ox_5
  have KS := Lib.hid (fun (w' : World) (hE : Below w6.heap.size w6 w') => (⟨(Vp_6.out.keep hE).three.1, (Vp_6.out.keep hE).three.2.1, (Vp_6.out.keep hE).three.2.2, (Va_6.out.keep hE).three.1, (Va_6.out.keep hE).three.2.1, (Va_6.out.keep hE).three.2.2, (Vx_6.out.keep hE).three.1, (Vx_6.out.keep hE).three.2.1, (Vx_6.out.keep hE).three.2.2⟩ : _ ∧ _ ∧ _ ∧ _ ∧ _ ∧ _ ∧ _ ∧ _ ∧ _))
  refine wp_region_facts 5 (fun a b => Below a.heap.size a b) (fun _ => Below.refl _ _) (fun _ _ _ h h' => h.trans (h'.mono h.size)) (Below.refl _ _).drew (by kernel_rfl) (by kernel_rfl) (by kernel_rfl) (by kernel_rfl) ?_
  simp only [List.take_succ_cons, List.take_zero, List.drop_succ_cons, List.drop_zero]
  (with_reducible apply wpF_val); (focus (intro vs w' hE hk; (obtain ⟨d0, d1, d2, e0, e1, e2, k0, k1, k2⟩ := KS.out w' hE); go_simp; exact ⟨Below.refl _ _, rfl⟩)); (simp only [Act.put, List.setIfInBounds_toArray, List.set_cons_zero, List.set_cons_succ, List.cons_append, List.nil_append])
  (with_reducible apply wpF_val); (focus (intro vs w' hE hk; (obtain ⟨d0, d1, d2, e0, e1, e2, k0, k1, k2⟩ := KS.out w' hE); go_simp; exact ⟨Below.refl _ _, rfl⟩)); (simp only [Act.put, List.setIfInBounds_toArray, List.set_cons_zero, List.set_cons_succ, List.cons_append, List.nil_append])
  refine wpF_fact (fun u wx => ∃ g, u = .agg #[.int .i64 WP, .int .i64 HP, .slice (some ⟨g, 0, none⟩) zP.length zP.length] ∧ Own 26 wx w6.heap.size (some ⟨g, 0, none⟩) zP.length zP.length zP) (fun u wa wb h hE => by obtain ⟨g, h1, h2⟩ := h; exact ⟨g, h1, h2.below hE⟩) (fun vs w' hE hk => ?_) ?_; (focus ((obtain ⟨d0, d1, d2, e0, e1, e2, k0, k1, k2⟩ := KS.out w' hE); go_simp; refine (c_toP WP HP aP zP.length cP zP _ ((RP.out.below B_6.out).below hE) (by omega)).mono ?_; rintro _ w9 ⟨g, rfl, b, o⟩; exact ⟨_, rfl, b, g, rfl, o.mono (by have := hE.size; omega)⟩)); (simp only [Act.put, List.setIfInBounds_toArray, List.set_cons_zero, List.set_cons_succ, List.cons_append, List.nil_append])
  (with_reducible apply wpF_val); (focus (intro vs w' hE hk; obtain ⟨g, h9, o9⟩ := hk 2 (by kernel_rfl); simp only [h9]; (obtain ⟨d0, d1, d2, e0, e1, e2, k0, k1, k2⟩ := KS.out w' hE); go_simp; refine (c_eqP _ _ _ _ _ _ _ _ _ (Ox_6.out.below hE).row o9.row).mono ?_; rintro _ w9 ⟨rfl, b⟩; exact ⟨_, rfl, b, rfl⟩)); (simp only [Act.put, List.setIfInBounds_toArray, List.set_cons_zero, List.set_cons_succ, List.cons_append, List.nil_append])
  (with_reducible apply wpF_val); (focus (intro vs w' hE hk; (obtain ⟨d0, d1, d2, e0, e1, e2, k0, k1, k2⟩ := KS.out w' hE); go_simp; exact ⟨Below.refl _ _, rfl⟩)); (simp only [Act.put, List.setIfInBounds_toArray, List.set_cons_zero, List.set_cons_succ, List.cons_append, List.nil_append])
  refine wpF_nil (fun vs w7 hE hk => ?_)
  obtain ⟨g2, h0, _⟩ := hk 2
  simp only [h0]
  have b := hE
  clear hE hk KS h0
  have Ox_7 := Lib.hid (Ox_6.out.below b)
  have Vp_7 := Lib.hid (Vp_6.out.keep b)
  have Va_7 := Lib.hid (Va_6.out.keep b)
  have Vx_7 := Lib.hid (Vx_6.out.keep b)
  have B_7 := Lib.hid (B_6.out.trans (b.mono B_6.out.size))
  clear Vp_6 Va_6 Vx_6 B_6 b Ox_6
  go_wp2_with fail
  go_ret
  exact ⟨rfl, B_7.out⟩
theorem walkL (WP HP : Int) (zP : List Nat) (aP : Option Addr) (cP : Nat) (ar an ag am ab ak : Nat) (w : World) (rP : IsRowF .f32 w aP zP.length cP zP) (hm : zP.length ≤ maxLen) (hl : 1048576 < zP.length) : Calls Try.prog 13 #[.agg #[.int .i64 WP, .int .i64 HP, .slice aP zP.length cP], .agg #[.float .f32 (pick .f32 ar an), .float .f32 (pick .f32 ag am), .float .f32 (pick .f32 ab ak)]] w fun e w' => e = .returned (.bool true) ∧ Below w.heap.size w w' := by
  unfold maxLen at hm
  have RP := Lib.hid rP
  clear rP
  generalize hw0 : (w.alloc (Obj.cells #[.int .i64 WP, .int .i64 HP, .slice aP zP.length cP] 24)).alloc (Obj.cells #[.float .f32 (pick .f32 ar an), .float .f32 (pick .f32 ag am), .float .f32 (pick .f32 ab ak)] 44) = w0
  have Vp_0 := Lib.hid (show Var w0 (w.heap.size) #[.int .i64 WP, .int .i64 HP, .slice aP zP.length cP] from by subst hw0; exact (Var.new _ _ _).alloc _)
  have Va_0 := Lib.hid (show Var w0 (w.heap.size + 1) #[.float .f32 (pick .f32 ar an), .float .f32 (pick .f32 ag am), .float .f32 (pick .f32 ab ak)] from by subst hw0; exact Var.new' _ _ _ _ (by first | rfl | simp))
  have B_0 := Lib.hid (show Below w.heap.size w w0 from by subst hw0; exact ((Below.refl _ _).alloc (Nat.le_refl _) _).alloc (by simp) _)
  have HW := Lib.hid hw0
  clear hw0
  obtain ⟨cp0, cp1, cp2⟩ := Vp_0.out.three
  obtain ⟨ca0, ca1, ca2⟩ := Va_0.out.three
  go_enter Try.func13, Try.ntmps13
  go_wp2_with fail
  rw [HW.out]
  refine (c_szP_no WP HP aP zP.length cP (1048576 : Int) _ (by omega) (by omega)).mono ?_
  rintro _ w1 ⟨rfl, b⟩
  have Vp_1 := Lib.hid (Vp_0.out.keep b)
  have Va_1 := Lib.hid (Va_0.out.keep b)
  have B_1 := Lib.hid (B_0.out.trans (b.mono B_0.out.size))
  clear cp0 cp1 cp2 ca0 ca1 ca2
  clear Vp_0 Va_0 B_0 b
  go_wp2_with fail
  go_ret
  exact ⟨rfl, B_1.out⟩
theorem walk (WP HP : Int) (zP : List Nat) (aP : Option Addr) (cP : Nat) (ar an ag am ab ak : Nat) (w : World) (rP : IsRowF .f32 w aP zP.length cP zP) (har : ar < 2 ^ FloatKind.f32.format.width) (hag : ag < 2 ^ FloatKind.f32.format.width) (hab : ab < 2 ^ FloatKind.f32.format.width) : Calls Try.prog 13 #[.agg #[.int .i64 WP, .int .i64 HP, .slice aP zP.length cP], .agg #[.float .f32 (pick .f32 ar an), .float .f32 (pick .f32 ag am), .float .f32 (pick .f32 ab ak)]] w fun e w' => e = .returned (.bool true) ∧ Below w.heap.size w w' := by
  have mP : zP.length ≤ maxLen := Nat.le_trans rP.2.1 rP.2.2.1
  by_cases g0 : 1048576 < zP.length
  · exact walkL WP HP zP aP cP ar an ag am ab ak w rP mP g0
  exact walkG WP HP zP aP cP ar an ag am ab ak w rP har hag hab (by omega)

theorem own : ownKnob Try.prog.godebug = none := by kernel_rfl
theorem laidOut : laidOutB Try.prog = true := by kernel_rfl
set_option maxRecDepth 100000 in
theorem lifted (os : Os) (started : os.Started) (H : Type) (enc : TypeId × Value → H) :
    ReturnsInHanded {} Try.checked os 13 .any (Rows.fnExactDirectLightSpec.pre6 enc Try.prog Try.f13 Rows.fnExactDirectLightRow.domain false) (Rows.fnExactDirectLightSpec.post enc Try.prog Try.f13 false true false false) := by
  refine returnsInHanded_of_change (C := Try.checked) own started (by kernel_rfl) Try.func13
    (ChangeSpec.witness6 (enc := enc) (C := Try.checked) false ⟨#[], #[.agg #[.int .i64 0, .int .i64 0, .slice none 0 0], .agg #[.float .f32 0, .float .f32 0, .float .f32 0]], []⟩ 8 (by kernel_rfl) (by kernel_rfl) (by kernel_rfl) (by kernel_rfl)) ?_
  intro W base args ds gs before hval0 hW hcnd _
  have hval : ∀ (j : Nat) t v, Try.f13.params[j]? = some t → args[j]? = some v → Value.okWide Try.prog W .any base t v := hval0
  have hW' := hW
  obtain ⟨p, q, hA0, hV, rfl, hfz, hnd⟩ := hW
  have hA : DataW.TrodAll enc Try.prog W 0 (fun _ => true) true Try.f13.params.toList args.toList ds p := hA0
  rw [Try.params13] at hA hval
  obtain ⟨v0, vs0, d0, ds0, p0, q0, hargs, rfl, rfl, h0, r0⟩ := trodAll_cons hA
  obtain ⟨v1, vs1, d1, ds1, p1, q1, rfl, rfl, rfl, h1, r1⟩ := trodAll_cons r0
  obtain ⟨rfl, rfl, rfl⟩ := trodAll_nil r1
  obtain rfl : args = #[v0, v1] := by cases args; simp_all
  obtain ⟨rfl, rfl⟩ := trodVars_none hV
  have k0 := h0
  have lt0 : ∀ x ∈ p0, x.block < W.heap.size := by obtain ⟨m, hm⟩ := k0; exact DataW.trod_lt m _ _ _ hm
  obtain ⟨W0, H0, z0, a0, c0, rfl, wW0, wH0, w0⟩ := open_pic Try.underlying24 (by kernel_rfl) (by kernel_rfl) Try.underlying2 Try.underlying2 Try.underlying22 Try.underlying26 (by kernel_rfl) (hval 0 24 v0 rfl rfl) h0
  have k1 := h1
  have lt1 : ∀ x ∈ p1, x.block < W.heap.size := by obtain ⟨m, hm⟩ := k1; exact DataW.trod_lt m _ _ _ hm
  obtain ⟨br1, bg1, bb1, rfl, wr1, wg1, wb1⟩ := open_col Try.underlying44 (by kernel_rfl) (by kernel_rfl) Try.underlying26 Try.underlying26 Try.underlying26 (hval 1 44 v1 rfl rfl) h1
  obtain ⟨nr1, er1⟩ := pick_onto .f32 br1 (lt_of_wf wr1)
  obtain ⟨ng1, eg1⟩ := pick_onto .f32 bg1 (lt_of_wf wg1)
  obtain ⟨nb1, eb1⟩ := pick_onto .f32 bb1 (lt_of_wf wb1)
  clear hA0 hval0
  have hw0 : Calls Try.prog 13 #[.agg #[.int .i64 W0, .int .i64 H0, .slice a0 z0.length c0], .agg #[.float .f32 br1, .float .f32 bg1, .float .f32 bb1]] W fun e w' => e = .returned (.bool true) ∧ Below W.heap.size W w' := by
    rw [er1, eg1, eb1]
    exact walk W0 H0 z0 a0 c0 br1 nr1 bg1 ng1 bb1 nb1 W w0 (lt_of_wf wr1) (lt_of_wf wg1) (lt_of_wf wb1)
  refine hw0.mono fun e W' ⟨he, bel⟩ => ?_
  subst he
  exact ⟨_, rfl, _, _, _, [], _, [], hW', trodAll_mk1 (shut_bool Try.underlying4 _), (trodAll_cons_mk (Below.trod laidOut (by kernel_rfl) (of_decide_eq_true (by kernel_rfl)) k0 bel lt0) (trodAll_cons_mk (Below.trod laidOut (by kernel_rfl) (of_decide_eq_true (by kernel_rfl)) k1 bel lt1) trodAll_mk0)), rfl, bel.frame _, fun h => by cases h⟩

theorem over : Rows.fnExactDirectLightRow.holds Try.pinned (OpenSpec.ofChange Rows.fnExactDirectLightSpec) :=
  OpenClaim.holds_of_wide 13 Try.f13 rfl rfl rfl rfl rfl rfl rfl ⟨rfl, rfl, rfl, rfl, rfl⟩ rfl rfl rfl rfl rfl (by kernel_rfl) Try.func13 (by kernel_rfl)
    (of_decide_eq_true (by kernel_rfl)) (by unfold Func.isWrapper; first | (rw [if_pos (by decide +kernel)]; kernel_rfl) | (rw [if_neg (by decide +kernel)]; exact ⟨rfl, rfl⟩))
    (fun os started H enc _ => lifted os started H enc)

theorem proved : Rows.FnExactDirectLightSaid := over
#print axioms proved

end Go.Proofs.Ytmngedfibmnohab.fnExactDirectLight

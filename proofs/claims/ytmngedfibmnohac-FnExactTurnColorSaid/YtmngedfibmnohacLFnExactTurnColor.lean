/-
  FnExactTurnColor: for every input this law of the program returns true, and each argument reads as before. No condition.
-/
import Derived.Test.YtmngedfibmnohacRows
import Derived.Test.YtmngedfibmnohacRow
import Derived.Test.YtmngedfibmnohacBy
import Derived.Test.YtmngedfibmnohacMn
import Derived.Test.YtmngedfibmnohacAp
import Derived.ProofKit
import Derived.OpenShut
import Derived.ShutString
import Derived.ChangeOld
import Derived.Below
import Derived.Lib.Hide
import Derived.Outline
import Derived.Deep.RegionHeld3
import Derived.Deep.DeepCutAuto
set_option linter.unusedSimpArgs false
set_option linter.unusedVariables false
set_option exponentiation.threshold 2000
set_option maxRecDepth 20000
set_option maxHeartbeats 4000000
namespace Go.Proofs.Ytmngedfibmnohac.fnExactTurnColor
open Go Go.Proofs.Ytmngedfibmnohac Go.Proofs
open Go.ChangeShapes Go.WideShapes Go.ChangeAt Go.RowKit
open Go.ChangeMaps (open_string shut_string)
/-! ### openCol -/
theorem open_col {H : Type} {enc : TypeId × Value → H} {P : Program} {w : World} {base : Nat} {spare : Nat → Bool} {held : Bool} {r : Reach} {b0 : Nat} {t : TypeId} {f0 f1 f2 : Field} {v : Value} {d : DataW H} {p : List MemPlace}
    (hs : P.underlying t = some (.struct #[f0, f1, f2])) (hone : Go.Deep.oneCellFields P #[f0, f1, f2] = true) (hC : P.cellsOf t = 3) (u0 : P.underlying f0.type = some (.float .f32)) (u1 : P.underlying f1.type = some (.float .f32))
    (u2 : P.underlying f2.type = some (.float .f32)) (hv : Value.okWide P w r b0 t v) (h : DataW.Trod enc P w base spare held t v d p) :
    ∃ (x y z : Nat), v = .agg #[.float .f32 x, .float .f32 y, .float .f32 z] ∧ (Lit.float .f32 x).wf = true ∧ (Lit.float .f32 y).wf = true ∧ (Lit.float .f32 z).wf = true := by
  obtain ⟨v0, v1, v2, y0, y1, y2, n, rfl, _, _, h0, h1, h2⟩ := Go.Joins.open_agg3 hs hone hC hv h
  obtain ⟨x, e0, _, w0⟩ := trod_float u0 h0
  obtain ⟨y, e1, _, w1⟩ := trod_float u1 h1
  obtain ⟨z, e2, _, w2⟩ := trod_float u2 h2
  simp only [List.cons.injEq, and_true] at e0 e1 e2
  subst e0 e1 e2
  exact ⟨x, y, z, rfl, w0, w1, w2⟩
/-! ### toColor -/
theorem c_toC (r n g m b k : Nat) (w : World) : Calls Try.prog 17 #[.agg #[.float .f32 (pick .f32 r n), .float .f32 (pick .f32 g m), .float .f32 (pick .f32 b k)]] w (RetB (.agg #[.float .f32 (pick .f32 r n), .float .f32 (pick .f32 g m), .float .f32 (pick .f32 b k)]) w) := by
  go_enter Try.func17, Try.ntmps17
  go_wp2_with fail
  refine bodyPost_ret (v := .agg #[.float .f32 (pick .f32 r n), .float .f32 (pick .f32 g m), .float .f32 (pick .f32 b k)]) (by simp [results, Try.results17, go_sem]) rfl ⟨rfl, ?_⟩
  repeat (first | exact Below.refl _ _ | exact Nat.le_refl _ | (refine Below.setCell ?_ ?_ _) | (refine below_drewN ?_ _) | (refine Below.alloc ?_ ?_ _) | (simp <;> omega))
/-! ### toOwn -/
theorem infoFo : (Try.prog.info? 23).map (fun i => (i.zero, i.size, i.bytes)) = some (some (.float .f32 0), 1, 4) := by kernel_rfl
theorem c_toO (a : Option Addr) (len cap : Nat) (zs : List Nat) (w : World) (hr : IsRowF .f32 w a len cap zs) (hl : len ≤ 1048576) : Calls Try.prog 16 #[.slice a len cap] w (NewO 23 len zs w) := by
  obtain ⟨i0, hi, hz0, hz1, hz2⟩ := info_parts infoFo
  obtain ⟨h1, h2, h3, h4, h5⟩ := hr
  go_enter Try.func16, Try.ntmps16
  go_wp2_with (at_make; refine wpList_make_full _ rfl _ _ 22 rfl w.heap.size 23 i0 (.float .f32 0) 1 Try.underlying22 hi hz0 hz1 _ _ _ _ len rfl rfl rfl rfl (by rw [hz2]; omega) (by unfold maxLen; omega) (by simp) ?_; intro w1 hown hgrow)
  have hblk := block_of_owns hown
  have e0 : (madeCells (Value.float FloatKind.f32 0).cells (len * 1)).toList = List.replicate len (.float .f32 0) := by rw [Nat.mul_one]; exact made_zeros _ _
  rw [e0] at hblk
  have hbel : Below w.heap.size w w1 := (Below.refl _ _).grown hgrow (Nat.le_refl _) (by simp)
  have HB := Lib.hid hblk
  clear hown hgrow hblk e0 hz0 hz1 hz2
  go_loopw [4] (fun i wr => ∃ j : Nat, j ≤ len ∧ i = .int .i64 j ∧ Below w.heap.size w wr ∧ wr.heap[w.heap.size]? = some (.cells (fl .f32 (zs.take j) ++ List.replicate (zs.length - j) (Value.float .f32 0)).toArray 23 (0, 0))) (fun i _ => len - (intOf i).toNat)
  case atStart => exact ⟨0, Nat.zero_le _, rfl, hbel, by rw [HB.out, h1]; rfl⟩
  case round =>
    obtain ⟨j, hj, rfl, hb, hblk⟩ := hrel
    have Hblk := Lib.hid hblk
    clear hblk
    by_cases hlt : j < len
    · rcases h5 with h5 | ⟨b, off, rfl, hbl, hc⟩
      · omega
      have hcell : wr.cell? ⟨b, off + j, none⟩ = some (.float .f32 (fat zs j)) := by rw [hb.cell (p := ⟨b, off + j, none⟩) hbl]; exact hc j hlt
      have hold : wr.cell? ⟨w.heap.size, j, none⟩ = some (.float .f32 0) := by
        rw [cell_of_block Hblk.out, List.getElem?_append_right (by simp [fl]; omega)]
        have e : (fl FloatKind.f32 (List.take j zs)).length = j := by simp [fl]; omega
        rw [e, Nat.sub_self, List.getElem?_replicate, if_pos (by omega)]
      have hfz : wr.frozen? ⟨w.heap.size, j, none⟩ = false := frozen_of_block Hblk.out j
      have hset := block_set Hblk.out j (.float .f32 (fat zs j))
      rw [set_step zs _ j (by omega)] at hset
      have Hset := Lib.hid hset
      clear hset hc
      go_wp2
      go_roundw
      case rel => exact ⟨j + 1, by omega, by go_num, hb.setCell (Nat.le_refl _) _, Hset.out⟩
      case measure => simp [intOf]; omega
    · obtain rfl : j = len := by omega
      have e1 : fl .f32 (zs.take j) ++ List.replicate (zs.length - j) (Value.float .f32 0) = fl .f32 zs := by rw [h1, Nat.sub_self, List.replicate_zero, List.append_nil, List.take_of_length_le (by omega)]
      have hblk2 := Hblk.out
      rw [e1] at hblk2
      have hown : Own 23 wr w.heap.size (some ⟨w.heap.size, 0, none⟩) j j zs :=
        ⟨h1, ⟨by simp [fl, h1], .inr ⟨w.heap.size, j, _, rfl, Nat.le_refl _, hblk2, Nat.le_refl _, by unfold maxLen; omega, by simp [fl, h1], by rw [List.take_of_length_le (by simp [fl, h1])]⟩⟩, h4⟩
      have HO := Lib.hid hown
      clear hown hblk2 e1
      go_wp2
      go_ret
      exact ⟨w.heap.size, rfl, hb, HO.out⟩
/-! ### sameFloat -/
theorem c_sameFloat (v n m : Nat) (w : World) (j : Nat) : Calls Try.prog 51 #[.float .f64 (pick .f64 v n), .float .f64 (pick .f64 v m)] (w.drewN j) (RetV (.bool true) w) := by
  have hs := self_ne .f64 v
  have ht := self_eq .f64 v
  cases h : isN .f64 v
  · rw [h] at hs ht
    cases h2 : (FloatKind.f64.format.order v 0 == some .eq)
    · go_enter Try.func51, Try.ntmps51
      go_wp2_with (first | (refine wpList_fop rfl _ _ _ _ _ rfl _ _ _ rfl rfl (by decide) _ ?_; intro _ _) | (refine upon_fop _ _ _ _ _ (by decide) ?_; intro _ _))
      go_ret
      exact ⟨_, rfl, rfl⟩
    · go_enter Try.func51, Try.ntmps51
      go_wp2_with (first | (refine wpList_fop rfl _ _ _ _ _ rfl _ _ _ rfl rfl (by decide) _ ?_; intro _ _) | (refine upon_fop _ _ _ _ _ (by decide) ?_; intro _ _))
      go_ret
      exact ⟨_, by simp, rfl⟩
  · rw [h] at hs ht
    go_enter Try.func51, Try.ntmps51
    go_wp2_with (first | (refine wpList_fop rfl _ _ _ _ _ rfl _ _ _ rfl rfl (by decide) _ ?_; intro _ _) | (refine upon_fop _ _ _ _ _ (by decide) ?_; intro _ _))
    go_ret
    exact ⟨_, rfl, rfl⟩

/-! ### eqFloat32S -/
theorem c_eqF (a b : Option Addr) (len c d : Nat) (zs : List Nat) (w : World) (j0 : Nat) (hr : IsRowF .f32 w a len c zs) (hs : IsRowF .f32 w b len d zs) : Calls Try.prog 20 #[.slice a len c, .slice b len d] (w.drewN j0) (RetV (.bool true) w) := by
  obtain ⟨h1, h2, h3, h4, h5⟩ := hr
  obtain ⟨g1, g2, g3, g4, g5⟩ := hs
  unfold maxLen at h3
  go_enter Try.func20, Try.ntmps20
  go_wp2
  go_loopw [5] (fun i wr => ∃ k m : Nat, k ≤ len ∧ i = .int .i64 k ∧ wr = w.drewN m) (fun i _ => len - (intOf i).toNat)
  case atStart => exact ⟨0, j0, Nat.zero_le _, rfl, rfl⟩
  case round =>
    obtain ⟨k, m, hk, rfl, rfl⟩ := hrel
    by_cases hlt : k < len
    · rcases h5 with h5 | ⟨x, off, rfl, hbl, hc⟩
      · omega
      rcases g5 with g5 | ⟨y, off2, rfl, gbl, gc⟩
      · omega
      have hcell : w.cell? ⟨x, off + k, none⟩ = some (.float .f32 (fat zs k)) := hc k hlt
      have gcell : w.cell? ⟨y, off2 + k, none⟩ = some (.float .f32 (fat zs k)) := gc k hlt
      clear hc h4 gc g4
      go_wp2
      refine wp_region_N (fun _ _ u => u = .bool true) (by kernel_rfl) (by kernel_rfl) ?_; (repeat (first | ((with_reducible show wpN _ _ _ _ _ (Oper.mk _ (Op.binOp _ _ _ _ _) _ _ _ none :: _) _); refine wpN_fop rfl _ _ _ _ _ rfl _ _ _ rfl rfl (by decide) ?_; intro _) | ((with_reducible show wpN _ _ _ _ _ (Oper.mk _ (Op.convert _ _ _) _ _ _ none :: _) _); refine wpN_cvU rfl 23 70 _ rfl (Option.isSome_iff_exists.2 ⟨_, Try.underlying23⟩) Try.underlying70 _ rfl ?_; intro _) | ((with_reducible show wpN _ _ _ _ _ (Oper.mk _ _ _ _ _ (some _) :: _) _); (with_reducible refine wpN_off ?_ ?_); focus rfl; (simp only [Act.put, List.setIfInBounds_toArray, List.set_cons_zero, List.set_cons_succ])) | ((with_reducible show wpN _ _ _ _ _ (Oper.mk _ _ _ _ _ (some _) :: _) _); ((with_reducible refine wpN_on ?_ (fun K hK => ?_)); (focus rfl); intro _; go_simp; first | (refine uponN_value (hK _ ?_)) | ((refine uponN_call (callN rfl (c_sameFloat _ _ _ _ _)) ?_; intro u hu; obtain rfl : u = _ := hu); refine hK _ ?_)); clear hK K) | (((with_reducible refine wpN_plain rfl (fun K hK => ?_)); intro _; go_simp; first | (refine uponN_value (hK _ ?_)) | ((refine uponN_call (callN rfl (c_sameFloat _ _ _ _ _)) ?_; intro u hu; obtain rfl : u = _ := hu); refine hK _ ?_)); clear hK K) | ((with_reducible refine wpN_step (fun K hK => ?_)); go_simp; first | (refine hK _ ?_) | (intro _; first | (refine uponN_value (hK _ ?_)) | ((refine uponN_call (callN rfl (c_sameFloat _ _ _ _ _)) ?_; intro u hu; obtain rfl : u = _ := hu); refine hK _ ?_)); clear hK K))); refine wpN_nil ?_; intro _
      go_wp2
      go_roundw
      case rel => exact ⟨k + 1, _, by omega, by go_num, rfl⟩
      case measure => simp [intOf]; omega
    · clear h5 h4 g4 g5
      go_wp2
      go_ret
      exact ⟨_, rfl, rfl⟩
/-! ### eqPicture -/
theorem c_eqF0 (a b : Option Addr) (len c d : Nat) (zs : List Nat) (w : World) (hr : IsRowF .f32 w a len c zs) (hs : IsRowF .f32 w b len d zs) : Calls Try.prog 20 #[.slice a len c, .slice b len d] w (RetV (.bool true) w) := by
  have h := c_eqF a b len c d zs w 0 hr hs
  rwa [w.drewN_zero] at h
theorem c_eqP (W H : Int) (a b : Option Addr) (len c d : Nat) (zs : List Nat) (w : World) (hr : IsRowF .f32 w a len c zs) (hs : IsRowF .f32 w b len d zs) : Calls Try.prog 35 #[.agg #[.int .i64 W, .int .i64 H, .slice a len c], .agg #[.int .i64 W, .int .i64 H, .slice b len d]] w (RetB (.bool true) w) := by
  have HR := Lib.hid hr
  have HS := Lib.hid hs
  clear hr hs
  go_enter Try.func35, Try.ntmps35
  go_wp2_with fail
  refine (c_eqF0 a b len c d zs _ ((HR.out.alloc _).alloc _) ((HS.out.alloc _).alloc _)).mono ?_
  rintro _ _ ⟨m, rfl, rfl⟩
  go_wp2_with fail
  go_ret
  exact ⟨rfl, below_drewN (((Below.refl _ _).alloc (Nat.le_refl _) _).alloc (by simp) _) _⟩
/-! ### eqColor -/
theorem c_eqC (r nr nr2 g ng ng2 b nb nb2 : Nat) (w : World) : Calls Try.prog 19 #[.agg #[.float .f32 (pick .f32 r nr), .float .f32 (pick .f32 g ng), .float .f32 (pick .f32 b nb)], .agg #[.float .f32 (pick .f32 r nr2), .float .f32 (pick .f32 g ng2), .float .f32 (pick .f32 b nb2)]] w (RetB (.bool true) w) := by
  generalize hw2 : (w.alloc (Obj.cells #[.float .f32 (pick .f32 r nr), .float .f32 (pick .f32 g ng), .float .f32 (pick .f32 b nb)] 26)).alloc (Obj.cells #[.float .f32 (pick .f32 r nr2), .float .f32 (pick .f32 g ng2), .float .f32 (pick .f32 b nb2)] 26) = w2
  have X0 : Var w2 w.heap.size #[.float .f32 (pick .f32 r nr), .float .f32 (pick .f32 g ng), .float .f32 (pick .f32 b nb)] := by subst hw2; exact (Var.new _ _ _).alloc _
  have X1 : Var w2 (w.heap.size + 1) #[.float .f32 (pick .f32 r nr2), .float .f32 (pick .f32 g ng2), .float .f32 (pick .f32 b nb2)] := by subst hw2; exact Var.new' _ _ _ _ (by simp)
  have B0 := Lib.hid (show Below w.heap.size w w2 from by subst hw2; exact ((Below.refl _ _).alloc (Nat.le_refl _) _).alloc (by simp) _)
  have HW := Lib.hid hw2
  obtain ⟨c0, c1, c2⟩ := X0.three
  obtain ⟨d0, d1, d2⟩ := X1.three
  clear hw2 X0 X1
  go_enter Try.func19, Try.ntmps19
  go_wp2_with fail
  rw [HW.out, ← w2.drewN_zero]
  go_wp2_with (first | (refine wpList_cvU rfl 23 70 _ rfl (Option.isSome_iff_exists.2 ⟨_, Try.underlying23⟩) Try.underlying70 _ rfl _ ?_; intro _ _) | (refine upon_cvUp _ _ _ _ (Option.isSome_iff_exists.2 ⟨_, Try.underlying23⟩) Try.underlying70 ?_; intro _ _) | (go_at_call 51; refine (c_sameFloat _ _ _ _ _).mono ?_; rintro _ _ ⟨_, rfl, rfl⟩))
  go_ret
  exact ⟨rfl, below_drewN B0.out _⟩
/-! ### picDefs -/
def sideB (W H : Int) : Bool := decide (1 ≤ W) && decide (W ≤ 16) && (decide (1 ≤ H) && decide (H ≤ 16))
def finL (zs : List Nat) : Bool := zs.all (finB .f32)
def validB (W H : Int) (zs : List Nat) : Bool := sideB W H && decide ((zs.length : Int) = W * H) && finL zs
theorem sideB_true {W H : Int} (h : sideB W H = true) : (1 ≤ W ∧ W ≤ 16) ∧ 1 ≤ H ∧ H ≤ 16 := by simpa [sideB, and_assoc] using h
theorem side_mul {W H : Int} (h : sideB W H = true) : 1 ≤ W * H ∧ W * H ≤ 256 := by
  obtain ⟨⟨h1, h2⟩, h3, h4⟩ := sideB_true h
  have : W * H ≤ 16 * 16 := Int.mul_le_mul h2 h4 (by omega) (by omega)
  have h5 : 1 * 1 ≤ W * H := Int.mul_le_mul h1 h3 (by omega) (by omega)
  omega
theorem sideB_false {W H : Int} (h : sideB W H = false) : W < 1 ∨ 16 < W ∨ H < 1 ∨ 16 < H := by
  simp [sideB] at h; omega
theorem finL_snoc (zs : List Nat) (k : Nat) (hk : k < zs.length) : finL (zs.take (k + 1)) = (finL (zs.take k) && finB .f32 (fat zs k)) := by
  unfold finL fat
  rw [List.take_succ_eq_append_getElem hk, List.all_append, List.getD, List.getElem?_eq_getElem hk]; simp
theorem finL_of (zs : List Nat) (k : Nat) (hk : k < zs.length) (h : finB .f32 (fat zs k) = false) : finL zs = false := by
  unfold finL
  rw [List.all_eq_false]
  refine ⟨zs[k], List.getElem_mem hk, ?_⟩
  unfold fat at h
  rw [List.getD, List.getElem?_eq_getElem hk] at h
  simpa using h
theorem pick0 (k : FloatKind) (v : Nat) (hv : v < 2 ^ k.format.width) : ∃ n, v = pick k v n := pick_onto k v hv
/-! ### meanDefs -/
def meanV (zs : List Nat) : Nat := fop .quo .f32 (sumF .add .f32 0 zs) (floatOfInt .f32 (zs.length : Int))
def numR (v : Nat) : Nat × Bool := if finB .f32 v = true then (v, true) else (0, false)
def meanR (W H : Int) (zs : List Nat) : Nat × Bool := if validB W H zs = true then numR (meanV zs) else (0, false)
theorem mean_len {W H : Int} {zs : List Nat} (h : validB W H zs = true) : zs.length ≤ 256 := by
  simp only [validB, Bool.and_eq_true, decide_eq_true_eq] at h
  obtain ⟨⟨h1, h2⟩, h3⟩ := h
  have := side_mul h1
  omega
theorem pick00 : pick .f32 0 0 = 0 := pick_not (show isN .f32 0 = false from by decide +kernel) 0
/-! ### colDefs -/
def colB (r g b : Nat) : Bool := finB .f32 r && (finB .f32 g && finB .f32 b)
def greyV (r g b : Nat) : Nat := fop .add .f32 (fop .add .f32 (fop .mul .f32 1046066128 r) (fop .mul .f32 1060575065 g)) (fop .mul .f32 1033100696 b)
def greyR (r g b : Nat) : Nat × Bool := if colB r g b = true then numR (greyV r g b) else (0, false)
theorem retF1no {w : World} {e : Ending} {w' : World} (h : e = .returned (.tuple #[.float .f32 0, .bool false])) (hw : Below w.heap.size w w') : RetF1 (0, false) w e w' := ⟨0, by rw [h]; simp only [pick00], hw⟩
theorem fin3 (a b c n m l : Nat) : finL [pick .f32 a n, pick .f32 b m, pick .f32 c l] = colB a b c := by simp [finL, finB_pick, colB]
/-! ### matDefs -/
def fin9 (z : List Nat) : Bool := finB .f32 (fat z 0) && finB .f32 (fat z 1) && finB .f32 (fat z 2) && finB .f32 (fat z 3) && finB .f32 (fat z 4) && finB .f32 (fat z 5) && finB .f32 (fat z 6) && finB .f32 (fat z 7) && finB .f32 (fat z 8)
def matB (zs : List Nat) : Bool := decide (zs.length = 9) && finL zs
theorem fin9_eq {zs : List Nat} (h : zs.length = 9) : fin9 zs = finL zs := by
  obtain ⟨a0, a1, a2, a3, a4, a5, a6, a7, a8, rfl⟩ : ∃ a0 a1 a2 a3 a4 a5 a6 a7 a8, zs = [a0, a1, a2, a3, a4, a5, a6, a7, a8] := by
    match zs, h with
    | [a0, a1, a2, a3, a4, a5, a6, a7, a8], _ => exact ⟨a0, a1, a2, a3, a4, a5, a6, a7, a8, rfl⟩
  simp [fin9, finL, fat, Bool.and_assoc]
/-! ### tcDefs -/
def turnV (x y z r g b : Nat) : Nat := fop .add .f32 (fop .add .f32 (fop .mul .f32 x r) (fop .mul .f32 y g)) (fop .mul .f32 z b)
def turn3 (z : List Nat) (r g b : Nat) : Nat × Nat × Nat := (turnV (fat z 0) (fat z 1) (fat z 2) r g b, turnV (fat z 3) (fat z 4) (fat z 5) r g b, turnV (fat z 6) (fat z 7) (fat z 8) r g b)
def turnC (zs : List Nat) (r g b : Nat) : (Nat × Nat × Nat) × Bool := if (matB zs && colB r g b && colB (turn3 zs r g b).1 (turn3 zs r g b).2.1 (turn3 zs r g b).2.2) = true then (turn3 zs r g b, true) else ((0, 0, 0), false)
/-- Of a color; of a color and a bool. -/
def ColR (t : Nat × Nat × Nat) (w : World) (e : Ending) (w' : World) : Prop := ∃ n m k, e = .returned (.agg #[.float .f32 (pick .f32 t.1 n), .float .f32 (pick .f32 t.2.1 m), .float .f32 (pick .f32 t.2.2 k)]) ∧ Below w.heap.size w w'
def ColB2 (t : (Nat × Nat × Nat) × Bool) (w : World) (e : Ending) (w' : World) : Prop := ∃ n m k, e = .returned (.tuple #[.agg #[.float .f32 (pick .f32 t.1.1 n), .float .f32 (pick .f32 t.1.2.1 m), .float .f32 (pick .f32 t.1.2.2 k)], .bool t.2]) ∧ Below w.heap.size w w'
theorem ColB2.no {w : World} {e : Ending} {w' : World} (h : e = .returned (.tuple #[.agg #[.float .f32 0, .float .f32 0, .float .f32 0], .bool false])) (b : Below w.heap.size w w') : ColB2 ((0, 0, 0), false) w e w' := ⟨0, 0, 0, by rw [h]; simp only [pick00], b⟩
theorem turnV_lt (x y z r g b : Nat) : turnV x y z r g b < 2 ^ FloatKind.f32.format.width := fop_lt _ _ _ _
/-! ### l05Turn -/
theorem c_l05Turn (zs : List Nat) (a : Option Addr) (c : Nat) (r nr g ng b nb : Nat) (w : World) (hr : IsRowF .f32 w a zs.length c zs) (h9 : zs.length = 9) : Calls Try.prog 62 #[.slice a zs.length c, .agg #[.float .f32 (pick .f32 r nr), .float .f32 (pick .f32 g ng), .float .f32 (pick .f32 b nb)]] w (ColR (turn3 zs r g b) w) := by
  generalize hw0 : (w.alloc (Obj.cells #[.float .f32 (pick .f32 r nr), .float .f32 (pick .f32 g ng), .float .f32 (pick .f32 b nb)] 26)).alloc (Obj.cells #[.float .f32 0, .float .f32 0, .float .f32 0] 26) = w0
  have X0 : Var w0 w.heap.size #[.float .f32 (pick .f32 r nr), .float .f32 (pick .f32 g ng), .float .f32 (pick .f32 b nb)] := by subst hw0; exact (Var.new _ _ _).alloc _
  have X1 : Var w0 (w.heap.size + 1) #[.float .f32 0, .float .f32 0, .float .f32 0] := by subst hw0; exact Var.new' _ _ _ _ (by simp)
  have X2 : Free w0 (w.heap.size + 1) := by subst hw0; exact Free.new' _ _ _ _ (by simp)
  have X3 : Below w.heap.size w w0 := by subst hw0; exact ((Below.refl _ _).alloc (Nat.le_refl _) _).alloc (by simp) _
  have HW := Lib.hid hw0
  have V0 := Lib.hid X0
  have V1 := Lib.hid X1
  have F1 := Lib.hid X2
  have B0 := Lib.hid X3
  have z0 : w.heap.size + 1 < w0.heap.size := X1.lt
  have hR := hr.below X3
  obtain ⟨bb, off, n0, rfl, hb, e0⟩ := hR.at (k := 0) (by omega)
  obtain ⟨b1, o1, n1, hab1, hb1, e1⟩ := hR.at (k := 1) (by omega)
  cases hab1
  obtain ⟨b2, o2, n2, hab2, hb2, e2⟩ := hR.at (k := 2) (by omega)
  cases hab2
  obtain ⟨b3, o3, n3, hab3, hb3, e3⟩ := hR.at (k := 3) (by omega)
  cases hab3
  obtain ⟨b4, o4, n4, hab4, hb4, e4⟩ := hR.at (k := 4) (by omega)
  cases hab4
  obtain ⟨b5, o5, n5, hab5, hb5, e5⟩ := hR.at (k := 5) (by omega)
  cases hab5
  obtain ⟨b6, o6, n6, hab6, hb6, e6⟩ := hR.at (k := 6) (by omega)
  cases hab6
  obtain ⟨b7, o7, n7, hab7, hb7, e7⟩ := hR.at (k := 7) (by omega)
  cases hab7
  obtain ⟨b8, o8, n8, hab8, hb8, e8⟩ := hR.at (k := 8) (by omega)
  cases hab8
  simp only [Nat.add_zero] at e0
  rw [h9]
  have hcap : 9 ≤ c := by have := hR.2.1; omega
  have KS := Lib.hid (fun (w' : World) (hE : Below w0.heap.size w0 w') => (⟨(hE.cell (p := ⟨bb, off, none⟩) hb).trans e0, (hE.cell (p := ⟨bb, off + 1, none⟩) hb).trans e1, (hE.cell (p := ⟨bb, off + 2, none⟩) hb).trans e2, (hE.cell (p := ⟨bb, off + 3, none⟩) hb).trans e3, (hE.cell (p := ⟨bb, off + 4, none⟩) hb).trans e4, (hE.cell (p := ⟨bb, off + 5, none⟩) hb).trans e5, (hE.cell (p := ⟨bb, off + 6, none⟩) hb).trans e6, (hE.cell (p := ⟨bb, off + 7, none⟩) hb).trans e7, (hE.cell (p := ⟨bb, off + 8, none⟩) hb).trans e8, (V0.out.keep hE).three⟩ : w'.cell? ⟨bb, off, none⟩ = some (.float .f32 (pick .f32 (fat zs 0) n0)) ∧ w'.cell? ⟨bb, off + 1, none⟩ = some (.float .f32 (pick .f32 (fat zs 1) n1)) ∧ w'.cell? ⟨bb, off + 2, none⟩ = some (.float .f32 (pick .f32 (fat zs 2) n2)) ∧ w'.cell? ⟨bb, off + 3, none⟩ = some (.float .f32 (pick .f32 (fat zs 3) n3)) ∧ w'.cell? ⟨bb, off + 4, none⟩ = some (.float .f32 (pick .f32 (fat zs 4) n4)) ∧ w'.cell? ⟨bb, off + 5, none⟩ = some (.float .f32 (pick .f32 (fat zs 5) n5)) ∧ w'.cell? ⟨bb, off + 6, none⟩ = some (.float .f32 (pick .f32 (fat zs 6) n6)) ∧ w'.cell? ⟨bb, off + 7, none⟩ = some (.float .f32 (pick .f32 (fat zs 7) n7)) ∧ w'.cell? ⟨bb, off + 8, none⟩ = some (.float .f32 (pick .f32 (fat zs 8) n8)) ∧ _))
  clear hw0 X0 X1 X2 X3 hr hR hb h9 e0 e1 e2 e3 e4 e5 e6 e7 e8 hb1 hb2 hb3 hb4 hb5 hb6 hb7 hb8
  unfold ColR turn3 turnV
  go_enter Try.func62, Try.ntmps62
  go_wp2_with fail
  rw [HW.out]
  refine wp_region_facts 60 (fun a b => Below a.heap.size a b) (fun _ => Below.refl _ _) (fun _ _ _ h h' => h.trans (h'.mono h.size)) (Below.refl _ _).drew (by kernel_rfl) (by kernel_rfl) (by kernel_rfl) (by kernel_rfl) ?_
  simp only [List.take_succ_cons, List.take_zero, List.drop_succ_cons, List.drop_zero]
  (with_reducible apply wpF_val); (focus (intro vs w' hE hk; (obtain ⟨s0, s1, s2, s3, s4, s5, s6, s7, s8, c0, c1, c2⟩ := KS.out w' hE); go_simp; exact ⟨Below.refl _ _, rfl⟩)); (simp only [Act.put, List.setIfInBounds_toArray, List.set_cons_zero, List.set_cons_succ, List.cons_append, List.nil_append])
  (with_reducible apply wpF_val); (focus (intro vs w' hE hk; (obtain ⟨s0, s1, s2, s3, s4, s5, s6, s7, s8, c0, c1, c2⟩ := KS.out w' hE); go_simp; exact ⟨Below.refl _ _, rfl⟩)); (simp only [Act.put, List.setIfInBounds_toArray, List.set_cons_zero, List.set_cons_succ, List.cons_append, List.nil_append])
  (with_reducible apply wpF_val); (focus (intro vs w' hE hk; (obtain ⟨s0, s1, s2, s3, s4, s5, s6, s7, s8, c0, c1, c2⟩ := KS.out w' hE); go_simp; exact ⟨Below.refl _ _, rfl⟩)); (simp only [Act.put, List.setIfInBounds_toArray, List.set_cons_zero, List.set_cons_succ, List.cons_append, List.nil_append])
  (with_reducible apply wpF_val); (focus (intro vs w' hE hk; (obtain ⟨s0, s1, s2, s3, s4, s5, s6, s7, s8, c0, c1, c2⟩ := KS.out w' hE); go_simp; exact ⟨Below.refl _ _, rfl⟩)); (simp only [Act.put, List.setIfInBounds_toArray, List.set_cons_zero, List.set_cons_succ, List.cons_append, List.nil_append])
  (with_reducible apply wpF_val); (focus (intro vs w' hE hk; (obtain ⟨s0, s1, s2, s3, s4, s5, s6, s7, s8, c0, c1, c2⟩ := KS.out w' hE); go_simp; exact ⟨Below.refl _ _, rfl⟩)); (simp only [Act.put, List.setIfInBounds_toArray, List.set_cons_zero, List.set_cons_succ, List.cons_append, List.nil_append])
  refine wpF_fact (fun u _ => ∃ m, u = .float .f32 (pick .f32 (fop .mul .f32 (fat zs 0) r) m)) (fun _ _ _ h _ => h) (fun vs w' hE hk => ?_) ?_; (focus (rw [if_pos (by rfl)]; refine uponW_fop _ _ _ _ _ rfl .f32 _ _ rfl rfl (by decide) (fun n' m' => ⟨below_drewN (Below.refl _ _) _, n', by simp only [fop_pick_l, fop_pick_r]⟩))); (simp only [Act.put, List.setIfInBounds_toArray, List.set_cons_zero, List.set_cons_succ, List.cons_append, List.nil_append])
  (with_reducible apply wpF_val); (focus (intro vs w' hE hk; (obtain ⟨s0, s1, s2, s3, s4, s5, s6, s7, s8, c0, c1, c2⟩ := KS.out w' hE); go_simp; exact ⟨Below.refl _ _, rfl⟩)); (simp only [Act.put, List.setIfInBounds_toArray, List.set_cons_zero, List.set_cons_succ, List.cons_append, List.nil_append])
  (with_reducible apply wpF_val); (focus (intro vs w' hE hk; (obtain ⟨s0, s1, s2, s3, s4, s5, s6, s7, s8, c0, c1, c2⟩ := KS.out w' hE); go_simp; exact ⟨Below.refl _ _, rfl⟩)); (simp only [Act.put, List.setIfInBounds_toArray, List.set_cons_zero, List.set_cons_succ, List.cons_append, List.nil_append])
  (with_reducible apply wpF_val); (focus (intro vs w' hE hk; (obtain ⟨s0, s1, s2, s3, s4, s5, s6, s7, s8, c0, c1, c2⟩ := KS.out w' hE); go_simp; exact ⟨Below.refl _ _, rfl⟩)); (simp only [Act.put, List.setIfInBounds_toArray, List.set_cons_zero, List.set_cons_succ, List.cons_append, List.nil_append])
  (with_reducible apply wpF_val); (focus (intro vs w' hE hk; (obtain ⟨s0, s1, s2, s3, s4, s5, s6, s7, s8, c0, c1, c2⟩ := KS.out w' hE); go_simp; exact ⟨Below.refl _ _, rfl⟩)); (simp only [Act.put, List.setIfInBounds_toArray, List.set_cons_zero, List.set_cons_succ, List.cons_append, List.nil_append])
  (with_reducible apply wpF_val); (focus (intro vs w' hE hk; (obtain ⟨s0, s1, s2, s3, s4, s5, s6, s7, s8, c0, c1, c2⟩ := KS.out w' hE); go_simp; exact ⟨Below.refl _ _, rfl⟩)); (simp only [Act.put, List.setIfInBounds_toArray, List.set_cons_zero, List.set_cons_succ, List.cons_append, List.nil_append])
  refine wpF_fact (fun u _ => ∃ m, u = .float .f32 (pick .f32 (fop .mul .f32 (fat zs 1) g) m)) (fun _ _ _ h _ => h) (fun vs w' hE hk => ?_) ?_; (focus (rw [if_pos (by rfl)]; refine uponW_fop _ _ _ _ _ rfl .f32 _ _ rfl rfl (by decide) (fun n' m' => ⟨below_drewN (Below.refl _ _) _, n', by simp only [fop_pick_l, fop_pick_r]⟩))); (simp only [Act.put, List.setIfInBounds_toArray, List.set_cons_zero, List.set_cons_succ, List.cons_append, List.nil_append])
  refine wpF_fact (fun u _ => ∃ m, u = .float .f32 (pick .f32 (fop .add .f32 (fop .mul .f32 (fat zs 0) r) (fop .mul .f32 (fat zs 1) g)) m)) (fun _ _ _ h _ => h) (fun vs w' hE hk => ?_) ?_; (focus (obtain ⟨n1, hn1⟩ := hk 5 (by kernel_rfl); simp only [hn1]; obtain ⟨n2, hn2⟩ := hk 11 (by kernel_rfl); simp only [hn2]; rw [if_pos (by rfl)]; refine uponW_fop _ _ _ _ _ rfl .f32 _ _ rfl rfl (by decide) (fun n' m' => ⟨below_drewN (Below.refl _ _) _, n', by simp only [fop_pick_l, fop_pick_r]⟩))); (simp only [Act.put, List.setIfInBounds_toArray, List.set_cons_zero, List.set_cons_succ, List.cons_append, List.nil_append])
  (with_reducible apply wpF_val); (focus (intro vs w' hE hk; (obtain ⟨s0, s1, s2, s3, s4, s5, s6, s7, s8, c0, c1, c2⟩ := KS.out w' hE); go_simp; exact ⟨Below.refl _ _, rfl⟩)); (simp only [Act.put, List.setIfInBounds_toArray, List.set_cons_zero, List.set_cons_succ, List.cons_append, List.nil_append])
  (with_reducible apply wpF_val); (focus (intro vs w' hE hk; (obtain ⟨s0, s1, s2, s3, s4, s5, s6, s7, s8, c0, c1, c2⟩ := KS.out w' hE); go_simp; exact ⟨Below.refl _ _, rfl⟩)); (simp only [Act.put, List.setIfInBounds_toArray, List.set_cons_zero, List.set_cons_succ, List.cons_append, List.nil_append])
  (with_reducible apply wpF_val); (focus (intro vs w' hE hk; (obtain ⟨s0, s1, s2, s3, s4, s5, s6, s7, s8, c0, c1, c2⟩ := KS.out w' hE); go_simp; exact ⟨Below.refl _ _, rfl⟩)); (simp only [Act.put, List.setIfInBounds_toArray, List.set_cons_zero, List.set_cons_succ, List.cons_append, List.nil_append])
  (with_reducible apply wpF_val); (focus (intro vs w' hE hk; (obtain ⟨s0, s1, s2, s3, s4, s5, s6, s7, s8, c0, c1, c2⟩ := KS.out w' hE); go_simp; exact ⟨Below.refl _ _, rfl⟩)); (simp only [Act.put, List.setIfInBounds_toArray, List.set_cons_zero, List.set_cons_succ, List.cons_append, List.nil_append])
  (with_reducible apply wpF_val); (focus (intro vs w' hE hk; (obtain ⟨s0, s1, s2, s3, s4, s5, s6, s7, s8, c0, c1, c2⟩ := KS.out w' hE); go_simp; exact ⟨Below.refl _ _, rfl⟩)); (simp only [Act.put, List.setIfInBounds_toArray, List.set_cons_zero, List.set_cons_succ, List.cons_append, List.nil_append])
  refine wpF_fact (fun u _ => ∃ m, u = .float .f32 (pick .f32 (fop .mul .f32 (fat zs 2) b) m)) (fun _ _ _ h _ => h) (fun vs w' hE hk => ?_) ?_; (focus (rw [if_pos (by rfl)]; refine uponW_fop _ _ _ _ _ rfl .f32 _ _ rfl rfl (by decide) (fun n' m' => ⟨below_drewN (Below.refl _ _) _, n', by simp only [fop_pick_l, fop_pick_r]⟩))); (simp only [Act.put, List.setIfInBounds_toArray, List.set_cons_zero, List.set_cons_succ, List.cons_append, List.nil_append])
  refine wpF_fact (fun u _ => ∃ m, u = .float .f32 (pick .f32 (fop .add .f32 (fop .add .f32 (fop .mul .f32 (fat zs 0) r) (fop .mul .f32 (fat zs 1) g)) (fop .mul .f32 (fat zs 2) b)) m)) (fun _ _ _ h _ => h) (fun vs w' hE hk => ?_) ?_; (focus (obtain ⟨n1, hn1⟩ := hk 12 (by kernel_rfl); simp only [hn1]; obtain ⟨n2, hn2⟩ := hk 18 (by kernel_rfl); simp only [hn2]; rw [if_pos (by rfl)]; refine uponW_fop _ _ _ _ _ rfl .f32 _ _ rfl rfl (by decide) (fun n' m' => ⟨below_drewN (Below.refl _ _) _, n', by simp only [fop_pick_l, fop_pick_r]⟩))); (simp only [Act.put, List.setIfInBounds_toArray, List.set_cons_zero, List.set_cons_succ, List.cons_append, List.nil_append])
  (with_reducible apply wpF_val); (focus (intro vs w' hE hk; (obtain ⟨s0, s1, s2, s3, s4, s5, s6, s7, s8, c0, c1, c2⟩ := KS.out w' hE); go_simp; exact ⟨Below.refl _ _, rfl⟩)); (simp only [Act.put, List.setIfInBounds_toArray, List.set_cons_zero, List.set_cons_succ, List.cons_append, List.nil_append])
  (with_reducible apply wpF_val); (focus (intro vs w' hE hk; (obtain ⟨s0, s1, s2, s3, s4, s5, s6, s7, s8, c0, c1, c2⟩ := KS.out w' hE); go_simp; exact ⟨Below.refl _ _, rfl⟩)); (simp only [Act.put, List.setIfInBounds_toArray, List.set_cons_zero, List.set_cons_succ, List.cons_append, List.nil_append])
  (with_reducible apply wpF_val); (focus (intro vs w' hE hk; (obtain ⟨s0, s1, s2, s3, s4, s5, s6, s7, s8, c0, c1, c2⟩ := KS.out w' hE); go_simp; exact ⟨Below.refl _ _, rfl⟩)); (simp only [Act.put, List.setIfInBounds_toArray, List.set_cons_zero, List.set_cons_succ, List.cons_append, List.nil_append])
  (with_reducible apply wpF_val); (focus (intro vs w' hE hk; (obtain ⟨s0, s1, s2, s3, s4, s5, s6, s7, s8, c0, c1, c2⟩ := KS.out w' hE); go_simp; exact ⟨Below.refl _ _, rfl⟩)); (simp only [Act.put, List.setIfInBounds_toArray, List.set_cons_zero, List.set_cons_succ, List.cons_append, List.nil_append])
  (with_reducible apply wpF_val); (focus (intro vs w' hE hk; (obtain ⟨s0, s1, s2, s3, s4, s5, s6, s7, s8, c0, c1, c2⟩ := KS.out w' hE); go_simp; exact ⟨Below.refl _ _, rfl⟩)); (simp only [Act.put, List.setIfInBounds_toArray, List.set_cons_zero, List.set_cons_succ, List.cons_append, List.nil_append])
  refine wpF_fact (fun u _ => ∃ m, u = .float .f32 (pick .f32 (fop .mul .f32 (fat zs 3) r) m)) (fun _ _ _ h _ => h) (fun vs w' hE hk => ?_) ?_; (focus (rw [if_pos (by rfl)]; refine uponW_fop _ _ _ _ _ rfl .f32 _ _ rfl rfl (by decide) (fun n' m' => ⟨below_drewN (Below.refl _ _) _, n', by simp only [fop_pick_l, fop_pick_r]⟩))); (simp only [Act.put, List.setIfInBounds_toArray, List.set_cons_zero, List.set_cons_succ, List.cons_append, List.nil_append])
  (with_reducible apply wpF_val); (focus (intro vs w' hE hk; (obtain ⟨s0, s1, s2, s3, s4, s5, s6, s7, s8, c0, c1, c2⟩ := KS.out w' hE); go_simp; exact ⟨Below.refl _ _, rfl⟩)); (simp only [Act.put, List.setIfInBounds_toArray, List.set_cons_zero, List.set_cons_succ, List.cons_append, List.nil_append])
  (with_reducible apply wpF_val); (focus (intro vs w' hE hk; (obtain ⟨s0, s1, s2, s3, s4, s5, s6, s7, s8, c0, c1, c2⟩ := KS.out w' hE); go_simp; exact ⟨Below.refl _ _, rfl⟩)); (simp only [Act.put, List.setIfInBounds_toArray, List.set_cons_zero, List.set_cons_succ, List.cons_append, List.nil_append])
  (with_reducible apply wpF_val); (focus (intro vs w' hE hk; (obtain ⟨s0, s1, s2, s3, s4, s5, s6, s7, s8, c0, c1, c2⟩ := KS.out w' hE); go_simp; exact ⟨Below.refl _ _, rfl⟩)); (simp only [Act.put, List.setIfInBounds_toArray, List.set_cons_zero, List.set_cons_succ, List.cons_append, List.nil_append])
  (with_reducible apply wpF_val); (focus (intro vs w' hE hk; (obtain ⟨s0, s1, s2, s3, s4, s5, s6, s7, s8, c0, c1, c2⟩ := KS.out w' hE); go_simp; exact ⟨Below.refl _ _, rfl⟩)); (simp only [Act.put, List.setIfInBounds_toArray, List.set_cons_zero, List.set_cons_succ, List.cons_append, List.nil_append])
  (with_reducible apply wpF_val); (focus (intro vs w' hE hk; (obtain ⟨s0, s1, s2, s3, s4, s5, s6, s7, s8, c0, c1, c2⟩ := KS.out w' hE); go_simp; exact ⟨Below.refl _ _, rfl⟩)); (simp only [Act.put, List.setIfInBounds_toArray, List.set_cons_zero, List.set_cons_succ, List.cons_append, List.nil_append])
  refine wpF_fact (fun u _ => ∃ m, u = .float .f32 (pick .f32 (fop .mul .f32 (fat zs 4) g) m)) (fun _ _ _ h _ => h) (fun vs w' hE hk => ?_) ?_; (focus (rw [if_pos (by rfl)]; refine uponW_fop _ _ _ _ _ rfl .f32 _ _ rfl rfl (by decide) (fun n' m' => ⟨below_drewN (Below.refl _ _) _, n', by simp only [fop_pick_l, fop_pick_r]⟩))); (simp only [Act.put, List.setIfInBounds_toArray, List.set_cons_zero, List.set_cons_succ, List.cons_append, List.nil_append])
  refine wpF_fact (fun u _ => ∃ m, u = .float .f32 (pick .f32 (fop .add .f32 (fop .mul .f32 (fat zs 3) r) (fop .mul .f32 (fat zs 4) g)) m)) (fun _ _ _ h _ => h) (fun vs w' hE hk => ?_) ?_; (focus (obtain ⟨n1, hn1⟩ := hk 25 (by kernel_rfl); simp only [hn1]; obtain ⟨n2, hn2⟩ := hk 31 (by kernel_rfl); simp only [hn2]; rw [if_pos (by rfl)]; refine uponW_fop _ _ _ _ _ rfl .f32 _ _ rfl rfl (by decide) (fun n' m' => ⟨below_drewN (Below.refl _ _) _, n', by simp only [fop_pick_l, fop_pick_r]⟩))); (simp only [Act.put, List.setIfInBounds_toArray, List.set_cons_zero, List.set_cons_succ, List.cons_append, List.nil_append])
  (with_reducible apply wpF_val); (focus (intro vs w' hE hk; (obtain ⟨s0, s1, s2, s3, s4, s5, s6, s7, s8, c0, c1, c2⟩ := KS.out w' hE); go_simp; exact ⟨Below.refl _ _, rfl⟩)); (simp only [Act.put, List.setIfInBounds_toArray, List.set_cons_zero, List.set_cons_succ, List.cons_append, List.nil_append])
  (with_reducible apply wpF_val); (focus (intro vs w' hE hk; (obtain ⟨s0, s1, s2, s3, s4, s5, s6, s7, s8, c0, c1, c2⟩ := KS.out w' hE); go_simp; exact ⟨Below.refl _ _, rfl⟩)); (simp only [Act.put, List.setIfInBounds_toArray, List.set_cons_zero, List.set_cons_succ, List.cons_append, List.nil_append])
  (with_reducible apply wpF_val); (focus (intro vs w' hE hk; (obtain ⟨s0, s1, s2, s3, s4, s5, s6, s7, s8, c0, c1, c2⟩ := KS.out w' hE); go_simp; exact ⟨Below.refl _ _, rfl⟩)); (simp only [Act.put, List.setIfInBounds_toArray, List.set_cons_zero, List.set_cons_succ, List.cons_append, List.nil_append])
  (with_reducible apply wpF_val); (focus (intro vs w' hE hk; (obtain ⟨s0, s1, s2, s3, s4, s5, s6, s7, s8, c0, c1, c2⟩ := KS.out w' hE); go_simp; exact ⟨Below.refl _ _, rfl⟩)); (simp only [Act.put, List.setIfInBounds_toArray, List.set_cons_zero, List.set_cons_succ, List.cons_append, List.nil_append])
  (with_reducible apply wpF_val); (focus (intro vs w' hE hk; (obtain ⟨s0, s1, s2, s3, s4, s5, s6, s7, s8, c0, c1, c2⟩ := KS.out w' hE); go_simp; exact ⟨Below.refl _ _, rfl⟩)); (simp only [Act.put, List.setIfInBounds_toArray, List.set_cons_zero, List.set_cons_succ, List.cons_append, List.nil_append])
  refine wpF_fact (fun u _ => ∃ m, u = .float .f32 (pick .f32 (fop .mul .f32 (fat zs 5) b) m)) (fun _ _ _ h _ => h) (fun vs w' hE hk => ?_) ?_; (focus (rw [if_pos (by rfl)]; refine uponW_fop _ _ _ _ _ rfl .f32 _ _ rfl rfl (by decide) (fun n' m' => ⟨below_drewN (Below.refl _ _) _, n', by simp only [fop_pick_l, fop_pick_r]⟩))); (simp only [Act.put, List.setIfInBounds_toArray, List.set_cons_zero, List.set_cons_succ, List.cons_append, List.nil_append])
  refine wpF_fact (fun u _ => ∃ m, u = .float .f32 (pick .f32 (fop .add .f32 (fop .add .f32 (fop .mul .f32 (fat zs 3) r) (fop .mul .f32 (fat zs 4) g)) (fop .mul .f32 (fat zs 5) b)) m)) (fun _ _ _ h _ => h) (fun vs w' hE hk => ?_) ?_; (focus (obtain ⟨n1, hn1⟩ := hk 32 (by kernel_rfl); simp only [hn1]; obtain ⟨n2, hn2⟩ := hk 38 (by kernel_rfl); simp only [hn2]; rw [if_pos (by rfl)]; refine uponW_fop _ _ _ _ _ rfl .f32 _ _ rfl rfl (by decide) (fun n' m' => ⟨below_drewN (Below.refl _ _) _, n', by simp only [fop_pick_l, fop_pick_r]⟩))); (simp only [Act.put, List.setIfInBounds_toArray, List.set_cons_zero, List.set_cons_succ, List.cons_append, List.nil_append])
  (with_reducible apply wpF_val); (focus (intro vs w' hE hk; (obtain ⟨s0, s1, s2, s3, s4, s5, s6, s7, s8, c0, c1, c2⟩ := KS.out w' hE); go_simp; exact ⟨Below.refl _ _, rfl⟩)); (simp only [Act.put, List.setIfInBounds_toArray, List.set_cons_zero, List.set_cons_succ, List.cons_append, List.nil_append])
  (with_reducible apply wpF_val); (focus (intro vs w' hE hk; (obtain ⟨s0, s1, s2, s3, s4, s5, s6, s7, s8, c0, c1, c2⟩ := KS.out w' hE); go_simp; exact ⟨Below.refl _ _, rfl⟩)); (simp only [Act.put, List.setIfInBounds_toArray, List.set_cons_zero, List.set_cons_succ, List.cons_append, List.nil_append])
  (with_reducible apply wpF_val); (focus (intro vs w' hE hk; (obtain ⟨s0, s1, s2, s3, s4, s5, s6, s7, s8, c0, c1, c2⟩ := KS.out w' hE); go_simp; exact ⟨Below.refl _ _, rfl⟩)); (simp only [Act.put, List.setIfInBounds_toArray, List.set_cons_zero, List.set_cons_succ, List.cons_append, List.nil_append])
  (with_reducible apply wpF_val); (focus (intro vs w' hE hk; (obtain ⟨s0, s1, s2, s3, s4, s5, s6, s7, s8, c0, c1, c2⟩ := KS.out w' hE); go_simp; exact ⟨Below.refl _ _, rfl⟩)); (simp only [Act.put, List.setIfInBounds_toArray, List.set_cons_zero, List.set_cons_succ, List.cons_append, List.nil_append])
  (with_reducible apply wpF_val); (focus (intro vs w' hE hk; (obtain ⟨s0, s1, s2, s3, s4, s5, s6, s7, s8, c0, c1, c2⟩ := KS.out w' hE); go_simp; exact ⟨Below.refl _ _, rfl⟩)); (simp only [Act.put, List.setIfInBounds_toArray, List.set_cons_zero, List.set_cons_succ, List.cons_append, List.nil_append])
  refine wpF_fact (fun u _ => ∃ m, u = .float .f32 (pick .f32 (fop .mul .f32 (fat zs 6) r) m)) (fun _ _ _ h _ => h) (fun vs w' hE hk => ?_) ?_; (focus (rw [if_pos (by rfl)]; refine uponW_fop _ _ _ _ _ rfl .f32 _ _ rfl rfl (by decide) (fun n' m' => ⟨below_drewN (Below.refl _ _) _, n', by simp only [fop_pick_l, fop_pick_r]⟩))); (simp only [Act.put, List.setIfInBounds_toArray, List.set_cons_zero, List.set_cons_succ, List.cons_append, List.nil_append])
  (with_reducible apply wpF_val); (focus (intro vs w' hE hk; (obtain ⟨s0, s1, s2, s3, s4, s5, s6, s7, s8, c0, c1, c2⟩ := KS.out w' hE); go_simp; exact ⟨Below.refl _ _, rfl⟩)); (simp only [Act.put, List.setIfInBounds_toArray, List.set_cons_zero, List.set_cons_succ, List.cons_append, List.nil_append])
  (with_reducible apply wpF_val); (focus (intro vs w' hE hk; (obtain ⟨s0, s1, s2, s3, s4, s5, s6, s7, s8, c0, c1, c2⟩ := KS.out w' hE); go_simp; exact ⟨Below.refl _ _, rfl⟩)); (simp only [Act.put, List.setIfInBounds_toArray, List.set_cons_zero, List.set_cons_succ, List.cons_append, List.nil_append])
  (with_reducible apply wpF_val); (focus (intro vs w' hE hk; (obtain ⟨s0, s1, s2, s3, s4, s5, s6, s7, s8, c0, c1, c2⟩ := KS.out w' hE); go_simp; exact ⟨Below.refl _ _, rfl⟩)); (simp only [Act.put, List.setIfInBounds_toArray, List.set_cons_zero, List.set_cons_succ, List.cons_append, List.nil_append])
  (with_reducible apply wpF_val); (focus (intro vs w' hE hk; (obtain ⟨s0, s1, s2, s3, s4, s5, s6, s7, s8, c0, c1, c2⟩ := KS.out w' hE); go_simp; exact ⟨Below.refl _ _, rfl⟩)); (simp only [Act.put, List.setIfInBounds_toArray, List.set_cons_zero, List.set_cons_succ, List.cons_append, List.nil_append])
  (with_reducible apply wpF_val); (focus (intro vs w' hE hk; (obtain ⟨s0, s1, s2, s3, s4, s5, s6, s7, s8, c0, c1, c2⟩ := KS.out w' hE); go_simp; exact ⟨Below.refl _ _, rfl⟩)); (simp only [Act.put, List.setIfInBounds_toArray, List.set_cons_zero, List.set_cons_succ, List.cons_append, List.nil_append])
  refine wpF_fact (fun u _ => ∃ m, u = .float .f32 (pick .f32 (fop .mul .f32 (fat zs 7) g) m)) (fun _ _ _ h _ => h) (fun vs w' hE hk => ?_) ?_; (focus (rw [if_pos (by rfl)]; refine uponW_fop _ _ _ _ _ rfl .f32 _ _ rfl rfl (by decide) (fun n' m' => ⟨below_drewN (Below.refl _ _) _, n', by simp only [fop_pick_l, fop_pick_r]⟩))); (simp only [Act.put, List.setIfInBounds_toArray, List.set_cons_zero, List.set_cons_succ, List.cons_append, List.nil_append])
  refine wpF_fact (fun u _ => ∃ m, u = .float .f32 (pick .f32 (fop .add .f32 (fop .mul .f32 (fat zs 6) r) (fop .mul .f32 (fat zs 7) g)) m)) (fun _ _ _ h _ => h) (fun vs w' hE hk => ?_) ?_; (focus (obtain ⟨n1, hn1⟩ := hk 45 (by kernel_rfl); simp only [hn1]; obtain ⟨n2, hn2⟩ := hk 51 (by kernel_rfl); simp only [hn2]; rw [if_pos (by rfl)]; refine uponW_fop _ _ _ _ _ rfl .f32 _ _ rfl rfl (by decide) (fun n' m' => ⟨below_drewN (Below.refl _ _) _, n', by simp only [fop_pick_l, fop_pick_r]⟩))); (simp only [Act.put, List.setIfInBounds_toArray, List.set_cons_zero, List.set_cons_succ, List.cons_append, List.nil_append])
  (with_reducible apply wpF_val); (focus (intro vs w' hE hk; (obtain ⟨s0, s1, s2, s3, s4, s5, s6, s7, s8, c0, c1, c2⟩ := KS.out w' hE); go_simp; exact ⟨Below.refl _ _, rfl⟩)); (simp only [Act.put, List.setIfInBounds_toArray, List.set_cons_zero, List.set_cons_succ, List.cons_append, List.nil_append])
  (with_reducible apply wpF_val); (focus (intro vs w' hE hk; (obtain ⟨s0, s1, s2, s3, s4, s5, s6, s7, s8, c0, c1, c2⟩ := KS.out w' hE); go_simp; exact ⟨Below.refl _ _, rfl⟩)); (simp only [Act.put, List.setIfInBounds_toArray, List.set_cons_zero, List.set_cons_succ, List.cons_append, List.nil_append])
  (with_reducible apply wpF_val); (focus (intro vs w' hE hk; (obtain ⟨s0, s1, s2, s3, s4, s5, s6, s7, s8, c0, c1, c2⟩ := KS.out w' hE); go_simp; exact ⟨Below.refl _ _, rfl⟩)); (simp only [Act.put, List.setIfInBounds_toArray, List.set_cons_zero, List.set_cons_succ, List.cons_append, List.nil_append])
  (with_reducible apply wpF_val); (focus (intro vs w' hE hk; (obtain ⟨s0, s1, s2, s3, s4, s5, s6, s7, s8, c0, c1, c2⟩ := KS.out w' hE); go_simp; exact ⟨Below.refl _ _, rfl⟩)); (simp only [Act.put, List.setIfInBounds_toArray, List.set_cons_zero, List.set_cons_succ, List.cons_append, List.nil_append])
  (with_reducible apply wpF_val); (focus (intro vs w' hE hk; (obtain ⟨s0, s1, s2, s3, s4, s5, s6, s7, s8, c0, c1, c2⟩ := KS.out w' hE); go_simp; exact ⟨Below.refl _ _, rfl⟩)); (simp only [Act.put, List.setIfInBounds_toArray, List.set_cons_zero, List.set_cons_succ, List.cons_append, List.nil_append])
  refine wpF_fact (fun u _ => ∃ m, u = .float .f32 (pick .f32 (fop .mul .f32 (fat zs 8) b) m)) (fun _ _ _ h _ => h) (fun vs w' hE hk => ?_) ?_; (focus (rw [if_pos (by rfl)]; refine uponW_fop _ _ _ _ _ rfl .f32 _ _ rfl rfl (by decide) (fun n' m' => ⟨below_drewN (Below.refl _ _) _, n', by simp only [fop_pick_l, fop_pick_r]⟩))); (simp only [Act.put, List.setIfInBounds_toArray, List.set_cons_zero, List.set_cons_succ, List.cons_append, List.nil_append])
  refine wpF_fact (fun u _ => ∃ m, u = .float .f32 (pick .f32 (fop .add .f32 (fop .add .f32 (fop .mul .f32 (fat zs 6) r) (fop .mul .f32 (fat zs 7) g)) (fop .mul .f32 (fat zs 8) b)) m)) (fun _ _ _ h _ => h) (fun vs w' hE hk => ?_) ?_; (focus (obtain ⟨n1, hn1⟩ := hk 52 (by kernel_rfl); simp only [hn1]; obtain ⟨n2, hn2⟩ := hk 58 (by kernel_rfl); simp only [hn2]; rw [if_pos (by rfl)]; refine uponW_fop _ _ _ _ _ rfl .f32 _ _ rfl rfl (by decide) (fun n' m' => ⟨below_drewN (Below.refl _ _) _, n', by simp only [fop_pick_l, fop_pick_r]⟩))); (simp only [Act.put, List.setIfInBounds_toArray, List.set_cons_zero, List.set_cons_succ, List.cons_append, List.nil_append])
  refine wpF_nil (fun vs w' hE hk => ?_)
  obtain ⟨k0, h5⟩ := hk 19
  obtain ⟨k1, h6⟩ := hk 39
  obtain ⟨k2, h7⟩ := hk 59
  simp only [h5, h6, h7]
  have BB := Lib.hid (B0.out.trans (hE.mono (by omega)))
  have z3 : w0.heap.size ≤ w'.heap.size := hE.size
  obtain ⟨q0, q1, q2⟩ := (V1.out.keep hE).three
  have fr := F1.out.below z0 hE
  have f0 := fr 0
  have f1 := fr 1
  have f2 := fr 2
  clear hE hk h5 h6 h7 fr
  go_wp2_with fail
  refine bodyPost_ret (v := .agg #[.float .f32 (pick .f32 (fop .add .f32 (fop .add .f32 (fop .mul .f32 (fat zs 0) r) (fop .mul .f32 (fat zs 1) g)) (fop .mul .f32 (fat zs 2) b)) k0), .float .f32 (pick .f32 (fop .add .f32 (fop .add .f32 (fop .mul .f32 (fat zs 3) r) (fop .mul .f32 (fat zs 4) g)) (fop .mul .f32 (fat zs 5) b)) k1), .float .f32 (pick .f32 (fop .add .f32 (fop .add .f32 (fop .mul .f32 (fat zs 6) r) (fop .mul .f32 (fat zs 7) g)) (fop .mul .f32 (fat zs 8) b)) k2)]) (by simp [results, Try.results62, q0, q1, q2, go_sem]) rfl ⟨_, _, _, rfl, ?_⟩
  repeat (first | exact Below.refl _ _ | exact BB.out | exact Nat.le_refl _ | (refine Below.setCell ?_ ?_ _) | (refine below_drewN ?_ _) | (refine Below.alloc ?_ ?_ _) | (simp <;> omega))
/-! ### l01Finite -/
theorem c_l01Finite (v n : Nat) (w : World) (j : Nat) : Calls Try.prog 93 #[.float .f32 (pick .f32 v n)] (w.drewN j) (RetV (.bool (finB .f32 v)) w) := by
  go_enter Try.func93, Try.ntmps93
  go_wp2_with (first | (refine wpList_fop rfl _ _ _ _ _ rfl _ _ _ rfl rfl (by decide) _ ?_; intro _ _) | (refine upon_fop _ _ _ _ _ (by decide) ?_; intro _ _))
  go_ret
  rw [← sub_self_zero]
  exact ⟨_, rfl, rfl⟩
/-! ### l02Finite -/
theorem c_l02Finite (a : Option Addr) (len cap : Nat) (zs : List Nat) (w : World) (j0 : Nat) (hr : IsRowF .f32 w a len cap zs) : Calls Try.prog 66 #[.slice a len cap] (w.drewN j0) (RetV (.bool (finL zs)) w) := by
  obtain ⟨h1, h2, h3, h4, h5⟩ := hr
  unfold maxLen at h3
  have H1 := Lib.hid h1
  clear h1
  go_enter Try.func66, Try.ntmps66
  go_wp2
  go_loopw [3] (fun i wr => ∃ k m : Nat, k ≤ len ∧ i = .int .i64 k ∧ wr = w.drewN m ∧ finL (zs.take k) = true) (fun i _ => len - (intOf i).toNat)
  case atStart => exact ⟨0, j0, Nat.zero_le _, rfl, rfl, rfl⟩
  case round =>
    obtain ⟨k, m, hk, rfl, rfl, hfin⟩ := hrel
    have HFin := Lib.hid hfin
    clear hfin
    by_cases hlt : k < len
    · rcases h5 with h5 | ⟨b, off, rfl, hbl, hc⟩
      · omega
      have hcell : w.cell? ⟨b, off + k, none⟩ = some (.float .f32 (fat zs k)) := hc k hlt
      obtain ⟨n, hn⟩ := pick0 .f32 (fat zs k) (lt_of_wf (h4 _ (by unfold fat; rw [List.getD, List.getElem?_eq_getElem (by have := H1.out; omega)]; exact List.getElem_mem _)))
      rw [hn] at hcell
      have HN := Lib.hid hn
      have HS := Lib.hid (finL_snoc zs k (by have := H1.out; omega))
      cases hf : finB .f32 (fat zs k)
      · have HO := Lib.hid (finL_of zs k (by have := H1.out; omega) hf)
        clear hc h4 hn
        go_wp2_with ((go_at_call 93; refine (c_l01Finite _ _ _ _).mono ?_; rintro _ _ ⟨_, rfl, rfl⟩))
        go_ret
        exact ⟨_, by rw [HO.out]; rfl, rfl⟩
      · have HF := Lib.hid hf
        clear hc h4 hn
        go_wp2_with ((go_at_call 93; refine (c_l01Finite _ _ _ _).mono ?_; rintro _ _ ⟨_, rfl, rfl⟩))
        go_roundw
        case rel => exact ⟨k + 1, _, by omega, by go_num, rfl, by rw [HS.out, HFin.out, HF.out]; rfl⟩
        case measure => simp [intOf]; omega
    · have e : zs.take k = zs := List.take_of_length_le (by have := H1.out; omega)
      have HE := Lib.hid e
      clear h5 h4 e
      go_wp2
      go_ret
      exact ⟨_, by have h := HFin.out; rw [HE.out] at h; rw [h]; rfl, rfl⟩
/-! ### l05Matrix -/
theorem c_l05Matrix (zs : List Nat) (a : Option Addr) (c : Nat) (w : World) (j : Nat) (hr : IsRowF .f32 w a zs.length c zs) : Calls Try.prog 60 #[.slice a zs.length c] (w.drewN j) (RetV (.bool (matB zs)) w) := by
  have CF := Lib.hid (fun j => c_l02Finite a zs.length c zs w j hr)
  have mA : zs.length ≤ maxLen := Nat.le_trans hr.2.1 hr.2.2.1
  unfold maxLen at mA
  clear hr
  unfold matB
  by_cases h9 : zs.length = 9
  · have e : ((zs.length : Int) == 9) = true := by rw [beq_iff_eq]; omega
    rw [decide_eq_true h9, Bool.true_and]
    generalize finL zs = q at *
    clear h9
    go_enter Try.func60, Try.ntmps60
    go_wp2_with ((go_at_call 66; refine (CF.out _).mono ?_; rintro _ _ ⟨_, rfl, rfl⟩))
    go_ret
    exact ⟨_, rfl, rfl⟩
  · have e : ((zs.length : Int) == 9) = false := by rw [beq_eq_false_iff_ne]; omega
    rw [decide_eq_false h9, Bool.false_and]
    clear h9
    go_enter Try.func60, Try.ntmps60
    go_wp2_with fail
    go_ret
    exact ⟨_, rfl, rfl⟩
/-! ### l05Color -/
theorem c_l05Color (r n g m b k x : Nat) (w : World) (j : Nat) (h0 : w.cell? ⟨x, 0, none⟩ = some (.float .f32 (pick .f32 r n))) (h1 : w.cell? ⟨x, 1, none⟩ = some (.float .f32 (pick .f32 g m))) (h2 : w.cell? ⟨x, 2, none⟩ = some (.float .f32 (pick .f32 b k))) : Calls Try.prog 61 #[.pointer (some ⟨x, 0, none⟩)] (w.drewN j) (RetV (.bool (colB r g b)) w) := by
  go_enter Try.func61, Try.ntmps61
  unfold colB
  go_wp2_with ((go_at_call 93; refine (c_l01Finite _ _ _ _).mono ?_; rintro _ _ ⟨_, rfl, rfl⟩))
  all_goals (go_ret; exact ⟨_, by simp [*], rfl⟩)
/-! ### sTurnColor -/
theorem c_sTurnColor (zs : List Nat) (a : Option Addr) (c : Nat) (r nr g ng b nb : Nat) (w : World) (rA : IsRowF .f32 w a zs.length c zs) (hr : r < 2 ^ FloatKind.f32.format.width) (hg : g < 2 ^ FloatKind.f32.format.width) (hb : b < 2 ^ FloatKind.f32.format.width) : Calls Try.prog 15 #[.slice a zs.length c, .agg #[.float .f32 (pick .f32 r nr), .float .f32 (pick .f32 g ng), .float .f32 (pick .f32 b nb)]] w (ColB2 (turnC zs r g b) w) := by
  generalize hw0 : (w.alloc (Obj.cells #[.float .f32 (pick .f32 r nr), .float .f32 (pick .f32 g ng), .float .f32 (pick .f32 b nb)] 26)).alloc (Obj.cells #[.float .f32 0, .float .f32 0, .float .f32 0] 26) = w0
  have X0 : Var w0 w.heap.size #[.float .f32 (pick .f32 r nr), .float .f32 (pick .f32 g ng), .float .f32 (pick .f32 b nb)] := by subst hw0; exact (Var.new _ _ _).alloc _
  have X1 : Var w0 (w.heap.size + 1) #[.float .f32 0, .float .f32 0, .float .f32 0] := by subst hw0; exact Var.new' _ _ _ _ (by simp)
  have X2 : Free w0 (w.heap.size + 1) := by subst hw0; exact Free.new' _ _ _ _ (by simp)
  have X3 : Below w.heap.size w w0 := by subst hw0; exact ((Below.refl _ _).alloc (Nat.le_refl _) _).alloc (by simp) _
  have HW := Lib.hid hw0
  have V0 := Lib.hid X0
  have V1 := Lib.hid X1
  have F1 := Lib.hid X2
  have B0 := Lib.hid X3
  have z0 : w.heap.size + 1 < w0.heap.size := X1.lt
  have R0 := Lib.hid (rA.below X3)
  clear hw0 X0 X1 X2 X3 rA
  obtain ⟨res, hres0⟩ : ∃ q, q = turnC zs r g b := ⟨_, rfl⟩
  rw [← hres0]
  have HR := Lib.hid hres0
  have CM := Lib.hid (fun j => c_l05Matrix zs a c w0 j R0.out)
  have CC := Lib.hid (fun j => c_l05Color r nr g ng b nb _ w0 j V0.out.three.1 V0.out.three.2.1 V0.out.three.2.2)
  have E : ∀ j, Below w0.heap.size w0 (w0.drewN j) := fun j => below_drewN (Below.refl _ _) j
  obtain ⟨c0, c1, c2⟩ := V0.out.three
  clear hres0
  cases hm : matB zs
  all_goals rw [hm] at CM
  · have HQ := Lib.hid (show res = ((0, 0, 0), false) by rw [HR.out]; unfold turnC; rw [hm]; rfl)
    clear hm c0 c1 c2
    obtain ⟨q0, q1, q2⟩ := V1.out.three
    have f0 := F1.out 0
    have f1 := F1.out 1
    have f2 := F1.out 2
    go_enter Try.func15, Try.ntmps15
    go_wp2_with fail
    rw [HW.out, ← w0.drewN_zero]
    go_wp2_with (go_at_call 60; refine (CM.out _).mono ?_; rintro _ _ ⟨_, rfl, rfl⟩)
    refine bodyPost_ret (v := .tuple #[.agg #[.float .f32 0, .float .f32 0, .float .f32 0], .bool false]) (by simp [results, Try.results15, q0, q1, q2, go_sem]) rfl ?_
    rw [HQ.out]
    refine ColB2.no rfl ?_
    repeat (first | exact B0.out | exact Nat.le_refl _ | (refine Below.setCell ?_ ?_ _) | (refine below_drewN ?_ _) | (refine Below.alloc ?_ ?_ _) | (simp <;> omega))
  cases hc : colB r g b
  all_goals rw [hc] at CC
  · have HQ := Lib.hid (show res = ((0, 0, 0), false) by rw [HR.out]; unfold turnC; rw [hm, hc]; rfl)
    clear hm hc c0 c1 c2
    obtain ⟨q0, q1, q2⟩ := V1.out.three
    have f0 := F1.out 0
    have f1 := F1.out 1
    have f2 := F1.out 2
    go_enter Try.func15, Try.ntmps15
    go_wp2_with fail
    rw [HW.out, ← w0.drewN_zero]
    go_wp2_with (first | (go_at_call 60; refine (CM.out _).mono ?_; rintro _ _ ⟨_, rfl, rfl⟩) | (go_at_call 61; refine (CC.out _).mono ?_; rintro _ _ ⟨_, rfl, rfl⟩))
    refine bodyPost_ret (v := .tuple #[.agg #[.float .f32 0, .float .f32 0, .float .f32 0], .bool false]) (by simp [results, Try.results15, q0, q1, q2, go_sem]) rfl ?_
    rw [HQ.out]
    refine ColB2.no rfl ?_
    repeat (first | exact B0.out | exact Nat.le_refl _ | (refine Below.setCell ?_ ?_ _) | (refine below_drewN ?_ _) | (refine Below.alloc ?_ ?_ _) | (simp <;> omega))
  have h9 : zs.length = 9 := by unfold matB at hm; simp only [Bool.and_eq_true, decide_eq_true_eq] at hm; exact hm.1
  obtain ⟨T, hT⟩ : ∃ T, T = turn3 zs r g b := ⟨_, rfl⟩
  have hlt : T.1 < 2 ^ FloatKind.f32.format.width ∧ T.2.1 < 2 ^ FloatKind.f32.format.width ∧ T.2.2 < 2 ^ FloatKind.f32.format.width := by rw [hT]; exact ⟨turnV_lt _ _ _ _ _ _, turnV_lt _ _ _ _ _ _, turnV_lt _ _ _ _ _ _⟩
  have HE := Lib.hid (show res = if colB T.1 T.2.1 T.2.2 = true then (T, true) else ((0, 0, 0), false) by rw [HR.out]; unfold turnC; rw [← hT, hm, hc, Bool.true_and, Bool.true_and])
  have CT := Lib.hid (fun (w1 : World) (hr : IsRowF .f32 w1 a zs.length c zs) => (hT ▸ c_l05Turn zs a c r nr g ng b nb w1 hr h9 : Calls Try.prog 62 #[.slice a zs.length c, .agg #[.float .f32 (pick .f32 r nr), .float .f32 (pick .f32 g ng), .float .f32 (pick .f32 b nb)]] w1 (ColR T w1)))
  clear hm hc hT h9 HR
  obtain ⟨t0, t1, t2⟩ := T
  simp only at hlt HE
  go_enter Try.func15, Try.ntmps15
  go_wp2_with fail
  rw [HW.out, ← w0.drewN_zero]
  go_wp2_with (first | (go_at_call 60; refine (CM.out _).mono ?_; rintro _ _ ⟨_, rfl, rfl⟩) | (go_at_call 61; refine (CC.out _).mono ?_; rintro _ _ ⟨_, rfl, rfl⟩))
  refine (CT.out _ (R0.out.below (E _))).mono ?_
  rintro _ w4 ⟨k0, k1, k2, rfl, b4⟩
  have b4 := (E _).trans (b4.mono (by simp))
  have U4 := Lib.hid (V1.out.keep b4)
  have F4 := Lib.hid (F1.out.below z0 b4)
  have B4 := Lib.hid (B0.out.trans (b4.mono (by omega)))
  have z4 : w0.heap.size ≤ w4.heap.size := b4.size
  generalize hM : w4.alloc (.cells #[.float .f32 (pick .f32 t0 k0), .float .f32 (pick .f32 t1 k1), .float .f32 (pick .f32 t2 k2)] 26) = M
  have VM : Var M w4.heap.size #[.float .f32 (pick .f32 t0 k0), .float .f32 (pick .f32 t1 k1), .float .f32 (pick .f32 t2 k2)] := by subst hM; exact Var.new _ _ _
  have E4 : Below w4.heap.size w4 M := by subst hM; exact (Below.refl _ _).alloc (Nat.le_refl _) _
  have HM := Lib.hid hM
  have U5 := Lib.hid (U4.out.keep E4)
  have F5 := Lib.hid (F4.out.below (by omega) E4)
  have B5 := Lib.hid (B4.out.trans (E4.mono (by omega)))
  have z5 : w4.heap.size < M.heap.size := VM.lt
  have CD := Lib.hid (fun j => c_l05Color t0 k0 t1 k1 t2 k2 _ M j VM.three.1 VM.three.2.1 VM.three.2.2)
  obtain ⟨d0, d1, d2⟩ := VM.three
  obtain ⟨q0, q1, q2⟩ := U5.out.three
  have f0 := F5.out 0
  have f1 := F5.out 1
  have f2 := F5.out 2
  clear b4 VM E4 hM c0 c1 c2 E
  go_wp2_with fail
  rw [HM.out, ← M.drewN_zero]
  cases hd : colB t0 t1 t2
  all_goals rw [hd] at CD
  · have HQ := Lib.hid (show res = ((0, 0, 0), false) by rw [HE.out, hd]; rfl)
    clear hd
    go_wp2_with (go_at_call 61; refine (CD.out _).mono ?_; rintro _ _ ⟨_, rfl, rfl⟩)
    refine bodyPost_ret (v := .tuple #[.agg #[.float .f32 0, .float .f32 0, .float .f32 0], .bool false]) (by simp [results, Try.results15, q0, q1, q2, go_sem]) rfl ?_
    rw [HQ.out]
    refine ColB2.no rfl ?_
    repeat (first | exact B5.out | exact Nat.le_refl _ | (refine Below.setCell ?_ ?_ _) | (refine below_drewN ?_ _) | (refine Below.alloc ?_ ?_ _) | (simp <;> omega))
  · have HQ := Lib.hid (show res = ((t0, t1, t2), true) by rw [HE.out, hd]; rfl)
    clear hd
    go_wp2_with (go_at_call 61; refine (CD.out _).mono ?_; rintro _ _ ⟨_, rfl, rfl⟩)
    refine bodyPost_ret (v := .tuple #[.agg #[.float .f32 (pick .f32 t0 k0), .float .f32 (pick .f32 t1 k1), .float .f32 (pick .f32 t2 k2)], .bool true]) (by simp [results, Try.results15, q0, q1, q2, go_sem]) rfl ?_
    rw [HQ.out]
    refine ⟨_, _, _, rfl, ?_⟩
    repeat (first | exact B5.out | exact Nat.le_refl _ | (refine Below.setCell ?_ ?_ _) | (refine below_drewN ?_ _) | (refine Below.alloc ?_ ?_ _) | (simp <;> omega))
/-! ### turned1 -/
theorem c_turned1_0 (z : List Nat) (m : Nat → Nat) (r nr g ng b nb : Nat) (bm bc : Nat) (w : World) (hm : Var w bm #[.float .f32 (pick .f32 (fat z 0) (m 0)), .float .f32 (pick .f32 (fat z 1) (m 1)), .float .f32 (pick .f32 (fat z 2) (m 2)), .float .f32 (pick .f32 (fat z 3) (m 3)), .float .f32 (pick .f32 (fat z 4) (m 4)), .float .f32 (pick .f32 (fat z 5) (m 5)), .float .f32 (pick .f32 (fat z 6) (m 6)), .float .f32 (pick .f32 (fat z 7) (m 7)), .float .f32 (pick .f32 (fat z 8) (m 8))]) (hc : Var w bc #[.float .f32 (pick .f32 r nr), .float .f32 (pick .f32 g ng), .float .f32 (pick .f32 b nb)]) : Calls Try.prog 130 #[.int .i64 0, .pointer (some ⟨bm, 0, none⟩), .pointer (some ⟨bc, 0, none⟩)] w (fun e w' => ∃ n, e = .returned (.float .f32 (pick .f32 (turnV (fat z 0) (fat z 1) (fat z 2) r g b) n)) ∧ Below w.heap.size w w') := by
  have VM := Lib.hid hm
  have VC := Lib.hid hc
  have KS := Lib.hid (fun (w' : World) (hE : Below w.heap.size w w') => (⟨(VM.out.keep hE).2 0 (by simp), (VM.out.keep hE).2 1 (by simp), (VM.out.keep hE).2 2 (by simp), (VC.out.keep hE).three⟩ : w'.cell? ⟨bm, 0, none⟩ = some (.float .f32 (pick .f32 (fat z 0) (m 0))) ∧ w'.cell? ⟨bm, 1, none⟩ = some (.float .f32 (pick .f32 (fat z 1) (m 1))) ∧ w'.cell? ⟨bm, 2, none⟩ = some (.float .f32 (pick .f32 (fat z 2) (m 2))) ∧ _))
  clear hm hc
  have wr1 : IntKind.i64.wrap 1 = 1 := by decide
  have wr2 : IntKind.i64.wrap 2 = 2 := by decide
  unfold turnV
  go_enter Try.func130, Try.ntmps130
  go_wp2_with fail
  refine wp_region_facts 22 (fun a b => Below a.heap.size a b) (fun _ => Below.refl _ _) (fun _ _ _ h h' => h.trans (h'.mono h.size)) (Below.refl _ _).drew (by kernel_rfl) (by kernel_rfl) (by kernel_rfl) (by kernel_rfl) ?_
  simp only [List.take_succ_cons, List.take_zero, List.drop_succ_cons, List.drop_zero]
  (with_reducible apply wpF_val); (focus (intro vs w' hE hk; (obtain ⟨m0, m1, m2, c0, c1, c2⟩ := KS.out w' hE); go_simp; exact ⟨Below.refl _ _, rfl⟩)); (simp only [Act.put, List.setIfInBounds_toArray, List.set_cons_zero, List.set_cons_succ, List.cons_append, List.nil_append])
  (with_reducible apply wpF_val); (focus (intro vs w' hE hk; (obtain ⟨m0, m1, m2, c0, c1, c2⟩ := KS.out w' hE); go_simp; exact ⟨Below.refl _ _, rfl⟩)); (simp only [Act.put, List.setIfInBounds_toArray, List.set_cons_zero, List.set_cons_succ, List.cons_append, List.nil_append])
  (with_reducible apply wpF_val); (focus (intro vs w' hE hk; (obtain ⟨m0, m1, m2, c0, c1, c2⟩ := KS.out w' hE); go_simp; exact ⟨Below.refl _ _, rfl⟩)); (simp only [Act.put, List.setIfInBounds_toArray, List.set_cons_zero, List.set_cons_succ, List.cons_append, List.nil_append])
  (with_reducible apply wpF_val); (focus (intro vs w' hE hk; (obtain ⟨m0, m1, m2, c0, c1, c2⟩ := KS.out w' hE); go_simp; exact ⟨Below.refl _ _, rfl⟩)); (simp only [Act.put, List.setIfInBounds_toArray, List.set_cons_zero, List.set_cons_succ, List.cons_append, List.nil_append])
  (with_reducible apply wpF_val); (focus (intro vs w' hE hk; (obtain ⟨m0, m1, m2, c0, c1, c2⟩ := KS.out w' hE); go_simp; exact ⟨Below.refl _ _, rfl⟩)); (simp only [Act.put, List.setIfInBounds_toArray, List.set_cons_zero, List.set_cons_succ, List.cons_append, List.nil_append])
  refine wpF_fact (fun u _ => ∃ m, u = .float .f32 (pick .f32 (fop .mul .f32 (fat z 0) r) m)) (fun _ _ _ h _ => h) (fun vs w' hE hk => ?_) ?_; (focus (rw [if_pos (by rfl)]; refine uponW_fop _ _ _ _ _ rfl .f32 _ _ rfl rfl (by decide) (fun n' m' => ⟨below_drewN (Below.refl _ _) _, n', by simp only [fop_pick_l, fop_pick_r]⟩))); (simp only [Act.put, List.setIfInBounds_toArray, List.set_cons_zero, List.set_cons_succ, List.cons_append, List.nil_append])
  (with_reducible apply wpF_val); (focus (intro vs w' hE hk; (obtain ⟨m0, m1, m2, c0, c1, c2⟩ := KS.out w' hE); go_simp; exact ⟨Below.refl _ _, rfl⟩)); (simp only [Act.put, List.setIfInBounds_toArray, List.set_cons_zero, List.set_cons_succ, List.cons_append, List.nil_append])
  (with_reducible apply wpF_val); (focus (intro vs w' hE hk; (obtain ⟨m0, m1, m2, c0, c1, c2⟩ := KS.out w' hE); go_simp; exact ⟨Below.refl _ _, rfl⟩)); (simp only [Act.put, List.setIfInBounds_toArray, List.set_cons_zero, List.set_cons_succ, List.cons_append, List.nil_append])
  (with_reducible apply wpF_val); (focus (intro vs w' hE hk; (obtain ⟨m0, m1, m2, c0, c1, c2⟩ := KS.out w' hE); go_simp; exact ⟨Below.refl _ _, rfl⟩)); (simp only [Act.put, List.setIfInBounds_toArray, List.set_cons_zero, List.set_cons_succ, List.cons_append, List.nil_append])
  (with_reducible apply wpF_val); (focus (intro vs w' hE hk; (obtain ⟨m0, m1, m2, c0, c1, c2⟩ := KS.out w' hE); go_simp; exact ⟨Below.refl _ _, rfl⟩)); (simp only [Act.put, List.setIfInBounds_toArray, List.set_cons_zero, List.set_cons_succ, List.cons_append, List.nil_append])
  (with_reducible apply wpF_val); (focus (intro vs w' hE hk; (obtain ⟨m0, m1, m2, c0, c1, c2⟩ := KS.out w' hE); go_simp; exact ⟨Below.refl _ _, rfl⟩)); (simp only [Act.put, List.setIfInBounds_toArray, List.set_cons_zero, List.set_cons_succ, List.cons_append, List.nil_append])
  (with_reducible apply wpF_val); (focus (intro vs w' hE hk; (obtain ⟨m0, m1, m2, c0, c1, c2⟩ := KS.out w' hE); go_simp; exact ⟨Below.refl _ _, rfl⟩)); (simp only [Act.put, List.setIfInBounds_toArray, List.set_cons_zero, List.set_cons_succ, List.cons_append, List.nil_append])
  refine wpF_fact (fun u _ => ∃ m, u = .float .f32 (pick .f32 (fop .mul .f32 (fat z 1) g) m)) (fun _ _ _ h _ => h) (fun vs w' hE hk => ?_) ?_; (focus (rw [if_pos (by rfl)]; refine uponW_fop _ _ _ _ _ rfl .f32 _ _ rfl rfl (by decide) (fun n' m' => ⟨below_drewN (Below.refl _ _) _, n', by simp only [fop_pick_l, fop_pick_r]⟩))); (simp only [Act.put, List.setIfInBounds_toArray, List.set_cons_zero, List.set_cons_succ, List.cons_append, List.nil_append])
  refine wpF_fact (fun u _ => ∃ m, u = .float .f32 (pick .f32 (fop .add .f32 (fop .mul .f32 (fat z 0) r) (fop .mul .f32 (fat z 1) g)) m)) (fun _ _ _ h _ => h) (fun vs w' hE hk => ?_) ?_; (focus (obtain ⟨n1, hn1⟩ := hk 5 (by kernel_rfl); simp only [hn1]; obtain ⟨n2, hn2⟩ := hk 12 (by kernel_rfl); simp only [hn2]; rw [if_pos (by rfl)]; refine uponW_fop _ _ _ _ _ rfl .f32 _ _ rfl rfl (by decide) (fun n' m' => ⟨below_drewN (Below.refl _ _) _, n', by simp only [fop_pick_l, fop_pick_r]⟩))); (simp only [Act.put, List.setIfInBounds_toArray, List.set_cons_zero, List.set_cons_succ, List.cons_append, List.nil_append])
  (with_reducible apply wpF_val); (focus (intro vs w' hE hk; (obtain ⟨m0, m1, m2, c0, c1, c2⟩ := KS.out w' hE); go_simp; exact ⟨Below.refl _ _, rfl⟩)); (simp only [Act.put, List.setIfInBounds_toArray, List.set_cons_zero, List.set_cons_succ, List.cons_append, List.nil_append])
  (with_reducible apply wpF_val); (focus (intro vs w' hE hk; (obtain ⟨m0, m1, m2, c0, c1, c2⟩ := KS.out w' hE); go_simp; exact ⟨Below.refl _ _, rfl⟩)); (simp only [Act.put, List.setIfInBounds_toArray, List.set_cons_zero, List.set_cons_succ, List.cons_append, List.nil_append])
  (with_reducible apply wpF_val); (focus (intro vs w' hE hk; (obtain ⟨m0, m1, m2, c0, c1, c2⟩ := KS.out w' hE); go_simp; exact ⟨Below.refl _ _, rfl⟩)); (simp only [Act.put, List.setIfInBounds_toArray, List.set_cons_zero, List.set_cons_succ, List.cons_append, List.nil_append])
  (with_reducible apply wpF_val); (focus (intro vs w' hE hk; (obtain ⟨m0, m1, m2, c0, c1, c2⟩ := KS.out w' hE); go_simp; exact ⟨Below.refl _ _, rfl⟩)); (simp only [Act.put, List.setIfInBounds_toArray, List.set_cons_zero, List.set_cons_succ, List.cons_append, List.nil_append])
  (with_reducible apply wpF_val); (focus (intro vs w' hE hk; (obtain ⟨m0, m1, m2, c0, c1, c2⟩ := KS.out w' hE); go_simp; exact ⟨Below.refl _ _, rfl⟩)); (simp only [Act.put, List.setIfInBounds_toArray, List.set_cons_zero, List.set_cons_succ, List.cons_append, List.nil_append])
  (with_reducible apply wpF_val); (focus (intro vs w' hE hk; (obtain ⟨m0, m1, m2, c0, c1, c2⟩ := KS.out w' hE); go_simp; exact ⟨Below.refl _ _, rfl⟩)); (simp only [Act.put, List.setIfInBounds_toArray, List.set_cons_zero, List.set_cons_succ, List.cons_append, List.nil_append])
  refine wpF_fact (fun u _ => ∃ m, u = .float .f32 (pick .f32 (fop .mul .f32 (fat z 2) b) m)) (fun _ _ _ h _ => h) (fun vs w' hE hk => ?_) ?_; (focus (rw [if_pos (by rfl)]; refine uponW_fop _ _ _ _ _ rfl .f32 _ _ rfl rfl (by decide) (fun n' m' => ⟨below_drewN (Below.refl _ _) _, n', by simp only [fop_pick_l, fop_pick_r]⟩))); (simp only [Act.put, List.setIfInBounds_toArray, List.set_cons_zero, List.set_cons_succ, List.cons_append, List.nil_append])
  refine wpF_fact (fun u _ => ∃ m, u = .float .f32 (pick .f32 (fop .add .f32 (fop .add .f32 (fop .mul .f32 (fat z 0) r) (fop .mul .f32 (fat z 1) g)) (fop .mul .f32 (fat z 2) b)) m)) (fun _ _ _ h _ => h) (fun vs w' hE hk => ?_) ?_; (focus (obtain ⟨n1, hn1⟩ := hk 13 (by kernel_rfl); simp only [hn1]; obtain ⟨n2, hn2⟩ := hk 20 (by kernel_rfl); simp only [hn2]; rw [if_pos (by rfl)]; refine uponW_fop _ _ _ _ _ rfl .f32 _ _ rfl rfl (by decide) (fun n' m' => ⟨below_drewN (Below.refl _ _) _, n', by simp only [fop_pick_l, fop_pick_r]⟩))); (simp only [Act.put, List.setIfInBounds_toArray, List.set_cons_zero, List.set_cons_succ, List.cons_append, List.nil_append])
  refine wpF_nil (fun vs w' hE hk => ?_)
  obtain ⟨n5, h5⟩ := hk 21
  simp only [h5]
  have BX := Lib.hid hE
  clear hE hk h5
  go_wp2_with fail
  go_ret
  exact ⟨_, rfl, BX.out⟩
theorem c_turned1_3 (z : List Nat) (m : Nat → Nat) (r nr g ng b nb : Nat) (bm bc : Nat) (w : World) (hm : Var w bm #[.float .f32 (pick .f32 (fat z 0) (m 0)), .float .f32 (pick .f32 (fat z 1) (m 1)), .float .f32 (pick .f32 (fat z 2) (m 2)), .float .f32 (pick .f32 (fat z 3) (m 3)), .float .f32 (pick .f32 (fat z 4) (m 4)), .float .f32 (pick .f32 (fat z 5) (m 5)), .float .f32 (pick .f32 (fat z 6) (m 6)), .float .f32 (pick .f32 (fat z 7) (m 7)), .float .f32 (pick .f32 (fat z 8) (m 8))]) (hc : Var w bc #[.float .f32 (pick .f32 r nr), .float .f32 (pick .f32 g ng), .float .f32 (pick .f32 b nb)]) : Calls Try.prog 130 #[.int .i64 3, .pointer (some ⟨bm, 0, none⟩), .pointer (some ⟨bc, 0, none⟩)] w (fun e w' => ∃ n, e = .returned (.float .f32 (pick .f32 (turnV (fat z 3) (fat z 4) (fat z 5) r g b) n)) ∧ Below w.heap.size w w') := by
  have VM := Lib.hid hm
  have VC := Lib.hid hc
  have KS := Lib.hid (fun (w' : World) (hE : Below w.heap.size w w') => (⟨(VM.out.keep hE).2 3 (by simp), (VM.out.keep hE).2 4 (by simp), (VM.out.keep hE).2 5 (by simp), (VC.out.keep hE).three⟩ : w'.cell? ⟨bm, 3, none⟩ = some (.float .f32 (pick .f32 (fat z 3) (m 3))) ∧ w'.cell? ⟨bm, 4, none⟩ = some (.float .f32 (pick .f32 (fat z 4) (m 4))) ∧ w'.cell? ⟨bm, 5, none⟩ = some (.float .f32 (pick .f32 (fat z 5) (m 5))) ∧ _))
  clear hm hc
  have wr1 : IntKind.i64.wrap 4 = 4 := by decide
  have wr2 : IntKind.i64.wrap 5 = 5 := by decide
  unfold turnV
  go_enter Try.func130, Try.ntmps130
  go_wp2_with fail
  refine wp_region_facts 22 (fun a b => Below a.heap.size a b) (fun _ => Below.refl _ _) (fun _ _ _ h h' => h.trans (h'.mono h.size)) (Below.refl _ _).drew (by kernel_rfl) (by kernel_rfl) (by kernel_rfl) (by kernel_rfl) ?_
  simp only [List.take_succ_cons, List.take_zero, List.drop_succ_cons, List.drop_zero]
  (with_reducible apply wpF_val); (focus (intro vs w' hE hk; (obtain ⟨m0, m1, m2, c0, c1, c2⟩ := KS.out w' hE); go_simp; exact ⟨Below.refl _ _, rfl⟩)); (simp only [Act.put, List.setIfInBounds_toArray, List.set_cons_zero, List.set_cons_succ, List.cons_append, List.nil_append])
  (with_reducible apply wpF_val); (focus (intro vs w' hE hk; (obtain ⟨m0, m1, m2, c0, c1, c2⟩ := KS.out w' hE); go_simp; exact ⟨Below.refl _ _, rfl⟩)); (simp only [Act.put, List.setIfInBounds_toArray, List.set_cons_zero, List.set_cons_succ, List.cons_append, List.nil_append])
  (with_reducible apply wpF_val); (focus (intro vs w' hE hk; (obtain ⟨m0, m1, m2, c0, c1, c2⟩ := KS.out w' hE); go_simp; exact ⟨Below.refl _ _, rfl⟩)); (simp only [Act.put, List.setIfInBounds_toArray, List.set_cons_zero, List.set_cons_succ, List.cons_append, List.nil_append])
  (with_reducible apply wpF_val); (focus (intro vs w' hE hk; (obtain ⟨m0, m1, m2, c0, c1, c2⟩ := KS.out w' hE); go_simp; exact ⟨Below.refl _ _, rfl⟩)); (simp only [Act.put, List.setIfInBounds_toArray, List.set_cons_zero, List.set_cons_succ, List.cons_append, List.nil_append])
  (with_reducible apply wpF_val); (focus (intro vs w' hE hk; (obtain ⟨m0, m1, m2, c0, c1, c2⟩ := KS.out w' hE); go_simp; exact ⟨Below.refl _ _, rfl⟩)); (simp only [Act.put, List.setIfInBounds_toArray, List.set_cons_zero, List.set_cons_succ, List.cons_append, List.nil_append])
  refine wpF_fact (fun u _ => ∃ m, u = .float .f32 (pick .f32 (fop .mul .f32 (fat z 3) r) m)) (fun _ _ _ h _ => h) (fun vs w' hE hk => ?_) ?_; (focus (rw [if_pos (by rfl)]; refine uponW_fop _ _ _ _ _ rfl .f32 _ _ rfl rfl (by decide) (fun n' m' => ⟨below_drewN (Below.refl _ _) _, n', by simp only [fop_pick_l, fop_pick_r]⟩))); (simp only [Act.put, List.setIfInBounds_toArray, List.set_cons_zero, List.set_cons_succ, List.cons_append, List.nil_append])
  (with_reducible apply wpF_val); (focus (intro vs w' hE hk; (obtain ⟨m0, m1, m2, c0, c1, c2⟩ := KS.out w' hE); go_simp; exact ⟨Below.refl _ _, rfl⟩)); (simp only [Act.put, List.setIfInBounds_toArray, List.set_cons_zero, List.set_cons_succ, List.cons_append, List.nil_append])
  (with_reducible apply wpF_val); (focus (intro vs w' hE hk; (obtain ⟨m0, m1, m2, c0, c1, c2⟩ := KS.out w' hE); go_simp; exact ⟨Below.refl _ _, rfl⟩)); (simp only [Act.put, List.setIfInBounds_toArray, List.set_cons_zero, List.set_cons_succ, List.cons_append, List.nil_append])
  (with_reducible apply wpF_val); (focus (intro vs w' hE hk; (obtain ⟨m0, m1, m2, c0, c1, c2⟩ := KS.out w' hE); go_simp; exact ⟨Below.refl _ _, rfl⟩)); (simp only [Act.put, List.setIfInBounds_toArray, List.set_cons_zero, List.set_cons_succ, List.cons_append, List.nil_append])
  (with_reducible apply wpF_val); (focus (intro vs w' hE hk; (obtain ⟨m0, m1, m2, c0, c1, c2⟩ := KS.out w' hE); go_simp; exact ⟨Below.refl _ _, rfl⟩)); (simp only [Act.put, List.setIfInBounds_toArray, List.set_cons_zero, List.set_cons_succ, List.cons_append, List.nil_append])
  (with_reducible apply wpF_val); (focus (intro vs w' hE hk; (obtain ⟨m0, m1, m2, c0, c1, c2⟩ := KS.out w' hE); go_simp; exact ⟨Below.refl _ _, rfl⟩)); (simp only [Act.put, List.setIfInBounds_toArray, List.set_cons_zero, List.set_cons_succ, List.cons_append, List.nil_append])
  (with_reducible apply wpF_val); (focus (intro vs w' hE hk; (obtain ⟨m0, m1, m2, c0, c1, c2⟩ := KS.out w' hE); go_simp; exact ⟨Below.refl _ _, rfl⟩)); (simp only [Act.put, List.setIfInBounds_toArray, List.set_cons_zero, List.set_cons_succ, List.cons_append, List.nil_append])
  refine wpF_fact (fun u _ => ∃ m, u = .float .f32 (pick .f32 (fop .mul .f32 (fat z 4) g) m)) (fun _ _ _ h _ => h) (fun vs w' hE hk => ?_) ?_; (focus (rw [if_pos (by rfl)]; refine uponW_fop _ _ _ _ _ rfl .f32 _ _ rfl rfl (by decide) (fun n' m' => ⟨below_drewN (Below.refl _ _) _, n', by simp only [fop_pick_l, fop_pick_r]⟩))); (simp only [Act.put, List.setIfInBounds_toArray, List.set_cons_zero, List.set_cons_succ, List.cons_append, List.nil_append])
  refine wpF_fact (fun u _ => ∃ m, u = .float .f32 (pick .f32 (fop .add .f32 (fop .mul .f32 (fat z 3) r) (fop .mul .f32 (fat z 4) g)) m)) (fun _ _ _ h _ => h) (fun vs w' hE hk => ?_) ?_; (focus (obtain ⟨n1, hn1⟩ := hk 5 (by kernel_rfl); simp only [hn1]; obtain ⟨n2, hn2⟩ := hk 12 (by kernel_rfl); simp only [hn2]; rw [if_pos (by rfl)]; refine uponW_fop _ _ _ _ _ rfl .f32 _ _ rfl rfl (by decide) (fun n' m' => ⟨below_drewN (Below.refl _ _) _, n', by simp only [fop_pick_l, fop_pick_r]⟩))); (simp only [Act.put, List.setIfInBounds_toArray, List.set_cons_zero, List.set_cons_succ, List.cons_append, List.nil_append])
  (with_reducible apply wpF_val); (focus (intro vs w' hE hk; (obtain ⟨m0, m1, m2, c0, c1, c2⟩ := KS.out w' hE); go_simp; exact ⟨Below.refl _ _, rfl⟩)); (simp only [Act.put, List.setIfInBounds_toArray, List.set_cons_zero, List.set_cons_succ, List.cons_append, List.nil_append])
  (with_reducible apply wpF_val); (focus (intro vs w' hE hk; (obtain ⟨m0, m1, m2, c0, c1, c2⟩ := KS.out w' hE); go_simp; exact ⟨Below.refl _ _, rfl⟩)); (simp only [Act.put, List.setIfInBounds_toArray, List.set_cons_zero, List.set_cons_succ, List.cons_append, List.nil_append])
  (with_reducible apply wpF_val); (focus (intro vs w' hE hk; (obtain ⟨m0, m1, m2, c0, c1, c2⟩ := KS.out w' hE); go_simp; exact ⟨Below.refl _ _, rfl⟩)); (simp only [Act.put, List.setIfInBounds_toArray, List.set_cons_zero, List.set_cons_succ, List.cons_append, List.nil_append])
  (with_reducible apply wpF_val); (focus (intro vs w' hE hk; (obtain ⟨m0, m1, m2, c0, c1, c2⟩ := KS.out w' hE); go_simp; exact ⟨Below.refl _ _, rfl⟩)); (simp only [Act.put, List.setIfInBounds_toArray, List.set_cons_zero, List.set_cons_succ, List.cons_append, List.nil_append])
  (with_reducible apply wpF_val); (focus (intro vs w' hE hk; (obtain ⟨m0, m1, m2, c0, c1, c2⟩ := KS.out w' hE); go_simp; exact ⟨Below.refl _ _, rfl⟩)); (simp only [Act.put, List.setIfInBounds_toArray, List.set_cons_zero, List.set_cons_succ, List.cons_append, List.nil_append])
  (with_reducible apply wpF_val); (focus (intro vs w' hE hk; (obtain ⟨m0, m1, m2, c0, c1, c2⟩ := KS.out w' hE); go_simp; exact ⟨Below.refl _ _, rfl⟩)); (simp only [Act.put, List.setIfInBounds_toArray, List.set_cons_zero, List.set_cons_succ, List.cons_append, List.nil_append])
  refine wpF_fact (fun u _ => ∃ m, u = .float .f32 (pick .f32 (fop .mul .f32 (fat z 5) b) m)) (fun _ _ _ h _ => h) (fun vs w' hE hk => ?_) ?_; (focus (rw [if_pos (by rfl)]; refine uponW_fop _ _ _ _ _ rfl .f32 _ _ rfl rfl (by decide) (fun n' m' => ⟨below_drewN (Below.refl _ _) _, n', by simp only [fop_pick_l, fop_pick_r]⟩))); (simp only [Act.put, List.setIfInBounds_toArray, List.set_cons_zero, List.set_cons_succ, List.cons_append, List.nil_append])
  refine wpF_fact (fun u _ => ∃ m, u = .float .f32 (pick .f32 (fop .add .f32 (fop .add .f32 (fop .mul .f32 (fat z 3) r) (fop .mul .f32 (fat z 4) g)) (fop .mul .f32 (fat z 5) b)) m)) (fun _ _ _ h _ => h) (fun vs w' hE hk => ?_) ?_; (focus (obtain ⟨n1, hn1⟩ := hk 13 (by kernel_rfl); simp only [hn1]; obtain ⟨n2, hn2⟩ := hk 20 (by kernel_rfl); simp only [hn2]; rw [if_pos (by rfl)]; refine uponW_fop _ _ _ _ _ rfl .f32 _ _ rfl rfl (by decide) (fun n' m' => ⟨below_drewN (Below.refl _ _) _, n', by simp only [fop_pick_l, fop_pick_r]⟩))); (simp only [Act.put, List.setIfInBounds_toArray, List.set_cons_zero, List.set_cons_succ, List.cons_append, List.nil_append])
  refine wpF_nil (fun vs w' hE hk => ?_)
  obtain ⟨n5, h5⟩ := hk 21
  simp only [h5]
  have BX := Lib.hid hE
  clear hE hk h5
  go_wp2_with fail
  go_ret
  exact ⟨_, rfl, BX.out⟩
theorem c_turned1_6 (z : List Nat) (m : Nat → Nat) (r nr g ng b nb : Nat) (bm bc : Nat) (w : World) (hm : Var w bm #[.float .f32 (pick .f32 (fat z 0) (m 0)), .float .f32 (pick .f32 (fat z 1) (m 1)), .float .f32 (pick .f32 (fat z 2) (m 2)), .float .f32 (pick .f32 (fat z 3) (m 3)), .float .f32 (pick .f32 (fat z 4) (m 4)), .float .f32 (pick .f32 (fat z 5) (m 5)), .float .f32 (pick .f32 (fat z 6) (m 6)), .float .f32 (pick .f32 (fat z 7) (m 7)), .float .f32 (pick .f32 (fat z 8) (m 8))]) (hc : Var w bc #[.float .f32 (pick .f32 r nr), .float .f32 (pick .f32 g ng), .float .f32 (pick .f32 b nb)]) : Calls Try.prog 130 #[.int .i64 6, .pointer (some ⟨bm, 0, none⟩), .pointer (some ⟨bc, 0, none⟩)] w (fun e w' => ∃ n, e = .returned (.float .f32 (pick .f32 (turnV (fat z 6) (fat z 7) (fat z 8) r g b) n)) ∧ Below w.heap.size w w') := by
  have VM := Lib.hid hm
  have VC := Lib.hid hc
  have KS := Lib.hid (fun (w' : World) (hE : Below w.heap.size w w') => (⟨(VM.out.keep hE).2 6 (by simp), (VM.out.keep hE).2 7 (by simp), (VM.out.keep hE).2 8 (by simp), (VC.out.keep hE).three⟩ : w'.cell? ⟨bm, 6, none⟩ = some (.float .f32 (pick .f32 (fat z 6) (m 6))) ∧ w'.cell? ⟨bm, 7, none⟩ = some (.float .f32 (pick .f32 (fat z 7) (m 7))) ∧ w'.cell? ⟨bm, 8, none⟩ = some (.float .f32 (pick .f32 (fat z 8) (m 8))) ∧ _))
  clear hm hc
  have wr1 : IntKind.i64.wrap 7 = 7 := by decide
  have wr2 : IntKind.i64.wrap 8 = 8 := by decide
  unfold turnV
  go_enter Try.func130, Try.ntmps130
  go_wp2_with fail
  refine wp_region_facts 22 (fun a b => Below a.heap.size a b) (fun _ => Below.refl _ _) (fun _ _ _ h h' => h.trans (h'.mono h.size)) (Below.refl _ _).drew (by kernel_rfl) (by kernel_rfl) (by kernel_rfl) (by kernel_rfl) ?_
  simp only [List.take_succ_cons, List.take_zero, List.drop_succ_cons, List.drop_zero]
  (with_reducible apply wpF_val); (focus (intro vs w' hE hk; (obtain ⟨m0, m1, m2, c0, c1, c2⟩ := KS.out w' hE); go_simp; exact ⟨Below.refl _ _, rfl⟩)); (simp only [Act.put, List.setIfInBounds_toArray, List.set_cons_zero, List.set_cons_succ, List.cons_append, List.nil_append])
  (with_reducible apply wpF_val); (focus (intro vs w' hE hk; (obtain ⟨m0, m1, m2, c0, c1, c2⟩ := KS.out w' hE); go_simp; exact ⟨Below.refl _ _, rfl⟩)); (simp only [Act.put, List.setIfInBounds_toArray, List.set_cons_zero, List.set_cons_succ, List.cons_append, List.nil_append])
  (with_reducible apply wpF_val); (focus (intro vs w' hE hk; (obtain ⟨m0, m1, m2, c0, c1, c2⟩ := KS.out w' hE); go_simp; exact ⟨Below.refl _ _, rfl⟩)); (simp only [Act.put, List.setIfInBounds_toArray, List.set_cons_zero, List.set_cons_succ, List.cons_append, List.nil_append])
  (with_reducible apply wpF_val); (focus (intro vs w' hE hk; (obtain ⟨m0, m1, m2, c0, c1, c2⟩ := KS.out w' hE); go_simp; exact ⟨Below.refl _ _, rfl⟩)); (simp only [Act.put, List.setIfInBounds_toArray, List.set_cons_zero, List.set_cons_succ, List.cons_append, List.nil_append])
  (with_reducible apply wpF_val); (focus (intro vs w' hE hk; (obtain ⟨m0, m1, m2, c0, c1, c2⟩ := KS.out w' hE); go_simp; exact ⟨Below.refl _ _, rfl⟩)); (simp only [Act.put, List.setIfInBounds_toArray, List.set_cons_zero, List.set_cons_succ, List.cons_append, List.nil_append])
  refine wpF_fact (fun u _ => ∃ m, u = .float .f32 (pick .f32 (fop .mul .f32 (fat z 6) r) m)) (fun _ _ _ h _ => h) (fun vs w' hE hk => ?_) ?_; (focus (rw [if_pos (by rfl)]; refine uponW_fop _ _ _ _ _ rfl .f32 _ _ rfl rfl (by decide) (fun n' m' => ⟨below_drewN (Below.refl _ _) _, n', by simp only [fop_pick_l, fop_pick_r]⟩))); (simp only [Act.put, List.setIfInBounds_toArray, List.set_cons_zero, List.set_cons_succ, List.cons_append, List.nil_append])
  (with_reducible apply wpF_val); (focus (intro vs w' hE hk; (obtain ⟨m0, m1, m2, c0, c1, c2⟩ := KS.out w' hE); go_simp; exact ⟨Below.refl _ _, rfl⟩)); (simp only [Act.put, List.setIfInBounds_toArray, List.set_cons_zero, List.set_cons_succ, List.cons_append, List.nil_append])
  (with_reducible apply wpF_val); (focus (intro vs w' hE hk; (obtain ⟨m0, m1, m2, c0, c1, c2⟩ := KS.out w' hE); go_simp; exact ⟨Below.refl _ _, rfl⟩)); (simp only [Act.put, List.setIfInBounds_toArray, List.set_cons_zero, List.set_cons_succ, List.cons_append, List.nil_append])
  (with_reducible apply wpF_val); (focus (intro vs w' hE hk; (obtain ⟨m0, m1, m2, c0, c1, c2⟩ := KS.out w' hE); go_simp; exact ⟨Below.refl _ _, rfl⟩)); (simp only [Act.put, List.setIfInBounds_toArray, List.set_cons_zero, List.set_cons_succ, List.cons_append, List.nil_append])
  (with_reducible apply wpF_val); (focus (intro vs w' hE hk; (obtain ⟨m0, m1, m2, c0, c1, c2⟩ := KS.out w' hE); go_simp; exact ⟨Below.refl _ _, rfl⟩)); (simp only [Act.put, List.setIfInBounds_toArray, List.set_cons_zero, List.set_cons_succ, List.cons_append, List.nil_append])
  (with_reducible apply wpF_val); (focus (intro vs w' hE hk; (obtain ⟨m0, m1, m2, c0, c1, c2⟩ := KS.out w' hE); go_simp; exact ⟨Below.refl _ _, rfl⟩)); (simp only [Act.put, List.setIfInBounds_toArray, List.set_cons_zero, List.set_cons_succ, List.cons_append, List.nil_append])
  (with_reducible apply wpF_val); (focus (intro vs w' hE hk; (obtain ⟨m0, m1, m2, c0, c1, c2⟩ := KS.out w' hE); go_simp; exact ⟨Below.refl _ _, rfl⟩)); (simp only [Act.put, List.setIfInBounds_toArray, List.set_cons_zero, List.set_cons_succ, List.cons_append, List.nil_append])
  refine wpF_fact (fun u _ => ∃ m, u = .float .f32 (pick .f32 (fop .mul .f32 (fat z 7) g) m)) (fun _ _ _ h _ => h) (fun vs w' hE hk => ?_) ?_; (focus (rw [if_pos (by rfl)]; refine uponW_fop _ _ _ _ _ rfl .f32 _ _ rfl rfl (by decide) (fun n' m' => ⟨below_drewN (Below.refl _ _) _, n', by simp only [fop_pick_l, fop_pick_r]⟩))); (simp only [Act.put, List.setIfInBounds_toArray, List.set_cons_zero, List.set_cons_succ, List.cons_append, List.nil_append])
  refine wpF_fact (fun u _ => ∃ m, u = .float .f32 (pick .f32 (fop .add .f32 (fop .mul .f32 (fat z 6) r) (fop .mul .f32 (fat z 7) g)) m)) (fun _ _ _ h _ => h) (fun vs w' hE hk => ?_) ?_; (focus (obtain ⟨n1, hn1⟩ := hk 5 (by kernel_rfl); simp only [hn1]; obtain ⟨n2, hn2⟩ := hk 12 (by kernel_rfl); simp only [hn2]; rw [if_pos (by rfl)]; refine uponW_fop _ _ _ _ _ rfl .f32 _ _ rfl rfl (by decide) (fun n' m' => ⟨below_drewN (Below.refl _ _) _, n', by simp only [fop_pick_l, fop_pick_r]⟩))); (simp only [Act.put, List.setIfInBounds_toArray, List.set_cons_zero, List.set_cons_succ, List.cons_append, List.nil_append])
  (with_reducible apply wpF_val); (focus (intro vs w' hE hk; (obtain ⟨m0, m1, m2, c0, c1, c2⟩ := KS.out w' hE); go_simp; exact ⟨Below.refl _ _, rfl⟩)); (simp only [Act.put, List.setIfInBounds_toArray, List.set_cons_zero, List.set_cons_succ, List.cons_append, List.nil_append])
  (with_reducible apply wpF_val); (focus (intro vs w' hE hk; (obtain ⟨m0, m1, m2, c0, c1, c2⟩ := KS.out w' hE); go_simp; exact ⟨Below.refl _ _, rfl⟩)); (simp only [Act.put, List.setIfInBounds_toArray, List.set_cons_zero, List.set_cons_succ, List.cons_append, List.nil_append])
  (with_reducible apply wpF_val); (focus (intro vs w' hE hk; (obtain ⟨m0, m1, m2, c0, c1, c2⟩ := KS.out w' hE); go_simp; exact ⟨Below.refl _ _, rfl⟩)); (simp only [Act.put, List.setIfInBounds_toArray, List.set_cons_zero, List.set_cons_succ, List.cons_append, List.nil_append])
  (with_reducible apply wpF_val); (focus (intro vs w' hE hk; (obtain ⟨m0, m1, m2, c0, c1, c2⟩ := KS.out w' hE); go_simp; exact ⟨Below.refl _ _, rfl⟩)); (simp only [Act.put, List.setIfInBounds_toArray, List.set_cons_zero, List.set_cons_succ, List.cons_append, List.nil_append])
  (with_reducible apply wpF_val); (focus (intro vs w' hE hk; (obtain ⟨m0, m1, m2, c0, c1, c2⟩ := KS.out w' hE); go_simp; exact ⟨Below.refl _ _, rfl⟩)); (simp only [Act.put, List.setIfInBounds_toArray, List.set_cons_zero, List.set_cons_succ, List.cons_append, List.nil_append])
  (with_reducible apply wpF_val); (focus (intro vs w' hE hk; (obtain ⟨m0, m1, m2, c0, c1, c2⟩ := KS.out w' hE); go_simp; exact ⟨Below.refl _ _, rfl⟩)); (simp only [Act.put, List.setIfInBounds_toArray, List.set_cons_zero, List.set_cons_succ, List.cons_append, List.nil_append])
  refine wpF_fact (fun u _ => ∃ m, u = .float .f32 (pick .f32 (fop .mul .f32 (fat z 8) b) m)) (fun _ _ _ h _ => h) (fun vs w' hE hk => ?_) ?_; (focus (rw [if_pos (by rfl)]; refine uponW_fop _ _ _ _ _ rfl .f32 _ _ rfl rfl (by decide) (fun n' m' => ⟨below_drewN (Below.refl _ _) _, n', by simp only [fop_pick_l, fop_pick_r]⟩))); (simp only [Act.put, List.setIfInBounds_toArray, List.set_cons_zero, List.set_cons_succ, List.cons_append, List.nil_append])
  refine wpF_fact (fun u _ => ∃ m, u = .float .f32 (pick .f32 (fop .add .f32 (fop .add .f32 (fop .mul .f32 (fat z 6) r) (fop .mul .f32 (fat z 7) g)) (fop .mul .f32 (fat z 8) b)) m)) (fun _ _ _ h _ => h) (fun vs w' hE hk => ?_) ?_; (focus (obtain ⟨n1, hn1⟩ := hk 13 (by kernel_rfl); simp only [hn1]; obtain ⟨n2, hn2⟩ := hk 20 (by kernel_rfl); simp only [hn2]; rw [if_pos (by rfl)]; refine uponW_fop _ _ _ _ _ rfl .f32 _ _ rfl rfl (by decide) (fun n' m' => ⟨below_drewN (Below.refl _ _) _, n', by simp only [fop_pick_l, fop_pick_r]⟩))); (simp only [Act.put, List.setIfInBounds_toArray, List.set_cons_zero, List.set_cons_succ, List.cons_append, List.nil_append])
  refine wpF_nil (fun vs w' hE hk => ?_)
  obtain ⟨n5, h5⟩ := hk 21
  simp only [h5]
  have BX := Lib.hid hE
  clear hE hk h5
  go_wp2_with fail
  go_ret
  exact ⟨_, rfl, BX.out⟩
/-! ### turned -/
theorem c_turned (z : List Nat) (m : Nat → Nat) (r nr g ng b nb : Nat) (w : World) : Calls Try.prog 64 #[.agg #[.float .f32 (pick .f32 (fat z 0) (m 0)), .float .f32 (pick .f32 (fat z 1) (m 1)), .float .f32 (pick .f32 (fat z 2) (m 2)), .float .f32 (pick .f32 (fat z 3) (m 3)), .float .f32 (pick .f32 (fat z 4) (m 4)), .float .f32 (pick .f32 (fat z 5) (m 5)), .float .f32 (pick .f32 (fat z 6) (m 6)), .float .f32 (pick .f32 (fat z 7) (m 7)), .float .f32 (pick .f32 (fat z 8) (m 8))], .agg #[.float .f32 (pick .f32 r nr), .float .f32 (pick .f32 g ng), .float .f32 (pick .f32 b nb)]] w (ColR (turn3 z r g b) w) := by
  generalize hw0 : ((w.alloc (Obj.cells #[.float .f32 (pick .f32 (fat z 0) (m 0)), .float .f32 (pick .f32 (fat z 1) (m 1)), .float .f32 (pick .f32 (fat z 2) (m 2)), .float .f32 (pick .f32 (fat z 3) (m 3)), .float .f32 (pick .f32 (fat z 4) (m 4)), .float .f32 (pick .f32 (fat z 5) (m 5)), .float .f32 (pick .f32 (fat z 6) (m 6)), .float .f32 (pick .f32 (fat z 7) (m 7)), .float .f32 (pick .f32 (fat z 8) (m 8))] 87)).alloc (Obj.cells #[.float .f32 (pick .f32 r nr), .float .f32 (pick .f32 g ng), .float .f32 (pick .f32 b nb)] 26)).alloc (Obj.cells #[.float .f32 0, .float .f32 0, .float .f32 0] 26) = w0
  have X0 : Var w0 w.heap.size #[.float .f32 (pick .f32 (fat z 0) (m 0)), .float .f32 (pick .f32 (fat z 1) (m 1)), .float .f32 (pick .f32 (fat z 2) (m 2)), .float .f32 (pick .f32 (fat z 3) (m 3)), .float .f32 (pick .f32 (fat z 4) (m 4)), .float .f32 (pick .f32 (fat z 5) (m 5)), .float .f32 (pick .f32 (fat z 6) (m 6)), .float .f32 (pick .f32 (fat z 7) (m 7)), .float .f32 (pick .f32 (fat z 8) (m 8))] := by subst hw0; exact ((Var.new _ _ _).alloc _).alloc _
  have X1 : Var w0 (w.heap.size + 1) #[.float .f32 (pick .f32 r nr), .float .f32 (pick .f32 g ng), .float .f32 (pick .f32 b nb)] := by subst hw0; exact (Var.new' _ _ _ _ (by simp)).alloc _
  have X2 : Var w0 (w.heap.size + 1 + 1) #[.float .f32 0, .float .f32 0, .float .f32 0] := by subst hw0; exact Var.new' _ _ _ _ (by simp)
  have X3 : Free w0 (w.heap.size + 1 + 1) := by subst hw0; exact Free.new' _ _ _ _ (by simp)
  have X4 : Below w.heap.size w w0 := by subst hw0; exact (((Below.refl _ _).alloc (Nat.le_refl _) _).alloc (by simp) _).alloc (by simp; omega) _
  have HW := Lib.hid hw0
  have V0 := Lib.hid X0
  have V1 := Lib.hid X1
  have V2 := Lib.hid X2
  have F0 := Lib.hid X3
  have B0 := Lib.hid X4
  have z0 : w.heap.size + 1 + 1 < w0.heap.size := X2.lt
  clear hw0 X0 X1 X2 X3 X4
  unfold ColR turn3
  go_enter Try.func64, Try.ntmps64
  go_wp2_with fail
  rw [HW.out]
  refine (c_turned1_0 z m r nr g ng b nb _ _ w0 V0.out V1.out).mono ?_
  rintro _ w1 ⟨k0, rfl, b1⟩
  go_wp2_with fail
  refine (c_turned1_3 z m r nr g ng b nb _ _ w1 (V0.out.keep b1) (V1.out.keep b1)).mono ?_
  rintro _ w2 ⟨k1, rfl, b2⟩
  have b12 := b1.trans (b2.mono b1.size)
  clear b1 b2
  go_wp2_with fail
  refine (c_turned1_6 z m r nr g ng b nb _ _ w2 (V0.out.keep b12) (V1.out.keep b12)).mono ?_
  rintro _ w3 ⟨k2, rfl, b3⟩
  have b := b12.trans (b3.mono b12.size)
  have BB := Lib.hid (B0.out.trans (b.mono (by omega)))
  have z3 : w0.heap.size ≤ w3.heap.size := b.size
  obtain ⟨q0, q1, q2⟩ := (V2.out.keep b).three
  have fr := F0.out.below z0 b
  have f0 := fr 0
  have f1 := fr 1
  have f2 := fr 2
  clear b b12 b3 fr
  go_wp2_with fail
  refine bodyPost_ret (v := .agg #[.float .f32 (pick .f32 (turnV (fat z 0) (fat z 1) (fat z 2) r g b) k0), .float .f32 (pick .f32 (turnV (fat z 3) (fat z 4) (fat z 5) r g b) k1), .float .f32 (pick .f32 (turnV (fat z 6) (fat z 7) (fat z 8) r g b) k2)]) (by simp [results, Try.results64, q0, q1, q2, go_sem]) rfl ⟨_, _, _, rfl, ?_⟩
  repeat (first | exact Below.refl _ _ | exact BB.out | exact Nat.le_refl _ | (refine Below.setCell ?_ ?_ _) | (refine below_drewN ?_ _) | (refine Below.alloc ?_ ?_ _) | (simp <;> omega))
/-! ### varSet -/
theorem var_setAt {w : World} {b i : Nat} {cs : Array Value} (h : Var w b cs) (hi : i < cs.size) (v : Value) : Var (w.setCell ⟨b, i, none⟩ v) b (cs.set i v hi) := by
  refine ⟨by simpa using h.1, fun j hj => ?_⟩
  have hj' : j < cs.size := by simpa using hj
  by_cases e : i = j
  · subst e
    rw [Array.getElem_set_self]
    exact World.cell?_setCell_same w _ _ (h.2 i hi)
  · rw [Array.getElem_set_ne _ _ e]
    rw [World.cell?_setCell_other w ⟨b, i, none⟩ ⟨b, j, none⟩ v (fun h2 => e (by have := congrArg Addr.off h2; simpa using this))]
    exact h.2 j hj'
/-! ### matEq -/
theorem eqMat (x0 x1 x2 x3 x4 x5 x6 x7 x8 : Nat) (w : World) : (Op.equalIn 10000 87 (.agg #[.float .f32 x0, .float .f32 x1, .float .f32 x2, .float .f32 x3, .float .f32 x4, .float .f32 x5, .float .f32 x6, .float .f32 x7, .float .f32 x8]) (.agg #[.float .f32 0, .float .f32 0, .float .f32 0, .float .f32 0, .float .f32 0, .float .f32 0, .float .f32 0, .float .f32 0, .float .f32 0])).run Try.prog w = .ok ((FloatKind.f32.format.order x0 0 == some .eq) && (FloatKind.f32.format.order x1 0 == some .eq) && (FloatKind.f32.format.order x2 0 == some .eq) && (FloatKind.f32.format.order x3 0 == some .eq) && (FloatKind.f32.format.order x4 0 == some .eq) && (FloatKind.f32.format.order x5 0 == some .eq) && (FloatKind.f32.format.order x6 0 == some .eq) && (FloatKind.f32.format.order x7 0 == some .eq) && (FloatKind.f32.format.order x8 0 == some .eq)) w := by
  have u3 := Try.underlying23
  rw [show (10000 : Nat) = 9999 + 1 from rfl, Op.equalIn]
  simp only [Sem.run_bind, run_underlying Try.underlying87, Result.andThen_ok]
  simp only [Std.Legacy.Range.forIn_eq_forIn_range', Std.Legacy.Range.size, Nat.sub_zero, Nat.add_sub_cancel, Nat.div_one, List.range'_succ, List.range'_zero, List.forIn_cons, List.forIn_nil]
  have hE : ∀ (x : Nat) (w : World), (Op.equalIn 9999 23 (.float .f32 x) (.float .f32 0)).run Try.prog w = .ok (FloatKind.f32.format.order x 0 == some .eq) w := fun x w => by
    rw [show (9999 : Nat) = 9998 + 1 from rfl, Op.equalIn]
    simp [run_underlying u3, Op.floatEq]
  go_simp
  by_cases h0 : FloatKind.f32.format.order x0 0 = some Ordering.eq
  case neg => simp [h0]
  by_cases h1 : FloatKind.f32.format.order x1 0 = some Ordering.eq
  case neg => simp [h0, h1]
  by_cases h2 : FloatKind.f32.format.order x2 0 = some Ordering.eq
  case neg => simp [h0, h1, h2]
  by_cases h3 : FloatKind.f32.format.order x3 0 = some Ordering.eq
  case neg => simp [h0, h1, h2, h3]
  by_cases h4 : FloatKind.f32.format.order x4 0 = some Ordering.eq
  case neg => simp [h0, h1, h2, h3, h4]
  by_cases h5 : FloatKind.f32.format.order x5 0 = some Ordering.eq
  case neg => simp [h0, h1, h2, h3, h4, h5]
  by_cases h6 : FloatKind.f32.format.order x6 0 = some Ordering.eq
  case neg => simp [h0, h1, h2, h3, h4, h5, h6]
  by_cases h7 : FloatKind.f32.format.order x7 0 = some Ordering.eq
  case neg => simp [h0, h1, h2, h3, h4, h5, h6, h7]
  by_cases h8 : FloatKind.f32.format.order x8 0 = some Ordering.eq
  case neg => simp [h0, h1, h2, h3, h4, h5, h6, h7, h8]
  simp [h0, h1, h2, h3, h4, h5, h6, h7, h8]
/-! ### matFin -/
theorem c_matFin9 (v0 v1 v2 v3 v4 v5 v6 v7 v8 n0 n1 n2 n3 n4 n5 n6 n7 n8 : Nat) (w : World) : Calls Try.prog 129 #[.agg #[.float .f32 (pick .f32 v0 n0), .float .f32 (pick .f32 v1 n1), .float .f32 (pick .f32 v2 n2), .float .f32 (pick .f32 v3 n3), .float .f32 (pick .f32 v4 n4), .float .f32 (pick .f32 v5 n5), .float .f32 (pick .f32 v6 n6), .float .f32 (pick .f32 v7 n7), .float .f32 (pick .f32 v8 n8)]] w (RetB (.bool (finB .f32 v0 && finB .f32 v1 && finB .f32 v2 && finB .f32 v3 && finB .f32 v4 && finB .f32 v5 && finB .f32 v6 && finB .f32 v7 && finB .f32 v8)) w) := by
  generalize hw0 : (w.alloc (Obj.cells #[.float .f32 (pick .f32 v0 n0), .float .f32 (pick .f32 v1 n1), .float .f32 (pick .f32 v2 n2), .float .f32 (pick .f32 v3 n3), .float .f32 (pick .f32 v4 n4), .float .f32 (pick .f32 v5 n5), .float .f32 (pick .f32 v6 n6), .float .f32 (pick .f32 v7 n7), .float .f32 (pick .f32 v8 n8)] 87)).alloc (Obj.cells #[.float .f32 0, .float .f32 0, .float .f32 0, .float .f32 0, .float .f32 0, .float .f32 0, .float .f32 0, .float .f32 0, .float .f32 0] 87) = w0
  have X0 : Var w0 w.heap.size #[.float .f32 (pick .f32 v0 n0), .float .f32 (pick .f32 v1 n1), .float .f32 (pick .f32 v2 n2), .float .f32 (pick .f32 v3 n3), .float .f32 (pick .f32 v4 n4), .float .f32 (pick .f32 v5 n5), .float .f32 (pick .f32 v6 n6), .float .f32 (pick .f32 v7 n7), .float .f32 (pick .f32 v8 n8)] := by subst hw0; exact (Var.new _ _ _).alloc _
  have X1 : Var w0 (w.heap.size + 1) #[.float .f32 0, .float .f32 0, .float .f32 0, .float .f32 0, .float .f32 0, .float .f32 0, .float .f32 0, .float .f32 0, .float .f32 0] := by subst hw0; exact Var.new' _ _ _ _ (by simp)
  have X2 : Free w0 (w.heap.size + 1) := by subst hw0; exact Free.new' _ _ _ _ (by simp)
  have B0 := Lib.hid (show Below w.heap.size w w0 from by subst hw0; exact ((Below.refl _ _).alloc (Nat.le_refl _) _).alloc (by simp) _)
  have HW := Lib.hid hw0
  have c0 : w0.cell? ⟨w.heap.size, 0, none⟩ = some (.float .f32 (pick .f32 v0 n0)) := X0.2 0 (by simp)
  have c1 : w0.cell? ⟨w.heap.size, 1, none⟩ = some (.float .f32 (pick .f32 v1 n1)) := X0.2 1 (by simp)
  have c2 : w0.cell? ⟨w.heap.size, 2, none⟩ = some (.float .f32 (pick .f32 v2 n2)) := X0.2 2 (by simp)
  have c3 : w0.cell? ⟨w.heap.size, 3, none⟩ = some (.float .f32 (pick .f32 v3 n3)) := X0.2 3 (by simp)
  have c4 : w0.cell? ⟨w.heap.size, 4, none⟩ = some (.float .f32 (pick .f32 v4 n4)) := X0.2 4 (by simp)
  have c5 : w0.cell? ⟨w.heap.size, 5, none⟩ = some (.float .f32 (pick .f32 v5 n5)) := X0.2 5 (by simp)
  have c6 : w0.cell? ⟨w.heap.size, 6, none⟩ = some (.float .f32 (pick .f32 v6 n6)) := X0.2 6 (by simp)
  have c7 : w0.cell? ⟨w.heap.size, 7, none⟩ = some (.float .f32 (pick .f32 v7 n7)) := X0.2 7 (by simp)
  have c8 : w0.cell? ⟨w.heap.size, 8, none⟩ = some (.float .f32 (pick .f32 v8 n8)) := X0.2 8 (by simp)
  have i0 : ∀ w : World, (Instr.index 87 (.agg #[.float .f32 (pick .f32 v0 n0), .float .f32 (pick .f32 v1 n1), .float .f32 (pick .f32 v2 n2), .float .f32 (pick .f32 v3 n3), .float .f32 (pick .f32 v4 n4), .float .f32 (pick .f32 v5 n5), .float .f32 (pick .f32 v6 n6), .float .f32 (pick .f32 v7 n7), .float .f32 (pick .f32 v8 n8)]) (.int .i64 0)).run Try.prog w = .ok (.float .f32 (pick .f32 v0 n0)) w := fun _ => by kernel_rfl
  have i1 : ∀ w : World, (Instr.index 87 (.agg #[.float .f32 (pick .f32 v0 n0), .float .f32 (pick .f32 v1 n1), .float .f32 (pick .f32 v2 n2), .float .f32 (pick .f32 v3 n3), .float .f32 (pick .f32 v4 n4), .float .f32 (pick .f32 v5 n5), .float .f32 (pick .f32 v6 n6), .float .f32 (pick .f32 v7 n7), .float .f32 (pick .f32 v8 n8)]) (.int .i64 1)).run Try.prog w = .ok (.float .f32 (pick .f32 v1 n1)) w := fun _ => by kernel_rfl
  have i2 : ∀ w : World, (Instr.index 87 (.agg #[.float .f32 (pick .f32 v0 n0), .float .f32 (pick .f32 v1 n1), .float .f32 (pick .f32 v2 n2), .float .f32 (pick .f32 v3 n3), .float .f32 (pick .f32 v4 n4), .float .f32 (pick .f32 v5 n5), .float .f32 (pick .f32 v6 n6), .float .f32 (pick .f32 v7 n7), .float .f32 (pick .f32 v8 n8)]) (.int .i64 2)).run Try.prog w = .ok (.float .f32 (pick .f32 v2 n2)) w := fun _ => by kernel_rfl
  have i3 : ∀ w : World, (Instr.index 87 (.agg #[.float .f32 (pick .f32 v0 n0), .float .f32 (pick .f32 v1 n1), .float .f32 (pick .f32 v2 n2), .float .f32 (pick .f32 v3 n3), .float .f32 (pick .f32 v4 n4), .float .f32 (pick .f32 v5 n5), .float .f32 (pick .f32 v6 n6), .float .f32 (pick .f32 v7 n7), .float .f32 (pick .f32 v8 n8)]) (.int .i64 3)).run Try.prog w = .ok (.float .f32 (pick .f32 v3 n3)) w := fun _ => by kernel_rfl
  have i4 : ∀ w : World, (Instr.index 87 (.agg #[.float .f32 (pick .f32 v0 n0), .float .f32 (pick .f32 v1 n1), .float .f32 (pick .f32 v2 n2), .float .f32 (pick .f32 v3 n3), .float .f32 (pick .f32 v4 n4), .float .f32 (pick .f32 v5 n5), .float .f32 (pick .f32 v6 n6), .float .f32 (pick .f32 v7 n7), .float .f32 (pick .f32 v8 n8)]) (.int .i64 4)).run Try.prog w = .ok (.float .f32 (pick .f32 v4 n4)) w := fun _ => by kernel_rfl
  have i5 : ∀ w : World, (Instr.index 87 (.agg #[.float .f32 (pick .f32 v0 n0), .float .f32 (pick .f32 v1 n1), .float .f32 (pick .f32 v2 n2), .float .f32 (pick .f32 v3 n3), .float .f32 (pick .f32 v4 n4), .float .f32 (pick .f32 v5 n5), .float .f32 (pick .f32 v6 n6), .float .f32 (pick .f32 v7 n7), .float .f32 (pick .f32 v8 n8)]) (.int .i64 5)).run Try.prog w = .ok (.float .f32 (pick .f32 v5 n5)) w := fun _ => by kernel_rfl
  have i6 : ∀ w : World, (Instr.index 87 (.agg #[.float .f32 (pick .f32 v0 n0), .float .f32 (pick .f32 v1 n1), .float .f32 (pick .f32 v2 n2), .float .f32 (pick .f32 v3 n3), .float .f32 (pick .f32 v4 n4), .float .f32 (pick .f32 v5 n5), .float .f32 (pick .f32 v6 n6), .float .f32 (pick .f32 v7 n7), .float .f32 (pick .f32 v8 n8)]) (.int .i64 6)).run Try.prog w = .ok (.float .f32 (pick .f32 v6 n6)) w := fun _ => by kernel_rfl
  have i7 : ∀ w : World, (Instr.index 87 (.agg #[.float .f32 (pick .f32 v0 n0), .float .f32 (pick .f32 v1 n1), .float .f32 (pick .f32 v2 n2), .float .f32 (pick .f32 v3 n3), .float .f32 (pick .f32 v4 n4), .float .f32 (pick .f32 v5 n5), .float .f32 (pick .f32 v6 n6), .float .f32 (pick .f32 v7 n7), .float .f32 (pick .f32 v8 n8)]) (.int .i64 7)).run Try.prog w = .ok (.float .f32 (pick .f32 v7 n7)) w := fun _ => by kernel_rfl
  have i8 : ∀ w : World, (Instr.index 87 (.agg #[.float .f32 (pick .f32 v0 n0), .float .f32 (pick .f32 v1 n1), .float .f32 (pick .f32 v2 n2), .float .f32 (pick .f32 v3 n3), .float .f32 (pick .f32 v4 n4), .float .f32 (pick .f32 v5 n5), .float .f32 (pick .f32 v6 n6), .float .f32 (pick .f32 v7 n7), .float .f32 (pick .f32 v8 n8)]) (.int .i64 8)).run Try.prog w = .ok (.float .f32 (pick .f32 v8 n8)) w := fun _ => by kernel_rfl
  have V0 := Lib.hid X1
  have F0 := Lib.hid X2
  have z0 : w.heap.size + 1 < w0.heap.size := X1.lt
  clear X0 X1 X2 hw0
  go_enter Try.func129, Try.ntmps129
  go_wp2_with fail
  rw [HW.out, ← w0.drewN_zero]
  go_wp2_with fail
  rw [w0.drewN_zero]
  clear c0 c1 c2 c3 c4 c5 c6 c7 c8 HW
  refine wp_loop_rounds 10 ?_
  rw [rounds_succ]
  have f := F0.out 0
  go_wp2_with (refine upon_fop0 _ _ _ _ _ (by decide) ?_; intro k0 j0; have b := below_drewN (Below.refl w0.heap.size w0) j0; generalize w0.drewN j0 = u0 at b ⊢; have f := (F0.out.below (by omega) b) 0; have l := (V0.out.keep b).2 0 (by simp))
  have V1 : Hid (Var (u0.setCell ⟨w.heap.size + 1, 0, none⟩ (.float .f32 (pick .f32 (fop .sub .f32 v0 v0) k0))) (w.heap.size + 1) #[.float .f32 (pick .f32 (fop .sub .f32 v0 v0) k0), .float .f32 0, .float .f32 0, .float .f32 0, .float .f32 0, .float .f32 0, .float .f32 0, .float .f32 0, .float .f32 0]) := Lib.hid (var_setAt (V0.out.keep b) (i := 0) (by simp) (.float .f32 (pick .f32 (fop .sub .f32 v0 v0) k0)))
  have F1 := Lib.hid ((F0.out.below (by omega) b).setCell ⟨w.heap.size + 1, 0, none⟩ (.float .f32 (pick .f32 (fop .sub .f32 v0 v0) k0)))
  have B1 := Lib.hid ((B0.out.trans (b.mono (by omega))).setCell (p := ⟨w.heap.size + 1, 0, none⟩) (by show _ ≤ w.heap.size + 1; omega) (.float .f32 (pick .f32 (fop .sub .f32 v0 v0) k0)))
  have z1 : w.heap.size + 1 < (u0.setCell ⟨w.heap.size + 1, 0, none⟩ (.float .f32 (pick .f32 (fop .sub .f32 v0 v0) k0))).heap.size := V1.out.lt
  clear b f l i0 V0 F0 B0
  generalize u0.setCell ⟨w.heap.size + 1, 0, none⟩ (.float .f32 (pick .f32 (fop .sub .f32 v0 v0) k0)) = w1 at *
  rw [rounds_succ]
  have f := F1.out 1
  go_wp2_with (refine upon_fop0 _ _ _ _ _ (by decide) ?_; intro k1 j1; have b := below_drewN (Below.refl w1.heap.size w1) j1; generalize w1.drewN j1 = u1 at b ⊢; have f := (F1.out.below (by omega) b) 1; have l := (V1.out.keep b).2 1 (by simp))
  have V2 : Hid (Var (u1.setCell ⟨w.heap.size + 1, 1, none⟩ (.float .f32 (pick .f32 (fop .sub .f32 v1 v1) k1))) (w.heap.size + 1) #[.float .f32 (pick .f32 (fop .sub .f32 v0 v0) k0), .float .f32 (pick .f32 (fop .sub .f32 v1 v1) k1), .float .f32 0, .float .f32 0, .float .f32 0, .float .f32 0, .float .f32 0, .float .f32 0, .float .f32 0]) := Lib.hid (var_setAt (V1.out.keep b) (i := 1) (by simp) (.float .f32 (pick .f32 (fop .sub .f32 v1 v1) k1)))
  have F2 := Lib.hid ((F1.out.below (by omega) b).setCell ⟨w.heap.size + 1, 1, none⟩ (.float .f32 (pick .f32 (fop .sub .f32 v1 v1) k1)))
  have B2 := Lib.hid ((B1.out.trans (b.mono (by omega))).setCell (p := ⟨w.heap.size + 1, 1, none⟩) (by show _ ≤ w.heap.size + 1; omega) (.float .f32 (pick .f32 (fop .sub .f32 v1 v1) k1)))
  have z2 : w.heap.size + 1 < (u1.setCell ⟨w.heap.size + 1, 1, none⟩ (.float .f32 (pick .f32 (fop .sub .f32 v1 v1) k1))).heap.size := V2.out.lt
  clear b f l i1 V1 F1 B1
  generalize u1.setCell ⟨w.heap.size + 1, 1, none⟩ (.float .f32 (pick .f32 (fop .sub .f32 v1 v1) k1)) = w2 at *
  rw [rounds_succ]
  have f := F2.out 2
  go_wp2_with (refine upon_fop0 _ _ _ _ _ (by decide) ?_; intro k2 j2; have b := below_drewN (Below.refl w2.heap.size w2) j2; generalize w2.drewN j2 = u2 at b ⊢; have f := (F2.out.below (by omega) b) 2; have l := (V2.out.keep b).2 2 (by simp))
  have V3 : Hid (Var (u2.setCell ⟨w.heap.size + 1, 2, none⟩ (.float .f32 (pick .f32 (fop .sub .f32 v2 v2) k2))) (w.heap.size + 1) #[.float .f32 (pick .f32 (fop .sub .f32 v0 v0) k0), .float .f32 (pick .f32 (fop .sub .f32 v1 v1) k1), .float .f32 (pick .f32 (fop .sub .f32 v2 v2) k2), .float .f32 0, .float .f32 0, .float .f32 0, .float .f32 0, .float .f32 0, .float .f32 0]) := Lib.hid (var_setAt (V2.out.keep b) (i := 2) (by simp) (.float .f32 (pick .f32 (fop .sub .f32 v2 v2) k2)))
  have F3 := Lib.hid ((F2.out.below (by omega) b).setCell ⟨w.heap.size + 1, 2, none⟩ (.float .f32 (pick .f32 (fop .sub .f32 v2 v2) k2)))
  have B3 := Lib.hid ((B2.out.trans (b.mono (by omega))).setCell (p := ⟨w.heap.size + 1, 2, none⟩) (by show _ ≤ w.heap.size + 1; omega) (.float .f32 (pick .f32 (fop .sub .f32 v2 v2) k2)))
  have z3 : w.heap.size + 1 < (u2.setCell ⟨w.heap.size + 1, 2, none⟩ (.float .f32 (pick .f32 (fop .sub .f32 v2 v2) k2))).heap.size := V3.out.lt
  clear b f l i2 V2 F2 B2
  generalize u2.setCell ⟨w.heap.size + 1, 2, none⟩ (.float .f32 (pick .f32 (fop .sub .f32 v2 v2) k2)) = w3 at *
  rw [rounds_succ]
  have f := F3.out 3
  go_wp2_with (refine upon_fop0 _ _ _ _ _ (by decide) ?_; intro k3 j3; have b := below_drewN (Below.refl w3.heap.size w3) j3; generalize w3.drewN j3 = u3 at b ⊢; have f := (F3.out.below (by omega) b) 3; have l := (V3.out.keep b).2 3 (by simp))
  have V4 : Hid (Var (u3.setCell ⟨w.heap.size + 1, 3, none⟩ (.float .f32 (pick .f32 (fop .sub .f32 v3 v3) k3))) (w.heap.size + 1) #[.float .f32 (pick .f32 (fop .sub .f32 v0 v0) k0), .float .f32 (pick .f32 (fop .sub .f32 v1 v1) k1), .float .f32 (pick .f32 (fop .sub .f32 v2 v2) k2), .float .f32 (pick .f32 (fop .sub .f32 v3 v3) k3), .float .f32 0, .float .f32 0, .float .f32 0, .float .f32 0, .float .f32 0]) := Lib.hid (var_setAt (V3.out.keep b) (i := 3) (by simp) (.float .f32 (pick .f32 (fop .sub .f32 v3 v3) k3)))
  have F4 := Lib.hid ((F3.out.below (by omega) b).setCell ⟨w.heap.size + 1, 3, none⟩ (.float .f32 (pick .f32 (fop .sub .f32 v3 v3) k3)))
  have B4 := Lib.hid ((B3.out.trans (b.mono (by omega))).setCell (p := ⟨w.heap.size + 1, 3, none⟩) (by show _ ≤ w.heap.size + 1; omega) (.float .f32 (pick .f32 (fop .sub .f32 v3 v3) k3)))
  have z4 : w.heap.size + 1 < (u3.setCell ⟨w.heap.size + 1, 3, none⟩ (.float .f32 (pick .f32 (fop .sub .f32 v3 v3) k3))).heap.size := V4.out.lt
  clear b f l i3 V3 F3 B3
  generalize u3.setCell ⟨w.heap.size + 1, 3, none⟩ (.float .f32 (pick .f32 (fop .sub .f32 v3 v3) k3)) = w4 at *
  rw [rounds_succ]
  have f := F4.out 4
  go_wp2_with (refine upon_fop0 _ _ _ _ _ (by decide) ?_; intro k4 j4; have b := below_drewN (Below.refl w4.heap.size w4) j4; generalize w4.drewN j4 = u4 at b ⊢; have f := (F4.out.below (by omega) b) 4; have l := (V4.out.keep b).2 4 (by simp))
  have V5 : Hid (Var (u4.setCell ⟨w.heap.size + 1, 4, none⟩ (.float .f32 (pick .f32 (fop .sub .f32 v4 v4) k4))) (w.heap.size + 1) #[.float .f32 (pick .f32 (fop .sub .f32 v0 v0) k0), .float .f32 (pick .f32 (fop .sub .f32 v1 v1) k1), .float .f32 (pick .f32 (fop .sub .f32 v2 v2) k2), .float .f32 (pick .f32 (fop .sub .f32 v3 v3) k3), .float .f32 (pick .f32 (fop .sub .f32 v4 v4) k4), .float .f32 0, .float .f32 0, .float .f32 0, .float .f32 0]) := Lib.hid (var_setAt (V4.out.keep b) (i := 4) (by simp) (.float .f32 (pick .f32 (fop .sub .f32 v4 v4) k4)))
  have F5 := Lib.hid ((F4.out.below (by omega) b).setCell ⟨w.heap.size + 1, 4, none⟩ (.float .f32 (pick .f32 (fop .sub .f32 v4 v4) k4)))
  have B5 := Lib.hid ((B4.out.trans (b.mono (by omega))).setCell (p := ⟨w.heap.size + 1, 4, none⟩) (by show _ ≤ w.heap.size + 1; omega) (.float .f32 (pick .f32 (fop .sub .f32 v4 v4) k4)))
  have z5 : w.heap.size + 1 < (u4.setCell ⟨w.heap.size + 1, 4, none⟩ (.float .f32 (pick .f32 (fop .sub .f32 v4 v4) k4))).heap.size := V5.out.lt
  clear b f l i4 V4 F4 B4
  generalize u4.setCell ⟨w.heap.size + 1, 4, none⟩ (.float .f32 (pick .f32 (fop .sub .f32 v4 v4) k4)) = w5 at *
  rw [rounds_succ]
  have f := F5.out 5
  go_wp2_with (refine upon_fop0 _ _ _ _ _ (by decide) ?_; intro k5 j5; have b := below_drewN (Below.refl w5.heap.size w5) j5; generalize w5.drewN j5 = u5 at b ⊢; have f := (F5.out.below (by omega) b) 5; have l := (V5.out.keep b).2 5 (by simp))
  have V6 : Hid (Var (u5.setCell ⟨w.heap.size + 1, 5, none⟩ (.float .f32 (pick .f32 (fop .sub .f32 v5 v5) k5))) (w.heap.size + 1) #[.float .f32 (pick .f32 (fop .sub .f32 v0 v0) k0), .float .f32 (pick .f32 (fop .sub .f32 v1 v1) k1), .float .f32 (pick .f32 (fop .sub .f32 v2 v2) k2), .float .f32 (pick .f32 (fop .sub .f32 v3 v3) k3), .float .f32 (pick .f32 (fop .sub .f32 v4 v4) k4), .float .f32 (pick .f32 (fop .sub .f32 v5 v5) k5), .float .f32 0, .float .f32 0, .float .f32 0]) := Lib.hid (var_setAt (V5.out.keep b) (i := 5) (by simp) (.float .f32 (pick .f32 (fop .sub .f32 v5 v5) k5)))
  have F6 := Lib.hid ((F5.out.below (by omega) b).setCell ⟨w.heap.size + 1, 5, none⟩ (.float .f32 (pick .f32 (fop .sub .f32 v5 v5) k5)))
  have B6 := Lib.hid ((B5.out.trans (b.mono (by omega))).setCell (p := ⟨w.heap.size + 1, 5, none⟩) (by show _ ≤ w.heap.size + 1; omega) (.float .f32 (pick .f32 (fop .sub .f32 v5 v5) k5)))
  have z6 : w.heap.size + 1 < (u5.setCell ⟨w.heap.size + 1, 5, none⟩ (.float .f32 (pick .f32 (fop .sub .f32 v5 v5) k5))).heap.size := V6.out.lt
  clear b f l i5 V5 F5 B5
  generalize u5.setCell ⟨w.heap.size + 1, 5, none⟩ (.float .f32 (pick .f32 (fop .sub .f32 v5 v5) k5)) = w6 at *
  rw [rounds_succ]
  have f := F6.out 6
  go_wp2_with (refine upon_fop0 _ _ _ _ _ (by decide) ?_; intro k6 j6; have b := below_drewN (Below.refl w6.heap.size w6) j6; generalize w6.drewN j6 = u6 at b ⊢; have f := (F6.out.below (by omega) b) 6; have l := (V6.out.keep b).2 6 (by simp))
  have V7 : Hid (Var (u6.setCell ⟨w.heap.size + 1, 6, none⟩ (.float .f32 (pick .f32 (fop .sub .f32 v6 v6) k6))) (w.heap.size + 1) #[.float .f32 (pick .f32 (fop .sub .f32 v0 v0) k0), .float .f32 (pick .f32 (fop .sub .f32 v1 v1) k1), .float .f32 (pick .f32 (fop .sub .f32 v2 v2) k2), .float .f32 (pick .f32 (fop .sub .f32 v3 v3) k3), .float .f32 (pick .f32 (fop .sub .f32 v4 v4) k4), .float .f32 (pick .f32 (fop .sub .f32 v5 v5) k5), .float .f32 (pick .f32 (fop .sub .f32 v6 v6) k6), .float .f32 0, .float .f32 0]) := Lib.hid (var_setAt (V6.out.keep b) (i := 6) (by simp) (.float .f32 (pick .f32 (fop .sub .f32 v6 v6) k6)))
  have F7 := Lib.hid ((F6.out.below (by omega) b).setCell ⟨w.heap.size + 1, 6, none⟩ (.float .f32 (pick .f32 (fop .sub .f32 v6 v6) k6)))
  have B7 := Lib.hid ((B6.out.trans (b.mono (by omega))).setCell (p := ⟨w.heap.size + 1, 6, none⟩) (by show _ ≤ w.heap.size + 1; omega) (.float .f32 (pick .f32 (fop .sub .f32 v6 v6) k6)))
  have z7 : w.heap.size + 1 < (u6.setCell ⟨w.heap.size + 1, 6, none⟩ (.float .f32 (pick .f32 (fop .sub .f32 v6 v6) k6))).heap.size := V7.out.lt
  clear b f l i6 V6 F6 B6
  generalize u6.setCell ⟨w.heap.size + 1, 6, none⟩ (.float .f32 (pick .f32 (fop .sub .f32 v6 v6) k6)) = w7 at *
  rw [rounds_succ]
  have f := F7.out 7
  go_wp2_with (refine upon_fop0 _ _ _ _ _ (by decide) ?_; intro k7 j7; have b := below_drewN (Below.refl w7.heap.size w7) j7; generalize w7.drewN j7 = u7 at b ⊢; have f := (F7.out.below (by omega) b) 7; have l := (V7.out.keep b).2 7 (by simp))
  have V8 : Hid (Var (u7.setCell ⟨w.heap.size + 1, 7, none⟩ (.float .f32 (pick .f32 (fop .sub .f32 v7 v7) k7))) (w.heap.size + 1) #[.float .f32 (pick .f32 (fop .sub .f32 v0 v0) k0), .float .f32 (pick .f32 (fop .sub .f32 v1 v1) k1), .float .f32 (pick .f32 (fop .sub .f32 v2 v2) k2), .float .f32 (pick .f32 (fop .sub .f32 v3 v3) k3), .float .f32 (pick .f32 (fop .sub .f32 v4 v4) k4), .float .f32 (pick .f32 (fop .sub .f32 v5 v5) k5), .float .f32 (pick .f32 (fop .sub .f32 v6 v6) k6), .float .f32 (pick .f32 (fop .sub .f32 v7 v7) k7), .float .f32 0]) := Lib.hid (var_setAt (V7.out.keep b) (i := 7) (by simp) (.float .f32 (pick .f32 (fop .sub .f32 v7 v7) k7)))
  have F8 := Lib.hid ((F7.out.below (by omega) b).setCell ⟨w.heap.size + 1, 7, none⟩ (.float .f32 (pick .f32 (fop .sub .f32 v7 v7) k7)))
  have B8 := Lib.hid ((B7.out.trans (b.mono (by omega))).setCell (p := ⟨w.heap.size + 1, 7, none⟩) (by show _ ≤ w.heap.size + 1; omega) (.float .f32 (pick .f32 (fop .sub .f32 v7 v7) k7)))
  have z8 : w.heap.size + 1 < (u7.setCell ⟨w.heap.size + 1, 7, none⟩ (.float .f32 (pick .f32 (fop .sub .f32 v7 v7) k7))).heap.size := V8.out.lt
  clear b f l i7 V7 F7 B7
  generalize u7.setCell ⟨w.heap.size + 1, 7, none⟩ (.float .f32 (pick .f32 (fop .sub .f32 v7 v7) k7)) = w8 at *
  rw [rounds_succ]
  have f := F8.out 8
  go_wp2_with (refine upon_fop0 _ _ _ _ _ (by decide) ?_; intro k8 j8; have b := below_drewN (Below.refl w8.heap.size w8) j8; generalize w8.drewN j8 = u8 at b ⊢; have f := (F8.out.below (by omega) b) 8; have l := (V8.out.keep b).2 8 (by simp))
  have V9 : Hid (Var (u8.setCell ⟨w.heap.size + 1, 8, none⟩ (.float .f32 (pick .f32 (fop .sub .f32 v8 v8) k8))) (w.heap.size + 1) #[.float .f32 (pick .f32 (fop .sub .f32 v0 v0) k0), .float .f32 (pick .f32 (fop .sub .f32 v1 v1) k1), .float .f32 (pick .f32 (fop .sub .f32 v2 v2) k2), .float .f32 (pick .f32 (fop .sub .f32 v3 v3) k3), .float .f32 (pick .f32 (fop .sub .f32 v4 v4) k4), .float .f32 (pick .f32 (fop .sub .f32 v5 v5) k5), .float .f32 (pick .f32 (fop .sub .f32 v6 v6) k6), .float .f32 (pick .f32 (fop .sub .f32 v7 v7) k7), .float .f32 (pick .f32 (fop .sub .f32 v8 v8) k8)]) := Lib.hid (var_setAt (V8.out.keep b) (i := 8) (by simp) (.float .f32 (pick .f32 (fop .sub .f32 v8 v8) k8)))
  have F9 := Lib.hid ((F8.out.below (by omega) b).setCell ⟨w.heap.size + 1, 8, none⟩ (.float .f32 (pick .f32 (fop .sub .f32 v8 v8) k8)))
  have B9 := Lib.hid ((B8.out.trans (b.mono (by omega))).setCell (p := ⟨w.heap.size + 1, 8, none⟩) (by show _ ≤ w.heap.size + 1; omega) (.float .f32 (pick .f32 (fop .sub .f32 v8 v8) k8)))
  have z9 : w.heap.size + 1 < (u8.setCell ⟨w.heap.size + 1, 8, none⟩ (.float .f32 (pick .f32 (fop .sub .f32 v8 v8) k8))).heap.size := V9.out.lt
  clear b f l i8 V8 F8 B8
  generalize u8.setCell ⟨w.heap.size + 1, 8, none⟩ (.float .f32 (pick .f32 (fop .sub .f32 v8 v8) k8)) = w9 at *
  rw [rounds_succ]
  have l0 : w9.cell? ⟨w.heap.size + 1, 0, none⟩ = some (.float .f32 (pick .f32 (fop .sub .f32 v0 v0) k0)) := V9.out.2 0 (by simp)
  have l1 : w9.cell? ⟨w.heap.size + 1, 1, none⟩ = some (.float .f32 (pick .f32 (fop .sub .f32 v1 v1) k1)) := V9.out.2 1 (by simp)
  have l2 : w9.cell? ⟨w.heap.size + 1, 2, none⟩ = some (.float .f32 (pick .f32 (fop .sub .f32 v2 v2) k2)) := V9.out.2 2 (by simp)
  have l3 : w9.cell? ⟨w.heap.size + 1, 3, none⟩ = some (.float .f32 (pick .f32 (fop .sub .f32 v3 v3) k3)) := V9.out.2 3 (by simp)
  have l4 : w9.cell? ⟨w.heap.size + 1, 4, none⟩ = some (.float .f32 (pick .f32 (fop .sub .f32 v4 v4) k4)) := V9.out.2 4 (by simp)
  have l5 : w9.cell? ⟨w.heap.size + 1, 5, none⟩ = some (.float .f32 (pick .f32 (fop .sub .f32 v5 v5) k5)) := V9.out.2 5 (by simp)
  have l6 : w9.cell? ⟨w.heap.size + 1, 6, none⟩ = some (.float .f32 (pick .f32 (fop .sub .f32 v6 v6) k6)) := V9.out.2 6 (by simp)
  have l7 : w9.cell? ⟨w.heap.size + 1, 7, none⟩ = some (.float .f32 (pick .f32 (fop .sub .f32 v7 v7) k7)) := V9.out.2 7 (by simp)
  have l8 : w9.cell? ⟨w.heap.size + 1, 8, none⟩ = some (.float .f32 (pick .f32 (fop .sub .f32 v8 v8) k8)) := V9.out.2 8 (by simp)
  clear V9 F9
  have hq := fun w => eqMat (pick .f32 (fop .sub .f32 v0 v0) k0) (pick .f32 (fop .sub .f32 v1 v1) k1) (pick .f32 (fop .sub .f32 v2 v2) k2) (pick .f32 (fop .sub .f32 v3 v3) k3) (pick .f32 (fop .sub .f32 v4 v4) k4) (pick .f32 (fop .sub .f32 v5 v5) k5) (pick .f32 (fop .sub .f32 v6 v6) k6) (pick .f32 (fop .sub .f32 v7 v7) k7) (pick .f32 (fop .sub .f32 v8 v8) k8) w
  simp only [order_pick_l, sub_self_zero] at hq
  go_wp2_with fail
  go_ret
  exact ⟨rfl, B9.out⟩
/-! ### matrixOf -/
theorem c_matrixOf (zs : List Nat) (a : Option Addr) (c : Nat) (w : World) (hr : IsRowF .f32 w a zs.length c zs) : Calls Try.prog 63 #[.slice a zs.length c] w (fun e w' => ∃ (z : List Nat) (m : Nat → Nat), e = .returned (.tuple #[.agg #[.float .f32 (pick .f32 (fat z 0) (m 0)), .float .f32 (pick .f32 (fat z 1) (m 1)), .float .f32 (pick .f32 (fat z 2) (m 2)), .float .f32 (pick .f32 (fat z 3) (m 3)), .float .f32 (pick .f32 (fat z 4) (m 4)), .float .f32 (pick .f32 (fat z 5) (m 5)), .float .f32 (pick .f32 (fat z 6) (m 6)), .float .f32 (pick .f32 (fat z 7) (m 7)), .float .f32 (pick .f32 (fat z 8) (m 8))], .bool (matB zs)]) ∧ (matB zs = true → z = zs) ∧ Below w.heap.size w w') := by
  generalize hw0 : w.alloc (Obj.cells #[.float .f32 0, .float .f32 0, .float .f32 0, .float .f32 0, .float .f32 0, .float .f32 0, .float .f32 0, .float .f32 0, .float .f32 0] 87) = w0
  have X1 : Var w0 w.heap.size #[.float .f32 0, .float .f32 0, .float .f32 0, .float .f32 0, .float .f32 0, .float .f32 0, .float .f32 0, .float .f32 0, .float .f32 0] := by subst hw0; exact Var.new _ _ _
  have X2 : Free w0 w.heap.size := by subst hw0; exact Free.new _ _ _
  have X3 : Below w.heap.size w w0 := by subst hw0; exact (Below.refl _ _).alloc (Nat.le_refl _) _
  have sz : w0.heap.size = w.heap.size + 1 := by subst hw0; simp
  have HW := Lib.hid hw0
  have V0 := Lib.hid X1
  have F0 := Lib.hid X2
  have BB := Lib.hid X3
  have z0 : w.heap.size < w0.heap.size := X1.lt
  have R0 := Lib.hid (hr.below X3)
  have mA : zs.length ≤ maxLen := Nat.le_trans hr.2.1 hr.2.2.1
  unfold maxLen at mA
  clear hw0 hr
  by_cases h9 : zs.length = 9
  case neg =>
    have hm : matB zs = false := by unfold matB; rw [decide_eq_false h9]; rfl
    rw [hm]
    have h9' : ¬ ((zs.length : Int) = 9) := by omega
    have q0 : w0.cell? ⟨w.heap.size, 0, none⟩ = some (.float .f32 0) := X1.2 0 (by simp)
    have q1 : w0.cell? ⟨w.heap.size, 1, none⟩ = some (.float .f32 0) := X1.2 1 (by simp)
    have q2 : w0.cell? ⟨w.heap.size, 2, none⟩ = some (.float .f32 0) := X1.2 2 (by simp)
    have q3 : w0.cell? ⟨w.heap.size, 3, none⟩ = some (.float .f32 0) := X1.2 3 (by simp)
    have q4 : w0.cell? ⟨w.heap.size, 4, none⟩ = some (.float .f32 0) := X1.2 4 (by simp)
    have q5 : w0.cell? ⟨w.heap.size, 5, none⟩ = some (.float .f32 0) := X1.2 5 (by simp)
    have q6 : w0.cell? ⟨w.heap.size, 6, none⟩ = some (.float .f32 0) := X1.2 6 (by simp)
    have q7 : w0.cell? ⟨w.heap.size, 7, none⟩ = some (.float .f32 0) := X1.2 7 (by simp)
    have q8 : w0.cell? ⟨w.heap.size, 8, none⟩ = some (.float .f32 0) := X1.2 8 (by simp)
    have f0 := X2 0
    have f1 := X2 1
    have f2 := X2 2
    have f3 := X2 3
    have f4 := X2 4
    have f5 := X2 5
    have f6 := X2 6
    have f7 := X2 7
    have f8 := X2 8
    clear X1 X2 X3
    go_enter Try.func63, Try.ntmps63
    go_wp2_with fail
    rw [HW.out]
    go_wp2_with fail
    refine bodyPost_ret (v := .tuple #[.agg #[.float .f32 0, .float .f32 0, .float .f32 0, .float .f32 0, .float .f32 0, .float .f32 0, .float .f32 0, .float .f32 0, .float .f32 0], .bool false]) (by simp [results, Try.results63, q0, q1, q2, q3, q4, q5, q6, q7, q8, go_sem]) rfl ⟨List.replicate 9 0, fun _ => 0, by simp [fat, pick00], fun h => by simp at h, ?_⟩
    repeat (first | exact Below.refl _ _ | exact BB.out | exact Nat.le_refl _ | (refine Below.setCell ?_ ?_ _) | (refine below_drewN ?_ _) | (refine Below.alloc ?_ ?_ _) | (simp <;> omega))
  case pos =>
  obtain ⟨b, off, n0, rfl, hb, e0⟩ := R0.out.at (k := 0) (by omega)
  obtain ⟨b1, o1, n1, hab1, hb1, e1⟩ := R0.out.at (k := 1) (by omega)
  cases hab1
  obtain ⟨b2, o2, n2, hab2, hb2, e2⟩ := R0.out.at (k := 2) (by omega)
  cases hab2
  obtain ⟨b3, o3, n3, hab3, hb3, e3⟩ := R0.out.at (k := 3) (by omega)
  cases hab3
  obtain ⟨b4, o4, n4, hab4, hb4, e4⟩ := R0.out.at (k := 4) (by omega)
  cases hab4
  obtain ⟨b5, o5, n5, hab5, hb5, e5⟩ := R0.out.at (k := 5) (by omega)
  cases hab5
  obtain ⟨b6, o6, n6, hab6, hb6, e6⟩ := R0.out.at (k := 6) (by omega)
  cases hab6
  obtain ⟨b7, o7, n7, hab7, hb7, e7⟩ := R0.out.at (k := 7) (by omega)
  cases hab7
  obtain ⟨b8, o8, n8, hab8, hb8, e8⟩ := R0.out.at (k := 8) (by omega)
  cases hab8
  simp only [Nat.add_zero] at e0
  rw [← HW.out] at e0 e1 e2 e3 e4 e5 e6 e7 e8
  have HM := Lib.hid (show matB zs = fin9 zs by unfold matB; rw [decide_eq_true h9, Bool.true_and, fin9_eq h9])
  have CF := Lib.hid (fun (w : World) => (c_matFin9 (fat zs 0) (fat zs 1) (fat zs 2) (fat zs 3) (fat zs 4) (fat zs 5) (fat zs 6) (fat zs 7) (fat zs 8) n0 n1 n2 n3 n4 n5 n6 n7 n8 w : Calls Try.prog 129 #[.agg #[.float .f32 (pick .f32 (fat zs 0) n0), .float .f32 (pick .f32 (fat zs 1) n1), .float .f32 (pick .f32 (fat zs 2) n2), .float .f32 (pick .f32 (fat zs 3) n3), .float .f32 (pick .f32 (fat zs 4) n4), .float .f32 (pick .f32 (fat zs 5) n5), .float .f32 (pick .f32 (fat zs 6) n6), .float .f32 (pick .f32 (fat zs 7) n7), .float .f32 (pick .f32 (fat zs 8) n8)]] w (RetB (.bool (fin9 zs)) w)))
  have hc9 : 9 ≤ c := by have := R0.out.2.1; omega
  have hcm : c ≤ maxLen := R0.out.2.2.1
  unfold maxLen at hcm
  rw [h9]
  clear X1 X2 X3 h9
  have hat : ∀ w, (Instr.arrayAt 87 (.slice (some ⟨b, off, none⟩) 9 c)).run Try.prog w = .ok (.pointer (some ⟨b, off, none⟩)) w := fun w => by simp [Instr.arrayAt, run_underlying Try.underlying87]
  go_enter Try.func63, Try.ntmps63
  go_wp2_with fail
  rw [HW.out]
  clear HW hat hb hb1 hb2 hb3 hb4 hb5 hb6 hb7 hb8 e0 e1 e2 e3 e4 e5 e6 e7 e8
  generalize hw1 : w0.alloc (Obj.cells #[.float .f32 (pick .f32 (fat zs 0) n0), .float .f32 (pick .f32 (fat zs 1) n1), .float .f32 (pick .f32 (fat zs 2) n2), .float .f32 (pick .f32 (fat zs 3) n3), .float .f32 (pick .f32 (fat zs 4) n4), .float .f32 (pick .f32 (fat zs 5) n5), .float .f32 (pick .f32 (fat zs 6) n6), .float .f32 (pick .f32 (fat zs 7) n7), .float .f32 (pick .f32 (fat zs 8) n8)] 87) = w1
  have X1 : Var w1 (w.heap.size + 1) #[.float .f32 (pick .f32 (fat zs 0) n0), .float .f32 (pick .f32 (fat zs 1) n1), .float .f32 (pick .f32 (fat zs 2) n2), .float .f32 (pick .f32 (fat zs 3) n3), .float .f32 (pick .f32 (fat zs 4) n4), .float .f32 (pick .f32 (fat zs 5) n5), .float .f32 (pick .f32 (fat zs 6) n6), .float .f32 (pick .f32 (fat zs 7) n7), .float .f32 (pick .f32 (fat zs 8) n8)] := by subst hw1; exact Var.new' _ _ _ _ sz.symm
  have X3 : Below w0.heap.size w0 w1 := by subst hw1; exact (Below.refl _ _).alloc (Nat.le_refl _) _
  have V1 := Lib.hid (V0.out.keep X3)
  have F1 := Lib.hid (F0.out.below z0 X3)
  have B1 := Lib.hid (BB.out.trans (X3.mono (by omega)))
  have z1 : w0.heap.size < w1.heap.size := by rw [sz]; exact X1.lt
  have U1 := Lib.hid X1
  clear hw1 X1 X3
  have KS := Lib.hid (fun (w' : World) (hE : Below w1.heap.size w1 w') => (⟨(U1.out.keep hE).2 0 (by simp), (U1.out.keep hE).2 1 (by simp), (U1.out.keep hE).2 2 (by simp), (U1.out.keep hE).2 3 (by simp), (U1.out.keep hE).2 4 (by simp), (U1.out.keep hE).2 5 (by simp), (U1.out.keep hE).2 6 (by simp), (U1.out.keep hE).2 7 (by simp), (U1.out.keep hE).2 8 (by simp)⟩ : w'.cell? ⟨w.heap.size + 1, 0, none⟩ = some (.float .f32 (pick .f32 (fat zs 0) n0)) ∧ w'.cell? ⟨w.heap.size + 1, 1, none⟩ = some (.float .f32 (pick .f32 (fat zs 1) n1)) ∧ w'.cell? ⟨w.heap.size + 1, 2, none⟩ = some (.float .f32 (pick .f32 (fat zs 2) n2)) ∧ w'.cell? ⟨w.heap.size + 1, 3, none⟩ = some (.float .f32 (pick .f32 (fat zs 3) n3)) ∧ w'.cell? ⟨w.heap.size + 1, 4, none⟩ = some (.float .f32 (pick .f32 (fat zs 4) n4)) ∧ w'.cell? ⟨w.heap.size + 1, 5, none⟩ = some (.float .f32 (pick .f32 (fat zs 5) n5)) ∧ w'.cell? ⟨w.heap.size + 1, 6, none⟩ = some (.float .f32 (pick .f32 (fat zs 6) n6)) ∧ w'.cell? ⟨w.heap.size + 1, 7, none⟩ = some (.float .f32 (pick .f32 (fat zs 7) n7)) ∧ w'.cell? ⟨w.heap.size + 1, 8, none⟩ = some (.float .f32 (pick .f32 (fat zs 8) n8))))
  refine wp_region_facts 3 (fun a b => Below a.heap.size a b) (fun _ => Below.refl _ _) (fun _ _ _ h h' => h.trans (h'.mono h.size)) (Below.refl _ _).drew (by kernel_rfl) (by kernel_rfl) (by kernel_rfl) (by kernel_rfl) ?_
  simp only [List.take_succ_cons, List.take_zero, List.drop_succ_cons, List.drop_zero]
  (with_reducible apply wpF_val); (focus (intro vs w' hE hk; (obtain ⟨d0, d1, d2, d3, d4, d5, d6, d7, d8⟩ := KS.out w' hE); go_simp; exact ⟨Below.refl _ _, rfl⟩)); (simp only [Act.put, List.setIfInBounds_toArray, List.set_cons_zero, List.set_cons_succ, List.cons_append, List.nil_append])
  (with_reducible apply wpF_val); (focus (intro vs w' hE hk; (obtain ⟨d0, d1, d2, d3, d4, d5, d6, d7, d8⟩ := KS.out w' hE); go_simp; exact ⟨Below.refl _ _, rfl⟩)); (simp only [Act.put, List.setIfInBounds_toArray, List.set_cons_zero, List.set_cons_succ, List.cons_append, List.nil_append])
  (with_reducible apply wpF_val); (focus (intro vs w' hE hk; (obtain ⟨d0, d1, d2, d3, d4, d5, d6, d7, d8⟩ := KS.out w' hE); go_simp; refine (CF.out _).mono ?_; rintro _ w9 ⟨rfl, b⟩; exact ⟨_, rfl, b, rfl⟩)); (simp only [Act.put, List.setIfInBounds_toArray, List.set_cons_zero, List.set_cons_succ, List.cons_append, List.nil_append])
  refine wpF_nil (fun vs w' hE hk => ?_)
  have V2 := Lib.hid (V1.out.keep hE)
  have F2 := Lib.hid (F1.out.below (by omega) hE)
  have B2 := Lib.hid (B1.out.trans (hE.mono (by omega)))
  have z2 : w1.heap.size ≤ w'.heap.size := hE.size
  clear hE hk
  have q0 : w'.cell? ⟨w.heap.size, 0, none⟩ = some (.float .f32 0) := V2.out.2 0 (by simp)
  have q1 : w'.cell? ⟨w.heap.size, 1, none⟩ = some (.float .f32 0) := V2.out.2 1 (by simp)
  have q2 : w'.cell? ⟨w.heap.size, 2, none⟩ = some (.float .f32 0) := V2.out.2 2 (by simp)
  have q3 : w'.cell? ⟨w.heap.size, 3, none⟩ = some (.float .f32 0) := V2.out.2 3 (by simp)
  have q4 : w'.cell? ⟨w.heap.size, 4, none⟩ = some (.float .f32 0) := V2.out.2 4 (by simp)
  have q5 : w'.cell? ⟨w.heap.size, 5, none⟩ = some (.float .f32 0) := V2.out.2 5 (by simp)
  have q6 : w'.cell? ⟨w.heap.size, 6, none⟩ = some (.float .f32 0) := V2.out.2 6 (by simp)
  have q7 : w'.cell? ⟨w.heap.size, 7, none⟩ = some (.float .f32 0) := V2.out.2 7 (by simp)
  have q8 : w'.cell? ⟨w.heap.size, 8, none⟩ = some (.float .f32 0) := V2.out.2 8 (by simp)
  have f0 := F2.out 0
  have f1 := F2.out 1
  have f2 := F2.out 2
  have f3 := F2.out 3
  have f4 := F2.out 4
  have f5 := F2.out 5
  have f6 := F2.out 6
  have f7 := F2.out 7
  have f8 := F2.out 8
  go_wp2_with fail
  refine bodyPost_ret (v := .tuple #[.agg #[.float .f32 (pick .f32 (fat zs 0) n0), .float .f32 (pick .f32 (fat zs 1) n1), .float .f32 (pick .f32 (fat zs 2) n2), .float .f32 (pick .f32 (fat zs 3) n3), .float .f32 (pick .f32 (fat zs 4) n4), .float .f32 (pick .f32 (fat zs 5) n5), .float .f32 (pick .f32 (fat zs 6) n6), .float .f32 (pick .f32 (fat zs 7) n7), .float .f32 (pick .f32 (fat zs 8) n8)], .bool (fin9 zs)]) (by simp [results, fin9, Try.results63, q0, q1, q2, q3, q4, q5, q6, q7, q8, go_sem]) rfl ⟨zs, (fun i => ([n0, n1, n2, n3, n4, n5, n6, n7, n8] : List Nat).getD i 0), by rw [HM.out]; rfl, fun _ => rfl, (((((((((B2.out.setCell (Nat.le_refl _) _).setCell (Nat.le_refl _) _).setCell (Nat.le_refl _) _).setCell (Nat.le_refl _) _).setCell (Nat.le_refl _) _).setCell (Nat.le_refl _) _).setCell (Nat.le_refl _) _).setCell (Nat.le_refl _) _).setCell (Nat.le_refl _) _)⟩

/-! ### IsNaN -/
theorem c_IsNaN (v n : Nat) (w : World) (j : Nat) : Calls Try.prog 171 #[.float .f64 (pick .f64 v n)] (w.drewN j) (RetV (.bool (isN .f64 v)) w) := by
  go_enter Try.func171, Try.ntmps171
  go_wp2
  go_ret
  exact ⟨_, rfl, rfl⟩
/-! ### f64bits -/
@[go_sem] theorem e_f64bits (b : Nat) (w : World) : (callFunc 189 #[.float .f64 b]).run Try.prog w = .ok (.value (.int .u64 b)) w := by kernel_rfl
/-! ### f64from -/
@[go_sem] theorem e_f64from (n : Int) (w : World) : (callFunc 188 #[.int .u64 n]).run Try.prog w = .ok (.value (.float .f64 n.toNat)) w := by kernel_rfl
/-! ### Abs -/
theorem c_Abs (v n : Nat) (w : World) (j : Nat) (hv : v < 2 ^ FloatKind.f64.format.width) : Calls Try.prog 180 #[.float .f64 (pick .f64 v n)] (w.drewN j) (RetF .f64 (fabs .f64 v) w) := by
  have hb := abs_bits hv n
  go_enter Try.func180, Try.ntmps180
  go_wp2
  go_ret
  exact ⟨_, _, rfl, rfl⟩
/-! ### IsInf0 -/
theorem c_IsInf0 (v n : Nat) (w : World) (j : Nat) (hv : v < 2 ^ FloatKind.f64.format.width) : Calls Try.prog 172 #[.float .f64 (pick .f64 v n), .int .i64 0] (w.drewN j) (RetV (.bool (FloatKind.f64.format.order (fabs .f64 v) 9218868437227405311 == some .gt)) w) := by
  go_enter Try.func172, Try.ntmps172
  go_wp2_with ((go_at_call 180; refine (c_Abs _ _ _ _ hv).mono ?_; rintro _ _ ⟨_, _, rfl, rfl⟩))
  go_ret
  exact ⟨_, rfl, rfl⟩
/-! ### isFinite64 -/
theorem c_isFinite64 (v n : Nat) (w : World) (j : Nat) (hv : v < 2 ^ FloatKind.f64.format.width) : Calls Try.prog 143 #[.float .f64 (pick .f64 v n)] (w.drewN j) (RetV (.bool (finB .f64 v)) w) := by
  go_enter Try.func143, Try.ntmps143
  go_wp2_with (first | (go_at_call 171; refine (c_IsNaN _ _ _ _).mono ?_; rintro _ _ ⟨_, rfl, rfl⟩) | (go_at_call 172; refine (c_IsInf0 _ _ _ _ hv).mono ?_; rintro _ _ ⟨_, rfl, rfl⟩))
  all_goals
    go_ret
    refine ⟨_, ?_, rfl⟩
    rw [← abs_gt_max]
    simp [*]
/-! ### iIsFinite -/
theorem c_iIsFinite (v n : Nat) (w : World) (j : Nat) : Calls Try.prog 95 #[.float .f32 (pick .f32 v n)] (w.drewN j) (RetV (.bool (finB .f32 v)) w) := by
  go_enter Try.func95, Try.ntmps95
  go_wp2_with (first | (refine wpList_cvU rfl 23 70 _ rfl (Option.isSome_iff_exists.2 ⟨_, Try.underlying23⟩) Try.underlying70 _ rfl _ ?_; intro _ _) | (go_at_call 143; refine (c_isFinite64 _ _ _ _ (cvU_lt _)).mono ?_; rintro _ _ ⟨_, rfl, rfl⟩))
  go_ret
  rw [← finB_cvU]
  exact ⟨_, rfl, rfl⟩
/-! ### areFinite -/
theorem c_areFinite (a : Option Addr) (len cap : Nat) (zs : List Nat) (w : World) (j0 : Nat) (hr : IsRowF .f32 w a len cap zs) : Calls Try.prog 131 #[.slice a len cap] (w.drewN j0) (RetV (.bool (finL zs)) w) := by
  obtain ⟨h1, h2, h3, h4, h5⟩ := hr
  unfold maxLen at h3
  have H1 := Lib.hid h1
  clear h1
  go_enter Try.func131, Try.ntmps131
  go_wp2
  go_loopw [4, 7] (fun _ i wr => ∃ k m : Nat, k ≤ len ∧ i = .int .i64 k ∧ wr = w.drewN m ∧ finL (zs.take k) = true) (fun _ i _ => len - (intOf i).toNat)
  case atStart => exact ⟨0, j0, Nat.zero_le _, rfl, rfl, rfl⟩
  case round =>
    obtain ⟨k, m, hk, rfl, rfl, hfin⟩ := hrel
    have HFin := Lib.hid hfin
    clear hfin
    by_cases hlt : k < len
    · rcases h5 with h5 | ⟨b, off, rfl, hbl, hc⟩
      · omega
      have hcell : w.cell? ⟨b, off + k, none⟩ = some (.float .f32 (fat zs k)) := hc k hlt
      obtain ⟨n, hn⟩ := pick0 .f32 (fat zs k) (lt_of_wf (h4 _ (by unfold fat; rw [List.getD, List.getElem?_eq_getElem (by have := H1.out; omega)]; exact List.getElem_mem _)))
      rw [hn] at hcell
      have HS := Lib.hid (finL_snoc zs k (by have := H1.out; omega))
      cases hf : finB .f32 (fat zs k)
      · have HO := Lib.hid (finL_of zs k (by have := H1.out; omega) hf)
        clear hc h4 hn
        go_wp2_with ((go_at_call 95; refine (c_iIsFinite _ _ _ _).mono ?_; rintro _ _ ⟨_, rfl, rfl⟩))
        go_ret
        exact ⟨_, by rw [HO.out]; rfl, rfl⟩
      · have HF := Lib.hid hf
        clear hc h4 hn
        go_wp2_with ((go_at_call 95; refine (c_iIsFinite _ _ _ _).mono ?_; rintro _ _ ⟨_, rfl, rfl⟩))
        go_roundw
        case rel => exact ⟨k + 1, _, by omega, by go_num, rfl, by rw [HS.out, HFin.out, HF.out]; rfl⟩
        case measure => simp [intOf]; omega
    · have e : zs.take k = zs := List.take_of_length_le (by have := H1.out; omega)
      have HE := Lib.hid e
      clear h5 h4 e
      go_wp2
      go_ret
      exact ⟨_, by have h := HFin.out; rw [HE.out] at h; rw [h]; rfl, rfl⟩
/-! ### areFinN -/
theorem c_areFinW (a : Option Addr) (len cap : Nat) (zs : List Nat) (w : World) (hr : IsRowF .f32 w a len cap zs) : Calls Try.prog 131 #[.slice a len cap] w (RetV (.bool (finL zs)) w) := by
  have h := c_areFinite a len cap zs w 0 hr
  rwa [w.drewN_zero] at h
theorem row_new (w : World) (b : Nat) (vs : List Nat) (T : TypeId) (hb : b = w.heap.size) (hl : vs.length ≤ 1000) (hwf : ∀ x ∈ vs, (Lit.float .f32 x).wf = true) : IsRowF .f32 (w.alloc (.cells (fl .f32 vs).toArray T)) (some ⟨b, 0, none⟩) vs.length vs.length vs := by
  subst hb
  exact rowF_of_block (heap_alloc_new w _) (by unfold maxLen; omega) hwf

/-! ### isColor -/
theorem c_isColor (r n g m b k : Nat) (w : World) (hr : r < 2 ^ FloatKind.f32.format.width) (hg : g < 2 ^ FloatKind.f32.format.width) (hb : b < 2 ^ FloatKind.f32.format.width) : Calls Try.prog 65 #[.agg #[.float .f32 (pick .f32 r n), .float .f32 (pick .f32 g m), .float .f32 (pick .f32 b k)]] w (RetB (.bool (colB r g b)) w) := by
  have AF := Lib.hid (fun (w : World) (z : Nat) (hz : z = w.heap.size) => @id (Calls Try.prog 131 #[.slice (some ⟨z, 0, none⟩) 3 3] (w.alloc (.cells #[.float .f32 (pick .f32 r n), .float .f32 (pick .f32 g m), .float .f32 (pick .f32 b k)] 23)) (RetV (.bool (colB r g b)) (w.alloc (.cells #[.float .f32 (pick .f32 r n), .float .f32 (pick .f32 g m), .float .f32 (pick .f32 b k)] 23)))) (by
    have h := c_areFinW _ _ _ _ _ (row_new w z [pick .f32 r n, pick .f32 g m, pick .f32 b k] 23 hz (by simp) (by intro x hx; simp at hx; rcases hx with rfl | rfl | rfl <;> exact pick_wf (by assumption) _))
    rwa [fin3] at h))
  generalize colB r g b = q at *
  go_enter Try.func65, Try.ntmps65
  go_wp2_with fail
  refine (AF.out _ _ (by simp)).mono ?_
  rintro _ _ ⟨m1, rfl, rfl⟩
  go_wp2_with fail
  go_ret
  exact ⟨rfl, below_drewN (((Below.refl _ _).alloc (Nat.le_refl _) _).alloc (by simp) _) _⟩
/-! ### iTurnColor -/
theorem c_iTurnColor (zs : List Nat) (a : Option Addr) (c : Nat) (r nr g ng b nb : Nat) (w : World) (rA : IsRowF .f32 w a zs.length c zs) (hr : r < 2 ^ FloatKind.f32.format.width) (hg : g < 2 ^ FloatKind.f32.format.width) (hb : b < 2 ^ FloatKind.f32.format.width) : Calls Try.prog 18 #[.slice a zs.length c, .agg #[.float .f32 (pick .f32 r nr), .float .f32 (pick .f32 g ng), .float .f32 (pick .f32 b nb)]] w (ColB2 (turnC zs r g b) w) := by
  generalize hw0 : (w.alloc (Obj.cells #[.float .f32 (pick .f32 r nr), .float .f32 (pick .f32 g ng), .float .f32 (pick .f32 b nb)] 26)).alloc (Obj.cells #[.float .f32 0, .float .f32 0, .float .f32 0] 26) = w0
  have X0 : Var w0 w.heap.size #[.float .f32 (pick .f32 r nr), .float .f32 (pick .f32 g ng), .float .f32 (pick .f32 b nb)] := by subst hw0; exact (Var.new _ _ _).alloc _
  have X1 : Var w0 (w.heap.size + 1) #[.float .f32 0, .float .f32 0, .float .f32 0] := by subst hw0; exact Var.new' _ _ _ _ (by simp)
  have X2 : Free w0 (w.heap.size + 1) := by subst hw0; exact Free.new' _ _ _ _ (by simp)
  have X3 : Below w.heap.size w w0 := by subst hw0; exact ((Below.refl _ _).alloc (Nat.le_refl _) _).alloc (by simp) _
  have HW := Lib.hid hw0
  have V0 := Lib.hid X0
  have V1 := Lib.hid X1
  have F1 := Lib.hid X2
  have B0 := Lib.hid X3
  have z0 : w.heap.size + 1 < w0.heap.size := X1.lt
  have R0 := Lib.hid (rA.below X3)
  clear hw0 X0 X1 X2 X3 rA
  have CM := Lib.hid (c_matrixOf zs a c w0 R0.out)
  obtain ⟨res, hres0⟩ : ∃ q, q = turnC zs r g b := ⟨_, rfl⟩
  rw [← hres0]
  have HR := Lib.hid hres0
  clear hres0
  go_enter Try.func18, Try.ntmps18
  go_wp2_with fail
  rw [HW.out]
  refine CM.out.mono ?_
  rintro _ w1 ⟨z, m, rfl, hz, b1⟩
  have HZ := Lib.hid hz
  have V2 := V0.out.keep b1
  have U2 := Lib.hid (V1.out.keep b1)
  have F2 := Lib.hid (F1.out.below z0 b1)
  have B1 := Lib.hid (B0.out.trans (b1.mono (by omega)))
  have z1 : w0.heap.size ≤ w1.heap.size := b1.size
  have zb : w.heap.size < w1.heap.size := by omega
  obtain ⟨N, hN⟩ : ∃ N, N = w1.alloc (.cells #[.float .f32 (pick .f32 (fat z 0) (m 0)), .float .f32 (pick .f32 (fat z 1) (m 1)), .float .f32 (pick .f32 (fat z 2) (m 2)), .float .f32 (pick .f32 (fat z 3) (m 3)), .float .f32 (pick .f32 (fat z 4) (m 4)), .float .f32 (pick .f32 (fat z 5) (m 5)), .float .f32 (pick .f32 (fat z 6) (m 6)), .float .f32 (pick .f32 (fat z 7) (m 7)), .float .f32 (pick .f32 (fat z 8) (m 8))] 87) := ⟨_, rfl⟩
  have VN := hN ▸ Var.new w1 #[.float .f32 (pick .f32 (fat z 0) (m 0)), .float .f32 (pick .f32 (fat z 1) (m 1)), .float .f32 (pick .f32 (fat z 2) (m 2)), .float .f32 (pick .f32 (fat z 3) (m 3)), .float .f32 (pick .f32 (fat z 4) (m 4)), .float .f32 (pick .f32 (fat z 5) (m 5)), .float .f32 (pick .f32 (fat z 6) (m 6)), .float .f32 (pick .f32 (fat z 7) (m 7)), .float .f32 (pick .f32 (fat z 8) (m 8))] 87
  have E1 : Below w1.heap.size w1 N := hN ▸ (Below.refl _ _).alloc (Nat.le_refl _) _
  have HN := Lib.hid hN.symm
  obtain ⟨c0, c1, c2⟩ := (V2.keep E1).three
  have d0 : N.cell? ⟨w1.heap.size, 0, none⟩ = some (.float .f32 (pick .f32 (fat z 0) (m 0))) := VN.2 0 (by simp)
  have d1 : N.cell? ⟨w1.heap.size, 1, none⟩ = some (.float .f32 (pick .f32 (fat z 1) (m 1))) := VN.2 1 (by simp)
  have d2 : N.cell? ⟨w1.heap.size, 2, none⟩ = some (.float .f32 (pick .f32 (fat z 2) (m 2))) := VN.2 2 (by simp)
  have d3 : N.cell? ⟨w1.heap.size, 3, none⟩ = some (.float .f32 (pick .f32 (fat z 3) (m 3))) := VN.2 3 (by simp)
  have d4 : N.cell? ⟨w1.heap.size, 4, none⟩ = some (.float .f32 (pick .f32 (fat z 4) (m 4))) := VN.2 4 (by simp)
  have d5 : N.cell? ⟨w1.heap.size, 5, none⟩ = some (.float .f32 (pick .f32 (fat z 5) (m 5))) := VN.2 5 (by simp)
  have d6 : N.cell? ⟨w1.heap.size, 6, none⟩ = some (.float .f32 (pick .f32 (fat z 6) (m 6))) := VN.2 6 (by simp)
  have d7 : N.cell? ⟨w1.heap.size, 7, none⟩ = some (.float .f32 (pick .f32 (fat z 7) (m 7))) := VN.2 7 (by simp)
  have d8 : N.cell? ⟨w1.heap.size, 8, none⟩ = some (.float .f32 (pick .f32 (fat z 8) (m 8))) := VN.2 8 (by simp)
  rw [hN] at c0 c1 c2 d0 d1 d2 d3 d4 d5 d6 d7 d8
  have V3 := Lib.hid (V2.keep E1)
  have U3 := Lib.hid (U2.out.keep E1)
  have F3 := Lib.hid (F2.out.below (by omega) E1)
  have B3 := Lib.hid (B1.out.trans (E1.mono (by omega)))
  have z3 : w1.heap.size < N.heap.size := VN.lt
  clear b1 hz V2 VN E1 hN
  go_wp2_with fail
  rw [HN.out]
  clear c0 c1 c2 d0 d1 d2 d3 d4 d5 d6 d7 d8 HN
  refine (c_turned z m r nr g ng b nb N).mono ?_
  rintro _ w4 ⟨k0, k1, k2, rfl, b4⟩
  obtain ⟨T, hT⟩ : ∃ T, T = turn3 z r g b := ⟨_, rfl⟩
  rw [← hT]
  have HT := Lib.hid hT
  have hlt : T.1 < 2 ^ FloatKind.f32.format.width ∧ T.2.1 < 2 ^ FloatKind.f32.format.width ∧ T.2.2 < 2 ^ FloatKind.f32.format.width := by rw [hT]; exact ⟨turnV_lt _ _ _ _ _ _, turnV_lt _ _ _ _ _ _, turnV_lt _ _ _ _ _ _⟩
  clear hT
  obtain ⟨t0, t1, t2⟩ := T
  simp only at hlt ⊢
  have V4 := V3.out.keep b4
  have U4 := Lib.hid (U3.out.keep b4)
  have F4 := Lib.hid (F3.out.below (by omega) b4)
  have B4 := Lib.hid (B3.out.trans (b4.mono (by omega)))
  have z4 : N.heap.size ≤ w4.heap.size := b4.size
  obtain ⟨M, hM⟩ : ∃ M, M = w4.alloc (.cells #[.float .f32 (pick .f32 t0 k0), .float .f32 (pick .f32 t1 k1), .float .f32 (pick .f32 t2 k2)] 26) := ⟨_, rfl⟩
  have VM := hM ▸ Var.new w4 #[.float .f32 (pick .f32 t0 k0), .float .f32 (pick .f32 t1 k1), .float .f32 (pick .f32 t2 k2)] 26
  have E4 : Below w4.heap.size w4 M := hM ▸ (Below.refl _ _).alloc (Nat.le_refl _) _
  have HM := Lib.hid hM.symm
  obtain ⟨c0, c1, c2⟩ := (V4.keep E4).three
  rw [hM] at c0 c1 c2
  have V5 := Lib.hid (V4.keep E4)
  have U5 := Lib.hid (U4.out.keep E4)
  have F5 := Lib.hid (F4.out.below (by omega) E4)
  have B5 := Lib.hid (B4.out.trans (E4.mono (by omega)))
  have T5 := Lib.hid VM
  have z5 : w4.heap.size < M.heap.size := VM.lt
  have q5 := U5.out.three
  have g5 := F5.out
  rw [hM] at q5 g5
  obtain ⟨q0, q1, q2⟩ := q5
  have f0 := g5 0
  have f1 := g5 1
  have f2 := g5 2
  have BM := Lib.hid (show Below w.heap.size w (w4.alloc (.cells #[.float .f32 (pick .f32 t0 k0), .float .f32 (pick .f32 t1 k1), .float .f32 (pick .f32 t2 k2)] 26)) from hM ▸ B5.out)
  clear b4 V4 VM E4 hM g5
  cases hm : matB zs
  · have hres : turnC zs r g b = ((0, 0, 0), false) := by unfold turnC; rw [hm]; rfl
    have HQ := Lib.hid (HR.out.trans hres)
    clear HT HZ hres hlt
    go_wp2_with fail
    refine bodyPost_ret (v := .tuple #[.agg #[.float .f32 0, .float .f32 0, .float .f32 0], .bool false]) (by simp [results, Try.results18, q0, q1, q2, go_sem]) rfl ?_
    rw [HQ.out]
    refine ColB2.no rfl ?_
    repeat (first | exact BM.out | exact Nat.le_refl _ | (refine Below.setCell ?_ ?_ _) | (refine below_drewN ?_ _) | (refine Below.alloc ?_ ?_ _) | (simp <;> omega))
  obtain rfl : z = zs := HZ.out hm
  have hres : turnC z r g b = if (colB r g b && colB t0 t1 t2) = true then ((t0, t1, t2), true) else ((0, 0, 0), false) := by
    unfold turnC; rw [← HT.out, hm, Bool.true_and]
  have HE := Lib.hid (HR.out.trans hres)
  clear HT HZ hres hm HR
  have CC := Lib.hid (c_isColor r nr g ng b nb M hr hg hb)
  cases hc : colB r g b
  all_goals rw [hc] at CC
  · have HQ := Lib.hid (show res = ((0, 0, 0), false) by rw [HE.out, hc]; rfl)
    clear hc
    go_wp2_with fail
    rw [HM.out]
    refine CC.out.mono ?_
    rintro _ w6 ⟨rfl, b6⟩
    have U6 := Lib.hid (U5.out.keep b6)
    have F6 := Lib.hid (F5.out.below (by omega) b6)
    have B6 := Lib.hid (B5.out.trans (b6.mono (by omega)))
    have z6 : M.heap.size ≤ w6.heap.size := b6.size
    clear b6 c0 c1 c2 q0 q1 q2 f0 f1 f2
    obtain ⟨q0, q1, q2⟩ := U6.out.three
    have f0 := F6.out 0
    have f1 := F6.out 1
    have f2 := F6.out 2
    go_wp2_with fail
    refine bodyPost_ret (v := .tuple #[.agg #[.float .f32 0, .float .f32 0, .float .f32 0], .bool false]) (by simp [results, Try.results18, q0, q1, q2, go_sem]) rfl ?_
    rw [HQ.out]
    refine ColB2.no rfl ?_
    repeat (first | exact B6.out | exact Nat.le_refl _ | (refine Below.setCell ?_ ?_ _) | (refine below_drewN ?_ _) | (refine Below.alloc ?_ ?_ _) | (simp <;> omega))
  have HE2 := Lib.hid (show res = if colB t0 t1 t2 = true then ((t0, t1, t2), true) else ((0, 0, 0), false) by rw [HE.out, hc, Bool.true_and])
  clear hc
  go_wp2_with fail
  rw [HM.out]
  refine CC.out.mono ?_
  rintro _ w6 ⟨rfl, b6⟩
  have U6 := Lib.hid (U5.out.keep b6)
  have F6 := Lib.hid (F5.out.below (by omega) b6)
  have B6 := Lib.hid (B5.out.trans (b6.mono (by omega)))
  have T6 := Lib.hid (T5.out.keep b6)
  have z6 : M.heap.size ≤ w6.heap.size := b6.size
  clear b6 c0 c1 c2 q0 q1 q2 f0 f1 f2 HM CC
  obtain ⟨c0, c1, c2⟩ := T6.out.three
  have CD := Lib.hid (c_isColor t0 k0 t1 k1 t2 k2 w6 hlt.1 hlt.2.1 hlt.2.2)
  go_wp2_with fail
  cases hd : colB t0 t1 t2
  all_goals
    rw [hd] at CD
    refine CD.out.mono ?_
    rintro _ w7 ⟨rfl, b7⟩
    have U7 := Lib.hid (U6.out.keep b7)
    have F7 := Lib.hid (F6.out.below (by omega) b7)
    have B7 := Lib.hid (B6.out.trans (b7.mono (by omega)))
    have T7 := Lib.hid (T6.out.keep b7)
    have z7 : w6.heap.size ≤ w7.heap.size := b7.size
  · have HQ := Lib.hid (show res = ((0, 0, 0), false) by rw [HE2.out, hd]; rfl)
    clear b7 c0 c1 c2
    obtain ⟨q0, q1, q2⟩ := U7.out.three
    have f0 := F7.out 0
    have f1 := F7.out 1
    have f2 := F7.out 2
    go_wp2_with fail
    refine bodyPost_ret (v := .tuple #[.agg #[.float .f32 0, .float .f32 0, .float .f32 0], .bool false]) (by simp [results, Try.results18, q0, q1, q2, go_sem]) rfl ?_
    rw [HQ.out]
    refine ColB2.no rfl ?_
    repeat (first | exact B7.out | exact Nat.le_refl _ | (refine Below.setCell ?_ ?_ _) | (refine below_drewN ?_ _) | (refine Below.alloc ?_ ?_ _) | (simp <;> omega))
  · have HQ := Lib.hid (show res = ((t0, t1, t2), true) by rw [HE2.out, hd]; rfl)
    clear b7 c0 c1 c2
    obtain ⟨c0, c1, c2⟩ := T7.out.three
    obtain ⟨q0, q1, q2⟩ := U7.out.three
    have f0 := F7.out 0
    have f1 := F7.out 1
    have f2 := F7.out 2
    go_wp2_with fail
    refine bodyPost_ret (v := .tuple #[.agg #[.float .f32 (pick .f32 t0 k0), .float .f32 (pick .f32 t1 k1), .float .f32 (pick .f32 t2 k2)], .bool true]) (by simp [results, Try.results18, q0, q1, q2, go_sem]) rfl ?_
    rw [HQ.out]
    refine ⟨_, _, _, rfl, ?_⟩
    repeat (first | exact B7.out | exact Nat.le_refl _ | (refine Below.setCell ?_ ?_ _) | (refine below_drewN ?_ _) | (refine Below.alloc ?_ ?_ _) | (simp <;> omega))
/-! ### FnExactTurnColor -/
theorem walk (aM : Option Addr) (lenM cM : Nat) (zM : List Nat) (r nr g ng b nb : Nat) (w : World) (rM : IsRowF .f32 w aM lenM cM zM) (hr : r < 2 ^ FloatKind.f32.format.width) (hg : g < 2 ^ FloatKind.f32.format.width) (hb : b < 2 ^ FloatKind.f32.format.width) : Calls Try.prog 3 #[.slice aM lenM cM, .agg #[.float .f32 (pick .f32 r nr), .float .f32 (pick .f32 g ng), .float .f32 (pick .f32 b nb)]] w fun e w' => e = .returned (.bool true) ∧ Below w.heap.size w w' := by
  obtain rfl := rM.1
  by_cases hl : 1048576 < zM.length
  · go_enter Try.func3, Try.ntmps3
    go_wp2_with fail
    go_ret
    exact ⟨rfl, (Below.refl _ _).alloc (Nat.le_refl _) _⟩
  generalize hw0 : w.alloc (Obj.cells #[.float .f32 (pick .f32 r nr), .float .f32 (pick .f32 g ng), .float .f32 (pick .f32 b nb)] 25) = w1
  have X0 : Var w1 w.heap.size #[.float .f32 (pick .f32 r nr), .float .f32 (pick .f32 g ng), .float .f32 (pick .f32 b nb)] := by subst hw0; exact Var.new _ _ _
  have X1 : Below w.heap.size w w1 := by subst hw0; exact (Below.refl _ _).alloc (Nat.le_refl _) _
  have zz : w.heap.size < w1.heap.size := X0.lt
  have HW := Lib.hid hw0
  have B0 := Lib.hid X1
  have V0 := Lib.hid X0
  have R0 := Lib.hid (rM.below X1)
  have CS := Lib.hid (fun (a : Option Addr) (c : Nat) (w : World) (q : IsRowF .f32 w a zM.length c zM) => c_sTurnColor zM a c r nr g ng b nb w q hr hg hb)
  have CI := Lib.hid (fun (a : Option Addr) (c : Nat) (w : World) (q : IsRowF .f32 w a zM.length c zM) => c_iTurnColor zM a c r nr g ng b nb w q hr hg hb)
  generalize turnC zM r g b = q at *
  obtain ⟨c0, c1, c2⟩ := X0.three
  clear hw0 X0 X1 rM
  go_enter Try.func3, Try.ntmps3
  go_wp2_with fail
  rw [HW.out]
  have QM := Lib.hid R0.out
  go_cut [5, 6] (fun s5 s6 wx => ∃ x n m k, s5 = .pointer (some ⟨x, 0, none⟩) ∧ s6 = .bool q.2 ∧ Var wx x #[.float .f32 (pick .f32 q.1.1 n), .float .f32 (pick .f32 q.1.2.1 m), .float .f32 (pick .f32 q.1.2.2 k)] ∧ Below w1.heap.size w1 wx ∧ w1.heap.size ≤ x)
  case first =>
    have KS : ∀ w' : World, Below w1.heap.size w1 w' → (Below w1.heap.size w1 w' ∧ w'.cell? ⟨w.heap.size, 0, none⟩ = some (.float .f32 (pick .f32 r nr)) ∧ w'.cell? ⟨w.heap.size, 1, none⟩ = some (.float .f32 (pick .f32 g ng)) ∧ w'.cell? ⟨w.heap.size, 2, none⟩ = some (.float .f32 (pick .f32 b nb))) := fun w' hB => ⟨hB, (V0.out.keep hB).three⟩
    have KD := Lib.hid (KS _ (Below.refl _ _).drew)
    have KH := Lib.hid KS
    clear KS
    have eD : Below w1.heap.size w1 w1.drew := (Below.refl _ _).drew
    go_region_held3 (fun w' => Below w1.heap.size w1 w' ∧ w'.cell? ⟨w.heap.size, 0, none⟩ = some (.float .f32 (pick .f32 r nr)) ∧ w'.cell? ⟨w.heap.size, 1, none⟩ = some (.float .f32 (pick .f32 g ng)) ∧ w'.cell? ⟨w.heap.size, 2, none⟩ = some (.float .f32 (pick .f32 b nb))) (first | exact KD.out | exact KH.out _ eD | exact KH.out _ (eD.alloc eD.size _) | exact KH.out _ eM | exact KH.out _ (eM.alloc eM.size _) | exact KH.out _ eC | exact KH.out _ (eC.alloc eC.size _) | exact KH.out _ ef | exact KH.out _ (ef.alloc ef.size _) | exact KH.out _ (((ef.setCell (by first | omega | (simp <;> omega)) _).setCell (by first | omega | (simp <;> omega)) _).setCell (by first | omega | (simp <;> omega)) _)) (first | (go_at_call 16; ((with_reducible refine (c_toO aM zM.length cM zM _ (QM.out.below (And.left (by assumption))) (by omega)).mono ?_); rintro _ wwM ⟨gM, rfl, bM, oM⟩; obtain ⟨hcM, hfM⟩ := bcell bM; have eM : Below w1.heap.size w1 wwM := (Below.trans (And.left (by assumption)) (Below.mono bM (Below.size (And.left (by assumption))))); have qM := bM.size; (try (simp at qM)); (try (have tDM : w1.heap.size < wwM.heap.size := by omega)); (try (have tCM : wwC.heap.size < wwM.heap.size := by omega)))) | (go_at_call 17; ((with_reducible refine (c_toC r nr g ng b nb _).mono ?_); rintro _ wwC ⟨rfl, bC⟩; obtain ⟨hcC, hfC⟩ := bcell bC; have eC : Below w1.heap.size w1 wwC := (Below.trans (And.left (by assumption)) (Below.mono bC (Below.size (And.left (by assumption))))); have qC := bC.size; (try (simp at qC)); (try (have tDC : w1.heap.size < wwC.heap.size := by omega)); (try (have tMC : wwM.heap.size < wwC.heap.size := by omega)))) | (go_at_call 15; (refine (CS.out _ _ _ (oM.below (by first | exact Below.refl _ _ | exact (Below.refl _ _).alloc (Nat.le_refl _) _ | exact bC | exact bC.alloc bC.size _ | exact (((Below.refl _ _).alloc (Nat.le_refl _) _).trans (bC.mono (by simp))))).row).mono ?_); rintro _ wwf ⟨n5, m5, k5, rfl, bf⟩; obtain ⟨hcf, hff⟩ := bcell bf; have ef : Below w1.heap.size w1 wwf := (Below.trans (And.left (by assumption)) (Below.mono bf (Below.size (And.left (by assumption))))); have qf := bf.size; (try (simp at qf)); (try (have tDf : w1.heap.size < wwf.heap.size := by omega)); (try (have tMf : wwM.heap.size < wwf.heap.size := by omega)); (try (have tCf : wwC.heap.size < wwf.heap.size := by omega))))
    all_goals (go_wp2_with fail; go_meet; first | (refine ⟨_, n5, m5, k5, rfl, rfl, Var.new' _ _ _ _ (by first | rfl | simp), ef.alloc ef.size _, (by first | omega | (simp <;> omega))⟩) | (refine ⟨_, n5, m5, k5, rfl, rfl, Var.mk3 (by simp <;> omega) (by go_simp) (by go_simp) (by go_simp), (((ef.setCell (by first | omega | (simp <;> omega)) _).setCell (by first | omega | (simp <;> omega)) _).setCell (by first | omega | (simp <;> omega)) _), (by first | omega | (simp <;> omega))⟩))
  obtain ⟨xu, n0, m0, k0, rfl, rfl, VU, b1, hxu⟩ := hcut
  obtain ⟨w2, rfl⟩ : ∃ x : World, x = wc := ⟨_, rfl⟩
  have B2 := Lib.hid (B0.out.trans (b1.mono (by omega)))
  have VV := Lib.hid VU
  have W2 := Lib.hid (V0.out.keep b1)
  have R2 := Lib.hid (R0.out.below b1)
  have hx2 : xu < w2.heap.size := VU.lt
  clear c0 c1 c2 b1 VU QM
  obtain ⟨c0, c1, c2⟩ := W2.out.three
  go_wp2_with fail
  refine (c_toO aM zM.length cM zM _ R2.out (by omega)).mono ?_
  rintro _ w3 ⟨gx, rfl, b1, o1⟩
  have W3 := Lib.hid (W2.out.keep b1)
  have V3 := Lib.hid (VV.out.keep b1)
  have B3 := Lib.hid (B2.out.trans (b1.mono B2.out.size))
  have R3 := Lib.hid (R2.out.below b1)
  have O3 := Lib.hid o1
  clear b1 o1 c0 c1 c2
  obtain ⟨c0, c1, c2⟩ := W3.out.three
  go_wp2_with fail
  refine (c_toC r nr g ng b nb _).mono ?_
  rintro _ w4 ⟨rfl, b1⟩
  have W4 := Lib.hid (W3.out.keep b1)
  have V4 := Lib.hid (V3.out.keep b1)
  have B4 := Lib.hid (B3.out.trans (b1.mono B3.out.size))
  have R4 := Lib.hid (R3.out.below b1)
  have O4 := Lib.hid (O3.out.below b1)
  clear b1 c0 c1 c2
  go_wp2_with fail
  refine (CI.out _ _ _ O4.out.row).mono ?_
  rintro _ w5 ⟨n1, m1, k1, rfl, b1⟩
  have b2 := b1.alloc b1.size (Obj.cells #[.float .f32 (pick .f32 q.1.1 n1), .float .f32 (pick .f32 q.1.2.1 m1), .float .f32 (pick .f32 q.1.2.2 k1)] 26)
  have z5 : w4.heap.size ≤ w5.heap.size := b1.size
  generalize hw6 : w5.alloc (Obj.cells #[.float .f32 (pick .f32 q.1.1 n1), .float .f32 (pick .f32 q.1.2.1 m1), .float .f32 (pick .f32 q.1.2.2 k1)] 26) = w6 at b2
  have VG : Var w6 w5.heap.size #[.float .f32 (pick .f32 q.1.1 n1), .float .f32 (pick .f32 q.1.2.1 m1), .float .f32 (pick .f32 q.1.2.2 k1)] := by subst hw6; exact Var.new _ _ _
  have V6 := Lib.hid (V4.out.keep b2)
  have B6 := Lib.hid (B4.out.trans (b2.mono B4.out.size))
  have R6 := Lib.hid (R4.out.below b2)
  have O6 := Lib.hid (O4.out.below b2)
  have H6 := Lib.hid hw6
  have KG := Lib.hid VG
  obtain ⟨d0, d1, d2⟩ := VG.three
  obtain ⟨e0, e1, e2⟩ := V6.out.three
  rw [← hw6] at d0 d1 d2 e0 e1 e2
  clear b1 b2 hw6 VG
  go_wp2_with fail
  rw [H6.out]
  refine (c_eqC q.1.1 n1 n0 q.1.2.1 m1 m0 q.1.2.2 k1 k0 w6).mono ?_
  rintro _ w7 ⟨rfl, b1⟩
  have B7 := Lib.hid (B6.out.trans (b1.mono B6.out.size))
  have R7 := Lib.hid (R6.out.below b1)
  have O7 := Lib.hid (O6.out.below b1)
  clear b1 d0 d1 d2 e0 e1 e2
  go_wp2_with fail
  refine (c_toO aM zM.length cM zM _ R7.out (by omega)).mono ?_
  rintro _ w8 ⟨gy, rfl, b1, o1⟩
  have B8 := Lib.hid (B7.out.trans (b1.mono B7.out.size))
  have O8 := Lib.hid (O7.out.below b1)
  have P8 := Lib.hid o1
  clear b1 o1
  go_wp2_with fail
  refine (c_eqF0 _ _ _ _ _ _ _ O8.out.row P8.out.row).mono ?_
  rintro _ _ ⟨jx, rfl, rfl⟩
  go_wp2_with fail
  go_ret
  exact ⟨rfl, below_drewN B8.out _⟩

theorem own : ownKnob Try.prog.godebug = none := by kernel_rfl
theorem laidOut : laidOutB Try.prog = true := by kernel_rfl
set_option maxRecDepth 100000 in
theorem lifted (os : Os) (started : os.Started) (H : Type) (enc : TypeId × Value → H) :
    ReturnsInHanded {} Try.checked os 3 .any (Rows.fnExactTurnColorSpec.pre6 enc Try.prog Try.f3 Rows.fnExactTurnColorRow.domain false) (Rows.fnExactTurnColorSpec.post enc Try.prog Try.f3 false true false false) := by
  refine returnsInHanded_of_change (C := Try.checked) own started (by kernel_rfl) Try.func3
    (ChangeSpec.witness6 (enc := enc) (C := Try.checked) false ⟨#[], #[.slice none 0 0, .agg #[.float .f32 0, .float .f32 0, .float .f32 0]], []⟩ 8 (by kernel_rfl) (by kernel_rfl) (by kernel_rfl) (by kernel_rfl)) ?_
  intro W base args ds gs before hval0 hW hcnd _
  have hval : ∀ (j : Nat) t v, Try.f3.params[j]? = some t → args[j]? = some v → Value.okWide Try.prog W .any base t v := hval0
  have hW' := hW
  obtain ⟨p, q, hA0, hV, rfl, hfz, hnd⟩ := hW
  have hA : DataW.TrodAll enc Try.prog W 0 (fun _ => true) true Try.f3.params.toList args.toList ds p := hA0
  rw [Try.params3] at hA hval
  obtain ⟨v0, vs0, d0, ds0, p0, q0, hargs, rfl, rfl, h0, r0⟩ := trodAll_cons hA
  obtain ⟨v1, vs1, d1, ds1, p1, q1, rfl, rfl, rfl, h1, r1⟩ := trodAll_cons r0
  obtain ⟨rfl, rfl, rfl⟩ := trodAll_nil r1
  obtain rfl : args = #[v0, v1] := by cases args; simp_all
  obtain ⟨rfl, rfl⟩ := trodVars_none hV
  obtain ⟨a0, len0, cap0, rfl⟩ := okWide_slice Try.underlying22 (hval 0 22 v0 rfl rfl)
  have k0 := h0
  have lt0 : ∀ x ∈ p0, x.block < W.heap.size := by obtain ⟨m, hm⟩ := k0; exact DataW.trod_lt m _ _ _ hm
  obtain ⟨z0, w0⟩ := rowF_of Try.underlying22 Try.underlying23 (by kernel_rfl) h0
  have k1 := h1
  have lt1 : ∀ x ∈ p1, x.block < W.heap.size := by obtain ⟨m, hm⟩ := k1; exact DataW.trod_lt m _ _ _ hm
  obtain ⟨br1, bg1, bb1, rfl, wr1, wg1, wb1⟩ := open_col Try.underlying25 (by kernel_rfl) (by kernel_rfl) Try.underlying23 Try.underlying23 Try.underlying23 (hval 1 25 v1 rfl rfl) h1
  obtain ⟨nr1, er1⟩ := pick_onto .f32 br1 (lt_of_wf wr1)
  obtain ⟨ng1, eg1⟩ := pick_onto .f32 bg1 (lt_of_wf wg1)
  obtain ⟨nb1, eb1⟩ := pick_onto .f32 bb1 (lt_of_wf wb1)
  clear hA0 hval0
  have hw0 : Calls Try.prog 3 #[.slice a0 len0 cap0, .agg #[.float .f32 br1, .float .f32 bg1, .float .f32 bb1]] W fun e w' => e = .returned (.bool true) ∧ Below W.heap.size W w' := by
    rw [er1, eg1, eb1]
    exact walk a0 len0 cap0 z0 br1 nr1 bg1 ng1 bb1 nb1 W w0 (lt_of_wf wr1) (lt_of_wf wg1) (lt_of_wf wb1)
  refine hw0.mono fun e W' ⟨he, bel⟩ => ?_
  subst he
  exact ⟨_, rfl, _, _, _, [], _, [], hW', trodAll_mk1 (shut_bool Try.underlying4 _), (trodAll_cons_mk (Below.trod laidOut (by kernel_rfl) (of_decide_eq_true (by kernel_rfl)) k0 bel lt0) (trodAll_cons_mk (Below.trod laidOut (by kernel_rfl) (of_decide_eq_true (by kernel_rfl)) k1 bel lt1) trodAll_mk0)), rfl, bel.frame _, fun h => by cases h⟩

theorem over : Rows.fnExactTurnColorRow.holds Try.pinned (OpenSpec.ofChange Rows.fnExactTurnColorSpec) :=
  OpenClaim.holds_of_wide 3 Try.f3 rfl rfl rfl rfl rfl rfl rfl ⟨rfl, rfl, rfl, rfl, rfl⟩ rfl rfl rfl rfl rfl (by kernel_rfl) Try.func3 (by kernel_rfl)
    (of_decide_eq_true (by kernel_rfl)) (by unfold Func.isWrapper; first | (rw [if_pos (by decide +kernel)]; kernel_rfl) | (rw [if_neg (by decide +kernel)]; exact ⟨rfl, rfl⟩))
    (fun os started H enc _ => lifted os started H enc)

theorem proved : Rows.FnExactTurnColorSaid := over
#print axioms proved

end Go.Proofs.Ytmngedfibmnohac.fnExactTurnColor

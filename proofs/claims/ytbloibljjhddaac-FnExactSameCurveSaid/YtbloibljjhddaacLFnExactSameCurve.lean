/-
  FnExactSameCurve: for every input this law of the program returns true, and each argument reads as before. No condition.
-/
import Derived.Test.YtbloibljjhddaacRows
import Derived.Test.YtbloibljjhddaacRow
import Derived.Test.YtbloibljjhddaacOw
import Derived.Test.YtbloibljjhddaacAp
import Derived.ProofKit
import Derived.OpenShut
import Derived.ShutString
import Derived.ChangeOld
import Derived.Below
import Derived.Lib.Hide
import Derived.Outline
import Derived.Deep.RegionHeld3
import Derived.Deep.DeepCutAuto
set_option linter.unusedSimpArgs false
set_option linter.unusedVariables false
set_option exponentiation.threshold 2000
set_option maxRecDepth 20000
set_option maxHeartbeats 4000000
namespace Go.Proofs.Ytbloibljjhddaac.fnExactSameCurve
open Go Go.Proofs.Ytbloibljjhddaac Go.Proofs
open Go.ChangeShapes Go.WideShapes Go.ChangeAt Go.RowKit
open Go.ChangeMaps (open_string shut_string)
/-! ### openCur -/
theorem open_cur {H : Type} {enc : TypeId × Value → H} {P : Program} {w : World} {base : Nat} {spare : Nat → Bool} {held : Bool} {r : Reach} {b0 : Nat} {t e : TypeId} {f0 f1 : Field} {v : Value} {d : DataW H} {p : List MemPlace}
    (hs : P.underlying t = some (.struct #[f0, f1])) (hone : Go.Deep.oneCellFields P #[f0, f1] = true) (hC : P.cellsOf t = 2)
    (u0 : P.underlying f0.type = some (.slice e)) (u1 : P.underlying f1.type = some (.slice e)) (ue : P.underlying e = some (.float .f32)) (hc : P.cellsOf e = 1) (hv : Value.okWide P w r b0 t v) (h : DataW.Trod enc P w base spare held t v d p) :
    ∃ (zx zy : List Nat) (ax : Option Addr) (cx : Nat) (ay : Option Addr) (cy : Nat), v = .agg #[.slice ax zx.length cx, .slice ay zy.length cy] ∧ IsRowF .f32 w ax zx.length cx zx ∧ IsRowF .f32 w ay zy.length cy zy := by
  obtain ⟨v0, v1, y0, y1, n, rfl, _, _, h0, h1⟩ := Go.Joins.open_agg2 hs hone hC hv h
  obtain ⟨a, len, cap, rfl⟩ : ∃ a len cap, v0 = .slice a len cap := by
    rcases DataW.trod_slice u0 h0 with ⟨e, _⟩ | ⟨x, l, c, _, _, _, _, e, _⟩
    · simp only [List.cons.injEq, and_true] at e; exact ⟨_, _, _, e⟩
    · simp only [List.cons.injEq, and_true] at e; exact ⟨_, _, _, e⟩
  obtain ⟨b, len2, cap2, rfl⟩ : ∃ a len cap, v1 = .slice a len cap := by
    rcases DataW.trod_slice u1 h1 with ⟨e, _⟩ | ⟨x, l, c, _, _, _, _, e, _⟩
    · simp only [List.cons.injEq, and_true] at e; exact ⟨_, _, _, e⟩
    · simp only [List.cons.injEq, and_true] at e; exact ⟨_, _, _, e⟩
  obtain ⟨zx, hzx⟩ := rowF_of u0 ue hc ⟨n, h0⟩
  obtain ⟨zy, hzy⟩ := rowF_of u1 ue hc ⟨n, h1⟩
  obtain rfl : zx.length = len := hzx.1
  obtain rfl : zy.length = len2 := hzy.1
  exact ⟨zx, zy, a, cap, b, cap2, rfl, hzx, hzy⟩
/-! ### szPicture -/
theorem c_szF (a : Option Addr) (len cap : Nat) (L : Int) (w : World) (h : (len : Int) ≤ L) (hL : L ≤ 1048576) : Calls Try.prog 120 #[.slice a len cap, .int .i64 L] w (fun e w' => e = .returned (.int .i64 (L - (len : Int))) ∧ w' = w) := by
  have h' : ¬ (L - (len : Int) < 0) := by omega
  go_enter Try.func120, Try.ntmps120
  go_wp2
  go_ret
  exact ⟨rfl, rfl⟩
theorem c_szF_no (a : Option Addr) (len cap : Nat) (L : Int) (w : World) (h : L < len) (hL : 0 ≤ L) (hm : len ≤ 9223372036854775807) : Calls Try.prog 120 #[.slice a len cap, .int .i64 L] w (fun e w' => e = .returned (.int .i64 (-1)) ∧ w' = w) := by
  have h' : L - (len : Int) < 0 := by omega
  go_enter Try.func120, Try.ntmps120
  go_wp2
  go_ret
  exact ⟨rfl, rfl⟩
theorem c_szP (W H : Int) (a : Option Addr) (len cap : Nat) (L : Int) (w : World) (h : (len : Int) ≤ L) (hL : L ≤ 1048576) : Calls Try.prog 43 #[.agg #[.int .i64 W, .int .i64 H, .slice a len cap], .int .i64 L] w (RetB (.int .i64 (L - (len : Int))) w) := by
  have h' : ¬ (L - (len : Int) < 0) := by omega
  go_enter Try.func43, Try.ntmps43
  go_wp2_with (go_at_call 120; refine (c_szF a len cap L _ h hL).mono ?_; rintro _ _ ⟨rfl, rfl⟩)
  go_ret
  exact ⟨rfl, (Below.refl _ _).alloc (Nat.le_refl _) _⟩
theorem c_szP_no (W H : Int) (a : Option Addr) (len cap : Nat) (L : Int) (w : World) (h : L < len) (hL : 0 ≤ L ∧ len ≤ 9223372036854775807) : Calls Try.prog 43 #[.agg #[.int .i64 W, .int .i64 H, .slice a len cap], .int .i64 L] w (RetB (.int .i64 (-1)) w) := by
  go_enter Try.func43, Try.ntmps43
  go_wp2_with (go_at_call 120; refine (c_szF_no a len cap L _ h hL.1 hL.2).mono ?_; rintro _ _ ⟨rfl, rfl⟩)
  go_ret
  exact ⟨rfl, (Below.refl _ _).alloc (Nat.le_refl _) _⟩
/-! ### szCurve -/
theorem c_szC (ax : Option Addr) (lx cx : Nat) (ay : Option Addr) (ly cy : Nat) (L : Int) (w : World) (h : (lx : Int) + (ly : Int) ≤ L) (hL : L ≤ 1048576) : Calls Try.prog 55 #[.agg #[.slice ax lx cx, .slice ay ly cy], .int .i64 L] w (RetB (.int .i64 (L - (lx : Int) - (ly : Int))) w) := by
  have h1 : ¬ (L - (lx : Int) < 0) := by omega
  have h2 : ¬ (L - (lx : Int) - (ly : Int) < 0) := by omega
  go_enter Try.func55, Try.ntmps55
  go_wp2_with (go_at_call 120; first | ((with_reducible refine (c_szF ax lx cx L _ (by omega) hL).mono ?_); rintro _ _ ⟨rfl, rfl⟩) | ((with_reducible refine (c_szF ay ly cy (L - (lx : Int)) _ (by omega) (by omega)).mono ?_); rintro _ _ ⟨rfl, rfl⟩))
  go_ret
  exact ⟨rfl, (Below.refl _ _).alloc (Nat.le_refl _) _⟩
theorem c_szC_no1 (ax : Option Addr) (lx cx : Nat) (ay : Option Addr) (ly cy : Nat) (L : Int) (w : World) (h : L < lx) (hL : 0 ≤ L) (hm : lx ≤ 9223372036854775807) : Calls Try.prog 55 #[.agg #[.slice ax lx cx, .slice ay ly cy], .int .i64 L] w (RetB (.int .i64 (-1)) w) := by
  go_enter Try.func55, Try.ntmps55
  go_wp2_with (go_at_call 120; refine (c_szF_no ax lx cx L _ h hL hm).mono ?_; rintro _ _ ⟨rfl, rfl⟩)
  go_ret
  exact ⟨rfl, (Below.refl _ _).alloc (Nat.le_refl _) _⟩
theorem c_szC_no2 (ax : Option Addr) (lx cx : Nat) (ay : Option Addr) (ly cy : Nat) (L : Int) (w : World) (h : (lx : Int) ≤ L) (hL : L ≤ 1048576) (h2 : L - (lx : Int) < ly) (hm : ly ≤ 9223372036854775807) : Calls Try.prog 55 #[.agg #[.slice ax lx cx, .slice ay ly cy], .int .i64 L] w (RetB (.int .i64 (-1)) w) := by
  have h1 : ¬ (L - (lx : Int) < 0) := by omega
  go_enter Try.func55, Try.ntmps55
  go_wp2_with (go_at_call 120; first | ((with_reducible refine (c_szF ax lx cx L _ h hL).mono ?_); rintro _ _ ⟨rfl, rfl⟩) | ((with_reducible refine (c_szF_no ay ly cy (L - (lx : Int)) _ h2 (by omega) hm).mono ?_); rintro _ _ ⟨rfl, rfl⟩))
  go_ret
  exact ⟨rfl, (Below.refl _ _).alloc (Nat.le_refl _) _⟩
/-! ### toOwn -/
theorem infoFo : (Try.prog.info? 31).map (fun i => (i.zero, i.size, i.bytes)) = some (some (.float .f32 0), 1, 4) := by kernel_rfl
theorem c_toO (a : Option Addr) (len cap : Nat) (zs : List Nat) (w : World) (hr : IsRowF .f32 w a len cap zs) (hl : len ≤ 1048576) : Calls Try.prog 51 #[.slice a len cap] w (NewO 31 len zs w) := by
  obtain ⟨i0, hi, hz0, hz1, hz2⟩ := info_parts infoFo
  obtain ⟨h1, h2, h3, h4, h5⟩ := hr
  go_enter Try.func51, Try.ntmps51
  go_wp2_with (at_make; refine wpList_make_full _ rfl _ _ 24 rfl w.heap.size 31 i0 (.float .f32 0) 1 Try.underlying24 hi hz0 hz1 _ _ _ _ len rfl rfl rfl rfl (by rw [hz2]; omega) (by unfold maxLen; omega) (by simp) ?_; intro w1 hown hgrow)
  have hblk := block_of_owns hown
  have e0 : (madeCells (Value.float FloatKind.f32 0).cells (len * 1)).toList = List.replicate len (.float .f32 0) := by rw [Nat.mul_one]; exact made_zeros _ _
  rw [e0] at hblk
  have hbel : Below w.heap.size w w1 := (Below.refl _ _).grown hgrow (Nat.le_refl _) (by simp)
  have HB := Lib.hid hblk
  clear hown hgrow hblk e0 hz0 hz1 hz2
  go_loopw [4] (fun i wr => ∃ j : Nat, j ≤ len ∧ i = .int .i64 j ∧ Below w.heap.size w wr ∧ wr.heap[w.heap.size]? = some (.cells (fl .f32 (zs.take j) ++ List.replicate (zs.length - j) (Value.float .f32 0)).toArray 31 (0, 0))) (fun i _ => len - (intOf i).toNat)
  case atStart => exact ⟨0, Nat.zero_le _, rfl, hbel, by rw [HB.out, h1]; rfl⟩
  case round =>
    obtain ⟨j, hj, rfl, hb, hblk⟩ := hrel
    have Hblk := Lib.hid hblk
    clear hblk
    by_cases hlt : j < len
    · rcases h5 with h5 | ⟨b, off, rfl, hbl, hc⟩
      · omega
      have hcell : wr.cell? ⟨b, off + j, none⟩ = some (.float .f32 (fat zs j)) := by rw [hb.cell (p := ⟨b, off + j, none⟩) hbl]; exact hc j hlt
      have hold : wr.cell? ⟨w.heap.size, j, none⟩ = some (.float .f32 0) := by
        rw [cell_of_block Hblk.out, List.getElem?_append_right (by simp [fl]; omega)]
        have e : (fl FloatKind.f32 (List.take j zs)).length = j := by simp [fl]; omega
        rw [e, Nat.sub_self, List.getElem?_replicate, if_pos (by omega)]
      have hfz : wr.frozen? ⟨w.heap.size, j, none⟩ = false := frozen_of_block Hblk.out j
      have hset := block_set Hblk.out j (.float .f32 (fat zs j))
      rw [set_step zs _ j (by omega)] at hset
      have Hset := Lib.hid hset
      clear hset hc
      go_wp2
      go_roundw
      case rel => exact ⟨j + 1, by omega, by go_num, hb.setCell (Nat.le_refl _) _, Hset.out⟩
      case measure => simp [intOf]; omega
    · obtain rfl : j = len := by omega
      have e1 : fl .f32 (zs.take j) ++ List.replicate (zs.length - j) (Value.float .f32 0) = fl .f32 zs := by rw [h1, Nat.sub_self, List.replicate_zero, List.append_nil, List.take_of_length_le (by omega)]
      have hblk2 := Hblk.out
      rw [e1] at hblk2
      have hown : Own 31 wr w.heap.size (some ⟨w.heap.size, 0, none⟩) j j zs :=
        ⟨h1, ⟨by simp [fl, h1], .inr ⟨w.heap.size, j, _, rfl, Nat.le_refl _, hblk2, Nat.le_refl _, by unfold maxLen; omega, by simp [fl, h1], by rw [List.take_of_length_le (by simp [fl, h1])]⟩⟩, h4⟩
      have HO := Lib.hid hown
      clear hown hblk2 e1
      go_wp2
      go_ret
      exact ⟨w.heap.size, rfl, hb, HO.out⟩
/-! ### picDefs -/
def sideB (W H : Int) : Bool := decide (1 ≤ W) && decide (W ≤ 16) && (decide (1 ≤ H) && decide (H ≤ 16))
def finL (zs : List Nat) : Bool := zs.all (finB .f32)
def validB (W H : Int) (zs : List Nat) : Bool := sideB W H && decide ((zs.length : Int) = W * H) && finL zs
theorem sideB_true {W H : Int} (h : sideB W H = true) : (1 ≤ W ∧ W ≤ 16) ∧ 1 ≤ H ∧ H ≤ 16 := by simpa [sideB, and_assoc] using h
theorem side_mul {W H : Int} (h : sideB W H = true) : 1 ≤ W * H ∧ W * H ≤ 256 := by
  obtain ⟨⟨h1, h2⟩, h3, h4⟩ := sideB_true h
  have : W * H ≤ 16 * 16 := Int.mul_le_mul h2 h4 (by omega) (by omega)
  have h5 : 1 * 1 ≤ W * H := Int.mul_le_mul h1 h3 (by omega) (by omega)
  omega
theorem sideB_false {W H : Int} (h : sideB W H = false) : W < 1 ∨ 16 < W ∨ H < 1 ∨ 16 < H := by
  simp [sideB] at h; omega
theorem finL_snoc (zs : List Nat) (k : Nat) (hk : k < zs.length) : finL (zs.take (k + 1)) = (finL (zs.take k) && finB .f32 (fat zs k)) := by
  unfold finL fat
  rw [List.take_succ_eq_append_getElem hk, List.all_append, List.getD, List.getElem?_eq_getElem hk]; simp
theorem finL_of (zs : List Nat) (k : Nat) (hk : k < zs.length) (h : finB .f32 (fat zs k) = false) : finL zs = false := by
  unfold finL
  rw [List.all_eq_false]
  refine ⟨zs[k], List.getElem_mem hk, ?_⟩
  unfold fat at h
  rw [List.getD, List.getElem?_eq_getElem hk] at h
  simpa using h
theorem pick0 (k : FloatKind) (v : Nat) (hv : v < 2 ^ k.format.width) : ∃ n, v = pick k v n := pick_onto k v hv
/-! ### ordDefs -/
theorem cmp_bools (a b : Int) : ((some (compare a b) == some Ordering.lt) = decide (a < b)) ∧ ((some (compare a b) == some Ordering.gt) = decide (b < a)) ∧ ((some (compare a b) == some Ordering.eq) = decide (a = b)) := by
  rcases Int.lt_trichotomy a b with h | h | h
  · rw [cmp_of_lt h, decide_eq_true h, decide_eq_false (by omega), decide_eq_false (by omega)]; exact ⟨rfl, rfl, rfl⟩
  · subst h; rw [Int.compare_eq_eq.2 rfl, decide_eq_false (by omega), decide_eq_true rfl]; exact ⟨rfl, rfl, rfl⟩
  · rw [cmp_of_gt h, decide_eq_false (by omega), decide_eq_true h, decide_eq_false (by omega)]; exact ⟨rfl, rfl, rfl⟩
theorem o_lt {v c : Nat} (h : isN .f32 v = false) (hc : isN .f32 c = false) : (FloatKind.f32.format.order v c == some .lt) = decide (srung FloatKind.f32.format v < srung FloatKind.f32.format c) := by
  rw [order_rungs .f32 v c h hc]; exact (cmp_bools _ _).1
theorem o_gt {v c : Nat} (h : isN .f32 v = false) (hc : isN .f32 c = false) : (FloatKind.f32.format.order v c == some .gt) = decide (srung FloatKind.f32.format c < srung FloatKind.f32.format v) := by
  rw [order_rungs .f32 v c h hc]; exact (cmp_bools _ _).2.1
theorem o_eq {v c : Nat} (h : isN .f32 v = false) (hc : isN .f32 c = false) : (FloatKind.f32.format.order v c == some .eq) = decide (srung FloatKind.f32.format v = srung FloatKind.f32.format c) := by
  rw [order_rungs .f32 v c h hc]; exact (cmp_bools _ _).2.2
theorem o_le {v c : Nat} (h : isN .f32 v = false) (hc : isN .f32 c = false) : (FloatKind.f32.format.order v c == some .lt || FloatKind.f32.format.order v c == some .eq) = decide (srung FloatKind.f32.format v ≤ srung FloatKind.f32.format c) := by
  rw [o_lt h hc, o_eq h hc, ← Bool.decide_or]; exact decide_eq_decide.2 (by omega)
theorem o_ge {v c : Nat} (h : isN .f32 v = false) (hc : isN .f32 c = false) : (FloatKind.f32.format.order v c == some .gt || FloatKind.f32.format.order v c == some .eq) = decide (srung FloatKind.f32.format c ≤ srung FloatKind.f32.format v) := by
  rw [o_gt h hc, o_eq h hc, ← Bool.decide_or]; exact decide_eq_decide.2 (by omega)
theorem s_zero : srung FloatKind.f32.format 0 = 0 := by decide +kernel
theorem s_half : srung FloatKind.f32.format 1056964608 = 1056964608 := by decide +kernel
theorem s_one : srung FloatKind.f32.format 1065353216 = 1065353216 := by decide +kernel
theorem n_zero : isN .f32 0 = false := by decide +kernel
theorem n_half : isN .f32 1056964608 = false := by decide +kernel
theorem n_one : isN .f32 1065353216 = false := by decide +kernel
theorem pick_zero (n : Nat) : pick .f32 0 n = 0 := pick_not n_zero n
/-! ### bendDefs -/
def leB (x y : Nat) : Bool := FloatKind.f32.format.order x y == some .lt || FloatKind.f32.format.order x y == some .eq
def riseK (zs : List Nat) : Nat → Bool
  | 0 => true
  | 1 => true
  | k + 2 => riseK zs (k + 1) && !leB (fat zs (k + 1)) (fat zs k)
theorem riseK_succ {zs : List Nat} {k : Nat} (h : 1 ≤ k) : riseK zs (k + 1) = (riseK zs k && !leB (fat zs k) (fat zs (k - 1))) := by
  obtain ⟨j, rfl⟩ : ∃ j, k = j + 1 := ⟨k - 1, by omega⟩
  rfl
theorem riseK_false {zs : List Nat} {k : Nat} (h : riseK zs k = false) : ∀ n, k ≤ n → riseK zs n = false := by
  intro n hn
  induction n with
  | zero => obtain rfl : k = 0 := by omega
            exact h
  | succ m ih =>
    by_cases hk : k = m + 1
    · rw [← hk]; exact h
    · have h2 := ih (by omega)
      by_cases hm : 1 ≤ m
      · rw [riseK_succ hm, h2]; rfl
      · obtain rfl : m = 0 := by omega
        obtain rfl : k = 0 := by omega
        cases h
def bendB (zs : List Nat) : Bool := decide (2 ≤ zs.length) && decide (zs.length ≤ 17) && (finL zs && riseK zs zs.length)
/-! ### curDefs -/
theorem var_two {w : World} {b : Nat} {x y : Value} (h : Var w b #[x, y]) : w.cell? ⟨b, 0, none⟩ = some x ∧ w.cell? ⟨b, 1, none⟩ = some y := ⟨h.2 0 (by simp), h.2 1 (by simp)⟩
theorem var_mk2 {w : World} {b : Nat} {x y : Value} (hb : b < w.heap.size) (h0 : w.cell? ⟨b, 0, none⟩ = some x) (h1 : w.cell? ⟨b, 1, none⟩ = some y) : Var w b #[x, y] :=
  ⟨hb, fun i hi => by
    have : i = 0 ∨ i = 1 := by simp at hi; omega
    rcases this with rfl | rfl
    · exact h0
    · exact h1⟩
def curB (zx zy : List Nat) : Bool := (decide (2 ≤ zx.length) && decide (zx.length ≤ 16)) && (decide (zy.length = zx.length) && ((finL zx && finL zy) && riseK zx zx.length))
theorem curB_short {zx zy : List Nat} (h : zx.length < 2) : curB zx zy = false := by unfold curB; rw [decide_eq_false (p := 2 ≤ zx.length) (by omega)]; rfl
theorem curB_long {zx zy : List Nat} (h : 16 < zx.length) : curB zx zy = false := by unfold curB; rw [decide_eq_false (p := zx.length ≤ 16) (by omega), Bool.and_false]; rfl
theorem curB_len {zx zy : List Nat} (h : zy.length ≠ zx.length) : curB zx zy = false := by unfold curB; rw [decide_eq_false h, Bool.false_and, Bool.and_false]
theorem curB_mid {zx zy : List Nat} (h1 : ¬ zx.length < 2) (h2 : ¬ 16 < zx.length) (h3 : zy.length = zx.length) : curB zx zy = ((finL zx && finL zy) && riseK zx zx.length) := by unfold curB; rw [decide_eq_true (p := zx.length ≤ 16) (by omega), decide_eq_true (p := 2 ≤ zx.length) (by omega), decide_eq_true h3]; rfl
theorem curB_mid2 {zx zy : List Nat} (h1 : ¬ zx.length < 2) (h2 : ¬ 16 < zx.length) (h3 : zy.length = zx.length) : curB zx zy = ((riseK zx zx.length && finL zx) && finL zy) := by
  rw [curB_mid h1 h2 h3]
  cases finL zx <;> cases finL zy <;> cases riseK zx zx.length <;> rfl
/-! ### toCurve -/
def NewCur (T : TypeId) (zx zy : List Nat) (w : World) (e : Ending) (w' : World) : Prop :=
  ∃ g k, e = .returned (.agg #[.slice (some ⟨g, 0, none⟩) zx.length zx.length, .slice (some ⟨k, 0, none⟩) zy.length zy.length]) ∧ Below w.heap.size w w' ∧ Own T w' w.heap.size (some ⟨g, 0, none⟩) zx.length zx.length zx ∧ Own T w' w.heap.size (some ⟨k, 0, none⟩) zy.length zy.length zy
theorem c_toCur (ax : Option Addr) (cx : Nat) (zx : List Nat) (ay : Option Addr) (cy : Nat) (zy : List Nat) (w : World) (hx : IsRowF .f32 w ax zx.length cx zx) (hy : IsRowF .f32 w ay zy.length cy zy) (hl : zx.length ≤ 1048576) (hm : zy.length ≤ 1048576) : Calls Try.prog 57 #[.agg #[.slice ax zx.length cx, .slice ay zy.length cy]] w (NewCur 31 zx zy w) := by
  obtain ⟨w0, hw0⟩ : ∃ w0, w0 = ((w.alloc (Obj.cells #[.slice ax zx.length cx, .slice ay zy.length cy] 72)).alloc (Obj.cells #[.slice none 0 0, .slice none 0 0] 75)).alloc (Obj.cells #[.slice none 0 0, .slice none 0 0] 75) := ⟨_, rfl⟩
  have V0 : Var w0 w.heap.size #[.slice ax zx.length cx, .slice ay zy.length cy] := hw0 ▸ (((Var.new _ _ _).alloc _).alloc _)
  have V1 : Var w0 (w.heap.size + 1) #[.slice none 0 0, .slice none 0 0] := hw0 ▸ ((Var.new' _ _ _ _ (by simp)).alloc _)
  have V2 : Var w0 (w.heap.size + 1 + 1) #[.slice none 0 0, .slice none 0 0] := hw0 ▸ (Var.new' _ _ _ _ (by simp))
  have F1 : Free w0 (w.heap.size + 1) := by subst hw0; exact Free.alloc (Free.new' (w.alloc _) #[.slice none 0 0, .slice none 0 0] _ _ (by simp)) (by simp) _
  have F2 : Free w0 (w.heap.size + 1 + 1) := by subst hw0; exact Free.new' _ _ _ _ (by simp)
  have B0 : Below w.heap.size w w0 := hw0 ▸ (((Below.refl _ _).alloc (Nat.le_refl _) _).alloc (by simp) _).alloc (by simp; omega) _
  have S0 : w0.heap.size = w.heap.size + 1 + 1 + 1 := by subst hw0; simp
  have HW := Lib.hid hw0.symm
  have HX := Lib.hid (hx.below B0)
  have HY := Lib.hid hy
  clear hw0 hx hy
  go_enter Try.func57, Try.ntmps57
  go_wp2_with fail
  rw [HW.out]
  obtain ⟨c0, c1⟩ := var_two V0
  go_wp2_with fail
  refine (c_toO ax zx.length cx zx _ HX.out hl).mono ?_
  rintro _ w1 ⟨g, rfl, hb, ho⟩
  have V0 := V0.keep hb
  have V1 := V1.keep hb
  have V2 := V2.keep hb
  have F1 := F1.below (by omega) hb
  have F2 := F2.below (by omega) hb
  have B0 := B0.trans (hb.mono (by omega))
  have S1 := hb.size
  have GI := ho.in
  have HO := Lib.hid ho
  clear hb ho HX c0 c1
  obtain ⟨c0, c1⟩ := var_two V0
  obtain ⟨d0, d1⟩ := var_two V2
  have f2 := F2 0
  go_wp2_with fail
  obtain ⟨w2, hw2⟩ : ∃ w2, w2 = w1.setCell ⟨w.heap.size + 1 + 1, 0, none⟩ (.slice (some ⟨g, 0, none⟩) zx.length zx.length) := ⟨_, rfl⟩
  have ng1 : blk (some (⟨g, 0, none⟩ : Addr)) ≠ some (w.heap.size + 1) := fun e => by have := GI _ e; omega
  have ne2 : blk (some (⟨g, 0, none⟩ : Addr)) ≠ some (w.heap.size + 1 + 1) := fun e => by have := GI _ e; omega
  have E2 : w2.heap.size = w1.heap.size := by subst hw2; simp
  have V0' : Var w2 w.heap.size #[.slice ax zx.length cx, .slice ay zy.length cy] := hw2 ▸ V0.setOther (by simp <;> omega) _
  have V1' : Var w2 (w.heap.size + 1) #[.slice none 0 0, .slice none 0 0] := hw2 ▸ V1.setOther (by simp <;> omega) _
  have V2' : Var w2 (w.heap.size + 1 + 1) #[.slice (some ⟨g, 0, none⟩) zx.length zx.length, .slice none 0 0] := by subst hw2; exact var_mk2 (by simp; omega) (by go_simp) (by go_simp)
  have F1' : Free w2 (w.heap.size + 1) := hw2 ▸ F1.setCell _ _
  have F2' : Free w2 (w.heap.size + 1 + 1) := hw2 ▸ F2.setCell _ _
  have B2 : Below w.heap.size w w2 := hw2 ▸ B0.setCell (by simp; omega) _
  have O2 : Own 31 w2 w.heap.size (some ⟨g, 0, none⟩) zx.length zx.length zx := hw2 ▸ ((Own.setCell HO.out ne2 _).mono (by omega))
  rw [← hw2]
  clear V0 V1 V2 F1 F2 B0 HO GI c0 c1 d0 d1 f2 hw2
  refine (c_toO ay zy.length cy zy _ (HY.out.below B2) hm).mono ?_
  rintro _ w3 ⟨k, rfl, hb, ho⟩
  have V1 := V1'.keep hb
  have V2 := V2'.keep hb
  have F1 := F1'.below (by omega) hb
  have F2 := F2'.below (by omega) hb
  have B3 := B2.trans (hb.mono (by omega))
  have S3 := hb.size
  have GI := ho.in
  have OX := O2.below hb
  have OY := ho
  clear hb ho V0' V1' V2' F1' F2' B2 O2
  obtain ⟨c0, c1⟩ := var_two V1
  obtain ⟨d0, d1⟩ := var_two V2
  have f1 := F1 0
  have f1' := F1 1
  have f2 := F2 1
  have nk1 : blk (some (⟨k, 0, none⟩ : Addr)) ≠ some (w.heap.size + 1) := fun e => by have := GI _ e; omega
  have nk2 : blk (some (⟨k, 0, none⟩ : Addr)) ≠ some (w.heap.size + 1 + 1) := fun e => by have := GI _ e; omega
  have z1 : w.heap.size + 1 < w3.heap.size := by omega
  go_wp2_with fail
  refine bodyPost_ret (v := .agg #[.slice (some ⟨g, 0, none⟩) zx.length zx.length, .slice (some ⟨k, 0, none⟩) zy.length zy.length]) (by simp [results, Try.results57, c0, c1, z1, go_sem]) rfl ⟨g, k, rfl, ?_, ?_, ?_⟩
  · exact ((B3.setCell (by simp; omega) _).setCell (by simp) _).setCell (by simp) _
  · exact ((OX.setCell ne2 _).setCell ng1 _).setCell ng1 _
  · exact (((OY.setCell nk2 _).setCell nk1 _).setCell nk1 _).mono (by omega)
/-! ### sameFloat -/
theorem c_sameFloat (v n m : Nat) (w : World) (j : Nat) : Calls Try.prog 64 #[.float .f64 (pick .f64 v n), .float .f64 (pick .f64 v m)] (w.drewN j) (RetV (.bool true) w) := by
  have hs := self_ne .f64 v
  have ht := self_eq .f64 v
  cases h : isN .f64 v
  · rw [h] at hs ht
    cases h2 : (FloatKind.f64.format.order v 0 == some .eq)
    · go_enter Try.func64, Try.ntmps64
      go_wp2_with (first | (refine wpList_fop rfl _ _ _ _ _ rfl _ _ _ rfl rfl (by decide) _ ?_; intro _ _) | (refine upon_fop _ _ _ _ _ (by decide) ?_; intro _ _))
      go_ret
      exact ⟨_, rfl, rfl⟩
    · go_enter Try.func64, Try.ntmps64
      go_wp2_with (first | (refine wpList_fop rfl _ _ _ _ _ rfl _ _ _ rfl rfl (by decide) _ ?_; intro _ _) | (refine upon_fop _ _ _ _ _ (by decide) ?_; intro _ _))
      go_ret
      exact ⟨_, by simp, rfl⟩
  · rw [h] at hs ht
    go_enter Try.func64, Try.ntmps64
    go_wp2_with (first | (refine wpList_fop rfl _ _ _ _ _ rfl _ _ _ rfl rfl (by decide) _ ?_; intro _ _) | (refine upon_fop _ _ _ _ _ (by decide) ?_; intro _ _))
    go_ret
    exact ⟨_, rfl, rfl⟩

/-! ### eqFloat32S -/
theorem c_eqF (a b : Option Addr) (len c d : Nat) (zs : List Nat) (w : World) (j0 : Nat) (hr : IsRowF .f32 w a len c zs) (hs : IsRowF .f32 w b len d zs) : Calls Try.prog 53 #[.slice a len c, .slice b len d] (w.drewN j0) (RetV (.bool true) w) := by
  obtain ⟨h1, h2, h3, h4, h5⟩ := hr
  obtain ⟨g1, g2, g3, g4, g5⟩ := hs
  unfold maxLen at h3
  go_enter Try.func53, Try.ntmps53
  go_wp2
  go_loopw [5] (fun i wr => ∃ k m : Nat, k ≤ len ∧ i = .int .i64 k ∧ wr = w.drewN m) (fun i _ => len - (intOf i).toNat)
  case atStart => exact ⟨0, j0, Nat.zero_le _, rfl, rfl⟩
  case round =>
    obtain ⟨k, m, hk, rfl, rfl⟩ := hrel
    by_cases hlt : k < len
    · rcases h5 with h5 | ⟨x, off, rfl, hbl, hc⟩
      · omega
      rcases g5 with g5 | ⟨y, off2, rfl, gbl, gc⟩
      · omega
      have hcell : w.cell? ⟨x, off + k, none⟩ = some (.float .f32 (fat zs k)) := hc k hlt
      have gcell : w.cell? ⟨y, off2 + k, none⟩ = some (.float .f32 (fat zs k)) := gc k hlt
      clear hc h4 gc g4
      go_wp2
      refine wp_region_N (fun _ _ u => u = .bool true) (by kernel_rfl) (by kernel_rfl) ?_; (repeat (first | ((with_reducible show wpN _ _ _ _ _ (Oper.mk _ (Op.binOp _ _ _ _ _) _ _ _ none :: _) _); refine wpN_fop rfl _ _ _ _ _ rfl _ _ _ rfl rfl (by decide) ?_; intro _) | ((with_reducible show wpN _ _ _ _ _ (Oper.mk _ (Op.convert _ _ _) _ _ _ none :: _) _); refine wpN_cvU rfl 31 38 _ rfl (Option.isSome_iff_exists.2 ⟨_, Try.underlying31⟩) Try.underlying38 _ rfl ?_; intro _) | ((with_reducible show wpN _ _ _ _ _ (Oper.mk _ _ _ _ _ (some _) :: _) _); (with_reducible refine wpN_off ?_ ?_); focus rfl; (simp only [Act.put, List.setIfInBounds_toArray, List.set_cons_zero, List.set_cons_succ])) | ((with_reducible show wpN _ _ _ _ _ (Oper.mk _ _ _ _ _ (some _) :: _) _); ((with_reducible refine wpN_on ?_ (fun K hK => ?_)); (focus rfl); intro _; go_simp; first | (refine uponN_value (hK _ ?_)) | ((refine uponN_call (callN rfl (c_sameFloat _ _ _ _ _)) ?_; intro u hu; obtain rfl : u = _ := hu); refine hK _ ?_)); clear hK K) | (((with_reducible refine wpN_plain rfl (fun K hK => ?_)); intro _; go_simp; first | (refine uponN_value (hK _ ?_)) | ((refine uponN_call (callN rfl (c_sameFloat _ _ _ _ _)) ?_; intro u hu; obtain rfl : u = _ := hu); refine hK _ ?_)); clear hK K) | ((with_reducible refine wpN_step (fun K hK => ?_)); go_simp; first | (refine hK _ ?_) | (intro _; first | (refine uponN_value (hK _ ?_)) | ((refine uponN_call (callN rfl (c_sameFloat _ _ _ _ _)) ?_; intro u hu; obtain rfl : u = _ := hu); refine hK _ ?_)); clear hK K))); refine wpN_nil ?_; intro _
      go_wp2
      go_roundw
      case rel => exact ⟨k + 1, _, by omega, by go_num, rfl⟩
      case measure => simp [intOf]; omega
    · clear h5 h4 g4 g5
      go_wp2
      go_ret
      exact ⟨_, rfl, rfl⟩
/-! ### eqPicture -/
theorem c_eqF0 (a b : Option Addr) (len c d : Nat) (zs : List Nat) (w : World) (hr : IsRowF .f32 w a len c zs) (hs : IsRowF .f32 w b len d zs) : Calls Try.prog 53 #[.slice a len c, .slice b len d] w (RetV (.bool true) w) := by
  have h := c_eqF a b len c d zs w 0 hr hs
  rwa [w.drewN_zero] at h
theorem c_eqP (W H : Int) (a b : Option Addr) (len c d : Nat) (zs : List Nat) (w : World) (hr : IsRowF .f32 w a len c zs) (hs : IsRowF .f32 w b len d zs) : Calls Try.prog 47 #[.agg #[.int .i64 W, .int .i64 H, .slice a len c], .agg #[.int .i64 W, .int .i64 H, .slice b len d]] w (RetB (.bool true) w) := by
  have HR := Lib.hid hr
  have HS := Lib.hid hs
  clear hr hs
  go_enter Try.func47, Try.ntmps47
  go_wp2_with fail
  refine (c_eqF0 a b len c d zs _ ((HR.out.alloc _).alloc _) ((HS.out.alloc _).alloc _)).mono ?_
  rintro _ _ ⟨m, rfl, rfl⟩
  go_wp2_with fail
  go_ret
  exact ⟨rfl, below_drewN (((Below.refl _ _).alloc (Nat.le_refl _) _).alloc (by simp) _) _⟩
/-! ### eqCurve -/
theorem c_eqCur (a b : Option Addr) (c d : Nat) (zx : List Nat) (a2 b2 : Option Addr) (c2 d2 : Nat) (zy : List Nat) (w : World) (ha : IsRowF .f32 w a zx.length c zx) (hb : IsRowF .f32 w b zx.length d zx) (ha2 : IsRowF .f32 w a2 zy.length c2 zy) (hb2 : IsRowF .f32 w b2 zy.length d2 zy) : Calls Try.prog 59 #[.agg #[.slice a zx.length c, .slice a2 zy.length c2], .agg #[.slice b zx.length d, .slice b2 zy.length d2]] w (RetB (.bool true) w) := by
  have HA := Lib.hid ha
  have HB := Lib.hid hb
  have HA2 := Lib.hid ha2
  have HB2 := Lib.hid hb2
  clear ha hb ha2 hb2
  go_enter Try.func59, Try.ntmps59
  go_wp2_with fail
  refine (c_eqF0 a b zx.length c d zx _ ((HA.out.alloc _).alloc _) ((HB.out.alloc _).alloc _)).mono ?_
  rintro _ _ ⟨m, rfl, rfl⟩
  go_wp2_with fail
  refine (c_eqF a2 b2 zy.length c2 d2 zy _ m ((HA2.out.alloc _).alloc _) ((HB2.out.alloc _).alloc _)).mono ?_
  rintro _ _ ⟨m2, rfl, rfl⟩
  go_wp2_with fail
  go_ret
  exact ⟨rfl, below_drewN (((Below.refl _ _).alloc (Nat.le_refl _) _).alloc (by simp) _) _⟩
/-! ### curRow -/
theorem rows_same {w : World} {a : Option Addr} {len c : Nat} {z1 z2 : List Nat} (h1 : IsRowF .f32 w a len c z1) (h2 : IsRowF .f32 w a len c z2) : z1 = z2 := by
  obtain ⟨p1, _, _, _, q1⟩ := h1
  obtain ⟨p2, _, _, _, q2⟩ := h2
  refine fat_ext (by omega) (fun k hk => ?_)
  rcases q1 with q1 | ⟨b, off, rfl, _, c1⟩
  · omega
  rcases q2 with q2 | ⟨b', off', e, _, c2⟩
  · omega
  cases e
  have e1 := c1 k (by omega)
  have e2 := c2 k (by omega)
  rw [e1] at e2
  simpa using e2
/-! ### sameDefs -/
def sm (a b : Nat) : Bool := bitsI a == bitsI b
def sameK (zA zB : List Nat) (k : Nat) : Bool := ((zA.zip zB).take k).all (fun p => sm p.1 p.2)
def sameL (zA zB : List Nat) : Bool := zA.length == zB.length && (zA.zip zB).all (fun p => sm p.1 p.2)
def sameP (WA HA : Int) (zA : List Nat) (WB HB : Int) (zB : List Nat) : Bool := WA == WB && HA == HB && sameL zA zB
theorem sameK_succ {zA zB : List Nat} (h : zA.length = zB.length) {k : Nat} (hk : k < zA.length) : sameK zA zB (k + 1) = (sameK zA zB k && sm (fat zA k) (fat zB k)) := by
  have hl : k < (zA.zip zB).length := by simp; omega
  have hk2 : k < zB.length := by omega
  unfold sameK fat
  rw [List.take_succ_eq_append_getElem hl, List.all_append, List.getD, List.getElem?_eq_getElem hk, List.getD, List.getElem?_eq_getElem hk2]
  simp
theorem sameK_full {zA zB : List Nat} (h : zA.length = zB.length) : sameK zA zB zA.length = sameL zA zB := by
  unfold sameK sameL
  rw [List.take_of_length_le (by simp; omega), h]
  simp
theorem sameK_not {zA zB : List Nat} (h : zA.length = zB.length) {k : Nat} (hk : k < zA.length) (hs : sm (fat zA k) (fat zB k) = false) : sameL zA zB = false := by
  have hl : k < (zA.zip zB).length := by simp; omega
  have hk2 : k < zB.length := by omega
  have : (zA.zip zB).all (fun p => sm p.1 p.2) = false := by
    rw [List.all_eq_false]
    refine ⟨(zA.zip zB)[k], List.getElem_mem hl, ?_⟩
    unfold fat at hs
    rw [List.getD, List.getElem?_eq_getElem hk, List.getD, List.getElem?_eq_getElem hk2] at hs
    simpa using hs
  unfold sameL
  rw [this, Bool.and_false]
theorem sameL_len {zA zB : List Nat} (h : zA.length ≠ zB.length) : sameL zA zB = false := by
  unfold sameL
  rw [beq_false_of_ne h, Bool.false_and]
theorem row_lt {w : World} {a : Option Addr} {len cap : Nat} {zs : List Nat} (h : IsRowF .f32 w a len cap zs) {k : Nat} (hk : k < len) : fat zs k < 2 ^ FloatKind.f32.format.width := lt_of_wf (h.2.2.2.1 _ (fat_mem (by have := h.1; omega)))
/-! ### IsNaN -/
theorem c_IsNaN (v n : Nat) (w : World) (j : Nat) : Calls Try.prog 175 #[.float .f64 (pick .f64 v n)] (w.drewN j) (RetV (.bool (isN .f64 v)) w) := by
  go_enter Try.func175, Try.ntmps175
  go_wp2
  go_ret
  exact ⟨_, rfl, rfl⟩
/-! ### f32from -/
@[go_sem] theorem e_f32from (n : Int) (w : World) : (callFunc 192 #[.int .u32 n]).run Try.prog w = .ok (.value (.float .f32 n.toNat)) w := by kernel_rfl
/-! ### notANumber -/
theorem c_notANumber (w : World) (j : Nat) : Calls Try.prog 181 #[] (w.drewN j) (RetV (.float .f32 2143289344) w) := by
  go_enter Try.func181, Try.ntmps181
  go_wp2
  go_ret
  exact ⟨_, rfl, rfl⟩
/-! ### f32bits -/
@[go_sem] theorem e_f32bits (b : Nat) (w : World) : (callFunc 185 #[.float .f32 b]).run Try.prog w = .ok (.value (.int .u32 b)) w := by kernel_rfl
/-! ### iBitsOf -/
theorem c_iBitsOf (v n : Nat) (w : World) (j : Nat) (hv : v < 2 ^ FloatKind.f32.format.width) : Calls Try.prog 168 #[.float .f32 (pick .f32 v n)] (w.drewN j) (RetV (.int .i64 (bitsI v)) w) := by
  have hv' : v < 4294967296 := hv
  have hc := isN_cvU v
  cases h : isN .f32 v
  · rw [h] at hc
    have e : bitsI v = v := by simp [bitsI, h]
    rw [e, pick_not h]
    go_enter Try.func168, Try.ntmps168
    go_wp2_with (first | (refine wpList_cvU rfl 31 38 _ rfl (Option.isSome_iff_exists.2 ⟨_, Try.underlying31⟩) Try.underlying38 _ rfl _ ?_; intro _ _) | (go_at_call 175; refine (c_IsNaN _ _ _ _).mono ?_; rintro _ _ ⟨_, rfl, rfl⟩) | (go_at_call 181; refine (c_notANumber _ _).mono ?_; rintro _ _ ⟨_, rfl, rfl⟩))
    go_ret
    exact ⟨_, rfl, rfl⟩
  · rw [h] at hc
    have e : bitsI v = 2143289344 := by simp [bitsI, h]
    rw [e]
    go_enter Try.func168, Try.ntmps168
    go_wp2_with (first | (refine wpList_cvU rfl 31 38 _ rfl (Option.isSome_iff_exists.2 ⟨_, Try.underlying31⟩) Try.underlying38 _ rfl _ ?_; intro _ _) | (go_at_call 175; refine (c_IsNaN _ _ _ _).mono ?_; rintro _ _ ⟨_, rfl, rfl⟩) | (go_at_call 181; refine (c_notANumber _ _).mono ?_; rintro _ _ ⟨_, rfl, rfl⟩))
    go_ret
    exact ⟨_, rfl, rfl⟩
/-! ### iSameNumber -/
theorem c_iSameNumber (a n b m : Nat) (w : World) (j : Nat) (ha : a < 2 ^ FloatKind.f32.format.width) (hb : b < 2 ^ FloatKind.f32.format.width) : Calls Try.prog 119 #[.float .f32 (pick .f32 a n), .float .f32 (pick .f32 b m)] (w.drewN j) (RetV (.bool (bitsI a == bitsI b)) w) := by
  go_enter Try.func119, Try.ntmps119
  go_wp2_with (first | (go_at_call 168; refine (c_iBitsOf _ _ _ _ (by assumption)).mono ?_; rintro _ _ ⟨_, rfl, rfl⟩))
  go_ret
  exact ⟨_, rfl, rfl⟩
/-! ### equalFunc -/
theorem c_equalFunc (zA : List Nat) (aA : Option Addr) (cA : Nat) (zB : List Nat) (aB : Option Addr) (cB : Nat) (w : World) (j0 : Nat) (rA : IsRowF .f32 w aA zA.length cA zA) (rB : IsRowF .f32 w aB zB.length cB zB) :
    Calls Try.prog 138 #[.slice aA zA.length cA, .slice aB zB.length cB, .func (.func 119) #[] #[]] (w.drewN j0) (RetV (.bool (sameL zA zB)) w) := by
  have RA := Lib.hid rA
  have RB := Lib.hid rB
  have mA : zA.length ≤ maxLen := Nat.le_trans rA.2.1 rA.2.2.1
  unfold maxLen at mA
  clear rA rB
  by_cases hl : (zA.length : Int) = zB.length
  · have hd : ((zA.length : Int) != zB.length) = false := by simp [hl]
    have HL : Hid (zA.length = zB.length) := by unfold Hid; omega
    clear hl
    go_enter Try.func138, Try.ntmps138
    go_wp2
    go_loopw [7, 8, 9, 17] (fun _ _ _ i wr => ∃ k m : Nat, k ≤ zA.length ∧ i = .int .i64 k ∧ wr = w.drewN m ∧ sameK zA zB k = true) (fun _ _ _ i _ => zA.length - (intOf i).toNat)
    case atStart => exact ⟨0, j0, Nat.zero_le _, rfl, rfl, rfl⟩
    case round =>
      obtain ⟨k, m, hk, rfl, rfl, hfin⟩ := hrel
      have HFin := Lib.hid hfin
      clear hfin
      by_cases hlt : k < zA.length
      · have hltB : k < zB.length := by have := HL.out; omega
        obtain ⟨bA, oA, nA, rfl, hbA, eA⟩ := RA.out.at hlt
        obtain ⟨bB, oB, nB, rfl, hbB, eB⟩ := RB.out.at hltB
        have C1 := Lib.hid (fun n => c_iSameNumber (fat zA k) nA (fat zB k) nB w n (row_lt RA.out hlt) (row_lt RB.out hltB))
        have HS := Lib.hid (sameK_succ HL.out hlt)
        have HX := Lib.hid (sameK_not HL.out hlt)
        clear hbA hbB
        cases hs : sm (fat zA k) (fat zB k)
        · have H1 := Lib.hid hs
          have C2 := Lib.hid (fun n => (by have h := C1.out n; rwa [show (bitsI (fat zA k) == bitsI (fat zB k)) = false from hs] at h))
          clear hs C1
          go_wp2_with ((go_at_call 119; refine (C2.out _).mono ?_; rintro _ _ ⟨_, rfl, rfl⟩))
          go_ret
          exact ⟨_, by rw [HX.out H1.out]; rfl, rfl⟩
        · have H1 := Lib.hid hs
          have C2 := Lib.hid (fun n => (by have h := C1.out n; rwa [show (bitsI (fat zA k) == bitsI (fat zB k)) = true from hs] at h))
          clear hs C1
          go_wp2_with ((go_at_call 119; refine (C2.out _).mono ?_; rintro _ _ ⟨_, rfl, rfl⟩))
          go_roundw
          case rel => exact ⟨k + 1, _, by omega, by go_num, rfl, by rw [HS.out, HFin.out, H1.out]; rfl⟩
          case measure => simp [intOf]; omega
      · obtain rfl : k = zA.length := by omega
        have HK := Lib.hid (sameK_full HL.out)
        go_wp2
        go_ret
        exact ⟨_, by rw [← HK.out, HFin.out]; rfl, rfl⟩
  · have hd : ((zA.length : Int) != zB.length) = true := by simpa using hl
    have HE := Lib.hid (sameL_len (zA := zA) (zB := zB) (by omega))
    clear hl
    go_enter Try.func138, Try.ntmps138
    go_wp2
    go_ret
    exact ⟨_, by rw [HE.out]; rfl, rfl⟩
theorem c_equalFunc0 (zA : List Nat) (aA : Option Addr) (cA : Nat) (zB : List Nat) (aB : Option Addr) (cB : Nat) (w : World) (rA : IsRowF .f32 w aA zA.length cA zA) (rB : IsRowF .f32 w aB zB.length cB zB) :
    Calls Try.prog 138 #[.slice aA zA.length cA, .slice aB zB.length cB, .func (.func 119) #[] #[]] w (RetV (.bool (sameL zA zB)) w) := by
  have h := c_equalFunc zA aA cA zB aB cB w 0 rA rB
  rwa [w.drewN_zero] at h
/-! ### iSameCur -/
theorem c_iSameCurve (xA yA : List Nat) (axA : Option Addr) (cxA : Nat) (ayA : Option Addr) (cyA : Nat) (xB yB : List Nat) (axB : Option Addr) (cxB : Nat) (ayB : Option Addr) (cyB : Nat) (w : World)
    (rxA : IsRowF .f32 w axA xA.length cxA xA) (ryA : IsRowF .f32 w ayA yA.length cyA yA) (rxB : IsRowF .f32 w axB xB.length cxB xB) (ryB : IsRowF .f32 w ayB yB.length cyB yB) : Calls Try.prog 61 #[.agg #[.slice axA xA.length cxA, .slice ayA yA.length cyA], .agg #[.slice axB xB.length cxB, .slice ayB yB.length cyB]] w (RetB (.bool (sameL xA xB && sameL yA yB)) w) := by
  obtain ⟨w0, hw0⟩ : ∃ w0, w0 = (w.alloc (Obj.cells #[.slice axA xA.length cxA, .slice ayA yA.length cyA] 75)).alloc (Obj.cells #[.slice axB xB.length cxB, .slice ayB yB.length cyB] 75) := ⟨_, rfl⟩
  have VA : Var w0 w.heap.size #[.slice axA xA.length cxA, .slice ayA yA.length cyA] := hw0 ▸ (Var.new _ _ _).alloc _
  have VB : Var w0 (w.heap.size + 1) #[.slice axB xB.length cxB, .slice ayB yB.length cyB] := hw0 ▸ Var.new' _ _ _ _ (by simp)
  have B0 : Below w.heap.size w w0 := hw0 ▸ ((Below.refl _ _).alloc (Nat.le_refl _) _).alloc (by simp) _
  have CX := Lib.hid (fun n => c_equalFunc xA axA cxA xB axB cxB w0 n (rxA.below B0) (rxB.below B0))
  have CY := Lib.hid (fun n => c_equalFunc yA ayA cyA yB ayB cyB w0 n (ryA.below B0) (ryB.below B0))
  have HW := Lib.hid hw0.symm
  have BB := Lib.hid B0
  obtain ⟨p0, p1⟩ := var_two VA
  obtain ⟨q0, q1⟩ := var_two VB
  clear rxA ryA rxB ryB hw0 VA VB B0
  generalize sameL xA xB = r at *
  generalize sameL yA yB = q at *
  cases r
  all_goals
    go_enter Try.func61, Try.ntmps61
    go_wp2_with fail
    rw [HW.out]
    rw [← w0.drewN_zero]
    go_wp2_with (go_at_call 138; first | ((with_reducible refine (CX.out _).mono ?_); rintro _ _ ⟨_, rfl, rfl⟩) | ((with_reducible refine (CY.out _).mono ?_); rintro _ _ ⟨_, rfl, rfl⟩))
    go_ret
    exact ⟨by simp, below_drewN BB.out _⟩

/-! ### l01Bits -/
theorem c_l01Bits (v n : Nat) (w : World) (j : Nat) (hv : v < 2 ^ FloatKind.f32.format.width) : Calls Try.prog 196 #[.float .f32 (pick .f32 v n)] (w.drewN j) (RetV (.int .i64 (bitsI v)) w) := by
  have hv' : v < 4294967296 := hv
  cases h : isN .f32 v
  · have e : bitsI v = v := by simp [bitsI, h]
    rw [e, pick_not h]
    have hs := self_ne .f32 v
    rw [h] at hs
    go_enter Try.func196, Try.ntmps196
    go_wp2
    go_ret
    exact ⟨_, rfl, rfl⟩
  · have e : bitsI v = 2143289344 := by simp [bitsI, h]
    rw [e]
    go_enter Try.func196, Try.ntmps196
    go_wp2
    go_ret
    exact ⟨_, rfl, rfl⟩
/-! ### l01SameF -/
theorem c_l01Same (a n b m : Nat) (w : World) (j : Nat) (ha : a < 2 ^ FloatKind.f32.format.width) (hb : b < 2 ^ FloatKind.f32.format.width) : Calls Try.prog 191 #[.float .f32 (pick .f32 a n), .float .f32 (pick .f32 b m)] (w.drewN j) (RetV (.bool (bitsI a == bitsI b)) w) := by
  go_enter Try.func191, Try.ntmps191
  go_wp2_with (first | (go_at_call 196; refine (c_l01Bits _ _ _ _ (by assumption)).mono ?_; rintro _ _ ⟨_, rfl, rfl⟩))
  go_ret
  exact ⟨_, rfl, rfl⟩
/-! ### l01SameAll -/
theorem c_l01SameAll (zA : List Nat) (aA : Option Addr) (cA : Nat) (zB : List Nat) (aB : Option Addr) (cB : Nat) (w : World) (j0 : Nat) (rA : IsRowF .f32 w aA zA.length cA zA) (rB : IsRowF .f32 w aB zB.length cB zB) :
    Calls Try.prog 173 #[.slice aA zA.length cA, .slice aB zB.length cB] (w.drewN j0) (RetV (.bool (sameL zA zB)) w) := by
  have RA := Lib.hid rA
  have RB := Lib.hid rB
  have mA : zA.length ≤ maxLen := Nat.le_trans rA.2.1 rA.2.2.1
  unfold maxLen at mA
  clear rA rB
  by_cases hl : (zA.length : Int) = zB.length
  · have hd : ((zA.length : Int) != zB.length) = false := by simp [hl]
    have HL : Hid (zA.length = zB.length) := by unfold Hid; omega
    clear hl
    go_enter Try.func173, Try.ntmps173
    go_wp2
    go_loopw [5] (fun i wr => ∃ k m : Nat, k ≤ zA.length ∧ i = .int .i64 k ∧ wr = w.drewN m ∧ sameK zA zB k = true) (fun i _ => zA.length - (intOf i).toNat)
    case atStart => exact ⟨0, j0, Nat.zero_le _, rfl, rfl, rfl⟩
    case round =>
      obtain ⟨k, m, hk, rfl, rfl, hfin⟩ := hrel
      have HFin := Lib.hid hfin
      clear hfin
      by_cases hlt : k < zA.length
      · have hltB : k < zB.length := by have := HL.out; omega
        obtain ⟨bA, oA, nA, rfl, hbA, eA⟩ := RA.out.at hlt
        obtain ⟨bB, oB, nB, rfl, hbB, eB⟩ := RB.out.at hltB
        have C1 := Lib.hid (fun n => c_l01Same (fat zA k) nA (fat zB k) nB w n (row_lt RA.out hlt) (row_lt RB.out hltB))
        have HS := Lib.hid (sameK_succ HL.out hlt)
        have HX := Lib.hid (sameK_not HL.out hlt)
        clear hbA hbB
        cases hs : sm (fat zA k) (fat zB k)
        · have H1 := Lib.hid hs
          have C2 := Lib.hid (fun n => (by have h := C1.out n; rwa [show (bitsI (fat zA k) == bitsI (fat zB k)) = false from hs] at h))
          clear hs C1
          go_wp2
          refine wp_region_N (fun f _ u => f = 191 → u = .bool false) (by kernel_rfl) (by kernel_rfl) ?_; (repeat (first | ((with_reducible show wpN _ _ _ _ _ (Oper.mk _ (Op.binOp _ _ _ _ _) _ _ _ none :: _) _); refine wpN_fop rfl _ _ _ _ _ rfl _ _ _ rfl rfl (by decide) ?_; intro _) | ((with_reducible show wpN _ _ _ _ _ (Oper.mk _ (Op.convert _ _ _) _ _ _ none :: _) _); refine wpN_cvU rfl 31 38 _ rfl (Option.isSome_iff_exists.2 ⟨_, Try.underlying31⟩) Try.underlying38 _ rfl ?_; intro _) | ((with_reducible show wpN _ _ _ _ _ (Oper.mk _ _ _ _ _ (some _) :: _) _); (with_reducible refine wpN_off ?_ ?_); focus rfl; (simp only [Act.put, List.setIfInBounds_toArray, List.set_cons_zero, List.set_cons_succ])) | ((with_reducible show wpN _ _ _ _ _ (Oper.mk _ _ _ _ _ (some _) :: _) _); ((with_reducible refine wpN_on ?_ (fun K hK => ?_)); (focus rfl); intro _; go_simp; first | (refine uponN_value (hK _ ?_)) | ((refine uponN_call (callN (v := .bool false) (fun _ => rfl) (C2.out _)) ?_; intro u hu; obtain rfl : u = _ := hu rfl; clear hu); refine hK _ ?_)); clear hK K) | (((with_reducible refine wpN_plain rfl (fun K hK => ?_)); intro _; go_simp; first | (refine uponN_value (hK _ ?_)) | ((refine uponN_call (callN (v := .bool false) (fun _ => rfl) (C2.out _)) ?_; intro u hu; obtain rfl : u = _ := hu rfl; clear hu); refine hK _ ?_)); clear hK K) | ((with_reducible refine wpN_step (fun K hK => ?_)); go_simp; first | (refine hK _ ?_) | (intro _; first | (refine uponN_value (hK _ ?_)) | ((refine uponN_call (callN (v := .bool false) (fun _ => rfl) (C2.out _)) ?_; intro u hu; obtain rfl : u = _ := hu rfl; clear hu); refine hK _ ?_)); clear hK K))); refine wpN_nil ?_; intro _
          go_wp2
          go_ret
          exact ⟨_, by rw [HX.out H1.out]; rfl, rfl⟩
        · have H1 := Lib.hid hs
          have C2 := Lib.hid (fun n => (by have h := C1.out n; rwa [show (bitsI (fat zA k) == bitsI (fat zB k)) = true from hs] at h))
          clear hs C1
          go_wp2
          refine wp_region_N (fun f _ u => f = 191 → u = .bool true) (by kernel_rfl) (by kernel_rfl) ?_; (repeat (first | ((with_reducible show wpN _ _ _ _ _ (Oper.mk _ (Op.binOp _ _ _ _ _) _ _ _ none :: _) _); refine wpN_fop rfl _ _ _ _ _ rfl _ _ _ rfl rfl (by decide) ?_; intro _) | ((with_reducible show wpN _ _ _ _ _ (Oper.mk _ (Op.convert _ _ _) _ _ _ none :: _) _); refine wpN_cvU rfl 31 38 _ rfl (Option.isSome_iff_exists.2 ⟨_, Try.underlying31⟩) Try.underlying38 _ rfl ?_; intro _) | ((with_reducible show wpN _ _ _ _ _ (Oper.mk _ _ _ _ _ (some _) :: _) _); (with_reducible refine wpN_off ?_ ?_); focus rfl; (simp only [Act.put, List.setIfInBounds_toArray, List.set_cons_zero, List.set_cons_succ])) | ((with_reducible show wpN _ _ _ _ _ (Oper.mk _ _ _ _ _ (some _) :: _) _); ((with_reducible refine wpN_on ?_ (fun K hK => ?_)); (focus rfl); intro _; go_simp; first | (refine uponN_value (hK _ ?_)) | ((refine uponN_call (callN (v := .bool true) (fun _ => rfl) (C2.out _)) ?_; intro u hu; obtain rfl : u = _ := hu rfl; clear hu); refine hK _ ?_)); clear hK K) | (((with_reducible refine wpN_plain rfl (fun K hK => ?_)); intro _; go_simp; first | (refine uponN_value (hK _ ?_)) | ((refine uponN_call (callN (v := .bool true) (fun _ => rfl) (C2.out _)) ?_; intro u hu; obtain rfl : u = _ := hu rfl; clear hu); refine hK _ ?_)); clear hK K) | ((with_reducible refine wpN_step (fun K hK => ?_)); go_simp; first | (refine hK _ ?_) | (intro _; first | (refine uponN_value (hK _ ?_)) | ((refine uponN_call (callN (v := .bool true) (fun _ => rfl) (C2.out _)) ?_; intro u hu; obtain rfl : u = _ := hu rfl; clear hu); refine hK _ ?_)); clear hK K))); refine wpN_nil ?_; intro _
          go_wp2
          go_roundw
          case rel => exact ⟨k + 1, _, by omega, by go_num, rfl, by rw [HS.out, HFin.out, H1.out]; rfl⟩
          case measure => simp [intOf]; omega
      · obtain rfl : k = zA.length := by omega
        have HK := Lib.hid (sameK_full HL.out)
        go_wp2
        go_ret
        exact ⟨_, by rw [← HK.out, HFin.out]; rfl, rfl⟩
  · have hd : ((zA.length : Int) != zB.length) = true := by simpa using hl
    have HE := Lib.hid (sameL_len (zA := zA) (zB := zB) (by omega))
    clear hl
    go_enter Try.func173, Try.ntmps173
    go_wp2
    go_ret
    exact ⟨_, by rw [HE.out]; rfl, rfl⟩
/-! ### sSameCur -/
theorem c_l04Same (xA yA : List Nat) (axA : Option Addr) (cxA : Nat) (ayA : Option Addr) (cyA : Nat) (xB yB : List Nat) (axB : Option Addr) (cxB : Nat) (ayB : Option Addr) (cyB : Nat) (x y : Nat) (w : World) (vx : Var w x #[.slice axA xA.length cxA, .slice ayA yA.length cyA]) (vy : Var w y #[.slice axB xB.length cxB, .slice ayB yB.length cyB])
    (rxA : IsRowF .f32 w axA xA.length cxA xA) (ryA : IsRowF .f32 w ayA yA.length cyA yA) (rxB : IsRowF .f32 w axB xB.length cxB xB) (ryB : IsRowF .f32 w ayB yB.length cyB yB) : Calls Try.prog 137 #[.pointer (some ⟨x, 0, none⟩), .pointer (some ⟨y, 0, none⟩)] (w.drewN 0) (RetV (.bool (sameL xA xB && sameL yA yB)) w) := by
  obtain ⟨p0, p1⟩ := var_two vx
  obtain ⟨q0, q1⟩ := var_two vy
  have CX := Lib.hid (fun n => c_l01SameAll xA axA cxA xB axB cxB w n rxA rxB)
  have CY := Lib.hid (fun n => c_l01SameAll yA ayA cyA yB ayB cyB w n ryA ryB)
  cases hx : sameL xA xB
  · rw [hx] at CX
    clear hx vx vy rxA ryA rxB ryB
    go_enter Try.func137, Try.ntmps137
    go_wp2_with fail
    refine wp_region_N (fun f _ u => u = .bool false) (by kernel_rfl) (by kernel_rfl) ?_; (repeat (first | ((with_reducible show wpN _ _ _ _ _ (Oper.mk _ (Op.binOp _ _ _ _ _) _ _ _ none :: _) _); refine wpN_fop rfl _ _ _ _ _ rfl _ _ _ rfl rfl (by decide) ?_; intro _) | ((with_reducible show wpN _ _ _ _ _ (Oper.mk _ (Op.convert _ _ _) _ _ _ none :: _) _); refine wpN_cvU rfl 31 38 _ rfl (Option.isSome_iff_exists.2 ⟨_, Try.underlying31⟩) Try.underlying38 _ rfl ?_; intro _) | ((with_reducible show wpN _ _ _ _ _ (Oper.mk _ _ _ _ _ (some _) :: _) _); (with_reducible refine wpN_off ?_ ?_); focus rfl; (simp only [Act.put, List.setIfInBounds_toArray, List.set_cons_zero, List.set_cons_succ])) | ((with_reducible show wpN _ _ _ _ _ (Oper.mk _ _ _ _ _ (some _) :: _) _); ((with_reducible refine wpN_on ?_ (fun K hK => ?_)); (focus rfl); intro _; go_simp; first | (refine uponN_value (hK _ ?_)) | ((refine uponN_call (callN (v := .bool false) rfl (CX.out _)) ?_; intro u hu; obtain rfl : u = _ := hu); refine hK _ ?_)); clear hK K) | (((with_reducible refine wpN_plain rfl (fun K hK => ?_)); intro _; go_simp; first | (refine uponN_value (hK _ ?_)) | ((refine uponN_call (callN (v := .bool false) rfl (CX.out _)) ?_; intro u hu; obtain rfl : u = _ := hu); refine hK _ ?_)); clear hK K) | ((with_reducible refine wpN_step (fun K hK => ?_)); go_simp; first | (refine hK _ ?_) | (intro _; first | (refine uponN_value (hK _ ?_)) | ((refine uponN_call (callN (v := .bool false) rfl (CX.out _)) ?_; intro u hu; obtain rfl : u = _ := hu); refine hK _ ?_)); clear hK K))); refine wpN_nil ?_; intro _
    go_wp2_with fail
    go_ret
    exact ⟨_, rfl, rfl⟩
  cases hy : sameL yA yB
  · have hne : (#[Value.slice axA xA.length cxA, Value.slice axB xB.length cxB] : Array Value) ≠ #[Value.slice ayA yA.length cyA, Value.slice ayB yB.length cyB] := by
      intro e
      simp only [Array.mk.injEq, List.cons.injEq, and_true, Value.slice.injEq] at e
      obtain ⟨⟨e1, e2, e3⟩, e4, e5, e6⟩ := e
      rw [← e1, ← e2, ← e3] at ryA
      rw [← e4, ← e5, ← e6] at ryB
      rw [rows_same rxA ryA, rows_same rxB ryB, hy] at hx
      cases hx
    rw [hx] at CX
    rw [hy] at CY
    have HN := Lib.hid hne
    clear hx hy hne vx vy rxA ryA rxB ryB
    go_enter Try.func137, Try.ntmps137
    go_wp2_with fail
    refine wp_region_N (fun f args u => (args = #[.slice axA xA.length cxA, .slice axB xB.length cxB] → u = .bool true) ∧ (args = #[.slice ayA yA.length cyA, .slice ayB yB.length cyB] → u = .bool false)) (by kernel_rfl) (by kernel_rfl) ?_; (repeat (first | ((with_reducible show wpN _ _ _ _ _ (Oper.mk _ (Op.binOp _ _ _ _ _) _ _ _ none :: _) _); refine wpN_fop rfl _ _ _ _ _ rfl _ _ _ rfl rfl (by decide) ?_; intro _) | ((with_reducible show wpN _ _ _ _ _ (Oper.mk _ (Op.convert _ _ _) _ _ _ none :: _) _); refine wpN_cvU rfl 31 38 _ rfl (Option.isSome_iff_exists.2 ⟨_, Try.underlying31⟩) Try.underlying38 _ rfl ?_; intro _) | ((with_reducible show wpN _ _ _ _ _ (Oper.mk _ _ _ _ _ (some _) :: _) _); (with_reducible refine wpN_off ?_ ?_); focus rfl; (simp only [Act.put, List.setIfInBounds_toArray, List.set_cons_zero, List.set_cons_succ])) | ((with_reducible show wpN _ _ _ _ _ (Oper.mk _ _ _ _ _ (some _) :: _) _); ((with_reducible refine wpN_on ?_ (fun K hK => ?_)); (focus rfl); intro _; go_simp; first | (refine uponN_value (hK _ ?_)) | ((first | ((with_reducible refine uponN_call (callN (v := .bool true) ?_ (CX.out _)) ?_); (focus exact ⟨fun _ => rfl, fun e => absurd e HN.out⟩); intro u hu; obtain rfl : u = _ := hu.1 rfl; clear hu) | ((with_reducible refine uponN_call (callN (v := .bool false) ?_ (CY.out _)) ?_); (focus exact ⟨fun e => absurd e.symm HN.out, fun _ => rfl⟩); intro u hu; obtain rfl : u = _ := hu.2 rfl; clear hu)); refine hK _ ?_)); clear hK K) | (((with_reducible refine wpN_plain rfl (fun K hK => ?_)); intro _; go_simp; first | (refine uponN_value (hK _ ?_)) | ((first | ((with_reducible refine uponN_call (callN (v := .bool true) ?_ (CX.out _)) ?_); (focus exact ⟨fun _ => rfl, fun e => absurd e HN.out⟩); intro u hu; obtain rfl : u = _ := hu.1 rfl; clear hu) | ((with_reducible refine uponN_call (callN (v := .bool false) ?_ (CY.out _)) ?_); (focus exact ⟨fun e => absurd e.symm HN.out, fun _ => rfl⟩); intro u hu; obtain rfl : u = _ := hu.2 rfl; clear hu)); refine hK _ ?_)); clear hK K) | ((with_reducible refine wpN_step (fun K hK => ?_)); go_simp; first | (refine hK _ ?_) | (intro _; first | (refine uponN_value (hK _ ?_)) | ((first | ((with_reducible refine uponN_call (callN (v := .bool true) ?_ (CX.out _)) ?_); (focus exact ⟨fun _ => rfl, fun e => absurd e HN.out⟩); intro u hu; obtain rfl : u = _ := hu.1 rfl; clear hu) | ((with_reducible refine uponN_call (callN (v := .bool false) ?_ (CY.out _)) ?_); (focus exact ⟨fun e => absurd e.symm HN.out, fun _ => rfl⟩); intro u hu; obtain rfl : u = _ := hu.2 rfl; clear hu)); refine hK _ ?_)); clear hK K))); refine wpN_nil ?_; intro _
    go_wp2_with fail
    go_ret
    exact ⟨_, rfl, rfl⟩
  rw [hx] at CX
  rw [hy] at CY
  clear hx hy vx vy rxA ryA rxB ryB
  go_enter Try.func137, Try.ntmps137
  go_wp2_with fail
  refine wp_region_N (fun f _ u => u = .bool true) (by kernel_rfl) (by kernel_rfl) ?_; (repeat (first | ((with_reducible show wpN _ _ _ _ _ (Oper.mk _ (Op.binOp _ _ _ _ _) _ _ _ none :: _) _); refine wpN_fop rfl _ _ _ _ _ rfl _ _ _ rfl rfl (by decide) ?_; intro _) | ((with_reducible show wpN _ _ _ _ _ (Oper.mk _ (Op.convert _ _ _) _ _ _ none :: _) _); refine wpN_cvU rfl 31 38 _ rfl (Option.isSome_iff_exists.2 ⟨_, Try.underlying31⟩) Try.underlying38 _ rfl ?_; intro _) | ((with_reducible show wpN _ _ _ _ _ (Oper.mk _ _ _ _ _ (some _) :: _) _); (with_reducible refine wpN_off ?_ ?_); focus rfl; (simp only [Act.put, List.setIfInBounds_toArray, List.set_cons_zero, List.set_cons_succ])) | ((with_reducible show wpN _ _ _ _ _ (Oper.mk _ _ _ _ _ (some _) :: _) _); ((with_reducible refine wpN_on ?_ (fun K hK => ?_)); (focus rfl); intro _; go_simp; first | (refine uponN_value (hK _ ?_)) | ((first | ((with_reducible refine uponN_call (callN (v := .bool true) ?_ (CX.out _)) ?_); (focus rfl); intro u hu; obtain rfl : u = _ := hu) | ((with_reducible refine uponN_call (callN (v := .bool true) ?_ (CY.out _)) ?_); (focus rfl); intro u hu; obtain rfl : u = _ := hu)); refine hK _ ?_)); clear hK K) | (((with_reducible refine wpN_plain rfl (fun K hK => ?_)); intro _; go_simp; first | (refine uponN_value (hK _ ?_)) | ((first | ((with_reducible refine uponN_call (callN (v := .bool true) ?_ (CX.out _)) ?_); (focus rfl); intro u hu; obtain rfl : u = _ := hu) | ((with_reducible refine uponN_call (callN (v := .bool true) ?_ (CY.out _)) ?_); (focus rfl); intro u hu; obtain rfl : u = _ := hu)); refine hK _ ?_)); clear hK K) | ((with_reducible refine wpN_step (fun K hK => ?_)); go_simp; first | (refine hK _ ?_) | (intro _; first | (refine uponN_value (hK _ ?_)) | ((first | ((with_reducible refine uponN_call (callN (v := .bool true) ?_ (CX.out _)) ?_); (focus rfl); intro u hu; obtain rfl : u = _ := hu) | ((with_reducible refine uponN_call (callN (v := .bool true) ?_ (CY.out _)) ?_); (focus rfl); intro u hu; obtain rfl : u = _ := hu)); refine hK _ ?_)); clear hK K))); refine wpN_nil ?_; intro _
  go_wp2_with fail
  go_ret
  exact ⟨_, rfl, rfl⟩
theorem c_sSameCurve (xA yA : List Nat) (axA : Option Addr) (cxA : Nat) (ayA : Option Addr) (cyA : Nat) (xB yB : List Nat) (axB : Option Addr) (cxB : Nat) (ayB : Option Addr) (cyB : Nat) (w : World)
    (rxA : IsRowF .f32 w axA xA.length cxA xA) (ryA : IsRowF .f32 w ayA yA.length cyA yA) (rxB : IsRowF .f32 w axB xB.length cxB xB) (ryB : IsRowF .f32 w ayB yB.length cyB yB) : Calls Try.prog 60 #[.agg #[.slice axA xA.length cxA, .slice ayA yA.length cyA], .agg #[.slice axB xB.length cxB, .slice ayB yB.length cyB]] w (RetB (.bool (sameL xA xB && sameL yA yB)) w) := by
  have RXA := Lib.hid rxA
  have RYA := Lib.hid ryA
  have RXB := Lib.hid rxB
  have RYB := Lib.hid ryB
  clear rxA ryA rxB ryB
  have C := Lib.hid (fun (w1 : World) (vx : Var w1 w.heap.size #[.slice axA xA.length cxA, .slice ayA yA.length cyA]) (vy : Var w1 (w.heap.size + 1) #[.slice axB xB.length cxB, .slice ayB yB.length cyB]) (h1 : IsRowF .f32 w1 axA xA.length cxA xA) (h2 : IsRowF .f32 w1 ayA yA.length cyA yA) (h3 : IsRowF .f32 w1 axB xB.length cxB xB) (h4 : IsRowF .f32 w1 ayB yB.length cyB yB) => (by have h := c_l04Same xA yA axA cxA ayA cyA xB yB axB cxB ayB cyB w.heap.size (w.heap.size + 1) w1 vx vy h1 h2 h3 h4; rwa [w1.drewN_zero] at h : Calls Try.prog 137 #[.pointer (some ⟨w.heap.size, 0, none⟩), .pointer (some ⟨w.heap.size + 1, 0, none⟩)] w1 (RetV (.bool (sameL xA xB && sameL yA yB)) w1)))
  go_enter Try.func60, Try.ntmps60
  go_wp2_with fail
  refine (C.out _ ((Var.new _ _ _).alloc _) (Var.new' _ _ _ _ (by simp)) ((RXA.out.alloc _).alloc _) ((RYA.out.alloc _).alloc _) ((RXB.out.alloc _).alloc _) ((RYB.out.alloc _).alloc _)).mono ?_
  rintro _ w1 ⟨m, rfl, rfl⟩
  go_wp2_with fail
  go_ret
  exact ⟨rfl, below_drewN (((Below.refl _ _).alloc (Nat.le_refl _) _).alloc (by simp) _) _⟩
/-! ### FnExactSameCurve -/
set_option maxHeartbeats 8000000 in
theorem walkG (xA yA : List Nat) (axA : Option Addr) (cxA : Nat) (ayA : Option Addr) (cyA : Nat) (xB yB : List Nat) (axB : Option Addr) (cxB : Nat) (ayB : Option Addr) (cyB : Nat) (w : World) (rxA : IsRowF .f32 w axA xA.length cxA xA) (ryA : IsRowF .f32 w ayA yA.length cyA yA) (rxB : IsRowF .f32 w axB xB.length cxB xB) (ryB : IsRowF .f32 w ayB yB.length cyB yB) (hl : xA.length + yA.length + xB.length + yB.length ≤ 1048576) : Calls Try.prog 10 #[.agg #[.slice axA xA.length cxA, .slice ayA yA.length cyA], .agg #[.slice axB xB.length cxB, .slice ayB yB.length cyB]] w fun e w' => e = .returned (.bool true) ∧ Below w.heap.size w w' := by
  have RXA := Lib.hid rxA
  have RYA := Lib.hid ryA
  have RXB := Lib.hid rxB
  have RYB := Lib.hid ryB
  clear rxA ryA rxB ryB
  obtain ⟨res, hres⟩ : ∃ r, r = (sameL xA xB && sameL yA yB) := ⟨_, rfl⟩
  have CS := Lib.hid (fun (axA : Option Addr) (cxA : Nat) (ayA : Option Addr) (cyA : Nat) (axB : Option Addr) (cxB : Nat) (ayB : Option Addr) (cyB : Nat) (w : World) (h1 : IsRowF .f32 w axA xA.length cxA xA) (h2 : IsRowF .f32 w ayA yA.length cyA yA) (h3 : IsRowF .f32 w axB xB.length cxB xB) (h4 : IsRowF .f32 w ayB yB.length cyB yB) => (hres ▸ c_sSameCurve xA yA axA cxA ayA cyA xB yB axB cxB ayB cyB w h1 h2 h3 h4 : Calls Try.prog 60 #[.agg #[.slice axA xA.length cxA, .slice ayA yA.length cyA], .agg #[.slice axB xB.length cxB, .slice ayB yB.length cyB]] w (RetB (.bool res) w)))
  have CI := Lib.hid (fun (axA : Option Addr) (cxA : Nat) (ayA : Option Addr) (cyA : Nat) (axB : Option Addr) (cxB : Nat) (ayB : Option Addr) (cyB : Nat) (w : World) (h1 : IsRowF .f32 w axA xA.length cxA xA) (h2 : IsRowF .f32 w ayA yA.length cyA yA) (h3 : IsRowF .f32 w axB xB.length cxB xB) (h4 : IsRowF .f32 w ayB yB.length cyB yB) => (hres ▸ c_iSameCurve xA yA axA cxA ayA cyA xB yB axB cxB ayB cyB w h1 h2 h3 h4 : Calls Try.prog 61 #[.agg #[.slice axA xA.length cxA, .slice ayA yA.length cyA], .agg #[.slice axB xB.length cxB, .slice ayB yB.length cyB]] w (RetB (.bool res) w)))
  clear hres
  go_enter Try.func10, Try.ntmps10
  go_wp2_with fail
  refine (c_szC axA xA.length cxA ayA yA.length cyA (1048576 : Int) _ (by omega) (by omega)).mono ?_
  rintro _ w1 ⟨rfl, b⟩
  have VA1 := Lib.hid (((Var.new' _ _ _ (w.heap.size) (by first | rfl | simp)).alloc _).keep b)
  have VB1 := Lib.hid ((Var.new' _ _ _ (w.heap.size + 1) (by first | rfl | simp)).keep b)
  have B1 := Lib.hid ((((Below.refl w.heap.size w).alloc (Nat.le_refl _) _).alloc (by simp) _).trans (b.mono (by simp; omega)))
  have S1 : w.heap.size + 2 ≤ w1.heap.size := by have := b.size; simp at this; omega
  clear b
  have hzA : ¬ (((1048576 : Int) - (xA.length : Int) - (yA.length : Int)) < 0) := by omega
  obtain ⟨cB0, cB1⟩ := var_two VB1.out
  go_wp2_with fail
  clear cB0 cB1
  refine (c_szC axB xB.length cxB ayB yB.length cyB ((1048576 : Int) - (xA.length : Int) - (yA.length : Int)) _ (by omega) (by omega)).mono ?_
  rintro _ w2 ⟨rfl, b⟩
  have VA2 := Lib.hid (VA1.out.keep b)
  have VB2 := Lib.hid (VB1.out.keep b)
  have B2 := Lib.hid (B1.out.trans (b.mono (by omega)))
  have S2 : w1.heap.size ≤ w2.heap.size := b.size
  have zA2 : w.heap.size < w2.heap.size := by omega
  have zB2 : w.heap.size + 1 < w2.heap.size := by omega
  clear b VA1 VB1 B1
  have hzB : ¬ ((((1048576 : Int) - (xA.length : Int) - (yA.length : Int)) - (xB.length : Int) - (yB.length : Int)) < 0) := by omega
  obtain ⟨cA0, cA1⟩ := var_two VA2.out
  obtain ⟨cB0, cB1⟩ := var_two VB2.out
  go_wp2_with fail
  have QXA := Lib.hid (RXA.out.below B2.out)
  have QYA := Lib.hid (RYA.out.below B2.out)
  have QXB := Lib.hid (RXB.out.below B2.out)
  have QYB := Lib.hid (RYB.out.below B2.out)
  go_cut [6] (fun s6 wx => s6 = .bool res ∧ Below w2.heap.size w2 wx)
  case first =>
    have KS : ∀ w' : World, Below w2.heap.size w2 w' → (Below w2.heap.size w2 w' ∧ w'.cell? ⟨w.heap.size, 0, none⟩ = some (.slice axA xA.length cxA) ∧ w'.cell? ⟨w.heap.size, 1, none⟩ = some (.slice ayA yA.length cyA) ∧ w'.cell? ⟨w.heap.size + 1, 0, none⟩ = some (.slice axB xB.length cxB) ∧ w'.cell? ⟨w.heap.size + 1, 1, none⟩ = some (.slice ayB yB.length cyB)) := fun w' hB => ⟨hB, (var_two (VA2.out.keep hB)).1, (var_two (VA2.out.keep hB)).2, (var_two (VB2.out.keep hB)).1, (var_two (VB2.out.keep hB)).2⟩
    have KD := Lib.hid (KS _ (Below.refl _ _).drew)
    have KH := Lib.hid KS
    clear KS
    have eD : Below w2.heap.size w2 w2.drew := (Below.refl _ _).drew
    go_region_held3 (fun w' => Below w2.heap.size w2 w' ∧ w'.cell? ⟨w.heap.size, 0, none⟩ = some (.slice axA xA.length cxA) ∧ w'.cell? ⟨w.heap.size, 1, none⟩ = some (.slice ayA yA.length cyA) ∧ w'.cell? ⟨w.heap.size + 1, 0, none⟩ = some (.slice axB xB.length cxB) ∧ w'.cell? ⟨w.heap.size + 1, 1, none⟩ = some (.slice ayB yB.length cyB)) (first | exact KD.out | exact KH.out _ eD | exact KH.out _ (eD.alloc eD.size _) | exact KH.out _ eA | exact KH.out _ (eA.alloc eA.size _) | exact KH.out _ eB | exact KH.out _ (eB.alloc eB.size _) | exact KH.out _ ef | exact KH.out _ (ef.alloc ef.size _)) (first | (go_at_call 57; ((with_reducible refine (c_toCur axA cxA xA ayA cyA yA _ (QXA.out.below (And.left (by assumption))) (QYA.out.below (And.left (by assumption))) (by omega) (by omega)).mono ?_); rintro _ wwA ⟨gA, kA, rfl, bA, oxA, oyA⟩; obtain ⟨hcA, hfA⟩ := bcell bA; have eA : Below w2.heap.size w2 wwA := (Below.trans (And.left (by assumption)) (Below.mono bA (Below.size (And.left (by assumption))))); have qA := bA.size; (try (simp at qA)); (try (have tDA : w2.heap.size < wwA.heap.size := by omega)); (try (have tBA : wwB.heap.size < wwA.heap.size := by omega)))) | (go_at_call 57; ((with_reducible refine (c_toCur axB cxB xB ayB cyB yB _ (QXB.out.below (And.left (by assumption))) (QYB.out.below (And.left (by assumption))) (by omega) (by omega)).mono ?_); rintro _ wwB ⟨gB, kB, rfl, bB, oxB, oyB⟩; obtain ⟨hcB, hfB⟩ := bcell bB; have eB : Below w2.heap.size w2 wwB := (Below.trans (And.left (by assumption)) (Below.mono bB (Below.size (And.left (by assumption))))); have qB := bB.size; (try (simp at qB)); (try (have tDB : w2.heap.size < wwB.heap.size := by omega)); (try (have tAB : wwA.heap.size < wwB.heap.size := by omega)))) | (go_at_call 60; (refine (CS.out _ _ _ _ _ _ _ _ _ (oxA.below (by first | exact Below.refl _ _ | exact (Below.refl _ _).alloc (Nat.le_refl _) _ | exact bB | exact bB.alloc bB.size _ | exact (((Below.refl _ _).alloc (Nat.le_refl _) _).trans (bB.mono (by simp))))).row (oyA.below (by first | exact Below.refl _ _ | exact (Below.refl _ _).alloc (Nat.le_refl _) _ | exact bB | exact bB.alloc bB.size _ | exact (((Below.refl _ _).alloc (Nat.le_refl _) _).trans (bB.mono (by simp))))).row (oxB.below (by first | exact Below.refl _ _ | exact (Below.refl _ _).alloc (Nat.le_refl _) _ | exact bA | exact bA.alloc bA.size _ | exact (((Below.refl _ _).alloc (Nat.le_refl _) _).trans (bA.mono (by simp))))).row (oyB.below (by first | exact Below.refl _ _ | exact (Below.refl _ _).alloc (Nat.le_refl _) _ | exact bA | exact bA.alloc bA.size _ | exact (((Below.refl _ _).alloc (Nat.le_refl _) _).trans (bA.mono (by simp))))).row).mono ?_); rintro _ wf ⟨rfl, bf⟩; obtain ⟨hcf, hff⟩ := bcell bf; have ef : Below w2.heap.size w2 wf := (Below.trans (And.left (by assumption)) (Below.mono bf (Below.size (And.left (by assumption))))); have qf := bf.size; (try (simp at qf)); (try (have tDf : w2.heap.size < wf.heap.size := by omega)); (try (have tAf : wwA.heap.size < wf.heap.size := by omega)); (try (have tBf : wwB.heap.size < wf.heap.size := by omega))))
    all_goals (go_wp2_with fail; go_meet; exact ⟨rfl, ef⟩)
  obtain ⟨rfl, b⟩ := hcut
  obtain ⟨w3, rfl⟩ : ∃ x : World, x = wc := ⟨_, rfl⟩
  clear QXA QYA QXB QYB cA0 cA1 cB0 cB1
  have VA3 := Lib.hid (VA2.out.keep b)
  have VB3 := Lib.hid (VB2.out.keep b)
  have B3 := Lib.hid (B2.out.trans (b.mono (by omega)))
  have S3 : w2.heap.size ≤ w3.heap.size := b.size
  clear b VA2 VB2 B2 zA2 zB2
  obtain ⟨cA0, cA1⟩ := var_two VA3.out
  go_wp2_with fail
  clear cA0 cA1
  refine (c_toCur axA cxA xA ayA cyA yA _ (RXA.out.below B3.out) (RYA.out.below B3.out) (by omega) (by omega)).mono ?_
  rintro _ w4 ⟨gxA, kxA, rfl, b, ox, oy⟩
  have OXA4 := Lib.hid ox
  have OYA4 := Lib.hid oy
  have VA4 := Lib.hid (VA3.out.keep b)
  have VB4 := Lib.hid (VB3.out.keep b)
  have B4 := Lib.hid (B3.out.trans (b.mono (by omega)))
  have S4 : w3.heap.size ≤ w4.heap.size := b.size
  have zA4 : w.heap.size < w4.heap.size := by omega
  have zB4 : w.heap.size + 1 < w4.heap.size := by omega
  clear b ox oy VA3 VB3 B3
  obtain ⟨cB0, cB1⟩ := var_two VB4.out
  go_wp2_with fail
  clear cB0 cB1
  refine (c_toCur axB cxB xB ayB cyB yB _ ((RXB.out.below B4.out).alloc _) ((RYB.out.below B4.out).alloc _) (by omega) (by omega)).mono ?_
  rintro _ w5 ⟨gxB, kxB, rfl, b, ox, oy⟩
  have OXB5 := Lib.hid ox
  have OYB5 := Lib.hid oy
  have VA5 := Lib.hid ((VA4.out.alloc _).keep b)
  have VB5 := Lib.hid ((VB4.out.alloc _).keep b)
  have VX5 := Lib.hid ((Var.new' _ _ _ (w4.heap.size) (by first | rfl | simp)).keep b)
  have OXA5 := Lib.hid ((OXA4.out.alloc _).below b)
  have OYA5 := Lib.hid ((OYA4.out.alloc _).below b)
  have B5 := Lib.hid ((B4.out.alloc (by omega) _).trans (b.mono (by simp; omega)))
  have S5 : w4.heap.size + 1 ≤ w5.heap.size := by have := b.size; simp at this; omega
  have zA5 : w.heap.size < w5.heap.size := by omega
  have zB5 : w.heap.size + 1 < w5.heap.size := by omega
  have zX5 : w4.heap.size < w5.heap.size := by omega
  clear b ox oy VA4 VB4 OXA4 OYA4 B4
  obtain ⟨x0, x1⟩ := var_two VX5.out
  go_wp2_with fail
  clear x0 x1
  refine (CI.out _ _ _ _ _ _ _ _ _ (OXA5.out.alloc _).row (OYA5.out.alloc _).row (OXB5.out.alloc _).row (OYB5.out.alloc _).row).mono ?_
  rintro _ w6 ⟨rfl, b⟩
  have VA6 := Lib.hid ((VA5.out.alloc _).keep b)
  have VB6 := Lib.hid ((VB5.out.alloc _).keep b)
  have VX6 := Lib.hid ((VX5.out.alloc _).keep b)
  have VY6 := Lib.hid ((Var.new' _ _ _ (w5.heap.size) (by first | rfl | simp)).keep b)
  have OXA6 := Lib.hid ((OXA5.out.alloc _).below b)
  have OYA6 := Lib.hid ((OYA5.out.alloc _).below b)
  have OXB6 := Lib.hid ((OXB5.out.alloc _).below b)
  have OYB6 := Lib.hid ((OYB5.out.alloc _).below b)
  have B6 := Lib.hid ((B5.out.alloc (by omega) _).trans (b.mono (by simp; omega)))
  have S6 : w5.heap.size + 1 ≤ w6.heap.size := by have := b.size; simp at this; omega
  have zA6 : w.heap.size < w6.heap.size := by omega
  have zB6 : w.heap.size + 1 < w6.heap.size := by omega
  have zX6 : w4.heap.size < w6.heap.size := by omega
  have zY6 : w5.heap.size < w6.heap.size := by omega
  clear b VA5 VB5 VX5 OXA5 OYA5 OXB5 OYB5 B5
  obtain ⟨p0, p1⟩ := var_two VA6.out
  obtain ⟨x0, x1⟩ := var_two VX6.out
  go_wp2_with fail
  have D : Below w6.heap.size w6 w6.drew := (Below.refl _ _).drew
  have RDX := Lib.hid ((RXA.out.below B6.out).below D)
  have RDY := Lib.hid ((RYA.out.below B6.out).below D)
  have XDX := Lib.hid (OXA6.out.below D)
  have XDY := Lib.hid (OYA6.out.below D)
  have HD := Lib.hid D
  clear D
  go_region_held3 (fun w' => w'.cell? ⟨w.heap.size, 0, none⟩ = some (.slice axA xA.length cxA) ∧ w'.cell? ⟨w.heap.size, 1, none⟩ = some (.slice ayA yA.length cyA) ∧ w'.cell? ⟨w4.heap.size, 0, none⟩ = some (.slice (some ⟨gxA, 0, none⟩) xA.length xA.length) ∧ w'.cell? ⟨w4.heap.size, 1, none⟩ = some (.slice (some ⟨kxA, 0, none⟩) yA.length yA.length)) (first | exact ⟨p0, p1, x0, x1⟩ | (have e1 := var_two ((VA6.out.keep HD.out).keep b7); have e2 := var_two ((VX6.out.keep HD.out).keep b7); exact ⟨e1.1, e1.2, e2.1, e2.2⟩) | (have e1 := var_two (((VA6.out.keep HD.out).keep b7).keep b8); have e2 := var_two (((VX6.out.keep HD.out).keep b7).keep b8); exact ⟨e1.1, e1.2, e2.1, e2.2⟩)) (first | (go_at_call 57; refine (c_toCur axA cxA xA ayA cyA yA _ RDX.out RDY.out (by omega) (by omega)).mono ?_; rintro _ wt ⟨g7, k7, rfl, b7, o7, q7⟩) | (go_at_call 59; refine (c_eqCur _ _ _ _ _ _ _ _ _ _ _ (XDX.out.below b7).row o7.row (XDY.out.below b7).row q7.row).mono ?_; rintro _ w7 ⟨rfl, b8⟩))
  have b := HD.out.trans (b7.trans (b8.mono b7.size))
  clear RDX RDY XDX XDY HD b7 b8 o7 q7 p0 p1 x0 x1
  have B7 := Lib.hid (B6.out.trans (b.mono (by omega)))
  have S7 : w6.heap.size ≤ w7.heap.size := b.size
  have VB7 := Lib.hid (VB6.out.keep b)
  have VY7 := Lib.hid (VY6.out.keep b)
  have OXB7 := Lib.hid (OXB6.out.below b)
  have OYB7 := Lib.hid (OYB6.out.below b)
  clear b VA6 VB6 VX6 VY6 OXA6 OYA6 OXB6 OYB6 B6
  obtain ⟨p0, p1⟩ := var_two VB7.out
  obtain ⟨x0, x1⟩ := var_two VY7.out
  go_wp2_with fail
  have D : Below w7.heap.size w7 w7.drew := (Below.refl _ _).drew
  have RDX := Lib.hid ((RXB.out.below B7.out).below D)
  have RDY := Lib.hid ((RYB.out.below B7.out).below D)
  have XDX := Lib.hid (OXB7.out.below D)
  have XDY := Lib.hid (OYB7.out.below D)
  have HD := Lib.hid D
  clear D
  go_region_held3 (fun w' => w'.cell? ⟨w.heap.size + 1, 0, none⟩ = some (.slice axB xB.length cxB) ∧ w'.cell? ⟨w.heap.size + 1, 1, none⟩ = some (.slice ayB yB.length cyB) ∧ w'.cell? ⟨w5.heap.size, 0, none⟩ = some (.slice (some ⟨gxB, 0, none⟩) xB.length xB.length) ∧ w'.cell? ⟨w5.heap.size, 1, none⟩ = some (.slice (some ⟨kxB, 0, none⟩) yB.length yB.length)) (first | exact ⟨p0, p1, x0, x1⟩ | (have e1 := var_two ((VB7.out.keep HD.out).keep b7); have e2 := var_two ((VY7.out.keep HD.out).keep b7); exact ⟨e1.1, e1.2, e2.1, e2.2⟩) | (have e1 := var_two (((VB7.out.keep HD.out).keep b7).keep b8); have e2 := var_two (((VY7.out.keep HD.out).keep b7).keep b8); exact ⟨e1.1, e1.2, e2.1, e2.2⟩)) (first | (go_at_call 57; refine (c_toCur axB cxB xB ayB cyB yB _ RDX.out RDY.out (by omega) (by omega)).mono ?_; rintro _ wt ⟨g7, k7, rfl, b7, o7, q7⟩) | (go_at_call 59; refine (c_eqCur _ _ _ _ _ _ _ _ _ _ _ (XDX.out.below b7).row o7.row (XDY.out.below b7).row q7.row).mono ?_; rintro _ w8 ⟨rfl, b8⟩))
  have b := HD.out.trans (b7.trans (b8.mono b7.size))
  clear RDX RDY XDX XDY HD b7 b8 o7 q7 p0 p1 x0 x1
  have B8 := Lib.hid (B7.out.trans (b.mono (by omega)))
  have S8 : w7.heap.size ≤ w8.heap.size := b.size
  clear b VB7 VY7 OXB7 OYB7 B7
  go_wp2_with fail
  go_ret
  exact ⟨rfl, B8.out⟩
theorem walkL1 (xA yA : List Nat) (axA : Option Addr) (cxA : Nat) (ayA : Option Addr) (cyA : Nat) (xB yB : List Nat) (axB : Option Addr) (cxB : Nat) (ayB : Option Addr) (cyB : Nat) (w : World) (hm : xA.length ≤ maxLen) (h : 1048576 < xA.length) : Calls Try.prog 10 #[.agg #[.slice axA xA.length cxA, .slice ayA yA.length cyA], .agg #[.slice axB xB.length cxB, .slice ayB yB.length cyB]] w fun e w' => e = .returned (.bool true) ∧ Below w.heap.size w w' := by
  unfold maxLen at hm
  go_enter Try.func10, Try.ntmps10
  go_wp2_with fail
  refine (c_szC_no1 axA xA.length cxA ayA yA.length cyA (1048576 : Int) _ (by omega) (by omega) (by omega)).mono ?_
  rintro _ w1 ⟨rfl, b⟩
  have VA1 := Lib.hid (((Var.new' _ _ _ (w.heap.size) (by first | rfl | simp)).alloc _).keep b)
  have VB1 := Lib.hid ((Var.new' _ _ _ (w.heap.size + 1) (by first | rfl | simp)).keep b)
  have B1 := Lib.hid ((((Below.refl w.heap.size w).alloc (Nat.le_refl _) _).alloc (by simp) _).trans (b.mono (by simp; omega)))
  have S1 : w.heap.size + 2 ≤ w1.heap.size := by have := b.size; simp at this; omega
  clear b
  clear VA1 VB1
  go_wp2_with fail
  go_ret
  exact ⟨rfl, B1.out⟩
theorem walkL2 (xA yA : List Nat) (axA : Option Addr) (cxA : Nat) (ayA : Option Addr) (cyA : Nat) (xB yB : List Nat) (axB : Option Addr) (cxB : Nat) (ayB : Option Addr) (cyB : Nat) (w : World) (hm : yA.length ≤ maxLen) (h1 : xA.length ≤ 1048576) (h : 1048576 < xA.length + yA.length) : Calls Try.prog 10 #[.agg #[.slice axA xA.length cxA, .slice ayA yA.length cyA], .agg #[.slice axB xB.length cxB, .slice ayB yB.length cyB]] w fun e w' => e = .returned (.bool true) ∧ Below w.heap.size w w' := by
  unfold maxLen at hm
  go_enter Try.func10, Try.ntmps10
  go_wp2_with fail
  refine (c_szC_no2 axA xA.length cxA ayA yA.length cyA (1048576 : Int) _ (by omega) (by omega) (by omega) (by omega)).mono ?_
  rintro _ w1 ⟨rfl, b⟩
  have VA1 := Lib.hid (((Var.new' _ _ _ (w.heap.size) (by first | rfl | simp)).alloc _).keep b)
  have VB1 := Lib.hid ((Var.new' _ _ _ (w.heap.size + 1) (by first | rfl | simp)).keep b)
  have B1 := Lib.hid ((((Below.refl w.heap.size w).alloc (Nat.le_refl _) _).alloc (by simp) _).trans (b.mono (by simp; omega)))
  have S1 : w.heap.size + 2 ≤ w1.heap.size := by have := b.size; simp at this; omega
  clear b
  clear VA1 VB1
  go_wp2_with fail
  go_ret
  exact ⟨rfl, B1.out⟩
theorem walkL3 (xA yA : List Nat) (axA : Option Addr) (cxA : Nat) (ayA : Option Addr) (cyA : Nat) (xB yB : List Nat) (axB : Option Addr) (cxB : Nat) (ayB : Option Addr) (cyB : Nat) (w : World) (hm : xB.length ≤ maxLen) (h1 : xA.length + yA.length ≤ 1048576) (h : 1048576 < xA.length + yA.length + xB.length) : Calls Try.prog 10 #[.agg #[.slice axA xA.length cxA, .slice ayA yA.length cyA], .agg #[.slice axB xB.length cxB, .slice ayB yB.length cyB]] w fun e w' => e = .returned (.bool true) ∧ Below w.heap.size w w' := by
  unfold maxLen at hm
  go_enter Try.func10, Try.ntmps10
  go_wp2_with fail
  refine (c_szC axA xA.length cxA ayA yA.length cyA (1048576 : Int) _ (by omega) (by omega)).mono ?_
  rintro _ w1 ⟨rfl, b⟩
  have VA1 := Lib.hid (((Var.new' _ _ _ (w.heap.size) (by first | rfl | simp)).alloc _).keep b)
  have VB1 := Lib.hid ((Var.new' _ _ _ (w.heap.size + 1) (by first | rfl | simp)).keep b)
  have B1 := Lib.hid ((((Below.refl w.heap.size w).alloc (Nat.le_refl _) _).alloc (by simp) _).trans (b.mono (by simp; omega)))
  have S1 : w.heap.size + 2 ≤ w1.heap.size := by have := b.size; simp at this; omega
  clear b
  have hzA : ¬ (((1048576 : Int) - (xA.length : Int) - (yA.length : Int)) < 0) := by omega
  obtain ⟨cB0, cB1⟩ := var_two VB1.out
  go_wp2_with fail
  clear cB0 cB1
  refine (c_szC_no1 axB xB.length cxB ayB yB.length cyB ((1048576 : Int) - (xA.length : Int) - (yA.length : Int)) _ (by omega) (by omega) (by omega)).mono ?_
  rintro _ w2 ⟨rfl, b⟩
  have B2 := Lib.hid (B1.out.trans (b.mono (by omega)))
  clear b VA1 VB1 B1
  go_wp2_with fail
  go_ret
  exact ⟨rfl, B2.out⟩
theorem walkL4 (xA yA : List Nat) (axA : Option Addr) (cxA : Nat) (ayA : Option Addr) (cyA : Nat) (xB yB : List Nat) (axB : Option Addr) (cxB : Nat) (ayB : Option Addr) (cyB : Nat) (w : World) (hm : yB.length ≤ maxLen) (h1 : xA.length + yA.length + xB.length ≤ 1048576) (h : 1048576 < xA.length + yA.length + xB.length + yB.length) : Calls Try.prog 10 #[.agg #[.slice axA xA.length cxA, .slice ayA yA.length cyA], .agg #[.slice axB xB.length cxB, .slice ayB yB.length cyB]] w fun e w' => e = .returned (.bool true) ∧ Below w.heap.size w w' := by
  unfold maxLen at hm
  go_enter Try.func10, Try.ntmps10
  go_wp2_with fail
  refine (c_szC axA xA.length cxA ayA yA.length cyA (1048576 : Int) _ (by omega) (by omega)).mono ?_
  rintro _ w1 ⟨rfl, b⟩
  have VA1 := Lib.hid (((Var.new' _ _ _ (w.heap.size) (by first | rfl | simp)).alloc _).keep b)
  have VB1 := Lib.hid ((Var.new' _ _ _ (w.heap.size + 1) (by first | rfl | simp)).keep b)
  have B1 := Lib.hid ((((Below.refl w.heap.size w).alloc (Nat.le_refl _) _).alloc (by simp) _).trans (b.mono (by simp; omega)))
  have S1 : w.heap.size + 2 ≤ w1.heap.size := by have := b.size; simp at this; omega
  clear b
  have hzA : ¬ (((1048576 : Int) - (xA.length : Int) - (yA.length : Int)) < 0) := by omega
  obtain ⟨cB0, cB1⟩ := var_two VB1.out
  go_wp2_with fail
  clear cB0 cB1
  refine (c_szC_no2 axB xB.length cxB ayB yB.length cyB ((1048576 : Int) - (xA.length : Int) - (yA.length : Int)) _ (by omega) (by omega) (by omega) (by omega)).mono ?_
  rintro _ w2 ⟨rfl, b⟩
  have B2 := Lib.hid (B1.out.trans (b.mono (by omega)))
  clear b VA1 VB1 B1
  go_wp2_with fail
  go_ret
  exact ⟨rfl, B2.out⟩
theorem walk (xA yA : List Nat) (axA : Option Addr) (cxA : Nat) (ayA : Option Addr) (cyA : Nat) (xB yB : List Nat) (axB : Option Addr) (cxB : Nat) (ayB : Option Addr) (cyB : Nat) (w : World) (rxA : IsRowF .f32 w axA xA.length cxA xA) (ryA : IsRowF .f32 w ayA yA.length cyA yA) (rxB : IsRowF .f32 w axB xB.length cxB xB) (ryB : IsRowF .f32 w ayB yB.length cyB yB) : Calls Try.prog 10 #[.agg #[.slice axA xA.length cxA, .slice ayA yA.length cyA], .agg #[.slice axB xB.length cxB, .slice ayB yB.length cyB]] w fun e w' => e = .returned (.bool true) ∧ Below w.heap.size w w' := by
  have m1 : xA.length ≤ maxLen := Nat.le_trans rxA.2.1 rxA.2.2.1
  have m2 : yA.length ≤ maxLen := Nat.le_trans ryA.2.1 ryA.2.2.1
  have m3 : xB.length ≤ maxLen := Nat.le_trans rxB.2.1 rxB.2.2.1
  have m4 : yB.length ≤ maxLen := Nat.le_trans ryB.2.1 ryB.2.2.1
  by_cases g1 : 1048576 < xA.length
  · exact walkL1 xA yA axA cxA ayA cyA xB yB axB cxB ayB cyB w m1 g1
  by_cases g2 : 1048576 < xA.length + yA.length
  · exact walkL2 xA yA axA cxA ayA cyA xB yB axB cxB ayB cyB w m2 (by omega) g2
  by_cases g3 : 1048576 < xA.length + yA.length + xB.length
  · exact walkL3 xA yA axA cxA ayA cyA xB yB axB cxB ayB cyB w m3 (by omega) g3
  by_cases g4 : 1048576 < xA.length + yA.length + xB.length + yB.length
  · exact walkL4 xA yA axA cxA ayA cyA xB yB axB cxB ayB cyB w m4 (by omega) g4
  exact walkG xA yA axA cxA ayA cyA xB yB axB cxB ayB cyB w rxA ryA rxB ryB (by omega)

theorem own : ownKnob Try.prog.godebug = none := by kernel_rfl
theorem laidOut : laidOutB Try.prog = true := by kernel_rfl
set_option maxRecDepth 100000 in
theorem lifted (os : Os) (started : os.Started) (H : Type) (enc : TypeId × Value → H) :
    ReturnsInHanded {} Try.checked os 10 .any (Rows.fnExactSameCurveSpec.pre6 enc Try.prog Try.f10 Rows.fnExactSameCurveRow.domain false) (Rows.fnExactSameCurveSpec.post enc Try.prog Try.f10 false true false false) := by
  refine returnsInHanded_of_change (C := Try.checked) own started (by kernel_rfl) Try.func10
    (ChangeSpec.witness6 (enc := enc) (C := Try.checked) false ⟨#[], #[.agg #[.slice none 0 0, .slice none 0 0], .agg #[.slice none 0 0, .slice none 0 0]], []⟩ 8 (by kernel_rfl) (by kernel_rfl) (by kernel_rfl) (by kernel_rfl)) ?_
  intro W base args ds gs before hval0 hW hcnd _
  have hval : ∀ (j : Nat) t v, Try.f10.params[j]? = some t → args[j]? = some v → Value.okWide Try.prog W .any base t v := hval0
  have hW' := hW
  obtain ⟨p, q, hA0, hV, rfl, hfz, hnd⟩ := hW
  have hA : DataW.TrodAll enc Try.prog W 0 (fun _ => true) true Try.f10.params.toList args.toList ds p := hA0
  rw [Try.params10] at hA hval
  obtain ⟨v0, vs0, d0, ds0, p0, q0, hargs, rfl, rfl, h0, r0⟩ := trodAll_cons hA
  obtain ⟨v1, vs1, d1, ds1, p1, q1, rfl, rfl, rfl, h1, r1⟩ := trodAll_cons r0
  obtain ⟨rfl, rfl, rfl⟩ := trodAll_nil r1
  obtain rfl : args = #[v0, v1] := by cases args; simp_all
  obtain ⟨rfl, rfl⟩ := trodVars_none hV
  have k0 := h0
  have lt0 : ∀ x ∈ p0, x.block < W.heap.size := by obtain ⟨m, hm⟩ := k0; exact DataW.trod_lt m _ _ _ hm
  obtain ⟨zx0, zy0, ax0, cx0, ay0, cy0, rfl, wx0, wy0⟩ := open_cur Try.underlying72 (by kernel_rfl) (by kernel_rfl) Try.underlying24 Try.underlying24 Try.underlying31 (by kernel_rfl) (hval 0 72 v0 rfl rfl) h0
  have k1 := h1
  have lt1 : ∀ x ∈ p1, x.block < W.heap.size := by obtain ⟨m, hm⟩ := k1; exact DataW.trod_lt m _ _ _ hm
  obtain ⟨zx1, zy1, ax1, cx1, ay1, cy1, rfl, wx1, wy1⟩ := open_cur Try.underlying72 (by kernel_rfl) (by kernel_rfl) Try.underlying24 Try.underlying24 Try.underlying31 (by kernel_rfl) (hval 1 72 v1 rfl rfl) h1
  clear hA0 hval0
  have hw0 : Calls Try.prog 10 #[.agg #[.slice ax0 zx0.length cx0, .slice ay0 zy0.length cy0], .agg #[.slice ax1 zx1.length cx1, .slice ay1 zy1.length cy1]] W fun e w' => e = .returned (.bool true) ∧ Below W.heap.size W w' := by
    exact walk zx0 zy0 ax0 cx0 ay0 cy0 zx1 zy1 ax1 cx1 ay1 cy1 W wx0 wy0 wx1 wy1
  refine hw0.mono fun e W' ⟨he, bel⟩ => ?_
  subst he
  exact ⟨_, rfl, _, _, _, [], _, [], hW', trodAll_mk1 (shut_bool Try.underlying4 _), (trodAll_cons_mk (Below.trod laidOut (by kernel_rfl) (of_decide_eq_true (by kernel_rfl)) k0 bel lt0) (trodAll_cons_mk (Below.trod laidOut (by kernel_rfl) (of_decide_eq_true (by kernel_rfl)) k1 bel lt1) trodAll_mk0)), rfl, bel.frame _, fun h => by cases h⟩

theorem over : Rows.fnExactSameCurveRow.holds Try.pinned (OpenSpec.ofChange Rows.fnExactSameCurveSpec) :=
  OpenClaim.holds_of_wide 10 Try.f10 rfl rfl rfl rfl rfl rfl rfl ⟨rfl, rfl, rfl, rfl, rfl⟩ rfl rfl rfl rfl rfl (by kernel_rfl) Try.func10 (by kernel_rfl)
    (of_decide_eq_true (by kernel_rfl)) (by unfold Func.isWrapper; first | (rw [if_pos (by decide +kernel)]; kernel_rfl) | (rw [if_neg (by decide +kernel)]; exact ⟨rfl, rfl⟩))
    (fun os started H enc _ => lifted os started H enc)

theorem proved : Rows.FnExactSameCurveSaid := over
#print axioms proved

end Go.Proofs.Ytbloibljjhddaac.fnExactSameCurve

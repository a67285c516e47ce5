/-
  FnExactToneAt: for every input this law of the program returns true, and each argument reads as before. No condition.
-/
import Derived.Test.YtbloibljjhddaacRows
import Derived.Test.YtbloibljjhddaacRow
import Derived.Test.YtbloibljjhddaacOw
import Derived.Test.YtbloibljjhddaacAp
import Derived.ProofKit
import Derived.OpenShut
import Derived.ShutString
import Derived.ChangeOld
import Derived.Below
import Derived.Lib.Hide
import Derived.Outline
import Derived.Deep.RegionHeld3
import Derived.Deep.DeepCutAuto
set_option linter.unusedSimpArgs false
set_option linter.unusedVariables false
set_option exponentiation.threshold 2000
set_option maxRecDepth 20000
set_option maxHeartbeats 4000000
namespace Go.Proofs.Ytbloibljjhddaac.fnExactToneAt
open Go Go.Proofs.Ytbloibljjhddaac Go.Proofs
open Go.ChangeShapes Go.WideShapes Go.ChangeAt Go.RowKit
open Go.ChangeMaps (open_string shut_string)
/-! ### openCur -/
theorem open_cur {H : Type} {enc : TypeId × Value → H} {P : Program} {w : World} {base : Nat} {spare : Nat → Bool} {held : Bool} {r : Reach} {b0 : Nat} {t e : TypeId} {f0 f1 : Field} {v : Value} {d : DataW H} {p : List MemPlace}
    (hs : P.underlying t = some (.struct #[f0, f1])) (hone : Go.Deep.oneCellFields P #[f0, f1] = true) (hC : P.cellsOf t = 2)
    (u0 : P.underlying f0.type = some (.slice e)) (u1 : P.underlying f1.type = some (.slice e)) (ue : P.underlying e = some (.float .f32)) (hc : P.cellsOf e = 1) (hv : Value.okWide P w r b0 t v) (h : DataW.Trod enc P w base spare held t v d p) :
    ∃ (zx zy : List Nat) (ax : Option Addr) (cx : Nat) (ay : Option Addr) (cy : Nat), v = .agg #[.slice ax zx.length cx, .slice ay zy.length cy] ∧ IsRowF .f32 w ax zx.length cx zx ∧ IsRowF .f32 w ay zy.length cy zy := by
  obtain ⟨v0, v1, y0, y1, n, rfl, _, _, h0, h1⟩ := Go.Joins.open_agg2 hs hone hC hv h
  obtain ⟨a, len, cap, rfl⟩ : ∃ a len cap, v0 = .slice a len cap := by
    rcases DataW.trod_slice u0 h0 with ⟨e, _⟩ | ⟨x, l, c, _, _, _, _, e, _⟩
    · simp only [List.cons.injEq, and_true] at e; exact ⟨_, _, _, e⟩
    · simp only [List.cons.injEq, and_true] at e; exact ⟨_, _, _, e⟩
  obtain ⟨b, len2, cap2, rfl⟩ : ∃ a len cap, v1 = .slice a len cap := by
    rcases DataW.trod_slice u1 h1 with ⟨e, _⟩ | ⟨x, l, c, _, _, _, _, e, _⟩
    · simp only [List.cons.injEq, and_true] at e; exact ⟨_, _, _, e⟩
    · simp only [List.cons.injEq, and_true] at e; exact ⟨_, _, _, e⟩
  obtain ⟨zx, hzx⟩ := rowF_of u0 ue hc ⟨n, h0⟩
  obtain ⟨zy, hzy⟩ := rowF_of u1 ue hc ⟨n, h1⟩
  obtain rfl : zx.length = len := hzx.1
  obtain rfl : zy.length = len2 := hzy.1
  exact ⟨zx, zy, a, cap, b, cap2, rfl, hzx, hzy⟩
/-! ### szPicture -/
theorem c_szF (a : Option Addr) (len cap : Nat) (L : Int) (w : World) (h : (len : Int) ≤ L) (hL : L ≤ 1048576) : Calls Try.prog 120 #[.slice a len cap, .int .i64 L] w (fun e w' => e = .returned (.int .i64 (L - (len : Int))) ∧ w' = w) := by
  have h' : ¬ (L - (len : Int) < 0) := by omega
  go_enter Try.func120, Try.ntmps120
  go_wp2
  go_ret
  exact ⟨rfl, rfl⟩
theorem c_szF_no (a : Option Addr) (len cap : Nat) (L : Int) (w : World) (h : L < len) (hL : 0 ≤ L) (hm : len ≤ 9223372036854775807) : Calls Try.prog 120 #[.slice a len cap, .int .i64 L] w (fun e w' => e = .returned (.int .i64 (-1)) ∧ w' = w) := by
  have h' : L - (len : Int) < 0 := by omega
  go_enter Try.func120, Try.ntmps120
  go_wp2
  go_ret
  exact ⟨rfl, rfl⟩
theorem c_szP (W H : Int) (a : Option Addr) (len cap : Nat) (L : Int) (w : World) (h : (len : Int) ≤ L) (hL : L ≤ 1048576) : Calls Try.prog 43 #[.agg #[.int .i64 W, .int .i64 H, .slice a len cap], .int .i64 L] w (RetB (.int .i64 (L - (len : Int))) w) := by
  have h' : ¬ (L - (len : Int) < 0) := by omega
  go_enter Try.func43, Try.ntmps43
  go_wp2_with (go_at_call 120; refine (c_szF a len cap L _ h hL).mono ?_; rintro _ _ ⟨rfl, rfl⟩)
  go_ret
  exact ⟨rfl, (Below.refl _ _).alloc (Nat.le_refl _) _⟩
theorem c_szP_no (W H : Int) (a : Option Addr) (len cap : Nat) (L : Int) (w : World) (h : L < len) (hL : 0 ≤ L ∧ len ≤ 9223372036854775807) : Calls Try.prog 43 #[.agg #[.int .i64 W, .int .i64 H, .slice a len cap], .int .i64 L] w (RetB (.int .i64 (-1)) w) := by
  go_enter Try.func43, Try.ntmps43
  go_wp2_with (go_at_call 120; refine (c_szF_no a len cap L _ h hL.1 hL.2).mono ?_; rintro _ _ ⟨rfl, rfl⟩)
  go_ret
  exact ⟨rfl, (Below.refl _ _).alloc (Nat.le_refl _) _⟩
/-! ### szCurve -/
theorem c_szC (ax : Option Addr) (lx cx : Nat) (ay : Option Addr) (ly cy : Nat) (L : Int) (w : World) (h : (lx : Int) + (ly : Int) ≤ L) (hL : L ≤ 1048576) : Calls Try.prog 55 #[.agg #[.slice ax lx cx, .slice ay ly cy], .int .i64 L] w (RetB (.int .i64 (L - (lx : Int) - (ly : Int))) w) := by
  have h1 : ¬ (L - (lx : Int) < 0) := by omega
  have h2 : ¬ (L - (lx : Int) - (ly : Int) < 0) := by omega
  go_enter Try.func55, Try.ntmps55
  go_wp2_with (go_at_call 120; first | ((with_reducible refine (c_szF ax lx cx L _ (by omega) hL).mono ?_); rintro _ _ ⟨rfl, rfl⟩) | ((with_reducible refine (c_szF ay ly cy (L - (lx : Int)) _ (by omega) (by omega)).mono ?_); rintro _ _ ⟨rfl, rfl⟩))
  go_ret
  exact ⟨rfl, (Below.refl _ _).alloc (Nat.le_refl _) _⟩
theorem c_szC_no1 (ax : Option Addr) (lx cx : Nat) (ay : Option Addr) (ly cy : Nat) (L : Int) (w : World) (h : L < lx) (hL : 0 ≤ L) (hm : lx ≤ 9223372036854775807) : Calls Try.prog 55 #[.agg #[.slice ax lx cx, .slice ay ly cy], .int .i64 L] w (RetB (.int .i64 (-1)) w) := by
  go_enter Try.func55, Try.ntmps55
  go_wp2_with (go_at_call 120; refine (c_szF_no ax lx cx L _ h hL hm).mono ?_; rintro _ _ ⟨rfl, rfl⟩)
  go_ret
  exact ⟨rfl, (Below.refl _ _).alloc (Nat.le_refl _) _⟩
theorem c_szC_no2 (ax : Option Addr) (lx cx : Nat) (ay : Option Addr) (ly cy : Nat) (L : Int) (w : World) (h : (lx : Int) ≤ L) (hL : L ≤ 1048576) (h2 : L - (lx : Int) < ly) (hm : ly ≤ 9223372036854775807) : Calls Try.prog 55 #[.agg #[.slice ax lx cx, .slice ay ly cy], .int .i64 L] w (RetB (.int .i64 (-1)) w) := by
  have h1 : ¬ (L - (lx : Int) < 0) := by omega
  go_enter Try.func55, Try.ntmps55
  go_wp2_with (go_at_call 120; first | ((with_reducible refine (c_szF ax lx cx L _ h hL).mono ?_); rintro _ _ ⟨rfl, rfl⟩) | ((with_reducible refine (c_szF_no ay ly cy (L - (lx : Int)) _ h2 (by omega) hm).mono ?_); rintro _ _ ⟨rfl, rfl⟩))
  go_ret
  exact ⟨rfl, (Below.refl _ _).alloc (Nat.le_refl _) _⟩
/-! ### toOwn -/
theorem infoFo : (Try.prog.info? 31).map (fun i => (i.zero, i.size, i.bytes)) = some (some (.float .f32 0), 1, 4) := by kernel_rfl
theorem c_toO (a : Option Addr) (len cap : Nat) (zs : List Nat) (w : World) (hr : IsRowF .f32 w a len cap zs) (hl : len ≤ 1048576) : Calls Try.prog 51 #[.slice a len cap] w (NewO 31 len zs w) := by
  obtain ⟨i0, hi, hz0, hz1, hz2⟩ := info_parts infoFo
  obtain ⟨h1, h2, h3, h4, h5⟩ := hr
  go_enter Try.func51, Try.ntmps51
  go_wp2_with (at_make; refine wpList_make_full _ rfl _ _ 24 rfl w.heap.size 31 i0 (.float .f32 0) 1 Try.underlying24 hi hz0 hz1 _ _ _ _ len rfl rfl rfl rfl (by rw [hz2]; omega) (by unfold maxLen; omega) (by simp) ?_; intro w1 hown hgrow)
  have hblk := block_of_owns hown
  have e0 : (madeCells (Value.float FloatKind.f32 0).cells (len * 1)).toList = List.replicate len (.float .f32 0) := by rw [Nat.mul_one]; exact made_zeros _ _
  rw [e0] at hblk
  have hbel : Below w.heap.size w w1 := (Below.refl _ _).grown hgrow (Nat.le_refl _) (by simp)
  have HB := Lib.hid hblk
  clear hown hgrow hblk e0 hz0 hz1 hz2
  go_loopw [4] (fun i wr => ∃ j : Nat, j ≤ len ∧ i = .int .i64 j ∧ Below w.heap.size w wr ∧ wr.heap[w.heap.size]? = some (.cells (fl .f32 (zs.take j) ++ List.replicate (zs.length - j) (Value.float .f32 0)).toArray 31 (0, 0))) (fun i _ => len - (intOf i).toNat)
  case atStart => exact ⟨0, Nat.zero_le _, rfl, hbel, by rw [HB.out, h1]; rfl⟩
  case round =>
    obtain ⟨j, hj, rfl, hb, hblk⟩ := hrel
    have Hblk := Lib.hid hblk
    clear hblk
    by_cases hlt : j < len
    · rcases h5 with h5 | ⟨b, off, rfl, hbl, hc⟩
      · omega
      have hcell : wr.cell? ⟨b, off + j, none⟩ = some (.float .f32 (fat zs j)) := by rw [hb.cell (p := ⟨b, off + j, none⟩) hbl]; exact hc j hlt
      have hold : wr.cell? ⟨w.heap.size, j, none⟩ = some (.float .f32 0) := by
        rw [cell_of_block Hblk.out, List.getElem?_append_right (by simp [fl]; omega)]
        have e : (fl FloatKind.f32 (List.take j zs)).length = j := by simp [fl]; omega
        rw [e, Nat.sub_self, List.getElem?_replicate, if_pos (by omega)]
      have hfz : wr.frozen? ⟨w.heap.size, j, none⟩ = false := frozen_of_block Hblk.out j
      have hset := block_set Hblk.out j (.float .f32 (fat zs j))
      rw [set_step zs _ j (by omega)] at hset
      have Hset := Lib.hid hset
      clear hset hc
      go_wp2
      go_roundw
      case rel => exact ⟨j + 1, by omega, by go_num, hb.setCell (Nat.le_refl _) _, Hset.out⟩
      case measure => simp [intOf]; omega
    · obtain rfl : j = len := by omega
      have e1 : fl .f32 (zs.take j) ++ List.replicate (zs.length - j) (Value.float .f32 0) = fl .f32 zs := by rw [h1, Nat.sub_self, List.replicate_zero, List.append_nil, List.take_of_length_le (by omega)]
      have hblk2 := Hblk.out
      rw [e1] at hblk2
      have hown : Own 31 wr w.heap.size (some ⟨w.heap.size, 0, none⟩) j j zs :=
        ⟨h1, ⟨by simp [fl, h1], .inr ⟨w.heap.size, j, _, rfl, Nat.le_refl _, hblk2, Nat.le_refl _, by unfold maxLen; omega, by simp [fl, h1], by rw [List.take_of_length_le (by simp [fl, h1])]⟩⟩, h4⟩
      have HO := Lib.hid hown
      clear hown hblk2 e1
      go_wp2
      go_ret
      exact ⟨w.heap.size, rfl, hb, HO.out⟩
/-! ### picDefs -/
def sideB (W H : Int) : Bool := decide (1 ≤ W) && decide (W ≤ 16) && (decide (1 ≤ H) && decide (H ≤ 16))
def finL (zs : List Nat) : Bool := zs.all (finB .f32)
def validB (W H : Int) (zs : List Nat) : Bool := sideB W H && decide ((zs.length : Int) = W * H) && finL zs
theorem sideB_true {W H : Int} (h : sideB W H = true) : (1 ≤ W ∧ W ≤ 16) ∧ 1 ≤ H ∧ H ≤ 16 := by simpa [sideB, and_assoc] using h
theorem side_mul {W H : Int} (h : sideB W H = true) : 1 ≤ W * H ∧ W * H ≤ 256 := by
  obtain ⟨⟨h1, h2⟩, h3, h4⟩ := sideB_true h
  have : W * H ≤ 16 * 16 := Int.mul_le_mul h2 h4 (by omega) (by omega)
  have h5 : 1 * 1 ≤ W * H := Int.mul_le_mul h1 h3 (by omega) (by omega)
  omega
theorem sideB_false {W H : Int} (h : sideB W H = false) : W < 1 ∨ 16 < W ∨ H < 1 ∨ 16 < H := by
  simp [sideB] at h; omega
theorem finL_snoc (zs : List Nat) (k : Nat) (hk : k < zs.length) : finL (zs.take (k + 1)) = (finL (zs.take k) && finB .f32 (fat zs k)) := by
  unfold finL fat
  rw [List.take_succ_eq_append_getElem hk, List.all_append, List.getD, List.getElem?_eq_getElem hk]; simp
theorem finL_of (zs : List Nat) (k : Nat) (hk : k < zs.length) (h : finB .f32 (fat zs k) = false) : finL zs = false := by
  unfold finL
  rw [List.all_eq_false]
  refine ⟨zs[k], List.getElem_mem hk, ?_⟩
  unfold fat at h
  rw [List.getD, List.getElem?_eq_getElem hk] at h
  simpa using h
theorem pick0 (k : FloatKind) (v : Nat) (hv : v < 2 ^ k.format.width) : ∃ n, v = pick k v n := pick_onto k v hv
/-! ### ordDefs -/
theorem cmp_bools (a b : Int) : ((some (compare a b) == some Ordering.lt) = decide (a < b)) ∧ ((some (compare a b) == some Ordering.gt) = decide (b < a)) ∧ ((some (compare a b) == some Ordering.eq) = decide (a = b)) := by
  rcases Int.lt_trichotomy a b with h | h | h
  · rw [cmp_of_lt h, decide_eq_true h, decide_eq_false (by omega), decide_eq_false (by omega)]; exact ⟨rfl, rfl, rfl⟩
  · subst h; rw [Int.compare_eq_eq.2 rfl, decide_eq_false (by omega), decide_eq_true rfl]; exact ⟨rfl, rfl, rfl⟩
  · rw [cmp_of_gt h, decide_eq_false (by omega), decide_eq_true h, decide_eq_false (by omega)]; exact ⟨rfl, rfl, rfl⟩
theorem o_lt {v c : Nat} (h : isN .f32 v = false) (hc : isN .f32 c = false) : (FloatKind.f32.format.order v c == some .lt) = decide (srung FloatKind.f32.format v < srung FloatKind.f32.format c) := by
  rw [order_rungs .f32 v c h hc]; exact (cmp_bools _ _).1
theorem o_gt {v c : Nat} (h : isN .f32 v = false) (hc : isN .f32 c = false) : (FloatKind.f32.format.order v c == some .gt) = decide (srung FloatKind.f32.format c < srung FloatKind.f32.format v) := by
  rw [order_rungs .f32 v c h hc]; exact (cmp_bools _ _).2.1
theorem o_eq {v c : Nat} (h : isN .f32 v = false) (hc : isN .f32 c = false) : (FloatKind.f32.format.order v c == some .eq) = decide (srung FloatKind.f32.format v = srung FloatKind.f32.format c) := by
  rw [order_rungs .f32 v c h hc]; exact (cmp_bools _ _).2.2
theorem o_le {v c : Nat} (h : isN .f32 v = false) (hc : isN .f32 c = false) : (FloatKind.f32.format.order v c == some .lt || FloatKind.f32.format.order v c == some .eq) = decide (srung FloatKind.f32.format v ≤ srung FloatKind.f32.format c) := by
  rw [o_lt h hc, o_eq h hc, ← Bool.decide_or]; exact decide_eq_decide.2 (by omega)
theorem o_ge {v c : Nat} (h : isN .f32 v = false) (hc : isN .f32 c = false) : (FloatKind.f32.format.order v c == some .gt || FloatKind.f32.format.order v c == some .eq) = decide (srung FloatKind.f32.format c ≤ srung FloatKind.f32.format v) := by
  rw [o_gt h hc, o_eq h hc, ← Bool.decide_or]; exact decide_eq_decide.2 (by omega)
theorem s_zero : srung FloatKind.f32.format 0 = 0 := by decide +kernel
theorem s_half : srung FloatKind.f32.format 1056964608 = 1056964608 := by decide +kernel
theorem s_one : srung FloatKind.f32.format 1065353216 = 1065353216 := by decide +kernel
theorem n_zero : isN .f32 0 = false := by decide +kernel
theorem n_half : isN .f32 1056964608 = false := by decide +kernel
theorem n_one : isN .f32 1065353216 = false := by decide +kernel
theorem pick_zero (n : Nat) : pick .f32 0 n = 0 := pick_not n_zero n
/-! ### bendDefs -/
def leB (x y : Nat) : Bool := FloatKind.f32.format.order x y == some .lt || FloatKind.f32.format.order x y == some .eq
def riseK (zs : List Nat) : Nat → Bool
  | 0 => true
  | 1 => true
  | k + 2 => riseK zs (k + 1) && !leB (fat zs (k + 1)) (fat zs k)
theorem riseK_succ {zs : List Nat} {k : Nat} (h : 1 ≤ k) : riseK zs (k + 1) = (riseK zs k && !leB (fat zs k) (fat zs (k - 1))) := by
  obtain ⟨j, rfl⟩ : ∃ j, k = j + 1 := ⟨k - 1, by omega⟩
  rfl
theorem riseK_false {zs : List Nat} {k : Nat} (h : riseK zs k = false) : ∀ n, k ≤ n → riseK zs n = false := by
  intro n hn
  induction n with
  | zero => obtain rfl : k = 0 := by omega
            exact h
  | succ m ih =>
    by_cases hk : k = m + 1
    · rw [← hk]; exact h
    · have h2 := ih (by omega)
      by_cases hm : 1 ≤ m
      · rw [riseK_succ hm, h2]; rfl
      · obtain rfl : m = 0 := by omega
        obtain rfl : k = 0 := by omega
        cases h
def bendB (zs : List Nat) : Bool := decide (2 ≤ zs.length) && decide (zs.length ≤ 17) && (finL zs && riseK zs zs.length)
/-! ### curDefs -/
theorem var_two {w : World} {b : Nat} {x y : Value} (h : Var w b #[x, y]) : w.cell? ⟨b, 0, none⟩ = some x ∧ w.cell? ⟨b, 1, none⟩ = some y := ⟨h.2 0 (by simp), h.2 1 (by simp)⟩
theorem var_mk2 {w : World} {b : Nat} {x y : Value} (hb : b < w.heap.size) (h0 : w.cell? ⟨b, 0, none⟩ = some x) (h1 : w.cell? ⟨b, 1, none⟩ = some y) : Var w b #[x, y] :=
  ⟨hb, fun i hi => by
    have : i = 0 ∨ i = 1 := by simp at hi; omega
    rcases this with rfl | rfl
    · exact h0
    · exact h1⟩
def curB (zx zy : List Nat) : Bool := (decide (2 ≤ zx.length) && decide (zx.length ≤ 16)) && (decide (zy.length = zx.length) && ((finL zx && finL zy) && riseK zx zx.length))
theorem curB_short {zx zy : List Nat} (h : zx.length < 2) : curB zx zy = false := by unfold curB; rw [decide_eq_false (p := 2 ≤ zx.length) (by omega)]; rfl
theorem curB_long {zx zy : List Nat} (h : 16 < zx.length) : curB zx zy = false := by unfold curB; rw [decide_eq_false (p := zx.length ≤ 16) (by omega), Bool.and_false]; rfl
theorem curB_len {zx zy : List Nat} (h : zy.length ≠ zx.length) : curB zx zy = false := by unfold curB; rw [decide_eq_false h, Bool.false_and, Bool.and_false]
theorem curB_mid {zx zy : List Nat} (h1 : ¬ zx.length < 2) (h2 : ¬ 16 < zx.length) (h3 : zy.length = zx.length) : curB zx zy = ((finL zx && finL zy) && riseK zx zx.length) := by unfold curB; rw [decide_eq_true (p := zx.length ≤ 16) (by omega), decide_eq_true (p := 2 ≤ zx.length) (by omega), decide_eq_true h3]; rfl
theorem curB_mid2 {zx zy : List Nat} (h1 : ¬ zx.length < 2) (h2 : ¬ 16 < zx.length) (h3 : zy.length = zx.length) : curB zx zy = ((riseK zx zx.length && finL zx) && finL zy) := by
  rw [curB_mid h1 h2 h3]
  cases finL zx <;> cases finL zy <;> cases riseK zx zx.length <;> rfl
/-! ### toCurve -/
def NewCur (T : TypeId) (zx zy : List Nat) (w : World) (e : Ending) (w' : World) : Prop :=
  ∃ g k, e = .returned (.agg #[.slice (some ⟨g, 0, none⟩) zx.length zx.length, .slice (some ⟨k, 0, none⟩) zy.length zy.length]) ∧ Below w.heap.size w w' ∧ Own T w' w.heap.size (some ⟨g, 0, none⟩) zx.length zx.length zx ∧ Own T w' w.heap.size (some ⟨k, 0, none⟩) zy.length zy.length zy
theorem c_toCur (ax : Option Addr) (cx : Nat) (zx : List Nat) (ay : Option Addr) (cy : Nat) (zy : List Nat) (w : World) (hx : IsRowF .f32 w ax zx.length cx zx) (hy : IsRowF .f32 w ay zy.length cy zy) (hl : zx.length ≤ 1048576) (hm : zy.length ≤ 1048576) : Calls Try.prog 57 #[.agg #[.slice ax zx.length cx, .slice ay zy.length cy]] w (NewCur 31 zx zy w) := by
  obtain ⟨w0, hw0⟩ : ∃ w0, w0 = ((w.alloc (Obj.cells #[.slice ax zx.length cx, .slice ay zy.length cy] 72)).alloc (Obj.cells #[.slice none 0 0, .slice none 0 0] 75)).alloc (Obj.cells #[.slice none 0 0, .slice none 0 0] 75) := ⟨_, rfl⟩
  have V0 : Var w0 w.heap.size #[.slice ax zx.length cx, .slice ay zy.length cy] := hw0 ▸ (((Var.new _ _ _).alloc _).alloc _)
  have V1 : Var w0 (w.heap.size + 1) #[.slice none 0 0, .slice none 0 0] := hw0 ▸ ((Var.new' _ _ _ _ (by simp)).alloc _)
  have V2 : Var w0 (w.heap.size + 1 + 1) #[.slice none 0 0, .slice none 0 0] := hw0 ▸ (Var.new' _ _ _ _ (by simp))
  have F1 : Free w0 (w.heap.size + 1) := by subst hw0; exact Free.alloc (Free.new' (w.alloc _) #[.slice none 0 0, .slice none 0 0] _ _ (by simp)) (by simp) _
  have F2 : Free w0 (w.heap.size + 1 + 1) := by subst hw0; exact Free.new' _ _ _ _ (by simp)
  have B0 : Below w.heap.size w w0 := hw0 ▸ (((Below.refl _ _).alloc (Nat.le_refl _) _).alloc (by simp) _).alloc (by simp; omega) _
  have S0 : w0.heap.size = w.heap.size + 1 + 1 + 1 := by subst hw0; simp
  have HW := Lib.hid hw0.symm
  have HX := Lib.hid (hx.below B0)
  have HY := Lib.hid hy
  clear hw0 hx hy
  go_enter Try.func57, Try.ntmps57
  go_wp2_with fail
  rw [HW.out]
  obtain ⟨c0, c1⟩ := var_two V0
  go_wp2_with fail
  refine (c_toO ax zx.length cx zx _ HX.out hl).mono ?_
  rintro _ w1 ⟨g, rfl, hb, ho⟩
  have V0 := V0.keep hb
  have V1 := V1.keep hb
  have V2 := V2.keep hb
  have F1 := F1.below (by omega) hb
  have F2 := F2.below (by omega) hb
  have B0 := B0.trans (hb.mono (by omega))
  have S1 := hb.size
  have GI := ho.in
  have HO := Lib.hid ho
  clear hb ho HX c0 c1
  obtain ⟨c0, c1⟩ := var_two V0
  obtain ⟨d0, d1⟩ := var_two V2
  have f2 := F2 0
  go_wp2_with fail
  obtain ⟨w2, hw2⟩ : ∃ w2, w2 = w1.setCell ⟨w.heap.size + 1 + 1, 0, none⟩ (.slice (some ⟨g, 0, none⟩) zx.length zx.length) := ⟨_, rfl⟩
  have ng1 : blk (some (⟨g, 0, none⟩ : Addr)) ≠ some (w.heap.size + 1) := fun e => by have := GI _ e; omega
  have ne2 : blk (some (⟨g, 0, none⟩ : Addr)) ≠ some (w.heap.size + 1 + 1) := fun e => by have := GI _ e; omega
  have E2 : w2.heap.size = w1.heap.size := by subst hw2; simp
  have V0' : Var w2 w.heap.size #[.slice ax zx.length cx, .slice ay zy.length cy] := hw2 ▸ V0.setOther (by simp <;> omega) _
  have V1' : Var w2 (w.heap.size + 1) #[.slice none 0 0, .slice none 0 0] := hw2 ▸ V1.setOther (by simp <;> omega) _
  have V2' : Var w2 (w.heap.size + 1 + 1) #[.slice (some ⟨g, 0, none⟩) zx.length zx.length, .slice none 0 0] := by subst hw2; exact var_mk2 (by simp; omega) (by go_simp) (by go_simp)
  have F1' : Free w2 (w.heap.size + 1) := hw2 ▸ F1.setCell _ _
  have F2' : Free w2 (w.heap.size + 1 + 1) := hw2 ▸ F2.setCell _ _
  have B2 : Below w.heap.size w w2 := hw2 ▸ B0.setCell (by simp; omega) _
  have O2 : Own 31 w2 w.heap.size (some ⟨g, 0, none⟩) zx.length zx.length zx := hw2 ▸ ((Own.setCell HO.out ne2 _).mono (by omega))
  rw [← hw2]
  clear V0 V1 V2 F1 F2 B0 HO GI c0 c1 d0 d1 f2 hw2
  refine (c_toO ay zy.length cy zy _ (HY.out.below B2) hm).mono ?_
  rintro _ w3 ⟨k, rfl, hb, ho⟩
  have V1 := V1'.keep hb
  have V2 := V2'.keep hb
  have F1 := F1'.below (by omega) hb
  have F2 := F2'.below (by omega) hb
  have B3 := B2.trans (hb.mono (by omega))
  have S3 := hb.size
  have GI := ho.in
  have OX := O2.below hb
  have OY := ho
  clear hb ho V0' V1' V2' F1' F2' B2 O2
  obtain ⟨c0, c1⟩ := var_two V1
  obtain ⟨d0, d1⟩ := var_two V2
  have f1 := F1 0
  have f1' := F1 1
  have f2 := F2 1
  have nk1 : blk (some (⟨k, 0, none⟩ : Addr)) ≠ some (w.heap.size + 1) := fun e => by have := GI _ e; omega
  have nk2 : blk (some (⟨k, 0, none⟩ : Addr)) ≠ some (w.heap.size + 1 + 1) := fun e => by have := GI _ e; omega
  have z1 : w.heap.size + 1 < w3.heap.size := by omega
  go_wp2_with fail
  refine bodyPost_ret (v := .agg #[.slice (some ⟨g, 0, none⟩) zx.length zx.length, .slice (some ⟨k, 0, none⟩) zy.length zy.length]) (by simp [results, Try.results57, c0, c1, z1, go_sem]) rfl ⟨g, k, rfl, ?_, ?_, ?_⟩
  · exact ((B3.setCell (by simp; omega) _).setCell (by simp) _).setCell (by simp) _
  · exact ((OX.setCell ne2 _).setCell ng1 _).setCell ng1 _
  · exact (((OY.setCell nk2 _).setCell nk1 _).setCell nk1 _).mono (by omega)
/-! ### sameFloat -/
theorem c_sameFloat (v n m : Nat) (w : World) (j : Nat) : Calls Try.prog 64 #[.float .f64 (pick .f64 v n), .float .f64 (pick .f64 v m)] (w.drewN j) (RetV (.bool true) w) := by
  have hs := self_ne .f64 v
  have ht := self_eq .f64 v
  cases h : isN .f64 v
  · rw [h] at hs ht
    cases h2 : (FloatKind.f64.format.order v 0 == some .eq)
    · go_enter Try.func64, Try.ntmps64
      go_wp2_with (first | (refine wpList_fop rfl _ _ _ _ _ rfl _ _ _ rfl rfl (by decide) _ ?_; intro _ _) | (refine upon_fop _ _ _ _ _ (by decide) ?_; intro _ _))
      go_ret
      exact ⟨_, rfl, rfl⟩
    · go_enter Try.func64, Try.ntmps64
      go_wp2_with (first | (refine wpList_fop rfl _ _ _ _ _ rfl _ _ _ rfl rfl (by decide) _ ?_; intro _ _) | (refine upon_fop _ _ _ _ _ (by decide) ?_; intro _ _))
      go_ret
      exact ⟨_, by simp, rfl⟩
  · rw [h] at hs ht
    go_enter Try.func64, Try.ntmps64
    go_wp2_with (first | (refine wpList_fop rfl _ _ _ _ _ rfl _ _ _ rfl rfl (by decide) _ ?_; intro _ _) | (refine upon_fop _ _ _ _ _ (by decide) ?_; intro _ _))
    go_ret
    exact ⟨_, rfl, rfl⟩

/-! ### eqFloat32S -/
theorem c_eqF (a b : Option Addr) (len c d : Nat) (zs : List Nat) (w : World) (j0 : Nat) (hr : IsRowF .f32 w a len c zs) (hs : IsRowF .f32 w b len d zs) : Calls Try.prog 53 #[.slice a len c, .slice b len d] (w.drewN j0) (RetV (.bool true) w) := by
  obtain ⟨h1, h2, h3, h4, h5⟩ := hr
  obtain ⟨g1, g2, g3, g4, g5⟩ := hs
  unfold maxLen at h3
  go_enter Try.func53, Try.ntmps53
  go_wp2
  go_loopw [5] (fun i wr => ∃ k m : Nat, k ≤ len ∧ i = .int .i64 k ∧ wr = w.drewN m) (fun i _ => len - (intOf i).toNat)
  case atStart => exact ⟨0, j0, Nat.zero_le _, rfl, rfl⟩
  case round =>
    obtain ⟨k, m, hk, rfl, rfl⟩ := hrel
    by_cases hlt : k < len
    · rcases h5 with h5 | ⟨x, off, rfl, hbl, hc⟩
      · omega
      rcases g5 with g5 | ⟨y, off2, rfl, gbl, gc⟩
      · omega
      have hcell : w.cell? ⟨x, off + k, none⟩ = some (.float .f32 (fat zs k)) := hc k hlt
      have gcell : w.cell? ⟨y, off2 + k, none⟩ = some (.float .f32 (fat zs k)) := gc k hlt
      clear hc h4 gc g4
      go_wp2
      refine wp_region_N (fun _ _ u => u = .bool true) (by kernel_rfl) (by kernel_rfl) ?_; (repeat (first | ((with_reducible show wpN _ _ _ _ _ (Oper.mk _ (Op.binOp _ _ _ _ _) _ _ _ none :: _) _); refine wpN_fop rfl _ _ _ _ _ rfl _ _ _ rfl rfl (by decide) ?_; intro _) | ((with_reducible show wpN _ _ _ _ _ (Oper.mk _ (Op.convert _ _ _) _ _ _ none :: _) _); refine wpN_cvU rfl 31 38 _ rfl (Option.isSome_iff_exists.2 ⟨_, Try.underlying31⟩) Try.underlying38 _ rfl ?_; intro _) | ((with_reducible show wpN _ _ _ _ _ (Oper.mk _ _ _ _ _ (some _) :: _) _); (with_reducible refine wpN_off ?_ ?_); focus rfl; (simp only [Act.put, List.setIfInBounds_toArray, List.set_cons_zero, List.set_cons_succ])) | ((with_reducible show wpN _ _ _ _ _ (Oper.mk _ _ _ _ _ (some _) :: _) _); ((with_reducible refine wpN_on ?_ (fun K hK => ?_)); (focus rfl); intro _; go_simp; first | (refine uponN_value (hK _ ?_)) | ((refine uponN_call (callN rfl (c_sameFloat _ _ _ _ _)) ?_; intro u hu; obtain rfl : u = _ := hu); refine hK _ ?_)); clear hK K) | (((with_reducible refine wpN_plain rfl (fun K hK => ?_)); intro _; go_simp; first | (refine uponN_value (hK _ ?_)) | ((refine uponN_call (callN rfl (c_sameFloat _ _ _ _ _)) ?_; intro u hu; obtain rfl : u = _ := hu); refine hK _ ?_)); clear hK K) | ((with_reducible refine wpN_step (fun K hK => ?_)); go_simp; first | (refine hK _ ?_) | (intro _; first | (refine uponN_value (hK _ ?_)) | ((refine uponN_call (callN rfl (c_sameFloat _ _ _ _ _)) ?_; intro u hu; obtain rfl : u = _ := hu); refine hK _ ?_)); clear hK K))); refine wpN_nil ?_; intro _
      go_wp2
      go_roundw
      case rel => exact ⟨k + 1, _, by omega, by go_num, rfl⟩
      case measure => simp [intOf]; omega
    · clear h5 h4 g4 g5
      go_wp2
      go_ret
      exact ⟨_, rfl, rfl⟩
/-! ### eqPicture -/
theorem c_eqF0 (a b : Option Addr) (len c d : Nat) (zs : List Nat) (w : World) (hr : IsRowF .f32 w a len c zs) (hs : IsRowF .f32 w b len d zs) : Calls Try.prog 53 #[.slice a len c, .slice b len d] w (RetV (.bool true) w) := by
  have h := c_eqF a b len c d zs w 0 hr hs
  rwa [w.drewN_zero] at h
theorem c_eqP (W H : Int) (a b : Option Addr) (len c d : Nat) (zs : List Nat) (w : World) (hr : IsRowF .f32 w a len c zs) (hs : IsRowF .f32 w b len d zs) : Calls Try.prog 47 #[.agg #[.int .i64 W, .int .i64 H, .slice a len c], .agg #[.int .i64 W, .int .i64 H, .slice b len d]] w (RetB (.bool true) w) := by
  have HR := Lib.hid hr
  have HS := Lib.hid hs
  clear hr hs
  go_enter Try.func47, Try.ntmps47
  go_wp2_with fail
  refine (c_eqF0 a b len c d zs _ ((HR.out.alloc _).alloc _) ((HS.out.alloc _).alloc _)).mono ?_
  rintro _ _ ⟨m, rfl, rfl⟩
  go_wp2_with fail
  go_ret
  exact ⟨rfl, below_drewN (((Below.refl _ _).alloc (Nat.le_refl _) _).alloc (by simp) _) _⟩
/-! ### eqCurve -/
theorem c_eqCur (a b : Option Addr) (c d : Nat) (zx : List Nat) (a2 b2 : Option Addr) (c2 d2 : Nat) (zy : List Nat) (w : World) (ha : IsRowF .f32 w a zx.length c zx) (hb : IsRowF .f32 w b zx.length d zx) (ha2 : IsRowF .f32 w a2 zy.length c2 zy) (hb2 : IsRowF .f32 w b2 zy.length d2 zy) : Calls Try.prog 59 #[.agg #[.slice a zx.length c, .slice a2 zy.length c2], .agg #[.slice b zx.length d, .slice b2 zy.length d2]] w (RetB (.bool true) w) := by
  have HA := Lib.hid ha
  have HB := Lib.hid hb
  have HA2 := Lib.hid ha2
  have HB2 := Lib.hid hb2
  clear ha hb ha2 hb2
  go_enter Try.func59, Try.ntmps59
  go_wp2_with fail
  refine (c_eqF0 a b zx.length c d zx _ ((HA.out.alloc _).alloc _) ((HB.out.alloc _).alloc _)).mono ?_
  rintro _ _ ⟨m, rfl, rfl⟩
  go_wp2_with fail
  refine (c_eqF a2 b2 zy.length c2 d2 zy _ m ((HA2.out.alloc _).alloc _) ((HB2.out.alloc _).alloc _)).mono ?_
  rintro _ _ ⟨m2, rfl, rfl⟩
  go_wp2_with fail
  go_ret
  exact ⟨rfl, below_drewN (((Below.refl _ _).alloc (Nat.le_refl _) _).alloc (by simp) _) _⟩
/-! ### meanDefs -/
def meanV (zs : List Nat) : Nat := fop .quo .f32 (sumF .add .f32 0 zs) (floatOfInt .f32 (zs.length : Int))
def numR (v : Nat) : Nat × Bool := if finB .f32 v = true then (v, true) else (0, false)
def meanR (W H : Int) (zs : List Nat) : Nat × Bool := if validB W H zs = true then numR (meanV zs) else (0, false)
theorem mean_len {W H : Int} {zs : List Nat} (h : validB W H zs = true) : zs.length ≤ 256 := by
  simp only [validB, Bool.and_eq_true, decide_eq_true_eq] at h
  obtain ⟨⟨h1, h2⟩, h3⟩ := h
  have := side_mul h1
  omega
theorem pick00 : pick .f32 0 0 = 0 := pick_not (show isN .f32 0 = false from by decide +kernel) 0
/-! ### bendBackDefs -/
def gtB (x y : Nat) : Bool := FloatKind.f32.format.order x y == some .gt
def geB (x y : Nat) : Bool := FloatKind.f32.format.order x y == some .gt || FloatKind.f32.format.order x y == some .eq
def bbI (zs : List Nat) (y : Nat) : Nat → Nat → Nat
  | 0, i => i
  | f + 1, i => if gtB y (fat zs (i + 1)) = true then bbI zs y f (i + 1) else i
def bbV (zs : List Nat) (y i : Nat) : Nat := fop .quo .f32 (fop .add .f32 (floatOfInt .f32 (i : Int)) (fop .quo .f32 (fop .sub .f32 y (fat zs i)) (fop .sub .f32 (fat zs (i + 1)) (fat zs i)))) (floatOfInt .f32 ((zs.length : Int) - 1))
def bendBackR (zs : List Nat) (y : Nat) : Nat × Bool :=
  if (bendB zs && (geB y (fat zs 0) && leB y (fat zs (zs.length - 1)))) = true then numR (bbV zs y (bbI zs y zs.length 0)) else (0, false)
theorem bbI_yes {zs : List Nat} {y f i : Nat} (h : gtB y (fat zs (i + 1)) = true) : bbI zs y (f + 1) i = bbI zs y f (i + 1) := by
  show (if gtB y (fat zs (i + 1)) = true then bbI zs y f (i + 1) else i) = _
  rw [if_pos h]
theorem bbI_no {zs : List Nat} {y f i : Nat} (h : gtB y (fat zs (i + 1)) = false) : bbI zs y (f + 1) i = i := by
  show (if gtB y (fat zs (i + 1)) = true then bbI zs y f (i + 1) else i) = _
  rw [if_neg (by rw [h]; decide)]
theorem le_notgt {x y : Nat} (h : leB x y = true) : gtB x y = false := by
  unfold leB at h; unfold gtB
  cases h2 : FloatKind.f32.format.order x y with
  | none => rfl
  | some o => cases o <;> first | rfl | (rw [h2] at h; cases h)

/-! ### toneDefs -/
def ltB (x y : Nat) : Bool := FloatKind.f32.format.order x y == some .lt
def tnI (zs : List Nat) (x : Nat) : Nat → Nat → Nat
  | 0, i => i
  | f + 1, i => if ltB (fat zs i) x = true then tnI zs x f (i + 1) else i
def tnQ (zx zy : List Nat) (x k : Nat) : Nat := fop .add .f32 (fat zy (k - 1)) (fop .mul .f32 (fop .quo .f32 (fop .sub .f32 x (fat zx (k - 1))) (fop .sub .f32 (fat zx k) (fat zx (k - 1)))) (fop .sub .f32 (fat zy k) (fat zy (k - 1))))
def toneV (zx zy : List Nat) (x : Nat) : Nat := if leB x (fat zx 0) = true then fat zy 0 else if geB x (fat zx (zx.length - 1)) = true then fat zy (zx.length - 1) else tnQ zx zy x (tnI zx x zx.length 1)
theorem tnI_yes {zs : List Nat} {x f i : Nat} (h : ltB (fat zs i) x = true) : tnI zs x (f + 1) i = tnI zs x f (i + 1) := by
  show (if ltB (fat zs i) x = true then tnI zs x f (i + 1) else i) = _
  rw [if_pos h]
theorem tnI_no {zs : List Nat} {x f i : Nat} (h : ltB (fat zs i) x = false) : tnI zs x (f + 1) i = i := by
  show (if ltB (fat zs i) x = true then tnI zs x f (i + 1) else i) = _
  rw [if_neg (by rw [h]; decide)]
theorem notge_stops {x y : Nat} (hx : finB .f32 x = true) (hy : finB .f32 y = true) (h : geB x y = false) : ltB y x = false := by
  unfold geB at h
  unfold ltB
  rw [o_ge (fin_notN hx) (fin_notN hy)] at h
  rw [o_lt (fin_notN hy) (fin_notN hx)]
  have a := of_decide_eq_false h
  exact decide_eq_false (by omega)
theorem fin_at' {zs : List Nat} (h : finL zs = true) {k : Nat} (hk : k < zs.length) : finB .f32 (fat zs k) = true := by
  cases h2 : finB .f32 (fat zs k)
  · rw [finL_of zs k hk h2] at h; cases h
  · rfl
/-! ### numT -/
def RetT (r : Nat × Bool) (w : World) (e : Ending) (w' : World) : Prop := ∃ k m, e = .returned (.tuple #[.float .f32 (pick .f32 r.1 k), .bool r.2]) ∧ w' = w.drewN m
theorem RetT.no {w : World} {e : Ending} {w' : World} (h : e = .returned (.tuple #[.float .f32 0, .bool false])) (hw : ∃ m, w' = w.drewN m) : RetT (0, false) w e w' := ⟨0, hw.choose, by rw [h]; simp only [pick_zero], hw.choose_spec⟩
theorem RetF1.no {w : World} {e : Ending} {w' : World} (h : e = .returned (.tuple #[.float .f32 0, .bool false])) (hw : Below w.heap.size w w') : RetF1 (0, false) w e w' := ⟨0, by rw [h]; simp only [pick_zero], hw⟩
theorem numR_pick (v n : Nat) : (numR (pick .f32 v n)).2 = (numR v).2 ∧ ∀ m, ∃ k, pick .f32 (numR (pick .f32 v n)).1 m = pick .f32 (numR v).1 k := by
  unfold numR
  rw [finB_pick]
  cases h : finB .f32 v
  · exact ⟨rfl, fun m => ⟨m, rfl⟩⟩
  · refine ⟨rfl, fun m => ⟨0, ?_⟩⟩
    rw [if_pos rfl, if_pos rfl, pick_not (fin_notN h), pick_not (fin_notN h), pick_not (fin_notN h)]
/-! ### toneR -/
def toneR (zx zy : List Nat) (x : Nat) : Nat × Bool := if (curB zx zy && finB .f32 x) = true then numR (toneV zx zy x) else (0, false)
theorem toneR_no {zx zy : List Nat} {x : Nat} (h : (curB zx zy && finB .f32 x) = false) : toneR zx zy x = (0, false) := by unfold toneR; rw [h]; rfl
theorem toneR_yes {zx zy : List Nat} {x : Nat} (h : curB zx zy = true) (h2 : finB .f32 x = true) : toneR zx zy x = numR (toneV zx zy x) := by unfold toneR; rw [h, h2]; rfl
theorem curB_facts {zx zy : List Nat} (h : curB zx zy = true) : 2 ≤ zx.length ∧ zx.length ≤ 16 ∧ zy.length = zx.length ∧ finL zx = true := by
  unfold curB at h
  simp only [Bool.and_eq_true, decide_eq_true_eq] at h
  exact ⟨h.1.1, h.1.2, h.2.1, h.2.2.1.1⟩
/-! ### IsNaN -/
theorem c_IsNaN (v n : Nat) (w : World) (j : Nat) : Calls Try.prog 175 #[.float .f64 (pick .f64 v n)] (w.drewN j) (RetV (.bool (isN .f64 v)) w) := by
  go_enter Try.func175, Try.ntmps175
  go_wp2
  go_ret
  exact ⟨_, rfl, rfl⟩
/-! ### f64bits -/
@[go_sem] theorem e_f64bits (b : Nat) (w : World) : (callFunc 193 #[.float .f64 b]).run Try.prog w = .ok (.value (.int .u64 b)) w := by kernel_rfl
/-! ### f64from -/
@[go_sem] theorem e_f64from (n : Int) (w : World) : (callFunc 177 #[.int .u64 n]).run Try.prog w = .ok (.value (.float .f64 n.toNat)) w := by kernel_rfl
/-! ### Abs -/
theorem c_Abs (v n : Nat) (w : World) (j : Nat) (hv : v < 2 ^ FloatKind.f64.format.width) : Calls Try.prog 182 #[.float .f64 (pick .f64 v n)] (w.drewN j) (RetF .f64 (fabs .f64 v) w) := by
  have hb := abs_bits hv n
  go_enter Try.func182, Try.ntmps182
  go_wp2
  go_ret
  exact ⟨_, _, rfl, rfl⟩
/-! ### IsInf0 -/
theorem c_IsInf0 (v n : Nat) (w : World) (j : Nat) (hv : v < 2 ^ FloatKind.f64.format.width) : Calls Try.prog 176 #[.float .f64 (pick .f64 v n), .int .i64 0] (w.drewN j) (RetV (.bool (FloatKind.f64.format.order (fabs .f64 v) 9218868437227405311 == some .gt)) w) := by
  go_enter Try.func176, Try.ntmps176
  go_wp2_with ((go_at_call 182; refine (c_Abs _ _ _ _ hv).mono ?_; rintro _ _ ⟨_, _, rfl, rfl⟩))
  go_ret
  exact ⟨_, rfl, rfl⟩
/-! ### isFinite64 -/
theorem c_isFinite64 (v n : Nat) (w : World) (j : Nat) (hv : v < 2 ^ FloatKind.f64.format.width) : Calls Try.prog 146 #[.float .f64 (pick .f64 v n)] (w.drewN j) (RetV (.bool (finB .f64 v)) w) := by
  go_enter Try.func146, Try.ntmps146
  go_wp2_with (first | (go_at_call 175; refine (c_IsNaN _ _ _ _).mono ?_; rintro _ _ ⟨_, rfl, rfl⟩) | (go_at_call 176; refine (c_IsInf0 _ _ _ _ hv).mono ?_; rintro _ _ ⟨_, rfl, rfl⟩))
  all_goals
    go_ret
    refine ⟨_, ?_, rfl⟩
    rw [← abs_gt_max]
    simp [*]
/-! ### iIsFinite -/
theorem c_iIsFinite (v n : Nat) (w : World) (j : Nat) : Calls Try.prog 73 #[.float .f32 (pick .f32 v n)] (w.drewN j) (RetV (.bool (finB .f32 v)) w) := by
  go_enter Try.func73, Try.ntmps73
  go_wp2_with (first | (refine wpList_cvU rfl 31 38 _ rfl (Option.isSome_iff_exists.2 ⟨_, Try.underlying31⟩) Try.underlying38 _ rfl _ ?_; intro _ _) | (go_at_call 146; refine (c_isFinite64 _ _ _ _ (cvU_lt _)).mono ?_; rintro _ _ ⟨_, rfl, rfl⟩))
  go_ret
  rw [← finB_cvU]
  exact ⟨_, rfl, rfl⟩
/-! ### areFinite -/
theorem c_areFinite (a : Option Addr) (len cap : Nat) (zs : List Nat) (w : World) (j0 : Nat) (hr : IsRowF .f32 w a len cap zs) : Calls Try.prog 91 #[.slice a len cap] (w.drewN j0) (RetV (.bool (finL zs)) w) := by
  obtain ⟨h1, h2, h3, h4, h5⟩ := hr
  unfold maxLen at h3
  have H1 := Lib.hid h1
  clear h1
  go_enter Try.func91, Try.ntmps91
  go_wp2
  go_loopw [4, 7] (fun _ i wr => ∃ k m : Nat, k ≤ len ∧ i = .int .i64 k ∧ wr = w.drewN m ∧ finL (zs.take k) = true) (fun _ i _ => len - (intOf i).toNat)
  case atStart => exact ⟨0, j0, Nat.zero_le _, rfl, rfl, rfl⟩
  case round =>
    obtain ⟨k, m, hk, rfl, rfl, hfin⟩ := hrel
    have HFin := Lib.hid hfin
    clear hfin
    by_cases hlt : k < len
    · rcases h5 with h5 | ⟨b, off, rfl, hbl, hc⟩
      · omega
      have hcell : w.cell? ⟨b, off + k, none⟩ = some (.float .f32 (fat zs k)) := hc k hlt
      obtain ⟨n, hn⟩ := pick0 .f32 (fat zs k) (lt_of_wf (h4 _ (by unfold fat; rw [List.getD, List.getElem?_eq_getElem (by have := H1.out; omega)]; exact List.getElem_mem _)))
      rw [hn] at hcell
      have HS := Lib.hid (finL_snoc zs k (by have := H1.out; omega))
      cases hf : finB .f32 (fat zs k)
      · have HO := Lib.hid (finL_of zs k (by have := H1.out; omega) hf)
        clear hc h4 hn
        go_wp2_with ((go_at_call 73; refine (c_iIsFinite _ _ _ _).mono ?_; rintro _ _ ⟨_, rfl, rfl⟩))
        go_ret
        exact ⟨_, by rw [HO.out]; rfl, rfl⟩
      · have HF := Lib.hid hf
        clear hc h4 hn
        go_wp2_with ((go_at_call 73; refine (c_iIsFinite _ _ _ _).mono ?_; rintro _ _ ⟨_, rfl, rfl⟩))
        go_roundw
        case rel => exact ⟨k + 1, _, by omega, by go_num, rfl, by rw [HS.out, HFin.out, HF.out]; rfl⟩
        case measure => simp [intOf]; omega
    · have e : zs.take k = zs := List.take_of_length_le (by have := H1.out; omega)
      have HE := Lib.hid e
      clear h5 h4 e
      go_wp2
      go_ret
      exact ⟨_, by have h := HFin.out; rw [HE.out] at h; rw [h]; rfl, rfl⟩
/-! ### areRising -/
theorem c_areRising (zs : List Nat) (a : Option Addr) (c : Nat) (w : World) (j0 : Nat) (hr : IsRowF .f32 w a zs.length c zs) : Calls Try.prog 136 #[.slice a zs.length c] (w.drewN j0) (RetV (.bool (riseK zs zs.length && finL zs)) w) := by
  have mA : zs.length ≤ maxLen := Nat.le_trans hr.2.1 hr.2.2.1
  unfold maxLen at mA
  have RA := Lib.hid hr
  clear hr
  go_enter Try.func136, Try.ntmps136
  go_wp2_with fail
  go_loopw [3, 4, 7] (fun _ _ i wr => ∃ k m : Nat, k ≤ zs.length ∧ i = .int .i64 k ∧ wr = w.drewN m ∧ riseK zs k = true) (fun _ _ i _ => zs.length - (intOf i).toNat)
  case atStart => exact ⟨0, _, by omega, rfl, rfl, rfl⟩
  case round =>
    obtain ⟨k, m, hk, rfl, rfl, hR⟩ := hrel
    have HR := Lib.hid hR
    clear hR
    by_cases hlt : k < zs.length
    · obtain ⟨bA, oA, nA, rfl, hbA, eA⟩ := RA.out.at hlt
      clear hbA
      cases k with
      | zero =>
        rw [Nat.add_zero] at eA
        go_wp2_with fail
        go_roundw
        case rel => exact ⟨1, _, by omega, by go_num, rfl, rfl⟩
        case measure => simp [intOf]; omega
      | succ k =>
        obtain ⟨bB, oB, nB, hab, hbB, eB⟩ := RA.out.at (k := k) (by omega)
        cases hab
        clear hbB
        cases hle : leB (fat zs (k + 1)) (fat zs k)
        all_goals
          have HL := Lib.hid hle
          unfold leB at hle
          go_wp2_with fail
        · go_roundw
          case rel => exact ⟨k + 2, _, by omega, by go_num, rfl, by show (riseK zs (k + 1) && !leB (fat zs (k + 1)) (fat zs k)) = true; rw [HR.out, HL.out]; rfl⟩
          case measure => simp [intOf]; omega
        · go_ret
          exact ⟨_, by rw [riseK_false (k := k + 2) (show (riseK zs (k + 1) && !leB (fat zs (k + 1)) (fat zs k)) = false by rw [HL.out, Bool.not_true, Bool.and_false]) zs.length (by omega)]; rfl, rfl⟩
    · obtain rfl : k = zs.length := by omega
      go_wp2_with ((go_at_call 91; refine (c_areFinite a zs.length c zs w _ RA.out).mono ?_; rintro _ _ ⟨_, rfl, rfl⟩))
      go_ret
      exact ⟨_, by rw [HR.out]; rfl, rfl⟩
/-! ### iCurve -/
theorem c_iValidCurve (zx zy : List Nat) (ax : Option Addr) (cx : Nat) (ay : Option Addr) (cy : Nat) (w : World) (hx : IsRowF .f32 w ax zx.length cx zx) (hy : IsRowF .f32 w ay zy.length cy zy) : Calls Try.prog 58 #[.agg #[.slice ax zx.length cx, .slice ay zy.length cy]] w (RetB (.bool (curB zx zy)) w) := by
  have mA : zx.length ≤ maxLen := Nat.le_trans hx.2.1 hx.2.2.1
  have mB : zy.length ≤ maxLen := Nat.le_trans hy.2.1 hy.2.2.1
  unfold maxLen at mA mB
  obtain ⟨w0, hw0⟩ : ∃ w0, w0 = w.alloc (Obj.cells #[.slice ax zx.length cx, .slice ay zy.length cy] 75) := ⟨_, rfl⟩
  have V0 : Var w0 w.heap.size #[.slice ax zx.length cx, .slice ay zy.length cy] := hw0 ▸ Var.new _ _ _
  have B0 : Below w.heap.size w w0 := hw0 ▸ (Below.refl _ _).alloc (Nat.le_refl _) _
  have RX := Lib.hid (hx.below B0)
  have RY := Lib.hid (hy.below B0)
  have HW := Lib.hid hw0.symm
  have BB := Lib.hid B0
  clear hx hy hw0 B0
  obtain ⟨c0, c1⟩ := var_two V0
  clear V0
  by_cases h1 : zx.length < 2
  · rw [curB_short h1]
    have g : ¬ (2 : Int) ≤ (zx.length : Int) := by omega
    go_enter Try.func58, Try.ntmps58
    go_wp2_with fail
    rw [HW.out]
    go_wp2_with fail
    go_ret
    exact ⟨by simp, BB.out⟩
  by_cases h2 : 16 < zx.length
  · rw [curB_long h2]
    have g1 : (2 : Int) ≤ (zx.length : Int) := by omega
    have g2 : ¬ (zx.length : Int) ≤ 16 := by omega
    go_enter Try.func58, Try.ntmps58
    go_wp2_with fail
    rw [HW.out]
    go_wp2_with fail
    go_ret
    exact ⟨by simp, BB.out⟩
  have g1 : (2 : Int) ≤ (zx.length : Int) := by omega
  have g2 : (zx.length : Int) ≤ 16 := by omega
  by_cases h3 : zy.length = zx.length
  · have hd : ((zy.length : Int) == (zx.length : Int)) = true := by rw [h3]; simp
    rw [curB_mid2 h1 h2 h3]
    have CA := Lib.hid (fun j => c_areRising zx ax cx w0 j RX.out)
    have CB := Lib.hid (fun j => c_areFinite ay zy.length cy zy w0 j RY.out)
    generalize (riseK zx zx.length && finL zx) = r at *
    generalize finL zy = q at *
    clear h1 h2 h3
    cases r
    all_goals
      go_enter Try.func58, Try.ntmps58
      go_wp2_with fail
      rw [HW.out]
      rw [← w0.drewN_zero]
      go_wp2_with (first | (go_at_call 136; refine (CA.out _).mono ?_; rintro _ _ ⟨_, rfl, rfl⟩) | (go_at_call 91; refine (CB.out _).mono ?_; rintro _ _ ⟨_, rfl, rfl⟩))
      go_ret
      exact ⟨by simp, below_drewN BB.out _⟩
  · have hd : ((zy.length : Int) == (zx.length : Int)) = false := by simp; omega
    rw [curB_len h3]
    go_enter Try.func58, Try.ntmps58
    go_wp2_with fail
    rw [HW.out]
    go_wp2_with fail
    go_ret
    exact ⟨by simp, BB.out⟩
/-! ### toneOf -/
theorem c_toneOf (N : Nat) (ax : Option Addr) (cx : Nat) (ay : Option Addr) (cy : Nat) (w : World) (hN3 : N ≤ 14) : Calls Try.prog 142 #[.agg #[.slice ax (N + 2) cx, .slice ay (N + 2) cy]] w (fun e w' => e = .returned (.func (.func 174) #[] #[.pointer (some ⟨w.heap.size, 0, none⟩), .pointer (some ⟨w.heap.size + 1, 0, none⟩)]) ∧ Below w.heap.size w w' ∧ Var w' w.heap.size #[.slice ax (N + 2) cx, .slice ay (N + 2) cy] ∧ Var w' (w.heap.size + 1) #[.int .i64 ((N : Int) + 1)]) := by
  have m1 : ((N : Int) + 2 - 1) = (N : Int) + 1 := by omega
  go_enter Try.func142, Try.ntmps142
  go_wp2_with fail
  go_ret
  exact ⟨rfl, ((Below.refl _ _).alloc (Nat.le_refl _) _).alloc (by simp) _, (Var.new _ _ _).alloc _, by first | exact Var.new' _ _ _ _ (by simp) | (rw [m1]; exact Var.new' _ _ _ _ (by simp))⟩
/-! ### between -/
theorem c_between (x nx y ny s ns : Nat) (w : World) (j : Nat) : Calls Try.prog 158 #[.float .f32 (pick .f32 x nx), .float .f32 (pick .f32 y ny), .float .f32 (pick .f32 s ns)] (w.drewN j) (RetF .f32 (fop .add .f32 x (fop .mul .f32 s (fop .sub .f32 y x))) w) := by
  go_enter Try.func158, Try.ntmps158
  go_wp2_with (first | (refine wpList_fop rfl _ _ _ _ _ rfl _ _ _ rfl rfl (by decide) _ ?_; intro _ _) | (refine upon_fop _ _ _ _ _ (by decide) ?_; intro _ _))
  go_ret
  exact ⟨_, _, rfl, rfl⟩
theorem c_between0 (x nx y ny s ns : Nat) (w : World) : Calls Try.prog 158 #[.float .f32 (pick .f32 x nx), .float .f32 (pick .f32 y ny), .float .f32 (pick .f32 s ns)] w (RetF .f32 (fop .add .f32 x (fop .mul .f32 s (fop .sub .f32 y x))) w) := by
  have h := c_between x nx y ny s ns w 0
  rwa [w.drewN_zero] at h
/-! ### tone1 -/
theorem c_tone1 (zx zy : List Nat) (N : Nat) (b0 b1 : Nat) (ax : Option Addr) (cx : Nat) (ay : Option Addr) (cy : Nat) (x n : Nat) (w : World) (hN : zx.length = N + 2) (hN2 : zy.length = N + 2) (hN3 : N ≤ 14) (hv : Var w b0 #[.slice ax (N + 2) cx, .slice ay (N + 2) cy]) (hl : w.cell? ⟨b1, 0, none⟩ = some (.int .i64 ((N : Int) + 1))) (hx : IsRowF .f32 w ax (N + 2) cx zx) (hy : IsRowF .f32 w ay (N + 2) cy zy) (hf : finL zx = true) (hxf : finB .f32 x = true) : Calls Try.prog 174 #[.float .f32 (pick .f32 x n), .pointer (some ⟨b0, 0, none⟩), .pointer (some ⟨b1, 0, none⟩)] (w.drewN 0) (RetF .f32 (toneV zx zy x) w) := by
  obtain ⟨p0, p1⟩ := var_two hv
  obtain ⟨bx, ox, nx, rfl, hbx, e0⟩ := hx.at (k := 0) (by omega)
  obtain ⟨bx', ox', nl, hab, hbx', e1⟩ := hx.at (k := N + 1) (by omega)
  cases hab
  obtain ⟨by0, oy, ny, rfl, hby, f0⟩ := hy.at (k := 0) (by omega)
  obtain ⟨by', oy', nm, hab, hby', f1⟩ := hy.at (k := N + 1) (by omega)
  cases hab
  clear hbx hbx' hby hby'
  rw [Nat.add_zero] at e0 f0
  have RX := Lib.hid hx
  have RY := Lib.hid hy
  have HF := Lib.hid hf
  have HXF := Lib.hid hxf
  have HN := Lib.hid hN
  have eL : zx.length - 1 = N + 1 := by omega
  unfold toneV
  rw [eL]
  clear eL hN hN2 hv hx hy hf hxf
  cases c0 : leB x (fat zx 0)
  case true =>
    unfold leB at c0
    rw [if_pos rfl]
    go_enter Try.func174, Try.ntmps174
    go_wp2_with fail
    go_ret
    exact ⟨_, _, rfl, rfl⟩
  rw [if_neg (by decide)]
  cases c1 : geB x (fat zx (N + 1))
  case true =>
    unfold leB at c0
    unfold geB at c1
    rw [if_pos rfl]
    go_enter Try.func174, Try.ntmps174
    go_wp2_with fail
    go_ret
    exact ⟨_, _, rfl, rfl⟩
  rw [if_neg (by decide)]
  have HST := Lib.hid (notge_stops HXF.out (fin_at' HF.out (show N + 1 < zx.length by rw [HN.out]; omega)) c1)
  rw [HN.out]
  obtain ⟨T, hT⟩ : ∃ T, T = tnI zx x (N + 2) 1 := ⟨_, rfl⟩
  rw [← hT]
  have HT := Lib.hid hT
  clear hT
  unfold leB at c0
  unfold geB at c1
  go_enter Try.func174, Try.ntmps174
  go_wp2_with fail
  clear c0 c1 e0 e1 f0 f1
  go_loopw [5] (fun i wr => ∃ j m : Nat, j ≤ N ∧ i = .int .i64 ((j + 1 : Nat) : Int) ∧ wr = w.drewN m ∧ tnI zx x (N + 2 - j) (j + 1) = T) (fun i _ => N + 2 - (intOf i).toNat)
  case atStart => exact ⟨0, _, by omega, rfl, rfl, by rw [HT.out]; rfl⟩
  case round =>
    obtain ⟨j, m, hj, rfl, rfl, hI⟩ := hrel
    have HI := Lib.hid hI
    clear hI
    obtain ⟨bA, oA, nA, hab, hbA, eA⟩ := RX.out.at (k := j + 1) (by omega)
    cases hab
    clear hbA
    have EF := Lib.hid (show N + 2 - j = (N + 1 - j) + 1 by omega)
    cases hg : ltB (fat zx (j + 1)) x
    · have hk : T = j + 1 := by rw [← HI.out, EF.out, tnI_no hg]
      have E := Lib.hid (show tnQ zx zy x T = fop .add .f32 (fat zy j) (fop .mul .f32 (fop .quo .f32 (fop .sub .f32 x (fat zx j)) (fop .sub .f32 (fat zx (j + 1)) (fat zx j))) (fop .sub .f32 (fat zy (j + 1)) (fat zy j))) by rw [hk]; rfl)
      clear hk
      unfold ltB at hg
      go_wp2_with fail
      clear hg
      obtain ⟨bB, oB, nB, hab, hbB, eB⟩ := RX.out.at (k := j) (by omega)
      cases hab
      obtain ⟨bC, oC, nC, hab, hbC, eC⟩ := RY.out.at (k := j + 1) (by omega)
      cases hab
      obtain ⟨bD, oD, nD, hab, hbD, eD⟩ := RY.out.at (k := j) (by omega)
      cases hab
      clear hbB hbC hbD
      have g0 : (0 : Int) ≤ (j : Int) := by omega
      have g1 : (j : Int) < (N : Int) + 2 := by omega
      have g2 : (j : Int) + 1 < (N : Int) + 2 := by omega
      have g3 : j < N + 2 := by omega
      have g4 : j + 1 < N + 2 := by omega
      have mw : IntKind.i64.wrap (j : Int) = (j : Int) := IntWalk.i64_in _ (by omega)
      refine wp_region_facts 33 (fun a b => ∃ n, b = a.drewN n) (fun a => ⟨0, (World.drewN_zero a).symm⟩) (fun a b c h h' => by obtain ⟨n, rfl⟩ := h; obtain ⟨m, rfl⟩ := h'; exact ⟨_, World.drewN_drewN _ _ _⟩) ⟨1, rfl⟩ (by kernel_rfl) (by kernel_rfl) (by kernel_rfl) (by kernel_rfl) ?_
      simp only [List.take_succ_cons, List.take_zero, List.drop_succ_cons, List.drop_zero]
      (with_reducible apply wpF_val); (focus (intro vs w1 hE hk; obtain ⟨q, rfl⟩ := hE; go_simp; exact ⟨⟨0, (World.drewN_zero _).symm⟩, rfl⟩)); (simp only [Act.put, List.setIfInBounds_toArray, List.set_cons_zero, List.set_cons_succ, List.cons_append, List.nil_append])
      (with_reducible apply wpF_val); (focus (intro vs w1 hE hk; obtain ⟨q, rfl⟩ := hE; go_simp; exact ⟨⟨0, (World.drewN_zero _).symm⟩, rfl⟩)); (simp only [Act.put, List.setIfInBounds_toArray, List.set_cons_zero, List.set_cons_succ, List.cons_append, List.nil_append])
      (with_reducible apply wpF_val); (focus (intro vs w1 hE hk; obtain ⟨q, rfl⟩ := hE; go_simp; exact ⟨⟨0, (World.drewN_zero _).symm⟩, rfl⟩)); (simp only [Act.put, List.setIfInBounds_toArray, List.set_cons_zero, List.set_cons_succ, List.cons_append, List.nil_append])
      (with_reducible apply wpF_val); (focus (intro vs w1 hE hk; obtain ⟨q, rfl⟩ := hE; go_simp; exact ⟨⟨0, (World.drewN_zero _).symm⟩, rfl⟩)); (simp only [Act.put, List.setIfInBounds_toArray, List.set_cons_zero, List.set_cons_succ, List.cons_append, List.nil_append])
      (with_reducible apply wpF_val); (focus (intro vs w1 hE hk; obtain ⟨q, rfl⟩ := hE; go_simp; exact ⟨⟨0, (World.drewN_zero _).symm⟩, rfl⟩)); (simp only [Act.put, List.setIfInBounds_toArray, List.set_cons_zero, List.set_cons_succ, List.cons_append, List.nil_append])
      (with_reducible apply wpF_val); (focus (intro vs w1 hE hk; obtain ⟨q, rfl⟩ := hE; go_simp; exact ⟨⟨0, (World.drewN_zero _).symm⟩, rfl⟩)); (simp only [Act.put, List.setIfInBounds_toArray, List.set_cons_zero, List.set_cons_succ, List.cons_append, List.nil_append])
      (with_reducible apply wpF_val); (focus (intro vs w1 hE hk; obtain ⟨q, rfl⟩ := hE; go_simp; exact ⟨⟨0, (World.drewN_zero _).symm⟩, rfl⟩)); (simp only [Act.put, List.setIfInBounds_toArray, List.set_cons_zero, List.set_cons_succ, List.cons_append, List.nil_append])
      (with_reducible apply wpF_val); (focus (intro vs w1 hE hk; obtain ⟨q, rfl⟩ := hE; go_simp; exact ⟨⟨0, (World.drewN_zero _).symm⟩, rfl⟩)); (simp only [Act.put, List.setIfInBounds_toArray, List.set_cons_zero, List.set_cons_succ, List.cons_append, List.nil_append])
      (with_reducible apply wpF_val); (focus (intro vs w1 hE hk; obtain ⟨q, rfl⟩ := hE; go_simp; exact ⟨⟨0, (World.drewN_zero _).symm⟩, rfl⟩)); (simp only [Act.put, List.setIfInBounds_toArray, List.set_cons_zero, List.set_cons_succ, List.cons_append, List.nil_append])
      (with_reducible apply wpF_val); (focus (intro vs w1 hE hk; obtain ⟨q, rfl⟩ := hE; go_simp; exact ⟨⟨0, (World.drewN_zero _).symm⟩, rfl⟩)); (simp only [Act.put, List.setIfInBounds_toArray, List.set_cons_zero, List.set_cons_succ, List.cons_append, List.nil_append])
      (with_reducible apply wpF_val); (focus (intro vs w1 hE hk; obtain ⟨q, rfl⟩ := hE; go_simp; exact ⟨⟨0, (World.drewN_zero _).symm⟩, rfl⟩)); (simp only [Act.put, List.setIfInBounds_toArray, List.set_cons_zero, List.set_cons_succ, List.cons_append, List.nil_append])
      (with_reducible apply wpF_val); (focus (intro vs w1 hE hk; obtain ⟨q, rfl⟩ := hE; go_simp; exact ⟨⟨0, (World.drewN_zero _).symm⟩, rfl⟩)); (simp only [Act.put, List.setIfInBounds_toArray, List.set_cons_zero, List.set_cons_succ, List.cons_append, List.nil_append])
      (with_reducible apply wpF_val); (focus (intro vs w1 hE hk; obtain ⟨q, rfl⟩ := hE; go_simp; exact ⟨⟨0, (World.drewN_zero _).symm⟩, rfl⟩)); (simp only [Act.put, List.setIfInBounds_toArray, List.set_cons_zero, List.set_cons_succ, List.cons_append, List.nil_append])
      (with_reducible apply wpF_val); (focus (intro vs w1 hE hk; obtain ⟨q, rfl⟩ := hE; go_simp; exact ⟨⟨0, (World.drewN_zero _).symm⟩, rfl⟩)); (simp only [Act.put, List.setIfInBounds_toArray, List.set_cons_zero, List.set_cons_succ, List.cons_append, List.nil_append])
      (with_reducible apply wpF_val); (focus (intro vs w1 hE hk; obtain ⟨q, rfl⟩ := hE; go_simp; exact ⟨⟨0, (World.drewN_zero _).symm⟩, rfl⟩)); (simp only [Act.put, List.setIfInBounds_toArray, List.set_cons_zero, List.set_cons_succ, List.cons_append, List.nil_append])
      (with_reducible apply wpF_val); (focus (intro vs w1 hE hk; obtain ⟨q, rfl⟩ := hE; go_simp; exact ⟨⟨0, (World.drewN_zero _).symm⟩, rfl⟩)); (simp only [Act.put, List.setIfInBounds_toArray, List.set_cons_zero, List.set_cons_succ, List.cons_append, List.nil_append])
      (with_reducible apply wpF_val); (focus (intro vs w1 hE hk; obtain ⟨q, rfl⟩ := hE; go_simp; exact ⟨⟨0, (World.drewN_zero _).symm⟩, rfl⟩)); (simp only [Act.put, List.setIfInBounds_toArray, List.set_cons_zero, List.set_cons_succ, List.cons_append, List.nil_append])
      (with_reducible apply wpF_val); (focus (intro vs w1 hE hk; obtain ⟨q, rfl⟩ := hE; go_simp; exact ⟨⟨0, (World.drewN_zero _).symm⟩, rfl⟩)); (simp only [Act.put, List.setIfInBounds_toArray, List.set_cons_zero, List.set_cons_succ, List.cons_append, List.nil_append])
      refine wpF_fact (fun u _ => ∃ m, u = .float .f32 (pick .f32 (fop .sub .f32 x (fat zx j)) m)) (fun _ _ _ h _ => h) (fun vs w1 hE hk => ?_) ?_; (focus (rw [if_pos (by rfl)]; refine uponW_fop _ _ _ _ _ rfl .f32 _ _ rfl rfl (by decide) (fun n' m' => ⟨⟨_, rfl⟩, n', by first | rfl | simp only [fop_pick_l, fop_pick_r]⟩))); (simp only [Act.put, List.setIfInBounds_toArray, List.set_cons_zero, List.set_cons_succ, List.cons_append, List.nil_append])
      (with_reducible apply wpF_val); (focus (intro vs w1 hE hk; obtain ⟨q, rfl⟩ := hE; go_simp; exact ⟨⟨0, (World.drewN_zero _).symm⟩, rfl⟩)); (simp only [Act.put, List.setIfInBounds_toArray, List.set_cons_zero, List.set_cons_succ, List.cons_append, List.nil_append])
      (with_reducible apply wpF_val); (focus (intro vs w1 hE hk; obtain ⟨q, rfl⟩ := hE; go_simp; exact ⟨⟨0, (World.drewN_zero _).symm⟩, rfl⟩)); (simp only [Act.put, List.setIfInBounds_toArray, List.set_cons_zero, List.set_cons_succ, List.cons_append, List.nil_append])
      (with_reducible apply wpF_val); (focus (intro vs w1 hE hk; obtain ⟨q, rfl⟩ := hE; go_simp; exact ⟨⟨0, (World.drewN_zero _).symm⟩, rfl⟩)); (simp only [Act.put, List.setIfInBounds_toArray, List.set_cons_zero, List.set_cons_succ, List.cons_append, List.nil_append])
      (with_reducible apply wpF_val); (focus (intro vs w1 hE hk; obtain ⟨q, rfl⟩ := hE; go_simp; exact ⟨⟨0, (World.drewN_zero _).symm⟩, rfl⟩)); (simp only [Act.put, List.setIfInBounds_toArray, List.set_cons_zero, List.set_cons_succ, List.cons_append, List.nil_append])
      (with_reducible apply wpF_val); (focus (intro vs w1 hE hk; obtain ⟨q, rfl⟩ := hE; go_simp; exact ⟨⟨0, (World.drewN_zero _).symm⟩, rfl⟩)); (simp only [Act.put, List.setIfInBounds_toArray, List.set_cons_zero, List.set_cons_succ, List.cons_append, List.nil_append])
      (with_reducible apply wpF_val); (focus (intro vs w1 hE hk; obtain ⟨q, rfl⟩ := hE; go_simp; exact ⟨⟨0, (World.drewN_zero _).symm⟩, rfl⟩)); (simp only [Act.put, List.setIfInBounds_toArray, List.set_cons_zero, List.set_cons_succ, List.cons_append, List.nil_append])
      (with_reducible apply wpF_val); (focus (intro vs w1 hE hk; obtain ⟨q, rfl⟩ := hE; go_simp; exact ⟨⟨0, (World.drewN_zero _).symm⟩, rfl⟩)); (simp only [Act.put, List.setIfInBounds_toArray, List.set_cons_zero, List.set_cons_succ, List.cons_append, List.nil_append])
      (with_reducible apply wpF_val); (focus (intro vs w1 hE hk; obtain ⟨q, rfl⟩ := hE; go_simp; exact ⟨⟨0, (World.drewN_zero _).symm⟩, rfl⟩)); (simp only [Act.put, List.setIfInBounds_toArray, List.set_cons_zero, List.set_cons_succ, List.cons_append, List.nil_append])
      (with_reducible apply wpF_val); (focus (intro vs w1 hE hk; obtain ⟨q, rfl⟩ := hE; go_simp; exact ⟨⟨0, (World.drewN_zero _).symm⟩, rfl⟩)); (simp only [Act.put, List.setIfInBounds_toArray, List.set_cons_zero, List.set_cons_succ, List.cons_append, List.nil_append])
      (with_reducible apply wpF_val); (focus (intro vs w1 hE hk; obtain ⟨q, rfl⟩ := hE; go_simp; exact ⟨⟨0, (World.drewN_zero _).symm⟩, rfl⟩)); (simp only [Act.put, List.setIfInBounds_toArray, List.set_cons_zero, List.set_cons_succ, List.cons_append, List.nil_append])
      (with_reducible apply wpF_val); (focus (intro vs w1 hE hk; obtain ⟨q, rfl⟩ := hE; go_simp; exact ⟨⟨0, (World.drewN_zero _).symm⟩, rfl⟩)); (simp only [Act.put, List.setIfInBounds_toArray, List.set_cons_zero, List.set_cons_succ, List.cons_append, List.nil_append])
      refine wpF_fact (fun u _ => ∃ m, u = .float .f32 (pick .f32 (fop .sub .f32 (fat zx (j + 1)) (fat zx j)) m)) (fun _ _ _ h _ => h) (fun vs w1 hE hk => ?_) ?_; (focus (rw [if_pos (by rfl)]; refine uponW_fop _ _ _ _ _ rfl .f32 _ _ rfl rfl (by decide) (fun n' m' => ⟨⟨_, rfl⟩, n', by first | rfl | simp only [fop_pick_l, fop_pick_r]⟩))); (simp only [Act.put, List.setIfInBounds_toArray, List.set_cons_zero, List.set_cons_succ, List.cons_append, List.nil_append])
      refine wpF_fact (fun u _ => ∃ m, u = .float .f32 (pick .f32 (fop .quo .f32 (fop .sub .f32 x (fat zx j)) (fop .sub .f32 (fat zx (j + 1)) (fat zx j))) m)) (fun _ _ _ h _ => h) (fun vs w1 hE hk => ?_) ?_; (focus (obtain ⟨n1, hn1⟩ := hk 18 (by kernel_rfl); simp only [hn1]; obtain ⟨n2, hn2⟩ := hk 30 (by kernel_rfl); simp only [hn2]; rw [if_pos (by rfl)]; refine uponW_fop _ _ _ _ _ rfl .f32 _ _ rfl rfl (by decide) (fun n' m' => ⟨⟨_, rfl⟩, n', by first | rfl | simp only [fop_pick_l, fop_pick_r]⟩))); (simp only [Act.put, List.setIfInBounds_toArray, List.set_cons_zero, List.set_cons_succ, List.cons_append, List.nil_append])
      refine wpF_fact (fun u _ => ∃ m, u = .float .f32 (pick .f32 (fop .add .f32 (fat zy j) (fop .mul .f32 (fop .quo .f32 (fop .sub .f32 x (fat zx j)) (fop .sub .f32 (fat zx (j + 1)) (fat zx j))) (fop .sub .f32 (fat zy (j + 1)) (fat zy j)))) m)) (fun _ _ _ h _ => h) (fun vs w1 hE hk => ?_) ?_; (focus (obtain ⟨n1, hn1⟩ := hk 31 (by kernel_rfl); simp only [hn1]; go_simp; refine (c_between0 _ _ _ _ _ _ _).mono ?_; rintro _ _ ⟨m1, m2, rfl, rfl⟩; exact ⟨_, rfl, ⟨_, rfl⟩, m1, rfl⟩)); (simp only [Act.put, List.setIfInBounds_toArray, List.set_cons_zero, List.set_cons_succ, List.cons_append, List.nil_append])
      refine wpF_nil (fun vs w1 hE hk => ?_)
      obtain ⟨m5, h5⟩ := hk 32
      obtain ⟨q, rfl⟩ := hE
      simp only [h5]
      clear hk h5
      clear g0 g1 g2 g3 g4 mw eA eB eC eD
      go_wp2_with fail
      go_ret
      rw [E.out]
      exact ⟨_, _, rfl, World.drewN_drewN _ _ _⟩
    · have HK := Lib.hid (tnI_yes (f := N + 1 - j) hg)
      have hjN : j + 1 ≤ N := by
        by_cases h : j = N
        · subst h; rw [HST.out] at hg; cases hg
        · omega
      unfold ltB at hg
      go_wp2_with fail
      go_roundw
      case rel => exact ⟨j + 1, _, hjN, by go_num, rfl, by rw [show N + 2 - (j + 1) = N + 1 - j by omega, ← HK.out, ← EF.out]; exact HI.out⟩
      case measure => simp [intOf]; omega
/-! ### ifFinite -/
theorem c_ifFinite (v n : Nat) (w : World) (j : Nat) : Calls Try.prog 102 #[.float .f32 (pick .f32 v n)] (w.drewN j) (fun e w' => ∃ k m, e = .returned (.tuple #[.float .f32 (pick .f32 (numR v).1 k), .bool (numR v).2]) ∧ w' = w.drewN m) := by
  cases h : finB .f32 v
  · have e : numR v = (0, false) := by unfold numR; rw [if_neg (by rw [h]; decide)]
    rw [e]
    go_enter Try.func102, Try.ntmps102
    go_wp2_with (first | (go_at_call 73; refine (c_iIsFinite _ _ _ _).mono ?_; rintro _ _ ⟨_, rfl, rfl⟩))
    go_ret2
    exact ⟨0, _, by simp only [pick00]; rfl, rfl⟩
  · have e : numR v = (v, true) := by unfold numR; rw [if_pos h]
    rw [e]
    go_enter Try.func102, Try.ntmps102
    go_wp2_with (first | (go_at_call 73; refine (c_iIsFinite _ _ _ _).mono ?_; rintro _ _ ⟨_, rfl, rfl⟩))
    go_ret2
    exact ⟨n, _, rfl, rfl⟩
/-! ### iToneAt -/
theorem c_iToneAtN (zx zy : List Nat) (N : Nat) (ax : Option Addr) (cx : Nat) (ay : Option Addr) (cy : Nat) (x n : Nat) (w : World) (hN : zx.length = N + 2) (hN2 : zy.length = N + 2) (hN3 : N ≤ 14) (hx : IsRowF .f32 w ax (N + 2) cx zx) (hy : IsRowF .f32 w ay (N + 2) cy zy) (hB : curB zx zy = true) (hF : finB .f32 x = true) (hf : finL zx = true) : Calls Try.prog 63 #[.agg #[.slice ax (N + 2) cx, .slice ay (N + 2) cy], .float .f32 (pick .f32 x n)] w (RetF1 (numR (toneV zx zy x)) w) := by
  obtain ⟨w0, hw0⟩ : ∃ w0, w0 = w.alloc (Obj.cells #[.slice ax (N + 2) cx, .slice ay (N + 2) cy] 75) := ⟨_, rfl⟩
  have V0 : Var w0 w.heap.size #[.slice ax (N + 2) cx, .slice ay (N + 2) cy] := hw0 ▸ Var.new _ _ _
  have B0 : Below w.heap.size w w0 := hw0 ▸ (Below.refl _ _).alloc (Nat.le_refl _) _
  have R1 := Lib.hid (hx.below B0)
  have R2 := Lib.hid (hy.below B0)
  have CV := Lib.hid (by have h := c_iValidCurve zx zy ax cx ay cy w0 (by rw [hN]; exact R1.out) (by rw [hN2]; exact R2.out); rw [hB, hN, hN2] at h; exact h : Calls Try.prog 58 #[.agg #[.slice ax (N + 2) cx, .slice ay (N + 2) cy]] w0 (RetB (.bool true) w0))
  have HW := Lib.hid hw0.symm
  have BB := Lib.hid B0
  have VV := Lib.hid V0
  have HN := Lib.hid hN
  have HN2 := Lib.hid hN2
  have HF := Lib.hid hF
  have Hf := Lib.hid hf
  have S0 : w.heap.size < w0.heap.size := V0.lt
  obtain ⟨c0, c1⟩ := var_two V0
  clear hw0 B0 V0 hx hy hN hN2 hB hF hf
  go_enter Try.func63, Try.ntmps63
  go_wp2_with fail
  rw [HW.out]
  go_wp2_with fail
  refine CV.out.mono ?_
  rintro _ w1 ⟨rfl, b⟩
  have V1 := VV.out.keep b
  have R1 := Lib.hid (R1.out.below b)
  have R2 := Lib.hid (R2.out.below b)
  have B1 := Lib.hid (BB.out.trans (b.mono (by omega)))
  have S1 : w.heap.size < w1.heap.size := V1.lt
  have CF := Lib.hid (fun j => (by have h := c_iIsFinite x n w1 j; rwa [HF.out] at h : Calls Try.prog 73 #[.float .f32 (pick .f32 x n)] (w1.drewN j) (RetV (.bool true) w1)))
  clear b c0 c1
  obtain ⟨c0, c1⟩ := var_two V1
  clear V1
  rw [← w1.drewN_zero]
  go_wp2_with ((go_at_call 73; refine (CF.out _).mono ?_; rintro _ _ ⟨_, rfl, rfl⟩))
  refine (c_toneOf N ax cx ay cy _ hN3).mono ?_
  rintro _ w2 ⟨rfl, b, VA, VB⟩
  have BX : Below w1.heap.size w1 w2 := (below_drewN (Below.refl _ _) _).trans (b.mono (by simp))
  have RA := R1.out.below BX
  have RB := R2.out.below BX
  have B2 := Lib.hid (B1.out.trans (BX.mono (by omega)))
  clear BX
  have hlast := VB.2 0 (by simp)
  have CT := Lib.hid (by have h := c_tone1 zx zy N _ _ ax cx ay cy x n w2 HN.out HN2.out hN3 VA hlast RA RB Hf.out HF.out; rw [World.drewN_zero] at h; exact h)
  clear b VA VB RA RB hlast c0 c1
  go_wp2_with fail
  refine CT.out.mono ?_
  rintro _ _ ⟨n1, m1, rfl, rfl⟩
  go_wp2_with ((go_at_call 102; refine (c_ifFinite _ _ _ _).mono ?_; rintro _ _ ⟨_, _, rfl, rfl⟩))
  go_ret2
  exact ⟨_, rfl, by first | exact below_drewN B2.out _ | exact below_drewN (below_drewN B2.out _) _⟩
theorem c_iToneAt (zx zy : List Nat) (ax : Option Addr) (cx : Nat) (ay : Option Addr) (cy : Nat) (x n : Nat) (w : World) (hx : IsRowF .f32 w ax zx.length cx zx) (hy : IsRowF .f32 w ay zy.length cy zy) : Calls Try.prog 63 #[.agg #[.slice ax zx.length cx, .slice ay zy.length cy], .float .f32 (pick .f32 x n)] w (RetF1 (toneR zx zy x) w) := by
  cases hB : curB zx zy && finB .f32 x
  case true =>
    simp only [Bool.and_eq_true] at hB
    obtain ⟨q1, q2, q3, q4⟩ := curB_facts hB.1
    obtain ⟨N, hN⟩ : ∃ N, zx.length = N + 2 := ⟨zx.length - 2, by omega⟩
    have hN2 : zy.length = N + 2 := by omega
    rw [toneR_yes hB.1 hB.2, hN, hN2]
    rw [hN] at hx
    rw [hN2] at hy
    exact c_iToneAtN zx zy N ax cx ay cy x n w hN hN2 (by omega) hx hy hB.1 hB.2 q4
  rw [toneR_no hB]
  obtain ⟨w0, hw0⟩ : ∃ w0, w0 = w.alloc (Obj.cells #[.slice ax zx.length cx, .slice ay zy.length cy] 75) := ⟨_, rfl⟩
  have V0 : Var w0 w.heap.size #[.slice ax zx.length cx, .slice ay zy.length cy] := hw0 ▸ Var.new _ _ _
  have B0 : Below w.heap.size w w0 := hw0 ▸ (Below.refl _ _).alloc (Nat.le_refl _) _
  have CV := Lib.hid (c_iValidCurve zx zy ax cx ay cy w0 (hx.below B0) (hy.below B0))
  have CF := Lib.hid (fun w1 j => c_iIsFinite x n w1 j)
  have HW := Lib.hid hw0.symm
  have BB := Lib.hid B0
  have S0 : w.heap.size < w0.heap.size := V0.lt
  obtain ⟨c0, c1⟩ := var_two V0
  clear hw0 B0 V0 hx hy
  generalize curB zx zy = r at *
  generalize finB .f32 x = q at *
  cases r <;> cases q <;> first | cases hB | skip
  all_goals
    try clear hB
    go_enter Try.func63, Try.ntmps63
    go_wp2_with fail
    rw [HW.out]
    go_wp2_with fail
    refine CV.out.mono ?_
    rintro _ w1 ⟨rfl, b⟩
    have B1 := Lib.hid (BB.out.trans (b.mono (by omega)))
    clear b
    rw [← w1.drewN_zero]
    go_wp2_with ((go_at_call 73; refine (CF.out _ _).mono ?_; rintro _ _ ⟨_, rfl, rfl⟩))
    go_ret2
    exact RetF1.no rfl (below_drewN B1.out _)

/-! ### l01Finite -/
theorem c_l01Finite (v n : Nat) (w : World) (j : Nat) : Calls Try.prog 139 #[.float .f32 (pick .f32 v n)] (w.drewN j) (RetV (.bool (finB .f32 v)) w) := by
  go_enter Try.func139, Try.ntmps139
  go_wp2_with (first | (refine wpList_fop rfl _ _ _ _ _ rfl _ _ _ rfl rfl (by decide) _ ?_; intro _ _) | (refine upon_fop _ _ _ _ _ (by decide) ?_; intro _ _))
  go_ret
  rw [← sub_self_zero]
  exact ⟨_, rfl, rfl⟩
/-! ### l02Finite -/
theorem c_l02Finite (a : Option Addr) (len cap : Nat) (zs : List Nat) (w : World) (j0 : Nat) (hr : IsRowF .f32 w a len cap zs) : Calls Try.prog 167 #[.slice a len cap] (w.drewN j0) (RetV (.bool (finL zs)) w) := by
  obtain ⟨h1, h2, h3, h4, h5⟩ := hr
  unfold maxLen at h3
  have H1 := Lib.hid h1
  clear h1
  go_enter Try.func167, Try.ntmps167
  go_wp2
  go_loopw [3] (fun i wr => ∃ k m : Nat, k ≤ len ∧ i = .int .i64 k ∧ wr = w.drewN m ∧ finL (zs.take k) = true) (fun i _ => len - (intOf i).toNat)
  case atStart => exact ⟨0, j0, Nat.zero_le _, rfl, rfl, rfl⟩
  case round =>
    obtain ⟨k, m, hk, rfl, rfl, hfin⟩ := hrel
    have HFin := Lib.hid hfin
    clear hfin
    by_cases hlt : k < len
    · rcases h5 with h5 | ⟨b, off, rfl, hbl, hc⟩
      · omega
      have hcell : w.cell? ⟨b, off + k, none⟩ = some (.float .f32 (fat zs k)) := hc k hlt
      obtain ⟨n, hn⟩ := pick0 .f32 (fat zs k) (lt_of_wf (h4 _ (by unfold fat; rw [List.getD, List.getElem?_eq_getElem (by have := H1.out; omega)]; exact List.getElem_mem _)))
      rw [hn] at hcell
      have HN := Lib.hid hn
      have HS := Lib.hid (finL_snoc zs k (by have := H1.out; omega))
      cases hf : finB .f32 (fat zs k)
      · have HO := Lib.hid (finL_of zs k (by have := H1.out; omega) hf)
        clear hc h4 hn
        go_wp2_with ((go_at_call 139; refine (c_l01Finite _ _ _ _).mono ?_; rintro _ _ ⟨_, rfl, rfl⟩))
        go_ret
        exact ⟨_, by rw [HO.out]; rfl, rfl⟩
      · have HF := Lib.hid hf
        clear hc h4 hn
        go_wp2_with ((go_at_call 139; refine (c_l01Finite _ _ _ _).mono ?_; rintro _ _ ⟨_, rfl, rfl⟩))
        go_roundw
        case rel => exact ⟨k + 1, _, by omega, by go_num, rfl, by rw [HS.out, HFin.out, HF.out]; rfl⟩
        case measure => simp [intOf]; omega
    · have e : zs.take k = zs := List.take_of_length_le (by have := H1.out; omega)
      have HE := Lib.hid e
      clear h5 h4 e
      go_wp2
      go_ret
      exact ⟨_, by have h := HFin.out; rw [HE.out] at h; rw [h]; rfl, rfl⟩
/-! ### sCurve -/
theorem row_same {w : World} {a : Option Addr} {len c : Nat} {z1 z2 : List Nat} (h1 : IsRowF .f32 w a len c z1) (h2 : IsRowF .f32 w a len c z2) : z1 = z2 := by
  obtain ⟨p1, _, _, _, q1⟩ := h1
  obtain ⟨p2, _, _, _, q2⟩ := h2
  refine fat_ext (by omega) (fun k hk => ?_)
  rcases q1 with q1 | ⟨b, off, rfl, _, c1⟩
  · omega
  rcases q2 with q2 | ⟨b', off', e, _, c2⟩
  · omega
  cases e
  have e1 := c1 k (by omega)
  have e2 := c2 k (by omega)
  rw [e1] at e2
  simpa using e2
theorem gt_notle {x y : Nat} (hx : finB .f32 x = true) (hy : finB .f32 y = true) : (FloatKind.f32.format.order x y == some .gt) = !leB x y := by
  unfold leB
  rw [o_gt (fin_notN hx) (fin_notN hy), o_le (fin_notN hx) (fin_notN hy), ← decide_not]
  exact decide_eq_decide.2 (by omega)
theorem fin_at {zs : List Nat} (h : finL zs = true) {k : Nat} (hk : k < zs.length) : finB .f32 (fat zs k) = true := by
  cases h2 : finB .f32 (fat zs k)
  · rw [finL_of zs k hk h2] at h; cases h
  · rfl
theorem c_l04Is (zx zy : List Nat) (x : Nat) (ax : Option Addr) (cx : Nat) (ay : Option Addr) (cy : Nat) (w : World) (hv : Var w x #[.slice ax zx.length cx, .slice ay zy.length cy]) (hx : IsRowF .f32 w ax zx.length cx zx) (hy : IsRowF .f32 w ay zy.length cy zy) : Calls Try.prog 135 #[.pointer (some ⟨x, 0, none⟩)] (w.drewN 0) (RetV (.bool (curB zx zy)) w) := by
  have mA : zx.length ≤ maxLen := Nat.le_trans hx.2.1 hx.2.2.1
  have mB : zy.length ≤ maxLen := Nat.le_trans hy.2.1 hy.2.2.1
  unfold maxLen at mA mB
  have RX := Lib.hid hx
  have RY := Lib.hid hy
  clear hx hy
  obtain ⟨c0, c1⟩ := var_two hv
  clear hv
  by_cases h1 : zx.length < 2
  · rw [curB_short h1]
    have g : (zx.length : Int) < 2 := by omega
    go_enter Try.func135, Try.ntmps135
    go_wp2_with fail
    refine wp_region_N (fun _ _ _ => True) (by kernel_rfl) (by kernel_rfl) ?_; (repeat (first | ((with_reducible show wpN _ _ _ _ _ (Oper.mk _ (Op.binOp _ _ _ _ _) _ _ _ none :: _) _); refine wpN_fop rfl _ _ _ _ _ rfl _ _ _ rfl rfl (by decide) ?_; intro _) | ((with_reducible show wpN _ _ _ _ _ (Oper.mk _ (Op.convert _ _ _) _ _ _ none :: _) _); refine wpN_cvU rfl 31 38 _ rfl (Option.isSome_iff_exists.2 ⟨_, Try.underlying31⟩) Try.underlying38 _ rfl ?_; intro _) | ((with_reducible show wpN _ _ _ _ _ (Oper.mk _ _ _ _ _ (some _) :: _) _); (with_reducible refine wpN_off ?_ ?_); focus rfl; (simp only [Act.put, List.setIfInBounds_toArray, List.set_cons_zero, List.set_cons_succ])) | ((with_reducible show wpN _ _ _ _ _ (Oper.mk _ _ _ _ _ (some _) :: _) _); ((with_reducible refine wpN_on ?_ (fun K hK => ?_)); (focus rfl); intro _; go_simp; first | (refine uponN_value (hK _ ?_)) | (fail; refine hK _ ?_)); clear hK K) | (((with_reducible refine wpN_plain rfl (fun K hK => ?_)); intro _; go_simp; first | (refine uponN_value (hK _ ?_)) | (fail; refine hK _ ?_)); clear hK K) | ((with_reducible refine wpN_step (fun K hK => ?_)); go_simp; first | (refine hK _ ?_) | (intro _; first | (refine uponN_value (hK _ ?_)) | (fail; refine hK _ ?_)); clear hK K))); refine wpN_nil ?_; intro _
    go_wp2_with fail
    go_ret
    exact ⟨_, rfl, rfl⟩
  have g1 : ¬ (zx.length : Int) < 2 := by omega
  by_cases h2 : 16 < zx.length
  · rw [curB_long h2]
    have g2 : (16 : Int) < (zx.length : Int) := by omega
    go_enter Try.func135, Try.ntmps135
    go_wp2_with fail
    refine wp_region_N (fun _ _ _ => True) (by kernel_rfl) (by kernel_rfl) ?_; (repeat (first | ((with_reducible show wpN _ _ _ _ _ (Oper.mk _ (Op.binOp _ _ _ _ _) _ _ _ none :: _) _); refine wpN_fop rfl _ _ _ _ _ rfl _ _ _ rfl rfl (by decide) ?_; intro _) | ((with_reducible show wpN _ _ _ _ _ (Oper.mk _ (Op.convert _ _ _) _ _ _ none :: _) _); refine wpN_cvU rfl 31 38 _ rfl (Option.isSome_iff_exists.2 ⟨_, Try.underlying31⟩) Try.underlying38 _ rfl ?_; intro _) | ((with_reducible show wpN _ _ _ _ _ (Oper.mk _ _ _ _ _ (some _) :: _) _); (with_reducible refine wpN_off ?_ ?_); focus rfl; (simp only [Act.put, List.setIfInBounds_toArray, List.set_cons_zero, List.set_cons_succ])) | ((with_reducible show wpN _ _ _ _ _ (Oper.mk _ _ _ _ _ (some _) :: _) _); ((with_reducible refine wpN_on ?_ (fun K hK => ?_)); (focus rfl); intro _; go_simp; first | (refine uponN_value (hK _ ?_)) | (fail; refine hK _ ?_)); clear hK K) | (((with_reducible refine wpN_plain rfl (fun K hK => ?_)); intro _; go_simp; first | (refine uponN_value (hK _ ?_)) | (fail; refine hK _ ?_)); clear hK K) | ((with_reducible refine wpN_step (fun K hK => ?_)); go_simp; first | (refine hK _ ?_) | (intro _; first | (refine uponN_value (hK _ ?_)) | (fail; refine hK _ ?_)); clear hK K))); refine wpN_nil ?_; intro _
    go_wp2_with fail
    go_ret
    exact ⟨_, rfl, rfl⟩
  have g2 : ¬ (16 : Int) < (zx.length : Int) := by omega
  by_cases h3 : zy.length = zx.length
  case neg =>
    have hd : ((zy.length : Int) != (zx.length : Int)) = true := by simp; omega
    rw [curB_len h3]
    clear h3
    go_enter Try.func135, Try.ntmps135
    go_wp2_with fail
    refine wp_region_N (fun _ _ _ => True) (by kernel_rfl) (by kernel_rfl) ?_; (repeat (first | ((with_reducible show wpN _ _ _ _ _ (Oper.mk _ (Op.binOp _ _ _ _ _) _ _ _ none :: _) _); refine wpN_fop rfl _ _ _ _ _ rfl _ _ _ rfl rfl (by decide) ?_; intro _) | ((with_reducible show wpN _ _ _ _ _ (Oper.mk _ (Op.convert _ _ _) _ _ _ none :: _) _); refine wpN_cvU rfl 31 38 _ rfl (Option.isSome_iff_exists.2 ⟨_, Try.underlying31⟩) Try.underlying38 _ rfl ?_; intro _) | ((with_reducible show wpN _ _ _ _ _ (Oper.mk _ _ _ _ _ (some _) :: _) _); (with_reducible refine wpN_off ?_ ?_); focus rfl; (simp only [Act.put, List.setIfInBounds_toArray, List.set_cons_zero, List.set_cons_succ])) | ((with_reducible show wpN _ _ _ _ _ (Oper.mk _ _ _ _ _ (some _) :: _) _); ((with_reducible refine wpN_on ?_ (fun K hK => ?_)); (focus rfl); intro _; go_simp; first | (refine uponN_value (hK _ ?_)) | (fail; refine hK _ ?_)); clear hK K) | (((with_reducible refine wpN_plain rfl (fun K hK => ?_)); intro _; go_simp; first | (refine uponN_value (hK _ ?_)) | (fail; refine hK _ ?_)); clear hK K) | ((with_reducible refine wpN_step (fun K hK => ?_)); go_simp; first | (refine hK _ ?_) | (intro _; first | (refine uponN_value (hK _ ?_)) | (fail; refine hK _ ?_)); clear hK K))); refine wpN_nil ?_; intro _
    go_wp2_with fail
    go_ret
    exact ⟨_, rfl, rfl⟩
  have hd : ((zy.length : Int) != (zx.length : Int)) = false := by rw [h3]; simp
  rw [curB_mid h1 h2 h3]
  have CX := Lib.hid (fun j => c_l02Finite ax zx.length cx zx w j RX.out)
  have CY := Lib.hid (fun j => c_l02Finite ay zy.length cy zy w j RY.out)
  cases hfx : finL zx
  · rw [hfx] at CX
    clear h3 hfx
    go_enter Try.func135, Try.ntmps135
    go_wp2_with fail
    refine wp_region_N (fun f _ u => u = .bool false) (by kernel_rfl) (by kernel_rfl) ?_; (repeat (first | ((with_reducible show wpN _ _ _ _ _ (Oper.mk _ (Op.binOp _ _ _ _ _) _ _ _ none :: _) _); refine wpN_fop rfl _ _ _ _ _ rfl _ _ _ rfl rfl (by decide) ?_; intro _) | ((with_reducible show wpN _ _ _ _ _ (Oper.mk _ (Op.convert _ _ _) _ _ _ none :: _) _); refine wpN_cvU rfl 31 38 _ rfl (Option.isSome_iff_exists.2 ⟨_, Try.underlying31⟩) Try.underlying38 _ rfl ?_; intro _) | ((with_reducible show wpN _ _ _ _ _ (Oper.mk _ _ _ _ _ (some _) :: _) _); (with_reducible refine wpN_off ?_ ?_); focus rfl; (simp only [Act.put, List.setIfInBounds_toArray, List.set_cons_zero, List.set_cons_succ])) | ((with_reducible show wpN _ _ _ _ _ (Oper.mk _ _ _ _ _ (some _) :: _) _); ((with_reducible refine wpN_on ?_ (fun K hK => ?_)); (focus rfl); intro _; go_simp; first | (refine uponN_value (hK _ ?_)) | ((refine uponN_call (callN (v := .bool false) rfl (CX.out _)) ?_; intro u hu; obtain rfl : u = _ := hu); refine hK _ ?_)); clear hK K) | (((with_reducible refine wpN_plain rfl (fun K hK => ?_)); intro _; go_simp; first | (refine uponN_value (hK _ ?_)) | ((refine uponN_call (callN (v := .bool false) rfl (CX.out _)) ?_; intro u hu; obtain rfl : u = _ := hu); refine hK _ ?_)); clear hK K) | ((with_reducible refine wpN_step (fun K hK => ?_)); go_simp; first | (refine hK _ ?_) | (intro _; first | (refine uponN_value (hK _ ?_)) | ((refine uponN_call (callN (v := .bool false) rfl (CX.out _)) ?_; intro u hu; obtain rfl : u = _ := hu); refine hK _ ?_)); clear hK K))); refine wpN_nil ?_; intro _
    go_wp2_with fail
    go_ret
    exact ⟨_, rfl, rfl⟩
  cases hfy : finL zy
  · have hne : (#[Value.slice ax zx.length cx] : Array Value) ≠ #[Value.slice ay zy.length cy] := by
      intro e
      simp only [Array.mk.injEq, List.cons.injEq, and_true, Value.slice.injEq] at e
      obtain ⟨e1, e2, e3⟩ := e
      have q := RY.out
      rw [← e1, ← e2, ← e3] at q
      rw [row_same RX.out q, hfy] at hfx
      cases hfx
    rw [hfx] at CX
    rw [hfy] at CY
    have HN := Lib.hid hne
    clear h3 hfx hfy hne
    go_enter Try.func135, Try.ntmps135
    go_wp2_with fail
    refine wp_region_N (fun f args u => (args = #[.slice ax zx.length cx] → u = .bool true) ∧ (args = #[.slice ay zy.length cy] → u = .bool false)) (by kernel_rfl) (by kernel_rfl) ?_; (repeat (first | ((with_reducible show wpN _ _ _ _ _ (Oper.mk _ (Op.binOp _ _ _ _ _) _ _ _ none :: _) _); refine wpN_fop rfl _ _ _ _ _ rfl _ _ _ rfl rfl (by decide) ?_; intro _) | ((with_reducible show wpN _ _ _ _ _ (Oper.mk _ (Op.convert _ _ _) _ _ _ none :: _) _); refine wpN_cvU rfl 31 38 _ rfl (Option.isSome_iff_exists.2 ⟨_, Try.underlying31⟩) Try.underlying38 _ rfl ?_; intro _) | ((with_reducible show wpN _ _ _ _ _ (Oper.mk _ _ _ _ _ (some _) :: _) _); (with_reducible refine wpN_off ?_ ?_); focus rfl; (simp only [Act.put, List.setIfInBounds_toArray, List.set_cons_zero, List.set_cons_succ])) | ((with_reducible show wpN _ _ _ _ _ (Oper.mk _ _ _ _ _ (some _) :: _) _); ((with_reducible refine wpN_on ?_ (fun K hK => ?_)); (focus rfl); intro _; go_simp; first | (refine uponN_value (hK _ ?_)) | ((first | ((with_reducible refine uponN_call (callN (v := .bool true) ?_ (CX.out _)) ?_); (focus exact ⟨fun _ => rfl, fun e => absurd e HN.out⟩); intro u hu; obtain rfl : u = _ := hu.1 rfl; clear hu) | ((with_reducible refine uponN_call (callN (v := .bool false) ?_ (CY.out _)) ?_); (focus exact ⟨fun e => absurd e.symm HN.out, fun _ => rfl⟩); intro u hu; obtain rfl : u = _ := hu.2 rfl; clear hu)); refine hK _ ?_)); clear hK K) | (((with_reducible refine wpN_plain rfl (fun K hK => ?_)); intro _; go_simp; first | (refine uponN_value (hK _ ?_)) | ((first | ((with_reducible refine uponN_call (callN (v := .bool true) ?_ (CX.out _)) ?_); (focus exact ⟨fun _ => rfl, fun e => absurd e HN.out⟩); intro u hu; obtain rfl : u = _ := hu.1 rfl; clear hu) | ((with_reducible refine uponN_call (callN (v := .bool false) ?_ (CY.out _)) ?_); (focus exact ⟨fun e => absurd e.symm HN.out, fun _ => rfl⟩); intro u hu; obtain rfl : u = _ := hu.2 rfl; clear hu)); refine hK _ ?_)); clear hK K) | ((with_reducible refine wpN_step (fun K hK => ?_)); go_simp; first | (refine hK _ ?_) | (intro _; first | (refine uponN_value (hK _ ?_)) | ((first | ((with_reducible refine uponN_call (callN (v := .bool true) ?_ (CX.out _)) ?_); (focus exact ⟨fun _ => rfl, fun e => absurd e HN.out⟩); intro u hu; obtain rfl : u = _ := hu.1 rfl; clear hu) | ((with_reducible refine uponN_call (callN (v := .bool false) ?_ (CY.out _)) ?_); (focus exact ⟨fun e => absurd e.symm HN.out, fun _ => rfl⟩); intro u hu; obtain rfl : u = _ := hu.2 rfl; clear hu)); refine hK _ ?_)); clear hK K))); refine wpN_nil ?_; intro _
    go_wp2_with fail
    go_ret
    exact ⟨_, rfl, rfl⟩
  rw [hfx] at CX
  rw [hfy] at CY
  have HFX := Lib.hid hfx
  clear h3 hfx hfy
  rw [Bool.true_and, Bool.true_and]
  go_enter Try.func135, Try.ntmps135
  go_wp2_with fail
  refine wp_region_N (fun f _ u => u = .bool true) (by kernel_rfl) (by kernel_rfl) ?_; (repeat (first | ((with_reducible show wpN _ _ _ _ _ (Oper.mk _ (Op.binOp _ _ _ _ _) _ _ _ none :: _) _); refine wpN_fop rfl _ _ _ _ _ rfl _ _ _ rfl rfl (by decide) ?_; intro _) | ((with_reducible show wpN _ _ _ _ _ (Oper.mk _ (Op.convert _ _ _) _ _ _ none :: _) _); refine wpN_cvU rfl 31 38 _ rfl (Option.isSome_iff_exists.2 ⟨_, Try.underlying31⟩) Try.underlying38 _ rfl ?_; intro _) | ((with_reducible show wpN _ _ _ _ _ (Oper.mk _ _ _ _ _ (some _) :: _) _); (with_reducible refine wpN_off ?_ ?_); focus rfl; (simp only [Act.put, List.setIfInBounds_toArray, List.set_cons_zero, List.set_cons_succ])) | ((with_reducible show wpN _ _ _ _ _ (Oper.mk _ _ _ _ _ (some _) :: _) _); ((with_reducible refine wpN_on ?_ (fun K hK => ?_)); (focus rfl); intro _; go_simp; first | (refine uponN_value (hK _ ?_)) | ((first | ((with_reducible refine uponN_call (callN (v := .bool true) ?_ (CX.out _)) ?_); (focus rfl); intro u hu; obtain rfl : u = _ := hu) | ((with_reducible refine uponN_call (callN (v := .bool true) ?_ (CY.out _)) ?_); (focus rfl); intro u hu; obtain rfl : u = _ := hu)); refine hK _ ?_)); clear hK K) | (((with_reducible refine wpN_plain rfl (fun K hK => ?_)); intro _; go_simp; first | (refine uponN_value (hK _ ?_)) | ((first | ((with_reducible refine uponN_call (callN (v := .bool true) ?_ (CX.out _)) ?_); (focus rfl); intro u hu; obtain rfl : u = _ := hu) | ((with_reducible refine uponN_call (callN (v := .bool true) ?_ (CY.out _)) ?_); (focus rfl); intro u hu; obtain rfl : u = _ := hu)); refine hK _ ?_)); clear hK K) | ((with_reducible refine wpN_step (fun K hK => ?_)); go_simp; first | (refine hK _ ?_) | (intro _; first | (refine uponN_value (hK _ ?_)) | ((first | ((with_reducible refine uponN_call (callN (v := .bool true) ?_ (CX.out _)) ?_); (focus rfl); intro u hu; obtain rfl : u = _ := hu) | ((with_reducible refine uponN_call (callN (v := .bool true) ?_ (CY.out _)) ?_); (focus rfl); intro u hu; obtain rfl : u = _ := hu)); refine hK _ ?_)); clear hK K))); refine wpN_nil ?_; intro _
  go_wp2_with fail
  go_loopw [3] (fun i wr => ∃ k m : Nat, k + 1 ≤ zx.length ∧ i = .int .i64 ((k + 1 : Nat) : Int) ∧ wr = w.drewN m ∧ riseK zx (k + 1) = true) (fun i _ => zx.length - (intOf i).toNat)
  case atStart => exact ⟨0, _, by omega, rfl, rfl, rfl⟩
  case round =>
    obtain ⟨k, m, hk, rfl, rfl, hR⟩ := hrel
    have HR := Lib.hid hR
    clear hR
    by_cases hlt : k + 1 < zx.length
    · obtain ⟨bA, oA, nA, rfl, hbA, eA⟩ := RX.out.at hlt
      obtain ⟨bB, oB, nB, hab, hbB, eB⟩ := RX.out.at (k := k) (by omega)
      cases hab
      clear hbA hbB
      have hG := gt_notle (fin_at HFX.out hlt) (fin_at HFX.out (show k < zx.length by omega))
      cases hle : leB (fat zx (k + 1)) (fat zx k)
      all_goals
        have HL := Lib.hid hle
        rw [hle] at hG
        simp only [Bool.not_false, Bool.not_true] at hG
        clear hle
        go_wp2_with fail
        have g0 : (0 : Int) ≤ (k : Int) := by omega
        have g3 : (k : Int) < (zx.length : Int) := by omega
        have g4 : (k : Int) + 1 < (zx.length : Int) := by omega
        have g5 : k < zx.length := by omega
        have mw : IntKind.i64.wrap (k : Int) = (k : Int) := IntWalk.i64_in _ (by omega)
        refine wp_region_N (fun _ _ _ => True) (by kernel_rfl) (by kernel_rfl) ?_; (repeat (first | ((with_reducible show wpN _ _ _ _ _ (Oper.mk _ (Op.binOp _ _ _ _ _) _ _ _ none :: _) _); refine wpN_fop rfl _ _ _ _ _ rfl _ _ _ rfl rfl (by decide) ?_; intro _) | ((with_reducible show wpN _ _ _ _ _ (Oper.mk _ (Op.convert _ _ _) _ _ _ none :: _) _); refine wpN_cvU rfl 31 38 _ rfl (Option.isSome_iff_exists.2 ⟨_, Try.underlying31⟩) Try.underlying38 _ rfl ?_; intro _) | ((with_reducible show wpN _ _ _ _ _ (Oper.mk _ _ _ _ _ (some _) :: _) _); (with_reducible refine wpN_off ?_ ?_); focus rfl; (simp only [Act.put, List.setIfInBounds_toArray, List.set_cons_zero, List.set_cons_succ])) | ((with_reducible show wpN _ _ _ _ _ (Oper.mk _ _ _ _ _ (some _) :: _) _); ((with_reducible refine wpN_on ?_ (fun K hK => ?_)); (focus rfl); intro _; go_simp; first | (refine uponN_value (hK _ ?_)) | (fail; refine hK _ ?_)); clear hK K) | (((with_reducible refine wpN_plain rfl (fun K hK => ?_)); intro _; go_simp; first | (refine uponN_value (hK _ ?_)) | (fail; refine hK _ ?_)); clear hK K) | ((with_reducible refine wpN_step (fun K hK => ?_)); go_simp; first | (refine hK _ ?_) | (intro _; first | (refine uponN_value (hK _ ?_)) | (fail; refine hK _ ?_)); clear hK K))); refine wpN_nil ?_; intro _
        clear g0 g3 g4 g5 mw hG
        go_wp2_with fail
      · go_roundw
        case rel => exact ⟨k + 1, _, by omega, by go_num, rfl, by show (riseK zx (k + 1) && !leB (fat zx (k + 1)) (fat zx k)) = true; rw [HR.out, HL.out]; rfl⟩
        case measure => simp [intOf]; omega
      · go_ret
        exact ⟨_, by rw [riseK_false (k := k + 2) (show (riseK zx (k + 1) && !leB (fat zx (k + 1)) (fat zx k)) = false by rw [HL.out, Bool.not_true, Bool.and_false]) zx.length (by omega)]; rfl, rfl⟩
    · have e : zx.length = k + 1 := by omega
      have HE := Lib.hid e
      clear e
      go_wp2_with fail
      go_ret
      exact ⟨_, by rw [HE.out, HR.out]; rfl, rfl⟩
theorem c_sValidCurve (zx zy : List Nat) (ax : Option Addr) (cx : Nat) (ay : Option Addr) (cy : Nat) (w : World) (hx : IsRowF .f32 w ax zx.length cx zx) (hy : IsRowF .f32 w ay zy.length cy zy) : Calls Try.prog 56 #[.agg #[.slice ax zx.length cx, .slice ay zy.length cy]] w (RetB (.bool (curB zx zy)) w) := by
  have HX := Lib.hid hx
  have HY := Lib.hid hy
  clear hx hy
  have C := Lib.hid (fun (w1 : World) (hv : Var w1 w.heap.size #[.slice ax zx.length cx, .slice ay zy.length cy]) (h1 : IsRowF .f32 w1 ax zx.length cx zx) (h2 : IsRowF .f32 w1 ay zy.length cy zy) => (by have h := c_l04Is zx zy w.heap.size ax cx ay cy w1 hv h1 h2; rwa [w1.drewN_zero] at h : Calls Try.prog 135 #[.pointer (some ⟨w.heap.size, 0, none⟩)] w1 (RetV (.bool (curB zx zy)) w1)))
  go_enter Try.func56, Try.ntmps56
  go_wp2_with fail
  refine (C.out _ (Var.new _ _ _) (HX.out.alloc _) (HY.out.alloc _)).mono ?_
  rintro _ w1 ⟨m, rfl, rfl⟩
  go_wp2_with fail
  go_ret
  exact ⟨rfl, below_drewN ((Below.refl _ _).alloc (Nat.le_refl _) _) _⟩
/-! ### l04At -/
theorem c_l04At (zx zy : List Nat) (N : Nat) (b0 : Nat) (ax : Option Addr) (cx : Nat) (ay : Option Addr) (cy : Nat) (x n : Nat) (w : World) (hN : zx.length = N + 2) (hN2 : zy.length = N + 2) (hN3 : N ≤ 14) (hv : Var w b0 #[.slice ax (N + 2) cx, .slice ay (N + 2) cy]) (hx : IsRowF .f32 w ax (N + 2) cx zx) (hy : IsRowF .f32 w ay (N + 2) cy zy) (hf : finL zx = true) (hxf : finB .f32 x = true) : Calls Try.prog 141 #[.pointer (some ⟨b0, 0, none⟩), .float .f32 (pick .f32 x n)] (w.drewN 0) (RetF .f32 (toneV zx zy x) w) := by
  obtain ⟨p0, p1⟩ := var_two hv
  obtain ⟨bx, ox, nx, rfl, hbx, e0⟩ := hx.at (k := 0) (by omega)
  obtain ⟨bx', ox', nl, hab, hbx', e1⟩ := hx.at (k := N + 1) (by omega)
  cases hab
  obtain ⟨by0, oy, ny, rfl, hby, f0⟩ := hy.at (k := 0) (by omega)
  obtain ⟨by', oy', nm, hab, hby', f1⟩ := hy.at (k := N + 1) (by omega)
  cases hab
  clear hbx hbx' hby hby'
  rw [Nat.add_zero] at e0 f0
  have RX := Lib.hid hx
  have RY := Lib.hid hy
  have HF := Lib.hid hf
  have HXF := Lib.hid hxf
  have HN := Lib.hid hN
  have eL : zx.length - 1 = N + 1 := by omega
  unfold toneV
  rw [eL]
  clear eL hN hN2 hv hx hy hf hxf
  cases c0 : leB x (fat zx 0)
  case true =>
    unfold leB at c0
    rw [if_pos rfl]
    go_enter Try.func141, Try.ntmps141
    go_wp2_with fail
    go_ret
    exact ⟨_, _, rfl, rfl⟩
  rw [if_neg (by decide)]
  cases c1 : geB x (fat zx (N + 1))
  case true =>
    unfold leB at c0
    unfold geB at c1
    rw [if_pos rfl]
    go_enter Try.func141, Try.ntmps141
    go_wp2_with fail
    go_ret
    exact ⟨_, _, rfl, rfl⟩
  rw [if_neg (by decide)]
  have HST := Lib.hid (notge_stops HXF.out (fin_at' HF.out (show N + 1 < zx.length by rw [HN.out]; omega)) c1)
  rw [HN.out]
  obtain ⟨T, hT⟩ : ∃ T, T = tnI zx x (N + 2) 1 := ⟨_, rfl⟩
  rw [← hT]
  have HT := Lib.hid hT
  clear hT
  unfold leB at c0
  unfold geB at c1
  go_enter Try.func141, Try.ntmps141
  go_wp2_with fail
  clear c0 c1 e0 e1 f0 f1
  go_loopw [6] (fun i wr => ∃ j m : Nat, j ≤ N ∧ i = .int .i64 ((j + 1 : Nat) : Int) ∧ wr = w.drewN m ∧ tnI zx x (N + 2 - j) (j + 1) = T) (fun i _ => N + 2 - (intOf i).toNat)
  case atStart => exact ⟨0, _, by omega, rfl, rfl, by rw [HT.out]; rfl⟩
  case round =>
    obtain ⟨j, m, hj, rfl, rfl, hI⟩ := hrel
    have HI := Lib.hid hI
    clear hI
    obtain ⟨bA, oA, nA, hab, hbA, eA⟩ := RX.out.at (k := j + 1) (by omega)
    cases hab
    clear hbA
    have EF := Lib.hid (show N + 2 - j = (N + 1 - j) + 1 by omega)
    cases hg : ltB (fat zx (j + 1)) x
    · have hk : T = j + 1 := by rw [← HI.out, EF.out, tnI_no hg]
      have E := Lib.hid (show tnQ zx zy x T = fop .add .f32 (fat zy j) (fop .mul .f32 (fop .quo .f32 (fop .sub .f32 x (fat zx j)) (fop .sub .f32 (fat zx (j + 1)) (fat zx j))) (fop .sub .f32 (fat zy (j + 1)) (fat zy j))) by rw [hk]; rfl)
      clear hk
      unfold ltB at hg
      go_wp2_with fail
      clear hg
      obtain ⟨bB, oB, nB, hab, hbB, eB⟩ := RX.out.at (k := j) (by omega)
      cases hab
      obtain ⟨bC, oC, nC, hab, hbC, eC⟩ := RY.out.at (k := j + 1) (by omega)
      cases hab
      obtain ⟨bD, oD, nD, hab, hbD, eD⟩ := RY.out.at (k := j) (by omega)
      cases hab
      clear hbB hbC hbD
      have g0 : (0 : Int) ≤ (j : Int) := by omega
      have g1 : (j : Int) < (N : Int) + 2 := by omega
      have g2 : (j : Int) + 1 < (N : Int) + 2 := by omega
      have g3 : j < N + 2 := by omega
      have g4 : j + 1 < N + 2 := by omega
      have mw : IntKind.i64.wrap (j : Int) = (j : Int) := IntWalk.i64_in _ (by omega)
      refine wp_region_N (fun _ _ _ => True) (by kernel_rfl) (by kernel_rfl) ?_; (repeat (first | ((with_reducible show wpN _ _ _ _ _ (Oper.mk _ (Op.binOp _ _ _ _ _) _ _ _ none :: _) _); refine wpN_fop rfl _ _ _ _ _ rfl _ _ _ rfl rfl (by decide) ?_; intro _) | ((with_reducible show wpN _ _ _ _ _ (Oper.mk _ (Op.convert _ _ _) _ _ _ none :: _) _); refine wpN_cvU rfl 31 38 _ rfl (Option.isSome_iff_exists.2 ⟨_, Try.underlying31⟩) Try.underlying38 _ rfl ?_; intro _) | ((with_reducible show wpN _ _ _ _ _ (Oper.mk _ _ _ _ _ (some _) :: _) _); (with_reducible refine wpN_off ?_ ?_); focus rfl; (simp only [Act.put, List.setIfInBounds_toArray, List.set_cons_zero, List.set_cons_succ])) | ((with_reducible show wpN _ _ _ _ _ (Oper.mk _ _ _ _ _ (some _) :: _) _); ((with_reducible refine wpN_on ?_ (fun K hK => ?_)); (focus rfl); intro _; go_simp; first | (refine uponN_value (hK _ ?_)) | (fail; refine hK _ ?_)); clear hK K) | (((with_reducible refine wpN_plain rfl (fun K hK => ?_)); intro _; go_simp; first | (refine uponN_value (hK _ ?_)) | (fail; refine hK _ ?_)); clear hK K) | ((with_reducible refine wpN_step (fun K hK => ?_)); go_simp; first | (refine hK _ ?_) | (intro _; first | (refine uponN_value (hK _ ?_)) | (fail; refine hK _ ?_)); clear hK K))); refine wpN_nil ?_; intro _
      go_wp2_with fail
      refine wp_region_N (fun _ _ _ => True) (by kernel_rfl) (by kernel_rfl) ?_; (repeat (first | ((with_reducible show wpN _ _ _ _ _ (Oper.mk _ (Op.binOp _ _ _ _ _) _ _ _ none :: _) _); refine wpN_fop rfl _ _ _ _ _ rfl _ _ _ rfl rfl (by decide) ?_; intro _) | ((with_reducible show wpN _ _ _ _ _ (Oper.mk _ (Op.convert _ _ _) _ _ _ none :: _) _); refine wpN_cvU rfl 31 38 _ rfl (Option.isSome_iff_exists.2 ⟨_, Try.underlying31⟩) Try.underlying38 _ rfl ?_; intro _) | ((with_reducible show wpN _ _ _ _ _ (Oper.mk _ _ _ _ _ (some _) :: _) _); (with_reducible refine wpN_off ?_ ?_); focus rfl; (simp only [Act.put, List.setIfInBounds_toArray, List.set_cons_zero, List.set_cons_succ])) | ((with_reducible show wpN _ _ _ _ _ (Oper.mk _ _ _ _ _ (some _) :: _) _); ((with_reducible refine wpN_on ?_ (fun K hK => ?_)); (focus rfl); intro _; go_simp; first | (refine uponN_value (hK _ ?_)) | (fail; refine hK _ ?_)); clear hK K) | (((with_reducible refine wpN_plain rfl (fun K hK => ?_)); intro _; go_simp; first | (refine uponN_value (hK _ ?_)) | (fail; refine hK _ ?_)); clear hK K) | ((with_reducible refine wpN_step (fun K hK => ?_)); go_simp; first | (refine hK _ ?_) | (intro _; first | (refine uponN_value (hK _ ?_)) | (fail; refine hK _ ?_)); clear hK K))); refine wpN_nil ?_; intro _
      clear g0 g1 g2 g3 g4 mw eA eB eC eD
      go_wp2_with fail
      go_ret
      rw [E.out]
      exact ⟨_, _, rfl, rfl⟩
    · have HK := Lib.hid (tnI_yes (f := N + 1 - j) hg)
      have hjN : j + 1 ≤ N := by
        by_cases h : j = N
        · subst h; rw [HST.out] at hg; cases hg
        · omega
      unfold ltB at hg
      go_wp2_with fail
      go_roundw
      case rel => exact ⟨j + 1, _, hjN, by go_num, rfl, by rw [show N + 2 - (j + 1) = N + 1 - j by omega, ← HK.out, ← EF.out]; exact HI.out⟩
      case measure => simp [intOf]; omega
/-! ### l02Number -/
theorem c_l02Number (v n : Nat) (w : World) (j : Nat) : Calls Try.prog 140 #[.float .f32 (pick .f32 v n)] (w.drewN j) (fun e w' => ∃ k m, e = .returned (.tuple #[.float .f32 (pick .f32 (numR v).1 k), .bool (numR v).2]) ∧ w' = w.drewN m) := by
  cases h : finB .f32 v
  · have e : numR v = (0, false) := by unfold numR; rw [if_neg (by rw [h]; decide)]
    rw [e]
    go_enter Try.func140, Try.ntmps140
    go_wp2_with (first | (go_at_call 139; refine (c_l01Finite _ _ _ _).mono ?_; rintro _ _ ⟨_, rfl, rfl⟩))
    go_ret2
    exact ⟨0, _, by simp only [pick00]; rfl, rfl⟩
  · have e : numR v = (v, true) := by unfold numR; rw [if_pos h]
    rw [e]
    go_enter Try.func140, Try.ntmps140
    go_wp2_with (first | (go_at_call 139; refine (c_l01Finite _ _ _ _).mono ?_; rintro _ _ ⟨_, rfl, rfl⟩))
    go_ret2
    exact ⟨n, _, rfl, rfl⟩
theorem c_l02Number0 (v n : Nat) (w : World) : Calls Try.prog 140 #[.float .f32 (pick .f32 v n)] w (fun e w' => ∃ k m, e = .returned (.tuple #[.float .f32 (pick .f32 (numR v).1 k), .bool (numR v).2]) ∧ w' = w.drewN m) := by
  have h := c_l02Number v n w 0
  rwa [w.drewN_zero] at h
/-! ### sToneAt -/
theorem c_sToneAtN (zx zy : List Nat) (N : Nat) (ax : Option Addr) (cx : Nat) (ay : Option Addr) (cy : Nat) (x n : Nat) (w : World) (hN : zx.length = N + 2) (hN2 : zy.length = N + 2) (hN3 : N ≤ 14) (hx : IsRowF .f32 w ax (N + 2) cx zx) (hy : IsRowF .f32 w ay (N + 2) cy zy) (hB : curB zx zy = true) (hF : finB .f32 x = true) (hf : finL zx = true) : Calls Try.prog 62 #[.agg #[.slice ax (N + 2) cx, .slice ay (N + 2) cy], .float .f32 (pick .f32 x n)] w (RetF1 (numR (toneV zx zy x)) w) := by
  obtain ⟨w0, hw0⟩ : ∃ w0, w0 = w.alloc (Obj.cells #[.slice ax (N + 2) cx, .slice ay (N + 2) cy] 75) := ⟨_, rfl⟩
  have V0 : Var w0 w.heap.size #[.slice ax (N + 2) cx, .slice ay (N + 2) cy] := hw0 ▸ Var.new _ _ _
  have B0 : Below w.heap.size w w0 := hw0 ▸ (Below.refl _ _).alloc (Nat.le_refl _) _
  have R1 := hx.below B0
  have R2 := hy.below B0
  have CV := Lib.hid (by have h := c_l04Is zx zy w.heap.size ax cx ay cy w0 (by rw [hN, hN2]; exact V0) (by rw [hN]; exact R1) (by rw [hN2]; exact R2); rw [hB] at h; exact h : Calls Try.prog 135 #[.pointer (some ⟨w.heap.size, 0, none⟩)] (w0.drewN 0) (RetV (.bool true) w0))
  have CF := Lib.hid (fun j => (by have h := c_l01Finite x n w0 j; rwa [hF] at h : Calls Try.prog 139 #[.float .f32 (pick .f32 x n)] (w0.drewN j) (RetV (.bool true) w0)))
  have CA := Lib.hid (fun k => (by have h := c_l04At zx zy N w.heap.size ax cx ay cy x n (w0.drewN k) hN hN2 hN3 (V0.keep (below_drewN (Below.refl _ _) k)) (R1.drewN k) (R2.drewN k) hf hF; rwa [World.drewN_zero] at h : Calls Try.prog 141 #[.pointer (some ⟨w.heap.size, 0, none⟩), .float .f32 (pick .f32 x n)] (w0.drewN k) (RetF .f32 (toneV zx zy x) (w0.drewN k))))
  have HW := Lib.hid hw0.symm
  have BB := Lib.hid B0
  clear hw0 B0 V0 R1 R2 hx hy hN hN2 hB hF hf
  go_enter Try.func62, Try.ntmps62
  go_wp2_with fail
  rw [HW.out]
  rw [← w0.drewN_zero]
  go_wp2_with (first | (go_at_call 135; refine (CV.out).mono ?_; rintro _ _ ⟨_, rfl, rfl⟩) | (go_at_call 139; refine (CF.out _).mono ?_; rintro _ _ ⟨_, rfl, rfl⟩) | (go_at_call 141; refine (CA.out _).mono ?_; rintro _ _ ⟨_, _, rfl, rfl⟩) | (go_at_call 140; refine (c_l02Number _ _ _ _).mono ?_; rintro _ _ ⟨_, _, rfl, rfl⟩))
  go_ret2
  exact ⟨_, rfl, by first | exact below_drewN BB.out _ | exact below_drewN (below_drewN BB.out _) _⟩
theorem c_sToneAt (zx zy : List Nat) (ax : Option Addr) (cx : Nat) (ay : Option Addr) (cy : Nat) (x n : Nat) (w : World) (hx : IsRowF .f32 w ax zx.length cx zx) (hy : IsRowF .f32 w ay zy.length cy zy) : Calls Try.prog 62 #[.agg #[.slice ax zx.length cx, .slice ay zy.length cy], .float .f32 (pick .f32 x n)] w (RetF1 (toneR zx zy x) w) := by
  cases hB : curB zx zy && finB .f32 x
  case true =>
    simp only [Bool.and_eq_true] at hB
    obtain ⟨q1, q2, q3, q4⟩ := curB_facts hB.1
    obtain ⟨N, hN⟩ : ∃ N, zx.length = N + 2 := ⟨zx.length - 2, by omega⟩
    have hN2 : zy.length = N + 2 := by omega
    rw [toneR_yes hB.1 hB.2, hN, hN2]
    rw [hN] at hx
    rw [hN2] at hy
    exact c_sToneAtN zx zy N ax cx ay cy x n w hN hN2 (by omega) hx hy hB.1 hB.2 q4
  rw [toneR_no hB]
  obtain ⟨w0, hw0⟩ : ∃ w0, w0 = w.alloc (Obj.cells #[.slice ax zx.length cx, .slice ay zy.length cy] 75) := ⟨_, rfl⟩
  have V0 : Var w0 w.heap.size #[.slice ax zx.length cx, .slice ay zy.length cy] := hw0 ▸ Var.new _ _ _
  have B0 : Below w.heap.size w w0 := hw0 ▸ (Below.refl _ _).alloc (Nat.le_refl _) _
  have CV := Lib.hid (c_l04Is zx zy w.heap.size ax cx ay cy w0 V0 (hx.below B0) (hy.below B0))
  have CF := Lib.hid (fun j => c_l01Finite x n w0 j)
  have HW := Lib.hid hw0.symm
  have BB := Lib.hid B0
  clear hw0 B0 V0 hx hy
  generalize curB zx zy = r at *
  generalize finB .f32 x = q at *
  cases r <;> cases q <;> first | cases hB | skip
  all_goals
    try clear hB
    go_enter Try.func62, Try.ntmps62
    go_wp2_with fail
    rw [HW.out]
    rw [← w0.drewN_zero]
    go_wp2_with (first | (go_at_call 135; refine (CV.out).mono ?_; rintro _ _ ⟨_, rfl, rfl⟩) | (go_at_call 139; refine (CF.out _).mono ?_; rintro _ _ ⟨_, rfl, rfl⟩))
    go_ret2
    exact RetF1.no rfl (below_drewN BB.out _)
/-! ### FnExactToneAt -/
theorem walkG (zx zy : List Nat) (ax : Option Addr) (cx : Nat) (ay : Option Addr) (cy : Nat) (vx nx : Nat) (w : World) (rx : IsRowF .f32 w ax zx.length cx zx) (ry : IsRowF .f32 w ay zy.length cy zy) (hl : zx.length + zy.length ≤ 1048576) : Calls Try.prog 11 #[.agg #[.slice ax zx.length cx, .slice ay zy.length cy], .float .f32 (pick .f32 vx nx)] w fun e w' => e = .returned (.bool true) ∧ Below w.heap.size w w' := by
  have RX := Lib.hid rx
  have RY := Lib.hid ry
  clear rx ry
  obtain ⟨res, hres⟩ : ∃ r, r = toneR zx zy vx := ⟨_, rfl⟩
  have CS := Lib.hid (fun (ax : Option Addr) (cx : Nat) (ay : Option Addr) (cy : Nat) (w : World) (h1 : IsRowF .f32 w ax zx.length cx zx) (h2 : IsRowF .f32 w ay zy.length cy zy) => (hres ▸ c_sToneAt zx zy ax cx ay cy vx nx w h1 h2 : Calls Try.prog 62 #[.agg #[.slice ax zx.length cx, .slice ay zy.length cy], .float .f32 (pick .f32 vx nx)] w (RetF1 res w)))
  have CI := Lib.hid (fun (ax : Option Addr) (cx : Nat) (ay : Option Addr) (cy : Nat) (w : World) (h1 : IsRowF .f32 w ax zx.length cx zx) (h2 : IsRowF .f32 w ay zy.length cy zy) => (hres ▸ c_iToneAt zx zy ax cx ay cy vx nx w h1 h2 : Calls Try.prog 63 #[.agg #[.slice ax zx.length cx, .slice ay zy.length cy], .float .f32 (pick .f32 vx nx)] w (RetF1 res w)))
  clear hres
  go_enter Try.func11, Try.ntmps11
  go_wp2_with fail
  refine (c_szC ax zx.length cx ay zy.length cy (1048576 : Int) _ (by omega) (by omega)).mono ?_
  rintro _ w1 ⟨rfl, b⟩
  have V1 := Lib.hid ((Var.new' _ _ _ (w.heap.size) (by first | rfl | simp)).keep b)
  have B1 := Lib.hid (((Below.refl w.heap.size w).alloc (Nat.le_refl _) _).trans (b.mono (by simp)))
  have S1 : w.heap.size + 1 ≤ w1.heap.size := by have := b.size; simp at this; omega
  clear b
  have hz : ¬ (((1048576 : Int) - (zx.length : Int) - (zy.length : Int)) < 0) := by omega
  obtain ⟨c0, c1⟩ := var_two V1.out
  go_wp2_with fail
  clear c0 c1
  refine (c_toCur ax cx zx ay cy zy _ (RX.out.below B1.out) (RY.out.below B1.out) (by omega) (by omega)).mono ?_
  rintro _ w2 ⟨g, k, rfl, b, ox, oy⟩
  have V2 := Lib.hid (V1.out.keep b)
  have B2 := Lib.hid (B1.out.trans (b.mono (by omega)))
  have S2 : w1.heap.size ≤ w2.heap.size := b.size
  have OX := Lib.hid ox
  have OY := Lib.hid oy
  clear b ox oy V1 B1
  go_wp2_with fail
  refine (CS.out _ _ _ _ _ OX.out.row OY.out.row).mono ?_
  rintro _ w3 ⟨mu, rfl, b⟩
  have V3 := Lib.hid (V2.out.keep b)
  have B3 := Lib.hid (B2.out.trans (b.mono (by omega)))
  have S3 : w2.heap.size ≤ w3.heap.size := b.size
  clear b V2 B2 OX OY
  obtain ⟨c0, c1⟩ := var_two V3.out
  go_wp2_with fail
  clear c0 c1
  refine (c_toCur ax cx zx ay cy zy _ (RX.out.below B3.out) (RY.out.below B3.out) (by omega) (by omega)).mono ?_
  rintro _ w4 ⟨gx, kx, rfl, b, ox, oy⟩
  have V4 := Lib.hid (V3.out.keep b)
  have B4 := Lib.hid (B3.out.trans (b.mono (by omega)))
  have S4 : w3.heap.size ≤ w4.heap.size := b.size
  have OX := Lib.hid ox
  have OY := Lib.hid oy
  clear b ox oy V3 B3
  go_wp2_with fail
  refine (CI.out _ _ _ _ _ (OX.out.alloc _).row (OY.out.alloc _).row).mono ?_
  rintro _ w5 ⟨mg, rfl, b⟩
  have VP := Lib.hid ((V4.out.alloc _).keep b)
  have VX := Lib.hid ((Var.new' _ _ _ (w4.heap.size) (by first | rfl | simp)).keep b)
  have OX5 := Lib.hid ((OX.out.alloc _).below b)
  have OY5 := Lib.hid ((OY.out.alloc _).below b)
  have B5 := Lib.hid ((B4.out.alloc (by omega) _).trans (b.mono (by simp; omega)))
  have S5 : w4.heap.size + 1 ≤ w5.heap.size := by have := b.size; simp at this; omega
  clear b V4 OX OY B4
  rw [← w5.drewN_zero]
  go_wp2_with (first | (refine wpList_cvU rfl 31 38 _ rfl (Option.isSome_iff_exists.2 ⟨_, Try.underlying31⟩) Try.underlying38 _ rfl _ ?_; intro _ _) | (go_at_call 64; refine (c_sameFloat _ _ _ _ _).mono ?_; rintro _ _ ⟨jx, rfl, rfl⟩))
  have b : Below w5.heap.size w5 (w5.drewN jx) := below_drewN (Below.refl _ _) _
  generalize w5.drewN jx = w6 at *
  have VP := Lib.hid (VP.out.keep b)
  have VX := Lib.hid (VX.out.keep b)
  have OX5 := Lib.hid (OX5.out.below b)
  have OY5 := Lib.hid (OY5.out.below b)
  have B5 := Lib.hid (B5.out.trans (b.mono (by omega)))
  have S6 : w5.heap.size ≤ w6.heap.size := b.size
  clear b
  obtain ⟨p0, p1⟩ := var_two VP.out
  obtain ⟨x0, x1⟩ := var_two VX.out
  try (go_wp2_with fail)
  have D : Below w6.heap.size w6 w6.drew := (Below.refl _ _).drew
  have RDX := Lib.hid ((RX.out.below B5.out).below D)
  have RDY := Lib.hid ((RY.out.below B5.out).below D)
  have XDX := Lib.hid (OX5.out.below D)
  have XDY := Lib.hid (OY5.out.below D)
  have HD := Lib.hid D
  clear D
  go_region_held3 (fun w' => w'.cell? ⟨w.heap.size, 0, none⟩ = some (.slice ax zx.length cx) ∧ w'.cell? ⟨w.heap.size, 1, none⟩ = some (.slice ay zy.length cy) ∧ w'.cell? ⟨w4.heap.size, 0, none⟩ = some (.slice (some ⟨gx, 0, none⟩) zx.length zx.length) ∧ w'.cell? ⟨w4.heap.size, 1, none⟩ = some (.slice (some ⟨kx, 0, none⟩) zy.length zy.length)) (first | exact ⟨p0, p1, x0, x1⟩ | (have e1 := var_two ((VP.out.keep HD.out).keep b7); have e2 := var_two ((VX.out.keep HD.out).keep b7); exact ⟨e1.1, e1.2, e2.1, e2.2⟩) | (have e1 := var_two (((VP.out.keep HD.out).keep b7).keep b8); have e2 := var_two (((VX.out.keep HD.out).keep b7).keep b8); exact ⟨e1.1, e1.2, e2.1, e2.2⟩)) (first | (go_at_call 57; refine (c_toCur ax cx zx ay cy zy _ RDX.out RDY.out (by omega) (by omega)).mono ?_; rintro _ wt ⟨g7, k7, rfl, b7, o7, q7⟩) | (go_at_call 59; refine (c_eqCur _ _ _ _ _ _ _ _ _ _ _ (XDX.out.below b7).row o7.row (XDY.out.below b7).row q7.row).mono ?_; rintro _ w7 ⟨rfl, b8⟩))
  have b := HD.out.trans (b7.trans (b8.mono b7.size))
  have B6 := Lib.hid (B5.out.trans (b.mono (by omega)))
  clear RDX RDY XDX XDY HD b7 b8 o7 q7 p0 p1 x0 x1 b
  go_wp2_with fail
  go_ret
  exact ⟨rfl, B6.out⟩
theorem walkL1 (zx zy : List Nat) (ax : Option Addr) (cx : Nat) (ay : Option Addr) (cy : Nat) (vx nx : Nat) (w : World) (mA : zx.length ≤ maxLen) (h : 1048576 < zx.length) : Calls Try.prog 11 #[.agg #[.slice ax zx.length cx, .slice ay zy.length cy], .float .f32 (pick .f32 vx nx)] w fun e w' => e = .returned (.bool true) ∧ Below w.heap.size w w' := by
  unfold maxLen at mA
  go_enter Try.func11, Try.ntmps11
  go_wp2_with fail
  refine (c_szC_no1 ax zx.length cx ay zy.length cy (1048576 : Int) _ (by omega) (by omega) (by omega)).mono ?_
  rintro _ w1 ⟨rfl, b⟩
  have B1 := Lib.hid (((Below.refl w.heap.size w).alloc (Nat.le_refl _) _).trans (b.mono (by simp)))
  clear b
  go_wp2_with fail
  go_ret
  exact ⟨rfl, B1.out⟩
theorem walkL2 (zx zy : List Nat) (ax : Option Addr) (cx : Nat) (ay : Option Addr) (cy : Nat) (vx nx : Nat) (w : World) (mB : zy.length ≤ maxLen) (h1 : zx.length ≤ 1048576) (h : 1048576 < zx.length + zy.length) : Calls Try.prog 11 #[.agg #[.slice ax zx.length cx, .slice ay zy.length cy], .float .f32 (pick .f32 vx nx)] w fun e w' => e = .returned (.bool true) ∧ Below w.heap.size w w' := by
  unfold maxLen at mB
  go_enter Try.func11, Try.ntmps11
  go_wp2_with fail
  refine (c_szC_no2 ax zx.length cx ay zy.length cy (1048576 : Int) _ (by omega) (by omega) (by omega) (by omega)).mono ?_
  rintro _ w1 ⟨rfl, b⟩
  have B1 := Lib.hid (((Below.refl w.heap.size w).alloc (Nat.le_refl _) _).trans (b.mono (by simp)))
  clear b
  go_wp2_with fail
  go_ret
  exact ⟨rfl, B1.out⟩
theorem walk (zx zy : List Nat) (ax : Option Addr) (cx : Nat) (ay : Option Addr) (cy : Nat) (vx nx : Nat) (w : World) (rx : IsRowF .f32 w ax zx.length cx zx) (ry : IsRowF .f32 w ay zy.length cy zy) (_hv : vx < 2 ^ FloatKind.f32.format.width) : Calls Try.prog 11 #[.agg #[.slice ax zx.length cx, .slice ay zy.length cy], .float .f32 (pick .f32 vx nx)] w fun e w' => e = .returned (.bool true) ∧ Below w.heap.size w w' := by
  have mA : zx.length ≤ maxLen := Nat.le_trans rx.2.1 rx.2.2.1
  have mB : zy.length ≤ maxLen := Nat.le_trans ry.2.1 ry.2.2.1
  by_cases g0 : 1048576 < zx.length
  · exact walkL1 zx zy ax cx ay cy vx nx w mA g0
  by_cases g1 : 1048576 < zx.length + zy.length
  · exact walkL2 zx zy ax cx ay cy vx nx w mB (by omega) g1
  exact walkG zx zy ax cx ay cy vx nx w rx ry (by omega)

theorem own : ownKnob Try.prog.godebug = none := by kernel_rfl
theorem laidOut : laidOutB Try.prog = true := by kernel_rfl
set_option maxRecDepth 100000 in
theorem lifted (os : Os) (started : os.Started) (H : Type) (enc : TypeId × Value → H) :
    ReturnsInHanded {} Try.checked os 11 .any (Rows.fnExactToneAtSpec.pre6 enc Try.prog Try.f11 Rows.fnExactToneAtRow.domain false) (Rows.fnExactToneAtSpec.post enc Try.prog Try.f11 false true false false) := by
  refine returnsInHanded_of_change (C := Try.checked) own started (by kernel_rfl) Try.func11
    (ChangeSpec.witness6 (enc := enc) (C := Try.checked) false ⟨#[], #[.agg #[.slice none 0 0, .slice none 0 0], .float .f32 0], []⟩ 8 (by kernel_rfl) (by kernel_rfl) (by kernel_rfl) (by kernel_rfl)) ?_
  intro W base args ds gs before hval0 hW hcnd _
  have hval : ∀ (j : Nat) t v, Try.f11.params[j]? = some t → args[j]? = some v → Value.okWide Try.prog W .any base t v := hval0
  have hW' := hW
  obtain ⟨p, q, hA0, hV, rfl, hfz, hnd⟩ := hW
  have hA : DataW.TrodAll enc Try.prog W 0 (fun _ => true) true Try.f11.params.toList args.toList ds p := hA0
  rw [Try.params11] at hA hval
  obtain ⟨v0, vs0, d0, ds0, p0, q0, hargs, rfl, rfl, h0, r0⟩ := trodAll_cons hA
  obtain ⟨v1, vs1, d1, ds1, p1, q1, rfl, rfl, rfl, h1, r1⟩ := trodAll_cons r0
  obtain ⟨rfl, rfl, rfl⟩ := trodAll_nil r1
  obtain rfl : args = #[v0, v1] := by cases args; simp_all
  obtain ⟨rfl, rfl⟩ := trodVars_none hV
  have k0 := h0
  have lt0 : ∀ x ∈ p0, x.block < W.heap.size := by obtain ⟨m, hm⟩ := k0; exact DataW.trod_lt m _ _ _ hm
  obtain ⟨zx0, zy0, ax0, cx0, ay0, cy0, rfl, wx0, wy0⟩ := open_cur Try.underlying72 (by kernel_rfl) (by kernel_rfl) Try.underlying24 Try.underlying24 Try.underlying31 (by kernel_rfl) (hval 0 72 v0 rfl rfl) h0
  obtain ⟨b1, rfl, rfl, rfl, w1⟩ := open_float Try.underlying31 (hval 1 31 v1 rfl rfl) h1
  obtain ⟨n1, en1⟩ := pick_onto .f32 b1 (lt_of_wf w1)
  clear hA0 hval0
  have hcall1 := en1
  have hw0 : Calls Try.prog 11 #[.agg #[.slice ax0 zx0.length cx0, .slice ay0 zy0.length cy0], .float .f32 b1] W fun e w' => e = .returned (.bool true) ∧ Below W.heap.size W w' := by
    rw [en1]
    exact walk zx0 zy0 ax0 cx0 ay0 cy0 b1 n1 W wx0 wy0 (lt_of_wf w1)
  refine hw0.mono fun e W' ⟨he, bel⟩ => ?_
  subst he
  exact ⟨_, rfl, _, _, _, [], _, [], hW', trodAll_mk1 (shut_bool Try.underlying4 _), (trodAll_cons_mk (Below.trod laidOut (by kernel_rfl) (of_decide_eq_true (by kernel_rfl)) k0 bel lt0) (trodAll_cons_mk (shut_float Try.underlying31 w1) trodAll_mk0)), rfl, bel.frame _, fun h => by cases h⟩

theorem over : Rows.fnExactToneAtRow.holds Try.pinned (OpenSpec.ofChange Rows.fnExactToneAtSpec) :=
  OpenClaim.holds_of_wide 11 Try.f11 rfl rfl rfl rfl rfl rfl rfl ⟨rfl, rfl, rfl, rfl, rfl⟩ rfl rfl rfl rfl rfl (by kernel_rfl) Try.func11 (by kernel_rfl)
    (of_decide_eq_true (by kernel_rfl)) (by unfold Func.isWrapper; first | (rw [if_pos (by decide +kernel)]; kernel_rfl) | (rw [if_neg (by decide +kernel)]; exact ⟨rfl, rfl⟩))
    (fun os started H enc _ => lifted os started H enc)

theorem proved : Rows.FnExactToneAtSaid := over
#print axioms proved

end Go.Proofs.Ytbloibljjhddaac.fnExactToneAt

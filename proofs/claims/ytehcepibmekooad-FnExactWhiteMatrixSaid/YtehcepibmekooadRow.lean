/- Slices of floats: what a row of them is, in memory and as data. No program in sight. -/
import Derived.Test.YtehcepibmekooadQn
import Derived.ProofKit
import Derived.OpenShut
import Derived.ShutString
import Derived.ChangeOld
import Derived.Below
import Derived.Lib.SmallJoins
set_option linter.unusedSimpArgs false
set_option linter.unusedVariables false
namespace Go.Proofs.Ytehcepibmekooad
open Go Go.RowKit Go.ChangeShapes Go.WideShapes Go.Deep Go.Joins

/-- The i-th of them. -/
def fat (zs : List Nat) (i : Nat) : Nat := zs.getD i 0
@[go_sem] theorem run_store_float {P : Program} {w : World} {a : Addr} (k : FloatKind) (b : Nat) (m : Mode) : (store a (.float k b) m).run P w = stored P w a (.float k b) m := run_store P w a _ m rfl

def fl (k : FloatKind) (zs : List Nat) : List Value := zs.map (.float k)

/-- A slice value that leads to a row of floats (nothing is said of its spare room). -/
def IsRowF (k : FloatKind) (w : World) (a : Option Addr) (len cap : Nat) (zs : List Nat) : Prop :=
  zs.length = len ∧ len ≤ cap ∧ cap ≤ maxLen ∧ (∀ b ∈ zs, (Lit.float k b).wf = true) ∧
  (len = 0 ∨ ∃ b off, a = some ⟨b, off, none⟩ ∧ b < w.heap.size ∧ ∀ i, i < len → w.cell? ⟨b, off + i, none⟩ = some (.float k (fat zs i)))

theorem IsRowF.below {k : FloatKind} {w w' : World} {a : Option Addr} {len cap : Nat} {zs : List Nat} (h : IsRowF k w a len cap zs) (hb : Below w.heap.size w w') : IsRowF k w' a len cap zs := by
  obtain ⟨h1, h2, h3, h4, h5⟩ := h
  refine ⟨h1, h2, h3, h4, ?_⟩
  rcases h5 with h5 | ⟨b, off, rfl, hlt, hc⟩
  · exact .inl h5
  · exact .inr ⟨b, off, rfl, Nat.lt_of_lt_of_le hlt hb.size, fun i hi => by rw [hb.cell (p := ⟨b, off + i, none⟩) hlt]; exact hc i hi⟩

section
variable {H : Type} {enc : TypeId × Value → H} {P : Program} {w : World} {base : Nat} {spare : Nat → Bool} {held : Bool}

theorem trod_float {t : TypeId} {k : FloatKind} {fuel : Nat} {cs : List Value} {x : DataW H × List MemPlace} (ht : P.underlying t = some (.float k)) (h : DataW.trod enc P w base spare held fuel t cs = some x) : ∃ b, cs = [.float k b] ∧ x = (.lit (.float k b), []) ∧ (Lit.float k b).wf = true := by
  cases fuel with
  | zero => simp [DataW.trod] at h
  | succ n =>
    unfold DataW.trod at h
    rw [ht] at h
    split at h <;> simp_all

/-- A float slice that came in. -/
theorem rowF_of {t e : TypeId} {k : FloatKind} {a : Option Addr} {len cap : Nat} {d : DataW H} {ps : List MemPlace} (ht : P.underlying t = some (.slice e)) (he : P.underlying e = some (.float k)) (hc : P.cellsOf e = 1)
    (h : DataW.Trod enc P w base spare held t (.slice a len cap) d ps) : ∃ zs, IsRowF k w a len cap zs := by
  obtain ⟨fuel, hf⟩ := h
  rcases DataW.trod_slice ht hf with ⟨h0, _⟩ | ⟨x, l, c, elems, rest, n, _, hcs, _, hb, hl, hm, hlen, hel, _, _⟩
  · simp [Value.cells] at h0
    obtain ⟨rfl, rfl, rfl⟩ := h0
    exact ⟨[], rfl, Nat.le_refl _, Nat.zero_le _, by simp, .inl rfl⟩
  · simp [Value.cells] at hcs
    obtain ⟨rfl, rfl, rfl⟩ := hcs
    have each : ∀ i, i < len → ∃ b, w.cell? (x.add i) = some (.float k b) ∧ (Lit.float k b).wf = true := by
      intro i hi
      have h1 := hel i hi
      have h2 : elems[i]? = some (elems[i]'(by omega)) := List.getElem?_eq_getElem _
      rw [h2, hc, Nat.mul_one, Option.bind_eq_some_iff] at h1
      obtain ⟨cs', hcs', hy'⟩ := h1
      obtain ⟨b, rfl, _, hw⟩ := trod_float he hy'
      exact ⟨b, cell_of_cells?_one hcs', hw⟩
    obtain ⟨zs, hz1, hz2⟩ : ∃ zs : List Nat, zs.length = len ∧ ∀ i, i < len → w.cell? (x.add i) = some (.float k (zs.getD i 0)) ∧ (Lit.float k (zs.getD i 0)).wf = true := by
      refine ⟨(List.range len).map (fun i => if h : i < len then (each i h).choose else 0), by simp, fun i hi => ?_⟩
      have e : ((List.range len).map (fun i => if h : i < len then (each i h).choose else 0)).getD i 0 = (each i hi).choose := by
        rw [List.getD, List.getElem?_map, List.getElem?_range hi]; simp [hi]
      rw [e]
      exact (each i hi).choose_spec
    refine ⟨zs, hz1, hl, hm, ?_, ?_⟩
    · intro b hbm
      obtain ⟨i, hi, rfl⟩ := List.getElem_of_mem hbm
      have := (hz2 i (by omega)).2
      rwa [List.getD, List.getElem?_eq_getElem hi] at this
    · by_cases h0 : len = 0
      · exact .inl h0
      · obtain ⟨b, off, spot⟩ := x
        have hs : spot = none := by simpa [Addr.add] using World.cell?_spot (hz2 0 (by omega)).1
        subst hs
        refine .inr ⟨b, off, rfl, ?_, fun i hi => by
          have h := (hz2 i hi).1
          have e : (⟨b, off, none⟩ : Addr).add i = ⟨b, off + i, none⟩ := by unfold Addr.add; split <;> simp_all
          rw [e] at h; exact h⟩
        exact World.block_lt_of_cell? w _ (hz2 0 (by omega)).1
end

/-- A struct of two ints and a float slice that came in. -/
theorem open_pic {H : Type} {enc : TypeId × Value → H} {P : Program} {w : World} {base : Nat} {spare : Nat → Bool} {held : Bool} {r : Reach} {b0 : Nat} {t e : TypeId} {f0 f1 f2 : Field} {v : Value} {d : DataW H} {p : List MemPlace}
    (hs : P.underlying t = some (.struct #[f0, f1, f2])) (hone : oneCellFields P #[f0, f1, f2] = true) (hC : P.cellsOf t = 3) (u0 : P.underlying f0.type = some (.int .i64)) (u1 : P.underlying f1.type = some (.int .i64))
    (u2 : P.underlying f2.type = some (.slice e)) (ue : P.underlying e = some (.float .f32)) (hc : P.cellsOf e = 1) (hv : Value.okWide P w r b0 t v) (h : DataW.Trod enc P w base spare held t v d p) :
    ∃ (W H : Int) (zs : List Nat) (a : Option Addr) (c : Nat), v = .agg #[.int .i64 W, .int .i64 H, .slice a zs.length c] ∧ (Lit.int .i64 W).wf = true ∧ (Lit.int .i64 H).wf = true ∧ IsRowF .f32 w a zs.length c zs := by
  obtain ⟨v0, v1, v2, y0, y1, y2, n, rfl, _, _, h0, h1, h2⟩ := Go.Joins.open_agg3 hs hone hC hv h
  obtain ⟨W, e0, _, w0⟩ := DataW.trod_int u0 h0
  obtain ⟨H', e1, _, w1⟩ := DataW.trod_int u1 h1
  simp only [List.cons.injEq, and_true] at e0 e1
  subst e0 e1
  obtain ⟨a, len, cap, rfl⟩ : ∃ a len cap, v2 = .slice a len cap := by
    rcases DataW.trod_slice u2 h2 with ⟨e, _⟩ | ⟨x, l, c, _, _, _, _, e, _⟩
    · simp only [List.cons.injEq, and_true] at e; exact ⟨_, _, _, e⟩
    · simp only [List.cons.injEq, and_true] at e; exact ⟨_, _, _, e⟩
  obtain ⟨zs, hz⟩ := rowF_of u2 ue hc ⟨n, h2⟩
  obtain rfl : zs.length = len := hz.1
  exact ⟨W, H', zs, a, cap, rfl, w0, w1, hz⟩

/-! ### rows that the call has made -/
theorem block_of_owns {w : World} {B g : Nat} {e : TypeId} {n : Nat} {xs : List Value} (h : w.ownsRow B e 1 (.slice (some ⟨g, 0, none⟩) n n) n xs) : w.heap[g]? = some (.cells xs.toArray e (0, 0)) := by
  rcases h.2 with ⟨h', _⟩ | ⟨g', cap', cur, h', hb, hg, hnc, hcm, hcs, htake⟩
  · simp at h'
  · simp only [Value.slice.injEq, Option.some.injEq, Addr.mk.injEq, and_true, true_and] at h'
    obtain ⟨rfl, rfl⟩ := h'
    rw [hg]
    have e1 : cur.toList.take (n * 1) = cur.toList := List.take_of_length_le (by simp [hcs])
    rw [e1] at htake
    rw [← htake]

theorem cell_of_block {w : World} {g : Nat} {e : TypeId} {xs : List Value} (h : w.heap[g]? = some (.cells xs.toArray e (0, 0))) (i : Nat) : w.cell? ⟨g, i, none⟩ = xs[i]? := by
  rw [cell_of_row w g i xs.toArray e (0, 0) h]; simp
theorem frozen_of_block {w : World} {g : Nat} {e : TypeId} {xs : List Value} (h : w.heap[g]? = some (.cells xs.toArray e (0, 0))) (i : Nat) : w.frozen? ⟨g, i, none⟩ = false :=
  frozen_of_row w g i xs.toArray e h
theorem block_lt {w : World} {g : Nat} {o : Obj} (h : w.heap[g]? = some o) : g < w.heap.size := by
  rcases Nat.lt_or_ge g w.heap.size with h' | h'
  · exact h'
  · rw [Array.getElem?_eq_none h'] at h; cases h
theorem block_set {w : World} {g : Nat} {e : TypeId} {xs : List Value} (h : w.heap[g]? = some (.cells xs.toArray e (0, 0))) (i : Nat) (u : Value) : (w.setCell ⟨g, i, none⟩ u).heap[g]? = some (.cells (xs.set i u).toArray e (0, 0)) := by
  rw [heap_setCell_same w g i xs.toArray e u h]; simp

/-- Of a new row of floats. -/
def NewF (k : FloatKind) (zs : List Nat) (len : Nat) (w : World) (e : Ending) (w' : World) : Prop :=
  ∃ g, e = .returned (.slice (some ⟨g, 0, none⟩) len len) ∧ w.heap.size ≤ g ∧ Below w.heap.size w w' ∧ IsRowF k w' (some ⟨g, 0, none⟩) len len zs ∧ ∀ i, w'.frozen? ⟨g, i, none⟩ = false

theorem rowF_of_block {k : FloatKind} {w : World} {g : Nat} {e : TypeId} {zs : List Nat} (h : w.heap[g]? = some (.cells (fl k zs).toArray e (0, 0))) (hz : zs.length ≤ maxLen) (hw : ∀ b ∈ zs, (Lit.float k b).wf = true) :
    IsRowF k w (some ⟨g, 0, none⟩) zs.length zs.length zs := by
  refine ⟨rfl, Nat.le_refl _, hz, hw, .inr ⟨g, 0, rfl, block_lt h, fun i hi => ?_⟩⟩
  rw [Nat.zero_add, cell_of_block h]
  unfold fat
  unfold fl
  rw [List.getElem?_map, List.getD, List.getElem?_eq_getElem hi]; rfl

theorem set_step {k : FloatKind} (zs : List Nat) (z : Value) (j : Nat) (hj : j < zs.length) :
    (fl k (zs.take j) ++ List.replicate (zs.length - j) z).set j (.float k (fat zs j)) = fl k (zs.take (j + 1)) ++ List.replicate (zs.length - (j + 1)) z := by
  unfold fat
  have e1 : (fl k (zs.take j)).length = j := by simp [fl]; omega
  rw [List.set_append_right _ _ (by omega), e1, Nat.sub_self]
  have e2 : zs.length - j = (zs.length - (j + 1)) + 1 := by omega
  rw [e2, List.replicate_succ, List.set_cons_zero, List.take_succ_eq_append_getElem hj]
  unfold fl
  rw [List.map_append, List.append_assoc, List.getD, List.getElem?_eq_getElem hj]; rfl

theorem made_zeros (z : Value) (n : Nat) : (madeCells #[z] n).toList = List.replicate n z := by
  unfold madeCells
  apply List.ext_getElem
  · simp
  · intro i h1 h2; simp [Nat.mod_one]

theorem bcell {B : Nat} {W w1 : World} (hb : Below B W w1) : (∀ b o, b < B → w1.cell? ⟨b, o, none⟩ = W.cell? ⟨b, o, none⟩) ∧ (∀ b o, b < B → w1.frozen? ⟨b, o, none⟩ = W.frozen? ⟨b, o, none⟩) :=
  ⟨fun b o h => hb.cell (p := ⟨b, o, none⟩) h, fun b o h => hb.frozen (p := ⟨b, o, none⟩) h⟩
/-- Of a value, where memory may have grown. -/
def RetB (v : Value) (w : World) (e : Ending) (w' : World) : Prop := e = .returned v ∧ Below w.heap.size w w'

theorem RetV.toB {v : Value} {w : World} {e : Ending} {w' : World} (h : RetV v w e w') : RetB v w e w' := by
  obtain ⟨m, h1, rfl⟩ := h; exact ⟨h1, below_drewN (Below.refl _ _) _⟩
/-! ### rows of floats of the call's own -/
/-- A slice of the call's own (nil, or at the head of a block from B on), and what it holds. -/
def Own (T : TypeId) (w : World) (B : Nat) (a : Option Addr) (len cap : Nat) (zs : List Nat) : Prop :=
  zs.length = len ∧ w.ownsRow B T 1 (.slice a len cap) len (fl .f32 zs) ∧ ∀ b ∈ zs, (Lit.float .f32 b).wf = true

theorem Own.nil (T : TypeId) (w : World) (B : Nat) : Own T w B none 0 0 [] := ⟨rfl, World.ownsRow_nil _ _ _ _, by simp⟩

theorem Own.parts {T : TypeId} {w : World} {B : Nat} {a : Option Addr} {len cap : Nat} {zs : List Nat} (h : Own T w B a len cap zs) :
    (a = none ∧ len = 0 ∧ cap = 0 ∧ zs = []) ∨ ∃ g cur, a = some ⟨g, 0, none⟩ ∧ B ≤ g ∧ w.heap[g]? = some (.cells cur T (0, 0)) ∧ len ≤ cap ∧ cap ≤ maxLen ∧ cur.size = cap ∧ cur.toList.take len = fl .f32 zs := by
  obtain ⟨h1, ⟨h2, h3⟩, h4⟩ := h
  rcases h3 with ⟨h3, rfl⟩ | ⟨g, cap', cur, h3, hb, hg, hl, hm, hs, ht⟩
  · simp only [Value.slice.injEq] at h3
    exact .inl ⟨h3.1, rfl, h3.2.2, List.eq_nil_of_length_eq_zero h1⟩
  · simp only [Value.slice.injEq] at h3
    obtain ⟨rfl, _, rfl⟩ := h3
    exact .inr ⟨g, cur, rfl, hb, hg, hl, hm, by simpa using hs, by simpa using ht⟩

theorem Own.row {T : TypeId} {w : World} {B : Nat} {a : Option Addr} {len cap : Nat} {zs : List Nat} (h : Own T w B a len cap zs) : IsRowF .f32 w a len cap zs := by
  rcases h.parts with ⟨rfl, rfl, rfl, rfl⟩ | ⟨g, cur, rfl, hb, hg, hl, hm, hs, ht⟩
  · exact ⟨rfl, Nat.le_refl _, Nat.zero_le _, by simp, .inl rfl⟩
  · refine ⟨h.1, hl, hm, h.2.2, .inr ⟨g, 0, rfl, (Array.getElem?_eq_some_iff.1 hg).1, fun i hi => ?_⟩⟩
    rw [Nat.zero_add, cell_of_row w g i cur T (0, 0) hg]
    have e : (cur.toList.take len)[i]? = (fl .f32 zs)[i]? := by rw [ht]
    rw [List.getElem?_take, if_pos hi] at e
    unfold fat
    rw [← Array.getElem?_toList, e]
    unfold fl
    rw [List.getElem?_map, List.getD, List.getElem?_eq_getElem (by rw [h.1]; exact hi)]; rfl

theorem Own.frozen {T : TypeId} {w : World} {B g : Nat} {len cap : Nat} {zs : List Nat} (h : Own T w B (some ⟨g, 0, none⟩) len cap zs) (i : Nat) : w.frozen? ⟨g, i, none⟩ = false := by
  rcases h.parts with ⟨h, _⟩ | ⟨g', cur, h, _, hg, _⟩
  · cases h
  · simp only [Option.some.injEq, Addr.mk.injEq, and_true] at h
    subst h
    exact frozen_of_row w g i cur T hg

theorem Own.lt {T : TypeId} {w : World} {B g : Nat} {len cap : Nat} {zs : List Nat} (h : Own T w B (some ⟨g, 0, none⟩) len cap zs) : B ≤ g ∧ g < w.heap.size := by
  have := h.2.1.lt g rfl; exact this

/-- The row's block. -/
def blk (a : Option Addr) : Option Nat := a.map (·.block)
theorem own_blk (a : Option Addr) (len cap : Nat) : (Value.slice a len cap).ownBlock = blk a := by cases a <;> rfl
theorem Own.in {T : TypeId} {w : World} {B : Nat} {a : Option Addr} {len cap : Nat} {zs : List Nat} (h : Own T w B a len cap zs) : ∀ g, blk a = some g → B ≤ g ∧ g < w.heap.size := by
  intro g hg
  have := h.2.1.lt g (by rw [own_blk]; exact hg); exact this

theorem Own.kept {T : TypeId} {w w' : World} {B : Nat} {a : Option Addr} {len cap : Nat} {zs : List Nat} {row : Option Nat} (h : Own T w B a len cap zs) (hg : w.grownBy w' row) (hn : blk a = none ∨ blk a ≠ row) : Own T w' B a len cap zs :=
  ⟨h.1, h.2.1.kept hg (by rw [own_blk]; exact hn), h.2.2⟩
theorem grown_of_below {w w' : World} (h : Below w.heap.size w w') : w.grownBy w' none := ⟨h.os, h.tape, h.output, h.size, fun k hk _ => h.block k hk⟩
theorem Own.below {T : TypeId} {w w' : World} {B : Nat} {a : Option Addr} {len cap : Nat} {zs : List Nat} (h : Own T w B a len cap zs) (hb : Below w.heap.size w w') : Own T w' B a len cap zs :=
  h.kept (grown_of_below hb) (by cases blk a <;> simp)
theorem Own.alloc {T : TypeId} {w : World} {B : Nat} {a : Option Addr} {len cap : Nat} {zs : List Nat} (h : Own T w B a len cap zs) (o : Obj) : Own T (w.alloc o) B a len cap zs :=
  h.below ((Below.refl _ _).alloc (Nat.le_refl _) o)
theorem Own.drewN {T : TypeId} {w : World} {B : Nat} {a : Option Addr} {len cap : Nat} {zs : List Nat} (h : Own T w B a len cap zs) (n : Nat) : Own T (w.drewN n) B a len cap zs :=
  h.below (below_drewN (Below.refl _ _) n)
theorem Own.mono {T : TypeId} {w : World} {B B' : Nat} {a : Option Addr} {len cap : Nat} {zs : List Nat} (h : Own T w B a len cap zs) (hB : B' ≤ B) : Own T w B' a len cap zs := by
  refine ⟨h.1, ⟨h.2.1.1, ?_⟩, h.2.2⟩
  rcases h.2.1.2 with h' | ⟨g, c, cur, h1, h2, h3⟩
  · exact .inl h'
  · exact .inr ⟨g, c, cur, h1, Nat.le_trans hB h2, h3⟩
theorem Own.re {T : TypeId} {w : World} {B : Nat} {a : Option Addr} {len len' cap : Nat} {zs : List Nat} (e : len = len') (h : Own T w B a len cap zs) : Own T w B a len' cap zs := e ▸ h
theorem Own.setCell {T : TypeId} {w : World} {B : Nat} {a : Option Addr} {len cap : Nat} {zs : List Nat} (h : Own T w B a len cap zs) {p : Addr} (hp : blk a ≠ some p.block) (v : Value) : Own T (w.setCell p v) B a len cap zs := by
  refine h.kept (row := some p.block) ⟨rfl, rfl, rfl, by simp, fun k _ hk => Below.heap_setCell w p v k (fun e => hk (by rw [e]))⟩ (.inr hp)

theorem IsRowF.alloc {k : FloatKind} {w : World} {a : Option Addr} {len cap : Nat} {zs : List Nat} (h : IsRowF k w a len cap zs) (o : Obj) : IsRowF k (w.alloc o) a len cap zs := h.below ((Below.refl _ _).alloc (Nat.le_refl _) o)
theorem IsRowF.drewN {k : FloatKind} {w : World} {a : Option Addr} {len cap : Nat} {zs : List Nat} (h : IsRowF k w a len cap zs) (n : Nat) : IsRowF k (w.drewN n) a len cap zs := h.below (below_drewN (Below.refl _ _) n)

/-- Of a new row. -/
def NewO (T : TypeId) (len : Nat) (zs : List Nat) (w : World) (e : Ending) (w' : World) : Prop :=
  ∃ g, e = .returned (.slice (some ⟨g, 0, none⟩) len len) ∧ Below w.heap.size w w' ∧ Own T w' w.heap.size (some ⟨g, 0, none⟩) len len zs
/-- Of a new picture: two ints and a new row of floats. -/
def NewP (T : TypeId) (W H : Int) (zs : List Nat) (w : World) (e : Ending) (w' : World) : Prop :=
  ∃ g, e = .returned (.agg #[.int .i64 W, .int .i64 H, .slice (some ⟨g, 0, none⟩) zs.length zs.length]) ∧ Below w.heap.size w w' ∧ Own T w' w.heap.size (some ⟨g, 0, none⟩) zs.length zs.length zs
/-- What a function that makes a picture answers. -/
structure PRes where
  W : Int
  H : Int
  zs : List Nat
  ok : Bool
def PRes.no : PRes := ⟨0, 0, [], false⟩
/-- Of a picture and a bool. -/
def RetP (T : TypeId) (r : PRes) (w : World) (e : Ending) (w' : World) : Prop :=
  ∃ a cap, e = .returned (.tuple #[.agg #[.int .i64 r.W, .int .i64 r.H, .slice a r.zs.length cap], .bool r.ok]) ∧ r.zs.length ≤ 1048576 ∧ Below w.heap.size w w' ∧ Own T w' w.heap.size a r.zs.length cap r.zs
/-- Of one float or two and a bool. -/
def RetF1 (r : Nat × Bool) (w : World) (e : Ending) (w' : World) : Prop := ∃ n, e = .returned (.tuple #[.float .f32 (pick .f32 r.1 n), .bool r.2]) ∧ Below w.heap.size w w'
def RetF2 (r : Nat × Nat × Bool) (w : World) (e : Ending) (w' : World) : Prop := ∃ n m, e = .returned (.tuple #[.float .f32 (pick .f32 r.1 n), .float .f32 (pick .f32 r.2.1 m), .bool r.2.2]) ∧ Below w.heap.size w w'
def RetI1 (r : Int × Bool) (w : World) (e : Ending) (w' : World) : Prop := e = .returned (.tuple #[.int .i64 r.1, .bool r.2]) ∧ Below w.heap.size w w'
def RetS1 (r : ByteArray × Bool) (w : World) (e : Ending) (w' : World) : Prop := e = .returned (.tuple #[.string r.1, .bool r.2]) ∧ Below w.heap.size w w'
theorem blk_apart {a b : Option Addr} {l1 h1 l2 h2 : Nat} (ha : ∀ g, blk a = some g → l1 ≤ g ∧ g < h1) (hb : ∀ g, blk b = some g → l2 ≤ g ∧ g < h2) (h : h1 ≤ l2 ∨ h2 ≤ l1) : blk a = none ∨ blk a ≠ blk b := by
  cases hx : blk a with
  | none => exact .inl rfl
  | some g =>
    refine .inr fun e => ?_
    have h3 := ha g hx
    have h4 := hb g e.symm
    omega

/-! ### marks -/
def markN (k i : Nat) : Nat := floatOfInt .f32 ((k + i : Nat) : Int)
def marks (k n : Nat) : List Nat := (List.range n).map (markN k)
theorem marks_length (k n : Nat) : (marks k n).length = n := by simp [marks]
theorem marks_at (k n i : Nat) (h : i < n) : fat (marks k n) i = markN k i := by
  unfold fat marks; rw [List.getD, List.getElem?_map, List.getElem?_range h]; rfl
theorem marks_wf (k n : Nat) : ∀ b ∈ marks k n, (Lit.float .f32 b).wf = true := by
  intro b hb
  simp only [marks, List.mem_map] at hb
  obtain ⟨i, _, rfl⟩ := hb
  exact floatOfInt_wf .f32 _
theorem markN_notN (k i : Nat) : isN .f32 (markN k i) = false := nearest_notNaN _ _ _ _
/-- What has been marked so far. -/
def Marked (w : World) (g : Nat) (T : TypeId) (cap k j : Nat) : Prop := ∃ cur : Array Value, w.heap[g]? = some (.cells cur T (0, 0)) ∧ cur.size = cap ∧ ∀ i, i < j → cur[i]? = some (.float .f32 (markN k i))
theorem Marked.step {w : World} {g : Nat} {T : TypeId} {cap k j : Nat} (h : Marked w g T cap k j) (hj : j < cap) : Marked (w.setCell ⟨g, j, none⟩ (.float .f32 (markN k j))) g T cap k (j + 1) := by
  obtain ⟨cur, h1, h2, h3⟩ := h
  refine ⟨cur.setIfInBounds j (.float .f32 (markN k j)), ?_, by simpa using h2, fun i hi => ?_⟩
  · rw [heap_setCell_same w g j cur T _ h1]
  · rw [Array.getElem?_setIfInBounds]
    by_cases e : j = i
    · subst e; rw [if_pos rfl, if_pos (by omega)]
    · rw [if_neg e]; exact h3 i (by omega)
theorem Marked.cell {w : World} {g : Nat} {T : TypeId} {cap k j : Nat} (h : Marked w g T cap k j) (hj : j < cap) : ∃ v, w.cell? ⟨g, j, none⟩ = some v ∧ w.frozen? ⟨g, j, none⟩ = false := by
  obtain ⟨cur, h1, h2, h3⟩ := h
  refine ⟨cur[j]'(by omega), ?_, frozen_of_row w g j cur T h1⟩
  rw [cell_of_row w g j cur T (0, 0) h1]; simp
theorem Marked.own {w : World} {B g : Nat} {T : TypeId} {len cap k : Nat} (h : Marked w g T cap k len) (hB : B ≤ g) (hl : len ≤ cap) (hm : cap ≤ maxLen) : Own T w B (some ⟨g, 0, none⟩) len cap (marks k len) := by
  obtain ⟨cur, h1, h2, h3⟩ := h
  refine ⟨marks_length k len, ⟨by simp [fl, marks], .inr ⟨g, cap, cur, rfl, hB, h1, hl, hm, by simpa using h2, ?_⟩⟩, marks_wf k len⟩
  apply List.ext_getElem?
  intro i
  rw [Nat.mul_one, List.getElem?_take]
  by_cases hi : i < len
  · rw [if_pos hi, Array.getElem?_toList, h3 i hi]
    simp [fl, marks, List.getElem?_range hi]
  · rw [if_neg hi, List.getElem?_eq_none]; simp [fl, marks]; omega

/-! ### blocks of variables -/
/-- A block that holds one value of several cells. -/
def Var (w : World) (b : Nat) (cs : Array Value) : Prop := b < w.heap.size ∧ ∀ i (h : i < cs.size), w.cell? ⟨b, i, none⟩ = some cs[i]
theorem Var.below {w w' : World} {b : Nat} {cs : Array Value} {B : Nat} (h : Var w b cs) (hb : Below B w w') (hB : b < B) : Var w' b cs :=
  ⟨Nat.lt_of_lt_of_le h.1 hb.size, fun i hi => by rw [hb.cell (p := ⟨b, i, none⟩) hB]; exact h.2 i hi⟩
theorem Var.lt {w : World} {b : Nat} {cs : Array Value} (h : Var w b cs) : b < w.heap.size := h.1
theorem Var.keep {w w' : World} {b : Nat} {cs : Array Value} (h : Var w b cs) (hb : Below w.heap.size w w') : Var w' b cs := h.below hb h.1
theorem Var.alloc {w : World} {b : Nat} {cs : Array Value} (h : Var w b cs) (o : Obj) : Var (w.alloc o) b cs := h.keep ((Below.refl _ _).alloc (Nat.le_refl _) o)
theorem Var.new (w : World) (cs : Array Value) (t : TypeId) : Var (w.alloc (.cells cs t)) w.heap.size cs :=
  ⟨by simp, fun i hi => by rw [cell_of_row _ w.heap.size i cs t (0, 0) (heap_alloc_new w _)]; exact Array.getElem?_eq_getElem hi⟩
theorem Var.new' (w : World) (cs : Array Value) (t : TypeId) (b : Nat) (hb : b = w.heap.size) : Var (w.alloc (.cells cs t)) b cs := by subst hb; exact Var.new w cs t
theorem Var.kept {w w' : World} {b : Nat} {cs : Array Value} {row : Option Nat} (h : Var w b cs) (hg : w.grownBy w' row) (hn : some b ≠ row) : Var w' b cs :=
  ⟨Nat.lt_of_lt_of_le h.1 hg.size, fun i hi => by rw [World.cell?_of_block (w := w) (hg.block b h.1 hn)]; exact h.2 i hi⟩
theorem Var.three {w : World} {b : Nat} {x y z : Value} (h : Var w b #[x, y, z]) : w.cell? ⟨b, 0, none⟩ = some x ∧ w.cell? ⟨b, 1, none⟩ = some y ∧ w.cell? ⟨b, 2, none⟩ = some z := ⟨h.2 0 (by simp), h.2 1 (by simp), h.2 2 (by simp)⟩
theorem Var.mk3 {w : World} {b : Nat} {x y z : Value} (hb : b < w.heap.size) (h0 : w.cell? ⟨b, 0, none⟩ = some x) (h1 : w.cell? ⟨b, 1, none⟩ = some y) (h2 : w.cell? ⟨b, 2, none⟩ = some z) : Var w b #[x, y, z] :=
  ⟨hb, fun i hi => by
    match i, hi with
    | 0, _ => exact h0
    | 1, _ => exact h1
    | 2, _ => exact h2
    | n + 3, h => exact absurd h (by simp)⟩

/-- The sum from left to right. -/
def sumF (op : BinOp) (k : FloatKind) (s : Nat) (zs : List Nat) : Nat := zs.foldl (fop op k) s
theorem sumF_snoc (op : BinOp) (k : FloatKind) (s : Nat) (zs : List Nat) (j : Nat) (hj : j < zs.length) : sumF op k s (zs.take (j + 1)) = fop op k (sumF op k s (zs.take j)) (fat zs j) := by
  unfold sumF fat
  rw [List.take_succ_eq_append_getElem hj, List.foldl_append, List.getD, List.getElem?_eq_getElem hj]; rfl

/-- The sum of products, from left to right. -/
def dotF (k : FloatKind) : Nat → List Nat → List Nat → Nat
  | s, x :: xs, y :: ys => dotF k (fop .add k s (fop .mul k x y)) xs ys
  | s, _, _ => s
theorem dotF_snoc (k : FloatKind) : ∀ (xs ys : List Nat) (s j : Nat), j < xs.length → j < ys.length →
    dotF k s (xs.take (j + 1)) (ys.take (j + 1)) = fop .add k (dotF k s (xs.take j) (ys.take j)) (fop .mul k (fat xs j) (fat ys j))
  | [], _, _, _, h, _ => by simp at h
  | _ :: _, [], _, _, _, h => by simp at h
  | x :: xs, y :: ys, s, 0, _, _ => by simp [dotF, fat]
  | x :: xs, y :: ys, s, j + 1, h1, h2 => by
    have := dotF_snoc k xs ys (fop .add k s (fop .mul k x y)) j (by simpa using h1) (by simpa using h2)
    simpa [dotF, fat] using this

/-! ### rows whose NaNs are of any bits -/
def near (zs' zs : List Nat) : Prop := zs'.length = zs.length ∧ ∀ i, i < zs.length → ∃ n, fat zs' i = pick .f32 (fat zs i) n
theorem near_nil : near [] [] := ⟨rfl, fun i h => by simp at h⟩
theorem fat_append_left {a b : List Nat} {i : Nat} (h : i < a.length) : fat (a ++ b) i = fat a i := by simp [fat, List.getD, List.getElem?_append_left h]
theorem fat_append_right {a : List Nat} {x : Nat} : fat (a ++ [x]) a.length = x := by simp [fat]
theorem take_snoc_fat (l : List Nat) (k : Nat) (h : k < l.length) : l.take (k + 1) = l.take k ++ [fat l k] := by
  rw [List.take_succ_eq_append_getElem h]; simp [fat, h]
theorem near_snoc {zs' l : List Nat} {k : Nat} (h : near zs' (l.take k)) (hk : k < l.length) (n : Nat) : near (zs' ++ [pick .f32 (fat l k) n]) (l.take (k + 1)) := by
  have hl : zs'.length = k := by have := h.1; simp at this; omega
  rw [take_snoc_fat l k hk]
  refine ⟨by simp [h.1], fun i hi => ?_⟩
  have hi' : i < k + 1 := by simp at hi; omega
  by_cases hik : i < k
  · rw [fat_append_left (by omega), fat_append_left (by simp; omega)]
    exact h.2 i (by simp; omega)
  · have : i = k := by omega
    subst this
    refine ⟨n, ?_⟩
    have e1 : fat (zs' ++ [pick .f32 (fat l i) n]) i = pick .f32 (fat l i) n := by rw [← hl]; exact fat_append_right
    have e2 : fat (l.take i ++ [fat l i]) i = fat l i := by
      have : (l.take i).length = i := by simp; omega
      rw [show fat (l.take i ++ [fat l i]) i = fat (l.take i ++ [fat l i]) (l.take i).length by rw [this]]; exact fat_append_right
    rw [e1, e2]
theorem fat_ext {a b : List Nat} (hl : a.length = b.length) (h : ∀ i, i < b.length → fat a i = fat b i) : a = b := by
  apply List.ext_getElem hl
  intro i h1 h2
  have := h i h2
  simpa [fat, h1, h2] using this
theorem mem_fat {a : List Nat} {x : Nat} (h : x ∈ a) : ∃ i, i < a.length ∧ x = fat a i := by
  obtain ⟨i, hi, rfl⟩ := List.getElem_of_mem h
  exact ⟨i, hi, by simp [fat, hi]⟩
theorem fat_mem {a : List Nat} {i : Nat} (h : i < a.length) : fat a i ∈ a := by
  have e : fat a i = a[i] := by simp [fat, h]
  rw [e]; exact List.getElem_mem h
theorem near_fin {zs' zs : List Nat} (h : near zs' zs) : zs'.all (finB .f32) = zs.all (finB .f32) := by
  rw [Bool.eq_iff_iff, List.all_eq_true, List.all_eq_true]
  constructor
  · intro h' x hx
    obtain ⟨i, hi, rfl⟩ := mem_fat hx
    obtain ⟨n, hn⟩ := h.2 i hi
    have := h' _ (fat_mem (by rw [h.1]; exact hi : i < zs'.length))
    rw [hn, finB_pick] at this; exact this
  · intro h' x hx
    obtain ⟨i, hi, rfl⟩ := mem_fat hx
    rw [h.1] at hi
    obtain ⟨n, hn⟩ := h.2 i hi
    rw [hn, finB_pick]; exact h' _ (fat_mem hi)
theorem fin_notN {v : Nat} (h : finB .f32 v = true) : isN .f32 v = false := by
  cases e : isN .f32 v
  · rfl
  · rw [finB_nan e] at h; cases h
theorem near_eq {zs' zs : List Nat} (h : near zs' zs) (hf : zs.all (finB .f32) = true) : zs' = zs := by
  refine fat_ext h.1 fun i hi => ?_
  obtain ⟨n, hn⟩ := h.2 i hi
  rw [hn, pick_not (fin_notN (List.all_eq_true.1 hf _ (fat_mem hi)))]

theorem IsRowF.at {w : World} {a : Option Addr} {len cap : Nat} {zs : List Nat} (h : IsRowF .f32 w a len cap zs) {k : Nat} (hk : k < len) : ∃ b off n, a = some ⟨b, off, none⟩ ∧ b < w.heap.size ∧ w.cell? ⟨b, off + k, none⟩ = some (.float .f32 (pick .f32 (fat zs k) n)) := by
  obtain ⟨h1, h2, h3, h4, h5⟩ := h
  rcases h5 with h5 | ⟨b, off, rfl, hb, hc⟩
  · omega
  · obtain ⟨n, hn⟩ := pick_onto .f32 (fat zs k) (lt_of_wf (h4 _ (fat_mem (by omega))))
    exact ⟨b, off, n, rfl, hb, by rw [← hn]; exact hc k hk⟩
end Go.Proofs.Ytehcepibmekooad

/- Slices of floats: what a row of them is, in memory and as data. No program in sight. -/
import Derived.Test.YtfohhljadpchgaaQn
import Derived.ProofKit
import Derived.OpenShut
import Derived.ShutString
import Derived.ChangeOld
import Derived.Below
set_option linter.unusedSimpArgs false
set_option linter.unusedVariables false
namespace Go.Proofs.Ytfohhljadpchgaa
open Go Go.RowKit Go.ChangeShapes Go.WideShapes

/-- The i-th of them. -/
def fat (zs : List Nat) (i : Nat) : Nat := zs.getD i 0
@[go_sem] theorem run_store_float {P : Program} {w : World} {a : Addr} (k : FloatKind) (b : Nat) (m : Mode) : (store a (.float k b) m).run P w = stored P w a (.float k b) m := run_store P w a _ m rfl

def fl (k : FloatKind) (zs : List Nat) : List Value := zs.map (.float k)

/-- A slice value that leads to a row of floats (nothing is said of its spare room). -/
def IsRowF (k : FloatKind) (w : World) (a : Option Addr) (len cap : Nat) (zs : List Nat) : Prop :=
  zs.length = len ∧ len ≤ cap ∧ cap ≤ maxLen ∧ (∀ b ∈ zs, (Lit.float k b).wf = true) ∧
  (len = 0 ∨ ∃ b off, a = some ⟨b, off, none⟩ ∧ b < w.heap.size ∧ ∀ i, i < len → w.cell? ⟨b, off + i, none⟩ = some (.float k (fat zs i)))

theorem IsRowF.below {k : FloatKind} {w w' : World} {a : Option Addr} {len cap : Nat} {zs : List Nat} (h : IsRowF k w a len cap zs) (hb : Below w.heap.size w w') : IsRowF k w' a len cap zs := by
  obtain ⟨h1, h2, h3, h4, h5⟩ := h
  refine ⟨h1, h2, h3, h4, ?_⟩
  rcases h5 with h5 | ⟨b, off, rfl, hlt, hc⟩
  · exact .inl h5
  · exact .inr ⟨b, off, rfl, Nat.lt_of_lt_of_le hlt hb.size, fun i hi => by rw [hb.cell (p := ⟨b, off + i, none⟩) hlt]; exact hc i hi⟩

section
variable {H : Type} {enc : TypeId × Value → H} {P : Program} {w : World} {base : Nat} {spare : Nat → Bool} {held : Bool}

theorem trod_float {t : TypeId} {k : FloatKind} {fuel : Nat} {cs : List Value} {x : DataW H × List MemPlace} (ht : P.underlying t = some (.float k)) (h : DataW.trod enc P w base spare held fuel t cs = some x) : ∃ b, cs = [.float k b] ∧ x = (.lit (.float k b), []) ∧ (Lit.float k b).wf = true := by
  cases fuel with
  | zero => simp [DataW.trod] at h
  | succ n =>
    unfold DataW.trod at h
    rw [ht] at h
    split at h <;> simp_all

/-- A float slice that came in. -/
theorem rowF_of {t e : TypeId} {k : FloatKind} {a : Option Addr} {len cap : Nat} {d : DataW H} {ps : List MemPlace} (ht : P.underlying t = some (.slice e)) (he : P.underlying e = some (.float k)) (hc : P.cellsOf e = 1)
    (h : DataW.Trod enc P w base spare held t (.slice a len cap) d ps) : ∃ zs, IsRowF k w a len cap zs := by
  obtain ⟨fuel, hf⟩ := h
  rcases DataW.trod_slice ht hf with ⟨h0, _⟩ | ⟨x, l, c, elems, rest, n, _, hcs, _, hb, hl, hm, hlen, hel, _, _⟩
  · simp [Value.cells] at h0
    obtain ⟨rfl, rfl, rfl⟩ := h0
    exact ⟨[], rfl, Nat.le_refl _, Nat.zero_le _, by simp, .inl rfl⟩
  · simp [Value.cells] at hcs
    obtain ⟨rfl, rfl, rfl⟩ := hcs
    have each : ∀ i, i < len → ∃ b, w.cell? (x.add i) = some (.float k b) ∧ (Lit.float k b).wf = true := by
      intro i hi
      have h1 := hel i hi
      have h2 : elems[i]? = some (elems[i]'(by omega)) := List.getElem?_eq_getElem _
      rw [h2, hc, Nat.mul_one, Option.bind_eq_some_iff] at h1
      obtain ⟨cs', hcs', hy'⟩ := h1
      obtain ⟨b, rfl, _, hw⟩ := trod_float he hy'
      exact ⟨b, cell_of_cells?_one hcs', hw⟩
    obtain ⟨zs, hz1, hz2⟩ : ∃ zs : List Nat, zs.length = len ∧ ∀ i, i < len → w.cell? (x.add i) = some (.float k (zs.getD i 0)) ∧ (Lit.float k (zs.getD i 0)).wf = true := by
      refine ⟨(List.range len).map (fun i => if h : i < len then (each i h).choose else 0), by simp, fun i hi => ?_⟩
      have e : ((List.range len).map (fun i => if h : i < len then (each i h).choose else 0)).getD i 0 = (each i hi).choose := by
        rw [List.getD, List.getElem?_map, List.getElem?_range hi]; simp [hi]
      rw [e]
      exact (each i hi).choose_spec
    refine ⟨zs, hz1, hl, hm, ?_, ?_⟩
    · intro b hbm
      obtain ⟨i, hi, rfl⟩ := List.getElem_of_mem hbm
      have := (hz2 i (by omega)).2
      rwa [List.getD, List.getElem?_eq_getElem hi] at this
    · by_cases h0 : len = 0
      · exact .inl h0
      · obtain ⟨b, off, spot⟩ := x
        have hs : spot = none := by simpa [Addr.add] using World.cell?_spot (hz2 0 (by omega)).1
        subst hs
        refine .inr ⟨b, off, rfl, ?_, fun i hi => by
          have h := (hz2 i hi).1
          have e : (⟨b, off, none⟩ : Addr).add i = ⟨b, off + i, none⟩ := by unfold Addr.add; split <;> simp_all
          rw [e] at h; exact h⟩
        exact World.block_lt_of_cell? w _ (hz2 0 (by omega)).1
end

/-! ### rows that the call has made -/
theorem block_of_owns {w : World} {B g : Nat} {e : TypeId} {n : Nat} {xs : List Value} (h : w.ownsRow B e 1 (.slice (some ⟨g, 0, none⟩) n n) n xs) : w.heap[g]? = some (.cells xs.toArray e (0, 0)) := by
  rcases h.2 with ⟨h', _⟩ | ⟨g', cap', cur, h', hb, hg, hnc, hcm, hcs, htake⟩
  · simp at h'
  · simp only [Value.slice.injEq, Option.some.injEq, Addr.mk.injEq, and_true, true_and] at h'
    obtain ⟨rfl, rfl⟩ := h'
    rw [hg]
    have e1 : cur.toList.take (n * 1) = cur.toList := List.take_of_length_le (by simp [hcs])
    rw [e1] at htake
    rw [← htake]

theorem cell_of_block {w : World} {g : Nat} {e : TypeId} {xs : List Value} (h : w.heap[g]? = some (.cells xs.toArray e (0, 0))) (i : Nat) : w.cell? ⟨g, i, none⟩ = xs[i]? := by
  rw [cell_of_row w g i xs.toArray e (0, 0) h]; simp
theorem frozen_of_block {w : World} {g : Nat} {e : TypeId} {xs : List Value} (h : w.heap[g]? = some (.cells xs.toArray e (0, 0))) (i : Nat) : w.frozen? ⟨g, i, none⟩ = false :=
  frozen_of_row w g i xs.toArray e h
theorem block_lt {w : World} {g : Nat} {o : Obj} (h : w.heap[g]? = some o) : g < w.heap.size := by
  rcases Nat.lt_or_ge g w.heap.size with h' | h'
  · exact h'
  · rw [Array.getElem?_eq_none h'] at h; cases h
theorem block_set {w : World} {g : Nat} {e : TypeId} {xs : List Value} (h : w.heap[g]? = some (.cells xs.toArray e (0, 0))) (i : Nat) (u : Value) : (w.setCell ⟨g, i, none⟩ u).heap[g]? = some (.cells (xs.set i u).toArray e (0, 0)) := by
  rw [heap_setCell_same w g i xs.toArray e u h]; simp

/-- Of a new row of floats. -/
def NewF (k : FloatKind) (zs : List Nat) (len : Nat) (w : World) (e : Ending) (w' : World) : Prop :=
  ∃ g, e = .returned (.slice (some ⟨g, 0, none⟩) len len) ∧ w.heap.size ≤ g ∧ Below w.heap.size w w' ∧ IsRowF k w' (some ⟨g, 0, none⟩) len len zs ∧ ∀ i, w'.frozen? ⟨g, i, none⟩ = false

theorem rowF_of_block {k : FloatKind} {w : World} {g : Nat} {e : TypeId} {zs : List Nat} (h : w.heap[g]? = some (.cells (fl k zs).toArray e (0, 0))) (hz : zs.length ≤ maxLen) (hw : ∀ b ∈ zs, (Lit.float k b).wf = true) :
    IsRowF k w (some ⟨g, 0, none⟩) zs.length zs.length zs := by
  refine ⟨rfl, Nat.le_refl _, hz, hw, .inr ⟨g, 0, rfl, block_lt h, fun i hi => ?_⟩⟩
  rw [Nat.zero_add, cell_of_block h]
  unfold fat
  unfold fl
  rw [List.getElem?_map, List.getD, List.getElem?_eq_getElem hi]; rfl

theorem set_step {k : FloatKind} (zs : List Nat) (z : Value) (j : Nat) (hj : j < zs.length) :
    (fl k (zs.take j) ++ List.replicate (zs.length - j) z).set j (.float k (fat zs j)) = fl k (zs.take (j + 1)) ++ List.replicate (zs.length - (j + 1)) z := by
  unfold fat
  have e1 : (fl k (zs.take j)).length = j := by simp [fl]; omega
  rw [List.set_append_right _ _ (by omega), e1, Nat.sub_self]
  have e2 : zs.length - j = (zs.length - (j + 1)) + 1 := by omega
  rw [e2, List.replicate_succ, List.set_cons_zero, List.take_succ_eq_append_getElem hj]
  unfold fl
  rw [List.map_append, List.append_assoc, List.getD, List.getElem?_eq_getElem hj]; rfl

theorem made_zeros (z : Value) (n : Nat) : (madeCells #[z] n).toList = List.replicate n z := by
  unfold madeCells
  apply List.ext_getElem
  · simp
  · intro i h1 h2; simp [Nat.mod_one]

/-- The sum from left to right. -/
def sumF (op : BinOp) (k : FloatKind) (s : Nat) (zs : List Nat) : Nat := zs.foldl (fop op k) s
theorem sumF_snoc (op : BinOp) (k : FloatKind) (s : Nat) (zs : List Nat) (j : Nat) (hj : j < zs.length) : sumF op k s (zs.take (j + 1)) = fop op k (sumF op k s (zs.take j)) (fat zs j) := by
  unfold sumF fat
  rw [List.take_succ_eq_append_getElem hj, List.foldl_append, List.getD, List.getElem?_eq_getElem hj]; rfl

/-- The sum of products, from left to right. -/
def dotF (k : FloatKind) : Nat → List Nat → List Nat → Nat
  | s, x :: xs, y :: ys => dotF k (fop .add k s (fop .mul k x y)) xs ys
  | s, _, _ => s
theorem dotF_snoc (k : FloatKind) : ∀ (xs ys : List Nat) (s j : Nat), j < xs.length → j < ys.length →
    dotF k s (xs.take (j + 1)) (ys.take (j + 1)) = fop .add k (dotF k s (xs.take j) (ys.take j)) (fop .mul k (fat xs j) (fat ys j))
  | [], _, _, _, h, _ => by simp at h
  | _ :: _, [], _, _, _, h => by simp at h
  | x :: xs, y :: ys, s, 0, _, _ => by simp [dotF, fat]
  | x :: xs, y :: ys, s, j + 1, h1, h2 => by
    have := dotF_snoc k xs ys (fop .add k s (fop .mul k x y)) j (by simpa using h1) (by simpa using h2)
    simpa [dotF, fat] using this
end Go.Proofs.Ytfohhljadpchgaa

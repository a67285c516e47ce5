/- Slices of integers: what a row of them is. No program in sight. -/
import Derived.Test.YtclbliflmhjebaaRow
set_option linter.unusedSimpArgs false
set_option linter.unusedVariables false
namespace Go.Proofs.Ytclbliflmhjebaa
open Go Go.RowKit Go.ChangeShapes Go.WideShapes
def IsRow (k : IntKind) (w : World) (a : Option Addr) (len cap : Nat) (zs : List Int) : Prop :=
  zs.length = len ∧ len ≤ cap ∧ cap ≤ maxLen ∧ (∀ b ∈ zs, (Lit.int k b).wf = true) ∧
  (len = 0 ∨ ∃ b off, a = some ⟨b, off, none⟩ ∧ b < w.heap.size ∧ ∀ i, i < len → w.cell? ⟨b, off + i, none⟩ = some (.int k (zs.getD i 0)))
section
variable {H : Type} {enc : TypeId × Value → H} {P : Program} {w : World} {base : Nat} {spare : Nat → Bool} {held : Bool}

theorem trod_intC {t : TypeId} {k : IntKind} {fuel : Nat} {cs : List Value} {x : DataW H × List MemPlace} (ht : P.underlying t = some (.int k)) (h : DataW.trod enc P w base spare held fuel t cs = some x) : ∃ b : Int, cs = [.int k b] ∧ x = (.lit (.int k b), []) ∧ (Lit.int k b).wf = true := by
  cases fuel with
  | zero => simp [DataW.trod] at h
  | succ n =>
    unfold DataW.trod at h
    rw [ht] at h
    split at h <;> simp_all

/-- An integer slice that came in. -/
theorem rowI_of {t e : TypeId} {k : IntKind} {a : Option Addr} {len cap : Nat} {d : DataW H} {ps : List MemPlace} (ht : P.underlying t = some (.slice e)) (he : P.underlying e = some (.int k)) (hc : P.cellsOf e = 1)
    (h : DataW.Trod enc P w base spare held t (.slice a len cap) d ps) : ∃ zs, IsRow k w a len cap zs := by
  obtain ⟨fuel, hf⟩ := h
  rcases DataW.trod_slice ht hf with ⟨h0, _⟩ | ⟨x, l, c, elems, rest, n, _, hcs, _, hb, hl, hm, hlen, hel, _, _⟩
  · simp [Value.cells] at h0
    obtain ⟨rfl, rfl, rfl⟩ := h0
    exact ⟨[], rfl, Nat.le_refl _, Nat.zero_le _, by simp, .inl rfl⟩
  · simp [Value.cells] at hcs
    obtain ⟨rfl, rfl, rfl⟩ := hcs
    have each : ∀ i, i < len → ∃ b : Int, w.cell? (x.add i) = some (.int k b) ∧ (Lit.int k b).wf = true := by
      intro i hi
      have h1 := hel i hi
      have h2 : elems[i]? = some (elems[i]'(by omega)) := List.getElem?_eq_getElem _
      rw [h2, hc, Nat.mul_one, Option.bind_eq_some_iff] at h1
      obtain ⟨cs', hcs', hy'⟩ := h1
      obtain ⟨b, rfl, _, hw⟩ := trod_intC he hy'
      exact ⟨b, cell_of_cells?_one hcs', hw⟩
    obtain ⟨zs, hz1, hz2⟩ : ∃ zs : List Int, zs.length = len ∧ ∀ i, i < len → w.cell? (x.add i) = some (.int k (zs.getD i 0)) ∧ (Lit.int k (zs.getD i 0)).wf = true := by
      refine ⟨(List.range len).map (fun i => if h : i < len then (each i h).choose else 0), by simp, fun i hi => ?_⟩
      have e : ((List.range len).map (fun i => if h : i < len then (each i h).choose else 0)).getD i 0 = (each i hi).choose := by
        rw [List.getD, List.getElem?_map, List.getElem?_range hi]; simp [hi]
      rw [e]
      exact (each i hi).choose_spec
    refine ⟨zs, hz1, hl, hm, ?_, ?_⟩
    · intro b hbm
      obtain ⟨i, hi, rfl⟩ := List.getElem_of_mem hbm
      have := (hz2 i (by omega)).2
      rwa [List.getD, List.getElem?_eq_getElem hi] at this
    · by_cases h0 : len = 0
      · exact .inl h0
      · obtain ⟨b, off, spot⟩ := x
        have hs : spot = none := by simpa [Addr.add] using World.cell?_spot (hz2 0 (by omega)).1
        subst hs
        refine .inr ⟨b, off, rfl, ?_, fun i hi => by
          have h := (hz2 i hi).1
          have e : (⟨b, off, none⟩ : Addr).add i = ⟨b, off + i, none⟩ := by unfold Addr.add; split <;> simp_all
          rw [e] at h; exact h⟩
        exact World.block_lt_of_cell? w _ (hz2 0 (by omega)).1
end


theorem byte_of {zs : List Int} {i : Nat} (h : ∀ b ∈ zs, (Lit.int IntKind.u8 b).wf = true) (hi : i < zs.length) : 0 ≤ zs.getD i 0 ∧ zs.getD i 0 < 256 := by
  have e : zs.getD i 0 = zs[i] := by rw [List.getD, List.getElem?_eq_getElem hi]; rfl
  rw [e]
  have h1 := h _ (List.getElem_mem hi)
  have m1 : IntKind.u8.min = 0 := by decide
  have m2 : IntKind.u8.max = 255 := by decide
  simp only [Lit.wf, m1, m2, Bool.and_eq_true, decide_eq_true_eq] at h1
  omega

/-- Widening where it is guarded. -/
theorem upon_cvU {P : Program} {w : World} {o : Oper} {a : Act} {K : Act → World → Prop} {Q : Exit → Act → World → Prop} {j : Nat}
    (src dst : TypeId) (b : Nat) (hs : (P.underlying src).isSome = true) (hd : P.underlying dst = some (.float .f64))
    (hK : ∀ n m, K (a.put o.dst (.float .f64 (pick .f64 (cvU b) n))) (w.drewN m)) :
    o.upon P a K Q ((Sem.run P (convert src dst (.float .f32 b)) (w.drewN j)).andThen fun v w' => Result.ok (Next.value v) w') := by
  obtain ⟨n, m, hrun⟩ := run_cvU (P := P) (w.drewN j) src dst b hs hd
  rw [hrun]
  have := hK n (j + m)
  simpa [Result.andThen, Oper.upon] using this
theorem upon_cvUp {P : Program} {w : World} {o : Oper} {a : Act} {K : Act → World → Prop} {Q : Exit → Act → World → Prop} {j : Nat}
    (src dst : TypeId) (v n0 : Nat) (hs : (P.underlying src).isSome = true) (hd : P.underlying dst = some (.float .f64))
    (hK : ∀ n m, K (a.put o.dst (.float .f64 (pick .f64 (cvU v) n))) (w.drewN m)) :
    o.upon P a K Q ((Sem.run P (convert src dst (.float .f32 (pick .f32 v n0))) (w.drewN j)).andThen fun v w' => Result.ok (Next.value v) w') :=
  upon_cvU src dst (pick .f32 v n0) hs hd (by rw [cvU_pick]; exact hK)
theorem IsRow.below {k : IntKind} {w w' : World} {a : Option Addr} {len cap : Nat} {zs : List Int} (h : IsRow k w a len cap zs) (hb : Below w.heap.size w w') : IsRow k w' a len cap zs := by
  obtain ⟨h1, h2, h3, h4, h5⟩ := h
  refine ⟨h1, h2, h3, h4, ?_⟩
  rcases h5 with h5 | ⟨b, off, e, hbl, hc⟩
  · exact .inl h5
  · exact .inr ⟨b, off, e, Nat.lt_of_lt_of_le hbl hb.size, fun i hi => (hb.cell (p := ⟨b, off + i, none⟩) hbl).trans (hc i hi)⟩
theorem IsRow.alloc {k : IntKind} {w : World} {a : Option Addr} {len cap : Nat} {zs : List Int} (h : IsRow k w a len cap zs) (o : Obj) : IsRow k (w.alloc o) a len cap zs := h.below ((Below.refl _ _).alloc (Nat.le_refl _) o)
theorem IsRow.row {k : IntKind} {w : World} {a : Option Addr} {len cap : Nat} {zs : List Int} (h : IsRow k w a len cap zs) : IsRow k w a len cap zs := h
theorem IsRow.at {k : IntKind} {w : World} {a : Option Addr} {len cap : Nat} {zs : List Int} (h : IsRow k w a len cap zs) {i : Nat} (hi : i < len) : ∃ b off, a = some ⟨b, off, none⟩ ∧ b < w.heap.size ∧ w.cell? ⟨b, off + i, none⟩ = some (.int k (zs.getD i 0)) := by
  obtain ⟨h1, h2, h3, h4, h5⟩ := h
  rcases h5 with h5 | ⟨b, off, e, hbl, hc⟩
  · omega
  · exact ⟨b, off, e, hbl, hc i hi⟩
def il (zs : List Int) : List Value := zs.map (.int .i64)
theorem rowI_of_block {w : World} {g : Nat} {e : TypeId} {zs : List Int} (h : w.heap[g]? = some (.cells (il zs).toArray e (0, 0))) (hz : zs.length ≤ maxLen) (hw : ∀ b ∈ zs, (Lit.int .i64 b).wf = true) :
    IsRow .i64 w (some ⟨g, 0, none⟩) zs.length zs.length zs := by
  refine ⟨rfl, Nat.le_refl _, hz, hw, .inr ⟨g, 0, rfl, block_lt h, fun i hi => ?_⟩⟩
  rw [Nat.zero_add, cell_of_block h]
  unfold il
  rw [List.getElem?_map, List.getD, List.getElem?_eq_getElem hi]; rfl
theorem set_stepI (zs : List Int) (z : Value) (j : Nat) (hj : j < zs.length) :
    (il (zs.take j) ++ List.replicate (zs.length - j) z).set j (.int .i64 (zs.getD j 0)) = il (zs.take (j + 1)) ++ List.replicate (zs.length - (j + 1)) z := by
  have e1 : (il (zs.take j)).length = j := by simp [il]; omega
  rw [List.set_append_right _ _ (by omega), e1, Nat.sub_self]
  have e2 : zs.length - j = (zs.length - (j + 1)) + 1 := by omega
  rw [e2, List.replicate_succ, List.set_cons_zero, List.take_succ_eq_append_getElem hj]
  unfold il
  rw [List.map_append, List.append_assoc, List.getD, List.getElem?_eq_getElem hj]; rfl
def NewI (zs : List Int) (len : Nat) (w : World) (e : Ending) (w' : World) : Prop :=
  ∃ g, e = .returned (.slice (some ⟨g, 0, none⟩) len len) ∧ Below w.heap.size w w' ∧ IsRow .i64 w' (some ⟨g, 0, none⟩) len len zs

end Go.Proofs.Ytclbliflmhjebaa

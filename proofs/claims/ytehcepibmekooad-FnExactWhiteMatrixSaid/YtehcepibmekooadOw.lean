/- A row of the call's own: a copy made by append, and a float stored into it. -/
import Derived.Test.YtehcepibmekooadAp
set_option linter.unusedSimpArgs false
set_option linter.unusedVariables false
namespace Go.Proofs.Ytehcepibmekooad
open Go Go.RowKit Go.ChangeShapes Go.WideShapes

theorem Own.set {T : TypeId} {w : World} {B g : Nat} {len cap : Nat} {zs : List Nat} (h : Own T w B (some ⟨g, 0, none⟩) len cap zs) {k : Nat} (hk : k < len) (v : Nat) (hv : (Lit.float .f32 v).wf = true) :
    Own T (w.setCell ⟨g, k, none⟩ (.float .f32 v)) B (some ⟨g, 0, none⟩) len cap (zs.set k v) := by
  rcases h.parts with ⟨h', _⟩ | ⟨g', cur, h', hb, hg, hl, hm, hs, ht⟩
  · cases h'
  · simp only [Option.some.injEq, Addr.mk.injEq, and_true] at h'
    subst h'
    have hblk : (w.setCell ⟨g, k, none⟩ (.float .f32 v)).heap[g]? = some (.cells (cur.setIfInBounds k (.float .f32 v)) T (0, 0)) := heap_setCell_same w g k cur T _ hg
    have hfz : (fl .f32 (zs.set k v)).length = len := by simp [fl, h.1]
    refine ⟨by simp [h.1], ⟨by simp [fl, h.1], .inr ⟨g, cap, _, rfl, hb, hblk, hl, hm, by simpa using hs, ?_⟩⟩, ?_⟩
    · rw [Nat.mul_one]
      have e : fl .f32 (zs.set k v) = (fl .f32 zs).set k (.float .f32 v) := by simp [fl, List.map_set]
      rw [e, ← ht, Array.toList_setIfInBounds, List.take_set]
    · intro b hbm
      rcases List.mem_or_eq_of_mem_set hbm with hb' | rfl
      · exact h.2.2 b hb'
      · exact hv
theorem Own.cellAt {T : TypeId} {w : World} {B g : Nat} {len cap : Nat} {zs : List Nat} (h : Own T w B (some ⟨g, 0, none⟩) len cap zs) {k : Nat} (hk : k < len) : w.cell? ⟨g, k, none⟩ = some (.float .f32 (fat zs k)) := by
  rcases h.row.2.2.2.2 with h' | ⟨b, off, h', hb, hc⟩
  · omega
  · simp only [Option.some.injEq, Addr.mk.injEq, and_true] at h'
    obtain ⟨rfl, rfl⟩ := h'
    have := hc k hk
    rwa [Nat.zero_add] at this
theorem take_set_snoc (zs : List Nat) (k v : Nat) (hk : k < zs.length) : (zs.set k v).take (k + 1) = zs.take k ++ [v] := by
  rw [take_snoc_fat _ k (by simpa using hk)]
  congr 1
  · rw [List.take_set, List.set_eq_of_length_le (by simp; omega)]
  · simp [fat, hk]
theorem near_set {zs l : List Nat} {k : Nat} (h : near (zs.take k) (l.take k)) (hk : k < l.length) (hz : k < zs.length) (n : Nat) : near ((zs.set k (pick .f32 (fat l k) n)).take (k + 1)) (l.take (k + 1)) := by
  rw [take_set_snoc zs k _ hz]; exact near_snoc h hk n

/-- What an append of one float leaves. -/
theorem own_app {T : TypeId} {w : World} {B : Nat} {v : Value} {k : Nat} {zs : List Nat} {x : Nat} (h : w.ownsRow B T 1 v (k + 1) (fl .f32 zs ++ [.float .f32 x])) (hz : zs.length = k) (hw : ∀ b ∈ zs, (Lit.float .f32 b).wf = true) (hx : (Lit.float .f32 x).wf = true) :
    ∃ a c, v = .slice a (k + 1) c ∧ Own T w B a (k + 1) c (zs ++ [x]) := by
  have e : fl .f32 (zs ++ [x]) = fl .f32 zs ++ [.float .f32 x] := by simp [fl]
  have hwf : ∀ b ∈ zs ++ [x], (Lit.float .f32 b).wf = true := by
    intro b hb
    rcases List.mem_append.1 hb with hb | hb
    · exact hw b hb
    · simp at hb; subst hb; exact hx
  rcases h.2 with ⟨e1, h0⟩ | ⟨g, cap, cur, e1, hb, hrest⟩
  · cases h0
  · subst e1
    exact ⟨_, _, rfl, by simp [hz], ⟨by rw [e]; exact h.1, .inr ⟨g, cap, cur, rfl, hb, by rw [e]; exact hrest⟩⟩, hwf⟩

/-- A variable's slice behind an append of one float and its store. -/
theorem own_round {T : TypeId} {B bo k : Nat} {wr w6 w0 : World} {o : Obj} {X : Int} {y : Value} {v' : Value} {a : Option Addr} {cap : Nat} {zs : List Nat} {x : Nat} (hV : Var wr bo #[.int .i64 X, y, .slice a k cap]) (hO : Own T wr B a k cap zs)
    (hB : Below B w0 wr) (hBo : B ≤ bo) (hfr : Free wr bo) (hne : blk a ≠ some bo) (hown : w6.ownsRow B T 1 v' (k + 1) (fl .f32 zs ++ [.float .f32 x])) (hg : (wr.alloc o).grownBy w6 (Value.slice a k cap).ownBlock) (hx : (Lit.float .f32 x).wf = true) :
    ∃ a' c', v' = .slice a' (k + 1) c' ∧ Var (w6.setCell ⟨bo, 2, none⟩ (.slice a' (k + 1) c')) bo #[.int .i64 X, y, .slice a' (k + 1) c'] ∧ Own T (w6.setCell ⟨bo, 2, none⟩ (.slice a' (k + 1) c')) B a' (k + 1) c' (zs ++ [x]) ∧ blk a' ≠ some bo ∧
      Below B w0 (w6.setCell ⟨bo, 2, none⟩ (.slice a' (k + 1) c')) ∧ Free (w6.setCell ⟨bo, 2, none⟩ (.slice a' (k + 1) c')) bo ∧ wr.heap.size ≤ (w6.setCell ⟨bo, 2, none⟩ (.slice a' (k + 1) c')).heap.size ∧
      w6.cell? ⟨bo, 2, none⟩ = some (.slice a k cap) ∧ w6.frozen? ⟨bo, 2, none⟩ = false := by
  obtain ⟨a', c', rfl, hO6⟩ := own_app hown hO.1 hO.2.2 hx
  have hrow : (some bo) ≠ (Value.slice a k cap).ownBlock := by rw [own_blk]; exact fun e => hne e.symm
  have hV6 : Var w6 bo #[.int .i64 X, y, .slice a k cap] := (hV.alloc o).kept hg hrow
  obtain ⟨v0, v1, v2⟩ := hV6.three
  have hsz : wr.heap.size ≤ w6.heap.size := by have := hg.size; simp at this; omega
  have hne' : blk a' ≠ some bo := by
    intro e
    rcases hO6.parts with ⟨rfl, h0, _⟩ | ⟨g, cur, rfl, _, hgc, hl, _, hs, ht⟩
    · cases e
    · simp [blk] at e
      subst e
      have h0 : w6.cell? ⟨g, 0, none⟩ = some (.float .f32 (fat (zs ++ [x]) 0)) := hO6.cellAt (by omega)
      rw [v0] at h0; cases h0
  have hB6 : Below B w0 w6 := ((hB.alloc (Nat.le_trans hBo (Nat.le_of_lt hV.lt)) o).grown hg (by simp; have := hV.lt; omega) (fun g e => by
    rw [own_blk] at e; exact (hO.in g e).1))
  have hF6 : Free w6 bo := fun i => by
    rw [World.frozen?_of_block (w := wr.alloc o) (a := ⟨bo, i, none⟩) (hg.block bo (by have := hV.lt; simp; omega) hrow)]; exact (hfr.alloc hV.lt o) i
  refine ⟨a', c', rfl, ⟨by simpa using hV6.1, fun i hi => ?_⟩, hO6.setCell hne' _, hne', hB6.setCell hBo _, hF6.setCell _ _, by simpa using hsz, v2, hF6 2⟩
  match i, hi with
  | 0, _ => exact (World.cell?_setCell_other _ _ _ _ (by simp)).trans v0
  | 1, _ => exact (World.cell?_setCell_other _ _ _ _ (by simp)).trans v1
  | 2, _ => exact World.cell?_setCell_same _ _ _ v2
  | i + 3, h => exact absurd h (by simp)

theorem Var.setOther {w : World} {b : Nat} {cs : Array Value} (h : Var w b cs) {p : Addr} (hp : p.block ≠ b) (v : Value) : Var (w.setCell p v) b cs :=
  h.kept (row := some p.block) ⟨rfl, rfl, rfl, by simp, fun k _ hk => Below.heap_setCell w p v k (fun e => hk (by rw [e]))⟩ (fun e => hp (by cases e; rfl))
theorem Own.at0 {T : TypeId} {w : World} {B : Nat} {a : Option Addr} {len cap : Nat} {zs : List Nat} (h : Own T w B a len cap zs) (h1 : 1 ≤ len) : ∃ g, a = some ⟨g, 0, none⟩ := by
  rcases h.parts with ⟨_, h0, _⟩ | ⟨g, cur, e, _⟩
  · omega
  · exact ⟨g, e⟩

theorem own_apps {T : TypeId} {w : World} {B : Nat} {v : Value} {k m : Nat} {zs ys : List Nat} (h : w.ownsRow B T 1 v (k + m) (fl .f32 zs ++ fl .f32 ys)) (hz : zs.length = k) (hy : ys.length = m) (hm : 1 ≤ m) (hw : ∀ b ∈ zs ++ ys, (Lit.float .f32 b).wf = true) :
    ∃ a c, v = .slice a (k + m) c ∧ Own T w B a (k + m) c (zs ++ ys) := by
  have e : fl .f32 (zs ++ ys) = fl .f32 zs ++ fl .f32 ys := by simp [fl]
  rcases h.2 with ⟨e1, h0⟩ | ⟨g, cap, cur, e1, hb, hrest⟩
  · omega
  · subst e1
    exact ⟨_, _, rfl, by simp [hz, hy], ⟨by rw [e]; exact h.1, .inr ⟨g, cap, cur, rfl, hb, by rw [e]; exact hrest⟩⟩, hw⟩

section
variable {T : TypeId} {P : Program}
/-- append([]float32{}, row...) -/
theorem own_copy (t ty : TypeId) (i : TypeInfo) (z : Value) (ht : P.underlying t = some (.slice T)) (hi : P.info? T = some i) (hz : i.zero = some z) (hsize : i.size = 1) (hby : i.bytes = 4) (hzs : z.cells.size = 1)
    {w : World} (b0 : Nat) {a : Option Addr} {len cap : Nat} {zs : List Nat} (hr : IsRowF .f32 w a len cap zs) (h1 : 1 ≤ len) (hl : len ≤ 1048576) :
    ∃ v' w', (Builtin.append_ #[t, t] ty #[.slice (some ⟨b0, 0, none⟩) 0 0, .slice a len cap]).run P w = .ok v' w' ∧ Below w.heap.size w w' ∧ ∃ a' c', v' = .slice a' len c' ∧ Own T w' w.heap.size a' len c' zs := by
  rcases hr.2.2.2.2 with h | ⟨b, off, rfl, hb, hc⟩
  · omega
  have hmax : (maxLen : Nat) = 9223372036854775807 := rfl
  obtain ⟨v', w', hrun, ho, hg⟩ := run_append_arg_grows (P := P) (w := w) t ty T i z 1 4 ht hi hz hsize hby hzs (by decide) ⟨b0, 0, none⟩ 0 0 [] rfl (by intro j u hj; simp at hj) ⟨b, off, none⟩ len cap (fl .f32 zs) (by simp [fl, hr.1])
    (by
      intro j u hj
      have hjl : j < len := by
        have := (List.getElem?_eq_some_iff.1 hj).1
        simpa [fl, hr.1] using this
      have e : ((⟨b, off, none⟩ : Addr).add j) = ⟨b, off + j, none⟩ := by simp [Addr.add]
      rw [e, hc j hjl]
      have : (fl FloatKind.f32 zs)[j]? = some (.float .f32 (fat zs j)) := by
        unfold fl fat
        rw [List.getElem?_map, List.getD, List.getElem?_eq_getElem (by rw [hr.1]; exact hjl)]; rfl
      rw [this] at hj; exact hj)
    (by omega) (by rw [hmax]; omega) (by omega)
  refine ⟨v', w', hrun, (Below.refl _ _).grown hg (Nat.le_refl _) (fun k e => by cases e), ?_⟩
  rw [Nat.zero_add, List.nil_append] at ho
  rcases ho.2 with ⟨e, h0⟩ | ⟨g', cap', cur', e, hb', hrest⟩
  · omega
  · subst e
    exact ⟨_, _, rfl, hr.1, ⟨ho.1, .inr ⟨g', cap', cur', rfl, hb', hrest⟩⟩, hr.2.2.2.1⟩
end
end Go.Proofs.Ytehcepibmekooad

/- Appending one float to a row of the call's own, in a region that draws its order. -/
import Derived.Test.YtehcepibmekooadRow
import Derived.Test.YtehcepibmekooadOg
import Derived.ArgAppend
import Derived.OwnWalk
set_option linter.unusedSimpArgs false
set_option linter.unusedVariables false
namespace Go.Proofs.Ytehcepibmekooad
open Go Go.RowKit Go.ChangeShapes Go.WideShapes

/-- How worlds go on while a float F is appended to a row of k: its cell k may be written, no other. -/
def AppE (T : TypeId) (row : Option Nat) (k F : Nat) (w w' : World) : Prop :=
  w.grownBy w' row ∧ ∀ g cur, row = some g → w.heap[g]? = some (.cells cur T (0, 0)) → ∃ cur' : Array Value, w'.heap[g]? = some (.cells cur' T (0, 0)) ∧ cur'.size = cur.size ∧
    (∀ i, i < k → cur'[i]? = cur[i]?) ∧ (cur'[k]? = cur[k]? ∨ ∃ n, cur'[k]? = some (.float .f32 (pick .f32 F n)))
section
variable {T : TypeId} {row : Option Nat} {k F : Nat}
theorem AppE.of_below {w w' : World} (h : Below w.heap.size w w') : AppE T row k F w w' :=
  ⟨⟨h.os, h.tape, h.output, h.size, fun i hi _ => h.block i hi⟩, fun g cur _ hg => ⟨cur, by rw [h.block g (block_lt hg)]; exact hg, rfl, fun _ _ => rfl, .inl rfl⟩⟩
theorem AppE.refl (w : World) : AppE T row k F w w := .of_below (Below.refl _ _)
theorem AppE.drew (w : World) : AppE T row k F w w.drew := .of_below (Below.refl _ _).drew
theorem AppE.trans (a b c : World) (h : AppE T row k F a b) (h' : AppE T row k F b c) : AppE T row k F a c := by
  refine ⟨⟨h'.1.os.trans h.1.os, h'.1.tape.trans h.1.tape, h'.1.output.trans h.1.output, Nat.le_trans h.1.size h'.1.size, fun i hi hn => (h'.1.block i (Nat.lt_of_lt_of_le hi h.1.size) hn).trans (h.1.block i hi hn)⟩, fun g cur hg hc => ?_⟩
  obtain ⟨cur1, h1, h2, h3, h4⟩ := h.2 g cur hg hc
  obtain ⟨cur2, g1, g2, g3, g4⟩ := h'.2 g cur1 hg h1
  refine ⟨cur2, g1, g2.trans h2, fun i hi => (g3 i hi).trans (h3 i hi), ?_⟩
  rcases g4 with g4 | g4
  · rw [g4]; exact h4
  · exact .inr g4
theorem AppE.cell {w w' : World} (h : AppE T row k F w w') {b o : Nat} {v : Value} (hc : w.cell? ⟨b, o, none⟩ = some v) (hb : row ≠ some b) : w'.cell? ⟨b, o, none⟩ = some v := by
  rw [World.cell?_of_block (w := w) (h.1.block b (World.block_lt_of_cell? w _ hc) (fun e => hb e.symm))]; exact hc
theorem AppE.keepV {w w' : World} (h : AppE T row k F w w') {b : Nat} {cs : Array Value} (hv : Var w b cs) (hb : row ≠ some b) : Var w' b cs := hv.kept h.1 (fun e => hb e.symm)

/-- The row that may be written. -/
def rowOf (a : Option Addr) (k cap : Nat) : Option Nat := if k < cap then blk a else none
theorem rowOf_in {w : World} {B : Nat} {a : Option Addr} {cap : Nat} {zs : List Nat} (h : Own T w B a k cap zs) : ∀ g, rowOf a k cap = some g → B ≤ g ∧ g < w.heap.size := by
  intro g hg
  unfold rowOf at hg
  split at hg
  · exact h.in g hg
  · cases hg

theorem Own.appE {w w' : World} {B : Nat} {a : Option Addr} {cap : Nat} {zs : List Nat} (h : Own T w B a k cap zs) (hE : AppE T (rowOf a k cap) k F w w') : Own T w' B a k cap zs := by
  by_cases hk : k < cap
  · have hr : rowOf a k cap = blk a := if_pos hk
    rcases h.parts with ⟨rfl, rfl, rfl, rfl⟩ | ⟨g, cur, rfl, hb, hg, hl, hm, hs, ht⟩
    · exact absurd hk (by omega)
    · obtain ⟨cur', h1, h2, h3, h4⟩ := hE.2 g cur (by rw [hr]; rfl) hg
      refine ⟨h.1, ⟨h.2.1.1, .inr ⟨g, cap, cur', rfl, hb, h1, hl, hm, by simpa [h2] using hs, ?_⟩⟩, h.2.2⟩
      rw [Nat.mul_one, ← ht]
      apply List.ext_getElem?
      intro i
      rw [List.getElem?_take, List.getElem?_take]
      split
      · rw [Array.getElem?_toList, Array.getElem?_toList]; exact h3 i (by assumption)
      · rfl
  · have hr : rowOf a k cap = none := if_neg hk
    rw [hr] at hE
    exact h.kept hE.1 (by cases blk a <;> simp)

/-- What is appended to. -/
def Appd (T : TypeId) (B M k F : Nat) (a : Option Addr) (cap : Nat) (zs : List Nat) (v : Value) (w : World) : Prop :=
  ∃ a' c' n, v = .slice a' (k + 1) c' ∧ Own T w B a' (k + 1) c' (zs ++ [pick .f32 F n]) ∧ (k < cap → a' = a ∧ c' = cap) ∧ (¬ k < cap → ∀ g, blk a' = some g → M ≤ g)

theorem pick_wf {v : Nat} (hv : v < 2 ^ FloatKind.f32.format.width) (n : Nat) : (Lit.float .f32 (pick .f32 v n)).wf = true := by
  have h := pick_lt hv n
  simp only [Lit.wf, decide_eq_true_eq]
  exact h

theorem Appd.keep {B M : Nat} {a : Option Addr} {cap : Nat} {zs : List Nat} (hF : F < 2 ^ FloatKind.f32.format.width) (u : Value) (w w' : World) (h : Appd T B M k F a cap zs u w) (hE : AppE T (rowOf a k cap) k F w w') : Appd T B M k F a cap zs u w' := by
  obtain ⟨a', c', n, rfl, ho, hf, hM⟩ := h
  by_cases hk : k < cap
  · obtain ⟨rfl, rfl⟩ := hf hk
    have hr : rowOf a' k c' = blk a' := if_pos hk
    rcases ho.parts with ⟨_, h0, _⟩ | ⟨g, cur, rfl, hb, hg, hl, hm, hs, ht⟩
    · omega
    · obtain ⟨cur', h1, h2, h3, h4⟩ := hE.2 g cur (by rw [hr]; rfl) hg
      have hz : zs.length = k := by have := ho.1; simp at this; exact this
      have hold : ∀ i, i < k + 1 → cur[i]? = (fl .f32 (zs ++ [pick .f32 F n]))[i]? := by
        intro i hi
        rw [← ht, List.getElem?_take, if_pos hi, Array.getElem?_toList]
      have hcase : ∃ n', cur'[k]? = some (.float .f32 (pick .f32 F n')) := by
        rcases h4 with h4 | h4
        · refine ⟨n, ?_⟩
          rw [h4, hold k (by omega)]
          simp [fl, hz]
        · exact h4
      obtain ⟨n', hn'⟩ := hcase
      refine ⟨_, _, n', rfl, ⟨by simp [hz], ⟨by simp [fl, hz], .inr ⟨g, c', cur', rfl, hb, h1, hl, hm, by simpa [h2] using hs, ?_⟩⟩, ?_⟩, hf, hM⟩
      · rw [Nat.mul_one]
        apply List.ext_getElem?
        intro i
        rw [List.getElem?_take]
        split
        · rename_i hi
          rw [Array.getElem?_toList]
          by_cases hik : i < k
          · rw [h3 i hik, hold i hi]
            simp only [fl, List.map_append]
            rw [List.getElem?_append_left (by simp; omega), List.getElem?_append_left (by simp; omega)]
          · have : i = k := by omega
            subst this
            rw [hn']; simp [fl, hz]
        · rename_i hi
          rw [List.getElem?_eq_none]; simp [fl]; omega
      · intro b hbm
        rcases List.mem_append.1 hbm with h | h
        · exact ho.2.2 b (List.mem_append_left _ h)
        · simp at h; subst h; exact pick_wf hF n'
  · have hr : rowOf a k cap = none := if_neg hk
    rw [hr] at hE
    exact ⟨a', c', n, rfl, ho.kept hE.1 (by cases blk a' <;> simp), fun h => absurd h hk, hM⟩

variable {P : Program}
/-- The append itself. -/
theorem append_step (t ty : TypeId) (i : TypeInfo) (z : Value) (ht : P.underlying t = some (.slice T)) (hi : P.info? T = some i) (hz : i.zero = some z) (hsize : i.size = 1) (hby : i.bytes = 4) (hzs : z.cells.size = 1)
    {w : World} {B : Nat} {a : Option Addr} {cap : Nat} {zs : List Nat} (h : Own T w B a k cap zs) (hB : B ≤ w.heap.size) (M : Nat) (hM : M ≤ w.heap.size) (hF : F < 2 ^ FloatKind.f32.format.width) (g2 c n : Nat) (T2 : TypeId)
    (hg2 : w.heap[g2]? = some (.cells #[.float .f32 (pick .f32 F n)] T2 (0, 0))) (hk : k ≤ 1048576) :
    ∃ v' w', (Builtin.append_ #[t, t] ty #[.slice a k cap, .slice (some ⟨g2, 0, none⟩) 1 c]).run P w = .ok v' w' ∧ AppE T (rowOf a k cap) k F w w' ∧ Appd T B M k F a cap zs v' w' := by
  have hnew : ∀ j u, ([.float .f32 (pick .f32 F n)] : List Value)[j]? = some u → w.cell? ((⟨g2, 0, none⟩ : Addr).add j) = some u := by
    intro j u hj
    match j, hj with
    | 0, hj =>
      simp at hj; subst hj
      have e : (⟨g2, 0, none⟩ : Addr).add 0 = ⟨g2, 0, none⟩ := by simp [Addr.add]
      rw [e, cell_of_row w g2 0 _ T2 (0, 0) hg2]; rfl
  have hone : ∀ u ∈ ([.float .f32 (pick .f32 F n)] : List Value), u.oneCell' = true := by intro u hu; simp at hu; subst hu; rfl
  have hwf : ∀ b ∈ zs ++ [pick .f32 F n], (Lit.float .f32 b).wf = true := by
    intro b hb
    rcases List.mem_append.1 hb with hb | hb
    · exact h.2.2 b hb
    · simp at hb; subst hb; exact pick_wf hF n
  have hfl : fl .f32 (zs ++ [pick .f32 F n]) = fl .f32 zs ++ [.float .f32 (pick .f32 F n)] := by simp [fl]
  have hmax : (maxLen : Nat) = 9223372036854775807 := rfl
  have hlen : (zs ++ [pick .f32 F n]).length = k + 1 := by simp [h.1]
  by_cases hkc : k < cap
  · have hr : rowOf a k cap = blk a := if_pos hkc
    rcases h.parts with ⟨rfl, rfl, rfl, rfl⟩ | ⟨g, cur, rfl, hb, hg, hl, hm, hs, ht'⟩
    · omega
    · have hcell : (w.cell? ⟨g, k, none⟩).isSome = true := by rw [cell_of_row w g k cur T (0, 0) hg]; simp; omega
      have hrun := run_append_room_cells (P := P) (w := w) t ty T i ht hi g 0 k cap ⟨g2, 0, none⟩ 1 c [.float .f32 (pick .f32 F n)] (by simp [hsize]) hnew hone (by omega)
        (fun j hj => by have : j = 0 := by simpa using hj
                        subst this; rw [hsize]; simpa using hcell)
        (fun j hj => frozen_of_row w g _ cur T hg)
      have hset : (w.setCells g (0 + k * i.size) [.float .f32 (pick .f32 F n)]) = w.setCell ⟨g, k, none⟩ (.float .f32 (pick .f32 F n)) := by simp [hsize, World.setCells]
      rw [hset] at hrun
      have hblk : (w.setCell ⟨g, k, none⟩ (.float .f32 (pick .f32 F n))).heap[g]? = some (.cells (cur.setIfInBounds k (.float .f32 (pick .f32 F n))) T (0, 0)) := heap_setCell_same w g k cur T _ hg
      have hk' : (cur.setIfInBounds k (.float .f32 (pick .f32 F n)))[k]? = some (.float .f32 (pick .f32 F n)) := by rw [Array.getElem?_setIfInBounds, if_pos rfl, if_pos (by omega)]
      have hlow : ∀ i, i < k → (cur.setIfInBounds k (.float .f32 (pick .f32 F n)))[i]? = cur[i]? := fun i hi => Array.getElem?_setIfInBounds_ne (by omega)
      refine ⟨_, _, hrun, ⟨⟨rfl, rfl, rfl, by simp, fun x hx hne => ?_⟩, fun g' cur0 hg' hc0 => ?_⟩, ⟨_, _, n, rfl, ⟨hlen, ⟨by simp [fl, h.1], .inr ⟨g, cap, _, rfl, hb, hblk, by omega, hm, by simpa using hs, ?_⟩⟩, hwf⟩, fun _ => ⟨rfl, rfl⟩, fun h => absurd hkc h⟩⟩
      · exact Below.heap_setCell w _ _ x (fun e => hne (by rw [hr, e]; rfl))
      · rw [hr] at hg'
        simp [blk] at hg'
        subst hg'
        have : cur0 = cur := by rw [hg] at hc0; simpa using hc0.symm
        subst this
        exact ⟨_, hblk, by simp, hlow, .inr ⟨n, hk'⟩⟩
      · rw [Nat.mul_one, hfl]
        apply List.ext_getElem?
        intro i
        have hfz : (fl .f32 zs).length = k := by simp [fl, h.1]
        rw [List.getElem?_take]
        split
        · rename_i hi
          rw [Array.getElem?_toList]
          by_cases hik : i < k
          · rw [hlow i hik, List.getElem?_append_left (by omega), ← ht', List.getElem?_take, if_pos hik, Array.getElem?_toList]
          · have : i = k := by omega
            subst this
            rw [hk', List.getElem?_append_right (by omega), hfz, Nat.sub_self]; rfl
        · rw [List.getElem?_eq_none]; simp [hfz]; omega
  · have hr : rowOf a k cap = none := if_neg hkc
    rcases h.parts with ⟨rfl, rfl, rfl, rfl⟩ | ⟨g, cur, rfl, hb, hg, hl, hm, hs, ht'⟩
    · obtain ⟨v', w', hrun, ho, hgr, hnil⟩ := run_append_own (P := P) w w.heap.size t ty T i z 1 4 ht hi hz hsize hby hzs (by decide) (.slice none 0 0) 0 [] (World.ownsRow_nil _ _ _ _) ⟨g2, 0, none⟩ 1 c [.float .f32 (pick .f32 F n)] (by simp) hnew hone (by rw [hmax]; omega) (by omega) (Nat.le_refl _)
      rw [Nat.zero_add, List.nil_append] at ho
      refine ⟨v', w', hrun, ?_, ?_⟩
      · rw [hr]; exact ⟨hgr, fun g cur hg => by cases hg⟩
      · rcases ho.2 with ⟨e, h0⟩ | ⟨g', cap', cur', e, hb', hrest⟩
        · cases h0
        · subst e
          exact ⟨_, _, n, rfl, ⟨hlen, ⟨by simp [fl], .inr ⟨g', cap', cur', rfl, by omega, by simpa [fl] using hrest⟩⟩, hwf⟩, fun h => absurd h hkc, fun _ g hg => by simp [blk] at hg; omega⟩
    · obtain ⟨v', w', hrun, ho, hgr⟩ := run_append_arg_grows (P := P) (w := w) t ty T i z 1 4 ht hi hz hsize hby hzs (by decide) ⟨g, 0, none⟩ k cap (fl .f32 zs) (by simp [fl, h.1])
        (fun j u hj => h.2.1.cells (g := g) rfl j u hj) ⟨g2, 0, none⟩ 1 c [.float .f32 (pick .f32 F n)] (by simp) hnew (by omega) (by rw [hmax]; omega) (by omega)
      refine ⟨v', w', hrun, ?_, ?_⟩
      · rw [hr]; exact ⟨hgr, fun g cur hg => by cases hg⟩
      · rcases ho.2 with ⟨e, h0⟩ | ⟨g', cap', cur', e, hb', hrest⟩
        · cases h0
        · subst e
          exact ⟨_, _, n, rfl, ⟨hlen, ⟨by rw [hfl]; exact ho.1, .inr ⟨g', cap', cur', rfl, by omega, by rw [hfl]; exact hrest⟩⟩, hwf⟩, fun h => absurd h hkc, fun _ g hg => by simp [blk] at hg; omega⟩

/-- A new slice of one float. -/
def Boxd (T : TypeId) (row : Option Nat) (F : Nat) (u : Value) (w : World) : Prop := ∃ g m, u = .slice (some ⟨g, 0, none⟩) 1 1 ∧ row ≠ some g ∧ g < w.heap.size ∧ w.heap[g]? = some (.cells #[.float .f32 (pick .f32 F m)] T (0, 0))
theorem Boxd.keep (u : Value) (w1 w2 : World) (h : Boxd T row F u w1) (hE : AppE T row k F w1 w2) : Boxd T row F u w2 := by
  obtain ⟨g, m, h1, h2, h3, h4⟩ := h
  exact ⟨g, m, h1, h2, Nat.lt_of_lt_of_le h3 hE.1.size, by rw [hE.1.block g h3 (fun e => h2 e.symm)]; exact h4⟩
theorem Boxd.new (w : World) (m : Nat) (h : row ≠ some w.heap.size) : Boxd T row F (.slice (some ⟨w.heap.size, 0, none⟩) 1 1) (w.alloc (.cells #[.float .f32 (pick .f32 F m)] T)) :=
  ⟨_, m, rfl, h, by simp, heap_alloc_new w _⟩
theorem uponW_append {o : Oper} {a : Act} {w : World} (s x : Operand) (t : TypeId) (ho : o.op = .call { callee := .builtin .append, args := #[s, x], argTypes := #[t, t] }) {v1 v2 : Value} (hs : a.eval s = v1) (hx : a.eval x = v2) {next : Value → World → Prop}
    (h : ∃ v' w', (Builtin.append_ #[t, t] o.type #[v1, v2]).run P w = .ok v' w' ∧ next v' w') : uponW P next ((execOp a.eval o).run P w) := by
  obtain ⟨v', w', hr, hn⟩ := h
  unfold execOp
  simp only [ho, resolve, invoke, builtin, Sem.run_bind, Sem.run_pure, Result.andThen_ok, List.map_toArray, List.map_cons, List.map_nil, hs, hx, hr]
  exact hn
theorem uponW_fop {o : Oper} {a : Act} {w : World} (op : BinOp) (t t' : TypeId) (x y : Operand) (hop : o.op = Op.binOp op t x y t') (k : FloatKind) (bx by' : Nat)
    (hx : a.eval x = .float k bx) (hy : a.eval y = .float k by') (har : op = .add ∨ op = .sub ∨ op = .mul ∨ op = .quo) {next : Value → World → Prop}
    (hK : ∀ n m, next (.float k (pick k (fop op k bx by') n)) (w.drewN m)) : uponW P next ((execOp a.eval o).run P w) := by
  obtain ⟨n, m, hrun⟩ := run_fop (P := P) w op har t k bx by'
  have hgd : (eqGuard op t x y (.float k bx) (.float k by')).run P w = .ok () w := by
    rcases har with rfl | rfl | rfl | rfl <;> rfl
  simp [execOp, hop, hx, hy, hrun, hgd, Result.andThen]
  exact hK _ _
theorem AppE.drewN (w : World) (n : Nat) : AppE T row k F w (w.drewN n) := .of_below (below_drewN (Below.refl _ _) n)

/-- A block that may be written. -/
def Free (w : World) (b : Nat) : Prop := ∀ i, w.frozen? ⟨b, i, none⟩ = false
theorem Free.keep {w w' : World} {b B : Nat} (h : Free w b) (hb : Below B w w') (hB : b < B) : Free w' b := fun i => by rw [hb.frozen (p := ⟨b, i, none⟩) hB]; exact h i
theorem Free.new (w : World) (cs : Array Value) (t : TypeId) : Free (w.alloc (.cells cs t)) w.heap.size := fun i => frozen_of_row _ w.heap.size i cs t (heap_alloc_new w _)
theorem Free.new' (w : World) (cs : Array Value) (t : TypeId) (b : Nat) (hb : b = w.heap.size) : Free (w.alloc (.cells cs t)) b := by subst hb; exact Free.new w cs t
theorem Free.alloc {w : World} {b : Nat} (h : Free w b) (hl : b < w.heap.size) (o : Obj) : Free (w.alloc o) b := h.keep ((Below.refl _ _).alloc (Nat.le_refl _) o) hl
theorem Free.below {w w' : World} {b : Nat} (h : Free w b) (hl : b < w.heap.size) (hb : Below w.heap.size w w') : Free w' b := h.keep hb hl
theorem Free.setCell {w : World} {b : Nat} (h : Free w b) (p : Addr) (v : Value) : Free (w.setCell p v) b := fun i => by rw [World.frozen?_setCell]; exact h i
theorem AppE.free {w w' : World} (h : AppE T row k F w w') {b : Nat} (hf : Free w b) (hl : b < w.heap.size) (hb : row ≠ some b) : Free w' b := fun i => by
  rw [World.frozen?_of_block (w := w) (a := ⟨b, i, none⟩) (h.1.block b hl (fun e => hb e.symm))]; exact hf i

/-- The picture's variable behind the append: its slice is stored. -/
theorem app_round {B bo : Nat} {wr w' w0 : World} {x y u : Value} {a : Option Addr} {cap : Nat} {zs : List Nat} (hE : AppE T (rowOf a k cap) k F wr w') (hV : Var wr bo #[x, y, .slice a k cap]) (hO : Own T wr B a k cap zs) (hA : Appd T B wr.heap.size k F a cap zs u w')
    (hB : Below B w0 wr) (hBo : B ≤ bo) (hBw : B ≤ wr.heap.size) (hfr : Free wr bo) (hne : blk a ≠ some bo) :
    ∃ a' c' n, u = .slice a' (k + 1) c' ∧ Var (w'.setCell ⟨bo, 2, none⟩ (.slice a' (k + 1) c')) bo #[x, y, .slice a' (k + 1) c'] ∧ Own T (w'.setCell ⟨bo, 2, none⟩ (.slice a' (k + 1) c')) B a' (k + 1) c' (zs ++ [pick .f32 F n]) ∧ blk a' ≠ some bo ∧ Below B w0 (w'.setCell ⟨bo, 2, none⟩ (.slice a' (k + 1) c')) ∧
      Free (w'.setCell ⟨bo, 2, none⟩ (.slice a' (k + 1) c')) bo ∧ wr.heap.size ≤ (w'.setCell ⟨bo, 2, none⟩ (.slice a' (k + 1) c')).heap.size := by
  obtain ⟨a', c', n, rfl, ho, hf, hM⟩ := hA
  have hrow : rowOf a k cap ≠ some bo := by
    unfold rowOf
    split
    · exact hne
    · simp
  have hne' : blk a' ≠ some bo := by
    by_cases hk : k < cap
    · rw [(hf hk).1]; exact hne
    · intro e
      have := hM hk bo e
      have := hV.1
      omega
  have hV' := hE.keepV hV hrow
  have hBl : Below B w0 w' := hB.trans ⟨hE.1.os, hE.1.tape, hE.1.output, hE.1.size, fun i hi => hE.1.block i (by omega) (fun e => by
    have := (rowOf_in hO i e.symm).1; omega)⟩
  refine ⟨a', c', n, rfl, ⟨by simpa using hV'.1, fun i hi => ?_⟩, ho.setCell hne' _, hne', hBl.setCell hBo _, (hE.free hfr hV.1 hrow).setCell _ _, by simpa using hE.1.size⟩
  obtain ⟨v0, v1, v2⟩ := hV'.three
  match i, hi with
  | 0, _ => exact (World.cell?_setCell_other _ _ _ _ (by simp)).trans v0
  | 1, _ => exact (World.cell?_setCell_other _ _ _ _ (by simp)).trans v1
  | 2, _ => exact World.cell?_setCell_same _ _ _ v2
  | i + 3, h => exact absurd h (by simp)
end
end Go.Proofs.Ytehcepibmekooad

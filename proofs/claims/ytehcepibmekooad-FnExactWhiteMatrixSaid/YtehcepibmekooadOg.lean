/- A region that draws its order, by facts: each operation is carried out once, in the order of the text, with what its ancestors are known to have left; whatever order is drawn, what is known stays known. -/
import Derived.Test.YtehcepibmekooadQn
import Derived.KernelRfl
set_option linter.unusedSimpArgs false
set_option linter.unusedVariables false
namespace Go.Proofs.Ytehcepibmekooad
open Go
section
variable {P : Program} {ops : Array Oper} {md : Region.Mode}

/-- What an operation leaves: a value and a world. -/
def uponW (P : Program) (next : Value → World → Prop) : Result Next → Prop
  | .ok (.value u) w' => next u w'
  | .ok .skip w' => next undef w'
  | .ok (.enter f args) w' => Calls P f args w' fun e w3 => ∃ u, e = .returned u ∧ next u w3
  | _ => False

theorem uponW_mono {next next' : Value → World → Prop} {r : Result Next} (h : ∀ u w, next u w → next' u w) (hh : uponW P next r) : uponW P next' r := by
  cases r with
  | halt x w' => exact hh.elim
  | ok n w' =>
    cases n <;> simp only [uponW] at hh ⊢
    case value u => exact h _ _ hh
    case skip => exact h _ _ hh
    case enter f args => exact hh.mono fun e w3 ⟨u, he, hu⟩ => ⟨u, he, h _ _ hu⟩

theorem wp_of_uponW {o : Oper} {a : Act} {w : World} {next : Value → World → Prop} {K : Act → World → Prop} {Q : Exit → Act → World → Prop}
    (hh : uponW P next ((execOp a.eval o).run P w)) (h : ∀ u w', next u w' → K (a.put o.dst u) w') : o.wp P a w K Q := by
  unfold Oper.wp
  generalize (execOp a.eval o).run P w = r at *
  cases r with
  | halt x w' => exact hh.elim
  | ok n w' =>
    cases n <;> simp only [uponW] at hh <;> simp only [Oper.upon]
    case value u => exact h _ _ hh
    case skip => exact h _ _ hh
    case enter f args => exact hh.mono fun e w3 ⟨u, he, hu⟩ => by subst he; exact h _ _ hu

/-! ### slots -/
def slot (a : Act) (d : Nat) : Value := a.tmps.getD d undef
theorem slot_put_ne {a : Act} {x : Option Tmp} {v : Value} {d : Nat} (h : x ≠ some d) : slot (a.put x v) d = slot a d := by
  cases x with
  | none => rfl
  | some e =>
    have hne : e ≠ d := fun he => h (by rw [he])
    simp [slot, Act.put, Array.getElem?_setIfInBounds_ne hne]
theorem slot_put_eq {a : Act} {v : Value} {d : Nat} (h : d < a.tmps.size) : slot (a.put (some d) v) d = v := by
  simp [slot, Act.put, h]
theorem size_put (a : Act) (x : Option Tmp) (v : Value) : (a.put x v).tmps.size = a.tmps.size := by cases x <;> simp [Act.put]
theorem defers_put (a : Act) (x : Option Tmp) (v : Value) : (a.put x v).defers = a.defers := by cases x <;> rfl
theorem act_ext {a b : Act} (hs : a.tmps.size = b.tmps.size) (hd : a.defers = b.defers) (h : ∀ d, d < a.tmps.size → slot a d = slot b d) : a = b := by
  obtain ⟨ta, da⟩ := a
  obtain ⟨tb, db⟩ := b
  simp only at hs hd
  subst hd
  congr
  apply Array.ext hs
  intro i h1 h2
  have := h i h1
  simpa [slot, h1, h2] using this

def dstOf (ops : Array Oper) (k : Nat) : Option Tmp := (ops[k]?).bind (·.dst)
/-- The frame: of the first m operations those that are listed have put their values. -/
def frameL (ops : Array Oper) (listed : Nat → Bool) (vs : Nat → Value) (a0 : Act) : Nat → Act
  | 0 => a0
  | m + 1 => if listed m then (frameL ops listed vs a0 m).put (dstOf ops m) (vs m) else frameL ops listed vs a0 m

theorem frameL_size (listed : Nat → Bool) (vs : Nat → Value) (a0 : Act) : ∀ m, (frameL ops listed vs a0 m).tmps.size = a0.tmps.size
  | 0 => rfl
  | m + 1 => by unfold frameL; split <;> simp [size_put, frameL_size listed vs a0 m]
theorem frameL_defers (listed : Nat → Bool) (vs : Nat → Value) (a0 : Act) : ∀ m, (frameL ops listed vs a0 m).defers = a0.defers
  | 0 => rfl
  | m + 1 => by unfold frameL; split <;> simp [defers_put, frameL_defers listed vs a0 m]
/-- None of the later ones writes the slot. -/
theorem frameL_past {listed : Nat → Bool} {vs : Nat → Value} {a0 : Act} {d p : Nat} : ∀ m, p ≤ m → (∀ j, p ≤ j → j < m → listed j = true → dstOf ops j ≠ some d) → slot (frameL ops listed vs a0 m) d = slot (frameL ops listed vs a0 p) d
  | 0, h, _ => by have : p = 0 := by omega
                  subst this; rfl
  | m + 1, h, hj => by
    by_cases hp : p = m + 1
    · subst hp; rfl
    · have ih := frameL_past (listed := listed) (vs := vs) (a0 := a0) (d := d) (p := p) m (by omega) (fun j h1 h2 => hj j h1 (by omega))
      rw [frameL]
      split
      · rename_i hl; rw [slot_put_ne (hj m (by omega) (by omega) hl)]; exact ih
      · exact ih
/-- Two frames agree on a slot. -/
theorem frameL_agree {l l' : Nat → Bool} {vs vs' : Nat → Value} {a0 : Act} {d : Nat} : ∀ m, (∀ j, j < m → dstOf ops j = some d → l j = l' j ∧ (l j = true → vs j = vs' j)) → slot (frameL ops l vs a0 m) d = slot (frameL ops l' vs' a0 m) d
  | 0, _ => rfl
  | m + 1, h => by
    have ih := frameL_agree (l := l) (l' := l') (vs := vs) (vs' := vs') (a0 := a0) (d := d) m (fun j hj => h j (by omega))
    by_cases hd : dstOf ops m = some d
    · obtain ⟨h1, h2⟩ := h m (by omega) hd
      rw [frameL, frameL, ← h1]
      split
      · rename_i hl
        by_cases hlt : d < a0.tmps.size
        · rw [hd, slot_put_eq (by rw [frameL_size]; exact hlt), slot_put_eq (by rw [frameL_size]; exact hlt), h2 hl]
        · simp [slot, size_put, frameL_size, hlt]
      · exact ih
    · rw [frameL, frameL]
      split <;> split <;> simp [slot_put_ne hd, ih]

/-! ### what is asked of the region, by reckoning -/
def waitsOn (md : Region.Mode) (o : Oper) (i : Nat) : Bool := o.after.any fun e => Region.binds md e && e.on == i
theorem waitsOn_spec {o : Oper} {i : Nat} (h : waitsOn md o i = true) : ∃ e ∈ o.after, Region.binds md e = true ∧ e.on = i := by
  obtain ⟨e, he, hb⟩ := Array.any_eq_true'.1 h
  simp only [Bool.and_eq_true, beq_iff_eq] at hb
  exact ⟨e, he, hb.1, hb.2⟩
/-- Edges lead back; two operations wait for one another or are apart. -/
def factsB (md : Region.Mode) (ops : Array Oper) : Bool :=
  Region.noSelect ops && (List.range ops.size).all fun k => match ops[k]? with
    | none => true
    | some o => o.after.all (fun e => !Region.binds md e || decide (e.on < k)) && (List.range k).all fun j => match ops[j]? with
      | none => true
      | some oj => waitsOn md o j || o.apart ops oj
theorem factsB_spec (h : factsB md ops = true) : Region.noSelect ops = true ∧
    (∀ (k : Nat) (o : Oper) (e : Edge), ops[k]? = some o → e ∈ o.after → Region.binds md e = true → e.on < k) ∧
    (∀ (k j : Nat) (o oj : Oper), ops[k]? = some o → ops[j]? = some oj → j < k → waitsOn md o j = true ∨ o.apart ops oj = true) := by
  simp only [factsB, Bool.and_eq_true, List.all_eq_true, List.mem_range] at h
  obtain ⟨h0, h⟩ := h
  refine ⟨h0, fun k o e hk he hb => ?_, fun k j o oj hk hj hjk => ?_⟩
  · have hlt : k < ops.size := (Array.getElem?_eq_some_iff.1 hk).1
    have := h k hlt
    rw [hk] at this
    simp only [Bool.and_eq_true] at this
    have h1 := Array.all_eq_true_iff_forall_mem.1 this.1 e he
    simpa [hb] using h1
  · have hlt : k < ops.size := (Array.getElem?_eq_some_iff.1 hk).1
    have := h k hlt
    rw [hk] at this
    simp only [Bool.and_eq_true, List.all_eq_true, List.mem_range] at this
    have h1 := this.2 j hjk
    rw [hj] at h1
    simpa using h1
/-- j is an ancestor of k. -/
def ancB (md : Region.Mode) (ops : Array Oper) : Nat → Nat → Nat → Bool
  | 0, _, _ => false
  | f + 1, k, j => match ops[k]? with
    | none => false
    | some o => o.after.any fun e => Region.binds md e && (e.on == j || ancB md ops f e.on j)
theorem anc_listed {listed : Nat → Bool} (hc : ∀ (j : Nat) (oj : Oper) (e : Edge), ops[j]? = some oj → listed j = true → e ∈ oj.after → Region.binds md e = true → listed e.on = true) :
    ∀ (f k j : Nat) (o : Oper), ops[k]? = some o → (∀ e ∈ o.after, Region.binds md e = true → listed e.on = true) → ancB md ops f k j = true → listed j = true
  | 0, _, _, _, _, _, h => by simp [ancB] at h
  | f + 1, k, j, o, hk, hall, h => by
    unfold ancB at h
    rw [hk] at h
    obtain ⟨e, he, hb⟩ := Array.any_eq_true'.1 h
    simp only [Bool.and_eq_true, Bool.or_eq_true, beq_iff_eq] at hb
    have hl := hall e he hb.1
    rcases hb.2 with h1 | h1
    · rw [← h1]; exact hl
    · cases ho : ops[e.on]? with
      | none =>
        cases f with
        | zero => simp [ancB] at h1
        | succ f => simp [ancB, ho] at h1
      | some oe => exact anc_listed hc f e.on j oe ho (fun e' he' hb' => hc e.on oe e' ho hl he' hb') h1

/-! ### facts -/
/-- How worlds go on; what is known of each operation's value. -/
structure FactsOf (P : Program) (md : Region.Mode) (ops : Array Oper) (n : Nat) (E : World → World → Prop) (w0 : World) (a0 : Act) (G : Nat → Value → World → Prop) (nice : (Nat → Value) → Nat → Value) : Prop where
  keep : ∀ i u w w', G i u w → E w w' → G i u w'
  plain : ∀ j vs w, G j (vs j) w → nice vs j = vs j
  step : ∀ (k : Nat) (o : Oper) (vs : Nat → Value) (w : World), k < n → ops[k]? = some o → E w0 w → (∀ j, ancB md ops ops.size k j = true → G j (vs j) w) →
    ∀ a : Act, a = frameL ops (fun _ => true) (nice vs) a0 k →
      (if Region.wanted o (yielded ops a.tmps) then uponW P (fun u w' => E w w' ∧ G k u w') ((execOp a.eval o).run P w) else G k undef w)

structure Inv (md : Region.Mode) (ops : Array Oper) (n : Nat) (E : World → World → Prop) (w0 : World) (a0 : Act) (G : Nat → Value → World → Prop) (listed : Array Bool) (vs : Nat → Value) (a : Act) (w : World) : Prop where
  size : listed.size = ops.size
  closed : ∀ (j : Nat) (oj : Oper) (e : Edge), ops[j]? = some oj → listed.getD j false = true → e ∈ oj.after → Region.binds md e = true → listed.getD e.on false = true
  frame : a = frameL ops (fun k => listed.getD k false) vs a0 n
  tail : ∀ j, n ≤ j → listed.getD j false = false
  world : E w0 w
  facts : ∀ j, listed.getD j false = true → G j (vs j) w

theorem apart_looks {x y : Oper} (h : x.apart ops y = true) : ∀ d, y.dst = some d → d ∉ x.looksAt ops := (Oper.apart_spec h).2.2
theorem apart_looks' {x y : Oper} (h : x.apart ops y = true) : ∀ d, x.dst = some d → d ∉ y.looksAt ops := (Oper.apart_spec h).1
theorem apart_dst {x y : Oper} (h : x.apart ops y = true) : ∀ d, x.dst = some d → y.dst ≠ some d := (Oper.apart_spec h).2.1

theorem exec_same {o : Oper} {a b : Act} (hs : ∀ cs t, o.op ≠ .select cs t) (h : ∀ d ∈ o.looksAt ops, slot a d = slot b d) : execOp a.eval o = execOp b.eval o := by
  refine execOp_congr o hs fun x hx => ?_
  cases x with
  | tmp t => exact h t (List.mem_append_left _ (List.mem_filterMap.2 ⟨.tmp t, by simpa using hx, rfl⟩))
  | _ => rfl
theorem slot_get {a : Act} {t : Nat} (h : t < a.tmps.size) : a.tmps[t]? = some (slot a t) := by simp [slot, h]
theorem wanted_same {o : Oper} {a b : Act} (hz : a.tmps.size = b.tmps.size) (h : ∀ d ∈ o.looksAt ops, slot a d = slot b d) : Region.wanted o (yielded ops a.tmps) = Region.wanted o (yielded ops b.tmps) := by
  unfold Region.wanted
  cases hg : o.guard with
  | none => rfl
  | some gw =>
    obtain ⟨g, want⟩ := gw
    have hy : yielded ops a.tmps g = yielded ops b.tmps g := by
      unfold yielded
      cases ht : (ops[g]?).bind (·.dst) with
      | none => rfl
      | some t =>
        have hm : t ∈ o.looksAt ops := by simp [Oper.looksAt, hg, ht]
        have e := h t hm
        have e2 : a.tmps[t]? = b.tmps[t]? := by
          by_cases hlt : t < a.tmps.size
          · rw [slot_get hlt, slot_get (a := b) (hz ▸ hlt), e]
          · rw [Array.getElem?_eq_none (Nat.le_of_not_lt hlt), Array.getElem?_eq_none (hz ▸ Nat.le_of_not_lt hlt)]
        simp only [Option.bind_some, e2]
    simp only [hy]

def left (n : Nat) (listed : Array Bool) : Nat := ((List.range n).filter fun i => !listed.getD i false).length
theorem left_zero {n : Nat} {listed : Array Bool} (h : left n listed = 0) : ∀ j, j < n → listed.getD j false = true := by
  intro j hj
  have h1 := List.eq_nil_of_length_eq_zero h
  have := List.filter_eq_nil_iff.1 h1 j (List.mem_range.2 hj)
  simpa using this
theorem filter_set (listed : Array Bool) (i : Nat) (hs : i < listed.size) (h : listed.getD i false = false) : ∀ (l : List Nat), l.Nodup → i ∈ l →
    (l.filter fun j => !(listed.setIfInBounds i true).getD j false).length + 1 = (l.filter fun j => !listed.getD j false).length
  | [], _, hm => by cases hm
  | x :: l, hn, hm => by
    have hn' := List.nodup_cons.1 hn
    by_cases hx : x = i
    · subst hx
      have e : (l.filter fun j => !(listed.setIfInBounds x true).getD j false) = l.filter fun j => !listed.getD j false := by
        apply List.filter_congr
        intro j hj
        have hne : x ≠ j := fun e => hn'.1 (e ▸ hj)
        rw [getD_set_ne false hne]
      have h1 : (listed.setIfInBounds x true).getD x false = true := by simp [hs]
      simp only [List.filter_cons, h1, h, e]
      simp
    · have hm' : i ∈ l := by
        rcases List.mem_cons.1 hm with e | e
        · exact absurd e.symm hx
        · exact e
      have ih := filter_set listed i hs h l hn'.2 hm'
      have e : (listed.setIfInBounds i true).getD x false = listed.getD x false := getD_set_ne false (Ne.symm hx)
      simp only [List.filter_cons, e]
      split <;> (try simp only [List.length_cons]) <;> omega
theorem getD_flip {listed : Array Bool} {i : Nat} (hi : i < listed.size) : listed.getD i true = listed.getD i false := by simp [hi]

theorem anc_low (hlow : ∀ (k : Nat) (o : Oper) (e : Edge), ops[k]? = some o → e ∈ o.after → Region.binds md e = true → e.on < k) : ∀ (f k j : Nat), ancB md ops f k j = true → j < k
  | 0, _, _, h => by simp [ancB] at h
  | f + 1, k, j, h => by
    unfold ancB at h
    cases hk : ops[k]? with
    | none => simp [hk] at h
    | some o =>
      rw [hk] at h
      obtain ⟨e, he, hb⟩ := Array.any_eq_true'.1 h
      simp only [Bool.and_eq_true, Bool.or_eq_true, beq_iff_eq] at hb
      have h1 := hlow k o e hk he hb.1
      rcases hb.2 with h2 | h2
      · omega
      · have := anc_low hlow f e.on j h2; omega

/-- From operation n on, each waits for all before it. -/
def tailB (md : Region.Mode) (ops : Array Oper) (n : Nat) : Bool := (List.range ops.size).all fun t => decide (t < n) || (List.range t).all fun j => ancB md ops ops.size t j
theorem tailB_spec {n : Nat} (h : tailB md ops n = true) (t j : Nat) (ht : t < ops.size) (hn : n ≤ t) (hj : j < t) : ancB md ops ops.size t j = true := by
  simp only [tailB, List.all_eq_true, List.mem_range, Bool.or_eq_true, decide_eq_true_eq] at h
  rcases h t ht with h1 | h1
  · omega
  · exact h1 j hj

theorem wpAny_tail (hlow : ∀ (k : Nat) (o : Oper) (e : Edge), ops[k]? = some o → e ∈ o.after → Region.binds md e = true → e.on < k) {n : Nat} (hT : tailB md ops n = true) {Q : Exit → Act → World → Prop} : ∀ (tl : List Oper) (t : Nat) (listed : Array Bool) (a : Act) (w : World), n ≤ t → (∀ j, tl[j]? = ops[t + j]?) → t + tl.length = ops.size →
    listed.size = ops.size → (∀ j, j < t → listed.getD j false = true) → (∀ j, t ≤ j → listed.getD j false = false) → wpList P ops Q tl a w → wpAny P md ops Q tl.length listed a w
  | [], t, listed, a, w, _, _, hz, hs, hl, _, h => by
    refine ⟨?_, h⟩
    unfold Region.ready
    rw [List.filter_eq_nil_iff]
    intro j hj
    have hj' := List.mem_range.1 hj
    have h1 := hl j (by simp at hz; omega)
    rw [← getD_flip (by omega)] at h1
    simp [h1]
  | o :: tl, t, listed, a, w, hn, hl, hz, hs, hd, hu, h => by
    have h0 : ops[t]? = some o := by simpa using (hl 0).symm
    have htl : t < ops.size := by simp at hz; omega
    have only : ∀ i ∈ Region.ready md ops listed, i = t := by
      intro i hi
      obtain ⟨hun, oi, hoi, hall⟩ := mem_ready.1 hi
      have hilt : i < ops.size := (Array.getElem?_eq_some_iff.1 hoi).1
      rw [getD_flip (by omega)] at hun
      rcases Nat.lt_trichotomy i t with hit | hit | hit
      · rw [hd i hit] at hun; cases hun
      · exact hit
      · exfalso
        -- t is an ancestor of i: the first step of that way is listed, so lies before t
        have ha := tailB_spec hT i t hilt (by omega) hit
        have hpos : ∃ f, ops.size = f + 1 := ⟨ops.size - 1, by omega⟩
        obtain ⟨f, hf⟩ := hpos
        rw [hf] at ha
        unfold ancB at ha
        rw [hoi] at ha
        obtain ⟨e, he, hb⟩ := Array.any_eq_true'.1 ha
        simp only [Bool.and_eq_true, Bool.or_eq_true, beq_iff_eq] at hb
        have hel := hall e he hb.1
        have het : e.on < t := by
          rcases Nat.lt_or_ge e.on t with h1 | h1
          · exact h1
          · rw [hu e.on h1] at hel; cases hel
        rcases hb.2 with h1 | h1
        · omega
        · have := anc_low hlow f e.on t h1; omega
    refine ⟨fun hr => ?_, fun i hi => ?_⟩
    · exfalso
      have : t ∈ Region.ready md ops listed := mem_ready.2 ⟨by rw [getD_flip (by omega)]; exact hu t (Nat.le_refl _), o, h0, fun e he hb => hd e.on (hlow t o e h0 he hb)⟩
      rw [hr] at this; cases this
    · obtain rfl := only i hi
      have hrec : ∀ a' w', wpList P ops Q tl a' w' → wpAny P md ops Q tl.length (listed.setIfInBounds i true) a' w' := fun a' w' h' =>
        wpAny_tail hlow hT tl (i + 1) (listed.setIfInBounds i true) a' w' (by omega) (fun j => by have := hl (j + 1); simpa [Nat.add_assoc, Nat.add_comm 1 j] using this) (by simp at hz; omega) (by simpa using hs)
          (fun j hj => by
            by_cases e : j = i
            · subst e; simp [hs, htl]
            · rw [getD_set_ne false (Ne.symm e)]; exact hd j (by omega))
          (fun j hj => by rw [getD_set_ne false (by omega)]; exact hu j (by omega)) h'
      unfold wpOp
      simp only [h0]
      unfold wpList at h
      split
      · rename_i hw
        rw [if_pos hw] at h
        rcases h with h | h
        · exact .inl (Oper.wp_mono hrec h)
        · exact .inr h
      · rename_i hw
        rw [if_neg hw] at h
        exact hrec _ _ h

/-- THE THEOREM. -/
theorem wpAny_facts {n : Nat} {tl : List Oper} (hn : n + tl.length = ops.size) (htl : ∀ j, tl[j]? = ops[n + j]?) (hT : tailB md ops n = true) {E : World → World → Prop} (hEr : ∀ a, E a a) (hEt : ∀ a b c, E a b → E b c → E a c) {w0 : World} {a0 : Act} {G : Nat → Value → World → Prop} {nice : (Nat → Value) → Nat → Value} (hB : factsB md ops = true) (hF : FactsOf P md ops n E w0 a0 G nice)
    {Q : Exit → Act → World → Prop} (hfin : ∀ (vs : Nat → Value) (w : World), E w0 w → (∀ j, j < n → G j (vs j) w) → wpList P ops Q tl (frameL ops (fun _ => true) (nice vs) a0 n) w) :
    ∀ (m : Nat) (listed : Array Bool) (vs : Nat → Value) (a : Act) (w : World), Inv md ops n E w0 a0 G listed vs a w → left n listed = m → wpAny P md ops Q (m + tl.length) listed a w := by
  obtain ⟨hns, hlow, hpair⟩ := factsB_spec hB
  intro m
  induction m with
  | zero =>
    intro listed vs a w inv hl
    have hall := left_zero hl
    have e : a = frameL ops (fun _ => true) (nice vs) a0 n := by
      rw [inv.frame]
      refine act_ext (by simp [frameL_size]) (by simp [frameL_defers]) fun d hd => frameL_agree _ fun j hj _ => ⟨hall j hj, fun _ => (hF.plain j vs w (inv.facts j (hall j hj))).symm⟩
    have h := hfin vs w inv.world fun j hj => inv.facts j (hall j hj)
    rw [← e] at h
    rw [Nat.zero_add]
    exact wpAny_tail hlow hT tl n listed a w (Nat.le_refl _) htl hn inv.size hall inv.tail h
  | succ m ih =>
    intro listed vs a w inv hl
    -- the least of the head that is not listed may come up
    have some_ready : ∃ j, j < n ∧ j ∈ Region.ready md ops listed := by
      have hex : ∃ j, j < n ∧ listed.getD j false = false := by
        have hpos : 0 < left n listed := by omega
        unfold left at hpos
        obtain ⟨j, hj⟩ := List.exists_mem_of_length_pos hpos
        obtain ⟨h1, h2⟩ := List.mem_filter.1 hj
        exact ⟨j, List.mem_range.1 h1, by simpa using h2⟩
      obtain ⟨j, hj⟩ := hex
      induction j using Nat.strongRecOn with
      | _ j ihj =>
        have hjs : j < ops.size := by omega
        by_cases hlo : ∃ i, i < j ∧ listed.getD i false = false
        · obtain ⟨i, hi1, hi2⟩ := hlo
          exact ihj i hi1 ⟨by omega, hi2⟩
        · refine ⟨j, hj.1, mem_ready.2 ⟨by rw [getD_flip (by rw [inv.size]; exact hjs)]; exact hj.2, ops[j], Array.getElem?_eq_getElem hjs, fun e he hb => ?_⟩⟩
          have := hlow j ops[j] e (Array.getElem?_eq_getElem hjs) he hb
          cases hle : listed.getD e.on false with
          | true => rfl
          | false => exact absurd ⟨e.on, this, hle⟩ hlo
    rw [Nat.add_right_comm]
    refine ⟨fun h0 => ?_, fun i hi => ?_⟩
    · obtain ⟨j, _, hj⟩ := some_ready
      rw [h0] at hj; cases hj
    · obtain ⟨hun, o, ho, hall⟩ := mem_ready.1 hi
      have hilt : i < ops.size := (Array.getElem?_eq_some_iff.1 ho).1
      have hil : listed.getD i false = false := by rw [← getD_flip (by rw [inv.size]; exact hilt)]; exact hun
      have hin : i < n := by
        rcases Nat.lt_or_ge i n with h1 | h1
        · exact h1
        · exfalso
          have hz : left n listed = 0 := by
            unfold left
            rw [List.length_eq_zero_iff, List.filter_eq_nil_iff]
            intro j hj
            have hjn := List.mem_range.1 hj
            have := anc_listed (listed := fun k => listed.getD k false) inv.closed ops.size i j o ho hall (tailB_spec hT i j hilt h1 (by omega))
            simp [this]
          omega
      have hsel : ∀ (cs : Array SelectCase) (t : Bool), o.op ≠ .select cs t := fun cs t => Region.noSelect_spec hns i o cs t ho
      -- what the operation looks at is as in the frame of the text
      have later : ∀ j, i < j → listed.getD j false = true → ∀ oj, ops[j]? = some oj → oj.apart ops o = true := by
        intro j hij hlj oj hoj
        rcases hpair j i oj o hoj ho hij with h1 | h1
        · obtain ⟨e, he, hb, hon⟩ := waitsOn_spec h1
          have := inv.closed j oj e hoj hlj he hb
          rw [hon, hil] at this; cases this
        · exact h1
      have agree : ∀ d ∈ o.looksAt ops, slot a d = slot (frameL ops (fun _ => true) (nice vs) a0 i) d := by
        intro d hd
        rw [inv.frame, frameL_past (p := i) n (by omega) ?_]
        · refine frameL_agree i fun j hj hdj => ?_
          unfold dstOf at hdj
          cases hoj : ops[j]? with
          | none => simp [hoj] at hdj
          | some oj =>
            simp only [hoj, Option.bind_some] at hdj
            rcases hpair i j o oj ho hoj hj with h1 | h1
            · obtain ⟨e, he, hb, hon⟩ := waitsOn_spec h1
              have := hall e he hb
              rw [hon] at this
              exact ⟨this, fun _ => (hF.plain j vs w (inv.facts j this)).symm⟩
            · exact absurd hd (apart_looks h1 d hdj)
        · intro j h1 h2 hlj hdj
          by_cases e : j = i
          · subst e; rw [hil] at hlj; cases hlj
          · unfold dstOf at hdj
            cases hoj : ops[j]? with
            | none => simp [hoj] at hdj
            | some oj =>
              simp only [hoj, Option.bind_some] at hdj
              exact apart_looks' (later j (by omega) hlj oj hoj) d hdj hd
      have hst := hF.step i o vs w hin ho inv.world (fun j hj => inv.facts j (anc_listed (listed := fun k => listed.getD k false) inv.closed ops.size i j o ho hall hj)) _ rfl
      have hzz : a.tmps.size = (frameL ops (fun _ => true) (nice vs) a0 i).tmps.size := by rw [inv.frame]; simp [frameL_size]
      rw [← exec_same hsel agree, ← wanted_same hzz agree] at hst
      -- behind it
      have next : ∀ (u : Value) (w' : World), E w w' → G i u w' → wpAny P md ops Q (m + tl.length) (listed.setIfInBounds i true) (a.put o.dst u) w' := by
        intro u w' hE hG
        refine ih (listed.setIfInBounds i true) (fun k => if k = i then u else vs k) _ w' ⟨by simp [inv.size], ?_, ?_, fun j hj => by rw [getD_set_ne false (by omega)]; exact inv.tail j hj, hEt _ _ _ inv.world hE, ?_⟩ ?_
        · intro j oj e hoj hlj he hb
          by_cases hij : i = j
          · subst hij
            have : oj = o := Option.some.inj (hoj.symm.trans ho)
            subst this
            exact getD_set_true (hall e he hb)
          · rw [getD_set_ne false hij] at hlj
            exact getD_set_true (inv.closed j oj e hoj hlj he hb)
        · have hli : (listed.setIfInBounds i true).getD i false = true := by simp [inv.size, hilt]
          refine act_ext (by rw [size_put, inv.frame]; simp [frameL_size]) (by rw [defers_put, inv.frame]; simp [frameL_defers]) fun d hd => ?_
          have hd0 : d < a0.tmps.size := by rw [size_put, inv.frame, frameL_size] at hd; exact hd
          have hdi : dstOf ops i = o.dst := by simp [dstOf, ho]
          by_cases hod : o.dst = some d
          · rw [hod, slot_put_eq (by rw [inv.frame, frameL_size]; exact hd0)]
            rw [frameL_past (p := i + 1) n (by omega) ?_]
            · rw [frameL, if_pos hli, hdi, hod, slot_put_eq (by rw [frameL_size]; exact hd0)]; simp
            · intro j h1 h2 hlj hdj
              rw [getD_set_ne false (by omega)] at hlj
              unfold dstOf at hdj
              cases hoj : ops[j]? with
              | none => simp [hoj] at hdj
              | some oj =>
                simp only [hoj, Option.bind_some] at hdj
                exact apart_dst (later j (by omega) hlj oj hoj) d hdj hod
          · rw [slot_put_ne hod, inv.frame]
            refine frameL_agree _ fun j hj hdj => ?_
            by_cases hij : j = i
            · subst hij; rw [hdi] at hdj; exact absurd hdj hod
            · exact ⟨by rw [getD_set_ne false (Ne.symm hij)], fun _ => by rw [if_neg hij]⟩
        · intro j hlj
          by_cases hij : j = i
          · subst hij; simp only [if_true]; exact hG
          · rw [getD_set_ne false (Ne.symm hij)] at hlj
            simp only [if_neg hij]
            exact hF.keep j _ w w' (inv.facts j hlj) hE
        · have := filter_set listed i (by rw [inv.size]; exact hilt) hil (List.range n) List.nodup_range (List.mem_range.2 hin)
          unfold left at *
          omega
      unfold wpOp
      simp only [ho]
      split
      · rename_i hw
        rw [if_pos hw] at hst
        exact .inl (wp_of_uponW hst fun u w' ⟨h1, h2⟩ => next u w' h1 h2)
      · rename_i hw
        rw [if_neg hw] at hst
        exact next undef w (hEr w) hst

theorem frameL_true_zero (vs : Nat → Value) (a0 : Act) : frameL ops (fun _ => true) vs a0 0 = a0 := rfl

/-! ### the walk -/
/-- What is known so far: of the first operations. -/
def know (G : List (Value → World → Prop)) (j : Nat) : Value → World → Prop := G.getD j fun _ _ => True
/-- The rest of the walk: k operations have been gone through; G: what is known of each; fr: the frame, out of the values. -/
def wpF (P : Program) (md : Region.Mode) (ops : Array Oper) (E : World → World → Prop) (w0 : World) (R : Act → World → Prop) : List Oper → Nat → List (Value → World → Prop) → ((Nat → Value) → Act) → Prop
  | [], _, G, fr => ∀ (vs : Nat → Value) (w : World), E w0 w → (∀ j, know G j (vs j) w) → R (fr vs) w
  | o :: rest, k, G, fr => ∃ (T : Value → World → Prop) (c : (Nat → Value) → Value), (∀ u w w', T u w → E w w' → T u w') ∧ (∀ vs w, T (vs k) w → c vs = vs k) ∧
      (∀ (vs : Nat → Value) (w : World), E w0 w → (∀ j, ancB md ops ops.size k j = true → know G j (vs j) w) →
        if Region.wanted o (yielded ops (fr vs).tmps) then uponW P (fun u w' => E w w' ∧ T u w') ((execOp (fr vs).eval o).run P w) else T undef w) ∧
      wpF P md ops E w0 R rest (k + 1) (G ++ [T]) (fun vs => (fr vs).put o.dst (c vs))

theorem frameL_congr {l : Nat → Bool} {vs vs' : Nat → Value} {a0 : Act} : ∀ m, (∀ j, j < m → vs j = vs' j) → frameL ops l vs a0 m = frameL ops l vs' a0 m
  | 0, _ => rfl
  | m + 1, h => by rw [frameL, frameL, frameL_congr m (fun j hj => h j (by omega)), h m (by omega)]

theorem know_old {G G' : List (Value → World → Prop)} {j : Nat} (h : j < G.length) : know (G ++ G') j = know G j := by
  unfold know; simp [List.getD, List.getElem?_append_left h]
theorem know_new {G : List (Value → World → Prop)} {T : Value → World → Prop} : know (G ++ [T]) G.length = T := by
  unfold know; simp

theorem wpF_facts {n : Nat} {E : World → World → Prop} {w0 : World} {a0 : Act} {R : Act → World → Prop} (hns : n ≤ ops.size) (hlow : ∀ k j, ancB md ops ops.size k j = true → j < k) :
    ∀ (l : List Oper) (k : Nat) (G : List (Value → World → Prop)) (nice : (Nat → Value) → Nat → Value), k = G.length → k + l.length = n → (∀ j, j < l.length → l[j]? = ops[k + j]?) → (∀ (j : Nat) (T : Value → World → Prop), G[j]? = some T → ∀ u w w', T u w → E w w' → T u w') →
      (∀ j vs w, j < k → know G j (vs j) w → nice vs j = vs j) →
      (∀ (i : Nat) (o : Oper) (vs : Nat → Value) (w : World), i < k → ops[i]? = some o → E w0 w → (∀ j, ancB md ops ops.size i j = true → know G j (vs j) w) →
        ∀ a : Act, a = frameL ops (fun _ => true) (nice vs) a0 i → (if Region.wanted o (yielded ops a.tmps) then uponW P (fun u w' => E w w' ∧ know G i u w') ((execOp a.eval o).run P w) else know G i undef w)) →
      wpF P md ops E w0 R l k G (fun vs => frameL ops (fun _ => true) (nice vs) a0 k) →
      ∃ (G' : Nat → Value → World → Prop) (nice' : (Nat → Value) → Nat → Value), FactsOf P md ops n E w0 a0 G' nice' ∧ ∀ (vs : Nat → Value) (w : World), E w0 w → (∀ j, j < n → G' j (vs j) w) → R (frameL ops (fun _ => true) (nice' vs) a0 n) w
  | [], k, G, nice, hk, hz, hl, hkeep, hnice, hold, h => by
    have hsz : n = k := by simpa using hz.symm
    refine ⟨fun j u w => if j < k then know G j u w else False, nice, ⟨fun i u w w' hT hE => ?_, fun j vs w hj => ?_, fun i o vs w hin hi hE hf a ha => ?_⟩, fun vs w hE hf => ?_⟩
    · split at hT
      · rename_i hik
        rw [if_pos hik]
        unfold know at hT ⊢
        have hg : G[i]? = some G[i] := List.getElem?_eq_getElem (by omega)
        simp only [List.getD, hg, Option.getD_some] at hT ⊢
        exact hkeep i _ hg u w w' hT hE
      · exact hT.elim
    · split at hj
      · rename_i hjk; exact hnice j vs w hjk hj
      · exact hj.elim
    · have hik : i < k := by omega
      simp only [if_pos hik]
      refine hold i o vs w hik hi hE (fun j hj => ?_) a ha
      have := hf j hj
      simp only [if_pos (by have := hlow i j hj; omega : j < k)] at this
      exact this
    · have h1 := h vs w hE (fun j => by
        by_cases hj : j < n
        · have := hf j hj
          simp only [if_pos (by omega : j < k)] at this
          exact this
        · unfold know; rw [List.getD_eq_getElem?_getD, List.getElem?_eq_none (by omega)]; trivial)
      rw [hsz]; exact h1
  | o :: l, k, G, nice, hk, hz, hl, hkeep, hnice, hold, h => by
    obtain ⟨T, c, hT, hc, hstep, hrest⟩ := h
    have h0 : ops[k]? = some o := by simpa using (hl 0 (by simp)).symm
    have hfr : ∀ (vs : Nat → Value) (m : Nat), m ≤ k → frameL ops (fun _ => true) (fun j => if j = k then c vs else nice vs j) a0 m = frameL ops (fun _ => true) (nice vs) a0 m :=
      fun vs m hm => frameL_congr m fun j hj => if_neg (by omega)
    refine wpF_facts hns hlow l (k + 1) (G ++ [T]) (fun vs j => if j = k then c vs else nice vs j) (by simp [hk]) (by simp at hz; omega) (fun j hj => by have := hl (j + 1) (by simpa using hj); simpa [Nat.add_assoc, Nat.add_comm 1 j] using this) ?_ ?_ ?_ ?_
    · intro j T' hj
      by_cases hjl : j < G.length
      · rw [List.getElem?_append_left hjl] at hj; exact hkeep j T' hj
      · have : j = G.length := by
          have := (List.getElem?_eq_some_iff.1 hj).1
          simp at this; omega
        subst this
        simp at hj
        subst hj
        exact hT
    · intro j vs w hj hkn
      by_cases hjk : j = k
      · subst hjk
        rw [if_pos rfl]
        refine hc vs w ?_
        rw [hk, know_new] at hkn
        rw [hk]; exact hkn
      · rw [if_neg hjk]
        rw [know_old (by omega)] at hkn
        exact hnice j vs w (by omega) hkn
    · intro i oi vs w hi hoi hE hf a ha
      have hf' : ∀ j, ancB md ops ops.size i j = true → know G j (vs j) w := fun j hj => by
        have := hlow i j hj
        rw [← know_old (G' := [T]) (by omega)]; exact hf j hj
      rw [hfr vs i (by omega)] at ha
      by_cases hik : i < k
      · rw [know_old (by omega)]
        exact hold i oi vs w hik hoi hE hf' a ha
      · have : i = k := by omega
        subst this
        have : oi = o := Option.some.inj (hoi.symm.trans h0)
        subst this
        have := hstep vs w hE hf'
        have e : know (G ++ [T]) i = T := by rw [hk, know_new]
        rw [e]
        subst ha
        exact this
    · have e : (fun vs => frameL ops (fun _ => true) (fun j => if j = k then c vs else nice vs j) a0 (k + 1)) = fun vs => (frameL ops (fun _ => true) (nice vs) a0 k).put o.dst (c vs) := by
        funext vs
        rw [frameL, if_pos rfl, hfr vs k (Nat.le_refl _)]
        simp [dstOf, h0]
      rw [e]; exact hrest

theorem rep_false (m j : Nat) : (Array.replicate m false).getD j false = false := by
  rcases Nat.lt_or_ge j m with h | h
  · simp [h]
  · simp [h]
/-- A region that draws its order: its head walked once, by facts; then its tail, in order. -/
theorem wp_region_facts {id : Nat} {Q : Exit → Act → World → Prop} {a : Act} {w : World} {l : List Oper} (n : Nat) (E : World → World → Prop) (hEr : ∀ a, E a a) (hEt : ∀ a b c, E a b → E b c → E a c) (hEd : E w w.drew)
    (hm : P.follows .mixedOrders = true) (hB : factsB .any l.toArray = true) (hT : tailB .any l.toArray n = true) (hn0 : Nat.ble n l.length = true) (h : wpF P .any l.toArray E w (wpList P l.toArray Q (l.drop n)) (l.take n) 0 [] (fun _ => a)) : (Code.region id l.toArray true).wp P Q a w := by
  have hn : n ≤ l.length := Nat.le_of_ble_eq_true hn0
  obtain ⟨_, hlow, _⟩ := factsB_spec hB
  obtain ⟨G, nice, hF, hfin⟩ := wpF_facts (P := P) (md := .any) (a0 := a) (n := n) (by simpa using hn) (anc_low hlow l.toArray.size) (l.take n) 0 [] (fun vs => vs) rfl (by simp; omega) (fun j hj => by simp at hj; rw [List.getElem?_take, if_pos (by omega)]; simp) (fun j T hj => by simp at hj) (fun j _ _ hj => absurd hj (Nat.not_lt_zero _)) (fun i _ _ _ hi => absurd hi (Nat.not_lt_zero _)) h
  have hrep : ∀ j, (Array.replicate l.toArray.size false).getD j false = false := fun j => rep_false _ j
  have hm2 := wpAny_facts (P := P) (md := .any) (ops := l.toArray) (n := n) (tl := l.drop n) (by simp; omega) (fun j => by simp) hT hEr hEt hB hF hfin n (Array.replicate l.toArray.size false) (fun _ => undef) a w.drew
    ⟨by simp, fun j oj e hj hl => (by rw [hrep] at hl; cases hl), ?_, fun j _ => hrep j, hEd, fun j hj => (by rw [hrep] at hj; cases hj)⟩ ?_
  · refine wp_region_any hm ?_
    have e : n + (l.drop n).length = l.toArray.size := by simp; omega
    rw [e] at hm2
    exact hm2
  · refine act_ext (by simp [frameL_size]) (by simp [frameL_defers]) fun d hd => ?_
    rw [frameL_past (p := 0) n (by omega) (fun j _ _ hj => by rw [hrep] at hj; cases hj)]
    rfl
  · unfold left
    rw [List.filter_eq_self.2]
    · simp
    · intro j hj
      rw [hrep]; rfl

/-! ### its steps -/
variable {E : World → World → Prop} {w0 : World} {R : Act → World → Prop} {o : Oper} {rest : List Oper} {k : Nat} {G : List (Value → World → Prop)} {fr : (Nat → Value) → Act}
theorem wpF_nil (h : ∀ (vs : Nat → Value) (w : World), E w0 w → (∀ j, know G j (vs j) w) → R (fr vs) w) : wpF P md ops E w0 R [] k G fr := h
/-- An operation whose value is known: c. -/
theorem wpF_val (c : Value) (h : ∀ (vs : Nat → Value) (w : World), E w0 w → (∀ j, ancB md ops ops.size k j = true → know G j (vs j) w) →
      if Region.wanted o (yielded ops (fr vs).tmps) then uponW P (fun u w' => E w w' ∧ u = c) ((execOp (fr vs).eval o).run P w) else undef = c)
    (hr : wpF P md ops E w0 R rest (k + 1) (G ++ [fun u _ => u = c]) (fun vs => (fr vs).put o.dst c)) : wpF P md ops E w0 R (o :: rest) k G fr :=
  ⟨fun u _ => u = c, fun _ => c, fun _ _ _ h _ => h, fun _ _ h => h.symm, h, hr⟩
/-- One of whose value and world something is known: T. -/
theorem wpF_fact (T : Value → World → Prop) (hT : ∀ u w w', T u w → E w w' → T u w') (h : ∀ (vs : Nat → Value) (w : World), E w0 w → (∀ j, ancB md ops ops.size k j = true → know G j (vs j) w) →
      if Region.wanted o (yielded ops (fr vs).tmps) then uponW P (fun u w' => E w w' ∧ T u w') ((execOp (fr vs).eval o).run P w) else T undef w)
    (hr : wpF P md ops E w0 R rest (k + 1) (G ++ [T]) (fun vs => (fr vs).put o.dst (vs k))) : wpF P md ops E w0 R (o :: rest) k G fr :=
  ⟨T, fun vs => vs k, hT, fun _ _ _ => rfl, h, hr⟩
end
end Go.Proofs.Ytehcepibmekooad

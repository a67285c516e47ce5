/- A region that draws its order, whose operations may answer in more than one way (a NaN's bits): one walk in the order of the text serves every order. -/
import Derived.Test.YtehcepibmekooadFl
import Derived.Deep.Quiet
import Derived.KernelRfl
set_option linter.unusedSimpArgs false
set_option linter.unusedVariables false
namespace Go.Proofs.Ytehcepibmekooad
open Go
section
variable {P : Program} {ops : Array Oper} {md : Region.Mode} {C : World → Prop} {cal : FuncId → Array Value → Value → Prop}

/-- What a call inside the region may end in. -/
def CalPost (C : World → Prop) (cal : FuncId → Array Value → Value → Prop) (f : FuncId) (args : Array Value) (e : Ending) (w3 : World) : Prop := ∃ u, e = .returned u ∧ cal f args u ∧ C w3

/-- What one operation may leave, in whatever world of the class it is carried out: each value that it may have suits 'next'; of a call: each value that 'cal' lets. -/
def uponN (P : Program) (C : World → Prop) (cal : FuncId → Array Value → Value → Prop) (next : Value → Prop) : Result Next → Prop
  | .ok (.value u) w' => C w' ∧ next u
  | .ok .skip w' => C w' ∧ next undef
  | .ok (.enter f args) w' => Calls P f args w' (CalPost C cal f args) ∧ ∀ u, cal f args u → next u
  | _ => False

def atN (P : Program) (C : World → Prop) (cal : FuncId → Array Value → Value → Prop) (o : Oper) (a : Act) (next : Value → Prop) : Prop :=
  ∀ w, C w → uponN P C cal next ((execOp a.eval o).run P w)

def opN (P : Program) (ops : Array Oper) (C : World → Prop) (cal : FuncId → Array Value → Value → Prop) (o : Oper) (a : Act) (next : Value → Prop) : Prop :=
  if Region.wanted o (yielded ops a.tmps) then atN P C cal o a next else next undef

theorem uponN_mono {next next' : Value → Prop} {r : Result Next} (h : ∀ u, next u → next' u) (hh : uponN P C cal next r) : uponN P C cal next' r := by
  cases r with
  | halt x w' => exact hh
  | ok n w' => cases n <;> first | exact hh | exact ⟨hh.1, h _ hh.2⟩ | exact ⟨hh.1, fun u hu => h u (hh.2 u hu)⟩

theorem opN_mono {o : Oper} {a : Act} {next next' : Value → Prop} (h : ∀ u, next u → next' u) (hh : opN P ops C cal o a next) : opN P ops C cal o a next' := by
  unfold opN at *
  split
  · rename_i hw; rw [if_pos hw] at hh; exact fun w hw' => uponN_mono h (hh w hw')
  · rename_i hw; rw [if_neg hw] at hh; exact h _ hh

theorem calls_some {f : FuncId} {args : Array Value} {w : World} {R : Ending → World → Prop} (h : Calls P f args w R) : ∃ e w', R e w' := by
  obtain ⟨e, w', _, hr, _⟩ := h []
  exact ⟨e, w', hr⟩

/-- It leaves something. -/
theorem opN_some (hC : ∃ w, C w) {o : Oper} {a : Act} {next : Value → Prop} (hh : opN P ops C cal o a next) : ∃ u, next u := by
  obtain ⟨w, hw⟩ := hC
  unfold opN at hh
  split at hh
  · have h := hh w hw
    cases hr : (execOp a.eval o).run P w with
    | halt x w' => rw [hr] at h; exact h.elim
    | ok n w' =>
      rw [hr] at h
      cases n <;> simp only [uponN] at h
      case value u => exact ⟨_, h.2⟩
      case skip => exact ⟨_, h.2⟩
      case enter f args =>
        obtain ⟨e, w3, u, _, hu, _⟩ := calls_some h.1
        exact ⟨u, h.2 u hu⟩
  · exact ⟨_, hh⟩

/-- All at once: what suits each of a family suits all of it. -/
theorem opN_all {ι : Type} (i0 : ι) {o : Oper} {a : Act} {next : ι → Value → Prop} (hh : ∀ i, opN P ops C cal o a (next i)) : opN P ops C cal o a (fun u => ∀ i, next i u) := by
  unfold opN at *
  split
  · rename_i hw
    intro w hC
    have h : ∀ i, uponN P C cal (next i) ((execOp a.eval o).run P w) := fun i => by have := hh i; rw [if_pos hw] at this; exact this w hC
    cases hr : (execOp a.eval o).run P w with
    | halt x w' => have := h i0; rw [hr] at this; exact this
    | ok n w' =>
      rw [hr] at h
      cases n <;> first | exact ⟨(h i0).1, fun i => (h i).2⟩ | exact ⟨(h i0).1, fun u hu i => (h i).2 u hu⟩ | exact h i0
  · rename_i hw
    intro i; have := hh i; rw [if_neg hw] at this; exact this

theorem opN_same {o : Oper} {a a' : Act} {next : Value → Prop} (he : execOp a'.eval o = execOp a.eval o)
    (hw : Region.wanted o (yielded ops a'.tmps) = Region.wanted o (yielded ops a.tmps)) (h : opN P ops C cal o a next) : opN P ops C cal o a' next := by
  unfold opN atN at *
  rw [he, hw]; exact h

def qN (P : Program) (ops : Array Oper) (C : World → Prop) (cal : FuncId → Array Value → Value → Prop) (i : Nat) (K : Act → Prop) (a : Act) : Prop :=
  match ops[i]? with
  | none => K a
  | some o => opN P ops C cal o a (fun u => K (a.put o.dst u))

theorem qN_mono {i : Nat} {a : Act} {K K' : Act → Prop} (h : ∀ a, K a → K' a) (hh : qN P ops C cal i K a) : qN P ops C cal i K' a := by
  unfold qN at *
  split
  · rename_i ho; rw [ho] at hh; exact h _ hh
  · rename_i o ho; rw [ho] at hh; exact opN_mono (fun u hu => h _ hu) hh

/-- Two operations apart from one another: their order is free. -/
theorem qN_swap (hC : ∃ w, C w) {i j : Nat} {oi oj : Oper} (hi : ops[i]? = some oi) (hj : ops[j]? = some oj) (hap : oi.apart ops oj = true)
    (hsi : ∀ cs b, oi.op ≠ .select cs b) (hsj : ∀ cs b, oj.op ≠ .select cs b) {K : Act → Prop} {a : Act}
    (h : qN P ops C cal i (fun a' => qN P ops C cal j K a') a) : qN P ops C cal j (fun a' => qN P ops C cal i K a') a := by
  obtain ⟨h1, h2, h3⟩ := Oper.apart_spec hap
  unfold qN at *
  simp only [hi, hj] at *
  -- oi's values suit: of each, oj goes on
  have hj1 : opN P ops C cal oi a (fun u => opN P ops C cal oj a (fun v => K ((a.put oi.dst u).put oj.dst v))) := by
    refine opN_mono (fun u hu => ?_) h
    exact opN_same (a := a.put oi.dst u) (a' := a) (execOp_put oj hsj a oi.dst u h1).symm (wanted_put oj a oi.dst u h1).symm hu
  obtain ⟨u0, hu0⟩ := opN_some hC hj1
  -- oj, at a: for every value that oi may have
  let S : Type := { u : Value // opN P ops C cal oj a (fun v => K ((a.put oi.dst u).put oj.dst v)) }
  have hall : opN P ops C cal oj a (fun v => ∀ s : S, K ((a.put oi.dst s.1).put oj.dst v)) := opN_all (ι := S) ⟨u0, hu0⟩ fun s => s.2
  refine opN_mono (fun v hv => ?_) hall
  refine opN_mono (fun u hu => ?_) (opN_same (a := a) (a' := a.put oj.dst v) (execOp_put oi hsi a oj.dst v h3) (wanted_put oi a oj.dst v h3) hj1)
  rw [← Act.put_comm a u v h2]
  exact hv ⟨u, hu⟩

/-- Whatever order is picked from here on. -/
def wpAnyN (P : Program) (md : Region.Mode) (ops : Array Oper) (C : World → Prop) (cal : FuncId → Array Value → Value → Prop) (Q : Act → Prop) : Nat → Array Bool → Act → Prop
  | 0, listed, a => Region.ready md ops listed = [] ∧ Q a
  | fuel + 1, listed, a =>
    (Region.ready md ops listed = [] → Q a) ∧
    ∀ i ∈ Region.ready md ops listed, qN P ops C cal i (wpAnyN P md ops C cal Q fuel (listed.setIfInBounds i true)) a

theorem wpOp_of_qN {i : Nat} {a : Act} {K : Act → Prop} {K' : Act → World → Prop} {Q' : Exit → Act → World → Prop} {w : World} (hC : C w)
    (h : ∀ a w', C w' → K a → K' a w') (hh : qN P ops C cal i K a) : wpOp P ops Q' i K' a w := by
  unfold qN at hh
  unfold wpOp
  split
  · rename_i ho; simp only [ho] at hh; exact h _ _ hC hh
  · rename_i o ho
    simp only [ho] at hh
    unfold opN at hh
    split
    · rename_i hw
      rw [if_pos hw] at hh
      refine .inl ?_
      have h3 := hh w hC
      unfold Oper.wp
      generalize (execOp a.eval o).run P w = r at *
      cases r with
      | halt x w' => exact h3.elim
      | ok n w' =>
        cases n <;> simp only [uponN] at h3 <;> simp only [Oper.upon]
        case value u => exact h _ _ h3.1 h3.2
        case skip => exact h _ _ h3.1 h3.2
        case enter f args =>
          refine h3.1.mono fun e w'' ⟨u, he, hu, hw''⟩ => ?_
          subst he
          exact h _ _ hw'' (h3.2 u hu)
    · rename_i hw
      rw [if_neg hw] at hh
      exact h _ _ hC hh

theorem wpAny_of_N {Q : Act → Prop} {Q' : Exit → Act → World → Prop} (hQ : ∀ a w, C w → Q a → Q' .normal a w) : ∀ (fuel : Nat) (listed : Array Bool) (a : Act) (w : World), C w →
    wpAnyN P md ops C cal Q fuel listed a → wpAny P md ops Q' fuel listed a w
  | 0, _, _, _, hw, h => ⟨h.1, hQ _ _ hw h.2⟩
  | fuel + 1, _, _, _, hw, h => ⟨fun h0 => hQ _ _ hw (h.1 h0), fun i hi => wpOp_of_qN hw (fun a' w' hw' => wpAny_of_N hQ fuel _ a' w' hw') (h.2 i hi)⟩

/-- An operation that may come up now may be taken first, if every other that has not come up yet waits for it or is apart from it. -/
theorem wpAnyN_first (hC : ∃ w, C w) {Q : Act → Prop} {i : Nat} {oi : Oper} (hi : ops[i]? = some oi) (hsel : ∀ (j : Nat) (o : Oper) cs b, ops[j]? = some o → o.op ≠ .select cs b) :
    ∀ (fuel : Nat) (listed : Array Bool) (a : Act),
      (∀ j oj, ops[j]? = some oj → j ≠ i → listed.getD j true = false → (∀ e ∈ oj.after, Region.binds md e = true → e.on ≠ i) → oi.apart ops oj = true) →
      i ∈ Region.ready md ops listed →
      qN P ops C cal i (wpAnyN P md ops C cal Q fuel (listed.setIfInBounds i true)) a → wpAnyN P md ops C cal Q (fuel + 1) listed a := by
  intro fuel
  induction fuel with
  | zero =>
    intro listed a _ hr H
    refine ⟨fun h => (by rw [h] at hr; cases hr), fun j hj => ?_⟩
    by_cases hji : j = i
    · subst hji; exact H
    · exfalso
      have hm := ready_mono hj hji
      unfold qN at H
      simp only [hi] at H
      obtain ⟨u, hu⟩ := opN_some hC H
      rw [hu.1] at hm
      cases hm
  | succ fuel ih =>
    intro listed a hfree hr H
    refine ⟨fun h => (by rw [h] at hr; cases hr), fun j hj => ?_⟩
    by_cases hji : j = i
    · subst hji; exact H
    · obtain ⟨hjun, oj, hoj, hall⟩ := mem_ready.1 hj
      have hnot : ∀ e ∈ oj.after, Region.binds md e = true → e.on ≠ i := fun e he hb heq => by
        have h1 := hall e he hb
        have h0 := (mem_ready.1 hr).1
        rw [heq] at h1
        rcases Nat.lt_or_ge i listed.size with h' | h'
        · simp [h'] at h0 h1; rw [h0] at h1; cases h1
        · simp [Array.getElem?_eq_none h'] at h1
      have H2 : qN P ops C cal i (fun a' => qN P ops C cal j (wpAnyN P md ops C cal Q fuel ((listed.setIfInBounds i true).setIfInBounds j true)) a') a :=
        qN_mono (fun a' h => h.2 j (ready_mono hj hji)) H
      have H3 := qN_swap hC hi hoj (hfree j oj hoj hji hjun hnot) (fun cs b => hsel i oi cs b hi) (fun cs b => hsel j oj cs b hoj) H2
      refine qN_mono (fun a' h => ?_) H3
      refine ih (listed.setIfInBounds j true) a' (fun k ok hk hki hun hno => ?_) (ready_mono hr (Ne.symm hji)) ?_
      · refine hfree k ok hk hki ?_ hno
        by_cases hjk : j = k
        · subst hjk; exact hjun
        · rw [getD_set_ne true hjk] at hun; exact hun
      · rw [Array.setIfInBounds_comm _ _ (Ne.symm hji)] at h; exact h

/-- The walk in the order of the text. -/
def wpN (P : Program) (ops : Array Oper) (C : World → Prop) (cal : FuncId → Array Value → Value → Prop) (Q : Act → Prop) : List Oper → Act → Prop
  | [], a => Q a
  | o :: rest, a => opN P ops C cal o a (fun u => wpN P ops C cal Q rest (a.put o.dst u))

theorem wpAnyN_lex (hC : ∃ w, C w) {Q : Act → Prop} (hs : Region.noSelect ops = true) : ∀ (l : List Oper) (k : Nat) (listed : Array Bool) (a : Act), (∀ j, l[j]? = ops[k + j]?) →
    Region.lexFrom md ops l.length k listed = true → wpN P ops C cal Q l a → wpAnyN P md ops C cal Q l.length listed a
  | [], _, _, _, _, hB, h => ⟨by simpa [Region.lexFrom] using hB, h⟩
  | o :: l, k, listed, a, hl, hB, h => by
    have h0 : ops[k]? = some o := by simpa using (hl 0).symm
    simp only [List.length_cons, Region.lexFrom, Bool.and_eq_true] at hB
    obtain ⟨⟨hr, hf⟩, hB'⟩ := hB
    refine wpAnyN_first hC h0 (Region.noSelect_spec hs) l.length listed a (Region.free_spec h0 hf) (by simpa using hr) ?_
    unfold qN
    simp only [h0]
    exact opN_mono (fun u hu => wpAnyN_lex hC hs l (k + 1) _ _ (fun j => by have := hl (j + 1); simpa [Nat.add_assoc, Nat.add_comm 1 j] using this) hB' hu) h

theorem wp_region_N {id : Nat} {Q : Exit → Act → World → Prop} {a : Act} {w : World} {l : List Oper} {j : Nat} (cal : FuncId → Array Value → Value → Prop) (hm : P.follows .mixedOrders = true) (hB : Region.lexB .any l.toArray = true)
    (h : wpN P l.toArray (fun w' => ∃ n, w' = w.drewN n) cal (fun a' => ∀ n, Q .normal a' (w.drewN n)) l a) : (Code.region id l.toArray true).wp P Q a (w.drewN j) := by
  have hC : ∃ w', ∃ n, w' = w.drewN n := ⟨w, 0, rfl⟩
  simp only [Region.lexB, Bool.and_eq_true] at hB
  refine wp_region_any hm (wpAny_of_N (cal := cal) (C := fun w' => ∃ n, w' = w.drewN n) (Q := fun a' => ∀ n, Q .normal a' (w.drewN n)) (fun a' w' ⟨n, hn⟩ hq => by rw [hn]; exact hq n) _ _ _ _ ⟨j + 1, rfl⟩ ?_)
  have := wpAnyN_lex (P := P) (cal := cal) (Q := fun a' => ∀ n, Q .normal a' (w.drewN n)) hC (md := .any) hB.1 l 0 (Array.replicate l.toArray.size false) a (by simp) (by simpa using hB.2) h
  simpa using this

/-! ### steps of the walk -/
theorem wpN_nil {Q : Act → Prop} {a : Act} (h : Q a) : wpN P ops C cal Q [] a := h
theorem wpN_step {Q : Act → Prop} {a : Act} {o : Oper} {rest : List Oper} {w : World}
    (h : ∀ K : Act → Prop, (∀ a, wpN P ops (fun w' => ∃ n, w' = w.drewN n) cal Q rest a → K a) →
      if Region.wanted o (yielded ops a.tmps) then ∀ n, uponN P (fun w' => ∃ n, w' = w.drewN n) cal (fun u => K (a.put o.dst u)) ((execOp a.eval o).run P (w.drewN n)) else K (a.put o.dst undef)) :
    wpN P ops (fun w' => ∃ n, w' = w.drewN n) cal Q (o :: rest) a := by
  have := h _ (fun _ h => h)
  unfold wpN opN
  split
  · rename_i hw; rw [if_pos hw] at this
    intro w' ⟨n, hn⟩
    rw [hn]; exact this n
  · rename_i hw; rw [if_neg hw] at this; exact this
theorem wpN_plain {Q : Act → Prop} {a : Act} {o : Oper} {rest : List Oper} {w : World} (hg : o.guard = none)
    (h : ∀ K : Act → Prop, (∀ a, wpN P ops (fun w' => ∃ n, w' = w.drewN n) cal Q rest a → K a) →
      ∀ n, uponN P (fun w' => ∃ n, w' = w.drewN n) cal (fun u => K (a.put o.dst u)) ((execOp a.eval o).run P (w.drewN n))) :
    wpN P ops (fun w' => ∃ n, w' = w.drewN n) cal Q (o :: rest) a :=
  wpN_step fun K hK => by simp only [Region.wanted, hg, if_true]; exact h K hK
/-- A guarded operation that is not wanted. -/
theorem wpN_off {Q : Act → Prop} {a : Act} {o : Oper} {rest : List Oper} {w : World} (hw : Region.wanted o (yielded ops a.tmps) = false)
    (h : wpN P ops (fun w' => ∃ n, w' = w.drewN n) cal Q rest (a.put o.dst undef)) : wpN P ops (fun w' => ∃ n, w' = w.drewN n) cal Q (o :: rest) a :=
  wpN_step fun K hK => by rw [hw]; exact hK _ h
/-- A guarded operation that is wanted. -/
theorem wpN_on {Q : Act → Prop} {a : Act} {o : Oper} {rest : List Oper} {w : World} (hw : Region.wanted o (yielded ops a.tmps) = true)
    (h : ∀ K : Act → Prop, (∀ a, wpN P ops (fun w' => ∃ n, w' = w.drewN n) cal Q rest a → K a) →
      ∀ n, uponN P (fun w' => ∃ n, w' = w.drewN n) cal (fun u => K (a.put o.dst u)) ((execOp a.eval o).run P (w.drewN n))) :
    wpN P ops (fun w' => ∃ n, w' = w.drewN n) cal Q (o :: rest) a :=
  wpN_step fun K hK => by rw [hw]; exact h K hK
theorem uponN_value {w : World} {n : Nat} {next : Value → Prop} {v : Value} (h : next v) : uponN P (fun w' => ∃ n, w' = w.drewN n) cal next (.ok (.value v) (w.drewN n)) := ⟨⟨n, rfl⟩, h⟩
theorem uponN_call {w : World} {n : Nat} {next : Value → Prop} {f : FuncId} {args : Array Value}
    (hc : Calls P f args (w.drewN n) (CalPost (fun w' => ∃ n, w' = w.drewN n) cal f args)) (h : ∀ u, cal f args u → next u) :
    uponN P (fun w' => ∃ n, w' = w.drewN n) cal next (.ok (.enter f args) (w.drewN n)) := ⟨hc, h⟩

theorem wpN_fop {Q : Act → Prop} {a : Act} {o : Oper} {rest : List Oper} {w : World}
    (hg : o.guard = none) (op : BinOp) (t t' : TypeId) (x y : Operand) (hop : o.op = Op.binOp op t x y t') (k : FloatKind) (bx by' : Nat)
    (hx : a.eval x = .float k bx) (hy : a.eval y = .float k by') (har : op = .add ∨ op = .sub ∨ op = .mul ∨ op = .quo)
    (hK : ∀ n, wpN P ops (fun w' => ∃ n, w' = w.drewN n) cal Q rest (a.put o.dst (.float k (pick k (fop op k bx by') n)))) :
    wpN P ops (fun w' => ∃ n, w' = w.drewN n) cal Q (o :: rest) a := by
  refine wpN_plain hg fun K hK' j => ?_
  obtain ⟨n, m, hrun⟩ := run_fop (P := P) (w.drewN j) op har t k bx by'
  have hgd : (eqGuard op t x y (.float k bx) (.float k by')).run P (w.drewN j) = .ok () (w.drewN j) := by
    rcases har with rfl | rfl | rfl | rfl <;> rfl
  simp [execOp, hop, hx, hy, hrun, hgd, Result.andThen]
  exact uponN_value (hK' _ (hK n))

theorem wpN_cvU {Q : Act → Prop} {a : Act} {o : Oper} {rest : List Oper} {w : World}
    (hg : o.guard = none) (src dst : TypeId) (x : Operand) (hop : o.op = Op.convert src dst x) (hs : (P.underlying src).isSome = true) (hd : P.underlying dst = some (.float .f64)) (b : Nat)
    (hx : a.eval x = .float .f32 b)
    (hK : ∀ n, wpN P ops (fun w' => ∃ n, w' = w.drewN n) cal Q rest (a.put o.dst (.float .f64 (pick .f64 (cvU b) n)))) :
    wpN P ops (fun w' => ∃ n, w' = w.drewN n) cal Q (o :: rest) a := by
  refine wpN_plain hg fun K hK' j => ?_
  obtain ⟨n, m, hrun⟩ := run_cvU (P := P) (w.drewN j) src dst b hs hd
  simp [execOp, hop, hx, hrun, Result.andThen]
  exact uponN_value (hK' _ (hK n))

theorem wpN_cvN {Q : Act → Prop} {a : Act} {o : Oper} {rest : List Oper} {w : World}
    (hg : o.guard = none) (src dst : TypeId) (x : Operand) (hop : o.op = Op.convert src dst x) (hs : (P.underlying src).isSome = true) (hd : P.underlying dst = some (.float .f32)) (b : Nat)
    (hx : a.eval x = .float .f64 b) (hfit : Fits b)
    (hK : ∀ n, wpN P ops (fun w' => ∃ n, w' = w.drewN n) cal Q rest (a.put o.dst (.float .f32 (pick .f32 (cvN b) n)))) :
    wpN P ops (fun w' => ∃ n, w' = w.drewN n) cal Q (o :: rest) a := by
  refine wpN_plain hg fun K hK' j => ?_
  obtain ⟨n, m, hrun⟩ := run_cvN (P := P) (w.drewN j) src dst b hs hd hfit
  simp [execOp, hop, hx, hrun, Result.andThen]
  exact uponN_value (hK' _ (hK n))

/-- At a call: the callee's contract, and what it lets. -/
theorem callN {f : FuncId} {args : Array Value} {w : World} {n : Nat} {v : Value} (hcal : cal f args v)
    (h : Calls P f args (w.drewN n) (RetV v w)) : Calls P f args (w.drewN n) (CalPost (fun w' => ∃ n, w' = w.drewN n) cal f args) :=
  h.mono fun _ _ ⟨m, he, hw⟩ => ⟨v, he, hcal, m, hw⟩
end
end Go.Proofs.Ytehcepibmekooad

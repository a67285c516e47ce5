/-
  FnExactIsName: for every input this law of the program returns true, and each argument reads as before. No condition.
-/
import Derived.Test.YtfohhljadpchgaeRows
import Derived.Test.YtfohhljadpchgaeFl
import Derived.ProofKit
import Derived.OpenShut
import Derived.ShutString
import Derived.ChangeOld
import Derived.Below
import Derived.Lib.Hide
set_option linter.unusedSimpArgs false
set_option linter.unusedVariables false
set_option exponentiation.threshold 2000
namespace Go.Proofs.Ytfohhljadpchgae.fnExactIsName
open Go Go.Proofs.Ytfohhljadpchgae Go.Proofs
open Go.ChangeShapes Go.WideShapes Go.ChangeAt Go.RowKit
open Go.ChangeMaps (open_string shut_string)
/-! ### nameFacts -/
def low (c : UInt8) : Bool := decide (97 ≤ c.toNat) && decide (c.toNat ≤ 122)
def nameB (s : ByteArray) : Bool := s.data.toList.all low && (decide (1 ≤ s.size) && decide (s.size ≤ 8))
theorem bad_name (s : ByteArray) (k : Nat) (h : k < s.size) (hb : low s[k] = false) : nameB s = false := by
  unfold nameB
  have : s.data.toList.all low = false := by
    rw [List.all_eq_false]
    exact ⟨s[k], List.getElem_mem (by simpa using h), by simp [hb]⟩
  rw [this]; rfl
theorem good_name (s : ByteArray) (h : ∀ j (hj : j < s.size), low s[j] = true) : nameB s = (decide (1 ≤ s.size) && decide (s.size ≤ 8)) := by
  unfold nameB
  have : s.data.toList.all low = true := by
    rw [List.all_eq_true]
    intro c hc
    obtain ⟨i, hi, rfl⟩ := List.getElem_of_mem hc
    exact h i (by simpa using hi)
  rw [this, Bool.true_and]
theorem decode_high (s : ByteArray) (pos : Nat) (h : pos < s.size) (ha : 128 ≤ (s[pos]'h).toNat) : 128 ≤ (Utf8.decode s pos).1 := by
  have e : s.get! (pos + 0) = s[pos]'h := by
    show s.get! pos = _
    simp [ByteArray.get!, getElem!_pos, h]
    rfl
  have e2 : ¬ (s.get! (pos + 0)).toNat < 0x80 := by rw [e]; omega
  simp only [Utf8.decode]
  rw [if_neg e2]
  split
  · split
    · rename_i h1; exact h1
    · show 128 ≤ Utf8.runeError; decide
  · split
    · split
      · rename_i h1
        have := (Bool.and_eq_true_iff.1 h1).1
        have := of_decide_eq_true this
        show 128 ≤ _; omega
      · show 128 ≤ Utf8.runeError; decide
    · split
      · split
        · rename_i h1
          have := (Bool.and_eq_true_iff.1 h1).1
          have := of_decide_eq_true this
          show 128 ≤ _; omega
        · show 128 ≤ Utf8.runeError; decide
      · show 128 ≤ Utf8.runeError; decide
/-! ### sIsName -/
theorem c_sIsName (s : ByteArray) (w : World) (j : Nat) (hs : s.size ≤ 1048576) : Calls Try.prog 4 #[.string s] (w.drewN j) (RetV (.bool (nameB s)) w) := by
  go_enter Try.func4, Try.ntmps4
  go_wp2
  go_loop [3] (fun i => ∃ k : Nat, k ≤ s.size ∧ i = .int .i64 k ∧ Hid (∀ j (hj : j < s.size), j < k → low s[j] = true)) (fun i => s.size - (intOf i).toNat)
  case atStart => exact ⟨0, Nat.zero_le _, rfl, fun j hj h => by omega⟩
  case round =>
    obtain ⟨k, hk, rfl, HL⟩ := hrel
    by_cases hlt : k < s.size
    · have hb : (s[k].toNat : Int) < 256 := by have := s[k].toNat_lt; omega
      by_cases h1 : s[k].toNat < 97
      · have HB := Lib.hid (bad_name s k hlt (by unfold low; rw [decide_eq_false (by omega)]; rfl))
        have h1' : (s[k].toNat : Int) < 97 := by omega
        go_wp2
        go_ret
        exact ⟨_, by rw [HB.out]; rfl, rfl⟩
      · by_cases h2 : 122 < s[k].toNat
        · have HB := Lib.hid (bad_name s k hlt (by unfold low; rw [decide_eq_false (by omega : ¬ s[k].toNat ≤ 122), Bool.and_false]))
          have h1' : ¬ (s[k].toNat : Int) < 97 := by omega
          have h1d : decide ((s[k].toNat : Int) < 97) = false := decide_eq_false h1'
          have h2' : (122 : Int) < (s[k].toNat : Int) := by omega
          go_wp2
          go_ret
          exact ⟨_, by rw [HB.out]; rfl, rfl⟩
        · have hlow : low s[k] = true := by unfold low; rw [decide_eq_true (by omega), decide_eq_true (by omega)]; rfl
          have HN : Hid (∀ j (hj : j < s.size), j < k + 1 → low s[j] = true) := by
            intro j hj h
            by_cases e : j = k
            · subst e; exact hlow
            · exact HL.out j hj (by omega)
          have h1d : decide ((s[k].toNat : Int) < 97) = false := decide_eq_false (by omega)
          have h2d : decide ((122 : Int) < (s[k].toNat : Int)) = false := decide_eq_false (by omega)
          clear hlow
          go_wp2
          go_round
          case rel => exact ⟨k + 1, by omega, by go_num, HN⟩
          case measure => simp [intOf]; omega
    · have HG := Lib.hid (good_name s fun j hj => HL.out j hj (by omega))
      by_cases h1 : 1 ≤ s.size
      · by_cases h2 : s.size ≤ 8
        · have h1d : decide ((1 : Int) ≤ (s.size : Int)) = true := decide_eq_true (by omega)
          have h2d : decide ((s.size : Int) ≤ 8) = true := decide_eq_true (by omega)
          go_wp2
          go_ret
          exact ⟨_, by rw [HG.out, decide_eq_true h1, decide_eq_true h2]; rfl, rfl⟩
        · have h1d : decide ((1 : Int) ≤ (s.size : Int)) = true := decide_eq_true (by omega)
          have h2d : decide ((s.size : Int) ≤ 8) = false := decide_eq_false (by omega)
          go_wp2
          go_ret
          exact ⟨_, by rw [HG.out, decide_eq_true h1, decide_eq_false h2]; rfl, rfl⟩
      · have h1d : decide ((1 : Int) ≤ (s.size : Int)) = false := decide_eq_false (by omega)
        go_wp2
        go_ret
        exact ⟨_, by rw [HG.out, decide_eq_false h1]; rfl, rfl⟩
/-! ### iIsName -/
theorem c_iIsName (s : ByteArray) (w : World) : Calls Try.prog 5 #[.string s] w (fun e w' => e = .returned (.bool (nameB s)) ∧ Below w.heap.size w w') := by
  by_cases h1 : s.size < 1
  · have HB : Hid (nameB s = false) := by unfold Hid nameB; rw [decide_eq_false (by omega : ¬ 1 ≤ s.size)]; simp
    have h1d : decide ((s.size : Int) < 1) = true := decide_eq_true (by omega)
    go_enter Try.func5, Try.ntmps5
    go_wp2
    go_ret
    exact ⟨by rw [HB.out]; rfl, Below.refl _ _⟩
  by_cases h2 : 8 < s.size
  · have HB : Hid (nameB s = false) := by unfold Hid nameB; rw [decide_eq_false (by omega : ¬ s.size ≤ 8)]; simp
    have h1d : decide ((s.size : Int) < 1) = false := decide_eq_false (by omega)
    have h2d : decide ((8 : Int) < (s.size : Int)) = true := decide_eq_true (by omega)
    go_enter Try.func5, Try.ntmps5
    go_wp2
    go_ret
    exact ⟨by rw [HB.out]; rfl, Below.refl _ _⟩
  have h1d : decide ((s.size : Int) < 1) = false := decide_eq_false (by omega)
  have h2d : decide ((8 : Int) < (s.size : Int)) = false := decide_eq_false (by omega)
  go_enter Try.func5, Try.ntmps5
  go_wp2
  go_loopw [4] (fun _ wr => ∃ k : Nat, k ≤ s.size ∧ wr = w.iter s k ∧ Hid (∀ j (hj : j < s.size), j < k → low s[j] = true)) (fun _ wr => s.size - wr.iterPos w.heap.size)
  case atStart => exact ⟨0, Nat.zero_le _, rfl, fun j hj h => by omega⟩
  case round =>
    obtain ⟨k, hk, rfl, HL⟩ := hrel
    by_cases hlt : k < s.size
    · by_cases ha : (s[k]'hlt).toNat < 128
      · have hnx := fun ty => run_next_ascii (P := Try.prog) w s k ty hlt ha
        by_cases g1 : s[k].toNat < 97
        · have HB := Lib.hid (bad_name s k hlt (by unfold low; rw [decide_eq_false (by omega)]; rfl))
          have g1' : (s[k].toNat : Int) < 97 := by omega
          go_wp2
          go_ret
          exact ⟨by rw [HB.out]; rfl, (Below.refl _ _).alloc (Nat.le_refl _) _⟩
        · by_cases g2 : 122 < s[k].toNat
          · have HB := Lib.hid (bad_name s k hlt (by unfold low; rw [decide_eq_false (by omega : ¬ s[k].toNat ≤ 122), Bool.and_false]))
            have g1d : decide ((s[k].toNat : Int) < 97) = false := decide_eq_false (by omega)
            have g2' : (122 : Int) < (s[k].toNat : Int) := by omega
            go_wp2
            go_ret
            exact ⟨by rw [HB.out]; rfl, (Below.refl _ _).alloc (Nat.le_refl _) _⟩
          · have hlow : low s[k] = true := by unfold low; rw [decide_eq_true (by omega), decide_eq_true (by omega)]; rfl
            have HN : Hid (∀ j (hj : j < s.size), j < k + 1 → low s[j] = true) := by
              intro j hj h
              by_cases e : j = k
              · subst e; exact hlow
              · exact HL.out j hj (by omega)
            have g1d : decide ((s[k].toNat : Int) < 97) = false := decide_eq_false (by omega)
            have g2d : decide ((122 : Int) < (s[k].toNat : Int)) = false := decide_eq_false (by omega)
            clear hlow
            go_wp2
            go_roundw
            case rel => exact ⟨k + 1, by omega, rfl, HN⟩
            case measure => simp only [World.iterPos_iter]; omega
      · have hnx := fun ty => run_next_any (P := Try.prog) w s k ty hlt
        have hh := decode_high s k hlt (by omega)
        have HB := Lib.hid (bad_name s k hlt (by unfold low; rw [decide_eq_false (by omega : ¬ s[k].toNat ≤ 122), Bool.and_false]))
        generalize Utf8.decode s k = dk at *
        have g1d : decide ((dk.1 : Int) < 97) = false := decide_eq_false (by omega)
        have g2' : (122 : Int) < (dk.1 : Int) := by omega
        go_wp2
        go_ret
        exact ⟨by rw [HB.out]; rfl, (Below.refl _ _).alloc (Nat.le_refl _) _⟩
    · have hnx := fun ty => run_next_end (P := Try.prog) w s k ty hlt
      have HG : Hid (nameB s = true) := by
        unfold Hid
        rw [good_name s fun j hj => HL.out j hj (by omega), decide_eq_true (by omega), decide_eq_true (by omega)]; rfl
      go_wp2
      go_ret
      exact ⟨by rw [HG.out]; rfl, (Below.refl _ _).alloc (Nat.le_refl _) _⟩
/-! ### FnExactIsName -/
theorem walk (s : ByteArray) (w : World) (hs : s.size ≤ maxLen) : Calls Try.prog 3 #[.string s] w fun e w' => e = .returned (.bool true) ∧ Below w.heap.size w w' := by
  unfold maxLen at hs
  by_cases hl : 1048576 < s.size
  · go_enter Try.func3, Try.ntmps3
    go_wp2_with fail
    go_ret
    exact ⟨rfl, Below.refl _ _⟩
  · go_enter Try.func3, Try.ntmps3
    go_wp2_with fail
    refine (c_sIsName s w 0 (by omega)).mono ?_
    rintro _ _ ⟨m, rfl, rfl⟩
    go_wp2_with fail
    refine (c_iIsName s _).mono ?_
    rintro _ w' ⟨rfl, hb⟩
    go_wp2_with fail
    go_ret
    exact ⟨rfl, (below_drewN (Below.refl _ _) _).trans hb⟩

theorem own : ownKnob Try.prog.godebug = none := by kernel_rfl
theorem laidOut : laidOutB Try.prog = true := by kernel_rfl
set_option maxRecDepth 100000 in
theorem lifted (os : Os) (started : os.Started) (H : Type) (enc : TypeId × Value → H) :
    ReturnsInHanded {} Try.checked os 3 .any (Rows.fnExactIsNameSpec.pre6 enc Try.prog Try.f3 Rows.fnExactIsNameRow.domain false) (Rows.fnExactIsNameSpec.post enc Try.prog Try.f3 false true false false) := by
  refine returnsInHanded_of_change (C := Try.checked) own started (by kernel_rfl) Try.func3
    (ChangeSpec.witness6 (enc := enc) (C := Try.checked) false ⟨#[], #[.string ByteArray.empty], []⟩ 8 (by kernel_rfl) (by kernel_rfl) (by kernel_rfl) (by kernel_rfl)) ?_
  intro W base args ds gs before hval0 hW hcnd _
  have hval : ∀ (j : Nat) t v, Try.f3.params[j]? = some t → args[j]? = some v → Value.okWide Try.prog W .any base t v := hval0
  have hW' := hW
  obtain ⟨p, q, hA0, hV, rfl, hfz, hnd⟩ := hW
  have hA : DataW.TrodAll enc Try.prog W 0 (fun _ => true) true Try.f3.params.toList args.toList ds p := hA0
  rw [Try.params3] at hA hval
  obtain ⟨v0, vs0, d0, ds0, p0, q0, hargs, rfl, rfl, h0, r0⟩ := trodAll_cons hA
  obtain ⟨rfl, rfl, rfl⟩ := trodAll_nil r0
  obtain rfl : args = #[v0] := by cases args; simp_all
  obtain ⟨rfl, rfl⟩ := trodVars_none hV
  obtain ⟨a0, rfl, rfl, rfl, w0⟩ := open_string Try.underlying9 (hval 0 9 v0 rfl rfl) h0
  clear hA0 hval0
  have hw0 : Calls Try.prog 3 #[.string a0] W fun e w' => e = .returned (.bool true) ∧ Below W.heap.size W w' := by
    exact walk a0 W w0
  refine hw0.mono fun e W' ⟨he, bel⟩ => ?_
  subst he
  exact ⟨_, rfl, _, _, _, [], _, [], hW', trodAll_mk1 (shut_bool Try.underlying4 _), (trodAll_cons_mk (shut_string Try.underlying9 w0) trodAll_mk0), rfl, bel.frame _, fun h => by cases h⟩

theorem over : Rows.fnExactIsNameRow.holds Try.pinned (OpenSpec.ofChange Rows.fnExactIsNameSpec) :=
  OpenClaim.holds_of_wide 3 Try.f3 rfl rfl rfl rfl rfl rfl rfl ⟨rfl, rfl, rfl, rfl, rfl⟩ rfl rfl rfl rfl rfl (by kernel_rfl) Try.func3 (by kernel_rfl)
    (of_decide_eq_true (by kernel_rfl)) (by unfold Func.isWrapper; first | (rw [if_pos (by decide +kernel)]; kernel_rfl) | (rw [if_neg (by decide +kernel)]; exact ⟨rfl, rfl⟩))
    (fun os started H enc _ => lifted os started H enc)

theorem proved : Rows.FnExactIsNameSaid := over
#print axioms proved

end Go.Proofs.Ytfohhljadpchgae.fnExactIsName

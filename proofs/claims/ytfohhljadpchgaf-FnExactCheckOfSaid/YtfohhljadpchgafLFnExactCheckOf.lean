/-
  FnExactCheckOf: for every input this law of the program returns true, and each argument reads as before. No condition.
-/
import Derived.Test.YtfohhljadpchgafRows
import Derived.Test.YtfohhljadpchgafFl
import Derived.ProofKit
import Derived.OpenShut
import Derived.ShutString
import Derived.ChangeOld
import Derived.Below
import Derived.Lib.Hide
set_option linter.unusedSimpArgs false
set_option linter.unusedVariables false
set_option exponentiation.threshold 2000
namespace Go.Proofs.Ytfohhljadpchgaf.fnExactCheckOf
open Go Go.Proofs.Ytfohhljadpchgaf Go.Proofs
open Go.ChangeShapes Go.WideShapes Go.ChangeAt Go.RowKit
open Go.ChangeMaps (open_string shut_string)
/-! ### chk -/
def chk (n : Int) (l : List UInt8) : Int := l.foldl (fun n c => (839 * n + (c.toNat : Int) + 137) % 65003) n
theorem chk_bd (l : List UInt8) : ∀ n, 0 ≤ n → n < 65003 → 0 ≤ chk n l ∧ chk n l < 65003 := by
  induction l with
  | nil => intro n h1 h2; exact ⟨h1, h2⟩
  | cons c l ih => intro n h1 h2; exact ih _ (Int.emod_nonneg _ (by decide)) (Int.emod_lt_of_pos _ (by decide))
theorem chk_snoc (n : Int) (l : List UInt8) (c : UInt8) : chk n (l ++ [c]) = (839 * chk n l + (c.toNat : Int) + 137) % 65003 := by
  unfold chk; rw [List.foldl_append]; rfl
theorem take_snoc (s : ByteArray) (k : Nat) (h : k < s.size) : s.data.toList.take (k + 1) = s.data.toList.take k ++ [s[k]] := by
  rw [List.take_succ_eq_append_getElem (by simpa using h)]; rfl
/-! ### l01Check -/
theorem c_l01Check (n : Int) (s : ByteArray) (w : World) (j : Nat) (hs : s.size ≤ 1048576) (h1 : 0 ≤ n) (h2 : n < 65003) : Calls Try.prog 14 #[.int .i64 n, .string s] (w.drewN j) (RetV (.int .i64 (chk n s.data.toList)) w) := by
  go_enter Try.func14, Try.ntmps14
  go_wp2
  go_loop [0, 5] (fun c i => ∃ k : Nat, k ≤ s.size ∧ i = .int .i64 k ∧ c = .int .i64 (chk n (s.data.toList.take k))) (fun _ i => s.size - (intOf i).toNat)
  case atStart => exact ⟨0, Nat.zero_le _, rfl, rfl⟩
  case round =>
    obtain ⟨k, hk, rfl, rfl⟩ := hrel
    obtain ⟨b1, b2⟩ := chk_bd (s.data.toList.take k) n h1 h2
    by_cases hlt : k < s.size
    · have HS : Hid (chk n (s.data.toList.take (k + 1)) = (839 * chk n (s.data.toList.take k) + (s[k].toNat : Int) + 137) % 65003) := by rw [take_snoc s k hlt]; exact chk_snoc _ _ _
      have hb : (s[k].toNat : Int) < 256 := by have := s[k].toNat_lt; omega
      go_wp2
      go_round
      case rel => exact ⟨k + 1, by omega, by go_num, by rw [HS.out]⟩
      case measure => simp [intOf]; omega
    · go_wp2
      go_ret
      refine ⟨_, ?_, rfl⟩
      have : s.data.toList.take k = s.data.toList := List.take_of_length_le (by simp; omega)
      rw [this]; rfl

/-! ### sCheckOf -/
theorem c_sCheckOf_no (n : Int) (s : ByteArray) (w : World) (j : Nat) (h : n < 0 ∨ 65002 < n) : Calls Try.prog 6 #[.int .i64 n, .string s] (w.drewN j) (RetV (.tuple #[.int .i64 0, .bool false]) w) := by
  rcases h with h | h
  · go_enter Try.func6, Try.ntmps6
    go_wp2
    go_ret2
    exact ⟨_, rfl, rfl⟩
  · have h' : 0 ≤ n := by omega
    have hd : decide (n ≤ 65002) = false := decide_eq_false (by omega)
    go_enter Try.func6, Try.ntmps6
    go_wp2
    go_ret2
    exact ⟨_, rfl, rfl⟩
theorem c_sCheckOf_yes (n : Int) (s : ByteArray) (w : World) (j : Nat) (hs : s.size ≤ 1048576) (h1 : 0 ≤ n) (h2 : n < 65003) : Calls Try.prog 6 #[.int .i64 n, .string s] (w.drewN j) (RetV (.tuple #[.int .i64 (chk n s.data.toList), .bool true]) w) := by
  have hd : decide (n ≤ 65002) = true := decide_eq_true (by omega)
  go_enter Try.func6, Try.ntmps6
  go_wp2_with (first | (go_at_call 14; refine (c_l01Check _ _ _ _ hs h1 h2).mono ?_; rintro _ _ ⟨_, rfl, rfl⟩) | go_in)
  go_ret2
  exact ⟨_, rfl, rfl⟩
/-! ### iCheckOf -/
theorem c_iCheckOf_no (n : Int) (s : ByteArray) (w : World) (j : Nat) (h : n < 0 ∨ 65002 < n) : Calls Try.prog 7 #[.int .i64 n, .string s] (w.drewN j) (RetV (.tuple #[.int .i64 0, .bool false]) w) := by
  rcases h with h | h
  · have hd : decide (n < 0) = true := decide_eq_true h
    go_enter Try.func7, Try.ntmps7
    go_wp2
    go_ret2
    exact ⟨_, rfl, rfl⟩
  · have hd : decide (n < 0) = false := decide_eq_false (by omega)
    have hd2 : decide (65003 ≤ n) = true := decide_eq_true (by omega)
    go_enter Try.func7, Try.ntmps7
    go_wp2
    go_ret2
    exact ⟨_, rfl, rfl⟩
theorem c_iCheckOf_yes (n : Int) (s : ByteArray) (w : World) (j : Nat) (hs : s.size ≤ 1048576) (h1 : 0 ≤ n) (h2 : n < 65003) : Calls Try.prog 7 #[.int .i64 n, .string s] (w.drewN j) (RetV (.tuple #[.int .i64 (chk n s.data.toList), .bool true]) w) := by
  have hd : decide (n < 0) = false := decide_eq_false (by omega)
  have hd2 : decide (65003 ≤ n) = false := decide_eq_false (by omega)
  go_enter Try.func7, Try.ntmps7
  go_wp2
  go_loop [6, 17] (fun c i => ∃ k : Nat, k ≤ s.size ∧ i = .int .i64 k ∧ c = .int .i64 (chk n (s.data.toList.take k))) (fun _ i => s.size - (intOf i).toNat)
  case atStart => exact ⟨0, Nat.zero_le _, rfl, rfl⟩
  case round =>
    obtain ⟨k, hk, rfl, rfl⟩ := hrel
    obtain ⟨b1, b2⟩ := chk_bd (s.data.toList.take k) n h1 h2
    by_cases hlt : k < s.size
    · have HS : Hid (chk n (s.data.toList.take (k + 1)) = (839 * chk n (s.data.toList.take k) + (s[k].toNat : Int) + 137) % 65003) := by rw [take_snoc s k hlt]; exact chk_snoc _ _ _
      have hb : (s[k].toNat : Int) < 256 := by have := s[k].toNat_lt; omega
      go_wp2
      go_round
      case rel => exact ⟨k + 1, by omega, by go_num, by rw [HS.out]⟩
      case measure => simp [intOf]; omega
    · go_wp2
      go_ret2
      refine ⟨_, ?_, rfl⟩
      have : s.data.toList.take k = s.data.toList := List.take_of_length_le (by simp; omega)
      rw [this]; rfl
/-! ### FnExactCheckOf -/
theorem walk (n : Int) (s : ByteArray) (w : World) (hn : (Lit.int .i64 n).wf = true) (hs : s.size ≤ maxLen) : Calls Try.prog 3 #[.int .i64 n, .string s] w fun e w' => e = .returned (.bool true) ∧ Below w.heap.size w w' := by
  rw [← w.drewN_zero]
  unfold maxLen at hs
  by_cases hl : 1048576 < s.size
  · go_enter Try.func3, Try.ntmps3
    go_wp2_with fail
    go_ret
    exact ⟨rfl, below_drewN (Below.refl _ _) _⟩
  · by_cases h : n < 0 ∨ 65002 < n
    · go_enter Try.func3, Try.ntmps3
      go_wp2_with (first | (go_at_call 6; refine (c_sCheckOf_no _ _ _ _ h).mono ?_; rintro _ _ ⟨_, rfl, rfl⟩) | (go_at_call 7; refine (c_iCheckOf_no _ _ _ _ h).mono ?_; rintro _ _ ⟨_, rfl, rfl⟩))
      go_ret
      exact ⟨rfl, below_drewN (Below.refl _ _) _⟩
    · have h1 : 0 ≤ n := by omega
      have h2 : n < 65003 := by omega
      have hl' : s.size ≤ 1048576 := by omega
      clear h
      go_enter Try.func3, Try.ntmps3
      go_wp2_with (first | (go_at_call 6; refine (c_sCheckOf_yes _ _ _ _ hl' h1 h2).mono ?_; rintro _ _ ⟨_, rfl, rfl⟩) | (go_at_call 7; refine (c_iCheckOf_yes _ _ _ _ hl' h1 h2).mono ?_; rintro _ _ ⟨_, rfl, rfl⟩))
      go_ret
      exact ⟨rfl, below_drewN (Below.refl _ _) _⟩

theorem own : ownKnob Try.prog.godebug = none := by kernel_rfl
theorem laidOut : laidOutB Try.prog = true := by kernel_rfl
set_option maxRecDepth 100000 in
theorem lifted (os : Os) (started : os.Started) (H : Type) (enc : TypeId × Value → H) :
    ReturnsInHanded {} Try.checked os 3 .any (Rows.fnExactCheckOfSpec.pre6 enc Try.prog Try.f3 Rows.fnExactCheckOfRow.domain false) (Rows.fnExactCheckOfSpec.post enc Try.prog Try.f3 false true false false) := by
  refine returnsInHanded_of_change (C := Try.checked) own started (by kernel_rfl) Try.func3
    (ChangeSpec.witness6 (enc := enc) (C := Try.checked) false ⟨#[], #[.int .i64 0, .string ByteArray.empty], []⟩ 8 (by kernel_rfl) (by kernel_rfl) (by kernel_rfl) (by kernel_rfl)) ?_
  intro W base args ds gs before hval0 hW hcnd _
  have hval : ∀ (j : Nat) t v, Try.f3.params[j]? = some t → args[j]? = some v → Value.okWide Try.prog W .any base t v := hval0
  have hW' := hW
  obtain ⟨p, q, hA0, hV, rfl, hfz, hnd⟩ := hW
  have hA : DataW.TrodAll enc Try.prog W 0 (fun _ => true) true Try.f3.params.toList args.toList ds p := hA0
  rw [Try.params3] at hA hval
  obtain ⟨v0, vs0, d0, ds0, p0, q0, hargs, rfl, rfl, h0, r0⟩ := trodAll_cons hA
  obtain ⟨v1, vs1, d1, ds1, p1, q1, rfl, rfl, rfl, h1, r1⟩ := trodAll_cons r0
  obtain ⟨rfl, rfl, rfl⟩ := trodAll_nil r1
  obtain rfl : args = #[v0, v1] := by cases args; simp_all
  obtain ⟨rfl, rfl⟩ := trodVars_none hV
  obtain ⟨a0, rfl, rfl, rfl, w0⟩ := open_int Try.underlying2 (hval 0 2 v0 rfl rfl) h0
  obtain ⟨a1, rfl, rfl, rfl, w1⟩ := open_string Try.underlying9 (hval 1 9 v1 rfl rfl) h1
  clear hA0 hval0
  have hw0 : Calls Try.prog 3 #[.int .i64 a0, .string a1] W fun e w' => e = .returned (.bool true) ∧ Below W.heap.size W w' := by
    exact walk a0 a1 W w0 w1
  refine hw0.mono fun e W' ⟨he, bel⟩ => ?_
  subst he
  exact ⟨_, rfl, _, _, _, [], _, [], hW', trodAll_mk1 (shut_bool Try.underlying4 _), (trodAll_cons_mk (shut_int Try.underlying2 w0) (trodAll_cons_mk (shut_string Try.underlying9 w1) trodAll_mk0)), rfl, bel.frame _, fun h => by cases h⟩

theorem over : Rows.fnExactCheckOfRow.holds Try.pinned (OpenSpec.ofChange Rows.fnExactCheckOfSpec) :=
  OpenClaim.holds_of_wide 3 Try.f3 rfl rfl rfl rfl rfl rfl rfl ⟨rfl, rfl, rfl, rfl, rfl⟩ rfl rfl rfl rfl rfl (by kernel_rfl) Try.func3 (by kernel_rfl)
    (of_decide_eq_true (by kernel_rfl)) (by unfold Func.isWrapper; first | (rw [if_pos (by decide +kernel)]; kernel_rfl) | (rw [if_neg (by decide +kernel)]; exact ⟨rfl, rfl⟩))
    (fun os started H enc _ => lifted os started H enc)

theorem proved : Rows.FnExactCheckOfSaid := over
#print axioms proved

end Go.Proofs.Ytfohhljadpchgaf.fnExactCheckOf

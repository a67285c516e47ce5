/-
  FnPowers: for every input this law of the program returns true, and each argument reads as before. No condition.
-/
import Derived.Test.YtfohhljadpchgaaRows
import Derived.Test.YtfohhljadpchgaaFl
import Derived.Test.YtfohhljadpchgaaLg
import Derived.Test.YtfohhljadpchgaaBy
import Derived.Test.YtfohhljadpchgaaCx
import Derived.ProofKit
import Derived.OpenShut
import Derived.ShutString
import Derived.ChangeOld
import Derived.Below
import Derived.Lib.Hide
set_option linter.unusedSimpArgs false
set_option linter.unusedVariables false
set_option exponentiation.threshold 2000
namespace Go.Proofs.Ytfohhljadpchgaa.fnPowers
open Go Go.Proofs.Ytfohhljadpchgaa Go.Proofs
open Go.ChangeShapes Go.WideShapes Go.ChangeAt Go.RowKit
open Go.ChangeMaps (open_string shut_string)
/-! ### expDefs -/
def k12 (i : Nat) : Nat := floatOfInt .f64 ((12 - i : Nat) : Int)
theorem k12_test (i : Nat) (hi : i < 12) : (FloatKind.f64.format.order (k12 i) 4607182418800017408 == some .gt || FloatKind.f64.format.order (k12 i) 4607182418800017408 == some .eq) = true := by
  have h : ∀ i : Fin 12, (FloatKind.f64.format.order (k12 i.1) 4607182418800017408 == some .gt || FloatKind.f64.format.order (k12 i.1) 4607182418800017408 == some .eq) = true := by decide +kernel
  exact h ⟨i, hi⟩
theorem k12_end : (FloatKind.f64.format.order (k12 12) 4607182418800017408 == some .gt || FloatKind.f64.format.order (k12 12) 4607182418800017408 == some .eq) = false := by decide +kernel
theorem k12_next (i : Nat) (hi : i < 12) : fop .sub .f64 (k12 i) 4607182418800017408 = k12 (i + 1) := by
  have h : ∀ i : Fin 12, fop .sub .f64 (k12 i.1) 4607182418800017408 = k12 (i.1 + 1) := by decide +kernel
  exact h ⟨i, hi⟩
theorem k12_notN (i : Nat) : isN .f64 (k12 i) = false := nearest_notNaN _ _ _ _
theorem k12_lt (i : Nat) (hi : i < 12) : k12 (i + 1) < k12 i := by
  have h : ∀ i : Fin 12, k12 (i.1 + 1) < k12 i.1 := by decide +kernel
  exact h ⟨i, hi⟩
def eser (t : Nat) : Nat → Nat
  | 0 => 4607182418800017408
  | i + 1 => fop .add .f64 4607182418800017408 (fop .quo .f64 (fop .mul .f64 t (eser t i)) (k12 i))
theorem eser_step (t i : Nat) : eser t (i + 1) = fop .add .f64 4607182418800017408 (fop .quo .f64 (fop .mul .f64 t (eser t i)) (k12 i)) := rfl
def sqi (p : Nat) : Nat → Nat
  | 0 => p
  | i + 1 => fop .mul .f64 (sqi p i) (sqi p i)
theorem sqi_step (p i : Nat) : sqi p (i + 1) = fop .mul .f64 (sqi p i) (sqi p i) := rfl
def expW (v : Nat) : Nat := sqi (eser (fop .quo .f64 (cvU v) 4643211215818981376) 12) 8
/-! ### gapDef -/
def gapF (a b : Nat) : Nat := if (FloatKind.f64.format.order a b == some .lt) = true then fop .sub .f64 b a else fop .sub .f64 a b
/-! ### tenFacts -/
theorem pos_fin {v : Nat} (hf : finB .f32 v = true) (hp : (FloatKind.f32.format.order v 0 == some .lt || FloatKind.f32.format.order v 0 == some .eq) = false) : InR 3936146074321813504 5183643171103440896 (cvU v) := by
  have h1 : rung Ieee.single v < Ieee.single.infRung := of_decide_eq_true hf
  have hn : isN .f32 v = false := notN_fin (k := .f32) h1
  rw [order_rungs .f32 v 0 hn (by decide +kernel)] at hp
  have e0 : srung FloatKind.f32.format 0 = 0 := by decide +kernel
  have hff : FloatKind.f32.format = Ieee.single := rfl
  rw [e0, hff] at hp
  have h2 : 0 < srung Ieee.single v := by
    rcases Int.lt_trichotomy (srung Ieee.single v) 0 with h | h | h
    · rw [cmp_of_lt h] at hp; cases hp
    · rw [Int.compare_eq_eq.2 h] at hp; cases hp
    · exact h
  unfold srung at h2
  cases hs : sgn Ieee.single v
  · rw [hs] at h2
    exact cvU_in h1 hs (by simpa using h2)
  · rw [hs] at h2
    simp at h2; omega
def tenI (v : Nat) : Int := ti (floorF (fop .add .f64 (fop .mul .f64 (logW (cvU v)) 4631308968768463603) half64))
/-! ### powFacts -/
def eTab : List Nat := [967827720, 969362444, 971101513, 973072137, 974191837, 975457003, 976890623, 978515128, 980355933, 981954487, 983136307, 984475485, 985992972, 987712511, 989661003, 990862339, 992113296, 993530815, 995137075, 996957207, 998632019, 999800566, 1001124704, 1002625149, 1004325375, 1006251984, 1007534039, 1008770946, 1010172546, 1011760767, 1013560457, 1015310670, 1016466094, 1017775360, 1019258954, 1020940085, 1022845057, 1024206924, 1025429940, 1026815799, 1028386182, 1030165660, 1031990428, 1033132876, 1034427438, 1035894369, 1037556620, 1039440198, 1040880981, 1042090262, 1043460556, 1045013303, 1046772796, 1048671281, 1049800898, 1051080921, 1052531378, 1054174960, 1056037383, 1057556197, 1058751896, 1060106801, 1061642109, 1063381841, 1065353216, 1066470146, 1067735794, 1069169961, 1070795084, 1072636591, 1074232558, 1075414828, 1076754516, 1078272582, 1079992775, 1081942010, 1083140607, 1084392041, 1085810101, 1087416973, 1089237798, 1090910051, 1092079044, 1093403686, 1094904703, 1096605577, 1098532920, 1099812267, 1101049646, 1102451780, 1104040606, 1105840981, 1107588665, 1108744529, 1110054295, 1111538453, 1113220225, 1115125923, 1116485113, 1117708595, 1119094981, 1120665963, 1122446119, 1124268386, 1125411269, 1126706325, 1128173815, 1129836699, 1131720994, 1133159130, 1134368872, 1135739688, 1137293027, 1139053190, 1140949202, 1142079249, 1143359761, 1144810770, 1146454979, 1148318112, 1149834307, 1151030462, 1152385883, 1153921776, 1155662171, 1157631101, 1158748457, 1160014587, 1161449300]
def eT (t : Nat) : Nat := eTab.getD t 0
def xq (t : Nat) : Nat := fop .quo .f32 (floatOfInt .f32 ((t : Int) - 64)) 1090519040
def lT (r : Nat) : Nat := cvN (logW (cvU (eT (r + 32))))
theorem xq_eq (r : Nat) : fop .quo .f32 (floatOfInt .f32 ((r : Int) - 32)) 1090519040 = xq (r + 32) := by
  unfold xq
  rw [show ((r + 32 : Nat) : Int) - 64 = (r : Int) - 32 by omega]
set_option maxRecDepth 100000 in
theorem f_exp : ∀ t : Fin 129, ((FloatKind.f32.format.order (xq t.1) 1128792064 == some .gt) = false ∧ (FloatKind.f32.format.order (xq t.1) 3276275712 == some .lt) = false) ∧ (floatToFloatBits .f64 (expW (xq t.1)) .f32).isSome = true ∧ cvN (expW (xq t.1)) = eT t.1 := by decide +kernel
set_option maxRecDepth 100000 in
theorem f_log : ∀ r : Fin 65, (((FloatKind.f32.format.order (eT (r.1 + 32)) 0 == some .eq) = false ∧ isN .f32 (eT (r.1 + 32)) = false) ∧ (FloatKind.f32.format.order (eT (r.1 + 32)) 0 == some .lt) = false ∧ finB .f32 (eT (r.1 + 32)) = true) ∧ ((FloatKind.f32.format.order (eT (r.1 + 32)) 0 == some .lt || FloatKind.f32.format.order (eT (r.1 + 32)) 0 == some .eq) = false ∧ (floatToFloatBits .f64 (logW (cvU (eT (r.1 + 32)))) .f32).isSome = true) := by decide +kernel
set_option maxRecDepth 100000 in
theorem f_gap : ∀ r : Fin 65, (FloatKind.f64.format.order (gapF (cvU (lT r.1)) (cvU (xq (r.1 + 32)))) 4562254508917369340 == some .lt) = true ∧ (FloatKind.f32.format.order (eT (r.1 + 32)) 0 == some .gt) = true := by decide +kernel
set_option maxRecDepth 100000 in
theorem f_add : ∀ r : Fin 65, ∀ s : Fin 65, fop .add .f32 (xq (r.1 + 32)) (xq (s.1 + 32)) = xq (r.1 + s.1) := by decide +kernel
set_option maxRecDepth 100000 in
theorem f_mul : ∀ r : Fin 65, ∀ s : Fin 65, (FloatKind.f64.format.order (gapF (fop .mul .f64 (cvU (eT (r.1 + 32))) (cvU (eT (s.1 + 32)))) (cvU (eT (r.1 + s.1)))) (fop .mul .f64 4562254508917369340 (cvU (eT (r.1 + s.1)))) == some .lt) = true := by decide +kernel
theorem f_one : (FloatKind.f32.format.order 1065353216 1065353216 == some .eq) = true ∧ (FloatKind.f32.format.order 0 0 == some .eq) = true ∧ xq 64 = 0 ∧ eT 64 = 1065353216 ∧ lT 32 = 0 := by decide +kernel
theorem q_add {r s : Nat} (hr : r < 65) (hs : s < 65) : fop .add .f32 (xq (r + 32)) (xq (s + 32)) = xq (r + s) := f_add ⟨r, hr⟩ ⟨s, hs⟩
theorem q_mul {r s : Nat} (hr : r < 65) (hs : s < 65) : (FloatKind.f64.format.order (gapF (fop .mul .f64 (cvU (eT (r + 32))) (cvU (eT (s + 32)))) (cvU (eT (r + s)))) (fop .mul .f64 4562254508917369340 (cvU (eT (r + s)))) == some .lt) = true := f_mul ⟨r, hr⟩ ⟨s, hs⟩
theorem q_gap {r : Nat} (hr : r < 65) : (FloatKind.f64.format.order (gapF (cvU (lT r)) (cvU (xq (r + 32)))) 4562254508917369340 == some .lt) = true := (f_gap ⟨r, hr⟩).1
theorem q_pos {r : Nat} (hr : r < 65) : (FloatKind.f32.format.order (eT (r + 32)) 0 == some .gt) = true := (f_gap ⟨r, hr⟩).2
/-! ### b10 -/
theorem c_b10Gap (a n b m : Nat) (w : World) (j : Nat) : Calls Try.prog 11 #[.float .f64 (pick .f64 a n), .float .f64 (pick .f64 b m)] (w.drewN j) (RetF .f64 (gapF a b) w) := by
  cases h : (FloatKind.f64.format.order a b == some .lt)
  · have e : gapF a b = fop .sub .f64 a b := by unfold gapF; rw [h]; rfl
    rw [e]
    go_enter Try.func11, Try.ntmps11
    go_wp2_with (first | (refine wpList_fop rfl _ _ _ _ _ rfl _ _ _ rfl rfl (by decide) _ ?_; intro _ _) | (refine upon_fop _ _ _ _ _ (by decide) ?_; intro _ _))
    go_ret
    exact ⟨_, _, rfl, rfl⟩
  · have e : gapF a b = fop .sub .f64 b a := by unfold gapF; rw [h]; rfl
    rw [e]
    go_enter Try.func11, Try.ntmps11
    go_wp2_with (first | (refine wpList_fop rfl _ _ _ _ _ rfl _ _ _ rfl rfl (by decide) _ ?_; intro _ _) | (refine upon_fop _ _ _ _ _ (by decide) ?_; intro _ _))
    go_ret
    exact ⟨_, _, rfl, rfl⟩
theorem c_b10Long (a b : Option Addr) (l1 c1 l2 c2 : Nat) (w : World) (j : Nat) : Calls Try.prog 7 #[.slice a l1 c1, .slice b l2 c2] (w.drewN j) (RetV (.bool (decide ((1048576 : Int) < l1) || decide ((1048576 : Int) < l2))) w) := by
  go_enter Try.func7, Try.ntmps7
  go_wp2
  all_goals
    go_ret
    refine ⟨_, ?_, rfl⟩
    simp [*]
/-! ### b10At -/
def RetI (n : Nat) (w : World) (e : Ending) (w' : World) : Prop := ∃ (r m : Nat), r < n ∧ e = .returned (.int .i64 r) ∧ w' = w.drewN m
theorem c_b10At (a : Option Addr) (len cap : Nat) (zs : List Int) (w : World) (j : Nat) (hr : IsRow .u8 w a len cap zs) : Calls Try.prog 8 #[.slice a len cap, .int .i64 0, .int .i64 65] (w.drewN j) (RetI 65 w) := by
  obtain ⟨h1, h2, h3, h4, h5⟩ := hr
  unfold maxLen at h3
  by_cases h0 : 0 < len
  · rcases h5 with h5 | ⟨b, off, rfl, hbl, hc⟩
    · omega
    obtain ⟨g1, g2⟩ := byte_of h4 (i := 0) (by omega)
    have hcell : w.cell? ⟨b, off, none⟩ = some (.int .u8 (zs.getD 0 0)) := hc 0 h0
    generalize zs.getD 0 0 = z at *
    clear h1 h4 hc
    go_enter Try.func8, Try.ntmps8
    go_wp2

    go_ret
    have ht : z.tmod 65 = z % 65 := Int.tmod_eq_emod_of_nonneg g1
    have hz : ((z.tmod 65).toNat : Int) = z.tmod 65 := Int.toNat_of_nonneg (by omega)
    exact ⟨(z.tmod 65).toNat, _, by omega, by rw [hz, ht]; rfl, rfl⟩
  · obtain rfl : len = 0 := by omega
    clear h1 h4 h5
    go_enter Try.func8, Try.ntmps8
    go_wp2
    go_ret
    exact ⟨11, _, by omega, rfl, rfl⟩
/-! ### narrowNumber -/
theorem c_NarrowNumber (v n : Nat) (w : World) (j : Nat) (hfit : Fits v) : Calls Try.prog 36 #[.float .f64 (pick .f64 v n)] (w.drewN j) (RetF .f32 (cvN v) w) := by
  have H := Lib.hid hfit
  clear hfit
  go_enter Try.func36, Try.ntmps36
  go_wp2_with ((refine wpList_cvN rfl 27 28 _ rfl (Option.isSome_iff_exists.2 ⟨_, Try.underlying27⟩) Try.underlying28 _ rfl _ (by rw [Fits_pick]; exact H.out) ?_; intro _ _))
  go_ret
  exact ⟨_, _, rfl, rfl⟩
/-! ### iExp -/
theorem c_iExp (v n0 : Nat) (w : World) (j : Nat) (h1 : (FloatKind.f32.format.order v 1128792064 == some .gt) = false) (h2 : (FloatKind.f32.format.order v 3276275712 == some .lt) = false) (HF : Hid (Fits (expW v))) :
    Calls Try.prog 26 #[.float .f32 (pick .f32 v n0)] (w.drewN j) (RetF .f32 (cvN (expW v)) w) := by
  go_enter Try.func26, Try.ntmps26
  go_wp2_with (first | (first | (refine wpList_fop rfl _ _ _ _ _ rfl _ _ _ rfl rfl (by decide) _ ?_; intro _ _) | (refine upon_fop _ _ _ _ _ (by decide) ?_; intro _ _)) | (refine wpList_cvU rfl 28 27 _ rfl (Option.isSome_iff_exists.2 ⟨_, Try.underlying28⟩) Try.underlying27 _ rfl _ ?_; intro _ _) | go_in)
  generalize ht : fop .quo .f64 (cvU v) 4643211215818981376 = t at *
  have Ht := Lib.hid ht
  clear ht
  go_loopw [4, 5] (fun p k wr => ∃ i n m : Nat, i ≤ 12 ∧ p = .float .f64 (pick .f64 (eser t i) n) ∧ k = .float .f64 (k12 i) ∧ wr = w.drewN m) (fun _ k _ => fbits k)
  case atStart => exact ⟨0, 0, _, by omega, by rw [pick_not (show isN .f64 (eser t 0) = false from (by decide +kernel : isN .f64 4607182418800017408 = false))]; rfl, by rw [show k12 0 = 4622945017495814144 from by decide +kernel], rfl⟩
  case round =>
    obtain ⟨i, n, m, hi, rfl, rfl, rfl⟩ := hrel
    by_cases hlt : i < 12
    · have ht := k12_test i hlt
      have HN := Lib.hid (k12_next i hlt)
      have HL := Lib.hid (k12_lt i hlt)
      go_wp2_with (first | (refine wpList_fop rfl _ _ _ _ _ rfl _ _ _ rfl rfl (by decide) _ ?_; intro _ _) | (refine upon_fop _ _ _ _ _ (by decide) ?_; intro _ _))
      go_roundw
      case rel => exact ⟨i + 1, _, _, by omega, by rw [eser_step], by rw [HN.out, pick_not (k12_notN _)], rfl⟩
      case measure => rw [HN.out, pick_not (k12_notN _)]; exact HL.out
    · obtain rfl : i = 12 := by omega
      have ht := k12_end
      generalize hp : eser t 12 = p
      have Hp := Lib.hid hp
      clear hp
      go_wp2_with (first | (first | (refine wpList_fop rfl _ _ _ _ _ rfl _ _ _ rfl rfl (by decide) _ ?_; intro _ _) | (refine upon_fop _ _ _ _ _ (by decide) ?_; intro _ _)) | go_in)
      go_loopw [4, 25] (fun q k wr => ∃ i n m : Nat, i ≤ 8 ∧ q = .float .f64 (pick .f64 (sqi p i) n) ∧ k = .int .i64 i ∧ wr = w.drewN m) (fun _ k _ => 8 - inat k)
      case atStart => exact ⟨0, _, _, by omega, rfl, rfl, rfl⟩
      case round =>
        obtain ⟨i, n, m, hi, rfl, rfl, rfl⟩ := hrel
        by_cases hlt : i < 8
        · go_wp2_with (first | (refine wpList_fop rfl _ _ _ _ _ rfl _ _ _ rfl rfl (by decide) _ ?_; intro _ _) | (refine upon_fop _ _ _ _ _ (by decide) ?_; intro _ _))
          go_roundw
          case rel => exact ⟨i + 1, _, _, by omega, by rw [sqi_step], by go_num, rfl⟩
          case measure => simp [inat]; omega
        · obtain rfl : i = 8 := by omega
          have HG : Hid (sqi p 8 = expW v) := by unfold Hid expW; rw [Ht.out, Hp.out]
          rw [HG.out]
          go_wp2_with (first | (first | (refine wpList_fop rfl _ _ _ _ _ rfl _ _ _ rfl rfl (by decide) _ ?_; intro _ _) | (refine upon_fop _ _ _ _ _ (by decide) ?_; intro _ _)) | (go_at_call 36; refine (c_NarrowNumber _ _ _ _ HF.out).mono ?_; rintro _ _ ⟨_, _, rfl, rfl⟩))
          go_ret
          exact ⟨_, _, rfl, rfl⟩
/-! ### logOf -/
theorem c_logOf (v n0 V : Nat) (w : World) (j : Nat) (hV : cvU v = V) (H0 : Hid (InR 3936146074321813504 5183643171103440896 V)) : Calls Try.prog 41 #[.float .f32 (pick .f32 v n0)] (w.drewN j) (RetF .f64 (logW V) w) := by
  have HV : Hid (V < 18446744073709551616) := by unfold Hid; rw [← hV]; exact cvU_lt v
  go_enter Try.func41, Try.ntmps41
  go_wp2_with (first | (refine wpList_cvU rfl 28 27 _ rfl (Option.isSome_iff_exists.2 ⟨_, Try.underlying28⟩) Try.underlying27 _ rfl _ ?_; intro _ _) | (first | (refine wpList_fop rfl _ _ _ _ _ rfl _ _ _ rfl rfl (by decide) _ ?_; intro _ _) | (refine upon_fop _ _ _ _ _ (by decide) ?_; intro _ _)))
  go_loopw [3, 4] (fun xs es wr => ∃ (i n m x : Nat), xs = .float .f64 (pick .f64 x n) ∧ es = .float .f64 (floatOfInt .f64 (i : Int)) ∧ wr = w.drewN m ∧ Hid (x < 18446744073709551616) ∧ Up V x i) (fun xs _ _ => fbits xs)
  case atStart => exact ⟨0, _, _, V, rfl, by rw [show floatOfInt .f64 ((0 : Nat) : Int) = 0 from by decide +kernel], rfl, HV, Up.zero H0.out⟩
  case round =>
    obtain ⟨i, n, m, x, rfl, rfl, rfl, HX, HU⟩ := hrel
    have hi := HU.few H0.out
    cases hg : ge15 x
    · have ht : (FloatKind.f64.format.order x 4609434218613702656 == some .gt || FloatKind.f64.format.order x 4609434218613702656 == some .eq) = false := hg
      have HX2 := Lib.hid (up_exit HU hg)
      clear hg
      go_wp2_with (first | (refine wpList_fop rfl _ _ _ _ _ rfl _ _ _ rfl rfl (by decide) _ ?_; intro _ _) | (refine upon_fop _ _ _ _ _ (by decide) ?_; intro _ _))
      obtain ⟨i1, hi1⟩ : ∃ i1, i1 = i := ⟨_, rfl⟩
      obtain ⟨x1, hx1⟩ : ∃ x1, x1 = x := ⟨_, rfl⟩
      have HX3 : Hid (InR 3936146074321813504 4609434218613702655 x1 ∧ upF 400 V 0 = (x1, (i1 : Int))) := by unfold Hid; rw [hi1, hx1]; exact HX2.out
      have HXx : Hid (x1 < 18446744073709551616) := by unfold Hid; rw [hx1]; exact HX.out
      have hi2 : i1 ≤ 277 := by omega
      rw [← hx1, ← hi1]
      clear hx1 hi1 HX2 HU hi
      go_loopw [3, 4] (fun xs es wr => ∃ (i n m x : Nat), xs = .float .f64 (pick .f64 x n) ∧ es = .float .f64 (floatOfInt .f64 ((i1 : Int) - (i : Int))) ∧ wr = w.drewN m ∧ Hid (x < 18446744073709551616) ∧ Dn x1 x (i1 : Int) i) (fun xs _ _ => 18446744073709551616 - fbits xs)
      case atStart => exact ⟨0, _, _, x1, rfl, by simp, rfl, HXx, Dn.zero HX3.out.1⟩
      case round =>
        obtain ⟨i, n, m, x, rfl, rfl, rfl, HX, HD⟩ := hrel
        have hi := HD.few HX3.out.1
        cases hg : lt75 x
        · have ht : (FloatKind.f64.format.order x 4604930618986332160 == some .lt) = false := hg
          have HX4 := Lib.hid (dn_exit HD HX3.out.2 hg)
          clear hg
          go_wp2_with (first | (refine wpList_fop rfl _ _ _ _ _ rfl _ _ _ rfl rfl (by decide) _ ?_; intro _ _) | (refine upon_fop _ _ _ _ _ (by decide) ?_; intro _ _))
          generalize hs : fop .quo .f64 (fop .sub .f64 x 4607182418800017408) (fop .add .f64 x 4607182418800017408) = sv
          have Hs : Hid (sOf x = sv) := hs
          clear hs
          go_loopw [7, 8] (fun p k wr => ∃ i n m : Nat, i ≤ 13 ∧ p = .float .f64 (pick .f64 (lser (fop .mul .f64 sv sv) i) n) ∧ k = .float .f64 (odd25 i) ∧ wr = w.drewN m) (fun _ k _ => fpos k)
          case atStart => exact ⟨0, 0, _, by omega, by rw [pick_not (show isN .f64 (lser (fop .mul .f64 sv sv) 0) = false from (by decide +kernel : isN .f64 0 = false))]; rfl, by rw [show odd25 0 = 4627730092099895296 from by decide +kernel], rfl⟩
          case round =>
            obtain ⟨q, n, m, hq, rfl, rfl, rfl⟩ := hrel
            by_cases hlt : q < 13
            · have ht2 := kod_test q hlt
              unfold one64 at ht2
              have HN := Lib.hid (kod_next q hlt)
              have HL := Lib.hid (kod_lt q hlt)
              go_wp2_with (first | (refine wpList_fop rfl _ _ _ _ _ rfl _ _ _ rfl rfl (by decide) _ ?_; intro _ _) | (refine upon_fop _ _ _ _ _ (by decide) ?_; intro _ _))
              go_roundw
              case rel => exact ⟨q + 1, _, _, by omega, by rw [lser_step]; rfl, by have e := HN.out; rw [e, pick_not (kod_notN _)], rfl⟩
              case measure => have e := HN.out; rw [e, pick_not (kod_notN _)]; exact HL.out
            · obtain rfl : q = 13 := by omega
              have ht2 := kod_end
              unfold one64 at ht2
              clear hlt
              go_wp2_with (first | (refine wpList_fop rfl _ _ _ _ _ rfl _ _ _ rfl rfl (by decide) _ ?_; intro _ _) | (refine upon_fop _ _ _ _ _ (by decide) ?_; intro _ _))
              go_ret
              have e : logW V = fop .add .f64 (fop .mul .f64 two64 (fop .mul .f64 sv (lser (fop .mul .f64 sv sv) 13))) (fop .mul .f64 (floatOfInt .f64 ((i1 : Int) - (i : Int))) ln2) := by
                unfold logW logE; rw [HX4.out, Hs.out]
              rw [e]
              exact ⟨_, _, rfl, rfl⟩
        · have ht : (FloatKind.f64.format.order x 4604930618986332160 == some .lt) = true := hg
          have HM := Lib.hid (HD.more HX.out hg)
          have HS := HD.step HX3.out.1 hg
          have HN := HS.notN
          have HL : Hid (fop .mul .f64 x two64 < 18446744073709551616) := fop_lt .mul .f64 x two64
          have hxn := HD.notN
          have HE := Lib.hid (efl_dn ((i1 : Int) - (i : Int)) (by omega) (by omega))
          have HN2 := Lib.hid HN
          have HN3 := Lib.hid hxn
          clear hg HN hxn
          go_wp2_with (first | (refine wpList_fop rfl _ _ _ _ _ rfl _ _ _ rfl rfl (by decide) _ ?_; intro _ _) | (refine upon_fop _ _ _ _ _ (by decide) ?_; intro _ _))
          go_roundw
          case rel => exact ⟨i + 1, _, _, _, rfl, by have e := HE.out; unfold one64 at e; rw [e, pick_not (efl_notN _), esub], rfl, HL, HS⟩
          case measure =>
            have h1 := HM.out
            show 18446744073709551616 - pick .f64 (fop .mul .f64 x two64) _ < 18446744073709551616 - pick .f64 x _
            rw [pick_not HN2.out, pick_not HN3.out]
            generalize fop .mul .f64 x two64 = y at *
            omega
    · have ht : (FloatKind.f64.format.order x 4609434218613702656 == some .gt || FloatKind.f64.format.order x 4609434218613702656 == some .eq) = true := hg
      have HM := Lib.hid (HU.less HX.out hg)
      have HS := HU.step H0.out hg
      have HN := HS.notN
      have HL : Hid (fop .quo .f64 x two64 < 18446744073709551616) := fop_lt .quo .f64 x two64
      have hxn := HU.notN
      have HE := Lib.hid (efl_up i (by omega))
      have HN2 := Lib.hid HN
      have HN3 := Lib.hid hxn
      clear hg HN hxn
      go_wp2_with (first | (refine wpList_fop rfl _ _ _ _ _ rfl _ _ _ rfl rfl (by decide) _ ?_; intro _ _) | (refine upon_fop _ _ _ _ _ (by decide) ?_; intro _ _))
      go_roundw
      case rel => exact ⟨i + 1, _, _, _, rfl, by have e := HE.out; unfold one64 at e; rw [e, pick_not (efl_notN _)]; rfl, rfl, HL, HS⟩
      case measure =>
        have h1 := HM.out
        show pick .f64 (fop .quo .f64 x two64) _ < pick .f64 x _
        rw [pick_not HN2.out, pick_not HN3.out]
        exact h1
/-! ### IsNaN -/
theorem c_IsNaN (v n : Nat) (w : World) (j : Nat) : Calls Try.prog 52 #[.float .f64 (pick .f64 v n)] (w.drewN j) (RetV (.bool (isN .f64 v)) w) := by
  go_enter Try.func52, Try.ntmps52
  go_wp2
  go_ret
  exact ⟨_, rfl, rfl⟩
/-! ### f64bits -/
@[go_sem] theorem e_f64bits (b : Nat) (w : World) : (callFunc 57 #[.float .f64 b]).run Try.prog w = .ok (.value (.int .u64 b)) w := by kernel_rfl
/-! ### f64from -/
@[go_sem] theorem e_f64from (n : Int) (w : World) : (callFunc 56 #[.int .u64 n]).run Try.prog w = .ok (.value (.float .f64 n.toNat)) w := by kernel_rfl
/-! ### Abs -/
theorem c_Abs (v n : Nat) (w : World) (j : Nat) (hv : v < 2 ^ FloatKind.f64.format.width) : Calls Try.prog 31 #[.float .f64 (pick .f64 v n)] (w.drewN j) (RetF .f64 (fabs .f64 v) w) := by
  have hb := abs_bits hv n
  go_enter Try.func31, Try.ntmps31
  go_wp2
  go_ret
  exact ⟨_, _, rfl, rfl⟩
/-! ### IsInf0 -/
theorem c_IsInf0 (v n : Nat) (w : World) (j : Nat) (hv : v < 2 ^ FloatKind.f64.format.width) : Calls Try.prog 54 #[.float .f64 (pick .f64 v n), .int .i64 0] (w.drewN j) (RetV (.bool (FloatKind.f64.format.order (fabs .f64 v) 9218868437227405311 == some .gt)) w) := by
  go_enter Try.func54, Try.ntmps54
  go_wp2_with ((go_at_call 31; refine (c_Abs _ _ _ _ hv).mono ?_; rintro _ _ ⟨_, _, rfl, rfl⟩))
  go_ret
  exact ⟨_, rfl, rfl⟩
/-! ### isFinite64 -/
theorem c_isFinite64 (v n : Nat) (w : World) (j : Nat) (hv : v < 2 ^ FloatKind.f64.format.width) : Calls Try.prog 29 #[.float .f64 (pick .f64 v n)] (w.drewN j) (RetV (.bool (finB .f64 v)) w) := by
  go_enter Try.func29, Try.ntmps29
  go_wp2_with (first | (go_at_call 52; refine (c_IsNaN _ _ _ _).mono ?_; rintro _ _ ⟨_, rfl, rfl⟩) | (go_at_call 54; refine (c_IsInf0 _ _ _ _ hv).mono ?_; rintro _ _ ⟨_, rfl, rfl⟩))
  all_goals
    go_ret
    refine ⟨_, ?_, rfl⟩
    rw [← abs_gt_max]
    simp [*]
/-! ### iIsFinite -/
theorem c_iIsFinite (v n : Nat) (w : World) (j : Nat) : Calls Try.prog 39 #[.float .f32 (pick .f32 v n)] (w.drewN j) (RetV (.bool (finB .f32 v)) w) := by
  go_enter Try.func39, Try.ntmps39
  go_wp2_with (first | (refine wpList_cvU rfl 28 27 _ rfl (Option.isSome_iff_exists.2 ⟨_, Try.underlying28⟩) Try.underlying27 _ rfl _ ?_; intro _ _) | (go_at_call 29; refine (c_isFinite64 _ _ _ _ (cvU_lt _)).mono ?_; rintro _ _ ⟨_, rfl, rfl⟩))
  go_ret
  rw [← finB_cvU]
  exact ⟨_, rfl, rfl⟩
/-! ### iLog -/
theorem c_iLog (v n0 : Nat) (w : World) (j : Nat) (h0 : (FloatKind.f32.format.order v 0 == some .eq) = false) (h1 : isN .f32 v = false) (h2 : (FloatKind.f32.format.order v 0 == some .lt) = false) (h3 : finB .f32 v = true)
    (HI : Hid (InR 3936146074321813504 5183643171103440896 (cvU v))) (HF : Hid (Fits (logW (cvU v)))) :
    Calls Try.prog 27 #[.float .f32 (pick .f32 v n0)] (w.drewN j) (RetF .f32 (cvN (logW (cvU v))) w) := by
  go_enter Try.func27, Try.ntmps27
  go_wp2_with (first | (refine wpList_cvU rfl 28 27 _ rfl (Option.isSome_iff_exists.2 ⟨_, Try.underlying28⟩) Try.underlying27 _ rfl _ ?_; intro _ _) | (go_at_call 52; refine (c_IsNaN _ _ _ _).mono ?_; rintro _ _ ⟨_, rfl, rfl⟩) | (go_at_call 39; refine (c_iIsFinite _ _ _ _).mono ?_; rintro _ _ ⟨_, rfl, rfl⟩) | (go_at_call 41; refine (c_logOf _ _ _ _ _ rfl HI).mono ?_; rintro _ _ ⟨_, _, rfl, rfl⟩) | (go_at_call 36; refine (c_NarrowNumber _ _ _ _ HF.out).mono ?_; rintro _ _ ⟨_, _, rfl, rfl⟩) | go_in)
  go_ret
  exact ⟨_, _, rfl, rfl⟩
/-! ### FnPowers -/
theorem c_exp (t n : Nat) (w : World) (j : Nat) (ht : t < 129) : Calls Try.prog 26 #[.float .f32 (pick .f32 (xq t) n)] (w.drewN j) (RetF .f32 (eT t) w) := by
  obtain ⟨⟨h1, h2⟩, h3, h4⟩ := f_exp ⟨t, ht⟩
  have := c_iExp (xq t) n w j h1 h2 (.inr h3)
  rw [show cvN (expW (xq t)) = eT t from h4] at this
  exact this
theorem c_exp0 (w : World) (j : Nat) : Calls Try.prog 26 #[.float .f32 0] (w.drewN j) (RetF .f32 1065353216 w) := by
  have := c_exp 64 0 w j (by omega)
  rw [f_one.2.2.1, f_one.2.2.2.1, pick_not (show isN .f32 0 = false by decide +kernel)] at this
  exact this
theorem c_log (r n : Nat) (w : World) (j : Nat) (hr : r < 65) : Calls Try.prog 27 #[.float .f32 (pick .f32 (eT (r + 32)) n)] (w.drewN j) (RetF .f32 (lT r) w) := by
  obtain ⟨⟨⟨h1, h2⟩, h3, h4⟩, h5, h6⟩ := f_log ⟨r, hr⟩
  exact c_iLog (eT (r + 32)) n w j h1 h2 h3 h4 (pos_fin h4 h5) (.inr h6)
theorem c_log1 (w : World) (j : Nat) : Calls Try.prog 27 #[.float .f32 1065353216] (w.drewN j) (RetF .f32 0 w) := by
  have := c_log 32 0 w j (by omega)
  rw [f_one.2.2.2.1, f_one.2.2.2.2, pick_not (show isN .f32 1065353216 = false by decide +kernel)] at this
  exact this
theorem walk (a0 : Option Addr) (len0 cap0 : Nat) (z0 : List Int) (a1 : Option Addr) (len1 cap1 : Nat) (z1 : List Int) (w : World) (w0 : IsRow .u8 w a0 len0 cap0 z0) (w1 : IsRow .u8 w a1 len1 cap1 z1) :
    Calls Try.prog 5 #[.slice a0 len0 cap0, .slice a1 len1 cap1] w fun e w' => e = .returned (.bool true) ∧ Below w.heap.size w w' := by
  rw [← w.drewN_zero]
  have H0 := Lib.hid w0
  have H1 := Lib.hid w1
  clear w0 w1
  cases hl : (decide ((1048576 : Int) < len0) || decide ((1048576 : Int) < len1))
  · have t4 := f_one.1
    have t5 := f_one.2.1
    go_enter Try.func5, Try.ntmps5
    go_wp2_with (first | (first | (refine wpList_fop rfl _ _ _ _ _ rfl _ _ _ rfl rfl (by decide) _ ?_; intro _ _) | (refine upon_fop _ _ _ _ _ (by decide) ?_; intro _ _)) | (refine wpList_cvU rfl 28 27 _ rfl (Option.isSome_iff_exists.2 ⟨_, Try.underlying28⟩) Try.underlying27 _ rfl _ ?_; intro _ _) | (refine upon_cvU _ _ _ (Option.isSome_iff_exists.2 ⟨_, Try.underlying28⟩) Try.underlying27 ?_; intro _ _) | (go_at_call 7; refine (c_b10Long _ _ _ _ _ _ _ _).mono ?_; rintro _ _ ⟨_, rfl, rfl⟩) | (go_at_call 8; first | (refine (c_b10At _ _ _ z0 _ _ ?hr0).mono ?_; (case hr0 => with_reducible exact H0.out); rintro _ _ ⟨r, _, hr, rfl, rfl⟩; have hx := xq_eq r) | (refine (c_b10At _ _ _ z1 _ _ ?hr1).mono ?_; (case hr1 => with_reducible exact H1.out); rintro _ _ ⟨s, _, hs, rfl, rfl⟩; have hy := xq_eq s; have hxy := q_add hr hs; have t1 := q_gap hr; have t2 := q_mul hr hs; have t3 := q_pos hr)) | (go_at_call 26; first | ((with_reducible refine (c_exp _ _ _ _ ?_).mono ?_); (· omega); rintro _ _ ⟨_, _, rfl, rfl⟩) | ((with_reducible refine (c_exp0 _ _).mono ?_); rintro _ _ ⟨_, _, rfl, rfl⟩)) | (go_at_call 27; first | ((with_reducible refine (c_log _ _ _ _ ?_).mono ?_); (· omega); rintro _ _ ⟨_, _, rfl, rfl⟩) | ((with_reducible refine (c_log1 _ _).mono ?_); rintro _ _ ⟨_, _, rfl, rfl⟩)) | (go_at_call 11; (with_reducible refine (c_b10Gap _ _ _ _ _ _).mono ?_); rintro _ _ ⟨_, _, rfl, rfl⟩))
    go_ret
    exact ⟨rfl, below_drewN (Below.refl _ _) _⟩
  · go_enter Try.func5, Try.ntmps5
    go_wp2_with (go_at_call 7; refine (c_b10Long _ _ _ _ _ _ _ _).mono ?_; rintro _ _ ⟨_, rfl, rfl⟩)
    go_ret
    exact ⟨rfl, below_drewN (Below.refl _ _) _⟩

theorem own : ownKnob Try.prog.godebug = none := by kernel_rfl
theorem laidOut : laidOutB Try.prog = true := by kernel_rfl
set_option maxRecDepth 100000 in
theorem lifted (os : Os) (started : os.Started) (H : Type) (enc : TypeId × Value → H) :
    ReturnsInHanded {} Try.checked os 5 .any (Rows.fnPowersSpec.pre6 enc Try.prog Try.f5 Rows.fnPowersRow.domain false) (Rows.fnPowersSpec.post enc Try.prog Try.f5 false true false false) := by
  refine returnsInHanded_of_change (C := Try.checked) own started (by kernel_rfl) Try.func5
    (ChangeSpec.witness6 (enc := enc) (C := Try.checked) false ⟨#[], #[.slice none 0 0, .slice none 0 0], []⟩ 8 (by kernel_rfl) (by kernel_rfl) (by kernel_rfl) (by kernel_rfl)) ?_
  intro W base args ds gs before hval0 hW hcnd _
  have hval : ∀ (j : Nat) t v, Try.f5.params[j]? = some t → args[j]? = some v → Value.okWide Try.prog W .any base t v := hval0
  have hW' := hW
  obtain ⟨p, q, hA0, hV, rfl, hfz, hnd⟩ := hW
  have hA : DataW.TrodAll enc Try.prog W 0 (fun _ => true) true Try.f5.params.toList args.toList ds p := hA0
  rw [Try.params5] at hA hval
  obtain ⟨v0, vs0, d0, ds0, p0, q0, hargs, rfl, rfl, h0, r0⟩ := trodAll_cons hA
  obtain ⟨v1, vs1, d1, ds1, p1, q1, rfl, rfl, rfl, h1, r1⟩ := trodAll_cons r0
  obtain ⟨rfl, rfl, rfl⟩ := trodAll_nil r1
  obtain rfl : args = #[v0, v1] := by cases args; simp_all
  obtain ⟨rfl, rfl⟩ := trodVars_none hV
  obtain ⟨a0, len0, cap0, rfl⟩ := okWide_slice Try.underlying22 (hval 0 22 v0 rfl rfl)
  have k0 := h0
  have lt0 : ∀ x ∈ p0, x.block < W.heap.size := by obtain ⟨m, hm⟩ := k0; exact DataW.trod_lt m _ _ _ hm
  obtain ⟨z0, w0⟩ := rowI_of Try.underlying22 Try.underlying5 (by kernel_rfl) h0
  obtain ⟨a1, len1, cap1, rfl⟩ := okWide_slice Try.underlying22 (hval 1 22 v1 rfl rfl)
  have k1 := h1
  have lt1 : ∀ x ∈ p1, x.block < W.heap.size := by obtain ⟨m, hm⟩ := k1; exact DataW.trod_lt m _ _ _ hm
  obtain ⟨z1, w1⟩ := rowI_of Try.underlying22 Try.underlying5 (by kernel_rfl) h1
  clear hA0 hval0
  have hw0 : Calls Try.prog 5 #[.slice a0 len0 cap0, .slice a1 len1 cap1] W fun e w' => e = .returned (.bool true) ∧ Below W.heap.size W w' := by
    exact walk a0 len0 cap0 z0 a1 len1 cap1 z1 W w0 w1
  refine hw0.mono fun e W' ⟨he, bel⟩ => ?_
  subst he
  exact ⟨_, rfl, _, _, _, [], _, [], hW', trodAll_mk1 (shut_bool Try.underlying4 _), (trodAll_cons_mk (Below.trod laidOut (by kernel_rfl) (of_decide_eq_true (by kernel_rfl)) k0 bel lt0) (trodAll_cons_mk (Below.trod laidOut (by kernel_rfl) (of_decide_eq_true (by kernel_rfl)) k1 bel lt1) trodAll_mk0)), rfl, bel.frame _, fun h => by cases h⟩

theorem over : Rows.fnPowersRow.holds Try.pinned (OpenSpec.ofChange Rows.fnPowersSpec) :=
  OpenClaim.holds_of_wide 5 Try.f5 rfl rfl rfl rfl rfl rfl rfl ⟨rfl, rfl, rfl, rfl, rfl⟩ rfl rfl rfl rfl rfl (by kernel_rfl) Try.func5 (by kernel_rfl)
    (of_decide_eq_true (by kernel_rfl)) (by unfold Func.isWrapper; first | (rw [if_pos (by decide +kernel)]; kernel_rfl) | (rw [if_neg (by decide +kernel)]; exact ⟨rfl, rfl⟩))
    (fun os started H enc _ => lifted os started H enc)

theorem proved : Rows.FnPowersSaid := over
#print axioms proved

end Go.Proofs.Ytfohhljadpchgaa.fnPowers

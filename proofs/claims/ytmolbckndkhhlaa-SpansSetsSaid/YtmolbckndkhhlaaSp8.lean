/- Contracts of corrodyref07: Days, Wide. -/
import Derived.Test.YtmolbckndkhhlaaSpSet
namespace Corr
set_option maxRecDepth 8000
open Go Go.RowKit
theorem two_len (kind : Int) (a b : SpL) : (twoL kind a b).length ≤ 2 * a.length + 2 * b.length := by
  have h1 := rightK_len (endsAB a b) (markL kind a b (endsAB a b)) ((endsAB a b).length - 1)
  have h2 := endsAB_len a b
  unfold twoL; omega
/-- How many days a number of days behind counts as. -/
def clampK (k : Int) : Int := if k < 0 then 0 else if 3652060 < k then 3652060 else k
theorem clampK_in (k : Int) : 0 ≤ clampK k ∧ clampK k ≤ 3652060 := by
  unfold clampK
  repeat' split
  all_goals omega
/-- Half put off. -/
def halfW (k : Int) (l : SpL) (i : Nat) : SpL := widenL k (l.take i) ++ l.drop i
theorem halfW_at {k : Int} {l : SpL} {i : Nat} {s : Int × Int} (h : l[i]? = some s) : (halfW k l i)[i]? = some s := by
  have hi := (List.getElem?_eq_some_iff.1 h).1
  unfold halfW widenL
  rw [List.getElem?_append_right (by simp; omega)]
  simp only [List.length_map, List.length_take]
  rw [List.getElem?_drop, show i + (i - min i l.length) = i by omega, h]
theorem halfW_next {k : Int} {l : SpL} {i : Nat} {x y : Int} (h : l[i]? = some (x, y)) : (halfW k l i).set i (x, y + k) = halfW k l (i + 1) := by
  have hi := (List.getElem?_eq_some_iff.1 h).1
  unfold halfW
  have hl : (widenL k (l.take i)).length = i := by unfold widenL; simp; omega
  rw [List.set_append_right _ _ (by omega), hl, Nat.sub_self]
  have e : l.drop i = (x, y) :: l.drop (i + 1) := by rw [List.drop_eq_getElem_cons hi, (List.getElem?_eq_some_iff.1 h).2]
  rw [e, List.set_cons_zero, List.take_add_one, h]
  unfold widenL
  rw [List.map_append, List.append_assoc]; rfl
theorem halfW_0 (k : Int) (l : SpL) : halfW k l 0 = l := by unfold halfW widenL; simp
theorem halfW_all {k : Int} {l : SpL} {i : Nat} (h : i = l.length) : halfW k l i = widenL k l := by subst h; unfold halfW; simp
def wideL (k : Int) (l : SpL) : SpL := twoL 0 (widenL (clampK k) (twoL 0 l [])) []
end Corr
namespace Go.Proofs.Ytmolbckndkhhlaa
set_option maxRecDepth 8000
open Go.RowKit Corr
set_option linter.unusedVariables false
set_option linter.unusedSimpArgs false
set_option maxHeartbeats 2000000 in
theorem days_of (A : Option Addr) (N c : Nat) (a : SpL) (w : World) (R : Spn w A N c a) (hN : N ≤ 200) : Calls Try.prog 23 #[.slice A N c] w fun e w' => e = .returned (.int .i64 (sumDays (twoL 0 a []))) ∧ Below w.heap.size w w' := by
  have K1 := Lib.hid (of_any A N c a w R hN)
  have HL := Lib.hid (show (twoL 0 a []).length ≤ 400 by have := two_len 0 a []; have := R.count; simp at *; omega)
  have HI := Lib.hid (two_spec 0 a []).1
  clear R
  generalize twoL 0 a [] = l at *
  go_enter Try.func23, Try.ntmps23
  go_wp2_with fail
  refine K1.out.mono ?_
  rintro e w1 ⟨E1, n, c1, rfl, R1, b1⟩
  have HS := Lib.hid (own_lies R1)
  have HC := Lib.hid (Spn.count HS.out)
  have hn : n ≤ 400 := by have := HC.out; have := HL.out; omega
  have HB1 := Lib.hid b1
  clear K1 b1 R1
  go_wp2_with fail
  go_loopw [3, 5] (fun v t wr => ∃ (i : Nat) (D : Int), v = .int .i64 D ∧ t = .int .i64 (i : Int) ∧ i ≤ n ∧ Hid (sumDays (l.take i) = D) ∧ 0 ≤ D ∧ D ≤ 4000000 * (i : Int) ∧ Below w1.heap.size w1 wr) (fun _ t _ => (n - intOf t).toNat)
  case atStart => exact ⟨0, 0, rfl, rfl, by omega, Lib.hid rfl, by omega, by omega, Below.refl _ _⟩
  case round =>
    obtain ⟨i, D, rfl, rfl, hi, HD, d0, d1, hb⟩ := hrel
    have HB := Lib.hid hb
    clear hb
    by_cases hlt : i < n
    · obtain ⟨g, off, s, rfl, hs, hg, c0, c1⟩ := Spn.get (HS.out.keep HB.out) hlt
      obtain ⟨x, y⟩ := s
      have hm := List.mem_of_getElem? hs
      have h1 := (HI.out.2 _ hm)
      have h2 := HI.out.1.1 _ hm
      have HD2 := Lib.hid (show sumDays (l.take (i + 1)) = D + y - x by rw [sumDays_more hs, HD.out]; show D + (y - x) = _; omega)
      have hx1 : 1 ≤ x := h1.1
      have hy1 : y ≤ 3652060 := h1.2
      have hxy : x < y := h2
      clear hs hm h1 h2 HD
      have hi2 : (i : Int) < (n : Int) := by omega
      go_upto_region 6 with fail
      go_quiet (fail)
      have HB2 := Lib.hid (HB.out.trans (Joins.below_draws _ wr nq))
      go_wp2_with fail
      go_roundw
      case rel => exact ⟨i + 1, D + y - x, rfl, by go_num, by omega, HD2, by omega, by omega, HB2.out⟩
      case measure => simp [intOf]; omega
    · have hin : i = n := by omega
      have HF := Lib.hid (show D = sumDays l by rw [← HD.out, List.take_of_length_le (by rw [HC.out]; omega)])
      have HB2 := Lib.hid (HB1.out.trans (HB.out.mono HB1.out.size))
      go_wp2_with fail
      go_ret
      exact ⟨ret_int HF.out, HB2.out⟩
set_option maxHeartbeats 4000000 in
theorem wide_low (A : Option Addr) (N c : Nat) (a : SpL) (k : Int) (w : World) (R : Spn w A N c a) (hN : N ≤ 60) (k0 : k < 0) : Calls Try.prog 19 #[.slice A N c, .int .i64 k] w (RetSpn 37 w (twoL 0 (widenL 0 (twoL 0 a [])) [])) := by
  have K1 := Lib.hid (of_any A N c a w R (by omega))
  have HL := Lib.hid (show (twoL 0 a []).length ≤ 120 by have := two_len 0 a []; have := R.count; simp at *; omega)
  have HI := Lib.hid (two_spec 0 a []).1
  clear R
  generalize twoL 0 a [] = l at *
  go_enter Try.func19, Try.ntmps19
  go_wp2_with fail
  refine K1.out.mono ?_
  rintro e w1 ⟨E1, n, c1, rfl, R1, b1⟩
  have HC := Lib.hid (Spn.count (own_lies R1))
  have hn : n ≤ 120 := by have := HC.out; have := HL.out; omega
  have HB1 := Lib.hid b1
  have HR1 := Lib.hid R1
  clear K1 b1 R1
  go_wp2_with fail
  go_loopw [6] (fun t wr => ∃ (i : Nat), t = .int .i64 (i : Int) ∧ i ≤ n ∧ wr.ownsRow w.heap.size 37 2 (.slice E1 n c1) n (cells2 (halfW 0 l i)) ∧ Below w.heap.size w wr) (fun t _ => (n - intOf t).toNat)
  case atStart => exact ⟨0, rfl, by omega, by rw [halfW_0]; exact HR1.out, HB1.out⟩
  case round =>
    obtain ⟨i, rfl, hi, hown, hb⟩ := hrel
    have HB := Lib.hid hb
    clear hb
    by_cases hlt : i < n
    · obtain ⟨s, hs⟩ : ∃ s, l[i]? = some s := ⟨_, List.getElem?_eq_getElem (by rw [HC.out]; exact hlt)⟩
      obtain ⟨x, y⟩ := s
      have hm := List.mem_of_getElem? hs
      have hy1 : y ≤ 3652060 := (HI.out.2 _ hm).2
      have hx1 : 1 ≤ x := (HI.out.2 _ hm).1
      have hxy : x < y := HI.out.1.1 _ hm
      rcases Joins.ownsRow_forms hown with ⟨_, h0⟩ | ⟨g3, d3, hv⟩
      · omega
      · injection hv with e1 _ e3
        subst e1 e3
        have HOB := own_ge hown g3 rfl
        have c4 : wr.cell? ⟨g3, i * 2 + 1, none⟩ = some (.int .i64 y) := by rw [hown.cellAt _ (by omega)]; exact cells2_1 (halfW_at hs)
        have f4 : wr.frozen? ⟨g3, i * 2 + 1, none⟩ = false := hown.frozenAt _
        have HST := hown.stored (i * 2 + 1) (.int .i64 (y + 0))
        have HO2 := Lib.hid (show (wr.setCell ⟨g3, i * 2 + 1, none⟩ (.int .i64 (y + 0))).ownsRow w.heap.size 37 2 (.slice (some ⟨g3, 0, none⟩) n c1) n (cells2 (halfW 0 l (i + 1))) by rw [← halfW_next hs, ← cells2_set (halfW_at hs)]; exact HST.1)
        have HB2 := Lib.hid (HB.out.setCell (p := ⟨g3, i * 2 + 1, none⟩) HOB (.int .i64 (y + 0)))
        clear HST hown hs hm HR1
        go_wp2_with fail
        go_roundw
        case rel => exact ⟨i + 1, by go_num, by omega, by first | exact HO2.out | simpa using HO2.out, by first | exact HB2.out | simpa using HB2.out⟩
        case measure => simp [intOf]; omega
    · have hin : i = n := by omega
      have HW := Lib.hid (show halfW 0 l i = widenL 0 l from halfW_all (by rw [HC.out]; exact hin))
      have hL := own_lies hown
      rw [HW.out] at hL
      have K2 := Lib.hid (of_any E1 n c1 (widenL 0 l) wr hL (by omega))
      clear hown hL HR1
      go_wp2_with fail
      refine K2.out.mono ?_
      rintro e w4 ⟨A4, n4, c4, rfl, R4, b4⟩
      have HF := Lib.hid (show Below w.heap.size w w4 from HB.out.trans (b4.mono HB.out.size))
      have HO4 := Lib.hid (own_low R4 HB.out.size)
      clear b4 R4
      go_wp2_with fail
      go_ret
      exact ⟨_, _, _, rfl, HO4.out, HF.out⟩
set_option maxHeartbeats 4000000 in
theorem wide_high (A : Option Addr) (N c : Nat) (a : SpL) (k : Int) (w : World) (R : Spn w A N c a) (hN : N ≤ 60) (k0 : 3652060 < k) : Calls Try.prog 19 #[.slice A N c, .int .i64 k] w (RetSpn 37 w (twoL 0 (widenL 3652060 (twoL 0 a [])) [])) := by
  have d0 : decide (k < 0) = false := decide_eq_false (by omega)
  have d1 : decide (k > 3652060) = true := decide_eq_true k0
  have K1 := Lib.hid (of_any A N c a w R (by omega))
  have HL := Lib.hid (show (twoL 0 a []).length ≤ 120 by have := two_len 0 a []; have := R.count; simp at *; omega)
  have HI := Lib.hid (two_spec 0 a []).1
  clear R
  generalize twoL 0 a [] = l at *
  go_enter Try.func19, Try.ntmps19
  go_wp2_with fail
  refine K1.out.mono ?_
  rintro e w1 ⟨E1, n, c1, rfl, R1, b1⟩
  have HC := Lib.hid (Spn.count (own_lies R1))
  have hn : n ≤ 120 := by have := HC.out; have := HL.out; omega
  have HB1 := Lib.hid b1
  have HR1 := Lib.hid R1
  clear K1 b1 R1
  go_wp2_with fail
  go_loopw [6] (fun t wr => ∃ (i : Nat), t = .int .i64 (i : Int) ∧ i ≤ n ∧ wr.ownsRow w.heap.size 37 2 (.slice E1 n c1) n (cells2 (halfW 3652060 l i)) ∧ Below w.heap.size w wr) (fun t _ => (n - intOf t).toNat)
  case atStart => exact ⟨0, rfl, by omega, by rw [halfW_0]; exact HR1.out, HB1.out⟩
  case round =>
    obtain ⟨i, rfl, hi, hown, hb⟩ := hrel
    have HB := Lib.hid hb
    clear hb
    by_cases hlt : i < n
    · obtain ⟨s, hs⟩ : ∃ s, l[i]? = some s := ⟨_, List.getElem?_eq_getElem (by rw [HC.out]; exact hlt)⟩
      obtain ⟨x, y⟩ := s
      have hm := List.mem_of_getElem? hs
      have hy1 : y ≤ 3652060 := (HI.out.2 _ hm).2
      have hx1 : 1 ≤ x := (HI.out.2 _ hm).1
      have hxy : x < y := HI.out.1.1 _ hm
      rcases Joins.ownsRow_forms hown with ⟨_, h0⟩ | ⟨g3, d3, hv⟩
      · omega
      · injection hv with e1 _ e3
        subst e1 e3
        have HOB := own_ge hown g3 rfl
        have c4 : wr.cell? ⟨g3, i * 2 + 1, none⟩ = some (.int .i64 y) := by rw [hown.cellAt _ (by omega)]; exact cells2_1 (halfW_at hs)
        have f4 : wr.frozen? ⟨g3, i * 2 + 1, none⟩ = false := hown.frozenAt _
        have HST := hown.stored (i * 2 + 1) (.int .i64 (y + 3652060))
        have HO2 := Lib.hid (show (wr.setCell ⟨g3, i * 2 + 1, none⟩ (.int .i64 (y + 3652060))).ownsRow w.heap.size 37 2 (.slice (some ⟨g3, 0, none⟩) n c1) n (cells2 (halfW 3652060 l (i + 1))) by rw [← halfW_next hs, ← cells2_set (halfW_at hs)]; exact HST.1)
        have HB2 := Lib.hid (HB.out.setCell (p := ⟨g3, i * 2 + 1, none⟩) HOB (.int .i64 (y + 3652060)))
        clear HST hown hs hm HR1
        go_wp2_with fail
        go_roundw
        case rel => exact ⟨i + 1, by go_num, by omega, by first | exact HO2.out | simpa using HO2.out, by first | exact HB2.out | simpa using HB2.out⟩
        case measure => simp [intOf]; omega
    · have hin : i = n := by omega
      have HW := Lib.hid (show halfW 3652060 l i = widenL 3652060 l from halfW_all (by rw [HC.out]; exact hin))
      have hL := own_lies hown
      rw [HW.out] at hL
      have K2 := Lib.hid (of_any E1 n c1 (widenL 3652060 l) wr hL (by omega))
      clear hown hL HR1
      go_wp2_with fail
      refine K2.out.mono ?_
      rintro e w4 ⟨A4, n4, c4, rfl, R4, b4⟩
      have HF := Lib.hid (show Below w.heap.size w w4 from HB.out.trans (b4.mono HB.out.size))
      have HO4 := Lib.hid (own_low R4 HB.out.size)
      clear b4 R4
      go_wp2_with fail
      go_ret
      exact ⟨_, _, _, rfl, HO4.out, HF.out⟩
set_option maxHeartbeats 4000000 in
theorem wide_mid (A : Option Addr) (N c : Nat) (a : SpL) (k : Int) (w : World) (R : Spn w A N c a) (hN : N ≤ 60) (k0 : 0 ≤ k) (k1 : k ≤ 3652060) : Calls Try.prog 19 #[.slice A N c, .int .i64 k] w (RetSpn 37 w (twoL 0 (widenL k (twoL 0 a [])) [])) := by
  have d0 : decide (k < 0) = false := decide_eq_false (by omega)
  have d1 : decide (k > 3652060) = false := decide_eq_false (by omega)
  have K1 := Lib.hid (of_any A N c a w R (by omega))
  have HL := Lib.hid (show (twoL 0 a []).length ≤ 120 by have := two_len 0 a []; have := R.count; simp at *; omega)
  have HI := Lib.hid (two_spec 0 a []).1
  clear R
  generalize twoL 0 a [] = l at *
  go_enter Try.func19, Try.ntmps19
  go_wp2_with fail
  refine K1.out.mono ?_
  rintro e w1 ⟨E1, n, c1, rfl, R1, b1⟩
  have HC := Lib.hid (Spn.count (own_lies R1))
  have hn : n ≤ 120 := by have := HC.out; have := HL.out; omega
  have HB1 := Lib.hid b1
  have HR1 := Lib.hid R1
  clear K1 b1 R1
  go_wp2_with fail
  go_loopw [6] (fun t wr => ∃ (i : Nat), t = .int .i64 (i : Int) ∧ i ≤ n ∧ wr.ownsRow w.heap.size 37 2 (.slice E1 n c1) n (cells2 (halfW k l i)) ∧ Below w.heap.size w wr) (fun t _ => (n - intOf t).toNat)
  case atStart => exact ⟨0, rfl, by omega, by rw [halfW_0]; exact HR1.out, HB1.out⟩
  case round =>
    obtain ⟨i, rfl, hi, hown, hb⟩ := hrel
    have HB := Lib.hid hb
    clear hb
    by_cases hlt : i < n
    · obtain ⟨s, hs⟩ : ∃ s, l[i]? = some s := ⟨_, List.getElem?_eq_getElem (by rw [HC.out]; exact hlt)⟩
      obtain ⟨x, y⟩ := s
      have hm := List.mem_of_getElem? hs
      have hy1 : y ≤ 3652060 := (HI.out.2 _ hm).2
      have hx1 : 1 ≤ x := (HI.out.2 _ hm).1
      have hxy : x < y := HI.out.1.1 _ hm
      rcases Joins.ownsRow_forms hown with ⟨_, h0⟩ | ⟨g3, d3, hv⟩
      · omega
      · injection hv with e1 _ e3
        subst e1 e3
        have HOB := own_ge hown g3 rfl
        have c4 : wr.cell? ⟨g3, i * 2 + 1, none⟩ = some (.int .i64 y) := by rw [hown.cellAt _ (by omega)]; exact cells2_1 (halfW_at hs)
        have f4 : wr.frozen? ⟨g3, i * 2 + 1, none⟩ = false := hown.frozenAt _
        have HST := hown.stored (i * 2 + 1) (.int .i64 (y + k))
        have HO2 := Lib.hid (show (wr.setCell ⟨g3, i * 2 + 1, none⟩ (.int .i64 (y + k))).ownsRow w.heap.size 37 2 (.slice (some ⟨g3, 0, none⟩) n c1) n (cells2 (halfW k l (i + 1))) by rw [← halfW_next hs, ← cells2_set (halfW_at hs)]; exact HST.1)
        have HB2 := Lib.hid (HB.out.setCell (p := ⟨g3, i * 2 + 1, none⟩) HOB (.int .i64 (y + k)))
        clear HST hown hs hm HR1
        go_wp2_with fail
        go_roundw
        case rel => exact ⟨i + 1, by go_num, by omega, by first | exact HO2.out | simpa using HO2.out, by first | exact HB2.out | simpa using HB2.out⟩
        case measure => simp [intOf]; omega
    · have hin : i = n := by omega
      have HW := Lib.hid (show halfW k l i = widenL k l from halfW_all (by rw [HC.out]; exact hin))
      have hL := own_lies hown
      rw [HW.out] at hL
      have K2 := Lib.hid (of_any E1 n c1 (widenL k l) wr hL (by omega))
      clear hown hL HR1
      go_wp2_with fail
      refine K2.out.mono ?_
      rintro e w4 ⟨A4, n4, c4, rfl, R4, b4⟩
      have HF := Lib.hid (show Below w.heap.size w w4 from HB.out.trans (b4.mono HB.out.size))
      have HO4 := Lib.hid (own_low R4 HB.out.size)
      clear b4 R4
      go_wp2_with fail
      go_ret
      exact ⟨_, _, _, rfl, HO4.out, HF.out⟩
theorem wide_any (A : Option Addr) (N c : Nat) (a : SpL) (k : Int) (w : World) (R : Spn w A N c a) (hN : N ≤ 60) : Calls Try.prog 19 #[.slice A N c, .int .i64 k] w (RetSpn 37 w (wideL k a)) := by
  by_cases k0 : k < 0
  · have := wide_low A N c a k w R hN k0
    rw [show wideL k a = twoL 0 (widenL 0 (twoL 0 a [])) [] by unfold wideL clampK; rw [if_pos k0]]
    exact this
  · by_cases k1 : 3652060 < k
    · have := wide_high A N c a k w R hN k1
      rw [show wideL k a = twoL 0 (widenL 3652060 (twoL 0 a [])) [] by unfold wideL clampK; rw [if_neg k0, if_pos k1]]
      exact this
    · have := wide_mid A N c a k w R hN (by omega) (by omega)
      rw [show wideL k a = twoL 0 (widenL k (twoL 0 a [])) [] by unfold wideL clampK; rw [if_neg k0, if_neg k1]]
      exact this
end Go.Proofs.Ytmolbckndkhhlaa

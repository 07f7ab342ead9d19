/- Contract of Wide of package spans, from the sort's. -/
import Derived.Test.YtmolbckndkhhlaaSpOf
import Derived.Test.YtmolbckndkhhlaaSpKit
import Derived.Test.YtmolbckndkhhlaaSp8
namespace Go.Proofs.Ytmolbckndkhhlaa
set_option maxRecDepth 8000
open Go.RowKit Corr
set_option linter.unusedVariables false
set_option linter.unusedSimpArgs false
set_option maxHeartbeats 4000000 in
theorem pwide_low (HSC : SortC) (A : Option Addr) (N c : Nat) (a : SpL) (k : Int) (w : World) (R : Spn w A N c a) (hN : N ≤ 1000) (k0 : k < 0) : Calls Try.prog 18 #[.slice A N c, .int .i64 k] w (RetSpn 37 w (twoL 0 (widenL 0 (twoL 0 a [])) [])) := by
  have K1 := Lib.hid (of_max HSC A N c a w R (by omega))
  have HSC1 := Lib.hid HSC
  have HL := Lib.hid (show (twoL 0 a []).length ≤ 2000 by have := two_len 0 a []; have := R.count; simp at *; omega)
  have HI := Lib.hid (two_spec 0 a []).1
  clear R HSC
  generalize twoL 0 a [] = l at *
  go_enter Try.func18, Try.ntmps18
  go_wp2_with (go_at_call 12; refine K1.out.mono ?_; rintro e w1 ⟨E1, n, c1, rfl, R1, b1⟩; have HC := Lib.hid (Spn.count (own_lies R1)); have hn : n ≤ 2000 := (by have := HC.out; have := HL.out; omega); have HB1 := Lib.hid b1; have HR1 := Lib.hid R1; clear K1 b1 R1)
  go_loopw [14] (fun t wr => ∃ (i : Nat), t = .int .i64 (i : Int) ∧ i ≤ n ∧ wr.ownsRow w.heap.size 37 2 (.slice E1 n c1) n (cells2 (halfW 0 l i)) ∧ Below w.heap.size w wr) (fun t _ => (n - intOf t).toNat)
  case atStart => exact ⟨0, rfl, by omega, by rw [halfW_0]; exact HR1.out, HB1.out⟩
  case round =>
    obtain ⟨i, rfl, hi, hown, hb⟩ := hrel
    have HB := Lib.hid hb
    clear hb
    by_cases hlt : i < n
    · obtain ⟨s, hs⟩ : ∃ s, l[i]? = some s := ⟨_, List.getElem?_eq_getElem (by rw [HC.out]; exact hlt)⟩
      obtain ⟨x, y⟩ := s
      have hm := List.mem_of_getElem? hs
      have hy1 : y ≤ 3652060 := (HI.out.2 _ hm).2
      have hx1 : 1 ≤ x := (HI.out.2 _ hm).1
      have hxy : x < y := HI.out.1.1 _ hm
      rcases Joins.ownsRow_forms hown with ⟨_, h0⟩ | ⟨g3, d3, hv⟩
      · omega
      · injection hv with e1 _ e3
        subst e1 e3
        have HOB := own_ge hown g3 rfl
        have c4 : wr.cell? ⟨g3, i * 2 + 1, none⟩ = some (.int .i64 y) := by rw [hown.cellAt _ (by omega)]; exact cells2_1 (halfW_at hs)
        have f4 : wr.frozen? ⟨g3, i * 2 + 1, none⟩ = false := hown.frozenAt _
        have HST := hown.stored (i * 2 + 1) (.int .i64 (y + 0))
        have HO2 := Lib.hid (show (wr.setCell ⟨g3, i * 2 + 1, none⟩ (.int .i64 (y + 0))).ownsRow w.heap.size 37 2 (.slice (some ⟨g3, 0, none⟩) n c1) n (cells2 (halfW 0 l (i + 1))) by rw [← halfW_next hs, ← cells2_set (halfW_at hs)]; exact HST.1)
        have HB2 := Lib.hid (HB.out.setCell (p := ⟨g3, i * 2 + 1, none⟩) HOB (.int .i64 (y + 0)))
        have a1 : IntKind.i64.wrap (y + 0) = y + 0 := IntWalk.i64_in _ (by omega)
        clear HST hown hs hm HR1
        go_wp2_with fail
        go_roundw
        case rel => exact ⟨i + 1, by go_num, by omega, by first | exact HO2.out | simpa using HO2.out, by first | exact HB2.out | simpa using HB2.out⟩
        case measure => simp [intOf]; omega
    · have hin : i = n := by omega
      have HW := Lib.hid (show halfW 0 l i = widenL 0 l from halfW_all (by rw [HC.out]; exact hin))
      have hL := own_lies hown
      rw [HW.out] at hL
      have K2 := Lib.hid (of_max HSC1.out E1 n c1 (widenL 0 l) wr hL (by omega))
      clear hown hL HR1
      go_wp2_with (go_at_call 12; refine K2.out.mono ?_; rintro e w4 ⟨A4, n4, c4, rfl, R4, b4⟩; have HF := Lib.hid (show Below w.heap.size w w4 from HB.out.trans (b4.mono HB.out.size)); have HO4 := Lib.hid (own_low R4 HB.out.size); clear b4 R4)
      go_ret
      exact ⟨_, _, _, rfl, HO4.out, HF.out⟩
set_option maxHeartbeats 4000000 in
theorem pwide_high (HSC : SortC) (A : Option Addr) (N c : Nat) (a : SpL) (k : Int) (w : World) (R : Spn w A N c a) (hN : N ≤ 1000) (k0 : 3652060 < k) : Calls Try.prog 18 #[.slice A N c, .int .i64 k] w (RetSpn 37 w (twoL 0 (widenL 3652060 (twoL 0 a [])) [])) := by
  have K1 := Lib.hid (of_max HSC A N c a w R (by omega))
  have HSC1 := Lib.hid HSC
  have HL := Lib.hid (show (twoL 0 a []).length ≤ 2000 by have := two_len 0 a []; have := R.count; simp at *; omega)
  have HI := Lib.hid (two_spec 0 a []).1
  clear R HSC
  generalize twoL 0 a [] = l at *
  go_enter Try.func18, Try.ntmps18
  go_wp2_with (go_at_call 12; refine K1.out.mono ?_; rintro e w1 ⟨E1, n, c1, rfl, R1, b1⟩; have HC := Lib.hid (Spn.count (own_lies R1)); have hn : n ≤ 2000 := (by have := HC.out; have := HL.out; omega); have HB1 := Lib.hid b1; have HR1 := Lib.hid R1; clear K1 b1 R1)
  go_loopw [14] (fun t wr => ∃ (i : Nat), t = .int .i64 (i : Int) ∧ i ≤ n ∧ wr.ownsRow w.heap.size 37 2 (.slice E1 n c1) n (cells2 (halfW 3652060 l i)) ∧ Below w.heap.size w wr) (fun t _ => (n - intOf t).toNat)
  case atStart => exact ⟨0, rfl, by omega, by rw [halfW_0]; exact HR1.out, HB1.out⟩
  case round =>
    obtain ⟨i, rfl, hi, hown, hb⟩ := hrel
    have HB := Lib.hid hb
    clear hb
    by_cases hlt : i < n
    · obtain ⟨s, hs⟩ : ∃ s, l[i]? = some s := ⟨_, List.getElem?_eq_getElem (by rw [HC.out]; exact hlt)⟩
      obtain ⟨x, y⟩ := s
      have hm := List.mem_of_getElem? hs
      have hy1 : y ≤ 3652060 := (HI.out.2 _ hm).2
      have hx1 : 1 ≤ x := (HI.out.2 _ hm).1
      have hxy : x < y := HI.out.1.1 _ hm
      rcases Joins.ownsRow_forms hown with ⟨_, h0⟩ | ⟨g3, d3, hv⟩
      · omega
      · injection hv with e1 _ e3
        subst e1 e3
        have HOB := own_ge hown g3 rfl
        have c4 : wr.cell? ⟨g3, i * 2 + 1, none⟩ = some (.int .i64 y) := by rw [hown.cellAt _ (by omega)]; exact cells2_1 (halfW_at hs)
        have f4 : wr.frozen? ⟨g3, i * 2 + 1, none⟩ = false := hown.frozenAt _
        have HST := hown.stored (i * 2 + 1) (.int .i64 (y + 3652060))
        have HO2 := Lib.hid (show (wr.setCell ⟨g3, i * 2 + 1, none⟩ (.int .i64 (y + 3652060))).ownsRow w.heap.size 37 2 (.slice (some ⟨g3, 0, none⟩) n c1) n (cells2 (halfW 3652060 l (i + 1))) by rw [← halfW_next hs, ← cells2_set (halfW_at hs)]; exact HST.1)
        have HB2 := Lib.hid (HB.out.setCell (p := ⟨g3, i * 2 + 1, none⟩) HOB (.int .i64 (y + 3652060)))
        have a1 : IntKind.i64.wrap (y + 3652060) = y + 3652060 := IntWalk.i64_in _ (by omega)
        clear HST hown hs hm HR1
        go_wp2_with fail
        go_roundw
        case rel => exact ⟨i + 1, by go_num, by omega, by first | exact HO2.out | simpa using HO2.out, by first | exact HB2.out | simpa using HB2.out⟩
        case measure => simp [intOf]; omega
    · have hin : i = n := by omega
      have HW := Lib.hid (show halfW 3652060 l i = widenL 3652060 l from halfW_all (by rw [HC.out]; exact hin))
      have hL := own_lies hown
      rw [HW.out] at hL
      have K2 := Lib.hid (of_max HSC1.out E1 n c1 (widenL 3652060 l) wr hL (by omega))
      clear hown hL HR1
      go_wp2_with (go_at_call 12; refine K2.out.mono ?_; rintro e w4 ⟨A4, n4, c4, rfl, R4, b4⟩; have HF := Lib.hid (show Below w.heap.size w w4 from HB.out.trans (b4.mono HB.out.size)); have HO4 := Lib.hid (own_low R4 HB.out.size); clear b4 R4)
      go_ret
      exact ⟨_, _, _, rfl, HO4.out, HF.out⟩
set_option maxHeartbeats 4000000 in
theorem pwide_mid (HSC : SortC) (A : Option Addr) (N c : Nat) (a : SpL) (k : Int) (w : World) (R : Spn w A N c a) (hN : N ≤ 1000) (k0 : 0 ≤ k) (k1 : k ≤ 3652060) : Calls Try.prog 18 #[.slice A N c, .int .i64 k] w (RetSpn 37 w (twoL 0 (widenL k (twoL 0 a [])) [])) := by
  have K1 := Lib.hid (of_max HSC A N c a w R (by omega))
  have HSC1 := Lib.hid HSC
  have HL := Lib.hid (show (twoL 0 a []).length ≤ 2000 by have := two_len 0 a []; have := R.count; simp at *; omega)
  have HI := Lib.hid (two_spec 0 a []).1
  clear R HSC
  generalize twoL 0 a [] = l at *
  go_enter Try.func18, Try.ntmps18
  go_wp2_with (go_at_call 12; refine K1.out.mono ?_; rintro e w1 ⟨E1, n, c1, rfl, R1, b1⟩; have HC := Lib.hid (Spn.count (own_lies R1)); have hn : n ≤ 2000 := (by have := HC.out; have := HL.out; omega); have HB1 := Lib.hid b1; have HR1 := Lib.hid R1; clear K1 b1 R1)
  go_loopw [14] (fun t wr => ∃ (i : Nat), t = .int .i64 (i : Int) ∧ i ≤ n ∧ wr.ownsRow w.heap.size 37 2 (.slice E1 n c1) n (cells2 (halfW k l i)) ∧ Below w.heap.size w wr) (fun t _ => (n - intOf t).toNat)
  case atStart => exact ⟨0, rfl, by omega, by rw [halfW_0]; exact HR1.out, HB1.out⟩
  case round =>
    obtain ⟨i, rfl, hi, hown, hb⟩ := hrel
    have HB := Lib.hid hb
    clear hb
    by_cases hlt : i < n
    · obtain ⟨s, hs⟩ : ∃ s, l[i]? = some s := ⟨_, List.getElem?_eq_getElem (by rw [HC.out]; exact hlt)⟩
      obtain ⟨x, y⟩ := s
      have hm := List.mem_of_getElem? hs
      have hy1 : y ≤ 3652060 := (HI.out.2 _ hm).2
      have hx1 : 1 ≤ x := (HI.out.2 _ hm).1
      have hxy : x < y := HI.out.1.1 _ hm
      rcases Joins.ownsRow_forms hown with ⟨_, h0⟩ | ⟨g3, d3, hv⟩
      · omega
      · injection hv with e1 _ e3
        subst e1 e3
        have HOB := own_ge hown g3 rfl
        have c4 : wr.cell? ⟨g3, i * 2 + 1, none⟩ = some (.int .i64 y) := by rw [hown.cellAt _ (by omega)]; exact cells2_1 (halfW_at hs)
        have f4 : wr.frozen? ⟨g3, i * 2 + 1, none⟩ = false := hown.frozenAt _
        have HST := hown.stored (i * 2 + 1) (.int .i64 (y + k))
        have HO2 := Lib.hid (show (wr.setCell ⟨g3, i * 2 + 1, none⟩ (.int .i64 (y + k))).ownsRow w.heap.size 37 2 (.slice (some ⟨g3, 0, none⟩) n c1) n (cells2 (halfW k l (i + 1))) by rw [← halfW_next hs, ← cells2_set (halfW_at hs)]; exact HST.1)
        have HB2 := Lib.hid (HB.out.setCell (p := ⟨g3, i * 2 + 1, none⟩) HOB (.int .i64 (y + k)))
        have a1 : IntKind.i64.wrap (y + k) = y + k := IntWalk.i64_in _ (by omega)
        clear HST hown hs hm HR1
        go_wp2_with fail
        go_roundw
        case rel => exact ⟨i + 1, by go_num, by omega, by first | exact HO2.out | simpa using HO2.out, by first | exact HB2.out | simpa using HB2.out⟩
        case measure => simp [intOf]; omega
    · have hin : i = n := by omega
      have HW := Lib.hid (show halfW k l i = widenL k l from halfW_all (by rw [HC.out]; exact hin))
      have hL := own_lies hown
      rw [HW.out] at hL
      have K2 := Lib.hid (of_max HSC1.out E1 n c1 (widenL k l) wr hL (by omega))
      clear hown hL HR1
      go_wp2_with (go_at_call 12; refine K2.out.mono ?_; rintro e w4 ⟨A4, n4, c4, rfl, R4, b4⟩; have HF := Lib.hid (show Below w.heap.size w w4 from HB.out.trans (b4.mono HB.out.size)); have HO4 := Lib.hid (own_low R4 HB.out.size); clear b4 R4)
      go_ret
      exact ⟨_, _, _, rfl, HO4.out, HF.out⟩
theorem pwide_any (HSC : SortC) (A : Option Addr) (N c : Nat) (a : SpL) (k : Int) (w : World) (R : Spn w A N c a) (ha : a.length ≤ 1000) : Calls Try.prog 18 #[.slice A N c, .int .i64 k] w (RetSp w (wideL k a)) := by
  have hN : N ≤ 1000 := by have := R.count; omega
  suffices H : Calls Try.prog 18 #[.slice A N c, .int .i64 k] w (RetSpn 37 w (wideL k a)) from H.mono fun _ _ h => RetSp.of h
  by_cases k0 : k < 0
  · have := pwide_low HSC A N c a k w R hN k0
    rw [show wideL k a = twoL 0 (widenL 0 (twoL 0 a [])) [] by unfold wideL clampK; rw [if_pos k0]]
    exact this
  · by_cases k1 : 3652060 < k
    · have := pwide_high HSC A N c a k w R hN k1
      rw [show wideL k a = twoL 0 (widenL 3652060 (twoL 0 a [])) [] by unfold wideL clampK; rw [if_neg k0, if_pos k1]]
      exact this
    · have := pwide_mid HSC A N c a k w R hN (by omega) (by omega)
      rw [show wideL k a = twoL 0 (widenL k (twoL 0 a [])) [] by unfold wideL clampK; rw [if_neg k0, if_neg k1]]
      exact this
end Go.Proofs.Ytmolbckndkhhlaa

/- Contracts of Wide, Days of package spans, from the sort's. -/
import Derived.Test.YtmolbckndkhhlaaSpOf
import Derived.Test.YtmolbckndkhhlaaSpKit
import Derived.Test.YtmolbckndkhhlaaSp8
namespace Go.Proofs.Ytmolbckndkhhlaa
set_option maxRecDepth 8000
open Go.RowKit Corr
set_option linter.unusedVariables false
set_option linter.unusedSimpArgs false
set_option maxHeartbeats 2000000 in
theorem pdays_any (HSC : SortC) (A : Option Addr) (N c : Nat) (a : SpL) (w : World) (R : Spn w A N c a) (ha : a.length ≤ 1000) : Calls Try.prog 22 #[.slice A N c] w fun e w' => e = .returned (.int .i64 (sumDays (twoL 0 a []))) ∧ Below w.heap.size w w' := by
  have hN : N ≤ 1000 := by have := R.count; omega
  have K1 := Lib.hid (of_max HSC A N c a w R (by omega))
  have HL := Lib.hid (show (twoL 0 a []).length ≤ 2000 by have := two_len 0 a []; have := R.count; simp at *; omega)
  have HI := Lib.hid (two_spec 0 a []).1
  clear R HSC ha
  generalize twoL 0 a [] = l at *
  go_enter Try.func22, Try.ntmps22
  go_wp2_with (go_at_call 12; refine K1.out.mono ?_; rintro e w1 ⟨E1, n, c1, rfl, R1, b1⟩; have HS := Lib.hid (own_lies R1); have HC := Lib.hid (Spn.count HS.out); have hn : n ≤ 2000 := (by have := HC.out; have := HL.out; omega); have HB1 := Lib.hid b1; clear K1 b1 R1)
  go_loopw [3, 9] (fun v t wr => ∃ (i : Nat) (D : Int), v = .int .i64 D ∧ t = .int .i64 (i : Int) ∧ i ≤ n ∧ Hid (sumDays (l.take i) = D) ∧ 0 ≤ D ∧ D ≤ 4000000 * (i : Int) ∧ Below w1.heap.size w1 wr) (fun _ t _ => (n - intOf t).toNat)
  case atStart => exact ⟨0, 0, rfl, rfl, by omega, Lib.hid rfl, by omega, by omega, Below.refl _ _⟩
  case round =>
    obtain ⟨i, D, rfl, rfl, hi, HD, d0, d1, hb⟩ := hrel
    have HB := Lib.hid hb
    have hsz := hb.size
    clear hb
    by_cases hlt : i < n
    · obtain ⟨g, off, s, rfl, hs, hg, c0, c1⟩ := Spn.get (HS.out.keep HB.out) hlt
      obtain ⟨x, y⟩ := s
      have hm := List.mem_of_getElem? hs
      have h1 := (HI.out.2 _ hm)
      have h2 := HI.out.1.1 _ hm
      have HD2 := Lib.hid (show sumDays (l.take (i + 1)) = D + (y - x) by rw [sumDays_more hs, HD.out])
      have hx1 : 1 ≤ x := h1.1
      have hy1 : y ≤ 3652060 := h1.2
      have hxy : x < y := h2
      have a1 : IntKind.i64.wrap (y - x) = y - x := IntWalk.i64_in _ (by omega)
      have a2 : IntKind.i64.wrap (D + (y - x)) = D + (y - x) := IntWalk.i64_in _ (by omega)
      have HB2 := Lib.hid (HB.out.alloc hsz (.cells #[.int .i64 x, .int .i64 y] 37))
      have hD0 : 0 ≤ D + (y - x) := by omega
      have hD1 : D + (y - x) ≤ 4000000 * ((i + 1 : Nat) : Int) := by omega
      clear hs hm h1 h2 HD
      have hi2 : (i : Int) < (n : Int) := by omega
      go_wp2_with fail
      go_roundw
      case rel => exact ⟨i + 1, D + (y - x), rfl, by go_num, by omega, HD2, hD0, hD1, HB2.out⟩
      case measure => simp [intOf]; omega
    · have hin : i = n := by omega
      have HF := Lib.hid (show D = sumDays l by rw [← HD.out, List.take_of_length_le (by rw [HC.out]; omega)])
      have HB2 := Lib.hid (HB1.out.trans (HB.out.mono HB1.out.size))
      go_wp2_with fail
      go_ret
      exact ⟨ret_int HF.out, HB2.out⟩
end Go.Proofs.Ytmolbckndkhhlaa

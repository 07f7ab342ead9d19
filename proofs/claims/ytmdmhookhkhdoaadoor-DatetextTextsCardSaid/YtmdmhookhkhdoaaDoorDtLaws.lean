/- The laws of package datetext at every input, in every world where civil's table is whole. -/
import Derived.Test.YtmdmhookhkhdoaaDoorDtKnown
import Derived.Test.YtmdmhookhkhdoaaDoorDt3
namespace Go.Proofs.YtmdmhookhkhdoaaDoor
open Go.RowKit Go.PlainAid Corr
set_option linter.unusedVariables false
set_option linter.unusedSimpArgs false
theorem mkS_list (l : List UInt8) : (mkS l).data.toList = l := rfl
theorem mkS_size (l : List UInt8) : (mkS l).size = l.length := by rw [← size_len]
theorem empty_read : pdE [] = 4 ∧ pdN [] = 0 ∧ psE [] = 4 ∧ psA [] = 0 ∧ psB [] = 0 := by
  obtain ⟨a, b⟩ := pd_form (l := []) (by decide)
  obtain ⟨c, d, e⟩ := ps_form (l := []) (by decide)
  exact ⟨a, b, c, d, e⟩
/-- A text and what is read of it: none, or what it is of. -/
theorem text_read (n : Int) : ∃ s : ByteArray, mkS (dayL n) = s ∧ s.size ≤ 100 ∧ ((s.toList == []) = true ∧ pdE s.data.toList = 4 ∧ pdN s.data.toList = 0 ∨ (s.toList == []) = false ∧ pdE s.data.toList = 0 ∧ pdN s.data.toList = n) := by
  refine ⟨_, rfl, ?_⟩
  rw [Lib.toList_data, mkS_list, mkS_size]
  by_cases h : n < 1 ∨ 3652059 < n
  · rw [dayL_no h]
    exact ⟨by decide, .inl ⟨rfl, empty_read.1, empty_read.2.1⟩⟩
  · have hl := dayL_len (n := n) (by omega) (by omega)
    refine ⟨by omega, .inr ⟨?_, dayL_read (by omega) (by omega)⟩⟩
    cases hd : dayL n with
    | nil => rw [hd] at hl; cases hl
    | cons c r => rfl
theorem span_read (a b : Int) : ∃ s : ByteArray, mkS (spanL a b) = s ∧ s.size ≤ 100 ∧ ((s.toList == []) = true ∧ psE s.data.toList = 4 ∧ psA s.data.toList = 0 ∧ psB s.data.toList = 0 ∨ (s.toList == []) = false ∧ psE s.data.toList = 0 ∧ psA s.data.toList = a ∧ psB s.data.toList = b) := by
  refine ⟨_, rfl, ?_⟩
  rw [Lib.toList_data, mkS_list, mkS_size]
  by_cases h : a < 1 ∨ b ≤ a ∨ 3652060 < b
  · rw [spanL_no h]
    exact ⟨by decide, .inl ⟨rfl, empty_read.2.2⟩⟩
  · obtain ⟨hl, hr⟩ := spanL_read h
    refine ⟨by omega, .inr ⟨?_, hr⟩⟩
    cases hd : spanL a b with
    | nil => rw [hd] at hl; cases hl
    | cons c r => rfl
end Go.Proofs.YtmdmhookhkhdoaaDoor

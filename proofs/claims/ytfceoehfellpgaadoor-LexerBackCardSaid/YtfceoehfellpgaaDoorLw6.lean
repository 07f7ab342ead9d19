/- Package lexer: isKept, Name; a text's copy. -/
import Derived.Test.YtfceoehfellpgaaDoorLw5
namespace Corr
set_option maxRecDepth 8000
set_option linter.unusedVariables false
open Go Go.RowKit Go.PlainAid
/-- A name, by what stands ahead of a text. -/
theorem name_by {s : ByteArray} : nameB s = (decide (0 < s.size) && (decide (s.size ≤ 12) && (decide (nameE s = s.size) && !keptB s.data.toList))) := by
  unfold nameB
  by_cases h0 : 0 < s.size
  · rw [decide_eq_true h0]
    by_cases h1 : s.size ≤ 12
    · rw [decide_eq_true h1]
      cases q : smallB (bt s 0) with
      | true =>
        have h2 := (nameE_some h0 q).1
        rw [endN_small q] at h2
        rw [h2]
        cases keptB s.data.toList <;> simp
      | false =>
        have h2 := nameE_none h0 q
        have : ¬ nameE s = s.size := by omega
        rw [decide_eq_false this]; simp
    · rw [decide_eq_false h1]; simp
  · rw [decide_eq_false h0]; simp
theorem name_eq {s : ByteArray} : ((s.extract 0 (nameE s)).toList == s.toList) = decide (nameE s = s.size) := by
  have h := ext_size (t := s) nameE_le
  rw [Lib.toList_data, Lib.toList_data, Bool.eq_iff_iff]
  simp only [beq_iff_eq, decide_eq_true_eq]
  constructor
  · intro e
    have := congrArg List.length e
    rw [size_len, size_len, h] at this
    exact this
  · intro e
    rw [e, ByteArray.data_extract, Array.toList_extract, List.extract_eq_take_drop, List.drop_zero, List.take_of_length_le (by rw [size_len]; omega)]
end Corr
namespace Go.Proofs.YtfceoehfellpgaaDoor
set_option maxRecDepth 8000
open Go.RowKit Go.PlainAid Corr
set_option linter.unusedVariables false
set_option linter.unusedSimpArgs false
theorem lwkept_any (s : ByteArray) (w : World) : Calls Tryd.prog 24 #[.string s] w fun e w' => e = .returned (.bool (keptB s.data.toList)) ∧ w' = w := by
  by_cases h0 : s.data.toList = [116, 114, 117, 101]
  · have d0 : (s.toList == [116, 114, 117, 101]) = true := by rw [Lib.toList_data]; simpa using h0
    have HB := Lib.hid (show true = keptB s.data.toList by rw [h0]; decide)
    clear h0
    go_enter Tryd.func24, Tryd.ntmps24
    go_wp2_with fail
    go_ret
    exact ⟨by rw [← HB.out]; rfl, rfl⟩
  have d0 : (s.toList == [116, 114, 117, 101]) = false := by rw [Lib.toList_data]; simpa using h0
  by_cases h1 : s.data.toList = [102, 97, 108, 115, 101]
  · have d1 : (s.toList == [102, 97, 108, 115, 101]) = true := by rw [Lib.toList_data]; simpa using h1
    have HB := Lib.hid (show true = keptB s.data.toList by rw [h1]; decide)
    clear h0 h1
    go_enter Tryd.func24, Tryd.ntmps24
    go_wp2_with fail
    go_ret
    exact ⟨by rw [← HB.out]; rfl, rfl⟩
  have d1 : (s.toList == [102, 97, 108, 115, 101]) = false := by rw [Lib.toList_data]; simpa using h1
  by_cases h2 : s.data.toList = [97, 110, 100]
  · have d2 : (s.toList == [97, 110, 100]) = true := by rw [Lib.toList_data]; simpa using h2
    have HB := Lib.hid (show true = keptB s.data.toList by rw [h2]; decide)
    clear h0 h1 h2
    go_enter Tryd.func24, Tryd.ntmps24
    go_wp2_with fail
    go_ret
    exact ⟨by rw [← HB.out]; rfl, rfl⟩
  have d2 : (s.toList == [97, 110, 100]) = false := by rw [Lib.toList_data]; simpa using h2
  by_cases h3 : s.data.toList = [111, 114]
  · have d3 : (s.toList == [111, 114]) = true := by rw [Lib.toList_data]; simpa using h3
    have HB := Lib.hid (show true = keptB s.data.toList by rw [h3]; decide)
    clear h0 h1 h2 h3
    go_enter Tryd.func24, Tryd.ntmps24
    go_wp2_with fail
    go_ret
    exact ⟨by rw [← HB.out]; rfl, rfl⟩
  have d3 : (s.toList == [111, 114]) = false := by rw [Lib.toList_data]; simpa using h3
  by_cases h4 : s.data.toList = [110, 111, 116]
  · have d4 : (s.toList == [110, 111, 116]) = true := by rw [Lib.toList_data]; simpa using h4
    have HB := Lib.hid (show true = keptB s.data.toList by rw [h4]; decide)
    clear h0 h1 h2 h3 h4
    go_enter Tryd.func24, Tryd.ntmps24
    go_wp2_with fail
    go_ret
    exact ⟨by rw [← HB.out]; rfl, rfl⟩
  have d4 : (s.toList == [110, 111, 116]) = false := by rw [Lib.toList_data]; simpa using h4
  by_cases h5 : s.data.toList = [105, 102]
  · have d5 : (s.toList == [105, 102]) = true := by rw [Lib.toList_data]; simpa using h5
    have HB := Lib.hid (show true = keptB s.data.toList by rw [h5]; decide)
    clear h0 h1 h2 h3 h4 h5
    go_enter Tryd.func24, Tryd.ntmps24
    go_wp2_with fail
    go_ret
    exact ⟨by rw [← HB.out]; rfl, rfl⟩
  have d5 : (s.toList == [105, 102]) = false := by rw [Lib.toList_data]; simpa using h5
  by_cases h6 : s.data.toList = [109, 105, 110]
  · have d6 : (s.toList == [109, 105, 110]) = true := by rw [Lib.toList_data]; simpa using h6
    have HB := Lib.hid (show true = keptB s.data.toList by rw [h6]; decide)
    clear h0 h1 h2 h3 h4 h5 h6
    go_enter Tryd.func24, Tryd.ntmps24
    go_wp2_with fail
    go_ret
    exact ⟨by rw [← HB.out]; rfl, rfl⟩
  have d6 : (s.toList == [109, 105, 110]) = false := by rw [Lib.toList_data]; simpa using h6
  by_cases h7 : s.data.toList = [109, 97, 120]
  · have d7 : (s.toList == [109, 97, 120]) = true := by rw [Lib.toList_data]; simpa using h7
    have HB := Lib.hid (show true = keptB s.data.toList by rw [h7]; decide)
    clear h0 h1 h2 h3 h4 h5 h6 h7
    go_enter Tryd.func24, Tryd.ntmps24
    go_wp2_with fail
    go_ret
    exact ⟨by rw [← HB.out]; rfl, rfl⟩
  have d7 : (s.toList == [109, 97, 120]) = false := by rw [Lib.toList_data]; simpa using h7
  by_cases h8 : s.data.toList = [97, 98, 115]
  · have d8 : (s.toList == [97, 98, 115]) = true := by rw [Lib.toList_data]; simpa using h8
    have HB := Lib.hid (show true = keptB s.data.toList by rw [h8]; decide)
    clear h0 h1 h2 h3 h4 h5 h6 h7 h8
    go_enter Tryd.func24, Tryd.ntmps24
    go_wp2_with fail
    go_ret
    exact ⟨by rw [← HB.out]; rfl, rfl⟩
  have d8 : (s.toList == [97, 98, 115]) = false := by rw [Lib.toList_data]; simpa using h8
  by_cases h9 : s.data.toList = [114, 111, 117, 110, 100]
  · have d9 : (s.toList == [114, 111, 117, 110, 100]) = true := by rw [Lib.toList_data]; simpa using h9
    have HB := Lib.hid (show true = keptB s.data.toList by rw [h9]; decide)
    clear h0 h1 h2 h3 h4 h5 h6 h7 h8 h9
    go_enter Tryd.func24, Tryd.ntmps24
    go_wp2_with fail
    go_ret
    exact ⟨by rw [← HB.out]; rfl, rfl⟩
  have d9 : (s.toList == [114, 111, 117, 110, 100]) = false := by rw [Lib.toList_data]; simpa using h9
  by_cases h10 : s.data.toList = [104, 97, 115]
  · have d10 : (s.toList == [104, 97, 115]) = true := by rw [Lib.toList_data]; simpa using h10
    have HB := Lib.hid (show true = keptB s.data.toList by rw [h10]; decide)
    clear h0 h1 h2 h3 h4 h5 h6 h7 h8 h9 h10
    go_enter Tryd.func24, Tryd.ntmps24
    go_wp2_with fail
    go_ret
    exact ⟨by rw [← HB.out]; rfl, rfl⟩
  have d10 : (s.toList == [104, 97, 115]) = false := by rw [Lib.toList_data]; simpa using h10
  by_cases h11 : s.data.toList = [111, 114, 101, 108, 115, 101]
  · have d11 : (s.toList == [111, 114, 101, 108, 115, 101]) = true := by rw [Lib.toList_data]; simpa using h11
    have HB := Lib.hid (show true = keptB s.data.toList by rw [h11]; decide)
    clear h0 h1 h2 h3 h4 h5 h6 h7 h8 h9 h10 h11
    go_enter Tryd.func24, Tryd.ntmps24
    go_wp2_with fail
    go_ret
    exact ⟨by rw [← HB.out]; rfl, rfl⟩
  have d11 : (s.toList == [111, 114, 101, 108, 115, 101]) = false := by rw [Lib.toList_data]; simpa using h11
  by_cases h12 : s.data.toList = [108, 97, 103]
  · have d12 : (s.toList == [108, 97, 103]) = true := by rw [Lib.toList_data]; simpa using h12
    have HB := Lib.hid (show true = keptB s.data.toList by rw [h12]; decide)
    clear h0 h1 h2 h3 h4 h5 h6 h7 h8 h9 h10 h11 h12
    go_enter Tryd.func24, Tryd.ntmps24
    go_wp2_with fail
    go_ret
    exact ⟨by rw [← HB.out]; rfl, rfl⟩
  have d12 : (s.toList == [108, 97, 103]) = false := by rw [Lib.toList_data]; simpa using h12
  by_cases h13 : s.data.toList = [108, 101, 97, 115, 116]
  · have d13 : (s.toList == [108, 101, 97, 115, 116]) = true := by rw [Lib.toList_data]; simpa using h13
    have HB := Lib.hid (show true = keptB s.data.toList by rw [h13]; decide)
    clear h0 h1 h2 h3 h4 h5 h6 h7 h8 h9 h10 h11 h12 h13
    go_enter Tryd.func24, Tryd.ntmps24
    go_wp2_with fail
    go_ret
    exact ⟨by rw [← HB.out]; rfl, rfl⟩
  have d13 : (s.toList == [108, 101, 97, 115, 116]) = false := by rw [Lib.toList_data]; simpa using h13
  by_cases h14 : s.data.toList = [109, 111, 115, 116]
  · have d14 : (s.toList == [109, 111, 115, 116]) = true := by rw [Lib.toList_data]; simpa using h14
    have HB := Lib.hid (show true = keptB s.data.toList by rw [h14]; decide)
    clear h0 h1 h2 h3 h4 h5 h6 h7 h8 h9 h10 h11 h12 h13 h14
    go_enter Tryd.func24, Tryd.ntmps24
    go_wp2_with fail
    go_ret
    exact ⟨by rw [← HB.out]; rfl, rfl⟩
  have d14 : (s.toList == [109, 111, 115, 116]) = false := by rw [Lib.toList_data]; simpa using h14
  by_cases h15 : s.data.toList = [97, 110, 121]
  · have d15 : (s.toList == [97, 110, 121]) = true := by rw [Lib.toList_data]; simpa using h15
    have HB := Lib.hid (show true = keptB s.data.toList by rw [h15]; decide)
    clear h0 h1 h2 h3 h4 h5 h6 h7 h8 h9 h10 h11 h12 h13 h14 h15
    go_enter Tryd.func24, Tryd.ntmps24
    go_wp2_with fail
    go_ret
    exact ⟨by rw [← HB.out]; rfl, rfl⟩
  have d15 : (s.toList == [97, 110, 121]) = false := by rw [Lib.toList_data]; simpa using h15
  by_cases h16 : s.data.toList = [101, 118, 101, 114, 121]
  · have d16 : (s.toList == [101, 118, 101, 114, 121]) = true := by rw [Lib.toList_data]; simpa using h16
    have HB := Lib.hid (show true = keptB s.data.toList by rw [h16]; decide)
    clear h0 h1 h2 h3 h4 h5 h6 h7 h8 h9 h10 h11 h12 h13 h14 h15 h16
    go_enter Tryd.func24, Tryd.ntmps24
    go_wp2_with fail
    go_ret
    exact ⟨by rw [← HB.out]; rfl, rfl⟩
  have d16 : (s.toList == [101, 118, 101, 114, 121]) = false := by rw [Lib.toList_data]; simpa using h16
  have HB := Lib.hid (show false = keptB s.data.toList by unfold keptB keptL; simp [h0, h1, h2, h3, h4, h5, h6, h7, h8, h9, h10, h11, h12, h13, h14, h15, h16])
  clear h0 h1 h2 h3 h4 h5 h6 h7 h8 h9 h10 h11 h12 h13 h14 h15 h16
  go_enter Tryd.func24, Tryd.ntmps24
  go_wp2_with fail
  go_ret
  exact ⟨by rw [← HB.out]; rfl, rfl⟩
theorem lwclone_any (s : ByteArray) (w : World) (hs : s.size ≤ 4000000) : Calls Tryd.prog 9 #[.string s] w fun e w' => e = .returned (.string s) ∧ Below w.heap.size w w' := by
  have HC := Lib.hid (Tryd.lw_stringslite_Clone s w (by omega))
  go_enter Tryd.func9, Tryd.ntmps9
  go_wp2_with fail
  refine HC.out.mono ?_
  rintro e w1 ⟨rfl, hb⟩
  have HB := Lib.hid hb
  clear hb
  go_wp2_with fail
  go_ret
  exact ⟨rfl, HB.out⟩
theorem lwname0_any (s : ByteArray) (w : World) (hs : s.size ≤ 4000000) : Calls Tryd.prog 8 #[.string s] w fun e w' => e = .returned (.bool (nameB s)) ∧ Below w.heap.size w w' := by
  have HN := Lib.hid (fun w => lwname_any s w hs)
  have HK := Lib.hid (fun w => lwkept_any s w)
  have HB := Lib.hid (name_by (s := s))
  have hE := name_eq (s := s)
  have tS := size_tests s
  generalize s.extract 0 (nameE s) = A at *
  generalize decide (nameE s = s.size) = y at *
  generalize keptB s.data.toList = z at *
  by_cases h0 : s.size = 0
  · have d1 : s.toList.isEmpty = true := by rw [tS]; exact decide_eq_true h0
    have HF := Lib.hid (show nameB s = false by rw [HB.out, decide_eq_false (by omega)]; rfl)
    clear h0 tS hE
    go_enter Tryd.func8, Tryd.ntmps8
    go_wp2_with fail
    go_ret
    exact ⟨by rw [HF.out]; rfl, Below.refl _ _⟩
  have d1 : s.toList.isEmpty = false := by rw [tS]; exact decide_eq_false h0
  by_cases h12 : s.size ≤ 12
  · have d2 : decide ((s.size : Int) ≤ 12) = true := decide_eq_true (by omega)
    have HF := Lib.hid (show nameB s = (y && !z) by rw [HB.out, decide_eq_true (by omega), decide_eq_true h12]; rfl)
    clear h0 h12 tS HB
    go_enter Tryd.func8, Tryd.ntmps8
    go_wp2_with fail
    refine (HN.out _).mono ?_
    rintro e w1 ⟨rfl, hb⟩
    have HL := Lib.hid hb
    clear hb
    cases y with
    | false =>
      go_wp2_with fail
      go_ret
      exact ⟨by rw [HF.out]; rfl, HL.out⟩
    | true =>
      go_wp2_with fail
      refine (HK.out _).mono ?_
      rintro e w' ⟨rfl, hw⟩
      obtain rfl := hw.symm
      go_wp2_with fail
      go_ret
      exact ⟨by rw [HF.out]; rfl, HL.out⟩
  · have d2 : decide ((s.size : Int) ≤ 12) = false := decide_eq_false (by omega)
    have HF := Lib.hid (show nameB s = false by rw [HB.out, decide_eq_true (by omega), decide_eq_false h12]; rfl)
    clear h0 h12 tS hE
    go_enter Tryd.func8, Tryd.ntmps8
    go_wp2_with fail
    go_ret
    exact ⟨by rw [HF.out]; rfl, Below.refl _ _⟩
end Go.Proofs.YtfceoehfellpgaaDoor

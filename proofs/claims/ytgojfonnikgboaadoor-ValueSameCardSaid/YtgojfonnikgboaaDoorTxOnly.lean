/- What follows of a text that is read: its number has that text; with a sign more, a nought ahead, a blank behind it is none. No walk in this text. -/
import Derived.Test.YtgojfonnikgboaaDoorTxScan
import Derived.Test.YtgojfonnikgboaaDoorTxPut
namespace Corr
open Go
set_option linter.unusedSimpArgs false
set_option linter.unusedVariables false
theorem pE_ok {l : List UInt8} (h : pE l = 0) : l.length ≤ 21 ∧ pOk l = true ∧ -9223372036854775808 ≤ pV l ∧ pV l ≤ 9223372036854775807 := by
  unfold pE at h
  by_cases h1 : 21 < l.length
  · rw [if_pos h1] at h; cases h
  · rw [if_neg h1] at h
    by_cases h2 : pOk l = true
    · rw [if_pos h2] at h
      by_cases h3 : fitsI (pV l) = true
      · unfold fitsI at h3; simp at h3
        exact ⟨by omega, h2, h3.1, h3.2⟩
      · rw [if_neg h3] at h; cases h
    · rw [if_neg h2] at h; cases h
theorem pE_no {l : List UInt8} (h : pOk l = false) : pE l ≠ 0 := fun e => by
  have := (pE_ok e).2.1
  rw [h] at this; cases this
/-- The number of a text that is read: its text is that text. -/
theorem only_text {l : List UInt8} (h : pE l = 0) : -9223372036854775808 ≤ pC l ∧ pC l ≤ 9223372036854775807 ∧ pS l ≤ 9 ∧ mC (nine (pC l) (pS l)) 9 = pC l ∧ mS (nine (pC l) (pS l)) 9 = pS l ∧ txt (pC l) (pS l) = l := by
  obtain ⟨h1, h2, h3, h4⟩ := pE_ok h
  have hF := ok_form h2
  have hp := pl_dig hF.2.2.1
  have e1 : pC l = pV l := by unfold pC; rw [if_pos h]
  have e2 : pS l = (pP l).length := by unfold pS; rw [if_pos h]
  have hc := form_canon hF
  have hv : fval (pN l) (pW l) (pP l) = pV l := rfl
  rw [hv] at hc
  rw [e1, e2]
  obtain ⟨m1, m2, _⟩ := put_canon h3 h4 hp.2 hc
  refine ⟨h3, h4, hp.2, m1, m2, ?_⟩
  have := txt_form hF
  rwa [hv] at this
theorem no_zero {l : List UInt8} (h : pE l ≠ 0) : pC l = 0 ∧ pS l = 0 := by
  unfold pC pS; rw [if_neg h, if_neg h]; exact ⟨rfl, rfl⟩
theorem plus_bad (l : List UInt8) : pE (43 :: l) ≠ 0 := by
  refine pE_no ?_
  rw [← Bool.not_eq_true]
  intro e
  have h1 : (43 : UInt8) ∈ pB (43 :: l) := by
    unfold pB
    rw [show pN (43 :: l) = false from rfl]
    simp
  rcases form_bytes e 43 h1 with h2 | h2
  · exact (dig_ne h2).2.2.1 rfl
  · revert h2; decide
theorem blank_bad {l : List UInt8} (h : pE l = 0) : pE (l ++ [32]) ≠ 0 := by
  refine pE_no ?_
  rw [← Bool.not_eq_true]
  intro e
  obtain ⟨_, h2, _⟩ := pE_ok h
  obtain ⟨he, hw, _⟩ := ok_form h2
  have hne : l ≠ [] := by
    intro e0
    rw [e0] at he
    have h3 := congrArg List.length he
    obtain ⟨_, hwn, _⟩ := isWh_parts hw
    have : 0 < (pW l).length := by cases hx : pW l with | nil => exact absurd hx hwn | cons _ _ => simp
    rw [e0] at this
    simp at h3
    omega
  have h1 : (32 : UInt8) ∈ pB (l ++ [32]) := by
    unfold pB
    cases l with
    | nil => exact absurd rfl hne
    | cons x t =>
      by_cases hn : pN (x :: t ++ [32]) = true
      · rw [if_pos hn]; simp
      · rw [if_neg hn]; simp
  rcases form_bytes e 32 h1 with h2 | h2
  · exact (dig_ne h2).2.2.2 rfl
  · revert h2; decide
theorem nought_bad {l : List UInt8} (h : pE l = 0) : pE (48 :: l) ≠ 0 := by
  refine pE_no ?_
  rw [← Bool.not_eq_true]
  intro e
  obtain ⟨_, h2, _⟩ := pE_ok h
  obtain ⟨he, hw, hp, _⟩ := ok_form h2
  obtain ⟨hwd, hwne, _⟩ := isWh_parts hw
  have hb := form_body e
  have hb0 : pB (48 :: l) = 48 :: l := rfl
  rw [hb0] at hb
  obtain ⟨_, hw2, _, _⟩ := ok_form e
  cases hn : pN l with
  | true =>
    have h1 : (45 : UInt8) ∈ pB (48 :: l) := by rw [hb0, he, hn]; simp [sgnT]
    rcases form_bytes e 45 h1 with h3 | h3
    · exact (dig_ne h3).1 rfl
    · revert h3; decide
  | false =>
    rw [hn] at he
    have hl : l = pW l ++ ptT (pP l) := by simpa [sgnT] using he
    have hd48 : allD (48 :: pW l) = true := by
      have : allD [48] = true := by decide
      exact allD_append.2 ⟨this, hwd⟩
    have hW : pW (48 :: l) = 48 :: pW l := by
      have ht : Lib.trimPrefix (48 :: l) [45] = (48 :: pW l) ++ ptT (pP l) := by
        have h5 := trim_sgn (t := 48 :: l) false (fun _ => by simp)
        have h6 : Lib.trimPrefix (48 :: l) [45] = 48 :: l := h5
        rw [h6, List.cons_append, ← hl]
      show (Lib.cut (Lib.trimPrefix (48 :: l) [45]) [46]).1 = _
      rw [ht]
      by_cases hp0 : pP l = []
      · rw [hp0, show ptT [] = [] from rfl, List.append_nil, cut_no (allD_no hd48)]
      · unfold ptT
        rw [if_neg hp0, cut_at _ (allD_no hd48)]
    rw [hW, isWh_long hwne] at hw2
    cases hw2
end Corr

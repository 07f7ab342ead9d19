/- A day's number has one date; the calendar's plain facts. No program in this text. -/
import Derived.Test.YtmdmhookhkhdoaaDoorCiv3
namespace Corr
open Go
theorem cum_le_year {y m d : Int} (h1 : 1 ≤ d) (h : d ≤ lenI y m) : cumI y (m.toNat - 1) + d ≤ (if leapB y = true then 366 else 365) := by
  obtain ⟨y1, y2, m1, m2⟩ := lenI_pos (show 1 ≤ lenI y m by omega)
  have h2 : cumI y (m.toNat - 1 + 1) = cumI y (m.toNat - 1) + lenI y m := by
    rw [cumI, show (((m.toNat - 1 : Nat) : Int) + 1) = m by omega]
  have h3 := cumI_mono y (show m.toNat - 1 + 1 ≤ 12 by omega)
  rw [cumI_12 y1 y2] at h3
  omega
theorem dby_year {y : Int} (y1 : 1 ≤ y) : dby y.toNat = dby (y.toNat - 1) + (if leapB y = true then 366 else 365) := by
  have h := dby_step (y.toNat - 1)
  rw [show y.toNat - 1 + 1 = y.toNat by omega, show (((y.toNat - 1 : Nat) : Int) + 1) = y by omega] at h
  exact h
theorem date_year {n y m d y' m' d' : Int} (h : dateOf n y m d) (h' : dateOf n y' m' d') : ¬ y < y' := by
  intro hlt
  obtain ⟨a1, a2, a3⟩ := h
  obtain ⟨b1, b2, b3⟩ := h'
  obtain ⟨y1, y2, m1, m2⟩ := lenI_pos (show 1 ≤ lenI y m by omega)
  have c1 := cum_le_year a1 a2
  have c2 := dby_year y1
  have c3 := dby_mono (show y.toNat ≤ y'.toNat - 1 by omega)
  have c4 := cumI_bd y' (m'.toNat - 1)
  omega
theorem date_month {n y m d m' d' : Int} (h : dateOf n y m d) (h' : dateOf n y m' d') : ¬ m < m' := by
  intro hlt
  obtain ⟨a1, a2, a3⟩ := h
  obtain ⟨b1, b2, b3⟩ := h'
  obtain ⟨y1, y2, m1, m2⟩ := lenI_pos (show 1 ≤ lenI y m by omega)
  have h2 : cumI y (m.toNat - 1 + 1) = cumI y (m.toNat - 1) + lenI y m := by
    rw [cumI, show (((m.toNat - 1 : Nat) : Int) + 1) = m by omega]
  have h3 := cumI_mono y (show m.toNat - 1 + 1 ≤ m'.toNat - 1 by omega)
  omega
/-- One date a number. -/
theorem date_one {n y m d y' m' d' : Int} (h : dateOf n y m d) (h' : dateOf n y' m' d') : y = y' ∧ m = m' ∧ d = d' := by
  have e1 : y = y' := by have := date_year h h'; have := date_year h' h; omega
  subst e1
  have e2 : m = m' := by have := date_month h h'; have := date_month h' h; omega
  subst e2
  exact ⟨rfl, rfl, by have := h.2.2; have := h'.2.2; omega⟩
/-- A date's number lies from 1 to the last one. -/
theorem date_in {n y m d : Int} (h : dateOf n y m d) : 1 ≤ n ∧ n ≤ 3652059 := by
  obtain ⟨a1, a2, a3⟩ := h
  obtain ⟨y1, y2, m1, m2⟩ := lenI_pos (show 1 ≤ lenI y m by omega)
  have c1 := cum_le_year a1 a2
  have c2 := dby_year y1
  have c3 := dby_mono (show y.toNat ≤ 9999 by omega)
  have c4 := cumI_bd y (m.toNat - 1)
  have c5 := dby_mono (show 0 ≤ y.toNat - 1 by omega)
  have c6 := dby_last
  have c7 : dby 0 = 0 := rfl
  omega
/-- The next day's date. -/
theorem date_next {n y m d : Int} (h : dateOf n y m d) : (d < lenI y m → dateOf (n + 1) y m (d + 1)) ∧ (d = lenI y m → m < 12 → dateOf (n + 1) y (m + 1) 1) ∧ (d = lenI y m → m = 12 → y < 9999 → dateOf (n + 1) (y + 1) 1 1) := by
  obtain ⟨a1, a2, a3⟩ := h
  obtain ⟨y1, y2, m1, m2⟩ := lenI_pos (show 1 ≤ lenI y m by omega)
  have h2 : cumI y (m.toNat - 1 + 1) = cumI y (m.toNat - 1) + lenI y m := by
    rw [cumI, show (((m.toNat - 1 : Nat) : Int) + 1) = m by omega]
  refine ⟨fun h => ⟨by omega, by omega, by omega⟩, fun h hm => ⟨by omega, ?_, ?_⟩, fun h hm hy => ⟨by omega, ?_, ?_⟩⟩
  · have hb := lenI_bd y (m + 1)
    unfold lenI
    rw [if_neg (by omega)]
    repeat' split
    all_goals omega
  · rw [show (m + 1).toNat - 1 = m.toNat - 1 + 1 by omega, h2]; omega
  · rw [lenI_1 (by omega) (by omega) (.inl rfl)]; omega
  · have c2 := dby_year y1
    have c3 := cumI_12 y1 y2
    rw [show (y + 1).toNat - 1 = y.toNat by omega, c2]
    show _ + 0 + 1 = _
    rw [show m.toNat - 1 + 1 = 12 by omega] at h2
    omega
theorem step_at {f : Nat → Int} {n : Int} (h0 : f 0 < n) : ∀ k, n ≤ f k → ∃ j, j < k ∧ f j < n ∧ n ≤ f (j + 1)
  | 0, h => absurd h0 (by omega)
  | k + 1, h => by
    by_cases hk : n ≤ f k
    · obtain ⟨j, h1, h2⟩ := step_at h0 k hk
      exact ⟨j, by omega, h2⟩
    · exact ⟨k, by omega, by omega, h⟩
/-- Each number from 1 to the last one has a date. -/
theorem date_is {n : Int} (h1 : 1 ≤ n) (h2 : n ≤ 3652059) : ∃ y m d, dateOf n y m d := by
  obtain ⟨j, hj, a1, a2⟩ := step_at (f := dby) (n := n) (by show (0 : Int) < n; omega) 9999 (by rw [dby_last]; exact h2)
  rw [dby_step] at a2
  have e := cumI_12 (y := (j : Int) + 1) (by omega) (by omega)
  obtain ⟨i, hi, b1, b2⟩ := step_at (f := cumI ((j : Int) + 1)) (n := n - dby j) (by show (0 : Int) < _; omega) 12 (by rw [e]; omega)
  refine ⟨(j : Int) + 1, (i : Int) + 1, n - dby j - cumI ((j : Int) + 1) i, by omega, ?_, ?_⟩
  · rw [cumI] at b2; omega
  · rw [show ((j : Int) + 1).toNat - 1 = j by omega, show ((i : Int) + 1).toNat - 1 = i by omega]; omega
/-- Dates' order is their numbers'. -/
theorem date_lt {n y m d n' y' m' d' : Int} (h : dateOf n y m d) (h' : dateOf n' y' m' d') (hlt : 12 * y + m < 12 * y' + m') : n < n' := by
  obtain ⟨a1, a2, a3⟩ := h
  obtain ⟨b1, b2, b3⟩ := h'
  obtain ⟨y1, y2, m1, m2⟩ := lenI_pos (show 1 ≤ lenI y m by omega)
  obtain ⟨z1, z2, k1, k2⟩ := lenI_pos (show 1 ≤ lenI y' m' by omega)
  by_cases hy : y = y'
  · subst hy
    have h2 : cumI y (m.toNat - 1 + 1) = cumI y (m.toNat - 1) + lenI y m := by
      rw [cumI, show (((m.toNat - 1 : Nat) : Int) + 1) = m by omega]
    have h3 := cumI_mono y (show m.toNat - 1 + 1 ≤ m'.toNat - 1 by omega)
    omega
  · have c1 := cum_le_year a1 a2
    have c2 := dby_year y1
    have c3 := dby_mono (show y.toNat ≤ y'.toNat - 1 by omega)
    have c4 := cumI_bd y' (m'.toNat - 1)
    omega
end Corr

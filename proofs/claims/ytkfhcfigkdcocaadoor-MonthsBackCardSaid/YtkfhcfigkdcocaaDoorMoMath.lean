/- Months as plain arithmetic: the day of a number in a month, its date, its order; the whole months between two days. No program in this text. -/
import Derived.Test.YtkfhcfigkdcocaaDoorMon2
namespace Corr
open Go
/-- Dates' order is their numbers'. -/
theorem date_lt {n y m d n' y' m' d' : Int} (h : dateOf n y m d) (h' : dateOf n' y' m' d') (hlt : 12 * y + m < 12 * y' + m') : n < n' := by
  obtain ⟨a1, a2, a3⟩ := h
  obtain ⟨b1, b2, b3⟩ := h'
  obtain ⟨y1, y2, m1, m2⟩ := lenI_pos (show 1 ≤ lenI y m by omega)
  obtain ⟨z1, z2, k1, k2⟩ := lenI_pos (show 1 ≤ lenI y' m' by omega)
  by_cases hy : y = y'
  · subst hy
    have h2 : cumI y (m.toNat - 1 + 1) = cumI y (m.toNat - 1) + lenI y m := by
      rw [cumI, show (((m.toNat - 1 : Nat) : Int) + 1) = m by omega]
    have h3 := cumI_mono y (show m.toNat - 1 + 1 ≤ m'.toNat - 1 by omega)
    omega
  · have c1 := cum_le_year a1 a2
    have c2 := dby_year y1
    have c3 := dby_mono (show y.toNat ≤ y'.toNat - 1 by omega)
    have c4 := cumI_bd y' (m'.toNat - 1)
    omega
/-- Which month's day is told: that month's. -/
theorem monV_in {T d : Int} (h1 : 12 ≤ T) (h2 : T ≤ 119999) : (monV T d).2 = true := by
  unfold monV
  rw [if_neg]
  have := lenI_bd (T / 12) (T % 12 + 1)
  unfold lenI
  rw [if_neg (by omega)]
  repeat' split
  all_goals omega
theorem monV_out {T d : Int} (h : T < 12 ∨ 119999 < T) : monV T d = (0, false) := by
  unfold monV
  rw [if_pos (lenI_out (by omega))]
theorem monV_bd {T d : Int} (h : (monV T d).2 = true) : 12 ≤ T ∧ T ≤ 119999 := by
  rcases Int.lt_or_le T 12 with h1 | h1
  · rw [monV_out (.inl h1)] at h; cases h
  · rcases Int.lt_or_le 119999 T with h2 | h2
    · rw [monV_out (.inr h2)] at h; cases h
    · exact ⟨h1, h2⟩
theorem monV_date {T d : Int} (h : (monV T d).2 = true) (hd : 1 ≤ d) : dateOf (monV T d).1 (T / 12) (T % 12 + 1) (if lenI (T / 12) (T % 12 + 1) < d then lenI (T / 12) (T % 12 + 1) else d) := by
  have hb := lenI_bd (T / 12) (T % 12 + 1)
  by_cases h0 : lenI (T / 12) (T % 12 + 1) = 0
  · unfold monV at h; rw [if_pos h0] at h; cases h
  · refine ⟨by split <;> omega, by split <;> omega, ?_⟩
    unfold monV
    rw [if_neg h0]
theorem monV_lt {T T' d d' : Int} (h : (monV T d).2 = true) (h' : (monV T' d').2 = true) (hd : 1 ≤ d) (hd' : 1 ≤ d') (hlt : T < T') : (monV T d).1 < (monV T' d').1 :=
  date_lt (monV_date h hd) (monV_date h' hd') (by omega)
/-- A day's own month has it on its number. -/
theorem monV_self {n y m d : Int} (h : dateOf n y m d) : monV (12 * y + (m - 1)) d = (n, true) := by
  obtain ⟨y1, y2, m1, m2⟩ := lenI_pos (show 1 ≤ lenI y m by have := h.1; have := h.2.1; omega)
  obtain ⟨e1, e2⟩ := mon_is (show 12 * y + (m - 1) = 12 * y + (m - 1) from rfl) m1 m2
  unfold monV
  rw [← e1, ← e2, if_neg (by have := h.1; have := h.2.1; omega), if_neg (by have := h.2.1; omega), h.2.2]
/-- The day of a number in a month, out of its date. -/
theorem mon_at {n y m d d' T : Int} (hT : 12 * y + (m - 1) = T) (hd : (if lenI y m < d then lenI y m else d) = d') (h : dateOf n y m d') : monV T d = (n, true) := by
  obtain ⟨y1, y2, m1, m2⟩ := lenI_pos (show 1 ≤ lenI y m by have := h.1; have := h.2.1; omega)
  obtain ⟨e1, e2⟩ := mon_is hT m1 m2
  unfold monV
  rw [← e1, ← e2, if_neg (by have := h.1; have := h.2.1; omega), hd, h.2.2]
theorem monV_none {T d r : Int} (h : monV T d = (r, false)) : r = 0 := by
  unfold monV at h
  split at h
  · exact (Prod.mk.inj h).1.symm
  · cases (Prod.mk.inj h).2
theorem monV_some {T d r : Int} (h : monV T d = (r, true)) (hd : 1 ≤ d) : 12 ≤ T ∧ T ≤ 119999 ∧ dateOf r (T / 12) (T % 12 + 1) (if lenI (T / 12) (T % 12 + 1) < d then lenI (T / 12) (T % 12 + 1) else d) := by
  have h2 : (monV T d).2 = true := by rw [h]
  have h3 := monV_date h2 hd
  rw [h] at h3
  exact ⟨(monV_bd h2).1, (monV_bd h2).2, h3⟩
theorem lenI_28 {y m : Int} (h : 1 ≤ lenI y m) : 28 ≤ lenI y m := by
  obtain ⟨y1, y2, m1, m2⟩ := lenI_pos h
  unfold lenI
  rw [if_neg (by omega)]
  repeat' split
  all_goals omega
/-- The greatest one. -/
theorem lastN_eq {T d b : Int} : ∀ {n j : Nat}, (j = 0 ∨ notPast T d b j = true) → j ≤ n → (∀ i : Nat, j < i → i ≤ n → notPast T d b i = false) → lastN T d b n = j
  | 0, j, _, hj, _ => by rw [lastN]; omega
  | n + 1, j, h, hj, hi => by
    rw [lastN]
    by_cases he : j = n + 1
    · subst he
      rcases h with h | h
      · omega
      · rw [if_pos h]
    · rw [if_neg (by rw [hi (n + 1) (by omega) (Nat.le_refl _)]; decide)]
      exact lastN_eq h (by omega) (fun i h1 h2 => hi i h1 (by omega))
/-- How many months a day's month is behind another day's: not below 0, if the day is not ahead. -/
theorem mon_le {a b y m d z k e' : Int} (h : dateOf a y m d) (h' : dateOf b z k e') (hab : a ≤ b) : 12 * y + m ≤ 12 * z + k := by
  rcases Int.lt_or_le (12 * z + k) (12 * y + m) with h1 | h1
  · have := date_lt h' h h1; omega
  · exact h1
/-- The whole months between two days, counted at once. -/
theorem lastN_is {a b y m d z k e' : Int} (h : dateOf a y m d) (h' : dateOf b z k e') (hab : a ≤ b) (N : Nat) (hN : (N : Int) = (if (z - y) * 12 + k - m + 1 < 0 then 0 else (z - y) * 12 + k - m + 1)) :
    (lastN (12 * y + (m - 1)) d b N : Int) = (if b < (monV (12 * z + (k - 1)) d).1 then 12 * z + (k - 1) - (12 * y + (m - 1)) - 1 else 12 * z + (k - 1) - (12 * y + (m - 1))) := by
  obtain ⟨y1, y2, m1, m2⟩ := lenI_pos (show 1 ≤ lenI y m by have := h.1; have := h.2.1; omega)
  obtain ⟨z1, z2, k1, k2⟩ := lenI_pos (show 1 ≤ lenI z k by have := h'.1; have := h'.2.1; omega)
  have hle := mon_le h h' hab
  rw [if_neg (by omega)] at hN
  have hd := h.1
  have hsb := monV_self h'
  have hsa := monV_self h
  obtain ⟨A, hA⟩ : ∃ A, 12 * y + (m - 1) = A := ⟨_, rfl⟩
  obtain ⟨B, hB⟩ : ∃ B, 12 * z + (k - 1) = B := ⟨_, rfl⟩
  rw [hA] at hsa ⊢
  rw [hB] at hsb ⊢
  have hAB : A ≤ B := by omega
  have hA1 : 12 ≤ A := by omega
  have hB1 : B ≤ 119999 := by omega
  have hN2 : (N : Int) = B - A + 1 := by omega
  have hbv : (monV B e').2 = true := by rw [hsb]
  have hbv1 : (monV B e').1 = b := by rw [hsb]
  have top : notPast A d b N = false := by
    unfold notPast
    rw [show A + (N : Int) = B + 1 by omega]
    cases hq : (monV (B + 1) d).2 with
    | false => rfl
    | true =>
      have := monV_lt hbv hq h'.1 hd (by omega)
      simp; omega
  obtain ⟨j, hj⟩ : ∃ j : Nat, N = j + 1 := ⟨N - 1, by omega⟩
  have hjv : A + (j : Int) = B := by omega
  by_cases hlt : b < (monV B d).1
  · rw [if_pos hlt]
    have hj0 : j ≠ 0 := by
      rintro rfl
      have : A = B := by omega
      rw [← this, hsa] at hlt
      simp only at hlt
      omega
    rw [lastN_eq (j := j - 1) ?_ (by omega) ?_]
    · omega
    · refine .inr ?_
      unfold notPast
      have e1 : A + ((j - 1 : Nat) : Int) = B - 1 := by omega
      rw [e1]
      have hq : (monV (B - 1) d).2 = true := monV_in (by omega) (by omega)
      have := monV_lt hq hbv hd h'.1 (by omega)
      rw [hq]
      simp; omega
    · intro i h1 h2
      rcases (show i = j ∨ i = N by omega) with rfl | rfl
      · unfold notPast
        rw [hjv]
        simp; intro _; omega
      · exact top
  · rw [if_neg hlt]
    rw [lastN_eq (j := j) ?_ (by omega) ?_]
    · omega
    · refine .inr ?_
      unfold notPast
      rw [hjv, monV_in (by omega) hB1]
      simp; omega
    · intro i h1 h2
      rw [show i = N by omega]
      exact top
end Corr

/- Days' texts have their days' order; spans' texts are read again. No walk in this text. -/
import Derived.Test.YtmdmhookhkhdoaaDoorDtMath
namespace Corr
open Go Go.RowKit Go.PlainAid
theorem less_irr : ∀ a : List UInt8, Op.bytesLess a a = false
  | [] => rfl
  | x :: a => by simp [Op.bytesLess, less_irr a]
theorem less_app : ∀ {a b r s : List UInt8}, a.length = b.length → Op.bytesLess (a ++ r) (b ++ s) = if a = b then Op.bytesLess r s else Op.bytesLess a b
  | [], [], r, s, _ => by simp
  | [], _ :: _, _, _, h => by simp at h
  | _ :: _, [], _, _, h => by simp at h
  | x :: a, y :: b, r, s, h => by
    have ih := less_app (a := a) (b := b) (r := r) (s := s) (by simpa using h)
    simp only [List.cons_append, Op.bytesLess, ih]
    by_cases e : x = y
    · subst e
      by_cases e2 : a = b
      · subst e2; simp
      · simp [e2]
    · simp [e, show (x == y) = false from beq_eq_false_iff_ne.2 e]
theorem dg_less (N M : Nat) : Op.bytesLess [dg N] [dg M] = decide (N % 10 < M % 10) := by
  have e : (dg N < dg M) ↔ N % 10 < M % 10 := by rw [UInt8.lt_iff_toNat_lt, dg_toNat, dg_toNat]; omega
  simp [Op.bytesLess, e]
theorem less_fixd : ∀ (k N M : Nat), N < 10 ^ k → M < 10 ^ k → Op.bytesLess (fixd k N) (fixd k M) = decide (N < M)
  | 0, N, M, h, h' => by
    have e1 : N = 0 := by simpa using h
    have e2 : M = 0 := by simpa using h'
    subst e1; subst e2; simp [fixd, Op.bytesLess]
  | k + 1, N, M, h, h' => by
    have ih := less_fixd k (N / 10) (M / 10) (by rw [Nat.pow_succ] at h; omega) (by rw [Nat.pow_succ] at h'; omega)
    have ih' := less_fixd k (M / 10) (N / 10) (by rw [Nat.pow_succ] at h'; omega) (by rw [Nat.pow_succ] at h; omega)
    rw [fixd_succ, fixd_succ, less_app (by rw [fixd_len, fixd_len]), dg_less, ih]
    by_cases e : fixd k (N / 10) = fixd k (M / 10)
    · rw [if_pos e]
      rw [e, less_irr] at ih ih'
      have a1 := of_decide_eq_false ih.symm
      have a2 := of_decide_eq_false ih'.symm
      have : (N % 10 < M % 10) ↔ N < M := by omega
      simp [this]
    · rw [if_neg e]
      have : N / 10 ≠ M / 10 := fun q => e (by rw [q])
      have : (N / 10 < M / 10) ↔ N < M := by omega
      simp [this]
theorem less_fix {k N M : Nat} {r s : List UInt8} (h : N < 10 ^ k) (h' : M < 10 ^ k) : Op.bytesLess (fixd k N ++ r) (fixd k M ++ s) = if N = M then Op.bytesLess r s else decide (N < M) := by
  rw [less_app (by rw [fixd_len, fixd_len]), less_fixd k N M h h']
  by_cases e : N = M
  · subst e; simp
  · rw [if_neg e, if_neg]
    intro q
    have a := less_fixd k N M h h'
    have b := less_fixd k M N h' h
    rw [q, less_irr] at a b
    have a1 := of_decide_eq_false a.symm
    have a2 := of_decide_eq_false b.symm
    omega
theorem less_cons (c : UInt8) (r s : List UInt8) : Op.bytesLess (c :: r) (c :: s) = Op.bytesLess r s := by
  have := less_app (a := [c]) (b := [c]) (r := r) (s := s) rfl
  simpa using this
/-- Days' texts have their order. -/
theorem dayT_less {n y m d n' y' m' d' : Int} (h : dateOf n y m d) (h' : dateOf n' y' m' d') : Op.bytesLess (dayT y m d) (dayT y' m' d') = decide (n < n') := by
  obtain ⟨y1, y2, m1, m2⟩ := lenI_pos (show 1 ≤ lenI y m by have := h.1; have := h.2.1; omega)
  obtain ⟨z1, z2, k1, k2⟩ := lenI_pos (show 1 ≤ lenI y' m' by have := h'.1; have := h'.2.1; omega)
  have b1 := lenI_bd y m
  have b2 := lenI_bd y' m'
  have d1 := h.1; have d2 := h.2.1; have e1 := h'.1; have e2 := h'.2.1
  unfold dayT
  rw [less_fix (by omega) (by omega), less_cons, less_fix (by omega) (by omega), less_cons, less_fixd 2 _ _ (by omega) (by omega)]
  by_cases hy : y = y'
  · subst hy
    rw [if_pos rfl]
    by_cases hm : m = m'
    · subst hm
      rw [if_pos rfl]
      have q := h.2.2; have q' := h'.2.2
      have : (d.toNat < d'.toNat) ↔ n < n' := by omega
      simp [this]
    · rw [if_neg (by omega)]
      have : (m.toNat < m'.toNat) ↔ n < n' := by
        constructor
        · intro hlt; exact date_lt h h' (by omega)
        · intro hlt
          rcases Int.lt_or_le m m' with q | q
          · omega
          · have := date_lt h' h (by omega); omega
      simp [this]
  · rw [if_neg (by omega)]
    have : (y.toNat < y'.toNat) ↔ n < n' := by
      constructor
      · intro hlt; exact date_lt h h' (by omega)
      · intro hlt
        rcases Int.lt_or_le y y' with q | q
        · omega
        · have := date_lt h' h (by omega); omega
    simp [this]
/-- Of two texts that are read, the one is ahead just if its day is. -/
theorem pd_less {l k : List UInt8} (h : pdE l = 0) (h' : pdE k = 0) : Op.bytesLess l k = decide (pdN l < pdN k) := by
  have a := dayT_less (pdE_ok h).2 (pdE_ok h').2
  rwa [← dayL_eq (pdE_ok h).2, ← dayL_eq (pdE_ok h').2, day_back h, day_back h'] at a
/-- A span's text that is read is that span's text. -/
theorem psE_ok {l : List UInt8} (h : psE l = 0) : psF l = true ∧ pdE (l.take 10) = 0 ∧ pdE (l.drop 12) = 0 ∧ pdN (l.take 10) ≤ pdN (l.drop 12) := by
  unfold psE at h
  split at h
  · rename_i h1
    split at h
    · cases h
    · split at h
      · rename_i h3; exact ⟨h1, h3⟩
      · cases h
  · cases h
theorem psE_cases (l : List UInt8) : psE l = 0 ∨ psE l = 4 ∨ psE l = 15 := by
  unfold psE; repeat' split
  all_goals simp
theorem psF_iff {l : List UInt8} : psF l = true ↔ l.length = 22 ∧ (l.drop 10).take 2 = [46, 46] := by
  unfold psF; simp
theorem span_back {l : List UInt8} (h : psE l = 0) : spanL (psA l) (psB l) = l := by
  obtain ⟨h1, h2, h3, h4⟩ := psE_ok h
  obtain ⟨_, e1, e2⟩ := ps_ok h1 ⟨h2, h3, h4⟩
  have b1 := pdN_ok h2; have b2 := pdN_ok h3
  obtain ⟨_, q⟩ := psF_iff.1 h1
  rw [e1, e2]
  unfold spanL
  rw [if_neg (by omega), show pdN (l.drop 12) + 1 - 1 = pdN (l.drop 12) by omega, day_back h2, day_back h3]
  have e3 : l.drop 10 = (l.drop 10).take 2 ++ (l.drop 10).drop 2 := (List.take_append_drop 2 _).symm
  rw [q, List.drop_drop] at e3
  have e4 : l.take 10 ++ l.drop 10 = l := List.take_append_drop 10 l
  rw [e3] at e4
  exact e4
theorem spanL_no {a b : Int} (h : a < 1 ∨ b ≤ a ∨ 3652060 < b) : spanL a b = [] := by unfold spanL; rw [if_pos h]
theorem spanL_read {a b : Int} (h : ¬ (a < 1 ∨ b ≤ a ∨ 3652060 < b)) : (spanL a b).length = 22 ∧ psE (spanL a b) = 0 ∧ psA (spanL a b) = a ∧ psB (spanL a b) = b := by
  have l1 := dayL_len (n := a) (by omega) (by omega)
  have l2 := dayL_len (n := b - 1) (by omega) (by omega)
  obtain ⟨r1, r2⟩ := dayL_read (n := a) (by omega) (by omega)
  obtain ⟨r3, r4⟩ := dayL_read (n := b - 1) (by omega) (by omega)
  have e : spanL a b = dayL a ++ 46 :: 46 :: dayL (b - 1) := by unfold spanL; rw [if_neg h]
  have t1 : (spanL a b).take 10 = dayL a := by rw [e, List.take_append_of_le_length (by omega), ← l1, List.take_length]
  have t2 : (spanL a b).drop 12 = dayL (b - 1) := by
    rw [e, show dayL a ++ 46 :: 46 :: dayL (b - 1) = (dayL a ++ [46, 46]) ++ dayL (b - 1) by simp]
    exact List.drop_left' (by rw [List.length_append, l1]; rfl)
  have t3 : ((spanL a b).drop 10).take 2 = [46, 46] := by
    rw [e, List.drop_left' l1]; rfl
  have hl : (spanL a b).length = 22 := by rw [e, List.length_append, List.length_cons, List.length_cons, l1, l2]
  obtain ⟨q0, q1, q2⟩ := ps_ok (l := spanL a b) (psF_iff.2 ⟨hl, t3⟩) (by rw [t1, t2, r1, r2, r3, r4]; exact ⟨rfl, rfl, by omega⟩)
  rw [t1, r2] at q1
  rw [t2, r4] at q2
  exact ⟨hl, q0, q1, by omega⟩
theorem pdE_len {l : List UInt8} (h : pdE l = 0) : l.length = 10 := (dfB_iff.1 (pdE_ok h).1).1
theorem psE_len {l : List UInt8} (h : psE l = 0) : l.length = 22 := (psF_iff.1 (psE_ok h).1).1
end Corr

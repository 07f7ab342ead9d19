/- Decimal texts as plain lists of bytes: the digits of a number, the text of a decimal, the form of a text, and what either reads as. No walk in this text. What Put makes of a decimal. No walk in this text. -/
import Derived.Test.YtfceoehfellpgaaDoorDecMath
namespace Corr
set_option linter.unusedSimpArgs false
set_option linter.unusedVariables false

/-- A digit's byte. -/
def dg (n : Nat) : UInt8 := UInt8.ofNat (48 + n % 10)
def isDig (b : UInt8) : Bool := decide (48 ≤ b.toNat) && decide (b.toNat ≤ 57)
/-- The k last digits of n. -/
def fixd : Nat → Nat → List UInt8
  | 0, _ => []
  | k + 1, n => fixd k (n / 10) ++ [dg n]
/-- What digits spell, behind what was spelled ahead. -/
def dvalA (a : Nat) (l : List UInt8) : Nat := l.foldl (fun a b => a * 10 + (b.toNat - 48)) a
def dval (l : List UInt8) : Nat := dvalA 0 l
/-- How many digits a whole part has: at least one. -/
def wl (m : Nat) : Nat := if m < 10 then 1 else wl (m / 10) + 1
termination_by m
decreasing_by omega
def whole (m : Nat) : List UInt8 := fixd (wl m) m
def allD (l : List UInt8) : Bool := l.all isDig

theorem dg_toNat (n : Nat) : (dg n).toNat = 48 + n % 10 := by
  unfold dg; rw [UInt8.toNat_ofNat']; omega
theorem isDig_dg (n : Nat) : isDig (dg n) = true := by
  unfold isDig; rw [dg_toNat]; simp; omega
theorem dg_back {b : UInt8} (h : isDig b = true) (n : Nat) (hn : n % 10 = b.toNat - 48) : dg n = b := by
  apply UInt8.toNat_inj.1
  unfold isDig at h
  simp at h
  rw [dg_toNat, hn]; omega
theorem dg_48 {n : Nat} : dg n = 48 ↔ n % 10 = 0 := by
  constructor
  · intro h
    have := congrArg UInt8.toNat h
    rw [dg_toNat] at this
    have e : (48 : UInt8).toNat = 48 := rfl
    omega
  · intro h
    apply UInt8.toNat_inj.1
    rw [dg_toNat, h]; rfl
theorem fixd_len : ∀ (k n : Nat), (fixd k n).length = k
  | 0, _ => rfl
  | k + 1, n => by simp [fixd, fixd_len k]
theorem fixd_dig : ∀ (k n : Nat), allD (fixd k n) = true
  | 0, _ => rfl
  | k + 1, n => by
    have := fixd_dig k (n / 10)
    unfold allD at *
    simp only [fixd, List.all_append, this, Bool.true_and]
    simp [isDig_dg]
theorem fixd_succ (k n : Nat) : fixd (k + 1) n = fixd k (n / 10) ++ [dg n] := rfl
theorem fixd_add (j : Nat) : ∀ (k n : Nat), fixd (j + k) n = fixd j (n / 10 ^ k) ++ fixd k n
  | 0, n => by rw [Nat.pow_zero, Nat.div_one]; simp [fixd]
  | k + 1, n => by
    rw [← Nat.add_assoc, fixd_succ, fixd_succ]
    have e : n / 10 / 10 ^ k = n / 10 ^ (k + 1) := by rw [Nat.div_div_eq_div_mul, Nat.pow_succ, Nat.mul_comm 10]
    rw [fixd_add j k, e, List.append_assoc]
theorem dvalA_cons (a : Nat) (b : UInt8) (r : List UInt8) : dvalA a (b :: r) = dvalA (a * 10 + (b.toNat - 48)) r := by unfold dvalA; rw [List.foldl_cons]
theorem dvalA_append : ∀ (l m : List UInt8) (a : Nat), dvalA a (l ++ m) = dvalA (dvalA a l) m
  | [], _, _ => rfl
  | b :: l, m, a => by rw [List.cons_append, dvalA_cons, dvalA_cons, dvalA_append l m]
theorem dvalA_eq : ∀ (l : List UInt8) (a : Nat), dvalA a l = a * 10 ^ l.length + dval l
  | [], a => by simp [dvalA, dval]
  | b :: l, a => by
    unfold dval
    simp only [dvalA_cons, List.length_cons]
    rw [dvalA_eq l, dvalA_eq l (0 * 10 + (b.toNat - 48)), Nat.pow_succ, Nat.zero_mul, Nat.zero_add, Nat.add_mul, Nat.mul_assoc, Nat.mul_comm 10, Nat.add_assoc]
theorem dval_append (l m : List UInt8) : dval (l ++ m) = dval l * 10 ^ m.length + dval m := by
  unfold dval; rw [dvalA_append, dvalA_eq]; rfl
theorem dval_one (b : UInt8) : dval [b] = b.toNat - 48 := by simp [dval, dvalA]
theorem dval_snoc (l : List UInt8) (b : UInt8) : dval (l ++ [b]) = dval l * 10 + (b.toNat - 48) := by
  rw [dval_append, dval_one]; simp
theorem dval_fixd : ∀ (k n : Nat), dval (fixd k n) = n % 10 ^ k
  | 0, n => by simp [fixd, dval, dvalA, Nat.mod_one]
  | k + 1, n => by
    rw [fixd, dval_snoc, dval_fixd k, dg_toNat, Nat.pow_succ, Nat.mul_comm (10 ^ k) 10, Nat.mod_mul]
    omega
theorem dval_lt : ∀ {l : List UInt8}, allD l = true → dval l < 10 ^ l.length := by
  intro l
  induction l with
  | nil => intro _; simp [dval, dvalA]
  | cons b l ih =>
    intro h
    unfold allD at h ih
    simp only [List.all_cons, Bool.and_eq_true] at h
    have h2 := ih h.2
    have h1 := h.1
    unfold isDig at h1
    simp at h1
    rw [show b :: l = [b] ++ l from rfl, dval_append, dval_one, List.length_append, List.length_singleton, Nat.pow_add]
    have : (b.toNat - 48) * 10 ^ l.length ≤ 9 * 10 ^ l.length := Nat.mul_le_mul_right _ (by omega)
    omega
theorem snoc_cases {α : Type} : ∀ (l : List α), l = [] ∨ ∃ a b, l = a ++ [b]
  | [] => Or.inl rfl
  | x :: l => by
    rcases snoc_cases l with h | ⟨a, b, h⟩
    · exact Or.inr ⟨[], x, by simp [h]⟩
    · exact Or.inr ⟨x :: a, b, by simp [h]⟩
theorem fixd_dval : ∀ (k : Nat) (l : List UInt8), l.length = k → allD l = true → ∀ (n : Nat), n % 10 ^ k = dval l → fixd k n = l
  | 0, l, hl, _, n, _ => by
    have : l = [] := List.length_eq_zero_iff.1 hl
    rw [this]; rfl
  | k + 1, l, hl, hd, n, hn => by
    rcases snoc_cases l with h | ⟨a, b, h⟩
    · subst h; simp at hl
    · subst h
      have hla : a.length = k := by simpa using hl
      unfold allD at hd
      simp only [List.all_append, List.all_cons, List.all_nil, Bool.and_true, Bool.and_eq_true] at hd
      have hb := hd.2
      rw [dval_snoc, Nat.pow_succ, Nat.mul_comm (10 ^ k) 10, Nat.mod_mul] at hn
      have hb' := hb
      unfold isDig at hb'
      simp at hb'
      rw [fixd, fixd_dval k a hla hd.1 (n / 10) (by omega), dg_back hb n (by omega)]
theorem allD_append {a b : List UInt8} : allD (a ++ b) = true ↔ allD a = true ∧ allD b = true := by
  unfold allD; simp
theorem wl_small {m : Nat} (h : m < 10) : wl m = 1 := by rw [wl, if_pos h]
theorem wl_big {m : Nat} (h : ¬ m < 10) : wl m = wl (m / 10) + 1 := by rw [wl, if_neg h]
theorem wl_pos (m : Nat) : 1 ≤ wl m := by
  by_cases h : m < 10
  · rw [wl_small h]; omega
  · rw [wl_big h]; omega
theorem wl_is : ∀ (k m : Nat), m < 10 ^ (k + 1) → (k = 0 ∨ 10 ^ k ≤ m) → wl m = k + 1
  | 0, m, h, _ => wl_small (by simpa using h)
  | k + 1, m, h, h2 => by
    have h3 : 10 ^ (k + 1) ≤ m := h2.resolve_left (by omega)
    have hp : 0 < 10 ^ k := Nat.pow_pos (by omega)
    have e1 : 10 ^ (k + 1) = 10 ^ k * 10 := Nat.pow_succ ..
    have e2 : 10 ^ (k + 1 + 1) = 10 ^ (k + 1) * 10 := Nat.pow_succ ..
    rw [wl_big (by omega), wl_is k (m / 10) (by omega) (Or.inr (by omega))]
theorem wl_bounds : ∀ (k m : Nat), m < 10 ^ (k + 1) → m < 10 ^ wl m ∧ (wl m = 1 ∨ 10 ^ (wl m - 1) ≤ m) ∧ wl m ≤ k + 1
  | 0, m, h => by
    have : m < 10 := by simpa using h
    rw [wl_small this]; simp; omega
  | k + 1, m, h => by
    by_cases h1 : m < 10
    · rw [wl_small h1]; simp; omega
    · have e2 : 10 ^ (k + 1 + 1) = 10 ^ (k + 1) * 10 := Nat.pow_succ ..
      obtain ⟨b1, b2, b3⟩ := wl_bounds k (m / 10) (by omega)
      have hw := wl_pos (m / 10)
      rw [wl_big h1, Nat.pow_succ]
      refine ⟨by omega, Or.inr ?_, by omega⟩
      rw [Nat.add_sub_cancel]
      obtain ⟨j, hj⟩ : ∃ j, wl (m / 10) = j + 1 := ⟨wl (m / 10) - 1, by omega⟩
      rw [hj, Nat.pow_succ]
      rw [hj, Nat.add_sub_cancel] at b2
      rcases b2 with b2 | b2
      · have : j = 0 := by omega
        subst this; simp; omega
      · omega
theorem whole_is {k m : Nat} (h0 : 1 ≤ k) (h : m < 10 ^ k) (h2 : k = 1 ∨ 10 ^ (k - 1) ≤ m) : fixd k m = whole m := by
  obtain ⟨j, rfl⟩ : ∃ j, k = j + 1 := ⟨k - 1, by omega⟩
  unfold whole
  rw [wl_is j m h (by rcases h2 with h2 | h2; · exact Or.inl (by omega)
                      · exact Or.inr (by simpa using h2))]
theorem whole_small {m : Nat} (h : m < 10) : whole m = [dg m] := by
  unfold whole; rw [wl_small h]; rfl
theorem whole_big {m : Nat} (h : ¬ m < 10) : whole m = whole (m / 10) ++ [dg m] := by
  unfold whole; rw [wl_big h]; rfl
theorem whole_dig (m : Nat) : allD (whole m) = true := fixd_dig _ _
theorem whole_ne (m : Nat) : whole m ≠ [] := by
  intro h
  have := congrArg List.length h
  unfold whole at this
  rw [fixd_len] at this
  have := wl_pos m
  simp at *; omega
theorem whole_len {k m : Nat} (h : m < 10 ^ (k + 1)) : (whole m).length ≤ k + 1 := by
  unfold whole; rw [fixd_len]; exact (wl_bounds k m h).2.2
theorem lt_ten_pow : ∀ (m : Nat), m < 10 ^ (m + 1)
  | 0 => by simp
  | m + 1 => by have := lt_ten_pow m; rw [Nat.pow_succ]; omega
theorem dval_whole (m : Nat) : dval (whole m) = m := by
  unfold whole; rw [dval_fixd, Nat.mod_eq_of_lt (wl_bounds m m (lt_ten_pow m)).1]
/-- A whole part: digits, of which the first is no nought, or a nought alone. -/
def isWh (l : List UInt8) : Bool := (allD l && !l.isEmpty) && (l.head? != some 48 || l == [48])
/-- What may stand behind a point. -/
def isPl (l : List UInt8) : Bool := ((allD l && !l.isEmpty) && decide (l.length ≤ 9)) && l.getLast? != some 48
theorem whole_head : ∀ (k m : Nat), m < 10 ^ (k + 1) → 0 < m → (whole m).head? ≠ some 48
  | 0, m, h, h0 => by
    rw [whole_small (by simpa using h)]
    simp
    intro e
    have := dg_48.1 e
    have : m < 10 := by simpa using h
    omega
  | k + 1, m, h, h0 => by
    by_cases h1 : m < 10
    · exact whole_head 0 m (by simpa using h1) h0
    · have e2 : 10 ^ (k + 1 + 1) = 10 ^ (k + 1) * 10 := Nat.pow_succ ..
      have ih := whole_head k (m / 10) (by omega) (by omega)
      rw [whole_big h1]
      cases hw : whole (m / 10) with
      | nil => exact absurd hw (whole_ne _)
      | cons a r => rw [hw] at ih; simpa using ih
theorem isWh_whole (m : Nat) : isWh (whole m) = true := by
  unfold isWh
  rw [whole_dig]
  have h0 : (whole m).isEmpty = false := by
    cases h : whole m with
    | nil => exact absurd h (whole_ne _)
    | cons a r => rfl
  rw [h0]
  by_cases h : m = 0
  · subst h; rw [whole_small (by omega)]; decide
  · have := whole_head m m (lt_ten_pow m) (by omega)
    simp [this]
theorem head_big {l : List UInt8} (hd : allD l = true) (hne : l ≠ []) (hh : l.head? ≠ some 48) : 10 ^ (l.length - 1) ≤ dval l := by
  cases l with
  | nil => exact absurd rfl hne
  | cons b r =>
    rw [show b :: r = [b] ++ r from rfl, dval_append, dval_one]
    unfold allD at hd
    simp only [List.all_cons, Bool.and_eq_true] at hd
    have h1 := hd.1
    unfold isDig at h1
    simp at h1 hh
    have h2 : b.toNat ≠ 48 := fun e => hh (UInt8.toNat_inj.1 (by rw [e]; rfl))
    have : 1 * 10 ^ r.length ≤ (b.toNat - 48) * 10 ^ r.length := Nat.mul_le_mul_right _ (by omega)
    simp
    omega
theorem whole_dval {l : List UInt8} (h : isWh l = true) : whole (dval l) = l := by
  unfold isWh at h
  simp only [Bool.and_eq_true, Bool.or_eq_true, Bool.not_eq_true', bne_iff_ne, ne_eq, beq_iff_eq] at h
  obtain ⟨⟨hd, hne⟩, hh⟩ := h
  have hne' : l ≠ [] := by intro e; subst e; simp at hne
  rcases hh with hh | hh
  · have hl : 1 ≤ l.length := by cases l with | nil => exact absurd rfl hne' | cons _ _ => simp
    rw [← whole_is hl (dval_lt hd) (Or.inr (head_big hd hne' hh))]
    exact fixd_dval _ _ rfl hd _ (Nat.mod_eq_of_lt (dval_lt hd))
  · subst hh; rw [show dval [48] = 0 by decide, whole_small (by omega)]; decide
/-- What is left of digits without noughts ahead. -/
theorem fixd_zero : ∀ (k : Nat), (fixd k 0).dropWhile (· == 48) = []
  | 0 => rfl
  | k + 1 => by
    rw [fixd]
    have e : dg 0 = 48 := by decide
    have : ∀ (l : List UInt8), l.dropWhile (· == 48) = [] → (l ++ [48]).dropWhile (· == 48) = [] := by
      intro l
      induction l with
      | nil => intro _; rfl
      | cons a r ih =>
        intro h
        by_cases ha : (a == 48) = true
        · simp only [List.dropWhile_cons, ha, if_true, List.cons_append] at h ⊢; exact ih h
        · simp [List.dropWhile_cons, ha] at h
    rw [e]
    exact this _ (by simpa using fixd_zero k)
theorem drop_append : ∀ (l m : List UInt8), l.dropWhile (· == 48) ≠ [] → (l ++ m).dropWhile (· == 48) = l.dropWhile (· == 48) ++ m
  | [], _, h => absurd rfl h
  | a :: r, m, h => by
    by_cases ha : (a == 48) = true
    · simp only [List.dropWhile_cons, ha, if_true, List.cons_append] at h ⊢; exact drop_append r m h
    · simp only [List.dropWhile_cons, ha, List.cons_append]; simp
theorem drop_fixd : ∀ (k q : Nat), q < 10 ^ k → (fixd k q).dropWhile (· == 48) = if q = 0 then [] else whole q
  | 0, q, h => by
    have : q = 0 := by simpa using h
    subst this; rfl
  | k + 1, q, h => by
    by_cases h0 : q = 0
    · subst h0; rw [if_pos rfl]; exact fixd_zero _
    · rw [if_neg h0]
      have e2 : 10 ^ (k + 1) = 10 ^ k * 10 := Nat.pow_succ ..
      have ih := drop_fixd k (q / 10) (by omega)
      rw [fixd]
      by_cases h1 : q < 10
      · have hz : q / 10 = 0 := by omega
        have hn : (dg q == 48) = false := by rw [beq_eq_false_iff_ne]; intro e; have := dg_48.1 e; omega
        rw [hz, whole_small h1]
        have : ∀ (l : List UInt8), l.dropWhile (· == 48) = [] → (l ++ [dg q]).dropWhile (· == 48) = [dg q] := by
          intro l
          induction l with
          | nil => intro _; simp [List.dropWhile_cons, hn]
          | cons a r ih =>
            intro h
            by_cases ha : (a == 48) = true
            · simp only [List.dropWhile_cons, ha, if_true, List.cons_append] at h ⊢; exact ih h
            · simp [List.dropWhile_cons, ha] at h
        exact this _ (fixd_zero k)
      · rw [if_neg (by omega)] at ih
        rw [drop_append _ _ (by rw [ih]; exact whole_ne _), ih, whole_big h1]
/-- .. as the program has it: all but the last one without noughts ahead, and the last one. -/
theorem trim_whole {k m : Nat} (h : m < 10 ^ (k + 1)) : (fixd k (m / 10)).dropWhile (· == 48) ++ [dg m] = whole m := by
  have e2 : 10 ^ (k + 1) = 10 ^ k * 10 := Nat.pow_succ ..
  rw [drop_fixd k (m / 10) (by omega)]
  by_cases h1 : m < 10
  · rw [if_pos (by omega), whole_small h1]; rfl
  · rw [if_neg (by omega), ← whole_big h1]

/-- The sign's bytes. -/
def sgnT (b : Bool) : List UInt8 := if b then [45] else []
/-- The text of the number c · 10^-S. -/
def txt (c : Int) (S : Nat) : List UInt8 := sgnT (decide (c < 0)) ++ (whole (c.natAbs / 10 ^ S) ++ (if S = 0 then [] else 46 :: fixd S c.natAbs))
/-- A point and what stands behind it. -/
def ptT (p : List UInt8) : List UInt8 := if p = [] then [] else 46 :: p

/-- The form of a text: the sign, the whole part, the places. -/
def Form (l : List UInt8) (n : Bool) (w p : List UInt8) : Prop := l = sgnT n ++ (w ++ ptT p) ∧ isWh w = true ∧ (p = [] ∨ isPl p = true) ∧ l ≠ [45, 48]
theorem isWh_parts {w : List UInt8} (h : isWh w = true) : allD w = true ∧ w ≠ [] ∧ (w.head? ≠ some 48 ∨ w = [48]) := by
  unfold isWh at h
  simp only [Bool.and_eq_true, Bool.or_eq_true, Bool.not_eq_true', bne_iff_ne, ne_eq, beq_iff_eq] at h
  obtain ⟨⟨hd, hne⟩, hh⟩ := h
  exact ⟨hd, by intro e; subst e; simp at hne, hh⟩
theorem isPl_parts {p : List UInt8} (h : isPl p = true) : allD p = true ∧ p ≠ [] ∧ p.length ≤ 9 ∧ p.getLast? ≠ some 48 := by
  unfold isPl at h
  simp only [Bool.and_eq_true, Bool.not_eq_true', bne_iff_ne, ne_eq, decide_eq_true_eq] at h
  obtain ⟨⟨⟨hd, hne⟩, hh⟩, hl⟩ := h
  exact ⟨hd, by intro e; subst e; simp at hne, hh, hl⟩
theorem pl_dig {p : List UInt8} (h : p = [] ∨ isPl p = true) : allD p = true ∧ p.length ≤ 9 := by
  rcases h with h | h
  · subst h; simp [allD]
  · exact ⟨(isPl_parts h).1, (isPl_parts h).2.2.1⟩
theorem dig_ne {b : UInt8} (h : isDig b = true) : b ≠ 45 ∧ b ≠ 46 ∧ b ≠ 43 ∧ b ≠ 32 := by
  unfold isDig at h
  simp at h
  refine ⟨?_, ?_, ?_, ?_⟩ <;> (rintro rfl; revert h; decide)
theorem allD_mem {l : List UInt8} (h : allD l = true) : ∀ b ∈ l, isDig b = true := by
  unfold allD at h; simpa using h
/-- What the places of a number tell: their digits are no number's that has noughts behind. -/
theorem pl_mod {w p : List UInt8} (hp : isPl p = true) : ¬ dval (w ++ p) % 10 = 0 := by
  obtain ⟨hd, hne, _, hl⟩ := isPl_parts hp
  rcases snoc_cases p with h | ⟨a, b, h⟩
  · exact absurd h hne
  · subst h
    rw [← List.append_assoc, dval_snoc]
    rw [allD_append] at hd
    have hb := allD_mem hd.2 b (by simp)
    unfold isDig at hb
    simp at hb hl
    have h2 : b.toNat ≠ 48 := fun e => hl (UInt8.toNat_inj.1 (by rw [e]; rfl))
    omega
/-- A text that is not -0 and has a sign is below 0. -/
theorem form_pos {l w p : List UInt8} (h : Form l true w p) : 0 < dval (w ++ p) := by
  obtain ⟨he, hw, hp, hn⟩ := h
  rcases hp with hp | hp
  · subst hp
    obtain ⟨hd, hne, hh⟩ := isWh_parts hw
    rw [List.append_nil]
    rcases hh with hh | hh
    · exact Nat.lt_of_lt_of_le (Nat.pow_pos (by omega)) (head_big hd hne hh)
    · subst hh; exact absurd he hn
  · have := pl_mod (w := w) hp; omega
/-- What a form reads as. -/
def fval (n : Bool) (w p : List UInt8) : Int := val n (dval (w ++ p))
theorem fval_neg {l w p : List UInt8} {n : Bool} (h : Form l n w p) : decide (fval n w p < 0) = n := by
  unfold fval val
  cases n
  · simp
  · have := form_pos h
    simp; omega
/-- What a text of a right form reads as has that text. -/
theorem txt_form {l w p : List UInt8} {n : Bool} (h : Form l n w p) : txt (fval n w p) p.length = l := by
  have h' := h
  obtain ⟨he, hw, hp, hn⟩ := h
  have hdp := (pl_dig hp).1
  have hlt := dval_lt hdp
  unfold txt
  rw [fval_neg h', he]
  have ha : (fval n w p).natAbs = dval w * 10 ^ p.length + dval p := by unfold fval; rw [natAbs_val, dval_append]
  rw [ha]
  have e1 : (dval w * 10 ^ p.length + dval p) / 10 ^ p.length = dval w := by
    rw [Nat.mul_comm, Nat.mul_add_div (Nat.pow_pos (by omega)), Nat.div_eq_of_lt hlt]; rfl
  have e2 : (dval w * 10 ^ p.length + dval p) % 10 ^ p.length = dval p := by
    rw [Nat.mul_comm, Nat.mul_add_mod, Nat.mod_eq_of_lt hlt]
  rw [e1, whole_dval hw]
  unfold ptT
  by_cases hp0 : p = []
  · subst hp0; simp
  · have : p.length ≠ 0 := fun e => hp0 (List.length_eq_zero_iff.1 e)
    rw [if_neg this, if_neg hp0, fixd_dval _ p rfl hdp _ e2]
/-- .. and is canonical. -/
theorem form_canon {l w p : List UInt8} {n : Bool} (h : Form l n w p) : p.length = 0 ∨ ¬ fval n w p % 10 = 0 := by
  obtain ⟨he, hw, hp, hn⟩ := h
  rcases hp with hp | hp
  · subst hp; exact Or.inl rfl
  · have := pl_mod (w := w) hp
    refine Or.inr ?_
    unfold fval val
    cases n <;> simp <;> omega
theorem getLast_fixd {k n : Nat} (hk : k ≠ 0) : (fixd k n).getLast? = some (dg n) := by
  obtain ⟨j, rfl⟩ : ∃ j, k = j + 1 := ⟨k - 1, by omega⟩
  simp [fixd]
/-- The text of a canonical number has the form, and reads as that number. -/
theorem form_txt {c : Int} {S : Nat} (hS : S ≤ 9) (hc : S = 0 ∨ ¬ c % 10 = 0) : ∃ w p, Form (txt c S) (decide (c < 0)) w p ∧ p.length = S ∧ fval (decide (c < 0)) w p = c := by
  refine ⟨whole (c.natAbs / 10 ^ S), fixd S c.natAbs, ⟨?_, isWh_whole _, ?_, ?_⟩, fixd_len _ _, ?_⟩
  · unfold txt ptT
    by_cases h : S = 0
    · subst h; simp [fixd]
    · have : fixd S c.natAbs ≠ [] := fun e => h (by rw [← fixd_len S c.natAbs, e]; rfl)
      rw [if_neg h, if_neg this]
  · by_cases h : S = 0
    · subst h; exact Or.inl rfl
    · right
      have hne : fixd S c.natAbs ≠ [] := fun e => h (by rw [← fixd_len S c.natAbs, e]; rfl)
      unfold isPl
      rw [fixd_dig, fixd_len, getLast_fixd h]
      have he : (fixd S c.natAbs).isEmpty = false := by
        cases hf : fixd S c.natAbs with
        | nil => exact absurd hf hne
        | cons _ _ => rfl
      rw [he]
      have : dg c.natAbs ≠ 48 := fun e => by have := dg_48.1 e; rcases hc with hc | hc <;> omega
      simp [hS, this]
  · intro e
    unfold txt at e
    by_cases hn : c < 0
    · rw [show decide (c < 0) = true from decide_eq_true hn] at e
      simp only [sgnT, if_true, List.singleton_append, List.cons.injEq, true_and] at e
      by_cases h : S = 0
      · subst h
        simp at e
        have := congrArg dval e
        rw [dval_whole] at this
        have e48 : dval [48] = 0 := by decide
        omega
      · rw [if_neg h] at e
        have := congrArg List.length e
        simp only [List.length_append, List.length_cons, fixd_len, List.length_nil] at this
        omega
    · rw [show decide (c < 0) = false from decide_eq_false hn] at e
      simp only [sgnT] at e
      have hw := whole_ne (c.natAbs / 10 ^ S)
      have hd := whole_dig (c.natAbs / 10 ^ S)
      cases hh : whole (c.natAbs / 10 ^ S) with
      | nil => exact hw hh
      | cons a r =>
        rw [hh] at e hd
        simp at e
        have ha := allD_mem hd a (by simp)
        rw [e.1] at ha
        revert ha; decide
  · unfold fval
    rw [dval_append, dval_whole, dval_fixd, fixd_len, Nat.mul_comm, Nat.div_add_mod]
    unfold val
    by_cases hn : c < 0
    · simp [hn]; omega
    · simp [hn]; omega
theorem sgnT_len (b : Bool) : (sgnT b).length ≤ 1 := by cases b <;> simp [sgnT]
/-- No text is longer than 21 bytes. -/
theorem txt_len {c : Int} {S : Nat} (hS : S ≤ 9) (hc : c.natAbs ≤ 9223372036854775808) : (txt c S).length ≤ 21 := by
  unfold txt
  have h1 := sgnT_len (decide (c < 0))
  have hp : 10 ^ (18 - S + 1) * 10 ^ S = 10 ^ 19 := by rw [← Nat.pow_add]; congr 1; omega
  have hlt : c.natAbs / 10 ^ S < 10 ^ (18 - S + 1) := by
    rw [Nat.div_lt_iff_lt_mul (Nat.pow_pos (by omega)), hp]
    have : (10 : Nat) ^ 19 = 10000000000000000000 := by decide
    omega
  have h2 := whole_len hlt
  simp only [List.length_append]
  by_cases h : S = 0
  · rw [if_pos h]; subst h; simp at *; omega
  · rw [if_neg h]
    simp only [List.length_cons, fixd_len]
    omega
end Corr
namespace Corr
theorem ev_nine {C : Int} {S : Nat} (h : S ≤ 9) : evZ (C * ((10 ^ (18 - S) : Nat) : Int)) (10 ^ (18 - 9)) = nine C S := by
  rw [nine_up C h]; exact evZ_mul _ _ (p10 9)
theorem put_fit {C : Int} {S : Nat} (h1 : -9223372036854775808 ≤ C) (h2 : C ≤ 9223372036854775807) (hS : S ≤ 9) :
    ∃ (c : Int) (t : Nat), mC (nine C S) 9 = c ∧ mS (nine C S) 9 = t ∧ mE (nine C S) 9 = 0 ∧ -9223372036854775808 ≤ c ∧ c ≤ 9223372036854775807 ∧ t ≤ 9 ∧ (t = 0 ∨ ¬ c % 10 = 0) := by
  obtain ⟨m1, m2, m3⟩ := made_at hS (show C * ((10 ^ (9 - S) : Nat) : Int) = nine C S from rfl)
  obtain ⟨s1, s2, s3⟩ := strip_spec S C
  obtain ⟨c, hc⟩ : ∃ c, (strip C S).1 = c := ⟨_, rfl⟩
  obtain ⟨t, ht⟩ : ∃ t, (strip C S).2 = t := ⟨_, rfl⟩
  rw [hc, ht] at s2 s3
  rw [ht] at s1
  have hp := p10 (S - t)
  have ha : C.natAbs = c.natAbs * 10 ^ (S - t) := by rw [s3, Int.natAbs_mul, Int.natAbs_natCast]
  have hle : c.natAbs ≤ C.natAbs := by rw [ha]; exact Nat.le_mul_of_pos_right _ hp
  have hs : 0 ≤ c → 0 ≤ C := fun h => by rw [s3]; exact Int.mul_nonneg h (by omega)
  have hf : fitsI c = true := by
    unfold fitsI
    by_cases h0 : 0 ≤ c
    · have := hs h0; simp; omega
    · simp; omega
  refine ⟨c, t, ?_, ?_, ?_, ?_, ?_, by omega, s2⟩
  · rw [← m1]; unfold mC; rw [hc, if_pos hf]
  · rw [← m2]; unfold mS; rw [hc, if_pos hf, ht]
  · rw [← m3]; unfold mE; rw [hc, if_pos hf]
  · unfold fitsI at hf; simp at hf; omega
  · unfold fitsI at hf; simp at hf; omega
theorem put_canon {C : Int} {S : Nat} (h1 : -9223372036854775808 ≤ C) (h2 : C ≤ 9223372036854775807) (hS : S ≤ 9) (hc : S = 0 ∨ ¬ C % 10 = 0) :
    mC (nine C S) 9 = C ∧ mS (nine C S) 9 = S ∧ mE (nine C S) 9 = 0 := by
  have hst : strip (nine C S) 9 = (C, S) := strip_is hS hc rfl
  have hf : fitsI C = true := by simp [fitsI, h1, h2]
  unfold mE mC mS
  rw [hst]
  simp [hf]
end Corr

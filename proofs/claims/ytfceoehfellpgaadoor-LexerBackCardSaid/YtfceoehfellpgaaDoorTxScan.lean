/- A text looked at byte for byte: what is known behind the first bytes, and what follows at the end. No walk in this text. -/
import Derived.Test.YtfceoehfellpgaaDoorTxParse
namespace Corr
open Go
set_option linter.unusedSimpArgs false
set_option linter.unusedVariables false
/-- A text without its sign. -/
def pB (l : List UInt8) : List UInt8 := l.drop (if pN l = true then 1 else 0)
theorem body_sgn (l : List UInt8) : l = sgnT (pN l) ++ pB l ∧ (pN l = false → (pB l).head? ≠ some 45) := by
  obtain ⟨t, he, ht⟩ := sgn_of l
  have e : pB l = t := by
    unfold pB pN
    cases hn : (l.head? == some 45) with
    | false => rw [hn] at he; simpa [sgnT] using he
    | true => rw [hn] at he; rw [he]; simp [sgnT]
  rw [e]
  exact ⟨he, ht⟩
/-- Behind the bytes 'pre': where a point was (or -1), and what the digits spell; 'f': where the first one stands. -/
def St (pre : List UInt8) (pt : Int) (f c : Nat) : Prop :=
  (pt = -1 ∧ allD pre = true ∧ c = dval pre) ∨ (∃ a b, pre = a ++ 46 :: b ∧ allD a = true ∧ a ≠ [] ∧ allD b = true ∧ pt = ((f + a.length : Nat) : Int) ∧ c = dval (a ++ b))
theorem St.zero (f : Nat) : St [] (-1) f 0 := Or.inl ⟨rfl, rfl, rfl⟩
theorem St.dig {pre : List UInt8} {pt : Int} {f c : Nat} (h : St pre pt f c) {b : UInt8} (hb : isDig b = true) : St (pre ++ [b]) pt f (c * 10 + (b.toNat - 48)) := by
  have h1 : allD [b] = true := by unfold allD; simp [hb]
  rcases h with ⟨rfl, hd, rfl⟩ | ⟨a, d, rfl, ha, hne, hd, rfl, rfl⟩
  · exact Or.inl ⟨rfl, allD_append.2 ⟨hd, h1⟩, by rw [dval_snoc]⟩
  · exact Or.inr ⟨a, d ++ [b], by simp, ha, hne, allD_append.2 ⟨hd, h1⟩, rfl, by rw [← List.append_assoc, dval_snoc]⟩
theorem St.point {pre : List UInt8} {pt : Int} {f c : Nat} (h : St pre pt f c) (hp : pt < 0) (hne : pre ≠ []) : St (pre ++ [46]) ((f + pre.length : Nat) : Int) f c := by
  rcases h with ⟨rfl, hd, rfl⟩ | ⟨a, d, rfl, ha, hne, hd, rfl, rfl⟩
  · exact Or.inr ⟨pre, [], rfl, hd, hne, rfl, rfl, by rw [List.append_nil]⟩
  · exact absurd hp (by omega)
theorem St.lt {pre : List UInt8} {pt : Int} {f c : Nat} (h : St pre pt f c) : c < 10 ^ pre.length := by
  rcases h with ⟨rfl, hd, rfl⟩ | ⟨a, d, rfl, ha, hne, hd, rfl, rfl⟩
  · exact dval_lt hd
  · refine Nat.lt_of_lt_of_le (dval_lt (allD_append.2 ⟨ha, hd⟩)) (Nat.pow_le_pow_right (by omega) ?_)
    simp
theorem St.neg {pre : List UInt8} {pt : Int} {f c : Nat} (h : St pre pt f c) : pt < 0 ∨ 0 ≤ pt := by omega
theorem point_uniq {a w r p : List UInt8} (ha : allD a = true) (hw : allD w = true) (h : a ++ 46 :: r = w ++ ptT p) : a = w ∧ p = r := by
  have h1 := cut_at r (allD_no ha)
  unfold ptT at h
  by_cases hp : p = []
  · rw [if_pos hp, List.append_nil] at h
    exact absurd (by rw [← h]; simp) (allD_no hw)
  · rw [if_neg hp] at h
    rw [h, cut_at p (allD_no hw)] at h1
    simp only [Prod.mk.injEq, and_true] at h1
    exact ⟨h1.1.symm, h1.2⟩
theorem form_body {l : List UInt8} (h : pOk l = true) : pB l = pW l ++ ptT (pP l) := by
  obtain ⟨he, _⟩ := ok_form h
  have h2 := (body_sgn l).1
  exact List.append_cancel_left (h2.symm.trans he)
theorem form_bytes {l : List UInt8} (h : pOk l = true) : ∀ y ∈ pB l, isDig y = true ∨ y = 46 := by
  rw [form_body h]
  obtain ⟨_, hw, hp, _⟩ := ok_form h
  intro y hy
  rcases List.mem_append.1 hy with hy | hy
  · exact Or.inl (allD_mem (isWh_parts hw).1 y hy)
  · unfold ptT at hy
    by_cases h0 : pP l = []
    · rw [if_pos h0] at hy; cases hy
    · rw [if_neg h0] at hy
      rcases List.mem_cons.1 hy with hy | hy
      · exact Or.inr hy
      · exact Or.inl (allD_mem (pl_dig hp).1 y hy)
/-- A byte that is out of place. -/
theorem St.bad {l pre rest : List UInt8} {x : UInt8} {pt : Int} {f c : Nat} (h : St pre pt f c) (hl : pB l = pre ++ x :: rest) (hx : isDig x = false) (hno : ¬ (x = 46 ∧ pt < 0 ∧ pre ≠ [])) : pOk l = false := by
  rw [← Bool.not_eq_true]
  intro hok
  have hb := form_body hok
  obtain ⟨_, hw, hp, _⟩ := ok_form hok
  obtain ⟨hwd, hwne, _⟩ := isWh_parts hw
  rcases form_bytes hok x (by rw [hl]; simp) with h1 | h1
  · rw [hx] at h1; cases h1
  · subst h1
    rw [hl] at hb
    rcases h with ⟨rfl, hd, rfl⟩ | ⟨a, d, rfl, ha, hne, hd, rfl, rfl⟩
    · obtain ⟨e, _⟩ := point_uniq hd hwd hb
      exact hno ⟨rfl, by omega, fun e2 => hwne (by rw [← e, e2])⟩
    · rw [List.append_assoc, List.cons_append] at hb
      obtain ⟨_, e⟩ := point_uniq ha hwd hb
      exact allD_no (pl_dig hp).1 (by rw [e]; simp)
/-- The end, without a point. -/
theorem St.end0 {l : List UInt8} {pt : Int} {f c : Nat} (h : St (pB l) pt f c) (hp : pt < 0) : pOk l = ((l != [45, 48]) && isWh (pB l)) ∧ pV l = val (pN l) c ∧ pP l = [] := by
  rcases h with ⟨rfl, hd, rfl⟩ | ⟨a, d, _, _, _, _, rfl, _⟩
  · obtain ⟨he, hh⟩ := body_sgn l
    have ht : Lib.trimPrefix l [45] = pB l := by
      have := trim_sgn (t := pB l) (pN l) hh
      rw [← he] at this; exact this
    have hc := cut_no (allD_no hd)
    refine ⟨?_, ?_, ?_⟩
    · unfold pOk pW pP pF; rw [ht, hc]; simp
    · unfold pV pW pP fval; rw [ht, hc]; simp
    · unfold pP; rw [ht, hc]
  · exact absurd hp (by omega)
/-- The end, with a point. -/
theorem St.end1 {l : List UInt8} {pt : Int} {f c : Nat} (h : St (pB l) pt f c) (hp : 0 ≤ pt) :
    ∃ a b, pB l = a ++ 46 :: b ∧ allD a = true ∧ a ≠ [] ∧ allD b = true ∧ pt = ((f + a.length : Nat) : Int) ∧ pOk l = ((l != [45, 48]) && (isWh a && isPl b)) ∧ pV l = val (pN l) c ∧ pP l = b := by
  rcases h with ⟨rfl, _, _⟩ | ⟨a, b, hb, ha, hne, hd, rfl, rfl⟩
  · exact absurd hp (by omega)
  · obtain ⟨he, hh⟩ := body_sgn l
    have ht : Lib.trimPrefix l [45] = pB l := by
      have := trim_sgn (t := pB l) (pN l) hh
      rw [← he] at this; exact this
    have hc := cut_at b (allD_no ha)
    refine ⟨a, b, hb, ha, hne, hd, rfl, ?_, ?_, ?_⟩
    · unfold pOk pW pP pF; rw [ht, hb, hc]; simp
    · unfold pV pW pP fval; rw [ht, hb, hc]
    · unfold pP; rw [ht, hb, hc]
theorem isWh_long {r : List UInt8} (h : r ≠ []) : isWh (48 :: r) = false := by
  unfold isWh
  simp [h]
theorem isPl_long {b : List UInt8} (h : 9 < b.length) : isPl b = false := by
  have h1 : ¬ b.length ≤ 9 := by omega
  unfold isPl
  simp [h1]
theorem isPl_last {b : List UInt8} (h : b.getLast? = some 48) : isPl b = false := by
  unfold isPl
  simp [h]
theorem last_app {x b : List UInt8} (h : b ≠ []) : (x ++ b).getLast? = b.getLast? := by
  rcases snoc_cases b with h1 | ⟨a, y, h1⟩
  · exact absurd h1 h
  · subst h1; rw [← List.append_assoc]; simp
end Corr

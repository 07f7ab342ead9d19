/- What follows of the document's sets of days: order, differences, widened spans, how many days. No walk in this text. -/
import Derived.Test.YtmolbckndkhhlaaSpSet
import Derived.Test.YtmolbckndkhhlaaSp8
namespace Corr
open Go
theorem hasB_out {l : SpL} {d : Int} (h : ¬ (1 ≤ d ∧ d ≤ 3652059)) : hasB l d = false := by
  cases hb : hasB l d with
  | false => rfl
  | true => exact absurd (hasB_iff.1 hb).1 h
theorem hasB_nil (d : Int) : hasB [] d = false := by
  cases hb : hasB [] d with
  | false => rfl
  | true => exact absurd (hasB_iff.1 hb).2 (memP_nil d)
theorem two_right (kind : Int) (a b : SpL) : rightIn (twoL kind a b) := (two_spec kind a b).1
/-- Two of these lists are the same if they tell the same of each day. -/
theorem two_eq {kind kind' : Int} {a b c d : SpL} (h : ∀ e, 1 ≤ e → e ≤ 3652059 → takeB kind (hasB a e) (hasB b e) = takeB kind' (hasB c e) (hasB d e)) : twoL kind a b = twoL kind' c d :=
  rightIn_one (two_right _ _ _) (two_right _ _ _) fun e h1 h2 => by rw [two_has _ _ _ h1 h2, two_has _ _ _ h1 h2]; exact h e h1 h2
theorem takeB_0 (x y : Bool) : takeB 0 x y = (x || y) := rfl
theorem takeB_1 (x y : Bool) : takeB 1 x y = (x && y) := rfl
theorem takeB_2 (x y : Bool) : takeB 2 x y = (x && !y) := rfl
theorem union_comm (a b : SpL) : twoL 0 a b = twoL 0 b a := two_eq fun e _ _ => by rw [takeB_0, takeB_0, Bool.or_comm]
theorem meet_comm (a b : SpL) : twoL 1 a b = twoL 1 b a := two_eq fun e _ _ => by rw [takeB_1, takeB_1, Bool.and_comm]
theorem less_back (a b : SpL) : twoL 0 (twoL 2 a b) b = twoL 0 a b := two_eq fun e h1 h2 => by
  rw [two_has _ _ _ h1 h2, takeB_0, takeB_0, takeB_2]; cases hasB a e <;> cases hasB b e <;> rfl
theorem less_meet (a b : SpL) : twoL 0 (twoL 2 a b) (twoL 1 a b) = twoL 0 a [] := two_eq fun e h1 h2 => by
  rw [two_has _ _ _ h1 h2, two_has _ _ _ h1 h2, takeB_0, takeB_0, takeB_2, takeB_1, hasB_nil]; cases hasB a e <;> cases hasB b e <;> rfl
theorem rightIn_nil : rightIn [] := ⟨⟨fun _ h => by simp at h, List.Pairwise.nil⟩, fun _ h => by simp at h⟩
theorem less_none (a b : SpL) : twoL 1 (twoL 2 a b) b = [] :=
  rightIn_one (two_right _ _ _) rightIn_nil fun e h1 h2 => by
    rw [two_has _ _ _ h1 h2, two_has _ _ _ h1 h2, takeB_1, takeB_2, hasB_nil]; cases hasB a e <;> cases hasB b e <;> rfl
/-- All days. -/
def allL : SpL := [(1, 3652060)]
theorem rightIn_all : rightIn allL :=
  ⟨⟨fun s h => by rcases List.mem_singleton.1 h with rfl; decide, List.pairwise_singleton _ _⟩, fun s h => by rcases List.mem_singleton.1 h with rfl; decide⟩
theorem has_all {d : Int} (h1 : 1 ≤ d) (h2 : d ≤ 3652059) : hasB allL d = true := hasB_iff.2 ⟨⟨h1, h2⟩, (1, 3652060), List.mem_singleton.2 rfl, h1, by show d < 3652060; omega⟩
theorem less_twice (a : SpL) : twoL 2 allL (twoL 2 allL a) = twoL 0 a [] := two_eq fun e h1 h2 => by
  rw [two_has _ _ _ h1 h2, takeB_2, takeB_2, takeB_0, has_all h1 h2, hasB_nil]; cases hasB a e <;> rfl
theorem may_right {l : SpL} (h : rightIn l) : decide (l = twoL 0 l []) = true := decide_eq_true (may_iff.2 h)
/-- A day is in what is widened just if one of the days ahead is in what was. -/
theorem wide_has (k : Int) (a : SpL) {d : Int} (h1 : 1 ≤ d) (h2 : d ≤ 3652059) : hasB (wideL k a) d = true ↔ ∃ e, hasB a e = true ∧ e ≤ d ∧ d ≤ e + clampK k := by
  have hc := clampK_in k
  unfold wideL
  rw [two_has _ _ _ h1 h2, takeB_0, hasB_nil, Bool.or_false, hasB_iff]
  obtain ⟨⟨hr, _⟩, hin⟩ := two_right 0 a []
  have hm := (two_spec 0 a []).2
  constructor
  · rintro ⟨_, s, hs, q1, q2⟩
    unfold widenL at hs
    obtain ⟨t, ht, rfl⟩ := List.mem_map.1 hs
    have hlt := hr t ht
    have hi := hin t ht
    simp only at q1 q2
    by_cases hd : d < t.2
    · have := (hm d).1 ⟨t, ht, q1, hd⟩
      rw [takeB_0, hasB_nil, Bool.or_false] at this
      exact ⟨d, this.2, Int.le_refl _, by omega⟩
    · have := (hm (t.2 - 1)).1 ⟨t, ht, by omega, by omega⟩
      rw [takeB_0, hasB_nil, Bool.or_false] at this
      exact ⟨t.2 - 1, this.2, by omega, by omega⟩
  · rintro ⟨e, he, q1, q2⟩
    have hb := (hasB_iff.1 he).1
    obtain ⟨s, hs, q3, q4⟩ := (hm e).2 ⟨hb, by rw [takeB_0, he, Bool.true_or]⟩
    refine ⟨⟨h1, h2⟩, (s.1, s.2 + clampK k), List.mem_map.2 ⟨s, hs, rfl⟩, ?_, ?_⟩
    · show s.1 ≤ d; omega
    · show d < s.2 + clampK k; omega
theorem wide_right (k : Int) (a : SpL) : rightIn (wideL k a) := two_right _ _ _
theorem bool_iff {a b : Bool} (h : a = true ↔ b = true) : a = b := by cases a <;> cases b <;> simp_all
theorem clamp_le {k e d : Int} (hk : 0 ≤ k) (he : 1 ≤ e) (hd : d ≤ 3652059) : d ≤ e + clampK k ↔ d ≤ e + k := by
  unfold clampK
  split
  · omega
  · split <;> omega
theorem wide_wide {k n : Int} (hk : 0 ≤ k) (hn : 0 ≤ n) (a : SpL) : wideL n (wideL k a) = wideL (k + n) a :=
  rightIn_one (wide_right _ _) (wide_right _ _) fun d h1 h2 => bool_iff (by
    rw [wide_has _ _ h1 h2, wide_has _ _ h1 h2]
    constructor
    · rintro ⟨e, he, q1, q2⟩
      have hb := (hasB_iff.1 he).1
      obtain ⟨f, hf, q3, q4⟩ := (wide_has k a hb.1 hb.2).1 he
      have hb' := (hasB_iff.1 hf).1
      rw [clamp_le hn hb.1 h2] at q2
      rw [clamp_le hk hb'.1 hb.2] at q4
      exact ⟨f, hf, by omega, (clamp_le (by omega) hb'.1 h2).2 (by omega)⟩
    · rintro ⟨f, hf, q1, q2⟩
      have hb' := (hasB_iff.1 hf).1
      rw [clamp_le (by omega) hb'.1 h2] at q2
      by_cases hd : d ≤ f + k
      · exact ⟨d, (wide_has k a h1 h2).2 ⟨f, hf, q1, (clamp_le hk hb'.1 h2).2 hd⟩, Int.le_refl _, (clamp_le hn h1 h2).2 (by omega)⟩
      · refine ⟨f + k, (wide_has k a (by omega) (by omega)).2 ⟨f, hf, by omega, (clamp_le hk hb'.1 (by omega)).2 (by omega)⟩, by omega, (clamp_le hn (by omega) h2).2 (by omega)⟩)
/-- Is one of j days from lo on in? -/
def nearB (a : SpL) (lo : Int) (j : Nat) : Bool := (List.range j).any fun i => hasB a (lo + (i : Int))
theorem nearB_0 (a : SpL) (lo : Int) : nearB a lo 0 = false := rfl
theorem nearB_more (a : SpL) (lo : Int) (j : Nat) : nearB a lo (j + 1) = (nearB a lo j || hasB a (lo + (j : Int))) := by
  unfold nearB
  rw [List.range_succ, List.any_append]; simp
theorem near_wide (a : SpL) {k lo d : Int} (hk : 0 ≤ k) (h1 : 1 ≤ d) (h2 : d ≤ 3652059) (hlo : lo = max (d - k) 1) {j : Nat} (hj : (j : Int) = d - lo + 1) : nearB a lo j = hasB (wideL k a) d := bool_iff (by
  rw [wide_has _ _ h1 h2]
  unfold nearB
  rw [List.any_eq_true]
  constructor
  · rintro ⟨i, hi, he⟩
    have := List.mem_range.1 hi
    have hb := (hasB_iff.1 he).1
    exact ⟨lo + (i : Int), he, by omega, (clamp_le hk hb.1 h2).2 (by omega)⟩
  · rintro ⟨e, he, q1, q2⟩
    have hb := (hasB_iff.1 he).1
    rw [clamp_le hk hb.1 h2] at q2
    refine ⟨(e - lo).toNat, List.mem_range.2 (by omega), ?_⟩
    rw [show lo + ((e - lo).toNat : Int) = e by omega]; exact he)
/-- How many days below n+1 are in. -/
def cntTo (l : SpL) : Nat → Int
  | 0 => 0
  | n + 1 => cntTo l n + (if hasB l ((n : Int) + 1) = true then 1 else 0)
theorem cnt_add {a b c d : SpL} (h : ∀ e, 1 ≤ e → e ≤ 3652059 → (if hasB a e = true then (1 : Int) else 0) + (if hasB b e = true then 1 else 0) = (if hasB c e = true then 1 else 0) + (if hasB d e = true then 1 else 0)) : ∀ n : Nat, n ≤ 3652059 → cntTo a n + cntTo b n = cntTo c n + cntTo d n
  | 0, _ => rfl
  | n + 1, hn => by
    have ih := cnt_add h n (by omega)
    have := h ((n : Int) + 1) (by omega) (by omega)
    unfold cntTo
    omega
theorem cnt_one {x y : Int} (h1 : 1 ≤ x) (h : x < y) (h2 : y ≤ 3652060) : ∀ n : Nat, n ≤ 3652059 → cntTo [(x, y)] n = (if (n : Int) < x then 0 else if (n : Int) < y then (n : Int) - x + 1 else y - x)
  | 0, _ => by unfold cntTo; rw [if_pos (by omega)]
  | n + 1, hn => by
    have ih := cnt_one h1 h h2 n (by omega)
    have hb : hasB [(x, y)] ((n : Int) + 1) = true ↔ x ≤ (n : Int) + 1 ∧ (n : Int) + 1 < y := by
      rw [hasB_iff, memP_one]
      constructor
      · rintro ⟨_, q⟩; exact q
      · intro q; exact ⟨⟨by omega, by omega⟩, q⟩
    unfold cntTo
    rw [ih]
    by_cases q : x ≤ (n : Int) + 1 ∧ (n : Int) + 1 < y
    · rw [if_pos (hb.2 q)]; repeat' split
      all_goals omega
    · rw [if_neg (fun e => q (hb.1 e))]; repeat' split
      all_goals omega
theorem cnt_nil : ∀ n, cntTo [] n = 0
  | 0 => rfl
  | n + 1 => by unfold cntTo; rw [cnt_nil n, hasB_nil]; rfl
theorem hasB_cons {s : Int × Int} {l : SpL} {e : Int} : hasB (s :: l) e = (hasB [s] e || hasB l e) := bool_iff (by
  rw [Bool.or_eq_true, hasB_iff, hasB_iff, hasB_iff, memP_cons, memP_one]
  constructor
  · rintro ⟨q, h | h⟩
    · exact .inl ⟨q, h⟩
    · exact .inr ⟨q, h⟩
  · rintro (⟨q, h⟩ | ⟨q, h⟩)
    · exact ⟨q, .inl h⟩
    · exact ⟨q, .inr h⟩)
/-- How many days a right list has. -/
theorem sum_cnt : ∀ {l : SpL}, rightIn l → sumDays l = cntTo l 3652059
  | [], _ => by rw [cnt_nil]; rfl
  | s :: l, h => by
    obtain ⟨hr, hin⟩ := h
    obtain ⟨hlt, hfar⟩ := rightP_head hr
    have ih := sum_cnt (l := l) ⟨rightP_tail hr, fun t ht => hin t (List.mem_cons_of_mem _ ht)⟩
    have hi := hin s List.mem_cons_self
    have e1 : cntTo [s] 3652059 = s.2 - s.1 := by
      have := cnt_one hi.1 hlt hi.2 3652059 (Nat.le_refl _)
      rw [if_neg (by omega)] at this
      rw [this]
      split <;> omega
    have e2 := cnt_add (a := [s]) (b := l) (c := s :: l) (d := []) (fun e h1 h2 => by
      have hcons : hasB (s :: l) e = (hasB [s] e || hasB l e) := hasB_cons
      rw [hcons, hasB_nil]
      cases ha : hasB [s] e with
      | false => simp
      | true =>
        cases hb : hasB l e with
        | false => simp
        | true =>
          obtain ⟨_, t, ht, q1, q2⟩ := hasB_iff.1 hb
          have := memP_one.1 (hasB_iff.1 ha).2
          have := hfar t ht
          omega) 3652059 (Nat.le_refl _)
    rw [cnt_nil, e1, ← ih] at e2
    show s.2 - s.1 + sumDays l = _
    omega
theorem sum_in {l : SpL} (h : rightIn l) : 0 ≤ sumDays l ∧ sumDays l ≤ 3652059 := by
  rw [sum_cnt h]
  have : ∀ n : Nat, 0 ≤ cntTo l n ∧ cntTo l n ≤ (n : Int) := by
    intro n
    induction n with
    | zero => exact ⟨Int.le_refl _, Int.le_refl _⟩
    | succ n ih => unfold cntTo; split <;> omega
  have := this 3652059
  omega
/-- Days of both are those of the one, and of the other one, less those they share. -/
theorem sum_union (a b : SpL) : sumDays (twoL 0 (twoL 0 a b) []) + sumDays (twoL 0 (twoL 1 a b) []) = sumDays (twoL 0 a []) + sumDays (twoL 0 b []) := by
  rw [sum_cnt (two_right _ _ _), sum_cnt (two_right _ _ _), sum_cnt (two_right _ _ _), sum_cnt (two_right _ _ _)]
  refine cnt_add (fun e h1 h2 => ?_) 3652059 (Nat.le_refl _)
  simp only [two_has _ _ _ h1 h2, takeB_0, takeB_1, hasB_nil, Bool.or_false]
  cases hasB a e <;> cases hasB b e <;> rfl
end Corr

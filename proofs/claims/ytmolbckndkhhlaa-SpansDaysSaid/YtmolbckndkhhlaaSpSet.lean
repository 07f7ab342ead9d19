/- What Two, Of, Wide, Days of the document's tell, as sets of days. No walk in this text. -/
import Derived.Test.YtmolbckndkhhlaaSpMath
namespace Corr
/-- A right list within all days. -/
def rightIn (l : SpL) : Prop := rightP l ∧ ∀ s ∈ l, 1 ≤ s.1 ∧ s.2 ≤ 3652060
theorem hasB_iff {l : SpL} {d : Int} : hasB l d = true ↔ (1 ≤ d ∧ d ≤ 3652059) ∧ memP l d := by
  unfold hasB
  rw [Bool.and_eq_true, decide_eq_true_iff, List.any_eq_true]
  constructor
  · rintro ⟨h, s, hs, h2⟩; exact ⟨h, s, hs, of_decide_eq_true h2⟩
  · rintro ⟨h, s, hs, h2⟩; exact ⟨h, s, hs, decide_eq_true h2⟩
theorem heldI_of {n : Int} (h1 : 1 ≤ n) (h2 : n ≤ 3652060) : heldI n = n := by unfold heldI; rw [if_neg (by omega), if_neg (by omega)]
/-- No end between two days: either both are in or neither. -/
theorem has_const {l : SpL} {e d : Int} (h1 : 1 ≤ e) (h2 : e ≤ d) (h3 : d ≤ 3652059) (hn : ∀ s ∈ l, ∀ x, (x = heldI s.1 ∨ x = heldI s.2) → ¬ (e < x ∧ x ≤ d)) : hasB l e = hasB l d := by
  rw [Bool.eq_iff_iff, hasB_iff, hasB_iff]
  have key : ∀ s ∈ l, (s.1 ≤ e ∧ e < s.2) ↔ (s.1 ≤ d ∧ d < s.2) := by
    intro s hs
    have a := hn s hs (heldI s.1) (.inl rfl)
    have b := hn s hs (heldI s.2) (.inr rfl)
    by_cases c1 : 1 ≤ s.1 ∧ s.1 ≤ 3652060
    · rw [heldI_of c1.1 c1.2] at a
      by_cases c2 : 1 ≤ s.2 ∧ s.2 ≤ 3652060
      · rw [heldI_of c2.1 c2.2] at b; omega
      · omega
    · by_cases c2 : 1 ≤ s.2 ∧ s.2 ≤ 3652060
      · rw [heldI_of c2.1 c2.2] at b; omega
      · omega
  constructor
  · rintro ⟨_, s, hs, h⟩; exact ⟨by omega, s, hs, (key s hs).1 h⟩
  · rintro ⟨_, s, hs, h⟩; exact ⟨by omega, s, hs, (key s hs).2 h⟩
theorem between {l : List Int} {d : Int} (hr : rise l) {x y : Int} (hx : x ∈ l) (hy : y ∈ l) (h1 : x ≤ d) (h2 : d < y) : ∃ i, i < l.length - 1 ∧ l.getD i 0 ≤ d ∧ d < l.getD (i + 1) 0 := by
  obtain ⟨i, hi, rfl⟩ := List.getElem_of_mem hx
  obtain ⟨j, hj, rfl⟩ := List.getElem_of_mem hy
  have gd : ∀ k (h : k < l.length), l.getD k 0 = l[k] := fun k h => by rw [List.getD_eq_getElem?_getD, List.getElem?_eq_getElem h]; rfl
  have hij : i < j := by
    rcases Nat.lt_or_ge i j with h | h
    · exact h
    · rcases Nat.eq_or_lt_of_le h with h | h
      · subst h; omega
      · have := List.pairwise_iff_getElem.1 hr j i hj hi h; omega
  have step : ∀ m, i + m ≤ j → l.getD (i + m) 0 ≤ d ∨ ∃ k, k < l.length - 1 ∧ l.getD k 0 ≤ d ∧ d < l.getD (k + 1) 0 := by
    intro m
    induction m with
    | zero => intro _; exact .inl (by rw [Nat.add_zero, gd i hi]; exact h1)
    | succ m ih =>
      intro hm
      rcases ih (by omega) with h | h
      · by_cases h3 : l.getD (i + m + 1) 0 ≤ d
        · exact .inl h3
        · exact .inr ⟨i + m, by omega, h, by omega⟩
      · exact .inr h
  rcases step (j - i) (by omega) with h | h
  · rw [show i + (j - i) = j by omega, gd j hj] at h; omega
  · exact h
theorem takeB_no (kind : Int) : takeB kind false false = false := by
  unfold takeB
  split
  · rfl
  · split <;> rfl
/-- What Two tells is the right list of its set. -/
theorem two_spec (kind : Int) (a b : SpL) : rightIn (twoL kind a b) ∧ ∀ d, memP (twoL kind a b) d ↔ (1 ≤ d ∧ d ≤ 3652059) ∧ takeB kind (hasB a d) (hasB b d) = true := by
  have hr := endsAB_rise a b
  have hin : ∀ x ∈ endsAB a b, 1 ≤ x ∧ x ≤ 3652060 := fun x hx => endsAB_in hx
  unfold twoL
  rcases Nat.eq_zero_or_pos (endsAB a b).length with h0 | h0
  · have e : endsAB a b = [] := List.length_eq_zero_iff.1 h0
    rw [e]
    refine ⟨⟨⟨fun s h => (by cases h), List.Pairwise.nil⟩, fun s h => (by cases h)⟩, fun d => ⟨fun h => absurd h (memP_nil d), fun ⟨hd, h⟩ => ?_⟩⟩
    have none : ∀ {l : SpL}, (∀ s ∈ l, heldI s.1 ∈ endsAB a b) → hasB l d = false := by
      intro l hl
      cases hb : hasB l d with
      | false => rfl
      | true =>
        obtain ⟨_, s, hs, _⟩ := hasB_iff.1 hb
        have := hl s hs
        rw [e] at this; cases this
    rw [none (fun s hs => endsAB_mem.2 (.inl ⟨s, hs, .inl rfl⟩)), none (fun s hs => endsAB_mem.2 (.inr ⟨s, hs, .inl rfl⟩)), takeB_no] at h
    cases h
  · obtain ⟨p, pb, pm⟩ := rightK_spec hr (bs := markL kind a b (endsAB a b)) ((endsAB a b).length - 1) (by omega)
    refine ⟨⟨p, fun s hs => ⟨(hin _ (pb s hs).2.1).1, (hin _ (pb s hs).2.2).2⟩⟩, fun d => ?_⟩
    have gd : ∀ k (h : k < (endsAB a b).length), (endsAB a b).getD k 0 = (endsAB a b)[k] := fun k h => by rw [List.getD_eq_getElem?_getD, List.getElem?_eq_getElem h]; rfl
    have mk : ∀ k (h : k < (endsAB a b).length), (markL kind a b (endsAB a b)).getD k false = takeB kind (hasB a (endsAB a b)[k]) (hasB b (endsAB a b)[k]) := fun k h => by
      unfold markL
      rw [List.getD_eq_getElem?_getD, List.getElem?_map, List.getElem?_eq_getElem h]; rfl
    have const : ∀ i, i < (endsAB a b).length - 1 → (endsAB a b).getD i 0 ≤ d → d < (endsAB a b).getD (i + 1) 0 → (1 ≤ d ∧ d ≤ 3652059) ∧ (markL kind a b (endsAB a b)).getD i false = takeB kind (hasB a d) (hasB b d) := by
      intro i hi h1 h2
      have hi1 : i < (endsAB a b).length := by omega
      have hi2 : i + 1 < (endsAB a b).length := by omega
      rw [gd i hi1] at h1
      rw [gd (i + 1) hi2] at h2
      have b1 := hin _ (List.getElem_mem hi1)
      have b2 := hin _ (List.getElem_mem hi2)
      have gap : ∀ x ∈ endsAB a b, ¬ ((endsAB a b)[i] < x ∧ x ≤ d) := by
        intro x hx ⟨h3, h4⟩
        obtain ⟨j, hj, rfl⟩ := List.getElem_of_mem hx
        have pw := List.pairwise_iff_getElem.1 hr
        rcases Nat.lt_trichotomy j i with h5 | h5 | h5
        · have := pw j i hj hi1 h5; omega
        · subst h5; omega
        · rcases Nat.eq_or_lt_of_le (show i + 1 ≤ j from h5) with h6 | h6
          · subst h6; omega
          · have := pw (i + 1) j hi2 hj h6; omega
      refine ⟨by omega, ?_⟩
      rw [mk i hi1, has_const (by omega) h1 (by omega) (fun s hs x hx => gap x (endsAB_mem.2 (.inl ⟨s, hs, hx⟩))), has_const (by omega) h1 (by omega) (fun s hs x hx => gap x (endsAB_mem.2 (.inr ⟨s, hs, hx⟩)))]
    rw [pm]
    constructor
    · rintro ⟨i, hi, h1, h2, h3⟩
      have := const i hi h2 h3
      exact ⟨this.1, by rw [← this.2]; exact h1⟩
    · rintro ⟨hd, h⟩
      have hab : hasB a d = true ∨ hasB b d = true := by
        cases h1 : hasB a d with
        | true => exact .inl rfl
        | false =>
          cases h2 : hasB b d with
          | true => exact .inr rfl
          | false => rw [h1, h2, takeB_no] at h; cases h
      have some_ : ∃ x ∈ endsAB a b, ∃ y ∈ endsAB a b, x ≤ d ∧ d < y := by
        rcases hab with hb | hb
        · obtain ⟨_, s, hs, h1, h2⟩ := hasB_iff.1 hb
          refine ⟨_, endsAB_mem.2 (.inl ⟨s, hs, .inl rfl⟩), _, endsAB_mem.2 (.inl ⟨s, hs, .inr rfl⟩), ?_⟩
          unfold heldI; repeat' split
          all_goals omega
        · obtain ⟨_, s, hs, h1, h2⟩ := hasB_iff.1 hb
          refine ⟨_, endsAB_mem.2 (.inr ⟨s, hs, .inl rfl⟩), _, endsAB_mem.2 (.inr ⟨s, hs, .inr rfl⟩), ?_⟩
          unfold heldI; repeat' split
          all_goals omega
      obtain ⟨x, hx, y, hy, h1, h2⟩ := some_
      obtain ⟨i, hi, h3, h4⟩ := between hr hx hy h1 h2
      exact ⟨i, hi, by rw [(const i hi h3 h4).2]; exact h, h3, h4⟩
theorem two_has (kind : Int) (a b : SpL) {d : Int} (h1 : 1 ≤ d) (h2 : d ≤ 3652059) : hasB (twoL kind a b) d = takeB kind (hasB a d) (hasB b d) := by
  rw [Bool.eq_iff_iff, hasB_iff, (two_spec kind a b).2]
  exact ⟨fun h => h.2.2, fun h => ⟨⟨h1, h2⟩, ⟨h1, h2⟩, h⟩⟩
/-- A right list is known by its days. -/
theorem rightIn_one {l m : SpL} (hl : rightIn l) (hm : rightIn m) (h : ∀ d, 1 ≤ d → d ≤ 3652059 → hasB l d = hasB m d) : l = m := by
  refine right_one hl.1 hm.1 fun d => ?_
  have bound : ∀ {l : SpL}, rightIn l → memP l d → 1 ≤ d ∧ d ≤ 3652059 := by
    rintro l hl ⟨s, hs, h1, h2⟩
    have := hl.2 s hs; omega
  constructor
  · intro hd
    obtain ⟨h1, h2⟩ := bound hl hd
    have := h d h1 h2
    rw [hasB_iff.2 ⟨⟨h1, h2⟩, hd⟩] at this
    exact (hasB_iff.1 this.symm).2
  · intro hd
    obtain ⟨h1, h2⟩ := bound hm hd
    have := h d h1 h2
    rw [hasB_iff.2 ⟨⟨h1, h2⟩, hd⟩] at this
    exact (hasB_iff.1 this).2
/-- Of tells the right list of the days; it tells a right list as it is. -/
theorem of_right {l : SpL} (h : rightIn l) : twoL 0 l [] = l := by
  refine rightIn_one (two_spec 0 l []).1 h fun d h1 h2 => ?_
  rw [two_has 0 l [] h1 h2]
  unfold takeB
  rw [if_pos rfl, show hasB [] d = false by unfold hasB; simp, Bool.or_false]
theorem may_iff {l : SpL} : l = twoL 0 l [] ↔ rightIn l := ⟨fun h => by rw [h]; exact (two_spec 0 l []).1, fun h => (of_right h).symm⟩
end Corr

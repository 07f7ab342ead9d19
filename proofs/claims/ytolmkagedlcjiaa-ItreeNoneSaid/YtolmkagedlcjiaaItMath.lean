/- What package itree looks for in a tree, step by step. Plain. -/
import Derived.Test.YtolmkagedlcjiaaAkVac
import Derived.Test.YtolmkagedlcjiaaIt2
namespace Corr
open Go Go.RowKit
set_option linter.unusedVariables false
def lowI : Int := -9223372036854775808
/-- Items as they may be: a day that is a number of the machine's, the end behind it. -/
def okL (l : ItL) : Prop := ∀ y ∈ l, lowI ≤ y.1 ∧ y.1 < y.2.1
abbrev hitB (low : Int) (E : Int → Bool) (y : It) : Bool := decide (low < y.2.1) && E y.1
/-- The least item behind another that ends above low and begins early. -/
def nextI (x : It) (low : Int) (E : Int → Bool) (l : ItL) : Option It := l.find? (fun y => lessB x y && hitB low E y)
theorem topL_le : ∀ {l : ItL} {x : It}, x ∈ l → x.2.1 ≤ topL l
  | [], x, h => absurd h List.not_mem_nil
  | [y], x, h => by
    obtain rfl : x = y := by simpa using h
    exact Int.le_refl _
  | y :: z :: r, x, h => by
    rw [topL_cons y (List.cons_ne_nil z r)]
    rcases List.mem_cons.1 h with rfl | h
    · omega
    · have := topL_le h; omega
theorem less_1 {x y : It} (h : x.1 < y.1) : lessB x y = true := by unfold lessB; rw [if_neg (by omega), decide_eq_true h]
theorem less_2 {x y : It} (h : x.1 = y.1) (h2 : x.2.1 < y.2.1) : lessB x y = true := by unfold lessB; rw [if_pos h, if_neg (by omega), decide_eq_true h2]
theorem less_3 {x y : It} (h : x.1 = y.1) (h2 : x.2.1 = y.2.1) (h3 : x.2.2 < y.2.2) : lessB x y = true := by unfold lessB; rw [if_pos h, if_pos h2, decide_eq_true h3]
theorem lessB_tri {x y : It} : lessB x y = true ∨ x = y ∨ lessB y x = true := by
  rcases Int.lt_trichotomy x.1 y.1 with h | h | h
  · exact .inl (less_1 h)
  · rcases Int.lt_trichotomy x.2.1 y.2.1 with h2 | h2 | h2
    · exact .inl (less_2 h h2)
    · rcases Int.lt_trichotomy x.2.2 y.2.2 with h3 | h3 | h3
      · exact .inl (less_3 h h2 h3)
      · exact .inr (.inl (Prod.ext h (Prod.ext h2 h3)))
      · exact .inr (.inr (less_3 h.symm h2.symm h3))
    · exact .inr (.inr (less_2 h.symm h2))
  · exact .inr (.inr (less_1 h))
theorem ordI_neg {x y : It} : ordI x y < 0 ↔ lessB x y = true := by
  constructor
  · intro h
    rcases lessB_tri (x := x) (y := y) with h1 | h1 | h1
    · exact h1
    · have := ordI_zero.2 h1; omega
    · have := ordI_pos.2 h1; omega
  · intro h
    rcases Int.lt_trichotomy (ordI x y) 0 with h1 | h1 | h1
    · exact h1
    · have := ordI_zero.1 h1; subst this; rw [lessB_irr] at h; cases h
    · have := lessB_trans (ordI_pos.1 h1) h; rw [lessB_irr] at this; cases this
theorem not_less {x y z : It} (h : lessB x y = false) (hz : lessB z y = true) : lessB x z = false := by
  cases e : lessB x z with
  | false => rfl
  | true => have := lessB_trans e hz; rw [h] at this; cases this
theorem less_from {x y : It} (h : lessB x y = true) : x.1 ≤ y.1 := by
  have := ordI_neg.2 h
  unfold ordI orI cmpZ at this
  revert this
  split <;> (try split) <;> (try split) <;> intro h <;> omega
def tailI : PT → ItL
  | .nil => []
  | .node _ _ y b => y :: b.items
/-- What is still ahead: of a tree, and behind it what waits. -/
def remI (s : PT) (st : List PT) : ItL := s.items ++ st.flatMap tailI
def okD (H : Nat) : List PT → Prop
  | [] => True
  | u :: r => u.height + r.length ≤ H ∧ okD H r
def msI (s : PT) (st : List PT) : Nat := 2 * s.items.length + (st.map fun u => 2 * (tailI u).length - 1).sum
structure NxI (x : It) (low : Int) (E : Int → Bool) (H : Nat) (s : PT) (st : List PT) (r : Option It) : Prop where
  up : srt (remI s st)
  nx : nextI x low E (remI s st) = r
  gt : ∀ u ∈ st, ∃ a q y b, u = .node a q y b ∧ lessB x y = true
  hs : s.height + st.length ≤ H
  hd : okD H st
section
variable {x : It} {low : Int} {E : Int → Bool} {H : Nat} {s a b : PT} {q : Nat} {y : It} {st : List PT} {r : Option It}
theorem NxI.start {t : PT} (h : srt t.items) : NxI x low E t.height t [] (nextI x low E t.items) :=
  ⟨by simpa [remI] using h, by simp [remI], fun _ h => absurd h List.not_mem_nil, by simp, trivial⟩
theorem rem_push : remI a (.node a q y b :: st) = remI (.node a q y b) st := by simp [remI, tailI, PT.items]
theorem NxI.push (h : NxI x low E H (.node a q y b) st r) (hx : lessB x y = true) : NxI x low E H a (.node a q y b :: st) r := by
  have hh := h.hs
  simp only [PT.height] at hh
  refine ⟨by rw [rem_push]; exact h.up, by rw [rem_push]; exact h.nx, fun u hu => ?_, by simp; omega, ⟨by simpa [PT.height] using h.hs, h.hd⟩⟩
  rcases List.mem_cons.1 hu with rfl | hu
  · exact ⟨_, _, _, _, rfl, hx⟩
  · exact h.gt u hu
theorem srt_right {l r : ItL} (h : srt (l ++ r)) : srt r := (List.pairwise_append.1 h).2.1
theorem rem_node : remI (.node a q y b) st = (a.items ++ [y]) ++ remI b st := by simp [remI, PT.items]
theorem NxI.right (h : NxI x low E H (.node a q y b) st r) (hx : lessB x y = false) : NxI x low E H b st r := by
  have hh := h.hs
  simp only [PT.height] at hh
  have hs := h.up
  refine ⟨by rw [rem_node] at hs; exact srt_right hs, ?_, h.gt, by omega, h.hd⟩
  have hn := h.nx
  rw [rem_node] at hn hs
  unfold nextI at hn ⊢
  rw [List.find?_append, List.find?_eq_none.2 ?_] at hn
  · simpa using hn
  · intro z hz
    have h1 := (List.pairwise_append.1 (List.pairwise_append.1 hs).1).2.2
    have : lessB x z = false := by
      rcases List.mem_append.1 hz with hz | hz
      · exact not_less hx (h1 z hz y (by simp))
      · obtain rfl : z = y := by simpa using hz
        exact hx
    rw [this]; simp
theorem NxI.skip (h : NxI x low E H s st r) (hs : ∀ y ∈ s.items, y.2.1 ≤ low) : nextI x low E (st.flatMap tailI) = r := by
  have hn := h.nx
  unfold nextI remI at hn
  rw [List.find?_append, List.find?_eq_none.2 ?_] at hn
  · exact hn
  · intro z hz
    have := hs z hz
    simp only [hitB]
    rw [decide_eq_false (by omega)]; simp
theorem NxI.over (h : NxI x low E H s [] r) (hs : ∀ y ∈ s.items, y.2.1 ≤ low) : r = .none := by
  rw [← h.skip hs]; rfl
theorem NxI.late (h : NxI x low E H s (.node a q y b :: st) r) (hs : ∀ y ∈ s.items, y.2.1 ≤ low) (hE : ∀ i j, i ≤ j → E j = true → E i = true) (he : E y.1 = false) : r = none := by
  rw [← h.skip hs]
  unfold nextI
  rw [List.find?_eq_none]
  intro z hz
  have h1 := srt_right h.up
  have : E z.1 = false := by
    have h2 : z = y ∨ lessB y z = true := by
      rw [List.flatMap_cons, show tailI (.node a q y b) = y :: b.items from rfl, List.cons_append] at h1 hz
      rcases List.mem_cons.1 hz with hz | hz
      · exact .inl hz
      · exact .inr ((List.pairwise_cons.1 h1).1 z hz)
    rcases h2 with rfl | h2
    · exact he
    · cases e : E z.1 with
      | false => rfl
      | true => have := hE _ _ (less_from h2) e; rw [he] at this; cases this
  simp [hitB, this]
theorem NxI.here (h : NxI x low E H s (.node a q y b :: st) r) (hs : ∀ y ∈ s.items, y.2.1 ≤ low) (he : E y.1 = true) (ht : low < y.2.1) : r = some y := by
  rw [← h.skip hs]
  obtain ⟨a', q', y', b', e, hx⟩ := h.gt _ List.mem_cons_self
  injection e with _ _ e _
  subst e
  unfold nextI
  rw [List.flatMap_cons, show tailI (.node a q y b) = y :: b.items from rfl, List.cons_append, List.find?_cons_of_pos]
  simp [hx, hitB, he, ht]
theorem NxI.pop (h : NxI x low E H s (.node a q y b :: st) r) (hs : ∀ y ∈ s.items, y.2.1 ≤ low) (ht : y.2.1 ≤ low) : NxI x low E H b st r := by
  have h1 := srt_right h.up
  have h2 := h.skip hs
  have h3 := h.hd.1
  simp only [PT.height] at h3
  rw [List.flatMap_cons, show tailI (.node a q y b) = y :: b.items from rfl, List.cons_append] at h1 h2
  refine ⟨(List.pairwise_cons.1 h1).2, ?_, fun u hu => h.gt u (List.mem_cons_of_mem _ hu), by omega, h.hd.2⟩
  unfold nextI at h2
  rw [List.find?_cons_of_neg] at h2
  · exact h2
  · simp only [hitB]
    rw [decide_eq_false (by omega)]; simp
theorem NxI.room (h : NxI x low E H (.node a q y b) st r) (hH : H ≤ 28) : st.length < 28 := by
  have := h.hs
  simp only [PT.height] at this; omega
theorem ms_push : msI a (.node a q y b :: st) < msI (.node a q y b) st := by
  simp only [msI, List.map_cons, List.sum_cons, tailI, PT.items, List.length_append, List.length_cons]; omega
theorem ms_right : msI b st < msI (.node a q y b) st := by
  simp only [msI, PT.items, List.length_append, List.length_cons]; omega
theorem ms_pop : msI b st < msI s (.node a q y b :: st) := by
  simp only [msI, List.map_cons, List.sum_cons, tailI, List.length_cons]; omega
end
/-- The last node on the way from the root that fits. -/
def dnI (fit : It → Bool) (lf : Bool) : PT → Option It → Option It
  | .nil, f => f
  | .node a _ y b, f => if fit y == lf then dnI fit lf a (if fit y then some y else f) else dnI fit lf b (if fit y then some y else f)
theorem idn_first {day : Int} : ∀ {t : PT} {f : Option It}, srt t.items → dnI (fun y => decide (y.1 ≥ day)) true t f = (t.items.find? (fun y => decide (y.1 ≥ day))).or f
  | .nil, f, _ => rfl
  | .node a q y b, f, h => by
    obtain ⟨h1, h2, h3, h4⟩ := srt_node h
    unfold dnI
    rw [PT.items, List.find?_append]
    by_cases hy : y.1 ≥ day
    · have hd : (fun y : It => decide (y.1 ≥ day)) y = true := decide_eq_true hy
      rw [List.find?_cons_of_pos (p := fun y : It => decide (y.1 ≥ day)) hd, if_pos (by simpa using hy), if_pos hd, idn_first h1]
      cases a.items.find? (fun y => decide (y.1 ≥ day)) <;> rfl
    · have hd : (fun y : It => decide (y.1 ≥ day)) y = false := decide_eq_false hy
      rw [List.find?_eq_none.2 (fun z hz => by have := less_from (h3 z hz); simp; omega), List.find?_cons_of_neg (p := fun y : It => decide (y.1 ≥ day)) (by simpa using hy), if_neg (by simpa using hy), if_neg (by simpa using hy), idn_first h2]; rfl
theorem idn_last {day : Int} : ∀ {t : PT} {f : Option It}, srt t.items → dnI (fun y => decide (y.1 ≤ day)) false t f = (t.items.reverse.find? (fun y => decide (y.1 ≤ day))).or f
  | .nil, f, _ => rfl
  | .node a q y b, f, h => by
    obtain ⟨h1, h2, h3, h4⟩ := srt_node h
    unfold dnI
    rw [PT.items, List.reverse_append, List.reverse_cons, List.append_assoc, List.find?_append]
    by_cases hy : y.1 ≤ day
    · have hd : (fun y : It => decide (y.1 ≤ day)) y = true := decide_eq_true hy
      rw [List.singleton_append, List.find?_cons_of_pos (p := fun y : It => decide (y.1 ≤ day)) hd, if_neg (by simpa using hy), if_pos hd, idn_last h2]
      cases b.items.reverse.find? (fun y => decide (y.1 ≤ day)) <;> rfl
    · have hd : (fun y : It => decide (y.1 ≤ day)) y = false := decide_eq_false hy
      rw [List.find?_eq_none.2 (fun z hz => by have := less_from (h4 z (List.mem_reverse.1 hz)); simp; omega), List.singleton_append, List.find?_cons_of_neg (p := fun y : It => decide (y.1 ≤ day)) (by simpa using hy), if_pos (by simpa using hy), if_neg (by simpa using hy), idn_last h1]; rfl
/-- What is told one by one: behind so many, the next one. -/
theorem next_at {x : It} {low : Int} {E : Int → Bool} {l : ItL} (h : srt l) {k : Nat} (hx : (k = 0 ∧ ∀ y ∈ l, lessB x y = true) ∨ (∃ j, k = j + 1 ∧ (l.filter (hitB low E))[j]? = some x)) : nextI x low E l = (l.filter (hitB low E))[k]? := by
  have e : nextI x low E l = ((l.filter (hitB low E)).filter (lessB x)).head? := by
    unfold nextI
    rw [List.filter_filter, ← List.head?_filter]
  rw [e]
  have hs : srt (l.filter (hitB low E)) := List.Pairwise.filter _ h
  generalize hL : l.filter (hitB low E) = L at *
  rcases hx with ⟨rfl, hx⟩ | ⟨j, rfl, hj⟩
  · rw [List.filter_eq_self.2 (fun y hy => hx y (by rw [← hL] at hy; exact (List.mem_filter.1 hy).1)), List.head?_eq_getElem?]
  · have hk := (List.getElem?_eq_some_iff.1 hj).1
    have eL : L = (L.take j ++ [x]) ++ L.drop (j + 1) := by
      have : L.drop j = x :: L.drop (j + 1) := by rw [List.drop_eq_getElem_cons hk, (List.getElem?_eq_some_iff.1 hj).2]
      rw [List.append_assoc, List.singleton_append, ← this, List.take_append_drop]
    have h1 : L.filter (lessB x) = L.drop (j + 1) := by
      rw [eL] at hs
      obtain ⟨p1, p2, p3⟩ := List.pairwise_append.1 hs
      have q1 : (L.take j ++ [x]).filter (lessB x) = [] := by
        rw [List.filter_eq_nil_iff]
        intro z hz hxz
        rcases List.mem_append.1 hz with hz | hz
        · have h5 := (List.pairwise_append.1 p1).2.2 z hz x (by simp)
          have := lessB_trans hxz h5
          rw [lessB_irr] at this; cases this
        · obtain rfl : z = x := by simpa using hz
          rw [lessB_irr] at hxz; cases hxz
      have q2 : (L.drop (j + 1)).filter (lessB x) = L.drop (j + 1) := by
        rw [List.filter_eq_self]
        intro z hz
        exact p3 x (by simp) z hz
      calc L.filter (lessB x) = ((L.take j ++ [x]) ++ L.drop (j + 1)).filter (lessB x) := by rw [← eL]
        _ = L.drop (j + 1) := by rw [List.filter_append, q1, q2, List.nil_append]
    rw [h1, List.head?_drop]
theorem low_less {l : ItL} (h : okL l) : ∀ y ∈ l, lessB (lowI, lowI, lowI) y = true := by
  intro y hy
  obtain ⟨h1, h2⟩ := h y hy
  rcases Int.lt_or_eq_of_le h1 with e | e
  · exact less_1 e
  · exact less_2 e (by show lowI < y.2.1; omega)
theorem ok_ins {l : ItL} {M : Int} {x : It} (h : okL l) (hx : lowI ≤ x.1) : okL (insL M x l) := by
  unfold insL
  split
  · rename_i h0
    intro y hy
    have : y ∈ l ∨ y = x := by
      unfold insI at hy
      rcases List.mem_append.1 hy with hy | hy
      · exact .inl (List.mem_of_mem_take hy)
      · rcases List.mem_cons.1 hy with hy | hy
        · exact .inr hy
        · exact .inl (List.mem_of_mem_drop hy)
    rcases this with hy | rfl
    · exact h y hy
    · refine ⟨hx, ?_⟩
      unfold insR at h0
      split at h0
      · cases h0
      · omega
  · exact h
end Corr

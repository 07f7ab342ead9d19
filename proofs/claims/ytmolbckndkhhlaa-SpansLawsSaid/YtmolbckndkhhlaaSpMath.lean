/- Spans as sets of days: what Two tells is the one right list of a set. No walk in this text. -/
import Derived.Test.YtmolbckndkhhlaaSp7
namespace Corr
/-- Right spans. -/
def rightP (l : SpL) : Prop := (∀ s ∈ l, s.1 < s.2) ∧ l.Pairwise (fun s t => s.2 < t.1)
/-- A day of one of them? -/
def memP (l : SpL) (d : Int) : Prop := ∃ s ∈ l, s.1 ≤ d ∧ d < s.2
theorem memP_nil (d : Int) : ¬ memP [] d := fun ⟨_, h, _⟩ => by cases h
theorem memP_cons {s : Int × Int} {l : SpL} {d : Int} : memP (s :: l) d ↔ (s.1 ≤ d ∧ d < s.2) ∨ memP l d := by
  constructor
  · rintro ⟨t, ht, h⟩
    rcases List.mem_cons.1 ht with rfl | ht
    · exact .inl h
    · exact .inr ⟨t, ht, h⟩
  · rintro (h | ⟨t, ht, h⟩)
    · exact ⟨s, List.mem_cons_self, h⟩
    · exact ⟨t, List.mem_cons_of_mem _ ht, h⟩
theorem memP_append {l m : SpL} {d : Int} : memP (l ++ m) d ↔ memP l d ∨ memP m d := by
  constructor
  · rintro ⟨t, ht, h⟩
    rcases List.mem_append.1 ht with ht | ht
    · exact .inl ⟨t, ht, h⟩
    · exact .inr ⟨t, ht, h⟩
  · rintro (⟨t, ht, h⟩ | ⟨t, ht, h⟩)
    · exact ⟨t, List.mem_append_left _ ht, h⟩
    · exact ⟨t, List.mem_append_right _ ht, h⟩
theorem memP_one {s : Int × Int} {d : Int} : memP [s] d ↔ (s.1 ≤ d ∧ d < s.2) := by
  rw [memP_cons]; exact ⟨fun h => h.resolve_right (memP_nil d), .inl⟩
theorem rightP_tail {s : Int × Int} {l : SpL} (h : rightP (s :: l)) : rightP l := ⟨fun t ht => h.1 t (List.mem_cons_of_mem _ ht), (List.pairwise_cons.1 h.2).2⟩
theorem rightP_head {s : Int × Int} {l : SpL} (h : rightP (s :: l)) : s.1 < s.2 ∧ ∀ t ∈ l, s.2 < t.1 := ⟨h.1 s List.mem_cons_self, (List.pairwise_cons.1 h.2).1⟩
/-- There is just one right list of a set of days. -/
theorem right_one : ∀ {l m : SpL}, rightP l → rightP m → (∀ d, memP l d ↔ memP m d) → l = m
  | [], [], _, _, _ => rfl
  | [], t :: q, _, hm, h => by
    have h1 := (rightP_head hm).1
    exact absurd ((h t.1).2 (memP_cons.2 (.inl ⟨Int.le_refl _, h1⟩))) (memP_nil _)
  | s :: r, [], hl, _, h => by
    have h1 := (rightP_head hl).1
    exact absurd ((h s.1).1 (memP_cons.2 (.inl ⟨Int.le_refl _, h1⟩))) (memP_nil _)
  | s :: r, t :: q, hl, hm, h => by
    obtain ⟨s1, s2⟩ := rightP_head hl
    obtain ⟨t1, t2⟩ := rightP_head hm
    have low : ∀ {s : Int × Int} {r : SpL} {d : Int}, (∀ u ∈ r, s.2 < u.1) → s.1 < s.2 → memP (s :: r) d → s.1 ≤ d := by
      intro s r d h2 h1 hd
      rcases memP_cons.1 hd with h | ⟨u, hu, h, _⟩
      · exact h.1
      · have := h2 u hu; omega
    have e1 : s.1 = t.1 := by
      have a := low t2 t1 ((h s.1).1 (memP_cons.2 (.inl ⟨Int.le_refl _, s1⟩)))
      have b := low s2 s1 ((h t.1).2 (memP_cons.2 (.inl ⟨Int.le_refl _, t1⟩)))
      omega
    have end_ : ∀ {s : Int × Int} {r : SpL}, (∀ u ∈ r, s.2 < u.1) → ¬ memP (s :: r) s.2 := by
      intro s r h2 hd
      rcases memP_cons.1 hd with h | ⟨u, hu, h, _⟩
      · omega
      · have := h2 u hu; omega
    have e2 : s.2 = t.2 := by
      rcases Int.lt_trichotomy s.2 t.2 with h3 | h3 | h3
      · exact absurd ((h s.2).2 (memP_cons.2 (.inl ⟨by omega, h3⟩))) (end_ s2)
      · exact h3
      · exact absurd ((h t.2).1 (memP_cons.2 (.inl ⟨by omega, h3⟩))) (end_ t2)
    have e : s = t := Prod.ext e1 e2
    subst e
    have : r = q := right_one (rightP_tail hl) (rightP_tail hm) fun d => by
      have hd := h d
      rw [memP_cons, memP_cons] at hd
      constructor
      · intro hr
        rcases hd.1 (.inr hr) with h4 | h4
        · obtain ⟨u, hu, h5, _⟩ := hr
          have := s2 u hu; omega
        · exact h4
      · intro hr
        rcases hd.2 (.inr hr) with h4 | h4
        · obtain ⟨u, hu, h5, _⟩ := hr
          have := t2 u hu; omega
        · exact h4
    rw [this]
/-- Ends that rise. -/
def rise (l : List Int) : Prop := l.Pairwise (· < ·)
theorem insE_mem {n x : Int} : ∀ {l : List Int}, x ∈ insE n l ↔ x = n ∨ x ∈ l
  | [] => by simp [insE]
  | y :: r => by
    have ih := insE_mem (n := n) (x := x) (l := r)
    unfold insE
    split
    · rw [List.mem_cons, ih, List.mem_cons]
      constructor
      · rintro (h | h | h)
        · exact .inr (.inl h)
        · exact .inl h
        · exact .inr (.inr h)
      · rintro (h | h | h)
        · exact .inr (.inl h)
        · exact .inl h
        · exact .inr (.inr h)
    · split
      · rename_i h
        rw [List.mem_cons]
        constructor
        · exact .inr
        · rintro (h2 | h2)
          · exact .inl (h2.trans h.symm)
          · exact h2
      · rw [List.mem_cons]
theorem insE_rise {n : Int} : ∀ {l : List Int}, rise l → rise (insE n l)
  | [], _ => List.pairwise_singleton _ _
  | y :: r, h => by
    obtain ⟨h1, h2⟩ := List.pairwise_cons.1 h
    unfold insE
    split
    · rename_i hy
      refine List.pairwise_cons.2 ⟨fun z hz => ?_, insE_rise h2⟩
      rcases insE_mem.1 hz with rfl | hz
      · exact hy
      · exact h1 z hz
    · split
      · exact h
      · refine List.pairwise_cons.2 ⟨fun z hz => ?_, h⟩
        rcases List.mem_cons.1 hz with rfl | hz
        · omega
        · have := h1 z hz; omega
theorem heldI_in (n : Int) : 1 ≤ heldI n ∧ heldI n ≤ 3652060 := by
  unfold heldI; repeat' split
  all_goals omega
theorem endsL_rise : ∀ {l : SpL} {o : List Int}, rise o → rise (endsL o l)
  | [], _, h => h
  | s :: r, o, h => by
    have e : endsL o (s :: r) = endsL (insE (heldI s.2) (insE (heldI s.1) o)) r := rfl
    rw [e]; exact endsL_rise (insE_rise (insE_rise h))
theorem endsL_mem {x : Int} : ∀ {l : SpL} {o : List Int}, x ∈ endsL o l ↔ x ∈ o ∨ ∃ s ∈ l, x = heldI s.1 ∨ x = heldI s.2
  | [], o => by simp [endsL]
  | s :: r, o => by
    have e : endsL o (s :: r) = endsL (insE (heldI s.2) (insE (heldI s.1) o)) r := rfl
    rw [e, endsL_mem, insE_mem, insE_mem]
    constructor
    · rintro ((h | h | h) | ⟨t, ht, h⟩)
      · exact .inr ⟨s, List.mem_cons_self, .inr h⟩
      · exact .inr ⟨s, List.mem_cons_self, .inl h⟩
      · exact .inl h
      · exact .inr ⟨t, List.mem_cons_of_mem _ ht, h⟩
    · rintro (h | ⟨t, ht, h⟩)
      · exact .inl (.inr (.inr h))
      · rcases List.mem_cons.1 ht with rfl | ht
        · rcases h with h | h
          · exact .inl (.inr (.inl h))
          · exact .inl (.inl h)
        · exact .inr ⟨t, ht, h⟩
theorem endsAB_rise (a b : SpL) : rise (endsAB a b) := endsL_rise (endsL_rise List.Pairwise.nil)
theorem endsAB_mem {a b : SpL} {x : Int} : x ∈ endsAB a b ↔ (∃ s ∈ a, x = heldI s.1 ∨ x = heldI s.2) ∨ ∃ s ∈ b, x = heldI s.1 ∨ x = heldI s.2 := by
  unfold endsAB
  rw [endsL_mem, endsL_mem]
  simp
theorem endsAB_in {a b : SpL} {x : Int} (h : x ∈ endsAB a b) : 1 ≤ x ∧ x ≤ 3652060 := by
  rcases endsAB_mem.1 h with ⟨s, _, h | h⟩ | ⟨s, _, h | h⟩ <;> rw [h] <;> exact heldI_in _
theorem rise_at {l : List Int} (h : rise l) {i j : Nat} {x y : Int} (hi : l[i]? = some x) (hj : l[j]? = some y) (hij : i < j) : x < y := by
  obtain ⟨h1, rfl⟩ := List.getElem?_eq_some_iff.1 hi
  obtain ⟨h2, rfl⟩ := List.getElem?_eq_some_iff.1 hj
  exact List.pairwise_iff_getElem.1 h i j h1 h2 hij
/-- The pieces up to the end number k. -/
theorem rightK_spec {es : List Int} {bs : List Bool} (hr : rise es) : ∀ (k : Nat), k < es.length →
    rightP (rightK es bs k) ∧ (∀ s ∈ rightK es bs k, s.2 ≤ es.getD k 0 ∧ s.1 ∈ es ∧ s.2 ∈ es) ∧ ∀ d, memP (rightK es bs k) d ↔ ∃ i, i < k ∧ bs.getD i false = true ∧ es.getD i 0 ≤ d ∧ d < es.getD (i + 1) 0
  | 0, _ => ⟨⟨fun s h => (by cases h), List.Pairwise.nil⟩, fun s h => (by cases h), fun d => ⟨fun h => absurd h (memP_nil d), fun ⟨i, hi, _⟩ => absurd hi (by omega)⟩⟩
  | k + 1, hk => by
    obtain ⟨⟨p1, p2⟩, pb, pm⟩ := rightK_spec hr (bs := bs) k (by omega)
    have ha : es[k]? = some (es.getD k 0) := by rw [List.getD_eq_getElem?_getD, List.getElem?_eq_getElem (by omega)]; rfl
    have hb : es[k + 1]? = some (es.getD (k + 1) 0) := by rw [List.getD_eq_getElem?_getD, List.getElem?_eq_getElem hk]; rfl
    have hab := rise_at hr ha hb (by omega)
    have ma := List.mem_of_getElem? ha
    have mb := List.mem_of_getElem? hb
    rw [rightK]
    generalize es.getD k 0 = a at *
    generalize hbk : es.getD (k + 1) 0 = b at *
    have grow : ∀ d, (∃ i, i < k + 1 ∧ bs.getD i false = true ∧ es.getD i 0 ≤ d ∧ d < es.getD (i + 1) 0) ↔ (∃ i, i < k ∧ bs.getD i false = true ∧ es.getD i 0 ≤ d ∧ d < es.getD (i + 1) 0) ∨ (bs.getD k false = true ∧ a ≤ d ∧ d < b) := by
      intro d
      have hak : es.getD k 0 = a := by rw [List.getD_eq_getElem?_getD, ha]; rfl
      constructor
      · rintro ⟨i, hi, h⟩
        by_cases e : i = k
        · subst e; rw [hak, hbk] at h; exact .inr h
        · exact .inl ⟨i, by omega, h⟩
      · rintro (⟨i, hi, h⟩ | h)
        · exact ⟨i, by omega, h⟩
        · exact ⟨k, by omega, by rw [hak, hbk]; exact h⟩
    cases hbs : bs.getD k false with
    | false =>
      rw [pieceR_no]
      refine ⟨⟨p1, p2⟩, fun s hs => ⟨by have := (pb s hs).1; omega, (pb s hs).2⟩, fun d => ?_⟩
      rw [pm, grow, hbs]; simp
    | true =>
      rcases List.eq_nil_or_concat (rightK es bs k) with h0 | ⟨r, s, h0⟩
      · rw [h0, pieceR_nil]
        refine ⟨⟨fun t ht => ?_, List.pairwise_singleton _ _⟩, fun t ht => ?_, fun d => ?_⟩
        · obtain rfl := List.mem_singleton.1 ht; exact hab
        · obtain rfl := List.mem_singleton.1 ht; exact ⟨Int.le_refl _, ma, mb⟩
        · rw [memP_one, grow, ← pm, h0, hbs]
          exact ⟨fun h => .inr ⟨rfl, h⟩, fun h => (h.resolve_left (memP_nil d)).2⟩
      · rw [List.concat_eq_append] at h0
        have hs := pb s (by rw [h0]; simp)
        have hs1 := p1 s (by rw [h0]; simp)
        by_cases hj : s.2 = a
        · have e : pieceR (rightK es bs k) a b true = r ++ [(s.1, b)] := by
            unfold pieceR
            rw [h0]; simp [hj]
          rw [e]
          rw [h0] at p1 p2 pb
          obtain ⟨q1, _, q3⟩ := List.pairwise_append.1 p2
          refine ⟨⟨fun t ht => ?_, List.pairwise_append.2 ⟨q1, List.pairwise_singleton _ _, fun t ht u hu => ?_⟩⟩, fun t ht => ?_, fun d => ?_⟩
          · rcases List.mem_append.1 ht with ht | ht
            · exact p1 t (List.mem_append_left _ ht)
            · obtain rfl := List.mem_singleton.1 ht; show s.1 < b; omega
          · obtain rfl := List.mem_singleton.1 hu
            exact q3 t ht s (by simp)
          · rcases List.mem_append.1 ht with ht | ht
            · have := pb t (List.mem_append_left _ ht); exact ⟨by omega, this.2⟩
            · obtain rfl := List.mem_singleton.1 ht; exact ⟨Int.le_refl _, hs.2.1, mb⟩
          · rw [grow, ← pm, h0, memP_append, memP_append, memP_one, memP_one, hbs]
            constructor
            · rintro (h | ⟨h1, h2⟩)
              · exact .inl (.inl h)
              · by_cases h3 : d < s.2
                · exact .inl (.inr ⟨h1, h3⟩)
                · exact .inr ⟨rfl, by omega, h2⟩
            · rintro ((h | ⟨h1, h2⟩) | ⟨_, h1, h2⟩)
              · exact .inl h
              · exact .inr ⟨h1, by show d < b; omega⟩
              · exact .inr ⟨by show s.1 ≤ d; omega, h2⟩
        · have e : pieceR (rightK es bs k) a b true = rightK es bs k ++ [(a, b)] := by
            unfold pieceR
            rw [h0]; simp [hj]
          rw [e]
          refine ⟨⟨fun t ht => ?_, List.pairwise_append.2 ⟨p2, List.pairwise_singleton _ _, fun t ht u hu => ?_⟩⟩, fun t ht => ?_, fun d => ?_⟩
          · rcases List.mem_append.1 ht with ht | ht
            · exact p1 t ht
            · obtain rfl := List.mem_singleton.1 ht; exact hab
          · obtain rfl := List.mem_singleton.1 hu
            show t.2 < a
            rw [h0] at ht
            rcases List.mem_append.1 ht with ht | ht
            · rw [h0] at p2
              have h5 := (List.pairwise_append.1 p2).2.2 t ht s (by simp)
              omega
            · obtain rfl := List.mem_singleton.1 ht; omega
          · rcases List.mem_append.1 ht with ht | ht
            · have := pb t ht; exact ⟨by omega, this.2⟩
            · obtain rfl := List.mem_singleton.1 ht; exact ⟨Int.le_refl _, ma, mb⟩
          · rw [grow, ← pm, memP_append, memP_one, hbs]
            exact ⟨fun h => h.imp id fun h => ⟨rfl, h⟩, fun h => h.imp id fun h => h.2⟩
end Corr

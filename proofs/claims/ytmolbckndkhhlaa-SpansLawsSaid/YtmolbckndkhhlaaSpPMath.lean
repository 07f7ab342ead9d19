/- What package spans does, as plain lists: spans held within all days, put behind right spans, sorted and joined; two right lists gone through side by side. No walk in this text. -/
import Derived.Test.YtmolbckndkhhlaaSpLaw
namespace Corr
open Go
/-- Those days of a span that are days. -/
def inI (s : Int × Int) : Int × Int := (max s.1 1, min s.2 3652060)
/-- A span behind right spans: joined to the last one, if it touches it. -/
def putL (l : SpL) (x : Int × Int) : SpL := match l.getLast? with
  | none => [x]
  | some s => if s.2 < x.1 then l ++ [x] else l.dropLast ++ [(s.1, max s.2 x.2)]
theorem putL_nil (x : Int × Int) : putL [] x = [x] := rfl
theorem putL_apart {out : SpL} {j : Nat} {s x : Int × Int} (hl : out.length = j + 1) (hs : out[j]? = some s) (h : s.2 < x.1) : putL out x = out ++ [x] := by
  obtain ⟨s', h1, h2⟩ := last_at hl
  obtain rfl := Option.some.inj (hs.symm.trans h1)
  unfold putL
  rw [h2]
  simp only [if_pos h]
theorem putL_join {out : SpL} {j : Nat} {s x : Int × Int} (hl : out.length = j + 1) (hs : out[j]? = some s) (h : ¬ s.2 < x.1) : putL out x = out.set j (s.1, max s.2 x.2) := by
  obtain ⟨s', h1, h2⟩ := last_at hl
  obtain rfl := Option.some.inj (hs.symm.trans h1)
  unfold putL
  rw [h2]
  simp only [if_neg h]
  apply List.ext_getElem?
  intro i
  by_cases e : i = j
  · subst e
    rw [List.getElem?_set_self (by omega), List.getElem?_append_right (by rw [List.length_dropLast]; omega), List.length_dropLast, hl]
    simp
  · rw [List.getElem?_set_ne (by omega)]
    by_cases h3 : i < j
    · rw [List.getElem?_append_left (by rw [List.length_dropLast]; omega), List.getElem?_dropLast, if_pos (by omega)]
    · rw [List.getElem?_eq_none (by simp; omega), List.getElem?_eq_none (by omega)]
theorem putL_len (l : SpL) (x : Int × Int) : (putL l x).length ≤ l.length + 1 := by
  unfold putL
  split
  · simp
  · rename_i s h
    split
    · simp
    · have : l ≠ [] := fun e => by rw [e] at h; cases h
      have := List.length_pos_iff.2 this
      rw [List.length_append, List.length_dropLast]
      simp only [List.length_singleton]
      omega
theorem rightP_snoc {m : SpL} {s : Int × Int} (h : rightP (m ++ [s])) : rightP m ∧ s.1 < s.2 ∧ ∀ t ∈ m, t.2 < s.1 := by
  obtain ⟨h1, h2⟩ := h
  obtain ⟨p1, _, p3⟩ := List.pairwise_append.1 h2
  exact ⟨⟨fun t ht => h1 t (List.mem_append_left _ ht), p1⟩, h1 s (by simp), fun t ht => p3 t ht s (by simp)⟩
theorem rightP_more {m : SpL} {s : Int × Int} (h : rightP m) (hs : s.1 < s.2) (hm : ∀ t ∈ m, t.2 < s.1) : rightP (m ++ [s]) := by
  refine ⟨fun t ht => ?_, List.pairwise_append.2 ⟨h.2, List.pairwise_singleton _ _, fun t ht u hu => ?_⟩⟩
  · rcases List.mem_append.1 ht with ht | ht
    · exact h.1 t ht
    · rw [List.mem_singleton.1 ht]; exact hs
  · rw [List.mem_singleton.1 hu]; exact hm t ht
theorem last_cases (l : SpL) : l = [] ∨ ∃ m s, l = m ++ [s] := by
  rcases List.eq_nil_or_concat l with h | ⟨m, s, h⟩
  · exact .inl h
  · exact .inr ⟨m, s, by rw [h, List.concat_eq_append]⟩
theorem putL_snoc (m : SpL) (s x : Int × Int) : putL (m ++ [s]) x = if s.2 < x.1 then m ++ [s] ++ [x] else m ++ [(s.1, max s.2 x.2)] := by
  unfold putL
  rw [List.getLast?_append, List.getLast?_singleton]
  simp only [Option.some_or, List.dropLast_concat]
/-- What is put behind right spans keeps them right, and adds its days. -/
theorem putL_right {l : SpL} {x : Int × Int} (hr : rightIn l) (h1 : 1 ≤ x.1) (h2 : x.1 < x.2) (h3 : x.2 ≤ 3652060) (hle : ∀ s ∈ l, s.1 ≤ x.1) :
    rightIn (putL l x) ∧ (∀ d, memP (putL l x) d ↔ memP l d ∨ (x.1 ≤ d ∧ d < x.2)) ∧ ∀ s ∈ putL l x, s.1 ≤ x.1 := by
  rcases last_cases l with rfl | ⟨m, s, rfl⟩
  · rw [putL_nil]
    refine ⟨⟨⟨fun s h => by rw [List.mem_singleton.1 h]; exact h2, List.pairwise_singleton _ _⟩, fun s h => by rw [List.mem_singleton.1 h]; exact ⟨h1, h3⟩⟩, fun d => ?_, fun s h => by rw [List.mem_singleton.1 h]; exact Int.le_refl _⟩
    rw [memP_one]
    exact ⟨.inr, fun h => h.elim (fun h => absurd h (memP_nil d)) id⟩
  · obtain ⟨hm, hs, ht⟩ := rightP_snoc hr.1
    have hin := hr.2 s (by simp)
    have hsx := hle s (by simp)
    rw [putL_snoc]
    split
    · rename_i hlt
      refine ⟨⟨rightP_more hr.1 h2 fun t hh => ?_, fun t hh => ?_⟩, fun d => by rw [memP_append, memP_one], fun t hh => ?_⟩
      · rcases List.mem_append.1 hh with hh | hh
        · have := ht t hh; omega
        · rw [List.mem_singleton.1 hh]; exact hlt
      · rcases List.mem_append.1 hh with hh | hh
        · exact hr.2 t hh
        · rw [List.mem_singleton.1 hh]; exact ⟨h1, h3⟩
      · rcases List.mem_append.1 hh with hh | hh
        · exact hle t hh
        · rw [List.mem_singleton.1 hh]; exact Int.le_refl _
    · rename_i hge
      have q1 : s.2 ≤ max s.2 x.2 := Int.le_max_left _ _
      have q2 : x.2 ≤ max s.2 x.2 := Int.le_max_right _ _
      have q3 : max s.2 x.2 = s.2 ∨ max s.2 x.2 = x.2 := by rcases Int.le_total s.2 x.2 with h | h; exact .inr (Int.max_eq_right h); exact .inl (Int.max_eq_left h)
      generalize max s.2 x.2 = y at *
      refine ⟨⟨rightP_more hm (by show s.1 < y; omega) fun t hh => ht t hh, fun t hh => ?_⟩, fun d => ?_, fun t hh => ?_⟩
      · rcases List.mem_append.1 hh with hh | hh
        · exact hr.2 t (by simp [hh])
        · rw [List.mem_singleton.1 hh]; exact ⟨hin.1, by show y ≤ 3652060; rcases q3 with h | h <;> omega⟩
      · rw [memP_append, memP_append, memP_one, memP_one, or_assoc]
        refine or_congr Iff.rfl ?_
        show s.1 ≤ d ∧ d < y ↔ _
        constructor
        · intro ⟨a, b⟩
          by_cases hd : d < s.2
          · exact .inl ⟨a, hd⟩
          · exact .inr ⟨by omega, by rcases q3 with h | h <;> omega⟩
        · rintro (⟨a, b⟩ | ⟨a, b⟩)
          · exact ⟨a, by omega⟩
          · exact ⟨by omega, by omega⟩
      · rcases List.mem_append.1 hh with hh | hh
        · exact hle t (by simp [hh])
        · rw [List.mem_singleton.1 hh]; exact hsx
/-- Spans that are days, each put behind the ones ahead of it. -/
def joinL (l : SpL) : SpL := l.foldl putL []
theorem joinL_more {l : SpL} {k : Nat} {x : Int × Int} (h : l[k]? = some x) : joinL (l.take (k + 1)) = putL (joinL (l.take k)) x := by
  unfold joinL
  rw [List.take_add_one, h, List.foldl_append]; rfl
theorem joinL_len (l : SpL) : ∀ k, (joinL (l.take k)).length ≤ k
  | 0 => by simp [joinL]
  | k + 1 => by
    have h1 := joinL_len l k
    cases hx : l[k]? with
    | none =>
      rw [List.take_add_one, hx]
      simp only [Option.toList_none, List.append_nil]
      omega
    | some x =>
      rw [joinL_more hx]
      have := putL_len (joinL (l.take k)) x
      omega
theorem fold_right : ∀ {l o : SpL}, rightIn o → l.Pairwise (fun s t => s.1 ≤ t.1) → (∀ x ∈ l, 1 ≤ x.1 ∧ x.1 < x.2 ∧ x.2 ≤ 3652060) → (∀ x ∈ l, ∀ s ∈ o, s.1 ≤ x.1) →
    rightIn (l.foldl putL o) ∧ ∀ d, memP (l.foldl putL o) d ↔ memP o d ∨ memP l d
  | [], o, ho, _, _, _ => ⟨ho, fun d => ⟨.inl, fun h => h.elim id fun h => absurd h (memP_nil d)⟩⟩
  | x :: r, o, ho, hp, hin, hle => by
    obtain ⟨p1, p2⟩ := List.pairwise_cons.1 hp
    have hx := hin x List.mem_cons_self
    obtain ⟨a, b, c⟩ := putL_right ho hx.1 hx.2.1 hx.2.2 (hle x List.mem_cons_self)
    obtain ⟨d, e⟩ := fold_right a p2 (fun y hy => hin y (List.mem_cons_of_mem _ hy)) fun y hy s hs => Int.le_trans (c s hs) (p1 y hy)
    refine ⟨d, fun n => ?_⟩
    rw [List.foldl_cons, e n, b n, memP_cons, or_assoc]
/-- Those spans that have days, each within all days. -/
def riseL (l : SpL) : SpL := (l.map inI).filter fun s => decide (s.1 < s.2)
theorem riseL_no {l : SpL} {k : Nat} {x : Int × Int} (h : l[k]? = some x) (hx : ¬ (inI x).1 < (inI x).2) : riseL (l.take (k + 1)) = riseL (l.take k) := by
  unfold riseL
  rw [List.take_add_one, h, List.map_append, List.filter_append]
  simp [hx]
theorem riseL_yes {l : SpL} {k : Nat} {x : Int × Int} (h : l[k]? = some x) (hx : (inI x).1 < (inI x).2) : riseL (l.take (k + 1)) = riseL (l.take k) ++ [inI x] := by
  unfold riseL
  rw [List.take_add_one, h, List.map_append, List.filter_append]
  simp [hx]
theorem riseL_len (l : SpL) : (riseL l).length ≤ l.length := by
  unfold riseL
  exact Nat.le_trans (List.length_filter_le _ _) (by rw [List.length_map]; exact Nat.le_refl _)
theorem riseL_in {l : SpL} {s : Int × Int} (h : s ∈ riseL l) : 1 ≤ s.1 ∧ s.1 < s.2 ∧ s.2 ≤ 3652060 := by
  obtain ⟨h1, h2⟩ := List.mem_filter.1 h
  obtain ⟨t, _, rfl⟩ := List.mem_map.1 h1
  exact ⟨Int.le_max_right _ _, of_decide_eq_true h2, Int.min_le_right _ _⟩
theorem inI_day {s : Int × Int} {d : Int} (h1 : 1 ≤ d) (h2 : d ≤ 3652059) : ((inI s).1 ≤ d ∧ d < (inI s).2) ↔ (s.1 ≤ d ∧ d < s.2) := by
  unfold inI
  show max s.1 1 ≤ d ∧ d < min s.2 3652060 ↔ _
  rw [Int.max_le, Int.lt_min]
  omega
theorem riseL_mem {l : SpL} {d : Int} (h1 : 1 ≤ d) (h2 : d ≤ 3652059) : memP (riseL l) d ↔ memP l d := by
  constructor
  · rintro ⟨s, hs, q⟩
    obtain ⟨h3, _⟩ := List.mem_filter.1 hs
    obtain ⟨t, ht, rfl⟩ := List.mem_map.1 h3
    exact ⟨t, ht, (inI_day h1 h2).1 q⟩
  · rintro ⟨t, ht, q⟩
    have q2 := (inI_day (s := t) h1 h2).2 q
    exact ⟨inI t, List.mem_filter.2 ⟨List.mem_map.2 ⟨t, ht, rfl⟩, decide_eq_true (by omega)⟩, q2⟩
/-- Sorted by where they begin, and joined, they are the document's. -/
theorem join_is {l m : SpL} (hp : m.Perm (riseL l)) (hs : m.Pairwise fun s t => s.1 ≤ t.1) : joinL m = twoL 0 l [] := by
  have hr := fold_right (l := m) (o := []) rightIn_nil hs (fun x hx => riseL_in (hp.subset hx)) fun _ _ _ h => by cases h
  refine rightIn_one hr.1 (two_right _ _ _) fun d h1 h2 => ?_
  rw [two_has _ _ _ h1 h2, takeB_0, hasB_nil, Bool.or_false]
  refine bool_iff ?_
  rw [hasB_iff, hasB_iff]
  refine and_congr Iff.rfl ?_
  refine (hr.2 d).trans ?_
  refine Iff.trans ?_ (riseL_mem h1 h2)
  constructor
  · rintro (h | ⟨s, h, q⟩)
    · exact absurd h (memP_nil d)
    · exact ⟨s, hp.subset h, q⟩
  · rintro ⟨s, h, q⟩
    exact .inr ⟨s, hp.symm.subset h, q⟩
/-- Is a day of a span, held within all days? -/
theorem any_in (l : SpL) (d : Int) : (l.any fun s => decide ((inI s).1 ≤ d) && decide (d < (inI s).2)) = hasB l d := by
  refine bool_iff ?_
  rw [List.any_eq_true, hasB_iff]
  constructor
  · rintro ⟨s, hs, q⟩
    obtain ⟨q1, q2⟩ := (Bool.and_eq_true _ _).mp q
    have q1 := of_decide_eq_true q1
    have q2 := of_decide_eq_true q2
    have a : (1 : Int) ≤ (inI s).1 := Int.le_max_right _ _
    have b : (inI s).2 ≤ 3652060 := Int.min_le_right _ _
    have hd : 1 ≤ d ∧ d ≤ 3652059 := by omega
    exact ⟨hd, s, hs, (inI_day hd.1 hd.2).1 ⟨q1, q2⟩⟩
  · rintro ⟨hd, s, hs, q⟩
    have := (inI_day (s := s) hd.1 hd.2).2 q
    exact ⟨s, hs, by rw [decide_eq_true this.1, decide_eq_true this.2]; rfl⟩
/-- Those spans that have days from a day on. -/
def aheadL : SpL → Int → SpL
  | [], _ => []
  | s :: r, d => if s.2 ≤ d then aheadL r d else s :: r
theorem aheadL_drop {l : SpL} {d : Int} : ∀ {i : Nat}, (∀ j, j < i → ∀ s, l[j]? = some s → s.2 ≤ d) → aheadL (l.drop i) d = aheadL l d
  | 0, _ => by simp
  | i + 1, h => by
    rw [← aheadL_drop (i := i) fun j hj => h j (by omega)]
    cases hx : l[i]? with
    | none =>
      rw [List.drop_eq_nil_of_le (Nat.le_succ_of_le (List.getElem?_eq_none_iff.1 hx)), List.drop_eq_nil_of_le (List.getElem?_eq_none_iff.1 hx)]
    | some s =>
      obtain ⟨hi, he⟩ := List.getElem?_eq_some_iff.1 hx
      rw [List.drop_eq_getElem_cons hi, aheadL, he, if_pos (h i (by omega) s hx)]
theorem aheadL_len : ∀ (l : SpL) (d : Int), (aheadL l d).length ≤ l.length
  | [], _ => by simp [aheadL]
  | s :: r, d => by
    have := aheadL_len r d
    unfold aheadL
    split
    · simp only [List.length_cons]; omega
    · exact Nat.le_refl _
/-- Is a day of right spans, of which none ends ahead of it? -/
def stretchB : SpL → Int → Bool
  | [], _ => false
  | s :: _, d => decide (s.1 ≤ d)
/-- The next day on which that is otherwise. -/
def stretchN : SpL → Int → Int
  | [], _ => 3652060
  | s :: _, d => if d < s.1 then s.1 else s.2
theorem ahead_spec : ∀ {l : SpL} {d : Int}, rightIn l → rightIn (aheadL l d) ∧ (∀ e, d ≤ e → (memP (aheadL l d) e ↔ memP l e)) ∧ (∀ s ∈ aheadL l d, d < s.2)
  | [], d, h => ⟨h, fun _ _ => Iff.rfl, fun _ hs => by cases hs⟩
  | s :: r, d, h => by
    have hr : rightIn r := ⟨rightP_tail h.1, fun t ht => h.2 t (List.mem_cons_of_mem _ ht)⟩
    unfold aheadL
    split
    · rename_i hle
      obtain ⟨a, b, c⟩ := ahead_spec (d := d) hr
      refine ⟨a, fun e he => ?_, c⟩
      rw [b e he, memP_cons (s := s)]
      exact ⟨.inr, fun q => q.elim (fun q => by omega) id⟩
    · rename_i hgt
      refine ⟨h, fun _ _ => Iff.rfl, fun t ht => ?_⟩
      rcases List.mem_cons.1 ht with rfl | ht
      · omega
      · have h1 := (rightP_head h.1).2 t ht
        have h2 := h.1.1 t (List.mem_cons_of_mem _ ht)
        omega
theorem stretch_spec {l : SpL} {d : Int} (hr : rightIn l) (h2 : d < 3652060) (ha : ∀ s ∈ l, d < s.2) :
    d < stretchN l d ∧ stretchN l d ≤ 3652060 ∧ ∀ e, d ≤ e → e < stretchN l d → (memP l e ↔ stretchB l d = true) := by
  cases l with
  | nil => exact ⟨h2, Int.le_refl _, fun e _ _ => ⟨fun h => absurd h (memP_nil e), fun h => by cases h⟩⟩
  | cons s r =>
    have hs := ha s List.mem_cons_self
    have hi := hr.2 s List.mem_cons_self
    have hh := rightP_head hr.1
    rw [show stretchN (s :: r) d = if d < s.1 then s.1 else s.2 from rfl, show stretchB (s :: r) d = decide (s.1 ≤ d) from rfl]
    by_cases hd : d < s.1
    · rw [if_pos hd]
      refine ⟨hd, by omega, fun e h3 h4 => ?_⟩
      rw [memP_cons, decide_eq_true_iff]
      constructor
      · rintro (q | ⟨t, ht, q⟩)
        · omega
        · have := hh.2 t ht; omega
      · intro q; omega
    · rw [if_neg hd]
      refine ⟨hs, hi.2, fun e h3 h4 => ?_⟩
      rw [memP_cons, decide_eq_true_iff]
      exact ⟨fun _ => by omega, fun _ => .inl ⟨by omega, h4⟩⟩
/-- Two right lists gone through side by side: what is so on a day. -/
structure Thr (kind : Int) (a b : SpL) (A B : SpL) (day : Int) (L : SpL) : Prop where
  lo : 1 ≤ day
  hi : day ≤ 3652060
  ra : rightIn A
  rb : rightIn B
  rl : rightIn L
  ma : ∀ d, day ≤ d → d ≤ 3652059 → (memP A d ↔ hasB a d = true)
  mb : ∀ d, day ≤ d → d ≤ 3652059 → (memP B d ↔ hasB b d = true)
  ml : ∀ d, memP L d ↔ (1 ≤ d ∧ d < day) ∧ takeB kind (hasB a d) (hasB b d) = true
  le : ∀ s ∈ L, s.1 ≤ day
  len : (L.length : Int) ≤ day
theorem memP_two {a : SpL} {d : Int} (h1 : 1 ≤ d) (h2 : d ≤ 3652059) : memP (twoL 0 a []) d ↔ hasB a d = true := by
  rw [(two_spec 0 a []).2 d, takeB_0, hasB_nil, Bool.or_false]
  exact ⟨fun h => h.2, fun h => ⟨⟨h1, h2⟩, h⟩⟩
theorem Thr.start (kind : Int) (a b : SpL) : Thr kind a b (twoL 0 a []) (twoL 0 b []) 1 [] :=
  ⟨by omega, by omega, two_right _ _ _, two_right _ _ _, rightIn_nil, fun d h1 h2 => memP_two h1 h2, fun d h1 h2 => memP_two h1 h2,
    fun d => ⟨fun h => absurd h (memP_nil d), fun h => by omega⟩, fun _ h => (by cases h), (by simp)⟩
theorem Thr.stop {kind : Int} {a b A B L : SpL} (h : Thr kind a b A B 3652060 L) : L = twoL kind a b :=
  rightIn_one h.rl (two_right _ _ _) fun d h1 h2 => bool_iff (by
    rw [two_has _ _ _ h1 h2, hasB_iff, h.ml d]
    exact ⟨fun q => q.2.2, fun q => ⟨⟨h1, h2⟩, ⟨h1, by omega⟩, q⟩⟩)
theorem Thr.next {kind : Int} {a b A B L : SpL} {day : Int} (h : Thr kind a b A B day L) (hd : day < 3652060) :
    day < min (stretchN (aheadL A day) day) (stretchN (aheadL B day) day) ∧ min (stretchN (aheadL A day) day) (stretchN (aheadL B day) day) ≤ 3652060 := by
  obtain ⟨a1, _, a3⟩ := ahead_spec (d := day) h.ra
  obtain ⟨b1, _, b3⟩ := ahead_spec (d := day) h.rb
  have sa := stretch_spec a1 hd a3
  have sb := stretch_spec b1 hd b3
  exact ⟨Int.lt_min.2 ⟨sa.1, sb.1⟩, Int.le_trans (Int.min_le_left _ _) sa.2.1⟩
theorem Thr.step {kind : Int} {a b A B L : SpL} {day next : Int} (h : Thr kind a b A B day L) (hd : day < 3652060)
    (hn : min (stretchN (aheadL A day) day) (stretchN (aheadL B day) day) = next) :
    Thr kind a b (aheadL A day) (aheadL B day) next (if takeB kind (stretchB (aheadL A day) day) (stretchB (aheadL B day) day) = true then putL L (day, next) else L) := by
  obtain ⟨h1, h2⟩ := h.next hd
  rw [hn] at h1 h2
  obtain ⟨a1, a2, a3⟩ := ahead_spec (d := day) h.ra
  obtain ⟨b1, b2, b3⟩ := ahead_spec (d := day) h.rb
  have sa := stretch_spec a1 hd a3
  have sb := stretch_spec b1 hd b3
  have na : next ≤ stretchN (aheadL A day) day := by rw [← hn]; exact Int.min_le_left _ _
  have nb : next ≤ stretchN (aheadL B day) day := by rw [← hn]; exact Int.min_le_right _ _
  have ta : ∀ d, day ≤ d → d < next → hasB a d = stretchB (aheadL A day) day := fun d p q => bool_iff (by
    rw [← h.ma d p (by omega), ← a2 d p]; exact sa.2.2 d p (by omega))
  have tb : ∀ d, day ≤ d → d < next → hasB b d = stretchB (aheadL B day) day := fun d p q => bool_iff (by
    rw [← h.mb d p (by omega), ← b2 d p]; exact sb.2.2 d p (by omega))
  have lo := h.lo
  have key : ∀ L2 : SpL, rightIn L2 → (∀ d, memP L2 d ↔ memP L d ∨ ((day ≤ d ∧ d < next) ∧ takeB kind (stretchB (aheadL A day) day) (stretchB (aheadL B day) day) = true)) → (∀ s ∈ L2, s.1 ≤ day) → (L2.length ≤ L.length + 1) →
      Thr kind a b (aheadL A day) (aheadL B day) next L2 := fun L2 q1 q2 q3 q4 =>
    ⟨by omega, h2, a1, b1, q1, fun d p q => by rw [a2 d (by omega)]; exact h.ma d (by omega) q, fun d p q => by rw [b2 d (by omega)]; exact h.mb d (by omega) q,
      fun d => by
        rw [q2 d, h.ml d]
        constructor
        · rintro (⟨p, q⟩ | ⟨p, q⟩)
          · exact ⟨by omega, q⟩
          · exact ⟨by omega, by rw [ta d p.1 p.2, tb d p.1 p.2]; exact q⟩
        · rintro ⟨p, q⟩
          by_cases hlt : d < day
          · exact .inl ⟨⟨p.1, hlt⟩, q⟩
          · exact .inr ⟨by omega, by rw [← ta d (by omega) p.2, ← tb d (by omega) p.2]; exact q⟩,
      fun s hs => by have := q3 s hs; omega, by have := h.len; omega⟩
  split
  · rename_i ht
    obtain ⟨p1, p2, p3⟩ := putL_right (x := (day, next)) h.rl lo h1 h2 h.le
    exact key _ p1 (fun d => by rw [p2 d]; exact or_congr Iff.rfl ⟨fun q => ⟨q, ht⟩, fun q => q.1⟩) p3 (putL_len _ _)
  · rename_i ht
    exact key L h.rl (fun d => ⟨.inl, fun q => q.elim id fun q => absurd q.2 ht⟩) h.le (Nat.le_succ _)
/-- Are they right, from a day on that is not reached? -/
def mayI : Int → SpL → Bool
  | _, [] => true
  | b, s :: r => !decide (s.1 ≤ b) && !decide (s.2 ≤ s.1) && !decide (s.2 > 3652060) && mayI s.2 r
theorem mayI_iff : ∀ {l : SpL} {b : Int}, 0 ≤ b → (mayI b l = true ↔ rightIn l ∧ ∀ s ∈ l, b < s.1)
  | [], b, _ => ⟨fun _ => ⟨rightIn_nil, fun _ h => by cases h⟩, fun _ => rfl⟩
  | s :: r, b, hb => by
    unfold mayI
    simp only [Bool.and_eq_true, Bool.not_eq_true', decide_eq_false_iff_not]
    constructor
    · rintro ⟨⟨⟨h1, h2⟩, h3⟩, h4⟩
      obtain ⟨p, q⟩ := (mayI_iff (l := r) (b := s.2) (by omega)).1 h4
      refine ⟨⟨⟨fun t ht => ?_, List.pairwise_cons.2 ⟨q, p.1.2⟩⟩, fun t ht => ?_⟩, fun t ht => ?_⟩
      · rcases List.mem_cons.1 ht with rfl | ht
        · omega
        · exact p.1.1 t ht
      · rcases List.mem_cons.1 ht with rfl | ht
        · omega
        · exact p.2 t ht
      · rcases List.mem_cons.1 ht with rfl | ht
        · omega
        · have := q t ht; omega
    · rintro ⟨⟨h1, h2⟩, h3⟩
      have hi := h2 s List.mem_cons_self
      have hs := h3 s List.mem_cons_self
      have hh := rightP_head h1
      have ht := hh.1
      exact ⟨⟨⟨by omega, by omega⟩, by omega⟩, (mayI_iff (l := r) (b := s.2) (by omega)).2 ⟨⟨rightP_tail h1, fun t ht => h2 t (List.mem_cons_of_mem _ ht)⟩, hh.2⟩⟩
theorem mayI_is (l : SpL) : mayI 0 l = decide (l = twoL 0 l []) := by
  refine bool_iff ?_
  rw [decide_eq_true_iff, may_iff, mayI_iff (Int.le_refl _)]
  exact ⟨fun h => h.1, fun h => ⟨h, fun s hs => by have := h.2 s hs; omega⟩⟩
theorem mayI_at {l : SpL} {b : Int} {i : Nat} {s : Int × Int} (h : l[i]? = some s) : mayI b (l.drop i) = (!decide (s.1 ≤ b) && !decide (s.2 ≤ s.1) && !decide (s.2 > 3652060) && mayI s.2 (l.drop (i + 1))) := by
  obtain ⟨hi, he⟩ := List.getElem?_eq_some_iff.1 h
  rw [List.drop_eq_getElem_cons hi, he]; rfl
end Corr

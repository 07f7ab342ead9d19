/- Rising lists of items as sets. No walk in this text. -/
import Derived.Test.YtolmkagedlcjiaaAvKnown
namespace Corr
open Go
theorem lessB_iff {a b : It} : lessB a b = true ↔ a.1 < b.1 ∨ a.1 = b.1 ∧ (a.2.1 < b.2.1 ∨ a.2.1 = b.2.1 ∧ a.2.2 < b.2.2) := by
  unfold lessB
  split
  · split
    · simp; omega
    · simp; omega
  · simp; omega
theorem lessB_irr (a : It) : lessB a a = false := by
  cases h : lessB a a with
  | false => rfl
  | true => rw [lessB_iff] at h; omega
theorem lessB_trans {a b c : It} (h : lessB a b = true) (h' : lessB b c = true) : lessB a c = true := by
  rw [lessB_iff] at *; omega
theorem lessB_or {a b : It} (h : lessB a b = false) : a = b ∨ lessB b a = true := by
  have h1 : ¬ lessB a b = true := by rw [h]; decide
  rw [lessB_iff] at h1
  rw [lessB_iff]
  obtain ⟨a1, a2, a3⟩ := a
  obtain ⟨b1, b2, b3⟩ := b
  simp only at *
  by_cases e : a1 = b1 ∧ a2 = b2 ∧ a3 = b3
  · left; rw [e.1, e.2.1, e.2.2]
  · right; omega
/-- Rising. -/
def srt (l : ItL) : Prop := l.Pairwise (fun a b => lessB a b = true)
theorem cntI_cons (x y : It) (r : ItL) : cntI x (y :: r) = if lessB y x = true then cntI x r + 1 else 0 := by
  unfold cntI
  rw [List.takeWhile_cons]
  split <;> simp
theorem insI_cons (x y : It) (r : ItL) : insI x (y :: r) = if lessB y x = true then y :: insI x r else x :: y :: r := by
  unfold insI
  rw [cntI_cons]
  split <;> simp
theorem delI_cons (x y : It) (r : ItL) : delI x (y :: r) = if lessB y x = true then y :: delI x r else r := by
  unfold delI
  rw [cntI_cons]
  split <;> simp
theorem hasI_cons (x y : It) (r : ItL) : hasI x (y :: r) = if lessB y x = true then hasI x r else decide (y = x) := by
  unfold hasI
  rw [cntI_cons]
  split <;> simp
theorem srt_tail {x : It} {l : ItL} (h : srt (x :: l)) : srt l := (List.pairwise_cons.1 h).2
theorem srt_head {x : It} {l : ItL} (h : srt (x :: l)) : ∀ y ∈ l, lessB x y = true := (List.pairwise_cons.1 h).1
theorem hasI_iff {x : It} : ∀ {l : ItL}, srt l → (hasI x l = true ↔ x ∈ l)
  | [], _ => by simp [hasI]
  | y :: r, h => by
    have ih := hasI_iff (x := x) (srt_tail h)
    rw [hasI_cons, List.mem_cons]
    split
    · rename_i hl
      rw [ih]
      constructor
      · exact .inr
      · rintro (rfl | hm)
        · rw [lessB_irr] at hl; cases hl
        · exact hm
    · rename_i hl
      rw [decide_eq_true_iff]
      constructor
      · rintro rfl; exact .inl rfl
      · rintro (rfl | hm)
        · rfl
        · exact absurd (srt_head h x hm) hl
theorem ins_mem {x y : It} : ∀ {l : ItL}, y ∈ insI x l ↔ y = x ∨ y ∈ l
  | [] => by simp [insI]
  | z :: r => by
    have ih := ins_mem (x := x) (y := y) (l := r)
    rw [insI_cons]
    split
    · rw [List.mem_cons, ih, List.mem_cons]
      constructor
      · rintro (h | h | h)
        · exact .inr (.inl h)
        · exact .inl h
        · exact .inr (.inr h)
      · rintro (h | h | h)
        · exact .inr (.inl h)
        · exact .inl h
        · exact .inr (.inr h)
    · rw [List.mem_cons]
theorem ins_srt {x : It} : ∀ {l : ItL}, srt l → hasI x l = false → srt (insI x l)
  | [], _, _ => by simp [insI, srt]
  | y :: r, h, hn => by
    rw [hasI_cons] at hn
    rw [insI_cons]
    split
    · rename_i hl
      rw [if_pos hl] at hn
      refine List.pairwise_cons.2 ⟨fun z hz => ?_, ins_srt (srt_tail h) hn⟩
      rcases ins_mem.1 hz with rfl | hz
      · exact hl
      · exact srt_head h z hz
    · rename_i hl
      rw [if_neg hl] at hn
      have hne : ¬ y = x := of_decide_eq_false hn
      have hxy : lessB x y = true := by
        rcases lessB_or (Bool.eq_false_iff.2 hl) with e | e
        · exact absurd e hne
        · exact e
      refine List.pairwise_cons.2 ⟨fun z hz => ?_, h⟩
      rcases List.mem_cons.1 hz with rfl | hz
      · exact hxy
      · exact lessB_trans hxy (srt_head h z hz)
theorem del_sub {x y : It} : ∀ {l : ItL}, y ∈ delI x l → y ∈ l
  | [], h => by simp [delI] at h
  | z :: r, h => by
    rw [delI_cons] at h
    split at h
    · rcases List.mem_cons.1 h with rfl | h
      · exact List.mem_cons_self
      · exact List.mem_cons_of_mem _ (del_sub h)
    · exact List.mem_cons_of_mem _ h
theorem del_srt {x : It} : ∀ {l : ItL}, srt l → srt (delI x l)
  | [], h => h
  | y :: r, h => by
    rw [delI_cons]
    split
    · exact List.pairwise_cons.2 ⟨fun z hz => srt_head h z (del_sub hz), del_srt (srt_tail h)⟩
    · exact srt_tail h
theorem del_mem {x y : It} : ∀ {l : ItL}, srt l → hasI x l = true → (y ∈ delI x l ↔ y ∈ l ∧ y ≠ x)
  | [], _, hh => by simp [hasI] at hh
  | z :: r, h, hh => by
    rw [hasI_cons] at hh
    rw [delI_cons]
    split
    · rename_i hl
      rw [if_pos hl] at hh
      rw [List.mem_cons, del_mem (srt_tail h) hh, List.mem_cons]
      constructor
      · rintro (rfl | ⟨h1, h2⟩)
        · exact ⟨.inl rfl, fun e => by rw [e, lessB_irr] at hl; cases hl⟩
        · exact ⟨.inr h1, h2⟩
      · rintro ⟨rfl | h1, h2⟩
        · exact .inl rfl
        · exact .inr ⟨h1, h2⟩
    · rename_i hl
      rw [if_neg hl] at hh
      have e : z = x := of_decide_eq_true hh
      subst e
      rw [List.mem_cons]
      constructor
      · intro hm
        exact ⟨.inr hm, fun e => by have := srt_head h y hm; rw [e, lessB_irr] at this; cases this⟩
      · rintro ⟨rfl | h1, h2⟩
        · exact absurd rfl h2
        · exact h1
theorem srt_one : ∀ {l m : ItL}, srt l → srt m → (∀ y, y ∈ l ↔ y ∈ m) → l = m
  | [], [], _, _, _ => rfl
  | [], y :: r, _, _, h => by have := (h y).2 List.mem_cons_self; cases this
  | x :: r, [], _, _, h => by have := (h x).1 List.mem_cons_self; cases this
  | x :: r, y :: s, hl, hm, h => by
    have e : x = y := by
      rcases List.mem_cons.1 ((h x).1 List.mem_cons_self) with e | h1
      · exact e
      · rcases List.mem_cons.1 ((h y).2 List.mem_cons_self) with e | h2
        · exact e.symm
        · have := lessB_trans (srt_head hm x h1) (srt_head hl y h2)
          rw [lessB_irr] at this; cases this
    subst e
    rw [srt_one (srt_tail hl) (srt_tail hm) fun z => ?_]
    constructor
    · intro hz
      rcases List.mem_cons.1 ((h z).1 (List.mem_cons_of_mem _ hz)) with e | h1
      · subst e; have := srt_head hl z hz; rw [lessB_irr] at this; cases this
      · exact h1
    · intro hz
      rcases List.mem_cons.1 ((h z).2 (List.mem_cons_of_mem _ hz)) with e | h1
      · subst e; have := srt_head hm z hz; rw [lessB_irr] at this; cases this
      · exact h1
/-- An item may be. -/
def okI (x : It) : Prop := x.1 < x.2.1
theorem insL_srt {M : Int} {x : It} {l : ItL} (h : srt l) : srt (insL M x l) := by
  unfold insL
  split
  · rename_i e
    refine ins_srt h ?_
    unfold insR at e
    split at e
    · cases e
    · split at e
      · cases e
      · rename_i hh; simpa using hh
  · exact h
theorem insL_mem {M : Int} {x y : It} {l : ItL} (h : srt l) (hl : ¬ (l.length : Int) = M) : y ∈ insL M x l ↔ y ∈ l ∨ (y = x ∧ okI x) := by
  unfold insL insR okI
  by_cases h1 : x.2.1 ≤ x.1
  · rw [if_pos h1, if_neg (by decide)]
    constructor
    · exact .inl
    · rintro (h | ⟨_, h⟩)
      · exact h
      · omega
  · rw [if_neg h1]
    cases h2 : hasI x l with
    | true =>
      rw [if_pos rfl, if_neg (by decide)]
      constructor
      · exact .inl
      · rintro (h | ⟨rfl, _⟩)
        · exact h
        · exact (hasI_iff h).1 h2
    | false =>
      rw [if_neg (show ¬ (false = true) by decide), if_neg hl, if_pos rfl, ins_mem]
      constructor
      · rintro (rfl | h)
        · exact .inr ⟨rfl, by omega⟩
        · exact .inl h
      · rintro (h | ⟨rfl, _⟩)
        · exact .inr h
        · exact .inl rfl
/-- It was put just if it may be and was not there. -/
theorem insR_ok {M : Int} {x : It} {l : ItL} (h : srt l) (hl : ¬ (l.length : Int) = M) : insR M x l = 0 ↔ okI x ∧ ¬ x ∈ l := by
  unfold insR okI
  by_cases h1 : x.2.1 ≤ x.1
  · rw [if_pos h1]
    constructor
    · intro e; cases e
    · rintro ⟨e, _⟩; omega
  · rw [if_neg h1]
    rw [← hasI_iff h]
    cases h2 : hasI x l with
    | true =>
      rw [if_pos rfl]
      constructor
      · intro e; cases e
      · rintro ⟨_, e⟩; exact absurd rfl e
    | false =>
      rw [if_neg (by decide), if_neg hl]
      exact ⟨fun _ => ⟨by omega, by decide⟩, fun _ => rfl⟩
theorem delL_srt {x : It} {l : ItL} (h : srt l) : srt (delL x l) := by
  unfold delL; split
  · exact del_srt h
  · exact h
theorem delL_mem {x y : It} {l : ItL} (h : srt l) : y ∈ delL x l ↔ y ∈ l ∧ y ≠ x := by
  unfold delL
  cases h2 : hasI x l with
  | true => rw [if_pos rfl]; exact del_mem h h2
  | false =>
    rw [if_neg (by decide)]
    constructor
    · intro hy; exact ⟨hy, fun e => by rw [e] at hy; rw [(hasI_iff h).2 hy] at h2; cases h2⟩
    · exact fun h => h.1
theorem delR_ok {x : It} {l : ItL} (h : srt l) (hx : x ∈ l) : delR x l = 0 := by unfold delR; rw [if_pos ((hasI_iff h).2 hx)]
theorem srt_at {l : ItL} (h : srt l) {i : Nat} {x y : It} (hi : l[i]? = some x) (hj : l[i + 1]? = some y) : lessB x y = true := by
  obtain ⟨h1, e1⟩ := List.getElem?_eq_some_iff.1 hi
  obtain ⟨h2, e2⟩ := List.getElem?_eq_some_iff.1 hj
  have := List.pairwise_iff_getElem.1 h i (i + 1) h1 h2 (by omega)
  rwa [e1, e2] at this
end Corr

/- Where two differ: there is one list of spans, as few as it goes. Plain. Contract of corrodyref12: Differ. (Written by wip/gen/genrf4.py.) -/
import Derived.Test.YtonfjjmgjgmanaaRfCov
import Derived.Test.YtonfjjmgjgmanaaRf3
import Derived.BigQuiet
namespace Corr
open Go Go.RowKit
set_option linter.unusedVariables false
section
variable {α : Type} {f : Int → α}
theorem covG_snoc {m t : Int} {v : α} (hmt : m < t) (hv : ∀ d, m ≤ d → d < t → f d = v) : ∀ {l : List (Int × Int × α)} {a : Int}, covG f a m l → (∀ s, l.getLast? = some s → ¬ v = s.2.2) → covG f a t (l ++ [(m, t, v)])
  | [], a, h, _ => by
    have e : a = m := h
    subst e
    exact ⟨rfl, hmt, hv, (fun _ h => by cases h), rfl⟩
  | [s], a, h, hl => by
    obtain ⟨h1, h2, h3, h4, h5⟩ := h
    have h5 : s.2.1 = m := h5
    refine ⟨h1, h2, h3, fun t' ht => ?_, h5.symm, hmt, hv, (fun _ h => by cases h), rfl⟩
    have : t' = (m, t, v) := by simpa using ht.symm
    subst this
    exact hl s rfl
  | s :: u :: r, a, h, hl => by
    obtain ⟨h1, h2, h3, h4, h5⟩ := h
    refine ⟨h1, h2, h3, fun t' ht => h4 t' (by simpa using ht), ?_⟩
    exact covG_snoc hmt hv h5 fun s' hs' => hl s' (by rw [List.getLast?_cons_cons]; exact hs')
theorem covG_ext {m t x : Int} {v : α} (hmt : m < t) (hv : ∀ d, m ≤ d → d < t → f d = v) : ∀ {l : List (Int × Int × α)} {a : Int}, covG f a m (l ++ [(x, m, v)]) → covG f a t (l ++ [(x, t, v)])
  | [], a, h => by
    obtain ⟨h1, h2, h3, h4, h5⟩ := h
    exact ⟨h1, by show x < t; have : x < m := h2; omega, fun d d1 d2 => by
      by_cases hd : d < m
      · exact h3 d d1 hd
      · exact hv d (by omega) d2, (fun _ h => by cases h), rfl⟩
  | s :: r, a, h => by
    obtain ⟨h1, h2, h3, h4, h5⟩ := h
    refine ⟨h1, h2, h3, fun t' ht => ?_, covG_ext hmt hv h5⟩
    cases r with
    | nil =>
      have : t' = (x, t, v) := by simpa using ht.symm
      subst this
      exact h4 (x, m, v) rfl
    | cons u r => exact h4 t' (by simpa using ht)
theorem last_snoc {β : Type} {r : List β} {x s : β} (h : (r ++ [x]).getLast? = some s) : s = x := by simpa using h.symm
theorem covG_last {m : Int} : ∀ {l : List (Int × Int × α)} {a : Int}, covG f a m l → ∀ s, l.getLast? = some s → s.2.1 = m ∧ s.1 < m ∧ a ≤ s.1 ∧ f s.1 = s.2.2
  | [], _, _, s, h => by cases h
  | [s], a, h, u, hu => by
    obtain ⟨h1, h2, h3, h4, h5⟩ := h
    have : s = u := by simpa using hu
    subst this
    have h5 : s.2.1 = m := h5
    exact ⟨h5, by omega, by omega, h3 s.1 (Int.le_refl _) h2⟩
  | s :: t :: r, a, h, u, hu => by
    obtain ⟨h1, h2, h3, h4, h5⟩ := h
    rw [List.getLast?_cons_cons] at hu
    obtain ⟨k1, k2, k3, k4⟩ := covG_last h5 u hu
    exact ⟨k1, k2, by omega, k4⟩
theorem covG_in {m : Int} : ∀ {l : List (Int × Int × α)} {a : Int}, covG f a m l → ∀ s ∈ l, a ≤ s.1 ∧ s.1 < s.2.1 ∧ s.2.1 ≤ m
  | [], _, _, s, h => by cases h
  | s :: r, a, h, u, hu => by
    obtain ⟨h1, h2, h3, h4, h5⟩ := h
    have hl := covG_le h5
    rcases List.mem_cons.1 hu with rfl | hu
    · exact ⟨by omega, h2, by omega⟩
    · obtain ⟨k1, k2, k3⟩ := covG_in h5 u hu
      exact ⟨by omega, k2, k3⟩
end
/-- The spans of what is true. -/
def difL (bs : List (Int × Int × Bool)) : SpL := (bs.filter (·.2.2)).map fun s => (s.1, s.2.1)
theorem difL_snoc (l : List (Int × Int × Bool)) (s : Int × Int × Bool) : difL (l ++ [s]) = if s.2.2 = true then difL l ++ [(s.1, s.2.1)] else difL l := by
  unfold difL
  rw [List.filter_append]
  cases h : s.2.2 <;> simp [h]
theorem difL_mem {l : List (Int × Int × Bool)} {s : Int × Int} (h : s ∈ difL l) : ∃ u ∈ l, s = (u.1, u.2.1) := by
  unfold difL at h
  obtain ⟨u, hu, rfl⟩ := List.mem_map.1 h
  exact ⟨u, (List.mem_filter.1 hu).1, rfl⟩
/-- What Differ tells: the days of a span at which two are unlike. -/
def difS (f g : Int → Int) (a b : Int) (out : SpL) : Prop := if mayB a b = true then ∃ bs, covG (fun d => decide (f d ≠ g d)) a b bs ∧ out = difL bs else out = []
theorem difS_one {f g : Int → Int} {a b : Int} {l m : SpL} (h : difS f g a b l) (h' : difS f g a b m) : l = m := by
  unfold difS at h h'
  split at h
  · rename_i hm
    rw [if_pos hm] at h'
    obtain ⟨p, hp, rfl⟩ := h
    obtain ⟨q, hq, rfl⟩ := h'
    rw [covG_one hp hq]
  · rename_i hm
    rw [if_neg hm] at h'
    rw [h, h']
/-- Up to a day: the spans so far. -/
def difI (f g : Int → Int) (a m : Int) (out : SpL) : Prop := ∃ bs, covG (fun d => decide (f d ≠ g d)) a m bs ∧ out = difL bs
section
variable {f g : Int → Int} {a m t : Int} {out : SpL}
theorem difI.start : difI f g a a [] := ⟨[], rfl, rfl⟩
theorem snoc_cases {α : Type} (l : List α) : l = [] ∨ ∃ r x, l = r ++ [x] := by
  rcases List.eq_nil_or_concat l with h | ⟨r, x, h⟩
  · exact .inl h
  · exact .inr ⟨r, x, by simpa using h⟩
/-- A piece on which they are alike. -/
theorem difI.same (h : difI f g a m out) (hmt : m < t) (hv : ∀ d, m ≤ d → d < t → f d = g d) : difI f g a t out := by
  obtain ⟨bs, hc, rfl⟩ := h
  have hv' : ∀ d, m ≤ d → d < t → (fun d => decide (f d ≠ g d)) d = false := fun d h1 h2 => by simp [hv d h1 h2]
  rcases snoc_cases bs with rfl | ⟨r, ⟨x, m', v⟩, rfl⟩
  · exact ⟨[] ++ [(m, t, false)], covG_snoc hmt hv' hc (fun _ h => by cases h), rfl⟩
  · obtain ⟨h1, _⟩ := covG_last hc (x, m', v) (by simp)
    have h1 : m' = m := h1
    subst h1
    cases v with
    | false => exact ⟨_, covG_ext hmt hv' hc, by rw [difL_snoc, difL_snoc]; rfl⟩
    | true => exact ⟨_, covG_snoc hmt hv' hc (fun s hs => by rw [last_snoc hs]; exact fun h => by cases h), by rw [difL_snoc (r ++ [(x, m', true)])]; rfl⟩
/-- A piece on which they are unlike, behind another one. -/
theorem difI.more {l : SpL} {x : Int} (h : difI f g a m (l ++ [(x, m)])) (hmt : m < t) (hv : ∀ d, m ≤ d → d < t → f d ≠ g d) : difI f g a t (l ++ [(x, t)]) := by
  obtain ⟨bs, hc, he⟩ := h
  have hv' : ∀ d, m ≤ d → d < t → (fun d => decide (f d ≠ g d)) d = true := fun d h1 h2 => by simp [hv d h1 h2]
  rcases snoc_cases bs with rfl | ⟨r, ⟨y, m', v⟩, rfl⟩
  · simp [difL] at he
  · obtain ⟨h1, h2, _⟩ := covG_last hc (y, m', v) (by simp)
    have h1 : m' = m := h1
    have h2 : y < m := h2
    subst h1
    rw [difL_snoc] at he
    cases v with
    | false =>
      have he : l ++ [(x, m')] = difL r := he
      exfalso
      obtain ⟨u, hu, e⟩ := difL_mem (l := r) (s := (x, m')) (by rw [← he]; simp)
      have hin : ∀ {r : List (Int × Int × Bool)} {a : Int}, covG (fun d => decide (f d ≠ g d)) a m' (r ++ [(y, m', false)]) → ∀ u ∈ r, u.2.1 ≤ y := by
        intro r
        induction r with
        | nil => intro a _ u hu; cases hu
        | cons s r ih =>
          intro a h u hu
          obtain ⟨k1, k2, k3, k4, k5⟩ := h
          rcases List.mem_cons.1 hu with rfl | hu
          · exact (covG_in k5 (y, m', false) (by simp)).1
          · exact ih k5 u hu
      have := hin hc u hu
      have e : m' = u.2.1 := congrArg Prod.snd e
      omega
    | true =>
      have he : l ++ [(x, m')] = difL r ++ [(y, m')] := he
      obtain ⟨e1, e2⟩ := List.append_inj' he rfl
      have e2 : x = y := by simpa using e2
      subst e1 e2
      exact ⟨_, covG_ext hmt hv' hc, by rw [difL_snoc]; rfl⟩
/-- A piece on which they are unlike, alone. -/
theorem difI.new (h : difI f g a m out) (hl : ∀ s, out.getLast? = some s → ¬ s.2 = m) (hmt : m < t) (hv : ∀ d, m ≤ d → d < t → f d ≠ g d) : difI f g a t (out ++ [(m, t)]) := by
  obtain ⟨bs, hc, rfl⟩ := h
  have hv' : ∀ d, m ≤ d → d < t → (fun d => decide (f d ≠ g d)) d = true := fun d h1 h2 => by simp [hv d h1 h2]
  rcases snoc_cases bs with rfl | ⟨r, ⟨y, m', v⟩, rfl⟩
  · exact ⟨[] ++ [(m, t, true)], covG_snoc hmt hv' hc (fun _ h => by cases h), rfl⟩
  · obtain ⟨h1, _⟩ := covG_last hc (y, m', v) (by simp)
    have h1 : m' = m := h1
    subst h1
    cases v with
    | true =>
      exfalso
      refine hl (y, m') ?_ rfl
      rw [difL_snoc]; simp
    | false => exact ⟨_, covG_snoc hmt hv' hc (fun s hs => by rw [last_snoc hs]; exact fun h => by cases h), by rw [difL_snoc (r ++ [(y, m', false)])]; rfl⟩
end
/-- What a call leaves that tells where two differ. -/
def RetDif (T : TypeId) (w : World) (f g : Int → Int) (a b : Int) (e : Ending) (w' : World) : Prop := ∃ out A n c, e = .returned (.slice A n c) ∧ difS f g a b out ∧ w'.ownsRow w.heap.size T 2 (.slice A n c) n (cells2 out) ∧ Below w.heap.size w w'
end Corr
namespace Corr
open Go Go.RowKit
set_option linter.unusedVariables false
theorem cellsP_at : ∀ {l : List PtQ} {i : Nat} {q : PtQ}, l[i]? = some q → (cellsP l)[i * 3]? = some (.int .i64 q.1) ∧ (cellsP l)[i * 3 + 1]? = some (.int .i64 q.2.1) ∧ (cellsP l)[i * 3 + 2]? = some q.2.2
  | [], _, _, h => by simp at h
  | s :: r, 0, q, h => by
    obtain rfl : s = q := by simpa using h
    exact ⟨rfl, rfl, rfl⟩
  | s :: r, i + 1, q, h => by
    have := cellsP_at (l := r) (i := i) (q := q) (by simpa using h)
    rw [show (i + 1) * 3 = i * 3 + 1 + 1 + 1 by omega]
    exact this
theorem cells2_setD : ∀ {l : SpL} {x e t : Int}, (cells2 (l ++ [(x, e)])).set (l.length * 2 + 1) (.int .i64 t) = cells2 (l ++ [(x, t)])
  | [], _, _, _ => rfl
  | s :: r, x, e, t => by
    have := cells2_setD (l := r) (x := x) (e := e) (t := t)
    rw [List.length_cons, show (r.length + 1) * 2 + 1 = r.length * 2 + 1 + 1 + 1 by omega]
    simp only [List.cons_append, cells2, List.set_cons_succ]
    rw [this]
theorem difI_le {f g : Int → Int} {a m : Int} {out : SpL} (h : difI f g a m out) : a + (out.length : Int) ≤ m := by
  obtain ⟨bs, hc, rfl⟩ := h
  have h1 := covG_le hc
  have h2 : (difL bs).length ≤ bs.length := by unfold difL; rw [List.length_map]; exact List.length_filter_le _ _
  omega
theorem drop_at {α : Type} {l : List α} {i : Nat} {x : α} (h : l[i]? = some x) : l.drop i = x :: l.drop (i + 1) := by
  have hi := (List.getElem?_eq_some_iff.1 h).1
  rw [List.drop_eq_getElem_cons hi, (List.getElem?_eq_some_iff.1 h).2]
end Corr
namespace Go.Proofs.Ytonfjjmgjgmanaa
open Go.RowKit Corr
set_option linter.unusedVariables false
set_option linter.unusedSimpArgs false
end Go.Proofs.Ytonfjjmgjgmanaa

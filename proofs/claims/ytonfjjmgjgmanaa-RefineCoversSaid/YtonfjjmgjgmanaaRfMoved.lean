/- Contract of corrodyref12: Moved. What a moved timeline has on each day. Plain. -/
import Derived.Test.YtonfjjmgjgmanaaTl4
import Derived.Test.YtonfjjmgjgmanaaSep
import Derived.BigQuiet
import Derived.Deep.LoopGhost
namespace Corr
open Go Go.RowKit
set_option linter.unusedVariables false
/-- What a put moved by some days is. -/
def mvIt (by_ : Int) (y : It) : It := (max 1 (y.1 + by_), min 3652060 (y.2.1 + by_), y.2.2)
def putT (l : ItL) (y : It) : ItL := if mayB y.1 y.2.1 = true then l ++ [y] else l
def movedL (by_ : Int) (l : ItL) : ItL := l.foldl (fun o y => putT o (mvIt by_ y)) []
theorem movedL_more {by_ : Int} {l : ItL} {k : Nat} {y : It} (h : l[k]? = some y) : movedL by_ (l.take (k + 1)) = putT (movedL by_ (l.take k)) (mvIt by_ y) := by
  unfold movedL
  rw [List.take_add_one, h, List.foldl_append]; rfl
/-- All puts are of spans that may be. -/
def goodL (l : ItL) : Prop := ∀ y ∈ l, mayB y.1 y.2.1 = true
theorem goodL_put {l : ItL} (h : goodL l) (y : It) : goodL (putT l y) := by
  unfold putT
  split
  · rename_i hm
    intro z hz
    rcases List.mem_append.1 hz with hz | hz
    · exact h z hz
    · have : z = y := by simpa using hz
      rw [this]; exact hm
  · exact h
section
variable {T : TypeId} {w w' : World} {g n c : Nat} {A : Option Addr} {l : ItL} {G : Nat → Prop}
theorem RTlW.off (h : RTlW T w g A n c l) (ho : Off G w w') (hg : ¬ G g) (ha : ∀ k, (Value.slice A n c).ownBlock = some k → ¬ G k) : RTlW T w' g A n c l := ⟨ho.blk h.b hg, ho.own h.o ha⟩
theorem RetPut.state {e : Ending} (h : RTlW T w g A n c l) {l' : ItL} (r : RetPut T g w l' e w') : e = .returned (.int .i64 0) ∧ ∃ A' n' c', RTlW T w' g A' n' c' l' ∧ Off (· = g) w w' ∧ ∀ k, (Value.slice A' n' c').ownBlock = some k → w.heap.size ≤ k := by
  obtain ⟨A', n', c', w1, rfl, hb, ho, rfl⟩ := r
  have hg := h.sz
  have hge := own_ge ho
  refine ⟨rfl, A', n', c', ⟨?_, ?_⟩, (Off.of hb).trans (Off.set (F := (· = g)) (a := ⟨g, 0, none⟩) rfl _), hge⟩
  · have := (h.b.keep hb).set 0 (.slice A' n' c')
    simpa using this
  · refine (Off.set (F := (· = g)) (a := ⟨g, 0, none⟩) rfl _).own (own_low ho (Nat.zero_le _)) fun k hk e => ?_
    have := hge k hk
    omega
end
end Corr
namespace Go.Proofs.Ytonfjjmgjgmanaa
open Go.RowKit Corr
set_option linter.unusedVariables false
set_option linter.unusedSimpArgs false
end Go.Proofs.Ytonfjjmgjgmanaa
namespace Corr
open Go Go.RowKit
set_option linter.unusedVariables false
theorem rfAt_snoc (l : ItL) (y : It) (d : Int) : atL (l ++ [y]) d = if onB d y = true then y.2.2 else atL l d := by
  unfold atL
  rw [List.reverse_append, List.reverse_cons, List.reverse_nil, List.nil_append, List.cons_append, List.nil_append, List.find?_cons]
  cases h : onB d y with
  | true => rfl
  | false => rfl
theorem onB_iff {d : Int} {y : It} : onB d y = true ↔ y.1 ≤ d ∧ d < y.2.1 := by unfold onB; simp
theorem movedL_snoc (by_ : Int) (l : ItL) (y : It) : movedL by_ (l ++ [y]) = putT (movedL by_ l) (mvIt by_ y) := by
  unfold movedL; rw [List.foldl_append]; rfl
theorem moved_rev {by_ : Int} {d : Int} (h1 : 1 ≤ d) (h2 : d < 3652060) : ∀ r : ItL, goodL r.reverse → atL (movedL by_ r.reverse) d = atL r.reverse (d - by_)
  | [], _ => rfl
  | y :: r, hg => by
    rw [List.reverse_cons] at hg ⊢
    have hy := mayB_iff.1 (hg y (by simp))
    have ih := moved_rev (by_ := by_) h1 h2 r (fun z hz => hg z (by simp at hz ⊢; exact .inl hz))
    rw [movedL_snoc, rfAt_snoc]
    unfold putT
    by_cases hm : mayB (mvIt by_ y).1 (mvIt by_ y).2.1 = true
    · rw [if_pos hm, rfAt_snoc, ih]
      have e : (onB d (mvIt by_ y) = true) ↔ (onB (d - by_) y = true) := by
        rw [onB_iff, onB_iff]
        show max 1 (y.1 + by_) ≤ d ∧ d < min 3652060 (y.2.1 + by_) ↔ _
        omega
      by_cases h : onB (d - by_) y = true
      · rw [if_pos h, if_pos (e.2 h)]; rfl
      · rw [if_neg h, if_neg (fun h' => h (e.1 h'))]
    · rw [if_neg hm, ih, if_neg]
      intro h
      rw [onB_iff] at h
      apply hm
      rw [mayB_iff]
      show 1 ≤ max 1 (y.1 + by_) ∧ max 1 (y.1 + by_) < min 3652060 (y.2.1 + by_) ∧ min 3652060 (y.2.1 + by_) ≤ 3652060
      omega
/-- Each day has what as many days ahead had. -/
theorem moved_at {by_ : Int} {l : ItL} (hg : goodL l) {d : Int} (h1 : 1 ≤ d) (h2 : d < 3652060) : atL (movedL by_ l) d = atL l (d - by_) := by
  have h := moved_rev (by_ := by_) h1 h2 l.reverse (by rw [List.reverse_reverse]; exact hg)
  rw [List.reverse_reverse] at h
  exact h
theorem goodL_moved (by_ : Int) (l : ItL) : goodL (movedL by_ l) := by
  have key : ∀ (l o : ItL), goodL o → goodL (l.foldl (fun o y => putT o (mvIt by_ y)) o) := by
    intro l
    induction l with
    | nil => intro o h; exact h
    | cons y r ih => intro o h; exact ih _ (goodL_put h _)
  exact key l [] (fun y hy => by cases hy)
/-- A covering list over any values: parts side by side, neighbours unlike, each with f's value. -/
def covG {α : Type} (f : Int → α) : Int → Int → List (Int × Int × α) → Prop
  | a, b, [] => a = b
  | a, b, s :: r => s.1 = a ∧ s.1 < s.2.1 ∧ (∀ d, s.1 ≤ d → d < s.2.1 → f d = s.2.2) ∧ (∀ t, r.head? = some t → ¬ t.2.2 = s.2.2) ∧ covG f s.2.1 b r
theorem covG_le {α : Type} {f : Int → α} : ∀ {l : List (Int × Int × α)} {a b : Int}, covG f a b l → a + (l.length : Int) ≤ b
  | [], a, b, h => by have : a = b := h; simp; omega
  | s :: r, a, b, h => by
    obtain ⟨h1, h2, _, _, h5⟩ := h
    have := covG_le h5
    simp at this ⊢; omega
theorem covG_one {α : Type} {f : Int → α} : ∀ {l m : List (Int × Int × α)} {a b : Int}, covG f a b l → covG f a b m → l = m
  | [], [], _, _, _, _ => rfl
  | [], t :: q, a, b, h, k => by
    have e : a = b := h
    obtain ⟨h1, h2, _, _, h5⟩ := k
    have := covG_le h5
    omega
  | s :: r, [], a, b, h, k => by
    have e : a = b := k
    obtain ⟨h1, h2, _, _, h5⟩ := h
    have := covG_le h5
    omega
  | s :: r, t :: q, a, b, h, k => by
    obtain ⟨h1, h2, h3, h4, h5⟩ := h
    obtain ⟨k1, k2, k3, k4, k5⟩ := k
    have hv : s.2.2 = t.2.2 := by rw [← h3 a (by omega) (by omega), ← k3 a (by omega) (by omega)]
    have step : ∀ {s t : Int × Int × α} {r q : List (Int × Int × α)}, s.1 = a → t.1 = a → s.2.2 = t.2.2 → s.1 < s.2.1 → (∀ d, t.1 ≤ d → d < t.2.1 → f d = t.2.2) → (∀ u, r.head? = some u → ¬ u.2.2 = s.2.2) → covG f s.2.1 b r → covG f t.2.1 b q → ¬ s.2.1 < t.2.1 := by
      intro s t r q h1 k1 hv h2 k3 h4 h5 k5 hlt
      have hb := covG_le k5
      cases r with
      | nil => have : s.2.1 = b := h5; omega
      | cons u r =>
        obtain ⟨u1, u2, u3, _, _⟩ := h5
        refine h4 u rfl ?_
        rw [← u3 s.2.1 (by omega) (by omega), k3 s.2.1 (by omega) hlt, hv]
    have h21 : s.2.1 = t.2.1 := by
      have := step h1 k1 hv h2 k3 h4 h5 k5
      have := step k1 h1 hv.symm k2 h3 k4 k5 h5
      omega
    have e : s = t := Prod.ext (h1.trans k1.symm) (Prod.ext h21 hv)
    subst e
    rw [covG_one h5 k5]
end Corr

/- Rows of calls (a number and an item each). No program's function in this text. -/
import Derived.Test.YtolmkagedlcjiaaRow3
namespace Corr
open Go Go.RowKit
abbrev Cl := Int × It
abbrev ClL := List Cl
def cells4 : ClL → List Value
  | [] => []
  | s :: r => .int .i64 s.1 :: .int .i64 s.2.1 :: .int .i64 s.2.2.1 :: .int .i64 s.2.2.2 :: cells4 r
theorem cells4_len : ∀ l : ClL, (cells4 l).length = l.length * 4
  | [] => rfl
  | s :: r => by rw [cells4, List.length_cons, List.length_cons, List.length_cons, List.length_cons, cells4_len r, List.length_cons]; omega
theorem cells4_at : ∀ {l : ClL} {i : Nat} {s : Cl}, l[i]? = some s → (cells4 l)[i * 4]? = some (.int .i64 s.1) ∧ (cells4 l)[i * 4 + 1]? = some (.int .i64 s.2.1) ∧ (cells4 l)[i * 4 + 2]? = some (.int .i64 s.2.2.1) ∧ (cells4 l)[i * 4 + 3]? = some (.int .i64 s.2.2.2)
  | [], _, _, h => by simp at h
  | x :: r, 0, s, h => by simp at h; subst h; exact ⟨rfl, rfl, rfl, rfl⟩
  | x :: r, i + 1, s, h => by
    have := cells4_at (l := r) (i := i) (by simpa using h)
    rw [show (i + 1) * 4 = i * 4 + 1 + 1 + 1 + 1 by omega, show i * 4 + 1 + 1 + 1 + 1 + 1 = (i * 4 + 1) + 1 + 1 + 1 + 1 by omega, show i * 4 + 1 + 1 + 1 + 1 + 2 = (i * 4 + 2) + 1 + 1 + 1 + 1 by omega, show i * 4 + 1 + 1 + 1 + 1 + 3 = (i * 4 + 3) + 1 + 1 + 1 + 1 by omega]
    simpa [cells4] using this
/-- Calls in memory. -/
abbrev Cls (w : World) (A : Option Addr) (n c : Nat) (l : ClL) : Prop := Lies w 4 A n c (cells4 l)
theorem Cls.count {w : World} {A : Option Addr} {n c : Nat} {l : ClL} (h : Cls w A n c l) : l.length = n := by
  have := h.len; rw [cells4_len] at this; omega
theorem Cls.get {w : World} {A : Option Addr} {n c : Nat} {l : ClL} (h : Cls w A n c l) {k : Nat} (hk : k < n) :
    ∃ g off s, A = some ⟨g, off, none⟩ ∧ l[k]? = some s ∧ g < w.heap.size ∧ w.cell? ⟨g, off + k * 4, none⟩ = some (.int .i64 s.1) ∧ w.cell? ⟨g, off + k * 4 + 1, none⟩ = some (.int .i64 s.2.1) ∧ w.cell? ⟨g, off + k * 4 + 2, none⟩ = some (.int .i64 s.2.2.1) ∧ w.cell? ⟨g, off + k * 4 + 3, none⟩ = some (.int .i64 s.2.2.2) := by
  obtain ⟨g, off, hA, hg, hc⟩ := h.at_ (by omega)
  have hl := h.count
  have hs : l[k]? = some (l[k]'(by omega)) := List.getElem?_eq_getElem (by omega)
  have h3 := cells4_at hs
  refine ⟨g, off, _, hA, hs, hg, hc _ _ h3.1, ?_, ?_, ?_⟩
  · have := hc _ _ h3.2.1
    rw [← Nat.add_assoc] at this
    exact this
  · have := hc _ _ h3.2.2.1
    rw [← Nat.add_assoc] at this
    exact this
  · have := hc _ _ h3.2.2.2
    rw [← Nat.add_assoc] at this
    exact this
end Corr

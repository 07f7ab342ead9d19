/- The contract of corrodyref14.Same. (Written by wip/gen/genlx5.py.) -/
import Derived.Test.YtfceoehfellpgaaDoorLx4
import Derived.BigQuiet
namespace Corr
open Go Go.RowKit
theorem cellsT_at : ∀ {l : List Tk} {i : Nat} {s : Tk}, l[i]? = some s → (cellsT l)[i * 5]? = some (.int .u8 s.1) ∧ (cellsT l)[i * 5 + 1]? = some (.string s.2.1) ∧ (cellsT l)[i * 5 + 2]? = some (.int .i64 s.2.2.1) ∧ (cellsT l)[i * 5 + 3]? = some (.int .i64 s.2.2.2.1) ∧ (cellsT l)[i * 5 + 4]? = some (.int .i64 s.2.2.2.2)
  | [], _, _, h => by simp at h
  | x :: r, 0, s, h => by simp at h; subst h; exact ⟨rfl, rfl, rfl, rfl, rfl⟩
  | x :: r, i + 1, s, h => by
    have := cellsT_at (l := r) (i := i) (by simpa using h)
    rw [show (i + 1) * 5 = i * 5 + 1 + 1 + 1 + 1 + 1 by omega, show i * 5 + 1 + 1 + 1 + 1 + 1 + 1 = (i * 5 + 1) + 1 + 1 + 1 + 1 + 1 by omega, show i * 5 + 1 + 1 + 1 + 1 + 1 + 2 = (i * 5 + 2) + 1 + 1 + 1 + 1 + 1 by omega, show i * 5 + 1 + 1 + 1 + 1 + 1 + 3 = (i * 5 + 3) + 1 + 1 + 1 + 1 + 1 by omega, show i * 5 + 1 + 1 + 1 + 1 + 1 + 4 = (i * 5 + 4) + 1 + 1 + 1 + 1 + 1 by omega]
    simpa [cellsT] using this
abbrev Tks (w : World) (A : Option Addr) (n c : Nat) (l : List Tk) : Prop := Lies w 5 A n c (cellsT l)
theorem Tks.count {w : World} {A : Option Addr} {n c : Nat} {l : List Tk} (h : Tks w A n c l) : l.length = n := by
  have := h.len; rw [cellsT_len] at this; omega
theorem Tks.get {w : World} {A : Option Addr} {n c : Nat} {l : List Tk} (h : Tks w A n c l) {k : Nat} (hk : k < n) :
    ∃ g off s, A = some ⟨g, off, none⟩ ∧ l[k]? = some s ∧ g < w.heap.size ∧ w.cell? ⟨g, off + k * 5, none⟩ = some (.int .u8 s.1) ∧ w.cell? ⟨g, off + k * 5 + 1, none⟩ = some (.string s.2.1) ∧ w.cell? ⟨g, off + k * 5 + 2, none⟩ = some (.int .i64 s.2.2.1) ∧ w.cell? ⟨g, off + k * 5 + 3, none⟩ = some (.int .i64 s.2.2.2.1) ∧ w.cell? ⟨g, off + k * 5 + 4, none⟩ = some (.int .i64 s.2.2.2.2) := by
  obtain ⟨g, off, hA, hg, hc⟩ := h.at_ (by omega)
  have hl := h.count
  have hs : l[k]? = some (l[k]'(by omega)) := List.getElem?_eq_getElem (by omega)
  have h3 := cellsT_at hs
  refine ⟨g, off, _, hA, hs, hg, hc _ _ h3.1, ?_, ?_, ?_, ?_⟩
  · have := hc _ _ h3.2.1; rw [← Nat.add_assoc] at this; exact this
  · have := hc _ _ h3.2.2.1; rw [← Nat.add_assoc] at this; exact this
  · have := hc _ _ h3.2.2.2.1; rw [← Nat.add_assoc] at this; exact this
  · have := hc _ _ h3.2.2.2.2; rw [← Nat.add_assoc] at this; exact this
theorem tok_eq {l m : List Tk} (hl : l.length = m.length) (h : ∀ (k : Nat) s t, l[k]? = some s → m[k]? = some t → s = t) : l = m := by
  apply List.ext_getElem?
  intro k
  by_cases hk : k < l.length
  · have h1 : l[k]? = some l[k] := List.getElem?_eq_getElem hk
    have h2 : m[k]? = some (m[k]'(by omega)) := List.getElem?_eq_getElem (by omega)
    rw [h1, h2, h k _ _ h1 h2]
  · rw [List.getElem?_eq_none (by omega), List.getElem?_eq_none (by omega)]
theorem ba_same {a b : ByteArray} : a.toList = b.toList ↔ a = b := by
  rw [Lib.toList_data, Lib.toList_data]
  constructor
  · intro h; exact ByteArray.ext (Array.toList_inj.1 h)
  · intro h; rw [h]
end Corr
namespace Go.Proofs.YtfceoehfellpgaaDoor
open Go.RowKit Corr
set_option linter.unusedVariables false
set_option linter.unusedSimpArgs false
end Go.Proofs.YtfceoehfellpgaaDoor

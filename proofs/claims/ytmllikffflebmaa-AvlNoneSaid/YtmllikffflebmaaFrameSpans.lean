/- A slice of spans as an argument, read and left. -/
import Derived.Test.YtmllikffflebmaaFrameBase
import Derived.Test.YtmllikffflebmaaRow
import Derived.Deep.SlicePairs
import Derived.Carry
namespace Go.Proofs.Ytmllikffflebmaa
open Go.ChangeShapes Go.WideShapes Go.ChangeAt Go.RowKit Go.Joins Go.Deep Corr
set_option linter.unusedVariables false
set_option maxRecDepth 100000
theorem Try.laidOut1 : laidOutB Try.prog = true := by kernel_rfl
theorem list_of {α : Type} {p : Nat → α → Prop} : ∀ {n : Nat}, (∀ i, i < n → ∃ x, p i x) → ∃ l : List α, l.length = n ∧ ∀ (i : Nat) (x : α), l[i]? = some x → p i x
  | 0, _ => ⟨[], rfl, fun i x h => by simp at h⟩
  | n + 1, h => by
    obtain ⟨l, hl, hp⟩ := list_of (n := n) fun i hi => h i (by omega)
    obtain ⟨x, hx⟩ := h n (by omega)
    refine ⟨l ++ [x], by simp [hl], fun i y hy => ?_⟩
    by_cases hi : i < n
    · rw [List.getElem?_append_left (by omega)] at hy; exact hp i y hy
    · have : i = n := by have := (List.getElem?_eq_some_iff.1 hy).1; simp [hl] at this; omega
      subst this
      rw [List.getElem?_append_right (by omega), hl] at hy
      simp at hy
      subst hy; exact hx
theorem spot_none {w : World} {a : Addr} {v : Value} (h : w.cell? a = some v) : a.spot = none ∧ a.block < w.heap.size := by
  unfold World.cell? at h
  split at h
  · rename_i c _ _ hb
    split at h
    · cases h
    · rename_i hs
      exact ⟨by simpa using hs, (Array.getElem?_eq_some_iff.1 hb).1⟩
  · cases h
theorem cells2_get {l : SpL} {i : Nat} {v : Value} (h : (cells2 l)[i]? = some v) : ∃ (j : Nat) (s : Int × Int), l[j]? = some s ∧ (i = j * 2 ∧ v = .int .i64 s.1 ∨ i = j * 2 + 1 ∧ v = .int .i64 s.2) := by
  have hi : i < l.length * 2 := by rw [← cells2_len]; exact (List.getElem?_eq_some_iff.1 h).1
  have hs : l[i / 2]? = some (l[i / 2]'(by omega)) := List.getElem?_eq_getElem (by omega)
  refine ⟨i / 2, _, hs, ?_⟩
  rcases Nat.mod_two_eq_zero_or_one i with e | e
  · left
    have := cells2_0 hs
    rw [show i / 2 * 2 = i by omega, h] at this
    exact ⟨by omega, Option.some.inj this⟩
  · right
    have := cells2_1 hs
    rw [show i / 2 * 2 + 1 = i by omega, h] at this
    exact ⟨by omega, Option.some.inj this⟩
end Go.Proofs.Ytmllikffflebmaa

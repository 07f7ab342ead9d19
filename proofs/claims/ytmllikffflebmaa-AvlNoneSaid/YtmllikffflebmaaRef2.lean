/- Contracts of corrodyref01: plus, minus. -/
import Derived.Test.YtmllikffflebmaaRef1
namespace Corr
open Go Go.RowKit
/-- What a call leaves that tells a row. -/
def RetRow (w : World) (P : List Nat → Prop) (e : Ending) (w' : World) : Prop :=
  ∃ A k c o, e = .returned (.slice A k c) ∧ Row w' A k c o ∧ P o ∧ Below w.heap.size w w'
/-- A place of a row, in a world that is as it was below. -/
theorem Row.get {w : World} {A : Option Addr} {n c : Nat} {xs : List Nat} (h : Row w A n c xs) (hd : ∀ x ∈ xs, x < 1000) {k : Nat} (hk : k < n) :
    ∃ g off x, A = some ⟨g, off, none⟩ ∧ xs[k]? = some x ∧ x < 1000 ∧ ∀ w', Below w.heap.size w w' → w'.cell? ⟨g, off + k, none⟩ = some (.int .i64 (x : Int)) := by
  obtain ⟨g, off, hA, hg, hc⟩ := h.at_ (by omega)
  have hl : k < xs.length := by rw [h.len]; exact hk
  refine ⟨g, off, xs[k], hA, List.getElem?_eq_getElem hl, hd _ (List.getElem_mem hl), fun w' hb => ?_⟩
  rw [hb.cell (p := ⟨g, off + k, none⟩) hg]
  exact hc k _ (List.getElem?_eq_getElem hl)
theorem dv_snoc (o : List Nat) (x : Nat) : dv (o ++ [x]) = dv o + 1000 ^ o.length * x := by rw [dv_append]; simp [dv]
theorem dv_take {xs : List Nat} {k x : Nat} (h : xs[k]? = some x) : dv (xs.take (k + 1)) = dv (xs.take k) + 1000 ^ k * x := by
  have hl : k < xs.length := (List.getElem?_eq_some_iff.1 h).1
  rw [List.take_add_one, h]
  simp only [Option.toList_some]
  rw [dv_snoc, List.length_take, Nat.min_eq_left (by omega)]
theorem dv_past {xs : List Nat} {k : Nat} (h : xs.length ≤ k) : dv (xs.take (k + 1)) = dv (xs.take k) := by
  rw [List.take_of_length_le (by omega), List.take_of_length_le h]
/-- One place of a sum. -/
theorem plus_step {p c t s : Nat} (h : s + p * c = t) (x y : Nat) : (s + p * ((c + x + y) % 1000)) + p * 1000 * ((c + x + y) / 1000) = t + p * x + p * y := by
  have h1 := Nat.div_add_mod (c + x + y) 1000
  have h2 : p * (1000 * ((c + x + y) / 1000) + (c + x + y) % 1000) = p * (c + x + y) := by rw [h1]
  rw [Nat.mul_add, ← Nat.mul_assoc, Nat.mul_add, Nat.mul_add] at h2
  omega
theorem mem_snoc {o : List Nat} {x : Nat} (h : ∀ y ∈ o, y < 1000) (hx : x < 1000) : ∀ y ∈ o ++ [x], y < 1000 := by
  intro y hy
  rcases List.mem_append.1 hy with h1 | h1
  · exact h y h1
  · have : y = x := by simpa using h1
    omega
end Corr
namespace Go.Proofs.Ytmllikffflebmaa
open Go.RowKit Corr
set_option linter.unusedVariables false

end Go.Proofs.Ytmllikffflebmaa

/- How a row of numbers lies as a slice; the contract of corrodyref01.Word. -/
import Derived.Test.YtmllikffflebmaaBase
import Derived.Lib.Hide
import Derived.Lib.SmallJoins
import Derived.Test.YtmllikffflebmaaThou
import Derived.OwnWalk
namespace Corr
open Go Go.RowKit

theorem heapNew (w : World) (o : Obj) : (w.alloc o).heap[w.heap.size]? = some o := by
  show (w.heap.push o)[w.heap.size]? = some o
  simp
/-- A slice that reads as the row xs: n places, room for c. -/
structure Row (w : World) (A : Option Addr) (n c : Nat) (xs : List Nat) : Prop where
  len : xs.length = n
  cap : n ≤ c
  at_ : 0 < n → ∃ g off, A = some ⟨g, off, none⟩ ∧ g < w.heap.size ∧ ∀ (i x : Nat), xs[i]? = some x → w.cell? ⟨g, off + i, none⟩ = some (.int .i64 (x : Int))
theorem Row.keep {w w' : World} {A : Option Addr} {n c : Nat} {xs : List Nat} (h : Row w A n c xs) (hb : Below w.heap.size w w') : Row w' A n c xs :=
  ⟨h.len, h.cap, fun hn => by
    obtain ⟨g, off, hA, hg, hc⟩ := h.at_ hn
    exact ⟨g, off, hA, Nat.lt_of_lt_of_le hg hb.size, fun i x hx => (hb.cell (p := ⟨g, off + i, none⟩) hg).trans (hc i x hx)⟩⟩
theorem Row.nil_ (w : World) : Row w none 0 0 [] := ⟨rfl, Nat.le_refl _, fun h => absurd h (by omega)⟩
def encN (x : Nat) : Value := .int .i64 (x : Int)
/-- A row of the call's own is such a slice. -/
theorem Row.of_own {w : World} {base : Nat} {e : TypeId} {v : Value} {xs : List Nat} (h : w.ownsRow base e 1 v xs.length (xs.map encN)) : ∃ A c, v = .slice A xs.length c ∧ Row w A xs.length c xs := by
  rcases Joins.ownsRow_forms h with ⟨rfl, hn⟩ | ⟨g, cap, rfl⟩
  · have : xs = [] := List.length_eq_zero_iff.1 hn
    subst this
    exact ⟨none, 0, rfl, Row.nil_ w⟩
  · refine ⟨some ⟨g, 0, none⟩, cap, rfl, rfl, ?_, fun hn => ⟨g, 0, rfl, ?_, fun i x hx => ?_⟩⟩
    · obtain ⟨_, h' | ⟨g', cap', cur, hv, _, _, hc, _⟩⟩ := h
      · cases h'.1
      · injection hv with _ _ e2; rw [e2]; exact hc
    · obtain ⟨_, h' | ⟨g', cap', cur, hv, _, hh, _⟩⟩ := h
      · cases h'.1
      · injection hv with e1 _ _
        injection e1 with e1
        injection e1 with e1 _ _
        subst e1
        exact (Array.getElem?_eq_some_iff.1 hh).1
    · have hi : i < xs.length := (List.getElem?_eq_some_iff.1 hx).1
      rw [Nat.zero_add, h.cellAt i (by omega), List.getElem?_map, hx]
      rfl

theorem own_block {w : World} {base : Nat} {e : TypeId} {size n : Nat} {v : Value} {xs : List Value} (h : w.ownsRow base e size v n xs) : ∀ k, v.ownBlock = some k → base ≤ k := by
  intro k hk
  obtain ⟨_, h' | ⟨g, cap, cur, rfl, hg, _⟩⟩ := h
  · rw [h'.1] at hk; cases hk
  · have : g = k := by simpa [Value.ownBlock] using hk
    omega
theorem new_one (w : World) (x : Value) (T : TypeId) : ∀ (j : Nat) (u : Value), [x][j]? = some u → (w.alloc (.cells #[x] T)).cell? ((⟨w.heap.size, 0, none⟩ : Addr).add j) = some u := by
  intro j u hj
  cases j with
  | zero =>
    have hu : x = u := by simpa using hj
    subst hu
    rw [show (⟨w.heap.size, 0, none⟩ : Addr).add 0 = ⟨w.heap.size, 0, none⟩ from rfl, Joins.cell_of_block (heapNew w _)]
    rfl
  | succ j => simp at hj
theorem own_snoc {w : World} {base : Nat} {e : TypeId} {v : Value} {acc : List Nat} {x : Nat} (h : w.ownsRow base e 1 v (acc.length + 1) (acc.map encN ++ [encN x])) : w.ownsRow base e 1 v (acc ++ [x]).length ((acc ++ [x]).map encN) := by
  simpa using h

/-- What a call leaves that tells a number as a row. -/
def RetN (w : World) (neg : Bool) (xs : List Nat) (e : Ending) (w' : World) : Prop :=
  ∃ A k c, e = .returned (.agg #[.bool neg, .slice A k c]) ∧ Row w' A k c xs ∧ Below w.heap.size w w'
end Corr
namespace Go.Proofs.Ytmllikffflebmaa
open Go.RowKit Corr
set_option linter.unusedVariables false
theorem info_int : (Try.prog.info? 3).map (fun i => (i.zero, i.size, i.bytes)) = some (some (.int .i64 0), 1, 8) := by kernel_rfl

end Go.Proofs.Ytmllikffflebmaa

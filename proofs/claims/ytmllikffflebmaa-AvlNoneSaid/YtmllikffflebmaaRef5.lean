/- Contracts of corrodyref01: Neg, Add. -/
import Derived.Test.YtmllikffflebmaaRef4
import Derived.Deep.RegionHeld3
import Derived.Deep.DeepCutAuto
import Derived.Deep.CutBlock
import Derived.Deep.LoopGhost
namespace Corr
open Go Go.RowKit
/-- A block that is just these two cells, and may be written. -/
structure Box2 (w : World) (k : Nat) (a b : Value) : Prop where
  blk : ∃ T, w.heap[k]? = some (.cells #[a, b] T (0, 0))
theorem Box2.c0 {w : World} {k : Nat} {a b : Value} (h : Box2 w k a b) : w.cell? ⟨k, 0, none⟩ = some a := by
  obtain ⟨T, h⟩ := h.blk; rw [Joins.cell_of_block h]; rfl
theorem Box2.c1 {w : World} {k : Nat} {a b : Value} (h : Box2 w k a b) : w.cell? ⟨k, 1, none⟩ = some b := by
  obtain ⟨T, h⟩ := h.blk; rw [Joins.cell_of_block h]; rfl
theorem Box2.f {w : World} {k : Nat} {a b : Value} (h : Box2 w k a b) (i : Nat) : w.frozen? ⟨k, i, none⟩ = false := by
  obtain ⟨T, h⟩ := h.blk; exact Joins.unfrozen_of_block h _
theorem Box2.sz {w : World} {k : Nat} {a b : Value} (h : Box2 w k a b) : k < w.heap.size := by
  obtain ⟨T, h⟩ := h.blk; exact (Array.getElem?_eq_some_iff.1 h).1
theorem Box2.keep {W w1 : World} {k : Nat} {a b : Value} (h : Box2 W k a b) (hb : Below W.heap.size W w1) : Box2 w1 k a b := by
  have hk := h.sz
  obtain ⟨T, h⟩ := h.blk
  exact ⟨T, by rw [hb.block k hk]; exact h⟩
theorem Box2.new (w : World) (a b : Value) (T : TypeId) : Box2 (w.alloc (.cells #[a, b] T)) w.heap.size a b := ⟨T, heapNew w _⟩
theorem Box2.alloc {w : World} {k : Nat} {a b : Value} (h : Box2 w k a b) (o : Obj) : Box2 (w.alloc o) k a b :=
  h.keep ((Below.refl _ _).alloc (Nat.le_refl _) _)
theorem Box2.drew {w : World} {k : Nat} {a b : Value} (h : Box2 w k a b) : Box2 w.drew k a b := h.keep ((Below.refl _ _).drew)
theorem Box2.far {w : World} {k g : Nat} {a b : Value} (h : Box2 w k a b) (hg : k ≠ g) (u v : Value) : Box2 ((w.setCell ⟨g, 0, none⟩ u).setCell ⟨g, 1, none⟩ v) k a b := by
  obtain ⟨T, h⟩ := h.blk
  exact ⟨T, by rw [Below.heap_setCell _ _ _ _ hg, Below.heap_setCell _ _ _ _ hg]; exact h⟩
theorem Box2.stored {w : World} {k : Nat} {a b : Value} (h : Box2 w k a b) (u v : Value) : Box2 ((w.setCell ⟨k, 0, none⟩ u).setCell ⟨k, 1, none⟩ v) k u v := by
  obtain ⟨T, h⟩ := h.blk
  exact ⟨T, by rw [Joins.block_setCell (Joins.block_setCell h u) v]; rfl⟩
/-- Such a block, a truth and a slice, is no row's. -/
theorem Box2.ne_row {w : World} {g n c : Nat} {s : Bool} {v : Value} {A : Option Addr} {xs : List Nat} (h : Box2 w g (.bool s) v) (hv : ∀ k z, v ≠ .int k z) (r : Row w A n c xs) : 0 < n → ∀ k off, A = some ⟨k, off, none⟩ → k ≠ g := by
  intro hn k off hA e
  subst e
  obtain ⟨k', off', hA', _, hc⟩ := r.at_ hn
  rw [hA] at hA'
  injection hA' with hA'
  injection hA' with e1 e2 _
  subst e1 e2
  have hl : 0 < xs.length := by rw [r.len]; exact hn
  have h0 := hc 0 _ (List.getElem?_eq_getElem hl)
  obtain ⟨T, hb⟩ := h.blk
  rw [Joins.cell_of_block hb, Nat.add_zero] at h0
  match off, h0 with
  | 0, h0 => simp at h0
  | 1, h0 => simp at h0; exact hv _ _ h0
  | off + 2, h0 => simp at h0
theorem Row.alloc {w : World} {A : Option Addr} {n c : Nat} {xs : List Nat} (h : Row w A n c xs) (o : Obj) : Row (w.alloc o) A n c xs := h.keep ((Below.refl _ _).alloc (Nat.le_refl _) _)
theorem Row.drew {w : World} {A : Option Addr} {n c : Nat} {xs : List Nat} (h : Row w A n c xs) : Row w.drew A n c xs := h.keep ((Below.refl _ _).drew)
/-- A row stays where two cells of another block are written, one that is none of the row's. -/
theorem Row.far {w : World} {A : Option Addr} {n c g : Nat} {xs : List Nat} (h : Row w A n c xs) (hg : 0 < n → ∀ k off, A = some ⟨k, off, none⟩ → k ≠ g) (a b : Value) : Row ((w.setCell ⟨g, 0, none⟩ a).setCell ⟨g, 1, none⟩ b) A n c xs :=
  ⟨h.len, h.cap, fun hn => by
    obtain ⟨k, off, hA, hk, hc⟩ := h.at_ hn
    have hne := hg hn k off hA
    refine ⟨k, off, hA, by simp [go_sem]; omega, fun i x hx => ?_⟩
    have := hc i x hx
    simp [go_sem, this]⟩
theorem sgn_neg (s : Bool) (n : Nat) : nzB s n = negB (val s n) := by unfold nzB; rw [negB_val, Bool.eq_iff_iff]; simp
end Corr
namespace Go.Proofs.Ytmllikffflebmaa
open Go.RowKit Corr
set_option linter.unusedVariables false

theorem len_le {a b : Nat} (h : b ≤ a) : (digs b).length ≤ (digs a).length := by
  rcases Nat.lt_or_ge (digs a).length (digs b).length with h1 | h1
  · have := digs_lt_of_len h1; omega
  · exact h1
end Go.Proofs.Ytmllikffflebmaa

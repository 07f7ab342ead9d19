/- Contracts of package wide: Add, Cmp. -/
import Derived.Test.YtmccmgplgdmjbaaDoorWide3
import Derived.Deep.Quiet
import Derived.StillTail
import Derived.Deep.QuietTactic
import Derived.Deep.DeepCutAuto
namespace Go.Proofs.YtmccmgplgdmjbaaDoor
open Go.RowKit Corr
set_option linter.unusedVariables false

theorem apart_fits (s s' : Bool) (a b : Nat) (ha : a < B128) (hb : b < B128) (hs : s' = !s) : (val s a + val s' b).natAbs < B128 := by
  subst hs; cases s <;> simp [val] <;> omega
/-- Two blocks of three cells, side by side, that may be written. -/
structure Box6 (w : World) (k : Nat) (a b c d e f : Value) : Prop where
  c0 : w.cell? ⟨k, 0, none⟩ = some a
  c1 : w.cell? ⟨k, 1, none⟩ = some b
  c2 : w.cell? ⟨k, 2, none⟩ = some c
  d0 : w.cell? ⟨k + 1, 0, none⟩ = some d
  d1 : w.cell? ⟨k + 1, 1, none⟩ = some e
  d2 : w.cell? ⟨k + 1, 2, none⟩ = some f
  f0 : w.frozen? ⟨k, 0, none⟩ = false
  f1 : w.frozen? ⟨k, 1, none⟩ = false
  f2 : w.frozen? ⟨k, 2, none⟩ = false
  g0 : w.frozen? ⟨k + 1, 0, none⟩ = false
  g1 : w.frozen? ⟨k + 1, 1, none⟩ = false
  g2 : w.frozen? ⟨k + 1, 2, none⟩ = false
  sz : k + 1 < w.heap.size
theorem Box6.keep {W w1 : World} {k : Nat} {a b c d e f : Value} (h : Box6 W k a b c d e f) (hb : Below W.heap.size W w1) : Box6 w1 k a b c d e f := by
  have hk := h.sz
  have e1 : ∀ o, w1.cell? ⟨k, o, none⟩ = W.cell? ⟨k, o, none⟩ := fun o => hb.cell (by show k < _; omega)
  have e2 : ∀ o, w1.cell? ⟨k + 1, o, none⟩ = W.cell? ⟨k + 1, o, none⟩ := fun o => hb.cell (by show k + 1 < _; omega)
  have e3 : ∀ o, w1.frozen? ⟨k, o, none⟩ = W.frozen? ⟨k, o, none⟩ := fun o => hb.frozen (by show k < _; omega)
  have e4 : ∀ o, w1.frozen? ⟨k + 1, o, none⟩ = W.frozen? ⟨k + 1, o, none⟩ := fun o => hb.frozen (by show k + 1 < _; omega)
  exact ⟨(e1 _).trans h.c0, (e1 _).trans h.c1, (e1 _).trans h.c2, (e2 _).trans h.d0, (e2 _).trans h.d1, (e2 _).trans h.d2, (e3 _).trans h.f0, (e3 _).trans h.f1, (e3 _).trans h.f2, (e4 _).trans h.g0, (e4 _).trans h.g1, (e4 _).trans h.g2, Nat.lt_of_lt_of_le hk hb.size⟩
theorem Box6.mk2 (w : World) (a b c d e f : Value) (T T' : TypeId) : Box6 (((w.alloc (.cells #[a, b, c] T)).alloc (.cells #[d, e, f] T')).drew) w.heap.size a b c d e f := by
  have h1 : ((w.alloc (.cells #[a, b, c] T)).alloc (.cells #[d, e, f] T')).heap[w.heap.size]? = some (.cells #[a, b, c] T) := by
    rw [heap_alloc_old _ _ _ (by simp), heap_alloc_new]
  have h2 : ((w.alloc (.cells #[a, b, c] T)).alloc (.cells #[d, e, f] T')).heap[w.heap.size + 1]? = some (.cells #[d, e, f] T') := by
    rw [← size_alloc w (.cells #[a, b, c] T), heap_alloc_new]
  obtain ⟨⟨a0, a1, a2⟩, b0, b1, b2⟩ := cells3 (Below.refl _ _) h1
  obtain ⟨⟨c0, c1, c2⟩, d0, d1, d2⟩ := cells3 (Below.refl _ _) h2
  exact ⟨a0, a1, a2, c0, c1, c2, b0, b1, b2, d0, d1, d2, by show w.heap.size + 1 < ((w.alloc _).alloc _).heap.size; simp⟩

/-- Such blocks, new since the world w. -/
structure New6 (w W : World) (a b c d e f : Value) : Prop where
  box : Box6 W w.heap.size a b c d e f
  below : Below w.heap.size w W
theorem New6.keep {w W w1 : World} {a b c d e f : Value} (h : New6 w W a b c d e f) (hb : Below W.heap.size W w1) : New6 w w1 a b c d e f :=
  ⟨h.box.keep hb, h.below.trans (hb.mono (by have := h.box.sz; omega))⟩
theorem New6.mk2 (w : World) (a b c d e f : Value) (T T' : TypeId) : New6 w (((w.alloc (.cells #[a, b, c] T)).alloc (.cells #[d, e, f] T')).drew) a b c d e f :=
  ⟨Box6.mk2 w a b c d e f T T', (((Below.refl _ _).alloc (Nat.le_refl _) _).alloc (by simp) _).drew⟩

theorem New6.stored {w W : World} {a b c d e f : Value} (h : New6 w W a b c d e f) (a' b' c' d' e' f' : Value) :
    New6 w ((((((W.setCell ⟨w.heap.size, 0, none⟩ a').setCell ⟨w.heap.size, 1, none⟩ b').setCell ⟨w.heap.size, 2, none⟩ c').setCell ⟨w.heap.size + 1, 0, none⟩ d').setCell ⟨w.heap.size + 1, 1, none⟩ e').setCell ⟨w.heap.size + 1, 2, none⟩ f') a' b' c' d' e' f' := by
  obtain ⟨⟨c0, c1, c2, d0, d1, d2, f0, f1, f2, g0, g1, g2, sz⟩, hb⟩ := h
  refine ⟨⟨?_, ?_, ?_, ?_, ?_, ?_, ?_, ?_, ?_, ?_, ?_, ?_, ?_⟩, ?_⟩
  · simp [go_sem, c0]
  · simp [go_sem, c1]
  · simp [go_sem, c2]
  · simp [go_sem, d0]
  · simp [go_sem, d1]
  · simp [go_sem, d2]
  · simp [go_sem, f0]
  · simp [go_sem, f1]
  · simp [go_sem, f2]
  · simp [go_sem, g0]
  · simp [go_sem, g1]
  · simp [go_sem, g2]
  · simp [go_sem]; omega
  · exact (((((hb.setCell (by simp) _).setCell (by simp) _).setCell (by simp) _).setCell (by simp) _).setCell (by simp) _).setCell (by simp) _

theorem cmp_neg (x y : Int) (hx : x < 0) (hy : y < 0) : cmpI (y.natAbs : Int) (x.natAbs : Int) = cmpI x y := by
  unfold cmpI; split <;> split <;> first | rfl | omega | (split <;> first | rfl | omega)
theorem cmp_pos (x y : Int) (hx : ¬ x < 0) (hy : ¬ y < 0) : cmpI (x.natAbs : Int) (y.natAbs : Int) = cmpI x y := by
  rw [show (x.natAbs : Int) = x by omega, show (y.natAbs : Int) = y by omega]

end Go.Proofs.YtmccmgplgdmjbaaDoor

/- A block that is known whole, of any number of cells, and may be written: what stays of it over calls and stores. -/
import Derived.Test.YtmllikffflebmaaRef5
namespace Corr
open Go Go.RowKit
/-- A block that is just these cells, and may be written. -/
structure Blk (w : World) (k : Nat) (vs : Array Value) : Prop where
  blk : ∃ T, w.heap[k]? = some (.cells vs T (0, 0))
section
variable {w w' : World} {k g : Nat} {vs : Array Value}
theorem Blk.get (h : Blk w k vs) (i : Nat) {v : Value} (hv : vs.toList[i]? = some v) : w.cell? ⟨k, i, none⟩ = some v := by
  obtain ⟨T, h⟩ := h.blk; rw [Joins.cell_of_block h, ← Array.getElem?_toList]; exact hv
theorem Blk.f (h : Blk w k vs) (i : Nat) : w.frozen? ⟨k, i, none⟩ = false := by
  obtain ⟨T, h⟩ := h.blk; exact Joins.unfrozen_of_block h _
theorem Blk.sz (h : Blk w k vs) : k < w.heap.size := by
  obtain ⟨T, h⟩ := h.blk; exact (Array.getElem?_eq_some_iff.1 h).1
theorem Blk.keep (h : Blk w k vs) (hb : Below w.heap.size w w') : Blk w' k vs := by
  have hk := h.sz
  obtain ⟨T, h⟩ := h.blk
  exact ⟨T, by rw [hb.block k hk]; exact h⟩
theorem Blk.new (w : World) (vs : Array Value) (T : TypeId) : Blk (w.alloc (.cells vs T)) w.heap.size vs := ⟨T, heapNew w _⟩
theorem Blk.alloc (h : Blk w k vs) (o : Obj) : Blk (w.alloc o) k vs := h.keep ((Below.refl _ _).alloc (Nat.le_refl _) _)
theorem Blk.drew (h : Blk w k vs) : Blk w.drew k vs := h.keep ((Below.refl _ _).drew)
theorem Blk.far (h : Blk w k vs) (hg : k ≠ g) (i : Nat) (v : Value) : Blk (w.setCell ⟨g, i, none⟩ v) k vs := by
  obtain ⟨T, h⟩ := h.blk
  exact ⟨T, by rw [Below.heap_setCell _ _ _ _ hg]; exact h⟩
theorem Blk.set (h : Blk w k vs) (i : Nat) (v : Value) : Blk (w.setCell ⟨k, i, none⟩ v) k (vs.setIfInBounds i v) := by
  obtain ⟨T, h⟩ := h.blk
  exact ⟨T, Joins.block_setCell h v⟩
/-- Such a block without an int among its cells is no row's. -/
theorem Blk.ne_row {n c : Nat} {A : Option Addr} {xs : List Nat} (h : Blk w g vs) (hv : ∀ v ∈ vs, ∀ z, v ≠ .int .i64 z) (r : Row w A n c xs) : 0 < n → ∀ k off, A = some ⟨k, off, none⟩ → k ≠ g := by
  intro hn k off hA e
  subst e
  obtain ⟨k', off', hA', _, hc⟩ := r.at_ hn
  rw [hA] at hA'
  injection hA' with hA'
  injection hA' with e1 e2 _
  subst e1 e2
  have hl : 0 < xs.length := by rw [r.len]; exact hn
  have h0 := hc 0 _ (List.getElem?_eq_getElem hl)
  obtain ⟨T, hb⟩ := h.blk
  rw [Joins.cell_of_block hb, Nat.add_zero] at h0
  exact hv _ (Array.mem_of_getElem? h0) _ rfl
end
theorem Blk.of2 {w : World} {k : Nat} {a b : Value} (h : Box2 w k a b) : Blk w k #[a, b] := ⟨h.blk⟩
theorem Blk.to2 {w : World} {k : Nat} {a b : Value} (h : Blk w k #[a, b]) : Box2 w k a b := ⟨h.blk⟩
section
variable {w : World} {k g : Nat} {a b c a' b' c' : Value}
theorem Blk.c30 (h : Blk w k #[a, b, c]) : w.cell? ⟨k, 0, none⟩ = some a := h.get 0 rfl
theorem Blk.c31 (h : Blk w k #[a, b, c]) : w.cell? ⟨k, 1, none⟩ = some b := h.get 1 rfl
theorem Blk.c32 (h : Blk w k #[a, b, c]) : w.cell? ⟨k, 2, none⟩ = some c := h.get 2 rfl
theorem Blk.put3 (h : Blk w k #[a, b, c]) (u v x : Value) : Blk (((w.setCell ⟨k, 0, none⟩ u).setCell ⟨k, 1, none⟩ v).setCell ⟨k, 2, none⟩ x) k #[u, v, x] := ((h.set 0 u).set 1 v).set 2 x
theorem Blk.far3 {vs : Array Value} (h : Blk w k vs) (hg : k ≠ g) (u v x : Value) : Blk (((w.setCell ⟨g, 0, none⟩ u).setCell ⟨g, 1, none⟩ v).setCell ⟨g, 2, none⟩ x) k vs := ((h.far hg 0 u).far hg 1 v).far hg 2 x
theorem Blk.far2 {vs : Array Value} (h : Blk w k vs) (hg : k ≠ g) (u v : Value) : Blk ((w.setCell ⟨g, 0, none⟩ u).setCell ⟨g, 1, none⟩ v) k vs := (h.far hg 0 u).far hg 1 v
end
/-- A Wide's block is no row's. -/
theorem Blk.wide_ne {w : World} {g n c : Nat} {s : Bool} {h l : Int} {A : Option Addr} {xs : List Nat} (hb : Blk w g #[.bool s, .int .u64 h, .int .u64 l]) (r : Row w A n c xs) : 0 < n → ∀ k off, A = some ⟨k, off, none⟩ → k ≠ g :=
  hb.ne_row (by
    intro v hv z e
    simp at hv
    rcases hv with rfl | rfl | rfl <;> cases e) r
end Corr

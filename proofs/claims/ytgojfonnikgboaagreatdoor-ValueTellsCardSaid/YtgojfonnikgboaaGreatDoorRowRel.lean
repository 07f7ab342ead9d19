/- What the values of a drawn region's operations are known by, over the memory of a call; each stays while memory grows. Rows of cells as what a drawn region's operations yield. -/
import Derived.Test.YtgojfonnikgboaaGreatDoorRel
import Derived.Test.YtgojfonnikgboaaGreatDoorMem
import Derived.Test.YtgojfonnikgboaaGreatDoorRow
namespace Corr
open Go Go.RowKit
/-- The memory of a call, and at least so many blocks. -/
structure MemAt (w : World) (H : Nat) (bs : List (Nat × Array Value)) (rs : List RowD) (wr : World) : Prop where
  m : Mem w wr bs rs
  h : H ≤ wr.heap.size
section
variable {w w' wr : World} {H : Nat} {bs : List (Nat × Array Value)} {rs : List RowD}
theorem MemAt.grow (h : MemAt w H bs rs wr) (hb : Below wr.heap.size wr w') : MemAt w H bs rs w' := ⟨h.m.keep hb, Nat.le_trans h.h hb.size⟩
theorem Mem.at (S : Mem w wr bs rs) : MemAt w wr.heap.size bs rs wr.drew := ⟨S.drew, Nat.le_refl _⟩
end
/-- The value is this one. -/
def VE (x : Value) (v : Value) (_ : World) : Prop := v = x
/-- .. a number as a row. -/
def VN (s : Bool) (a : Nat) (v : Value) (w : World) : Prop := ∃ A k c, v = .agg #[.bool s, .slice A k c] ∧ Row w A k c (digs a)
/-- .. two of them. -/
def VNN (s : Bool) (a : Nat) (s' : Bool) (a' : Nat) (v : Value) (w : World) : Prop :=
  ∃ A k c A' k' c', v = .tuple #[.agg #[.bool s, .slice A k c], .agg #[.bool s', .slice A' k' c']] ∧ Row w A k c (digs a) ∧ Row w A' k' c' (digs a')
/-- .. a new block, from number H on. -/
def VA (H : Nat) (zs : Array Value) (v : Value) (w : World) : Prop := ∃ g, v = .pointer (some ⟨g, 0, none⟩) ∧ Blk w g zs ∧ H ≤ g
section
variable {w w' : World} {v x : Value}
theorem VE.grow (h : VE x v w) (_ : Below w.heap.size w w') : VE x v w' := h
theorem VN.grow {s : Bool} {a : Nat} (h : VN s a v w) (hb : Below w.heap.size w w') : VN s a v w' := by
  obtain ⟨A, k, c, h1, h2⟩ := h; exact ⟨A, k, c, h1, h2.keep hb⟩
theorem VNN.grow {s s' : Bool} {a a' : Nat} (h : VNN s a s' a' v w) (hb : Below w.heap.size w w') : VNN s a s' a' v w' := by
  obtain ⟨A, k, c, A', k', c', h1, h2, h3⟩ := h; exact ⟨A, k, c, A', k', c', h1, h2.keep hb, h3.keep hb⟩
theorem VA.grow {H : Nat} {zs : Array Value} (h : VA H zs v w) (hb : Below w.heap.size w w') : VA H zs v w' := by
  obtain ⟨g, h1, h2, h3⟩ := h; exact ⟨g, h1, h2.keep hb, h3⟩
end
/-- New blocks join the memory. -/
theorem Mem.join {w w0 wr : World} {bs : List (Nat × Array Value)} {rs rs0 : List RowD} (S : Mem w wr bs rs) (S0 : Mem w w0 bs rs0) {g : Nat} {vs : Array Value} (B : Blk wr g vs) (hg : w0.heap.size ≤ g) : Mem w wr (bs ++ [(g, vs)]) rs := by
  refine ⟨fun p hp => ?_, S.row, List.pairwise_append.2 ⟨S.nd, List.pairwise_singleton _ _, fun p hp q hq e => ?_⟩, fun p hp => ?_, S.bl⟩
  · rcases List.mem_append.1 hp with hp | hp
    · exact S.blk p hp
    · obtain rfl := List.mem_singleton.1 hp
      exact B
  · have := (S0.blk p hp).sz
    obtain rfl := List.mem_singleton.1 hq
    have e : p.1 = g := e
    omega
  · rcases List.mem_append.1 hp with hp | hp
    · exact S.lo p hp
    · obtain rfl := List.mem_singleton.1 hp
      exact Nat.le_trans S0.bl.size hg
theorem Mem.join2 {w w0 wr : World} {bs : List (Nat × Array Value)} {rs rs0 : List RowD} (S : Mem w wr bs rs) (S0 : Mem w w0 bs rs0) {g g' : Nat} {vs vs' : Array Value} (B : Blk wr g vs) (B' : Blk wr g' vs') (hg : w0.heap.size ≤ g) (hg' : w0.heap.size ≤ g') (hne : g' ≠ g) : Mem w wr (bs ++ [(g, vs)] ++ [(g', vs')]) rs := by
  have S1 := S.join S0 B hg
  refine ⟨fun p hp => ?_, S.row, List.pairwise_append.2 ⟨S1.nd, List.pairwise_singleton _ _, fun p hp q hq e => ?_⟩, fun p hp => ?_, S.bl⟩
  · rcases List.mem_append.1 hp with hp | hp
    · exact S1.blk p hp
    · obtain rfl := List.mem_singleton.1 hp
      exact B'
  · obtain rfl := List.mem_singleton.1 hq
    have e : p.1 = g' := e
    rcases List.mem_append.1 hp with hp | hp
    · have := (S0.blk p hp).sz
      omega
    · obtain rfl := List.mem_singleton.1 hp
      exact hne e.symm
  · rcases List.mem_append.1 hp with hp | hp
    · exact S1.lo p hp
    · obtain rfl := List.mem_singleton.1 hp
      exact Nat.le_trans S0.bl.size hg'
theorem ne_ptr {g g' : Nat} (h : Value.pointer (some ⟨g, 0, none⟩) ≠ .pointer (some ⟨g', 0, none⟩)) : g ≠ g' := fun e => h (by rw [e])
/-- A list of properties, all of which stay. -/
def stays (V : Value → World → Prop) : Prop := ∀ v (w w' : World), V v w → Below w.heap.size w w' → V v w'
theorem stays_VE (x : Value) : stays (VE x) := fun _ _ _ h hb => h.grow hb
theorem stays_VN (s : Bool) (a : Nat) : stays (VN s a) := fun _ _ _ h hb => h.grow hb
theorem stays_VNN (s : Bool) (a : Nat) (s' : Bool) (a' : Nat) : stays (VNN s a s' a') := fun _ _ _ h hb => h.grow hb
theorem stays_VA (H : Nat) (zs : Array Value) : stays (VA H zs) := fun _ _ _ h hb => h.grow hb
theorem stays_all {Vs : List (Value → World → Prop)} (h : ∀ V ∈ Vs, stays V) : ∀ i, i < Vs.length → ∀ v (w w' : World), (Vs.getD i (fun _ _ => False)) v w → Below w.heap.size w w' → (Vs.getD i (fun _ _ => False)) v w' := by
  intro i hi v w w' h1 hb
  rw [List.getD_eq_getElem?_getD, List.getElem?_eq_getElem hi] at h1 ⊢
  exact h _ (List.getElem_mem hi) v w w' h1 hb
theorem stays_nil : ∀ V ∈ ([] : List (Value → World → Prop)), stays V := fun _ h => by cases h
theorem stays_cons {V0 : Value → World → Prop} {Vs : List (Value → World → Prop)} (h0 : stays V0) (h : ∀ V ∈ Vs, stays V) : ∀ V ∈ V0 :: Vs, stays V := by
  intro V hV
  rcases List.mem_cons.1 hV with rfl | hV
  · exact h0
  · exact h V hV
theorem ifw {c : Bool} {X Y : Prop} (hc : c = true) (h : X) : if c = true then X else Y := by rw [if_pos hc]; exact h
theorem ifn {c : Bool} {X Y : Prop} (hc : c = false) (h : Y) : if c = true then X else Y := by rw [if_neg (by rw [hc]; decide)]; exact h
/-- An operation that yields at once. -/
theorem rel_val {P : Program} {o : Oper} {ev : Operand → Value} {w w' : World} {R : Value → World → Prop} {u : Value} (hr : (execOp ev o).run P w = .ok (.value u) w') (hb : Below w.heap.size w w') (hR : R u w') : OpRel P o ev w R := by
  unfold OpRel; rw [hr]; exact ⟨hb, hR⟩
/-- .. a call. -/
theorem rel_call {P : Program} {o : Oper} {ev : Operand → Value} {w : World} {R : Value → World → Prop} {f : FuncId} {args : Array Value} {Q : Ending → World → Prop} (hr : (execOp ev o).run P w = .ok (.enter f args) w) (hc : Calls P f args w Q)
    (hQ : ∀ e w', Q e w' → ∃ u, e = .returned u ∧ Below w.heap.size w w' ∧ R u w') : OpRel P o ev w R := by
  unfold OpRel; rw [hr]; exact hc.mono hQ
end Corr
namespace Corr
open Go Go.RowKit
/-- A later world: what was there is as it was. -/
def Ext (w0 w : World) : Prop := Below w0.heap.size w0 w
theorem Ext.grow {w0 w w' : World} (h : Ext w0 w) (hb : Below w.heap.size w w') : Ext w0 w' := Below.trans h (hb.mono (Below.size h))
theorem Ext.start (w : World) : Ext w w.drew := (Below.refl _ _).drew
end Corr
namespace Corr
open Go Go.RowKit
end Corr

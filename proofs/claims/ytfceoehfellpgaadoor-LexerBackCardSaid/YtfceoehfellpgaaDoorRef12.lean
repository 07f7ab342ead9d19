/- Contracts of corrodyref01: Down. -/
import Derived.Test.YtfceoehfellpgaaDoorRef11
namespace Corr
open Go Go.RowKit
/-- The memory of a call of Down: both arguments, both results, the quotient's row. -/
structure DownSt (w wr : World) (s : Bool) (A B : Option Addr) (n ca m cb : Nat) (qs : List Nat) : Prop where
  x : Box2 wr w.heap.size (.bool s) (.slice A n ca)
  y : Box2 wr (w.heap.size + 1) (.bool false) (.slice B m cb)
  o1 : Box2 wr (w.heap.size + 1 + 1) (.bool false) (.slice none 0 0)
  o2 : Box2 wr (w.heap.size + 1 + 1 + 1) (.bool false) (.slice none 0 0)
  q : QR wr (w.heap.size + 1 + 1 + 1 + 1) n qs
  bl : Below w.heap.size w wr
section
variable {w wr w' : World} {s : Bool} {A B : Option Addr} {n ca m cb : Nat} {qs : List Nat}
theorem DownSt.keep (h : DownSt w wr s A B n ca m cb qs) (hb : Below wr.heap.size wr w') : DownSt w w' s A B n ca m cb qs :=
  ⟨h.x.keep hb, h.y.keep hb, h.o1.keep hb, h.o2.keep hb, h.q.keep hb, h.bl.trans (hb.mono h.bl.size)⟩
theorem DownSt.drew (h : DownSt w wr s A B n ca m cb qs) : DownSt w wr.drew s A B n ca m cb qs := h.keep ((Below.refl _ _).drew)
theorem DownSt.alloc (h : DownSt w wr s A B n ca m cb qs) (o : Obj) : DownSt w (wr.alloc o) s A B n ca m cb qs := h.keep ((Below.refl _ _).alloc (Nat.le_refl _) _)
theorem DownSt.far {g : Nat} (h : DownSt w wr s A B n ca m cb qs) (hg : w.heap.size + 4 < g) (a b : Value) : DownSt w ((wr.setCell ⟨g, 0, none⟩ a).setCell ⟨g, 1, none⟩ b) s A B n ca m cb qs :=
  ⟨h.x.far (by omega) a b, h.y.far (by omega) a b, h.o1.far (by omega) a b, h.o2.far (by omega) a b, h.q.far (by omega) a b, (h.bl.setCell (p := ⟨g, 0, none⟩) (by simp; omega) a).setCell (p := ⟨g, 1, none⟩) (by simp; omega) b⟩
theorem DownSt.set {j y : Nat} (h : DownSt w wr s A B n ca m cb qs) (hj : j < n) : DownSt w (wr.setCell ⟨w.heap.size + 1 + 1 + 1 + 1, j, none⟩ (.int .i64 (y : Int))) s A B n ca m cb (qs.set j y) :=
  ⟨h.x.ne_q (by omega) j _, h.y.ne_q (by omega) j _, h.o1.ne_q (by omega) j _, h.o2.ne_q (by omega) j _, h.q.set hj, h.bl.setCell (p := ⟨w.heap.size + 1 + 1 + 1 + 1, j, none⟩) (by simp; omega) _⟩
end
/-- What a call leaves that tells two numbers as rows. -/
def RetNN (w : World) (q r : Int) (e : Ending) (w' : World) : Prop :=
  ∃ A k c A' k' c', e = .returned (.tuple #[.agg #[.bool (negB q), .slice A k c], .agg #[.bool (negB r), .slice A' k' c']]) ∧ Row w' A k c (digs q.natAbs) ∧ Row w' A' k' c' (digs r.natAbs) ∧ Below w.heap.size w w'
theorem len_lt {D b : Nat} (h : D < 1000 * b) : (digs D).length ≤ (digs b).length + 1 := by
  refine digs_len _ _ (Nat.lt_of_lt_of_le h ?_)
  have h1 := dv_lt (digs_lt b)
  rw [dv_digs] at h1
  rw [Nat.pow_succ, Nat.mul_comm]
  exact Nat.mul_le_mul_right _ (Nat.le_of_lt h1)

theorem own_one (w : World) (x : Nat) (T : TypeId) : ((w.alloc (.cells #[.int .i64 (x : Int)] T)).drew).ownsRow w.heap.size T 1 (.slice (some ⟨w.heap.size, 0, none⟩) 1 1) 1 [encN x] := by
  refine ⟨rfl, .inr ⟨w.heap.size, 1, _, rfl, Nat.le_refl _, heapNew w _, Nat.le_refl _, by unfold maxLen; omega, rfl, rfl⟩⟩
theorem digs_cons_lt {x r : Nat} (h : x < 1000) : ∀ y ∈ x :: digs r, y < 1000 := by
  intro y hy
  rcases List.mem_cons.1 hy with rfl | hy
  · exact h
  · exact digs_lt r y hy
theorem dv_cons_digs (x r : Nat) : dv (x :: digs r) = x + 1000 * r := by show x + 1000 * dv (digs r) = _; rw [dv_digs]
theorem dec_le {a b : Nat} {c : Int} (h : c = cmpI (a : Int) (b : Int)) : decide (c ≤ 0) = decide (a ≤ b) := by
  subst h
  by_cases h1 : (a : Int) < b
  · rw [cmpI_lt h1]; simp; omega
  · by_cases h2 : (a : Int) = b
    · rw [cmpI_eq h2]; simp; omega
    · rw [cmpI_gt (by omega)]; simp; omega
end Corr
namespace Go.Proofs.YtfceoehfellpgaaDoor
open Go.RowKit Corr
set_option linter.unusedVariables false

theorem wrap_small (z : Int) (h0 : 0 ≤ z) (h1 : z ≤ 999) : IntKind.u64.wrap z = z := by simp [IntKind.wrap, IntKind.bits, IntKind.signed]; omega
theorem negB_nat (n : Nat) : negB (n : Int) = false := decide_eq_false (Int.not_lt.2 (Int.natCast_nonneg _))
theorem digs_small {M : Nat} (h : M ≤ 999) : (digs M).length ≤ 1 := digs_len 1 M (by omega)
theorem mul_len {M b m : Nat} (h : M ≤ 999) (hb : (digs b).length = m) (h0 : 0 < b) : (digs (M * b)).length ≤ m + 1 := by
  rw [← hb]
  refine len_lt ?_
  have h1 : M * b ≤ 999 * b := Nat.mul_le_mul_right _ h
  omega

end Go.Proofs.YtfceoehfellpgaaDoor

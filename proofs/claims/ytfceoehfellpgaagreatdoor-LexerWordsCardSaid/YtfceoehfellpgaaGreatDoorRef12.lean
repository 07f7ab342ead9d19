/- Contracts of corrodyref01: Down. -/
import Derived.Test.YtfceoehfellpgaaGreatDoorRef11
namespace Corr
open Go Go.RowKit
/-- The memory of a call of Down: both arguments, both results, the quotient's row. -/
structure DownSt (w wr : World) (s : Bool) (A B : Option Addr) (n ca m cb : Nat) (qs : List Nat) : Prop where
  x : Box2 wr w.heap.size (.bool s) (.slice A n ca)
  y : Box2 wr (w.heap.size + 1) (.bool false) (.slice B m cb)
  o1 : Box2 wr (w.heap.size + 1 + 1) (.bool false) (.slice none 0 0)
  o2 : Box2 wr (w.heap.size + 1 + 1 + 1) (.bool false) (.slice none 0 0)
  q : QR wr (w.heap.size + 1 + 1 + 1 + 1) n qs
  bl : Below w.heap.size w wr
section
variable {w wr w' : World} {s : Bool} {A B : Option Addr} {n ca m cb : Nat} {qs : List Nat}
theorem DownSt.keep (h : DownSt w wr s A B n ca m cb qs) (hb : Below wr.heap.size wr w') : DownSt w w' s A B n ca m cb qs :=
  ⟨h.x.keep hb, h.y.keep hb, h.o1.keep hb, h.o2.keep hb, h.q.keep hb, h.bl.trans (hb.mono h.bl.size)⟩
theorem DownSt.drew (h : DownSt w wr s A B n ca m cb qs) : DownSt w wr.drew s A B n ca m cb qs := h.keep ((Below.refl _ _).drew)
theorem DownSt.alloc (h : DownSt w wr s A B n ca m cb qs) (o : Obj) : DownSt w (wr.alloc o) s A B n ca m cb qs := h.keep ((Below.refl _ _).alloc (Nat.le_refl _) _)
theorem DownSt.far {g : Nat} (h : DownSt w wr s A B n ca m cb qs) (hg : w.heap.size + 4 < g) (a b : Value) : DownSt w ((wr.setCell ⟨g, 0, none⟩ a).setCell ⟨g, 1, none⟩ b) s A B n ca m cb qs :=
  ⟨h.x.far (by omega) a b, h.y.far (by omega) a b, h.o1.far (by omega) a b, h.o2.far (by omega) a b, h.q.far (by omega) a b, (h.bl.setCell (p := ⟨g, 0, none⟩) (by simp; omega) a).setCell (p := ⟨g, 1, none⟩) (by simp; omega) b⟩
theorem DownSt.set {j y : Nat} (h : DownSt w wr s A B n ca m cb qs) (hj : j < n) : DownSt w (wr.setCell ⟨w.heap.size + 1 + 1 + 1 + 1, j, none⟩ (.int .i64 (y : Int))) s A B n ca m cb (qs.set j y) :=
  ⟨h.x.ne_q (by omega) j _, h.y.ne_q (by omega) j _, h.o1.ne_q (by omega) j _, h.o2.ne_q (by omega) j _, h.q.set hj, h.bl.setCell (p := ⟨w.heap.size + 1 + 1 + 1 + 1, j, none⟩) (by simp; omega) _⟩
end
end Corr
namespace Go.Proofs.YtfceoehfellpgaaGreatDoor
open Go.RowKit Corr
set_option linter.unusedVariables false

theorem negB_nat (n : Nat) : negB (n : Int) = false := decide_eq_false (Int.not_lt.2 (Int.natCast_nonneg _))
theorem nmul_nat (A B : Option Addr) (n m ca cb a b : Nat) (w : World) (hx : Row w A n ca (digs a)) (hy : Row w B m cb (digs b)) (hn : n ≤ 2000) (hm : m ≤ 2000) :
    Calls Tryz.prog 27 #[.agg #[.bool false, .slice A n ca], .agg #[.bool false, .slice B m cb]] w (RetN w false (digs (a * b))) := by
  have h := nmul_any false false A B n m ca cb a b ((a * b : Nat) : Int) w hx hy hn hm (by simp [val])
  rw [negB_nat, Int.natAbs_natCast] at h
  exact h
end Go.Proofs.YtfceoehfellpgaaGreatDoor

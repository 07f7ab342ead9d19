/- corrodyref01's Down and Add of numbers that are not below 0; Down of any number. -/
import Derived.Test.YtgojfonnikgboaaGreatDoorRef12
import Derived.Test.YtgojfonnikgboaaGreatDoorMem
namespace Corr
open Go Go.RowKit
/-- What a call leaves that tells two numbers, none below 0, as rows. -/
def RetTwo (w : World) (q r : Nat) (e : Ending) (w' : World) : Prop :=
  ∃ A k c A' k' c', e = .returned (.tuple #[.agg #[.bool false, .slice A k c], .agg #[.bool false, .slice A' k' c']]) ∧ Row w' A k c (digs q) ∧ Row w' A' k' c' (digs r) ∧ Below w.heap.size w w'
theorem row_le {w : World} {A : Option Addr} {n c a k : Nat} (h : Row w A n c (digs a)) (ha : a < 1000 ^ k) : n ≤ k := by rw [← h.len]; exact digs_len k a ha
end Corr
namespace Go.Proofs.YtgojfonnikgboaaGreatDoor
open Go.RowKit Corr
set_option linter.unusedVariables false
theorem ndown_nat (A B : Option Addr) (n m ca cb a b : Nat) (w : World) (hx : Row w A n ca (digs a)) (hy : Row w B m cb (digs b)) (hn : n ≤ 1000) (hm : m ≤ 1000) (hb : 0 < b) :
    Calls Tryz.prog 30 #[.agg #[.bool false, .slice A n ca], .agg #[.bool false, .slice B m cb]] w (RetTwo w (a / b) (a % b)) := by
  refine (ndown_any false A B n m ca cb a b w hx hy hn hm hb).mono ?_
  rintro e w' ⟨A1, k1, c1, A2, k2, c2, rfl, R1, R2, hb⟩
  rw [show val false a / (b : Int) = ((a / b : Nat) : Int) from rfl, Int.natAbs_natCast] at R1
  rw [show val false a % (b : Int) = ((a % b : Nat) : Int) from rfl, Int.natAbs_natCast] at R2
  refine ⟨A1, k1, c1, A2, k2, c2, ?_, R1, R2, hb⟩
  rw [show val false a / (b : Int) = ((a / b : Nat) : Int) from rfl, show val false a % (b : Int) = ((a % b : Nat) : Int) from rfl, negB_nat, negB_nat]
theorem nadd_nat (A B : Option Addr) (n m ca cb a b : Nat) (w : World) (hx : Row w A n ca (digs a)) (hy : Row w B m cb (digs b)) (hn : n ≤ 5000) (hm : m ≤ 5000) :
    Calls Tryz.prog 44 #[.agg #[.bool false, .slice A n ca], .agg #[.bool false, .slice B m cb]] w (RetN w false (digs (a + b))) := by
  have h := nadd_any false false A B n m ca cb a b ((a + b : Nat) : Int) w hx hy hn hm (by simp [val])
  rw [negB_nat, Int.natAbs_natCast] at h
  exact h
theorem ndown_int (s : Bool) (A B : Option Addr) (n m ca cb : Nat) (z : Int) (b : Nat) (w : World) (hs : s = negB z) (hx : Row w A n ca (digs z.natAbs)) (hy : Row w B m cb (digs b)) (hn : n ≤ 1000) (hm : m ≤ 1000) (hb : 0 < b) :
    Calls Tryz.prog 30 #[.agg #[.bool s, .slice A n ca], .agg #[.bool false, .slice B m cb]] w (RetNN w (z / (b : Int)) (z % (b : Int))) := by
  have h := ndown_any s A B n m ca cb z.natAbs b w hx hy hn hm hb
  rw [hs, val_neg] at h
  rw [hs]
  exact h
theorem word_two (w : World) : Calls Tryz.prog 31 #[.int .u64 2] w (RetN w false (digs 2)) := word_any 2 w (by decide)
end Go.Proofs.YtgojfonnikgboaaGreatDoor

/- corrodyref01's Down and Add of numbers that are not below 0; Down of any number. -/
import Derived.Test.YtfceoehfellpgaaGreatDoorRef12
import Derived.Test.YtfceoehfellpgaaGreatDoorRowRel
namespace Corr
open Go Go.RowKit
theorem row_le {w : World} {A : Option Addr} {n c a k : Nat} (h : Row w A n c (digs a)) (ha : a < 1000 ^ k) : n ≤ k := by rw [← h.len]; exact digs_len k a ha
end Corr
namespace Go.Proofs.YtfceoehfellpgaaGreatDoor
open Go.RowKit Corr
set_option linter.unusedVariables false
theorem nadd_nat (A B : Option Addr) (n m ca cb a b : Nat) (w : World) (hx : Row w A n ca (digs a)) (hy : Row w B m cb (digs b)) (hn : n ≤ 5000) (hm : m ≤ 5000) :
    Calls Tryz.prog 26 #[.agg #[.bool false, .slice A n ca], .agg #[.bool false, .slice B m cb]] w (RetN w false (digs (a + b))) := by
  have h := nadd_any false false A B n m ca cb a b ((a + b : Nat) : Int) w hx hy hn hm (by simp [val])
  rw [negB_nat, Int.natAbs_natCast] at h
  exact h
end Go.Proofs.YtfceoehfellpgaaGreatDoor

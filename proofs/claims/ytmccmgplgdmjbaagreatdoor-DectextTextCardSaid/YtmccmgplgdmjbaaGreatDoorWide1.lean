/- Contracts of package wide's small functions: canonical, size, cmpSize, Of, Neg. -/
import Derived.Test.YtmccmgplgdmjbaaGreatDoorBase
namespace Go.Proofs.YtmccmgplgdmjbaaGreatDoor
set_option maxRecDepth 8000
open Go.RowKit Corr
set_option linter.unusedVariables false

theorem canonical_any (s : Bool) (h l : Nat) (w : World) (hh : h < B64) (hl : l < B64) :
    Calls Tryz.prog 51 #[.bool s, .int .u64 h, .int .u64 l] w fun e w' => e = .returned (ZW (val s (nat2 h l))) ∧ Below w.heap.size w w' := by
  rw [ZW_val s h l hl, negB_val]
  cases s
  · go_enter Tryz.func51, Tryz.ntmps51
    go_wp2
    exact bodyPost_ret (v := WV false h l) (by simp [results, Tryz.results51, go_sem]) rfl ⟨rfl, (Below.refl _ _).alloc (Nat.le_refl _) _⟩
  · rw [← or_test h l hh hl]
    go_enter Tryz.func51, Tryz.ntmps51
    go_wp2
    exact bodyPost_ret (v := WV (bits .or .u64 (h : Int) (l : Int) != 0) h l) (by simp [results, Tryz.results51, go_sem]) rfl ⟨rfl, (Below.refl _ _).alloc (Nat.le_refl _) _⟩

theorem size_any (n : Int) (w : World) (h1 : -9223372036854775808 ≤ n) (h2 : n ≤ 9223372036854775807) :
    Calls Tryz.prog 52 #[.int .i64 n] w fun e w' => e = .returned (.int .u64 n.natAbs) ∧ w = w' := by
  by_cases h : n < 0
  · go_enter Tryz.func52, Tryz.ntmps52
    go_wp2
    go_ret
    exact ⟨ret_int (neg_wrap n h1 h), rfl⟩
  · go_enter Tryz.func52, Tryz.ntmps52
    go_wp2
    go_ret
    exact ⟨ret_int (by omega), rfl⟩

end Go.Proofs.YtmccmgplgdmjbaaGreatDoor

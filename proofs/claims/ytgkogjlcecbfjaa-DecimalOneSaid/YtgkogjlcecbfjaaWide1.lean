/- Contracts of package wide's small functions: canonical, size, cmpSize, Of, Neg. -/
import Derived.Test.YtgkogjlcecbfjaaBase
namespace Go.Proofs.Ytgkogjlcecbfjaa
open Go.RowKit Corr
set_option linter.unusedVariables false

theorem canonical_any (s : Bool) (h l : Nat) (w : World) (hh : h < B64) (hl : l < B64) :
    Calls Try.prog 58 #[.bool s, .int .u64 h, .int .u64 l] w fun e w' => e = .returned (ZW (val s (nat2 h l))) ∧ Below w.heap.size w w' := by
  rw [ZW_val s h l hl, negB_val]
  cases s
  · go_enter Try.func58, Try.ntmps58
    go_wp2
    exact bodyPost_ret (v := WV false h l) (by simp [results, Try.results58, go_sem]) rfl ⟨rfl, (Below.refl _ _).alloc (Nat.le_refl _) _⟩
  · rw [← or_test h l hh hl]
    go_enter Try.func58, Try.ntmps58
    go_wp2
    exact bodyPost_ret (v := WV (bits .or .u64 (h : Int) (l : Int) != 0) h l) (by simp [results, Try.results58, go_sem]) rfl ⟨rfl, (Below.refl _ _).alloc (Nat.le_refl _) _⟩

theorem size_any (n : Int) (w : World) (h1 : -9223372036854775808 ≤ n) (h2 : n ≤ 9223372036854775807) :
    Calls Try.prog 64 #[.int .i64 n] w fun e w' => e = .returned (.int .u64 n.natAbs) ∧ w = w' := by
  by_cases h : n < 0
  · go_enter Try.func64, Try.ntmps64
    go_wp2
    go_ret
    exact ⟨ret_int (neg_wrap n h1 h), rfl⟩
  · go_enter Try.func64, Try.ntmps64
    go_wp2
    go_ret
    exact ⟨ret_int (by omega), rfl⟩

theorem cmpSize_any (s s' : Bool) (h l h' l' : Nat) (w : World) (hh : h < B64) (hl : l < B64) (hh' : h' < B64) (hl' : l' < B64) :
    Calls Try.prog 65 #[WV s h l, WV s' h' l'] w fun e w' => e = .returned (.int .i64 (cmpI (nat2 h l) (nat2 h' l'))) ∧ Below w.heap.size w w' := by
  by_cases g1 : h < h'
  · rw [cmpI_lt (by have := (cmp_lt hl hl' (h := h) (h' := h')).2 (.inl g1); omega)]
    go_enter Try.func65, Try.ntmps65
    go_wp2
    go_ret
    exact ⟨rfl, ((Below.refl _ _).alloc (Nat.le_refl _) _).alloc (by simp) _⟩
  · by_cases g2 : h = h'
    · subst g2
      clear g1 hh'
      by_cases g3 : l < l'
      · rw [cmpI_lt (by have := (cmp_lt hl hl' (h := h) (h' := h)).2 (.inr ⟨rfl, g3⟩); omega)]
        go_enter Try.func65, Try.ntmps65
        go_wp2
        go_ret
        exact ⟨rfl, ((Below.refl _ _).alloc (Nat.le_refl _) _).alloc (by simp) _⟩
      · by_cases g4 : l = l'
        · subst g4
          rw [cmpI_eq rfl]
          clear g3 hl'
          go_enter Try.func65, Try.ntmps65
          go_wp2
          go_ret
          exact ⟨rfl, ((Below.refl _ _).alloc (Nat.le_refl _) _).alloc (by simp) _⟩
        · rw [cmpI_gt (by have := (cmp_lt hl' hl (h := h) (h' := h)).2 (.inr ⟨rfl, by omega⟩); omega)]
          have g5 : l' < l := by omega
          clear g3 g4
          go_enter Try.func65, Try.ntmps65
          go_wp2
          go_ret
          exact ⟨rfl, ((Below.refl _ _).alloc (Nat.le_refl _) _).alloc (by simp) _⟩
    · rw [cmpI_gt (by have := (cmp_lt hl' hl (h := h') (h' := h)).2 (.inl (by omega)); omega)]
      have g5 : h' < h := by omega
      clear g1 g2
      go_enter Try.func65, Try.ntmps65
      go_wp2
      go_ret
      exact ⟨rfl, ((Below.refl _ _).alloc (Nat.le_refl _) _).alloc (by simp) _⟩
end Go.Proofs.Ytgkogjlcecbfjaa

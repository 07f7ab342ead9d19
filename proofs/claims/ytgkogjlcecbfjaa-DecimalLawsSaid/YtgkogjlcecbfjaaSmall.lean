/- Contracts of package wide: Small, Ten; the statements' own 'known'. -/
import Derived.Test.YtgkogjlcecbfjaaWide6
namespace Go.Proofs.Ytgkogjlcecbfjaa
open Go.RowKit Corr
set_option linter.unusedVariables false

theorem neg_conv (L : Int) (h0 : 0 ≤ L) (h1 : L ≤ 9223372036854775808) : wrap64 (IntKind.u64.wrap (-L)) = -L := by
  unfold wrap64; rw [IntKind.wrap_u64]; omega
theorem small_neg (L : Int) (w : World) (h0 : 0 ≤ L) (h1 : L ≤ 9223372036854775808) :
    Calls Try.prog 24 #[.agg #[.bool true, .int .u64 0, .int .u64 L]] w fun e w' => e = .returned (.tuple #[.int .i64 (-L), .bool true]) ∧ Below w.heap.size w w' := by
  go_enter Try.func24, Try.ntmps24
  go_wp2_with fail
  go_ret2
  exact ⟨ret_intbool (neg_conv L h0 h1) rfl, (Below.refl _ _).alloc (Nat.le_refl _) _⟩
theorem small_pos (L : Int) (w : World) (h0 : 0 ≤ L) (h1 : L < 9223372036854775808) :
    Calls Try.prog 24 #[.agg #[.bool false, .int .u64 0, .int .u64 L]] w fun e w' => e = .returned (.tuple #[.int .i64 L, .bool true]) ∧ Below w.heap.size w w' := by
  go_enter Try.func24, Try.ntmps24
  go_wp2_with fail
  go_ret2
  exact ⟨rfl, (Below.refl _ _).alloc (Nat.le_refl _) _⟩
theorem small_far (s : Bool) (H L : Int) (w : World) (h0 : 1 ≤ H) (h1 : 0 ≤ L) :
    Calls Try.prog 24 #[.agg #[.bool s, .int .u64 H, .int .u64 L]] w fun e w' => e = .returned (.tuple #[.int .i64 0, .bool false]) ∧ Below w.heap.size w w' := by
  have e1 : (H == 0) = false := by rw [beq_eq_false_iff_ne]; omega
  go_enter Try.func24, Try.ntmps24
  go_wp2_with fail
  go_ret2
  exact ⟨rfl, (Below.refl _ _).alloc (Nat.le_refl _) _⟩
theorem small_low (L : Int) (w : World) (h1 : 9223372036854775808 < L) :
    Calls Try.prog 24 #[.agg #[.bool true, .int .u64 0, .int .u64 L]] w fun e w' => e = .returned (.tuple #[.int .i64 0, .bool false]) ∧ Below w.heap.size w w' := by
  go_enter Try.func24, Try.ntmps24
  go_wp2_with fail
  go_ret2
  exact ⟨rfl, (Below.refl _ _).alloc (Nat.le_refl _) _⟩
theorem small_high (L : Int) (w : World) (h1 : 9223372036854775808 ≤ L) :
    Calls Try.prog 24 #[.agg #[.bool false, .int .u64 0, .int .u64 L]] w fun e w' => e = .returned (.tuple #[.int .i64 0, .bool false]) ∧ Below w.heap.size w w' := by
  go_enter Try.func24, Try.ntmps24
  go_wp2_with fail
  go_ret2
  exact ⟨rfl, (Below.refl _ _).alloc (Nat.le_refl _) _⟩
/-- Small, where the number is an int64. -/
theorem small_ok (s : Bool) (h l : Nat) (z : Int) (w : World) (hl : l < B64) (hz : val s (nat2 h l) = z) (h1 : -9223372036854775808 ≤ z) (h2 : z ≤ 9223372036854775807) :
    Calls Try.prog 24 #[WV s h l] w fun e w' => e = .returned (.tuple #[.int .i64 z, .bool true]) ∧ Below w.heap.size w w' := by
  have e : h = 0 := by
    subst hz
    unfold nat2 B64 at *
    cases s <;> simp [val] at h1 h2 <;> omega
  subst e
  have e2 : nat2 0 l = l := by unfold nat2; omega
  rw [e2] at hz
  subst hz
  cases s
  · exact small_pos l w (by omega) (by simp [val] at h2; omega)
  · exact small_neg l w (by omega) (by simp [val] at h1; omega)
/-- .. and where it is none. -/
theorem small_no (s : Bool) (h l : Nat) (z : Int) (w : World) (hl : l < B64) (hz : val s (nat2 h l) = z) (hn : ¬ (-9223372036854775808 ≤ z ∧ z ≤ 9223372036854775807)) :
    Calls Try.prog 24 #[WV s h l] w fun e w' => e = .returned (.tuple #[.int .i64 0, .bool false]) ∧ Below w.heap.size w w' := by
  by_cases e : h = 0
  · subst e
    have e2 : nat2 0 l = l := by unfold nat2; omega
    rw [e2] at hz
    subst hz
    cases s
    · exact small_high l w (by simp [val] at hn; omega)
    · exact small_low l w (by simp [val] at hn; omega)
  · exact small_far s h l w (by omega) (by omega)

theorem even_ten (s : Bool) (h l : Nat) (w : World) (hh : h < B64) (hl : l < B64) :
    Calls Try.prog 28 #[WV s h l, .int .u64 10] w fun e w' => e = .returned (.tuple #[ZW (val s (evenN (nat2 h l) 10)), .int .i64 0]) ∧ Below w.heap.size w w' :=
  even_ok s h l 10 w hh hl (by decide) (by decide)
theorem floor_ten (s : Bool) (h l : Nat) (w : World) (hh : h < B64) (hl : l < B64) :
    Calls Try.prog 29 #[WV s h l, .int .u64 10] w fun e w' => e = .returned (.tuple #[ZW (val s (floorN s (nat2 h l) 10)), .int .i64 0]) ∧ Below w.heap.size w w' :=
  floor_ok s h l 10 w hh hl (by decide) (by decide)

theorem known1_any (n k : Int) (w : World) (h1 : -1000 ≤ n) (h2 : n ≤ 1000) (hk : val (negB n) (evenN n.natAbs 10) = k) (k1 : -1000 ≤ k) (k2 : k ≤ 1000) :
    Calls Try.prog 67 #[.int .i64 n] w fun e w' => e = .returned (.int .i64 k) ∧ Below w.heap.size w w' := by
  have b1 : n.natAbs < B128 := by unfold B128 B64; omega
  have b2 : k.natAbs < B128 := by unfold B128 B64; omega
  have x1 := hiW_lt b1
  have x2 := loW_lt n.natAbs
  have y2 := loW_lt k.natAbs
  have HK := Lib.hid hk
  have HV := Lib.hid (val_ZW k)
  clear hk b1 b2
  go_enter Try.func67, Try.ntmps67
  go_wp2_with fail
  refine (of_any _ _ (by omega) (by omega)).mono ?_
  rintro e w1 ⟨rfl, hb⟩
  have B1 : Below w.heap.size w w1 := hb
  clear hb
  go_wp2_with fail
  refine (even_ten _ _ _ _ x1 x2).mono ?_
  rintro e w2 ⟨rfl, hb⟩
  rw [nat2_hilo, HK.out]
  have B2 : Below w.heap.size w w2 := B1.trans (hb.mono B1.size)
  clear hb
  go_wp2_with fail
  refine (small_ok _ _ _ _ _ y2 HV.out (by omega) (by omega)).mono ?_
  rintro e w3 ⟨rfl, hb⟩
  have B3 : Below w.heap.size w w3 := (B2.alloc B2.size _).trans (hb.mono (by have := B2.size; simp; omega))
  clear hb
  go_wp2_with fail
  go_ret
  exact ⟨rfl, B3⟩
end Go.Proofs.Ytgkogjlcecbfjaa

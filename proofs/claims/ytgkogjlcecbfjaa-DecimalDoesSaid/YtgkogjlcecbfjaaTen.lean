/- Contracts of package wide: Ten; the roundings where the divisor is 0. -/
import Derived.Test.YtgkogjlcecbfjaaBackMath
namespace Go.Proofs.Ytgkogjlcecbfjaa
open Go.RowKit Corr
set_option linter.unusedVariables false

theorem ten_no (z : Int) (w : World) (h : z < 0 ∨ 19 < z) : Calls Try.prog 31 #[.int .i64 z] w fun e w' => e = .returned (.int .u64 0) ∧ w = w' := by
  rcases h with h | h
  · go_enter Try.func31, Try.ntmps31
    go_wp2_with fail
    go_ret
    exact ⟨rfl, rfl⟩
  · have h' : ¬ z < 0 := by omega
    go_enter Try.func31, Try.ntmps31
    go_wp2_with fail
    go_ret
    exact ⟨rfl, rfl⟩
theorem ten_bound {k : Nat} (h : k < 19) : (10 : Int) ^ k * 10 ≤ 10000000000000000000 := by
  have h1 : (10 : Nat) ^ k ≤ 10 ^ 18 := Nat.pow_le_pow_right (by omega) (by omega)
  have h2 : ((10 : Nat) ^ k : Int) = (10 : Int) ^ k := by simp
  omega
theorem ten_ok (n : Nat) (w : World) (h : n ≤ 19) : Calls Try.prog 31 #[.int .i64 n] w fun e w' => e = .returned (.int .u64 ((10 ^ n : Nat) : Int)) ∧ w = w' := by
  have hE := Lib.hid (show ((10 ^ n : Nat) : Int) = (10 : Int) ^ n by simp)
  have h1 : ¬ (n : Int) < 0 := by omega
  have h2 : ¬ (19 : Int) < (n : Int) := by omega
  go_enter Try.func31, Try.ntmps31
  go_wp2_with fail
  go_loop [3, 11] (fun v t => ∃ (k : Nat) (P : Int), t = .int .i64 (k : Int) ∧ v = .int .u64 P ∧ k ≤ n ∧ 0 ≤ P ∧ P = (10 : Int) ^ k) (fun _ t => n - (intOf t).toNat)
  case atStart => exact ⟨0, 1, rfl, rfl, Nat.zero_le _, by omega, by simp⟩
  case round =>
    obtain ⟨k, P, rfl, rfl, hk, hp, hP⟩ := hrel
    have HP := Lib.hid hP
    clear hP
    by_cases hlt : k < n
    · have b1 : P * 10 ≤ 10000000000000000000 := by rw [HP.out]; exact ten_bound (by omega)
      have HN := Lib.hid (show P * 10 = (10 : Int) ^ (k + 1) by rw [HP.out, Int.pow_succ])
      go_wp2_with fail
      go_round
      case rel => exact ⟨k + 1, P * 10, by go_num, rfl, by omega, by omega, HN.out⟩
      case measure => simp [intOf]; omega
    · have hkn : k = n := by omega
      have HF := Lib.hid (show P = ((10 ^ n : Nat) : Int) by rw [HP.out, hkn, hE.out])
      clear hkn
      go_wp2_with fail
      go_ret
      exact ⟨ret_int HF.out, rfl⟩

theorem rounded_zero (s : Bool) (h l : Nat) (fv : Value) (w : World) :
    Calls Try.prog 69 #[WV s h l, .int .u64 0, fv] w fun e w' => e = .returned (.tuple #[W0, .int .i64 12]) ∧ Below w.heap.size w w' := by
  go_enter Try.func69, Try.ntmps69
  go_wp2_with fail
  refine (div_zero _ _ _ _).mono ?_
  rintro e w1 ⟨rfl, hb⟩
  have R := (Box3.new (w.alloc (.cells #[.bool s, .int .u64 (h : Int), .int .u64 (l : Int)] 24)) (.bool false) (.int .u64 0) (.int .u64 0) 24).keep hb
  rw [size_alloc] at R
  have B1 : Below w.heap.size w w1 := (((Below.refl _ _).alloc (Nat.le_refl _) _).alloc (by simp) _).trans (hb.mono (by simp; omega))
  clear hb
  have r0 := R.c0; have r1 := R.c1; have r2 := R.c2; have r3 := R.f0; have r4 := R.f1; have r5 := R.f2
  have z2 := R.sz
  go_wp2_with fail
  refine bodyPost_ret (v := .tuple #[W0, .int .i64 12]) (by simp [results, Try.results69, go_sem, r0, r1, r2, World.cell?_alloc_past, z2]) rfl ⟨rfl, ?_⟩
  exact (((B1.setCell (by simp) _).setCell (by simp) _).setCell (by simp) _).alloc (by simp [go_sem]; omega) _
theorem even_zero (s : Bool) (h l : Nat) (w : World) :
    Calls Try.prog 28 #[WV s h l, .int .u64 0] w fun e w' => e = .returned (.tuple #[W0, .int .i64 12]) ∧ Below w.heap.size w w' := by
  go_enter Try.func28, Try.ntmps28
  go_wp2_with fail
  refine (rounded_zero _ _ _ _ _).mono ?_
  rintro e w1 ⟨rfl, hb⟩
  obtain ⟨hc, hf⟩ := bcell hb
  go_wp2_with fail
  refine bodyPost_ret (v := .tuple #[W0, .int .i64 12]) (by simp [results, Try.results28, go_sem, hc]) rfl ⟨rfl, ?_⟩
  exact (((((((Below.refl _ _).alloc (Nat.le_refl _) _).alloc (by simp) _).alloc (by simp; omega) _).trans (hb.mono (by simp; omega))).setCell (by simp; omega) _).setCell (by simp; omega) _).setCell (by simp; omega) _
theorem floor_zero (s : Bool) (h l : Nat) (w : World) :
    Calls Try.prog 29 #[WV s h l, .int .u64 0] w fun e w' => e = .returned (.tuple #[W0, .int .i64 12]) ∧ Below w.heap.size w w' := by
  go_enter Try.func29, Try.ntmps29
  go_wp2_with fail
  refine (rounded_zero _ _ _ _ _).mono ?_
  rintro e w1 ⟨rfl, hb⟩
  obtain ⟨hc, hf⟩ := bcell hb
  go_wp2_with fail
  refine bodyPost_ret (v := .tuple #[W0, .int .i64 12]) (by simp [results, Try.results29, go_sem, hc]) rfl ⟨rfl, ?_⟩
  exact ((((((Below.refl _ _).alloc (Nat.le_refl _) _).alloc (by simp) _).trans (hb.mono (by simp; omega))).setCell (by simp) _).setCell (by simp) _).setCell (by simp) _
end Go.Proofs.Ytgkogjlcecbfjaa

/- Contracts of corrodyref01: word, Of. -/
import Derived.Test.YtbenpcnibongaaaRef7
namespace Corr
open Go Go.RowKit
theorem dv_drop {xs : List Nat} {i x : Nat} (h : xs[i]? = some x) : dv (xs.drop i) = x + 1000 * dv (xs.drop (i + 1)) := by
  have hl : i < xs.length := (List.getElem?_eq_some_iff.1 h).1
  rw [List.drop_eq_getElem_cons hl, (List.getElem?_eq_some_iff.1 h).2]
  rfl
theorem dv_drop_le (xs : List Nat) : ∀ i, dv (xs.drop i) ≤ dv xs
  | 0 => by simp
  | i + 1 => by
    have ih := dv_drop_le xs i
    rcases Nat.lt_or_ge i xs.length with h | h
    · have := dv_drop (List.getElem?_eq_getElem h); omega
    · rw [List.drop_of_length_le (by omega)]; simp [dv]
end Corr
namespace Go.Proofs.Ytbenpcnibongaaa
open Go.RowKit Corr
set_option linter.unusedVariables false
set_option maxHeartbeats 1000000 in
theorem nword_any (s : Bool) (A : Option Addr) (n c a : Nat) (w : World) (hx : Row w A n c (digs a)) (hn : n ≤ 5000) (ha : a < B64) :
    Calls Try.prog 36 #[.agg #[.bool s, .slice A n c]] w fun e w' => e = .returned (.int .u64 (a : Int)) ∧ Below w.heap.size w w' := by
  have HA := Lib.hid (show dv (digs a) ≤ 18446744073709551615 by rw [dv_digs]; unfold B64 at ha; omega)
  have HAA := Lib.hid (dv_digs a)
  have BW : Below w.heap.size w (w.alloc (.cells #[.bool s, .slice A n c] 27)) := (Below.refl _ _).alloc (Nat.le_refl _) _
  clear ha
  go_enter Try.func36, Try.ntmps36
  go_wp2_with fail
  go_loop [3, 4] (fun v t => ∃ (k : Nat) (N : Int), t = .int .i64 ((k : Int) - 1) ∧ v = .int .u64 N ∧ k ≤ n ∧ N = (dv ((digs a).drop k) : Int)) (fun _ t => ((intOf t) + 1).toNat)
  case atStart => exact ⟨n, 0, rfl, rfl, Nat.le_refl _, by rw [List.drop_of_length_le (by rw [hx.len]; exact Nat.le_refl _)]; rfl⟩
  case round =>
    obtain ⟨k, N, rfl, rfl, hk, hN⟩ := hrel
    have HN := Lib.hid hN
    have n0 : 0 ≤ N := by rw [hN]; omega
    clear hN
    by_cases h0 : k = 0
    · subst h0
      have HE := Lib.hid (show N = (a : Int) by have := HN.out; rw [List.drop_zero, HAA.out] at this; exact this)
      go_wp2_with fail
      go_ret
      exact ⟨ret_int HE.out, BW⟩
    · obtain ⟨i, rfl⟩ : ∃ i, k = i + 1 := ⟨k - 1, by omega⟩
      clear h0
      obtain ⟨g, off, x, hA, hxk, hx1, hxc⟩ := hx.get (digs_lt a) (k := i) (by omega)
      subst hA
      have cx := hxc _ BW
      clear hxc
      have hd := dv_drop hxk
      have hle := dv_drop_le (digs a) i
      have b1 : N * 1000 + (x : Int) ≤ 18446744073709551615 := by have h1 := HN.out; have h2 := HA.out; omega
      have HX := Lib.hid (show N * 1000 + (x : Int) = (dv ((digs a).drop i) : Int) by have h1 := HN.out; omega)
      clear hd hle hxk
      generalize hxx : (x : Int) = X at *
      have x0 : 0 ≤ X := by omega
      have x1 : X < 1000 := by omega
      clear hxx
      simp only [show (((i + 1 : Nat) : Nat) : Int) - 1 = (i : Int) by omega]
      go_wp2_with fail
      go_round
      case rel => exact ⟨i, N * 1000 + X, rfl, rfl, by omega, HX.out⟩
      case measure => simp [intOf]
end Go.Proofs.Ytbenpcnibongaaa

/- Contracts of corrodyref05: Years; Begin and End of no day; Between. -/
import Derived.Test.YtkfhcfigkdcocaaDoorMon1
namespace Corr
set_option maxRecDepth 8000
open Go
/-- Does the day n months behind lie at b, or ahead of it? -/
def notPast (T d b : Int) (n : Nat) : Bool := (monV (T + (n : Int)) d).2 && decide ((monV (T + (n : Int)) d).1 ≤ b)
/-- The greatest such number, from n on down; else 0. -/
def lastN (T d b : Int) : Nat → Nat
  | 0 => 0
  | n + 1 => if notPast T d b (n + 1) = true then n + 1 else lastN T d b n
theorem lastN_le (T d b : Int) : ∀ n : Nat, lastN T d b n ≤ n
  | 0 => Nat.le_refl _
  | n + 1 => by
    rw [lastN]
    split
    · exact Nat.le_refl _
    · have := lastN_le T d b n; omega
end Corr
namespace Go.Proofs.YtkfhcfigkdcocaaDoor
set_option maxRecDepth 8000
open Go.RowKit Corr
set_option linter.unusedVariables false
set_option maxHeartbeats 4000000 in
/-- Between, where the first day is not behind the second one. -/
theorem mbetween_up (a b y m d z k e' : Int) (w : World) (h : dateOf a y m d) (h' : dateOf b z k e') (hab : a ≤ b) (N : Nat) (hN : (N : Int) = (if (z - y) * 12 + k - m + 1 < 0 then 0 else (z - y) * 12 + k - m + 1)) :
    Calls Tryd.prog 18 #[.int .i64 a, .int .i64 b] w fun e w' => e = .returned (.int .i64 (lastN (12 * y + (m - 1)) d b N : Int)) ∧ w = w' := by
  have HA := Lib.hid (fun w => date_at a y m d w h)
  have HB := Lib.hid (fun w => date_at b z k e' w h')
  obtain ⟨y1, y2, m1, m2⟩ := lenI_pos (show 1 ≤ lenI y m by have := h.1; have := h.2.1; omega)
  obtain ⟨z1, z2, k1, k2⟩ := lenI_pos (show 1 ≤ lenI z k by have := h'.1; have := h'.2.1; omega)
  have HD := Lib.hid (fun (n : Nat) w (hn : n ≤ 130000) => madd_in a (n : Int) y m d w h (by omega) (by omega))
  have t0 : decide (b < a) = false := decide_eq_false (by omega)
  have hN2 : (N : Int) ≤ 130000 := by rw [hN]; split <;> omega
  have HN := Lib.hid hN
  obtain ⟨T, hT⟩ : ∃ T, 12 * y + (m - 1) = T := ⟨_, rfl⟩
  rw [hT] at HD ⊢
  obtain ⟨X, hX⟩ : ∃ X, (z - y) * 12 + k - m + 1 = X := ⟨_, rfl⟩
  rw [hX] at HN
  have hX1 : -130000 ≤ X ∧ X ≤ 130000 := by omega
  clear h h' hab hT hN
  go_enter Tryd.func18, Tryd.ntmps18
  go_wp2_with fail
  refine (HA.out _).mono ?_
  rintro e w1 ⟨rfl, rfl⟩
  go_wp2_with fail
  refine (HB.out _).mono ?_
  rintro e w1 ⟨rfl, rfl⟩
  go_wp2_with fail
  clear hX
  go_loop [13] (fun t => ∃ (M : Int) (n : Nat), t = .int .i64 M ∧ (M = (n : Int) ∨ M ≤ 0 ∧ n = 0) ∧ -130000 ≤ M ∧ M ≤ 130000 ∧ Hid (lastN T d b n = lastN T d b N)) (fun t => (intOf t).toNat)
  case atStart => exact ⟨X, N, rfl, by have := HN.out; split at this <;> omega, by omega, by omega, Lib.hid rfl⟩
  case round =>
    obtain ⟨M, n, rfl, hMn, hM1, hM2, HI⟩ := hrel
    by_cases hpos : 0 < M
    · obtain ⟨j, rfl⟩ : ∃ j, n = j + 1 := ⟨n - 1, by omega⟩
      have hMj : M = ((j + 1 : Nat) : Int) := by omega
      have HC := Lib.hid (fun w => HD.out (j + 1) w (by omega))
      rw [← hMj] at HC
      obtain ⟨x, hx⟩ : ∃ x, (monV (T + M) d).1 = x := ⟨_, rfl⟩
      obtain ⟨ok, hok⟩ : ∃ ok, (monV (T + M) d).2 = ok := ⟨_, rfl⟩
      rw [hx, hok] at HC
      cases ok with
      | true =>
        by_cases hle : x ≤ b
        · have HF := Lib.hid (show M = ((lastN T d b N : Nat) : Int) by
            rw [← HI.out, lastN, if_pos (by unfold notPast; rw [← hMj, hx, hok]; simp [hle])]; exact hMj)
          clear HI hx hok hMj hMn
          go_wp2_with fail
          refine (HC.out _).mono ?_
          rintro e w1 ⟨rfl, rfl⟩
          go_wp2_with fail
          go_ret
          exact ⟨ret_int HF.out, rfl⟩
        · have HF := Lib.hid (show lastN T d b j = lastN T d b N by
            rw [← HI.out, lastN, if_neg (by unfold notPast; rw [← hMj, hx, hok]; simp; omega)])
          have t3 : decide (x ≤ b) = false := decide_eq_false hle
          have hMj2 : M - 1 = (j : Int) := by omega
          have HMJ := Lib.hid hMj2
          clear HI hx hok hMj hMn hle hMj2
          go_wp2_with fail
          refine (HC.out _).mono ?_
          rintro e w1 ⟨rfl, rfl⟩
          go_wp2_with fail
          go_round
          case rel => exact ⟨M - 1, j, rfl, .inl HMJ.out, by omega, by omega, HF⟩
          case measure => simp [intOf]; omega
      | false =>
        have HF := Lib.hid (show lastN T d b j = lastN T d b N by
          rw [← HI.out, lastN, if_neg (by unfold notPast; rw [← hMj, hok]; simp)])
        have hMj2 : M - 1 = (j : Int) := by omega
        have HMJ := Lib.hid hMj2
        clear HI hx hok hMj hMn hMj2
        go_wp2_with fail
        refine (HC.out _).mono ?_
        rintro e w1 ⟨rfl, rfl⟩
        go_wp2_with fail
        go_round
        case rel => exact ⟨M - 1, j, rfl, .inl HMJ.out, by omega, by omega, HF⟩
        case measure => simp [intOf]; omega
    · have hn0 : n = 0 := by omega
      have HF := Lib.hid (show (0 : Int) = ((lastN T d b N : Nat) : Int) by rw [← HI.out, hn0]; rfl)
      clear HI hMn hn0
      go_wp2_with fail
      go_ret
      exact ⟨ret_int HF.out, rfl⟩

set_option maxHeartbeats 2000000 in
/-- .. and where it is. -/
theorem mbetween_down (a b z k e' : Int) (y m d : Int) (w : World) (h : dateOf a y m d) (h' : dateOf b z k e') (hab : b < a) (N : Nat) (hN : (N : Int) = (if (y - z) * 12 + m - k + 1 < 0 then 0 else (y - z) * 12 + m - k + 1)) :
    Calls Tryd.prog 18 #[.int .i64 a, .int .i64 b] w fun e w' => e = .returned (.int .i64 (-(lastN (12 * z + (k - 1)) e' a N : Int))) ∧ w = w' := by
  have HR := Lib.hid (fun w => mbetween_up b a z k e' y m d w h' h (by omega) N hN)
  obtain ⟨y1, y2, m1, m2⟩ := lenI_pos (show 1 ≤ lenI y m by have := h.1; have := h.2.1; omega)
  obtain ⟨z1, z2, k1, k2⟩ := lenI_pos (show 1 ≤ lenI z k by have := h'.1; have := h'.2.1; omega)
  have hN2 : (N : Int) ≤ 130000 := by rw [hN]; split <;> omega
  have hl := lastN_le (12 * z + (k - 1)) e' a N
  obtain ⟨q, hq⟩ : ∃ q : Int, ((lastN (12 * z + (k - 1)) e' a N : Nat) : Int) = q := ⟨_, rfl⟩
  have q1 : 0 ≤ q := by omega
  have q2 : q ≤ 130000 := by omega
  rw [hq] at HR ⊢
  clear h h' hN hq hl
  go_enter Tryd.func18, Tryd.ntmps18
  go_wp2_with fail
  refine (HR.out _).mono ?_
  rintro e w1 ⟨rfl, rfl⟩
  go_wp2_with fail
  go_ret
  exact ⟨rfl, rfl⟩
end Go.Proofs.YtkfhcfigkdcocaaDoor

/- Contracts of corrodyref04: Length outside of the calendar, Day. -/
import Derived.Test.YtmdmhookhkhdoaaDoorCiv1
namespace Corr
set_option maxRecDepth 8000
open Go
/-- Days of the years 1 to k. -/
def dby : Nat → Int
  | 0 => 0
  | k + 1 => dby k + 365 + (if leapB ((k : Int) + 1) = true then 1 else 0)
/-- Days of the months 1 to k of the year y. -/
def cumI (y : Int) : Nat → Int
  | 0 => 0
  | k + 1 => cumI y k + lenI y ((k : Int) + 1)
theorem dby_eq : ∀ (k : Nat), k ≤ 9999 → dby k = 365 * (k : Int) + (k : Int) / 4 - (k : Int) / 100 + (k : Int) / 400
  | 0, _ => rfl
  | k + 1, h => by
    rw [dby, dby_eq k (by omega)]
    by_cases hl : leapB ((k : Int) + 1) = true
    · rw [if_pos hl]
      have := of_decide_eq_true hl
      omega
    · rw [if_neg hl]
      have h1 : ¬ (1 ≤ (k : Int) + 1 ∧ (k : Int) + 1 ≤ 9999 ∧ (((k : Int) + 1) % 400 = 0 ∨ (((k : Int) + 1) % 4 = 0 ∧ ¬ ((k : Int) + 1) % 100 = 0))) := fun h' => hl (decide_eq_true h')
      omega
theorem lenI_bd (y m : Int) : 0 ≤ lenI y m ∧ lenI y m ≤ 31 := by
  unfold lenI
  repeat' split
  all_goals omega
theorem lenI_pos {y m : Int} (h : 1 ≤ lenI y m) : 1 ≤ y ∧ y ≤ 9999 ∧ 1 ≤ m ∧ m ≤ 12 := by
  unfold lenI at h
  split at h
  · omega
  · split at h
    · omega
    · split at h
      · omega
      · split at h
        · omega
        · omega
theorem lenI_out {y m : Int} (h : ¬ (1 ≤ y ∧ y ≤ 9999 ∧ 1 ≤ m ∧ m ≤ 12)) : lenI y m = 0 := by
  have h1 := lenI_bd y m
  rcases Int.lt_or_le (lenI y m) 1 with h2 | h2
  · omega
  · exact absurd (lenI_pos h2) h
theorem cumI_bd (y : Int) : ∀ k : Nat, 0 ≤ cumI y k ∧ cumI y k ≤ 31 * (k : Int)
  | 0 => by simp [cumI]
  | k + 1 => by
    have h1 := cumI_bd y k
    have h2 := lenI_bd y ((k : Int) + 1)
    rw [cumI]; omega
end Corr
namespace Go.Proofs.YtmdmhookhkhdoaaDoor
set_option maxRecDepth 8000
open Go.RowKit Corr
set_option linter.unusedVariables false

set_option maxHeartbeats 2000000 in
theorem length_out (y m : Int) (w : World) (h : ¬ (1 ≤ y ∧ y ≤ 9999 ∧ 1 ≤ m ∧ m ≤ 12)) : Calls Tryd.prog 31 #[.int .i64 y, .int .i64 m] w fun e w' => e = .returned (.int .i64 0) ∧ w = w' := by
  by_cases h1 : y < 1
  · clear h
    go_enter Tryd.func31, Tryd.ntmps31
    go_wp2_with fail
    go_ret
    exact ⟨rfl, rfl⟩
  · have d1 : decide (y < 1) = false := decide_eq_false h1
    by_cases h2 : 9999 < y
    · clear h
      go_enter Tryd.func31, Tryd.ntmps31
      go_wp2_with fail
      go_ret
      exact ⟨rfl, rfl⟩
    · have d2 : decide (9999 < y) = false := decide_eq_false h2
      have hm : m < 1 ∨ 12 < m := by omega
      have e1 : (m == 1) = false := by rw [beq_eq_false_iff_ne]; omega
      have e2 : (m == 2) = false := by rw [beq_eq_false_iff_ne]; omega
      have e3 : (m == 3) = false := by rw [beq_eq_false_iff_ne]; omega
      have e4 : (m == 4) = false := by rw [beq_eq_false_iff_ne]; omega
      have e5 : (m == 5) = false := by rw [beq_eq_false_iff_ne]; omega
      have e6 : (m == 6) = false := by rw [beq_eq_false_iff_ne]; omega
      have e7 : (m == 7) = false := by rw [beq_eq_false_iff_ne]; omega
      have e8 : (m == 8) = false := by rw [beq_eq_false_iff_ne]; omega
      have e9 : (m == 9) = false := by rw [beq_eq_false_iff_ne]; omega
      have e10 : (m == 10) = false := by rw [beq_eq_false_iff_ne]; omega
      have e11 : (m == 11) = false := by rw [beq_eq_false_iff_ne]; omega
      have e12 : (m == 12) = false := by rw [beq_eq_false_iff_ne]; omega
      clear h hm h1 h2
      go_enter Tryd.func31, Tryd.ntmps31
      go_wp2_with fail
      go_ret
      exact ⟨rfl, rfl⟩
theorem length_any (y m : Int) (w : World) : Calls Tryd.prog 31 #[.int .i64 y, .int .i64 m] w fun e w' => e = .returned (.int .i64 (lenI y m)) ∧ w = w' := by
  by_cases h : 1 ≤ y ∧ y ≤ 9999 ∧ 1 ≤ m ∧ m ≤ 12
  · exact length_in y m (leapB y) w h.1 h.2.1 h.2.2.1 h.2.2.2 rfl
  · rw [lenI_out h]; exact length_out y m w h

theorem ret_ib {a b : Int} {c d : Bool} (h : a = b) (h' : c = d) : Ending.returned (.tuple #[.int .i64 a, .bool c]) = .returned (.tuple #[.int .i64 b, .bool d]) := by rw [h, h']
set_option maxHeartbeats 2000000 in
theorem day_no (y m d : Int) (w : World) (h : d < 1 ∨ lenI y m < d) : Calls Tryd.prog 24 #[.int .i64 y, .int .i64 m, .int .i64 d] w fun e w' => e = .returned (.tuple #[.int .i64 0, .bool false]) ∧ w = w' := by
  by_cases h1 : d < 1
  · clear h
    go_enter Tryd.func24, Tryd.ntmps24
    go_wp2_with fail
    go_ret2
    exact ⟨rfl, rfl⟩
  · have d1 : decide (d < 1) = false := decide_eq_false h1
    obtain ⟨l, hl⟩ : ∃ l, lenI y m = l := ⟨_, rfl⟩
    have HL := Lib.hid (fun w => length_any y m w)
    rw [hl] at HL h
    have h2 : l < d := by omega
    clear h h1 hl
    go_enter Tryd.func24, Tryd.ntmps24
    go_wp2_with fail
    refine (HL.out _).mono ?_
    rintro e w1 ⟨rfl, rfl⟩
    go_wp2_with fail
    go_ret2
    exact ⟨rfl, rfl⟩

set_option maxHeartbeats 4000000 in
theorem day_ok (y m d : Int) (w : World) (h1 : 1 ≤ d) (h2 : d ≤ lenI y m) : Calls Tryd.prog 24 #[.int .i64 y, .int .i64 m, .int .i64 d] w fun e w' => e = .returned (.tuple #[.int .i64 (dby (y.toNat - 1) + cumI y (m.toNat - 1) + d), .bool true]) ∧ w = w' := by
  obtain ⟨y1, y2, m1, m2⟩ := lenI_pos (show 1 ≤ lenI y m by omega)
  have d1 : decide (d < 1) = false := decide_eq_false (by omega)
  obtain ⟨l, hl⟩ : ∃ l, lenI y m = l := ⟨_, rfl⟩
  have hlb := lenI_bd y m
  have HL := Lib.hid (fun w => length_any y m w)
  rw [hl] at HL h2 hlb
  have d2 : decide (l < d) = false := decide_eq_false (by omega)
  clear hl
  go_enter Tryd.func24, Tryd.ntmps24
  go_wp2_with fail
  refine (HL.out _).mono ?_
  rintro e w1 ⟨rfl, rfl⟩
  go_wp2_with fail
  go_loop [8, 9] (fun v t => ∃ (k : Nat) (D : Int), t = .int .i64 ((k : Int) + 1) ∧ v = .int .i64 D ∧ Hid (dby k = D) ∧ (k : Int) + 1 ≤ y) (fun _ t => (9999 - intOf t).toNat)
  case atStart => exact ⟨0, 0, rfl, rfl, Lib.hid rfl, by omega⟩
  case round =>
    obtain ⟨k, D, rfl, rfl, HD, hk⟩ := hrel
    have hDb : 0 ≤ D ∧ D ≤ 4000000 := by rw [← HD.out, dby_eq k (by omega)]; omega
    by_cases hlt : (k : Int) + 1 < y
    · cases hb : leapB ((k : Int) + 1) with
      | true =>
        have HLP := Lib.hid (fun w => leap_any ((k : Int) + 1) w)
        rw [hb] at HLP
        have HN := Lib.hid (show dby (k + 1) = D + 365 + 1 by rw [dby, HD.out, hb]; rfl)
        clear hb
        go_wp2_with fail
        refine (HLP.out _).mono ?_
        rintro e w1 ⟨rfl, rfl⟩
        go_wp2_with fail
        go_round
        case rel => exact ⟨k + 1, _, by go_num, rfl, HN, by omega⟩
        case measure => simp [intOf]; omega
      | false =>
        have HLP := Lib.hid (fun w => leap_any ((k : Int) + 1) w)
        rw [hb] at HLP
        have HN := Lib.hid (show dby (k + 1) = D + 365 by rw [dby, HD.out, hb]; simp)
        clear hb
        go_wp2_with fail
        refine (HLP.out _).mono ?_
        rintro e w1 ⟨rfl, rfl⟩
        go_wp2_with fail
        go_round
        case rel => exact ⟨k + 1, _, by go_num, rfl, HN, by omega⟩
        case measure => simp [intOf]; omega
    · have HK := Lib.hid (show dby (y.toNat - 1) = D by rw [← HD.out, show y.toNat - 1 = k by omega])
      clear HD
      go_wp2_with fail
      go_loop [8, 10] (fun v t => ∃ (j : Nat) (E : Int), t = .int .i64 ((j : Int) + 1) ∧ v = .int .i64 E ∧ Hid (D + cumI y j = E) ∧ (j : Int) + 1 ≤ m) (fun _ t => (12 - intOf t).toNat)
      case atStart => exact ⟨0, D, rfl, rfl, Lib.hid (by simp [cumI]), by omega⟩
      case round =>
        obtain ⟨j, E, rfl, rfl, HE, hj⟩ := hrel
        have hEb : 0 ≤ E ∧ E ≤ 4000400 := by have := cumI_bd y j; rw [← HE.out]; omega
        by_cases hlt2 : (j : Int) + 1 < m
        · obtain ⟨q, hq⟩ : ∃ q, lenI y ((j : Int) + 1) = q := ⟨_, rfl⟩
          have hqb := lenI_bd y ((j : Int) + 1)
          have HQ := Lib.hid (fun w => length_any y ((j : Int) + 1) w)
          rw [hq] at HQ hqb
          have HN := Lib.hid (show D + cumI y (j + 1) = E + q by rw [cumI, ← HE.out, hq]; omega)
          clear hq
          go_wp2_with fail
          refine (HQ.out _).mono ?_
          rintro e w1 ⟨rfl, rfl⟩
          go_wp2_with fail
          go_round
          case rel => exact ⟨j + 1, _, by go_num, rfl, HN, by omega⟩
          case measure => simp [intOf]; omega
        · have HF := Lib.hid (show E + d = dby (y.toNat - 1) + cumI y (m.toNat - 1) + d by rw [HK.out, show m.toNat - 1 = j by omega, HE.out])
          clear HE HK
          go_wp2_with fail
          go_ret2
          exact ⟨ret_ib HF.out rfl, rfl⟩
end Go.Proofs.YtmdmhookhkhdoaaDoor

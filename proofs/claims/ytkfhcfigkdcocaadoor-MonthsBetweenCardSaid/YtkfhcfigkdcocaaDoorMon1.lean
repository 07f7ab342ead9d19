/- Contracts of corrodyref05: Add, Years, Begin, End. -/
import Derived.Test.YtkfhcfigkdcocaaDoorCiv4
namespace Corr
set_option maxRecDepth 8000
open Go
/-- The number of the day d of the month whose number, counted from the year 0 on, is T; false: there is none. -/
def monV (T d : Int) : Int × Bool :=
  if lenI (T / 12) (T % 12 + 1) = 0 then (0, false)
  else (dby ((T / 12).toNat - 1) + cumI (T / 12) ((T % 12 + 1).toNat - 1) + (if lenI (T / 12) (T % 12 + 1) < d then lenI (T / 12) (T % 12 + 1) else d), true)
theorem mon_is {T y m : Int} (h : 12 * y + (m - 1) = T) (m1 : 1 ≤ m) (m2 : m ≤ 12) : y = T / 12 ∧ m = T % 12 + 1 := by omega
end Corr
namespace Go.Proofs.YtkfhcfigkdcocaaDoor
set_option maxRecDepth 8000
open Go.RowKit Corr
set_option linter.unusedVariables false
theorem date_at (n y m d : Int) (w : World) (h : dateOf n y m d) : Calls Tryd.prog 17 #[.int .i64 n] w fun e w' => e = .returned (.tuple #[.int .i64 y, .int .i64 m, .int .i64 d, .bool true]) ∧ w = w' := by
  refine (date_ok n w (date_in h).1 (date_in h).2).mono ?_
  rintro e w' ⟨y', m', d', rfl, h', rfl⟩
  obtain ⟨rfl, rfl, rfl⟩ := date_one h h'
  exact ⟨rfl, rfl⟩
/-- Day, of the last step of Add. -/
theorem day_mon (T y m d q : Int) (w : World) (h : 12 * y + (m - 1) = T) (m1 : 1 ≤ m) (m2 : m ≤ 12) (d1 : 1 ≤ d) (hq : lenI y m = q) (x : Int) (hx : x = if q < d then q else d) :
    Calls Tryd.prog 21 #[.int .i64 y, .int .i64 m, .int .i64 x] w fun e w' => e = .returned (.tuple #[.int .i64 (monV T d).1, .bool (monV T d).2]) ∧ w = w' := by
  obtain ⟨e1, e2⟩ := mon_is h m1 m2
  have hb := lenI_bd y m
  unfold monV
  rw [← e1, ← e2, hq]
  by_cases h0 : q = 0
  · rw [if_pos h0]
    exact day_no y m x w (by rw [hq]; rw [hx]; split <;> omega)
  · rw [if_neg h0, ← hx]
    exact day_ok y m x w (by rw [hx]; split <;> omega) (by rw [hq, hx]; split <;> omega)

set_option maxHeartbeats 4000000 in
theorem madd_in (n k y m d : Int) (w : World) (h : dateOf n y m d) (k1 : -130000 ≤ k) (k2 : k ≤ 130000) :
    Calls Tryd.prog 10 #[.int .i64 n, .int .i64 k] w fun e w' => e = .returned (.tuple #[.int .i64 (monV (12 * y + (m - 1) + k) d).1, .bool (monV (12 * y + (m - 1) + k) d).2]) ∧ w = w' := by
  have HD := Lib.hid (fun w => date_at n y m d w h)
  obtain ⟨y1, y2, m1, m2⟩ := lenI_pos (show 1 ≤ lenI y m by have := h.1; have := h.2.1; omega)
  have d1 := h.1
  have d2 : d ≤ 31 := by have := h.2.1; have := lenI_bd y m; omega
  have t1 : decide (130000 < k) = false := decide_eq_false (by omega)
  have t2 : decide (k < -130000) = false := decide_eq_false (by omega)
  obtain ⟨T, hT⟩ : ∃ T, 12 * y + (m - 1) + k = T := ⟨_, rfl⟩
  have HT := Lib.hid hT
  rw [hT]
  clear h hT
  go_enter Tryd.func10, Tryd.ntmps10
  go_wp2_with fail
  refine (HD.out _).mono ?_
  rintro e w1 ⟨rfl, rfl⟩
  go_wp2_with fail
  go_loop [1, 6, 7] (fun a b c => ∃ (K Y M : Int), a = .int .i64 K ∧ b = .int .i64 Y ∧ c = .int .i64 M ∧ Hid (12 * Y + (M - 1) + K = T) ∧ 1 ≤ M ∧ M ≤ 12 ∧ K ≤ k ∧ (0 ≤ K ∨ K = k) ∧ y ≤ Y ∧ Y ≤ 200000 - K) (fun a _ _ => (intOf a).toNat)
  case atStart => exact ⟨k, y, m, rfl, rfl, rfl, HT, m1, m2, by omega, .inr rfl, by omega, by omega⟩
  case round =>
    obtain ⟨K, Y, M, rfl, rfl, rfl, HI, hM1, hM2, hK, hKK, hY, hY2⟩ := hrel
    by_cases hpos : 0 < K
    · by_cases h12 : M = 12
      · subst h12
        have HN := Lib.hid (show 12 * (Y + 1) + (1 - 1) + (K - 1) = T by have := HI.out; omega)
        clear HI
        go_wp2_with fail
        go_round
        case rel => exact ⟨K - 1, Y + 1, 1, rfl, rfl, rfl, HN, by omega, by omega, by omega, by omega, by omega, by omega⟩
        case measure => simp [intOf]; omega
      · have HN := Lib.hid (show 12 * Y + (M + 1 - 1) + (K - 1) = T by have := HI.out; omega)
        have t3 : (M + 1 == 13) = false := by rw [beq_eq_false_iff_ne]; omega
        have hM3 : M ≤ 11 := by omega
        clear HI h12
        go_wp2_with fail
        go_round
        case rel => exact ⟨K - 1, Y, M + 1, rfl, rfl, rfl, HN, by omega, by omega, by omega, by omega, by omega, by omega⟩
        case measure => simp [intOf]; omega
    · have HI2 := HI
      clear HI
      have hK1 : -130000 ≤ K := by omega
      go_wp2_with fail
      go_loop [1, 6, 7] (fun a b c => ∃ (K' Y' M' : Int), a = .int .i64 K' ∧ b = .int .i64 Y' ∧ c = .int .i64 M' ∧ Hid (12 * Y' + (M' - 1) + K' = T) ∧ 1 ≤ M' ∧ M' ≤ 12 ∧ K' ≤ 0 ∧ -130000 ≤ K' ∧ Y' ≤ 400000 ∧ -200000 - K' ≤ Y') (fun a _ _ => (- intOf a).toNat)
      case atStart => exact ⟨K, Y, M, rfl, rfl, rfl, HI2, hM1, hM2, by omega, by omega, by omega, by omega⟩
      case round =>
        obtain ⟨K', Y', M', rfl, rfl, rfl, HJ, p1, p2, p3, p4, p5, p6⟩ := hrel
        by_cases hneg : K' < 0
        · by_cases hm1 : M' = 1
          · subst hm1
            have HN := Lib.hid (show 12 * (Y' - 1) + (12 - 1) + (K' + 1) = T by have := HJ.out; omega)
            clear HJ
            go_wp2_with fail
            go_round
            case rel => exact ⟨K' + 1, Y' - 1, 12, rfl, rfl, rfl, HN, by omega, by omega, by omega, by omega, by omega, by omega⟩
            case measure => simp [intOf]; omega
          · have HN := Lib.hid (show 12 * Y' + (M' - 1 - 1) + (K' + 1) = T by have := HJ.out; omega)
            have t3 : (M' - 1 == 0) = false := by rw [beq_eq_false_iff_ne]; omega
            have p7 : 2 ≤ M' := by omega
            clear HJ hm1
            go_wp2_with fail
            go_round
            case rel => exact ⟨K' + 1, Y', M' - 1, rfl, rfl, rfl, HN, by omega, by omega, by omega, by omega, by omega, by omega⟩
            case measure => simp [intOf]; omega
        · have HE := Lib.hid (show 12 * Y' + (M' - 1) = T by have := HJ.out; omega)
          obtain ⟨q, hq⟩ : ∃ q, lenI Y' M' = q := ⟨_, rfl⟩
          have HQ := Lib.hid (fun w => length_any Y' M' w)
          rw [hq] at HQ
          have HQE := Lib.hid hq
          clear HJ hq
          by_cases hgt : q < d
          · go_wp2_with fail
            refine (HQ.out _).mono ?_
            rintro e w1 ⟨rfl, rfl⟩
            go_wp2_with fail
            refine (HQ.out _).mono ?_
            rintro e w1 ⟨rfl, rfl⟩
            go_wp2_with fail
            refine (day_mon T Y' M' d q _ HE.out p1 p2 d1 HQE.out q (by rw [if_pos hgt])).mono ?_
            rintro e w1 ⟨rfl, rfl⟩
            go_wp2_with fail
            go_ret2
            exact ⟨rfl, rfl⟩
          · go_wp2_with fail
            refine (HQ.out _).mono ?_
            rintro e w1 ⟨rfl, rfl⟩
            go_wp2_with fail
            refine (day_mon T Y' M' d q _ HE.out p1 p2 d1 HQE.out d (by rw [if_neg (by omega)])).mono ?_
            rintro e w1 ⟨rfl, rfl⟩
            go_wp2_with fail
            go_ret2
            exact ⟨rfl, rfl⟩

end Go.Proofs.YtkfhcfigkdcocaaDoor

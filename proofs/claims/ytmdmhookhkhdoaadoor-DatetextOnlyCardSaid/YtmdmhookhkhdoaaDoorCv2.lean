/- Package civil: Day, Date. -/
import Derived.Test.YtmdmhookhkhdoaaDoorCv1
namespace Corr
set_option maxRecDepth 8000
open Go Go.RowKit
/-- No year is longer than a leap year. -/
theorem dby_le (k : Nat) : dby k ≤ 366 * (k : Int) := by
  induction k with
  | zero => simp [dby]
  | succ k ih => rw [dby_step]; split <;> omega
end Corr
namespace Go.Proofs.YtmdmhookhkhdoaaDoor
set_option maxRecDepth 8000
open Go.RowKit Corr
set_option linter.unusedVariables false
theorem ret_ii {a b c d : Int} (h : a = b) (h' : c = d) : Ending.returned (.tuple #[.int .i64 a, .int .i64 c]) = .returned (.tuple #[.int .i64 b, .int .i64 d]) := by rw [h, h']
set_option maxHeartbeats 2000000 in
theorem cday_no (y m d : Int) (w : World) (g : LV w) (h : d < 1 ∨ lenI y m < d) : Calls Tryd.prog 21 #[.int .i64 y, .int .i64 m, .int .i64 d] w fun e w' => e = .returned (.tuple #[.int .i64 0, .int .i64 15]) ∧ w = w' := by
  by_cases h1 : d < 1
  · clear h
    go_enter Tryd.func21, Tryd.ntmps21
    go_wp2_with fail
    go_ret2
    exact ⟨rfl, rfl⟩
  · have d1 : decide (d < 1) = false := decide_eq_false h1
    obtain ⟨l, hl⟩ : ∃ l, lenI y m = l := ⟨_, rfl⟩
    have HL := Lib.hid (clength_any y m w g)
    rw [hl] at HL h
    have h2 : d > l := by omega
    have d2 : decide (d > l) = true := decide_eq_true h2
    clear h h1 hl h2 g
    go_enter Tryd.func21, Tryd.ntmps21
    go_wp2_with fail
    refine HL.out.mono ?_
    rintro e w1 ⟨rfl, rfl⟩
    go_wp2_with fail
    go_ret2
    exact ⟨rfl, rfl⟩

set_option maxHeartbeats 4000000 in
theorem cday_ok (y m d : Int) (w : World) (g : LV w) (h1 : 1 ≤ d) (h2 : d ≤ lenI y m) : Calls Tryd.prog 21 #[.int .i64 y, .int .i64 m, .int .i64 d] w fun e w' => e = .returned (.tuple #[.int .i64 (dby (y.toNat - 1) + cumI y (m.toNat - 1) + d), .int .i64 0]) ∧ w = w' := by
  obtain ⟨y1, y2, m1, m2⟩ := lenI_pos (show 1 ≤ lenI y m by omega)
  have d1 : decide (d < 1) = false := decide_eq_false (by omega)
  obtain ⟨l, hl⟩ : ∃ l, lenI y m = l := ⟨_, rfl⟩
  have hlb := lenI_bd y m
  have HL := Lib.hid (clength_any y m w g)
  rw [hl] at HL h2 hlb
  have d2 : decide (d > l) = false := decide_eq_false (by omega)
  obtain ⟨D, hD⟩ : ∃ D, dby (y.toNat - 1) = D := ⟨_, rfl⟩
  have hDb : 0 ≤ D ∧ D ≤ 4000000 := by rw [← hD, dby_eq _ (by omega)]; omega
  have HA := Lib.hid (ahead_any y w y1 (by omega))
  rw [hD] at HA ⊢
  have G := Lib.hid g
  clear hl g hD
  go_enter Tryd.func21, Tryd.ntmps21
  go_wp2_with fail
  refine HL.out.mono ?_
  rintro e w1 ⟨rfl, rfl⟩
  go_wp2_with fail
  refine HA.out.mono ?_
  rintro e w1 ⟨rfl, rfl⟩
  go_wp2_with fail
  go_loop [8, 9] (fun v t => ∃ (j : Nat) (E : Int), t = .int .i64 ((j : Int) + 1) ∧ v = .int .i64 E ∧ Hid (D + d + cumI y j = E) ∧ (j : Int) + 1 ≤ m) (fun _ t => (12 - intOf t).toNat)
  case atStart => exact ⟨0, D + d, rfl, rfl, Lib.hid (by simp [cumI]), by omega⟩
  case round =>
    obtain ⟨j, E, rfl, rfl, HE, hj⟩ := hrel
    have hEb : 0 ≤ E ∧ E ≤ 4000800 := by have := cumI_bd y j; rw [← HE.out]; omega
    by_cases hlt2 : (j : Int) + 1 < m
    · obtain ⟨q, hq⟩ : ∃ q, lenI y ((j : Int) + 1) = q := ⟨_, rfl⟩
      have hqb := lenI_bd y ((j : Int) + 1)
      have HQ := Lib.hid (clength_any y ((j : Int) + 1) w G.out)
      rw [hq] at HQ hqb
      have HN := Lib.hid (show D + d + cumI y (j + 1) = E + q by rw [cumI, ← HE.out, hq]; omega)
      clear hq
      go_wp2_with fail
      refine HQ.out.mono ?_
      rintro e w1 ⟨rfl, rfl⟩
      go_wp2_with fail
      go_round
      case rel => exact ⟨j + 1, _, by go_num, rfl, HN, by omega⟩
      case measure => simp [intOf]; omega
    · have HF := Lib.hid (show E = D + cumI y (m.toNat - 1) + d by rw [show m.toNat - 1 = j by omega]; have := HE.out; omega)
      clear HE
      go_wp2_with fail
      go_ret2
      exact ⟨ret_ii HF.out rfl, rfl⟩
/-- What Date leaves. -/
def CRetDate (n : Int) (w : World) (e : Ending) (w' : World) : Prop := ∃ y m d : Int, e = .returned (.tuple #[.int .i64 y, .int .i64 m, .int .i64 d, .int .i64 0]) ∧ dateOf n y m d ∧ w = w'

theorem cdate_no (n : Int) (w : World) (h : n < 1 ∨ 3652059 < n) : Calls Tryd.prog 15 #[.int .i64 n] w fun e w' => e = .returned (.tuple #[.int .i64 0, .int .i64 0, .int .i64 0, .int .i64 15]) ∧ w = w' := by
  by_cases h1 : n < 1
  · clear h
    go_enter Tryd.func15, Tryd.ntmps15
    go_wp2_with fail
    refine bodyPost_ret (v := .tuple #[.int .i64 0, .int .i64 0, .int .i64 0, .int .i64 15]) (by simp [results, Tryd.results15, go_sem]) rfl ⟨rfl, rfl⟩
  · have d1 : decide (n < 1) = false := decide_eq_false h1
    have h2 : decide (n > 3652059) = true := decide_eq_true (by omega)
    clear h h1
    go_enter Tryd.func15, Tryd.ntmps15
    go_wp2_with fail
    refine bodyPost_ret (v := .tuple #[.int .i64 0, .int .i64 0, .int .i64 0, .int .i64 15]) (by simp [results, Tryd.results15, go_sem]) rfl ⟨rfl, rfl⟩

set_option maxHeartbeats 4000000 in
theorem cdate_ok (n : Int) (w : World) (g : LV w) (h1 : 1 ≤ n) (h2 : n ≤ 3652059) : Calls Tryd.prog 15 #[.int .i64 n] w (CRetDate n w) := by
  have d1 : decide (n < 1) = false := decide_eq_false (by omega)
  have d2 : decide (n > 3652059) = false := decide_eq_false (by omega)
  have G := Lib.hid g
  have HA := Lib.hid (fun y (y1 : 1 ≤ y) (y2 : y ≤ 10000) => ahead_any y w y1 y2)
  clear g
  go_enter Tryd.func15, Tryd.ntmps15
  go_wp2_with fail
  go_loop [2] (fun v => ∃ (y : Int), v = .int .i64 y ∧ Hid (dby (y.toNat - 1) < n) ∧ 1 ≤ y ∧ y ≤ 9999) (fun v => (9999 - intOf v).toNat)
  case atStart =>
    refine ⟨(n - 1) / 366 + 1, rfl, Lib.hid ?_, by omega, by omega⟩
    have h := dby_le (((n - 1) / 366 + 1).toNat - 1)
    omega
  case round =>
    obtain ⟨y, rfl, HR, y1, y2⟩ := hrel
    have HA1 := Lib.hid (ahead_any (y + 1) w (by omega) (by omega))
    rw [show (y + 1).toNat - 1 = y.toNat by omega] at HA1
    obtain ⟨D1, hD1⟩ : ∃ D1, dby y.toNat = D1 := ⟨_, rfl⟩
    rw [hD1] at HA1
    have HD1 := Lib.hid hD1
    by_cases hlt : D1 < n
    · have hy3 : y ≤ 9998 := by
        rcases Int.lt_or_le y 9999 with h | h
        · omega
        · have e : y.toNat = 9999 := by omega
          have := dby_last
          rw [e] at hD1
          omega
      clear hD1
      go_wp2_with fail
      refine HA1.out.mono ?_
      rintro e w1 ⟨rfl, rfl⟩
      go_wp2_with fail
      go_round
      case rel => exact ⟨y + 1, rfl, Lib.hid (by rw [show (y + 1).toNat - 1 = y.toNat by omega, HD1.out]; exact hlt), by omega, by omega⟩
      case measure => simp [intOf]; omega
    · obtain ⟨D, hD⟩ : ∃ D, dby (y.toNat - 1) = D := ⟨_, rfl⟩
      have HA0 := Lib.hid (ahead_any y w y1 (by omega))
      rw [hD] at HA0
      have HD := Lib.hid hD
      have hDn : D < n := by have := HR.out; omega
      have hD0 : 0 ≤ D := by rw [← hD, dby_eq _ (by omega)]; omega
      have HX := Lib.hid (show n - D ≤ cumI y 12 by
        have e1 := dby_step (y.toNat - 1)
        rw [show y.toNat - 1 + 1 = y.toNat by omega, show (((y.toNat - 1 : Nat) : Int) + 1) = y by omega] at e1
        rw [cumI_12 y1 y2]
        omega)
      have hM : n - D ≤ 372 := by have := HX.out; have := cumI_bd y 12; omega
      clear hD hD1 HA
      go_wp2_with fail
      refine HA1.out.mono ?_
      rintro e w1 ⟨rfl, rfl⟩
      go_wp2_with fail
      refine HA0.out.mono ?_
      rintro e w1 ⟨rfl, rfl⟩
      go_wp2_with fail
      go_loop [3, 4] (fun t v => ∃ (j : Nat) (M : Int), t = .int .i64 ((j : Int) + 1) ∧ v = .int .i64 M ∧ Hid (n - D - cumI y j = M) ∧ 1 ≤ M ∧ M ≤ 372 ∧ j ≤ 11) (fun t _ => (12 - intOf t).toNat)
      case atStart => exact ⟨0, n - D, rfl, rfl, Lib.hid (by simp [cumI]), by omega, by omega, by omega⟩
      case round =>
        obtain ⟨j, M, rfl, rfl, HM, m1, m2, hj⟩ := hrel
        obtain ⟨q, hq⟩ : ∃ q, lenI y ((j : Int) + 1) = q := ⟨_, rfl⟩
        have hqb := lenI_bd y ((j : Int) + 1)
        have HQ := Lib.hid (clength_any y ((j : Int) + 1) w G.out)
        have HC := Lib.hid (show cumI y (j + 1) = cumI y j + q by rw [cumI, hq])
        have HQE := Lib.hid hq
        rw [hq] at HQ hqb
        clear hq
        by_cases hgt : M > q
        · have hj2 : j + 1 ≤ 11 := by
            rcases Nat.lt_or_ge j 11 with h | h
            · omega
            · have e : j = 11 := by omega
              have h3 := HC.out; have h4 := HX.out; have h5 := HM.out
              rw [e] at h3 h5
              rw [show 11 + 1 = 12 from rfl] at h3
              omega
          have HN := Lib.hid (show n - D - cumI y (j + 1) = M - q by have h3 := HC.out; have h5 := HM.out; omega)
          clear HC HM
          go_wp2_with fail
          refine HQ.out.mono ?_
          rintro e w1 ⟨rfl, rfl⟩
          go_wp2_with fail
          refine HQ.out.mono ?_
          rintro e w1 ⟨rfl, rfl⟩
          go_wp2_with fail
          go_round
          case rel => exact ⟨j + 1, _, by go_num, rfl, HN, by omega, by omega, by omega⟩
          case measure => simp [intOf]; omega
        · have HF := Lib.hid (show dateOf n y ((j : Int) + 1) M by
            refine ⟨m1, by rw [HQE.out]; omega, ?_⟩
            have h3 := HD.out; have h5 := HM.out
            rw [show (((j : Int) + 1).toNat - 1) = j by omega]
            omega)
          clear HC HM
          go_wp2_with fail
          refine HQ.out.mono ?_
          rintro e w1 ⟨rfl, rfl⟩
          go_wp2_with fail
          exact bodyPost_ret (v := .tuple #[.int .i64 y, .int .i64 ((j : Int) + 1), .int .i64 M, .int .i64 0]) (by simp [results, Tryd.results15, go_sem]) rfl ⟨_, _, _, rfl, HF.out, rfl⟩
end Go.Proofs.YtmdmhookhkhdoaaDoor

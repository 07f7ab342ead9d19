/- Contracts of corrodyref04: Date. -/
import Derived.Test.YtmdmhookhkhdoaaDoorCiv2
namespace Corr
set_option maxRecDepth 8000
open Go
theorem dby_step (k : Nat) : dby (k + 1) = dby k + (if leapB ((k : Int) + 1) = true then 366 else 365) := by
  rw [dby]; split <;> omega
theorem dby_last : dby 9999 = 3652059 := by rw [dby_eq 9999 (Nat.le_refl _)]; decide
theorem dby_mono {a b : Nat} (h : a ≤ b) : dby a ≤ dby b := by
  induction b with
  | zero => rw [show a = 0 by omega]; exact Int.le_refl _
  | succ b ih =>
    by_cases e : a = b + 1
    · subst e; exact Int.le_refl _
    · have := ih (by omega)
      rw [dby_step]; split <;> omega
theorem lenI_1 {y m : Int} (y1 : 1 ≤ y) (y2 : y ≤ 9999) (h : m = 1 ∨ m = 3 ∨ m = 5 ∨ m = 7 ∨ m = 8 ∨ m = 10 ∨ m = 12) : lenI y m = 31 := by
  unfold lenI; rw [if_neg (by omega), if_pos h]
theorem lenI_3 {y m : Int} (y1 : 1 ≤ y) (y2 : y ≤ 9999) (h : m = 4 ∨ m = 6 ∨ m = 9 ∨ m = 11) : lenI y m = 30 := by
  unfold lenI; rw [if_neg (by omega), if_neg (by omega), if_pos h]
theorem lenI_2 {y : Int} (y1 : 1 ≤ y) (y2 : y ≤ 9999) : lenI y 2 = if leapB y = true then 29 else 28 := by
  unfold lenI; rw [if_neg (by omega), if_neg (by omega), if_neg (by omega), if_pos rfl]
/-- A year's months are its days. -/
theorem cumI_12 {y : Int} (y1 : 1 ≤ y) (y2 : y ≤ 9999) : cumI y 12 = if leapB y = true then 366 else 365 := by
  have e1 : lenI y 1 = 31 := lenI_1 y1 y2 (by omega)
  have e2 := lenI_2 y1 y2
  have e3 : lenI y 3 = 31 := lenI_1 y1 y2 (by omega)
  have e4 : lenI y 4 = 30 := lenI_3 y1 y2 (by omega)
  have e5 : lenI y 5 = 31 := lenI_1 y1 y2 (by omega)
  have e6 : lenI y 6 = 30 := lenI_3 y1 y2 (by omega)
  have e7 : lenI y 7 = 31 := lenI_1 y1 y2 (by omega)
  have e8 : lenI y 8 = 31 := lenI_1 y1 y2 (by omega)
  have e9 : lenI y 9 = 30 := lenI_3 y1 y2 (by omega)
  have e10 : lenI y 10 = 31 := lenI_1 y1 y2 (by omega)
  have e11 : lenI y 11 = 30 := lenI_3 y1 y2 (by omega)
  have e12 : lenI y 12 = 31 := lenI_1 y1 y2 (by omega)
  show 0 + lenI y 1 + lenI y 2 + lenI y 3 + lenI y 4 + lenI y 5 + lenI y 6 + lenI y 7 + lenI y 8 + lenI y 9 + lenI y 10 + lenI y 11 + lenI y 12 = _
  rw [e1, e2, e3, e4, e5, e6, e7, e8, e9, e10, e11, e12]
  split <;> omega
theorem cumI_mono (y : Int) {a b : Nat} (h : a ≤ b) : cumI y a ≤ cumI y b := by
  induction b with
  | zero => rw [show a = 0 by omega]; exact Int.le_refl _
  | succ b ih =>
    by_cases e : a = b + 1
    · subst e; exact Int.le_refl _
    · have h1 := ih (by omega)
      have h2 := lenI_bd y ((b : Int) + 1)
      rw [cumI]; omega
theorem last_year {n R X : Int} (h3 : dby (Int.toNat 9999) = dby (Int.toNat 9999 - 1) + X) (h4 : n - dby (Int.toNat 9999 - 1) = R) (h2 : n ≤ 3652059) : R ≤ X := by
  have h5 := dby_last
  have h6 : dby (Int.toNat 9999) = dby 9999 := rfl
  generalize dby (Int.toNat 9999 - 1) = D at *
  omega
/-- A date and its number. -/
def dateOf (n y m d : Int) : Prop := 1 ≤ d ∧ d ≤ lenI y m ∧ dby (y.toNat - 1) + cumI y (m.toNat - 1) + d = n
end Corr
namespace Go.Proofs.YtmdmhookhkhdoaaDoor
set_option maxRecDepth 8000
open Go.RowKit Corr
set_option linter.unusedVariables false
/-- What Date leaves. -/
def RetDate (n : Int) (w : World) (e : Ending) (w' : World) : Prop := ∃ y m d : Int, e = .returned (.tuple #[.int .i64 y, .int .i64 m, .int .i64 d, .bool true]) ∧ dateOf n y m d ∧ w = w'

theorem date_no (n : Int) (w : World) (h : n < 1 ∨ 3652059 < n) : Calls Tryd.prog 18 #[.int .i64 n] w fun e w' => e = .returned (.tuple #[.int .i64 0, .int .i64 0, .int .i64 0, .bool false]) ∧ w = w' := by
  by_cases h1 : n < 1
  · clear h
    go_enter Tryd.func18, Tryd.ntmps18
    go_wp2_with fail
    refine bodyPost_ret (v := .tuple #[.int .i64 0, .int .i64 0, .int .i64 0, .bool false]) (by simp [results, Tryd.results18, go_sem]) rfl ⟨rfl, rfl⟩
  · have d1 : decide (n < 1) = false := decide_eq_false h1
    have h2 : 3652059 < n := by omega
    clear h
    go_enter Tryd.func18, Tryd.ntmps18
    go_wp2_with fail
    refine bodyPost_ret (v := .tuple #[.int .i64 0, .int .i64 0, .int .i64 0, .bool false]) (by simp [results, Tryd.results18, go_sem]) rfl ⟨rfl, rfl⟩

set_option maxHeartbeats 4000000 in
theorem date_ok (n : Int) (w : World) (h1 : 1 ≤ n) (h2 : n ≤ 3652059) : Calls Tryd.prog 18 #[.int .i64 n] w (RetDate n w) := by
  have d1 : decide (n < 1) = false := decide_eq_false (by omega)
  have d2 : decide (3652059 < n) = false := decide_eq_false (by omega)
  go_enter Tryd.func18, Tryd.ntmps18
  go_wp2_with fail
  go_loop [0, 6, 7] (fun v t _ => ∃ (y R : Int), t = .int .i64 y ∧ v = .int .i64 R ∧ Hid (n - dby (y.toNat - 1) = R) ∧ 1 ≤ R ∧ R ≤ 3652059 ∧ 1 ≤ y ∧ y ≤ 9999) (fun _ t _ => (9999 - intOf t).toNat)
  case atStart => exact ⟨1, n, rfl, rfl, Lib.hid (by simp [dby]), h1, h2, by omega, by omega⟩
  case round =>
    obtain ⟨y, R, rfl, rfl, HR, r1, r2, y1, y2⟩ := hrel
    have HLP := Lib.hid (fun w => leap_any y w)
    cases hb : leapB y with
    | true =>
      rw [hb] at HLP
      have HY := Lib.hid (show cumI y 12 = 366 by rw [cumI_12 (by omega) (by omega), hb]; rfl)
      have HS := Lib.hid (show dby y.toNat = dby (y.toNat - 1) + 366 by rw [show y.toNat = (y.toNat - 1) + 1 by omega, dby_step, show (((y.toNat - 1 : Nat) : Int) + 1) = y by omega, hb]; rfl)
      clear hb
      by_cases hle : R ≤ 366
      · clear HS
        go_wp2_with fail
        refine (HLP.out _).mono ?_
        rintro e w1 ⟨rfl, rfl⟩
        go_wp2_with fail
        go_loop [0, 8] (fun v t => ∃ (j : Nat) (M : Int), t = .int .i64 ((j : Int) + 1) ∧ v = .int .i64 M ∧ Hid (R - cumI y j = M) ∧ 1 ≤ M ∧ M ≤ 366 ∧ j ≤ 11) (fun _ t => (12 - intOf t).toNat)
        case atStart => exact ⟨0, R, rfl, rfl, Lib.hid (by simp [cumI]), r1, by omega, by omega⟩
        case round =>
          obtain ⟨j, M, rfl, rfl, HM, m1, m2, hj⟩ := hrel
          obtain ⟨q, hq⟩ : ∃ q, lenI y ((j : Int) + 1) = q := ⟨_, rfl⟩
          have hqb := lenI_bd y ((j : Int) + 1)
          have HQ := Lib.hid (fun w => length_any y ((j : Int) + 1) w)
          have HC := Lib.hid (show cumI y (j + 1) = cumI y j + q by rw [cumI, hq])
          have HQE := Lib.hid hq
          rw [hq] at HQ hqb
          clear hq
          by_cases hgt : q < M
          · have hj2 : j + 1 ≤ 11 := by
              rcases Nat.lt_or_ge j 11 with h | h
              · omega
              · have e : j = 11 := by omega
                have h3 := HC.out; have h4 := HY.out; have h5 := HM.out
                rw [e] at h3 h5
                rw [show 11 + 1 = 12 from rfl] at h3
                omega
            have HN := Lib.hid (show R - cumI y (j + 1) = M - q by have h3 := HC.out; have h5 := HM.out; omega)
            clear HC HM
            go_wp2_with fail
            refine (HQ.out _).mono ?_
            rintro e w1 ⟨rfl, rfl⟩
            go_wp2_with fail
            refine (HQ.out _).mono ?_
            rintro e w1 ⟨rfl, rfl⟩
            go_wp2_with fail
            go_round
            case rel => exact ⟨j + 1, _, by go_num, rfl, HN, by omega, by omega, by omega⟩
            case measure => simp [intOf]; omega
          · have HF := Lib.hid (show dateOf n y ((j : Int) + 1) M by
              refine ⟨m1, by rw [HQE.out]; omega, ?_⟩
              have h3 := HR.out; have h5 := HM.out
              rw [show (((j : Int) + 1).toNat - 1) = j by omega]
              omega)
            clear HC HM
            go_wp2_with fail
            refine (HQ.out _).mono ?_
            rintro e w1 ⟨rfl, rfl⟩
            go_wp2_with fail
            exact bodyPost_ret (v := .tuple #[.int .i64 y, .int .i64 ((j : Int) + 1), .int .i64 M, .bool true]) (by simp [results, Tryd.results18, go_sem]) rfl ⟨_, _, _, rfl, HF.out, rfl⟩
      · have hk2 : y ≤ 9998 := by
          rcases Int.lt_or_le y 9999 with h | h
          · omega
          · have e : y = 9999 := by omega
            subst e
            exact absurd (last_year HS.out HR.out h2) (by omega)
        have HN := Lib.hid (show n - dby ((y + 1).toNat - 1) = R - 366 by have h3 := HS.out; have h4 := HR.out; rw [show (y + 1).toNat - 1 = y.toNat by omega]; omega)
        clear HS HY HR
        go_wp2_with fail
        refine (HLP.out _).mono ?_
        rintro e w1 ⟨rfl, rfl⟩
        go_wp2_with fail
        go_round
        case rel => exact ⟨y + 1, _, rfl, rfl, HN, by omega, by omega, by omega, by omega⟩
        case measure => simp [intOf]; omega
    | false =>
      rw [hb] at HLP
      have HY := Lib.hid (show cumI y 12 = 365 by rw [cumI_12 (by omega) (by omega), hb]; rfl)
      have HS := Lib.hid (show dby y.toNat = dby (y.toNat - 1) + 365 by rw [show y.toNat = (y.toNat - 1) + 1 by omega, dby_step, show (((y.toNat - 1 : Nat) : Int) + 1) = y by omega, hb]; rfl)
      clear hb
      by_cases hle : R ≤ 365
      · clear HS
        go_wp2_with fail
        refine (HLP.out _).mono ?_
        rintro e w1 ⟨rfl, rfl⟩
        go_wp2_with fail
        go_loop [0, 8] (fun v t => ∃ (j : Nat) (M : Int), t = .int .i64 ((j : Int) + 1) ∧ v = .int .i64 M ∧ Hid (R - cumI y j = M) ∧ 1 ≤ M ∧ M ≤ 366 ∧ j ≤ 11) (fun _ t => (12 - intOf t).toNat)
        case atStart => exact ⟨0, R, rfl, rfl, Lib.hid (by simp [cumI]), r1, by omega, by omega⟩
        case round =>
          obtain ⟨j, M, rfl, rfl, HM, m1, m2, hj⟩ := hrel
          obtain ⟨q, hq⟩ : ∃ q, lenI y ((j : Int) + 1) = q := ⟨_, rfl⟩
          have hqb := lenI_bd y ((j : Int) + 1)
          have HQ := Lib.hid (fun w => length_any y ((j : Int) + 1) w)
          have HC := Lib.hid (show cumI y (j + 1) = cumI y j + q by rw [cumI, hq])
          have HQE := Lib.hid hq
          rw [hq] at HQ hqb
          clear hq
          by_cases hgt : q < M
          · have hj2 : j + 1 ≤ 11 := by
              rcases Nat.lt_or_ge j 11 with h | h
              · omega
              · have e : j = 11 := by omega
                have h3 := HC.out; have h4 := HY.out; have h5 := HM.out
                rw [e] at h3 h5
                rw [show 11 + 1 = 12 from rfl] at h3
                omega
            have HN := Lib.hid (show R - cumI y (j + 1) = M - q by have h3 := HC.out; have h5 := HM.out; omega)
            clear HC HM
            go_wp2_with fail
            refine (HQ.out _).mono ?_
            rintro e w1 ⟨rfl, rfl⟩
            go_wp2_with fail
            refine (HQ.out _).mono ?_
            rintro e w1 ⟨rfl, rfl⟩
            go_wp2_with fail
            go_round
            case rel => exact ⟨j + 1, _, by go_num, rfl, HN, by omega, by omega, by omega⟩
            case measure => simp [intOf]; omega
          · have HF := Lib.hid (show dateOf n y ((j : Int) + 1) M by
              refine ⟨m1, by rw [HQE.out]; omega, ?_⟩
              have h3 := HR.out; have h5 := HM.out
              rw [show (((j : Int) + 1).toNat - 1) = j by omega]
              omega)
            clear HC HM
            go_wp2_with fail
            refine (HQ.out _).mono ?_
            rintro e w1 ⟨rfl, rfl⟩
            go_wp2_with fail
            exact bodyPost_ret (v := .tuple #[.int .i64 y, .int .i64 ((j : Int) + 1), .int .i64 M, .bool true]) (by simp [results, Tryd.results18, go_sem]) rfl ⟨_, _, _, rfl, HF.out, rfl⟩
      · have hk2 : y ≤ 9998 := by
          rcases Int.lt_or_le y 9999 with h | h
          · omega
          · have e : y = 9999 := by omega
            subst e
            exact absurd (last_year HS.out HR.out h2) (by omega)
        have HN := Lib.hid (show n - dby ((y + 1).toNat - 1) = R - 365 by have h3 := HS.out; have h4 := HR.out; rw [show (y + 1).toNat - 1 = y.toNat by omega]; omega)
        clear HS HY HR
        go_wp2_with fail
        refine (HLP.out _).mono ?_
        rintro e w1 ⟨rfl, rfl⟩
        go_wp2_with fail
        go_round
        case rel => exact ⟨y + 1, _, rfl, rfl, HN, by omega, by omega, by omega, by omega⟩
        case measure => simp [intOf]; omega
end Go.Proofs.YtmdmhookhkhdoaaDoor

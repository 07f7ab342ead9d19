/- Package civil: Day, Date. -/
import Derived.Test.YtkfealfgnjaanaaDoorCv1
namespace Corr
set_option maxRecDepth 8000
open Go Go.RowKit
end Corr
namespace Go.Proofs.YtkfealfgnjaanaaDoor
set_option maxRecDepth 8000
open Go.RowKit Corr
set_option linter.unusedVariables false
theorem ret_ii {a b c d : Int} (h : a = b) (h' : c = d) : Ending.returned (.tuple #[.int .i64 a, .int .i64 c]) = .returned (.tuple #[.int .i64 b, .int .i64 d]) := by rw [h, h']
set_option maxHeartbeats 2000000 in
theorem cday_no (y m d : Int) (w : World) (g : LV w) (h : d < 1 ∨ lenI y m < d) : Calls Tryd.prog 6 #[.int .i64 y, .int .i64 m, .int .i64 d] w fun e w' => e = .returned (.tuple #[.int .i64 0, .int .i64 15]) ∧ w = w' := by
  by_cases h1 : d < 1
  · clear h
    go_enter Tryd.func6, Tryd.ntmps6
    go_wp2_with fail
    go_ret2
    exact ⟨rfl, rfl⟩
  · have d1 : decide (d < 1) = false := decide_eq_false h1
    obtain ⟨l, hl⟩ : ∃ l, lenI y m = l := ⟨_, rfl⟩
    have HL := Lib.hid (clength_any y m w g)
    rw [hl] at HL h
    have h2 : d > l := by omega
    have d2 : decide (d > l) = true := decide_eq_true h2
    clear h h1 hl h2 g
    go_enter Tryd.func6, Tryd.ntmps6
    go_wp2_with fail
    refine HL.out.mono ?_
    rintro e w1 ⟨rfl, rfl⟩
    go_wp2_with fail
    go_ret2
    exact ⟨rfl, rfl⟩

set_option maxHeartbeats 4000000 in
theorem cday_ok (y m d : Int) (w : World) (g : LV w) (h1 : 1 ≤ d) (h2 : d ≤ lenI y m) : Calls Tryd.prog 6 #[.int .i64 y, .int .i64 m, .int .i64 d] w fun e w' => e = .returned (.tuple #[.int .i64 (dby (y.toNat - 1) + cumI y (m.toNat - 1) + d), .int .i64 0]) ∧ w = w' := by
  obtain ⟨y1, y2, m1, m2⟩ := lenI_pos (show 1 ≤ lenI y m by omega)
  have d1 : decide (d < 1) = false := decide_eq_false (by omega)
  obtain ⟨l, hl⟩ : ∃ l, lenI y m = l := ⟨_, rfl⟩
  have hlb := lenI_bd y m
  have HL := Lib.hid (clength_any y m w g)
  rw [hl] at HL h2 hlb
  have d2 : decide (d > l) = false := decide_eq_false (by omega)
  obtain ⟨D, hD⟩ : ∃ D, dby (y.toNat - 1) = D := ⟨_, rfl⟩
  have hDb : 0 ≤ D ∧ D ≤ 4000000 := by rw [← hD, dby_eq _ (by omega)]; omega
  have HA := Lib.hid (ahead_any y w y1 (by omega))
  rw [hD] at HA ⊢
  have G := Lib.hid g
  clear hl g hD
  go_enter Tryd.func6, Tryd.ntmps6
  go_wp2_with fail
  refine HL.out.mono ?_
  rintro e w1 ⟨rfl, rfl⟩
  go_wp2_with fail
  refine HA.out.mono ?_
  rintro e w1 ⟨rfl, rfl⟩
  go_wp2_with fail
  go_loop [8, 9] (fun v t => ∃ (j : Nat) (E : Int), t = .int .i64 ((j : Int) + 1) ∧ v = .int .i64 E ∧ Hid (D + d + cumI y j = E) ∧ (j : Int) + 1 ≤ m) (fun _ t => (12 - intOf t).toNat)
  case atStart => exact ⟨0, D + d, rfl, rfl, Lib.hid (by simp [cumI]), by omega⟩
  case round =>
    obtain ⟨j, E, rfl, rfl, HE, hj⟩ := hrel
    have hEb : 0 ≤ E ∧ E ≤ 4000800 := by have := cumI_bd y j; rw [← HE.out]; omega
    by_cases hlt2 : (j : Int) + 1 < m
    · obtain ⟨q, hq⟩ : ∃ q, lenI y ((j : Int) + 1) = q := ⟨_, rfl⟩
      have hqb := lenI_bd y ((j : Int) + 1)
      have HQ := Lib.hid (clength_any y ((j : Int) + 1) w G.out)
      rw [hq] at HQ hqb
      have HN := Lib.hid (show D + d + cumI y (j + 1) = E + q by rw [cumI, ← HE.out, hq]; omega)
      clear hq
      go_wp2_with fail
      refine HQ.out.mono ?_
      rintro e w1 ⟨rfl, rfl⟩
      go_wp2_with fail
      go_round
      case rel => exact ⟨j + 1, _, by go_num, rfl, HN, by omega⟩
      case measure => simp [intOf]; omega
    · have HF := Lib.hid (show E = D + cumI y (m.toNat - 1) + d by rw [show m.toNat - 1 = j by omega]; have := HE.out; omega)
      clear HE
      go_wp2_with fail
      go_ret2
      exact ⟨ret_ii HF.out rfl, rfl⟩
end Go.Proofs.YtkfealfgnjaanaaDoor

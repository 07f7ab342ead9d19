/- Package civil: isYear, Leap, Length, ahead; the table of the months' lengths in the world. -/
import Derived.Test.YtmdmhookhkhdoaaDoorCiv4
import Derived.Lib.LaidTab
namespace Corr
set_option maxRecDepth 8000
open Go Go.RowKit
/-- The months' lengths, in a year that is no leap year. -/
def lenT : List Int := [31, 28, 31, 30, 31, 30, 31, 31, 30, 31, 30, 31]
/-- The table of the months' lengths lies at the variable a. -/
structure LVars (a : Nat) (w : World) : Prop where
  c : ∀ i : Nat, i < 12 → w.cell? ⟨a, i, none⟩ = some (.int .i64 (lenT.getD i 0))
theorem LVars.keep {a : Nat} {w w' : World} (h : LVars a w) (hb : Below w.heap.size w w') : LVars a w' :=
  ⟨fun i hi => by have := h.c i hi; rw [hb.cell (World.block_lt_of_cell? _ _ this)]; exact this⟩
theorem lenI_tab {y m : Int} (y1 : 1 ≤ y) (y2 : y ≤ 9999) (m1 : 1 ≤ m) (m2 : m ≤ 12) : lenI y m = lenT.getD (m - 1).toNat 0 + (if m = 2 ∧ leapB y = true then 1 else 0) := by
  have hm : m = 1 ∨ m = 2 ∨ m = 3 ∨ m = 4 ∨ m = 5 ∨ m = 6 ∨ m = 7 ∨ m = 8 ∨ m = 9 ∨ m = 10 ∨ m = 11 ∨ m = 12 := by omega
  unfold lenI
  rw [if_neg (by omega)]
  rcases hm with rfl | rfl | rfl | rfl | rfl | rfl | rfl | rfl | rfl | rfl | rfl | rfl <;> first | rfl | (cases leapB y <;> rfl)
/-- A year? -/
def yearB (y : Int) : Bool := decide (1 ≤ y ∧ y ≤ 9999)
theorem leap_year {y : Int} (h : yearB y = false) : leapB y = false := by
  have := of_decide_eq_false h
  exact decide_eq_false (by omega)
end Corr
namespace Go.Proofs.YtmdmhookhkhdoaaDoor
set_option maxRecDepth 8000
open Go.RowKit Corr
set_option linter.unusedVariables false
abbrev LV (w : World) : Prop := LVars 0 w

theorem isYear_any (y : Int) (w : World) : Calls Tryd.prog 33 #[.int .i64 y] w fun e w' => e = .returned (.bool (yearB y)) ∧ w = w' := by
  by_cases h1 : 1 ≤ y
  · by_cases h2 : y ≤ 9999
    · have HB := Lib.hid (show yearB y = true from decide_eq_true ⟨h1, h2⟩)
      have d1 : decide (y ≥ 1) = true := decide_eq_true h1
      have d2 : decide (y ≤ 9999) = true := decide_eq_true h2
      rw [HB.out]
      clear h1 h2
      go_enter Tryd.func33, Tryd.ntmps33
      go_wp2_with fail
      go_ret
      exact ⟨rfl, rfl⟩
    · have HB := Lib.hid (show yearB y = false from decide_eq_false (by omega))
      have d1 : decide (y ≥ 1) = true := decide_eq_true h1
      have d2 : decide (y ≤ 9999) = false := decide_eq_false h2
      rw [HB.out]
      clear h1 h2
      go_enter Tryd.func33, Tryd.ntmps33
      go_wp2_with fail
      go_ret
      exact ⟨rfl, rfl⟩
  · have HB := Lib.hid (show yearB y = false from decide_eq_false (by omega))
    have d1 : decide (y ≥ 1) = false := decide_eq_false h1
    rw [HB.out]
    clear h1
    go_enter Tryd.func33, Tryd.ntmps33
    go_wp2_with fail
    go_ret
    exact ⟨rfl, rfl⟩

set_option maxHeartbeats 1000000 in
theorem cleap_any (y : Int) (w : World) : Calls Tryd.prog 34 #[.int .i64 y] w fun e w' => e = .returned (.bool (leapB y)) ∧ w = w' := by
  have HY := Lib.hid (fun w => isYear_any y w)
  cases hb : yearB y with
  | false =>
    have HL := Lib.hid (leap_year hb)
    rw [HL.out]
    rw [hb] at HY
    clear hb
    go_enter Tryd.func34, Tryd.ntmps34
    go_wp2_with fail
    refine (HY.out _).mono ?_
    rintro e w1 ⟨rfl, rfl⟩
    go_wp2_with fail
    go_ret
    exact ⟨rfl, rfl⟩
  | true =>
    obtain ⟨y1, y2⟩ := of_decide_eq_true hb
    rw [hb] at HY
    clear hb
    by_cases h5 : y % 4 = 0
    · have d5 : (y % 4 == 0) = true := by simpa using h5
      by_cases h6 : y % 100 = 0
      · have d6 : (y % 100 != 0) = false := by simpa using h6
        by_cases h4 : y % 400 = 0
        · have HL := Lib.hid (leap_true y1 y2 (.inl h4))
          rw [HL.out]
          have d4 : (y % 400 == 0) = true := by simpa using h4
          clear h4 h5 h6
          go_enter Tryd.func34, Tryd.ntmps34
          go_wp2_with fail
          refine (HY.out _).mono ?_
          rintro e w1 ⟨rfl, rfl⟩
          go_wp2_with fail
          go_ret
          exact ⟨rfl, rfl⟩
        · have HL := Lib.hid (leap_false (y := y) (by omega))
          rw [HL.out]
          have d4 : (y % 400 == 0) = false := by simpa using h4
          clear h4 h5 h6
          go_enter Tryd.func34, Tryd.ntmps34
          go_wp2_with fail
          refine (HY.out _).mono ?_
          rintro e w1 ⟨rfl, rfl⟩
          go_wp2_with fail
          go_ret
          exact ⟨rfl, rfl⟩
      · have HL := Lib.hid (leap_true y1 y2 (.inr ⟨h5, h6⟩))
        rw [HL.out]
        have d6 : (y % 100 != 0) = true := by simpa using h6
        clear h5 h6
        go_enter Tryd.func34, Tryd.ntmps34
        go_wp2_with fail
        refine (HY.out _).mono ?_
        rintro e w1 ⟨rfl, rfl⟩
        go_wp2_with fail
        go_ret
        exact ⟨rfl, rfl⟩
    · have HL := Lib.hid (leap_false (y := y) (by omega))
      rw [HL.out]
      have d5 : (y % 4 == 0) = false := by simpa using h5
      clear h5
      go_enter Tryd.func34, Tryd.ntmps34
      go_wp2_with fail
      refine (HY.out _).mono ?_
      rintro e w1 ⟨rfl, rfl⟩
      go_wp2_with fail
      go_ret
      exact ⟨rfl, rfl⟩

set_option maxHeartbeats 2000000 in
theorem clength_in (y m : Int) (b : Bool) (w : World) (g : LV w) (y1 : 1 ≤ y) (y2 : y ≤ 9999) (m1 : 1 ≤ m) (m2 : m ≤ 12) (hb : leapB y = b) : Calls Tryd.prog 26 #[.int .i64 y, .int .i64 m] w fun e w' => e = .returned (.int .i64 (lenI y m)) ∧ w = w' := by
  have HT := Lib.hid (lenI_tab y1 y2 m1 m2)
  have HB := Lib.hid hb
  have HY := Lib.hid (fun w => isYear_any y w)
  rw [show yearB y = true from decide_eq_true ⟨y1, y2⟩] at HY
  have HLP := Lib.hid (fun w => cleap_any y w)
  rw [hb] at HLP
  have hm : m = 1 ∨ m = 2 ∨ m = 3 ∨ m = 4 ∨ m = 5 ∨ m = 6 ∨ m = 7 ∨ m = 8 ∨ m = 9 ∨ m = 10 ∨ m = 11 ∨ m = 12 := by omega
  have G := Lib.hid g
  clear hb m1 m2 y1 y2 g
  rcases hm with rfl | rfl | rfl | rfl | rfl | rfl | rfl | rfl | rfl | rfl | rfl | rfl
  case inr.inl =>
    have hc : w.cell? ⟨0, 1, none⟩ = some (.int .i64 28) := G.out.c 1 (by decide)
    cases b
    · go_enter Tryd.func26, Tryd.ntmps26
      go_wp2_with fail
      refine (HY.out _).mono ?_
      rintro e w1 ⟨rfl, rfl⟩
      go_wp2_with fail
      refine (HLP.out _).mono ?_
      rintro e w1 ⟨rfl, rfl⟩
      go_wp2_with fail
      go_ret
      exact ⟨ret_int (by rw [HT.out, HB.out]; rfl), rfl⟩
    · go_enter Tryd.func26, Tryd.ntmps26
      go_wp2_with fail
      refine (HY.out _).mono ?_
      rintro e w1 ⟨rfl, rfl⟩
      go_wp2_with fail
      refine (HLP.out _).mono ?_
      rintro e w1 ⟨rfl, rfl⟩
      go_wp2_with fail
      go_ret
      exact ⟨ret_int (by rw [HT.out, HB.out]; rfl), rfl⟩
  case inl =>
    have hc : w.cell? ⟨0, 0, none⟩ = some (.int .i64 31) := G.out.c 0 (by decide)
    go_enter Tryd.func26, Tryd.ntmps26
    go_wp2_with fail
    refine (HY.out _).mono ?_
    rintro e w1 ⟨rfl, rfl⟩
    go_wp2_with fail
    go_ret
    exact ⟨ret_int (by rw [HT.out]; rfl), rfl⟩
  case inr.inr.inl =>
    have hc : w.cell? ⟨0, 2, none⟩ = some (.int .i64 31) := G.out.c 2 (by decide)
    go_enter Tryd.func26, Tryd.ntmps26
    go_wp2_with fail
    refine (HY.out _).mono ?_
    rintro e w1 ⟨rfl, rfl⟩
    go_wp2_with fail
    go_ret
    exact ⟨ret_int (by rw [HT.out]; rfl), rfl⟩
  case inr.inr.inr.inl =>
    have hc : w.cell? ⟨0, 3, none⟩ = some (.int .i64 30) := G.out.c 3 (by decide)
    go_enter Tryd.func26, Tryd.ntmps26
    go_wp2_with fail
    refine (HY.out _).mono ?_
    rintro e w1 ⟨rfl, rfl⟩
    go_wp2_with fail
    go_ret
    exact ⟨ret_int (by rw [HT.out]; rfl), rfl⟩
  case inr.inr.inr.inr.inl =>
    have hc : w.cell? ⟨0, 4, none⟩ = some (.int .i64 31) := G.out.c 4 (by decide)
    go_enter Tryd.func26, Tryd.ntmps26
    go_wp2_with fail
    refine (HY.out _).mono ?_
    rintro e w1 ⟨rfl, rfl⟩
    go_wp2_with fail
    go_ret
    exact ⟨ret_int (by rw [HT.out]; rfl), rfl⟩
  case inr.inr.inr.inr.inr.inl =>
    have hc : w.cell? ⟨0, 5, none⟩ = some (.int .i64 30) := G.out.c 5 (by decide)
    go_enter Tryd.func26, Tryd.ntmps26
    go_wp2_with fail
    refine (HY.out _).mono ?_
    rintro e w1 ⟨rfl, rfl⟩
    go_wp2_with fail
    go_ret
    exact ⟨ret_int (by rw [HT.out]; rfl), rfl⟩
  case inr.inr.inr.inr.inr.inr.inl =>
    have hc : w.cell? ⟨0, 6, none⟩ = some (.int .i64 31) := G.out.c 6 (by decide)
    go_enter Tryd.func26, Tryd.ntmps26
    go_wp2_with fail
    refine (HY.out _).mono ?_
    rintro e w1 ⟨rfl, rfl⟩
    go_wp2_with fail
    go_ret
    exact ⟨ret_int (by rw [HT.out]; rfl), rfl⟩
  case inr.inr.inr.inr.inr.inr.inr.inl =>
    have hc : w.cell? ⟨0, 7, none⟩ = some (.int .i64 31) := G.out.c 7 (by decide)
    go_enter Tryd.func26, Tryd.ntmps26
    go_wp2_with fail
    refine (HY.out _).mono ?_
    rintro e w1 ⟨rfl, rfl⟩
    go_wp2_with fail
    go_ret
    exact ⟨ret_int (by rw [HT.out]; rfl), rfl⟩
  case inr.inr.inr.inr.inr.inr.inr.inr.inl =>
    have hc : w.cell? ⟨0, 8, none⟩ = some (.int .i64 30) := G.out.c 8 (by decide)
    go_enter Tryd.func26, Tryd.ntmps26
    go_wp2_with fail
    refine (HY.out _).mono ?_
    rintro e w1 ⟨rfl, rfl⟩
    go_wp2_with fail
    go_ret
    exact ⟨ret_int (by rw [HT.out]; rfl), rfl⟩
  case inr.inr.inr.inr.inr.inr.inr.inr.inr.inl =>
    have hc : w.cell? ⟨0, 9, none⟩ = some (.int .i64 31) := G.out.c 9 (by decide)
    go_enter Tryd.func26, Tryd.ntmps26
    go_wp2_with fail
    refine (HY.out _).mono ?_
    rintro e w1 ⟨rfl, rfl⟩
    go_wp2_with fail
    go_ret
    exact ⟨ret_int (by rw [HT.out]; rfl), rfl⟩
  case inr.inr.inr.inr.inr.inr.inr.inr.inr.inr.inl =>
    have hc : w.cell? ⟨0, 10, none⟩ = some (.int .i64 30) := G.out.c 10 (by decide)
    go_enter Tryd.func26, Tryd.ntmps26
    go_wp2_with fail
    refine (HY.out _).mono ?_
    rintro e w1 ⟨rfl, rfl⟩
    go_wp2_with fail
    go_ret
    exact ⟨ret_int (by rw [HT.out]; rfl), rfl⟩
  case inr.inr.inr.inr.inr.inr.inr.inr.inr.inr.inr =>
    have hc : w.cell? ⟨0, 11, none⟩ = some (.int .i64 31) := G.out.c 11 (by decide)
    go_enter Tryd.func26, Tryd.ntmps26
    go_wp2_with fail
    refine (HY.out _).mono ?_
    rintro e w1 ⟨rfl, rfl⟩
    go_wp2_with fail
    go_ret
    exact ⟨ret_int (by rw [HT.out]; rfl), rfl⟩

set_option maxHeartbeats 2000000 in
theorem clength_out (y m : Int) (w : World) (h : ¬ (1 ≤ y ∧ y ≤ 9999 ∧ 1 ≤ m ∧ m ≤ 12)) : Calls Tryd.prog 26 #[.int .i64 y, .int .i64 m] w fun e w' => e = .returned (.int .i64 0) ∧ w = w' := by
  have HY := Lib.hid (fun w => isYear_any y w)
  cases hb : yearB y with
  | false =>
    rw [hb] at HY
    clear hb h
    go_enter Tryd.func26, Tryd.ntmps26
    go_wp2_with fail
    refine (HY.out _).mono ?_
    rintro e w1 ⟨rfl, rfl⟩
    go_wp2_with fail
    go_ret
    exact ⟨rfl, rfl⟩
  | true =>
    obtain ⟨y1, y2⟩ := of_decide_eq_true hb
    rw [hb] at HY
    by_cases h1 : m < 1
    · clear hb h
      have d1 : decide (m < 1) = true := decide_eq_true h1
      clear h1
      go_enter Tryd.func26, Tryd.ntmps26
      go_wp2_with fail
      refine (HY.out _).mono ?_
      rintro e w1 ⟨rfl, rfl⟩
      go_wp2_with fail
      go_ret
      exact ⟨rfl, rfl⟩
    · have d1 : decide (m < 1) = false := decide_eq_false h1
      have d2 : decide (m > 12) = true := decide_eq_true (by omega)
      clear hb h h1
      go_enter Tryd.func26, Tryd.ntmps26
      go_wp2_with fail
      refine (HY.out _).mono ?_
      rintro e w1 ⟨rfl, rfl⟩
      go_wp2_with fail
      go_ret
      exact ⟨rfl, rfl⟩
theorem clength_any (y m : Int) (w : World) (g : LV w) : Calls Tryd.prog 26 #[.int .i64 y, .int .i64 m] w fun e w' => e = .returned (.int .i64 (lenI y m)) ∧ w = w' := by
  by_cases h : 1 ≤ y ∧ y ≤ 9999 ∧ 1 ≤ m ∧ m ≤ 12
  · exact clength_in y m (leapB y) w g h.1 h.2.1 h.2.2.1 h.2.2.2 rfl
  · rw [lenI_out h]; exact clength_out y m w h

set_option maxHeartbeats 1000000 in
theorem ahead_any (y : Int) (w : World) (y1 : 1 ≤ y) (y2 : y ≤ 10000) : Calls Tryd.prog 25 #[.int .i64 y] w fun e w' => e = .returned (.int .i64 (dby (y.toNat - 1))) ∧ w = w' := by
  obtain ⟨k, hk⟩ : ∃ k : Int, k = y - 1 := ⟨_, rfl⟩
  have HD := Lib.hid (show dby (y.toNat - 1) = 365 * k + k / 4 - k / 100 + k / 400 by rw [dby_eq (y.toNat - 1) (by omega)]; omega)
  rw [HD.out]
  have k1 : 0 ≤ k := by omega
  have k2 : k ≤ 9999 := by omega
  obtain rfl : y = k + 1 := by omega
  clear HD hk y1 y2
  go_enter Tryd.func25, Tryd.ntmps25
  go_wp2_with fail
  go_ret
  exact ⟨ret_int (by omega), rfl⟩
end Go.Proofs.YtmdmhookhkhdoaaDoor

/- Package months: Between. -/
import Derived.Test.YtkfhcfigkdcocaaDoorMo2
namespace Go.Proofs.YtkfhcfigkdcocaaDoor
set_option maxRecDepth 8000
open Go.RowKit Corr
set_option linter.unusedVariables false
set_option maxHeartbeats 4000000 in
/-- Between, where the first day is not behind the second one. -/
theorem pbetween_up (a b y m d z k e' : Int) (w : World) (g : LV w) (h : dateOf a y m d) (h' : dateOf b z k e') (hab : a ≤ b) (r : Int)
    (hr : (if b < (monV (12 * z + (k - 1)) d).1 then 12 * z + (k - 1) - (12 * y + (m - 1)) - 1 else 12 * z + (k - 1) - (12 * y + (m - 1))) = r) :
    Calls Tryd.prog 16 #[.int .i64 a, .int .i64 b] w fun e w' => e = .returned (.tuple #[.int .i64 r, .int .i64 0]) ∧ Below w.heap.size w w' := by
  obtain ⟨y1, y2, m1, m2⟩ := lenI_pos (show 1 ≤ lenI y m by have := h.1; have := h.2.1; omega)
  obtain ⟨z1, z2, k1, k2⟩ := lenI_pos (show 1 ≤ lenI z k by have := h'.1; have := h'.2.1; omega)
  have d1 := h.1
  have d2 : d ≤ 31 := by have := h.2.1; have := lenI_bd y m; omega
  obtain ⟨M, hM⟩ : ∃ M, 12 * y + (m - 1) = M + 12 := ⟨12 * y + (m - 1) - 12, by omega⟩
  obtain ⟨L, hL⟩ : ∃ L, 12 * z + (k - 1) = L + 12 := ⟨12 * z + (k - 1) - 12, by omega⟩
  have HO := Lib.hid (fun w g => over_ok a y m d w g h M hM)
  have HO2 := Lib.hid (fun w g => over_ok b z k e' w g h' L hL)
  have hv := monV_in (T := L + 12) (d := d) (by omega) (by omega)
  obtain ⟨x, hx⟩ : ∃ x, (monV (L + 12) d).1 = x := ⟨_, rfl⟩
  have hp : monV (M + 12 + (L - M)) d = (x, true) := by rw [show M + 12 + (L - M) = L + 12 by omega]; exact Prod.ext hx hv
  have HP := Lib.hid (fun p w g B => put_any p M d (L - M) d x true w g B (by omega) (by omega) d1 d2 hp)
  have HX := Lib.hid (show -10000000 ≤ x ∧ x ≤ 10000000 by
    have := date_in (monV_date hv d1)
    rw [hx] at this; omega)
  have hx1 := HX.out.1
  have hx2 := HX.out.2
  rw [hM, hL, hx] at hr
  have hr2 : (if b < x then L - M - 1 else L - M) = r := by rw [← hr]; split <;> omega
  have G := Lib.hid g
  have hM1 : 0 ≤ M := by omega
  have hM2 : M ≤ 119987 := by omega
  have hL1 : 0 ≤ L := by omega
  have hL2 : L ≤ 119987 := by omega
  have t0 : decide (b < a) = false := decide_eq_false (by omega)
  have HB := Lib.hid hr2
  clear h h' hab hr hr2 hM hL g hx hv hp
  clear y1 y2 m1 m2 z1 z2 k1 k2
  go_enter Tryd.func16, Tryd.ntmps16
  go_wp2_with fail
  refine (HO.out _ G.out).mono ?_
  rintro e w1 ⟨rfl, S1⟩
  have S2 := S1.push #[.int .i64 M, .int .i64 d] 36
  go_wp2_with fail
  refine (HO2.out _ (G.out.keep S2.bl)).mono ?_
  rintro e w2 ⟨rfl, S3⟩
  have S4 := (S2.keep S3.bl).push #[.int .i64 L, .int .i64 e'] 36
  have c1 := S4.c 1 0 rfl rfl
  have c2 := S4.c 1 1 rfl rfl
  have c3 := S4.c 2 0 rfl rfl
  go_wp2_with fail
  refine (HP.out _ _ (G.out.keep S4.bl) (S4.b 0 rfl)).mono ?_
  rintro e w3 ⟨rfl, b3⟩
  by_cases hlt : b < x
  · have HF := Lib.hid (show L - M - 1 = r by have := HB.out; rw [if_pos hlt] at this; exact this)
    have t4 : decide (x > b) = true := decide_eq_true hlt
    clear HB
    go_wp2_with fail
    go_ret2
    exact ⟨ret_ii HF.out rfl, (S4.keep b3).bl⟩
  · have HF := Lib.hid (show L - M = r by have := HB.out; rw [if_neg hlt] at this; exact this)
    have t4 : decide (x > b) = false := decide_eq_false hlt
    clear HB
    go_wp2_with fail
    go_ret2
    exact ⟨ret_ii HF.out rfl, (S4.keep b3).bl⟩
end Go.Proofs.YtkfhcfigkdcocaaDoor

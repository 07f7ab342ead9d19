/- Package months: Between. -/
import Derived.Test.YtkfhcfigkdcocaaDoorMo2
namespace Go.Proofs.YtkfhcfigkdcocaaDoor
set_option maxRecDepth 8000
open Go.RowKit Corr
set_option linter.unusedVariables false
set_option maxHeartbeats 4000000 in
/-- Between, where the first day is not behind the second one. -/
theorem pbetween_up (a b y m d z k e' : Int) (w : World) (g : LV w) (h : dateOf a y m d) (h' : dateOf b z k e') (hab : a ≤ b) (r : Int)
    (hr : (if b < (monV (12 * z + (k - 1)) d).1 then 12 * z + (k - 1) - (12 * y + (m - 1)) - 1 else 12 * z + (k - 1) - (12 * y + (m - 1))) = r) :
    Calls Tryd.prog 16 #[.int .i64 a, .int .i64 b] w fun e w' => e = .returned (.tuple #[.int .i64 r, .int .i64 0]) ∧ Below w.heap.size w w' := by
  obtain ⟨y1, y2, m1, m2⟩ := lenI_pos (show 1 ≤ lenI y m by have := h.1; have := h.2.1; omega)
  obtain ⟨z1, z2, k1, k2⟩ := lenI_pos (show 1 ≤ lenI z k by have := h'.1; have := h'.2.1; omega)
  have d1 := h.1
  have d2 : d ≤ 31 := by have := h.2.1; have := lenI_bd y m; omega
  obtain ⟨M, hM⟩ : ∃ M, 12 * y + (m - 1) = M + 12 := ⟨12 * y + (m - 1) - 12, by omega⟩
  obtain ⟨L, hL⟩ : ∃ L, 12 * z + (k - 1) = L + 12 := ⟨12 * z + (k - 1) - 12, by omega⟩
  have HO := Lib.hid (fun w g => over_ok a y m d w g h M hM)
  have HO2 := Lib.hid (fun w g => over_ok b z k e' w g h' L hL)
  have hv := monV_in (T := L + 12) (d := d) (by omega) (by omega)
  obtain ⟨x, hx⟩ : ∃ x, (monV (L + 12) d).1 = x := ⟨_, rfl⟩
  have hp : monV (M + 12 + (L - M)) d = (x, true) := by rw [show M + 12 + (L - M) = L + 12 by omega]; exact Prod.ext hx hv
  have HP := Lib.hid (fun p w g B => put_any p M d (L - M) d x true w g B (by omega) (by omega) d1 d2 hp)
  have HX := Lib.hid (show -10000000 ≤ x ∧ x ≤ 10000000 by
    have := date_in (monV_date hv d1)
    rw [hx] at this; omega)
  have hx1 := HX.out.1
  have hx2 := HX.out.2
  rw [hM, hL, hx] at hr
  have hr2 : (if b < x then L - M - 1 else L - M) = r := by rw [← hr]; split <;> omega
  have G := Lib.hid g
  have hM1 : 0 ≤ M := by omega
  have hM2 : M ≤ 119987 := by omega
  have hL1 : 0 ≤ L := by omega
  have hL2 : L ≤ 119987 := by omega
  have t0 : decide (b < a) = false := decide_eq_false (by omega)
  have HB := Lib.hid hr2
  clear h h' hab hr hr2 hM hL g hx hv hp
  clear y1 y2 m1 m2 z1 z2 k1 k2
  go_enter Tryd.func16, Tryd.ntmps16
  go_wp2_with fail
  refine (HO.out _ G.out).mono ?_
  rintro e w1 ⟨rfl, S1⟩
  have S2 := S1.push #[.int .i64 M, .int .i64 d] 36
  go_wp2_with fail
  refine (HO2.out _ (G.out.keep S2.bl)).mono ?_
  rintro e w2 ⟨rfl, S3⟩
  have S4 := (S2.keep S3.bl).push #[.int .i64 L, .int .i64 e'] 36
  have c1 := S4.c 1 0 rfl rfl
  have c2 := S4.c 1 1 rfl rfl
  have c3 := S4.c 2 0 rfl rfl
  go_wp2_with fail
  refine (HP.out _ _ (G.out.keep S4.bl) (S4.b 0 rfl)).mono ?_
  rintro e w3 ⟨rfl, b3⟩
  by_cases hlt : b < x
  · have HF := Lib.hid (show L - M - 1 = r by have := HB.out; rw [if_pos hlt] at this; exact this)
    have t4 : decide (x > b) = true := decide_eq_true hlt
    clear HB
    go_wp2_with fail
    go_ret2
    exact ⟨ret_ii HF.out rfl, (S4.keep b3).bl⟩
  · have HF := Lib.hid (show L - M = r by have := HB.out; rw [if_neg hlt] at this; exact this)
    have t4 : decide (x > b) = false := decide_eq_false hlt
    clear HB
    go_wp2_with fail
    go_ret2
    exact ⟨ret_ii HF.out rfl, (S4.keep b3).bl⟩
/-- .. and where it is. -/
theorem pbetween_turn (a b r q : Int) (w : World) (hab : b < a) (r1 : -10000000 ≤ r) (r2 : r ≤ 10000000) (HR : Hid (∀ w', w' = w → Calls Tryd.prog 16 #[.int .i64 b, .int .i64 a] w' fun e w' => e = .returned (.tuple #[.int .i64 r, .int .i64 q]) ∧ Below w.heap.size w w')) :
    Calls Tryd.prog 16 #[.int .i64 a, .int .i64 b] w fun e w' => e = .returned (.tuple #[.int .i64 (-r), .int .i64 q]) ∧ Below w.heap.size w w' := by
  go_enter Tryd.func16, Tryd.ntmps16
  go_wp2_with fail
  refine (HR.out _ rfl).mono ?_
  rintro e w1 ⟨rfl, b1⟩
  go_wp2_with fail
  go_ret2
  exact ⟨rfl, b1⟩
set_option maxHeartbeats 2000000 in
theorem pbetween_no_up (a b : Int) (w : World) (g : LV w) (hab : a ≤ b) (h : (a < 1 ∨ 3652059 < a) ∨ (b < 1 ∨ 3652059 < b)) :
    Calls Tryd.prog 16 #[.int .i64 a, .int .i64 b] w fun e w' => e = .returned (.tuple #[.int .i64 0, .int .i64 15]) ∧ Below w.heap.size w w' := by
  have t0 : decide (b < a) = false := decide_eq_false (by omega)
  by_cases ha : a < 1 ∨ 3652059 < a
  · have HO := Lib.hid (fun w => over_no a w ha)
    clear h ha hab
    go_enter Tryd.func16, Tryd.ntmps16
    go_wp2_with fail
    refine (HO.out _).mono ?_
    rintro e w1 ⟨rfl, b1⟩
    go_wp2_with fail
    go_ret2
    exact ⟨rfl, b1.alloc b1.size _⟩
  · have hb : b < 1 ∨ 3652059 < b := by omega
    have HA := Lib.hid (show 1 ≤ a ∧ a ≤ 3652059 by omega)
    have HO2 := Lib.hid (fun w => over_no b w hb)
    have HO := Lib.hid (fun w g y m d (h : dateOf a y m d) => over_ok a y m d w g h (12 * y + (m - 1) - 12) (by omega))
    have G := Lib.hid g
    obtain ⟨y, m, d, hd⟩ := date_is HA.out.1 HA.out.2
    clear h ha hab hb HA g
    have HO1 := Lib.hid (fun w g => HO.out w g y m d hd)
    generalize 12 * y + (m - 1) - 12 = M at HO1
    clear HO hd
    go_enter Tryd.func16, Tryd.ntmps16
    go_wp2_with fail
    refine (HO1.out _ G.out).mono ?_
    rintro e w1 ⟨rfl, S1⟩
    have S2 := S1.push #[.int .i64 M, .int .i64 d] 36
    go_wp2_with fail
    refine (HO2.out _).mono ?_
    rintro e w2 ⟨rfl, b2⟩
    go_wp2_with fail
    go_ret2
    exact ⟨rfl, ((S2.keep b2).alloc _).bl⟩
theorem pbetween_no (a b : Int) (w : World) (g : LV w) (h : (a < 1 ∨ 3652059 < a) ∨ (b < 1 ∨ 3652059 < b)) :
    Calls Tryd.prog 16 #[.int .i64 a, .int .i64 b] w fun e w' => e = .returned (.tuple #[.int .i64 0, .int .i64 15]) ∧ Below w.heap.size w w' := by
  by_cases hab : b < a
  · exact pbetween_turn a b 0 15 w hab (by omega) (by omega) (Lib.hid (fun w' e => by subst e; exact pbetween_no_up b a w' g (by omega) (by omega)))
  · exact pbetween_no_up a b w g (by omega) h
/-- Between is the document's, of days. -/
theorem pbetween_one (a b y m d z k e' : Int) (w : World) (g : LV w) (h : dateOf a y m d) (h' : dateOf b z k e') :
    ∃ r : Int, (Calls Tryd.prog 16 #[.int .i64 a, .int .i64 b] w fun e w' => e = .returned (.tuple #[.int .i64 r, .int .i64 0]) ∧ Below w.heap.size w w') ∧
      ∀ w', Calls Tryd.prog 18 #[.int .i64 a, .int .i64 b] w' fun e w'' => e = .returned (.int .i64 r) ∧ w' = w'' := by
  obtain ⟨y1, y2, m1, m2⟩ := lenI_pos (show 1 ≤ lenI y m by have := h.1; have := h.2.1; omega)
  obtain ⟨z1, z2, k1, k2⟩ := lenI_pos (show 1 ≤ lenI z k by have := h'.1; have := h'.2.1; omega)
  by_cases hab : b < a
  · obtain ⟨N, hN⟩ : ∃ N : Nat, (N : Int) = (if (y - z) * 12 + m - k + 1 < 0 then 0 else (y - z) * 12 + m - k + 1) := ⟨(if (y - z) * 12 + m - k + 1 < 0 then 0 else (y - z) * 12 + m - k + 1).toNat, by split <;> omega⟩
    refine ⟨-(lastN (12 * z + (k - 1)) e' a N : Int), ?_, fun w' => mbetween_down a b z k e' y m d w' h h' hab N hN⟩
    have hl := lastN_is h' h (by omega) N hN
    exact pbetween_turn a b _ 0 w hab (by rw [hl]; split <;> omega) (by rw [hl]; split <;> omega) (Lib.hid (fun w' e => by subst e; exact pbetween_up b a z k e' y m d w' g h' h (by omega) _ hl.symm))
  · obtain ⟨N, hN⟩ : ∃ N : Nat, (N : Int) = (if (z - y) * 12 + k - m + 1 < 0 then 0 else (z - y) * 12 + k - m + 1) := ⟨(if (z - y) * 12 + k - m + 1 < 0 then 0 else (z - y) * 12 + k - m + 1).toNat, by split <;> omega⟩
    exact ⟨_, pbetween_up a b y m d z k e' w g h h' (by omega) _ (lastN_is h h' (by omega) N hN).symm, fun w' => mbetween_up a b y m d z k e' w' h h' (by omega) N hN⟩
end Go.Proofs.YtkfhcfigkdcocaaDoor

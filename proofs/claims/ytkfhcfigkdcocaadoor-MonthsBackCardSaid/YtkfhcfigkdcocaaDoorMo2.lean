/- Package months: Add, Years, Begin, End. -/
import Derived.Test.YtkfhcfigkdcocaaDoorMo1
namespace Go.Proofs.YtkfhcfigkdcocaaDoor
set_option maxRecDepth 8000
open Go.RowKit Corr
set_option linter.unusedVariables false
set_option maxHeartbeats 2000000 in
theorem padd_no (n k : Int) (w : World) (h : n < 1 ∨ 3652059 < n) :
    Calls Tryd.prog 6 #[.int .i64 n, .int .i64 k] w fun e w' => e = .returned (.tuple #[.int .i64 0, .int .i64 15]) ∧ Below w.heap.size w w' := by
  have HO := Lib.hid (fun w => over_no n w h)
  clear h
  go_enter Tryd.func6, Tryd.ntmps6
  go_wp2_with fail
  refine (HO.out _).mono ?_
  rintro e w1 ⟨rfl, b1⟩
  go_wp2_with fail
  go_ret2
  exact ⟨rfl, b1.alloc b1.size _⟩
set_option maxHeartbeats 4000000 in
theorem padd_in (n k y m d r : Int) (ok : Bool) (w : World) (g : LV w) (h : dateOf n y m d) (hr : monV (12 * y + (m - 1) + k) d = (r, ok)) :
    Calls Tryd.prog 6 #[.int .i64 n, .int .i64 k] w fun e w' => e = .returned (.tuple #[.int .i64 r, .int .i64 (erV ok)]) ∧ Below w.heap.size w w' := by
  obtain ⟨y1, y2, m1, m2⟩ := lenI_pos (show 1 ≤ lenI y m by have := h.1; have := h.2.1; omega)
  have d1 := h.1
  have d2 : d ≤ 31 := by have := h.2.1; have := lenI_bd y m; omega
  obtain ⟨M, hM⟩ : ∃ M, 12 * y + (m - 1) = M + 12 := ⟨12 * y + (m - 1) - 12, by omega⟩
  have HO := Lib.hid (fun w g => over_ok n y m d w g h M hM)
  have G := Lib.hid g
  have HP := Lib.hid (fun a w g B => put_any a M d k d r ok w g B (by omega) (by omega) d1 d2 (by rw [← hM]; exact hr))
  clear h hr hM g
  obtain ⟨q, hq⟩ : ∃ q, erV ok = q := ⟨_, rfl⟩
  rw [hq] at HP ⊢
  clear hq
  go_enter Tryd.func6, Tryd.ntmps6
  go_wp2_with fail
  refine (HO.out _ G.out).mono ?_
  rintro e w1 ⟨rfl, S1⟩
  go_wp2_with fail
  have S2 := S1.alloc (.cells #[.int .i64 M, .int .i64 d] 36)
  refine (HP.out _ _ (G.out.keep S2.bl) (S2.b 0 rfl)).mono ?_
  rintro e w2 ⟨rfl, b2⟩
  go_wp2_with fail
  go_ret2
  exact ⟨rfl, (S2.keep b2).bl⟩
set_option maxHeartbeats 2000000 in
theorem pyears_far (n k : Int) (w : World) (h : k ≤ -9999 ∨ 9999 ≤ k) :
    Calls Tryd.prog 7 #[.int .i64 n, .int .i64 k] w fun e w' => e = .returned (.tuple #[.int .i64 0, .int .i64 15]) ∧ Below w.heap.size w w' := by
  by_cases hk : k ≤ -9999
  · clear h
    go_enter Tryd.func7, Tryd.ntmps7
    go_wp2_with fail
    go_ret2
    exact ⟨rfl, Below.refl _ _⟩
  · have t1 : decide (k ≤ -9999) = false := decide_eq_false hk
    have t2 : decide (k ≥ 9999) = true := decide_eq_true (by omega)
    clear h hk
    go_enter Tryd.func7, Tryd.ntmps7
    go_wp2_with fail
    go_ret2
    exact ⟨rfl, Below.refl _ _⟩
set_option maxHeartbeats 2000000 in
theorem pyears_at (n k r q : Int) (w : World) (h1 : -9999 < k) (h2 : k < 9999) (HA : Hid (∀ w', w' = w → Calls Tryd.prog 6 #[.int .i64 n, .int .i64 (k * 12)] w' fun e w' => e = .returned (.tuple #[.int .i64 r, .int .i64 q]) ∧ Below w.heap.size w w')) :
    Calls Tryd.prog 7 #[.int .i64 n, .int .i64 k] w fun e w' => e = .returned (.tuple #[.int .i64 r, .int .i64 q]) ∧ Below w.heap.size w w' := by
  have t1 : decide (k ≤ -9999) = false := decide_eq_false (by omega)
  have t2 : decide (k ≥ 9999) = false := decide_eq_false (by omega)
  go_enter Tryd.func7, Tryd.ntmps7
  go_wp2_with fail
  refine (HA.out _ rfl).mono ?_
  rintro e w1 ⟨rfl, b1⟩
  go_wp2_with fail
  go_ret2
  exact ⟨rfl, b1⟩
theorem pyears_in (n k y m d r : Int) (ok : Bool) (w : World) (g : LV w) (h : dateOf n y m d) (hr : monV (12 * y + (m - 1) + 12 * k) d = (r, ok)) :
    Calls Tryd.prog 7 #[.int .i64 n, .int .i64 k] w fun e w' => e = .returned (.tuple #[.int .i64 r, .int .i64 (erV ok)]) ∧ Below w.heap.size w w' := by
  obtain ⟨y1, y2, m1, m2⟩ := lenI_pos (show 1 ≤ lenI y m by have := h.1; have := h.2.1; omega)
  by_cases hk : k ≤ -9999 ∨ 9999 ≤ k
  · rw [monV_out (by omega)] at hr
    obtain ⟨rfl, rfl⟩ := Prod.mk.inj hr
    exact pyears_far n k w hk
  · exact pyears_at n k r (erV ok) w (by omega) (by omega) (Lib.hid (fun w' e => by subst e; exact padd_in n (k * 12) y m d r ok w' g h (by rw [Int.mul_comm k 12]; exact hr)))
set_option maxHeartbeats 4000000 in
theorem pbegin_in (n y m d r : Int) (w : World) (g : LV w) (h : dateOf n y m d) (hr : monV (12 * y + (m - 1)) 1 = (r, true)) :
    Calls Tryd.prog 8 #[.int .i64 n] w fun e w' => e = .returned (.tuple #[.int .i64 r, .int .i64 0]) ∧ Below w.heap.size w w' := by
  obtain ⟨y1, y2, m1, m2⟩ := lenI_pos (show 1 ≤ lenI y m by have := h.1; have := h.2.1; omega)
  obtain ⟨M, hM⟩ : ∃ M, 12 * y + (m - 1) = M + 12 := ⟨12 * y + (m - 1) - 12, by omega⟩
  have HO := Lib.hid (fun w g => over_ok n y m d w g h M hM)
  have G := Lib.hid g
  have HP := Lib.hid (fun a w g B => put_any a M d 0 1 r true w g B (by omega) (by omega) (by omega) (by omega) (by rw [Int.add_zero, ← hM]; exact hr))
  clear h hr hM g
  go_enter Tryd.func8, Tryd.ntmps8
  go_wp2_with fail
  refine (HO.out _ G.out).mono ?_
  rintro e w1 ⟨rfl, S1⟩
  go_wp2_with fail
  have S2 := S1.alloc (.cells #[.int .i64 M, .int .i64 d] 36)
  refine (HP.out _ _ (G.out.keep S2.bl) (S2.b 0 rfl)).mono ?_
  rintro e w2 ⟨rfl, b2⟩
  go_wp2_with fail
  go_ret2
  exact ⟨rfl, (S2.keep b2).bl⟩
set_option maxHeartbeats 4000000 in
theorem pend_in (n y m d r : Int) (w : World) (g : LV w) (h : dateOf n y m d) (hr : monV (12 * y + (m - 1)) 31 = (r, true)) :
    Calls Tryd.prog 9 #[.int .i64 n] w fun e w' => e = .returned (.tuple #[.int .i64 r, .int .i64 0]) ∧ Below w.heap.size w w' := by
  obtain ⟨y1, y2, m1, m2⟩ := lenI_pos (show 1 ≤ lenI y m by have := h.1; have := h.2.1; omega)
  obtain ⟨M, hM⟩ : ∃ M, 12 * y + (m - 1) = M + 12 := ⟨12 * y + (m - 1) - 12, by omega⟩
  have HO := Lib.hid (fun w g => over_ok n y m d w g h M hM)
  have G := Lib.hid g
  have HP := Lib.hid (fun a w g B => put_any a M d 0 31 r true w g B (by omega) (by omega) (by omega) (by omega) (by rw [Int.add_zero, ← hM]; exact hr))
  clear h hr hM g
  go_enter Tryd.func9, Tryd.ntmps9
  go_wp2_with fail
  refine (HO.out _ G.out).mono ?_
  rintro e w1 ⟨rfl, S1⟩
  go_wp2_with fail
  have S2 := S1.alloc (.cells #[.int .i64 M, .int .i64 d] 36)
  refine (HP.out _ _ (G.out.keep S2.bl) (S2.b 0 rfl)).mono ?_
  rintro e w2 ⟨rfl, b2⟩
  go_wp2_with fail
  go_ret2
  exact ⟨rfl, (S2.keep b2).bl⟩
end Go.Proofs.YtkfhcfigkdcocaaDoor

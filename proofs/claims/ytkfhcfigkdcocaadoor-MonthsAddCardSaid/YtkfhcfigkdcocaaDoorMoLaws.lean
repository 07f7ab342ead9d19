/- The laws of package months at every input, in every world where civil's table is whole. -/
import Derived.Test.YtkfhcfigkdcocaaDoorMo3
namespace Go.Proofs.YtkfhcfigkdcocaaDoor
set_option maxRecDepth 8000
open Go.RowKit Corr
set_option linter.unusedVariables false
theorem told_yes (r : Int) (ok : Bool) (w : World) (h : ok = false → r = 0) :
    Calls Tryd.prog 14 #[.int .i64 r, .int .i64 (erV ok), .int .i64 r, .bool ok] w fun e w' => e = .returned (.bool true) ∧ w = w' := by
  cases ok with
  | false =>
    obtain rfl := h rfl
    clear h
    show Calls _ _ #[_, .int .i64 15, _, _] _ _
    go_enter Tryd.func14, Tryd.ntmps14
    go_wp2_with fail
    go_ret
    exact ⟨rfl, rfl⟩
  | true =>
    clear h
    show Calls _ _ #[_, .int .i64 0, _, _] _ _
    go_enter Tryd.func14, Tryd.ntmps14
    go_wp2_with fail
    go_ret
    exact ⟨rfl, rfl⟩
theorem lday_at {y m d n : Int} (w : World) (h : dateOf n y m d) : Calls Tryd.prog 22 #[.int .i64 y, .int .i64 m, .int .i64 d] w fun e w' => e = .returned (.int .i64 n) ∧ w = w' := by
  have HD := Lib.hid (day_ok y m d w h.1 h.2.1)
  rw [h.2.2] at HD
  clear h
  go_enter Tryd.func22, Tryd.ntmps22
  go_wp2_with fail
  refine HD.out.mono ?_
  rintro e w1 ⟨rfl, rfl⟩
  go_wp2_with fail
  go_ret
  exact ⟨rfl, rfl⟩
set_option maxHeartbeats 4000000 in
theorem known_any (w : World) (g : LV w) : Calls Tryd.prog 15 #[] w fun e w' => e = .returned (.bool true) ∧ Below w.heap.size w w' := by
  obtain ⟨n1, h1⟩ : ∃ n, dateOf n 2024 1 31 := ⟨_, by decide, by decide, rfl⟩
  obtain ⟨n2, h2⟩ : ∃ n, dateOf n 2024 2 29 := ⟨_, by decide, by decide, rfl⟩
  obtain ⟨n3, h3⟩ : ∃ n, dateOf n 2023 11 30 := ⟨_, by decide, by decide, rfl⟩
  obtain ⟨n4, h4⟩ : ∃ n, dateOf n 2025 2 28 := ⟨_, by decide, by decide, rfl⟩
  have L1 := Lib.hid (fun w => lday_at w h1)
  have L2 := Lib.hid (fun w => lday_at w h2)
  have L3 := Lib.hid (fun w => lday_at w h3)
  have L4 := Lib.hid (fun w => lday_at w h4)
  have A1 := Lib.hid (fun w g => padd_in n1 1 2024 1 31 n2 true w g h1 (mon_at (y := 2024) (m := 2) (d' := 29) (by decide) (by decide) h2))
  have A2 := Lib.hid (fun w g => padd_in n1 (-2) 2024 1 31 n3 true w g h1 (mon_at (y := 2023) (m := 11) (d' := 30) (by decide) (by decide) h3))
  have A3 := Lib.hid (fun w g => pyears_in n2 1 2024 2 29 n4 true w g h2 (mon_at (y := 2025) (m := 2) (d' := 28) (by decide) (by decide) h4))
  have hm : monV (12 * 2024 + (2 - 1)) 31 = (n2, true) := mon_at (y := 2024) (m := 2) (d' := 29) (by decide) (by decide) h2
  have A4 := Lib.hid (fun w g => pbetween_up n1 n2 2024 1 31 2024 2 29 w g h1 h2 (by have := date_lt h1 h2 (by decide); omega) 1 (by rw [hm]; simp))
  have G := Lib.hid g
  clear h1 h2 h3 h4 hm g
  go_enter Tryd.func15, Tryd.ntmps15
  go_wp2_with fail
  refine (L1.out _).mono ?_
  rintro e w1 ⟨rfl, rfl⟩
  go_wp2_with fail
  refine (A1.out _ G.out).mono ?_
  rintro e w1 ⟨rfl, b1⟩
  go_wp2_with fail
  refine (L1.out _).mono ?_
  rintro e w' ⟨rfl, rfl⟩
  go_wp2_with fail
  refine (A2.out _ (G.out.keep b1)).mono ?_
  rintro e w2 ⟨rfl, b2⟩
  have b2 := b1.trans (b2.mono b1.size)
  go_wp2_with fail
  refine (L2.out _).mono ?_
  rintro e w' ⟨rfl, rfl⟩
  go_wp2_with fail
  refine (A3.out _ (G.out.keep b2)).mono ?_
  rintro e w3 ⟨rfl, b3⟩
  have b3 := b2.trans (b3.mono b2.size)
  go_wp2_with fail
  refine (L1.out _).mono ?_
  rintro e w' ⟨rfl, rfl⟩
  go_wp2_with fail
  refine (L2.out _).mono ?_
  rintro e w' ⟨rfl, rfl⟩
  go_wp2_with fail
  refine (A4.out _ (G.out.keep b3)).mono ?_
  rintro e w4 ⟨rfl, b4⟩
  have b4 := b3.trans (b4.mono b3.size)
  go_wp2_with fail
  refine (L2.out _).mono ?_
  rintro e w' ⟨rfl, rfl⟩
  go_wp2_with fail
  refine (L3.out _).mono ?_
  rintro e w' ⟨rfl, rfl⟩
  go_wp2_with fail
  refine (L4.out _).mono ?_
  rintro e w' ⟨rfl, rfl⟩
  go_wp2_with fail
  go_ret
  exact ⟨rfl, b4⟩
/-- Two functions that tell the same: the program's, and the document's. -/
def One (f h : FuncId) (args : Array Value) (r : Int) (ok : Bool) : Prop :=
  (∀ w, LV w → Calls Tryd.prog f args w fun e w' => e = .returned (.tuple #[.int .i64 r, .int .i64 (erV ok)]) ∧ Below w.heap.size w w') ∧
  (∀ w, Calls Tryd.prog h args w fun e w' => e = .returned (.tuple #[.int .i64 r, .bool ok]) ∧ w = w') ∧ (ok = false → r = 0)
theorem day_or (n : Int) : (n < 1 ∨ 3652059 < n) ∨ ∃ y m d, dateOf n y m d := by
  by_cases h : n < 1 ∨ 3652059 < n
  · exact .inl h
  · exact .inr (date_is (by omega) (by omega))
theorem one_add (d n : Int) : ∃ r ok, One 6 10 #[.int .i64 d, .int .i64 n] r ok := by
  rcases day_or d with h | ⟨y, m, k, h⟩
  · exact ⟨0, false, fun w g => padd_no d n w h, fun w => madd_none d n w (.inl h), fun _ => rfl⟩
  · obtain ⟨y1, y2, m1, m2⟩ := lenI_pos (show 1 ≤ lenI y m by have := h.1; have := h.2.1; omega)
    by_cases hn : n < -130000 ∨ 130000 < n
    · exact ⟨0, false, fun w g => padd_in d n y m k 0 false w g h (monV_out (by omega)), fun w => madd_none d n w (.inr hn), fun _ => rfl⟩
    · refine ⟨(monV (12 * y + (m - 1) + n) k).1, (monV (12 * y + (m - 1) + n) k).2, fun w g => padd_in d n y m k _ _ w g h rfl, fun w => madd_in d n y m k w h (by omega) (by omega), fun e => monV_none (Prod.ext rfl e)⟩
theorem one_years (d n : Int) : ∃ r ok, One 7 11 #[.int .i64 d, .int .i64 n] r ok := by
  rcases day_or d with h | ⟨y, m, k, h⟩
  · exact ⟨0, false, fun w g => pyears_no d n w h, fun w => myears_none d n w (.inl h), fun _ => rfl⟩
  · obtain ⟨y1, y2, m1, m2⟩ := lenI_pos (show 1 ≤ lenI y m by have := h.1; have := h.2.1; omega)
    by_cases hn : n < -10000 ∨ 10000 < n
    · exact ⟨0, false, fun w g => pyears_in d n y m k 0 false w g h (monV_out (by omega)), fun w => myears_none d n w (.inr hn), fun _ => rfl⟩
    · refine ⟨(monV (12 * y + (m - 1) + 12 * n) k).1, (monV (12 * y + (m - 1) + 12 * n) k).2, fun w g => pyears_in d n y m k _ _ w g h rfl, fun w => myears_in d n y m k w h (by omega) (by omega), fun e => monV_none (Prod.ext rfl e)⟩
theorem begin_date {n y m d : Int} (h : dateOf n y m d) : dateOf (n - d + 1) y m 1 := ⟨by omega, by have := h.1; have := h.2.1; omega, by have := h.2.2; omega⟩
theorem end_date {n y m d : Int} (h : dateOf n y m d) : dateOf (n - d + lenI y m) y m (lenI y m) := ⟨by have := h.1; have := h.2.1; omega, by omega, by have := h.2.2; omega⟩
theorem begin_mon {n y m d : Int} (h : dateOf n y m d) : monV (12 * y + (m - 1)) 1 = (n - d + 1, true) :=
  mon_at rfl (if_neg (by have := h.1; have := h.2.1; omega)) (begin_date h)
theorem end_mon {n y m d : Int} (h : dateOf n y m d) : monV (12 * y + (m - 1)) 31 = (n - d + lenI y m, true) :=
  mon_at rfl (by have := lenI_bd y m; split <;> omega) (end_date h)
theorem one_begin (d : Int) : ∃ r ok, One 8 12 #[.int .i64 d] r ok := by
  rcases day_or d with h | ⟨y, m, k, h⟩
  · exact ⟨0, false, fun w g => pbegin_no d w h, fun w => mbegin_no d w h, fun _ => rfl⟩
  · exact ⟨_, true, fun w g => pbegin_in d y m k _ w g h (begin_mon h), fun w => mbegin_in d y m k w h, fun e => by cases e⟩
theorem one_end (d : Int) : ∃ r ok, One 9 13 #[.int .i64 d] r ok := by
  rcases day_or d with h | ⟨y, m, k, h⟩
  · exact ⟨0, false, fun w g => pend_no d w h, fun w => mend_no d w h, fun _ => rfl⟩
  · exact ⟨_, true, fun w g => pend_in d y m k _ w g h (end_mon h), fun w => mend_in d y m k w h, fun e => by cases e⟩

set_option maxHeartbeats 4000000 in
theorem add_any (d n : Int) (w : World) (g : LV w) : Calls Tryd.prog 3 #[.int .i64 d, .int .i64 n] w fun e w' => e = .returned (.bool true) ∧ Below w.heap.size w w' := by
  have HK := Lib.hid known_any
  obtain ⟨r1, o1, p1, q1, z1⟩ := one_add d n
  obtain ⟨r2, o2, p2, q2, z2⟩ := one_years d n
  obtain ⟨r3, o3, p3, q3, z3⟩ := one_begin d
  obtain ⟨r4, o4, p4, q4, z4⟩ := one_end d
  have T1 := Lib.hid (fun w => told_yes r1 o1 w z1)
  have T2 := Lib.hid (fun w => told_yes r2 o2 w z2)
  have T3 := Lib.hid (fun w => told_yes r3 o3 w z3)
  have T4 := Lib.hid (fun w => told_yes r4 o4 w z4)
  obtain ⟨s1, hs1⟩ : ∃ s, erV o1 = s := ⟨_, rfl⟩
  obtain ⟨s2, hs2⟩ : ∃ s, erV o2 = s := ⟨_, rfl⟩
  obtain ⟨s3, hs3⟩ : ∃ s, erV o3 = s := ⟨_, rfl⟩
  obtain ⟨s4, hs4⟩ : ∃ s, erV o4 = s := ⟨_, rfl⟩
  rw [hs1] at p1 T1
  rw [hs2] at p2 T2
  rw [hs3] at p3 T3
  rw [hs4] at p4 T4
  have P1 := Lib.hid p1
  have P2 := Lib.hid p2
  have P3 := Lib.hid p3
  have P4 := Lib.hid p4
  have Q1 := Lib.hid q1
  have Q2 := Lib.hid q2
  have Q3 := Lib.hid q3
  have Q4 := Lib.hid q4
  have G := Lib.hid g
  clear p1 p2 p3 p4 q1 q2 q3 q4 z1 z2 z3 z4 hs1 hs2 hs3 hs4 g
  go_enter Tryd.func3, Tryd.ntmps3
  go_wp2_with fail
  refine (P1.out _ G.out).mono ?_
  rintro e w1 ⟨rfl, b1⟩
  go_wp2_with fail
  refine (P2.out _ (G.out.keep b1)).mono ?_
  rintro e w2 ⟨rfl, b2⟩
  have b2 := b1.trans (b2.mono b1.size)
  go_wp2_with fail
  refine (P3.out _ (G.out.keep b2)).mono ?_
  rintro e w3 ⟨rfl, b3⟩
  have b3 := b2.trans (b3.mono b2.size)
  go_wp2_with fail
  refine (P4.out _ (G.out.keep b3)).mono ?_
  rintro e w4 ⟨rfl, b4⟩
  have b4 := b3.trans (b4.mono b3.size)
  go_wp2_with fail
  refine (Q1.out _).mono ?_
  rintro e w' ⟨rfl, rfl⟩
  go_wp2_with fail
  refine (Q2.out _).mono ?_
  rintro e w' ⟨rfl, rfl⟩
  go_wp2_with fail
  refine (Q3.out _).mono ?_
  rintro e w' ⟨rfl, rfl⟩
  go_wp2_with fail
  refine (Q4.out _).mono ?_
  rintro e w' ⟨rfl, rfl⟩
  go_wp2_with fail
  refine (T1.out _).mono ?_
  rintro e w' ⟨rfl, rfl⟩
  go_wp2_with fail
  refine (T2.out _).mono ?_
  rintro e w' ⟨rfl, rfl⟩
  go_wp2_with fail
  refine (T3.out _).mono ?_
  rintro e w' ⟨rfl, rfl⟩
  go_wp2_with fail
  refine (T4.out _).mono ?_
  rintro e w' ⟨rfl, rfl⟩
  go_wp2_with fail
  refine (HK.out _ (G.out.keep b4)).mono ?_
  rintro e w5 ⟨rfl, b5⟩
  have b5 := b4.trans (b5.mono b4.size)
  go_wp2_with fail
  go_ret
  exact ⟨rfl, b5⟩

end Go.Proofs.YtkfhcfigkdcocaaDoor

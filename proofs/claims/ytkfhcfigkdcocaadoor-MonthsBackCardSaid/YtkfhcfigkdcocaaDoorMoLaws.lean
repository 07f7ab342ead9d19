/- The laws of package months at every input, in every world where civil's table is whole. -/
import Derived.Test.YtkfhcfigkdcocaaDoorMo3
namespace Go.Proofs.YtkfhcfigkdcocaaDoor
set_option maxRecDepth 8000
open Go.RowKit Corr
set_option linter.unusedVariables false
theorem lday_at {y m d n : Int} (w : World) (h : dateOf n y m d) : Calls Tryd.prog 22 #[.int .i64 y, .int .i64 m, .int .i64 d] w fun e w' => e = .returned (.int .i64 n) ∧ w = w' := by
  have HD := Lib.hid (day_ok y m d w h.1 h.2.1)
  rw [h.2.2] at HD
  clear h
  go_enter Tryd.func22, Tryd.ntmps22
  go_wp2_with fail
  refine HD.out.mono ?_
  rintro e w1 ⟨rfl, rfl⟩
  go_wp2_with fail
  go_ret
  exact ⟨rfl, rfl⟩
set_option maxHeartbeats 4000000 in
theorem known_any (w : World) (g : LV w) : Calls Tryd.prog 15 #[] w fun e w' => e = .returned (.bool true) ∧ Below w.heap.size w w' := by
  obtain ⟨n1, h1⟩ : ∃ n, dateOf n 2024 1 31 := ⟨_, by decide, by decide, rfl⟩
  obtain ⟨n2, h2⟩ : ∃ n, dateOf n 2024 2 29 := ⟨_, by decide, by decide, rfl⟩
  obtain ⟨n3, h3⟩ : ∃ n, dateOf n 2023 11 30 := ⟨_, by decide, by decide, rfl⟩
  obtain ⟨n4, h4⟩ : ∃ n, dateOf n 2025 2 28 := ⟨_, by decide, by decide, rfl⟩
  have L1 := Lib.hid (fun w => lday_at w h1)
  have L2 := Lib.hid (fun w => lday_at w h2)
  have L3 := Lib.hid (fun w => lday_at w h3)
  have L4 := Lib.hid (fun w => lday_at w h4)
  have A1 := Lib.hid (fun w g => padd_in n1 1 2024 1 31 n2 true w g h1 (mon_at (y := 2024) (m := 2) (d' := 29) (by decide) (by decide) h2))
  have A2 := Lib.hid (fun w g => padd_in n1 (-2) 2024 1 31 n3 true w g h1 (mon_at (y := 2023) (m := 11) (d' := 30) (by decide) (by decide) h3))
  have A3 := Lib.hid (fun w g => pyears_in n2 1 2024 2 29 n4 true w g h2 (mon_at (y := 2025) (m := 2) (d' := 28) (by decide) (by decide) h4))
  have hm : monV (12 * 2024 + (2 - 1)) 31 = (n2, true) := mon_at (y := 2024) (m := 2) (d' := 29) (by decide) (by decide) h2
  have A4 := Lib.hid (fun w g => pbetween_up n1 n2 2024 1 31 2024 2 29 w g h1 h2 (by have := date_lt h1 h2 (by decide); omega) 1 (by rw [hm]; simp))
  have G := Lib.hid g
  clear h1 h2 h3 h4 hm g
  go_enter Tryd.func15, Tryd.ntmps15
  go_wp2_with fail
  refine (L1.out _).mono ?_
  rintro e w1 ⟨rfl, rfl⟩
  go_wp2_with fail
  refine (A1.out _ G.out).mono ?_
  rintro e w1 ⟨rfl, b1⟩
  go_wp2_with fail
  refine (L1.out _).mono ?_
  rintro e w' ⟨rfl, rfl⟩
  go_wp2_with fail
  refine (A2.out _ (G.out.keep b1)).mono ?_
  rintro e w2 ⟨rfl, b2⟩
  have b2 := b1.trans (b2.mono b1.size)
  go_wp2_with fail
  refine (L2.out _).mono ?_
  rintro e w' ⟨rfl, rfl⟩
  go_wp2_with fail
  refine (A3.out _ (G.out.keep b2)).mono ?_
  rintro e w3 ⟨rfl, b3⟩
  have b3 := b2.trans (b3.mono b2.size)
  go_wp2_with fail
  refine (L1.out _).mono ?_
  rintro e w' ⟨rfl, rfl⟩
  go_wp2_with fail
  refine (L2.out _).mono ?_
  rintro e w' ⟨rfl, rfl⟩
  go_wp2_with fail
  refine (A4.out _ (G.out.keep b3)).mono ?_
  rintro e w4 ⟨rfl, b4⟩
  have b4 := b3.trans (b4.mono b3.size)
  go_wp2_with fail
  refine (L2.out _).mono ?_
  rintro e w' ⟨rfl, rfl⟩
  go_wp2_with fail
  refine (L3.out _).mono ?_
  rintro e w' ⟨rfl, rfl⟩
  go_wp2_with fail
  refine (L4.out _).mono ?_
  rintro e w' ⟨rfl, rfl⟩
  go_wp2_with fail
  go_ret
  exact ⟨rfl, b4⟩
theorem day_or (n : Int) : (n < 1 ∨ 3652059 < n) ∨ ∃ y m d, dateOf n y m d := by
  by_cases h : n < 1 ∨ 3652059 < n
  · exact .inl h
  · exact .inr (date_is (by omega) (by omega))
theorem begin_date {n y m d : Int} (h : dateOf n y m d) : dateOf (n - d + 1) y m 1 := ⟨by omega, by have := h.1; have := h.2.1; omega, by have := h.2.2; omega⟩
theorem end_date {n y m d : Int} (h : dateOf n y m d) : dateOf (n - d + lenI y m) y m (lenI y m) := ⟨by have := h.1; have := h.2.1; omega, by omega, by have := h.2.2; omega⟩
theorem begin_mon {n y m d : Int} (h : dateOf n y m d) : monV (12 * y + (m - 1)) 1 = (n - d + 1, true) :=
  mon_at rfl (if_neg (by have := h.1; have := h.2.1; omega)) (begin_date h)
theorem end_mon {n y m d : Int} (h : dateOf n y m d) : monV (12 * y + (m - 1)) 31 = (n - d + lenI y m, true) :=
  mon_at rfl (by have := lenI_bd y m; split <;> omega) (end_date h)
end Go.Proofs.YtkfhcfigkdcocaaDoor

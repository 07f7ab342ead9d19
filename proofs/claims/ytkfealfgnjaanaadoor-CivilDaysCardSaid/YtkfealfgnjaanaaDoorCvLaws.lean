/- The laws of package civil at every input, in every world where the table of lengths is whole. -/
import Derived.Test.YtkfealfgnjaanaaDoorCv2
namespace Corr
set_option maxRecDepth 8000
open Go Go.RowKit
end Corr
namespace Go.Proofs.YtkfealfgnjaanaaDoor
set_option maxRecDepth 8000
open Go.RowKit Corr
set_option linter.unusedVariables false
theorem cday_at {y m d k : Int} (w : World) (g : LV w) (h1 : 1 ≤ d) (h2 : d ≤ lenI y m) (h : dby (y.toNat - 1) + cumI y (m.toNat - 1) + d = k) : Calls Tryd.prog 6 #[.int .i64 y, .int .i64 m, .int .i64 d] w fun e w' => e = .returned (.tuple #[.int .i64 k, .int .i64 0]) ∧ w = w' := by
  rw [← h]; exact cday_ok y m d w g h1 h2
theorem known_any (w : World) (g : LV w) : Calls Tryd.prog 12 #[] w fun e w' => e = .returned (.bool true) ∧ w = w' := by
  have K1 := Lib.hid (cday_at (y := 1) (m := 12) (d := 31) (k := 365) w g (by decide) (by decide) (by decide))
  have K2 := Lib.hid (cday_at (y := 4) (m := 12) (d := 31) (k := 1461) w g (by decide) (by decide) (by decide))
  have K3 := Lib.hid (cday_at (y := 2000) (m := 2) (d := 29) (k := 730179) w g (by decide) (by decide) (by show dby 1999 + cumI 2000 1 + 29 = _; rw [dby_eq 1999 (by omega)]; decide))
  have K4 := Lib.hid (cday_at (y := 9999) (m := 12) (d := 31) (k := 3652059) w g (by decide) (by decide) (by show dby 9998 + cumI 9999 11 + 31 = _; rw [dby_eq 9998 (by omega)]; decide))
  have K5 := Lib.hid (cday_no 1900 2 29 w g (.inr (by decide)))
  clear g
  go_enter Tryd.func12, Tryd.ntmps12
  go_wp2_with fail
  refine K1.out.mono ?_
  rintro e w1 ⟨rfl, rfl⟩
  go_wp2_with fail
  refine K2.out.mono ?_
  rintro e w1 ⟨rfl, rfl⟩
  go_wp2_with fail
  refine K3.out.mono ?_
  rintro e w1 ⟨rfl, rfl⟩
  go_wp2_with fail
  refine K4.out.mono ?_
  rintro e w1 ⟨rfl, rfl⟩
  go_wp2_with fail
  refine K5.out.mono ?_
  rintro e w1 ⟨rfl, rfl⟩
  go_wp2_with fail
  go_ret
  exact ⟨rfl, rfl⟩

set_option maxHeartbeats 2000000 in
theorem days_any (y m d : Int) (w : World) (g : LV w) : Calls Tryd.prog 3 #[.int .i64 y, .int .i64 m, .int .i64 d] w fun e w' => e = .returned (.bool true) ∧ Below w.heap.size w w' := by
  have HK := Lib.hid (known_any w g)
  have L1 := Lib.hid (cleap_any y w)
  have L2 := Lib.hid (leap_any y w)
  have N1 := Lib.hid (clength_any y m w g)
  have N2 := Lib.hid (length_any y m w)
  by_cases h : 1 ≤ d ∧ d ≤ lenI y m
  · have D1 := Lib.hid (cday_ok y m d w g h.1 h.2)
    have D2 := Lib.hid (day_ok y m d w h.1 h.2)
    generalize dby (y.toNat - 1) + cumI y (m.toNat - 1) + d = n at D1 D2
    clear h g
    generalize lenI y m = l at N1 N2
    generalize leapB y = b at L1 L2
    go_enter Tryd.func3, Tryd.ntmps3
    go_wp2_with fail
    refine D1.out.mono ?_
    rintro e w1 ⟨rfl, rfl⟩
    go_wp2_with fail
    refine D2.out.mono ?_
    rintro e w1 ⟨rfl, rfl⟩
    go_wp2_with fail
    refine L1.out.mono ?_
    rintro e w1 ⟨rfl, rfl⟩
    go_wp2_with fail
    refine L2.out.mono ?_
    rintro e w1 ⟨rfl, rfl⟩
    go_wp2_with fail
    refine N1.out.mono ?_
    rintro e w1 ⟨rfl, rfl⟩
    go_wp2_with fail
    refine N2.out.mono ?_
    rintro e w1 ⟨rfl, rfl⟩
    go_wp2_with fail
    refine HK.out.mono ?_
    rintro e w1 ⟨rfl, rfl⟩
    go_wp2_with fail
    go_ret
    exact ⟨rfl, Below.refl _ _⟩
  · have D1 := Lib.hid (cday_no y m d w g (by omega))
    have D2 := Lib.hid (day_no y m d w (by omega))
    clear h g
    generalize lenI y m = l at N1 N2
    generalize leapB y = b at L1 L2
    go_enter Tryd.func3, Tryd.ntmps3
    go_wp2_with fail
    refine D1.out.mono ?_
    rintro e w1 ⟨rfl, rfl⟩
    go_wp2_with fail
    refine D2.out.mono ?_
    rintro e w1 ⟨rfl, rfl⟩
    go_wp2_with fail
    refine L1.out.mono ?_
    rintro e w1 ⟨rfl, rfl⟩
    go_wp2_with fail
    refine L2.out.mono ?_
    rintro e w1 ⟨rfl, rfl⟩
    go_wp2_with fail
    refine N1.out.mono ?_
    rintro e w1 ⟨rfl, rfl⟩
    go_wp2_with fail
    refine N2.out.mono ?_
    rintro e w1 ⟨rfl, rfl⟩
    go_wp2_with fail
    refine HK.out.mono ?_
    rintro e w1 ⟨rfl, rfl⟩
    go_wp2_with fail
    go_ret
    exact ⟨rfl, Below.refl _ _⟩

end Go.Proofs.YtkfealfgnjaanaaDoor

/- The laws of package civil at every input, in every world where the table of lengths is whole. -/
import Derived.Test.YtkfealfgnjaanaaDoorCv2
namespace Corr
set_option maxRecDepth 8000
open Go Go.RowKit
end Corr
namespace Go.Proofs.YtkfealfgnjaanaaDoor
set_option maxRecDepth 8000
open Go.RowKit Corr
set_option linter.unusedVariables false
theorem cday_at {y m d k : Int} (w : World) (g : LV w) (h1 : 1 ≤ d) (h2 : d ≤ lenI y m) (h : dby (y.toNat - 1) + cumI y (m.toNat - 1) + d = k) : Calls Tryd.prog 6 #[.int .i64 y, .int .i64 m, .int .i64 d] w fun e w' => e = .returned (.tuple #[.int .i64 k, .int .i64 0]) ∧ w = w' := by
  rw [← h]; exact cday_ok y m d w g h1 h2
theorem known_any (w : World) (g : LV w) : Calls Tryd.prog 12 #[] w fun e w' => e = .returned (.bool true) ∧ w = w' := by
  have K1 := Lib.hid (cday_at (y := 1) (m := 12) (d := 31) (k := 365) w g (by decide) (by decide) (by decide))
  have K2 := Lib.hid (cday_at (y := 4) (m := 12) (d := 31) (k := 1461) w g (by decide) (by decide) (by decide))
  have K3 := Lib.hid (cday_at (y := 2000) (m := 2) (d := 29) (k := 730179) w g (by decide) (by decide) (by show dby 1999 + cumI 2000 1 + 29 = _; rw [dby_eq 1999 (by omega)]; decide))
  have K4 := Lib.hid (cday_at (y := 9999) (m := 12) (d := 31) (k := 3652059) w g (by decide) (by decide) (by show dby 9998 + cumI 9999 11 + 31 = _; rw [dby_eq 9998 (by omega)]; decide))
  have K5 := Lib.hid (cday_no 1900 2 29 w g (.inr (by decide)))
  clear g
  go_enter Tryd.func12, Tryd.ntmps12
  go_wp2_with fail
  refine K1.out.mono ?_
  rintro e w1 ⟨rfl, rfl⟩
  go_wp2_with fail
  refine K2.out.mono ?_
  rintro e w1 ⟨rfl, rfl⟩
  go_wp2_with fail
  refine K3.out.mono ?_
  rintro e w1 ⟨rfl, rfl⟩
  go_wp2_with fail
  refine K4.out.mono ?_
  rintro e w1 ⟨rfl, rfl⟩
  go_wp2_with fail
  refine K5.out.mono ?_
  rintro e w1 ⟨rfl, rfl⟩
  go_wp2_with fail
  go_ret
  exact ⟨rfl, rfl⟩

set_option maxHeartbeats 2000000 in
theorem dates_any (n : Int) (w : World) (g : LV w) : Calls Tryd.prog 4 #[.int .i64 n] w fun e w' => e = .returned (.bool true) ∧ Below w.heap.size w w' := by
  have HK := Lib.hid (known_any w g)
  by_cases h : 1 ≤ n ∧ n ≤ 3652059
  · have D1 := Lib.hid (cdate_ok n w g h.1 h.2)
    have D2 := Lib.hid (date_ok n w h.1 h.2)
    have G := Lib.hid g
    clear h g
    go_enter Tryd.func4, Tryd.ntmps4
    go_wp2_with fail
    refine D1.out.mono ?_
    rintro e w1 ⟨y, m, d, rfl, h1, rfl⟩
    have H1 := Lib.hid h1
    clear h1
    go_wp2_with fail
    refine D2.out.mono ?_
    rintro e w1 ⟨y', m', d', rfl, h2, rfl⟩
    obtain ⟨rfl, rfl, rfl⟩ := date_one H1.out h2
    have D3 := Lib.hid (cday_at w G.out h2.1 h2.2.1 h2.2.2)
    clear h2
    go_wp2_with fail
    refine D3.out.mono ?_
    rintro e w1 ⟨rfl, rfl⟩
    go_wp2_with fail
    refine HK.out.mono ?_
    rintro e w1 ⟨rfl, rfl⟩
    go_wp2_with fail
    go_ret
    exact ⟨rfl, Below.refl _ _⟩
  · have D1 := Lib.hid (cdate_no n w (by omega))
    have D2 := Lib.hid (date_no n w (by omega))
    clear h g
    go_enter Tryd.func4, Tryd.ntmps4
    go_wp2_with fail
    refine D1.out.mono ?_
    rintro e w1 ⟨rfl, rfl⟩
    go_wp2_with fail
    refine D2.out.mono ?_
    rintro e w1 ⟨rfl, rfl⟩
    go_wp2_with fail
    refine HK.out.mono ?_
    rintro e w1 ⟨rfl, rfl⟩
    go_wp2_with fail
    go_ret
    exact ⟨rfl, Below.refl _ _⟩

end Go.Proofs.YtkfealfgnjaanaaDoor

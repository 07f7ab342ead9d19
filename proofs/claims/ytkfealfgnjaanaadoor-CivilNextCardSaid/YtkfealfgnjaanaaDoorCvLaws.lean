/- The laws of package civil at every input, in every world where the table of lengths is whole. -/
import Derived.Test.YtkfealfgnjaanaaDoorCv2
namespace Corr
set_option maxRecDepth 8000
open Go Go.RowKit
theorem year_last {n y d : Int} (h : dateOf n y 12 d) (hd : d = lenI y 12) (hn : n < 3652059) : y < 9999 := by
  obtain ⟨y1, y2, _, _⟩ := lenI_pos (show 1 ≤ lenI y 12 by have := h.1; omega)
  rcases Int.lt_or_le y 9999 with h1 | h1
  · exact h1
  · obtain rfl : y = 9999 := by omega
    have h3 := h.2.2
    rw [hd] at h3
    have h4 : dby ((9999 : Int).toNat - 1) + cumI 9999 ((12 : Int).toNat - 1) + lenI 9999 12 = 3652059 := by
      have := dby_eq 9998 (by omega)
      show dby 9998 + cumI 9999 11 + lenI 9999 12 = _
      rw [this]; decide
    omega
end Corr
namespace Go.Proofs.YtkfealfgnjaanaaDoor
set_option maxRecDepth 8000
open Go.RowKit Corr
set_option linter.unusedVariables false
theorem cday_at {y m d k : Int} (w : World) (g : LV w) (h1 : 1 ≤ d) (h2 : d ≤ lenI y m) (h : dby (y.toNat - 1) + cumI y (m.toNat - 1) + d = k) : Calls Tryd.prog 6 #[.int .i64 y, .int .i64 m, .int .i64 d] w fun e w' => e = .returned (.tuple #[.int .i64 k, .int .i64 0]) ∧ w = w' := by
  rw [← h]; exact cday_ok y m d w g h1 h2
theorem known_any (w : World) (g : LV w) : Calls Tryd.prog 12 #[] w fun e w' => e = .returned (.bool true) ∧ w = w' := by
  have K1 := Lib.hid (cday_at (y := 1) (m := 12) (d := 31) (k := 365) w g (by decide) (by decide) (by decide))
  have K2 := Lib.hid (cday_at (y := 4) (m := 12) (d := 31) (k := 1461) w g (by decide) (by decide) (by decide))
  have K3 := Lib.hid (cday_at (y := 2000) (m := 2) (d := 29) (k := 730179) w g (by decide) (by decide) (by show dby 1999 + cumI 2000 1 + 29 = _; rw [dby_eq 1999 (by omega)]; decide))
  have K4 := Lib.hid (cday_at (y := 9999) (m := 12) (d := 31) (k := 3652059) w g (by decide) (by decide) (by show dby 9998 + cumI 9999 11 + 31 = _; rw [dby_eq 9998 (by omega)]; decide))
  have K5 := Lib.hid (cday_no 1900 2 29 w g (.inr (by decide)))
  clear g
  go_enter Tryd.func12, Tryd.ntmps12
  go_wp2_with fail
  refine K1.out.mono ?_
  rintro e w1 ⟨rfl, rfl⟩
  go_wp2_with fail
  refine K2.out.mono ?_
  rintro e w1 ⟨rfl, rfl⟩
  go_wp2_with fail
  refine K3.out.mono ?_
  rintro e w1 ⟨rfl, rfl⟩
  go_wp2_with fail
  refine K4.out.mono ?_
  rintro e w1 ⟨rfl, rfl⟩
  go_wp2_with fail
  refine K5.out.mono ?_
  rintro e w1 ⟨rfl, rfl⟩
  go_wp2_with fail
  go_ret
  exact ⟨rfl, rfl⟩

set_option maxHeartbeats 4000000 in
theorem next_in (n : Int) (w : World) (g : LV w) (h1 : 1 ≤ n) (h2 : n ≤ 3652058) : Calls Tryd.prog 5 #[.int .i64 n] w fun e w' => e = .returned (.bool true) ∧ Below w.heap.size w w' := by
  have HK := Lib.hid (known_any w g)
  have D1 := Lib.hid (cdate_ok n w g (by omega) (by omega))
  have D2 := Lib.hid (cdate_ok (n + 1) w g (by omega) (by omega))
  have G := Lib.hid g
  clear g
  go_enter Tryd.func5, Tryd.ntmps5
  go_wp2_with fail
  refine D1.out.mono ?_
  rintro e w1 ⟨y, m, d, rfl, h3, rfl⟩
  have H1 := Lib.hid h3
  clear h3
  go_wp2_with fail
  refine D2.out.mono ?_
  rintro e w1 ⟨a, b, c, rfl, h4, rfl⟩
  obtain ⟨hn1, hn2, hn3⟩ := date_next H1.out
  obtain ⟨p1, p2, p3⟩ := H1.out
  obtain ⟨y1, y2, m1, m2⟩ := lenI_pos (show 1 ≤ lenI y m by omega)
  have hl := lenI_bd y m
  have HL := Lib.hid (clength_any y m w G.out)
  clear p3
  by_cases q1 : d < lenI y m
  · obtain ⟨rfl, rfl, rfl⟩ := date_one (hn1 q1) h4
    clear hn1 hn2 hn3 h4
    generalize lenI _ _ = l at HL q1 hl p2
    go_wp2_with fail
    refine HL.out.mono ?_
    rintro e w1 ⟨rfl, rfl⟩
    go_wp2_with fail
    refine HK.out.mono ?_
    rintro e w1 ⟨rfl, rfl⟩
    go_wp2_with fail
    go_ret
    exact ⟨rfl, Below.refl _ _⟩
  · have q2 : d = lenI y m := by omega
    by_cases q3 : m < 12
    · obtain ⟨rfl, rfl, rfl⟩ := date_one (hn2 q2 q3) h4
      clear hn1 hn2 hn3 h4 q2
      generalize lenI _ _ = l at HL q1 hl p2
      have d1 : decide (d < l) = false := decide_eq_false q1
      clear q1
      go_wp2_with fail
      refine HL.out.mono ?_
      rintro e w1 ⟨rfl, rfl⟩
      go_wp2_with fail
      refine HK.out.mono ?_
      rintro e w1 ⟨rfl, rfl⟩
      go_wp2_with fail
      go_ret
      exact ⟨rfl, Below.refl _ _⟩
    · obtain rfl : m = 12 := by omega
      obtain ⟨rfl, rfl, rfl⟩ := date_one (hn3 q2 rfl (year_last H1.out q2 (by omega))) h4
      clear hn1 hn2 hn3 h4 q2 q3
      generalize lenI _ _ = l at HL q1 hl p2
      have d1 : decide (d < l) = false := decide_eq_false q1
      clear q1
      go_wp2_with fail
      refine HL.out.mono ?_
      rintro e w1 ⟨rfl, rfl⟩
      go_wp2_with fail
      refine HK.out.mono ?_
      rintro e w1 ⟨rfl, rfl⟩
      go_wp2_with fail
      go_ret
      exact ⟨rfl, Below.refl _ _⟩

set_option maxHeartbeats 4000000 in
theorem next_any (n : Int) (w : World) (g : LV w) (b1 : -9223372036854775808 ≤ n) (b2 : n ≤ 9223372036854775807) : Calls Tryd.prog 5 #[.int .i64 n] w fun e w' => e = .returned (.bool true) ∧ Below w.heap.size w w' := by
  have HK := Lib.hid (known_any w g)
  by_cases h1 : 1 ≤ n
  · by_cases h2 : n ≤ 3652058
    · exact next_in n w g h1 h2
    · by_cases h3 : n = 3652059
      · have D1 := Lib.hid (cdate_ok n w g (by omega) (by omega))
        have D2 := Lib.hid (cdate_no (n + 1) w (by omega))
        have d1 : decide (n < 1) = false := decide_eq_false (by omega)
        have d2 : decide (n ≥ 3652059) = true := decide_eq_true (by omega)
        have b3 : n ≤ 4000000 := by omega
        clear g h2 h3 b2
        go_enter Tryd.func5, Tryd.ntmps5
        go_wp2_with fail
        refine D1.out.mono ?_
        rintro e w1 ⟨y, m, d, rfl, h3, rfl⟩
        clear h3
        go_wp2_with fail
        refine D2.out.mono ?_
        rintro e w1 ⟨rfl, rfl⟩
        go_wp2_with fail
        refine HK.out.mono ?_
        rintro e w1 ⟨rfl, rfl⟩
        go_wp2_with fail
        go_ret
        exact ⟨rfl, Below.refl _ _⟩
      · have D1 := Lib.hid (cdate_no n w (by omega))
        have d1 : decide (n < 1) = false := decide_eq_false (by omega)
        have d2 : decide (n ≥ 3652059) = true := decide_eq_true (by omega)
        by_cases h4 : n = 9223372036854775807
        · obtain ⟨q, hq⟩ : ∃ q, IntKind.i64.wrap (n + 1) = q := ⟨_, rfl⟩
          have D2 := Lib.hid (cdate_no q w (by rw [← hq, h4]; exact .inl (by decide)))
          clear h4 b1 b2
          clear g h1 h2 h3
          go_enter Tryd.func5, Tryd.ntmps5
          go_wp2_with fail
          refine D1.out.mono ?_
          rintro e w1 ⟨rfl, rfl⟩
          go_wp2_with fail
          refine D2.out.mono ?_
          rintro e w1 ⟨rfl, rfl⟩
          go_wp2_with fail
          refine HK.out.mono ?_
          rintro e w1 ⟨rfl, rfl⟩
          go_wp2_with fail
          go_ret
          exact ⟨rfl, Below.refl _ _⟩
        · have D2 := Lib.hid (cdate_no (n + 1) w (by omega))
          have b3 : n ≤ 9223372036854775806 := by omega
          clear g h2 h3 h4 b2
          go_enter Tryd.func5, Tryd.ntmps5
          go_wp2_with fail
          refine D1.out.mono ?_
          rintro e w1 ⟨rfl, rfl⟩
          go_wp2_with fail
          refine D2.out.mono ?_
          rintro e w1 ⟨rfl, rfl⟩
          go_wp2_with fail
          refine HK.out.mono ?_
          rintro e w1 ⟨rfl, rfl⟩
          go_wp2_with fail
          go_ret
          exact ⟨rfl, Below.refl _ _⟩
  · have D1 := Lib.hid (cdate_no n w (by omega))
    have d1 : decide (n < 1) = true := decide_eq_true (by omega)
    by_cases h0 : n = 0
    · subst h0
      have D2 := Lib.hid (cdate_ok 1 w g (by omega) (by omega))
      clear g h1
      go_enter Tryd.func5, Tryd.ntmps5
      go_wp2_with fail
      refine D1.out.mono ?_
      rintro e w1 ⟨rfl, rfl⟩
      go_wp2_with fail
      refine D2.out.mono ?_
      rintro e w1 ⟨y, m, d, rfl, h3, rfl⟩
      clear h3
      go_wp2_with fail
      refine HK.out.mono ?_
      rintro e w1 ⟨rfl, rfl⟩
      go_wp2_with fail
      go_ret
      exact ⟨rfl, Below.refl _ _⟩
    · have D2 := Lib.hid (cdate_no (n + 1) w (by omega))
      have b3 : n ≤ -1 := by omega
      clear g h1 h0 b2
      go_enter Tryd.func5, Tryd.ntmps5
      go_wp2_with fail
      refine D1.out.mono ?_
      rintro e w1 ⟨rfl, rfl⟩
      go_wp2_with fail
      refine D2.out.mono ?_
      rintro e w1 ⟨rfl, rfl⟩
      go_wp2_with fail
      refine HK.out.mono ?_
      rintro e w1 ⟨rfl, rfl⟩
      go_wp2_with fail
      go_ret
      exact ⟨rfl, Below.refl _ _⟩
end Go.Proofs.YtkfealfgnjaanaaDoor

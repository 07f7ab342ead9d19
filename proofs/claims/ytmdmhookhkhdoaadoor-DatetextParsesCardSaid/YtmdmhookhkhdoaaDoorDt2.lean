/- Contracts of corrodyref06: Text, Parse. -/
import Derived.Test.YtmdmhookhkhdoaaDoorDt1
import Derived.Test.YtmdmhookhkhdoaaDoorDtMath
import Derived.BigQuiet
namespace Corr
set_option maxRecDepth 8000
open Go Go.RowKit Go.PlainAid
/-- The string of some bytes. -/
abbrev mkS (l : List UInt8) : ByteArray := ⟨l.toArray⟩
theorem bt_get {s : ByteArray} {k : Nat} (h : k < s.size) (c : UInt8) : s.data.toList[k]? = some c ↔ bt s k = (c.toNat : Int) := by
  obtain ⟨b, hb, hbt⟩ := bt_at h
  rw [hb, ← hbt]
  constructor
  · intro e; rw [Option.some.inj e]
  · intro e; rw [UInt8.toNat_inj.1 (show b.toNat = c.toNat by omega)]
theorem numB_neg {l : List UInt8} : numB l < 0 ↔ allD l = false := by
  unfold numB
  cases h : allD l <;> simp <;> omega
theorem numB_val {l : List UInt8} (h : allD l = true) : numB l = (dval l : Int) := by unfold numB; rw [if_pos h]
end Corr
namespace Go.Proofs.YtmdmhookhkhdoaaDoor
set_option maxRecDepth 8000
open Go.RowKit Go.PlainAid Corr
set_option linter.unusedVariables false
set_option linter.unusedSimpArgs false
set_option maxHeartbeats 4000000 in
theorem dparse_any (s : ByteArray) (w : World) (hs : s.size ≤ 100) : Calls Tryd.prog 13 #[.string s] w fun e w' => e = .returned (.tuple #[.int .i64 (pdN s.data.toList), .int .i64 (pdE s.data.toList)]) ∧ Below w.heap.size w w' := by
  have hb := get_bt s
  have hsl := size_len s
  by_cases h1 : s.size = 10
  · by_cases h2 : bt s 4 = 45
    · by_cases h3 : bt s 7 = 45
      · have e1 : (s.extract 0 4).data.toList = s.data.toList.take 4 := by rw [Lib.extract_data]; simp
        have e2 : (s.extract 5 7).data.toList = (s.data.toList.drop 5).take 2 := by rw [Lib.extract_data]
        have e3 : (s.extract 8 10).data.toList = s.data.toList.drop 8 := by rw [Lib.extract_data, List.take_of_length_le (by rw [List.length_drop, hsl]; omega)]
        have H1 := Lib.hid (fun w => number_any (s.extract 0 4) w (by rw [ByteArray.size_extract]; omega))
        have H2 := Lib.hid (fun w => number_any (s.extract 5 7) w (by rw [ByteArray.size_extract]; omega))
        have H3 := Lib.hid (fun w => number_any (s.extract 8 10) w (by rw [ByteArray.size_extract]; omega))
        rw [e1] at H1; rw [e2] at H2; rw [e3] at H3
        clear e1 e2 e3
        have g4 := (bt_get (s := s) (k := 4) (by omega) 45).2 h2
        have g7 := (bt_get (s := s) (k := 7) (by omega) 45).2 h3
        have hl10 : s.data.toList.length = 10 := by omega
        have HF := Lib.hid (show dfB s.data.toList = (allD (s.data.toList.take 4) && allD ((s.data.toList.drop 5).take 2) && allD (s.data.toList.drop 8)) by
          unfold dfB; rw [hl10, g4, g7]; simp)
        have HYv := Lib.hid (show dfY s.data.toList = (dval (s.data.toList.take 4) : Int) from rfl)
        have HMv := Lib.hid (show dfM s.data.toList = (dval ((s.data.toList.drop 5).take 2) : Int) from rfl)
        have HDv := Lib.hid (show dfD s.data.toList = (dval (s.data.toList.drop 8) : Int) from rfl)
        generalize s.data.toList.take 4 = l1 at H1 HF HYv
        generalize (s.data.toList.drop 5).take 2 = l2 at H2 HF HMv
        generalize s.data.toList.drop 8 = l3 at H3 HF HDv
        generalize s.data.toList = l at *
        clear g4 g7 hl10 hsl
        obtain ⟨a, ha⟩ : ∃ a, numB l1 = a := ⟨_, rfl⟩
        obtain ⟨b, hbb⟩ : ∃ b, numB l2 = b := ⟨_, rfl⟩
        obtain ⟨c, hc⟩ : ∃ c, numB l3 = c := ⟨_, rfl⟩
        rw [ha] at H1; rw [hbb] at H2; rw [hc] at H3
        have A := Lib.hid ha; have B := Lib.hid hbb; have C := Lib.hid hc
        clear ha hbb hc
        by_cases p1 : a < 0
        · have HX := Lib.hid (pd_form (l := l) (by rw [HF.out, numB_neg.1 (show numB l1 < 0 by rw [A.out]; exact p1)]; simp))
          rw [HX.out.1, HX.out.2]
          go_enter Tryd.func13, Tryd.ntmps13
          go_wp2_with fail
          go_quiet ((go_at_call 23; first | with_reducible exact Calls.quiet_of_same (H1.out _) | with_reducible exact Calls.quiet_of_same (H2.out _) | with_reducible exact Calls.quiet_of_same (H3.out _)))
          go_wp2_with fail
          go_ret2
          exact ⟨rfl, Joins.below_draws _ _ _⟩
        · by_cases p2 : b < 0
          · have HX := Lib.hid (pd_form (l := l) (by rw [HF.out, numB_neg.1 (show numB l2 < 0 by rw [B.out]; exact p2)]; simp))
            rw [HX.out.1, HX.out.2]
            go_enter Tryd.func13, Tryd.ntmps13
            go_wp2_with fail
            go_quiet ((go_at_call 23; first | with_reducible exact Calls.quiet_of_same (H1.out _) | with_reducible exact Calls.quiet_of_same (H2.out _) | with_reducible exact Calls.quiet_of_same (H3.out _)))
            go_wp2_with fail
            go_ret2
            exact ⟨rfl, Joins.below_draws _ _ _⟩
          · by_cases p3 : c < 0
            · have HX := Lib.hid (pd_form (l := l) (by rw [HF.out, numB_neg.1 (show numB l3 < 0 by rw [C.out]; exact p3)]; simp))
              rw [HX.out.1, HX.out.2]
              go_enter Tryd.func13, Tryd.ntmps13
              go_wp2_with fail
              go_quiet ((go_at_call 23; first | with_reducible exact Calls.quiet_of_same (H1.out _) | with_reducible exact Calls.quiet_of_same (H2.out _) | with_reducible exact Calls.quiet_of_same (H3.out _)))
              go_wp2_with fail
              go_ret2
              exact ⟨rfl, Joins.below_draws _ _ _⟩
            · have q1 : allD l1 = true := by
                cases h : allD l1 with
                | true => rfl
                | false => exact absurd (numB_neg.2 h) (by rw [A.out]; exact p1)
              have q2 : allD l2 = true := by
                cases h : allD l2 with
                | true => rfl
                | false => exact absurd (numB_neg.2 h) (by rw [B.out]; exact p2)
              have q3 : allD l3 = true := by
                cases h : allD l3 with
                | true => rfl
                | false => exact absurd (numB_neg.2 h) (by rw [C.out]; exact p3)
              have HFT : dfB l = true := by rw [HF.out, q1, q2, q3]; rfl
              have va : dfY l = a := by rw [HYv.out, ← numB_val q1, A.out]
              have vb : dfM l = b := by rw [HMv.out, ← numB_val q2, B.out]
              have vc : dfD l = c := by rw [HDv.out, ← numB_val q3, C.out]
              by_cases p4 : 1 ≤ c ∧ c ≤ lenI a b
              · have HX := Lib.hid (pd_day HFT (by rw [va, vb, vc]; exact p4))
                rw [va, vb, vc] at HX
                rw [HX.out.1, HX.out.2]
                have HD := Lib.hid (fun w => day_ok a b c w p4.1 p4.2)
                generalize dby (a.toNat - 1) + cumI a (b.toNat - 1) + c = N at *
                clear p4 HX va vb vc HFT q1 q2 q3 HF HYv HMv HDv A B C
                go_enter Tryd.func13, Tryd.ntmps13
                go_wp2_with fail
                go_quiet ((go_at_call 23; first | with_reducible exact Calls.quiet_of_same (H1.out _) | with_reducible exact Calls.quiet_of_same (H2.out _) | with_reducible exact Calls.quiet_of_same (H3.out _)))
                go_wp2_with fail
                refine (HD.out _).mono ?_
                rintro e w1 ⟨rfl, rfl⟩
                go_wp2_with fail
                go_ret2
                exact ⟨rfl, Joins.below_draws _ _ _⟩
              · have HX := Lib.hid (pd_none HFT (by rw [va, vb, vc]; exact p4))
                rw [HX.out.1, HX.out.2]
                have HD := Lib.hid (fun w => day_no a b c w (by omega))
                clear p4 HX va vb vc HFT q1 q2 q3 HF HYv HMv HDv A B C
                go_enter Tryd.func13, Tryd.ntmps13
                go_wp2_with fail
                go_quiet ((go_at_call 23; first | with_reducible exact Calls.quiet_of_same (H1.out _) | with_reducible exact Calls.quiet_of_same (H2.out _) | with_reducible exact Calls.quiet_of_same (H3.out _)))
                go_wp2_with fail
                refine (HD.out _).mono ?_
                rintro e w1 ⟨rfl, rfl⟩
                go_wp2_with fail
                go_ret2
                exact ⟨rfl, Joins.below_draws _ _ _⟩
      · have HX := Lib.hid (pd_form (l := s.data.toList) (by
          cases hf : dfB s.data.toList with
          | false => rfl
          | true =>
            have hx := dfB_iff.1 hf
            exact absurd ((bt_get (by omega) 45).1 hx.2.2.1) h3))
        rw [HX.out.1, HX.out.2]
        clear hsl
        go_enter Tryd.func13, Tryd.ntmps13
        go_wp2_with fail
        go_ret2
        exact ⟨rfl, Below.refl _ _⟩
    · have HX := Lib.hid (pd_form (l := s.data.toList) (by
        cases hf : dfB s.data.toList with
        | false => rfl
        | true =>
          have hx := dfB_iff.1 hf
          exact absurd ((bt_get (by omega) 45).1 hx.2.1) h2))
      rw [HX.out.1, HX.out.2]
      clear hsl
      go_enter Tryd.func13, Tryd.ntmps13
      go_wp2_with fail
      go_ret2
      exact ⟨rfl, Below.refl _ _⟩
  · have HX := Lib.hid (pd_form (l := s.data.toList) (by
      cases hf : dfB s.data.toList with
      | false => rfl
      | true =>
        have hx := dfB_iff.1 hf
        exact absurd hx.1 (by rw [hsl]; exact h1)))
    rw [HX.out.1, HX.out.2]
    clear hsl
    go_enter Tryd.func13, Tryd.ntmps13
    go_wp2_with fail
    go_ret2
    exact ⟨rfl, Below.refl _ _⟩
end Go.Proofs.YtmdmhookhkhdoaaDoor

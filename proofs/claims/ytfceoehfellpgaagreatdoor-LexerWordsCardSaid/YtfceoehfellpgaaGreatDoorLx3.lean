/- The contract of corrodyref14.end. (Written by wip/gen/genlx3.py.) -/
import Derived.Test.YtfceoehfellpgaaGreatDoorLx2
namespace Go.Proofs.YtfceoehfellpgaaGreatDoor
set_option maxRecDepth 8000
open Go.RowKit Go.PlainAid Corr
set_option linter.unusedVariables false
set_option linter.unusedSimpArgs false
set_option maxHeartbeats 4000000 in
theorem end_any (s : ByteArray) (a : Nat) (w : World) (hs : s.size ≤ 4000000) (ha : a < s.size) : Calls Tryz.prog 14 #[.string s, .int .i64 (a : Int)] w fun e w' => e = .returned (.int .i64 (endN s a : Int)) ∧ w' = w := by
  have hb := get_bt s
  obtain ⟨E, hE⟩ : ∃ E : Nat, endN s a = E := ⟨_, rfl⟩
  have HE := Lib.hid hE
  rw [hE]
  clear hE
  cases q : smallB (bt s a) with
  | true =>
    have HQ := Lib.hid q
    have HE1 := Lib.hid (show runTo wordB s a = E from by rw [← HE.out]; exact (endN_small q).symm)
    clear q HE
    go_enter Tryz.func14, Tryz.ntmps14
    go_wp2_with fail
    refine (small_is HQ.out _).mono ?_
    rintro e w' ⟨rfl, hw'⟩
    obtain rfl := hw'.symm
    go_wp2_with fail
    go_loopw [5] (fun u wr => ∃ i : Nat, u = .int .i64 (i : Int) ∧ a ≤ i ∧ i ≤ s.size ∧ Hid (∀ k, a ≤ k → k < i → wordB (bt s k) = true) ∧ wr = w) (fun u _ => (s.size - intOf u).toNat)
    case atStart => exact ⟨a, rfl, by omega, by omega, Lib.hid (fun k h h' => absurd h' (by omega)), rfl⟩
    case round =>
      obtain ⟨i, rfl, hai, hi, HD, rfl⟩ := hrel
      by_cases h1 : i < s.size
      · cases q1 : smallB (bt s i) with
        | true =>
          have HQ1 := Lib.hid q1
          have HD2 := Lib.hid (show ∀ k, a ≤ k → k < i + 1 → wordB (bt s k) = true from fun k hk hj => by
            by_cases e : k = i
            · subst e; unfold wordB; rw [q1]; rfl
            · exact HD.out k hk (by omega))
          clear q1
          go_wp2_with fail
          refine (small_is HQ1.out _).mono ?_
          rintro e w' ⟨rfl, hw'⟩
          obtain rfl := hw'.symm
          go_wp2_with fail
          go_roundw
          case rel => exact ⟨i + 1, by go_num, by omega, by omega, HD2, by first | trivial | rfl⟩
          case measure => simp [intOf]; omega
        | false =>
          have HQ1 := Lib.hid q1
          cases q2 : digB (bt s i) with
          | true =>
            have HQ2 := Lib.hid q2
            have HD2 := Lib.hid (show ∀ k, a ≤ k → k < i + 1 → wordB (bt s k) = true from fun k hk hj => by
              by_cases e : k = i
              · subst e; unfold wordB; rw [q2]; simp
              · exact HD.out k hk (by omega))
            clear q1 q2
            go_wp2_with fail
            refine (small_is HQ1.out _).mono ?_
            rintro e w' ⟨rfl, hw'⟩
            obtain rfl := hw'.symm
            go_wp2_with fail
            refine (digit_is HQ2.out _).mono ?_
            rintro e w' ⟨rfl, hw'⟩
            obtain rfl := hw'.symm
            go_wp2_with fail
            go_roundw
            case rel => exact ⟨i + 1, by go_num, by omega, by omega, HD2, by first | trivial | rfl⟩
            case measure => simp [intOf]; omega
          | false =>
            have HQ2 := Lib.hid q2
            have HB := Lib.hid (show i = E by rw [← HE1.out]; symm; exact runTo_eq ⟨hai, hi, HD.out, fun _ => by unfold wordB; rw [q1, q2]; rfl⟩)
            clear q1 q2
            go_wp2_with fail
            refine (small_is HQ1.out _).mono ?_
            rintro e w' ⟨rfl, hw'⟩
            obtain rfl := hw'.symm
            go_wp2_with fail
            refine (digit_is HQ2.out _).mono ?_
            rintro e w' ⟨rfl, hw'⟩
            obtain rfl := hw'.symm
            go_wp2_with fail
            go_ret
            exact ⟨by rw [← HB.out]; rfl, rfl⟩
      · have HB := Lib.hid (show i = E by rw [← HE1.out]; symm; exact runTo_eq ⟨hai, hi, HD.out, fun h => absurd h h1⟩)
        go_wp2_with fail
        go_ret
        exact ⟨by rw [← HB.out]; rfl, rfl⟩
  | false =>
    cases q0 : digB (bt s a) with
    | true =>
      have HQ := Lib.hid q
      have HQ0 := Lib.hid q0
      have HE1 := Lib.hid (show (if runTo digB s a + 1 < s.size ∧ bt s (runTo digB s a) = 46 ∧ digB (bt s (runTo digB s a + 1)) = true then runTo digB s (runTo digB s a + 1) else runTo digB s a) = E from by rw [← HE.out]; exact (endN_digit q q0).symm)
      clear q q0 HE
      go_enter Tryz.func14, Tryz.ntmps14
      go_wp2_with fail
      refine (small_is HQ.out _).mono ?_
      rintro e w' ⟨rfl, hw'⟩
      obtain rfl := hw'.symm
      go_wp2_with fail
      refine (digit_is HQ0.out _).mono ?_
      rintro e w' ⟨rfl, hw'⟩
      obtain rfl := hw'.symm
      go_wp2_with fail
      go_loopw [5] (fun u wr => ∃ i : Nat, u = .int .i64 (i : Int) ∧ a ≤ i ∧ i ≤ s.size ∧ Hid (∀ k, a ≤ k → k < i → digB (bt s k) = true) ∧ wr = w) (fun u _ => (s.size - intOf u).toNat)
      case atStart => exact ⟨a, rfl, by omega, by omega, Lib.hid (fun k h h' => absurd h' (by omega)), rfl⟩
      case round =>
        obtain ⟨i, rfl, hai, hi, HD, rfl⟩ := hrel
        by_cases h1 : i < s.size
        · cases q1 : digB (bt s i) with
          | true =>
            have HQ1 := Lib.hid q1
            have HD2 := Lib.hid (show ∀ k, a ≤ k → k < i + 1 → digB (bt s k) = true from fun k hk hj => by
              by_cases e : k = i
              · subst e; exact q1
              · exact HD.out k hk (by omega))
            clear q1
            go_wp2_with fail
            refine (digit_is HQ1.out _).mono ?_
            rintro e w' ⟨rfl, hw'⟩
            obtain rfl := hw'.symm
            go_wp2_with fail
            go_roundw
            case rel => exact ⟨i + 1, by go_num, by omega, by omega, HD2, by first | trivial | rfl⟩
            case measure => simp [intOf]; omega
          | false =>
            have HQ1 := Lib.hid q1
            have HR := Lib.hid (show runTo digB s a = i from runTo_eq ⟨hai, hi, HD.out, fun _ => q1⟩)
            have HE2 := Lib.hid (show (if i + 1 < s.size ∧ bt s i = 46 ∧ digB (bt s (i + 1)) = true then runTo digB s (i + 1) else i) = E by rw [← HE1.out, HR.out])
            clear HE1 HR
            clear q1
            go_wp2_with fail
            refine (digit_is HQ1.out _).mono ?_
            rintro e w' ⟨rfl, hw'⟩
            obtain rfl := hw'.symm
            by_cases h2 : i + 1 < s.size
            · have d2 : decide ((i : Int) + 1 < (s.size : Int)) = true := decide_eq_true (by omega)
              by_cases h3 : bt s i = 46
              · have d3 : (bt s i == 46) = true := by simpa using h3
                have H3 := Lib.hid h3
                clear h3
                cases q3 : digB (bt s (i + 1)) with
                | true =>
                  have HQ3 := Lib.hid q3
                  have HE3 := Lib.hid (show runTo digB s (i + 1) = E by rw [← HE2.out]; symm; exact if_pos ⟨h2, H3.out, q3⟩)
                  clear q3 HE2 HD
                  go_wp2_with fail
                  refine (digit_is HQ3.out _).mono ?_
                  rintro e w' ⟨rfl, hw'⟩
                  obtain rfl := hw'.symm
                  go_wp2_with fail
                  go_loopw [5] (fun u wo => ∃ j : Nat, u = .int .i64 (j : Int) ∧ i + 1 ≤ j ∧ j ≤ s.size ∧ Hid (∀ k, i + 1 ≤ k → k < j → digB (bt s k) = true) ∧ wo = wr) (fun u _ => (s.size - intOf u).toNat)
                  case atStart => exact ⟨i + 1, by go_num, by omega, by omega, Lib.hid (fun k h h' => absurd h' (by omega)), rfl⟩
                  case round =>
                    obtain ⟨j, rfl, hij, hj, HD, rfl⟩ := hrel
                    clear d2 d3
                    by_cases h4 : j < s.size
                    · cases q4 : digB (bt s j) with
                      | true =>
                        have HQ4 := Lib.hid q4
                        have HD2 := Lib.hid (show ∀ k, i + 1 ≤ k → k < j + 1 → digB (bt s k) = true from fun k hk hj => by
                          by_cases e : k = j
                          · subst e; exact q4
                          · exact HD.out k hk (by omega))
                        clear q4
                        go_wp2_with fail
                        refine (digit_is HQ4.out _).mono ?_
                        rintro e w' ⟨rfl, hw'⟩
                        obtain rfl := hw'.symm
                        go_wp2_with fail
                        go_roundw
                        case rel => exact ⟨j + 1, by go_num, by omega, by omega, HD2, by first | trivial | rfl⟩
                        case measure => simp [intOf]; omega
                      | false =>
                        have HQ4 := Lib.hid q4
                        have HB := Lib.hid (show j = E by rw [← HE3.out]; symm; exact runTo_eq ⟨hij, hj, HD.out, fun _ => q4⟩)
                        clear q4
                        go_wp2_with fail
                        refine (digit_is HQ4.out _).mono ?_
                        rintro e w' ⟨rfl, hw'⟩
                        obtain rfl := hw'.symm
                        go_wp2_with fail
                        go_ret
                        exact ⟨by rw [← HB.out]; rfl, rfl⟩
                    · have HB := Lib.hid (show j = E by rw [← HE3.out]; symm; exact runTo_eq ⟨hij, hj, HD.out, fun h => absurd h h4⟩)
                      go_wp2_with fail
                      go_ret
                      exact ⟨by rw [← HB.out]; rfl, rfl⟩
                | false =>
                  have HQ3 := Lib.hid q3
                  have HB := Lib.hid (show i = E by rw [← HE2.out]; symm; exact if_neg (fun e => by have := e.2.2; rw [q3] at this; cases this))
                  clear q3 HE2 HD
                  go_wp2_with fail
                  refine (digit_is HQ3.out _).mono ?_
                  rintro e w' ⟨rfl, hw'⟩
                  obtain rfl := hw'.symm
                  go_wp2_with fail
                  go_ret
                  exact ⟨by rw [← HB.out]; rfl, rfl⟩
              · have d3 : (bt s i == 46) = false := by simpa using h3
                have HB := Lib.hid (show i = E by rw [← HE2.out]; symm; exact if_neg (fun e => h3 e.2.1))
                clear h3 HE2 HD
                go_wp2_with fail
                go_ret
                exact ⟨by rw [← HB.out]; rfl, rfl⟩
            · have d2 : decide ((i : Int) + 1 < (s.size : Int)) = false := decide_eq_false (by omega)
              have HB := Lib.hid (show i = E by rw [← HE2.out]; symm; exact if_neg (fun e => h2 e.1))
              clear HE2 HD
              go_wp2_with fail
              go_ret
              exact ⟨by rw [← HB.out]; rfl, rfl⟩
        · have hie : i = s.size := by omega
          have HR := Lib.hid (show runTo digB s a = i from runTo_eq ⟨hai, hi, HD.out, fun h => absurd h h1⟩)
          have HE2 := Lib.hid (show (if i + 1 < s.size ∧ bt s i = 46 ∧ digB (bt s (i + 1)) = true then runTo digB s (i + 1) else i) = E by rw [← HE1.out, HR.out])
          clear HE1 HR
          have d2 : decide ((i : Int) + 1 < (s.size : Int)) = false := decide_eq_false (by omega)
          have HB := Lib.hid (show i = E by rw [← HE2.out]; symm; exact if_neg (fun e => by have := e.1; omega))
          clear HE2 HD hie
          go_wp2_with fail
          go_ret
          exact ⟨by rw [← HB.out]; rfl, rfl⟩
    | false =>
      have HQ := Lib.hid q
      have HQ0 := Lib.hid q0
      have HE1 := Lib.hid (show (if a + 1 < s.size ∧ sign2B (bt s a) (bt s (a + 1)) = true then a + 2 else if sign1B (bt s a) = true then a + 1 else a) = E from by rw [← HE.out]; exact (endN_else q q0).symm)
      clear q q0 HE
      by_cases h1 : a + 1 < s.size
      · have d1 : decide ((a : Int) + 1 < (s.size : Int)) = true := decide_eq_true (by omega)
        have k0 : (0 : Int) ≤ (a : Int) := by omega
        have k1 : (a : Int) ≤ (a : Int) + 2 := by omega
        have k2 : (a : Int) + 2 ≤ (s.size : Int) := by omega
        have k3 : ((a : Int) + 2).toNat = a + 2 := by omega
        by_cases t0 : (s.extract a (a + 2)).data.toList = [60, 61]
        · have u0 : ((s.extract a (a + 2)).toList == [60, 61]) = true := by rw [Lib.toList_data]; simpa using t0
          have HB := Lib.hid (show a + 2 = E by
            have := (two_bytes h1 60 61).1 t0
            rw [← HE1.out, if_pos ⟨h1, by unfold sign2B; rw [this.1, this.2]; decide⟩])
          clear t0 HE1
          go_enter Tryz.func14, Tryz.ntmps14
          go_wp2_with fail
          refine (small_is HQ.out _).mono ?_
          rintro e w' ⟨rfl, hw'⟩
          obtain rfl := hw'.symm
          go_wp2_with fail
          refine (digit_is HQ0.out _).mono ?_
          rintro e w' ⟨rfl, hw'⟩
          obtain rfl := hw'.symm
          go_wp2_with fail
          go_ret
          exact ⟨by rw [← HB.out]; rfl, rfl⟩
        have u0 : ((s.extract a (a + 2)).toList == [60, 61]) = false := by rw [Lib.toList_data]; simpa using t0
        by_cases t1 : (s.extract a (a + 2)).data.toList = [62, 61]
        · have u1 : ((s.extract a (a + 2)).toList == [62, 61]) = true := by rw [Lib.toList_data]; simpa using t1
          have HB := Lib.hid (show a + 2 = E by
            have := (two_bytes h1 62 61).1 t1
            rw [← HE1.out, if_pos ⟨h1, by unfold sign2B; rw [this.1, this.2]; decide⟩])
          clear t0 t1 HE1
          go_enter Tryz.func14, Tryz.ntmps14
          go_wp2_with fail
          refine (small_is HQ.out _).mono ?_
          rintro e w' ⟨rfl, hw'⟩
          obtain rfl := hw'.symm
          go_wp2_with fail
          refine (digit_is HQ0.out _).mono ?_
          rintro e w' ⟨rfl, hw'⟩
          obtain rfl := hw'.symm
          go_wp2_with fail
          go_ret
          exact ⟨by rw [← HB.out]; rfl, rfl⟩
        have u1 : ((s.extract a (a + 2)).toList == [62, 61]) = false := by rw [Lib.toList_data]; simpa using t1
        by_cases t2 : (s.extract a (a + 2)).data.toList = [60, 62]
        · have u2 : ((s.extract a (a + 2)).toList == [60, 62]) = true := by rw [Lib.toList_data]; simpa using t2
          have HB := Lib.hid (show a + 2 = E by
            have := (two_bytes h1 60 62).1 t2
            rw [← HE1.out, if_pos ⟨h1, by unfold sign2B; rw [this.1, this.2]; decide⟩])
          clear t0 t1 t2 HE1
          go_enter Tryz.func14, Tryz.ntmps14
          go_wp2_with fail
          refine (small_is HQ.out _).mono ?_
          rintro e w' ⟨rfl, hw'⟩
          obtain rfl := hw'.symm
          go_wp2_with fail
          refine (digit_is HQ0.out _).mono ?_
          rintro e w' ⟨rfl, hw'⟩
          obtain rfl := hw'.symm
          go_wp2_with fail
          go_ret
          exact ⟨by rw [← HB.out]; rfl, rfl⟩
        have u2 : ((s.extract a (a + 2)).toList == [60, 62]) = false := by rw [Lib.toList_data]; simpa using t2
        have HT := Lib.hid (show ¬ (a + 1 < s.size ∧ sign2B (bt s a) (bt s (a + 1)) = true) from fun e => by
          have e2 := e.2
          unfold sign2B at e2
          simp only [Bool.or_eq_true, Bool.and_eq_true, beq_iff_eq] at e2
          rcases e2 with (e2 | e2) | e2
          · exact t0 ((two_bytes h1 60 61).2 e2)
          · exact t1 ((two_bytes h1 62 61).2 e2)
          · exact t2 ((two_bytes h1 60 62).2 e2))
        clear t0 t1 t2
        by_cases g0 : bt s a = 61
        · have e0 : (bt s a == 61) = true := by simpa using g0
          have HB := Lib.hid (show a + 1 = E by rw [← HE1.out, if_neg (HT.out), if_pos (by unfold sign1B; simp [g0])])
          clear g0
          clear HE1
          go_enter Tryz.func14, Tryz.ntmps14
          go_wp2_with fail
          refine (small_is HQ.out _).mono ?_
          rintro e w' ⟨rfl, hw'⟩
          obtain rfl := hw'.symm
          go_wp2_with fail
          refine (digit_is HQ0.out _).mono ?_
          rintro e w' ⟨rfl, hw'⟩
          obtain rfl := hw'.symm
          go_wp2_with fail
          go_ret
          exact ⟨by rw [← HB.out]; rfl, rfl⟩
        have e0 : (bt s a == 61) = false := by simpa using g0
        by_cases g1 : bt s a = 60
        · have e1 : (bt s a == 60) = true := by simpa using g1
          have HB := Lib.hid (show a + 1 = E by rw [← HE1.out, if_neg (HT.out), if_pos (by unfold sign1B; simp [g1])])
          clear g0 g1
          clear HE1
          go_enter Tryz.func14, Tryz.ntmps14
          go_wp2_with fail
          refine (small_is HQ.out _).mono ?_
          rintro e w' ⟨rfl, hw'⟩
          obtain rfl := hw'.symm
          go_wp2_with fail
          refine (digit_is HQ0.out _).mono ?_
          rintro e w' ⟨rfl, hw'⟩
          obtain rfl := hw'.symm
          go_wp2_with fail
          go_ret
          exact ⟨by rw [← HB.out]; rfl, rfl⟩
        have e1 : (bt s a == 60) = false := by simpa using g1
        by_cases g2 : bt s a = 62
        · have e2 : (bt s a == 62) = true := by simpa using g2
          have HB := Lib.hid (show a + 1 = E by rw [← HE1.out, if_neg (HT.out), if_pos (by unfold sign1B; simp [g2])])
          clear g0 g1 g2
          clear HE1
          go_enter Tryz.func14, Tryz.ntmps14
          go_wp2_with fail
          refine (small_is HQ.out _).mono ?_
          rintro e w' ⟨rfl, hw'⟩
          obtain rfl := hw'.symm
          go_wp2_with fail
          refine (digit_is HQ0.out _).mono ?_
          rintro e w' ⟨rfl, hw'⟩
          obtain rfl := hw'.symm
          go_wp2_with fail
          go_ret
          exact ⟨by rw [← HB.out]; rfl, rfl⟩
        have e2 : (bt s a == 62) = false := by simpa using g2
        by_cases g3 : bt s a = 43
        · have e3 : (bt s a == 43) = true := by simpa using g3
          have HB := Lib.hid (show a + 1 = E by rw [← HE1.out, if_neg (HT.out), if_pos (by unfold sign1B; simp [g3])])
          clear g0 g1 g2 g3
          clear HE1
          go_enter Tryz.func14, Tryz.ntmps14
          go_wp2_with fail
          refine (small_is HQ.out _).mono ?_
          rintro e w' ⟨rfl, hw'⟩
          obtain rfl := hw'.symm
          go_wp2_with fail
          refine (digit_is HQ0.out _).mono ?_
          rintro e w' ⟨rfl, hw'⟩
          obtain rfl := hw'.symm
          go_wp2_with fail
          go_ret
          exact ⟨by rw [← HB.out]; rfl, rfl⟩
        have e3 : (bt s a == 43) = false := by simpa using g3
        by_cases g4 : bt s a = 45
        · have e4 : (bt s a == 45) = true := by simpa using g4
          have HB := Lib.hid (show a + 1 = E by rw [← HE1.out, if_neg (HT.out), if_pos (by unfold sign1B; simp [g4])])
          clear g0 g1 g2 g3 g4
          clear HE1
          go_enter Tryz.func14, Tryz.ntmps14
          go_wp2_with fail
          refine (small_is HQ.out _).mono ?_
          rintro e w' ⟨rfl, hw'⟩
          obtain rfl := hw'.symm
          go_wp2_with fail
          refine (digit_is HQ0.out _).mono ?_
          rintro e w' ⟨rfl, hw'⟩
          obtain rfl := hw'.symm
          go_wp2_with fail
          go_ret
          exact ⟨by rw [← HB.out]; rfl, rfl⟩
        have e4 : (bt s a == 45) = false := by simpa using g4
        by_cases g5 : bt s a = 42
        · have e5 : (bt s a == 42) = true := by simpa using g5
          have HB := Lib.hid (show a + 1 = E by rw [← HE1.out, if_neg (HT.out), if_pos (by unfold sign1B; simp [g5])])
          clear g0 g1 g2 g3 g4 g5
          clear HE1
          go_enter Tryz.func14, Tryz.ntmps14
          go_wp2_with fail
          refine (small_is HQ.out _).mono ?_
          rintro e w' ⟨rfl, hw'⟩
          obtain rfl := hw'.symm
          go_wp2_with fail
          refine (digit_is HQ0.out _).mono ?_
          rintro e w' ⟨rfl, hw'⟩
          obtain rfl := hw'.symm
          go_wp2_with fail
          go_ret
          exact ⟨by rw [← HB.out]; rfl, rfl⟩
        have e5 : (bt s a == 42) = false := by simpa using g5
        by_cases g6 : bt s a = 47
        · have e6 : (bt s a == 47) = true := by simpa using g6
          have HB := Lib.hid (show a + 1 = E by rw [← HE1.out, if_neg (HT.out), if_pos (by unfold sign1B; simp [g6])])
          clear g0 g1 g2 g3 g4 g5 g6
          clear HE1
          go_enter Tryz.func14, Tryz.ntmps14
          go_wp2_with fail
          refine (small_is HQ.out _).mono ?_
          rintro e w' ⟨rfl, hw'⟩
          obtain rfl := hw'.symm
          go_wp2_with fail
          refine (digit_is HQ0.out _).mono ?_
          rintro e w' ⟨rfl, hw'⟩
          obtain rfl := hw'.symm
          go_wp2_with fail
          go_ret
          exact ⟨by rw [← HB.out]; rfl, rfl⟩
        have e6 : (bt s a == 47) = false := by simpa using g6
        by_cases g7 : bt s a = 40
        · have e7 : (bt s a == 40) = true := by simpa using g7
          have HB := Lib.hid (show a + 1 = E by rw [← HE1.out, if_neg (HT.out), if_pos (by unfold sign1B; simp [g7])])
          clear g0 g1 g2 g3 g4 g5 g6 g7
          clear HE1
          go_enter Tryz.func14, Tryz.ntmps14
          go_wp2_with fail
          refine (small_is HQ.out _).mono ?_
          rintro e w' ⟨rfl, hw'⟩
          obtain rfl := hw'.symm
          go_wp2_with fail
          refine (digit_is HQ0.out _).mono ?_
          rintro e w' ⟨rfl, hw'⟩
          obtain rfl := hw'.symm
          go_wp2_with fail
          go_ret
          exact ⟨by rw [← HB.out]; rfl, rfl⟩
        have e7 : (bt s a == 40) = false := by simpa using g7
        by_cases g8 : bt s a = 41
        · have e8 : (bt s a == 41) = true := by simpa using g8
          have HB := Lib.hid (show a + 1 = E by rw [← HE1.out, if_neg (HT.out), if_pos (by unfold sign1B; simp [g8])])
          clear g0 g1 g2 g3 g4 g5 g6 g7 g8
          clear HE1
          go_enter Tryz.func14, Tryz.ntmps14
          go_wp2_with fail
          refine (small_is HQ.out _).mono ?_
          rintro e w' ⟨rfl, hw'⟩
          obtain rfl := hw'.symm
          go_wp2_with fail
          refine (digit_is HQ0.out _).mono ?_
          rintro e w' ⟨rfl, hw'⟩
          obtain rfl := hw'.symm
          go_wp2_with fail
          go_ret
          exact ⟨by rw [← HB.out]; rfl, rfl⟩
        have e8 : (bt s a == 41) = false := by simpa using g8
        by_cases g9 : bt s a = 44
        · have e9 : (bt s a == 44) = true := by simpa using g9
          have HB := Lib.hid (show a + 1 = E by rw [← HE1.out, if_neg (HT.out), if_pos (by unfold sign1B; simp [g9])])
          clear g0 g1 g2 g3 g4 g5 g6 g7 g8 g9
          clear HE1
          go_enter Tryz.func14, Tryz.ntmps14
          go_wp2_with fail
          refine (small_is HQ.out _).mono ?_
          rintro e w' ⟨rfl, hw'⟩
          obtain rfl := hw'.symm
          go_wp2_with fail
          refine (digit_is HQ0.out _).mono ?_
          rintro e w' ⟨rfl, hw'⟩
          obtain rfl := hw'.symm
          go_wp2_with fail
          go_ret
          exact ⟨by rw [← HB.out]; rfl, rfl⟩
        have e9 : (bt s a == 44) = false := by simpa using g9
        have HB := Lib.hid (show a = E by rw [← HE1.out, if_neg (HT.out), if_neg (by unfold sign1B; simp [g0, g1, g2, g3, g4, g5, g6, g7, g8, g9])])
        clear g0 g1 g2 g3 g4 g5 g6 g7 g8 g9 HE1
        go_enter Tryz.func14, Tryz.ntmps14
        go_wp2_with fail
        refine (small_is HQ.out _).mono ?_
        rintro e w' ⟨rfl, hw'⟩
        obtain rfl := hw'.symm
        go_wp2_with fail
        refine (digit_is HQ0.out _).mono ?_
        rintro e w' ⟨rfl, hw'⟩
        obtain rfl := hw'.symm
        go_wp2_with fail
        go_ret
        exact ⟨by rw [← HB.out]; rfl, rfl⟩
      · have d1 : decide ((a : Int) + 1 < (s.size : Int)) = false := decide_eq_false (by omega)
        have HT := Lib.hid (show ¬ (a + 1 < s.size ∧ sign2B (bt s a) (bt s (a + 1)) = true) from fun e => h1 e.1)
        by_cases g0 : bt s a = 61
        · have e0 : (bt s a == 61) = true := by simpa using g0
          have HB := Lib.hid (show a + 1 = E by rw [← HE1.out, if_neg (HT.out), if_pos (by unfold sign1B; simp [g0])])
          clear g0
          clear HE1
          go_enter Tryz.func14, Tryz.ntmps14
          go_wp2_with fail
          refine (small_is HQ.out _).mono ?_
          rintro e w' ⟨rfl, hw'⟩
          obtain rfl := hw'.symm
          go_wp2_with fail
          refine (digit_is HQ0.out _).mono ?_
          rintro e w' ⟨rfl, hw'⟩
          obtain rfl := hw'.symm
          go_wp2_with fail
          go_ret
          exact ⟨by rw [← HB.out]; rfl, rfl⟩
        have e0 : (bt s a == 61) = false := by simpa using g0
        by_cases g1 : bt s a = 60
        · have e1 : (bt s a == 60) = true := by simpa using g1
          have HB := Lib.hid (show a + 1 = E by rw [← HE1.out, if_neg (HT.out), if_pos (by unfold sign1B; simp [g1])])
          clear g0 g1
          clear HE1
          go_enter Tryz.func14, Tryz.ntmps14
          go_wp2_with fail
          refine (small_is HQ.out _).mono ?_
          rintro e w' ⟨rfl, hw'⟩
          obtain rfl := hw'.symm
          go_wp2_with fail
          refine (digit_is HQ0.out _).mono ?_
          rintro e w' ⟨rfl, hw'⟩
          obtain rfl := hw'.symm
          go_wp2_with fail
          go_ret
          exact ⟨by rw [← HB.out]; rfl, rfl⟩
        have e1 : (bt s a == 60) = false := by simpa using g1
        by_cases g2 : bt s a = 62
        · have e2 : (bt s a == 62) = true := by simpa using g2
          have HB := Lib.hid (show a + 1 = E by rw [← HE1.out, if_neg (HT.out), if_pos (by unfold sign1B; simp [g2])])
          clear g0 g1 g2
          clear HE1
          go_enter Tryz.func14, Tryz.ntmps14
          go_wp2_with fail
          refine (small_is HQ.out _).mono ?_
          rintro e w' ⟨rfl, hw'⟩
          obtain rfl := hw'.symm
          go_wp2_with fail
          refine (digit_is HQ0.out _).mono ?_
          rintro e w' ⟨rfl, hw'⟩
          obtain rfl := hw'.symm
          go_wp2_with fail
          go_ret
          exact ⟨by rw [← HB.out]; rfl, rfl⟩
        have e2 : (bt s a == 62) = false := by simpa using g2
        by_cases g3 : bt s a = 43
        · have e3 : (bt s a == 43) = true := by simpa using g3
          have HB := Lib.hid (show a + 1 = E by rw [← HE1.out, if_neg (HT.out), if_pos (by unfold sign1B; simp [g3])])
          clear g0 g1 g2 g3
          clear HE1
          go_enter Tryz.func14, Tryz.ntmps14
          go_wp2_with fail
          refine (small_is HQ.out _).mono ?_
          rintro e w' ⟨rfl, hw'⟩
          obtain rfl := hw'.symm
          go_wp2_with fail
          refine (digit_is HQ0.out _).mono ?_
          rintro e w' ⟨rfl, hw'⟩
          obtain rfl := hw'.symm
          go_wp2_with fail
          go_ret
          exact ⟨by rw [← HB.out]; rfl, rfl⟩
        have e3 : (bt s a == 43) = false := by simpa using g3
        by_cases g4 : bt s a = 45
        · have e4 : (bt s a == 45) = true := by simpa using g4
          have HB := Lib.hid (show a + 1 = E by rw [← HE1.out, if_neg (HT.out), if_pos (by unfold sign1B; simp [g4])])
          clear g0 g1 g2 g3 g4
          clear HE1
          go_enter Tryz.func14, Tryz.ntmps14
          go_wp2_with fail
          refine (small_is HQ.out _).mono ?_
          rintro e w' ⟨rfl, hw'⟩
          obtain rfl := hw'.symm
          go_wp2_with fail
          refine (digit_is HQ0.out _).mono ?_
          rintro e w' ⟨rfl, hw'⟩
          obtain rfl := hw'.symm
          go_wp2_with fail
          go_ret
          exact ⟨by rw [← HB.out]; rfl, rfl⟩
        have e4 : (bt s a == 45) = false := by simpa using g4
        by_cases g5 : bt s a = 42
        · have e5 : (bt s a == 42) = true := by simpa using g5
          have HB := Lib.hid (show a + 1 = E by rw [← HE1.out, if_neg (HT.out), if_pos (by unfold sign1B; simp [g5])])
          clear g0 g1 g2 g3 g4 g5
          clear HE1
          go_enter Tryz.func14, Tryz.ntmps14
          go_wp2_with fail
          refine (small_is HQ.out _).mono ?_
          rintro e w' ⟨rfl, hw'⟩
          obtain rfl := hw'.symm
          go_wp2_with fail
          refine (digit_is HQ0.out _).mono ?_
          rintro e w' ⟨rfl, hw'⟩
          obtain rfl := hw'.symm
          go_wp2_with fail
          go_ret
          exact ⟨by rw [← HB.out]; rfl, rfl⟩
        have e5 : (bt s a == 42) = false := by simpa using g5
        by_cases g6 : bt s a = 47
        · have e6 : (bt s a == 47) = true := by simpa using g6
          have HB := Lib.hid (show a + 1 = E by rw [← HE1.out, if_neg (HT.out), if_pos (by unfold sign1B; simp [g6])])
          clear g0 g1 g2 g3 g4 g5 g6
          clear HE1
          go_enter Tryz.func14, Tryz.ntmps14
          go_wp2_with fail
          refine (small_is HQ.out _).mono ?_
          rintro e w' ⟨rfl, hw'⟩
          obtain rfl := hw'.symm
          go_wp2_with fail
          refine (digit_is HQ0.out _).mono ?_
          rintro e w' ⟨rfl, hw'⟩
          obtain rfl := hw'.symm
          go_wp2_with fail
          go_ret
          exact ⟨by rw [← HB.out]; rfl, rfl⟩
        have e6 : (bt s a == 47) = false := by simpa using g6
        by_cases g7 : bt s a = 40
        · have e7 : (bt s a == 40) = true := by simpa using g7
          have HB := Lib.hid (show a + 1 = E by rw [← HE1.out, if_neg (HT.out), if_pos (by unfold sign1B; simp [g7])])
          clear g0 g1 g2 g3 g4 g5 g6 g7
          clear HE1
          go_enter Tryz.func14, Tryz.ntmps14
          go_wp2_with fail
          refine (small_is HQ.out _).mono ?_
          rintro e w' ⟨rfl, hw'⟩
          obtain rfl := hw'.symm
          go_wp2_with fail
          refine (digit_is HQ0.out _).mono ?_
          rintro e w' ⟨rfl, hw'⟩
          obtain rfl := hw'.symm
          go_wp2_with fail
          go_ret
          exact ⟨by rw [← HB.out]; rfl, rfl⟩
        have e7 : (bt s a == 40) = false := by simpa using g7
        by_cases g8 : bt s a = 41
        · have e8 : (bt s a == 41) = true := by simpa using g8
          have HB := Lib.hid (show a + 1 = E by rw [← HE1.out, if_neg (HT.out), if_pos (by unfold sign1B; simp [g8])])
          clear g0 g1 g2 g3 g4 g5 g6 g7 g8
          clear HE1
          go_enter Tryz.func14, Tryz.ntmps14
          go_wp2_with fail
          refine (small_is HQ.out _).mono ?_
          rintro e w' ⟨rfl, hw'⟩
          obtain rfl := hw'.symm
          go_wp2_with fail
          refine (digit_is HQ0.out _).mono ?_
          rintro e w' ⟨rfl, hw'⟩
          obtain rfl := hw'.symm
          go_wp2_with fail
          go_ret
          exact ⟨by rw [← HB.out]; rfl, rfl⟩
        have e8 : (bt s a == 41) = false := by simpa using g8
        by_cases g9 : bt s a = 44
        · have e9 : (bt s a == 44) = true := by simpa using g9
          have HB := Lib.hid (show a + 1 = E by rw [← HE1.out, if_neg (HT.out), if_pos (by unfold sign1B; simp [g9])])
          clear g0 g1 g2 g3 g4 g5 g6 g7 g8 g9
          clear HE1
          go_enter Tryz.func14, Tryz.ntmps14
          go_wp2_with fail
          refine (small_is HQ.out _).mono ?_
          rintro e w' ⟨rfl, hw'⟩
          obtain rfl := hw'.symm
          go_wp2_with fail
          refine (digit_is HQ0.out _).mono ?_
          rintro e w' ⟨rfl, hw'⟩
          obtain rfl := hw'.symm
          go_wp2_with fail
          go_ret
          exact ⟨by rw [← HB.out]; rfl, rfl⟩
        have e9 : (bt s a == 44) = false := by simpa using g9
        have HB := Lib.hid (show a = E by rw [← HE1.out, if_neg (HT.out), if_neg (by unfold sign1B; simp [g0, g1, g2, g3, g4, g5, g6, g7, g8, g9])])
        clear g0 g1 g2 g3 g4 g5 g6 g7 g8 g9 HE1
        go_enter Tryz.func14, Tryz.ntmps14
        go_wp2_with fail
        refine (small_is HQ.out _).mono ?_
        rintro e w' ⟨rfl, hw'⟩
        obtain rfl := hw'.symm
        go_wp2_with fail
        refine (digit_is HQ0.out _).mono ?_
        rintro e w' ⟨rfl, hw'⟩
        obtain rfl := hw'.symm
        go_wp2_with fail
        go_ret
        exact ⟨by rw [← HB.out]; rfl, rfl⟩
end Go.Proofs.YtfceoehfellpgaaGreatDoor

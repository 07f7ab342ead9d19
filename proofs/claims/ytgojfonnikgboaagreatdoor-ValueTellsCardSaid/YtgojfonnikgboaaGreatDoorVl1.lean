/- Contract of corrodyref02: May. Contracts of corrodyref10: May, Text. (Written by wip/gen/genvl1.py.) -/
import Derived.Test.YtgojfonnikgboaaGreatDoorDec5
import Derived.Test.YtgojfonnikgboaaGreatDoorRowRel
import Derived.Test.YtgojfonnikgboaaGreatDoorTx8
namespace Go.Proofs.YtgojfonnikgboaaGreatDoor
set_option maxRecDepth 8000
open Go.RowKit Corr
set_option linter.unusedVariables false
theorem nmay_none (C S : Int) (w : World) (h : S < 0 ∨ 9 < S) : Calls Tryz.prog 20 #[.agg #[.int .i64 C, .int .i64 S]] w fun e w' => e = .returned (.bool false) ∧ Below w.heap.size w w' := by
  have S0 := (Mem.start w).push #[.int .i64 C, .int .i64 S] 23
  have HI := Lib.hid (fun w => nis_no C S w h)
  clear h
  go_enter Tryz.func20, Tryz.ntmps20
  go_wp2_with fail
  refine (HI.out _).mono ?_
  rintro e w1 ⟨rfl, hb⟩
  have HB := Lib.hid (S0.keep hb).bl
  clear S0 hb
  go_wp2_with fail
  go_ret
  exact ⟨rfl, HB.out⟩
/-- The canonical one of a number in the ninth place. -/
theorem nmay_some (b : Bool) (C : Int) (S : Nat) (zx u : Int) (w : World) (hC1 : -9223372036854775808 ≤ C) (hC2 : C ≤ 9223372036854775807) (hS : S ≤ 9) (hzx : C * ((10 ^ (18 - S) : Nat) : Int) = zx) (hu : evZ zx (10 ^ (18 - 9)) = u) (hb : decide (mE u 9 = 0 ∧ mC u 9 = C ∧ mS u 9 = S) = b) :
    Calls Tryz.prog 20 #[.agg #[.int .i64 C, .int .i64 (S : Int)]] w fun e w' => e = .returned (.bool b) ∧ Below w.heap.size w w' := by
  have S0 := (Mem.start w).push #[.int .i64 C, .int .i64 (S : Int)] 23
  have HI := Lib.hid (fun w => nis_yes C (S : Int) w (by omega) (by omega))
  have HP := Lib.hid (fun w => nput_any C S zx u w hC1 hC2 hS hzx hu)
  obtain ⟨c, hc⟩ : ∃ c, mC u 9 = c := ⟨_, rfl⟩
  obtain ⟨t, ht⟩ : ∃ t, mS u 9 = t := ⟨_, rfl⟩
  obtain ⟨e, he⟩ : ∃ e, mE u 9 = e := ⟨_, rfl⟩
  rw [hc, ht, he] at HP hb
  clear hzx hu hc ht he
  by_cases h : e = 0
  · subst h
    by_cases h1 : c = C
    · subst h1
      by_cases h2 : t = S
      · subst h2
        have hbt : b = true := by rw [← hb]; simp
        subst hbt
        clear hb
        go_enter Tryz.func20, Tryz.ntmps20
        go_wp2_with fail
        refine (HI.out _).mono ?_
        rintro e w1 ⟨rfl, hb⟩
        have S1 := S0.keep hb
        have x0 := S1.c 0 0 rfl rfl; have x1 := S1.c 0 1 rfl rfl
        clear S0 hb
        go_wp2_with fail
        refine (HP.out _).mono ?_
        rintro e w2 ⟨rfl, hb⟩
        have S2 := (S1.keep hb).push #[.int .i64 c, .int .i64 (t : Int)] 23
        have HB := Lib.hid S2.bl
        clear x0 x1
        have x0 := S2.c 0 0 rfl rfl; have x1 := S2.c 0 1 rfl rfl; have y0 := S2.c 1 0 rfl rfl; have y1 := S2.c 1 1 rfl rfl
        clear S1 S2 hb
        go_wp2_with fail
        go_ret
        exact ⟨rfl, HB.out⟩
      · have hbt : b = false := by rw [← hb]; simp [h2]
        subst hbt
        have h3 : ((S : Int) == (t : Int)) = false := by rw [beq_eq_false_iff_ne]; omega
        clear hb h2
        go_enter Tryz.func20, Tryz.ntmps20
        go_wp2_with fail
        refine (HI.out _).mono ?_
        rintro e w1 ⟨rfl, hb⟩
        have S1 := S0.keep hb
        have x0 := S1.c 0 0 rfl rfl; have x1 := S1.c 0 1 rfl rfl
        clear S0 hb
        go_wp2_with fail
        refine (HP.out _).mono ?_
        rintro e w2 ⟨rfl, hb⟩
        have S2 := (S1.keep hb).push #[.int .i64 c, .int .i64 (t : Int)] 23
        have HB := Lib.hid S2.bl
        clear x0 x1
        have x0 := S2.c 0 0 rfl rfl; have x1 := S2.c 0 1 rfl rfl; have y0 := S2.c 1 0 rfl rfl; have y1 := S2.c 1 1 rfl rfl
        clear S1 S2 hb
        go_wp2_with fail
        go_ret
        exact ⟨rfl, HB.out⟩
    · have hbt : b = false := by rw [← hb]; simp [h1]
      subst hbt
      have h3 : (C == c) = false := by rw [beq_eq_false_iff_ne]; omega
      clear hb h1
      go_enter Tryz.func20, Tryz.ntmps20
      go_wp2_with fail
      refine (HI.out _).mono ?_
      rintro e w1 ⟨rfl, hb⟩
      have S1 := S0.keep hb
      have x0 := S1.c 0 0 rfl rfl; have x1 := S1.c 0 1 rfl rfl
      clear S0 hb
      go_wp2_with fail
      refine (HP.out _).mono ?_
      rintro e w2 ⟨rfl, hb⟩
      have S2 := (S1.keep hb).push #[.int .i64 c, .int .i64 (t : Int)] 23
      have HB := Lib.hid S2.bl
      clear x0 x1
      have x0 := S2.c 0 0 rfl rfl; have x1 := S2.c 0 1 rfl rfl; have y0 := S2.c 1 0 rfl rfl; have y1 := S2.c 1 1 rfl rfl
      clear S1 S2 hb
      go_wp2_with fail
      go_ret
      exact ⟨rfl, HB.out⟩
  · have hbt : b = false := by rw [← hb]; simp [h]
    subst hbt
    have h3 : (e == 0) = false := by rw [beq_eq_false_iff_ne]; omega
    clear hb h
    go_enter Tryz.func20, Tryz.ntmps20
    go_wp2_with fail
    refine (HI.out _).mono ?_
    rintro e' w1 ⟨rfl, hb⟩
    have S1 := S0.keep hb
    have x0 := S1.c 0 0 rfl rfl; have x1 := S1.c 0 1 rfl rfl
    clear S0 hb
    go_wp2_with fail
    refine (HP.out _).mono ?_
    rintro e' w2 ⟨rfl, hb⟩
    have S2 := (S1.keep hb).push #[.int .i64 c, .int .i64 (t : Int)] 23
    have HB := Lib.hid S2.bl
    clear S1 S2 hb x0 x1
    go_wp2_with fail
    go_ret
    exact ⟨rfl, HB.out⟩
end Go.Proofs.YtgojfonnikgboaaGreatDoor
namespace Corr
set_option maxRecDepth 8000
open Go Go.RowKit
/-- A value of the layers' as a value. -/
abbrev vlV (K C S E : Int) : Value := .agg #[.int .u8 K, .int .i64 C, .int .i64 S, .int .i64 E]
/-- May a decimal be: a canonical one? -/
def mayD (C S : Int) : Bool := decide (0 ≤ S ∧ S ≤ 9 ∧ (S = 0 ∨ ¬ C % 10 = 0))
/-- May a value be? -/
def mayV (K C S E : Int) : Bool :=
  if K = 0 ∨ K = 2 ∨ K = 3 then (decide (C = 0 ∧ S = 0) && decide (E = 0))
  else if K = 1 then (mayD C S && decide (E = 0))
  else if K = 4 then (decide (C = 0 ∧ S = 0) && (decide (E = 11) || decide (E = 12) || decide (E = 13)))
  else false
theorem mayD_put {C : Int} {S : Nat} (h1 : -9223372036854775808 ≤ C) (h2 : C ≤ 9223372036854775807) (hS : S ≤ 9) : decide (mE (nine C S) 9 = 0 ∧ mC (nine C S) 9 = C ∧ mS (nine C S) 9 = S) = mayD C (S : Int) := by
  unfold mayD
  rw [decide_eq_decide]
  constructor
  · rintro ⟨_, e2, e3⟩
    obtain ⟨c, u, hc, hu, _, _, _, _, h⟩ := put_fit h1 h2 hS
    rw [e2] at hc; rw [e3] at hu
    subst hc hu
    exact ⟨by omega, by omega, by omega⟩
  · rintro ⟨_, _, h⟩
    obtain ⟨a, b, c⟩ := put_canon h1 h2 hS (by omega)
    exact ⟨c, a, b⟩
theorem retb {a b : Bool} (h : a = b) : Ending.returned (.bool a) = .returned (.bool b) := by rw [h]
end Corr
namespace Go.Proofs.YtgojfonnikgboaaGreatDoor
set_option maxRecDepth 8000
open Go.RowKit Corr
set_option linter.unusedVariables false
set_option linter.unusedSimpArgs false
theorem nmay_dec (C S : Int) (w : World) (h1 : -9223372036854775808 ≤ C) (h2 : C ≤ 9223372036854775807) : Calls Tryz.prog 20 #[.agg #[.int .i64 C, .int .i64 S]] w fun e w' => e = .returned (.bool (mayD C S)) ∧ Below w.heap.size w w' := by
  by_cases h : 0 ≤ S ∧ S ≤ 9
  · obtain ⟨n, rfl⟩ : ∃ n : Nat, S = (n : Int) := ⟨S.toNat, by omega⟩
    exact nmay_some _ C n _ _ w h1 h2 (by omega) rfl (ev_nine (by omega)) (mayD_put h1 h2 (by omega))
  · rw [show mayD C S = false by unfold mayD; rw [decide_eq_false_iff_not]; omega]
    exact nmay_none C S w (by omega)
set_option maxHeartbeats 4000000 in
theorem vmay_any (K C S E : Int) (w : World) (h1 : -9223372036854775808 ≤ C) (h2 : C ≤ 9223372036854775807) : Calls Tryz.prog 7 #[vlV K C S E] w fun e w' => e = .returned (.bool (mayV K C S E)) ∧ Below w.heap.size w w' := by
  have HB := Lib.hid (((Below.refl w.heap.size w).alloc (Nat.le_refl _) (.cells #[.int .u8 K, .int .i64 C, .int .i64 S, .int .i64 E] 26)).alloc (by simp) (.cells #[.int .i64 0, .int .i64 0] 23))
  have HD := Lib.hid (fun w => nmay_dec C S w h1 h2)
  clear h1 h2
  by_cases k0 : K = 0
  · subst k0
    by_cases p1 : C = 0
    · by_cases p2 : S = 0
      · have HF := Lib.hid (show (E == 0) = mayV 0 C S E by unfold mayV; rw [if_pos (by decide)]; rw [decide_eq_true ⟨p1, p2⟩, Bool.true_and, Bool.eq_iff_iff]; simp)
        have d1 : (C == 0) = true := by simpa using p1
        have d2 : (S == 0) = true := by simpa using p2
        clear HD p1 p2
        go_enter Tryz.func7, Tryz.ntmps7
        go_wp2_with fail
        go_ret
        exact ⟨retb HF.out, HB.out⟩
      · have HF := Lib.hid (show false = mayV 0 C S E by unfold mayV; rw [if_pos (by decide)]; rw [decide_eq_false (fun h => p2 h.2)]; rfl)
        have d1 : (C == 0) = true := by simpa using p1
        have d2 : (S == 0) = false := by simpa using p2
        clear HD p1 p2
        go_enter Tryz.func7, Tryz.ntmps7
        go_wp2_with fail
        go_ret
        exact ⟨retb HF.out, HB.out⟩
    · have HF := Lib.hid (show false = mayV 0 C S E by unfold mayV; rw [if_pos (by decide)]; rw [decide_eq_false (fun h => p1 h.1)]; rfl)
      have d1 : (C == 0) = false := by simpa using p1
      clear HD p1
      go_enter Tryz.func7, Tryz.ntmps7
      go_wp2_with fail
      go_ret
      exact ⟨retb HF.out, HB.out⟩
  · by_cases k1 : K = 1
    · subst k1
      have HF := Lib.hid (show (mayD C S && (E == 0)) = mayV 1 C S E by unfold mayV; rw [if_neg (by decide), if_pos rfl]; rw [Bool.eq_iff_iff]; simp)
      generalize mayD C S = m at *
      cases m
      · have HF := Lib.hid (show false = mayV 1 C S E from HF.out)
        go_enter Tryz.func7, Tryz.ntmps7
        go_wp2_with fail
        refine (HD.out _).mono ?_
        rintro e w1 ⟨rfl, hb⟩
        have HX := (Blk.new w #[.int .u8 1, .int .i64 C, .int .i64 S, .int .i64 E] 26).keep (((Below.refl _ _).alloc (Nat.le_refl _) (.cells #[.int .i64 0, .int .i64 0] 23)).trans (hb.mono (by simp)))
        have x3 := HX.get 3 rfl
        have HB2 := Lib.hid (HB.out.trans (hb.mono HB.out.size))
        clear hb HX
        go_wp2_with fail
        go_ret
        exact ⟨retb HF.out, HB2.out⟩
      · have HF := Lib.hid (show (E == 0) = mayV 1 C S E from HF.out)
        go_enter Tryz.func7, Tryz.ntmps7
        go_wp2_with fail
        refine (HD.out _).mono ?_
        rintro e w1 ⟨rfl, hb⟩
        have HX := (Blk.new w #[.int .u8 1, .int .i64 C, .int .i64 S, .int .i64 E] 26).keep (((Below.refl _ _).alloc (Nat.le_refl _) (.cells #[.int .i64 0, .int .i64 0] 23)).trans (hb.mono (by simp)))
        have x3 := HX.get 3 rfl
        have HB2 := Lib.hid (HB.out.trans (hb.mono HB.out.size))
        clear hb HX
        go_wp2_with fail
        go_ret
        exact ⟨retb HF.out, HB2.out⟩
    · by_cases k2 : K = 2
      · subst k2
        by_cases p1 : C = 0
        · by_cases p2 : S = 0
          · have HF := Lib.hid (show (E == 0) = mayV 2 C S E by unfold mayV; rw [if_pos (by decide)]; rw [decide_eq_true ⟨p1, p2⟩, Bool.true_and, Bool.eq_iff_iff]; simp)
            have d1 : (C == 0) = true := by simpa using p1
            have d2 : (S == 0) = true := by simpa using p2
            clear HD p1 p2
            go_enter Tryz.func7, Tryz.ntmps7
            go_wp2_with fail
            go_ret
            exact ⟨retb HF.out, HB.out⟩
          · have HF := Lib.hid (show false = mayV 2 C S E by unfold mayV; rw [if_pos (by decide)]; rw [decide_eq_false (fun h => p2 h.2)]; rfl)
            have d1 : (C == 0) = true := by simpa using p1
            have d2 : (S == 0) = false := by simpa using p2
            clear HD p1 p2
            go_enter Tryz.func7, Tryz.ntmps7
            go_wp2_with fail
            go_ret
            exact ⟨retb HF.out, HB.out⟩
        · have HF := Lib.hid (show false = mayV 2 C S E by unfold mayV; rw [if_pos (by decide)]; rw [decide_eq_false (fun h => p1 h.1)]; rfl)
          have d1 : (C == 0) = false := by simpa using p1
          clear HD p1
          go_enter Tryz.func7, Tryz.ntmps7
          go_wp2_with fail
          go_ret
          exact ⟨retb HF.out, HB.out⟩
      · by_cases k3 : K = 3
        · subst k3
          by_cases p1 : C = 0
          · by_cases p2 : S = 0
            · have HF := Lib.hid (show (E == 0) = mayV 3 C S E by unfold mayV; rw [if_pos (by decide)]; rw [decide_eq_true ⟨p1, p2⟩, Bool.true_and, Bool.eq_iff_iff]; simp)
              have d1 : (C == 0) = true := by simpa using p1
              have d2 : (S == 0) = true := by simpa using p2
              clear HD p1 p2
              go_enter Tryz.func7, Tryz.ntmps7
              go_wp2_with fail
              go_ret
              exact ⟨retb HF.out, HB.out⟩
            · have HF := Lib.hid (show false = mayV 3 C S E by unfold mayV; rw [if_pos (by decide)]; rw [decide_eq_false (fun h => p2 h.2)]; rfl)
              have d1 : (C == 0) = true := by simpa using p1
              have d2 : (S == 0) = false := by simpa using p2
              clear HD p1 p2
              go_enter Tryz.func7, Tryz.ntmps7
              go_wp2_with fail
              go_ret
              exact ⟨retb HF.out, HB.out⟩
          · have HF := Lib.hid (show false = mayV 3 C S E by unfold mayV; rw [if_pos (by decide)]; rw [decide_eq_false (fun h => p1 h.1)]; rfl)
            have d1 : (C == 0) = false := by simpa using p1
            clear HD p1
            go_enter Tryz.func7, Tryz.ntmps7
            go_wp2_with fail
            go_ret
            exact ⟨retb HF.out, HB.out⟩
        · by_cases k4 : K = 4
          · subst k4
            by_cases p1 : C = 0
            · have d1 : (C == 0) = true := by simpa using p1
              by_cases p2 : S = 0
              · have d2 : (S == 0) = true := by simpa using p2
                have HG := Lib.hid (show (decide (E = 11) || decide (E = 12) || decide (E = 13)) = mayV 4 C S E by unfold mayV; rw [if_neg (by decide), if_neg (by decide), if_pos rfl]; rw [show decide (C = 0 ∧ S = 0) = true from decide_eq_true ⟨p1, p2⟩, Bool.true_and])
                clear HD p1 p2
                by_cases p3 : E = 11
                · have HF := Lib.hid (show true = mayV 4 C S E by rw [← HG.out]; rw [decide_eq_true p3]; rfl)
                  have d3 : (E == 11) = true := by simpa using p3
                  clear HG p3
                  go_enter Tryz.func7, Tryz.ntmps7
                  go_wp2_with fail
                  go_ret
                  exact ⟨retb HF.out, HB.out⟩
                · by_cases p4 : E = 12
                  · have HF := Lib.hid (show true = mayV 4 C S E by rw [← HG.out]; rw [decide_eq_true p4]; simp)
                    have d3 : (E == 11) = false := by simpa using p3
                    have d4 : (E == 12) = true := by simpa using p4
                    clear HG p3 p4
                    go_enter Tryz.func7, Tryz.ntmps7
                    go_wp2_with fail
                    go_ret
                    exact ⟨retb HF.out, HB.out⟩
                  · have HF := Lib.hid (show (E == 13) = mayV 4 C S E by rw [← HG.out]; rw [decide_eq_false p3, decide_eq_false p4, Bool.false_or, Bool.false_or, Bool.eq_iff_iff]; simp)
                    have d3 : (E == 11) = false := by simpa using p3
                    have d4 : (E == 12) = false := by simpa using p4
                    clear HG p3 p4
                    go_enter Tryz.func7, Tryz.ntmps7
                    go_wp2_with fail
                    go_ret
                    exact ⟨retb HF.out, HB.out⟩
              · have HF := Lib.hid (show false = mayV 4 C S E by unfold mayV; rw [if_neg (by decide), if_neg (by decide), if_pos rfl]; rw [decide_eq_false (fun h => p2 h.2)]; rfl)
                have d2 : (S == 0) = false := by simpa using p2
                clear HD p1 p2
                go_enter Tryz.func7, Tryz.ntmps7
                go_wp2_with fail
                go_ret
                exact ⟨retb HF.out, HB.out⟩
            · have HF := Lib.hid (show false = mayV 4 C S E by unfold mayV; rw [if_neg (by decide), if_neg (by decide), if_pos rfl]; rw [decide_eq_false (fun h => p1 h.1)]; rfl)
              have d1 : (C == 0) = false := by simpa using p1
              clear HD p1
              go_enter Tryz.func7, Tryz.ntmps7
              go_wp2_with fail
              go_ret
              exact ⟨retb HF.out, HB.out⟩
          · have e0 : (K == 0) = false := by simpa using k0
            have e1 : (K == 1) = false := by simpa using k1
            have e2 : (K == 2) = false := by simpa using k2
            have e3 : (K == 3) = false := by simpa using k3
            have e4 : (K == 4) = false := by simpa using k4
            have HF := Lib.hid (show false = mayV K C S E by unfold mayV; rw [if_neg (by omega), if_neg k1, if_neg k4])
            clear HD k0 k1 k2 k3 k4
            go_enter Tryz.func7, Tryz.ntmps7
            go_wp2_with fail
            go_ret
            exact ⟨retb HF.out, HB.out⟩
end Go.Proofs.YtgojfonnikgboaaGreatDoor

/- Contracts of package decimal: is, units, fit, rounded. (Written by wip/gen/gendc1.py.) -/
import Derived.Test.YtgojfonnikgboaaDoorDecMath
import Derived.Test.YtgojfonnikgboaaDoorWideX
import Derived.Test.YtgojfonnikgboaaDoorRowRel
namespace Go.Proofs.YtgojfonnikgboaaDoor
set_option maxRecDepth 8000
open Go.RowKit Corr
set_option linter.unusedVariables false
theorem quo_even {s : Bool} {n : Nat} {z : Int} (hz : val s n = z) (h : z % 10 = 0) : val s (quoN n 10) = z / 10 := by
  subst hz
  unfold quoN
  cases s <;> simp [val] at h ⊢ <;> omega
theorem rem_even {s : Bool} {n : Nat} {z : Int} (hz : val s n = z) : remN n 10 = 0 ↔ z % 10 = 0 := by
  subst hz
  unfold remN
  cases s <;> simp [val] <;> omega
theorem of_abs {z : Int} {b : Bool} {h l : Nat} (e1 : negB z = b) (e2 : hiW z.natAbs = h) (e3 : loW z.natAbs = l) : val b (nat2 h l) = z := by subst e1 e2 e3; exact val_ZW z
theorem hi_of {z : Int} {h : Nat} (hz : z.natAbs < B128) (e2 : hiW z.natAbs = h) : h < B64 := by subst e2; exact hiW_lt hz
theorem lo_of {z : Int} {l : Nat} (e3 : loW z.natAbs = l) : l < B64 := by subst e3; exact loW_lt _
theorem dis_yes (C S : Int) (w : World) (h0 : 0 ≤ S) (h9 : S ≤ 9) : Calls Tryd.prog 18 #[.agg #[.int .i64 C, .int .i64 S]] w fun e w' => e = .returned (.bool true) ∧ Below w.heap.size w w' := by
  go_enter Tryd.func18, Tryd.ntmps18
  go_wp2_with fail
  go_ret
  exact ⟨rfl, (Below.refl _ _).alloc (Nat.le_refl _) _⟩
theorem dis_no (C S : Int) (w : World) (h : S < 0 ∨ 9 < S) : Calls Tryd.prog 18 #[.agg #[.int .i64 C, .int .i64 S]] w fun e w' => e = .returned (.bool false) ∧ Below w.heap.size w w' := by
  rcases h with h | h
  · go_enter Tryd.func18, Tryd.ntmps18
    go_wp2_with fail
    go_ret
    exact ⟨rfl, (Below.refl _ _).alloc (Nat.le_refl _) _⟩
  · have h0 : 0 ≤ S := by omega
    have h1 : decide (S ≤ 9) = false := decide_eq_false (by omega)
    go_enter Tryd.func18, Tryd.ntmps18
    go_wp2_with fail
    go_ret
    exact ⟨rfl, (Below.refl _ _).alloc (Nat.le_refl _) _⟩

set_option maxHeartbeats 4000000 in
theorem dfit_any (b0 : Bool) (h0 l0 s0 : Nat) (u0 : Int) (w : World) (hh0 : h0 < B64) (hl0 : l0 < B64) (hs : s0 ≤ 18) (hu : val b0 (nat2 h0 l0) = u0) :
    Calls Tryd.prog 19 #[WV b0 h0 l0, .int .i64 (s0 : Int)] w fun e w' => e = .returned (.tuple #[.agg #[.int .i64 (mC u0 s0), .int .i64 (mS u0 s0 : Int)], .int .i64 (mE u0 s0)]) ∧ Below w.heap.size w w' := by
  have S0 := ((Mem.start w).push #[.bool b0, .int .u64 (h0 : Int), .int .u64 (l0 : Int)] 50).push #[.int .i64 0, .int .i64 0] 23
  simp only [size_alloc] at S0
  have HU0 := Lib.hid hu
  clear hu
  go_enter Tryd.func19, Tryd.ntmps19
  go_wp2_with fail
  go_step3
  go_wp2_with fail
  go_step3
  go_wp2_with fail
  go_loopg [1] s0 (fun k t wr => ∃ (s : Nat) (b : Bool) (h l : Nat) (u : Int), t = .int .i64 (s : Int) ∧ s = k ∧ s ≤ 18 ∧ h < B64 ∧ l < B64 ∧ Hid (val b (nat2 h l) = u) ∧ Hid (strip u s = strip u0 s0) ∧ Mem w wr [(w.heap.size, #[.bool b, .int .u64 (h : Int), .int .u64 (l : Int)]), (w.heap.size + 1, #[.int .i64 0, .int .i64 0])] [])
  case atStart => exact ⟨s0, b0, h0, l0, u0, rfl, rfl, hs, hh0, hl0, HU0, Lib.hid rfl, S0⟩
  case round =>
    obtain ⟨s, b, h, l, u, rfl, hsk, hs18, hh, hl, HU, HINV, S⟩ := hrel
    clear S0
    subst hsk
    have HDV := Lib.hid (fun w => div_w b _ h l 10 _ _ _ _ w hh hl (by decide) (by decide) rfl rfl rfl rfl rfl)
    obtain ⟨bq, hq, lq, r, hd1, hd2, hd3, hd4, hd5⟩ : ∃ (bq : Bool) (hq lq r : Nat), (∀ w, Calls Tryd.prog 31 #[WV b h l, .int .u64 (10 : Nat)] w fun e w' => e = .returned (.tuple #[WV bq hq lq, .int .u64 (r : Int), .int .i64 0]) ∧ Below w.heap.size w w') ∧ hq < B64 ∧ lq < B64 ∧ (u % 10 = 0 → val bq (nat2 hq lq) = u / 10) ∧ (r = 0 ↔ u % 10 = 0) := by
      refine ⟨_, _, _, _, HDV.out, hiW_lt ?_, loW_lt _, fun h10 => ?_, rem_even HU.out⟩
      · rw [natAbs_val]; exact Nat.lt_of_le_of_lt (Nat.div_le_self _ _) (nat2_lt hh hl)
      · rw [val_ZW]; exact quo_even HU.out h10
    clear HDV
    have HD := Lib.hid hd1
    have HQ := Lib.hid hd4
    have HR := Lib.hid hd5
    clear hd1 hd4 hd5
    have x0 := S.c 0 0 rfl rfl; have x1 := S.c 0 1 rfl rfl; have x2 := S.c 0 2 rfl rfl
    go_wp2_with fail
    refine (HD.out _).mono ?_
    rintro e w1 ⟨rfl, hb⟩
    have T := (S.keep hb).push #[.bool bq, .int .u64 (hq : Int), .int .u64 (lq : Int)] 50
    clear S hb x0 x1 x2
    by_cases hs0 : s = 0
    · subst hs0
      have HST := Lib.hid (strip_no (u := u) (s := 0) (.inl rfl))
      have S := T.take 2
      clear T
      have x0 := S.c 0 0 rfl rfl; have x1 := S.c 0 1 rfl rfl; have x2 := S.c 0 2 rfl rfl
      by_cases hf : -9223372036854775808 ≤ u ∧ u ≤ 9223372036854775807
      · have HV := Lib.hid (made_fit HST.out HINV.out hf)
        have HSM := Lib.hid (fun w' => small_ok b h l u w' hl HU.out hf.1 hf.2)
        clear hf
        go_wp2_with fail
        refine (HSM.out _).mono ?_
        rintro e w9 ⟨rfl, hb9⟩
        have S9 := S.keep hb9
        have z0 := S9.c 1 0 rfl rfl; have z1 := S9.c 1 1 rfl rfl; have z2 := S9.f 1 0 rfl; have z3 := S9.f 1 1 rfl
        have HF := Lib.hid (S9.put20 1 rfl (.int .i64 u) (.int .i64 0))
        clear S S9 hb9 x0 x1 x2
        go_wp2_with fail
        rw [Exit.noGoto_ret]
        exact bodyPost_ret (v := .tuple #[.agg #[.int .i64 u, .int .i64 0], .int .i64 0]) (by simp [results, Tryd.results19, go_sem, z0, z1]) rfl ⟨by rw [HV.out.1, HV.out.2.1, HV.out.2.2]; rfl, HF.out.bl⟩
      · have HV := Lib.hid (made_over HST.out HINV.out hf)
        have HSM := Lib.hid (fun w' => small_no b h l u w' hl HU.out hf)
        clear hf
        go_wp2_with fail
        refine (HSM.out _).mono ?_
        rintro e w9 ⟨rfl, hb9⟩
        have S9 := S.keep hb9
        have z0 := S9.c 1 0 rfl rfl; have z1 := S9.c 1 1 rfl rfl; have z2 := S9.f 1 0 rfl; have z3 := S9.f 1 1 rfl
        have HF := Lib.hid (S9.put20 1 rfl (.int .i64 0) (.int .i64 0))
        clear S S9 hb9 x0 x1 x2
        go_wp2_with fail
        rw [Exit.noGoto_ret]
        exact bodyPost_ret (v := .tuple #[.agg #[.int .i64 0, .int .i64 0], .int .i64 11]) (by simp [results, Tryd.results19, go_sem, z0, z1]) rfl ⟨by rw [HV.out.1, HV.out.2.1, HV.out.2.2]; rfl, HF.out.bl⟩
    · obtain ⟨j, rfl⟩ : ∃ j, s = j + 1 := ⟨s - 1, by omega⟩
      clear hs0
      by_cases hr : r = 0
      · have h10 := HR.out.1 hr
        subst hr
        have HI2 := Lib.hid (show strip (u / 10) j = strip u0 s0 by rw [← HINV.out]; exact (strip_yes j h10).symm)
        have HU2 := Lib.hid (HQ.out h10)
        have ua := T.c 0 0 rfl rfl; have ub := T.c 0 1 rfl rfl; have uc := T.c 0 2 rfl rfl; have ud := T.f 0 0 rfl; have ue := T.f 0 1 rfl; have uf := T.f 0 2 rfl
        have HM := Lib.hid ((T.put3 0 rfl rfl (.bool bq) (.int .u64 (hq : Int)) (.int .u64 (lq : Int)) rfl rfl).take 2)
        clear T h10
        go_wp2_with fail
        go_roundg j
        case measure => omega
        case rel => exact ⟨_, _, _, _, _, rfl, rfl, by omega, hd2, hd3, HU2, HI2, HM.out⟩
      · have HST := Lib.hid (strip_no (s := j + 1) (.inr (fun h => hr (HR.out.2 h))))
        have hr' : ((r : Int) != 0) = true := by rw [bne_iff_ne]; omega
        clear hr
        have S := T.take 2
        clear T
        have x0 := S.c 0 0 rfl rfl; have x1 := S.c 0 1 rfl rfl; have x2 := S.c 0 2 rfl rfl
        by_cases hf : -9223372036854775808 ≤ u ∧ u ≤ 9223372036854775807
        · have HV := Lib.hid (made_fit HST.out HINV.out hf)
          have HSM := Lib.hid (fun w' => small_ok b h l u w' hl HU.out hf.1 hf.2)
          clear hf
          go_wp2_with fail
          refine (HSM.out _).mono ?_
          rintro e w9 ⟨rfl, hb9⟩
          have S9 := S.keep hb9
          have z0 := S9.c 1 0 rfl rfl; have z1 := S9.c 1 1 rfl rfl; have z2 := S9.f 1 0 rfl; have z3 := S9.f 1 1 rfl
          have HF := Lib.hid (S9.put20 1 rfl (.int .i64 u) (.int .i64 ((j : Int) + 1)))
          clear S S9 hb9 x0 x1 x2
          go_wp2_with fail
          rw [Exit.noGoto_ret]
          exact bodyPost_ret (v := .tuple #[.agg #[.int .i64 u, .int .i64 ((j : Int) + 1)], .int .i64 0]) (by simp [results, Tryd.results19, go_sem, z0, z1]) rfl ⟨by rw [HV.out.1, HV.out.2.1, HV.out.2.2]; rfl, HF.out.bl⟩
        · have HV := Lib.hid (made_over HST.out HINV.out hf)
          have HSM := Lib.hid (fun w' => small_no b h l u w' hl HU.out hf)
          clear hf
          go_wp2_with fail
          refine (HSM.out _).mono ?_
          rintro e w9 ⟨rfl, hb9⟩
          have S9 := S.keep hb9
          have z0 := S9.c 1 0 rfl rfl; have z1 := S9.c 1 1 rfl rfl; have z2 := S9.f 1 0 rfl; have z3 := S9.f 1 1 rfl
          have HF := Lib.hid (S9.put20 1 rfl (.int .i64 0) (.int .i64 0))
          clear S S9 hb9 x0 x1 x2
          go_wp2_with fail
          rw [Exit.noGoto_ret]
          exact bodyPost_ret (v := .tuple #[.agg #[.int .i64 0, .int .i64 0], .int .i64 11]) (by simp [results, Tryd.results19, go_sem, z0, z1]) rfl ⟨by rw [HV.out.1, HV.out.2.1, HV.out.2.2]; rfl, HF.out.bl⟩
end Go.Proofs.YtgojfonnikgboaaDoor

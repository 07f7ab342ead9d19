/- Contracts of package decimal: Put, Neg, Abs, Round, May, Of. (Written by wip/gen/gendc3.py.) -/
import Derived.Test.YtgojfonnikgboaaDoorDc1
namespace Go.Proofs.YtgojfonnikgboaaDoor
set_option maxRecDepth 8000
open Go.RowKit Corr
set_option linter.unusedVariables false

theorem dput_no (C S : Int) (w : World) (h : S < 0 ∨ 9 < S) :
    Calls Tryd.prog 13 #[.agg #[.int .i64 C, .int .i64 S]] w fun e w' => e = .returned (.tuple #[.agg #[.int .i64 0, .int .i64 0], .int .i64 2]) ∧ Below w.heap.size w w' := by
  have HI := Lib.hid (fun w => dis_no C S w h)
  clear h
  have S0 := ((Mem.start w).push #[.int .i64 C, .int .i64 S] 23).push #[.int .i64 0, .int .i64 0] 23
  simp only [size_alloc] at S0
  go_enter Tryd.func13, Tryd.ntmps13
  go_wp2_with fail
  refine (HI.out _).mono ?_
  rintro e w1 ⟨rfl, hb⟩
  have S1 := S0.keep hb
  clear S0 hb
  have za := S1.c 1 0 rfl rfl; have zb := S1.c 1 1 rfl rfl; have zc := S1.f 1 0 rfl; have zd := S1.f 1 1 rfl
  have HF := Lib.hid (S1.put20 1 rfl (.int .i64 0) (.int .i64 0))
  clear S1
  go_wp2_with fail
  exact bodyPost_ret (v := .tuple #[.agg #[.int .i64 0, .int .i64 0], .int .i64 2]) (by simp [results, Tryd.results13, go_sem, za, zb]) rfl ⟨rfl, HF.out.bl⟩
set_option maxHeartbeats 2000000 in
theorem dput_any (C : Int) (S : Nat) (u : Int) (w : World) (hC1 : -9223372036854775808 ≤ C) (hC2 : C ≤ 9223372036854775807) (hS : S ≤ 9) (hu : nine C S = u) :
    Calls Tryd.prog 13 #[.agg #[.int .i64 C, .int .i64 (S : Int)]] w fun e w' => e = .returned (.tuple #[.agg #[.int .i64 (mC u 9), .int .i64 (mS u 9 : Int)], .int .i64 (mE u 9)]) ∧ Below w.heap.size w w' := by
  obtain ⟨bo, ebo⟩ : ∃ x, negB C = x := ⟨_, rfl⟩
  obtain ⟨ho, eho⟩ : ∃ x, hiW (C).natAbs = x := ⟨_, rfl⟩
  obtain ⟨lo, elo⟩ : ∃ x, loW (C).natAbs = x := ⟨_, rfl⟩
  have HO := Lib.hid (fun w => of_w bo ho lo C w hC1 hC2 ebo eho elo)
  have HFT := Lib.hid (fun w => dfit_any bo ho lo S C w (hi_of (abs128 hC1 hC2) eho) (lo_of elo) (by omega) (of_abs ebo eho elo))
  have HM := made_at hS (show C * ((10 ^ (9 - S) : Nat) : Int) = u by rw [← hu]; rfl)
  obtain ⟨c, hc⟩ : ∃ c, mC u 9 = c := ⟨_, rfl⟩
  obtain ⟨t, ht⟩ : ∃ t, mS u 9 = t := ⟨_, rfl⟩
  obtain ⟨e, he⟩ : ∃ e, mE u 9 = e := ⟨_, rfl⟩
  rw [hc, ht, he] at HM
  rw [HM.1, HM.2.1, HM.2.2] at HFT
  rw [hc, ht, he]
  have HX := Lib.hid (fun w => dis_yes C (S : Int) w (by omega) (by omega))
  clear HM hu hc ht he ebo eho elo
  have S0 := ((Mem.start w).push #[.int .i64 C, .int .i64 (S : Int)] 23).push #[.int .i64 0, .int .i64 0] 23
  simp only [size_alloc] at S0
  go_enter Tryd.func13, Tryd.ntmps13
  go_wp2_with fail
  refine (HX.out _).mono ?_
  rintro e w1 ⟨rfl, hb⟩
  have S1 := S0.keep hb
  clear S0 hb
  go_upto_region 3 with fail
  refine wp_region_rel 8 (MemAt w w1.heap.size [(w.heap.size, #[.int .i64 C, .int .i64 (S : Int)]), (w.heap.size + 1, #[.int .i64 0, .int .i64 0])] [])
    (fun i => List.getD [VE (.pointer (some ⟨w.heap.size, 0, none⟩)), VE (.int .i64 C), VE (.agg #[.bool bo, .int .u64 (ho : Int), .int .u64 (lo : Int)]), VE (.pointer (some ⟨w.heap.size, 1, none⟩)), VE (.int .i64 (S : Int)), VE (.tuple #[.agg #[.int .i64 c, .int .i64 (t : Int)], .int .i64 e]), VE (.agg #[.int .i64 c, .int .i64 (t : Int)]), VE (.int .i64 e)] i (fun _ _ => False)) [] [0, 3, 6, 7] (by kernel_rfl) (by kernel_rfl) S1.at (fun _ _ h hb => h.grow hb)
    (stays_all (stays_cons (stays_VE _) (stays_cons (stays_VE _) (stays_cons (stays_VE _) (stays_cons (stays_VE _) (stays_cons (stays_VE _) (stays_cons (stays_VE _) (stays_cons (stays_VE _) (stays_cons (stays_VE _) stays_nil))))))))) ⟨?_, ?_, ?_, ?_, ?_, ?_, ?_, ?_, trivial⟩ ?_
  · intro ev wv hE hw hd
    refine ifw rfl (ifw rfl ?_)
    have v1 : ev (.tmp 1) = .pointer (some ⟨w.heap.size, 0, none⟩) := hE.tmp 1 rfl
    refine ⟨.pointer (some ⟨w.heap.size, 0, none⟩), fun w => ?_, rfl⟩
    have e1 := hE.const; have e2 := hE.func; clear hE hd hw
    go_simp
  · intro ev wv hE hw hd
    refine ifw rfl (ifn rfl ?_)
    have v8 : ev (.tmp 8) = .pointer (some ⟨w.heap.size, 0, none⟩) := hd 0 (by decide)
    have kx := hw.m.c 0 0 rfl rfl
    refine rel_val (u := .int .i64 C) (w' := wv) ?_ (Below.refl _ _) ⟨rfl, fun h => by cases h⟩
    have e1 := hE.const; clear hE hd hw
    go_simp
  · intro ev wv hE hw hd
    refine ifw rfl (ifn rfl ?_)
    have v9 : ev (.tmp 9) = .int .i64 C := hd 1 (by decide)
    refine rel_call (f := 20) (args := #[.int .i64 C]) ?_ (HO.out _) ?_
    · have e0 := hE.func; have e1 := hE.const; clear hE hd hw
      go_simp
    · rintro e w' ⟨rfl, hb⟩
      exact ⟨_, rfl, hb, rfl, fun h => by cases h⟩
  · intro ev wv hE hw hd
    refine ifw rfl (ifw rfl ?_)
    have v1 : ev (.tmp 1) = .pointer (some ⟨w.heap.size, 0, none⟩) := hE.tmp 1 rfl
    refine ⟨.pointer (some ⟨w.heap.size, 1, none⟩), fun w => ?_, rfl⟩
    have e1 := hE.const; have e2 := hE.func; clear hE hd hw
    go_simp
  · intro ev wv hE hw hd
    refine ifw rfl (ifn rfl ?_)
    have v11 : ev (.tmp 11) = .pointer (some ⟨w.heap.size, 1, none⟩) := hd 3 (by decide)
    have kx := hw.m.c 0 1 rfl rfl
    refine rel_val (u := .int .i64 (S : Int)) (w' := wv) ?_ (Below.refl _ _) ⟨rfl, fun h => by cases h⟩
    have e1 := hE.const; clear hE hd hw
    go_simp
  · intro ev wv hE hw hd
    refine ifw rfl (ifn rfl ?_)
    have v10 : ev (.tmp 10) = .agg #[.bool bo, .int .u64 (ho : Int), .int .u64 (lo : Int)] := hd 2 (by decide)
    have v12 : ev (.tmp 12) = .int .i64 (S : Int) := hd 4 (by decide)
    refine rel_call (f := 19) (args := #[.agg #[.bool bo, .int .u64 (ho : Int), .int .u64 (lo : Int)], .int .i64 (S : Int)]) ?_ (HFT.out _) ?_
    · have e0 := hE.func; have e1 := hE.const; clear hE hd hw
      go_simp
    · rintro e w' ⟨rfl, hb⟩
      exact ⟨_, rfl, hb, rfl, fun h => by cases h⟩
  · intro ev wv hE hw hd
    refine ifw rfl (ifw rfl ?_)
    have v13 : ev (.tmp 13) = .tuple #[.agg #[.int .i64 c, .int .i64 (t : Int)], .int .i64 e] := hd 5 (by decide)
    refine ⟨.agg #[.int .i64 c, .int .i64 (t : Int)], fun w => ?_, rfl⟩
    have e1 := hE.const; have e2 := hE.func; clear hE hd hw
    go_simp
  · intro ev wv hE hw hd
    refine ifw rfl (ifw rfl ?_)
    have v13 : ev (.tmp 13) = .tuple #[.agg #[.int .i64 c, .int .i64 (t : Int)], .int .i64 e] := hd 5 (by decide)
    refine ⟨.int .i64 e, fun w => ?_, rfl⟩
    have e1 := hE.const; have e2 := hE.func; clear hE hd hw
    go_simp
  · intro wz MZ
    intro v0 h0 _ v1 h1 _ v2 h2 _ v3 h3 _ v4 h4 _ v5 h5 _ v6 h6 _ v7 h7 _
    simp only [Act.put, List.setIfInBounds_toArray, List.set_cons_zero, List.set_cons_succ, List.drop_succ_cons, List.drop_zero]
    obtain rfl : v0 = _ := h0
    obtain rfl : v1 = _ := h1
    obtain rfl : v2 = _ := h2
    obtain rfl : v3 = _ := h3
    obtain rfl : v4 = _ := h4
    obtain rfl : v5 = _ := h5
    obtain rfl : v6 = _ := h6
    obtain rfl : v7 = _ := h7
    change wpList Tryd.prog _ _ _ _ wz
    have za := MZ.m.c 1 0 rfl rfl; have zb := MZ.m.c 1 1 rfl rfl; have zc := MZ.m.f 1 0 rfl; have zd := MZ.m.f 1 1 rfl
    have HF := Lib.hid (MZ.m.put20 1 rfl (.int .i64 c) (.int .i64 (t : Int)))
    clear MZ S1
    go_wp2_with fail
    refine calm_normal ?_
    go_wp2_with fail
    exact bodyPost_ret (v := .tuple #[.agg #[.int .i64 c, .int .i64 (t : Int)], .int .i64 e]) (by simp [results, Tryd.results13, go_sem, za, zb]) rfl ⟨rfl, HF.out.bl⟩
theorem dmay_none (C S : Int) (w : World) (h : S < 0 ∨ 9 < S) : Calls Tryd.prog 12 #[.agg #[.int .i64 C, .int .i64 S]] w fun e w' => e = .returned (.bool false) ∧ Below w.heap.size w w' := by
  have HI := Lib.hid (fun w => dis_no C S w h)
  clear h
  have S0 := (Mem.start w).push #[.int .i64 C, .int .i64 S] 23
  go_enter Tryd.func12, Tryd.ntmps12
  go_wp2_with fail
  refine (HI.out _).mono ?_
  rintro e w1 ⟨rfl, hb⟩
  have HB := Lib.hid (S0.keep hb).bl
  clear S0 hb
  go_wp2_with fail
  go_ret
  exact ⟨rfl, HB.out⟩
theorem dmay_some (b : Bool) (C : Int) (S : Nat) (w : World) (hC1 : -9223372036854775808 ≤ C) (hC2 : C ≤ 9223372036854775807) (hS : S ≤ 9) (hb : decide (S = 0 ∨ ¬ C % 10 = 0) = b) : Calls Tryd.prog 12 #[.agg #[.int .i64 C, .int .i64 (S : Int)]] w fun e w' => e = .returned (.bool b) ∧ Below w.heap.size w w' := by
  have HI := Lib.hid (fun w => dis_yes C (S : Int) w (by omega) (by omega))
  have S0 := (Mem.start w).push #[.int .i64 C, .int .i64 (S : Int)] 23
  by_cases h0 : S = 0
  · subst h0
    have hbt : b = true := by rw [← hb]; simp
    subst hbt
    clear hb
    go_enter Tryd.func12, Tryd.ntmps12
    go_wp2_with fail
    refine (HI.out _).mono ?_
    rintro e w1 ⟨rfl, hb⟩
    have S1 := S0.keep hb
    have HB := Lib.hid S1.bl
    have x0 := S1.c 0 0 rfl rfl; have x1 := S1.c 0 1 rfl rfl
    clear S0 S1 hb
    go_wp2_with fail
    go_ret
    exact ⟨rfl, HB.out⟩
  · obtain ⟨m, hm⟩ : ∃ m, C.tmod 10 = m := ⟨_, rfl⟩
    have hmb : (m != 0) = b := by
      have h2 : C.tmod 10 = 0 ↔ C % 10 = 0 := by rw [← Int.dvd_iff_tmod_eq_zero, ← Int.dvd_iff_emod_eq_zero]
      rw [← hb, ← hm, Bool.eq_iff_iff]
      simp [h0, h2]
    have HM := Lib.hid hm
    have HMB := Lib.hid hmb
    have h0' : ((S : Int) == 0) = false := by rw [beq_eq_false_iff_ne]; omega
    clear hb hm hmb h0
    go_enter Tryd.func12, Tryd.ntmps12
    go_wp2_with fail
    refine (HI.out _).mono ?_
    rintro e w1 ⟨rfl, hb⟩
    have S1 := S0.keep hb
    have HB := Lib.hid S1.bl
    have x0 := S1.c 0 0 rfl rfl; have x1 := S1.c 0 1 rfl rfl
    clear S0 S1 hb
    go_wp2_with fail
    go_ret
    exact ⟨by rw [HM.out, HMB.out]; rfl, HB.out⟩
end Go.Proofs.YtgojfonnikgboaaDoor

/- Contracts of corrodyref02: Cmp, Mul, Round, Put, Is. (Written by wip/gen/gendec4.py.) -/
import Derived.Test.YtgkogjlcecbfjaaDec3
namespace Go.Proofs.Ytgkogjlcecbfjaa
open Go.RowKit Corr
set_option linter.unusedVariables false
theorem ten_27 (w : World) : Calls Try.prog 30 #[.int .i64 27] w (RetN w false (digs (10 ^ 27))) := nten_any 27 w (by omega)

set_option maxHeartbeats 4000000 in
theorem ncmp02_any (C C' : Int) (S S' : Nat) (zx zy q : Int) (w : World) (hC1 : -9223372036854775808 ≤ C) (hC2 : C ≤ 9223372036854775807) (hS : S ≤ 9) (hC1' : -9223372036854775808 ≤ C') (hC2' : C' ≤ 9223372036854775807) (hS' : S' ≤ 9)
    (hzx : C * ((10 ^ (18 - S) : Nat) : Int) = zx) (hzy : C' * ((10 ^ (18 - S') : Nat) : Int) = zy) (hq : cmpI zx zy = q) :
    Calls Try.prog 44 #[.agg #[.int .i64 C, .int .i64 (S : Int)], .agg #[.int .i64 C', .int .i64 (S' : Int)]] w fun e w' => e = .returned (.int .i64 q) ∧ Below w.heap.size w w' := by
  have S0 := ((Mem.start w).push #[.int .i64 C, .int .i64 (S : Int)] 59).push #[.int .i64 C', .int .i64 (S' : Int)] 59
  simp only [size_alloc] at S0
  have HXA := Lib.hid (units_lt hC1 hC2 hzx); have HYA := Lib.hid (units_lt hC1' hC2' hzy)
  have HX := Lib.hid hzx; have HY := Lib.hid hzy; have HQ := Lib.hid hq
  clear hzx hzy hq
  go_enter Try.func44, Try.ntmps44
  go_upto_region 1 with fail
  refine wp_region_rel 6 (MemAt w (w.heap.size + 1 + 1) [(w.heap.size, #[.int .i64 C, .int .i64 (S : Int)]), (w.heap.size + 1, #[.int .i64 C', .int .i64 (S' : Int)])] [])
    (fun i => List.getD [VE (.agg #[.int .i64 C, .int .i64 (S : Int)]), VN (negB zx) (zx.natAbs), VE (.agg #[.int .i64 C', .int .i64 (S' : Int)]), VN (negB zy) (zy.natAbs), VE (.int .i64 q), VE (.int .i64 q)] i (fun _ _ => False)) [] [5] (by kernel_rfl) (by kernel_rfl) ⟨S0.drew, by simp⟩ (fun _ _ h hb => h.grow hb)
    (stays_all (stays_cons (stays_VE _) (stays_cons (stays_VN _ _) (stays_cons (stays_VE _) (stays_cons (stays_VN _ _) (stays_cons (stays_VE _) (stays_cons (stays_VE _) stays_nil))))))) ⟨?_, ?_, ?_, ?_, ?_, ?_, trivial⟩ ?_
  · intro ev wv hE hw hd
    refine ifw rfl (ifn rfl ?_)
    have v2 : ev (.tmp 2) = .pointer (some ⟨w.heap.size, 0, none⟩) := hE.tmp 2 rfl
    have kx := hw.m.c 0 0 rfl rfl
    have ky := hw.m.c 0 1 rfl rfl
    refine rel_val (u := .agg #[.int .i64 C, .int .i64 (S : Int)]) (w' := wv) ?_ (Below.refl _ _) ⟨rfl, fun h => by cases h⟩
    have e1 := hE.const; clear hE hd hw
    go_simp
  · intro ev wv hE hw hd
    refine ifw rfl (ifn rfl ?_)
    have v5 : ev (.tmp 5) = .agg #[.int .i64 C, .int .i64 (S : Int)] := hd 0 (by decide)
    refine rel_call (f := 78) (args := #[.agg #[.int .i64 C, .int .i64 (S : Int)]]) ?_ (nunits_any C S zx _ hC1 hC2 hS HX.out) ?_
    · have e0 := hE.func; have e1 := hE.const; clear hE hd hw
      go_simp
    · rintro e w' ⟨A, k, c, rfl, R, hb⟩
      exact ⟨_, rfl, hb, ⟨A, k, c, rfl, R⟩, fun h => by cases h⟩
  · intro ev wv hE hw hd
    refine ifw rfl (ifn rfl ?_)
    have v3 : ev (.tmp 3) = .pointer (some ⟨w.heap.size + 1, 0, none⟩) := hE.tmp 3 rfl
    have kx := hw.m.c 1 0 rfl rfl
    have ky := hw.m.c 1 1 rfl rfl
    refine rel_val (u := .agg #[.int .i64 C', .int .i64 (S' : Int)]) (w' := wv) ?_ (Below.refl _ _) ⟨rfl, fun h => by cases h⟩
    have e1 := hE.const; clear hE hd hw
    go_simp
  · intro ev wv hE hw hd
    refine ifw rfl (ifn rfl ?_)
    have v7 : ev (.tmp 7) = .agg #[.int .i64 C', .int .i64 (S' : Int)] := hd 2 (by decide)
    refine rel_call (f := 78) (args := #[.agg #[.int .i64 C', .int .i64 (S' : Int)]]) ?_ (nunits_any C' S' zy _ hC1' hC2' hS' HY.out) ?_
    · have e0 := hE.func; have e1 := hE.const; clear hE hd hw
      go_simp
    · rintro e w' ⟨A, k, c, rfl, R, hb⟩
      exact ⟨_, rfl, hb, ⟨A, k, c, rfl, R⟩, fun h => by cases h⟩
  · intro ev wv hE hw hd
    refine ifw rfl (ifn rfl ?_)
    obtain ⟨xA1, xk1, xc1, v6, xR1⟩ : VN (negB zx) (zx.natAbs) (ev (.tmp 6)) wv := hd 1 (by decide)
    obtain ⟨xA3, xk3, xc3, v8, xR3⟩ : VN (negB zy) (zy.natAbs) (ev (.tmp 8)) wv := hd 3 (by decide)
    refine rel_call (f := 23) (args := #[.agg #[.bool (negB zx), .slice xA1 xk1 xc1], .agg #[.bool (negB zy), .slice xA3 xk3 xc3]]) ?_ (ncmp_any _ _ _ _ _ _ _ _ zx.natAbs zy.natAbs _ xR1 xR3 (by have := row_le (k := 13) xR1 (Nat.lt_of_lt_of_le HXA.out (by decide)); omega) (by have := row_le (k := 13) xR3 (Nat.lt_of_lt_of_le HYA.out (by decide)); omega)) ?_
    · have e0 := hE.func; have e1 := hE.const; clear hE hd hw
      go_simp
    · rintro e w' ⟨rfl, hb⟩
      exact ⟨_, rfl, hb, (by rw [val_neg, val_neg, HQ.out]; rfl), fun h => by cases h⟩
  · intro ev wv hE hw hd
    refine ifw rfl (ifw rfl ?_)
    have v9 : ev (.tmp 9) = .int .i64 q := hd 4 (by decide)
    refine ⟨.int .i64 q, fun w => ?_, rfl⟩
    have e1 := hE.const; have e2 := hE.func; clear hE hd hw
    go_simp
  · intro w1 M1
    intro v0 h0 _ v1 h1 _ v2 h2 _ v3 h3 _ v4 h4 _ v5 h5 _
    simp only [Act.put, List.setIfInBounds_toArray, List.set_cons_zero, List.set_cons_succ, List.drop_succ_cons, List.drop_zero]
    obtain rfl : v0 = _ := h0
    obtain ⟨xA1, xk1, xc1, rfl, xR1⟩ : VN (negB zx) (zx.natAbs) v1 w1 := h1
    obtain rfl : v2 = _ := h2
    obtain ⟨xA3, xk3, xc3, rfl, xR3⟩ : VN (negB zy) (zy.natAbs) v3 w1 := h3
    obtain rfl : v4 = _ := h4
    obtain rfl : v5 = _ := h5
    change wpList Try.prog _ _ _ _ w1
    have HB := Lib.hid M1.m.bl
    clear xR1 xR3 M1 S0
    refine calm_normal ?_
    go_wp2_with fail
    go_ret
    exact ⟨rfl, HB.out⟩

set_option maxHeartbeats 4000000 in
theorem nmul02_any (C C' : Int) (S S' : Nat) (zx zy u : Int) (w : World) (hC1 : -9223372036854775808 ≤ C) (hC2 : C ≤ 9223372036854775807) (hS : S ≤ 9) (hC1' : -9223372036854775808 ≤ C') (hC2' : C' ≤ 9223372036854775807) (hS' : S' ≤ 9)
    (hzx : C * ((10 ^ (18 - S) : Nat) : Int) = zx) (hzy : C' * ((10 ^ (18 - S') : Nat) : Int) = zy) (hu : evZ (zx * zy) (10 ^ 27) = u) :
    Calls Try.prog 43 #[.agg #[.int .i64 C, .int .i64 (S : Int)], .agg #[.int .i64 C', .int .i64 (S' : Int)]] w fun e w' => e = .returned (.tuple #[.agg #[.int .i64 (mC u 9), .int .i64 (mS u 9 : Int)], .int .i64 (mE u 9)]) ∧ Below w.heap.size w w' := by
  have S0 := (((Mem.start w).push #[.int .i64 C, .int .i64 (S : Int)] 59).push #[.int .i64 C', .int .i64 (S' : Int)] 59).push #[.int .i64 0, .int .i64 0] 59
  simp only [size_alloc] at S0
  obtain ⟨c, hc⟩ : ∃ c, mC u 9 = c := ⟨_, rfl⟩
  obtain ⟨t, ht⟩ : ∃ t, mS u 9 = t := ⟨_, rfl⟩
  obtain ⟨e, he⟩ : ∃ e, mE u 9 = e := ⟨_, rfl⟩
  obtain ⟨bz, hbz⟩ : ∃ b, negB u = b := ⟨_, rfl⟩
  have HM := Lib.hid (And.intro hc (And.intro ht he))
  have hxa : zx.natAbs < 10 ^ 37 := units_lt hC1 hC2 hzx
  have hya : zy.natAbs < 10 ^ 37 := units_lt hC1' hC2' hzy
  have HXA := Lib.hid hxa; have HYA := Lib.hid hya
  have HX := Lib.hid hzx; have HY := Lib.hid hzy; have HBZ := Lib.hid hbz
  obtain ⟨zp, hzp⟩ : ∃ z, zx * zy = z := ⟨_, rfl⟩
  have HZP := Lib.hid (show val (negB zx) zx.natAbs * val (negB zy) zy.natAbs = zp by rw [val_neg, val_neg]; exact hzp)
  have HU := Lib.hid (show evZ zp (10 ^ 27) = u by rw [← hzp]; exact hu)
  have hpa : zp.natAbs < 10 ^ 74 := by
    rw [← hzp, Int.natAbs_mul]
    exact Nat.lt_of_le_of_lt (Nat.mul_le_mul (Nat.le_of_lt_succ (Nat.lt_succ_of_lt hxa)) (Nat.le_pred_of_lt hya)) (by decide)
  have HKP := Lib.hid (show zp.natAbs < 1000 ^ 60 from Nat.lt_trans hpa (by decide))
  have HKU := Lib.hid (show u.natAbs < 1000 ^ 60 from Nat.lt_of_le_of_lt (by rw [← HU.out]; exact evZ_abs zp _ (by decide)) (Nat.lt_trans (Nat.succ_lt_succ hpa) (by decide)))
  clear hzp hpa
  clear hc ht he hbz hzx hzy hu hxa hya
  rw [HM.out.1, HM.out.2.1, HM.out.2.2]
  go_enter Try.func43, Try.ntmps43
  go_upto_region 1 with fail
  refine wp_region_rel 6 (MemAt w (w.heap.size + 1 + 1 + 1) [(w.heap.size, #[.int .i64 C, .int .i64 (S : Int)]), (w.heap.size + 1, #[.int .i64 C', .int .i64 (S' : Int)]), (w.heap.size + 1 + 1, #[.int .i64 0, .int .i64 0])] [])
    (fun i => List.getD [VE (.agg #[.int .i64 C, .int .i64 (S : Int)]), VN (negB zx) (zx.natAbs), VE (.agg #[.int .i64 C', .int .i64 (S' : Int)]), VN (negB zy) (zy.natAbs), VN (negB zp) (zp.natAbs), VA (w.heap.size + 1 + 1 + 1) #[.bool false, .slice none 0 0]] i (fun _ _ => False)) [5] [] (by kernel_rfl) (by kernel_rfl) ⟨S0.drew, by simp⟩ (fun _ _ h hb => h.grow hb)
    (stays_all (stays_cons (stays_VE _) (stays_cons (stays_VN _ _) (stays_cons (stays_VE _) (stays_cons (stays_VN _ _) (stays_cons (stays_VN _ _) (stays_cons (stays_VA _ _) stays_nil))))))) ⟨?_, ?_, ?_, ?_, ?_, ?_, trivial⟩ ?_
  · intro ev wv hE hw hd
    refine ifw rfl (ifn rfl ?_)
    have v2 : ev (.tmp 2) = .pointer (some ⟨w.heap.size, 0, none⟩) := hE.tmp 2 rfl
    have kx := hw.m.c 0 0 rfl rfl
    have ky := hw.m.c 0 1 rfl rfl
    refine rel_val (u := .agg #[.int .i64 C, .int .i64 (S : Int)]) (w' := wv) ?_ (Below.refl _ _) ⟨rfl, fun h => by cases h⟩
    have e1 := hE.const; clear hE hd hw
    go_simp
  · intro ev wv hE hw hd
    refine ifw rfl (ifn rfl ?_)
    have v7 : ev (.tmp 7) = .agg #[.int .i64 C, .int .i64 (S : Int)] := hd 0 (by decide)
    refine rel_call (f := 78) (args := #[.agg #[.int .i64 C, .int .i64 (S : Int)]]) ?_ (nunits_any C S zx _ hC1 hC2 hS HX.out) ?_
    · have e0 := hE.func; have e1 := hE.const; clear hE hd hw
      go_simp
    · rintro e w' ⟨A, k, c, rfl, R, hb⟩
      exact ⟨_, rfl, hb, ⟨A, k, c, rfl, R⟩, fun h => by cases h⟩
  · intro ev wv hE hw hd
    refine ifw rfl (ifn rfl ?_)
    have v3 : ev (.tmp 3) = .pointer (some ⟨w.heap.size + 1, 0, none⟩) := hE.tmp 3 rfl
    have kx := hw.m.c 1 0 rfl rfl
    have ky := hw.m.c 1 1 rfl rfl
    refine rel_val (u := .agg #[.int .i64 C', .int .i64 (S' : Int)]) (w' := wv) ?_ (Below.refl _ _) ⟨rfl, fun h => by cases h⟩
    have e1 := hE.const; clear hE hd hw
    go_simp
  · intro ev wv hE hw hd
    refine ifw rfl (ifn rfl ?_)
    have v9 : ev (.tmp 9) = .agg #[.int .i64 C', .int .i64 (S' : Int)] := hd 2 (by decide)
    refine rel_call (f := 78) (args := #[.agg #[.int .i64 C', .int .i64 (S' : Int)]]) ?_ (nunits_any C' S' zy _ hC1' hC2' hS' HY.out) ?_
    · have e0 := hE.func; have e1 := hE.const; clear hE hd hw
      go_simp
    · rintro e w' ⟨A, k, c, rfl, R, hb⟩
      exact ⟨_, rfl, hb, ⟨A, k, c, rfl, R⟩, fun h => by cases h⟩
  · intro ev wv hE hw hd
    refine ifw rfl (ifn rfl ?_)
    obtain ⟨xA1, xk1, xc1, v8, xR1⟩ : VN (negB zx) (zx.natAbs) (ev (.tmp 8)) wv := hd 1 (by decide)
    obtain ⟨xA3, xk3, xc3, v10, xR3⟩ : VN (negB zy) (zy.natAbs) (ev (.tmp 10)) wv := hd 3 (by decide)
    refine rel_call (f := 13) (args := #[.agg #[.bool (negB zx), .slice xA1 xk1 xc1], .agg #[.bool (negB zy), .slice xA3 xk3 xc3]]) ?_ (nmul_any _ _ _ _ _ _ _ _ zx.natAbs zy.natAbs zp _ xR1 xR3 (by have := row_le (k := 13) xR1 (Nat.lt_of_lt_of_le HXA.out (by decide)); omega) (by have := row_le (k := 13) xR3 (Nat.lt_of_lt_of_le HYA.out (by decide)); omega) HZP.out) ?_
    · have e0 := hE.func; have e1 := hE.const; clear hE hd hw
      go_simp
    · rintro e w' ⟨A, k, c, rfl, R, hb⟩
      exact ⟨_, rfl, hb, ⟨A, k, c, rfl, R⟩, fun h => by cases h⟩
  · intro ev wv hE hw hd
    refine ifw rfl (ifn rfl ?_)
    refine rel_val (u := .pointer (some ⟨wv.heap.size, 0, none⟩)) (w' := wv.alloc (.cells #[.bool false, .slice none 0 0] 27)) ?_ ((Below.refl _ _).alloc (Nat.le_refl _) _) ⟨⟨_, rfl, Blk.new _ _ _, hw.h⟩, fun _ => ⟨_, rfl, Nat.le_refl _, by simp⟩⟩
    clear hE hd hw
    go_simp
  · intro w1 M1
    intro v0 h0 _ v1 h1 _ v2 h2 _ v3 h3 _ v4 h4 _ v5 h5 n5
    simp only [Act.put, List.setIfInBounds_toArray, List.set_cons_zero, List.set_cons_succ, List.drop_succ_cons, List.drop_zero]
    obtain rfl : v0 = _ := h0
    obtain ⟨xA1, xk1, xc1, rfl, xR1⟩ : VN (negB zx) (zx.natAbs) v1 w1 := h1
    obtain rfl : v2 = _ := h2
    obtain ⟨xA3, xk3, xc3, rfl, xR3⟩ : VN (negB zy) (zy.natAbs) v3 w1 := h3
    obtain ⟨xA4, xk4, xc4, rfl, xR4⟩ : VN (negB zp) (zp.natAbs) v4 w1 := h4
    obtain ⟨xg5, rfl, xB5, xl5⟩ : VA (w.heap.size + 1 + 1 + 1) #[.bool false, .slice none 0 0] v5 w1 := h5
    change wpList Try.prog _ _ _ _ w1
    have SF := (M1.m.add xR4).join S0 xB5 (by simpa using xl5)
    have hkp : xk4 ≤ 1000 := by have := row_le (k := 60) xR4 HKP.out; omega
    have f0 := SF.c 3 0 rfl rfl; have f1 := SF.c 3 1 rfl rfl; have f2 := SF.f 3 0 rfl; have f3 := SF.f 3 1 rfl
    have M2 : Mem w _ [(w.heap.size, #[.int .i64 C, .int .i64 (S : Int)]), (w.heap.size + 1, #[.int .i64 C', .int .i64 (S' : Int)]), (w.heap.size + 1 + 1, #[.int .i64 0, .int .i64 0]), (xg5, #[.bool (negB zp), .slice xA4 xk4 xc4])] [(xA4, xk4, xc4, digs zp.natAbs)] := SF.put2 3 rfl rfl (.bool (negB zp)) (.slice xA4 xk4 xc4) rfl
    clear SF xR1 xR3 xR4 xB5 M1 S0 n5
    go_wp2_with fail
    refine calm_normal ?_
    generalize (w1.setCell ⟨xg5, 0, none⟩ (.bool (negB zp))).setCell ⟨xg5, 1, none⟩ (.slice xA4 xk4 xc4) = w2 at *
    clear f0 f1 f2 f3
    go_upto_region 2 with fail
    refine wp_region_rel 6 (MemAt w w2.heap.size [(w.heap.size, #[.int .i64 C, .int .i64 (S : Int)]), (w.heap.size + 1, #[.int .i64 C', .int .i64 (S' : Int)]), (w.heap.size + 1 + 1, #[.int .i64 0, .int .i64 0]), (xg5, #[.bool (negB zp), .slice xA4 xk4 xc4])] [(xA4, xk4, xc4, digs zp.natAbs)])
      (fun i => List.getD [VE (.agg #[.bool (negB zp), .slice xA4 xk4 xc4]), VN (false) (10 ^ 27), VN (bz) (u.natAbs), VE (.tuple #[.agg #[.int .i64 c, .int .i64 (t : Int)], .int .i64 e]), VE (.agg #[.int .i64 c, .int .i64 (t : Int)]), VE (.int .i64 e)] i (fun _ _ => False)) [] [4, 5] (by kernel_rfl) (by kernel_rfl) M2.at (fun _ _ h hb => h.grow hb)
      (stays_all (stays_cons (stays_VE _) (stays_cons (stays_VN _ _) (stays_cons (stays_VN _ _) (stays_cons (stays_VE _) (stays_cons (stays_VE _) (stays_cons (stays_VE _) stays_nil))))))) ⟨?_, ?_, ?_, ?_, ?_, ?_, trivial⟩ ?_
    · intro ev wv hE hw hd
      refine ifw rfl (ifn rfl ?_)
      have v6 : ev (.tmp 6) = .pointer (some ⟨xg5, 0, none⟩) := hE.tmp 6 rfl
      have kx := hw.m.c 3 0 rfl rfl
      have ky := hw.m.c 3 1 rfl rfl
      refine rel_val (u := .agg #[.bool (negB zp), .slice xA4 xk4 xc4]) (w' := wv) ?_ (Below.refl _ _) ⟨rfl, fun h => by cases h⟩
      have e1 := hE.const; clear hE hd hw
      go_simp
    · intro ev wv hE hw hd
      refine ifw rfl (ifn rfl ?_)
      refine rel_call (f := 30) (args := #[.int .i64 27]) ?_ (ten_27 _) ?_
      · have e0 := hE.func; have e1 := hE.const; clear hE hd hw
        go_simp
      · rintro e w' ⟨A, k, c, rfl, R, hb⟩
        exact ⟨_, rfl, hb, ⟨A, k, c, rfl, R⟩, fun h => by cases h⟩
    · intro ev wv hE hw hd
      refine ifw rfl (ifn rfl ?_)
      have v12 : ev (.tmp 12) = .agg #[.bool (negB zp), .slice xA4 xk4 xc4] := hd 0 (by decide)
      obtain ⟨yA1, yk1, yc1, v13, yR1⟩ : VN (false) (10 ^ 27) (ev (.tmp 13)) wv := hd 1 (by decide)
      refine rel_call (f := 33) (args := #[.agg #[.bool (negB zp), .slice xA4 xk4 xc4], .agg #[.bool (false), .slice yA1 yk1 yc1]]) ?_ (neven_z _ bz _ _ _ _ _ _ zp (10 ^ 27) u _ (hw.m.r 0 rfl) yR1 hkp (by have := row_le (k := 60) yR1 (by decide); omega) (by decide) rfl HU.out HBZ.out) ?_
      · have e0 := hE.func; have e1 := hE.const; clear hE hd hw
        go_simp
      · rintro e w' ⟨A, k, c, rfl, R, hb⟩
        exact ⟨_, rfl, hb, ⟨A, k, c, rfl, R⟩, fun h => by cases h⟩
    · intro ev wv hE hw hd
      refine ifw rfl (ifn rfl ?_)
      obtain ⟨yA2, yk2, yc2, v14, yR2⟩ : VN (bz) (u.natAbs) (ev (.tmp 14)) wv := hd 2 (by decide)
      refine rel_call (f := 76) (args := #[.agg #[.bool (bz), .slice yA2 yk2 yc2], .int .i64 9]) ?_ (nmade_any _ _ _ _ 9 u _ yR2 (by have := row_le (k := 60) yR2 HKU.out; omega) (by omega) HBZ.out) ?_
      · have e0 := hE.func; have e1 := hE.const; clear hE hd hw
        go_simp
      · rintro e w' ⟨rfl, hb⟩
        exact ⟨_, rfl, hb, (by rw [HM.out.1, HM.out.2.1, HM.out.2.2]; rfl), fun h => by cases h⟩
    · intro ev wv hE hw hd
      refine ifw rfl (ifw rfl ?_)
      have v15 : ev (.tmp 15) = .tuple #[.agg #[.int .i64 c, .int .i64 (t : Int)], .int .i64 e] := hd 3 (by decide)
      refine ⟨.agg #[.int .i64 c, .int .i64 (t : Int)], fun w => ?_, rfl⟩
      have e1 := hE.const; have e2 := hE.func; clear hE hd hw
      go_simp
    · intro ev wv hE hw hd
      refine ifw rfl (ifw rfl ?_)
      have v15 : ev (.tmp 15) = .tuple #[.agg #[.int .i64 c, .int .i64 (t : Int)], .int .i64 e] := hd 3 (by decide)
      refine ⟨.int .i64 e, fun w => ?_, rfl⟩
      have e1 := hE.const; have e2 := hE.func; clear hE hd hw
      go_simp
    · intro w3 M3
      intro v0 h0 _ v1 h1 _ v2 h2 _ v3 h3 _ v4 h4 _ v5 h5 _
      simp only [Act.put, List.setIfInBounds_toArray, List.set_cons_zero, List.set_cons_succ, List.drop_succ_cons, List.drop_zero]
      obtain rfl : v0 = _ := h0
      obtain ⟨yA1, yk1, yc1, rfl, yR1⟩ : VN (false) (10 ^ 27) v1 w3 := h1
      obtain ⟨yA2, yk2, yc2, rfl, yR2⟩ : VN (bz) (u.natAbs) v2 w3 := h2
      obtain rfl : v3 = _ := h3
      obtain rfl : v4 = _ := h4
      obtain rfl : v5 = _ := h5
      change wpList Try.prog _ _ _ _ w3
      clear yR1 yR2 M2
      have za := M3.m.c 2 0 rfl rfl; have zb := M3.m.c 2 1 rfl rfl; have zc := M3.m.f 2 0 rfl; have zd := M3.m.f 2 1 rfl
      have HF := Lib.hid (M3.m.only.put20 2 rfl (.int .i64 c) (.int .i64 (t : Int)))
      clear M3
      go_wp2_with fail
      refine calm_normal ?_
      go_wp2_with fail
      exact bodyPost_ret (v := .tuple #[.agg #[.int .i64 c, .int .i64 (t : Int)], .int .i64 e]) (by simp [results, Try.results43, go_sem, za, zb]) rfl ⟨rfl, HF.out.bl⟩

set_option maxHeartbeats 2000000 in
theorem nround_any (C : Int) (S s : Nat) (zx u : Int) (w : World) (hC1 : -9223372036854775808 ≤ C) (hC2 : C ≤ 9223372036854775807) (hS : S ≤ 9) (hs : s ≤ 9) (hzx : C * ((10 ^ (18 - S) : Nat) : Int) = zx) (hu : evZ zx (10 ^ (18 - s)) = u) :
    Calls Try.prog 54 #[.agg #[.int .i64 C, .int .i64 (S : Int)], .int .i64 (s : Int)] w fun e w' => e = .returned (.tuple #[.agg #[.int .i64 (mC u s), .int .i64 (mS u s : Int)], .int .i64 (mE u s)]) ∧ Below w.heap.size w w' := by
  have S0 := ((Mem.start w).push #[.int .i64 C, .int .i64 (S : Int)] 59).push #[.int .i64 0, .int .i64 0] 59
  simp only [size_alloc] at S0
  obtain ⟨c, hc⟩ : ∃ c, mC u s = c := ⟨_, rfl⟩
  obtain ⟨t, ht⟩ : ∃ t, mS u s = t := ⟨_, rfl⟩
  obtain ⟨e, he⟩ : ∃ e, mE u s = e := ⟨_, rfl⟩
  have HM := Lib.hid (And.intro hc (And.intro ht he))
  have hxa : zx.natAbs < 10 ^ 37 := units_lt hC1 hC2 hzx
  have HKX := Lib.hid (show zx.natAbs < 1000 ^ 60 from Nat.lt_trans hxa (by decide))
  have HKU := Lib.hid (show u.natAbs < 1000 ^ 60 from Nat.lt_of_le_of_lt (by rw [← hu]; exact evZ_abs zx _ (Nat.pow_pos (by omega))) (Nat.lt_trans (Nat.succ_lt_succ hxa) (by decide)))
  have HX := Lib.hid hzx; have HU := Lib.hid hu
  clear hc ht he hzx hu hxa
  rw [HM.out.1, HM.out.2.1, HM.out.2.2]
  go_enter Try.func54, Try.ntmps54
  go_wp2_with fail
  refine (nunits_any C S zx _ hC1 hC2 hS HX.out).mono ?_
  rintro e1 w1 ⟨A1, k1, c1, rfl, R1, hb⟩
  have S1 := (S0.keep hb).add R1
  have hk1 := row_le (k := 60) R1 HKX.out
  clear S0 hb R1
  go_wp2_with fail
  refine (nnear_any _ _ _ _ _ s zx u _ (S1.r 0 rfl) (by omega) (by omega) rfl HU.out rfl).mono ?_
  rintro e2 w2 ⟨A2, k2, c2, rfl, R2, hb⟩
  have S2 := (S1.keep hb).add R2
  have hk2 := row_le (k := 60) R2 HKU.out
  clear S1 hb R2
  go_wp2_with fail
  refine (nmade_any _ _ _ _ s u _ (S2.r 1 rfl) (by omega) (by omega) rfl).mono ?_
  rintro e3 w3 ⟨rfl, hb⟩
  rw [HM.out.1, HM.out.2.1, HM.out.2.2]
  have S3 := (S2.keep hb).only
  have za := S3.c 1 0 rfl rfl; have zb := S3.c 1 1 rfl rfl; have zc := S3.f 1 0 rfl; have zd := S3.f 1 1 rfl
  have HF := Lib.hid (S3.put20 1 rfl (.int .i64 c) (.int .i64 (t : Int)))
  clear S2 S3 hb
  go_wp2_with fail
  exact bodyPost_ret (v := .tuple #[.agg #[.int .i64 c, .int .i64 (t : Int)], .int .i64 e]) (by simp [results, Try.results54, go_sem, za, zb]) rfl ⟨rfl, HF.out.bl⟩

set_option maxHeartbeats 2000000 in
theorem nput_any (C : Int) (S : Nat) (zx u : Int) (w : World) (hC1 : -9223372036854775808 ≤ C) (hC2 : C ≤ 9223372036854775807) (hS : S ≤ 9) (hzx : C * ((10 ^ (18 - S) : Nat) : Int) = zx) (hu : evZ zx (10 ^ (18 - 9)) = u) :
    Calls Try.prog 53 #[.agg #[.int .i64 C, .int .i64 (S : Int)]] w fun e w' => e = .returned (.tuple #[.agg #[.int .i64 (mC u 9), .int .i64 (mS u 9 : Int)], .int .i64 (mE u 9)]) ∧ Below w.heap.size w w' := by
  have S0 := ((Mem.start w).push #[.int .i64 C, .int .i64 (S : Int)] 59).push #[.int .i64 0, .int .i64 0] 59
  simp only [size_alloc] at S0
  have HR := Lib.hid (fun w => nround_any C S 9 zx u w hC1 hC2 hS (by omega) hzx hu)
  obtain ⟨c, hc⟩ : ∃ c, mC u 9 = c := ⟨_, rfl⟩
  obtain ⟨t, ht⟩ : ∃ t, mS u 9 = t := ⟨_, rfl⟩
  obtain ⟨e, he⟩ : ∃ e, mE u 9 = e := ⟨_, rfl⟩
  rw [hc, ht, he] at HR ⊢
  clear hzx hu hc ht he
  go_enter Try.func53, Try.ntmps53
  go_wp2_with fail
  refine (HR.out _).mono ?_
  rintro e3 w3 ⟨rfl, hb⟩
  have S3 := S0.keep hb
  have za := S3.c 1 0 rfl rfl; have zb := S3.c 1 1 rfl rfl; have zc := S3.f 1 0 rfl; have zd := S3.f 1 1 rfl
  have HF := Lib.hid (S3.put20 1 rfl (.int .i64 c) (.int .i64 (t : Int)))
  clear S0 S3 hb
  go_wp2_with fail
  exact bodyPost_ret (v := .tuple #[.agg #[.int .i64 c, .int .i64 (t : Int)], .int .i64 e]) (by simp [results, Try.results53, go_sem, za, zb]) rfl ⟨rfl, HF.out.bl⟩

theorem nis_yes (C S : Int) (w : World) (h0 : 0 ≤ S) (h9 : S ≤ 9) : Calls Try.prog 39 #[.agg #[.int .i64 C, .int .i64 S]] w fun e w' => e = .returned (.bool true) ∧ Below w.heap.size w w' := by
  go_enter Try.func39, Try.ntmps39
  go_wp2_with fail
  go_ret
  exact ⟨rfl, (Below.refl _ _).alloc (Nat.le_refl _) _⟩
theorem nis_no (C S : Int) (w : World) (h : S < 0 ∨ 9 < S) : Calls Try.prog 39 #[.agg #[.int .i64 C, .int .i64 S]] w fun e w' => e = .returned (.bool false) ∧ Below w.heap.size w w' := by
  rcases h with h | h
  · go_enter Try.func39, Try.ntmps39
    go_wp2_with fail
    go_ret
    exact ⟨rfl, (Below.refl _ _).alloc (Nat.le_refl _) _⟩
  · have h0 : 0 ≤ S := by omega
    have h1 : decide (S ≤ 9) = false := decide_eq_false (by omega)
    go_enter Try.func39, Try.ntmps39
    go_wp2_with fail
    go_ret
    exact ⟨rfl, (Below.refl _ _).alloc (Nat.le_refl _) _⟩
end Go.Proofs.Ytgkogjlcecbfjaa

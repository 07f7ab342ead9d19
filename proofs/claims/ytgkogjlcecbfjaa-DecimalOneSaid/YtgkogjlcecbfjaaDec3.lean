/- Contracts of corrodyref02: Is, Round, Put, May, Cmp, Add, Sub. (Written by wip/gen/gendec3.py.) -/
import Derived.Test.YtgkogjlcecbfjaaDec2
namespace Corr
open Go Go.RowKit
theorem evZ_abs (z : Int) (d : Nat) (h : 0 < d) : (evZ z d).natAbs ≤ z.natAbs + 1 := by
  have h1 : (z / (d : Int)).natAbs ≤ z.natAbs := by
    rcases Int.lt_or_le z 0 with h2 | h2
    · have h3 : z ≤ z / (d : Int) := by
        rw [Int.le_ediv_iff_mul_le (by omega)]
        have : (-z) * 1 ≤ (-z) * (d : Int) := Int.mul_le_mul_of_nonneg_left (by omega) (by omega)
        have h5 : z * (d : Int) = -((-z) * (d : Int)) := by rw [Int.neg_mul, Int.neg_neg]
        rw [h5]; omega
      have h4 : z / (d : Int) ≤ 0 := Int.ediv_le_of_le_mul (by omega) (by omega)
      omega
    · have h3 : 0 ≤ z / (d : Int) := Int.ediv_nonneg h2 (by omega)
      have h4 : z / (d : Int) ≤ z := Int.ediv_le_self _ h2
      omega
  unfold evZ
  split <;> omega
theorem sum_lt {x y : Int} (h1 : x.natAbs < 10 ^ 37) (h2 : y.natAbs < 10 ^ 37) : (x + y).natAbs < 10 ^ 38 := by
  have h3 : (x + y).natAbs < 10 ^ 37 + 10 ^ 37 := by omega
  exact Nat.lt_trans h3 (by decide)
theorem sub_lt {x y : Int} (h1 : x.natAbs < 10 ^ 37) (h2 : y.natAbs < 10 ^ 37) : (x - y).natAbs < 10 ^ 38 := by
  have h3 : (x - y).natAbs < 10 ^ 37 + 10 ^ 37 := by omega
  exact Nat.lt_trans h3 (by decide)
theorem units_lt {C z : Int} {S : Nat} (h1 : -9223372036854775808 ≤ C) (h2 : C ≤ 9223372036854775807) (hz : C * ((10 ^ (18 - S) : Nat) : Int) = z) : z.natAbs < 10 ^ 37 := by
  rw [← hz, Int.natAbs_mul, Int.natAbs_natCast]
  have h3 : C.natAbs ≤ 9223372036854775808 := by omega
  have h4 : 10 ^ (18 - S) ≤ 10 ^ 18 := Nat.pow_le_pow_right (by omega) (by omega)
  exact Nat.lt_of_le_of_lt (Nat.mul_le_mul h3 h4) (by decide)
end Corr
namespace Go.Proofs.Ytgkogjlcecbfjaa
open Go.RowKit Corr
set_option linter.unusedVariables false

set_option maxHeartbeats 4000000 in
theorem nadd02_any (C C' : Int) (S S' : Nat) (zx zy u : Int) (w : World) (hC1 : -9223372036854775808 ≤ C) (hC2 : C ≤ 9223372036854775807) (hS : S ≤ 9) (hC1' : -9223372036854775808 ≤ C') (hC2' : C' ≤ 9223372036854775807) (hS' : S' ≤ 9)
    (hzx : C * ((10 ^ (18 - S) : Nat) : Int) = zx) (hzy : C' * ((10 ^ (18 - S') : Nat) : Int) = zy) (hu : evZ (zx + zy) (10 ^ (18 - 9)) = u) :
    Calls Try.prog 41 #[.agg #[.int .i64 C, .int .i64 (S : Int)], .agg #[.int .i64 C', .int .i64 (S' : Int)]] w fun e w' => e = .returned (.tuple #[.agg #[.int .i64 (mC u 9), .int .i64 (mS u 9 : Int)], .int .i64 (mE u 9)]) ∧ Below w.heap.size w w' := by
  have S0 := (((Mem.start w).push #[.int .i64 C, .int .i64 (S : Int)] 59).push #[.int .i64 C', .int .i64 (S' : Int)] 59).push #[.int .i64 0, .int .i64 0] 59
  simp only [size_alloc] at S0
  obtain ⟨c, hc⟩ : ∃ c, mC u 9 = c := ⟨_, rfl⟩
  obtain ⟨t, ht⟩ : ∃ t, mS u 9 = t := ⟨_, rfl⟩
  obtain ⟨e, he⟩ : ∃ e, mE u 9 = e := ⟨_, rfl⟩
  obtain ⟨bz, hbz⟩ : ∃ b, negB u = b := ⟨_, rfl⟩
  have HM := Lib.hid (And.intro hc (And.intro ht he))
  have hxa : zx.natAbs < 10 ^ 37 := units_lt hC1 hC2 hzx
  have hya : zy.natAbs < 10 ^ 37 := units_lt hC1' hC2' hzy
  have HXA := Lib.hid hxa; have HYA := Lib.hid hya
  have HX := Lib.hid hzx; have HY := Lib.hid hzy; have HBZ := Lib.hid hbz
  obtain ⟨zs, hzs⟩ : ∃ z, zx + zy = z := ⟨_, rfl⟩
  have HZS := Lib.hid (show val (negB zx) zx.natAbs + val (negB zy) zy.natAbs = zs by rw [val_neg, val_neg]; exact hzs)
  have HU := Lib.hid (show evZ zs (10 ^ (18 - 9)) = u by rw [← hzs]; exact hu)
  have hsa : zs.natAbs < 10 ^ 38 := by rw [← hzs]; exact sum_lt hxa hya
  have HKS := Lib.hid (show zs.natAbs < 1000 ^ 60 from Nat.lt_trans hsa (by decide))
  have HKU := Lib.hid (show u.natAbs < 1000 ^ 60 from Nat.lt_of_le_of_lt (by rw [← HU.out]; exact evZ_abs zs _ (by decide)) (Nat.lt_trans (Nat.succ_lt_succ hsa) (by decide)))
  clear hzs hsa
  clear hc ht he hbz hzx hzy hu hxa hya
  rw [HM.out.1, HM.out.2.1, HM.out.2.2]
  go_enter Try.func41, Try.ntmps41
  go_upto_region 1 with fail
  refine wp_region_rel 9 (MemAt w (w.heap.size + 1 + 1 + 1) [(w.heap.size, #[.int .i64 C, .int .i64 (S : Int)]), (w.heap.size + 1, #[.int .i64 C', .int .i64 (S' : Int)]), (w.heap.size + 1 + 1, #[.int .i64 0, .int .i64 0])] [])
    (fun i => List.getD [VE (.agg #[.int .i64 C, .int .i64 (S : Int)]), VN (negB zx) (zx.natAbs), VE (.agg #[.int .i64 C', .int .i64 (S' : Int)]), VN (negB zy) (zy.natAbs), VN (negB zs) (zs.natAbs), VN (bz) (u.natAbs), VE (.tuple #[.agg #[.int .i64 c, .int .i64 (t : Int)], .int .i64 e]), VE (.agg #[.int .i64 c, .int .i64 (t : Int)]), VE (.int .i64 e)] i (fun _ _ => False)) [] [7, 8] (by kernel_rfl) (by kernel_rfl) ⟨S0.drew, by simp⟩ (fun _ _ h hb => h.grow hb)
    (stays_all (stays_cons (stays_VE _) (stays_cons (stays_VN _ _) (stays_cons (stays_VE _) (stays_cons (stays_VN _ _) (stays_cons (stays_VN _ _) (stays_cons (stays_VN _ _) (stays_cons (stays_VE _) (stays_cons (stays_VE _) (stays_cons (stays_VE _) stays_nil)))))))))) ⟨?_, ?_, ?_, ?_, ?_, ?_, ?_, ?_, ?_, trivial⟩ ?_
  · intro ev wv hE hw hd
    refine ifw rfl (ifn rfl ?_)
    have v2 : ev (.tmp 2) = .pointer (some ⟨w.heap.size, 0, none⟩) := hE.tmp 2 rfl
    have kx := hw.m.c 0 0 rfl rfl
    have ky := hw.m.c 0 1 rfl rfl
    refine rel_val (u := .agg #[.int .i64 C, .int .i64 (S : Int)]) (w' := wv) ?_ (Below.refl _ _) ⟨rfl, fun h => by cases h⟩
    have e1 := hE.const; clear hE hd hw
    go_simp
  · intro ev wv hE hw hd
    refine ifw rfl (ifn rfl ?_)
    have v6 : ev (.tmp 6) = .agg #[.int .i64 C, .int .i64 (S : Int)] := hd 0 (by decide)
    refine rel_call (f := 78) (args := #[.agg #[.int .i64 C, .int .i64 (S : Int)]]) ?_ (nunits_any C S zx _ hC1 hC2 hS HX.out) ?_
    · have e0 := hE.func; have e1 := hE.const; clear hE hd hw
      go_simp
    · rintro e w' ⟨A, k, c, rfl, R, hb⟩
      exact ⟨_, rfl, hb, ⟨A, k, c, rfl, R⟩, fun h => by cases h⟩
  · intro ev wv hE hw hd
    refine ifw rfl (ifn rfl ?_)
    have v3 : ev (.tmp 3) = .pointer (some ⟨w.heap.size + 1, 0, none⟩) := hE.tmp 3 rfl
    have kx := hw.m.c 1 0 rfl rfl
    have ky := hw.m.c 1 1 rfl rfl
    refine rel_val (u := .agg #[.int .i64 C', .int .i64 (S' : Int)]) (w' := wv) ?_ (Below.refl _ _) ⟨rfl, fun h => by cases h⟩
    have e1 := hE.const; clear hE hd hw
    go_simp
  · intro ev wv hE hw hd
    refine ifw rfl (ifn rfl ?_)
    have v8 : ev (.tmp 8) = .agg #[.int .i64 C', .int .i64 (S' : Int)] := hd 2 (by decide)
    refine rel_call (f := 78) (args := #[.agg #[.int .i64 C', .int .i64 (S' : Int)]]) ?_ (nunits_any C' S' zy _ hC1' hC2' hS' HY.out) ?_
    · have e0 := hE.func; have e1 := hE.const; clear hE hd hw
      go_simp
    · rintro e w' ⟨A, k, c, rfl, R, hb⟩
      exact ⟨_, rfl, hb, ⟨A, k, c, rfl, R⟩, fun h => by cases h⟩
  · intro ev wv hE hw hd
    refine ifw rfl (ifn rfl ?_)
    obtain ⟨xA1, xk1, xc1, v7, xR1⟩ : VN (negB zx) (zx.natAbs) (ev (.tmp 7)) wv := hd 1 (by decide)
    obtain ⟨xA3, xk3, xc3, v9, xR3⟩ : VN (negB zy) (zy.natAbs) (ev (.tmp 9)) wv := hd 3 (by decide)
    refine rel_call (f := 18) (args := #[.agg #[.bool (negB zx), .slice xA1 xk1 xc1], .agg #[.bool (negB zy), .slice xA3 xk3 xc3]]) ?_ (nadd_any _ _ _ _ _ _ _ _ zx.natAbs zy.natAbs zs _ xR1 xR3 (by have := row_le (k := 13) xR1 (Nat.lt_of_lt_of_le HXA.out (by decide)); omega) (by have := row_le (k := 13) xR3 (Nat.lt_of_lt_of_le HYA.out (by decide)); omega) HZS.out) ?_
    · have e0 := hE.func; have e1 := hE.const; clear hE hd hw
      go_simp
    · rintro e w' ⟨A, k, c, rfl, R, hb⟩
      exact ⟨_, rfl, hb, ⟨A, k, c, rfl, R⟩, fun h => by cases h⟩
  · intro ev wv hE hw hd
    refine ifw rfl (ifn rfl ?_)
    obtain ⟨xA4, xk4, xc4, v10, xR4⟩ : VN (negB zs) (zs.natAbs) (ev (.tmp 10)) wv := hd 4 (by decide)
    refine rel_call (f := 77) (args := #[.agg #[.bool (negB zs), .slice xA4 xk4 xc4], .int .i64 9]) ?_ (nnear_any _ bz _ _ _ 9 zs u _ xR4 (by have := row_le (k := 60) xR4 HKS.out; omega) (by omega) rfl HU.out HBZ.out) ?_
    · have e0 := hE.func; have e1 := hE.const; clear hE hd hw
      go_simp
    · rintro e w' ⟨A, k, c, rfl, R, hb⟩
      exact ⟨_, rfl, hb, ⟨A, k, c, rfl, R⟩, fun h => by cases h⟩
  · intro ev wv hE hw hd
    refine ifw rfl (ifn rfl ?_)
    obtain ⟨xA5, xk5, xc5, v11, xR5⟩ : VN (bz) (u.natAbs) (ev (.tmp 11)) wv := hd 5 (by decide)
    refine rel_call (f := 76) (args := #[.agg #[.bool (bz), .slice xA5 xk5 xc5], .int .i64 9]) ?_ (nmade_any _ _ _ _ 9 u _ xR5 (by have := row_le (k := 60) xR5 HKU.out; omega) (by omega) HBZ.out) ?_
    · have e0 := hE.func; have e1 := hE.const; clear hE hd hw
      go_simp
    · rintro e w' ⟨rfl, hb⟩
      exact ⟨_, rfl, hb, (by rw [HM.out.1, HM.out.2.1, HM.out.2.2]; rfl), fun h => by cases h⟩
  · intro ev wv hE hw hd
    refine ifw rfl (ifw rfl ?_)
    have v12 : ev (.tmp 12) = .tuple #[.agg #[.int .i64 c, .int .i64 (t : Int)], .int .i64 e] := hd 6 (by decide)
    refine ⟨.agg #[.int .i64 c, .int .i64 (t : Int)], fun w => ?_, rfl⟩
    have e1 := hE.const; have e2 := hE.func; clear hE hd hw
    go_simp
  · intro ev wv hE hw hd
    refine ifw rfl (ifw rfl ?_)
    have v12 : ev (.tmp 12) = .tuple #[.agg #[.int .i64 c, .int .i64 (t : Int)], .int .i64 e] := hd 6 (by decide)
    refine ⟨.int .i64 e, fun w => ?_, rfl⟩
    have e1 := hE.const; have e2 := hE.func; clear hE hd hw
    go_simp
  · intro w1 M1
    intro v0 h0 _ v1 h1 _ v2 h2 _ v3 h3 _ v4 h4 _ v5 h5 _ v6 h6 _ v7 h7 _ v8 h8 _
    simp only [Act.put, List.setIfInBounds_toArray, List.set_cons_zero, List.set_cons_succ, List.drop_succ_cons, List.drop_zero]
    obtain rfl : v0 = _ := h0
    obtain ⟨xA1, xk1, xc1, rfl, xR1⟩ : VN (negB zx) (zx.natAbs) v1 w1 := h1
    obtain rfl : v2 = _ := h2
    obtain ⟨xA3, xk3, xc3, rfl, xR3⟩ : VN (negB zy) (zy.natAbs) v3 w1 := h3
    obtain ⟨xA4, xk4, xc4, rfl, xR4⟩ : VN (negB zs) (zs.natAbs) v4 w1 := h4
    obtain ⟨xA5, xk5, xc5, rfl, xR5⟩ : VN (bz) (u.natAbs) v5 w1 := h5
    obtain rfl : v6 = _ := h6
    obtain rfl : v7 = _ := h7
    obtain rfl : v8 = _ := h8
    change wpList Try.prog _ _ _ _ w1
    clear xR1 xR3 xR4 xR5 S0
    have za := M1.m.c 2 0 rfl rfl; have zb := M1.m.c 2 1 rfl rfl; have zc := M1.m.f 2 0 rfl; have zd := M1.m.f 2 1 rfl
    have HF := Lib.hid (M1.m.only.put20 2 rfl (.int .i64 c) (.int .i64 (t : Int)))
    clear M1
    go_wp2_with fail
    refine calm_normal ?_
    go_wp2_with fail
    exact bodyPost_ret (v := .tuple #[.agg #[.int .i64 c, .int .i64 (t : Int)], .int .i64 e]) (by simp [results, Try.results41, go_sem, za, zb]) rfl ⟨rfl, HF.out.bl⟩

set_option maxHeartbeats 4000000 in
theorem nsub02_any (C C' : Int) (S S' : Nat) (zx zy u : Int) (w : World) (hC1 : -9223372036854775808 ≤ C) (hC2 : C ≤ 9223372036854775807) (hS : S ≤ 9) (hC1' : -9223372036854775808 ≤ C') (hC2' : C' ≤ 9223372036854775807) (hS' : S' ≤ 9)
    (hzx : C * ((10 ^ (18 - S) : Nat) : Int) = zx) (hzy : C' * ((10 ^ (18 - S') : Nat) : Int) = zy) (hu : evZ (zx - zy) (10 ^ (18 - 9)) = u) :
    Calls Try.prog 42 #[.agg #[.int .i64 C, .int .i64 (S : Int)], .agg #[.int .i64 C', .int .i64 (S' : Int)]] w fun e w' => e = .returned (.tuple #[.agg #[.int .i64 (mC u 9), .int .i64 (mS u 9 : Int)], .int .i64 (mE u 9)]) ∧ Below w.heap.size w w' := by
  have S0 := (((Mem.start w).push #[.int .i64 C, .int .i64 (S : Int)] 59).push #[.int .i64 C', .int .i64 (S' : Int)] 59).push #[.int .i64 0, .int .i64 0] 59
  simp only [size_alloc] at S0
  obtain ⟨c, hc⟩ : ∃ c, mC u 9 = c := ⟨_, rfl⟩
  obtain ⟨t, ht⟩ : ∃ t, mS u 9 = t := ⟨_, rfl⟩
  obtain ⟨e, he⟩ : ∃ e, mE u 9 = e := ⟨_, rfl⟩
  obtain ⟨bz, hbz⟩ : ∃ b, negB u = b := ⟨_, rfl⟩
  have HM := Lib.hid (And.intro hc (And.intro ht he))
  have hxa : zx.natAbs < 10 ^ 37 := units_lt hC1 hC2 hzx
  have hya : zy.natAbs < 10 ^ 37 := units_lt hC1' hC2' hzy
  have HXA := Lib.hid hxa; have HYA := Lib.hid hya
  have HX := Lib.hid hzx; have HY := Lib.hid hzy; have HBZ := Lib.hid hbz
  obtain ⟨zs, hzs⟩ : ∃ z, zx - zy = z := ⟨_, rfl⟩
  have HZS := Lib.hid (show val (negB zx) zx.natAbs - val (negB zy) zy.natAbs = zs by rw [val_neg, val_neg]; exact hzs)
  have HU := Lib.hid (show evZ zs (10 ^ (18 - 9)) = u by rw [← hzs]; exact hu)
  have hsa : zs.natAbs < 10 ^ 38 := by rw [← hzs]; exact sub_lt hxa hya
  have HKS := Lib.hid (show zs.natAbs < 1000 ^ 60 from Nat.lt_trans hsa (by decide))
  have HKU := Lib.hid (show u.natAbs < 1000 ^ 60 from Nat.lt_of_le_of_lt (by rw [← HU.out]; exact evZ_abs zs _ (by decide)) (Nat.lt_trans (Nat.succ_lt_succ hsa) (by decide)))
  clear hzs hsa
  clear hc ht he hbz hzx hzy hu hxa hya
  rw [HM.out.1, HM.out.2.1, HM.out.2.2]
  go_enter Try.func42, Try.ntmps42
  go_upto_region 1 with fail
  refine wp_region_rel 9 (MemAt w (w.heap.size + 1 + 1 + 1) [(w.heap.size, #[.int .i64 C, .int .i64 (S : Int)]), (w.heap.size + 1, #[.int .i64 C', .int .i64 (S' : Int)]), (w.heap.size + 1 + 1, #[.int .i64 0, .int .i64 0])] [])
    (fun i => List.getD [VE (.agg #[.int .i64 C, .int .i64 (S : Int)]), VN (negB zx) (zx.natAbs), VE (.agg #[.int .i64 C', .int .i64 (S' : Int)]), VN (negB zy) (zy.natAbs), VN (negB zs) (zs.natAbs), VN (bz) (u.natAbs), VE (.tuple #[.agg #[.int .i64 c, .int .i64 (t : Int)], .int .i64 e]), VE (.agg #[.int .i64 c, .int .i64 (t : Int)]), VE (.int .i64 e)] i (fun _ _ => False)) [] [7, 8] (by kernel_rfl) (by kernel_rfl) ⟨S0.drew, by simp⟩ (fun _ _ h hb => h.grow hb)
    (stays_all (stays_cons (stays_VE _) (stays_cons (stays_VN _ _) (stays_cons (stays_VE _) (stays_cons (stays_VN _ _) (stays_cons (stays_VN _ _) (stays_cons (stays_VN _ _) (stays_cons (stays_VE _) (stays_cons (stays_VE _) (stays_cons (stays_VE _) stays_nil)))))))))) ⟨?_, ?_, ?_, ?_, ?_, ?_, ?_, ?_, ?_, trivial⟩ ?_
  · intro ev wv hE hw hd
    refine ifw rfl (ifn rfl ?_)
    have v2 : ev (.tmp 2) = .pointer (some ⟨w.heap.size, 0, none⟩) := hE.tmp 2 rfl
    have kx := hw.m.c 0 0 rfl rfl
    have ky := hw.m.c 0 1 rfl rfl
    refine rel_val (u := .agg #[.int .i64 C, .int .i64 (S : Int)]) (w' := wv) ?_ (Below.refl _ _) ⟨rfl, fun h => by cases h⟩
    have e1 := hE.const; clear hE hd hw
    go_simp
  · intro ev wv hE hw hd
    refine ifw rfl (ifn rfl ?_)
    have v6 : ev (.tmp 6) = .agg #[.int .i64 C, .int .i64 (S : Int)] := hd 0 (by decide)
    refine rel_call (f := 78) (args := #[.agg #[.int .i64 C, .int .i64 (S : Int)]]) ?_ (nunits_any C S zx _ hC1 hC2 hS HX.out) ?_
    · have e0 := hE.func; have e1 := hE.const; clear hE hd hw
      go_simp
    · rintro e w' ⟨A, k, c, rfl, R, hb⟩
      exact ⟨_, rfl, hb, ⟨A, k, c, rfl, R⟩, fun h => by cases h⟩
  · intro ev wv hE hw hd
    refine ifw rfl (ifn rfl ?_)
    have v3 : ev (.tmp 3) = .pointer (some ⟨w.heap.size + 1, 0, none⟩) := hE.tmp 3 rfl
    have kx := hw.m.c 1 0 rfl rfl
    have ky := hw.m.c 1 1 rfl rfl
    refine rel_val (u := .agg #[.int .i64 C', .int .i64 (S' : Int)]) (w' := wv) ?_ (Below.refl _ _) ⟨rfl, fun h => by cases h⟩
    have e1 := hE.const; clear hE hd hw
    go_simp
  · intro ev wv hE hw hd
    refine ifw rfl (ifn rfl ?_)
    have v8 : ev (.tmp 8) = .agg #[.int .i64 C', .int .i64 (S' : Int)] := hd 2 (by decide)
    refine rel_call (f := 78) (args := #[.agg #[.int .i64 C', .int .i64 (S' : Int)]]) ?_ (nunits_any C' S' zy _ hC1' hC2' hS' HY.out) ?_
    · have e0 := hE.func; have e1 := hE.const; clear hE hd hw
      go_simp
    · rintro e w' ⟨A, k, c, rfl, R, hb⟩
      exact ⟨_, rfl, hb, ⟨A, k, c, rfl, R⟩, fun h => by cases h⟩
  · intro ev wv hE hw hd
    refine ifw rfl (ifn rfl ?_)
    obtain ⟨xA1, xk1, xc1, v7, xR1⟩ : VN (negB zx) (zx.natAbs) (ev (.tmp 7)) wv := hd 1 (by decide)
    obtain ⟨xA3, xk3, xc3, v9, xR3⟩ : VN (negB zy) (zy.natAbs) (ev (.tmp 9)) wv := hd 3 (by decide)
    refine rel_call (f := 66) (args := #[.agg #[.bool (negB zx), .slice xA1 xk1 xc1], .agg #[.bool (negB zy), .slice xA3 xk3 xc3]]) ?_ (nsub_any _ _ _ _ _ _ _ _ zx.natAbs zy.natAbs zs _ xR1 xR3 (by have := row_le (k := 13) xR1 (Nat.lt_of_lt_of_le HXA.out (by decide)); omega) (by have := row_le (k := 13) xR3 (Nat.lt_of_lt_of_le HYA.out (by decide)); omega) HZS.out) ?_
    · have e0 := hE.func; have e1 := hE.const; clear hE hd hw
      go_simp
    · rintro e w' ⟨A, k, c, rfl, R, hb⟩
      exact ⟨_, rfl, hb, ⟨A, k, c, rfl, R⟩, fun h => by cases h⟩
  · intro ev wv hE hw hd
    refine ifw rfl (ifn rfl ?_)
    obtain ⟨xA4, xk4, xc4, v10, xR4⟩ : VN (negB zs) (zs.natAbs) (ev (.tmp 10)) wv := hd 4 (by decide)
    refine rel_call (f := 77) (args := #[.agg #[.bool (negB zs), .slice xA4 xk4 xc4], .int .i64 9]) ?_ (nnear_any _ bz _ _ _ 9 zs u _ xR4 (by have := row_le (k := 60) xR4 HKS.out; omega) (by omega) rfl HU.out HBZ.out) ?_
    · have e0 := hE.func; have e1 := hE.const; clear hE hd hw
      go_simp
    · rintro e w' ⟨A, k, c, rfl, R, hb⟩
      exact ⟨_, rfl, hb, ⟨A, k, c, rfl, R⟩, fun h => by cases h⟩
  · intro ev wv hE hw hd
    refine ifw rfl (ifn rfl ?_)
    obtain ⟨xA5, xk5, xc5, v11, xR5⟩ : VN (bz) (u.natAbs) (ev (.tmp 11)) wv := hd 5 (by decide)
    refine rel_call (f := 76) (args := #[.agg #[.bool (bz), .slice xA5 xk5 xc5], .int .i64 9]) ?_ (nmade_any _ _ _ _ 9 u _ xR5 (by have := row_le (k := 60) xR5 HKU.out; omega) (by omega) HBZ.out) ?_
    · have e0 := hE.func; have e1 := hE.const; clear hE hd hw
      go_simp
    · rintro e w' ⟨rfl, hb⟩
      exact ⟨_, rfl, hb, (by rw [HM.out.1, HM.out.2.1, HM.out.2.2]; rfl), fun h => by cases h⟩
  · intro ev wv hE hw hd
    refine ifw rfl (ifw rfl ?_)
    have v12 : ev (.tmp 12) = .tuple #[.agg #[.int .i64 c, .int .i64 (t : Int)], .int .i64 e] := hd 6 (by decide)
    refine ⟨.agg #[.int .i64 c, .int .i64 (t : Int)], fun w => ?_, rfl⟩
    have e1 := hE.const; have e2 := hE.func; clear hE hd hw
    go_simp
  · intro ev wv hE hw hd
    refine ifw rfl (ifw rfl ?_)
    have v12 : ev (.tmp 12) = .tuple #[.agg #[.int .i64 c, .int .i64 (t : Int)], .int .i64 e] := hd 6 (by decide)
    refine ⟨.int .i64 e, fun w => ?_, rfl⟩
    have e1 := hE.const; have e2 := hE.func; clear hE hd hw
    go_simp
  · intro w1 M1
    intro v0 h0 _ v1 h1 _ v2 h2 _ v3 h3 _ v4 h4 _ v5 h5 _ v6 h6 _ v7 h7 _ v8 h8 _
    simp only [Act.put, List.setIfInBounds_toArray, List.set_cons_zero, List.set_cons_succ, List.drop_succ_cons, List.drop_zero]
    obtain rfl : v0 = _ := h0
    obtain ⟨xA1, xk1, xc1, rfl, xR1⟩ : VN (negB zx) (zx.natAbs) v1 w1 := h1
    obtain rfl : v2 = _ := h2
    obtain ⟨xA3, xk3, xc3, rfl, xR3⟩ : VN (negB zy) (zy.natAbs) v3 w1 := h3
    obtain ⟨xA4, xk4, xc4, rfl, xR4⟩ : VN (negB zs) (zs.natAbs) v4 w1 := h4
    obtain ⟨xA5, xk5, xc5, rfl, xR5⟩ : VN (bz) (u.natAbs) v5 w1 := h5
    obtain rfl : v6 = _ := h6
    obtain rfl : v7 = _ := h7
    obtain rfl : v8 = _ := h8
    change wpList Try.prog _ _ _ _ w1
    clear xR1 xR3 xR4 xR5 S0
    have za := M1.m.c 2 0 rfl rfl; have zb := M1.m.c 2 1 rfl rfl; have zc := M1.m.f 2 0 rfl; have zd := M1.m.f 2 1 rfl
    have HF := Lib.hid (M1.m.only.put20 2 rfl (.int .i64 c) (.int .i64 (t : Int)))
    clear M1
    go_wp2_with fail
    refine calm_normal ?_
    go_wp2_with fail
    exact bodyPost_ret (v := .tuple #[.agg #[.int .i64 c, .int .i64 (t : Int)], .int .i64 e]) (by simp [results, Try.results42, go_sem, za, zb]) rfl ⟨rfl, HF.out.bl⟩
end Go.Proofs.Ytgkogjlcecbfjaa

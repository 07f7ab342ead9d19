/- Contracts of package decimal: Cmp, Mul, Div. (Written by wip/gen/gendc3.py.) -/
import Derived.Test.YtgkogjlcecbfjaaDc5
namespace Go.Proofs.Ytgkogjlcecbfjaa
open Go.RowKit Corr
set_option linter.unusedVariables false

theorem scale18 {C : Int} {k : Nat} (h1 : -9223372036854775808 ≤ C) (h2 : C ≤ 9223372036854775807) (hk : k ≤ 18) : (C * ((10 ^ k : Nat) : Int)).natAbs < B128 := by
  rw [Int.natAbs_mul, Int.natAbs_natCast]
  exact Nat.lt_of_le_of_lt (Nat.mul_le_mul (show C.natAbs ≤ 9223372036854775808 by omega) (Nat.pow_le_pow_right (by omega) hk)) (by decide)
theorem nine_at {C z : Int} {S s : Nat} (h : S ≤ s) (hs : s ≤ 9) (hz : C * ((10 ^ (s - S) : Nat) : Int) = z) : nine C S = z * ((10 ^ (9 - s) : Nat) : Int) := by
  unfold nine; rw [← hz, Int.mul_assoc, ← pow_split (show (s - S) + (9 - s) = 9 - S by omega)]
set_option maxHeartbeats 2000000 in
theorem dcmp_le (C C' q : Int) (S S' : Nat) (w : World) (hC1 : -9223372036854775808 ≤ C) (hC2 : C ≤ 9223372036854775807) (hS : S ≤ 9) (hC1' : -9223372036854775808 ≤ C') (hC2' : C' ≤ 9223372036854775807) (hS' : S' ≤ 9) (hle : S ≤ S') (hq : cmpI (nine C S) (nine C' S') = q) :
    Calls Try.prog 38 #[.agg #[.int .i64 C, .int .i64 (S : Int)], .agg #[.int .i64 C', .int .i64 (S' : Int)]] w fun e w' => e = .returned (.tuple #[.int .i64 q, .int .i64 0]) ∧ Below w.heap.size w w' := by
  obtain ⟨zx, hzx⟩ : ∃ z, C * ((10 ^ (S' - S) : Nat) : Int) = z := ⟨_, rfl⟩
  obtain ⟨zy, hzy⟩ : ∃ z, C' * ((10 ^ (S' - S') : Nat) : Int) = z := ⟨_, rfl⟩
  obtain ⟨z, hz⟩ : ∃ z, zx - zy = z := ⟨_, rfl⟩
  obtain ⟨b, eb⟩ : ∃ x, negB z = x := ⟨_, rfl⟩
  obtain ⟨h, eh⟩ : ∃ x, hiW (z).natAbs = x := ⟨_, rfl⟩
  obtain ⟨l, el⟩ : ∃ x, loW (z).natAbs = x := ⟨_, rfl⟩
  have hxa : zx.natAbs ≤ 9223372036854775808 * 10 ^ 9 := by rw [← hzx]; exact scale_le hC1 hC2 (by omega)
  have hya : zy.natAbs ≤ 9223372036854775808 * 10 ^ 9 := by rw [← hzy]; exact scale_le hC1' hC2' (by omega)
  have hzb : z.natAbs < B128 := Nat.lt_of_le_of_lt (show z.natAbs ≤ 9223372036854775808 * 10 ^ 9 + 9223372036854775808 * 10 ^ 9 by rw [← hz]; omega) (by decide)
  have hqz : cmpI z 0 = q := by rw [← hz, cmpI_sub, ← hq, nine_at (by omega) (by omega) hzx, nine_at (by omega) (by omega) hzy]; exact (cmpI_scale (p10i _)).symm
  have HCM := Lib.hid (fun w => cmp_w b false h l 0 0 z 0 q w (hi_of hzb eh) (lo_of el) (by decide) (by decide) (of_abs eb eh el) (by decide) hqz)
  have HO := Lib.hid (fun w => of_w false 0 0 0 w (by omega) (by omega) (by decide) (by decide) (by decide))
  have HX := Lib.hid (fun w => dis_yes C (S : Int) w (by omega) (by omega))
  have HY := Lib.hid (fun w => dis_yes C' (S' : Int) w (by omega) (by omega))
  have HSU := Lib.hid (fun w => dsums_le C C' S S' w hle hS hS')
  have HTL := Lib.hid (fun gx gs gy w FX FS FY => dtell_sub b h l C C' S S' S' gx gs gy zx zy z w hC1 hC2 hC1' hC2' (by omega) (by omega) (by omega) hzx hzy hz eb eh el FX FS FY)
  clear hzx hzy hz hxa hya hzb eb eh el hqz hq
  have S0 := ((Mem.start w).push #[.int .i64 C, .int .i64 (S : Int)] 59).push #[.int .i64 C', .int .i64 (S' : Int)] 59
  simp only [size_alloc] at S0
  go_enter Try.func38, Try.ntmps38
  go_wp2_with fail
  refine (HX.out _).mono ?_
  rintro e w1 ⟨rfl, hb⟩
  have S1 := S0.keep hb
  clear S0 hb
  have x1_0 := S1.c 1 0 rfl rfl
  have x1_1 := S1.c 1 1 rfl rfl
  go_wp2_with fail
  refine (HY.out _).mono ?_
  rintro e w2 ⟨rfl, hb⟩
  have S2 := S1.keep hb
  clear x1_0 x1_1 S1 hb
  have x0_0 := S2.c 0 0 rfl rfl
  have x0_1 := S2.c 0 1 rfl rfl
  have x1_0 := S2.c 1 0 rfl rfl
  have x1_1 := S2.c 1 1 rfl rfl
  go_wp2_with fail
  refine (HSU.out _).mono ?_
  rintro e w3 ⟨gx, gs, gy, rfl, FX, FS, FY, hb⟩
  have S3 := S2.keep hb
  clear x0_0 x0_1 x1_0 x1_1 S2 hb
  go_wp2_with fail
  refine (HTL.out _ _ _ _ FX FS FY).mono ?_
  rintro e w4 ⟨rfl, hb⟩
  have S4 := S3.keep hb
  clear S3 hb
  clear FX FS FY
  go_wp2_with fail
  refine (HO.out _).mono ?_
  rintro e w5 ⟨rfl, hb⟩
  have S5 := S4.keep hb
  clear S4 hb
  go_wp2_with fail
  refine (HCM.out _).mono ?_
  rintro e w6 ⟨rfl, hb⟩
  have S6 := S5.keep hb
  clear S5 hb
  have HB := Lib.hid S6.bl
  clear S6
  go_wp2_with fail
  go_ret2
  exact ⟨rfl, HB.out⟩
set_option maxHeartbeats 2000000 in
theorem dcmp_gt (C C' q : Int) (S S' : Nat) (w : World) (hC1 : -9223372036854775808 ≤ C) (hC2 : C ≤ 9223372036854775807) (hS : S ≤ 9) (hC1' : -9223372036854775808 ≤ C') (hC2' : C' ≤ 9223372036854775807) (hS' : S' ≤ 9) (hle : S' < S) (hq : cmpI (nine C S) (nine C' S') = q) :
    Calls Try.prog 38 #[.agg #[.int .i64 C, .int .i64 (S : Int)], .agg #[.int .i64 C', .int .i64 (S' : Int)]] w fun e w' => e = .returned (.tuple #[.int .i64 q, .int .i64 0]) ∧ Below w.heap.size w w' := by
  obtain ⟨zx, hzx⟩ : ∃ z, C * ((10 ^ (S - S) : Nat) : Int) = z := ⟨_, rfl⟩
  obtain ⟨zy, hzy⟩ : ∃ z, C' * ((10 ^ (S - S') : Nat) : Int) = z := ⟨_, rfl⟩
  obtain ⟨z, hz⟩ : ∃ z, zx - zy = z := ⟨_, rfl⟩
  obtain ⟨b, eb⟩ : ∃ x, negB z = x := ⟨_, rfl⟩
  obtain ⟨h, eh⟩ : ∃ x, hiW (z).natAbs = x := ⟨_, rfl⟩
  obtain ⟨l, el⟩ : ∃ x, loW (z).natAbs = x := ⟨_, rfl⟩
  have hxa : zx.natAbs ≤ 9223372036854775808 * 10 ^ 9 := by rw [← hzx]; exact scale_le hC1 hC2 (by omega)
  have hya : zy.natAbs ≤ 9223372036854775808 * 10 ^ 9 := by rw [← hzy]; exact scale_le hC1' hC2' (by omega)
  have hzb : z.natAbs < B128 := Nat.lt_of_le_of_lt (show z.natAbs ≤ 9223372036854775808 * 10 ^ 9 + 9223372036854775808 * 10 ^ 9 by rw [← hz]; omega) (by decide)
  have hqz : cmpI z 0 = q := by rw [← hz, cmpI_sub, ← hq, nine_at (by omega) (by omega) hzx, nine_at (by omega) (by omega) hzy]; exact (cmpI_scale (p10i _)).symm
  have HCM := Lib.hid (fun w => cmp_w b false h l 0 0 z 0 q w (hi_of hzb eh) (lo_of el) (by decide) (by decide) (of_abs eb eh el) (by decide) hqz)
  have HO := Lib.hid (fun w => of_w false 0 0 0 w (by omega) (by omega) (by decide) (by decide) (by decide))
  have HX := Lib.hid (fun w => dis_yes C (S : Int) w (by omega) (by omega))
  have HY := Lib.hid (fun w => dis_yes C' (S' : Int) w (by omega) (by omega))
  have HSU := Lib.hid (fun w => dsums_gt C C' S S' w hle hS hS')
  have HTL := Lib.hid (fun gx gs gy w FX FS FY => dtell_sub b h l C C' S S' S gx gs gy zx zy z w hC1 hC2 hC1' hC2' (by omega) (by omega) (by omega) hzx hzy hz eb eh el FX FS FY)
  clear hzx hzy hz hxa hya hzb eb eh el hqz hq
  have S0 := ((Mem.start w).push #[.int .i64 C, .int .i64 (S : Int)] 59).push #[.int .i64 C', .int .i64 (S' : Int)] 59
  simp only [size_alloc] at S0
  go_enter Try.func38, Try.ntmps38
  go_wp2_with fail
  refine (HX.out _).mono ?_
  rintro e w1 ⟨rfl, hb⟩
  have S1 := S0.keep hb
  clear S0 hb
  have x1_0 := S1.c 1 0 rfl rfl
  have x1_1 := S1.c 1 1 rfl rfl
  go_wp2_with fail
  refine (HY.out _).mono ?_
  rintro e w2 ⟨rfl, hb⟩
  have S2 := S1.keep hb
  clear x1_0 x1_1 S1 hb
  have x0_0 := S2.c 0 0 rfl rfl
  have x0_1 := S2.c 0 1 rfl rfl
  have x1_0 := S2.c 1 0 rfl rfl
  have x1_1 := S2.c 1 1 rfl rfl
  go_wp2_with fail
  refine (HSU.out _).mono ?_
  rintro e w3 ⟨gx, gs, gy, rfl, FX, FS, FY, hb⟩
  have S3 := S2.keep hb
  clear x0_0 x0_1 x1_0 x1_1 S2 hb
  go_wp2_with fail
  refine (HTL.out _ _ _ _ FX FS FY).mono ?_
  rintro e w4 ⟨rfl, hb⟩
  have S4 := S3.keep hb
  clear S3 hb
  clear FX FS FY
  go_wp2_with fail
  refine (HO.out _).mono ?_
  rintro e w5 ⟨rfl, hb⟩
  have S5 := S4.keep hb
  clear S4 hb
  go_wp2_with fail
  refine (HCM.out _).mono ?_
  rintro e w6 ⟨rfl, hb⟩
  have S6 := S5.keep hb
  clear S5 hb
  have HB := Lib.hid S6.bl
  clear S6
  go_wp2_with fail
  go_ret2
  exact ⟨rfl, HB.out⟩
theorem dcmp_any (C C' q : Int) (S S' : Nat) (w : World) (hC1 : -9223372036854775808 ≤ C) (hC2 : C ≤ 9223372036854775807) (hS : S ≤ 9) (hC1' : -9223372036854775808 ≤ C') (hC2' : C' ≤ 9223372036854775807) (hS' : S' ≤ 9) (hq : cmpI (nine C S) (nine C' S') = q) :
    Calls Try.prog 38 #[.agg #[.int .i64 C, .int .i64 (S : Int)], .agg #[.int .i64 C', .int .i64 (S' : Int)]] w fun e w' => e = .returned (.tuple #[.int .i64 q, .int .i64 0]) ∧ Below w.heap.size w w' := by
  rcases Nat.lt_or_ge S' S with h | h
  · exact dcmp_gt C C' q S S' w hC1 hC2 hS hC1' hC2' hS' h hq
  · exact dcmp_le C C' q S S' w hC1 hC2 hS hC1' hC2' hS' h hq
set_option maxHeartbeats 2000000 in
theorem dmul_any (C C' : Int) (S S' : Nat) (u : Int) (w : World) (hC1 : -9223372036854775808 ≤ C) (hC2 : C ≤ 9223372036854775807) (hS : S ≤ 9) (hC1' : -9223372036854775808 ≤ C') (hC2' : C' ≤ 9223372036854775807) (hS' : S' ≤ 9) (hu : rndZ (C * C') (S + S') 9 = u) :
    Calls Try.prog 36 #[.agg #[.int .i64 C, .int .i64 (S : Int)], .agg #[.int .i64 C', .int .i64 (S' : Int)]] w fun e w' => e = .returned (.tuple #[.agg #[.int .i64 (mC u 9), .int .i64 (mS u 9 : Int)], .int .i64 (mE u 9)]) ∧ Below w.heap.size w w' := by
  obtain ⟨z, hz⟩ : ∃ z, C * C' = z := ⟨_, rfl⟩
  obtain ⟨k, hk⟩ : ∃ k, S + S' = k := ⟨_, rfl⟩
  rw [hz, hk] at hu
  obtain ⟨b, eb⟩ : ∃ x, negB z = x := ⟨_, rfl⟩
  obtain ⟨h, eh⟩ : ∃ x, hiW (z).natAbs = x := ⟨_, rfl⟩
  obtain ⟨l, el⟩ : ∃ x, loW (z).natAbs = x := ⟨_, rfl⟩
  have hzb : z.natAbs < B128 := prod_abs hC1 hC2 hC1' hC2' hz
  have HM := Lib.hid (fun w => mul_w b h l C C' z w hC1 hC2 hC1' hC2' hz eb eh el)
  have HFT := Lib.hid (fun w => drounded_any b h l k 9 z u w (hi_of hzb eh) (lo_of el) (by omega) (by omega) (of_abs eb eh el) hu)
  obtain ⟨c, hc⟩ : ∃ c, mC u 9 = c := ⟨_, rfl⟩
  obtain ⟨t, ht⟩ : ∃ t, mS u 9 = t := ⟨_, rfl⟩
  obtain ⟨e, he⟩ : ∃ e, mE u 9 = e := ⟨_, rfl⟩
  rw [hc, ht, he] at HFT
  rw [hc, ht, he]
  have HX := Lib.hid (fun w => dis_yes C (S : Int) w (by omega) (by omega))
  have HY := Lib.hid (fun w => dis_yes C' (S' : Int) w (by omega) (by omega))
  have hs1 : (S : Int) + (S' : Int) = (k : Int) := by omega
  have hs2 : IntKind.i64.wrap (k : Int) = (k : Int) := IntWalk.i64_in _ (by omega)
  clear hz hzb eb eh el hc ht he hu hk
  have S0 := (((Mem.start w).push #[.int .i64 C, .int .i64 (S : Int)] 59).push #[.int .i64 C', .int .i64 (S' : Int)] 59).push #[.int .i64 0, .int .i64 0] 59
  simp only [size_alloc] at S0
  go_enter Try.func36, Try.ntmps36
  go_wp2_with fail
  refine (HX.out _).mono ?_
  rintro e w1 ⟨rfl, hb⟩
  have S1 := S0.keep hb
  clear S0 hb
  have x1_0 := S1.c 1 0 rfl rfl
  have x1_1 := S1.c 1 1 rfl rfl
  go_wp2_with fail
  refine (HY.out _).mono ?_
  rintro e w2 ⟨rfl, hb⟩
  have S2 := S1.keep hb
  clear x1_0 x1_1 S1 hb
  have x0_0 := S2.c 0 0 rfl rfl
  have x0_1 := S2.c 0 1 rfl rfl
  have x1_0 := S2.c 1 0 rfl rfl
  have x1_1 := S2.c 1 1 rfl rfl
  go_upto_region 3 with fail
  clear x0_0 x0_1 x1_0 x1_1
  refine wp_region_rel 13 (MemAt w w2.heap.size [(w.heap.size, #[.int .i64 C, .int .i64 (S : Int)]), (w.heap.size + 1, #[.int .i64 C', .int .i64 (S' : Int)]), (w.heap.size + 1 + 1, #[.int .i64 0, .int .i64 0])] [])
    (fun i => List.getD [VE (.pointer (some ⟨w.heap.size, 0, none⟩)), VE (.int .i64 C), VE (.pointer (some ⟨w.heap.size + 1, 0, none⟩)), VE (.int .i64 C'), VE (.agg #[.bool b, .int .u64 (h : Int), .int .u64 (l : Int)]), VE (.pointer (some ⟨w.heap.size, 1, none⟩)), VE (.int .i64 (S : Int)), VE (.pointer (some ⟨w.heap.size + 1, 1, none⟩)), VE (.int .i64 (S' : Int)), VE (.int .i64 (k : Int)), VE (.tuple #[.agg #[.int .i64 c, .int .i64 (t : Int)], .int .i64 e]), VE (.agg #[.int .i64 c, .int .i64 (t : Int)]), VE (.int .i64 e)] i (fun _ _ => False)) [] [0, 2, 5, 7, 9, 11, 12] (by kernel_rfl) (by kernel_rfl) S2.at (fun _ _ h hb => h.grow hb)
    (stays_all (stays_cons (stays_VE _) (stays_cons (stays_VE _) (stays_cons (stays_VE _) (stays_cons (stays_VE _) (stays_cons (stays_VE _) (stays_cons (stays_VE _) (stays_cons (stays_VE _) (stays_cons (stays_VE _) (stays_cons (stays_VE _) (stays_cons (stays_VE _) (stays_cons (stays_VE _) (stays_cons (stays_VE _) (stays_cons (stays_VE _) stays_nil)))))))))))))) ⟨?_, ?_, ?_, ?_, ?_, ?_, ?_, ?_, ?_, ?_, ?_, ?_, ?_, trivial⟩ ?_
  · intro ev wv hE hw hd
    refine ifw rfl (ifw rfl ?_)
    have v2 : ev (.tmp 2) = .pointer (some ⟨w.heap.size, 0, none⟩) := hE.tmp 2 rfl
    refine ⟨.pointer (some ⟨w.heap.size, 0, none⟩), fun w => ?_, rfl⟩
    have e1 := hE.const; have e2 := hE.func; clear hE hd hw
    go_simp
  · intro ev wv hE hw hd
    refine ifw rfl (ifn rfl ?_)
    have v15 : ev (.tmp 15) = .pointer (some ⟨w.heap.size, 0, none⟩) := hd 0 (by decide)
    have kx := hw.m.c 0 0 rfl rfl
    refine rel_val (u := .int .i64 C) (w' := wv) ?_ (Below.refl _ _) ⟨rfl, fun h => by cases h⟩
    have e1 := hE.const; clear hE hd hw
    go_simp
  · intro ev wv hE hw hd
    refine ifw rfl (ifw rfl ?_)
    have v3 : ev (.tmp 3) = .pointer (some ⟨w.heap.size + 1, 0, none⟩) := hE.tmp 3 rfl
    refine ⟨.pointer (some ⟨w.heap.size + 1, 0, none⟩), fun w => ?_, rfl⟩
    have e1 := hE.const; have e2 := hE.func; clear hE hd hw
    go_simp
  · intro ev wv hE hw hd
    refine ifw rfl (ifn rfl ?_)
    have v17 : ev (.tmp 17) = .pointer (some ⟨w.heap.size + 1, 0, none⟩) := hd 2 (by decide)
    have kx := hw.m.c 1 0 rfl rfl
    refine rel_val (u := .int .i64 C') (w' := wv) ?_ (Below.refl _ _) ⟨rfl, fun h => by cases h⟩
    have e1 := hE.const; clear hE hd hw
    go_simp
  · intro ev wv hE hw hd
    refine ifw rfl (ifn rfl ?_)
    have v16 : ev (.tmp 16) = .int .i64 C := hd 1 (by decide)
    have v18 : ev (.tmp 18) = .int .i64 C' := hd 3 (by decide)
    refine rel_call (f := 19) (args := #[.int .i64 C, .int .i64 C']) ?_ (HM.out _) ?_
    · have e0 := hE.func; have e1 := hE.const; clear hE hd hw
      go_simp
    · rintro e w' ⟨rfl, hb⟩
      exact ⟨_, rfl, hb, rfl, fun h => by cases h⟩
  · intro ev wv hE hw hd
    refine ifw rfl (ifw rfl ?_)
    have v2 : ev (.tmp 2) = .pointer (some ⟨w.heap.size, 0, none⟩) := hE.tmp 2 rfl
    refine ⟨.pointer (some ⟨w.heap.size, 1, none⟩), fun w => ?_, rfl⟩
    have e1 := hE.const; have e2 := hE.func; clear hE hd hw
    go_simp
  · intro ev wv hE hw hd
    refine ifw rfl (ifn rfl ?_)
    have v20 : ev (.tmp 20) = .pointer (some ⟨w.heap.size, 1, none⟩) := hd 5 (by decide)
    have kx := hw.m.c 0 1 rfl rfl
    refine rel_val (u := .int .i64 (S : Int)) (w' := wv) ?_ (Below.refl _ _) ⟨rfl, fun h => by cases h⟩
    have e1 := hE.const; clear hE hd hw
    go_simp
  · intro ev wv hE hw hd
    refine ifw rfl (ifw rfl ?_)
    have v3 : ev (.tmp 3) = .pointer (some ⟨w.heap.size + 1, 0, none⟩) := hE.tmp 3 rfl
    refine ⟨.pointer (some ⟨w.heap.size + 1, 1, none⟩), fun w => ?_, rfl⟩
    have e1 := hE.const; have e2 := hE.func; clear hE hd hw
    go_simp
  · intro ev wv hE hw hd
    refine ifw rfl (ifn rfl ?_)
    have v22 : ev (.tmp 22) = .pointer (some ⟨w.heap.size + 1, 1, none⟩) := hd 7 (by decide)
    have kx := hw.m.c 1 1 rfl rfl
    refine rel_val (u := .int .i64 (S' : Int)) (w' := wv) ?_ (Below.refl _ _) ⟨rfl, fun h => by cases h⟩
    have e1 := hE.const; clear hE hd hw
    go_simp
  · intro ev wv hE hw hd
    refine ifw rfl (ifw rfl ?_)
    have v21 : ev (.tmp 21) = .int .i64 (S : Int) := hd 6 (by decide)
    have v23 : ev (.tmp 23) = .int .i64 (S' : Int) := hd 8 (by decide)
    refine ⟨.int .i64 (k : Int), fun w => ?_, rfl⟩
    have e1 := hE.const; have e2 := hE.func; clear hE hd hw
    go_simp
  · intro ev wv hE hw hd
    refine ifw rfl (ifn rfl ?_)
    have v19 : ev (.tmp 19) = .agg #[.bool b, .int .u64 (h : Int), .int .u64 (l : Int)] := hd 4 (by decide)
    have v24 : ev (.tmp 24) = .int .i64 (k : Int) := hd 9 (by decide)
    refine rel_call (f := 75) (args := #[.agg #[.bool b, .int .u64 (h : Int), .int .u64 (l : Int)], .int .i64 (k : Int), .int .i64 9]) ?_ (HFT.out _) ?_
    · have e0 := hE.func; have e1 := hE.const; clear hE hd hw
      go_simp
    · rintro e w' ⟨rfl, hb⟩
      exact ⟨_, rfl, hb, rfl, fun h => by cases h⟩
  · intro ev wv hE hw hd
    refine ifw rfl (ifw rfl ?_)
    have v25 : ev (.tmp 25) = .tuple #[.agg #[.int .i64 c, .int .i64 (t : Int)], .int .i64 e] := hd 10 (by decide)
    refine ⟨.agg #[.int .i64 c, .int .i64 (t : Int)], fun w => ?_, rfl⟩
    have e1 := hE.const; have e2 := hE.func; clear hE hd hw
    go_simp
  · intro ev wv hE hw hd
    refine ifw rfl (ifw rfl ?_)
    have v25 : ev (.tmp 25) = .tuple #[.agg #[.int .i64 c, .int .i64 (t : Int)], .int .i64 e] := hd 10 (by decide)
    refine ⟨.int .i64 e, fun w => ?_, rfl⟩
    have e1 := hE.const; have e2 := hE.func; clear hE hd hw
    go_simp
  · intro wz MZ
    intro v0 h0 _ v1 h1 _ v2 h2 _ v3 h3 _ v4 h4 _ v5 h5 _ v6 h6 _ v7 h7 _ v8 h8 _ v9 h9 _ v10 h10 _ v11 h11 _ v12 h12 _
    simp only [Act.put, List.setIfInBounds_toArray, List.set_cons_zero, List.set_cons_succ, List.drop_succ_cons, List.drop_zero]
    obtain rfl : v0 = _ := h0
    obtain rfl : v1 = _ := h1
    obtain rfl : v2 = _ := h2
    obtain rfl : v3 = _ := h3
    obtain rfl : v4 = _ := h4
    obtain rfl : v5 = _ := h5
    obtain rfl : v6 = _ := h6
    obtain rfl : v7 = _ := h7
    obtain rfl : v8 = _ := h8
    obtain rfl : v9 = _ := h9
    obtain rfl : v10 = _ := h10
    obtain rfl : v11 = _ := h11
    obtain rfl : v12 = _ := h12
    change wpList Try.prog _ _ _ _ wz
    have za := MZ.m.c 2 0 rfl rfl; have zb := MZ.m.c 2 1 rfl rfl; have zc := MZ.m.f 2 0 rfl; have zd := MZ.m.f 2 1 rfl
    have HF := Lib.hid (MZ.m.put20 2 rfl (.int .i64 c) (.int .i64 (t : Int)))
    clear MZ S2
    go_wp2_with fail
    refine calm_normal ?_
    go_wp2_with fail
    exact bodyPost_ret (v := .tuple #[.agg #[.int .i64 c, .int .i64 (t : Int)], .int .i64 e]) (by simp [results, Try.results36, go_sem, za, zb]) rfl ⟨rfl, HF.out.bl⟩
theorem ddiv_nought (C : Int) (S S' : Nat) (w : World) (hS : S ≤ 9) (hS' : S' ≤ 9) :
    Calls Try.prog 37 #[.agg #[.int .i64 C, .int .i64 (S : Int)], .agg #[.int .i64 0, .int .i64 (S' : Int)]] w fun e w' => e = .returned (.tuple #[.agg #[.int .i64 0, .int .i64 0], .int .i64 12]) ∧ Below w.heap.size w w' := by
  have HX := Lib.hid (fun w => dis_yes C (S : Int) w (by omega) (by omega))
  have HY := Lib.hid (fun w => dis_yes 0 (S' : Int) w (by omega) (by omega))
  have S0 := (((Mem.start w).push #[.int .i64 C, .int .i64 (S : Int)] 59).push #[.int .i64 0, .int .i64 (S' : Int)] 59).push #[.int .i64 0, .int .i64 0] 59
  simp only [size_alloc] at S0
  go_enter Try.func37, Try.ntmps37
  go_wp2_with fail
  refine (HX.out _).mono ?_
  rintro e w1 ⟨rfl, hb⟩
  have S1 := S0.keep hb
  clear S0 hb
  have x1_0 := S1.c 1 0 rfl rfl
  have x1_1 := S1.c 1 1 rfl rfl
  go_wp2_with fail
  refine (HY.out _).mono ?_
  rintro e w2 ⟨rfl, hb⟩
  have S2 := S1.keep hb
  clear x1_0 x1_1 S1 hb
  have x1_0 := S2.c 1 0 rfl rfl
  have x1_1 := S2.c 1 1 rfl rfl
  have za := S2.c 2 0 rfl rfl; have zb := S2.c 2 1 rfl rfl; have zc := S2.f 2 0 rfl; have zd := S2.f 2 1 rfl
  have HF := Lib.hid (S2.put20 2 rfl (.int .i64 0) (.int .i64 0))
  clear S2
  go_wp2_with fail
  exact bodyPost_ret (v := .tuple #[.agg #[.int .i64 0, .int .i64 0], .int .i64 12]) (by simp [results, Try.results37, go_sem, za, zb]) rfl ⟨rfl, HF.out.bl⟩
set_option maxHeartbeats 4000000 in
theorem ddiv_pos (C C' : Int) (S S' : Nat) (u : Int) (w : World) (hC1 : -9223372036854775808 ≤ C) (hC2 : C ≤ 9223372036854775807) (hS : S ≤ 9) (hC1' : -9223372036854775808 ≤ C') (hC2' : C' ≤ 9223372036854775807) (hS' : S' ≤ 9) (h0 : 0 < C') (hu : evZ (C * ((10 ^ (9 + S' - S) : Nat) : Int)) C'.natAbs = u) :
    Calls Try.prog 37 #[.agg #[.int .i64 C, .int .i64 (S : Int)], .agg #[.int .i64 C', .int .i64 (S' : Int)]] w fun e w' => e = .returned (.tuple #[.agg #[.int .i64 (mC u 9), .int .i64 (mS u 9 : Int)], .int .i64 (mE u 9)]) ∧ Below w.heap.size w w' := by
  obtain ⟨k, hk⟩ : ∃ k, 9 + S' = k := ⟨_, rfl⟩
  obtain ⟨m, hm⟩ : ∃ m, k - S = m := ⟨_, rfl⟩
  obtain ⟨z, hz⟩ : ∃ z, C * ((10 ^ m : Nat) : Int) = z := ⟨_, rfl⟩
  rw [hk, hm, hz] at hu
  obtain ⟨b, eb⟩ : ∃ x, negB z = x := ⟨_, rfl⟩
  obtain ⟨h, eh⟩ : ∃ x, hiW (z).natAbs = x := ⟨_, rfl⟩
  obtain ⟨l, el⟩ : ∃ x, loW (z).natAbs = x := ⟨_, rfl⟩
  obtain ⟨bo, ebo⟩ : ∃ x, negB C = x := ⟨_, rfl⟩
  obtain ⟨ho, eho⟩ : ∃ x, hiW (C).natAbs = x := ⟨_, rfl⟩
  obtain ⟨lo, elo⟩ : ∃ x, loW (C).natAbs = x := ⟨_, rfl⟩
  obtain ⟨bp, ebp⟩ : ∃ x, negB C' = x := ⟨_, rfl⟩
  obtain ⟨hp, ehp⟩ : ∃ x, hiW (C').natAbs = x := ⟨_, rfl⟩
  obtain ⟨lp, elp⟩ : ∃ x, loW (C').natAbs = x := ⟨_, rfl⟩
  obtain ⟨b2, eb2⟩ : ∃ x, negB u = x := ⟨_, rfl⟩
  obtain ⟨h2, eh2⟩ : ∃ x, hiW (u).natAbs = x := ⟨_, rfl⟩
  obtain ⟨l2, el2⟩ : ∃ x, loW (u).natAbs = x := ⟨_, rfl⟩
  have hzb : z.natAbs < B128 := by rw [← hz]; exact scale18 hC1 hC2 (by omega)
  have hlp : lp = C'.natAbs := by rw [← elp]; exact of_abs64 hC1' hC2'
  have hl0 : 0 < lp := by omega
  have hl1 : lp < B64 := lo_of elp
  have HO := Lib.hid (fun w => of_w bo ho lo C w hC1 hC2 ebo eho elo)
  have HP := Lib.hid (fun w => of_w bp hp lp C' w hC1' hC2' ebp ehp elp)
  have HT := Lib.hid (fun w => times_w b bo ho lo (10 ^ m) h l C z w (hi_of (abs128 hC1 hC2) eho) (lo_of elo) (p10_64 (by omega)) (of_abs ebo eho elo) hz hzb eb eh el)
  have hub : u.natAbs < B128 := by rw [← hu, ← hlp]; exact evZ_lt (hi_of hzb eh) (lo_of el) hl0 (of_abs eb eh el)
  have HE := Lib.hid (fun w => even_w b b2 h l lp h2 l2 u w (hi_of hzb eh) (lo_of el) hl1 hl0 (by rw [even_ev _ _ _ hl0, (of_abs eb eh el), hlp]; exact hu) eb2 eh2 el2)
  have HFT := Lib.hid (fun w => dfit_any b2 h2 l2 9 u w (hi_of hub eh2) (lo_of el2) (by omega) (of_abs eb2 eh2 el2))
  obtain ⟨c, hc⟩ : ∃ c, mC u 9 = c := ⟨_, rfl⟩
  obtain ⟨t, ht⟩ : ∃ t, mS u 9 = t := ⟨_, rfl⟩
  obtain ⟨e, he⟩ : ∃ e, mE u 9 = e := ⟨_, rfl⟩
  rw [hc, ht, he] at HFT
  rw [hc, ht, he]
  have HX := Lib.hid (fun w => dis_yes C (S : Int) w (by omega) (by omega))
  have HY := Lib.hid (fun w => dis_yes C' (S' : Int) w (by omega) (by omega))
  have hs1 : (9 : Int) + (S' : Int) = (k : Int) := by omega
  have hs2 : IntKind.i64.wrap (k : Int) = (k : Int) := IntWalk.i64_in _ (by omega)
  have hs3 : (k : Int) - (S : Int) = (m : Int) := by omega
  have hs4 : IntKind.i64.wrap (m : Int) = (m : Int) := IntWalk.i64_in _ (by omega)
  have hm18 : m ≤ 18 := by omega
  clear hk hm
  have HS := Lib.hid (And.intro hs1 (And.intro hs2 (And.intro hs3 hs4)))
  have hz0 : (C' == 0) = false := by rw [beq_eq_false_iff_ne]; omega
  clear hz hu hzb eb eh el ebo eho elo ebp ehp elp eb2 eh2 el2 hlp hl0 hl1 hub hc ht he hs1 hs2 hs3 hs4
  have S0 := (((Mem.start w).push #[.int .i64 C, .int .i64 (S : Int)] 59).push #[.int .i64 C', .int .i64 (S' : Int)] 59).push #[.int .i64 0, .int .i64 0] 59
  simp only [size_alloc] at S0
  go_enter Try.func37, Try.ntmps37
  go_wp2_with fail
  refine (HX.out _).mono ?_
  rintro e w1 ⟨rfl, hb⟩
  have S1 := S0.keep hb
  clear S0 hb
  have x1_0 := S1.c 1 0 rfl rfl
  have x1_1 := S1.c 1 1 rfl rfl
  go_wp2_with fail
  refine (HY.out _).mono ?_
  rintro e w2 ⟨rfl, hb⟩
  have S2 := S1.keep hb
  clear x1_0 x1_1 S1 hb
  have x0_0 := S2.c 0 0 rfl rfl
  have x0_1 := S2.c 0 1 rfl rfl
  have x1_0 := S2.c 1 0 rfl rfl
  have x1_1 := S2.c 1 1 rfl rfl
  go_upto_region 5 with fail
  clear x0_0 x0_1 x1_0 x1_1
  obtain ⟨hs1, hs2, hs3, hs4⟩ := HS.out
  refine wp_region_rel 15 (MemAt w w2.heap.size [(w.heap.size, #[.int .i64 C, .int .i64 (S : Int)]), (w.heap.size + 1, #[.int .i64 C', .int .i64 (S' : Int)]), (w.heap.size + 1 + 1, #[.int .i64 0, .int .i64 0])] [])
    (fun i => List.getD [VE (.pointer (some ⟨w.heap.size, 0, none⟩)), VE (.int .i64 C), VE (.agg #[.bool bo, .int .u64 (ho : Int), .int .u64 (lo : Int)]), VE (.pointer (some ⟨w.heap.size + 1, 1, none⟩)), VE (.int .i64 (S' : Int)), VE (.int .i64 (k : Int)), VE (.pointer (some ⟨w.heap.size, 1, none⟩)), VE (.int .i64 (S : Int)), VE (.int .i64 (m : Int)), VE (.int .u64 ((10 ^ m : Nat) : Int)), VE (.tuple #[.agg #[.bool b, .int .u64 (h : Int), .int .u64 (l : Int)], .int .i64 0]), VE (.tuple #[.agg #[.bool b, .int .u64 (h : Int), .int .u64 (l : Int)], .int .i64 0]), VE (.agg #[.bool b, .int .u64 (h : Int), .int .u64 (l : Int)]), VE (.int .i64 0), VA (w2.heap.size) #[.bool false, .int .u64 0, .int .u64 0]] i (fun _ _ => False)) [14] [0, 3, 5, 6, 8, 11, 12, 13] (by kernel_rfl) (by kernel_rfl) S2.at (fun _ _ h hb => h.grow hb)
    (stays_all (stays_cons (stays_VE _) (stays_cons (stays_VE _) (stays_cons (stays_VE _) (stays_cons (stays_VE _) (stays_cons (stays_VE _) (stays_cons (stays_VE _) (stays_cons (stays_VE _) (stays_cons (stays_VE _) (stays_cons (stays_VE _) (stays_cons (stays_VE _) (stays_cons (stays_VE _) (stays_cons (stays_VE _) (stays_cons (stays_VE _) (stays_cons (stays_VE _) (stays_cons (stays_VA _ _) stays_nil)))))))))))))))) ⟨?_, ?_, ?_, ?_, ?_, ?_, ?_, ?_, ?_, ?_, ?_, ?_, ?_, ?_, ?_, trivial⟩ ?_
  · intro ev wv hE hw hd
    refine ifw rfl (ifw rfl ?_)
    have v2 : ev (.tmp 2) = .pointer (some ⟨w.heap.size, 0, none⟩) := hE.tmp 2 rfl
    refine ⟨.pointer (some ⟨w.heap.size, 0, none⟩), fun w => ?_, rfl⟩
    have e1 := hE.const; have e2 := hE.func; clear hE hd hw
    go_simp
  · intro ev wv hE hw hd
    refine ifw rfl (ifn rfl ?_)
    have v24 : ev (.tmp 24) = .pointer (some ⟨w.heap.size, 0, none⟩) := hd 0 (by decide)
    have kx := hw.m.c 0 0 rfl rfl
    refine rel_val (u := .int .i64 C) (w' := wv) ?_ (Below.refl _ _) ⟨rfl, fun h => by cases h⟩
    have e1 := hE.const; clear hE hd hw
    go_simp
  · intro ev wv hE hw hd
    refine ifw rfl (ifn rfl ?_)
    have v25 : ev (.tmp 25) = .int .i64 C := hd 1 (by decide)
    refine rel_call (f := 20) (args := #[.int .i64 C]) ?_ (HO.out _) ?_
    · have e0 := hE.func; have e1 := hE.const; clear hE hd hw
      go_simp
    · rintro e w' ⟨rfl, hb⟩
      exact ⟨_, rfl, hb, rfl, fun h => by cases h⟩
  · intro ev wv hE hw hd
    refine ifw rfl (ifw rfl ?_)
    have v3 : ev (.tmp 3) = .pointer (some ⟨w.heap.size + 1, 0, none⟩) := hE.tmp 3 rfl
    refine ⟨.pointer (some ⟨w.heap.size + 1, 1, none⟩), fun w => ?_, rfl⟩
    have e1 := hE.const; have e2 := hE.func; clear hE hd hw
    go_simp
  · intro ev wv hE hw hd
    refine ifw rfl (ifn rfl ?_)
    have v27 : ev (.tmp 27) = .pointer (some ⟨w.heap.size + 1, 1, none⟩) := hd 3 (by decide)
    have kx := hw.m.c 1 1 rfl rfl
    refine rel_val (u := .int .i64 (S' : Int)) (w' := wv) ?_ (Below.refl _ _) ⟨rfl, fun h => by cases h⟩
    have e1 := hE.const; clear hE hd hw
    go_simp
  · intro ev wv hE hw hd
    refine ifw rfl (ifw rfl ?_)
    have v28 : ev (.tmp 28) = .int .i64 (S' : Int) := hd 4 (by decide)
    refine ⟨.int .i64 (k : Int), fun w => ?_, rfl⟩
    have e1 := hE.const; have e2 := hE.func; clear hE hd hw
    go_simp
  · intro ev wv hE hw hd
    refine ifw rfl (ifw rfl ?_)
    have v2 : ev (.tmp 2) = .pointer (some ⟨w.heap.size, 0, none⟩) := hE.tmp 2 rfl
    refine ⟨.pointer (some ⟨w.heap.size, 1, none⟩), fun w => ?_, rfl⟩
    have e1 := hE.const; have e2 := hE.func; clear hE hd hw
    go_simp
  · intro ev wv hE hw hd
    refine ifw rfl (ifn rfl ?_)
    have v30 : ev (.tmp 30) = .pointer (some ⟨w.heap.size, 1, none⟩) := hd 6 (by decide)
    have kx := hw.m.c 0 1 rfl rfl
    refine rel_val (u := .int .i64 (S : Int)) (w' := wv) ?_ (Below.refl _ _) ⟨rfl, fun h => by cases h⟩
    have e1 := hE.const; clear hE hd hw
    go_simp
  · intro ev wv hE hw hd
    refine ifw rfl (ifw rfl ?_)
    have v29 : ev (.tmp 29) = .int .i64 (k : Int) := hd 5 (by decide)
    have v31 : ev (.tmp 31) = .int .i64 (S : Int) := hd 7 (by decide)
    refine ⟨.int .i64 (m : Int), fun w => ?_, rfl⟩
    have e1 := hE.const; have e2 := hE.func; clear hE hd hw
    go_simp
  · intro ev wv hE hw hd
    refine ifw rfl (ifn rfl ?_)
    have v32 : ev (.tmp 32) = .int .i64 (m : Int) := hd 8 (by decide)
    refine rel_call (f := 31) (args := #[.int .i64 (m : Int)]) ?_ ((ten_ok m _ (by omega))) ?_
    · have e0 := hE.func; have e1 := hE.const; clear hE hd hw
      go_simp
    · rintro e w' ⟨rfl, rfl⟩
      exact ⟨_, rfl, Below.refl _ _, rfl, fun h => by cases h⟩
  · intro ev wv hE hw hd
    refine ifw rfl (ifn rfl ?_)
    have v26 : ev (.tmp 26) = .agg #[.bool bo, .int .u64 (ho : Int), .int .u64 (lo : Int)] := hd 2 (by decide)
    have v33 : ev (.tmp 33) = .int .u64 ((10 ^ m : Nat) : Int) := hd 9 (by decide)
    refine rel_call (f := 10) (args := #[.agg #[.bool bo, .int .u64 (ho : Int), .int .u64 (lo : Int)], .int .u64 ((10 ^ m : Nat) : Int)]) ?_ (HT.out _) ?_
    · have e0 := hE.func; have e1 := hE.const; clear hE hd hw
      go_simp
    · rintro e w' ⟨rfl, hb⟩
      exact ⟨_, rfl, hb, rfl, fun h => by cases h⟩
  · intro ev wv hE hw hd
    refine ifw rfl (ifw rfl ?_)
    have v34 : ev (.tmp 34) = .tuple #[.agg #[.bool b, .int .u64 (h : Int), .int .u64 (l : Int)], .int .i64 0] := hd 10 (by decide)
    refine ⟨.tuple #[.agg #[.bool b, .int .u64 (h : Int), .int .u64 (l : Int)], .int .i64 0], fun w => ?_, rfl⟩
    have e1 := hE.const; have e2 := hE.func; clear hE hd hw
    go_simp
  · intro ev wv hE hw hd
    refine ifw rfl (ifw rfl ?_)
    have v23 : ev (.tmp 23) = .tuple #[.agg #[.bool b, .int .u64 (h : Int), .int .u64 (l : Int)], .int .i64 0] := hd 11 (by decide)
    refine ⟨.agg #[.bool b, .int .u64 (h : Int), .int .u64 (l : Int)], fun w => ?_, rfl⟩
    have e1 := hE.const; have e2 := hE.func; clear hE hd hw
    go_simp
  · intro ev wv hE hw hd
    refine ifw rfl (ifw rfl ?_)
    have v23 : ev (.tmp 23) = .tuple #[.agg #[.bool b, .int .u64 (h : Int), .int .u64 (l : Int)], .int .i64 0] := hd 11 (by decide)
    refine ⟨.int .i64 0, fun w => ?_, rfl⟩
    have e1 := hE.const; have e2 := hE.func; clear hE hd hw
    go_simp
  · intro ev wv hE hw hd
    refine ifw rfl (ifn rfl ?_)
    refine rel_val (u := .pointer (some ⟨wv.heap.size, 0, none⟩)) (w' := wv.alloc (.cells #[.bool false, .int .u64 0, .int .u64 0] 24)) ?_ ((Below.refl _ _).alloc (Nat.le_refl _) _) ⟨⟨_, rfl, Blk.new _ _ _, hw.h⟩, fun _ => ⟨_, rfl, Nat.le_refl _, by simp⟩⟩
    clear hE hd hw
    go_simp
  · intro w3 M3
    intro v0 h0 _ v1 h1 _ v2 h2 _ v3 h3 _ v4 h4 _ v5 h5 _ v6 h6 _ v7 h7 _ v8 h8 _ v9 h9 _ v10 h10 _ v11 h11 _ v12 h12 _ v13 h13 _ v14 h14 n14
    simp only [Act.put, List.setIfInBounds_toArray, List.set_cons_zero, List.set_cons_succ, List.drop_succ_cons, List.drop_zero]
    obtain rfl : v0 = _ := h0
    obtain rfl : v1 = _ := h1
    obtain rfl : v2 = _ := h2
    obtain rfl : v3 = _ := h3
    obtain rfl : v4 = _ := h4
    obtain rfl : v5 = _ := h5
    obtain rfl : v6 = _ := h6
    obtain rfl : v7 = _ := h7
    obtain rfl : v8 = _ := h8
    obtain rfl : v9 = _ := h9
    obtain rfl : v10 = _ := h10
    obtain rfl : v11 = _ := h11
    obtain rfl : v12 = _ := h12
    obtain rfl : v13 = _ := h13
    obtain ⟨xg14, rfl, xB14, xl14⟩ : VA (w2.heap.size) #[.bool false, .int .u64 0, .int .u64 0] v14 w3 := h14
    change wpList Try.prog _ _ _ _ w3
    have SF := M3.m.join S2 xB14 xl14
    have y0 := SF.c 3 0 rfl rfl; have y1 := SF.c 3 1 rfl rfl; have y2 := SF.c 3 2 rfl rfl
    have y3 := SF.f 3 0 rfl; have y4 := SF.f 3 1 rfl; have y5 := SF.f 3 2 rfl
    have M4 := SF.put3 3 rfl rfl (.bool b) (.int .u64 (h : Int)) (.int .u64 (l : Int)) rfl rfl
    clear SF xB14 xl14 M3 S2 n14 hs1 hs2 hs3 hs4
    go_wp2_with fail
    refine calm_normal ?_
    generalize ((w3.setCell ⟨xg14, 0, none⟩ (.bool b)).setCell ⟨xg14, 1, none⟩ (.int .u64 (h : Int))).setCell ⟨xg14, 2, none⟩ (.int .u64 (l : Int)) = w4 at *
    clear y0 y1 y2 y3 y4 y5
    have y0 := M4.c 3 0 rfl rfl; have y1 := M4.c 3 1 rfl rfl; have y2 := M4.c 3 2 rfl rfl; have y3 := M4.c 1 0 rfl rfl
    have M6 := M4
    clear M4
    obtain ⟨w6, rfl⟩ : ∃ w6, w6 = w4 := ⟨_, rfl⟩
    go_upto_region 8 with fail
    clear y0 y1 y2 y3
    refine wp_region_rel 10 (MemAt w w6.heap.size [(w.heap.size, #[.int .i64 C, .int .i64 (S : Int)]), (w.heap.size + 1, #[.int .i64 C', .int .i64 (S' : Int)]), (w.heap.size + 1 + 1, #[.int .i64 0, .int .i64 0]), (xg14, #[.bool b, .int .u64 (h : Int), .int .u64 (l : Int)])] [])
      (fun i => List.getD [VE (.agg #[.bool b, .int .u64 (h : Int), .int .u64 (l : Int)]), VE (.pointer (some ⟨w.heap.size + 1, 0, none⟩)), VE (.int .i64 C'), VE (.agg #[.bool bp, .int .u64 (hp : Int), .int .u64 (lp : Int)]), VE (.int .u64 (lp : Int)), VE (.tuple #[.agg #[.bool b2, .int .u64 (h2 : Int), .int .u64 (l2 : Int)], .int .i64 0]), VE (.tuple #[.agg #[.bool b2, .int .u64 (h2 : Int), .int .u64 (l2 : Int)], .int .i64 0]), VE (.agg #[.bool b2, .int .u64 (h2 : Int), .int .u64 (l2 : Int)]), VE (.int .i64 0), VA (w6.heap.size) #[.bool false, .int .u64 0, .int .u64 0]] i (fun _ _ => False)) [9] [1, 4, 6, 7, 8] (by kernel_rfl) (by kernel_rfl) M6.at (fun _ _ h hb => h.grow hb)
      (stays_all (stays_cons (stays_VE _) (stays_cons (stays_VE _) (stays_cons (stays_VE _) (stays_cons (stays_VE _) (stays_cons (stays_VE _) (stays_cons (stays_VE _) (stays_cons (stays_VE _) (stays_cons (stays_VE _) (stays_cons (stays_VE _) (stays_cons (stays_VA _ _) stays_nil))))))))))) ⟨?_, ?_, ?_, ?_, ?_, ?_, ?_, ?_, ?_, ?_, trivial⟩ ?_
    · intro ev wv hE hw hd
      refine ifw rfl (ifn rfl ?_)
      have v6 : ev (.tmp 6) = .pointer (some ⟨xg14, 0, none⟩) := hE.tmp 6 rfl
      have kx := hw.m.c 3 0 rfl rfl
      have ky := hw.m.c 3 1 rfl rfl
      have kz := hw.m.c 3 2 rfl rfl
      refine rel_val (u := .agg #[.bool b, .int .u64 (h : Int), .int .u64 (l : Int)]) (w' := wv) ?_ (Below.refl _ _) ⟨rfl, fun h => by cases h⟩
      have e1 := hE.const; clear hE hd hw
      go_simp
    · intro ev wv hE hw hd
      refine ifw rfl (ifw rfl ?_)
      have v3 : ev (.tmp 3) = .pointer (some ⟨w.heap.size + 1, 0, none⟩) := hE.tmp 3 rfl
      refine ⟨.pointer (some ⟨w.heap.size + 1, 0, none⟩), fun w => ?_, rfl⟩
      have e1 := hE.const; have e2 := hE.func; clear hE hd hw
      go_simp
    · intro ev wv hE hw hd
      refine ifw rfl (ifn rfl ?_)
      have v44 : ev (.tmp 44) = .pointer (some ⟨w.heap.size + 1, 0, none⟩) := hd 1 (by decide)
      have kx := hw.m.c 1 0 rfl rfl
      refine rel_val (u := .int .i64 C') (w' := wv) ?_ (Below.refl _ _) ⟨rfl, fun h => by cases h⟩
      have e1 := hE.const; clear hE hd hw
      go_simp
    · intro ev wv hE hw hd
      refine ifw rfl (ifn rfl ?_)
      have v45 : ev (.tmp 45) = .int .i64 C' := hd 2 (by decide)
      refine rel_call (f := 20) (args := #[.int .i64 C']) ?_ (HP.out _) ?_
      · have e0 := hE.func; have e1 := hE.const; clear hE hd hw
        go_simp
      · rintro e w' ⟨rfl, hb⟩
        exact ⟨_, rfl, hb, rfl, fun h => by cases h⟩
    · intro ev wv hE hw hd
      refine ifw rfl (ifw rfl ?_)
      have v46 : ev (.tmp 46) = .agg #[.bool bp, .int .u64 (hp : Int), .int .u64 (lp : Int)] := hd 3 (by decide)
      refine ⟨.int .u64 (lp : Int), fun w => ?_, rfl⟩
      have e1 := hE.const; have e2 := hE.func; clear hE hd hw
      have hfd : ∀ (x0 x1 x2 : Value) (w : World), (Instr.field 24 (.agg #[x0, x1, x2]) 2).run Try.prog w = .ok x2 w := fun _ _ _ _ => by kernel_rfl
      go_simp
    · intro ev wv hE hw hd
      refine ifw rfl (ifn rfl ?_)
      have v43 : ev (.tmp 43) = .agg #[.bool b, .int .u64 (h : Int), .int .u64 (l : Int)] := hd 0 (by decide)
      have v47 : ev (.tmp 47) = .int .u64 (lp : Int) := hd 4 (by decide)
      refine rel_call (f := 28) (args := #[.agg #[.bool b, .int .u64 (h : Int), .int .u64 (l : Int)], .int .u64 (lp : Int)]) ?_ (HE.out _) ?_
      · have e0 := hE.func; have e1 := hE.const; clear hE hd hw
        go_simp
      · rintro e w' ⟨rfl, hb⟩
        exact ⟨_, rfl, hb, rfl, fun h => by cases h⟩
    · intro ev wv hE hw hd
      refine ifw rfl (ifw rfl ?_)
      have v48 : ev (.tmp 48) = .tuple #[.agg #[.bool b2, .int .u64 (h2 : Int), .int .u64 (l2 : Int)], .int .i64 0] := hd 5 (by decide)
      refine ⟨.tuple #[.agg #[.bool b2, .int .u64 (h2 : Int), .int .u64 (l2 : Int)], .int .i64 0], fun w => ?_, rfl⟩
      have e1 := hE.const; have e2 := hE.func; clear hE hd hw
      go_simp
    · intro ev wv hE hw hd
      refine ifw rfl (ifw rfl ?_)
      have v42 : ev (.tmp 42) = .tuple #[.agg #[.bool b2, .int .u64 (h2 : Int), .int .u64 (l2 : Int)], .int .i64 0] := hd 6 (by decide)
      refine ⟨.agg #[.bool b2, .int .u64 (h2 : Int), .int .u64 (l2 : Int)], fun w => ?_, rfl⟩
      have e1 := hE.const; have e2 := hE.func; clear hE hd hw
      go_simp
    · intro ev wv hE hw hd
      refine ifw rfl (ifw rfl ?_)
      have v42 : ev (.tmp 42) = .tuple #[.agg #[.bool b2, .int .u64 (h2 : Int), .int .u64 (l2 : Int)], .int .i64 0] := hd 6 (by decide)
      refine ⟨.int .i64 0, fun w => ?_, rfl⟩
      have e1 := hE.const; have e2 := hE.func; clear hE hd hw
      go_simp
    · intro ev wv hE hw hd
      refine ifw rfl (ifn rfl ?_)
      refine rel_val (u := .pointer (some ⟨wv.heap.size, 0, none⟩)) (w' := wv.alloc (.cells #[.bool false, .int .u64 0, .int .u64 0] 24)) ?_ ((Below.refl _ _).alloc (Nat.le_refl _) _) ⟨⟨_, rfl, Blk.new _ _ _, hw.h⟩, fun _ => ⟨_, rfl, Nat.le_refl _, by simp⟩⟩
      clear hE hd hw
      go_simp
    · intro w7 M7
      intro v0 h0 _ v1 h1 _ v2 h2 _ v3 h3 _ v4 h4 _ v5 h5 _ v6 h6 _ v7 h7 _ v8 h8 _ v9 h9 n9
      simp only [Act.put, List.setIfInBounds_toArray, List.set_cons_zero, List.set_cons_succ, List.drop_succ_cons, List.drop_zero]
      obtain rfl : v0 = _ := h0
      obtain rfl : v1 = _ := h1
      obtain rfl : v2 = _ := h2
      obtain rfl : v3 = _ := h3
      obtain rfl : v4 = _ := h4
      obtain rfl : v5 = _ := h5
      obtain rfl : v6 = _ := h6
      obtain rfl : v7 = _ := h7
      obtain rfl : v8 = _ := h8
      obtain ⟨yg9, rfl, yB9, yl9⟩ : VA (w6.heap.size) #[.bool false, .int .u64 0, .int .u64 0] v9 w7 := h9
      change wpList Try.prog _ _ _ _ w7
      have SF := M7.m.join M6 yB9 yl9
      have y0 := SF.c 4 0 rfl rfl; have y1 := SF.c 4 1 rfl rfl; have y2 := SF.c 4 2 rfl rfl
      have y3 := SF.f 4 0 rfl; have y4 := SF.f 4 1 rfl; have y5 := SF.f 4 2 rfl
      have M8 := SF.put3 4 rfl rfl (.bool b2) (.int .u64 (h2 : Int)) (.int .u64 (l2 : Int)) rfl rfl
      clear SF yB9 yl9 M7 M6 n9
      go_wp2_with fail
      refine calm_normal ?_
      generalize ((w7.setCell ⟨yg9, 0, none⟩ (.bool b2)).setCell ⟨yg9, 1, none⟩ (.int .u64 (h2 : Int))).setCell ⟨yg9, 2, none⟩ (.int .u64 (l2 : Int)) = w8 at *
      clear y0 y1 y2 y3 y4 y5
      have y0 := M8.c 4 0 rfl rfl; have y1 := M8.c 4 1 rfl rfl; have y2 := M8.c 4 2 rfl rfl
      go_wp2_with fail
      refine (HFT.out _).mono ?_
      rintro e9 w9 ⟨rfl, hb⟩
      have M9 := M8.keep hb
      clear y0 y1 y2 M8 hb
      have za := M9.c 2 0 rfl rfl; have zb := M9.c 2 1 rfl rfl; have zc := M9.f 2 0 rfl; have zd := M9.f 2 1 rfl
      have HF := Lib.hid (M9.put20 2 rfl (.int .i64 c) (.int .i64 (t : Int)))
      clear M9
      go_wp2_with fail
      exact bodyPost_ret (v := .tuple #[.agg #[.int .i64 c, .int .i64 (t : Int)], .int .i64 e]) (by simp [results, Try.results37, go_sem, za, zb]) rfl ⟨rfl, HF.out.bl⟩
set_option maxHeartbeats 4000000 in
theorem ddiv_neg (C C' : Int) (S S' : Nat) (u : Int) (w : World) (hC1 : -9223372036854775808 ≤ C) (hC2 : C ≤ 9223372036854775807) (hS : S ≤ 9) (hC1' : -9223372036854775808 ≤ C') (hC2' : C' ≤ 9223372036854775807) (hS' : S' ≤ 9) (h0 : C' < 0) (hu : evZ (-(C * ((10 ^ (9 + S' - S) : Nat) : Int))) C'.natAbs = u) :
    Calls Try.prog 37 #[.agg #[.int .i64 C, .int .i64 (S : Int)], .agg #[.int .i64 C', .int .i64 (S' : Int)]] w fun e w' => e = .returned (.tuple #[.agg #[.int .i64 (mC u 9), .int .i64 (mS u 9 : Int)], .int .i64 (mE u 9)]) ∧ Below w.heap.size w w' := by
  obtain ⟨k, hk⟩ : ∃ k, 9 + S' = k := ⟨_, rfl⟩
  obtain ⟨m, hm⟩ : ∃ m, k - S = m := ⟨_, rfl⟩
  obtain ⟨z, hz⟩ : ∃ z, C * ((10 ^ m : Nat) : Int) = z := ⟨_, rfl⟩
  rw [hk, hm, hz] at hu
  obtain ⟨b, eb⟩ : ∃ x, negB z = x := ⟨_, rfl⟩
  obtain ⟨h, eh⟩ : ∃ x, hiW (z).natAbs = x := ⟨_, rfl⟩
  obtain ⟨l, el⟩ : ∃ x, loW (z).natAbs = x := ⟨_, rfl⟩
  obtain ⟨bo, ebo⟩ : ∃ x, negB C = x := ⟨_, rfl⟩
  obtain ⟨ho, eho⟩ : ∃ x, hiW (C).natAbs = x := ⟨_, rfl⟩
  obtain ⟨lo, elo⟩ : ∃ x, loW (C).natAbs = x := ⟨_, rfl⟩
  obtain ⟨bp, ebp⟩ : ∃ x, negB C' = x := ⟨_, rfl⟩
  obtain ⟨hp, ehp⟩ : ∃ x, hiW (C').natAbs = x := ⟨_, rfl⟩
  obtain ⟨lp, elp⟩ : ∃ x, loW (C').natAbs = x := ⟨_, rfl⟩
  obtain ⟨b2, eb2⟩ : ∃ x, negB u = x := ⟨_, rfl⟩
  obtain ⟨h2, eh2⟩ : ∃ x, hiW (u).natAbs = x := ⟨_, rfl⟩
  obtain ⟨l2, el2⟩ : ∃ x, loW (u).natAbs = x := ⟨_, rfl⟩
  have hzb : z.natAbs < B128 := by rw [← hz]; exact scale18 hC1 hC2 (by omega)
  have hlp : lp = C'.natAbs := by rw [← elp]; exact of_abs64 hC1' hC2'
  have hl0 : 0 < lp := by omega
  have hl1 : lp < B64 := lo_of elp
  have HO := Lib.hid (fun w => of_w bo ho lo C w hC1 hC2 ebo eho elo)
  have HP := Lib.hid (fun w => of_w bp hp lp C' w hC1' hC2' ebp ehp elp)
  have HT := Lib.hid (fun w => times_w b bo ho lo (10 ^ m) h l C z w (hi_of (abs128 hC1 hC2) eho) (lo_of elo) (p10_64 (by omega)) (of_abs ebo eho elo) hz hzb eb eh el)
  obtain ⟨bn, ebn⟩ : ∃ x, negB (-z) = x := ⟨_, rfl⟩
  obtain ⟨hn, ehn⟩ : ∃ x, hiW ((-z)).natAbs = x := ⟨_, rfl⟩
  obtain ⟨ln, eln⟩ : ∃ x, loW ((-z)).natAbs = x := ⟨_, rfl⟩
  have hnb : (-z).natAbs < B128 := by rw [Int.natAbs_neg]; exact hzb
  have HN := Lib.hid (fun w => neg_w bn b h l hn ln z (-z) w (hi_of hzb eh) (lo_of el) (of_abs eb eh el) rfl ebn ehn eln)
  have hub : u.natAbs < B128 := by rw [← hu, ← hlp]; exact evZ_lt (hi_of hnb ehn) (lo_of eln) hl0 (of_abs ebn ehn eln)
  have HE := Lib.hid (fun w => even_w bn b2 hn ln lp h2 l2 u w (hi_of hnb ehn) (lo_of eln) hl1 hl0 (by rw [even_ev _ _ _ hl0, (of_abs ebn ehn eln), hlp]; exact hu) eb2 eh2 el2)
  have HFT := Lib.hid (fun w => dfit_any b2 h2 l2 9 u w (hi_of hub eh2) (lo_of el2) (by omega) (of_abs eb2 eh2 el2))
  obtain ⟨c, hc⟩ : ∃ c, mC u 9 = c := ⟨_, rfl⟩
  obtain ⟨t, ht⟩ : ∃ t, mS u 9 = t := ⟨_, rfl⟩
  obtain ⟨e, he⟩ : ∃ e, mE u 9 = e := ⟨_, rfl⟩
  rw [hc, ht, he] at HFT
  rw [hc, ht, he]
  have HX := Lib.hid (fun w => dis_yes C (S : Int) w (by omega) (by omega))
  have HY := Lib.hid (fun w => dis_yes C' (S' : Int) w (by omega) (by omega))
  have hs1 : (9 : Int) + (S' : Int) = (k : Int) := by omega
  have hs2 : IntKind.i64.wrap (k : Int) = (k : Int) := IntWalk.i64_in _ (by omega)
  have hs3 : (k : Int) - (S : Int) = (m : Int) := by omega
  have hs4 : IntKind.i64.wrap (m : Int) = (m : Int) := IntWalk.i64_in _ (by omega)
  have hm18 : m ≤ 18 := by omega
  clear hk hm
  have HS := Lib.hid (And.intro hs1 (And.intro hs2 (And.intro hs3 hs4)))
  have hz0 : (C' == 0) = false := by rw [beq_eq_false_iff_ne]; omega
  clear hz hu hzb eb eh el ebo eho elo ebp ehp elp eb2 eh2 el2 hlp hl0 hl1 hub hc ht he hs1 hs2 hs3 hs4 ebn ehn eln hnb
  have S0 := (((Mem.start w).push #[.int .i64 C, .int .i64 (S : Int)] 59).push #[.int .i64 C', .int .i64 (S' : Int)] 59).push #[.int .i64 0, .int .i64 0] 59
  simp only [size_alloc] at S0
  go_enter Try.func37, Try.ntmps37
  go_wp2_with fail
  refine (HX.out _).mono ?_
  rintro e w1 ⟨rfl, hb⟩
  have S1 := S0.keep hb
  clear S0 hb
  have x1_0 := S1.c 1 0 rfl rfl
  have x1_1 := S1.c 1 1 rfl rfl
  go_wp2_with fail
  refine (HY.out _).mono ?_
  rintro e w2 ⟨rfl, hb⟩
  have S2 := S1.keep hb
  clear x1_0 x1_1 S1 hb
  have x0_0 := S2.c 0 0 rfl rfl
  have x0_1 := S2.c 0 1 rfl rfl
  have x1_0 := S2.c 1 0 rfl rfl
  have x1_1 := S2.c 1 1 rfl rfl
  go_upto_region 5 with fail
  clear x0_0 x0_1 x1_0 x1_1
  obtain ⟨hs1, hs2, hs3, hs4⟩ := HS.out
  refine wp_region_rel 15 (MemAt w w2.heap.size [(w.heap.size, #[.int .i64 C, .int .i64 (S : Int)]), (w.heap.size + 1, #[.int .i64 C', .int .i64 (S' : Int)]), (w.heap.size + 1 + 1, #[.int .i64 0, .int .i64 0])] [])
    (fun i => List.getD [VE (.pointer (some ⟨w.heap.size, 0, none⟩)), VE (.int .i64 C), VE (.agg #[.bool bo, .int .u64 (ho : Int), .int .u64 (lo : Int)]), VE (.pointer (some ⟨w.heap.size + 1, 1, none⟩)), VE (.int .i64 (S' : Int)), VE (.int .i64 (k : Int)), VE (.pointer (some ⟨w.heap.size, 1, none⟩)), VE (.int .i64 (S : Int)), VE (.int .i64 (m : Int)), VE (.int .u64 ((10 ^ m : Nat) : Int)), VE (.tuple #[.agg #[.bool b, .int .u64 (h : Int), .int .u64 (l : Int)], .int .i64 0]), VE (.tuple #[.agg #[.bool b, .int .u64 (h : Int), .int .u64 (l : Int)], .int .i64 0]), VE (.agg #[.bool b, .int .u64 (h : Int), .int .u64 (l : Int)]), VE (.int .i64 0), VA (w2.heap.size) #[.bool false, .int .u64 0, .int .u64 0]] i (fun _ _ => False)) [14] [0, 3, 5, 6, 8, 11, 12, 13] (by kernel_rfl) (by kernel_rfl) S2.at (fun _ _ h hb => h.grow hb)
    (stays_all (stays_cons (stays_VE _) (stays_cons (stays_VE _) (stays_cons (stays_VE _) (stays_cons (stays_VE _) (stays_cons (stays_VE _) (stays_cons (stays_VE _) (stays_cons (stays_VE _) (stays_cons (stays_VE _) (stays_cons (stays_VE _) (stays_cons (stays_VE _) (stays_cons (stays_VE _) (stays_cons (stays_VE _) (stays_cons (stays_VE _) (stays_cons (stays_VE _) (stays_cons (stays_VA _ _) stays_nil)))))))))))))))) ⟨?_, ?_, ?_, ?_, ?_, ?_, ?_, ?_, ?_, ?_, ?_, ?_, ?_, ?_, ?_, trivial⟩ ?_
  · intro ev wv hE hw hd
    refine ifw rfl (ifw rfl ?_)
    have v2 : ev (.tmp 2) = .pointer (some ⟨w.heap.size, 0, none⟩) := hE.tmp 2 rfl
    refine ⟨.pointer (some ⟨w.heap.size, 0, none⟩), fun w => ?_, rfl⟩
    have e1 := hE.const; have e2 := hE.func; clear hE hd hw
    go_simp
  · intro ev wv hE hw hd
    refine ifw rfl (ifn rfl ?_)
    have v24 : ev (.tmp 24) = .pointer (some ⟨w.heap.size, 0, none⟩) := hd 0 (by decide)
    have kx := hw.m.c 0 0 rfl rfl
    refine rel_val (u := .int .i64 C) (w' := wv) ?_ (Below.refl _ _) ⟨rfl, fun h => by cases h⟩
    have e1 := hE.const; clear hE hd hw
    go_simp
  · intro ev wv hE hw hd
    refine ifw rfl (ifn rfl ?_)
    have v25 : ev (.tmp 25) = .int .i64 C := hd 1 (by decide)
    refine rel_call (f := 20) (args := #[.int .i64 C]) ?_ (HO.out _) ?_
    · have e0 := hE.func; have e1 := hE.const; clear hE hd hw
      go_simp
    · rintro e w' ⟨rfl, hb⟩
      exact ⟨_, rfl, hb, rfl, fun h => by cases h⟩
  · intro ev wv hE hw hd
    refine ifw rfl (ifw rfl ?_)
    have v3 : ev (.tmp 3) = .pointer (some ⟨w.heap.size + 1, 0, none⟩) := hE.tmp 3 rfl
    refine ⟨.pointer (some ⟨w.heap.size + 1, 1, none⟩), fun w => ?_, rfl⟩
    have e1 := hE.const; have e2 := hE.func; clear hE hd hw
    go_simp
  · intro ev wv hE hw hd
    refine ifw rfl (ifn rfl ?_)
    have v27 : ev (.tmp 27) = .pointer (some ⟨w.heap.size + 1, 1, none⟩) := hd 3 (by decide)
    have kx := hw.m.c 1 1 rfl rfl
    refine rel_val (u := .int .i64 (S' : Int)) (w' := wv) ?_ (Below.refl _ _) ⟨rfl, fun h => by cases h⟩
    have e1 := hE.const; clear hE hd hw
    go_simp
  · intro ev wv hE hw hd
    refine ifw rfl (ifw rfl ?_)
    have v28 : ev (.tmp 28) = .int .i64 (S' : Int) := hd 4 (by decide)
    refine ⟨.int .i64 (k : Int), fun w => ?_, rfl⟩
    have e1 := hE.const; have e2 := hE.func; clear hE hd hw
    go_simp
  · intro ev wv hE hw hd
    refine ifw rfl (ifw rfl ?_)
    have v2 : ev (.tmp 2) = .pointer (some ⟨w.heap.size, 0, none⟩) := hE.tmp 2 rfl
    refine ⟨.pointer (some ⟨w.heap.size, 1, none⟩), fun w => ?_, rfl⟩
    have e1 := hE.const; have e2 := hE.func; clear hE hd hw
    go_simp
  · intro ev wv hE hw hd
    refine ifw rfl (ifn rfl ?_)
    have v30 : ev (.tmp 30) = .pointer (some ⟨w.heap.size, 1, none⟩) := hd 6 (by decide)
    have kx := hw.m.c 0 1 rfl rfl
    refine rel_val (u := .int .i64 (S : Int)) (w' := wv) ?_ (Below.refl _ _) ⟨rfl, fun h => by cases h⟩
    have e1 := hE.const; clear hE hd hw
    go_simp
  · intro ev wv hE hw hd
    refine ifw rfl (ifw rfl ?_)
    have v29 : ev (.tmp 29) = .int .i64 (k : Int) := hd 5 (by decide)
    have v31 : ev (.tmp 31) = .int .i64 (S : Int) := hd 7 (by decide)
    refine ⟨.int .i64 (m : Int), fun w => ?_, rfl⟩
    have e1 := hE.const; have e2 := hE.func; clear hE hd hw
    go_simp
  · intro ev wv hE hw hd
    refine ifw rfl (ifn rfl ?_)
    have v32 : ev (.tmp 32) = .int .i64 (m : Int) := hd 8 (by decide)
    refine rel_call (f := 31) (args := #[.int .i64 (m : Int)]) ?_ ((ten_ok m _ (by omega))) ?_
    · have e0 := hE.func; have e1 := hE.const; clear hE hd hw
      go_simp
    · rintro e w' ⟨rfl, rfl⟩
      exact ⟨_, rfl, Below.refl _ _, rfl, fun h => by cases h⟩
  · intro ev wv hE hw hd
    refine ifw rfl (ifn rfl ?_)
    have v26 : ev (.tmp 26) = .agg #[.bool bo, .int .u64 (ho : Int), .int .u64 (lo : Int)] := hd 2 (by decide)
    have v33 : ev (.tmp 33) = .int .u64 ((10 ^ m : Nat) : Int) := hd 9 (by decide)
    refine rel_call (f := 10) (args := #[.agg #[.bool bo, .int .u64 (ho : Int), .int .u64 (lo : Int)], .int .u64 ((10 ^ m : Nat) : Int)]) ?_ (HT.out _) ?_
    · have e0 := hE.func; have e1 := hE.const; clear hE hd hw
      go_simp
    · rintro e w' ⟨rfl, hb⟩
      exact ⟨_, rfl, hb, rfl, fun h => by cases h⟩
  · intro ev wv hE hw hd
    refine ifw rfl (ifw rfl ?_)
    have v34 : ev (.tmp 34) = .tuple #[.agg #[.bool b, .int .u64 (h : Int), .int .u64 (l : Int)], .int .i64 0] := hd 10 (by decide)
    refine ⟨.tuple #[.agg #[.bool b, .int .u64 (h : Int), .int .u64 (l : Int)], .int .i64 0], fun w => ?_, rfl⟩
    have e1 := hE.const; have e2 := hE.func; clear hE hd hw
    go_simp
  · intro ev wv hE hw hd
    refine ifw rfl (ifw rfl ?_)
    have v23 : ev (.tmp 23) = .tuple #[.agg #[.bool b, .int .u64 (h : Int), .int .u64 (l : Int)], .int .i64 0] := hd 11 (by decide)
    refine ⟨.agg #[.bool b, .int .u64 (h : Int), .int .u64 (l : Int)], fun w => ?_, rfl⟩
    have e1 := hE.const; have e2 := hE.func; clear hE hd hw
    go_simp
  · intro ev wv hE hw hd
    refine ifw rfl (ifw rfl ?_)
    have v23 : ev (.tmp 23) = .tuple #[.agg #[.bool b, .int .u64 (h : Int), .int .u64 (l : Int)], .int .i64 0] := hd 11 (by decide)
    refine ⟨.int .i64 0, fun w => ?_, rfl⟩
    have e1 := hE.const; have e2 := hE.func; clear hE hd hw
    go_simp
  · intro ev wv hE hw hd
    refine ifw rfl (ifn rfl ?_)
    refine rel_val (u := .pointer (some ⟨wv.heap.size, 0, none⟩)) (w' := wv.alloc (.cells #[.bool false, .int .u64 0, .int .u64 0] 24)) ?_ ((Below.refl _ _).alloc (Nat.le_refl _) _) ⟨⟨_, rfl, Blk.new _ _ _, hw.h⟩, fun _ => ⟨_, rfl, Nat.le_refl _, by simp⟩⟩
    clear hE hd hw
    go_simp
  · intro w3 M3
    intro v0 h0 _ v1 h1 _ v2 h2 _ v3 h3 _ v4 h4 _ v5 h5 _ v6 h6 _ v7 h7 _ v8 h8 _ v9 h9 _ v10 h10 _ v11 h11 _ v12 h12 _ v13 h13 _ v14 h14 n14
    simp only [Act.put, List.setIfInBounds_toArray, List.set_cons_zero, List.set_cons_succ, List.drop_succ_cons, List.drop_zero]
    obtain rfl : v0 = _ := h0
    obtain rfl : v1 = _ := h1
    obtain rfl : v2 = _ := h2
    obtain rfl : v3 = _ := h3
    obtain rfl : v4 = _ := h4
    obtain rfl : v5 = _ := h5
    obtain rfl : v6 = _ := h6
    obtain rfl : v7 = _ := h7
    obtain rfl : v8 = _ := h8
    obtain rfl : v9 = _ := h9
    obtain rfl : v10 = _ := h10
    obtain rfl : v11 = _ := h11
    obtain rfl : v12 = _ := h12
    obtain rfl : v13 = _ := h13
    obtain ⟨xg14, rfl, xB14, xl14⟩ : VA (w2.heap.size) #[.bool false, .int .u64 0, .int .u64 0] v14 w3 := h14
    change wpList Try.prog _ _ _ _ w3
    have SF := M3.m.join S2 xB14 xl14
    have y0 := SF.c 3 0 rfl rfl; have y1 := SF.c 3 1 rfl rfl; have y2 := SF.c 3 2 rfl rfl
    have y3 := SF.f 3 0 rfl; have y4 := SF.f 3 1 rfl; have y5 := SF.f 3 2 rfl
    have M4 := SF.put3 3 rfl rfl (.bool b) (.int .u64 (h : Int)) (.int .u64 (l : Int)) rfl rfl
    clear SF xB14 xl14 M3 S2 n14 hs1 hs2 hs3 hs4
    go_wp2_with fail
    refine calm_normal ?_
    generalize ((w3.setCell ⟨xg14, 0, none⟩ (.bool b)).setCell ⟨xg14, 1, none⟩ (.int .u64 (h : Int))).setCell ⟨xg14, 2, none⟩ (.int .u64 (l : Int)) = w4 at *
    clear y0 y1 y2 y3 y4 y5
    have y0 := M4.c 3 0 rfl rfl; have y1 := M4.c 3 1 rfl rfl; have y2 := M4.c 3 2 rfl rfl; have y3 := M4.c 1 0 rfl rfl
    go_wp2_with fail
    refine (HN.out _).mono ?_
    rintro e5 w5 ⟨rfl, hb⟩
    have M5 := M4.keep hb
    clear y0 y1 y2 y3 M4 hb
    have y0 := M5.c 3 0 rfl rfl; have y1 := M5.c 3 1 rfl rfl; have y2 := M5.c 3 2 rfl rfl; have y3 := M5.f 3 0 rfl; have y4 := M5.f 3 1 rfl; have y5 := M5.f 3 2 rfl
    have M6 := M5.put3 3 rfl rfl (.bool bn) (.int .u64 (hn : Int)) (.int .u64 (ln : Int)) rfl rfl
    clear M5
    go_upto_region 8 with fail
    generalize ((w5.setCell ⟨xg14, 0, none⟩ (.bool bn)).setCell ⟨xg14, 1, none⟩ (.int .u64 (hn : Int))).setCell ⟨xg14, 2, none⟩ (.int .u64 (ln : Int)) = w6 at *
    clear y0 y1 y2 y3 y4 y5
    refine wp_region_rel 10 (MemAt w w6.heap.size [(w.heap.size, #[.int .i64 C, .int .i64 (S : Int)]), (w.heap.size + 1, #[.int .i64 C', .int .i64 (S' : Int)]), (w.heap.size + 1 + 1, #[.int .i64 0, .int .i64 0]), (xg14, #[.bool bn, .int .u64 (hn : Int), .int .u64 (ln : Int)])] [])
      (fun i => List.getD [VE (.agg #[.bool bn, .int .u64 (hn : Int), .int .u64 (ln : Int)]), VE (.pointer (some ⟨w.heap.size + 1, 0, none⟩)), VE (.int .i64 C'), VE (.agg #[.bool bp, .int .u64 (hp : Int), .int .u64 (lp : Int)]), VE (.int .u64 (lp : Int)), VE (.tuple #[.agg #[.bool b2, .int .u64 (h2 : Int), .int .u64 (l2 : Int)], .int .i64 0]), VE (.tuple #[.agg #[.bool b2, .int .u64 (h2 : Int), .int .u64 (l2 : Int)], .int .i64 0]), VE (.agg #[.bool b2, .int .u64 (h2 : Int), .int .u64 (l2 : Int)]), VE (.int .i64 0), VA (w6.heap.size) #[.bool false, .int .u64 0, .int .u64 0]] i (fun _ _ => False)) [9] [1, 4, 6, 7, 8] (by kernel_rfl) (by kernel_rfl) M6.at (fun _ _ h hb => h.grow hb)
      (stays_all (stays_cons (stays_VE _) (stays_cons (stays_VE _) (stays_cons (stays_VE _) (stays_cons (stays_VE _) (stays_cons (stays_VE _) (stays_cons (stays_VE _) (stays_cons (stays_VE _) (stays_cons (stays_VE _) (stays_cons (stays_VE _) (stays_cons (stays_VA _ _) stays_nil))))))))))) ⟨?_, ?_, ?_, ?_, ?_, ?_, ?_, ?_, ?_, ?_, trivial⟩ ?_
    · intro ev wv hE hw hd
      refine ifw rfl (ifn rfl ?_)
      have v6 : ev (.tmp 6) = .pointer (some ⟨xg14, 0, none⟩) := hE.tmp 6 rfl
      have kx := hw.m.c 3 0 rfl rfl
      have ky := hw.m.c 3 1 rfl rfl
      have kz := hw.m.c 3 2 rfl rfl
      refine rel_val (u := .agg #[.bool bn, .int .u64 (hn : Int), .int .u64 (ln : Int)]) (w' := wv) ?_ (Below.refl _ _) ⟨rfl, fun h => by cases h⟩
      have e1 := hE.const; clear hE hd hw
      go_simp
    · intro ev wv hE hw hd
      refine ifw rfl (ifw rfl ?_)
      have v3 : ev (.tmp 3) = .pointer (some ⟨w.heap.size + 1, 0, none⟩) := hE.tmp 3 rfl
      refine ⟨.pointer (some ⟨w.heap.size + 1, 0, none⟩), fun w => ?_, rfl⟩
      have e1 := hE.const; have e2 := hE.func; clear hE hd hw
      go_simp
    · intro ev wv hE hw hd
      refine ifw rfl (ifn rfl ?_)
      have v44 : ev (.tmp 44) = .pointer (some ⟨w.heap.size + 1, 0, none⟩) := hd 1 (by decide)
      have kx := hw.m.c 1 0 rfl rfl
      refine rel_val (u := .int .i64 C') (w' := wv) ?_ (Below.refl _ _) ⟨rfl, fun h => by cases h⟩
      have e1 := hE.const; clear hE hd hw
      go_simp
    · intro ev wv hE hw hd
      refine ifw rfl (ifn rfl ?_)
      have v45 : ev (.tmp 45) = .int .i64 C' := hd 2 (by decide)
      refine rel_call (f := 20) (args := #[.int .i64 C']) ?_ (HP.out _) ?_
      · have e0 := hE.func; have e1 := hE.const; clear hE hd hw
        go_simp
      · rintro e w' ⟨rfl, hb⟩
        exact ⟨_, rfl, hb, rfl, fun h => by cases h⟩
    · intro ev wv hE hw hd
      refine ifw rfl (ifw rfl ?_)
      have v46 : ev (.tmp 46) = .agg #[.bool bp, .int .u64 (hp : Int), .int .u64 (lp : Int)] := hd 3 (by decide)
      refine ⟨.int .u64 (lp : Int), fun w => ?_, rfl⟩
      have e1 := hE.const; have e2 := hE.func; clear hE hd hw
      have hfd : ∀ (x0 x1 x2 : Value) (w : World), (Instr.field 24 (.agg #[x0, x1, x2]) 2).run Try.prog w = .ok x2 w := fun _ _ _ _ => by kernel_rfl
      go_simp
    · intro ev wv hE hw hd
      refine ifw rfl (ifn rfl ?_)
      have v43 : ev (.tmp 43) = .agg #[.bool bn, .int .u64 (hn : Int), .int .u64 (ln : Int)] := hd 0 (by decide)
      have v47 : ev (.tmp 47) = .int .u64 (lp : Int) := hd 4 (by decide)
      refine rel_call (f := 28) (args := #[.agg #[.bool bn, .int .u64 (hn : Int), .int .u64 (ln : Int)], .int .u64 (lp : Int)]) ?_ (HE.out _) ?_
      · have e0 := hE.func; have e1 := hE.const; clear hE hd hw
        go_simp
      · rintro e w' ⟨rfl, hb⟩
        exact ⟨_, rfl, hb, rfl, fun h => by cases h⟩
    · intro ev wv hE hw hd
      refine ifw rfl (ifw rfl ?_)
      have v48 : ev (.tmp 48) = .tuple #[.agg #[.bool b2, .int .u64 (h2 : Int), .int .u64 (l2 : Int)], .int .i64 0] := hd 5 (by decide)
      refine ⟨.tuple #[.agg #[.bool b2, .int .u64 (h2 : Int), .int .u64 (l2 : Int)], .int .i64 0], fun w => ?_, rfl⟩
      have e1 := hE.const; have e2 := hE.func; clear hE hd hw
      go_simp
    · intro ev wv hE hw hd
      refine ifw rfl (ifw rfl ?_)
      have v42 : ev (.tmp 42) = .tuple #[.agg #[.bool b2, .int .u64 (h2 : Int), .int .u64 (l2 : Int)], .int .i64 0] := hd 6 (by decide)
      refine ⟨.agg #[.bool b2, .int .u64 (h2 : Int), .int .u64 (l2 : Int)], fun w => ?_, rfl⟩
      have e1 := hE.const; have e2 := hE.func; clear hE hd hw
      go_simp
    · intro ev wv hE hw hd
      refine ifw rfl (ifw rfl ?_)
      have v42 : ev (.tmp 42) = .tuple #[.agg #[.bool b2, .int .u64 (h2 : Int), .int .u64 (l2 : Int)], .int .i64 0] := hd 6 (by decide)
      refine ⟨.int .i64 0, fun w => ?_, rfl⟩
      have e1 := hE.const; have e2 := hE.func; clear hE hd hw
      go_simp
    · intro ev wv hE hw hd
      refine ifw rfl (ifn rfl ?_)
      refine rel_val (u := .pointer (some ⟨wv.heap.size, 0, none⟩)) (w' := wv.alloc (.cells #[.bool false, .int .u64 0, .int .u64 0] 24)) ?_ ((Below.refl _ _).alloc (Nat.le_refl _) _) ⟨⟨_, rfl, Blk.new _ _ _, hw.h⟩, fun _ => ⟨_, rfl, Nat.le_refl _, by simp⟩⟩
      clear hE hd hw
      go_simp
    · intro w7 M7
      intro v0 h0 _ v1 h1 _ v2 h2 _ v3 h3 _ v4 h4 _ v5 h5 _ v6 h6 _ v7 h7 _ v8 h8 _ v9 h9 n9
      simp only [Act.put, List.setIfInBounds_toArray, List.set_cons_zero, List.set_cons_succ, List.drop_succ_cons, List.drop_zero]
      obtain rfl : v0 = _ := h0
      obtain rfl : v1 = _ := h1
      obtain rfl : v2 = _ := h2
      obtain rfl : v3 = _ := h3
      obtain rfl : v4 = _ := h4
      obtain rfl : v5 = _ := h5
      obtain rfl : v6 = _ := h6
      obtain rfl : v7 = _ := h7
      obtain rfl : v8 = _ := h8
      obtain ⟨yg9, rfl, yB9, yl9⟩ : VA (w6.heap.size) #[.bool false, .int .u64 0, .int .u64 0] v9 w7 := h9
      change wpList Try.prog _ _ _ _ w7
      have SF := M7.m.join M6 yB9 yl9
      have y0 := SF.c 4 0 rfl rfl; have y1 := SF.c 4 1 rfl rfl; have y2 := SF.c 4 2 rfl rfl
      have y3 := SF.f 4 0 rfl; have y4 := SF.f 4 1 rfl; have y5 := SF.f 4 2 rfl
      have M8 := SF.put3 4 rfl rfl (.bool b2) (.int .u64 (h2 : Int)) (.int .u64 (l2 : Int)) rfl rfl
      clear SF yB9 yl9 M7 M6 n9
      go_wp2_with fail
      refine calm_normal ?_
      generalize ((w7.setCell ⟨yg9, 0, none⟩ (.bool b2)).setCell ⟨yg9, 1, none⟩ (.int .u64 (h2 : Int))).setCell ⟨yg9, 2, none⟩ (.int .u64 (l2 : Int)) = w8 at *
      clear y0 y1 y2 y3 y4 y5
      have y0 := M8.c 4 0 rfl rfl; have y1 := M8.c 4 1 rfl rfl; have y2 := M8.c 4 2 rfl rfl
      go_wp2_with fail
      refine (HFT.out _).mono ?_
      rintro e9 w9 ⟨rfl, hb⟩
      have M9 := M8.keep hb
      clear y0 y1 y2 M8 hb
      have za := M9.c 2 0 rfl rfl; have zb := M9.c 2 1 rfl rfl; have zc := M9.f 2 0 rfl; have zd := M9.f 2 1 rfl
      have HF := Lib.hid (M9.put20 2 rfl (.int .i64 c) (.int .i64 (t : Int)))
      clear M9
      go_wp2_with fail
      exact bodyPost_ret (v := .tuple #[.agg #[.int .i64 c, .int .i64 (t : Int)], .int .i64 e]) (by simp [results, Try.results37, go_sem, za, zb]) rfl ⟨rfl, HF.out.bl⟩
end Go.Proofs.Ytgkogjlcecbfjaa

/- WideRing: numbers, products, sums, signs and comparisons are the document's. (Written by wip/gen/genring.py.) -/
import Derived.Test.YtbenpcnibongaaaRingMath
namespace Go.Proofs.Ytbenpcnibongaaa
open Go.RowKit Corr
set_option linter.unusedVariables false

set_option maxRecDepth 100000 in
set_option maxHeartbeats 16000000 in
theorem ring_walk (s s' : Bool) (h l h' l' n : Nat) (a b : Int) (w : World) (hh : h < B64) (hl : l < B64) (hh' : h' < B64) (hl' : l' < B64) (hn : n < B64) (a1 : -9223372036854775808 ≤ a) (a2 : a ≤ 9223372036854775807) (b1 : -9223372036854775808 ≤ b) (b2 : b ≤ 9223372036854775807) :
    Calls Try.prog 3 #[WV s h l, WV s' h' l', .int .i64 a, .int .i64 b, .int .u64 n] w fun e w' => e = .returned (.bool true) ∧ Below w.heap.size w w' := by
  obtain ⟨zx, hzx⟩ : ∃ z, val s (nat2 h l) = z := ⟨_, rfl⟩
  obtain ⟨zy, hzy⟩ : ∃ z, val s' (nat2 h' l') = z := ⟨_, rfl⟩
  obtain ⟨zp, hzp⟩ : ∃ z, zx * (n : Int) = z := ⟨_, rfl⟩
  obtain ⟨zs, hzs⟩ : ∃ z, zx + zy = z := ⟨_, rfl⟩
  obtain ⟨zm, hzm⟩ : ∃ z, a * b = z := ⟨_, rfl⟩
  obtain ⟨bp, hp, lp, ep, ht1, ht2⟩ := times_told s h l n zp hh hl hn (by rw [hzx]; exact hzp)
  obtain ⟨bs, hs, ls, es, hs1, hs2⟩ := add_told s s' h l h' l' zs hh hl hh' hl' (by rw [hzx, hzy]; exact hzs)
  obtain ⟨sc, sok, hm1, hm2⟩ := small_both s h l zx hl hzx
  obtain ⟨bu, hbu⟩ : ∃ x, negB zx = x := ⟨_, rfl⟩
  obtain ⟨bv, hbv⟩ : ∃ x, negB zy = x := ⟨_, rfl⟩
  obtain ⟨bm, hbm⟩ : ∃ x, negB zm = x := ⟨_, rfl⟩
  obtain ⟨hm, hhm⟩ : ∃ x, hiW zm.natAbs = x := ⟨_, rfl⟩
  obtain ⟨lm, hlm⟩ : ∃ x, loW zm.natAbs = x := ⟨_, rfl⟩
  obtain ⟨ba, hba⟩ : ∃ x, negB a = x := ⟨_, rfl⟩
  obtain ⟨bb, hbb⟩ : ∃ x, negB b = x := ⟨_, rfl⟩
  obtain ⟨bo, hbo⟩ : ∃ x, negB a = x := ⟨_, rfl⟩
  obtain ⟨ho, hho⟩ : ∃ x, hiW a.natAbs = x := ⟨_, rfl⟩
  obtain ⟨lo, hlo⟩ : ∃ x, loW a.natAbs = x := ⟨_, rfl⟩
  obtain ⟨bk, hbk⟩ : ∃ x, negB (-zx) = x := ⟨_, rfl⟩
  obtain ⟨hk, hhk⟩ : ∃ x, hiW (-zx).natAbs = x := ⟨_, rfl⟩
  obtain ⟨lk, hlk⟩ : ∃ x, loW (-zx).natAbs = x := ⟨_, rfl⟩
  obtain ⟨cx, hcx⟩ : ∃ x, cmpI zx zy = x := ⟨_, rfl⟩
  rw [hbu] at hm2
  have hxb : zx.natAbs < B128 := by rw [← hzx, natAbs_val]; exact nat2_lt hh hl
  have hyb : zy.natAbs < B128 := by rw [← hzy, natAbs_val]; exact nat2_lt hh' hl'
  have HX := Lib.hid hzx; have HY := Lib.hid hzy; have HZP := Lib.hid hzp; have HZS := Lib.hid hzs; have HZM := Lib.hid hzm
  have HTC := Lib.hid ht1; have HTP := Lib.hid ht2; have HSC := Lib.hid hs1; have HTS := Lib.hid hs2; have HSM := Lib.hid hm1; have HSN := Lib.hid hm2
  have HBU := Lib.hid hbu; have HBV := Lib.hid hbv; have HM := Lib.hid (And.intro hbm (And.intro hhm hlm)); have HO := Lib.hid (And.intro hbo (And.intro hho hlo)); have HK := Lib.hid (And.intro hbk (And.intro hhk hlk))
  have HA := Lib.hid hba; have HB1 := Lib.hid hbb; have HCX := Lib.hid hcx
  have HAO := Lib.hid (show ba = bo by rw [← hba, hbo])
  have HXB := Lib.hid hxb; have HYB := Lib.hid hyb
  have HKA := Lib.hid (abs7 a1 a2)
  have HKB := Lib.hid (abs7 b1 b2)
  have HAB := Lib.hid (abs128 a1 a2)
  have HMB := Lib.hid (prod_abs a1 a2 b1 b2 hzm)
  have HKX := Lib.hid (show (-zx).natAbs < B128 by rw [Int.natAbs_neg]; exact hxb)
  have HKP := Lib.hid (show zp.natAbs < 1000 ^ 28 by
    rw [← hzp, Int.natAbs_mul, Int.natAbs_natCast]
    exact Nat.lt_of_le_of_lt (Nat.mul_le_mul (Nat.le_of_lt hxb) (Nat.le_of_lt hn)) (by decide))
  have HKS := Lib.hid (show zs.natAbs < 1000 ^ 28 by
    rw [← hzs]
    have h1 := Int.natAbs_add_le zx zy
    have h2 : B128 + B128 < 1000 ^ 28 := by decide
    omega)
  clear hzx hzy hzp hzs hzm ht1 ht2 hs1 hs2 hm1 hm2 hbu hbv hbm hhm hlm hba hbb hbo hho hlo hbk hhk hlk hcx hxb hyb
  have S0 := ((Mem.start w).push #[.bool s, .int .u64 (h : Int), .int .u64 (l : Int)] 24).push #[.bool s', .int .u64 (h' : Int), .int .u64 (l' : Int)] 24
  simp only [size_alloc] at S0
  go_enter Try.func3, Try.ntmps3
  go_upto_region 1 with fail
  refine wp_region_rel 6 (MemAt w (w.heap.size + 1 + 1) [(w.heap.size, #[.bool s, .int .u64 (h : Int), .int .u64 (l : Int)]), (w.heap.size + 1, #[.bool s', .int .u64 (h' : Int), .int .u64 (l' : Int)])] [])
    (fun i => List.getD [VE (.agg #[.bool s, .int .u64 (h : Int), .int .u64 (l : Int)]), VN (bu) (zx.natAbs), VE (.agg #[.bool s', .int .u64 (h' : Int), .int .u64 (l' : Int)]), VN (bv) (zy.natAbs), VA (w.heap.size + 1 + 1) #[.bool false, .slice none 0 0], VA (w.heap.size + 1 + 1) #[.bool false, .slice none 0 0]] i (fun _ _ => False)) [4, 5] [] (by kernel_rfl) (by kernel_rfl) ⟨S0.drew, by simp⟩ (fun _ _ h hb => h.grow hb)
    (stays_all (stays_cons (stays_VE _) (stays_cons (stays_VN _ _) (stays_cons (stays_VE _) (stays_cons (stays_VN _ _) (stays_cons (stays_VA _ _) (stays_cons (stays_VA _ _) stays_nil))))))) ⟨?_, ?_, ?_, ?_, ?_, ?_, trivial⟩ ?_
  · intro ev wv hE hw hd
    refine ifw rfl (ifn rfl ?_)
    have v5 : ev (.tmp 5) = .pointer (some ⟨w.heap.size, 0, none⟩) := hE.tmp 5 rfl
    have kx := hw.m.c 0 0 rfl rfl
    have ky := hw.m.c 0 1 rfl rfl
    have kz := hw.m.c 0 2 rfl rfl
    refine rel_val (u := .agg #[.bool s, .int .u64 (h : Int), .int .u64 (l : Int)]) (w' := wv) ?_ (Below.refl _ _) ⟨rfl, fun h => by cases h⟩
    have e1 := hE.const; clear hE hd hw
    go_simp
  · intro ev wv hE hw hd
    refine ifw rfl (ifn rfl ?_)
    have v27 : ev (.tmp 27) = .agg #[.bool s, .int .u64 (h : Int), .int .u64 (l : Int)] := hd 0 (by decide)
    refine rel_call (f := 6) (args := #[.agg #[.bool s, .int .u64 (h : Int), .int .u64 (l : Int)]]) ?_ (nwide_w bu s h l zx _ hh hl HX.out HBU.out) ?_
    · have e0 := hE.func; have e1 := hE.const; clear hE hd hw
      go_simp
    · rintro e w' ⟨A, k, c, rfl, R, hb⟩
      exact ⟨_, rfl, hb, ⟨A, k, c, rfl, R⟩, fun h => by cases h⟩
  · intro ev wv hE hw hd
    refine ifw rfl (ifn rfl ?_)
    have v6 : ev (.tmp 6) = .pointer (some ⟨w.heap.size + 1, 0, none⟩) := hE.tmp 6 rfl
    have kx := hw.m.c 1 0 rfl rfl
    have ky := hw.m.c 1 1 rfl rfl
    have kz := hw.m.c 1 2 rfl rfl
    refine rel_val (u := .agg #[.bool s', .int .u64 (h' : Int), .int .u64 (l' : Int)]) (w' := wv) ?_ (Below.refl _ _) ⟨rfl, fun h => by cases h⟩
    have e1 := hE.const; clear hE hd hw
    go_simp
  · intro ev wv hE hw hd
    refine ifw rfl (ifn rfl ?_)
    have v29 : ev (.tmp 29) = .agg #[.bool s', .int .u64 (h' : Int), .int .u64 (l' : Int)] := hd 2 (by decide)
    refine rel_call (f := 6) (args := #[.agg #[.bool s', .int .u64 (h' : Int), .int .u64 (l' : Int)]]) ?_ (nwide_w bv s' h' l' zy _ hh' hl' HY.out HBV.out) ?_
    · have e0 := hE.func; have e1 := hE.const; clear hE hd hw
      go_simp
    · rintro e w' ⟨A, k, c, rfl, R, hb⟩
      exact ⟨_, rfl, hb, ⟨A, k, c, rfl, R⟩, fun h => by cases h⟩
  · intro ev wv hE hw hd
    refine ifw rfl (ifn rfl ?_)
    refine rel_val (u := .pointer (some ⟨wv.heap.size, 0, none⟩)) (w' := wv.alloc (.cells #[.bool false, .slice none 0 0] 27)) ?_ ((Below.refl _ _).alloc (Nat.le_refl _) _) ⟨⟨_, rfl, Blk.new _ _ _, hw.h⟩, fun _ => ⟨_, rfl, Nat.le_refl _, by simp⟩⟩
    clear hE hd hw
    go_simp
  · intro ev wv hE hw hd
    refine ifw rfl (ifn rfl ?_)
    refine rel_val (u := .pointer (some ⟨wv.heap.size, 0, none⟩)) (w' := wv.alloc (.cells #[.bool false, .slice none 0 0] 27)) ?_ ((Below.refl _ _).alloc (Nat.le_refl _) _) ⟨⟨_, rfl, Blk.new _ _ _, hw.h⟩, fun _ => ⟨_, rfl, Nat.le_refl _, by simp⟩⟩
    clear hE hd hw
    go_simp
  · intro w2 M2
    intro v0 h0 _ v1 h1 _ v2 h2 _ v3 h3 _ v4 h4 n4 v5 h5 n5
    simp only [Act.put, List.setIfInBounds_toArray, List.set_cons_zero, List.set_cons_succ, List.drop_succ_cons, List.drop_zero]
    obtain rfl : v0 = _ := h0
    obtain ⟨xA1, xk1, xc1, rfl, xR1⟩ : VN (bu) (zx.natAbs) v1 w2 := h1
    obtain rfl : v2 = _ := h2
    obtain ⟨xA3, xk3, xc3, rfl, xR3⟩ : VN (bv) (zy.natAbs) v3 w2 := h3
    obtain ⟨xg4, rfl, xB4, xl4⟩ : VA (w.heap.size + 1 + 1) #[.bool false, .slice none 0 0] v4 w2 := h4
    obtain ⟨xg5, rfl, xB5, xl5⟩ : VA (w.heap.size + 1 + 1) #[.bool false, .slice none 0 0] v5 w2 := h5
    change wpList Try.prog _ _ _ _ w2
    have ne := ne_ptr (n5 rfl _ (List.mem_cons_self))
    have SF := ((M2.m.add xR1).add xR3).join2 S0 xB4 xB5 (by simpa using xl4) (by simpa using xl5) ne
    have f0 := SF.c 2 0 rfl rfl; have f1 := SF.c 2 1 rfl rfl; have f2 := SF.f 2 0 rfl; have f3 := SF.f 2 1 rfl
    have f4 := SF.c 3 0 rfl rfl; have f5 := SF.c 3 1 rfl rfl; have f6 := SF.f 3 0 rfl; have f7 := SF.f 3 1 rfl
    have S2x := (SF.put2 2 rfl rfl (.bool bu) (.slice xA1 xk1 xc1) rfl).put2 3 rfl rfl (.bool bv) (.slice xA3 xk3 xc3) rfl
    have hku := row_le (k := 14) xR1 (Nat.lt_trans HXB.out (by decide))
    have hkv := row_le (k := 14) xR3 (Nat.lt_trans HYB.out (by decide))
    clear SF xR1 xR3 xB4 xB5 M2 n4 n5 S0
    go_wp2_with fail
    refine calm_normal ?_
    generalize (((w2.setCell ⟨xg4, 0, none⟩ (.bool bu)).setCell ⟨xg4, 1, none⟩ (.slice xA1 xk1 xc1)).setCell ⟨xg5, 0, none⟩ (.bool bv)).setCell ⟨xg5, 1, none⟩ (.slice xA3 xk3 xc3) = wq at *
    obtain ⟨gu, rfl⟩ : ∃ gu, gu = xg4 := ⟨_, rfl⟩
    obtain ⟨gv, rfl⟩ : ∃ gv, gv = xg5 := ⟨_, rfl⟩
    obtain ⟨Au, rfl⟩ : ∃ Au, Au = xA1 := ⟨_, rfl⟩
    obtain ⟨ku, rfl⟩ : ∃ ku, ku = xk1 := ⟨_, rfl⟩
    obtain ⟨cu, rfl⟩ : ∃ cu, cu = xc1 := ⟨_, rfl⟩
    obtain ⟨Av, rfl⟩ : ∃ Av, Av = xA3 := ⟨_, rfl⟩
    obtain ⟨kv, rfl⟩ : ∃ kv, kv = xk3 := ⟨_, rfl⟩
    obtain ⟨cv, rfl⟩ : ∃ cv, cv = xc3 := ⟨_, rfl⟩
    have S2 : Mem w wq [(w.heap.size, #[.bool s, .int .u64 (h : Int), .int .u64 (l : Int)]), (w.heap.size + 1, #[.bool s', .int .u64 (h' : Int), .int .u64 (l' : Int)]), (gu, #[.bool bu, .slice Au ku cu]), (gv, #[.bool bv, .slice Av kv cv])] [(Au, ku, cu, digs zx.natAbs), (Av, kv, cv, digs zy.natAbs)] := S2x
    clear S2x f0 f1 f2 f3 f4 f5 f6 f7
    have x0 := S2.c 0 0 rfl rfl; have x1 := S2.c 0 1 rfl rfl; have x2 := S2.c 0 2 rfl rfl
    go_wp2_with fail
    refine (HTC.out _).mono ?_
    rintro e w3 ⟨rfl, hb⟩
    have S3 := (S2.keep hb).push #[.bool bp, .int .u64 (hp : Int), .int .u64 (lp : Int)] 24
    clear S2 hb x0 x1 x2
    have x0 := S3.c 0 0 rfl rfl; have x1 := S3.c 0 1 rfl rfl; have x2 := S3.c 0 2 rfl rfl
    have y0 := S3.c 1 0 rfl rfl; have y1 := S3.c 1 1 rfl rfl; have y2 := S3.c 1 2 rfl rfl
    go_wp2_with fail
    refine (HSC.out _).mono ?_
    rintro e w4 ⟨rfl, hb⟩
    have S4 := (S3.keep hb).push #[.bool bs, .int .u64 (hs : Int), .int .u64 (ls : Int)] 24
    clear S3 hb x0 x1 x2 y0 y1 y2
    go_wp2_with fail
    refine (nof_w _ _ _ a1 a2 HA.out).mono ?_
    rintro e w5 ⟨A5, k5, c5, rfl, R5, hb⟩
    have S5 := (S4.keep hb).add R5
    have hk5 := row_le (k := 7) R5 HKA.out
    clear S4 hb R5
    go_wp2_with fail
    refine (nof_w _ _ _ b1 b2 HB1.out).mono ?_
    rintro e w6 ⟨A6, k6, c6, rfl, R6, hb⟩
    have S6 := (S5.keep hb).add R6
    have hk6 := row_le (k := 7) R6 HKB.out
    clear S5 hb R6
    go_wp2_with fail
    refine (nmul_w _ _ _ _ _ _ _ _ _ a b zm _ (S6.r 2 rfl) (S6.r 3 rfl) (by omega) (by omega) HA.out HB1.out HZM.out HM.out.1).mono ?_
    rintro e w7 ⟨A7, k7, c7, rfl, R7, hb⟩
    have S7 := (S6.keep hb).add R7
    have hk7 := row_le (k := 14) R7 (Nat.lt_trans HMB.out (by decide))
    clear S6 hb R7
    go_wp2_with fail
    refine (nas_fit bm hm lm _ _ _ zm _ (S7.r 4 rfl) (by omega) HMB.out HM.out.1 HM.out.2.1 HM.out.2.2).mono ?_
    rintro e w8 ⟨rfl, hb⟩
    have S8 := ((S7.keep hb).push #[.bool bm, .int .u64 (hm : Int), .int .u64 (lm : Int)] 24).rtake 2
    clear S7 hb
    go_wp2_with fail
    refine (nof_w _ _ _ a1 a2 HA.out).mono ?_
    rintro e w9 ⟨A9, k9, c9, rfl, R9, hb⟩
    have S9 := (S8.keep hb).add R9
    have hk9 := row_le (k := 7) R9 HKA.out
    clear S8 hb R9
    rw [HAO.out]
    go_wp2_with fail
    refine (nas_fit bo ho lo _ _ _ a _ (S9.r 2 rfl) (by omega) HAB.out HO.out.1 HO.out.2.1 HO.out.2.2).mono ?_
    rintro e w10 ⟨rfl, hb⟩
    have S10 := ((S9.keep hb).push #[.bool bo, .int .u64 (ho : Int), .int .u64 (lo : Int)] 24).rtake 2
    clear S9 hb
    have u0 := S10.c 2 0 rfl rfl; have u1 := S10.c 2 1 rfl rfl
    go_wp2_with fail
    refine (nneg_w bk _ _ _ _ zx (-zx) _ (S10.r 0 rfl) (by omega) HBU.out rfl HK.out.1).mono ?_
    rintro e w11 ⟨A11, k11, c11, rfl, R11, hb⟩
    have S11 := (S10.keep hb).add R11
    have hk11 := row_le (k := 14) R11 (Nat.lt_trans HKX.out (by decide))
    clear S10 hb R11 u0 u1
    go_wp2_with fail
    refine (nas_fit bk hk lk _ _ _ (-zx) _ (S11.r 2 rfl) (by omega) HKX.out HK.out.1 HK.out.2.1 HK.out.2.2).mono ?_
    rintro e w12 ⟨rfl, hb⟩
    have S12 := ((S11.keep hb).push #[.bool bk, .int .u64 (hk : Int), .int .u64 (lk : Int)] 24).rtake 2
    clear S11 hb
    go_upto_region 7 with fail
    generalize w12.alloc (.cells #[.bool bk, .int .u64 (hk : Int), .int .u64 (lk : Int)] 24) = w13 at *
    have S13 : Mem w w13 [(w.heap.size, #[.bool s, .int .u64 (h : Int), .int .u64 (l : Int)]), (w.heap.size + 1, #[.bool s', .int .u64 (h' : Int), .int .u64 (l' : Int)]), (gu, #[.bool bu, .slice Au ku cu]), (gv, #[.bool bv, .slice Av kv cv]), (w3.heap.size, #[.bool bp, .int .u64 (hp : Int), .int .u64 (lp : Int)]), (w4.heap.size, #[.bool bs, .int .u64 (hs : Int), .int .u64 (ls : Int)]), (w8.heap.size, #[.bool bm, .int .u64 (hm : Int), .int .u64 (lm : Int)]), (w10.heap.size, #[.bool bo, .int .u64 (ho : Int), .int .u64 (lo : Int)]), (w12.heap.size, #[.bool bk, .int .u64 (hk : Int), .int .u64 (lk : Int)])] [(Au, ku, cu, digs zx.natAbs), (Av, kv, cv, digs zy.natAbs)] := S12
    clear S12
    refine wp_region_rel 45 (MemAt w w13.heap.size [(w.heap.size, #[.bool s, .int .u64 (h : Int), .int .u64 (l : Int)]), (w.heap.size + 1, #[.bool s', .int .u64 (h' : Int), .int .u64 (l' : Int)]), (gu, #[.bool bu, .slice Au ku cu]), (gv, #[.bool bv, .slice Av kv cv]), (w3.heap.size, #[.bool bp, .int .u64 (hp : Int), .int .u64 (lp : Int)]), (w4.heap.size, #[.bool bs, .int .u64 (hs : Int), .int .u64 (ls : Int)]), (w8.heap.size, #[.bool bm, .int .u64 (hm : Int), .int .u64 (lm : Int)]), (w10.heap.size, #[.bool bo, .int .u64 (ho : Int), .int .u64 (lo : Int)]), (w12.heap.size, #[.bool bk, .int .u64 (hk : Int), .int .u64 (lk : Int)])] [(Au, ku, cu, digs zx.natAbs), (Av, kv, cv, digs zy.natAbs)])
      (fun i => List.getD [VE (.agg #[.bool bp, .int .u64 (hp : Int), .int .u64 (lp : Int)]), VE (.int .i64 ep), VE (.agg #[.bool bu, .slice Au ku cu]), VE (.int .u64 (n : Int)), VN (false) (n), VN (negB zp) (zp.natAbs), VE (.bool true), VE (.bool false), VE (.bool false), VE (.agg #[.bool bs, .int .u64 (hs : Int), .int .u64 (ls : Int)]), VE (.int .i64 es), VE (.agg #[.bool bu, .slice Au ku cu]), VE (.agg #[.bool bv, .slice Av kv cv]), VN (negB zs) (zs.natAbs), VE (.bool true), VE (.bool false), VE (.bool false), VE (.bool false), VE (.int .i64 a), VE (.int .i64 b), VE (.agg #[.bool bm, .int .u64 (hm : Int), .int .u64 (lm : Int)]), VE (.agg #[.bool bm, .int .u64 (hm : Int), .int .u64 (lm : Int)]), VE (.bool false), VE (.bool false), VE (.bool false), VE (.int .i64 a), VE (.agg #[.bool bo, .int .u64 (ho : Int), .int .u64 (lo : Int)]), VE (.agg #[.bool bo, .int .u64 (ho : Int), .int .u64 (lo : Int)]), VE (.bool false), VE (.bool false), VE (.bool false), VE (.agg #[.bool s, .int .u64 (h : Int), .int .u64 (l : Int)]), VE (.agg #[.bool bk, .int .u64 (hk : Int), .int .u64 (lk : Int)]), VE (.agg #[.bool bk, .int .u64 (hk : Int), .int .u64 (lk : Int)]), VE (.bool false), VE (.bool false), VE (.bool false), VE (.agg #[.bool s, .int .u64 (h : Int), .int .u64 (l : Int)]), VE (.agg #[.bool s', .int .u64 (h' : Int), .int .u64 (l' : Int)]), VE (.int .i64 cx), VE (.agg #[.bool bu, .slice Au ku cu]), VE (.agg #[.bool bv, .slice Av kv cv]), VE (.int .i64 cx), VE (.bool false), VE (.bool false)] i (fun _ _ => False)) [] [1, 3, 7, 8, 10, 15, 16, 17, 18, 19, 22, 23, 24, 25, 28, 29, 30, 34, 35, 36, 43, 44] (by kernel_rfl) (by kernel_rfl) S13.at (fun _ _ h hb => h.grow hb)
      (stays_all (stays_cons (stays_VE _) (stays_cons (stays_VE _) (stays_cons (stays_VE _) (stays_cons (stays_VE _) (stays_cons (stays_VN _ _) (stays_cons (stays_VN _ _) (stays_cons (stays_VE _) (stays_cons (stays_VE _) (stays_cons (stays_VE _) (stays_cons (stays_VE _) (stays_cons (stays_VE _) (stays_cons (stays_VE _) (stays_cons (stays_VE _) (stays_cons (stays_VN _ _) (stays_cons (stays_VE _) (stays_cons (stays_VE _) (stays_cons (stays_VE _) (stays_cons (stays_VE _) (stays_cons (stays_VE _) (stays_cons (stays_VE _) (stays_cons (stays_VE _) (stays_cons (stays_VE _) (stays_cons (stays_VE _) (stays_cons (stays_VE _) (stays_cons (stays_VE _) (stays_cons (stays_VE _) (stays_cons (stays_VE _) (stays_cons (stays_VE _) (stays_cons (stays_VE _) (stays_cons (stays_VE _) (stays_cons (stays_VE _) (stays_cons (stays_VE _) (stays_cons (stays_VE _) (stays_cons (stays_VE _) (stays_cons (stays_VE _) (stays_cons (stays_VE _) (stays_cons (stays_VE _) (stays_cons (stays_VE _) (stays_cons (stays_VE _) (stays_cons (stays_VE _) (stays_cons (stays_VE _) (stays_cons (stays_VE _) (stays_cons (stays_VE _) (stays_cons (stays_VE _) (stays_cons (stays_VE _) stays_nil)))))))))))))))))))))))))))))))))))))))))))))) ⟨?_, ?_, ?_, ?_, ?_, ?_, ?_, ?_, ?_, ?_, ?_, ?_, ?_, ?_, ?_, ?_, ?_, ?_, ?_, ?_, ?_, ?_, ?_, ?_, ?_, ?_, ?_, ?_, ?_, ?_, ?_, ?_, ?_, ?_, ?_, ?_, ?_, ?_, ?_, ?_, ?_, ?_, ?_, ?_, ?_, trivial⟩ ?_
    · intro ev wv hE hw hd
      refine ifw rfl (ifn rfl ?_)
      have v13 : ev (.tmp 13) = .pointer (some ⟨w3.heap.size, 0, none⟩) := hE.tmp 13 rfl
      have kx := hw.m.c 4 0 rfl rfl
      have ky := hw.m.c 4 1 rfl rfl
      have kz := hw.m.c 4 2 rfl rfl
      refine rel_val (u := .agg #[.bool bp, .int .u64 (hp : Int), .int .u64 (lp : Int)]) (w' := wv) ?_ (Below.refl _ _) ⟨rfl, fun h => by cases h⟩
      have e1 := hE.const; clear hE hd hw
      go_simp
    · intro ev wv hE hw hd
      refine ifw rfl (ifw rfl ?_)
      have v14 : ev (.tmp 14) = .int .i64 ep := hE.tmp 14 rfl
      refine ⟨.int .i64 ep, fun w => ?_, rfl⟩
      have e1 := hE.const; have e2 := hE.func; clear hE hd hw
      go_simp
    · intro ev wv hE hw hd
      refine ifw rfl (ifn rfl ?_)
      have v11 : ev (.tmp 11) = .pointer (some ⟨gu, 0, none⟩) := hE.tmp 11 rfl
      have kx := hw.m.c 2 0 rfl rfl
      have ky := hw.m.c 2 1 rfl rfl
      refine rel_val (u := .agg #[.bool bu, .slice Au ku cu]) (w' := wv) ?_ (Below.refl _ _) ⟨rfl, fun h => by cases h⟩
      have e1 := hE.const; clear hE hd hw
      go_simp
    · intro ev wv hE hw hd
      refine ifw rfl (ifw rfl ?_)
      have v4 : ev (.tmp 4) = .int .u64 (n : Int) := hE.tmp 4 rfl
      refine ⟨.int .u64 (n : Int), fun w => ?_, rfl⟩
      have e1 := hE.const; have e2 := hE.func; clear hE hd hw
      go_simp
    · intro ev wv hE hw hd
      refine ifw rfl (ifn rfl ?_)
      have v67 : ev (.tmp 67) = .int .u64 (n : Int) := hd 3 (by decide)
      refine rel_call (f := 14) (args := #[.int .u64 (n : Int)]) ?_ (word_any n _ hn) ?_
      · have e0 := hE.func; have e1 := hE.const; clear hE hd hw
        go_simp
      · rintro e w' ⟨A, k, c, rfl, R, hb⟩
        exact ⟨_, rfl, hb, ⟨A, k, c, rfl, R⟩, fun h => by cases h⟩
    · intro ev wv hE hw hd
      refine ifw rfl (ifn rfl ?_)
      have v66 : ev (.tmp 66) = .agg #[.bool bu, .slice Au ku cu] := hd 2 (by decide)
      obtain ⟨yA4, yk4, yc4, v68, yR4⟩ : VN (false) (n) (ev (.tmp 68)) wv := hd 4 (by decide)
      refine rel_call (f := 10) (args := #[.agg #[.bool bu, .slice Au ku cu], .agg #[.bool (false), .slice yA4 yk4 yc4]]) ?_ (nmul_w _ _ _ _ _ _ _ _ _ zx (n : Int) zp _ (hw.m.r 0 rfl) (show Row _ _ _ _ (digs (Int.natAbs (n : Int))) by rw [Int.natAbs_natCast]; exact yR4) (by omega) (by have := row_le (k := 7) yR4 (Nat.lt_trans hn (by decide)); omega) HBU.out (negB_nat n) HZP.out rfl) ?_
      · have e0 := hE.func; have e1 := hE.const; clear hE hd hw
        go_simp
      · rintro e w' ⟨A, k, c, rfl, R, hb⟩
        exact ⟨_, rfl, hb, ⟨A, k, c, rfl, R⟩, fun h => by cases h⟩
    · intro ev wv hE hw hd
      refine ifw rfl (ifn rfl ?_)
      have v64 : ev (.tmp 64) = .agg #[.bool bp, .int .u64 (hp : Int), .int .u64 (lp : Int)] := hd 0 (by decide)
      have v65 : ev (.tmp 65) = .int .i64 ep := hd 1 (by decide)
      obtain ⟨yA5, yk5, yc5, v69, yR5⟩ : VN (negB zp) (zp.natAbs) (ev (.tmp 69)) wv := hd 5 (by decide)
      refine rel_call (f := 13) (args := #[.agg #[.bool bp, .int .u64 (hp : Int), .int .u64 (lp : Int)], .int .i64 ep, .agg #[.bool (negB zp), .slice yA5 yk5 yc5]]) ?_ (HTP.out _ _ _ _ yR5 (by have := row_le (k := 28) yR5 HKP.out; omega)) ?_
      · have e0 := hE.func; have e1 := hE.const; clear hE hd hw
        go_simp
      · rintro e w' ⟨rfl, hb⟩
        exact ⟨_, rfl, hb, rfl, fun h => by cases h⟩
    · intro ev wv hE hw hd
      refine ifw rfl (ifw rfl ?_)
      have v70 : ev (.tmp 70) = .bool true := hd 6 (by decide)
      refine ⟨.bool false, fun w => ?_, rfl⟩
      have e1 := hE.const; have e2 := hE.func; clear hE hd hw
      go_simp
    · intro ev wv hE hw hd
      refine ifw rfl (ifw rfl ?_)
      have v71 : ev (.tmp 71) = .bool false := hd 7 (by decide)
      refine ⟨.bool false, fun w => ?_, rfl⟩
      have e1 := hE.const; have e2 := hE.func; clear hE hd hw
      go_simp
    · intro ev wv hE hw hd
      have vg : ev (.tmp 72) = .bool false := hd 8 (by decide)
      refine ifw (by show (yv (ev (.tmp 72)) == some false) = true; rw [vg]; rfl) (ifn rfl ?_)
      clear vg
      have v15 : ev (.tmp 15) = .pointer (some ⟨w4.heap.size, 0, none⟩) := hE.tmp 15 rfl
      have kx := hw.m.c 5 0 rfl rfl
      have ky := hw.m.c 5 1 rfl rfl
      have kz := hw.m.c 5 2 rfl rfl
      refine rel_val (u := .agg #[.bool bs, .int .u64 (hs : Int), .int .u64 (ls : Int)]) (w' := wv) ?_ (Below.refl _ _) ⟨rfl, fun h => by cases h⟩
      have e1 := hE.const; clear hE hd hw
      go_simp
    · intro ev wv hE hw hd
      have vg : ev (.tmp 72) = .bool false := hd 8 (by decide)
      refine ifw (by show (yv (ev (.tmp 72)) == some false) = true; rw [vg]; rfl) (ifw rfl ?_)
      clear vg
      have v16 : ev (.tmp 16) = .int .i64 es := hE.tmp 16 rfl
      refine ⟨.int .i64 es, fun w => ?_, rfl⟩
      have e1 := hE.const; have e2 := hE.func; clear hE hd hw
      go_simp
    · intro ev wv hE hw hd
      have vg : ev (.tmp 72) = .bool false := hd 8 (by decide)
      refine ifw (by show (yv (ev (.tmp 72)) == some false) = true; rw [vg]; rfl) (ifn rfl ?_)
      clear vg
      have v11 : ev (.tmp 11) = .pointer (some ⟨gu, 0, none⟩) := hE.tmp 11 rfl
      have kx := hw.m.c 2 0 rfl rfl
      have ky := hw.m.c 2 1 rfl rfl
      refine rel_val (u := .agg #[.bool bu, .slice Au ku cu]) (w' := wv) ?_ (Below.refl _ _) ⟨rfl, fun h => by cases h⟩
      have e1 := hE.const; clear hE hd hw
      go_simp
    · intro ev wv hE hw hd
      have vg : ev (.tmp 72) = .bool false := hd 8 (by decide)
      refine ifw (by show (yv (ev (.tmp 72)) == some false) = true; rw [vg]; rfl) (ifn rfl ?_)
      clear vg
      have v12 : ev (.tmp 12) = .pointer (some ⟨gv, 0, none⟩) := hE.tmp 12 rfl
      have kx := hw.m.c 3 0 rfl rfl
      have ky := hw.m.c 3 1 rfl rfl
      refine rel_val (u := .agg #[.bool bv, .slice Av kv cv]) (w' := wv) ?_ (Below.refl _ _) ⟨rfl, fun h => by cases h⟩
      have e1 := hE.const; clear hE hd hw
      go_simp
    · intro ev wv hE hw hd
      have vg : ev (.tmp 72) = .bool false := hd 8 (by decide)
      refine ifw (by show (yv (ev (.tmp 72)) == some false) = true; rw [vg]; rfl) (ifn rfl ?_)
      clear vg
      have v75 : ev (.tmp 75) = .agg #[.bool bu, .slice Au ku cu] := hd 11 (by decide)
      have v76 : ev (.tmp 76) = .agg #[.bool bv, .slice Av kv cv] := hd 12 (by decide)
      refine rel_call (f := 15) (args := #[.agg #[.bool bu, .slice Au ku cu], .agg #[.bool bv, .slice Av kv cv]]) ?_ (nadd_w _ _ _ _ _ _ _ _ _ zx zy zs _ (hw.m.r 0 rfl) (hw.m.r 1 rfl) (by omega) (by omega) HBU.out HBV.out HZS.out rfl) ?_
      · have e0 := hE.func; have e1 := hE.const; clear hE hd hw
        go_simp
      · rintro e w' ⟨A, k, c, rfl, R, hb⟩
        exact ⟨_, rfl, hb, ⟨A, k, c, rfl, R⟩, fun h => by cases h⟩
    · intro ev wv hE hw hd
      have vg : ev (.tmp 72) = .bool false := hd 8 (by decide)
      refine ifw (by show (yv (ev (.tmp 72)) == some false) = true; rw [vg]; rfl) (ifn rfl ?_)
      clear vg
      have v73 : ev (.tmp 73) = .agg #[.bool bs, .int .u64 (hs : Int), .int .u64 (ls : Int)] := hd 9 (by decide)
      have v74 : ev (.tmp 74) = .int .i64 es := hd 10 (by decide)
      obtain ⟨yA13, yk13, yc13, v77, yR13⟩ : VN (negB zs) (zs.natAbs) (ev (.tmp 77)) wv := hd 13 (by decide)
      refine rel_call (f := 13) (args := #[.agg #[.bool bs, .int .u64 (hs : Int), .int .u64 (ls : Int)], .int .i64 es, .agg #[.bool (negB zs), .slice yA13 yk13 yc13]]) ?_ (HTS.out _ _ _ _ yR13 (by have := row_le (k := 28) yR13 HKS.out; omega)) ?_
      · have e0 := hE.func; have e1 := hE.const; clear hE hd hw
        go_simp
      · rintro e w' ⟨rfl, hb⟩
        exact ⟨_, rfl, hb, rfl, fun h => by cases h⟩
    · intro ev wv hE hw hd
      have vg : ev (.tmp 72) = .bool false := hd 8 (by decide)
      refine ifw (by show (yv (ev (.tmp 72)) == some false) = true; rw [vg]; rfl) (ifw rfl ?_)
      clear vg
      have v78 : ev (.tmp 78) = .bool true := hd 14 (by decide)
      refine ⟨.bool false, fun w => ?_, rfl⟩
      have e1 := hE.const; have e2 := hE.func; clear hE hd hw
      go_simp
    · intro ev wv hE hw hd
      refine ifw rfl (ifw rfl ?_)
      have v72 : ev (.tmp 72) = .bool false := hd 8 (by decide)
      have v79 : ev (.tmp 79) = .bool false := hd 15 (by decide)
      refine ⟨.bool false, fun w => ?_, rfl⟩
      have e1 := hE.const; have e2 := hE.func; clear hE hd hw
      go_simp
    · intro ev wv hE hw hd
      refine ifw rfl (ifw rfl ?_)
      have v80 : ev (.tmp 80) = .bool false := hd 16 (by decide)
      refine ⟨.bool false, fun w => ?_, rfl⟩
      have e1 := hE.const; have e2 := hE.func; clear hE hd hw
      go_simp
    · intro ev wv hE hw hd
      have vg : ev (.tmp 81) = .bool false := hd 17 (by decide)
      refine ifw (by show (yv (ev (.tmp 81)) == some false) = true; rw [vg]; rfl) (ifw rfl ?_)
      clear vg
      have v2 : ev (.tmp 2) = .int .i64 a := hE.tmp 2 rfl
      refine ⟨.int .i64 a, fun w => ?_, rfl⟩
      have e1 := hE.const; have e2 := hE.func; clear hE hd hw
      go_simp
    · intro ev wv hE hw hd
      have vg : ev (.tmp 81) = .bool false := hd 17 (by decide)
      refine ifw (by show (yv (ev (.tmp 81)) == some false) = true; rw [vg]; rfl) (ifw rfl ?_)
      clear vg
      have v3 : ev (.tmp 3) = .int .i64 b := hE.tmp 3 rfl
      refine ⟨.int .i64 b, fun w => ?_, rfl⟩
      have e1 := hE.const; have e2 := hE.func; clear hE hd hw
      go_simp
    · intro ev wv hE hw hd
      have vg : ev (.tmp 81) = .bool false := hd 17 (by decide)
      refine ifw (by show (yv (ev (.tmp 81)) == some false) = true; rw [vg]; rfl) (ifn rfl ?_)
      clear vg
      have v82 : ev (.tmp 82) = .int .i64 a := hd 18 (by decide)
      have v83 : ev (.tmp 83) = .int .i64 b := hd 19 (by decide)
      refine rel_call (f := 16) (args := #[.int .i64 a, .int .i64 b]) ?_ (mul_w bm hm lm a b zm _ a1 a2 b1 b2 HZM.out HM.out.1 HM.out.2.1 HM.out.2.2) ?_
      · have e0 := hE.func; have e1 := hE.const; clear hE hd hw
        go_simp
      · rintro e w' ⟨rfl, hb⟩
        exact ⟨_, rfl, hb, rfl, fun h => by cases h⟩
    · intro ev wv hE hw hd
      have vg : ev (.tmp 81) = .bool false := hd 17 (by decide)
      refine ifw (by show (yv (ev (.tmp 81)) == some false) = true; rw [vg]; rfl) (ifn rfl ?_)
      clear vg
      have v17 : ev (.tmp 17) = .pointer (some ⟨w8.heap.size, 0, none⟩) := hE.tmp 17 rfl
      have kx := hw.m.c 6 0 rfl rfl
      have ky := hw.m.c 6 1 rfl rfl
      have kz := hw.m.c 6 2 rfl rfl
      refine rel_val (u := .agg #[.bool bm, .int .u64 (hm : Int), .int .u64 (lm : Int)]) (w' := wv) ?_ (Below.refl _ _) ⟨rfl, fun h => by cases h⟩
      have e1 := hE.const; clear hE hd hw
      go_simp
    · intro ev wv hE hw hd
      have vg : ev (.tmp 81) = .bool false := hd 17 (by decide)
      refine ifw (by show (yv (ev (.tmp 81)) == some false) = true; rw [vg]; rfl) (ifw rfl ?_)
      clear vg
      have v84 : ev (.tmp 84) = .agg #[.bool bm, .int .u64 (hm : Int), .int .u64 (lm : Int)] := hd 20 (by decide)
      have v85 : ev (.tmp 85) = .agg #[.bool bm, .int .u64 (hm : Int), .int .u64 (lm : Int)] := hd 21 (by decide)
      refine ⟨.bool false, fun w => ?_, rfl⟩
      have e1 := hE.const; have e2 := hE.func; clear hE hd hw
      go_simp
    · intro ev wv hE hw hd
      refine ifw rfl (ifw rfl ?_)
      have v81 : ev (.tmp 81) = .bool false := hd 17 (by decide)
      have v86 : ev (.tmp 86) = .bool false := hd 22 (by decide)
      refine ⟨.bool false, fun w => ?_, rfl⟩
      have e1 := hE.const; have e2 := hE.func; clear hE hd hw
      go_simp
    · intro ev wv hE hw hd
      refine ifw rfl (ifw rfl ?_)
      have v87 : ev (.tmp 87) = .bool false := hd 23 (by decide)
      refine ⟨.bool false, fun w => ?_, rfl⟩
      have e1 := hE.const; have e2 := hE.func; clear hE hd hw
      go_simp
    · intro ev wv hE hw hd
      have vg : ev (.tmp 88) = .bool false := hd 24 (by decide)
      refine ifw (by show (yv (ev (.tmp 88)) == some false) = true; rw [vg]; rfl) (ifw rfl ?_)
      clear vg
      have v2 : ev (.tmp 2) = .int .i64 a := hE.tmp 2 rfl
      refine ⟨.int .i64 a, fun w => ?_, rfl⟩
      have e1 := hE.const; have e2 := hE.func; clear hE hd hw
      go_simp
    · intro ev wv hE hw hd
      have vg : ev (.tmp 88) = .bool false := hd 24 (by decide)
      refine ifw (by show (yv (ev (.tmp 88)) == some false) = true; rw [vg]; rfl) (ifn rfl ?_)
      clear vg
      have v89 : ev (.tmp 89) = .int .i64 a := hd 25 (by decide)
      refine rel_call (f := 17) (args := #[.int .i64 a]) ?_ (of_w bo ho lo a _ a1 a2 HO.out.1 HO.out.2.1 HO.out.2.2) ?_
      · have e0 := hE.func; have e1 := hE.const; clear hE hd hw
        go_simp
      · rintro e w' ⟨rfl, hb⟩
        exact ⟨_, rfl, hb, rfl, fun h => by cases h⟩
    · intro ev wv hE hw hd
      have vg : ev (.tmp 88) = .bool false := hd 24 (by decide)
      refine ifw (by show (yv (ev (.tmp 88)) == some false) = true; rw [vg]; rfl) (ifn rfl ?_)
      clear vg
      have v19 : ev (.tmp 19) = .pointer (some ⟨w10.heap.size, 0, none⟩) := hE.tmp 19 rfl
      have kx := hw.m.c 7 0 rfl rfl
      have ky := hw.m.c 7 1 rfl rfl
      have kz := hw.m.c 7 2 rfl rfl
      refine rel_val (u := .agg #[.bool bo, .int .u64 (ho : Int), .int .u64 (lo : Int)]) (w' := wv) ?_ (Below.refl _ _) ⟨rfl, fun h => by cases h⟩
      have e1 := hE.const; clear hE hd hw
      go_simp
    · intro ev wv hE hw hd
      have vg : ev (.tmp 88) = .bool false := hd 24 (by decide)
      refine ifw (by show (yv (ev (.tmp 88)) == some false) = true; rw [vg]; rfl) (ifw rfl ?_)
      clear vg
      have v90 : ev (.tmp 90) = .agg #[.bool bo, .int .u64 (ho : Int), .int .u64 (lo : Int)] := hd 26 (by decide)
      have v91 : ev (.tmp 91) = .agg #[.bool bo, .int .u64 (ho : Int), .int .u64 (lo : Int)] := hd 27 (by decide)
      refine ⟨.bool false, fun w => ?_, rfl⟩
      have e1 := hE.const; have e2 := hE.func; clear hE hd hw
      go_simp
    · intro ev wv hE hw hd
      refine ifw rfl (ifw rfl ?_)
      have v88 : ev (.tmp 88) = .bool false := hd 24 (by decide)
      have v92 : ev (.tmp 92) = .bool false := hd 28 (by decide)
      refine ⟨.bool false, fun w => ?_, rfl⟩
      have e1 := hE.const; have e2 := hE.func; clear hE hd hw
      go_simp
    · intro ev wv hE hw hd
      refine ifw rfl (ifw rfl ?_)
      have v93 : ev (.tmp 93) = .bool false := hd 29 (by decide)
      refine ⟨.bool false, fun w => ?_, rfl⟩
      have e1 := hE.const; have e2 := hE.func; clear hE hd hw
      go_simp
    · intro ev wv hE hw hd
      have vg : ev (.tmp 94) = .bool false := hd 30 (by decide)
      refine ifw (by show (yv (ev (.tmp 94)) == some false) = true; rw [vg]; rfl) (ifn rfl ?_)
      clear vg
      have v5 : ev (.tmp 5) = .pointer (some ⟨w.heap.size, 0, none⟩) := hE.tmp 5 rfl
      have kx := hw.m.c 0 0 rfl rfl
      have ky := hw.m.c 0 1 rfl rfl
      have kz := hw.m.c 0 2 rfl rfl
      refine rel_val (u := .agg #[.bool s, .int .u64 (h : Int), .int .u64 (l : Int)]) (w' := wv) ?_ (Below.refl _ _) ⟨rfl, fun h => by cases h⟩
      have e1 := hE.const; clear hE hd hw
      go_simp
    · intro ev wv hE hw hd
      have vg : ev (.tmp 94) = .bool false := hd 30 (by decide)
      refine ifw (by show (yv (ev (.tmp 94)) == some false) = true; rw [vg]; rfl) (ifn rfl ?_)
      clear vg
      have v95 : ev (.tmp 95) = .agg #[.bool s, .int .u64 (h : Int), .int .u64 (l : Int)] := hd 31 (by decide)
      refine rel_call (f := 18) (args := #[.agg #[.bool s, .int .u64 (h : Int), .int .u64 (l : Int)]]) ?_ (neg_w bk s h l hk lk zx (-zx) _ hh hl HX.out rfl HK.out.1 HK.out.2.1 HK.out.2.2) ?_
      · have e0 := hE.func; have e1 := hE.const; clear hE hd hw
        go_simp
      · rintro e w' ⟨rfl, hb⟩
        exact ⟨_, rfl, hb, rfl, fun h => by cases h⟩
    · intro ev wv hE hw hd
      have vg : ev (.tmp 94) = .bool false := hd 30 (by decide)
      refine ifw (by show (yv (ev (.tmp 94)) == some false) = true; rw [vg]; rfl) (ifn rfl ?_)
      clear vg
      have v21 : ev (.tmp 21) = .pointer (some ⟨w12.heap.size, 0, none⟩) := hE.tmp 21 rfl
      have kx := hw.m.c 8 0 rfl rfl
      have ky := hw.m.c 8 1 rfl rfl
      have kz := hw.m.c 8 2 rfl rfl
      refine rel_val (u := .agg #[.bool bk, .int .u64 (hk : Int), .int .u64 (lk : Int)]) (w' := wv) ?_ (Below.refl _ _) ⟨rfl, fun h => by cases h⟩
      have e1 := hE.const; clear hE hd hw
      go_simp
    · intro ev wv hE hw hd
      have vg : ev (.tmp 94) = .bool false := hd 30 (by decide)
      refine ifw (by show (yv (ev (.tmp 94)) == some false) = true; rw [vg]; rfl) (ifw rfl ?_)
      clear vg
      have v96 : ev (.tmp 96) = .agg #[.bool bk, .int .u64 (hk : Int), .int .u64 (lk : Int)] := hd 32 (by decide)
      have v97 : ev (.tmp 97) = .agg #[.bool bk, .int .u64 (hk : Int), .int .u64 (lk : Int)] := hd 33 (by decide)
      refine ⟨.bool false, fun w => ?_, rfl⟩
      have e1 := hE.const; have e2 := hE.func; clear hE hd hw
      go_simp
    · intro ev wv hE hw hd
      refine ifw rfl (ifw rfl ?_)
      have v94 : ev (.tmp 94) = .bool false := hd 30 (by decide)
      have v98 : ev (.tmp 98) = .bool false := hd 34 (by decide)
      refine ⟨.bool false, fun w => ?_, rfl⟩
      have e1 := hE.const; have e2 := hE.func; clear hE hd hw
      go_simp
    · intro ev wv hE hw hd
      refine ifw rfl (ifw rfl ?_)
      have v99 : ev (.tmp 99) = .bool false := hd 35 (by decide)
      refine ⟨.bool false, fun w => ?_, rfl⟩
      have e1 := hE.const; have e2 := hE.func; clear hE hd hw
      go_simp
    · intro ev wv hE hw hd
      have vg : ev (.tmp 100) = .bool false := hd 36 (by decide)
      refine ifw (by show (yv (ev (.tmp 100)) == some false) = true; rw [vg]; rfl) (ifn rfl ?_)
      clear vg
      have v5 : ev (.tmp 5) = .pointer (some ⟨w.heap.size, 0, none⟩) := hE.tmp 5 rfl
      have kx := hw.m.c 0 0 rfl rfl
      have ky := hw.m.c 0 1 rfl rfl
      have kz := hw.m.c 0 2 rfl rfl
      refine rel_val (u := .agg #[.bool s, .int .u64 (h : Int), .int .u64 (l : Int)]) (w' := wv) ?_ (Below.refl _ _) ⟨rfl, fun h => by cases h⟩
      have e1 := hE.const; clear hE hd hw
      go_simp
    · intro ev wv hE hw hd
      have vg : ev (.tmp 100) = .bool false := hd 36 (by decide)
      refine ifw (by show (yv (ev (.tmp 100)) == some false) = true; rw [vg]; rfl) (ifn rfl ?_)
      clear vg
      have v6 : ev (.tmp 6) = .pointer (some ⟨w.heap.size + 1, 0, none⟩) := hE.tmp 6 rfl
      have kx := hw.m.c 1 0 rfl rfl
      have ky := hw.m.c 1 1 rfl rfl
      have kz := hw.m.c 1 2 rfl rfl
      refine rel_val (u := .agg #[.bool s', .int .u64 (h' : Int), .int .u64 (l' : Int)]) (w' := wv) ?_ (Below.refl _ _) ⟨rfl, fun h => by cases h⟩
      have e1 := hE.const; clear hE hd hw
      go_simp
    · intro ev wv hE hw hd
      have vg : ev (.tmp 100) = .bool false := hd 36 (by decide)
      refine ifw (by show (yv (ev (.tmp 100)) == some false) = true; rw [vg]; rfl) (ifn rfl ?_)
      clear vg
      have v101 : ev (.tmp 101) = .agg #[.bool s, .int .u64 (h : Int), .int .u64 (l : Int)] := hd 37 (by decide)
      have v102 : ev (.tmp 102) = .agg #[.bool s', .int .u64 (h' : Int), .int .u64 (l' : Int)] := hd 38 (by decide)
      refine rel_call (f := 19) (args := #[.agg #[.bool s, .int .u64 (h : Int), .int .u64 (l : Int)], .agg #[.bool s', .int .u64 (h' : Int), .int .u64 (l' : Int)]]) ?_ (cmp_w s s' h l h' l' zx zy cx _ hh hl hh' hl' HX.out HY.out HCX.out) ?_
      · have e0 := hE.func; have e1 := hE.const; clear hE hd hw
        go_simp
      · rintro e w' ⟨rfl, hb⟩
        exact ⟨_, rfl, hb, rfl, fun h => by cases h⟩
    · intro ev wv hE hw hd
      have vg : ev (.tmp 100) = .bool false := hd 36 (by decide)
      refine ifw (by show (yv (ev (.tmp 100)) == some false) = true; rw [vg]; rfl) (ifn rfl ?_)
      clear vg
      have v11 : ev (.tmp 11) = .pointer (some ⟨gu, 0, none⟩) := hE.tmp 11 rfl
      have kx := hw.m.c 2 0 rfl rfl
      have ky := hw.m.c 2 1 rfl rfl
      refine rel_val (u := .agg #[.bool bu, .slice Au ku cu]) (w' := wv) ?_ (Below.refl _ _) ⟨rfl, fun h => by cases h⟩
      have e1 := hE.const; clear hE hd hw
      go_simp
    · intro ev wv hE hw hd
      have vg : ev (.tmp 100) = .bool false := hd 36 (by decide)
      refine ifw (by show (yv (ev (.tmp 100)) == some false) = true; rw [vg]; rfl) (ifn rfl ?_)
      clear vg
      have v12 : ev (.tmp 12) = .pointer (some ⟨gv, 0, none⟩) := hE.tmp 12 rfl
      have kx := hw.m.c 3 0 rfl rfl
      have ky := hw.m.c 3 1 rfl rfl
      refine rel_val (u := .agg #[.bool bv, .slice Av kv cv]) (w' := wv) ?_ (Below.refl _ _) ⟨rfl, fun h => by cases h⟩
      have e1 := hE.const; clear hE hd hw
      go_simp
    · intro ev wv hE hw hd
      have vg : ev (.tmp 100) = .bool false := hd 36 (by decide)
      refine ifw (by show (yv (ev (.tmp 100)) == some false) = true; rw [vg]; rfl) (ifn rfl ?_)
      clear vg
      have v104 : ev (.tmp 104) = .agg #[.bool bu, .slice Au ku cu] := hd 40 (by decide)
      have v105 : ev (.tmp 105) = .agg #[.bool bv, .slice Av kv cv] := hd 41 (by decide)
      refine rel_call (f := 20) (args := #[.agg #[.bool bu, .slice Au ku cu], .agg #[.bool bv, .slice Av kv cv]]) ?_ (ncmp_w _ _ _ _ _ _ _ _ zx zy cx _ (hw.m.r 0 rfl) (hw.m.r 1 rfl) (by omega) (by omega) HBU.out HBV.out HCX.out) ?_
      · have e0 := hE.func; have e1 := hE.const; clear hE hd hw
        go_simp
      · rintro e w' ⟨rfl, hb⟩
        exact ⟨_, rfl, hb, rfl, fun h => by cases h⟩
    · intro ev wv hE hw hd
      have vg : ev (.tmp 100) = .bool false := hd 36 (by decide)
      refine ifw (by show (yv (ev (.tmp 100)) == some false) = true; rw [vg]; rfl) (ifw rfl ?_)
      clear vg
      have v103 : ev (.tmp 103) = .int .i64 cx := hd 39 (by decide)
      have v106 : ev (.tmp 106) = .int .i64 cx := hd 42 (by decide)
      refine ⟨.bool false, fun w => ?_, rfl⟩
      have e1 := hE.const; have e2 := hE.func; clear hE hd hw
      go_simp
    · intro ev wv hE hw hd
      refine ifw rfl (ifw rfl ?_)
      have v100 : ev (.tmp 100) = .bool false := hd 36 (by decide)
      have v107 : ev (.tmp 107) = .bool false := hd 43 (by decide)
      refine ⟨.bool false, fun w => ?_, rfl⟩
      have e1 := hE.const; have e2 := hE.func; clear hE hd hw
      go_simp
    · intro w14 M14
      intro v0 h0 _ v1 h1 _ v2 h2 _ v3 h3 _ v4 h4 _ v5 h5 _ v6 h6 _ v7 h7 _ v8 h8 _ v9 h9 _ v10 h10 _ v11 h11 _ v12 h12 _ v13 h13 _ v14 h14 _ v15 h15 _ v16 h16 _ v17 h17 _ v18 h18 _ v19 h19 _ v20 h20 _ v21 h21 _ v22 h22 _ v23 h23 _ v24 h24 _ v25 h25 _ v26 h26 _ v27 h27 _ v28 h28 _ v29 h29 _ v30 h30 _ v31 h31 _ v32 h32 _ v33 h33 _ v34 h34 _ v35 h35 _ v36 h36 _ v37 h37 _ v38 h38 _ v39 h39 _ v40 h40 _ v41 h41 _ v42 h42 _ v43 h43 _ v44 h44 _
      simp only [Act.put, List.setIfInBounds_toArray, List.set_cons_zero, List.set_cons_succ, List.drop_succ_cons, List.drop_zero]
      obtain rfl : v0 = _ := h0
      obtain rfl : v1 = _ := h1
      obtain rfl : v2 = _ := h2
      obtain rfl : v3 = _ := h3
      obtain ⟨yA4, yk4, yc4, rfl, yR4⟩ : VN (false) (n) v4 w14 := h4
      obtain ⟨yA5, yk5, yc5, rfl, yR5⟩ : VN (negB zp) (zp.natAbs) v5 w14 := h5
      obtain rfl : v6 = _ := h6
      obtain rfl : v7 = _ := h7
      obtain rfl : v8 = _ := h8
      obtain rfl : v9 = _ := h9
      obtain rfl : v10 = _ := h10
      obtain rfl : v11 = _ := h11
      obtain rfl : v12 = _ := h12
      obtain ⟨yA13, yk13, yc13, rfl, yR13⟩ : VN (negB zs) (zs.natAbs) v13 w14 := h13
      obtain rfl : v14 = _ := h14
      obtain rfl : v15 = _ := h15
      obtain rfl : v16 = _ := h16
      obtain rfl : v17 = _ := h17
      obtain rfl : v18 = _ := h18
      obtain rfl : v19 = _ := h19
      obtain rfl : v20 = _ := h20
      obtain rfl : v21 = _ := h21
      obtain rfl : v22 = _ := h22
      obtain rfl : v23 = _ := h23
      obtain rfl : v24 = _ := h24
      obtain rfl : v25 = _ := h25
      obtain rfl : v26 = _ := h26
      obtain rfl : v27 = _ := h27
      obtain rfl : v28 = _ := h28
      obtain rfl : v29 = _ := h29
      obtain rfl : v30 = _ := h30
      obtain rfl : v31 = _ := h31
      obtain rfl : v32 = _ := h32
      obtain rfl : v33 = _ := h33
      obtain rfl : v34 = _ := h34
      obtain rfl : v35 = _ := h35
      obtain rfl : v36 = _ := h36
      obtain rfl : v37 = _ := h37
      obtain rfl : v38 = _ := h38
      obtain rfl : v39 = _ := h39
      obtain rfl : v40 = _ := h40
      obtain rfl : v41 = _ := h41
      obtain rfl : v42 = _ := h42
      obtain rfl : v43 = _ := h43
      obtain rfl : v44 = _ := h44
      change wpList Try.prog _ _ _ _ w14
      refine calm_normal ?_
      have HB := Lib.hid M14.m.bl
      have x0 := M14.m.c 0 0 rfl rfl; have x1 := M14.m.c 0 1 rfl rfl; have x2 := M14.m.c 0 2 rfl rfl
      clear S13
      go_wp2_with fail
      refine (HSM.out _).mono ?_
      rintro e w15 ⟨rfl, hb⟩
      have S15 := M14.m.keep hb
      have u0 := S15.c 2 0 rfl rfl; have u1 := S15.c 2 1 rfl rfl
      clear M14 hb x0 x1 x2
      go_wp2_with fail
      refine (HSN.out _ _ _ _ (S15.r 0 rfl) (by omega)).mono ?_
      rintro e w16 ⟨rfl, hb⟩
      have S16 := S15.keep hb
      have HB := Lib.hid S16.bl
      clear S15 S16 hb u0 u1
      go_wp2_with fail
      refine (known_any _).mono ?_
      rintro e w17 ⟨rfl, hb⟩
      go_wp2_with fail
      go_ret
      exact ⟨rfl, HB.out.trans (hb.mono HB.out.size)⟩
end Go.Proofs.Ytbenpcnibongaaa

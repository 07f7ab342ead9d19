/- Contracts of package decimal: rounded, Add, Sub, Cmp. (Written by wip/gen/gendc3.py.) -/
import Derived.Test.YtgkogjlcecbfjaaDc3
namespace Go.Proofs.Ytgkogjlcecbfjaa
open Go.RowKit Corr
set_option linter.unusedVariables false

theorem evenN_lt {n d : Nat} (hn : n < B128) (h0 : 0 < d) : evenN n d < B128 := by
  unfold evenN
  split
  · rename_i h; exact upE_fit hn h0 h
  · exact Nat.lt_of_le_of_lt (Nat.div_le_self _ _) hn
theorem evZ_lt {b : Bool} {h l d : Nat} {z : Int} (hh : h < B64) (hl : l < B64) (h0 : 0 < d) (hz : val b (nat2 h l) = z) : (evZ z d).natAbs < B128 := by
  rw [← hz, ← even_ev b _ d h0, natAbs_val]; exact evenN_lt (nat2_lt hh hl) h0
set_option maxHeartbeats 1000000 in
theorem drounded_no (b : Bool) (h l s p : Nat) (z u : Int) (w : World) (hh : h < B64) (hl : l < B64) (hp : s ≤ p) (h9 : p ≤ 9) (hz : val b (nat2 h l) = z) (hu : z * ((10 ^ (p - s) : Nat) : Int) = u) :
    Calls Try.prog 75 #[WV b h l, .int .i64 (s : Int), .int .i64 (p : Int)] w fun e w' => e = .returned (.tuple #[.agg #[.int .i64 (mC u p), .int .i64 (mS u p : Int)], .int .i64 (mE u p)]) ∧ Below w.heap.size w w' := by
  have HM := made_at hp hu
  obtain ⟨c, hc⟩ : ∃ c, mC u p = c := ⟨_, rfl⟩
  obtain ⟨t, ht⟩ : ∃ t, mS u p = t := ⟨_, rfl⟩
  obtain ⟨e, he⟩ : ∃ e, mE u p = e := ⟨_, rfl⟩
  rw [hc, ht, he] at HM
  have HT := Lib.hid (fun w => dfit_any b h l s z w hh hl (by omega) hz)
  rw [HM.1, HM.2.1, HM.2.2] at HT
  rw [hc, ht, he]
  clear HM hu hz hc ht he
  have S0 := ((Mem.start w).push #[.bool b, .int .u64 (h : Int), .int .u64 (l : Int)] 24).push #[.int .i64 0, .int .i64 0] 59
  simp only [size_alloc] at S0
  go_enter Try.func75, Try.ntmps75
  go_wp2_with fail
  refine (HT.out _).mono ?_
  rintro e w1 ⟨rfl, hb⟩
  have S1 := S0.keep hb
  clear S0 hb
  have za := S1.c 1 0 rfl rfl; have zb := S1.c 1 1 rfl rfl; have zc := S1.f 1 0 rfl; have zd := S1.f 1 1 rfl
  have HF := Lib.hid (S1.put20 1 rfl (.int .i64 c) (.int .i64 (t : Int)))
  clear S1
  go_wp2_with fail
  exact bodyPost_ret (v := .tuple #[.agg #[.int .i64 c, .int .i64 (t : Int)], .int .i64 e]) (by simp [results, Try.results75, go_sem, za, zb]) rfl ⟨rfl, HF.out.bl⟩
set_option maxHeartbeats 2000000 in
theorem drounded_up (b : Bool) (h l s p : Nat) (z u : Int) (w : World) (hh : h < B64) (hl : l < B64) (hp : p < s) (hs : s ≤ 18) (h9 : p ≤ 9) (hz : val b (nat2 h l) = z) (hu : evZ z (10 ^ (s - p)) = u) :
    Calls Try.prog 75 #[WV b h l, .int .i64 (s : Int), .int .i64 (p : Int)] w fun e w' => e = .returned (.tuple #[.agg #[.int .i64 (mC u p), .int .i64 (mS u p : Int)], .int .i64 (mE u p)]) ∧ Below w.heap.size w w' := by
  obtain ⟨b2, eb2⟩ : ∃ x, negB u = x := ⟨_, rfl⟩
  obtain ⟨h2, eh2⟩ : ∃ x, hiW (u).natAbs = x := ⟨_, rfl⟩
  obtain ⟨l2, el2⟩ : ∃ x, loW (u).natAbs = x := ⟨_, rfl⟩
  have hub : u.natAbs < B128 := by rw [← hu]; exact evZ_lt hh hl (p10 _) hz
  have HE := Lib.hid (fun w => even_w b b2 h l (10 ^ (s - p)) h2 l2 u w hh hl (p10_64 (by omega)) (p10 _) (by rw [even_ev _ _ _ (p10 _), hz]; exact hu) eb2 eh2 el2)
  have HT := Lib.hid (fun w => dfit_any b2 h2 l2 p u w (hi_of hub eh2) (lo_of el2) (by omega) (of_abs eb2 eh2 el2))
  obtain ⟨c, hc⟩ : ∃ c, mC u p = c := ⟨_, rfl⟩
  obtain ⟨t, ht⟩ : ∃ t, mS u p = t := ⟨_, rfl⟩
  obtain ⟨e, he⟩ : ∃ e, mE u p = e := ⟨_, rfl⟩
  rw [hc, ht, he] at HT
  rw [hc, ht, he]
  clear hub hu hz hc ht he eb2 eh2 el2
  have hs1 : (s : Int) - (p : Int) = ((s - p : Nat) : Int) := by omega
  have hs2 : IntKind.i64.wrap ((s - p : Nat) : Int) = ((s - p : Nat) : Int) := IntWalk.i64_in _ (by omega)
  have S0 := ((Mem.start w).push #[.bool b, .int .u64 (h : Int), .int .u64 (l : Int)] 24).push #[.int .i64 0, .int .i64 0] 59
  simp only [size_alloc] at S0
  go_enter Try.func75, Try.ntmps75
  go_upto_region 2 with fail
  refine wp_region_rel 9 (MemAt w (w.heap.size + 1 + 1) [(w.heap.size, #[.bool b, .int .u64 (h : Int), .int .u64 (l : Int)]), (w.heap.size + 1, #[.int .i64 0, .int .i64 0])] [])
    (fun i => List.getD [VE (.agg #[.bool b, .int .u64 (h : Int), .int .u64 (l : Int)]), VE (.int .i64 (s : Int)), VE (.int .i64 (p : Int)), VE (.int .i64 ((s - p : Nat) : Int)), VE (.int .u64 ((10 ^ (s - p) : Nat) : Int)), VE (.tuple #[.agg #[.bool b2, .int .u64 (h2 : Int), .int .u64 (l2 : Int)], .int .i64 0]), VE (.tuple #[.agg #[.bool b2, .int .u64 (h2 : Int), .int .u64 (l2 : Int)], .int .i64 0]), VE (.agg #[.bool b2, .int .u64 (h2 : Int), .int .u64 (l2 : Int)]), VE (.int .i64 0)] i (fun _ _ => False)) [] [1, 2, 3, 6, 7, 8] (by kernel_rfl) (by kernel_rfl) ⟨S0.drew, by simp⟩ (fun _ _ h hb => h.grow hb)
    (stays_all (stays_cons (stays_VE _) (stays_cons (stays_VE _) (stays_cons (stays_VE _) (stays_cons (stays_VE _) (stays_cons (stays_VE _) (stays_cons (stays_VE _) (stays_cons (stays_VE _) (stays_cons (stays_VE _) (stays_cons (stays_VE _) stays_nil)))))))))) ⟨?_, ?_, ?_, ?_, ?_, ?_, ?_, ?_, ?_, trivial⟩ ?_
  · intro ev wv hE hw hd
    refine ifw rfl (ifn rfl ?_)
    have v3 : ev (.tmp 3) = .pointer (some ⟨w.heap.size, 0, none⟩) := hE.tmp 3 rfl
    have kx := hw.m.c 0 0 rfl rfl
    have ky := hw.m.c 0 1 rfl rfl
    have kz := hw.m.c 0 2 rfl rfl
    refine rel_val (u := .agg #[.bool b, .int .u64 (h : Int), .int .u64 (l : Int)]) (w' := wv) ?_ (Below.refl _ _) ⟨rfl, fun h => by cases h⟩
    have e1 := hE.const; clear hE hd hw
    go_simp
  · intro ev wv hE hw hd
    refine ifw rfl (ifw rfl ?_)
    have v1 : ev (.tmp 1) = .int .i64 (s : Int) := hE.tmp 1 rfl
    refine ⟨.int .i64 (s : Int), fun w => ?_, rfl⟩
    have e1 := hE.const; have e2 := hE.func; clear hE hd hw
    go_simp
  · intro ev wv hE hw hd
    refine ifw rfl (ifw rfl ?_)
    have v2 : ev (.tmp 2) = .int .i64 (p : Int) := hE.tmp 2 rfl
    refine ⟨.int .i64 (p : Int), fun w => ?_, rfl⟩
    have e1 := hE.const; have e2 := hE.func; clear hE hd hw
    go_simp
  · intro ev wv hE hw hd
    refine ifw rfl (ifw rfl ?_)
    have v13 : ev (.tmp 13) = .int .i64 (s : Int) := hd 1 (by decide)
    have v14 : ev (.tmp 14) = .int .i64 (p : Int) := hd 2 (by decide)
    refine ⟨.int .i64 ((s - p : Nat) : Int), fun w => ?_, rfl⟩
    have e1 := hE.const; have e2 := hE.func; clear hE hd hw
    go_simp
  · intro ev wv hE hw hd
    refine ifw rfl (ifn rfl ?_)
    have v15 : ev (.tmp 15) = .int .i64 ((s - p : Nat) : Int) := hd 3 (by decide)
    refine rel_call (f := 31) (args := #[.int .i64 ((s - p : Nat) : Int)]) ?_ ((ten_ok (s - p) _ (by omega))) ?_
    · have e0 := hE.func; have e1 := hE.const; clear hE hd hw
      go_simp
    · rintro e w' ⟨rfl, rfl⟩
      exact ⟨_, rfl, Below.refl _ _, rfl, fun h => by cases h⟩
  · intro ev wv hE hw hd
    refine ifw rfl (ifn rfl ?_)
    have v12 : ev (.tmp 12) = .agg #[.bool b, .int .u64 (h : Int), .int .u64 (l : Int)] := hd 0 (by decide)
    have v16 : ev (.tmp 16) = .int .u64 ((10 ^ (s - p) : Nat) : Int) := hd 4 (by decide)
    refine rel_call (f := 28) (args := #[.agg #[.bool b, .int .u64 (h : Int), .int .u64 (l : Int)], .int .u64 ((10 ^ (s - p) : Nat) : Int)]) ?_ (HE.out _) ?_
    · have e0 := hE.func; have e1 := hE.const; clear hE hd hw
      go_simp
    · rintro e w' ⟨rfl, hb⟩
      exact ⟨_, rfl, hb, rfl, fun h => by cases h⟩
  · intro ev wv hE hw hd
    refine ifw rfl (ifw rfl ?_)
    have v17 : ev (.tmp 17) = .tuple #[.agg #[.bool b2, .int .u64 (h2 : Int), .int .u64 (l2 : Int)], .int .i64 0] := hd 5 (by decide)
    refine ⟨.tuple #[.agg #[.bool b2, .int .u64 (h2 : Int), .int .u64 (l2 : Int)], .int .i64 0], fun w => ?_, rfl⟩
    have e1 := hE.const; have e2 := hE.func; clear hE hd hw
    go_simp
  · intro ev wv hE hw hd
    refine ifw rfl (ifw rfl ?_)
    have v11 : ev (.tmp 11) = .tuple #[.agg #[.bool b2, .int .u64 (h2 : Int), .int .u64 (l2 : Int)], .int .i64 0] := hd 6 (by decide)
    refine ⟨.agg #[.bool b2, .int .u64 (h2 : Int), .int .u64 (l2 : Int)], fun w => ?_, rfl⟩
    have e1 := hE.const; have e2 := hE.func; clear hE hd hw
    go_simp
  · intro ev wv hE hw hd
    refine ifw rfl (ifw rfl ?_)
    have v11 : ev (.tmp 11) = .tuple #[.agg #[.bool b2, .int .u64 (h2 : Int), .int .u64 (l2 : Int)], .int .i64 0] := hd 6 (by decide)
    refine ⟨.int .i64 0, fun w => ?_, rfl⟩
    have e1 := hE.const; have e2 := hE.func; clear hE hd hw
    go_simp
  · intro w1 M1
    intro v0 h0 _ v1 h1 _ v2 h2 _ v3 h3 _ v4 h4 _ v5 h5 _ v6 h6 _ v7 h7 _ v8 h8 _
    simp only [Act.put, List.setIfInBounds_toArray, List.set_cons_zero, List.set_cons_succ, List.drop_succ_cons, List.drop_zero]
    obtain rfl : v0 = _ := h0
    obtain rfl : v1 = _ := h1
    obtain rfl : v2 = _ := h2
    obtain rfl : v3 = _ := h3
    obtain rfl : v4 = _ := h4
    obtain rfl : v5 = _ := h5
    obtain rfl : v6 = _ := h6
    obtain rfl : v7 = _ := h7
    obtain rfl : v8 = _ := h8
    change wpList Try.prog _ _ _ _ w1
    have y0 := M1.m.c 0 0 rfl rfl; have y1 := M1.m.c 0 1 rfl rfl; have y2 := M1.m.c 0 2 rfl rfl
    have y3 := M1.m.f 0 0 rfl; have y4 := M1.m.f 0 1 rfl; have y5 := M1.m.f 0 2 rfl
    have M4 := M1.m.put3 0 rfl rfl (.bool b2) (.int .u64 (h2 : Int)) (.int .u64 (l2 : Int)) rfl rfl
    clear M1 S0
    go_wp2_with fail
    refine calm_normal ?_
    generalize ((w1.setCell ⟨w.heap.size, 0, none⟩ (.bool b2)).setCell ⟨w.heap.size, 1, none⟩ (.int .u64 (h2 : Int))).setCell ⟨w.heap.size, 2, none⟩ (.int .u64 (l2 : Int)) = w4 at *
    clear y0 y1 y2 y3 y4 y5 hs1 hs2
    have y0 := M4.c 0 0 rfl rfl; have y1 := M4.c 0 1 rfl rfl; have y2 := M4.c 0 2 rfl rfl
    go_wp2_with fail
    refine (HT.out _).mono ?_
    rintro e5 w5 ⟨rfl, hb⟩
    have M5 := M4.keep hb
    clear y0 y1 y2 M4 hb
    have za := M5.c 1 0 rfl rfl; have zb := M5.c 1 1 rfl rfl; have zc := M5.f 1 0 rfl; have zd := M5.f 1 1 rfl
    have HF := Lib.hid (M5.put20 1 rfl (.int .i64 c) (.int .i64 (t : Int)))
    clear M5
    go_wp2_with fail
    exact bodyPost_ret (v := .tuple #[.agg #[.int .i64 c, .int .i64 (t : Int)], .int .i64 e]) (by simp [results, Try.results75, go_sem, za, zb]) rfl ⟨rfl, HF.out.bl⟩
/-- Both ways of rounded. -/
def rndZ (z : Int) (s p : Nat) : Int := if p < s then evZ z (10 ^ (s - p)) else z * ((10 ^ (p - s) : Nat) : Int)
theorem drounded_any (b : Bool) (h l s p : Nat) (z u : Int) (w : World) (hh : h < B64) (hl : l < B64) (hs : s ≤ 18) (h9 : p ≤ 9) (hz : val b (nat2 h l) = z) (hu : rndZ z s p = u) :
    Calls Try.prog 75 #[WV b h l, .int .i64 (s : Int), .int .i64 (p : Int)] w fun e w' => e = .returned (.tuple #[.agg #[.int .i64 (mC u p), .int .i64 (mS u p : Int)], .int .i64 (mE u p)]) ∧ Below w.heap.size w w' := by
  unfold rndZ at hu
  by_cases h1 : p < s
  · rw [if_pos h1] at hu; exact drounded_up b h l s p z u w hh hl h1 hs h9 hz hu
  · rw [if_neg h1] at hu; exact drounded_no b h l s p z u w hh hl (by omega) h9 hz hu
set_option maxHeartbeats 2000000 in
theorem dadd_le (C C' : Int) (S S' : Nat) (u : Int) (w : World) (hC1 : -9223372036854775808 ≤ C) (hC2 : C ≤ 9223372036854775807) (hS : S ≤ 9) (hC1' : -9223372036854775808 ≤ C') (hC2' : C' ≤ 9223372036854775807) (hS' : S' ≤ 9) (hle : S ≤ S') (hu : nine C S + nine C' S' = u) :
    Calls Try.prog 34 #[.agg #[.int .i64 C, .int .i64 (S : Int)], .agg #[.int .i64 C', .int .i64 (S' : Int)]] w fun e w' => e = .returned (.tuple #[.agg #[.int .i64 (mC u 9), .int .i64 (mS u 9 : Int)], .int .i64 (mE u 9)]) ∧ Below w.heap.size w w' := by
  obtain ⟨zx, hzx⟩ : ∃ z, C * ((10 ^ (S' - S) : Nat) : Int) = z := ⟨_, rfl⟩
  obtain ⟨zy, hzy⟩ : ∃ z, C' * ((10 ^ (S' - S') : Nat) : Int) = z := ⟨_, rfl⟩
  obtain ⟨z, hz⟩ : ∃ z, zx + zy = z := ⟨_, rfl⟩
  obtain ⟨b, eb⟩ : ∃ x, negB z = x := ⟨_, rfl⟩
  obtain ⟨h, eh⟩ : ∃ x, hiW (z).natAbs = x := ⟨_, rfl⟩
  obtain ⟨l, el⟩ : ∃ x, loW (z).natAbs = x := ⟨_, rfl⟩
  have hxa : zx.natAbs ≤ 9223372036854775808 * 10 ^ 9 := by rw [← hzx]; exact scale_le hC1 hC2 (by omega)
  have hya : zy.natAbs ≤ 9223372036854775808 * 10 ^ 9 := by rw [← hzy]; exact scale_le hC1' hC2' (by omega)
  have hzb : z.natAbs < B128 := Nat.lt_of_le_of_lt (show z.natAbs ≤ 9223372036854775808 * 10 ^ 9 + 9223372036854775808 * 10 ^ 9 by rw [← hz]; omega) (by decide)
  have HM := made_at (show S' ≤ 9 by omega) (show z * ((10 ^ (9 - S') : Nat) : Int) = u by rw [← hz, ← hzx, ← hzy, ← hu]; exact nine_sum (by omega) (by omega) (by omega))
  obtain ⟨c, hc⟩ : ∃ c, mC u 9 = c := ⟨_, rfl⟩
  obtain ⟨t, ht⟩ : ∃ t, mS u 9 = t := ⟨_, rfl⟩
  obtain ⟨e, he⟩ : ∃ e, mE u 9 = e := ⟨_, rfl⟩
  rw [hc, ht, he] at HM
  have HFT := Lib.hid (fun w => dfit_any b h l S' z w (hi_of hzb eh) (lo_of el) (by omega) (of_abs eb eh el))
  rw [HM.1, HM.2.1, HM.2.2] at HFT
  rw [hc, ht, he]
  have HX := Lib.hid (fun w => dis_yes C (S : Int) w (by omega) (by omega))
  have HY := Lib.hid (fun w => dis_yes C' (S' : Int) w (by omega) (by omega))
  have HSU := Lib.hid (fun w => dsums_le C C' S S' w hle hS hS')
  have HTL := Lib.hid (fun gx gs gy w FX FS FY => dtell_sum b h l C C' S S' S' gx gs gy zx zy z w hC1 hC2 hC1' hC2' (by omega) (by omega) (by omega) hzx hzy hz eb eh el FX FS FY)
  clear HM hzx hzy hz hxa hya hzb eb eh el hc ht he hu
  have S0 := (((Mem.start w).push #[.int .i64 C, .int .i64 (S : Int)] 59).push #[.int .i64 C', .int .i64 (S' : Int)] 59).push #[.int .i64 0, .int .i64 0] 59
  simp only [size_alloc] at S0
  go_enter Try.func34, Try.ntmps34
  go_wp2_with fail
  refine (HX.out _).mono ?_
  rintro e w1 ⟨rfl, hb⟩
  have S1 := S0.keep hb
  clear S0 hb
  have x1_0 := S1.c 1 0 rfl rfl
  have x1_1 := S1.c 1 1 rfl rfl
  go_wp2_with fail
  refine (HY.out _).mono ?_
  rintro e w2 ⟨rfl, hb⟩
  have S2 := S1.keep hb
  clear x1_0 x1_1 S1 hb
  have x0_0 := S2.c 0 0 rfl rfl
  have x0_1 := S2.c 0 1 rfl rfl
  have x1_0 := S2.c 1 0 rfl rfl
  have x1_1 := S2.c 1 1 rfl rfl
  go_wp2_with fail
  refine (HSU.out _).mono ?_
  rintro e w3 ⟨gx, gs, gy, rfl, FX, FS, FY, hb⟩
  have S3 := S2.keep hb
  clear x0_0 x0_1 x1_0 x1_1 S2 hb
  go_wp2_with fail
  refine (HTL.out _ _ _ _ FX FS FY).mono ?_
  rintro e w4 ⟨rfl, hb⟩
  have S4 := S3.keep hb
  clear S3 hb
  clear FX FS FY
  go_wp2_with fail
  refine (HFT.out _).mono ?_
  rintro e w5 ⟨rfl, hb⟩
  have S5 := S4.keep hb
  clear S4 hb
  have za := S5.c 2 0 rfl rfl; have zb := S5.c 2 1 rfl rfl; have zc := S5.f 2 0 rfl; have zd := S5.f 2 1 rfl
  have HF := Lib.hid (S5.put20 2 rfl (.int .i64 c) (.int .i64 (t : Int)))
  clear S5
  go_wp2_with fail
  exact bodyPost_ret (v := .tuple #[.agg #[.int .i64 c, .int .i64 (t : Int)], .int .i64 e]) (by simp [results, Try.results34, go_sem, za, zb]) rfl ⟨rfl, HF.out.bl⟩
set_option maxHeartbeats 2000000 in
theorem dadd_gt (C C' : Int) (S S' : Nat) (u : Int) (w : World) (hC1 : -9223372036854775808 ≤ C) (hC2 : C ≤ 9223372036854775807) (hS : S ≤ 9) (hC1' : -9223372036854775808 ≤ C') (hC2' : C' ≤ 9223372036854775807) (hS' : S' ≤ 9) (hle : S' < S) (hu : nine C S + nine C' S' = u) :
    Calls Try.prog 34 #[.agg #[.int .i64 C, .int .i64 (S : Int)], .agg #[.int .i64 C', .int .i64 (S' : Int)]] w fun e w' => e = .returned (.tuple #[.agg #[.int .i64 (mC u 9), .int .i64 (mS u 9 : Int)], .int .i64 (mE u 9)]) ∧ Below w.heap.size w w' := by
  obtain ⟨zx, hzx⟩ : ∃ z, C * ((10 ^ (S - S) : Nat) : Int) = z := ⟨_, rfl⟩
  obtain ⟨zy, hzy⟩ : ∃ z, C' * ((10 ^ (S - S') : Nat) : Int) = z := ⟨_, rfl⟩
  obtain ⟨z, hz⟩ : ∃ z, zx + zy = z := ⟨_, rfl⟩
  obtain ⟨b, eb⟩ : ∃ x, negB z = x := ⟨_, rfl⟩
  obtain ⟨h, eh⟩ : ∃ x, hiW (z).natAbs = x := ⟨_, rfl⟩
  obtain ⟨l, el⟩ : ∃ x, loW (z).natAbs = x := ⟨_, rfl⟩
  have hxa : zx.natAbs ≤ 9223372036854775808 * 10 ^ 9 := by rw [← hzx]; exact scale_le hC1 hC2 (by omega)
  have hya : zy.natAbs ≤ 9223372036854775808 * 10 ^ 9 := by rw [← hzy]; exact scale_le hC1' hC2' (by omega)
  have hzb : z.natAbs < B128 := Nat.lt_of_le_of_lt (show z.natAbs ≤ 9223372036854775808 * 10 ^ 9 + 9223372036854775808 * 10 ^ 9 by rw [← hz]; omega) (by decide)
  have HM := made_at (show S ≤ 9 by omega) (show z * ((10 ^ (9 - S) : Nat) : Int) = u by rw [← hz, ← hzx, ← hzy, ← hu]; exact nine_sum (by omega) (by omega) (by omega))
  obtain ⟨c, hc⟩ : ∃ c, mC u 9 = c := ⟨_, rfl⟩
  obtain ⟨t, ht⟩ : ∃ t, mS u 9 = t := ⟨_, rfl⟩
  obtain ⟨e, he⟩ : ∃ e, mE u 9 = e := ⟨_, rfl⟩
  rw [hc, ht, he] at HM
  have HFT := Lib.hid (fun w => dfit_any b h l S z w (hi_of hzb eh) (lo_of el) (by omega) (of_abs eb eh el))
  rw [HM.1, HM.2.1, HM.2.2] at HFT
  rw [hc, ht, he]
  have HX := Lib.hid (fun w => dis_yes C (S : Int) w (by omega) (by omega))
  have HY := Lib.hid (fun w => dis_yes C' (S' : Int) w (by omega) (by omega))
  have HSU := Lib.hid (fun w => dsums_gt C C' S S' w hle hS hS')
  have HTL := Lib.hid (fun gx gs gy w FX FS FY => dtell_sum b h l C C' S S' S gx gs gy zx zy z w hC1 hC2 hC1' hC2' (by omega) (by omega) (by omega) hzx hzy hz eb eh el FX FS FY)
  clear HM hzx hzy hz hxa hya hzb eb eh el hc ht he hu
  have S0 := (((Mem.start w).push #[.int .i64 C, .int .i64 (S : Int)] 59).push #[.int .i64 C', .int .i64 (S' : Int)] 59).push #[.int .i64 0, .int .i64 0] 59
  simp only [size_alloc] at S0
  go_enter Try.func34, Try.ntmps34
  go_wp2_with fail
  refine (HX.out _).mono ?_
  rintro e w1 ⟨rfl, hb⟩
  have S1 := S0.keep hb
  clear S0 hb
  have x1_0 := S1.c 1 0 rfl rfl
  have x1_1 := S1.c 1 1 rfl rfl
  go_wp2_with fail
  refine (HY.out _).mono ?_
  rintro e w2 ⟨rfl, hb⟩
  have S2 := S1.keep hb
  clear x1_0 x1_1 S1 hb
  have x0_0 := S2.c 0 0 rfl rfl
  have x0_1 := S2.c 0 1 rfl rfl
  have x1_0 := S2.c 1 0 rfl rfl
  have x1_1 := S2.c 1 1 rfl rfl
  go_wp2_with fail
  refine (HSU.out _).mono ?_
  rintro e w3 ⟨gx, gs, gy, rfl, FX, FS, FY, hb⟩
  have S3 := S2.keep hb
  clear x0_0 x0_1 x1_0 x1_1 S2 hb
  go_wp2_with fail
  refine (HTL.out _ _ _ _ FX FS FY).mono ?_
  rintro e w4 ⟨rfl, hb⟩
  have S4 := S3.keep hb
  clear S3 hb
  clear FX FS FY
  go_wp2_with fail
  refine (HFT.out _).mono ?_
  rintro e w5 ⟨rfl, hb⟩
  have S5 := S4.keep hb
  clear S4 hb
  have za := S5.c 2 0 rfl rfl; have zb := S5.c 2 1 rfl rfl; have zc := S5.f 2 0 rfl; have zd := S5.f 2 1 rfl
  have HF := Lib.hid (S5.put20 2 rfl (.int .i64 c) (.int .i64 (t : Int)))
  clear S5
  go_wp2_with fail
  exact bodyPost_ret (v := .tuple #[.agg #[.int .i64 c, .int .i64 (t : Int)], .int .i64 e]) (by simp [results, Try.results34, go_sem, za, zb]) rfl ⟨rfl, HF.out.bl⟩
theorem dadd_any (C C' : Int) (S S' : Nat) (u : Int) (w : World) (hC1 : -9223372036854775808 ≤ C) (hC2 : C ≤ 9223372036854775807) (hS : S ≤ 9) (hC1' : -9223372036854775808 ≤ C') (hC2' : C' ≤ 9223372036854775807) (hS' : S' ≤ 9) (hu : nine C S + nine C' S' = u) :
    Calls Try.prog 34 #[.agg #[.int .i64 C, .int .i64 (S : Int)], .agg #[.int .i64 C', .int .i64 (S' : Int)]] w fun e w' => e = .returned (.tuple #[.agg #[.int .i64 (mC u 9), .int .i64 (mS u 9 : Int)], .int .i64 (mE u 9)]) ∧ Below w.heap.size w w' := by
  rcases Nat.lt_or_ge S' S with h | h
  · exact dadd_gt C C' S S' u w hC1 hC2 hS hC1' hC2' hS' h hu
  · exact dadd_le C C' S S' u w hC1 hC2 hS hC1' hC2' hS' h hu
set_option maxHeartbeats 2000000 in
theorem dsub_le (C C' : Int) (S S' : Nat) (u : Int) (w : World) (hC1 : -9223372036854775808 ≤ C) (hC2 : C ≤ 9223372036854775807) (hS : S ≤ 9) (hC1' : -9223372036854775808 ≤ C') (hC2' : C' ≤ 9223372036854775807) (hS' : S' ≤ 9) (hle : S ≤ S') (hu : nine C S - nine C' S' = u) :
    Calls Try.prog 35 #[.agg #[.int .i64 C, .int .i64 (S : Int)], .agg #[.int .i64 C', .int .i64 (S' : Int)]] w fun e w' => e = .returned (.tuple #[.agg #[.int .i64 (mC u 9), .int .i64 (mS u 9 : Int)], .int .i64 (mE u 9)]) ∧ Below w.heap.size w w' := by
  obtain ⟨zx, hzx⟩ : ∃ z, C * ((10 ^ (S' - S) : Nat) : Int) = z := ⟨_, rfl⟩
  obtain ⟨zy, hzy⟩ : ∃ z, C' * ((10 ^ (S' - S') : Nat) : Int) = z := ⟨_, rfl⟩
  obtain ⟨z, hz⟩ : ∃ z, zx - zy = z := ⟨_, rfl⟩
  obtain ⟨b, eb⟩ : ∃ x, negB z = x := ⟨_, rfl⟩
  obtain ⟨h, eh⟩ : ∃ x, hiW (z).natAbs = x := ⟨_, rfl⟩
  obtain ⟨l, el⟩ : ∃ x, loW (z).natAbs = x := ⟨_, rfl⟩
  have hxa : zx.natAbs ≤ 9223372036854775808 * 10 ^ 9 := by rw [← hzx]; exact scale_le hC1 hC2 (by omega)
  have hya : zy.natAbs ≤ 9223372036854775808 * 10 ^ 9 := by rw [← hzy]; exact scale_le hC1' hC2' (by omega)
  have hzb : z.natAbs < B128 := Nat.lt_of_le_of_lt (show z.natAbs ≤ 9223372036854775808 * 10 ^ 9 + 9223372036854775808 * 10 ^ 9 by rw [← hz]; omega) (by decide)
  have HM := made_at (show S' ≤ 9 by omega) (show z * ((10 ^ (9 - S') : Nat) : Int) = u by rw [← hz, ← hzx, ← hzy, ← hu]; exact nine_sub (by omega) (by omega) (by omega))
  obtain ⟨c, hc⟩ : ∃ c, mC u 9 = c := ⟨_, rfl⟩
  obtain ⟨t, ht⟩ : ∃ t, mS u 9 = t := ⟨_, rfl⟩
  obtain ⟨e, he⟩ : ∃ e, mE u 9 = e := ⟨_, rfl⟩
  rw [hc, ht, he] at HM
  have HFT := Lib.hid (fun w => dfit_any b h l S' z w (hi_of hzb eh) (lo_of el) (by omega) (of_abs eb eh el))
  rw [HM.1, HM.2.1, HM.2.2] at HFT
  rw [hc, ht, he]
  have HX := Lib.hid (fun w => dis_yes C (S : Int) w (by omega) (by omega))
  have HY := Lib.hid (fun w => dis_yes C' (S' : Int) w (by omega) (by omega))
  have HSU := Lib.hid (fun w => dsums_le C C' S S' w hle hS hS')
  have HTL := Lib.hid (fun gx gs gy w FX FS FY => dtell_sub b h l C C' S S' S' gx gs gy zx zy z w hC1 hC2 hC1' hC2' (by omega) (by omega) (by omega) hzx hzy hz eb eh el FX FS FY)
  clear HM hzx hzy hz hxa hya hzb eb eh el hc ht he hu
  have S0 := (((Mem.start w).push #[.int .i64 C, .int .i64 (S : Int)] 59).push #[.int .i64 C', .int .i64 (S' : Int)] 59).push #[.int .i64 0, .int .i64 0] 59
  simp only [size_alloc] at S0
  go_enter Try.func35, Try.ntmps35
  go_wp2_with fail
  refine (HX.out _).mono ?_
  rintro e w1 ⟨rfl, hb⟩
  have S1 := S0.keep hb
  clear S0 hb
  have x1_0 := S1.c 1 0 rfl rfl
  have x1_1 := S1.c 1 1 rfl rfl
  go_wp2_with fail
  refine (HY.out _).mono ?_
  rintro e w2 ⟨rfl, hb⟩
  have S2 := S1.keep hb
  clear x1_0 x1_1 S1 hb
  have x0_0 := S2.c 0 0 rfl rfl
  have x0_1 := S2.c 0 1 rfl rfl
  have x1_0 := S2.c 1 0 rfl rfl
  have x1_1 := S2.c 1 1 rfl rfl
  go_wp2_with fail
  refine (HSU.out _).mono ?_
  rintro e w3 ⟨gx, gs, gy, rfl, FX, FS, FY, hb⟩
  have S3 := S2.keep hb
  clear x0_0 x0_1 x1_0 x1_1 S2 hb
  go_wp2_with fail
  refine (HTL.out _ _ _ _ FX FS FY).mono ?_
  rintro e w4 ⟨rfl, hb⟩
  have S4 := S3.keep hb
  clear S3 hb
  clear FX FS FY
  go_wp2_with fail
  refine (HFT.out _).mono ?_
  rintro e w5 ⟨rfl, hb⟩
  have S5 := S4.keep hb
  clear S4 hb
  have za := S5.c 2 0 rfl rfl; have zb := S5.c 2 1 rfl rfl; have zc := S5.f 2 0 rfl; have zd := S5.f 2 1 rfl
  have HF := Lib.hid (S5.put20 2 rfl (.int .i64 c) (.int .i64 (t : Int)))
  clear S5
  go_wp2_with fail
  exact bodyPost_ret (v := .tuple #[.agg #[.int .i64 c, .int .i64 (t : Int)], .int .i64 e]) (by simp [results, Try.results35, go_sem, za, zb]) rfl ⟨rfl, HF.out.bl⟩
set_option maxHeartbeats 2000000 in
theorem dsub_gt (C C' : Int) (S S' : Nat) (u : Int) (w : World) (hC1 : -9223372036854775808 ≤ C) (hC2 : C ≤ 9223372036854775807) (hS : S ≤ 9) (hC1' : -9223372036854775808 ≤ C') (hC2' : C' ≤ 9223372036854775807) (hS' : S' ≤ 9) (hle : S' < S) (hu : nine C S - nine C' S' = u) :
    Calls Try.prog 35 #[.agg #[.int .i64 C, .int .i64 (S : Int)], .agg #[.int .i64 C', .int .i64 (S' : Int)]] w fun e w' => e = .returned (.tuple #[.agg #[.int .i64 (mC u 9), .int .i64 (mS u 9 : Int)], .int .i64 (mE u 9)]) ∧ Below w.heap.size w w' := by
  obtain ⟨zx, hzx⟩ : ∃ z, C * ((10 ^ (S - S) : Nat) : Int) = z := ⟨_, rfl⟩
  obtain ⟨zy, hzy⟩ : ∃ z, C' * ((10 ^ (S - S') : Nat) : Int) = z := ⟨_, rfl⟩
  obtain ⟨z, hz⟩ : ∃ z, zx - zy = z := ⟨_, rfl⟩
  obtain ⟨b, eb⟩ : ∃ x, negB z = x := ⟨_, rfl⟩
  obtain ⟨h, eh⟩ : ∃ x, hiW (z).natAbs = x := ⟨_, rfl⟩
  obtain ⟨l, el⟩ : ∃ x, loW (z).natAbs = x := ⟨_, rfl⟩
  have hxa : zx.natAbs ≤ 9223372036854775808 * 10 ^ 9 := by rw [← hzx]; exact scale_le hC1 hC2 (by omega)
  have hya : zy.natAbs ≤ 9223372036854775808 * 10 ^ 9 := by rw [← hzy]; exact scale_le hC1' hC2' (by omega)
  have hzb : z.natAbs < B128 := Nat.lt_of_le_of_lt (show z.natAbs ≤ 9223372036854775808 * 10 ^ 9 + 9223372036854775808 * 10 ^ 9 by rw [← hz]; omega) (by decide)
  have HM := made_at (show S ≤ 9 by omega) (show z * ((10 ^ (9 - S) : Nat) : Int) = u by rw [← hz, ← hzx, ← hzy, ← hu]; exact nine_sub (by omega) (by omega) (by omega))
  obtain ⟨c, hc⟩ : ∃ c, mC u 9 = c := ⟨_, rfl⟩
  obtain ⟨t, ht⟩ : ∃ t, mS u 9 = t := ⟨_, rfl⟩
  obtain ⟨e, he⟩ : ∃ e, mE u 9 = e := ⟨_, rfl⟩
  rw [hc, ht, he] at HM
  have HFT := Lib.hid (fun w => dfit_any b h l S z w (hi_of hzb eh) (lo_of el) (by omega) (of_abs eb eh el))
  rw [HM.1, HM.2.1, HM.2.2] at HFT
  rw [hc, ht, he]
  have HX := Lib.hid (fun w => dis_yes C (S : Int) w (by omega) (by omega))
  have HY := Lib.hid (fun w => dis_yes C' (S' : Int) w (by omega) (by omega))
  have HSU := Lib.hid (fun w => dsums_gt C C' S S' w hle hS hS')
  have HTL := Lib.hid (fun gx gs gy w FX FS FY => dtell_sub b h l C C' S S' S gx gs gy zx zy z w hC1 hC2 hC1' hC2' (by omega) (by omega) (by omega) hzx hzy hz eb eh el FX FS FY)
  clear HM hzx hzy hz hxa hya hzb eb eh el hc ht he hu
  have S0 := (((Mem.start w).push #[.int .i64 C, .int .i64 (S : Int)] 59).push #[.int .i64 C', .int .i64 (S' : Int)] 59).push #[.int .i64 0, .int .i64 0] 59
  simp only [size_alloc] at S0
  go_enter Try.func35, Try.ntmps35
  go_wp2_with fail
  refine (HX.out _).mono ?_
  rintro e w1 ⟨rfl, hb⟩
  have S1 := S0.keep hb
  clear S0 hb
  have x1_0 := S1.c 1 0 rfl rfl
  have x1_1 := S1.c 1 1 rfl rfl
  go_wp2_with fail
  refine (HY.out _).mono ?_
  rintro e w2 ⟨rfl, hb⟩
  have S2 := S1.keep hb
  clear x1_0 x1_1 S1 hb
  have x0_0 := S2.c 0 0 rfl rfl
  have x0_1 := S2.c 0 1 rfl rfl
  have x1_0 := S2.c 1 0 rfl rfl
  have x1_1 := S2.c 1 1 rfl rfl
  go_wp2_with fail
  refine (HSU.out _).mono ?_
  rintro e w3 ⟨gx, gs, gy, rfl, FX, FS, FY, hb⟩
  have S3 := S2.keep hb
  clear x0_0 x0_1 x1_0 x1_1 S2 hb
  go_wp2_with fail
  refine (HTL.out _ _ _ _ FX FS FY).mono ?_
  rintro e w4 ⟨rfl, hb⟩
  have S4 := S3.keep hb
  clear S3 hb
  clear FX FS FY
  go_wp2_with fail
  refine (HFT.out _).mono ?_
  rintro e w5 ⟨rfl, hb⟩
  have S5 := S4.keep hb
  clear S4 hb
  have za := S5.c 2 0 rfl rfl; have zb := S5.c 2 1 rfl rfl; have zc := S5.f 2 0 rfl; have zd := S5.f 2 1 rfl
  have HF := Lib.hid (S5.put20 2 rfl (.int .i64 c) (.int .i64 (t : Int)))
  clear S5
  go_wp2_with fail
  exact bodyPost_ret (v := .tuple #[.agg #[.int .i64 c, .int .i64 (t : Int)], .int .i64 e]) (by simp [results, Try.results35, go_sem, za, zb]) rfl ⟨rfl, HF.out.bl⟩
theorem dsub_any (C C' : Int) (S S' : Nat) (u : Int) (w : World) (hC1 : -9223372036854775808 ≤ C) (hC2 : C ≤ 9223372036854775807) (hS : S ≤ 9) (hC1' : -9223372036854775808 ≤ C') (hC2' : C' ≤ 9223372036854775807) (hS' : S' ≤ 9) (hu : nine C S - nine C' S' = u) :
    Calls Try.prog 35 #[.agg #[.int .i64 C, .int .i64 (S : Int)], .agg #[.int .i64 C', .int .i64 (S' : Int)]] w fun e w' => e = .returned (.tuple #[.agg #[.int .i64 (mC u 9), .int .i64 (mS u 9 : Int)], .int .i64 (mE u 9)]) ∧ Below w.heap.size w w' := by
  rcases Nat.lt_or_ge S' S with h | h
  · exact dsub_gt C C' S S' u w hC1 hC2 hS hC1' hC2' hS' h hu
  · exact dsub_le C C' S S' u w hC1 hC2 hS hC1' hC2' hS' h hu
end Go.Proofs.Ytgkogjlcecbfjaa

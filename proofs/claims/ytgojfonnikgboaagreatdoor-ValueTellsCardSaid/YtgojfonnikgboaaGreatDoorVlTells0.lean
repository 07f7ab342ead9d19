/- The law ValueTells, of a decimal that is none. -/
import Derived.Test.YtgojfonnikgboaaGreatDoorVlLaws
namespace Go.Proofs.YtgojfonnikgboaaGreatDoor
set_option maxRecDepth 8000
open Go.RowKit Go.PlainAid Corr
set_option linter.unusedVariables false
set_option linter.unusedSimpArgs false
set_option maxHeartbeats 4000000 in
theorem vtells_1011 {G : World → Prop} (Kv : VlK G) (K C U E C' n : Int) (X : Int) (w : World) (g : G w) (c1 : -9223372036854775808 ≤ C) (c2 : C ≤ 9223372036854775807) (c1' : -9223372036854775808 ≤ C') (c2' : C' ≤ 9223372036854775807) (hS : X < 0 ∨ 9 < X) (hv : mayV K C U E = true) (hn : mayV 4 0 0 n = true) : Calls Tryz.prog 3 #[vlV K C U E, .agg #[.int .i64 C', .int .i64 X], .bool true, .int .i64 n] w fun e w' => e = .returned (.bool true) ∧ Below w.heap.size w w' := by
  have HK := Lib.hid Kv
  have HG := Lib.hid g
  have HT := Lib.hid (fun w g => Kv.text K C U E w g c1 c2)
  have HM := Lib.hid (fun w g => Kv.may K C U E w g c1 c2)
  have HR := Lib.hid (fun w => vtext_any K C U E w c1 c2)
  have HN := Lib.hid (fun w => vmay_any K C U E w c1 c2)
  have HB := Lib.hid (fun w g => Kv.bad n w g)
  have HW := Lib.hid (fun w => vmay_any 4 0 0 n w (by decide) (by decide))
  have HI := Lib.hid (fun w g => Kv.truth true w g)
  have HJ := Lib.hid (fun w => vmay_any 2 0 0 0 w (by decide) (by decide))
  rw [show mayV 2 0 0 0 = true by decide] at HJ
  rw [hv] at HM HN
  rw [hn] at HB HW
  have HX := Lib.hid (fun w g => Kv.none C' X w g c1' c2' hS)
  have HY := Lib.hid (fun w => nis_no C' X w hS)
  obtain ⟨s, hs⟩ : ∃ s, (⟨(textV K C U E).toArray⟩ : ByteArray) = s := ⟨_, rfl⟩
  rw [hs] at HT HR
  have ls : s.data.toList = textV K C U E := by rw [← hs]
  have hx := val_read hv c1 c2
  have HP := Lib.hid (fun w g => Kv.parse s w g (by rw [← size_len, ls]; omega))
  rw [ls, hx.1] at HP
  have es : (s.toList == []) = false := by rw [Lib.toList_data, ls]; exact beq_eq_false_iff_ne.2 hx.2.2
  clear hx
  have qs : (s.toList != s.toList) = false := by simp
  clear hs ls hv hn hS c1 c2 c1' c2' Kv g
  have S0 := ((Mem.start w).push #[.int .u8 K, .int .i64 C, .int .i64 U, .int .i64 E] 26).push #[.int .i64 C', .int .i64 X] 23
  simp only [size_alloc] at S0
  go_enter Tryz.func3, Tryz.ntmps3
  have x0_0 := S0.c 0 0 rfl rfl
  have x0_1 := S0.c 0 1 rfl rfl
  have x0_2 := S0.c 0 2 rfl rfl
  have x0_3 := S0.c 0 3 rfl rfl
  have GG := Lib.hid (HK.out.keep _ _ HG.out S0.bl)
  go_wp2_with fail
  refine (HT.out _ GG.out).mono ?_
  rintro e w1 ⟨rfl, b1⟩
  clear x0_0 x0_1 x0_2 x0_3 GG
  have S1 := S0.keep b1
  clear b1 S0
  go_upto_region 2 with fail
  refine wp_region_rel 11 (MemAt w w1.heap.size [(w.heap.size, #[.int .u8 K, .int .i64 C, .int .i64 U, .int .i64 E]), (w.heap.size + 1, #[.int .i64 C', .int .i64 X])] [])
    (fun i => List.getD [VE (.agg #[.int .u8 K, .int .i64 C, .int .i64 U, .int .i64 E]), VE (.bool true), VE (.agg #[.int .u8 K, .int .i64 C, .int .i64 U, .int .i64 E]), VE (.bool true), VE (.bool false), VE (.bool false), VE (.string s), VE (.agg #[.int .u8 K, .int .i64 C, .int .i64 U, .int .i64 E]), VE (.string s), VE (.bool false), VE (.bool false)] i (fun _ _ => False)) [] [4, 5, 6, 9, 10] (by kernel_rfl) (by kernel_rfl) S1.at (fun _ _ h hb => h.grow hb)
    (stays_all (stays_cons (stays_VE _) (stays_cons (stays_VE _) (stays_cons (stays_VE _) (stays_cons (stays_VE _) (stays_cons (stays_VE _) (stays_cons (stays_VE _) (stays_cons (stays_VE _) (stays_cons (stays_VE _) (stays_cons (stays_VE _) (stays_cons (stays_VE _) (stays_cons (stays_VE _) stays_nil)))))))))))) ⟨?_, ?_, ?_, ?_, ?_, ?_, ?_, ?_, ?_, ?_, ?_, trivial⟩ ?_
  · intro ev wv hE hw hd
    refine ifw rfl (ifn rfl ?_)
    have v4 : ev (.tmp 4) = .pointer (some ⟨w.heap.size, 0, none⟩) := hE.tmp 4 rfl
    have kx := hw.m.c 0 0 rfl rfl
    have ky := hw.m.c 0 1 rfl rfl
    have kz := hw.m.c 0 2 rfl rfl
    have ku := hw.m.c 0 3 rfl rfl
    refine rel_val (u := .agg #[.int .u8 K, .int .i64 C, .int .i64 U, .int .i64 E]) (w' := wv) ?_ (Below.refl _ _) ⟨rfl, fun h => by cases h⟩
    have e1 := hE.const; clear hE hd hw
    go_simp
  · intro ev wv hE hw hd
    refine ifw rfl (ifn rfl ?_)
    have v22 : ev (.tmp 22) = .agg #[.int .u8 K, .int .i64 C, .int .i64 U, .int .i64 E] := hd 0 (by decide)
    refine rel_call (f := 6) (args := #[vlV K C U E]) ?_ (HM.out _ (HK.out.keep _ _ HG.out hw.m.bl)) ?_
    · have e0 := hE.func; have e1 := hE.const; clear hE hd hw
      go_simp
    · rintro e w' ⟨rfl, hb⟩
      exact ⟨_, rfl, hb, rfl, fun h => by cases h⟩
  · intro ev wv hE hw hd
    refine ifw rfl (ifn rfl ?_)
    have v4 : ev (.tmp 4) = .pointer (some ⟨w.heap.size, 0, none⟩) := hE.tmp 4 rfl
    have kx := hw.m.c 0 0 rfl rfl
    have ky := hw.m.c 0 1 rfl rfl
    have kz := hw.m.c 0 2 rfl rfl
    have ku := hw.m.c 0 3 rfl rfl
    refine rel_val (u := .agg #[.int .u8 K, .int .i64 C, .int .i64 U, .int .i64 E]) (w' := wv) ?_ (Below.refl _ _) ⟨rfl, fun h => by cases h⟩
    have e1 := hE.const; clear hE hd hw
    go_simp
  · intro ev wv hE hw hd
    refine ifw rfl (ifn rfl ?_)
    have v24 : ev (.tmp 24) = .agg #[.int .u8 K, .int .i64 C, .int .i64 U, .int .i64 E] := hd 2 (by decide)
    refine rel_call (f := 7) (args := #[vlV K C U E]) ?_ (HN.out _) ?_
    · have e0 := hE.func; have e1 := hE.const; clear hE hd hw
      go_simp
    · rintro e w' ⟨rfl, hb⟩
      exact ⟨_, rfl, hb, rfl, fun h => by cases h⟩
  · intro ev wv hE hw hd
    refine ifw rfl (ifw rfl ?_)
    have v23 : ev (.tmp 23) = .bool true := hd 1 (by decide)
    have v25 : ev (.tmp 25) = .bool true := hd 3 (by decide)
    refine ⟨.bool false, fun w => ?_, rfl⟩
    have e1 := hE.const; have e2 := hE.func; clear hE hd hw
    go_simp
  · intro ev wv hE hw hd
    refine ifw rfl (ifw rfl ?_)
    have v26 : ev (.tmp 26) = .bool false := hd 4 (by decide)
    refine ⟨.bool false, fun w => ?_, rfl⟩
    have e1 := hE.const; have e2 := hE.func; clear hE hd hw
    go_simp
  · intro ev wv hE hw hd
    have vg : ev (.tmp 27) = .bool false := hd 5 (by decide)
    refine ifw (by show (yv (ev (.tmp 27)) == some false) = true; rw [vg]; rfl) (ifw rfl ?_)
    clear vg
    have v9 : ev (.tmp 9) = .string s := hE.tmp 9 rfl
    refine ⟨.string s, fun w => ?_, rfl⟩
    have e1 := hE.const; have e2 := hE.func; clear hE hd hw
    go_simp
  · intro ev wv hE hw hd
    have vg : ev (.tmp 27) = .bool false := hd 5 (by decide)
    refine ifw (by show (yv (ev (.tmp 27)) == some false) = true; rw [vg]; rfl) (ifn rfl ?_)
    clear vg
    have v4 : ev (.tmp 4) = .pointer (some ⟨w.heap.size, 0, none⟩) := hE.tmp 4 rfl
    have kx := hw.m.c 0 0 rfl rfl
    have ky := hw.m.c 0 1 rfl rfl
    have kz := hw.m.c 0 2 rfl rfl
    have ku := hw.m.c 0 3 rfl rfl
    refine rel_val (u := .agg #[.int .u8 K, .int .i64 C, .int .i64 U, .int .i64 E]) (w' := wv) ?_ (Below.refl _ _) ⟨rfl, fun h => by cases h⟩
    have e1 := hE.const; clear hE hd hw
    go_simp
  · intro ev wv hE hw hd
    have vg : ev (.tmp 27) = .bool false := hd 5 (by decide)
    refine ifw (by show (yv (ev (.tmp 27)) == some false) = true; rw [vg]; rfl) (ifn rfl ?_)
    clear vg
    have v29 : ev (.tmp 29) = .agg #[.int .u8 K, .int .i64 C, .int .i64 U, .int .i64 E] := hd 7 (by decide)
    refine rel_call (f := 8) (args := #[vlV K C U E]) ?_ (HR.out _) ?_
    · have e0 := hE.func; have e1 := hE.const; clear hE hd hw
      go_simp
    · rintro e w' ⟨rfl, hb⟩
      exact ⟨_, rfl, hb, rfl, fun h => by cases h⟩
  · intro ev wv hE hw hd
    have vg : ev (.tmp 27) = .bool false := hd 5 (by decide)
    refine ifw (by show (yv (ev (.tmp 27)) == some false) = true; rw [vg]; rfl) (ifw rfl ?_)
    clear vg
    have v28 : ev (.tmp 28) = .string s := hd 6 (by decide)
    have v30 : ev (.tmp 30) = .string s := hd 8 (by decide)
    refine ⟨.bool false, fun w => ?_, rfl⟩
    have e1 := hE.const; have e2 := hE.func; clear hE hd hw
    go_simp
  · intro ev wv hE hw hd
    refine ifw rfl (ifw rfl ?_)
    have v27 : ev (.tmp 27) = .bool false := hd 5 (by decide)
    have v31 : ev (.tmp 31) = .bool false := hd 9 (by decide)
    refine ⟨.bool false, fun w => ?_, rfl⟩
    have e1 := hE.const; have e2 := hE.func; clear hE hd hw
    go_simp
  · intro wz hw
    intro v0 h0 _ v1 h1 _ v2 h2 _ v3 h3 _ v4 h4 _ v5 h5 _ v6 h6 _ v7 h7 _ v8 h8 _ v9 h9 _ v10 h10 _
    simp only [Act.put, List.setIfInBounds_toArray, List.set_cons_zero, List.set_cons_succ, List.drop_succ_cons, List.drop_zero]
    obtain rfl : v0 = _ := h0
    obtain rfl : v1 = _ := h1
    obtain rfl : v2 = _ := h2
    obtain rfl : v3 = _ := h3
    obtain rfl : v4 = _ := h4
    obtain rfl : v5 = _ := h5
    obtain rfl : v6 = _ := h6
    obtain rfl : v7 = _ := h7
    obtain rfl : v8 = _ := h8
    obtain rfl : v9 = _ := h9
    obtain rfl : v10 = _ := h10
    change wpList Tryz.prog _ _ _ _ wz
    have S2 := hw.m
    clear hw S1
    go_wp2_with fail
    refine calm_normal ?_
    have x0_0 := S2.c 0 0 rfl rfl
    have x0_1 := S2.c 0 1 rfl rfl
    have x0_2 := S2.c 0 2 rfl rfl
    have x0_3 := S2.c 0 3 rfl rfl
    have GG := Lib.hid (HK.out.keep _ _ HG.out S2.bl)
    go_wp2_with fail
    refine (HP.out _ GG.out).mono ?_
    rintro e w3 ⟨rfl, b3⟩
    unfold readR
    clear x0_0 x0_1 x0_2 x0_3 GG
    have S3 := (S2.keep b3).push #[.int .u8 K, .int .i64 C, .int .i64 U, .int .i64 E] 26
    clear b3 S2
    have x0_0 := S3.c 0 0 rfl rfl
    have x0_1 := S3.c 0 1 rfl rfl
    have x0_2 := S3.c 0 2 rfl rfl
    have x0_3 := S3.c 0 3 rfl rfl
    have x1_0 := S3.c 1 0 rfl rfl
    have x1_1 := S3.c 1 1 rfl rfl
    have x2_0 := S3.c 2 0 rfl rfl
    have x2_1 := S3.c 2 1 rfl rfl
    have x2_2 := S3.c 2 2 rfl rfl
    have x2_3 := S3.c 2 3 rfl rfl
    have GG := Lib.hid (HK.out.keep _ _ HG.out S3.bl)
    go_wp2_with fail
    refine (HX.out _ GG.out).mono ?_
    rintro e w4 ⟨rfl, b4⟩
    clear x0_0 x0_1 x0_2 x0_3 x1_0 x1_1 x2_0 x2_1 x2_2 x2_3 GG
    have S4 := (S3.keep b4).push #[.int .u8 0, .int .i64 0, .int .i64 0, .int .i64 0] 26
    clear b4 S3
    have x0_0 := S4.c 0 0 rfl rfl
    have x0_1 := S4.c 0 1 rfl rfl
    have x0_2 := S4.c 0 2 rfl rfl
    have x0_3 := S4.c 0 3 rfl rfl
    have x1_0 := S4.c 1 0 rfl rfl
    have x1_1 := S4.c 1 1 rfl rfl
    have GG := Lib.hid (HK.out.keep _ _ HG.out S4.bl)
    go_wp2_with fail
    refine (HB.out _ GG.out).mono ?_
    rintro e w5 ⟨rfl, b5⟩
    clear x0_0 x0_1 x0_2 x0_3 x1_0 x1_1 GG
    have S5 := (S4.keep b5).push #[.int .u8 4, .int .i64 0, .int .i64 0, .int .i64 n] 26
    clear b5 S4
    have GG := Lib.hid (HK.out.keep _ _ HG.out S5.bl)
    go_wp2_with fail
    refine (HI.out _ GG.out).mono ?_
    rintro e w6 ⟨rfl, b6⟩
    clear GG
    have S6 := (S5.keep b6).push #[.int .u8 2, .int .i64 0, .int .i64 0, .int .i64 0] 26
    clear b6 S5
    have x5_0 := S6.c 5 0 rfl rfl
    have x5_1 := S6.c 5 1 rfl rfl
    have x5_2 := S6.c 5 2 rfl rfl
    have x5_3 := S6.c 5 3 rfl rfl
    have GG := Lib.hid (HK.out.keep _ _ HG.out S6.bl)
    go_wp2_with fail
    refine (HJ.out _).mono ?_
    rintro e w7 ⟨rfl, b7⟩
    clear x5_0 x5_1 x5_2 x5_3 GG
    have S7 := S6.keep b7
    clear b7 S6
    have T7 := S7.push #[.int .u8 4, .int .i64 0, .int .i64 0, .int .i64 n] 26
    clear S7
    have S7 := T7
    clear T7
    have x6_0 := S7.c 6 0 rfl rfl
    have x6_1 := S7.c 6 1 rfl rfl
    have x6_2 := S7.c 6 2 rfl rfl
    have x6_3 := S7.c 6 3 rfl rfl
    have GG := Lib.hid (HK.out.keep _ _ HG.out S7.bl)
    go_wp2_with fail
    refine (HW.out _).mono ?_
    rintro e w8 ⟨rfl, b8⟩
    clear x6_0 x6_1 x6_2 x6_3 GG
    have S8 := S7.keep b8
    clear b8 S7
    have x4_0 := S8.c 4 0 rfl rfl
    have x4_1 := S8.c 4 1 rfl rfl
    have x4_2 := S8.c 4 2 rfl rfl
    have x4_3 := S8.c 4 3 rfl rfl
    have x6_0 := S8.c 6 0 rfl rfl
    have x6_1 := S8.c 6 1 rfl rfl
    have x6_2 := S8.c 6 2 rfl rfl
    have x6_3 := S8.c 6 3 rfl rfl
    have x1_0 := S8.c 1 0 rfl rfl
    have x1_1 := S8.c 1 1 rfl rfl
    have x3_0 := S8.c 3 0 rfl rfl
    have x3_1 := S8.c 3 1 rfl rfl
    have x3_2 := S8.c 3 2 rfl rfl
    have x3_3 := S8.c 3 3 rfl rfl
    have GG := Lib.hid (HK.out.keep _ _ HG.out S8.bl)
    go_wp2_with fail
    refine (HY.out _).mono ?_
    rintro e w9 ⟨rfl, b9⟩
    clear x4_0 x4_1 x4_2 x4_3 x6_0 x6_1 x6_2 x6_3 x1_0 x1_1 x3_0 x3_1 x3_2 x3_3 GG
    have S9 := S8.keep b9
    clear b9 S8
    have x3_0 := S9.c 3 0 rfl rfl
    have x3_1 := S9.c 3 1 rfl rfl
    have x3_2 := S9.c 3 2 rfl rfl
    have x3_3 := S9.c 3 3 rfl rfl
    have GG := Lib.hid (HK.out.keep _ _ HG.out S9.bl)
    have HBL := Lib.hid S9.bl
    go_wp2_with fail
    refine (vknown_any HK.out _ GG.out).mono ?_
    rintro e w9 ⟨rfl, hb⟩
    have HB9 := Lib.hid (HBL.out.trans (hb.mono HBL.out.size))
    clear hb
    go_wp2_with fail
    go_ret
    exact ⟨rfl, HB9.out⟩
set_option maxHeartbeats 4000000 in
theorem vtells_1010 {G : World → Prop} (Kv : VlK G) (K C U E C' n : Int) (X : Int) (w : World) (g : G w) (c1 : -9223372036854775808 ≤ C) (c2 : C ≤ 9223372036854775807) (c1' : -9223372036854775808 ≤ C') (c2' : C' ≤ 9223372036854775807) (hS : X < 0 ∨ 9 < X) (hv : mayV K C U E = true) (hn : mayV 4 0 0 n = false) : Calls Tryz.prog 3 #[vlV K C U E, .agg #[.int .i64 C', .int .i64 X], .bool true, .int .i64 n] w fun e w' => e = .returned (.bool true) ∧ Below w.heap.size w w' := by
  have HK := Lib.hid Kv
  have HG := Lib.hid g
  have HT := Lib.hid (fun w g => Kv.text K C U E w g c1 c2)
  have HM := Lib.hid (fun w g => Kv.may K C U E w g c1 c2)
  have HR := Lib.hid (fun w => vtext_any K C U E w c1 c2)
  have HN := Lib.hid (fun w => vmay_any K C U E w c1 c2)
  have HB := Lib.hid (fun w g => Kv.bad n w g)
  have HW := Lib.hid (fun w => vmay_any 4 0 0 n w (by decide) (by decide))
  have HI := Lib.hid (fun w g => Kv.truth true w g)
  have HJ := Lib.hid (fun w => vmay_any 2 0 0 0 w (by decide) (by decide))
  rw [show mayV 2 0 0 0 = true by decide] at HJ
  rw [hv] at HM HN
  rw [hn] at HB HW
  have HX := Lib.hid (fun w g => Kv.none C' X w g c1' c2' hS)
  have HY := Lib.hid (fun w => nis_no C' X w hS)
  obtain ⟨s, hs⟩ : ∃ s, (⟨(textV K C U E).toArray⟩ : ByteArray) = s := ⟨_, rfl⟩
  rw [hs] at HT HR
  have ls : s.data.toList = textV K C U E := by rw [← hs]
  have hx := val_read hv c1 c2
  have HP := Lib.hid (fun w g => Kv.parse s w g (by rw [← size_len, ls]; omega))
  rw [ls, hx.1] at HP
  have es : (s.toList == []) = false := by rw [Lib.toList_data, ls]; exact beq_eq_false_iff_ne.2 hx.2.2
  clear hx
  have qs : (s.toList != s.toList) = false := by simp
  clear hs ls hv hn hS c1 c2 c1' c2' Kv g
  have S0 := ((Mem.start w).push #[.int .u8 K, .int .i64 C, .int .i64 U, .int .i64 E] 26).push #[.int .i64 C', .int .i64 X] 23
  simp only [size_alloc] at S0
  go_enter Tryz.func3, Tryz.ntmps3
  have x0_0 := S0.c 0 0 rfl rfl
  have x0_1 := S0.c 0 1 rfl rfl
  have x0_2 := S0.c 0 2 rfl rfl
  have x0_3 := S0.c 0 3 rfl rfl
  have GG := Lib.hid (HK.out.keep _ _ HG.out S0.bl)
  go_wp2_with fail
  refine (HT.out _ GG.out).mono ?_
  rintro e w1 ⟨rfl, b1⟩
  clear x0_0 x0_1 x0_2 x0_3 GG
  have S1 := S0.keep b1
  clear b1 S0
  go_upto_region 2 with fail
  refine wp_region_rel 11 (MemAt w w1.heap.size [(w.heap.size, #[.int .u8 K, .int .i64 C, .int .i64 U, .int .i64 E]), (w.heap.size + 1, #[.int .i64 C', .int .i64 X])] [])
    (fun i => List.getD [VE (.agg #[.int .u8 K, .int .i64 C, .int .i64 U, .int .i64 E]), VE (.bool true), VE (.agg #[.int .u8 K, .int .i64 C, .int .i64 U, .int .i64 E]), VE (.bool true), VE (.bool false), VE (.bool false), VE (.string s), VE (.agg #[.int .u8 K, .int .i64 C, .int .i64 U, .int .i64 E]), VE (.string s), VE (.bool false), VE (.bool false)] i (fun _ _ => False)) [] [4, 5, 6, 9, 10] (by kernel_rfl) (by kernel_rfl) S1.at (fun _ _ h hb => h.grow hb)
    (stays_all (stays_cons (stays_VE _) (stays_cons (stays_VE _) (stays_cons (stays_VE _) (stays_cons (stays_VE _) (stays_cons (stays_VE _) (stays_cons (stays_VE _) (stays_cons (stays_VE _) (stays_cons (stays_VE _) (stays_cons (stays_VE _) (stays_cons (stays_VE _) (stays_cons (stays_VE _) stays_nil)))))))))))) ⟨?_, ?_, ?_, ?_, ?_, ?_, ?_, ?_, ?_, ?_, ?_, trivial⟩ ?_
  · intro ev wv hE hw hd
    refine ifw rfl (ifn rfl ?_)
    have v4 : ev (.tmp 4) = .pointer (some ⟨w.heap.size, 0, none⟩) := hE.tmp 4 rfl
    have kx := hw.m.c 0 0 rfl rfl
    have ky := hw.m.c 0 1 rfl rfl
    have kz := hw.m.c 0 2 rfl rfl
    have ku := hw.m.c 0 3 rfl rfl
    refine rel_val (u := .agg #[.int .u8 K, .int .i64 C, .int .i64 U, .int .i64 E]) (w' := wv) ?_ (Below.refl _ _) ⟨rfl, fun h => by cases h⟩
    have e1 := hE.const; clear hE hd hw
    go_simp
  · intro ev wv hE hw hd
    refine ifw rfl (ifn rfl ?_)
    have v22 : ev (.tmp 22) = .agg #[.int .u8 K, .int .i64 C, .int .i64 U, .int .i64 E] := hd 0 (by decide)
    refine rel_call (f := 6) (args := #[vlV K C U E]) ?_ (HM.out _ (HK.out.keep _ _ HG.out hw.m.bl)) ?_
    · have e0 := hE.func; have e1 := hE.const; clear hE hd hw
      go_simp
    · rintro e w' ⟨rfl, hb⟩
      exact ⟨_, rfl, hb, rfl, fun h => by cases h⟩
  · intro ev wv hE hw hd
    refine ifw rfl (ifn rfl ?_)
    have v4 : ev (.tmp 4) = .pointer (some ⟨w.heap.size, 0, none⟩) := hE.tmp 4 rfl
    have kx := hw.m.c 0 0 rfl rfl
    have ky := hw.m.c 0 1 rfl rfl
    have kz := hw.m.c 0 2 rfl rfl
    have ku := hw.m.c 0 3 rfl rfl
    refine rel_val (u := .agg #[.int .u8 K, .int .i64 C, .int .i64 U, .int .i64 E]) (w' := wv) ?_ (Below.refl _ _) ⟨rfl, fun h => by cases h⟩
    have e1 := hE.const; clear hE hd hw
    go_simp
  · intro ev wv hE hw hd
    refine ifw rfl (ifn rfl ?_)
    have v24 : ev (.tmp 24) = .agg #[.int .u8 K, .int .i64 C, .int .i64 U, .int .i64 E] := hd 2 (by decide)
    refine rel_call (f := 7) (args := #[vlV K C U E]) ?_ (HN.out _) ?_
    · have e0 := hE.func; have e1 := hE.const; clear hE hd hw
      go_simp
    · rintro e w' ⟨rfl, hb⟩
      exact ⟨_, rfl, hb, rfl, fun h => by cases h⟩
  · intro ev wv hE hw hd
    refine ifw rfl (ifw rfl ?_)
    have v23 : ev (.tmp 23) = .bool true := hd 1 (by decide)
    have v25 : ev (.tmp 25) = .bool true := hd 3 (by decide)
    refine ⟨.bool false, fun w => ?_, rfl⟩
    have e1 := hE.const; have e2 := hE.func; clear hE hd hw
    go_simp
  · intro ev wv hE hw hd
    refine ifw rfl (ifw rfl ?_)
    have v26 : ev (.tmp 26) = .bool false := hd 4 (by decide)
    refine ⟨.bool false, fun w => ?_, rfl⟩
    have e1 := hE.const; have e2 := hE.func; clear hE hd hw
    go_simp
  · intro ev wv hE hw hd
    have vg : ev (.tmp 27) = .bool false := hd 5 (by decide)
    refine ifw (by show (yv (ev (.tmp 27)) == some false) = true; rw [vg]; rfl) (ifw rfl ?_)
    clear vg
    have v9 : ev (.tmp 9) = .string s := hE.tmp 9 rfl
    refine ⟨.string s, fun w => ?_, rfl⟩
    have e1 := hE.const; have e2 := hE.func; clear hE hd hw
    go_simp
  · intro ev wv hE hw hd
    have vg : ev (.tmp 27) = .bool false := hd 5 (by decide)
    refine ifw (by show (yv (ev (.tmp 27)) == some false) = true; rw [vg]; rfl) (ifn rfl ?_)
    clear vg
    have v4 : ev (.tmp 4) = .pointer (some ⟨w.heap.size, 0, none⟩) := hE.tmp 4 rfl
    have kx := hw.m.c 0 0 rfl rfl
    have ky := hw.m.c 0 1 rfl rfl
    have kz := hw.m.c 0 2 rfl rfl
    have ku := hw.m.c 0 3 rfl rfl
    refine rel_val (u := .agg #[.int .u8 K, .int .i64 C, .int .i64 U, .int .i64 E]) (w' := wv) ?_ (Below.refl _ _) ⟨rfl, fun h => by cases h⟩
    have e1 := hE.const; clear hE hd hw
    go_simp
  · intro ev wv hE hw hd
    have vg : ev (.tmp 27) = .bool false := hd 5 (by decide)
    refine ifw (by show (yv (ev (.tmp 27)) == some false) = true; rw [vg]; rfl) (ifn rfl ?_)
    clear vg
    have v29 : ev (.tmp 29) = .agg #[.int .u8 K, .int .i64 C, .int .i64 U, .int .i64 E] := hd 7 (by decide)
    refine rel_call (f := 8) (args := #[vlV K C U E]) ?_ (HR.out _) ?_
    · have e0 := hE.func; have e1 := hE.const; clear hE hd hw
      go_simp
    · rintro e w' ⟨rfl, hb⟩
      exact ⟨_, rfl, hb, rfl, fun h => by cases h⟩
  · intro ev wv hE hw hd
    have vg : ev (.tmp 27) = .bool false := hd 5 (by decide)
    refine ifw (by show (yv (ev (.tmp 27)) == some false) = true; rw [vg]; rfl) (ifw rfl ?_)
    clear vg
    have v28 : ev (.tmp 28) = .string s := hd 6 (by decide)
    have v30 : ev (.tmp 30) = .string s := hd 8 (by decide)
    refine ⟨.bool false, fun w => ?_, rfl⟩
    have e1 := hE.const; have e2 := hE.func; clear hE hd hw
    go_simp
  · intro ev wv hE hw hd
    refine ifw rfl (ifw rfl ?_)
    have v27 : ev (.tmp 27) = .bool false := hd 5 (by decide)
    have v31 : ev (.tmp 31) = .bool false := hd 9 (by decide)
    refine ⟨.bool false, fun w => ?_, rfl⟩
    have e1 := hE.const; have e2 := hE.func; clear hE hd hw
    go_simp
  · intro wz hw
    intro v0 h0 _ v1 h1 _ v2 h2 _ v3 h3 _ v4 h4 _ v5 h5 _ v6 h6 _ v7 h7 _ v8 h8 _ v9 h9 _ v10 h10 _
    simp only [Act.put, List.setIfInBounds_toArray, List.set_cons_zero, List.set_cons_succ, List.drop_succ_cons, List.drop_zero]
    obtain rfl : v0 = _ := h0
    obtain rfl : v1 = _ := h1
    obtain rfl : v2 = _ := h2
    obtain rfl : v3 = _ := h3
    obtain rfl : v4 = _ := h4
    obtain rfl : v5 = _ := h5
    obtain rfl : v6 = _ := h6
    obtain rfl : v7 = _ := h7
    obtain rfl : v8 = _ := h8
    obtain rfl : v9 = _ := h9
    obtain rfl : v10 = _ := h10
    change wpList Tryz.prog _ _ _ _ wz
    have S2 := hw.m
    clear hw S1
    go_wp2_with fail
    refine calm_normal ?_
    have x0_0 := S2.c 0 0 rfl rfl
    have x0_1 := S2.c 0 1 rfl rfl
    have x0_2 := S2.c 0 2 rfl rfl
    have x0_3 := S2.c 0 3 rfl rfl
    have GG := Lib.hid (HK.out.keep _ _ HG.out S2.bl)
    go_wp2_with fail
    refine (HP.out _ GG.out).mono ?_
    rintro e w3 ⟨rfl, b3⟩
    unfold readR
    clear x0_0 x0_1 x0_2 x0_3 GG
    have S3 := (S2.keep b3).push #[.int .u8 K, .int .i64 C, .int .i64 U, .int .i64 E] 26
    clear b3 S2
    have x0_0 := S3.c 0 0 rfl rfl
    have x0_1 := S3.c 0 1 rfl rfl
    have x0_2 := S3.c 0 2 rfl rfl
    have x0_3 := S3.c 0 3 rfl rfl
    have x1_0 := S3.c 1 0 rfl rfl
    have x1_1 := S3.c 1 1 rfl rfl
    have x2_0 := S3.c 2 0 rfl rfl
    have x2_1 := S3.c 2 1 rfl rfl
    have x2_2 := S3.c 2 2 rfl rfl
    have x2_3 := S3.c 2 3 rfl rfl
    have GG := Lib.hid (HK.out.keep _ _ HG.out S3.bl)
    go_wp2_with fail
    refine (HX.out _ GG.out).mono ?_
    rintro e w4 ⟨rfl, b4⟩
    clear x0_0 x0_1 x0_2 x0_3 x1_0 x1_1 x2_0 x2_1 x2_2 x2_3 GG
    have S4 := (S3.keep b4).push #[.int .u8 0, .int .i64 0, .int .i64 0, .int .i64 0] 26
    clear b4 S3
    have x0_0 := S4.c 0 0 rfl rfl
    have x0_1 := S4.c 0 1 rfl rfl
    have x0_2 := S4.c 0 2 rfl rfl
    have x0_3 := S4.c 0 3 rfl rfl
    have x1_0 := S4.c 1 0 rfl rfl
    have x1_1 := S4.c 1 1 rfl rfl
    have GG := Lib.hid (HK.out.keep _ _ HG.out S4.bl)
    go_wp2_with fail
    refine (HB.out _ GG.out).mono ?_
    rintro e w5 ⟨rfl, b5⟩
    clear x0_0 x0_1 x0_2 x0_3 x1_0 x1_1 GG
    have S5 := (S4.keep b5).push #[.int .u8 0, .int .i64 0, .int .i64 0, .int .i64 0] 26
    clear b5 S4
    have GG := Lib.hid (HK.out.keep _ _ HG.out S5.bl)
    go_wp2_with fail
    refine (HI.out _ GG.out).mono ?_
    rintro e w6 ⟨rfl, b6⟩
    clear GG
    have S6 := (S5.keep b6).push #[.int .u8 2, .int .i64 0, .int .i64 0, .int .i64 0] 26
    clear b6 S5
    have x5_0 := S6.c 5 0 rfl rfl
    have x5_1 := S6.c 5 1 rfl rfl
    have x5_2 := S6.c 5 2 rfl rfl
    have x5_3 := S6.c 5 3 rfl rfl
    have GG := Lib.hid (HK.out.keep _ _ HG.out S6.bl)
    go_wp2_with fail
    refine (HJ.out _).mono ?_
    rintro e w7 ⟨rfl, b7⟩
    clear x5_0 x5_1 x5_2 x5_3 GG
    have S7 := S6.keep b7
    clear b7 S6
    have T7 := S7.push #[.int .u8 4, .int .i64 0, .int .i64 0, .int .i64 n] 26
    clear S7
    have S7 := T7
    clear T7
    have x6_0 := S7.c 6 0 rfl rfl
    have x6_1 := S7.c 6 1 rfl rfl
    have x6_2 := S7.c 6 2 rfl rfl
    have x6_3 := S7.c 6 3 rfl rfl
    have GG := Lib.hid (HK.out.keep _ _ HG.out S7.bl)
    go_wp2_with fail
    refine (HW.out _).mono ?_
    rintro e w8 ⟨rfl, b8⟩
    clear x6_0 x6_1 x6_2 x6_3 GG
    have S8 := S7.keep b8
    clear b8 S7
    have x4_0 := S8.c 4 0 rfl rfl
    have x4_1 := S8.c 4 1 rfl rfl
    have x4_2 := S8.c 4 2 rfl rfl
    have x4_3 := S8.c 4 3 rfl rfl
    have x6_0 := S8.c 6 0 rfl rfl
    have x6_1 := S8.c 6 1 rfl rfl
    have x6_2 := S8.c 6 2 rfl rfl
    have x6_3 := S8.c 6 3 rfl rfl
    have x1_0 := S8.c 1 0 rfl rfl
    have x1_1 := S8.c 1 1 rfl rfl
    have x3_0 := S8.c 3 0 rfl rfl
    have x3_1 := S8.c 3 1 rfl rfl
    have x3_2 := S8.c 3 2 rfl rfl
    have x3_3 := S8.c 3 3 rfl rfl
    have GG := Lib.hid (HK.out.keep _ _ HG.out S8.bl)
    go_wp2_with fail
    refine (HY.out _).mono ?_
    rintro e w9 ⟨rfl, b9⟩
    clear x4_0 x4_1 x4_2 x4_3 x6_0 x6_1 x6_2 x6_3 x1_0 x1_1 x3_0 x3_1 x3_2 x3_3 GG
    have S9 := S8.keep b9
    clear b9 S8
    have x3_0 := S9.c 3 0 rfl rfl
    have x3_1 := S9.c 3 1 rfl rfl
    have x3_2 := S9.c 3 2 rfl rfl
    have x3_3 := S9.c 3 3 rfl rfl
    have GG := Lib.hid (HK.out.keep _ _ HG.out S9.bl)
    have HBL := Lib.hid S9.bl
    go_wp2_with fail
    refine (vknown_any HK.out _ GG.out).mono ?_
    rintro e w9 ⟨rfl, hb⟩
    have HB9 := Lib.hid (HBL.out.trans (hb.mono HBL.out.size))
    clear hb
    go_wp2_with fail
    go_ret
    exact ⟨rfl, HB9.out⟩
set_option maxHeartbeats 4000000 in
theorem vtells_1001 {G : World → Prop} (Kv : VlK G) (K C U E C' n : Int) (X : Int) (w : World) (g : G w) (c1 : -9223372036854775808 ≤ C) (c2 : C ≤ 9223372036854775807) (c1' : -9223372036854775808 ≤ C') (c2' : C' ≤ 9223372036854775807) (hS : X < 0 ∨ 9 < X) (hv : mayV K C U E = true) (hn : mayV 4 0 0 n = true) : Calls Tryz.prog 3 #[vlV K C U E, .agg #[.int .i64 C', .int .i64 X], .bool false, .int .i64 n] w fun e w' => e = .returned (.bool true) ∧ Below w.heap.size w w' := by
  have HK := Lib.hid Kv
  have HG := Lib.hid g
  have HT := Lib.hid (fun w g => Kv.text K C U E w g c1 c2)
  have HM := Lib.hid (fun w g => Kv.may K C U E w g c1 c2)
  have HR := Lib.hid (fun w => vtext_any K C U E w c1 c2)
  have HN := Lib.hid (fun w => vmay_any K C U E w c1 c2)
  have HB := Lib.hid (fun w g => Kv.bad n w g)
  have HW := Lib.hid (fun w => vmay_any 4 0 0 n w (by decide) (by decide))
  have HI := Lib.hid (fun w g => Kv.truth false w g)
  have HJ := Lib.hid (fun w => vmay_any 3 0 0 0 w (by decide) (by decide))
  rw [show mayV 3 0 0 0 = true by decide] at HJ
  rw [hv] at HM HN
  rw [hn] at HB HW
  have HX := Lib.hid (fun w g => Kv.none C' X w g c1' c2' hS)
  have HY := Lib.hid (fun w => nis_no C' X w hS)
  obtain ⟨s, hs⟩ : ∃ s, (⟨(textV K C U E).toArray⟩ : ByteArray) = s := ⟨_, rfl⟩
  rw [hs] at HT HR
  have ls : s.data.toList = textV K C U E := by rw [← hs]
  have hx := val_read hv c1 c2
  have HP := Lib.hid (fun w g => Kv.parse s w g (by rw [← size_len, ls]; omega))
  rw [ls, hx.1] at HP
  have es : (s.toList == []) = false := by rw [Lib.toList_data, ls]; exact beq_eq_false_iff_ne.2 hx.2.2
  clear hx
  have qs : (s.toList != s.toList) = false := by simp
  clear hs ls hv hn hS c1 c2 c1' c2' Kv g
  have S0 := ((Mem.start w).push #[.int .u8 K, .int .i64 C, .int .i64 U, .int .i64 E] 26).push #[.int .i64 C', .int .i64 X] 23
  simp only [size_alloc] at S0
  go_enter Tryz.func3, Tryz.ntmps3
  have x0_0 := S0.c 0 0 rfl rfl
  have x0_1 := S0.c 0 1 rfl rfl
  have x0_2 := S0.c 0 2 rfl rfl
  have x0_3 := S0.c 0 3 rfl rfl
  have GG := Lib.hid (HK.out.keep _ _ HG.out S0.bl)
  go_wp2_with fail
  refine (HT.out _ GG.out).mono ?_
  rintro e w1 ⟨rfl, b1⟩
  clear x0_0 x0_1 x0_2 x0_3 GG
  have S1 := S0.keep b1
  clear b1 S0
  go_upto_region 2 with fail
  refine wp_region_rel 11 (MemAt w w1.heap.size [(w.heap.size, #[.int .u8 K, .int .i64 C, .int .i64 U, .int .i64 E]), (w.heap.size + 1, #[.int .i64 C', .int .i64 X])] [])
    (fun i => List.getD [VE (.agg #[.int .u8 K, .int .i64 C, .int .i64 U, .int .i64 E]), VE (.bool true), VE (.agg #[.int .u8 K, .int .i64 C, .int .i64 U, .int .i64 E]), VE (.bool true), VE (.bool false), VE (.bool false), VE (.string s), VE (.agg #[.int .u8 K, .int .i64 C, .int .i64 U, .int .i64 E]), VE (.string s), VE (.bool false), VE (.bool false)] i (fun _ _ => False)) [] [4, 5, 6, 9, 10] (by kernel_rfl) (by kernel_rfl) S1.at (fun _ _ h hb => h.grow hb)
    (stays_all (stays_cons (stays_VE _) (stays_cons (stays_VE _) (stays_cons (stays_VE _) (stays_cons (stays_VE _) (stays_cons (stays_VE _) (stays_cons (stays_VE _) (stays_cons (stays_VE _) (stays_cons (stays_VE _) (stays_cons (stays_VE _) (stays_cons (stays_VE _) (stays_cons (stays_VE _) stays_nil)))))))))))) ⟨?_, ?_, ?_, ?_, ?_, ?_, ?_, ?_, ?_, ?_, ?_, trivial⟩ ?_
  · intro ev wv hE hw hd
    refine ifw rfl (ifn rfl ?_)
    have v4 : ev (.tmp 4) = .pointer (some ⟨w.heap.size, 0, none⟩) := hE.tmp 4 rfl
    have kx := hw.m.c 0 0 rfl rfl
    have ky := hw.m.c 0 1 rfl rfl
    have kz := hw.m.c 0 2 rfl rfl
    have ku := hw.m.c 0 3 rfl rfl
    refine rel_val (u := .agg #[.int .u8 K, .int .i64 C, .int .i64 U, .int .i64 E]) (w' := wv) ?_ (Below.refl _ _) ⟨rfl, fun h => by cases h⟩
    have e1 := hE.const; clear hE hd hw
    go_simp
  · intro ev wv hE hw hd
    refine ifw rfl (ifn rfl ?_)
    have v22 : ev (.tmp 22) = .agg #[.int .u8 K, .int .i64 C, .int .i64 U, .int .i64 E] := hd 0 (by decide)
    refine rel_call (f := 6) (args := #[vlV K C U E]) ?_ (HM.out _ (HK.out.keep _ _ HG.out hw.m.bl)) ?_
    · have e0 := hE.func; have e1 := hE.const; clear hE hd hw
      go_simp
    · rintro e w' ⟨rfl, hb⟩
      exact ⟨_, rfl, hb, rfl, fun h => by cases h⟩
  · intro ev wv hE hw hd
    refine ifw rfl (ifn rfl ?_)
    have v4 : ev (.tmp 4) = .pointer (some ⟨w.heap.size, 0, none⟩) := hE.tmp 4 rfl
    have kx := hw.m.c 0 0 rfl rfl
    have ky := hw.m.c 0 1 rfl rfl
    have kz := hw.m.c 0 2 rfl rfl
    have ku := hw.m.c 0 3 rfl rfl
    refine rel_val (u := .agg #[.int .u8 K, .int .i64 C, .int .i64 U, .int .i64 E]) (w' := wv) ?_ (Below.refl _ _) ⟨rfl, fun h => by cases h⟩
    have e1 := hE.const; clear hE hd hw
    go_simp
  · intro ev wv hE hw hd
    refine ifw rfl (ifn rfl ?_)
    have v24 : ev (.tmp 24) = .agg #[.int .u8 K, .int .i64 C, .int .i64 U, .int .i64 E] := hd 2 (by decide)
    refine rel_call (f := 7) (args := #[vlV K C U E]) ?_ (HN.out _) ?_
    · have e0 := hE.func; have e1 := hE.const; clear hE hd hw
      go_simp
    · rintro e w' ⟨rfl, hb⟩
      exact ⟨_, rfl, hb, rfl, fun h => by cases h⟩
  · intro ev wv hE hw hd
    refine ifw rfl (ifw rfl ?_)
    have v23 : ev (.tmp 23) = .bool true := hd 1 (by decide)
    have v25 : ev (.tmp 25) = .bool true := hd 3 (by decide)
    refine ⟨.bool false, fun w => ?_, rfl⟩
    have e1 := hE.const; have e2 := hE.func; clear hE hd hw
    go_simp
  · intro ev wv hE hw hd
    refine ifw rfl (ifw rfl ?_)
    have v26 : ev (.tmp 26) = .bool false := hd 4 (by decide)
    refine ⟨.bool false, fun w => ?_, rfl⟩
    have e1 := hE.const; have e2 := hE.func; clear hE hd hw
    go_simp
  · intro ev wv hE hw hd
    have vg : ev (.tmp 27) = .bool false := hd 5 (by decide)
    refine ifw (by show (yv (ev (.tmp 27)) == some false) = true; rw [vg]; rfl) (ifw rfl ?_)
    clear vg
    have v9 : ev (.tmp 9) = .string s := hE.tmp 9 rfl
    refine ⟨.string s, fun w => ?_, rfl⟩
    have e1 := hE.const; have e2 := hE.func; clear hE hd hw
    go_simp
  · intro ev wv hE hw hd
    have vg : ev (.tmp 27) = .bool false := hd 5 (by decide)
    refine ifw (by show (yv (ev (.tmp 27)) == some false) = true; rw [vg]; rfl) (ifn rfl ?_)
    clear vg
    have v4 : ev (.tmp 4) = .pointer (some ⟨w.heap.size, 0, none⟩) := hE.tmp 4 rfl
    have kx := hw.m.c 0 0 rfl rfl
    have ky := hw.m.c 0 1 rfl rfl
    have kz := hw.m.c 0 2 rfl rfl
    have ku := hw.m.c 0 3 rfl rfl
    refine rel_val (u := .agg #[.int .u8 K, .int .i64 C, .int .i64 U, .int .i64 E]) (w' := wv) ?_ (Below.refl _ _) ⟨rfl, fun h => by cases h⟩
    have e1 := hE.const; clear hE hd hw
    go_simp
  · intro ev wv hE hw hd
    have vg : ev (.tmp 27) = .bool false := hd 5 (by decide)
    refine ifw (by show (yv (ev (.tmp 27)) == some false) = true; rw [vg]; rfl) (ifn rfl ?_)
    clear vg
    have v29 : ev (.tmp 29) = .agg #[.int .u8 K, .int .i64 C, .int .i64 U, .int .i64 E] := hd 7 (by decide)
    refine rel_call (f := 8) (args := #[vlV K C U E]) ?_ (HR.out _) ?_
    · have e0 := hE.func; have e1 := hE.const; clear hE hd hw
      go_simp
    · rintro e w' ⟨rfl, hb⟩
      exact ⟨_, rfl, hb, rfl, fun h => by cases h⟩
  · intro ev wv hE hw hd
    have vg : ev (.tmp 27) = .bool false := hd 5 (by decide)
    refine ifw (by show (yv (ev (.tmp 27)) == some false) = true; rw [vg]; rfl) (ifw rfl ?_)
    clear vg
    have v28 : ev (.tmp 28) = .string s := hd 6 (by decide)
    have v30 : ev (.tmp 30) = .string s := hd 8 (by decide)
    refine ⟨.bool false, fun w => ?_, rfl⟩
    have e1 := hE.const; have e2 := hE.func; clear hE hd hw
    go_simp
  · intro ev wv hE hw hd
    refine ifw rfl (ifw rfl ?_)
    have v27 : ev (.tmp 27) = .bool false := hd 5 (by decide)
    have v31 : ev (.tmp 31) = .bool false := hd 9 (by decide)
    refine ⟨.bool false, fun w => ?_, rfl⟩
    have e1 := hE.const; have e2 := hE.func; clear hE hd hw
    go_simp
  · intro wz hw
    intro v0 h0 _ v1 h1 _ v2 h2 _ v3 h3 _ v4 h4 _ v5 h5 _ v6 h6 _ v7 h7 _ v8 h8 _ v9 h9 _ v10 h10 _
    simp only [Act.put, List.setIfInBounds_toArray, List.set_cons_zero, List.set_cons_succ, List.drop_succ_cons, List.drop_zero]
    obtain rfl : v0 = _ := h0
    obtain rfl : v1 = _ := h1
    obtain rfl : v2 = _ := h2
    obtain rfl : v3 = _ := h3
    obtain rfl : v4 = _ := h4
    obtain rfl : v5 = _ := h5
    obtain rfl : v6 = _ := h6
    obtain rfl : v7 = _ := h7
    obtain rfl : v8 = _ := h8
    obtain rfl : v9 = _ := h9
    obtain rfl : v10 = _ := h10
    change wpList Tryz.prog _ _ _ _ wz
    have S2 := hw.m
    clear hw S1
    go_wp2_with fail
    refine calm_normal ?_
    have x0_0 := S2.c 0 0 rfl rfl
    have x0_1 := S2.c 0 1 rfl rfl
    have x0_2 := S2.c 0 2 rfl rfl
    have x0_3 := S2.c 0 3 rfl rfl
    have GG := Lib.hid (HK.out.keep _ _ HG.out S2.bl)
    go_wp2_with fail
    refine (HP.out _ GG.out).mono ?_
    rintro e w3 ⟨rfl, b3⟩
    unfold readR
    clear x0_0 x0_1 x0_2 x0_3 GG
    have S3 := (S2.keep b3).push #[.int .u8 K, .int .i64 C, .int .i64 U, .int .i64 E] 26
    clear b3 S2
    have x0_0 := S3.c 0 0 rfl rfl
    have x0_1 := S3.c 0 1 rfl rfl
    have x0_2 := S3.c 0 2 rfl rfl
    have x0_3 := S3.c 0 3 rfl rfl
    have x1_0 := S3.c 1 0 rfl rfl
    have x1_1 := S3.c 1 1 rfl rfl
    have x2_0 := S3.c 2 0 rfl rfl
    have x2_1 := S3.c 2 1 rfl rfl
    have x2_2 := S3.c 2 2 rfl rfl
    have x2_3 := S3.c 2 3 rfl rfl
    have GG := Lib.hid (HK.out.keep _ _ HG.out S3.bl)
    go_wp2_with fail
    refine (HX.out _ GG.out).mono ?_
    rintro e w4 ⟨rfl, b4⟩
    clear x0_0 x0_1 x0_2 x0_3 x1_0 x1_1 x2_0 x2_1 x2_2 x2_3 GG
    have S4 := (S3.keep b4).push #[.int .u8 0, .int .i64 0, .int .i64 0, .int .i64 0] 26
    clear b4 S3
    have x0_0 := S4.c 0 0 rfl rfl
    have x0_1 := S4.c 0 1 rfl rfl
    have x0_2 := S4.c 0 2 rfl rfl
    have x0_3 := S4.c 0 3 rfl rfl
    have x1_0 := S4.c 1 0 rfl rfl
    have x1_1 := S4.c 1 1 rfl rfl
    have GG := Lib.hid (HK.out.keep _ _ HG.out S4.bl)
    go_wp2_with fail
    refine (HB.out _ GG.out).mono ?_
    rintro e w5 ⟨rfl, b5⟩
    clear x0_0 x0_1 x0_2 x0_3 x1_0 x1_1 GG
    have S5 := (S4.keep b5).push #[.int .u8 4, .int .i64 0, .int .i64 0, .int .i64 n] 26
    clear b5 S4
    have GG := Lib.hid (HK.out.keep _ _ HG.out S5.bl)
    go_wp2_with fail
    refine (HI.out _ GG.out).mono ?_
    rintro e w6 ⟨rfl, b6⟩
    clear GG
    have S6 := (S5.keep b6).push #[.int .u8 3, .int .i64 0, .int .i64 0, .int .i64 0] 26
    clear b6 S5
    have x5_0 := S6.c 5 0 rfl rfl
    have x5_1 := S6.c 5 1 rfl rfl
    have x5_2 := S6.c 5 2 rfl rfl
    have x5_3 := S6.c 5 3 rfl rfl
    have GG := Lib.hid (HK.out.keep _ _ HG.out S6.bl)
    go_wp2_with fail
    refine (HJ.out _).mono ?_
    rintro e w7 ⟨rfl, b7⟩
    clear x5_0 x5_1 x5_2 x5_3 GG
    have S7 := S6.keep b7
    clear b7 S6
    have T7 := S7.push #[.int .u8 4, .int .i64 0, .int .i64 0, .int .i64 n] 26
    clear S7
    have S7 := T7
    clear T7
    have x6_0 := S7.c 6 0 rfl rfl
    have x6_1 := S7.c 6 1 rfl rfl
    have x6_2 := S7.c 6 2 rfl rfl
    have x6_3 := S7.c 6 3 rfl rfl
    have GG := Lib.hid (HK.out.keep _ _ HG.out S7.bl)
    go_wp2_with fail
    refine (HW.out _).mono ?_
    rintro e w8 ⟨rfl, b8⟩
    clear x6_0 x6_1 x6_2 x6_3 GG
    have S8 := S7.keep b8
    clear b8 S7
    have x4_0 := S8.c 4 0 rfl rfl
    have x4_1 := S8.c 4 1 rfl rfl
    have x4_2 := S8.c 4 2 rfl rfl
    have x4_3 := S8.c 4 3 rfl rfl
    have x6_0 := S8.c 6 0 rfl rfl
    have x6_1 := S8.c 6 1 rfl rfl
    have x6_2 := S8.c 6 2 rfl rfl
    have x6_3 := S8.c 6 3 rfl rfl
    have x1_0 := S8.c 1 0 rfl rfl
    have x1_1 := S8.c 1 1 rfl rfl
    have x3_0 := S8.c 3 0 rfl rfl
    have x3_1 := S8.c 3 1 rfl rfl
    have x3_2 := S8.c 3 2 rfl rfl
    have x3_3 := S8.c 3 3 rfl rfl
    have GG := Lib.hid (HK.out.keep _ _ HG.out S8.bl)
    go_wp2_with fail
    refine (HY.out _).mono ?_
    rintro e w9 ⟨rfl, b9⟩
    clear x4_0 x4_1 x4_2 x4_3 x6_0 x6_1 x6_2 x6_3 x1_0 x1_1 x3_0 x3_1 x3_2 x3_3 GG
    have S9 := S8.keep b9
    clear b9 S8
    have x3_0 := S9.c 3 0 rfl rfl
    have x3_1 := S9.c 3 1 rfl rfl
    have x3_2 := S9.c 3 2 rfl rfl
    have x3_3 := S9.c 3 3 rfl rfl
    have GG := Lib.hid (HK.out.keep _ _ HG.out S9.bl)
    have HBL := Lib.hid S9.bl
    go_wp2_with fail
    refine (vknown_any HK.out _ GG.out).mono ?_
    rintro e w9 ⟨rfl, hb⟩
    have HB9 := Lib.hid (HBL.out.trans (hb.mono HBL.out.size))
    clear hb
    go_wp2_with fail
    go_ret
    exact ⟨rfl, HB9.out⟩
set_option maxHeartbeats 4000000 in
theorem vtells_1000 {G : World → Prop} (Kv : VlK G) (K C U E C' n : Int) (X : Int) (w : World) (g : G w) (c1 : -9223372036854775808 ≤ C) (c2 : C ≤ 9223372036854775807) (c1' : -9223372036854775808 ≤ C') (c2' : C' ≤ 9223372036854775807) (hS : X < 0 ∨ 9 < X) (hv : mayV K C U E = true) (hn : mayV 4 0 0 n = false) : Calls Tryz.prog 3 #[vlV K C U E, .agg #[.int .i64 C', .int .i64 X], .bool false, .int .i64 n] w fun e w' => e = .returned (.bool true) ∧ Below w.heap.size w w' := by
  have HK := Lib.hid Kv
  have HG := Lib.hid g
  have HT := Lib.hid (fun w g => Kv.text K C U E w g c1 c2)
  have HM := Lib.hid (fun w g => Kv.may K C U E w g c1 c2)
  have HR := Lib.hid (fun w => vtext_any K C U E w c1 c2)
  have HN := Lib.hid (fun w => vmay_any K C U E w c1 c2)
  have HB := Lib.hid (fun w g => Kv.bad n w g)
  have HW := Lib.hid (fun w => vmay_any 4 0 0 n w (by decide) (by decide))
  have HI := Lib.hid (fun w g => Kv.truth false w g)
  have HJ := Lib.hid (fun w => vmay_any 3 0 0 0 w (by decide) (by decide))
  rw [show mayV 3 0 0 0 = true by decide] at HJ
  rw [hv] at HM HN
  rw [hn] at HB HW
  have HX := Lib.hid (fun w g => Kv.none C' X w g c1' c2' hS)
  have HY := Lib.hid (fun w => nis_no C' X w hS)
  obtain ⟨s, hs⟩ : ∃ s, (⟨(textV K C U E).toArray⟩ : ByteArray) = s := ⟨_, rfl⟩
  rw [hs] at HT HR
  have ls : s.data.toList = textV K C U E := by rw [← hs]
  have hx := val_read hv c1 c2
  have HP := Lib.hid (fun w g => Kv.parse s w g (by rw [← size_len, ls]; omega))
  rw [ls, hx.1] at HP
  have es : (s.toList == []) = false := by rw [Lib.toList_data, ls]; exact beq_eq_false_iff_ne.2 hx.2.2
  clear hx
  have qs : (s.toList != s.toList) = false := by simp
  clear hs ls hv hn hS c1 c2 c1' c2' Kv g
  have S0 := ((Mem.start w).push #[.int .u8 K, .int .i64 C, .int .i64 U, .int .i64 E] 26).push #[.int .i64 C', .int .i64 X] 23
  simp only [size_alloc] at S0
  go_enter Tryz.func3, Tryz.ntmps3
  have x0_0 := S0.c 0 0 rfl rfl
  have x0_1 := S0.c 0 1 rfl rfl
  have x0_2 := S0.c 0 2 rfl rfl
  have x0_3 := S0.c 0 3 rfl rfl
  have GG := Lib.hid (HK.out.keep _ _ HG.out S0.bl)
  go_wp2_with fail
  refine (HT.out _ GG.out).mono ?_
  rintro e w1 ⟨rfl, b1⟩
  clear x0_0 x0_1 x0_2 x0_3 GG
  have S1 := S0.keep b1
  clear b1 S0
  go_upto_region 2 with fail
  refine wp_region_rel 11 (MemAt w w1.heap.size [(w.heap.size, #[.int .u8 K, .int .i64 C, .int .i64 U, .int .i64 E]), (w.heap.size + 1, #[.int .i64 C', .int .i64 X])] [])
    (fun i => List.getD [VE (.agg #[.int .u8 K, .int .i64 C, .int .i64 U, .int .i64 E]), VE (.bool true), VE (.agg #[.int .u8 K, .int .i64 C, .int .i64 U, .int .i64 E]), VE (.bool true), VE (.bool false), VE (.bool false), VE (.string s), VE (.agg #[.int .u8 K, .int .i64 C, .int .i64 U, .int .i64 E]), VE (.string s), VE (.bool false), VE (.bool false)] i (fun _ _ => False)) [] [4, 5, 6, 9, 10] (by kernel_rfl) (by kernel_rfl) S1.at (fun _ _ h hb => h.grow hb)
    (stays_all (stays_cons (stays_VE _) (stays_cons (stays_VE _) (stays_cons (stays_VE _) (stays_cons (stays_VE _) (stays_cons (stays_VE _) (stays_cons (stays_VE _) (stays_cons (stays_VE _) (stays_cons (stays_VE _) (stays_cons (stays_VE _) (stays_cons (stays_VE _) (stays_cons (stays_VE _) stays_nil)))))))))))) ⟨?_, ?_, ?_, ?_, ?_, ?_, ?_, ?_, ?_, ?_, ?_, trivial⟩ ?_
  · intro ev wv hE hw hd
    refine ifw rfl (ifn rfl ?_)
    have v4 : ev (.tmp 4) = .pointer (some ⟨w.heap.size, 0, none⟩) := hE.tmp 4 rfl
    have kx := hw.m.c 0 0 rfl rfl
    have ky := hw.m.c 0 1 rfl rfl
    have kz := hw.m.c 0 2 rfl rfl
    have ku := hw.m.c 0 3 rfl rfl
    refine rel_val (u := .agg #[.int .u8 K, .int .i64 C, .int .i64 U, .int .i64 E]) (w' := wv) ?_ (Below.refl _ _) ⟨rfl, fun h => by cases h⟩
    have e1 := hE.const; clear hE hd hw
    go_simp
  · intro ev wv hE hw hd
    refine ifw rfl (ifn rfl ?_)
    have v22 : ev (.tmp 22) = .agg #[.int .u8 K, .int .i64 C, .int .i64 U, .int .i64 E] := hd 0 (by decide)
    refine rel_call (f := 6) (args := #[vlV K C U E]) ?_ (HM.out _ (HK.out.keep _ _ HG.out hw.m.bl)) ?_
    · have e0 := hE.func; have e1 := hE.const; clear hE hd hw
      go_simp
    · rintro e w' ⟨rfl, hb⟩
      exact ⟨_, rfl, hb, rfl, fun h => by cases h⟩
  · intro ev wv hE hw hd
    refine ifw rfl (ifn rfl ?_)
    have v4 : ev (.tmp 4) = .pointer (some ⟨w.heap.size, 0, none⟩) := hE.tmp 4 rfl
    have kx := hw.m.c 0 0 rfl rfl
    have ky := hw.m.c 0 1 rfl rfl
    have kz := hw.m.c 0 2 rfl rfl
    have ku := hw.m.c 0 3 rfl rfl
    refine rel_val (u := .agg #[.int .u8 K, .int .i64 C, .int .i64 U, .int .i64 E]) (w' := wv) ?_ (Below.refl _ _) ⟨rfl, fun h => by cases h⟩
    have e1 := hE.const; clear hE hd hw
    go_simp
  · intro ev wv hE hw hd
    refine ifw rfl (ifn rfl ?_)
    have v24 : ev (.tmp 24) = .agg #[.int .u8 K, .int .i64 C, .int .i64 U, .int .i64 E] := hd 2 (by decide)
    refine rel_call (f := 7) (args := #[vlV K C U E]) ?_ (HN.out _) ?_
    · have e0 := hE.func; have e1 := hE.const; clear hE hd hw
      go_simp
    · rintro e w' ⟨rfl, hb⟩
      exact ⟨_, rfl, hb, rfl, fun h => by cases h⟩
  · intro ev wv hE hw hd
    refine ifw rfl (ifw rfl ?_)
    have v23 : ev (.tmp 23) = .bool true := hd 1 (by decide)
    have v25 : ev (.tmp 25) = .bool true := hd 3 (by decide)
    refine ⟨.bool false, fun w => ?_, rfl⟩
    have e1 := hE.const; have e2 := hE.func; clear hE hd hw
    go_simp
  · intro ev wv hE hw hd
    refine ifw rfl (ifw rfl ?_)
    have v26 : ev (.tmp 26) = .bool false := hd 4 (by decide)
    refine ⟨.bool false, fun w => ?_, rfl⟩
    have e1 := hE.const; have e2 := hE.func; clear hE hd hw
    go_simp
  · intro ev wv hE hw hd
    have vg : ev (.tmp 27) = .bool false := hd 5 (by decide)
    refine ifw (by show (yv (ev (.tmp 27)) == some false) = true; rw [vg]; rfl) (ifw rfl ?_)
    clear vg
    have v9 : ev (.tmp 9) = .string s := hE.tmp 9 rfl
    refine ⟨.string s, fun w => ?_, rfl⟩
    have e1 := hE.const; have e2 := hE.func; clear hE hd hw
    go_simp
  · intro ev wv hE hw hd
    have vg : ev (.tmp 27) = .bool false := hd 5 (by decide)
    refine ifw (by show (yv (ev (.tmp 27)) == some false) = true; rw [vg]; rfl) (ifn rfl ?_)
    clear vg
    have v4 : ev (.tmp 4) = .pointer (some ⟨w.heap.size, 0, none⟩) := hE.tmp 4 rfl
    have kx := hw.m.c 0 0 rfl rfl
    have ky := hw.m.c 0 1 rfl rfl
    have kz := hw.m.c 0 2 rfl rfl
    have ku := hw.m.c 0 3 rfl rfl
    refine rel_val (u := .agg #[.int .u8 K, .int .i64 C, .int .i64 U, .int .i64 E]) (w' := wv) ?_ (Below.refl _ _) ⟨rfl, fun h => by cases h⟩
    have e1 := hE.const; clear hE hd hw
    go_simp
  · intro ev wv hE hw hd
    have vg : ev (.tmp 27) = .bool false := hd 5 (by decide)
    refine ifw (by show (yv (ev (.tmp 27)) == some false) = true; rw [vg]; rfl) (ifn rfl ?_)
    clear vg
    have v29 : ev (.tmp 29) = .agg #[.int .u8 K, .int .i64 C, .int .i64 U, .int .i64 E] := hd 7 (by decide)
    refine rel_call (f := 8) (args := #[vlV K C U E]) ?_ (HR.out _) ?_
    · have e0 := hE.func; have e1 := hE.const; clear hE hd hw
      go_simp
    · rintro e w' ⟨rfl, hb⟩
      exact ⟨_, rfl, hb, rfl, fun h => by cases h⟩
  · intro ev wv hE hw hd
    have vg : ev (.tmp 27) = .bool false := hd 5 (by decide)
    refine ifw (by show (yv (ev (.tmp 27)) == some false) = true; rw [vg]; rfl) (ifw rfl ?_)
    clear vg
    have v28 : ev (.tmp 28) = .string s := hd 6 (by decide)
    have v30 : ev (.tmp 30) = .string s := hd 8 (by decide)
    refine ⟨.bool false, fun w => ?_, rfl⟩
    have e1 := hE.const; have e2 := hE.func; clear hE hd hw
    go_simp
  · intro ev wv hE hw hd
    refine ifw rfl (ifw rfl ?_)
    have v27 : ev (.tmp 27) = .bool false := hd 5 (by decide)
    have v31 : ev (.tmp 31) = .bool false := hd 9 (by decide)
    refine ⟨.bool false, fun w => ?_, rfl⟩
    have e1 := hE.const; have e2 := hE.func; clear hE hd hw
    go_simp
  · intro wz hw
    intro v0 h0 _ v1 h1 _ v2 h2 _ v3 h3 _ v4 h4 _ v5 h5 _ v6 h6 _ v7 h7 _ v8 h8 _ v9 h9 _ v10 h10 _
    simp only [Act.put, List.setIfInBounds_toArray, List.set_cons_zero, List.set_cons_succ, List.drop_succ_cons, List.drop_zero]
    obtain rfl : v0 = _ := h0
    obtain rfl : v1 = _ := h1
    obtain rfl : v2 = _ := h2
    obtain rfl : v3 = _ := h3
    obtain rfl : v4 = _ := h4
    obtain rfl : v5 = _ := h5
    obtain rfl : v6 = _ := h6
    obtain rfl : v7 = _ := h7
    obtain rfl : v8 = _ := h8
    obtain rfl : v9 = _ := h9
    obtain rfl : v10 = _ := h10
    change wpList Tryz.prog _ _ _ _ wz
    have S2 := hw.m
    clear hw S1
    go_wp2_with fail
    refine calm_normal ?_
    have x0_0 := S2.c 0 0 rfl rfl
    have x0_1 := S2.c 0 1 rfl rfl
    have x0_2 := S2.c 0 2 rfl rfl
    have x0_3 := S2.c 0 3 rfl rfl
    have GG := Lib.hid (HK.out.keep _ _ HG.out S2.bl)
    go_wp2_with fail
    refine (HP.out _ GG.out).mono ?_
    rintro e w3 ⟨rfl, b3⟩
    unfold readR
    clear x0_0 x0_1 x0_2 x0_3 GG
    have S3 := (S2.keep b3).push #[.int .u8 K, .int .i64 C, .int .i64 U, .int .i64 E] 26
    clear b3 S2
    have x0_0 := S3.c 0 0 rfl rfl
    have x0_1 := S3.c 0 1 rfl rfl
    have x0_2 := S3.c 0 2 rfl rfl
    have x0_3 := S3.c 0 3 rfl rfl
    have x1_0 := S3.c 1 0 rfl rfl
    have x1_1 := S3.c 1 1 rfl rfl
    have x2_0 := S3.c 2 0 rfl rfl
    have x2_1 := S3.c 2 1 rfl rfl
    have x2_2 := S3.c 2 2 rfl rfl
    have x2_3 := S3.c 2 3 rfl rfl
    have GG := Lib.hid (HK.out.keep _ _ HG.out S3.bl)
    go_wp2_with fail
    refine (HX.out _ GG.out).mono ?_
    rintro e w4 ⟨rfl, b4⟩
    clear x0_0 x0_1 x0_2 x0_3 x1_0 x1_1 x2_0 x2_1 x2_2 x2_3 GG
    have S4 := (S3.keep b4).push #[.int .u8 0, .int .i64 0, .int .i64 0, .int .i64 0] 26
    clear b4 S3
    have x0_0 := S4.c 0 0 rfl rfl
    have x0_1 := S4.c 0 1 rfl rfl
    have x0_2 := S4.c 0 2 rfl rfl
    have x0_3 := S4.c 0 3 rfl rfl
    have x1_0 := S4.c 1 0 rfl rfl
    have x1_1 := S4.c 1 1 rfl rfl
    have GG := Lib.hid (HK.out.keep _ _ HG.out S4.bl)
    go_wp2_with fail
    refine (HB.out _ GG.out).mono ?_
    rintro e w5 ⟨rfl, b5⟩
    clear x0_0 x0_1 x0_2 x0_3 x1_0 x1_1 GG
    have S5 := (S4.keep b5).push #[.int .u8 0, .int .i64 0, .int .i64 0, .int .i64 0] 26
    clear b5 S4
    have GG := Lib.hid (HK.out.keep _ _ HG.out S5.bl)
    go_wp2_with fail
    refine (HI.out _ GG.out).mono ?_
    rintro e w6 ⟨rfl, b6⟩
    clear GG
    have S6 := (S5.keep b6).push #[.int .u8 3, .int .i64 0, .int .i64 0, .int .i64 0] 26
    clear b6 S5
    have x5_0 := S6.c 5 0 rfl rfl
    have x5_1 := S6.c 5 1 rfl rfl
    have x5_2 := S6.c 5 2 rfl rfl
    have x5_3 := S6.c 5 3 rfl rfl
    have GG := Lib.hid (HK.out.keep _ _ HG.out S6.bl)
    go_wp2_with fail
    refine (HJ.out _).mono ?_
    rintro e w7 ⟨rfl, b7⟩
    clear x5_0 x5_1 x5_2 x5_3 GG
    have S7 := S6.keep b7
    clear b7 S6
    have T7 := S7.push #[.int .u8 4, .int .i64 0, .int .i64 0, .int .i64 n] 26
    clear S7
    have S7 := T7
    clear T7
    have x6_0 := S7.c 6 0 rfl rfl
    have x6_1 := S7.c 6 1 rfl rfl
    have x6_2 := S7.c 6 2 rfl rfl
    have x6_3 := S7.c 6 3 rfl rfl
    have GG := Lib.hid (HK.out.keep _ _ HG.out S7.bl)
    go_wp2_with fail
    refine (HW.out _).mono ?_
    rintro e w8 ⟨rfl, b8⟩
    clear x6_0 x6_1 x6_2 x6_3 GG
    have S8 := S7.keep b8
    clear b8 S7
    have x4_0 := S8.c 4 0 rfl rfl
    have x4_1 := S8.c 4 1 rfl rfl
    have x4_2 := S8.c 4 2 rfl rfl
    have x4_3 := S8.c 4 3 rfl rfl
    have x6_0 := S8.c 6 0 rfl rfl
    have x6_1 := S8.c 6 1 rfl rfl
    have x6_2 := S8.c 6 2 rfl rfl
    have x6_3 := S8.c 6 3 rfl rfl
    have x1_0 := S8.c 1 0 rfl rfl
    have x1_1 := S8.c 1 1 rfl rfl
    have x3_0 := S8.c 3 0 rfl rfl
    have x3_1 := S8.c 3 1 rfl rfl
    have x3_2 := S8.c 3 2 rfl rfl
    have x3_3 := S8.c 3 3 rfl rfl
    have GG := Lib.hid (HK.out.keep _ _ HG.out S8.bl)
    go_wp2_with fail
    refine (HY.out _).mono ?_
    rintro e w9 ⟨rfl, b9⟩
    clear x4_0 x4_1 x4_2 x4_3 x6_0 x6_1 x6_2 x6_3 x1_0 x1_1 x3_0 x3_1 x3_2 x3_3 GG
    have S9 := S8.keep b9
    clear b9 S8
    have x3_0 := S9.c 3 0 rfl rfl
    have x3_1 := S9.c 3 1 rfl rfl
    have x3_2 := S9.c 3 2 rfl rfl
    have x3_3 := S9.c 3 3 rfl rfl
    have GG := Lib.hid (HK.out.keep _ _ HG.out S9.bl)
    have HBL := Lib.hid S9.bl
    go_wp2_with fail
    refine (vknown_any HK.out _ GG.out).mono ?_
    rintro e w9 ⟨rfl, hb⟩
    have HB9 := Lib.hid (HBL.out.trans (hb.mono HBL.out.size))
    clear hb
    go_wp2_with fail
    go_ret
    exact ⟨rfl, HB9.out⟩
set_option maxHeartbeats 4000000 in
theorem vtells_0011 {G : World → Prop} (Kv : VlK G) (K C U E C' n : Int) (X : Int) (w : World) (g : G w) (c1 : -9223372036854775808 ≤ C) (c2 : C ≤ 9223372036854775807) (c1' : -9223372036854775808 ≤ C') (c2' : C' ≤ 9223372036854775807) (hS : X < 0 ∨ 9 < X) (hv : mayV K C U E = false) (hn : mayV 4 0 0 n = true) : Calls Tryz.prog 3 #[vlV K C U E, .agg #[.int .i64 C', .int .i64 X], .bool true, .int .i64 n] w fun e w' => e = .returned (.bool true) ∧ Below w.heap.size w w' := by
  have HK := Lib.hid Kv
  have HG := Lib.hid g
  have HT := Lib.hid (fun w g => Kv.text K C U E w g c1 c2)
  have HM := Lib.hid (fun w g => Kv.may K C U E w g c1 c2)
  have HR := Lib.hid (fun w => vtext_any K C U E w c1 c2)
  have HN := Lib.hid (fun w => vmay_any K C U E w c1 c2)
  have HB := Lib.hid (fun w g => Kv.bad n w g)
  have HW := Lib.hid (fun w => vmay_any 4 0 0 n w (by decide) (by decide))
  have HI := Lib.hid (fun w g => Kv.truth true w g)
  have HJ := Lib.hid (fun w => vmay_any 2 0 0 0 w (by decide) (by decide))
  rw [show mayV 2 0 0 0 = true by decide] at HJ
  rw [hv] at HM HN
  rw [hn] at HB HW
  have HX := Lib.hid (fun w g => Kv.none C' X w g c1' c2' hS)
  have HY := Lib.hid (fun w => nis_no C' X w hS)
  obtain ⟨s, hs⟩ : ∃ s, (⟨(textV K C U E).toArray⟩ : ByteArray) = s := ⟨_, rfl⟩
  rw [hs] at HT HR
  have ls : s.data.toList = textV K C U E := by rw [← hs]
  have es : (s.toList == []) = true := by rw [Lib.toList_data, ls, val_none hv]; rfl
  have qs : (s.toList != s.toList) = false := by simp
  clear hs ls hv hn hS c1 c2 c1' c2' Kv g
  have S0 := ((Mem.start w).push #[.int .u8 K, .int .i64 C, .int .i64 U, .int .i64 E] 26).push #[.int .i64 C', .int .i64 X] 23
  simp only [size_alloc] at S0
  go_enter Tryz.func3, Tryz.ntmps3
  have x0_0 := S0.c 0 0 rfl rfl
  have x0_1 := S0.c 0 1 rfl rfl
  have x0_2 := S0.c 0 2 rfl rfl
  have x0_3 := S0.c 0 3 rfl rfl
  have GG := Lib.hid (HK.out.keep _ _ HG.out S0.bl)
  go_wp2_with fail
  refine (HT.out _ GG.out).mono ?_
  rintro e w1 ⟨rfl, b1⟩
  clear x0_0 x0_1 x0_2 x0_3 GG
  have S1 := S0.keep b1
  clear b1 S0
  go_upto_region 2 with fail
  refine wp_region_rel 11 (MemAt w w1.heap.size [(w.heap.size, #[.int .u8 K, .int .i64 C, .int .i64 U, .int .i64 E]), (w.heap.size + 1, #[.int .i64 C', .int .i64 X])] [])
    (fun i => List.getD [VE (.agg #[.int .u8 K, .int .i64 C, .int .i64 U, .int .i64 E]), VE (.bool false), VE (.agg #[.int .u8 K, .int .i64 C, .int .i64 U, .int .i64 E]), VE (.bool false), VE (.bool false), VE (.bool false), VE (.string s), VE (.agg #[.int .u8 K, .int .i64 C, .int .i64 U, .int .i64 E]), VE (.string s), VE (.bool false), VE (.bool false)] i (fun _ _ => False)) [] [4, 5, 6, 9, 10] (by kernel_rfl) (by kernel_rfl) S1.at (fun _ _ h hb => h.grow hb)
    (stays_all (stays_cons (stays_VE _) (stays_cons (stays_VE _) (stays_cons (stays_VE _) (stays_cons (stays_VE _) (stays_cons (stays_VE _) (stays_cons (stays_VE _) (stays_cons (stays_VE _) (stays_cons (stays_VE _) (stays_cons (stays_VE _) (stays_cons (stays_VE _) (stays_cons (stays_VE _) stays_nil)))))))))))) ⟨?_, ?_, ?_, ?_, ?_, ?_, ?_, ?_, ?_, ?_, ?_, trivial⟩ ?_
  · intro ev wv hE hw hd
    refine ifw rfl (ifn rfl ?_)
    have v4 : ev (.tmp 4) = .pointer (some ⟨w.heap.size, 0, none⟩) := hE.tmp 4 rfl
    have kx := hw.m.c 0 0 rfl rfl
    have ky := hw.m.c 0 1 rfl rfl
    have kz := hw.m.c 0 2 rfl rfl
    have ku := hw.m.c 0 3 rfl rfl
    refine rel_val (u := .agg #[.int .u8 K, .int .i64 C, .int .i64 U, .int .i64 E]) (w' := wv) ?_ (Below.refl _ _) ⟨rfl, fun h => by cases h⟩
    have e1 := hE.const; clear hE hd hw
    go_simp
  · intro ev wv hE hw hd
    refine ifw rfl (ifn rfl ?_)
    have v22 : ev (.tmp 22) = .agg #[.int .u8 K, .int .i64 C, .int .i64 U, .int .i64 E] := hd 0 (by decide)
    refine rel_call (f := 6) (args := #[vlV K C U E]) ?_ (HM.out _ (HK.out.keep _ _ HG.out hw.m.bl)) ?_
    · have e0 := hE.func; have e1 := hE.const; clear hE hd hw
      go_simp
    · rintro e w' ⟨rfl, hb⟩
      exact ⟨_, rfl, hb, rfl, fun h => by cases h⟩
  · intro ev wv hE hw hd
    refine ifw rfl (ifn rfl ?_)
    have v4 : ev (.tmp 4) = .pointer (some ⟨w.heap.size, 0, none⟩) := hE.tmp 4 rfl
    have kx := hw.m.c 0 0 rfl rfl
    have ky := hw.m.c 0 1 rfl rfl
    have kz := hw.m.c 0 2 rfl rfl
    have ku := hw.m.c 0 3 rfl rfl
    refine rel_val (u := .agg #[.int .u8 K, .int .i64 C, .int .i64 U, .int .i64 E]) (w' := wv) ?_ (Below.refl _ _) ⟨rfl, fun h => by cases h⟩
    have e1 := hE.const; clear hE hd hw
    go_simp
  · intro ev wv hE hw hd
    refine ifw rfl (ifn rfl ?_)
    have v24 : ev (.tmp 24) = .agg #[.int .u8 K, .int .i64 C, .int .i64 U, .int .i64 E] := hd 2 (by decide)
    refine rel_call (f := 7) (args := #[vlV K C U E]) ?_ (HN.out _) ?_
    · have e0 := hE.func; have e1 := hE.const; clear hE hd hw
      go_simp
    · rintro e w' ⟨rfl, hb⟩
      exact ⟨_, rfl, hb, rfl, fun h => by cases h⟩
  · intro ev wv hE hw hd
    refine ifw rfl (ifw rfl ?_)
    have v23 : ev (.tmp 23) = .bool false := hd 1 (by decide)
    have v25 : ev (.tmp 25) = .bool false := hd 3 (by decide)
    refine ⟨.bool false, fun w => ?_, rfl⟩
    have e1 := hE.const; have e2 := hE.func; clear hE hd hw
    go_simp
  · intro ev wv hE hw hd
    refine ifw rfl (ifw rfl ?_)
    have v26 : ev (.tmp 26) = .bool false := hd 4 (by decide)
    refine ⟨.bool false, fun w => ?_, rfl⟩
    have e1 := hE.const; have e2 := hE.func; clear hE hd hw
    go_simp
  · intro ev wv hE hw hd
    have vg : ev (.tmp 27) = .bool false := hd 5 (by decide)
    refine ifw (by show (yv (ev (.tmp 27)) == some false) = true; rw [vg]; rfl) (ifw rfl ?_)
    clear vg
    have v9 : ev (.tmp 9) = .string s := hE.tmp 9 rfl
    refine ⟨.string s, fun w => ?_, rfl⟩
    have e1 := hE.const; have e2 := hE.func; clear hE hd hw
    go_simp
  · intro ev wv hE hw hd
    have vg : ev (.tmp 27) = .bool false := hd 5 (by decide)
    refine ifw (by show (yv (ev (.tmp 27)) == some false) = true; rw [vg]; rfl) (ifn rfl ?_)
    clear vg
    have v4 : ev (.tmp 4) = .pointer (some ⟨w.heap.size, 0, none⟩) := hE.tmp 4 rfl
    have kx := hw.m.c 0 0 rfl rfl
    have ky := hw.m.c 0 1 rfl rfl
    have kz := hw.m.c 0 2 rfl rfl
    have ku := hw.m.c 0 3 rfl rfl
    refine rel_val (u := .agg #[.int .u8 K, .int .i64 C, .int .i64 U, .int .i64 E]) (w' := wv) ?_ (Below.refl _ _) ⟨rfl, fun h => by cases h⟩
    have e1 := hE.const; clear hE hd hw
    go_simp
  · intro ev wv hE hw hd
    have vg : ev (.tmp 27) = .bool false := hd 5 (by decide)
    refine ifw (by show (yv (ev (.tmp 27)) == some false) = true; rw [vg]; rfl) (ifn rfl ?_)
    clear vg
    have v29 : ev (.tmp 29) = .agg #[.int .u8 K, .int .i64 C, .int .i64 U, .int .i64 E] := hd 7 (by decide)
    refine rel_call (f := 8) (args := #[vlV K C U E]) ?_ (HR.out _) ?_
    · have e0 := hE.func; have e1 := hE.const; clear hE hd hw
      go_simp
    · rintro e w' ⟨rfl, hb⟩
      exact ⟨_, rfl, hb, rfl, fun h => by cases h⟩
  · intro ev wv hE hw hd
    have vg : ev (.tmp 27) = .bool false := hd 5 (by decide)
    refine ifw (by show (yv (ev (.tmp 27)) == some false) = true; rw [vg]; rfl) (ifw rfl ?_)
    clear vg
    have v28 : ev (.tmp 28) = .string s := hd 6 (by decide)
    have v30 : ev (.tmp 30) = .string s := hd 8 (by decide)
    refine ⟨.bool false, fun w => ?_, rfl⟩
    have e1 := hE.const; have e2 := hE.func; clear hE hd hw
    go_simp
  · intro ev wv hE hw hd
    refine ifw rfl (ifw rfl ?_)
    have v27 : ev (.tmp 27) = .bool false := hd 5 (by decide)
    have v31 : ev (.tmp 31) = .bool false := hd 9 (by decide)
    refine ⟨.bool false, fun w => ?_, rfl⟩
    have e1 := hE.const; have e2 := hE.func; clear hE hd hw
    go_simp
  · intro wz hw
    intro v0 h0 _ v1 h1 _ v2 h2 _ v3 h3 _ v4 h4 _ v5 h5 _ v6 h6 _ v7 h7 _ v8 h8 _ v9 h9 _ v10 h10 _
    simp only [Act.put, List.setIfInBounds_toArray, List.set_cons_zero, List.set_cons_succ, List.drop_succ_cons, List.drop_zero]
    obtain rfl : v0 = _ := h0
    obtain rfl : v1 = _ := h1
    obtain rfl : v2 = _ := h2
    obtain rfl : v3 = _ := h3
    obtain rfl : v4 = _ := h4
    obtain rfl : v5 = _ := h5
    obtain rfl : v6 = _ := h6
    obtain rfl : v7 = _ := h7
    obtain rfl : v8 = _ := h8
    obtain rfl : v9 = _ := h9
    obtain rfl : v10 = _ := h10
    change wpList Tryz.prog _ _ _ _ wz
    have S2 := hw.m
    clear hw S1
    go_wp2_with fail
    refine calm_normal ?_
    have x0_0 := S2.c 0 0 rfl rfl
    have x0_1 := S2.c 0 1 rfl rfl
    have x0_2 := S2.c 0 2 rfl rfl
    have x0_3 := S2.c 0 3 rfl rfl
    have x1_0 := S2.c 1 0 rfl rfl
    have x1_1 := S2.c 1 1 rfl rfl
    have GG := Lib.hid (HK.out.keep _ _ HG.out S2.bl)
    go_wp2_with fail
    refine (HX.out _ GG.out).mono ?_
    rintro e w3 ⟨rfl, b3⟩
    clear x0_0 x0_1 x0_2 x0_3 x1_0 x1_1 GG
    have S3 := (S2.keep b3).push #[.int .u8 0, .int .i64 0, .int .i64 0, .int .i64 0] 26
    clear b3 S2
    have x0_0 := S3.c 0 0 rfl rfl
    have x0_1 := S3.c 0 1 rfl rfl
    have x0_2 := S3.c 0 2 rfl rfl
    have x0_3 := S3.c 0 3 rfl rfl
    have x1_0 := S3.c 1 0 rfl rfl
    have x1_1 := S3.c 1 1 rfl rfl
    have GG := Lib.hid (HK.out.keep _ _ HG.out S3.bl)
    go_wp2_with fail
    refine (HB.out _ GG.out).mono ?_
    rintro e w4 ⟨rfl, b4⟩
    clear x0_0 x0_1 x0_2 x0_3 x1_0 x1_1 GG
    have S4 := (S3.keep b4).push #[.int .u8 4, .int .i64 0, .int .i64 0, .int .i64 n] 26
    clear b4 S3
    have GG := Lib.hid (HK.out.keep _ _ HG.out S4.bl)
    go_wp2_with fail
    refine (HI.out _ GG.out).mono ?_
    rintro e w5 ⟨rfl, b5⟩
    clear GG
    have S5 := (S4.keep b5).push #[.int .u8 2, .int .i64 0, .int .i64 0, .int .i64 0] 26
    clear b5 S4
    have x4_0 := S5.c 4 0 rfl rfl
    have x4_1 := S5.c 4 1 rfl rfl
    have x4_2 := S5.c 4 2 rfl rfl
    have x4_3 := S5.c 4 3 rfl rfl
    have GG := Lib.hid (HK.out.keep _ _ HG.out S5.bl)
    go_wp2_with fail
    refine (HJ.out _).mono ?_
    rintro e w6 ⟨rfl, b6⟩
    clear x4_0 x4_1 x4_2 x4_3 GG
    have S6 := S5.keep b6
    clear b6 S5
    have T6 := S6.push #[.int .u8 4, .int .i64 0, .int .i64 0, .int .i64 n] 26
    clear S6
    have S6 := T6
    clear T6
    have x5_0 := S6.c 5 0 rfl rfl
    have x5_1 := S6.c 5 1 rfl rfl
    have x5_2 := S6.c 5 2 rfl rfl
    have x5_3 := S6.c 5 3 rfl rfl
    have GG := Lib.hid (HK.out.keep _ _ HG.out S6.bl)
    go_wp2_with fail
    refine (HW.out _).mono ?_
    rintro e w7 ⟨rfl, b7⟩
    clear x5_0 x5_1 x5_2 x5_3 GG
    have S7 := S6.keep b7
    clear b7 S6
    have x3_0 := S7.c 3 0 rfl rfl
    have x3_1 := S7.c 3 1 rfl rfl
    have x3_2 := S7.c 3 2 rfl rfl
    have x3_3 := S7.c 3 3 rfl rfl
    have x5_0 := S7.c 5 0 rfl rfl
    have x5_1 := S7.c 5 1 rfl rfl
    have x5_2 := S7.c 5 2 rfl rfl
    have x5_3 := S7.c 5 3 rfl rfl
    have x1_0 := S7.c 1 0 rfl rfl
    have x1_1 := S7.c 1 1 rfl rfl
    have x2_0 := S7.c 2 0 rfl rfl
    have x2_1 := S7.c 2 1 rfl rfl
    have x2_2 := S7.c 2 2 rfl rfl
    have x2_3 := S7.c 2 3 rfl rfl
    have GG := Lib.hid (HK.out.keep _ _ HG.out S7.bl)
    go_wp2_with fail
    refine (HY.out _).mono ?_
    rintro e w8 ⟨rfl, b8⟩
    clear x3_0 x3_1 x3_2 x3_3 x5_0 x5_1 x5_2 x5_3 x1_0 x1_1 x2_0 x2_1 x2_2 x2_3 GG
    have S8 := S7.keep b8
    clear b8 S7
    have x2_0 := S8.c 2 0 rfl rfl
    have x2_1 := S8.c 2 1 rfl rfl
    have x2_2 := S8.c 2 2 rfl rfl
    have x2_3 := S8.c 2 3 rfl rfl
    have GG := Lib.hid (HK.out.keep _ _ HG.out S8.bl)
    have HBL := Lib.hid S8.bl
    go_wp2_with fail
    refine (vknown_any HK.out _ GG.out).mono ?_
    rintro e w9 ⟨rfl, hb⟩
    have HB9 := Lib.hid (HBL.out.trans (hb.mono HBL.out.size))
    clear hb
    go_wp2_with fail
    go_ret
    exact ⟨rfl, HB9.out⟩
set_option maxHeartbeats 4000000 in
theorem vtells_0010 {G : World → Prop} (Kv : VlK G) (K C U E C' n : Int) (X : Int) (w : World) (g : G w) (c1 : -9223372036854775808 ≤ C) (c2 : C ≤ 9223372036854775807) (c1' : -9223372036854775808 ≤ C') (c2' : C' ≤ 9223372036854775807) (hS : X < 0 ∨ 9 < X) (hv : mayV K C U E = false) (hn : mayV 4 0 0 n = false) : Calls Tryz.prog 3 #[vlV K C U E, .agg #[.int .i64 C', .int .i64 X], .bool true, .int .i64 n] w fun e w' => e = .returned (.bool true) ∧ Below w.heap.size w w' := by
  have HK := Lib.hid Kv
  have HG := Lib.hid g
  have HT := Lib.hid (fun w g => Kv.text K C U E w g c1 c2)
  have HM := Lib.hid (fun w g => Kv.may K C U E w g c1 c2)
  have HR := Lib.hid (fun w => vtext_any K C U E w c1 c2)
  have HN := Lib.hid (fun w => vmay_any K C U E w c1 c2)
  have HB := Lib.hid (fun w g => Kv.bad n w g)
  have HW := Lib.hid (fun w => vmay_any 4 0 0 n w (by decide) (by decide))
  have HI := Lib.hid (fun w g => Kv.truth true w g)
  have HJ := Lib.hid (fun w => vmay_any 2 0 0 0 w (by decide) (by decide))
  rw [show mayV 2 0 0 0 = true by decide] at HJ
  rw [hv] at HM HN
  rw [hn] at HB HW
  have HX := Lib.hid (fun w g => Kv.none C' X w g c1' c2' hS)
  have HY := Lib.hid (fun w => nis_no C' X w hS)
  obtain ⟨s, hs⟩ : ∃ s, (⟨(textV K C U E).toArray⟩ : ByteArray) = s := ⟨_, rfl⟩
  rw [hs] at HT HR
  have ls : s.data.toList = textV K C U E := by rw [← hs]
  have es : (s.toList == []) = true := by rw [Lib.toList_data, ls, val_none hv]; rfl
  have qs : (s.toList != s.toList) = false := by simp
  clear hs ls hv hn hS c1 c2 c1' c2' Kv g
  have S0 := ((Mem.start w).push #[.int .u8 K, .int .i64 C, .int .i64 U, .int .i64 E] 26).push #[.int .i64 C', .int .i64 X] 23
  simp only [size_alloc] at S0
  go_enter Tryz.func3, Tryz.ntmps3
  have x0_0 := S0.c 0 0 rfl rfl
  have x0_1 := S0.c 0 1 rfl rfl
  have x0_2 := S0.c 0 2 rfl rfl
  have x0_3 := S0.c 0 3 rfl rfl
  have GG := Lib.hid (HK.out.keep _ _ HG.out S0.bl)
  go_wp2_with fail
  refine (HT.out _ GG.out).mono ?_
  rintro e w1 ⟨rfl, b1⟩
  clear x0_0 x0_1 x0_2 x0_3 GG
  have S1 := S0.keep b1
  clear b1 S0
  go_upto_region 2 with fail
  refine wp_region_rel 11 (MemAt w w1.heap.size [(w.heap.size, #[.int .u8 K, .int .i64 C, .int .i64 U, .int .i64 E]), (w.heap.size + 1, #[.int .i64 C', .int .i64 X])] [])
    (fun i => List.getD [VE (.agg #[.int .u8 K, .int .i64 C, .int .i64 U, .int .i64 E]), VE (.bool false), VE (.agg #[.int .u8 K, .int .i64 C, .int .i64 U, .int .i64 E]), VE (.bool false), VE (.bool false), VE (.bool false), VE (.string s), VE (.agg #[.int .u8 K, .int .i64 C, .int .i64 U, .int .i64 E]), VE (.string s), VE (.bool false), VE (.bool false)] i (fun _ _ => False)) [] [4, 5, 6, 9, 10] (by kernel_rfl) (by kernel_rfl) S1.at (fun _ _ h hb => h.grow hb)
    (stays_all (stays_cons (stays_VE _) (stays_cons (stays_VE _) (stays_cons (stays_VE _) (stays_cons (stays_VE _) (stays_cons (stays_VE _) (stays_cons (stays_VE _) (stays_cons (stays_VE _) (stays_cons (stays_VE _) (stays_cons (stays_VE _) (stays_cons (stays_VE _) (stays_cons (stays_VE _) stays_nil)))))))))))) ⟨?_, ?_, ?_, ?_, ?_, ?_, ?_, ?_, ?_, ?_, ?_, trivial⟩ ?_
  · intro ev wv hE hw hd
    refine ifw rfl (ifn rfl ?_)
    have v4 : ev (.tmp 4) = .pointer (some ⟨w.heap.size, 0, none⟩) := hE.tmp 4 rfl
    have kx := hw.m.c 0 0 rfl rfl
    have ky := hw.m.c 0 1 rfl rfl
    have kz := hw.m.c 0 2 rfl rfl
    have ku := hw.m.c 0 3 rfl rfl
    refine rel_val (u := .agg #[.int .u8 K, .int .i64 C, .int .i64 U, .int .i64 E]) (w' := wv) ?_ (Below.refl _ _) ⟨rfl, fun h => by cases h⟩
    have e1 := hE.const; clear hE hd hw
    go_simp
  · intro ev wv hE hw hd
    refine ifw rfl (ifn rfl ?_)
    have v22 : ev (.tmp 22) = .agg #[.int .u8 K, .int .i64 C, .int .i64 U, .int .i64 E] := hd 0 (by decide)
    refine rel_call (f := 6) (args := #[vlV K C U E]) ?_ (HM.out _ (HK.out.keep _ _ HG.out hw.m.bl)) ?_
    · have e0 := hE.func; have e1 := hE.const; clear hE hd hw
      go_simp
    · rintro e w' ⟨rfl, hb⟩
      exact ⟨_, rfl, hb, rfl, fun h => by cases h⟩
  · intro ev wv hE hw hd
    refine ifw rfl (ifn rfl ?_)
    have v4 : ev (.tmp 4) = .pointer (some ⟨w.heap.size, 0, none⟩) := hE.tmp 4 rfl
    have kx := hw.m.c 0 0 rfl rfl
    have ky := hw.m.c 0 1 rfl rfl
    have kz := hw.m.c 0 2 rfl rfl
    have ku := hw.m.c 0 3 rfl rfl
    refine rel_val (u := .agg #[.int .u8 K, .int .i64 C, .int .i64 U, .int .i64 E]) (w' := wv) ?_ (Below.refl _ _) ⟨rfl, fun h => by cases h⟩
    have e1 := hE.const; clear hE hd hw
    go_simp
  · intro ev wv hE hw hd
    refine ifw rfl (ifn rfl ?_)
    have v24 : ev (.tmp 24) = .agg #[.int .u8 K, .int .i64 C, .int .i64 U, .int .i64 E] := hd 2 (by decide)
    refine rel_call (f := 7) (args := #[vlV K C U E]) ?_ (HN.out _) ?_
    · have e0 := hE.func; have e1 := hE.const; clear hE hd hw
      go_simp
    · rintro e w' ⟨rfl, hb⟩
      exact ⟨_, rfl, hb, rfl, fun h => by cases h⟩
  · intro ev wv hE hw hd
    refine ifw rfl (ifw rfl ?_)
    have v23 : ev (.tmp 23) = .bool false := hd 1 (by decide)
    have v25 : ev (.tmp 25) = .bool false := hd 3 (by decide)
    refine ⟨.bool false, fun w => ?_, rfl⟩
    have e1 := hE.const; have e2 := hE.func; clear hE hd hw
    go_simp
  · intro ev wv hE hw hd
    refine ifw rfl (ifw rfl ?_)
    have v26 : ev (.tmp 26) = .bool false := hd 4 (by decide)
    refine ⟨.bool false, fun w => ?_, rfl⟩
    have e1 := hE.const; have e2 := hE.func; clear hE hd hw
    go_simp
  · intro ev wv hE hw hd
    have vg : ev (.tmp 27) = .bool false := hd 5 (by decide)
    refine ifw (by show (yv (ev (.tmp 27)) == some false) = true; rw [vg]; rfl) (ifw rfl ?_)
    clear vg
    have v9 : ev (.tmp 9) = .string s := hE.tmp 9 rfl
    refine ⟨.string s, fun w => ?_, rfl⟩
    have e1 := hE.const; have e2 := hE.func; clear hE hd hw
    go_simp
  · intro ev wv hE hw hd
    have vg : ev (.tmp 27) = .bool false := hd 5 (by decide)
    refine ifw (by show (yv (ev (.tmp 27)) == some false) = true; rw [vg]; rfl) (ifn rfl ?_)
    clear vg
    have v4 : ev (.tmp 4) = .pointer (some ⟨w.heap.size, 0, none⟩) := hE.tmp 4 rfl
    have kx := hw.m.c 0 0 rfl rfl
    have ky := hw.m.c 0 1 rfl rfl
    have kz := hw.m.c 0 2 rfl rfl
    have ku := hw.m.c 0 3 rfl rfl
    refine rel_val (u := .agg #[.int .u8 K, .int .i64 C, .int .i64 U, .int .i64 E]) (w' := wv) ?_ (Below.refl _ _) ⟨rfl, fun h => by cases h⟩
    have e1 := hE.const; clear hE hd hw
    go_simp
  · intro ev wv hE hw hd
    have vg : ev (.tmp 27) = .bool false := hd 5 (by decide)
    refine ifw (by show (yv (ev (.tmp 27)) == some false) = true; rw [vg]; rfl) (ifn rfl ?_)
    clear vg
    have v29 : ev (.tmp 29) = .agg #[.int .u8 K, .int .i64 C, .int .i64 U, .int .i64 E] := hd 7 (by decide)
    refine rel_call (f := 8) (args := #[vlV K C U E]) ?_ (HR.out _) ?_
    · have e0 := hE.func; have e1 := hE.const; clear hE hd hw
      go_simp
    · rintro e w' ⟨rfl, hb⟩
      exact ⟨_, rfl, hb, rfl, fun h => by cases h⟩
  · intro ev wv hE hw hd
    have vg : ev (.tmp 27) = .bool false := hd 5 (by decide)
    refine ifw (by show (yv (ev (.tmp 27)) == some false) = true; rw [vg]; rfl) (ifw rfl ?_)
    clear vg
    have v28 : ev (.tmp 28) = .string s := hd 6 (by decide)
    have v30 : ev (.tmp 30) = .string s := hd 8 (by decide)
    refine ⟨.bool false, fun w => ?_, rfl⟩
    have e1 := hE.const; have e2 := hE.func; clear hE hd hw
    go_simp
  · intro ev wv hE hw hd
    refine ifw rfl (ifw rfl ?_)
    have v27 : ev (.tmp 27) = .bool false := hd 5 (by decide)
    have v31 : ev (.tmp 31) = .bool false := hd 9 (by decide)
    refine ⟨.bool false, fun w => ?_, rfl⟩
    have e1 := hE.const; have e2 := hE.func; clear hE hd hw
    go_simp
  · intro wz hw
    intro v0 h0 _ v1 h1 _ v2 h2 _ v3 h3 _ v4 h4 _ v5 h5 _ v6 h6 _ v7 h7 _ v8 h8 _ v9 h9 _ v10 h10 _
    simp only [Act.put, List.setIfInBounds_toArray, List.set_cons_zero, List.set_cons_succ, List.drop_succ_cons, List.drop_zero]
    obtain rfl : v0 = _ := h0
    obtain rfl : v1 = _ := h1
    obtain rfl : v2 = _ := h2
    obtain rfl : v3 = _ := h3
    obtain rfl : v4 = _ := h4
    obtain rfl : v5 = _ := h5
    obtain rfl : v6 = _ := h6
    obtain rfl : v7 = _ := h7
    obtain rfl : v8 = _ := h8
    obtain rfl : v9 = _ := h9
    obtain rfl : v10 = _ := h10
    change wpList Tryz.prog _ _ _ _ wz
    have S2 := hw.m
    clear hw S1
    go_wp2_with fail
    refine calm_normal ?_
    have x0_0 := S2.c 0 0 rfl rfl
    have x0_1 := S2.c 0 1 rfl rfl
    have x0_2 := S2.c 0 2 rfl rfl
    have x0_3 := S2.c 0 3 rfl rfl
    have x1_0 := S2.c 1 0 rfl rfl
    have x1_1 := S2.c 1 1 rfl rfl
    have GG := Lib.hid (HK.out.keep _ _ HG.out S2.bl)
    go_wp2_with fail
    refine (HX.out _ GG.out).mono ?_
    rintro e w3 ⟨rfl, b3⟩
    clear x0_0 x0_1 x0_2 x0_3 x1_0 x1_1 GG
    have S3 := (S2.keep b3).push #[.int .u8 0, .int .i64 0, .int .i64 0, .int .i64 0] 26
    clear b3 S2
    have x0_0 := S3.c 0 0 rfl rfl
    have x0_1 := S3.c 0 1 rfl rfl
    have x0_2 := S3.c 0 2 rfl rfl
    have x0_3 := S3.c 0 3 rfl rfl
    have x1_0 := S3.c 1 0 rfl rfl
    have x1_1 := S3.c 1 1 rfl rfl
    have GG := Lib.hid (HK.out.keep _ _ HG.out S3.bl)
    go_wp2_with fail
    refine (HB.out _ GG.out).mono ?_
    rintro e w4 ⟨rfl, b4⟩
    clear x0_0 x0_1 x0_2 x0_3 x1_0 x1_1 GG
    have S4 := (S3.keep b4).push #[.int .u8 0, .int .i64 0, .int .i64 0, .int .i64 0] 26
    clear b4 S3
    have GG := Lib.hid (HK.out.keep _ _ HG.out S4.bl)
    go_wp2_with fail
    refine (HI.out _ GG.out).mono ?_
    rintro e w5 ⟨rfl, b5⟩
    clear GG
    have S5 := (S4.keep b5).push #[.int .u8 2, .int .i64 0, .int .i64 0, .int .i64 0] 26
    clear b5 S4
    have x4_0 := S5.c 4 0 rfl rfl
    have x4_1 := S5.c 4 1 rfl rfl
    have x4_2 := S5.c 4 2 rfl rfl
    have x4_3 := S5.c 4 3 rfl rfl
    have GG := Lib.hid (HK.out.keep _ _ HG.out S5.bl)
    go_wp2_with fail
    refine (HJ.out _).mono ?_
    rintro e w6 ⟨rfl, b6⟩
    clear x4_0 x4_1 x4_2 x4_3 GG
    have S6 := S5.keep b6
    clear b6 S5
    have T6 := S6.push #[.int .u8 4, .int .i64 0, .int .i64 0, .int .i64 n] 26
    clear S6
    have S6 := T6
    clear T6
    have x5_0 := S6.c 5 0 rfl rfl
    have x5_1 := S6.c 5 1 rfl rfl
    have x5_2 := S6.c 5 2 rfl rfl
    have x5_3 := S6.c 5 3 rfl rfl
    have GG := Lib.hid (HK.out.keep _ _ HG.out S6.bl)
    go_wp2_with fail
    refine (HW.out _).mono ?_
    rintro e w7 ⟨rfl, b7⟩
    clear x5_0 x5_1 x5_2 x5_3 GG
    have S7 := S6.keep b7
    clear b7 S6
    have x3_0 := S7.c 3 0 rfl rfl
    have x3_1 := S7.c 3 1 rfl rfl
    have x3_2 := S7.c 3 2 rfl rfl
    have x3_3 := S7.c 3 3 rfl rfl
    have x5_0 := S7.c 5 0 rfl rfl
    have x5_1 := S7.c 5 1 rfl rfl
    have x5_2 := S7.c 5 2 rfl rfl
    have x5_3 := S7.c 5 3 rfl rfl
    have x1_0 := S7.c 1 0 rfl rfl
    have x1_1 := S7.c 1 1 rfl rfl
    have x2_0 := S7.c 2 0 rfl rfl
    have x2_1 := S7.c 2 1 rfl rfl
    have x2_2 := S7.c 2 2 rfl rfl
    have x2_3 := S7.c 2 3 rfl rfl
    have GG := Lib.hid (HK.out.keep _ _ HG.out S7.bl)
    go_wp2_with fail
    refine (HY.out _).mono ?_
    rintro e w8 ⟨rfl, b8⟩
    clear x3_0 x3_1 x3_2 x3_3 x5_0 x5_1 x5_2 x5_3 x1_0 x1_1 x2_0 x2_1 x2_2 x2_3 GG
    have S8 := S7.keep b8
    clear b8 S7
    have x2_0 := S8.c 2 0 rfl rfl
    have x2_1 := S8.c 2 1 rfl rfl
    have x2_2 := S8.c 2 2 rfl rfl
    have x2_3 := S8.c 2 3 rfl rfl
    have GG := Lib.hid (HK.out.keep _ _ HG.out S8.bl)
    have HBL := Lib.hid S8.bl
    go_wp2_with fail
    refine (vknown_any HK.out _ GG.out).mono ?_
    rintro e w9 ⟨rfl, hb⟩
    have HB9 := Lib.hid (HBL.out.trans (hb.mono HBL.out.size))
    clear hb
    go_wp2_with fail
    go_ret
    exact ⟨rfl, HB9.out⟩
set_option maxHeartbeats 4000000 in
theorem vtells_0001 {G : World → Prop} (Kv : VlK G) (K C U E C' n : Int) (X : Int) (w : World) (g : G w) (c1 : -9223372036854775808 ≤ C) (c2 : C ≤ 9223372036854775807) (c1' : -9223372036854775808 ≤ C') (c2' : C' ≤ 9223372036854775807) (hS : X < 0 ∨ 9 < X) (hv : mayV K C U E = false) (hn : mayV 4 0 0 n = true) : Calls Tryz.prog 3 #[vlV K C U E, .agg #[.int .i64 C', .int .i64 X], .bool false, .int .i64 n] w fun e w' => e = .returned (.bool true) ∧ Below w.heap.size w w' := by
  have HK := Lib.hid Kv
  have HG := Lib.hid g
  have HT := Lib.hid (fun w g => Kv.text K C U E w g c1 c2)
  have HM := Lib.hid (fun w g => Kv.may K C U E w g c1 c2)
  have HR := Lib.hid (fun w => vtext_any K C U E w c1 c2)
  have HN := Lib.hid (fun w => vmay_any K C U E w c1 c2)
  have HB := Lib.hid (fun w g => Kv.bad n w g)
  have HW := Lib.hid (fun w => vmay_any 4 0 0 n w (by decide) (by decide))
  have HI := Lib.hid (fun w g => Kv.truth false w g)
  have HJ := Lib.hid (fun w => vmay_any 3 0 0 0 w (by decide) (by decide))
  rw [show mayV 3 0 0 0 = true by decide] at HJ
  rw [hv] at HM HN
  rw [hn] at HB HW
  have HX := Lib.hid (fun w g => Kv.none C' X w g c1' c2' hS)
  have HY := Lib.hid (fun w => nis_no C' X w hS)
  obtain ⟨s, hs⟩ : ∃ s, (⟨(textV K C U E).toArray⟩ : ByteArray) = s := ⟨_, rfl⟩
  rw [hs] at HT HR
  have ls : s.data.toList = textV K C U E := by rw [← hs]
  have es : (s.toList == []) = true := by rw [Lib.toList_data, ls, val_none hv]; rfl
  have qs : (s.toList != s.toList) = false := by simp
  clear hs ls hv hn hS c1 c2 c1' c2' Kv g
  have S0 := ((Mem.start w).push #[.int .u8 K, .int .i64 C, .int .i64 U, .int .i64 E] 26).push #[.int .i64 C', .int .i64 X] 23
  simp only [size_alloc] at S0
  go_enter Tryz.func3, Tryz.ntmps3
  have x0_0 := S0.c 0 0 rfl rfl
  have x0_1 := S0.c 0 1 rfl rfl
  have x0_2 := S0.c 0 2 rfl rfl
  have x0_3 := S0.c 0 3 rfl rfl
  have GG := Lib.hid (HK.out.keep _ _ HG.out S0.bl)
  go_wp2_with fail
  refine (HT.out _ GG.out).mono ?_
  rintro e w1 ⟨rfl, b1⟩
  clear x0_0 x0_1 x0_2 x0_3 GG
  have S1 := S0.keep b1
  clear b1 S0
  go_upto_region 2 with fail
  refine wp_region_rel 11 (MemAt w w1.heap.size [(w.heap.size, #[.int .u8 K, .int .i64 C, .int .i64 U, .int .i64 E]), (w.heap.size + 1, #[.int .i64 C', .int .i64 X])] [])
    (fun i => List.getD [VE (.agg #[.int .u8 K, .int .i64 C, .int .i64 U, .int .i64 E]), VE (.bool false), VE (.agg #[.int .u8 K, .int .i64 C, .int .i64 U, .int .i64 E]), VE (.bool false), VE (.bool false), VE (.bool false), VE (.string s), VE (.agg #[.int .u8 K, .int .i64 C, .int .i64 U, .int .i64 E]), VE (.string s), VE (.bool false), VE (.bool false)] i (fun _ _ => False)) [] [4, 5, 6, 9, 10] (by kernel_rfl) (by kernel_rfl) S1.at (fun _ _ h hb => h.grow hb)
    (stays_all (stays_cons (stays_VE _) (stays_cons (stays_VE _) (stays_cons (stays_VE _) (stays_cons (stays_VE _) (stays_cons (stays_VE _) (stays_cons (stays_VE _) (stays_cons (stays_VE _) (stays_cons (stays_VE _) (stays_cons (stays_VE _) (stays_cons (stays_VE _) (stays_cons (stays_VE _) stays_nil)))))))))))) ⟨?_, ?_, ?_, ?_, ?_, ?_, ?_, ?_, ?_, ?_, ?_, trivial⟩ ?_
  · intro ev wv hE hw hd
    refine ifw rfl (ifn rfl ?_)
    have v4 : ev (.tmp 4) = .pointer (some ⟨w.heap.size, 0, none⟩) := hE.tmp 4 rfl
    have kx := hw.m.c 0 0 rfl rfl
    have ky := hw.m.c 0 1 rfl rfl
    have kz := hw.m.c 0 2 rfl rfl
    have ku := hw.m.c 0 3 rfl rfl
    refine rel_val (u := .agg #[.int .u8 K, .int .i64 C, .int .i64 U, .int .i64 E]) (w' := wv) ?_ (Below.refl _ _) ⟨rfl, fun h => by cases h⟩
    have e1 := hE.const; clear hE hd hw
    go_simp
  · intro ev wv hE hw hd
    refine ifw rfl (ifn rfl ?_)
    have v22 : ev (.tmp 22) = .agg #[.int .u8 K, .int .i64 C, .int .i64 U, .int .i64 E] := hd 0 (by decide)
    refine rel_call (f := 6) (args := #[vlV K C U E]) ?_ (HM.out _ (HK.out.keep _ _ HG.out hw.m.bl)) ?_
    · have e0 := hE.func; have e1 := hE.const; clear hE hd hw
      go_simp
    · rintro e w' ⟨rfl, hb⟩
      exact ⟨_, rfl, hb, rfl, fun h => by cases h⟩
  · intro ev wv hE hw hd
    refine ifw rfl (ifn rfl ?_)
    have v4 : ev (.tmp 4) = .pointer (some ⟨w.heap.size, 0, none⟩) := hE.tmp 4 rfl
    have kx := hw.m.c 0 0 rfl rfl
    have ky := hw.m.c 0 1 rfl rfl
    have kz := hw.m.c 0 2 rfl rfl
    have ku := hw.m.c 0 3 rfl rfl
    refine rel_val (u := .agg #[.int .u8 K, .int .i64 C, .int .i64 U, .int .i64 E]) (w' := wv) ?_ (Below.refl _ _) ⟨rfl, fun h => by cases h⟩
    have e1 := hE.const; clear hE hd hw
    go_simp
  · intro ev wv hE hw hd
    refine ifw rfl (ifn rfl ?_)
    have v24 : ev (.tmp 24) = .agg #[.int .u8 K, .int .i64 C, .int .i64 U, .int .i64 E] := hd 2 (by decide)
    refine rel_call (f := 7) (args := #[vlV K C U E]) ?_ (HN.out _) ?_
    · have e0 := hE.func; have e1 := hE.const; clear hE hd hw
      go_simp
    · rintro e w' ⟨rfl, hb⟩
      exact ⟨_, rfl, hb, rfl, fun h => by cases h⟩
  · intro ev wv hE hw hd
    refine ifw rfl (ifw rfl ?_)
    have v23 : ev (.tmp 23) = .bool false := hd 1 (by decide)
    have v25 : ev (.tmp 25) = .bool false := hd 3 (by decide)
    refine ⟨.bool false, fun w => ?_, rfl⟩
    have e1 := hE.const; have e2 := hE.func; clear hE hd hw
    go_simp
  · intro ev wv hE hw hd
    refine ifw rfl (ifw rfl ?_)
    have v26 : ev (.tmp 26) = .bool false := hd 4 (by decide)
    refine ⟨.bool false, fun w => ?_, rfl⟩
    have e1 := hE.const; have e2 := hE.func; clear hE hd hw
    go_simp
  · intro ev wv hE hw hd
    have vg : ev (.tmp 27) = .bool false := hd 5 (by decide)
    refine ifw (by show (yv (ev (.tmp 27)) == some false) = true; rw [vg]; rfl) (ifw rfl ?_)
    clear vg
    have v9 : ev (.tmp 9) = .string s := hE.tmp 9 rfl
    refine ⟨.string s, fun w => ?_, rfl⟩
    have e1 := hE.const; have e2 := hE.func; clear hE hd hw
    go_simp
  · intro ev wv hE hw hd
    have vg : ev (.tmp 27) = .bool false := hd 5 (by decide)
    refine ifw (by show (yv (ev (.tmp 27)) == some false) = true; rw [vg]; rfl) (ifn rfl ?_)
    clear vg
    have v4 : ev (.tmp 4) = .pointer (some ⟨w.heap.size, 0, none⟩) := hE.tmp 4 rfl
    have kx := hw.m.c 0 0 rfl rfl
    have ky := hw.m.c 0 1 rfl rfl
    have kz := hw.m.c 0 2 rfl rfl
    have ku := hw.m.c 0 3 rfl rfl
    refine rel_val (u := .agg #[.int .u8 K, .int .i64 C, .int .i64 U, .int .i64 E]) (w' := wv) ?_ (Below.refl _ _) ⟨rfl, fun h => by cases h⟩
    have e1 := hE.const; clear hE hd hw
    go_simp
  · intro ev wv hE hw hd
    have vg : ev (.tmp 27) = .bool false := hd 5 (by decide)
    refine ifw (by show (yv (ev (.tmp 27)) == some false) = true; rw [vg]; rfl) (ifn rfl ?_)
    clear vg
    have v29 : ev (.tmp 29) = .agg #[.int .u8 K, .int .i64 C, .int .i64 U, .int .i64 E] := hd 7 (by decide)
    refine rel_call (f := 8) (args := #[vlV K C U E]) ?_ (HR.out _) ?_
    · have e0 := hE.func; have e1 := hE.const; clear hE hd hw
      go_simp
    · rintro e w' ⟨rfl, hb⟩
      exact ⟨_, rfl, hb, rfl, fun h => by cases h⟩
  · intro ev wv hE hw hd
    have vg : ev (.tmp 27) = .bool false := hd 5 (by decide)
    refine ifw (by show (yv (ev (.tmp 27)) == some false) = true; rw [vg]; rfl) (ifw rfl ?_)
    clear vg
    have v28 : ev (.tmp 28) = .string s := hd 6 (by decide)
    have v30 : ev (.tmp 30) = .string s := hd 8 (by decide)
    refine ⟨.bool false, fun w => ?_, rfl⟩
    have e1 := hE.const; have e2 := hE.func; clear hE hd hw
    go_simp
  · intro ev wv hE hw hd
    refine ifw rfl (ifw rfl ?_)
    have v27 : ev (.tmp 27) = .bool false := hd 5 (by decide)
    have v31 : ev (.tmp 31) = .bool false := hd 9 (by decide)
    refine ⟨.bool false, fun w => ?_, rfl⟩
    have e1 := hE.const; have e2 := hE.func; clear hE hd hw
    go_simp
  · intro wz hw
    intro v0 h0 _ v1 h1 _ v2 h2 _ v3 h3 _ v4 h4 _ v5 h5 _ v6 h6 _ v7 h7 _ v8 h8 _ v9 h9 _ v10 h10 _
    simp only [Act.put, List.setIfInBounds_toArray, List.set_cons_zero, List.set_cons_succ, List.drop_succ_cons, List.drop_zero]
    obtain rfl : v0 = _ := h0
    obtain rfl : v1 = _ := h1
    obtain rfl : v2 = _ := h2
    obtain rfl : v3 = _ := h3
    obtain rfl : v4 = _ := h4
    obtain rfl : v5 = _ := h5
    obtain rfl : v6 = _ := h6
    obtain rfl : v7 = _ := h7
    obtain rfl : v8 = _ := h8
    obtain rfl : v9 = _ := h9
    obtain rfl : v10 = _ := h10
    change wpList Tryz.prog _ _ _ _ wz
    have S2 := hw.m
    clear hw S1
    go_wp2_with fail
    refine calm_normal ?_
    have x0_0 := S2.c 0 0 rfl rfl
    have x0_1 := S2.c 0 1 rfl rfl
    have x0_2 := S2.c 0 2 rfl rfl
    have x0_3 := S2.c 0 3 rfl rfl
    have x1_0 := S2.c 1 0 rfl rfl
    have x1_1 := S2.c 1 1 rfl rfl
    have GG := Lib.hid (HK.out.keep _ _ HG.out S2.bl)
    go_wp2_with fail
    refine (HX.out _ GG.out).mono ?_
    rintro e w3 ⟨rfl, b3⟩
    clear x0_0 x0_1 x0_2 x0_3 x1_0 x1_1 GG
    have S3 := (S2.keep b3).push #[.int .u8 0, .int .i64 0, .int .i64 0, .int .i64 0] 26
    clear b3 S2
    have x0_0 := S3.c 0 0 rfl rfl
    have x0_1 := S3.c 0 1 rfl rfl
    have x0_2 := S3.c 0 2 rfl rfl
    have x0_3 := S3.c 0 3 rfl rfl
    have x1_0 := S3.c 1 0 rfl rfl
    have x1_1 := S3.c 1 1 rfl rfl
    have GG := Lib.hid (HK.out.keep _ _ HG.out S3.bl)
    go_wp2_with fail
    refine (HB.out _ GG.out).mono ?_
    rintro e w4 ⟨rfl, b4⟩
    clear x0_0 x0_1 x0_2 x0_3 x1_0 x1_1 GG
    have S4 := (S3.keep b4).push #[.int .u8 4, .int .i64 0, .int .i64 0, .int .i64 n] 26
    clear b4 S3
    have GG := Lib.hid (HK.out.keep _ _ HG.out S4.bl)
    go_wp2_with fail
    refine (HI.out _ GG.out).mono ?_
    rintro e w5 ⟨rfl, b5⟩
    clear GG
    have S5 := (S4.keep b5).push #[.int .u8 3, .int .i64 0, .int .i64 0, .int .i64 0] 26
    clear b5 S4
    have x4_0 := S5.c 4 0 rfl rfl
    have x4_1 := S5.c 4 1 rfl rfl
    have x4_2 := S5.c 4 2 rfl rfl
    have x4_3 := S5.c 4 3 rfl rfl
    have GG := Lib.hid (HK.out.keep _ _ HG.out S5.bl)
    go_wp2_with fail
    refine (HJ.out _).mono ?_
    rintro e w6 ⟨rfl, b6⟩
    clear x4_0 x4_1 x4_2 x4_3 GG
    have S6 := S5.keep b6
    clear b6 S5
    have T6 := S6.push #[.int .u8 4, .int .i64 0, .int .i64 0, .int .i64 n] 26
    clear S6
    have S6 := T6
    clear T6
    have x5_0 := S6.c 5 0 rfl rfl
    have x5_1 := S6.c 5 1 rfl rfl
    have x5_2 := S6.c 5 2 rfl rfl
    have x5_3 := S6.c 5 3 rfl rfl
    have GG := Lib.hid (HK.out.keep _ _ HG.out S6.bl)
    go_wp2_with fail
    refine (HW.out _).mono ?_
    rintro e w7 ⟨rfl, b7⟩
    clear x5_0 x5_1 x5_2 x5_3 GG
    have S7 := S6.keep b7
    clear b7 S6
    have x3_0 := S7.c 3 0 rfl rfl
    have x3_1 := S7.c 3 1 rfl rfl
    have x3_2 := S7.c 3 2 rfl rfl
    have x3_3 := S7.c 3 3 rfl rfl
    have x5_0 := S7.c 5 0 rfl rfl
    have x5_1 := S7.c 5 1 rfl rfl
    have x5_2 := S7.c 5 2 rfl rfl
    have x5_3 := S7.c 5 3 rfl rfl
    have x1_0 := S7.c 1 0 rfl rfl
    have x1_1 := S7.c 1 1 rfl rfl
    have x2_0 := S7.c 2 0 rfl rfl
    have x2_1 := S7.c 2 1 rfl rfl
    have x2_2 := S7.c 2 2 rfl rfl
    have x2_3 := S7.c 2 3 rfl rfl
    have GG := Lib.hid (HK.out.keep _ _ HG.out S7.bl)
    go_wp2_with fail
    refine (HY.out _).mono ?_
    rintro e w8 ⟨rfl, b8⟩
    clear x3_0 x3_1 x3_2 x3_3 x5_0 x5_1 x5_2 x5_3 x1_0 x1_1 x2_0 x2_1 x2_2 x2_3 GG
    have S8 := S7.keep b8
    clear b8 S7
    have x2_0 := S8.c 2 0 rfl rfl
    have x2_1 := S8.c 2 1 rfl rfl
    have x2_2 := S8.c 2 2 rfl rfl
    have x2_3 := S8.c 2 3 rfl rfl
    have GG := Lib.hid (HK.out.keep _ _ HG.out S8.bl)
    have HBL := Lib.hid S8.bl
    go_wp2_with fail
    refine (vknown_any HK.out _ GG.out).mono ?_
    rintro e w9 ⟨rfl, hb⟩
    have HB9 := Lib.hid (HBL.out.trans (hb.mono HBL.out.size))
    clear hb
    go_wp2_with fail
    go_ret
    exact ⟨rfl, HB9.out⟩
set_option maxHeartbeats 4000000 in
theorem vtells_0000 {G : World → Prop} (Kv : VlK G) (K C U E C' n : Int) (X : Int) (w : World) (g : G w) (c1 : -9223372036854775808 ≤ C) (c2 : C ≤ 9223372036854775807) (c1' : -9223372036854775808 ≤ C') (c2' : C' ≤ 9223372036854775807) (hS : X < 0 ∨ 9 < X) (hv : mayV K C U E = false) (hn : mayV 4 0 0 n = false) : Calls Tryz.prog 3 #[vlV K C U E, .agg #[.int .i64 C', .int .i64 X], .bool false, .int .i64 n] w fun e w' => e = .returned (.bool true) ∧ Below w.heap.size w w' := by
  have HK := Lib.hid Kv
  have HG := Lib.hid g
  have HT := Lib.hid (fun w g => Kv.text K C U E w g c1 c2)
  have HM := Lib.hid (fun w g => Kv.may K C U E w g c1 c2)
  have HR := Lib.hid (fun w => vtext_any K C U E w c1 c2)
  have HN := Lib.hid (fun w => vmay_any K C U E w c1 c2)
  have HB := Lib.hid (fun w g => Kv.bad n w g)
  have HW := Lib.hid (fun w => vmay_any 4 0 0 n w (by decide) (by decide))
  have HI := Lib.hid (fun w g => Kv.truth false w g)
  have HJ := Lib.hid (fun w => vmay_any 3 0 0 0 w (by decide) (by decide))
  rw [show mayV 3 0 0 0 = true by decide] at HJ
  rw [hv] at HM HN
  rw [hn] at HB HW
  have HX := Lib.hid (fun w g => Kv.none C' X w g c1' c2' hS)
  have HY := Lib.hid (fun w => nis_no C' X w hS)
  obtain ⟨s, hs⟩ : ∃ s, (⟨(textV K C U E).toArray⟩ : ByteArray) = s := ⟨_, rfl⟩
  rw [hs] at HT HR
  have ls : s.data.toList = textV K C U E := by rw [← hs]
  have es : (s.toList == []) = true := by rw [Lib.toList_data, ls, val_none hv]; rfl
  have qs : (s.toList != s.toList) = false := by simp
  clear hs ls hv hn hS c1 c2 c1' c2' Kv g
  have S0 := ((Mem.start w).push #[.int .u8 K, .int .i64 C, .int .i64 U, .int .i64 E] 26).push #[.int .i64 C', .int .i64 X] 23
  simp only [size_alloc] at S0
  go_enter Tryz.func3, Tryz.ntmps3
  have x0_0 := S0.c 0 0 rfl rfl
  have x0_1 := S0.c 0 1 rfl rfl
  have x0_2 := S0.c 0 2 rfl rfl
  have x0_3 := S0.c 0 3 rfl rfl
  have GG := Lib.hid (HK.out.keep _ _ HG.out S0.bl)
  go_wp2_with fail
  refine (HT.out _ GG.out).mono ?_
  rintro e w1 ⟨rfl, b1⟩
  clear x0_0 x0_1 x0_2 x0_3 GG
  have S1 := S0.keep b1
  clear b1 S0
  go_upto_region 2 with fail
  refine wp_region_rel 11 (MemAt w w1.heap.size [(w.heap.size, #[.int .u8 K, .int .i64 C, .int .i64 U, .int .i64 E]), (w.heap.size + 1, #[.int .i64 C', .int .i64 X])] [])
    (fun i => List.getD [VE (.agg #[.int .u8 K, .int .i64 C, .int .i64 U, .int .i64 E]), VE (.bool false), VE (.agg #[.int .u8 K, .int .i64 C, .int .i64 U, .int .i64 E]), VE (.bool false), VE (.bool false), VE (.bool false), VE (.string s), VE (.agg #[.int .u8 K, .int .i64 C, .int .i64 U, .int .i64 E]), VE (.string s), VE (.bool false), VE (.bool false)] i (fun _ _ => False)) [] [4, 5, 6, 9, 10] (by kernel_rfl) (by kernel_rfl) S1.at (fun _ _ h hb => h.grow hb)
    (stays_all (stays_cons (stays_VE _) (stays_cons (stays_VE _) (stays_cons (stays_VE _) (stays_cons (stays_VE _) (stays_cons (stays_VE _) (stays_cons (stays_VE _) (stays_cons (stays_VE _) (stays_cons (stays_VE _) (stays_cons (stays_VE _) (stays_cons (stays_VE _) (stays_cons (stays_VE _) stays_nil)))))))))))) ⟨?_, ?_, ?_, ?_, ?_, ?_, ?_, ?_, ?_, ?_, ?_, trivial⟩ ?_
  · intro ev wv hE hw hd
    refine ifw rfl (ifn rfl ?_)
    have v4 : ev (.tmp 4) = .pointer (some ⟨w.heap.size, 0, none⟩) := hE.tmp 4 rfl
    have kx := hw.m.c 0 0 rfl rfl
    have ky := hw.m.c 0 1 rfl rfl
    have kz := hw.m.c 0 2 rfl rfl
    have ku := hw.m.c 0 3 rfl rfl
    refine rel_val (u := .agg #[.int .u8 K, .int .i64 C, .int .i64 U, .int .i64 E]) (w' := wv) ?_ (Below.refl _ _) ⟨rfl, fun h => by cases h⟩
    have e1 := hE.const; clear hE hd hw
    go_simp
  · intro ev wv hE hw hd
    refine ifw rfl (ifn rfl ?_)
    have v22 : ev (.tmp 22) = .agg #[.int .u8 K, .int .i64 C, .int .i64 U, .int .i64 E] := hd 0 (by decide)
    refine rel_call (f := 6) (args := #[vlV K C U E]) ?_ (HM.out _ (HK.out.keep _ _ HG.out hw.m.bl)) ?_
    · have e0 := hE.func; have e1 := hE.const; clear hE hd hw
      go_simp
    · rintro e w' ⟨rfl, hb⟩
      exact ⟨_, rfl, hb, rfl, fun h => by cases h⟩
  · intro ev wv hE hw hd
    refine ifw rfl (ifn rfl ?_)
    have v4 : ev (.tmp 4) = .pointer (some ⟨w.heap.size, 0, none⟩) := hE.tmp 4 rfl
    have kx := hw.m.c 0 0 rfl rfl
    have ky := hw.m.c 0 1 rfl rfl
    have kz := hw.m.c 0 2 rfl rfl
    have ku := hw.m.c 0 3 rfl rfl
    refine rel_val (u := .agg #[.int .u8 K, .int .i64 C, .int .i64 U, .int .i64 E]) (w' := wv) ?_ (Below.refl _ _) ⟨rfl, fun h => by cases h⟩
    have e1 := hE.const; clear hE hd hw
    go_simp
  · intro ev wv hE hw hd
    refine ifw rfl (ifn rfl ?_)
    have v24 : ev (.tmp 24) = .agg #[.int .u8 K, .int .i64 C, .int .i64 U, .int .i64 E] := hd 2 (by decide)
    refine rel_call (f := 7) (args := #[vlV K C U E]) ?_ (HN.out _) ?_
    · have e0 := hE.func; have e1 := hE.const; clear hE hd hw
      go_simp
    · rintro e w' ⟨rfl, hb⟩
      exact ⟨_, rfl, hb, rfl, fun h => by cases h⟩
  · intro ev wv hE hw hd
    refine ifw rfl (ifw rfl ?_)
    have v23 : ev (.tmp 23) = .bool false := hd 1 (by decide)
    have v25 : ev (.tmp 25) = .bool false := hd 3 (by decide)
    refine ⟨.bool false, fun w => ?_, rfl⟩
    have e1 := hE.const; have e2 := hE.func; clear hE hd hw
    go_simp
  · intro ev wv hE hw hd
    refine ifw rfl (ifw rfl ?_)
    have v26 : ev (.tmp 26) = .bool false := hd 4 (by decide)
    refine ⟨.bool false, fun w => ?_, rfl⟩
    have e1 := hE.const; have e2 := hE.func; clear hE hd hw
    go_simp
  · intro ev wv hE hw hd
    have vg : ev (.tmp 27) = .bool false := hd 5 (by decide)
    refine ifw (by show (yv (ev (.tmp 27)) == some false) = true; rw [vg]; rfl) (ifw rfl ?_)
    clear vg
    have v9 : ev (.tmp 9) = .string s := hE.tmp 9 rfl
    refine ⟨.string s, fun w => ?_, rfl⟩
    have e1 := hE.const; have e2 := hE.func; clear hE hd hw
    go_simp
  · intro ev wv hE hw hd
    have vg : ev (.tmp 27) = .bool false := hd 5 (by decide)
    refine ifw (by show (yv (ev (.tmp 27)) == some false) = true; rw [vg]; rfl) (ifn rfl ?_)
    clear vg
    have v4 : ev (.tmp 4) = .pointer (some ⟨w.heap.size, 0, none⟩) := hE.tmp 4 rfl
    have kx := hw.m.c 0 0 rfl rfl
    have ky := hw.m.c 0 1 rfl rfl
    have kz := hw.m.c 0 2 rfl rfl
    have ku := hw.m.c 0 3 rfl rfl
    refine rel_val (u := .agg #[.int .u8 K, .int .i64 C, .int .i64 U, .int .i64 E]) (w' := wv) ?_ (Below.refl _ _) ⟨rfl, fun h => by cases h⟩
    have e1 := hE.const; clear hE hd hw
    go_simp
  · intro ev wv hE hw hd
    have vg : ev (.tmp 27) = .bool false := hd 5 (by decide)
    refine ifw (by show (yv (ev (.tmp 27)) == some false) = true; rw [vg]; rfl) (ifn rfl ?_)
    clear vg
    have v29 : ev (.tmp 29) = .agg #[.int .u8 K, .int .i64 C, .int .i64 U, .int .i64 E] := hd 7 (by decide)
    refine rel_call (f := 8) (args := #[vlV K C U E]) ?_ (HR.out _) ?_
    · have e0 := hE.func; have e1 := hE.const; clear hE hd hw
      go_simp
    · rintro e w' ⟨rfl, hb⟩
      exact ⟨_, rfl, hb, rfl, fun h => by cases h⟩
  · intro ev wv hE hw hd
    have vg : ev (.tmp 27) = .bool false := hd 5 (by decide)
    refine ifw (by show (yv (ev (.tmp 27)) == some false) = true; rw [vg]; rfl) (ifw rfl ?_)
    clear vg
    have v28 : ev (.tmp 28) = .string s := hd 6 (by decide)
    have v30 : ev (.tmp 30) = .string s := hd 8 (by decide)
    refine ⟨.bool false, fun w => ?_, rfl⟩
    have e1 := hE.const; have e2 := hE.func; clear hE hd hw
    go_simp
  · intro ev wv hE hw hd
    refine ifw rfl (ifw rfl ?_)
    have v27 : ev (.tmp 27) = .bool false := hd 5 (by decide)
    have v31 : ev (.tmp 31) = .bool false := hd 9 (by decide)
    refine ⟨.bool false, fun w => ?_, rfl⟩
    have e1 := hE.const; have e2 := hE.func; clear hE hd hw
    go_simp
  · intro wz hw
    intro v0 h0 _ v1 h1 _ v2 h2 _ v3 h3 _ v4 h4 _ v5 h5 _ v6 h6 _ v7 h7 _ v8 h8 _ v9 h9 _ v10 h10 _
    simp only [Act.put, List.setIfInBounds_toArray, List.set_cons_zero, List.set_cons_succ, List.drop_succ_cons, List.drop_zero]
    obtain rfl : v0 = _ := h0
    obtain rfl : v1 = _ := h1
    obtain rfl : v2 = _ := h2
    obtain rfl : v3 = _ := h3
    obtain rfl : v4 = _ := h4
    obtain rfl : v5 = _ := h5
    obtain rfl : v6 = _ := h6
    obtain rfl : v7 = _ := h7
    obtain rfl : v8 = _ := h8
    obtain rfl : v9 = _ := h9
    obtain rfl : v10 = _ := h10
    change wpList Tryz.prog _ _ _ _ wz
    have S2 := hw.m
    clear hw S1
    go_wp2_with fail
    refine calm_normal ?_
    have x0_0 := S2.c 0 0 rfl rfl
    have x0_1 := S2.c 0 1 rfl rfl
    have x0_2 := S2.c 0 2 rfl rfl
    have x0_3 := S2.c 0 3 rfl rfl
    have x1_0 := S2.c 1 0 rfl rfl
    have x1_1 := S2.c 1 1 rfl rfl
    have GG := Lib.hid (HK.out.keep _ _ HG.out S2.bl)
    go_wp2_with fail
    refine (HX.out _ GG.out).mono ?_
    rintro e w3 ⟨rfl, b3⟩
    clear x0_0 x0_1 x0_2 x0_3 x1_0 x1_1 GG
    have S3 := (S2.keep b3).push #[.int .u8 0, .int .i64 0, .int .i64 0, .int .i64 0] 26
    clear b3 S2
    have x0_0 := S3.c 0 0 rfl rfl
    have x0_1 := S3.c 0 1 rfl rfl
    have x0_2 := S3.c 0 2 rfl rfl
    have x0_3 := S3.c 0 3 rfl rfl
    have x1_0 := S3.c 1 0 rfl rfl
    have x1_1 := S3.c 1 1 rfl rfl
    have GG := Lib.hid (HK.out.keep _ _ HG.out S3.bl)
    go_wp2_with fail
    refine (HB.out _ GG.out).mono ?_
    rintro e w4 ⟨rfl, b4⟩
    clear x0_0 x0_1 x0_2 x0_3 x1_0 x1_1 GG
    have S4 := (S3.keep b4).push #[.int .u8 0, .int .i64 0, .int .i64 0, .int .i64 0] 26
    clear b4 S3
    have GG := Lib.hid (HK.out.keep _ _ HG.out S4.bl)
    go_wp2_with fail
    refine (HI.out _ GG.out).mono ?_
    rintro e w5 ⟨rfl, b5⟩
    clear GG
    have S5 := (S4.keep b5).push #[.int .u8 3, .int .i64 0, .int .i64 0, .int .i64 0] 26
    clear b5 S4
    have x4_0 := S5.c 4 0 rfl rfl
    have x4_1 := S5.c 4 1 rfl rfl
    have x4_2 := S5.c 4 2 rfl rfl
    have x4_3 := S5.c 4 3 rfl rfl
    have GG := Lib.hid (HK.out.keep _ _ HG.out S5.bl)
    go_wp2_with fail
    refine (HJ.out _).mono ?_
    rintro e w6 ⟨rfl, b6⟩
    clear x4_0 x4_1 x4_2 x4_3 GG
    have S6 := S5.keep b6
    clear b6 S5
    have T6 := S6.push #[.int .u8 4, .int .i64 0, .int .i64 0, .int .i64 n] 26
    clear S6
    have S6 := T6
    clear T6
    have x5_0 := S6.c 5 0 rfl rfl
    have x5_1 := S6.c 5 1 rfl rfl
    have x5_2 := S6.c 5 2 rfl rfl
    have x5_3 := S6.c 5 3 rfl rfl
    have GG := Lib.hid (HK.out.keep _ _ HG.out S6.bl)
    go_wp2_with fail
    refine (HW.out _).mono ?_
    rintro e w7 ⟨rfl, b7⟩
    clear x5_0 x5_1 x5_2 x5_3 GG
    have S7 := S6.keep b7
    clear b7 S6
    have x3_0 := S7.c 3 0 rfl rfl
    have x3_1 := S7.c 3 1 rfl rfl
    have x3_2 := S7.c 3 2 rfl rfl
    have x3_3 := S7.c 3 3 rfl rfl
    have x5_0 := S7.c 5 0 rfl rfl
    have x5_1 := S7.c 5 1 rfl rfl
    have x5_2 := S7.c 5 2 rfl rfl
    have x5_3 := S7.c 5 3 rfl rfl
    have x1_0 := S7.c 1 0 rfl rfl
    have x1_1 := S7.c 1 1 rfl rfl
    have x2_0 := S7.c 2 0 rfl rfl
    have x2_1 := S7.c 2 1 rfl rfl
    have x2_2 := S7.c 2 2 rfl rfl
    have x2_3 := S7.c 2 3 rfl rfl
    have GG := Lib.hid (HK.out.keep _ _ HG.out S7.bl)
    go_wp2_with fail
    refine (HY.out _).mono ?_
    rintro e w8 ⟨rfl, b8⟩
    clear x3_0 x3_1 x3_2 x3_3 x5_0 x5_1 x5_2 x5_3 x1_0 x1_1 x2_0 x2_1 x2_2 x2_3 GG
    have S8 := S7.keep b8
    clear b8 S7
    have x2_0 := S8.c 2 0 rfl rfl
    have x2_1 := S8.c 2 1 rfl rfl
    have x2_2 := S8.c 2 2 rfl rfl
    have x2_3 := S8.c 2 3 rfl rfl
    have GG := Lib.hid (HK.out.keep _ _ HG.out S8.bl)
    have HBL := Lib.hid S8.bl
    go_wp2_with fail
    refine (vknown_any HK.out _ GG.out).mono ?_
    rintro e w9 ⟨rfl, hb⟩
    have HB9 := Lib.hid (HBL.out.trans (hb.mono HBL.out.size))
    clear hb
    go_wp2_with fail
    go_ret
    exact ⟨rfl, HB9.out⟩
end Go.Proofs.YtgojfonnikgboaaGreatDoor

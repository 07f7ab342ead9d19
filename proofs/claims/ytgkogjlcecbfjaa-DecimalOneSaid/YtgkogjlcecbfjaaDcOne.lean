/- DecimalOne at every input. (Written by wip/gen/gendc3.py.) -/
import Derived.Test.YtgkogjlcecbfjaaDcBoth
namespace Go.Proofs.Ytgkogjlcecbfjaa
open Go.RowKit Corr
set_option linter.unusedVariables false
set_option maxRecDepth 100000 in
set_option maxHeartbeats 8000000 in
theorem one_bad (C S s n : Int) (b : Bool) (h1 : Ans 46 #[DV C S] 0 0 2) (h2 : Ans 47 #[DV C S] 0 0 2) (h3 : Ans 48 #[DV C S] 0 0 2) (h4 : Ans 49 #[DV C S, .int .i64 s] 0 0 2) (h5 : AnsB 50 #[DV C S] b) (h6 : AnsB 51 #[DV C S] b) (h7 : AnsB 39 #[DV C S] false) (h8 : True) (h9 : True) : AnsB 7 #[DV C S, .int .i64 s, .int .i64 n] true := fun w => by
  have HK := Lib.hid known2_any
  have H1 := Lib.hid h1
  have H2 := Lib.hid h2
  have H3 := Lib.hid h3
  have H4 := Lib.hid h4
  have H5 := Lib.hid h5
  have H6 := Lib.hid h6
  have H7 := Lib.hid h7
  have H8 := Lib.hid h8
  have H9 := Lib.hid h9
  have HO := Lib.hid (dof_any n)
  clear h1 h2 h3 h4 h5 h6 h7 h8 h9
  have S0 := (Mem.start w).push #[.int .i64 C, .int .i64 S] 59
  go_enter Try.func7, Try.ntmps7
  go_wp2_with fail
  refine (H1.out _).mono ?_
  rintro e w1 ⟨rfl, hb⟩
  have S1 := (S0.keep hb).push #[.int .i64 0, .int .i64 0] 59
  clear S0 hb
  have x0_0 := S1.c 0 0 rfl rfl
  have x0_1 := S1.c 0 1 rfl rfl
  go_wp2_with fail
  refine (H2.out _).mono ?_
  rintro e w2 ⟨rfl, hb⟩
  have S2 := (S1.keep hb).push #[.int .i64 0, .int .i64 0] 59
  clear x0_0 x0_1 S1 hb
  have x0_0 := S2.c 0 0 rfl rfl
  have x0_1 := S2.c 0 1 rfl rfl
  go_wp2_with fail
  refine (H3.out _).mono ?_
  rintro e w3 ⟨rfl, hb⟩
  have S3 := (S2.keep hb).push #[.int .i64 0, .int .i64 0] 59
  clear x0_0 x0_1 S2 hb
  have x0_0 := S3.c 0 0 rfl rfl
  have x0_1 := S3.c 0 1 rfl rfl
  go_wp2_with fail
  refine (H4.out _).mono ?_
  rintro e w4 ⟨rfl, hb⟩
  have S4 := (S3.keep hb).push #[.int .i64 0, .int .i64 0] 59
  clear x0_0 x0_1 S3 hb
  go_upto_region 5 with fail
  generalize w4.alloc (.cells #[.int .i64 0, .int .i64 0] 59) = w5 at *
  have S5 : Mem w w5 [(w.heap.size, #[.int .i64 C, .int .i64 S]), (w1.heap.size, #[.int .i64 0, .int .i64 0]), (w2.heap.size, #[.int .i64 0, .int .i64 0]), (w3.heap.size, #[.int .i64 0, .int .i64 0]), (w4.heap.size, #[.int .i64 0, .int .i64 0])] [] := S4
  clear S4
  refine wp_region_rel 12 (MemAt w w5.heap.size [(w.heap.size, #[.int .i64 C, .int .i64 S]), (w1.heap.size, #[.int .i64 0, .int .i64 0]), (w2.heap.size, #[.int .i64 0, .int .i64 0]), (w3.heap.size, #[.int .i64 0, .int .i64 0]), (w4.heap.size, #[.int .i64 0, .int .i64 0])] [])
    (fun i => List.getD [VE (.agg #[.int .i64 C, .int .i64 S]), VE (.bool b), VE (.agg #[.int .i64 C, .int .i64 S]), VE (.bool b), VE (.bool false), VE (.bool false), VE (.int .i64 n), VE (.agg #[.int .i64 n, .int .i64 0]), VE (.int .i64 n), VE (.agg #[.int .i64 n, .int .i64 0]), VE (.bool false), VE (.bool false)] i (fun _ _ => False)) [] [4, 5, 6, 8, 9, 10, 11] (by kernel_rfl) (by kernel_rfl) S5.at (fun _ _ h hb => h.grow hb)
    (stays_all (stays_cons (stays_VE _) (stays_cons (stays_VE _) (stays_cons (stays_VE _) (stays_cons (stays_VE _) (stays_cons (stays_VE _) (stays_cons (stays_VE _) (stays_cons (stays_VE _) (stays_cons (stays_VE _) (stays_cons (stays_VE _) (stays_cons (stays_VE _) (stays_cons (stays_VE _) (stays_cons (stays_VE _) stays_nil))))))))))))) ⟨?_, ?_, ?_, ?_, ?_, ?_, ?_, ?_, ?_, ?_, ?_, ?_, trivial⟩ ?_
  · intro ev wv hE hw hd
    refine ifw rfl (ifn rfl ?_)
    have v3 : ev (.tmp 3) = .pointer (some ⟨w.heap.size, 0, none⟩) := hE.tmp 3 rfl
    have kx := hw.m.c 0 0 rfl rfl
    have ky := hw.m.c 0 1 rfl rfl
    refine rel_val (u := .agg #[.int .i64 C, .int .i64 S]) (w' := wv) ?_ (Below.refl _ _) ⟨rfl, fun h => by cases h⟩
    have e1 := hE.const; clear hE hd hw
    go_simp
  · intro ev wv hE hw hd
    refine ifw rfl (ifn rfl ?_)
    have v45 : ev (.tmp 45) = .agg #[.int .i64 C, .int .i64 S] := hd 0 (by decide)
    refine rel_call (f := 50) (args := #[.agg #[.int .i64 C, .int .i64 S]]) ?_ (H5.out _) ?_
    · have e0 := hE.func; have e1 := hE.const; clear hE hd hw
      go_simp
    · rintro e w' ⟨rfl, hb⟩
      exact ⟨_, rfl, hb, rfl, fun h => by cases h⟩
  · intro ev wv hE hw hd
    refine ifw rfl (ifn rfl ?_)
    have v3 : ev (.tmp 3) = .pointer (some ⟨w.heap.size, 0, none⟩) := hE.tmp 3 rfl
    have kx := hw.m.c 0 0 rfl rfl
    have ky := hw.m.c 0 1 rfl rfl
    refine rel_val (u := .agg #[.int .i64 C, .int .i64 S]) (w' := wv) ?_ (Below.refl _ _) ⟨rfl, fun h => by cases h⟩
    have e1 := hE.const; clear hE hd hw
    go_simp
  · intro ev wv hE hw hd
    refine ifw rfl (ifn rfl ?_)
    have v47 : ev (.tmp 47) = .agg #[.int .i64 C, .int .i64 S] := hd 2 (by decide)
    refine rel_call (f := 51) (args := #[.agg #[.int .i64 C, .int .i64 S]]) ?_ (H6.out _) ?_
    · have e0 := hE.func; have e1 := hE.const; clear hE hd hw
      go_simp
    · rintro e w' ⟨rfl, hb⟩
      exact ⟨_, rfl, hb, rfl, fun h => by cases h⟩
  · intro ev wv hE hw hd
    refine ifw rfl (ifw rfl ?_)
    have v46 : ev (.tmp 46) = .bool b := hd 1 (by decide)
    have v48 : ev (.tmp 48) = .bool b := hd 3 (by decide)
    refine ⟨.bool false, fun w => ?_, rfl⟩
    have e1 := hE.const; have e2 := hE.func; clear hE hd hw
    go_simp
  · intro ev wv hE hw hd
    refine ifw rfl (ifw rfl ?_)
    have v49 : ev (.tmp 49) = .bool false := hd 4 (by decide)
    refine ⟨.bool false, fun w => ?_, rfl⟩
    have e1 := hE.const; have e2 := hE.func; clear hE hd hw
    go_simp
  · intro ev wv hE hw hd
    have vg : ev (.tmp 50) = .bool false := hd 5 (by decide)
    refine ifw (by show (yv (ev (.tmp 50)) == some false) = true; rw [vg]; rfl) (ifw rfl ?_)
    clear vg
    have v2 : ev (.tmp 2) = .int .i64 n := hE.tmp 2 rfl
    refine ⟨.int .i64 n, fun w => ?_, rfl⟩
    have e1 := hE.const; have e2 := hE.func; clear hE hd hw
    go_simp
  · intro ev wv hE hw hd
    have vg : ev (.tmp 50) = .bool false := hd 5 (by decide)
    refine ifw (by show (yv (ev (.tmp 50)) == some false) = true; rw [vg]; rfl) (ifn rfl ?_)
    clear vg
    have v51 : ev (.tmp 51) = .int .i64 n := hd 6 (by decide)
    refine rel_call (f := 52) (args := #[.int .i64 n]) ?_ (HO.out _) ?_
    · have e0 := hE.func; have e1 := hE.const; clear hE hd hw
      go_simp
    · rintro e w' ⟨rfl, hb⟩
      exact ⟨_, rfl, hb, rfl, fun h => by cases h⟩
  · intro ev wv hE hw hd
    have vg : ev (.tmp 50) = .bool false := hd 5 (by decide)
    refine ifw (by show (yv (ev (.tmp 50)) == some false) = true; rw [vg]; rfl) (ifw rfl ?_)
    clear vg
    have v2 : ev (.tmp 2) = .int .i64 n := hE.tmp 2 rfl
    refine ⟨.int .i64 n, fun w => ?_, rfl⟩
    have e1 := hE.const; have e2 := hE.func; clear hE hd hw
    go_simp
  · intro ev wv hE hw hd
    have vg : ev (.tmp 50) = .bool false := hd 5 (by decide)
    refine ifw (by show (yv (ev (.tmp 50)) == some false) = true; rw [vg]; rfl) (ifw rfl ?_)
    clear vg
    have v53 : ev (.tmp 53) = .int .i64 n := hd 8 (by decide)
    refine ⟨.agg #[.int .i64 n, .int .i64 0], fun w => ?_, rfl⟩
    have e1 := hE.const; have e2 := hE.func; clear hE hd hw
    go_simp
  · intro ev wv hE hw hd
    have vg : ev (.tmp 50) = .bool false := hd 5 (by decide)
    refine ifw (by show (yv (ev (.tmp 50)) == some false) = true; rw [vg]; rfl) (ifw rfl ?_)
    clear vg
    have v52 : ev (.tmp 52) = .agg #[.int .i64 n, .int .i64 0] := hd 7 (by decide)
    have v54 : ev (.tmp 54) = .agg #[.int .i64 n, .int .i64 0] := hd 9 (by decide)
    refine ⟨.bool false, fun w => ?_, rfl⟩
    have e1 := hE.const; have e2 := hE.func; clear hE hd hw
    go_simp
  · intro ev wv hE hw hd
    refine ifw rfl (ifw rfl ?_)
    have v50 : ev (.tmp 50) = .bool false := hd 5 (by decide)
    have v55 : ev (.tmp 55) = .bool false := hd 10 (by decide)
    refine ⟨.bool false, fun w => ?_, rfl⟩
    have e1 := hE.const; have e2 := hE.func; clear hE hd hw
    go_simp
  · intro w6 M6
    intro v0 h0 _ v1 h1 _ v2 h2 _ v3 h3 _ v4 h4 _ v5 h5 _ v6 h6 _ v7 h7 _ v8 h8 _ v9 h9 _ v10 h10 _ v11 h11 _
    simp only [Act.put, List.setIfInBounds_toArray, List.set_cons_zero, List.set_cons_succ, List.drop_succ_cons, List.drop_zero]
    obtain rfl : v0 = _ := h0
    obtain rfl : v1 = _ := h1
    obtain rfl : v2 = _ := h2
    obtain rfl : v3 = _ := h3
    obtain rfl : v4 = _ := h4
    obtain rfl : v5 = _ := h5
    obtain rfl : v6 = _ := h6
    obtain rfl : v7 = _ := h7
    obtain rfl : v8 = _ := h8
    obtain rfl : v9 = _ := h9
    obtain rfl : v10 = _ := h10
    obtain rfl : v11 = _ := h11
    change wpList Try.prog _ _ _ _ w6
    refine calm_normal ?_
    have S6 := M6.m
    clear M6 S5
    have x0_0 := S6.c 0 0 rfl rfl
    have x0_1 := S6.c 0 1 rfl rfl
    go_wp2_with fail
    refine (H7.out _).mono ?_
    rintro e w7 ⟨rfl, hb⟩
    have S7 := S6.keep hb
    clear x0_0 x0_1 S6 hb
    have S8 := S7.push #[.int .i64 0, .int .i64 0] 59
    clear S7
    have x1_0 := S8.c 1 0 rfl rfl
    have x1_1 := S8.c 1 1 rfl rfl
    have x2_0 := S8.c 2 0 rfl rfl
    have x2_1 := S8.c 2 1 rfl rfl
    have x3_0 := S8.c 3 0 rfl rfl
    have x3_1 := S8.c 3 1 rfl rfl
    have x4_0 := S8.c 4 0 rfl rfl
    have x4_1 := S8.c 4 1 rfl rfl
    have x5_0 := S8.c 5 0 rfl rfl
    have x5_1 := S8.c 5 1 rfl rfl
    go_wp2_with fail
    refine (HK.out _).mono ?_
    rintro e wz ⟨rfl, hb⟩
    have HB := Lib.hid (S8.keep hb).bl
    clear hb S8
    clear x1_0 x1_1 x2_0 x2_1 x3_0 x3_1 x4_0 x4_1 x5_0 x5_1
    go_wp2_with fail
    go_ret
    exact ⟨rfl, HB.out⟩
set_option maxRecDepth 100000 in
set_option maxHeartbeats 8000000 in
theorem one_pos_lo (C S s n c1 t1 e1 c2 t2 e2 : Int) (b : Bool) (h1 : Ans 46 #[DV C S] c1 t1 e1) (h2 : Ans 47 #[DV C S] c2 t2 e2) (h3 : Ans 48 #[DV C S] c1 t1 e1) (h4 : Ans 49 #[DV C S, .int .i64 s] 0 0 2) (h5 : AnsB 50 #[DV C S] b) (h6 : AnsB 51 #[DV C S] b) (h7 : AnsB 39 #[DV C S] true) (h8 : Ans 53 #[DV C S] c1 t1 e1) (h9 : Ans 42 #[DV 0 0, DV C S] c2 t2 e2) (h10 : True) (hC : 0 ≤ C) (hs : s < 0) : AnsB 7 #[DV C S, .int .i64 s, .int .i64 n] true := fun w => by
  have HK := Lib.hid known2_any
  have H1 := Lib.hid h1
  have H2 := Lib.hid h2
  have H3 := Lib.hid h3
  have H4 := Lib.hid h4
  have H5 := Lib.hid h5
  have H6 := Lib.hid h6
  have H7 := Lib.hid h7
  have H8 := Lib.hid h8
  have H9 := Lib.hid h9
  have H10 := Lib.hid h10
  have HO := Lib.hid (dof_any n)
  clear h1 h2 h3 h4 h5 h6 h7 h8 h9 h10
  have S0 := (Mem.start w).push #[.int .i64 C, .int .i64 S] 59
  go_enter Try.func7, Try.ntmps7
  go_wp2_with fail
  refine (H1.out _).mono ?_
  rintro e w1 ⟨rfl, hb⟩
  have S1 := (S0.keep hb).push #[.int .i64 c1, .int .i64 t1] 59
  clear S0 hb
  have x0_0 := S1.c 0 0 rfl rfl
  have x0_1 := S1.c 0 1 rfl rfl
  go_wp2_with fail
  refine (H2.out _).mono ?_
  rintro e w2 ⟨rfl, hb⟩
  have S2 := (S1.keep hb).push #[.int .i64 c2, .int .i64 t2] 59
  clear x0_0 x0_1 S1 hb
  have x0_0 := S2.c 0 0 rfl rfl
  have x0_1 := S2.c 0 1 rfl rfl
  go_wp2_with fail
  refine (H3.out _).mono ?_
  rintro e w3 ⟨rfl, hb⟩
  have S3 := (S2.keep hb).push #[.int .i64 c1, .int .i64 t1] 59
  clear x0_0 x0_1 S2 hb
  have x0_0 := S3.c 0 0 rfl rfl
  have x0_1 := S3.c 0 1 rfl rfl
  go_wp2_with fail
  refine (H4.out _).mono ?_
  rintro e w4 ⟨rfl, hb⟩
  have S4 := (S3.keep hb).push #[.int .i64 0, .int .i64 0] 59
  clear x0_0 x0_1 S3 hb
  go_upto_region 5 with fail
  generalize w4.alloc (.cells #[.int .i64 0, .int .i64 0] 59) = w5 at *
  have S5 : Mem w w5 [(w.heap.size, #[.int .i64 C, .int .i64 S]), (w1.heap.size, #[.int .i64 c1, .int .i64 t1]), (w2.heap.size, #[.int .i64 c2, .int .i64 t2]), (w3.heap.size, #[.int .i64 c1, .int .i64 t1]), (w4.heap.size, #[.int .i64 0, .int .i64 0])] [] := S4
  clear S4
  refine wp_region_rel 12 (MemAt w w5.heap.size [(w.heap.size, #[.int .i64 C, .int .i64 S]), (w1.heap.size, #[.int .i64 c1, .int .i64 t1]), (w2.heap.size, #[.int .i64 c2, .int .i64 t2]), (w3.heap.size, #[.int .i64 c1, .int .i64 t1]), (w4.heap.size, #[.int .i64 0, .int .i64 0])] [])
    (fun i => List.getD [VE (.agg #[.int .i64 C, .int .i64 S]), VE (.bool b), VE (.agg #[.int .i64 C, .int .i64 S]), VE (.bool b), VE (.bool false), VE (.bool false), VE (.int .i64 n), VE (.agg #[.int .i64 n, .int .i64 0]), VE (.int .i64 n), VE (.agg #[.int .i64 n, .int .i64 0]), VE (.bool false), VE (.bool false)] i (fun _ _ => False)) [] [4, 5, 6, 8, 9, 10, 11] (by kernel_rfl) (by kernel_rfl) S5.at (fun _ _ h hb => h.grow hb)
    (stays_all (stays_cons (stays_VE _) (stays_cons (stays_VE _) (stays_cons (stays_VE _) (stays_cons (stays_VE _) (stays_cons (stays_VE _) (stays_cons (stays_VE _) (stays_cons (stays_VE _) (stays_cons (stays_VE _) (stays_cons (stays_VE _) (stays_cons (stays_VE _) (stays_cons (stays_VE _) (stays_cons (stays_VE _) stays_nil))))))))))))) ⟨?_, ?_, ?_, ?_, ?_, ?_, ?_, ?_, ?_, ?_, ?_, ?_, trivial⟩ ?_
  · intro ev wv hE hw hd
    refine ifw rfl (ifn rfl ?_)
    have v3 : ev (.tmp 3) = .pointer (some ⟨w.heap.size, 0, none⟩) := hE.tmp 3 rfl
    have kx := hw.m.c 0 0 rfl rfl
    have ky := hw.m.c 0 1 rfl rfl
    refine rel_val (u := .agg #[.int .i64 C, .int .i64 S]) (w' := wv) ?_ (Below.refl _ _) ⟨rfl, fun h => by cases h⟩
    have e1 := hE.const; clear hE hd hw
    go_simp
  · intro ev wv hE hw hd
    refine ifw rfl (ifn rfl ?_)
    have v45 : ev (.tmp 45) = .agg #[.int .i64 C, .int .i64 S] := hd 0 (by decide)
    refine rel_call (f := 50) (args := #[.agg #[.int .i64 C, .int .i64 S]]) ?_ (H5.out _) ?_
    · have e0 := hE.func; have e1 := hE.const; clear hE hd hw
      go_simp
    · rintro e w' ⟨rfl, hb⟩
      exact ⟨_, rfl, hb, rfl, fun h => by cases h⟩
  · intro ev wv hE hw hd
    refine ifw rfl (ifn rfl ?_)
    have v3 : ev (.tmp 3) = .pointer (some ⟨w.heap.size, 0, none⟩) := hE.tmp 3 rfl
    have kx := hw.m.c 0 0 rfl rfl
    have ky := hw.m.c 0 1 rfl rfl
    refine rel_val (u := .agg #[.int .i64 C, .int .i64 S]) (w' := wv) ?_ (Below.refl _ _) ⟨rfl, fun h => by cases h⟩
    have e1 := hE.const; clear hE hd hw
    go_simp
  · intro ev wv hE hw hd
    refine ifw rfl (ifn rfl ?_)
    have v47 : ev (.tmp 47) = .agg #[.int .i64 C, .int .i64 S] := hd 2 (by decide)
    refine rel_call (f := 51) (args := #[.agg #[.int .i64 C, .int .i64 S]]) ?_ (H6.out _) ?_
    · have e0 := hE.func; have e1 := hE.const; clear hE hd hw
      go_simp
    · rintro e w' ⟨rfl, hb⟩
      exact ⟨_, rfl, hb, rfl, fun h => by cases h⟩
  · intro ev wv hE hw hd
    refine ifw rfl (ifw rfl ?_)
    have v46 : ev (.tmp 46) = .bool b := hd 1 (by decide)
    have v48 : ev (.tmp 48) = .bool b := hd 3 (by decide)
    refine ⟨.bool false, fun w => ?_, rfl⟩
    have e1 := hE.const; have e2 := hE.func; clear hE hd hw
    go_simp
  · intro ev wv hE hw hd
    refine ifw rfl (ifw rfl ?_)
    have v49 : ev (.tmp 49) = .bool false := hd 4 (by decide)
    refine ⟨.bool false, fun w => ?_, rfl⟩
    have e1 := hE.const; have e2 := hE.func; clear hE hd hw
    go_simp
  · intro ev wv hE hw hd
    have vg : ev (.tmp 50) = .bool false := hd 5 (by decide)
    refine ifw (by show (yv (ev (.tmp 50)) == some false) = true; rw [vg]; rfl) (ifw rfl ?_)
    clear vg
    have v2 : ev (.tmp 2) = .int .i64 n := hE.tmp 2 rfl
    refine ⟨.int .i64 n, fun w => ?_, rfl⟩
    have e1 := hE.const; have e2 := hE.func; clear hE hd hw
    go_simp
  · intro ev wv hE hw hd
    have vg : ev (.tmp 50) = .bool false := hd 5 (by decide)
    refine ifw (by show (yv (ev (.tmp 50)) == some false) = true; rw [vg]; rfl) (ifn rfl ?_)
    clear vg
    have v51 : ev (.tmp 51) = .int .i64 n := hd 6 (by decide)
    refine rel_call (f := 52) (args := #[.int .i64 n]) ?_ (HO.out _) ?_
    · have e0 := hE.func; have e1 := hE.const; clear hE hd hw
      go_simp
    · rintro e w' ⟨rfl, hb⟩
      exact ⟨_, rfl, hb, rfl, fun h => by cases h⟩
  · intro ev wv hE hw hd
    have vg : ev (.tmp 50) = .bool false := hd 5 (by decide)
    refine ifw (by show (yv (ev (.tmp 50)) == some false) = true; rw [vg]; rfl) (ifw rfl ?_)
    clear vg
    have v2 : ev (.tmp 2) = .int .i64 n := hE.tmp 2 rfl
    refine ⟨.int .i64 n, fun w => ?_, rfl⟩
    have e1 := hE.const; have e2 := hE.func; clear hE hd hw
    go_simp
  · intro ev wv hE hw hd
    have vg : ev (.tmp 50) = .bool false := hd 5 (by decide)
    refine ifw (by show (yv (ev (.tmp 50)) == some false) = true; rw [vg]; rfl) (ifw rfl ?_)
    clear vg
    have v53 : ev (.tmp 53) = .int .i64 n := hd 8 (by decide)
    refine ⟨.agg #[.int .i64 n, .int .i64 0], fun w => ?_, rfl⟩
    have e1 := hE.const; have e2 := hE.func; clear hE hd hw
    go_simp
  · intro ev wv hE hw hd
    have vg : ev (.tmp 50) = .bool false := hd 5 (by decide)
    refine ifw (by show (yv (ev (.tmp 50)) == some false) = true; rw [vg]; rfl) (ifw rfl ?_)
    clear vg
    have v52 : ev (.tmp 52) = .agg #[.int .i64 n, .int .i64 0] := hd 7 (by decide)
    have v54 : ev (.tmp 54) = .agg #[.int .i64 n, .int .i64 0] := hd 9 (by decide)
    refine ⟨.bool false, fun w => ?_, rfl⟩
    have e1 := hE.const; have e2 := hE.func; clear hE hd hw
    go_simp
  · intro ev wv hE hw hd
    refine ifw rfl (ifw rfl ?_)
    have v50 : ev (.tmp 50) = .bool false := hd 5 (by decide)
    have v55 : ev (.tmp 55) = .bool false := hd 10 (by decide)
    refine ⟨.bool false, fun w => ?_, rfl⟩
    have e1 := hE.const; have e2 := hE.func; clear hE hd hw
    go_simp
  · intro w6 M6
    intro v0 h0 _ v1 h1 _ v2 h2 _ v3 h3 _ v4 h4 _ v5 h5 _ v6 h6 _ v7 h7 _ v8 h8 _ v9 h9 _ v10 h10 _ v11 h11 _
    simp only [Act.put, List.setIfInBounds_toArray, List.set_cons_zero, List.set_cons_succ, List.drop_succ_cons, List.drop_zero]
    obtain rfl : v0 = _ := h0
    obtain rfl : v1 = _ := h1
    obtain rfl : v2 = _ := h2
    obtain rfl : v3 = _ := h3
    obtain rfl : v4 = _ := h4
    obtain rfl : v5 = _ := h5
    obtain rfl : v6 = _ := h6
    obtain rfl : v7 = _ := h7
    obtain rfl : v8 = _ := h8
    obtain rfl : v9 = _ := h9
    obtain rfl : v10 = _ := h10
    obtain rfl : v11 = _ := h11
    change wpList Try.prog _ _ _ _ w6
    refine calm_normal ?_
    have S6 := M6.m
    clear M6 S5
    have x0_0 := S6.c 0 0 rfl rfl
    have x0_1 := S6.c 0 1 rfl rfl
    go_wp2_with fail
    refine (H7.out _).mono ?_
    rintro e w7 ⟨rfl, hb⟩
    have S7 := S6.keep hb
    clear x0_0 x0_1 S6 hb
    have x0_0 := S7.c 0 0 rfl rfl
    have x0_1 := S7.c 0 1 rfl rfl
    go_wp2_with fail
    refine (H8.out _).mono ?_
    rintro e w8 ⟨rfl, hb⟩
    have S8 := (S7.keep hb).push #[.int .i64 c1, .int .i64 t1] 59
    clear x0_0 x0_1 S7 hb
    have x0_0 := S8.c 0 0 rfl rfl
    have x0_1 := S8.c 0 1 rfl rfl
    have x5_0 := S8.c 5 0 rfl rfl
    have x5_1 := S8.c 5 1 rfl rfl
    go_wp2_with fail
    refine (H9.out _).mono ?_
    rintro e w9 ⟨rfl, hb⟩
    have S9 := (S8.keep hb).push #[.int .i64 c2, .int .i64 t2] 59
    clear x0_0 x0_1 x5_0 x5_1 S8 hb
    have x0_0 := S9.c 0 0 rfl rfl
    have x0_1 := S9.c 0 1 rfl rfl
    have x5_0 := S9.c 5 0 rfl rfl
    have x5_1 := S9.c 5 1 rfl rfl
    have S10 := S9.push #[.int .i64 c1, .int .i64 t1] 59
    simp only [size_alloc] at S10
    have q0_0 := S10.c 0 0 rfl rfl; have q0_1 := S10.c 0 1 rfl rfl
    have q6_0 := S10.c 6 0 rfl rfl; have q6_1 := S10.c 6 1 rfl rfl
    have S11 := S10
    clear S9 S10
    go_upto_region 15 with fail
    clear x0_0 x0_1 x5_0 x5_1 q0_0 q0_1 q6_0 q6_1
    have x0_0 := S11.c 0 0 rfl rfl
    have x0_1 := S11.c 0 1 rfl rfl
    have x1_0 := S11.c 1 0 rfl rfl
    have x1_1 := S11.c 1 1 rfl rfl
    have x2_0 := S11.c 2 0 rfl rfl
    have x2_1 := S11.c 2 1 rfl rfl
    have x3_0 := S11.c 3 0 rfl rfl
    have x3_1 := S11.c 3 1 rfl rfl
    have x4_0 := S11.c 4 0 rfl rfl
    have x4_1 := S11.c 4 1 rfl rfl
    have x5_0 := S11.c 5 0 rfl rfl
    have x5_1 := S11.c 5 1 rfl rfl
    have x6_0 := S11.c 6 0 rfl rfl
    have x6_1 := S11.c 6 1 rfl rfl
    have x7_0 := S11.c 7 0 rfl rfl
    have x7_1 := S11.c 7 1 rfl rfl
    go_wp2_with fail
    refine (HK.out _).mono ?_
    rintro e wz ⟨rfl, hb⟩
    have HB := Lib.hid (S11.keep hb).bl
    clear hb S11
    clear x0_0 x0_1 x1_0 x1_1 x2_0 x2_1 x3_0 x3_1 x4_0 x4_1 x5_0 x5_1 x6_0 x6_1 x7_0 x7_1
    go_wp2_with fail
    go_ret
    exact ⟨rfl, HB.out⟩
set_option maxRecDepth 100000 in
set_option maxHeartbeats 8000000 in
theorem one_pos_hi (C S s n c1 t1 e1 c2 t2 e2 : Int) (b : Bool) (h1 : Ans 46 #[DV C S] c1 t1 e1) (h2 : Ans 47 #[DV C S] c2 t2 e2) (h3 : Ans 48 #[DV C S] c1 t1 e1) (h4 : Ans 49 #[DV C S, .int .i64 s] 0 0 2) (h5 : AnsB 50 #[DV C S] b) (h6 : AnsB 51 #[DV C S] b) (h7 : AnsB 39 #[DV C S] true) (h8 : Ans 53 #[DV C S] c1 t1 e1) (h9 : Ans 42 #[DV 0 0, DV C S] c2 t2 e2) (h10 : True) (hC : 0 ≤ C) (hs : 9 < s) : AnsB 7 #[DV C S, .int .i64 s, .int .i64 n] true := fun w => by
  have HK := Lib.hid known2_any
  have H1 := Lib.hid h1
  have H2 := Lib.hid h2
  have H3 := Lib.hid h3
  have H4 := Lib.hid h4
  have H5 := Lib.hid h5
  have H6 := Lib.hid h6
  have H7 := Lib.hid h7
  have H8 := Lib.hid h8
  have H9 := Lib.hid h9
  have H10 := Lib.hid h10
  have HO := Lib.hid (dof_any n)
  clear h1 h2 h3 h4 h5 h6 h7 h8 h9 h10
  have hs0 : 0 ≤ s := by omega
  have S0 := (Mem.start w).push #[.int .i64 C, .int .i64 S] 59
  go_enter Try.func7, Try.ntmps7
  go_wp2_with fail
  refine (H1.out _).mono ?_
  rintro e w1 ⟨rfl, hb⟩
  have S1 := (S0.keep hb).push #[.int .i64 c1, .int .i64 t1] 59
  clear S0 hb
  have x0_0 := S1.c 0 0 rfl rfl
  have x0_1 := S1.c 0 1 rfl rfl
  go_wp2_with fail
  refine (H2.out _).mono ?_
  rintro e w2 ⟨rfl, hb⟩
  have S2 := (S1.keep hb).push #[.int .i64 c2, .int .i64 t2] 59
  clear x0_0 x0_1 S1 hb
  have x0_0 := S2.c 0 0 rfl rfl
  have x0_1 := S2.c 0 1 rfl rfl
  go_wp2_with fail
  refine (H3.out _).mono ?_
  rintro e w3 ⟨rfl, hb⟩
  have S3 := (S2.keep hb).push #[.int .i64 c1, .int .i64 t1] 59
  clear x0_0 x0_1 S2 hb
  have x0_0 := S3.c 0 0 rfl rfl
  have x0_1 := S3.c 0 1 rfl rfl
  go_wp2_with fail
  refine (H4.out _).mono ?_
  rintro e w4 ⟨rfl, hb⟩
  have S4 := (S3.keep hb).push #[.int .i64 0, .int .i64 0] 59
  clear x0_0 x0_1 S3 hb
  go_upto_region 5 with fail
  generalize w4.alloc (.cells #[.int .i64 0, .int .i64 0] 59) = w5 at *
  have S5 : Mem w w5 [(w.heap.size, #[.int .i64 C, .int .i64 S]), (w1.heap.size, #[.int .i64 c1, .int .i64 t1]), (w2.heap.size, #[.int .i64 c2, .int .i64 t2]), (w3.heap.size, #[.int .i64 c1, .int .i64 t1]), (w4.heap.size, #[.int .i64 0, .int .i64 0])] [] := S4
  clear S4
  refine wp_region_rel 12 (MemAt w w5.heap.size [(w.heap.size, #[.int .i64 C, .int .i64 S]), (w1.heap.size, #[.int .i64 c1, .int .i64 t1]), (w2.heap.size, #[.int .i64 c2, .int .i64 t2]), (w3.heap.size, #[.int .i64 c1, .int .i64 t1]), (w4.heap.size, #[.int .i64 0, .int .i64 0])] [])
    (fun i => List.getD [VE (.agg #[.int .i64 C, .int .i64 S]), VE (.bool b), VE (.agg #[.int .i64 C, .int .i64 S]), VE (.bool b), VE (.bool false), VE (.bool false), VE (.int .i64 n), VE (.agg #[.int .i64 n, .int .i64 0]), VE (.int .i64 n), VE (.agg #[.int .i64 n, .int .i64 0]), VE (.bool false), VE (.bool false)] i (fun _ _ => False)) [] [4, 5, 6, 8, 9, 10, 11] (by kernel_rfl) (by kernel_rfl) S5.at (fun _ _ h hb => h.grow hb)
    (stays_all (stays_cons (stays_VE _) (stays_cons (stays_VE _) (stays_cons (stays_VE _) (stays_cons (stays_VE _) (stays_cons (stays_VE _) (stays_cons (stays_VE _) (stays_cons (stays_VE _) (stays_cons (stays_VE _) (stays_cons (stays_VE _) (stays_cons (stays_VE _) (stays_cons (stays_VE _) (stays_cons (stays_VE _) stays_nil))))))))))))) ⟨?_, ?_, ?_, ?_, ?_, ?_, ?_, ?_, ?_, ?_, ?_, ?_, trivial⟩ ?_
  · intro ev wv hE hw hd
    refine ifw rfl (ifn rfl ?_)
    have v3 : ev (.tmp 3) = .pointer (some ⟨w.heap.size, 0, none⟩) := hE.tmp 3 rfl
    have kx := hw.m.c 0 0 rfl rfl
    have ky := hw.m.c 0 1 rfl rfl
    refine rel_val (u := .agg #[.int .i64 C, .int .i64 S]) (w' := wv) ?_ (Below.refl _ _) ⟨rfl, fun h => by cases h⟩
    have e1 := hE.const; clear hE hd hw
    go_simp
  · intro ev wv hE hw hd
    refine ifw rfl (ifn rfl ?_)
    have v45 : ev (.tmp 45) = .agg #[.int .i64 C, .int .i64 S] := hd 0 (by decide)
    refine rel_call (f := 50) (args := #[.agg #[.int .i64 C, .int .i64 S]]) ?_ (H5.out _) ?_
    · have e0 := hE.func; have e1 := hE.const; clear hE hd hw
      go_simp
    · rintro e w' ⟨rfl, hb⟩
      exact ⟨_, rfl, hb, rfl, fun h => by cases h⟩
  · intro ev wv hE hw hd
    refine ifw rfl (ifn rfl ?_)
    have v3 : ev (.tmp 3) = .pointer (some ⟨w.heap.size, 0, none⟩) := hE.tmp 3 rfl
    have kx := hw.m.c 0 0 rfl rfl
    have ky := hw.m.c 0 1 rfl rfl
    refine rel_val (u := .agg #[.int .i64 C, .int .i64 S]) (w' := wv) ?_ (Below.refl _ _) ⟨rfl, fun h => by cases h⟩
    have e1 := hE.const; clear hE hd hw
    go_simp
  · intro ev wv hE hw hd
    refine ifw rfl (ifn rfl ?_)
    have v47 : ev (.tmp 47) = .agg #[.int .i64 C, .int .i64 S] := hd 2 (by decide)
    refine rel_call (f := 51) (args := #[.agg #[.int .i64 C, .int .i64 S]]) ?_ (H6.out _) ?_
    · have e0 := hE.func; have e1 := hE.const; clear hE hd hw
      go_simp
    · rintro e w' ⟨rfl, hb⟩
      exact ⟨_, rfl, hb, rfl, fun h => by cases h⟩
  · intro ev wv hE hw hd
    refine ifw rfl (ifw rfl ?_)
    have v46 : ev (.tmp 46) = .bool b := hd 1 (by decide)
    have v48 : ev (.tmp 48) = .bool b := hd 3 (by decide)
    refine ⟨.bool false, fun w => ?_, rfl⟩
    have e1 := hE.const; have e2 := hE.func; clear hE hd hw
    go_simp
  · intro ev wv hE hw hd
    refine ifw rfl (ifw rfl ?_)
    have v49 : ev (.tmp 49) = .bool false := hd 4 (by decide)
    refine ⟨.bool false, fun w => ?_, rfl⟩
    have e1 := hE.const; have e2 := hE.func; clear hE hd hw
    go_simp
  · intro ev wv hE hw hd
    have vg : ev (.tmp 50) = .bool false := hd 5 (by decide)
    refine ifw (by show (yv (ev (.tmp 50)) == some false) = true; rw [vg]; rfl) (ifw rfl ?_)
    clear vg
    have v2 : ev (.tmp 2) = .int .i64 n := hE.tmp 2 rfl
    refine ⟨.int .i64 n, fun w => ?_, rfl⟩
    have e1 := hE.const; have e2 := hE.func; clear hE hd hw
    go_simp
  · intro ev wv hE hw hd
    have vg : ev (.tmp 50) = .bool false := hd 5 (by decide)
    refine ifw (by show (yv (ev (.tmp 50)) == some false) = true; rw [vg]; rfl) (ifn rfl ?_)
    clear vg
    have v51 : ev (.tmp 51) = .int .i64 n := hd 6 (by decide)
    refine rel_call (f := 52) (args := #[.int .i64 n]) ?_ (HO.out _) ?_
    · have e0 := hE.func; have e1 := hE.const; clear hE hd hw
      go_simp
    · rintro e w' ⟨rfl, hb⟩
      exact ⟨_, rfl, hb, rfl, fun h => by cases h⟩
  · intro ev wv hE hw hd
    have vg : ev (.tmp 50) = .bool false := hd 5 (by decide)
    refine ifw (by show (yv (ev (.tmp 50)) == some false) = true; rw [vg]; rfl) (ifw rfl ?_)
    clear vg
    have v2 : ev (.tmp 2) = .int .i64 n := hE.tmp 2 rfl
    refine ⟨.int .i64 n, fun w => ?_, rfl⟩
    have e1 := hE.const; have e2 := hE.func; clear hE hd hw
    go_simp
  · intro ev wv hE hw hd
    have vg : ev (.tmp 50) = .bool false := hd 5 (by decide)
    refine ifw (by show (yv (ev (.tmp 50)) == some false) = true; rw [vg]; rfl) (ifw rfl ?_)
    clear vg
    have v53 : ev (.tmp 53) = .int .i64 n := hd 8 (by decide)
    refine ⟨.agg #[.int .i64 n, .int .i64 0], fun w => ?_, rfl⟩
    have e1 := hE.const; have e2 := hE.func; clear hE hd hw
    go_simp
  · intro ev wv hE hw hd
    have vg : ev (.tmp 50) = .bool false := hd 5 (by decide)
    refine ifw (by show (yv (ev (.tmp 50)) == some false) = true; rw [vg]; rfl) (ifw rfl ?_)
    clear vg
    have v52 : ev (.tmp 52) = .agg #[.int .i64 n, .int .i64 0] := hd 7 (by decide)
    have v54 : ev (.tmp 54) = .agg #[.int .i64 n, .int .i64 0] := hd 9 (by decide)
    refine ⟨.bool false, fun w => ?_, rfl⟩
    have e1 := hE.const; have e2 := hE.func; clear hE hd hw
    go_simp
  · intro ev wv hE hw hd
    refine ifw rfl (ifw rfl ?_)
    have v50 : ev (.tmp 50) = .bool false := hd 5 (by decide)
    have v55 : ev (.tmp 55) = .bool false := hd 10 (by decide)
    refine ⟨.bool false, fun w => ?_, rfl⟩
    have e1 := hE.const; have e2 := hE.func; clear hE hd hw
    go_simp
  · intro w6 M6
    intro v0 h0 _ v1 h1 _ v2 h2 _ v3 h3 _ v4 h4 _ v5 h5 _ v6 h6 _ v7 h7 _ v8 h8 _ v9 h9 _ v10 h10 _ v11 h11 _
    simp only [Act.put, List.setIfInBounds_toArray, List.set_cons_zero, List.set_cons_succ, List.drop_succ_cons, List.drop_zero]
    obtain rfl : v0 = _ := h0
    obtain rfl : v1 = _ := h1
    obtain rfl : v2 = _ := h2
    obtain rfl : v3 = _ := h3
    obtain rfl : v4 = _ := h4
    obtain rfl : v5 = _ := h5
    obtain rfl : v6 = _ := h6
    obtain rfl : v7 = _ := h7
    obtain rfl : v8 = _ := h8
    obtain rfl : v9 = _ := h9
    obtain rfl : v10 = _ := h10
    obtain rfl : v11 = _ := h11
    change wpList Try.prog _ _ _ _ w6
    refine calm_normal ?_
    have S6 := M6.m
    clear M6 S5
    have x0_0 := S6.c 0 0 rfl rfl
    have x0_1 := S6.c 0 1 rfl rfl
    go_wp2_with fail
    refine (H7.out _).mono ?_
    rintro e w7 ⟨rfl, hb⟩
    have S7 := S6.keep hb
    clear x0_0 x0_1 S6 hb
    have x0_0 := S7.c 0 0 rfl rfl
    have x0_1 := S7.c 0 1 rfl rfl
    go_wp2_with fail
    refine (H8.out _).mono ?_
    rintro e w8 ⟨rfl, hb⟩
    have S8 := (S7.keep hb).push #[.int .i64 c1, .int .i64 t1] 59
    clear x0_0 x0_1 S7 hb
    have x0_0 := S8.c 0 0 rfl rfl
    have x0_1 := S8.c 0 1 rfl rfl
    have x5_0 := S8.c 5 0 rfl rfl
    have x5_1 := S8.c 5 1 rfl rfl
    go_wp2_with fail
    refine (H9.out _).mono ?_
    rintro e w9 ⟨rfl, hb⟩
    have S9 := (S8.keep hb).push #[.int .i64 c2, .int .i64 t2] 59
    clear x0_0 x0_1 x5_0 x5_1 S8 hb
    have x0_0 := S9.c 0 0 rfl rfl
    have x0_1 := S9.c 0 1 rfl rfl
    have x5_0 := S9.c 5 0 rfl rfl
    have x5_1 := S9.c 5 1 rfl rfl
    have S10 := S9.push #[.int .i64 c1, .int .i64 t1] 59
    simp only [size_alloc] at S10
    have q0_0 := S10.c 0 0 rfl rfl; have q0_1 := S10.c 0 1 rfl rfl
    have q6_0 := S10.c 6 0 rfl rfl; have q6_1 := S10.c 6 1 rfl rfl
    have S11 := S10
    clear S9 S10
    go_upto_region 15 with fail
    clear x0_0 x0_1 x5_0 x5_1 q0_0 q0_1 q6_0 q6_1
    have x0_0 := S11.c 0 0 rfl rfl
    have x0_1 := S11.c 0 1 rfl rfl
    have x1_0 := S11.c 1 0 rfl rfl
    have x1_1 := S11.c 1 1 rfl rfl
    have x2_0 := S11.c 2 0 rfl rfl
    have x2_1 := S11.c 2 1 rfl rfl
    have x3_0 := S11.c 3 0 rfl rfl
    have x3_1 := S11.c 3 1 rfl rfl
    have x4_0 := S11.c 4 0 rfl rfl
    have x4_1 := S11.c 4 1 rfl rfl
    have x5_0 := S11.c 5 0 rfl rfl
    have x5_1 := S11.c 5 1 rfl rfl
    have x6_0 := S11.c 6 0 rfl rfl
    have x6_1 := S11.c 6 1 rfl rfl
    have x7_0 := S11.c 7 0 rfl rfl
    have x7_1 := S11.c 7 1 rfl rfl
    go_wp2_with fail
    refine (HK.out _).mono ?_
    rintro e wz ⟨rfl, hb⟩
    have HB := Lib.hid (S11.keep hb).bl
    clear hb S11
    clear x0_0 x0_1 x1_0 x1_1 x2_0 x2_1 x3_0 x3_1 x4_0 x4_1 x5_0 x5_1 x6_0 x6_1 x7_0 x7_1
    go_wp2_with fail
    go_ret
    exact ⟨rfl, HB.out⟩
set_option maxRecDepth 100000 in
set_option maxHeartbeats 8000000 in
theorem one_pos_ok (C S s n c1 t1 e1 c2 t2 e2 c4 t4 e4 : Int) (b : Bool) (h1 : Ans 46 #[DV C S] c1 t1 e1) (h2 : Ans 47 #[DV C S] c2 t2 e2) (h3 : Ans 48 #[DV C S] c1 t1 e1) (h4 : Ans 49 #[DV C S, .int .i64 s] c4 t4 e4) (h5 : AnsB 50 #[DV C S] b) (h6 : AnsB 51 #[DV C S] b) (h7 : AnsB 39 #[DV C S] true) (h8 : Ans 53 #[DV C S] c1 t1 e1) (h9 : Ans 42 #[DV 0 0, DV C S] c2 t2 e2) (h10 : True) (h11 : Ans 54 #[DV C S, .int .i64 s] c4 t4 e4) (hC : 0 ≤ C) (hs : 0 ≤ s ∧ s ≤ 9) : AnsB 7 #[DV C S, .int .i64 s, .int .i64 n] true := fun w => by
  obtain ⟨hs0, hs1⟩ := hs
  have HK := Lib.hid known2_any
  have H1 := Lib.hid h1
  have H2 := Lib.hid h2
  have H3 := Lib.hid h3
  have H4 := Lib.hid h4
  have H5 := Lib.hid h5
  have H6 := Lib.hid h6
  have H7 := Lib.hid h7
  have H8 := Lib.hid h8
  have H9 := Lib.hid h9
  have H10 := Lib.hid h10
  have H11 := Lib.hid h11
  have HO := Lib.hid (dof_any n)
  clear h1 h2 h3 h4 h5 h6 h7 h8 h9 h10 h11
  have S0 := (Mem.start w).push #[.int .i64 C, .int .i64 S] 59
  go_enter Try.func7, Try.ntmps7
  go_wp2_with fail
  refine (H1.out _).mono ?_
  rintro e w1 ⟨rfl, hb⟩
  have S1 := (S0.keep hb).push #[.int .i64 c1, .int .i64 t1] 59
  clear S0 hb
  have x0_0 := S1.c 0 0 rfl rfl
  have x0_1 := S1.c 0 1 rfl rfl
  go_wp2_with fail
  refine (H2.out _).mono ?_
  rintro e w2 ⟨rfl, hb⟩
  have S2 := (S1.keep hb).push #[.int .i64 c2, .int .i64 t2] 59
  clear x0_0 x0_1 S1 hb
  have x0_0 := S2.c 0 0 rfl rfl
  have x0_1 := S2.c 0 1 rfl rfl
  go_wp2_with fail
  refine (H3.out _).mono ?_
  rintro e w3 ⟨rfl, hb⟩
  have S3 := (S2.keep hb).push #[.int .i64 c1, .int .i64 t1] 59
  clear x0_0 x0_1 S2 hb
  have x0_0 := S3.c 0 0 rfl rfl
  have x0_1 := S3.c 0 1 rfl rfl
  go_wp2_with fail
  refine (H4.out _).mono ?_
  rintro e w4 ⟨rfl, hb⟩
  have S4 := (S3.keep hb).push #[.int .i64 c4, .int .i64 t4] 59
  clear x0_0 x0_1 S3 hb
  go_upto_region 5 with fail
  generalize w4.alloc (.cells #[.int .i64 c4, .int .i64 t4] 59) = w5 at *
  have S5 : Mem w w5 [(w.heap.size, #[.int .i64 C, .int .i64 S]), (w1.heap.size, #[.int .i64 c1, .int .i64 t1]), (w2.heap.size, #[.int .i64 c2, .int .i64 t2]), (w3.heap.size, #[.int .i64 c1, .int .i64 t1]), (w4.heap.size, #[.int .i64 c4, .int .i64 t4])] [] := S4
  clear S4
  refine wp_region_rel 12 (MemAt w w5.heap.size [(w.heap.size, #[.int .i64 C, .int .i64 S]), (w1.heap.size, #[.int .i64 c1, .int .i64 t1]), (w2.heap.size, #[.int .i64 c2, .int .i64 t2]), (w3.heap.size, #[.int .i64 c1, .int .i64 t1]), (w4.heap.size, #[.int .i64 c4, .int .i64 t4])] [])
    (fun i => List.getD [VE (.agg #[.int .i64 C, .int .i64 S]), VE (.bool b), VE (.agg #[.int .i64 C, .int .i64 S]), VE (.bool b), VE (.bool false), VE (.bool false), VE (.int .i64 n), VE (.agg #[.int .i64 n, .int .i64 0]), VE (.int .i64 n), VE (.agg #[.int .i64 n, .int .i64 0]), VE (.bool false), VE (.bool false)] i (fun _ _ => False)) [] [4, 5, 6, 8, 9, 10, 11] (by kernel_rfl) (by kernel_rfl) S5.at (fun _ _ h hb => h.grow hb)
    (stays_all (stays_cons (stays_VE _) (stays_cons (stays_VE _) (stays_cons (stays_VE _) (stays_cons (stays_VE _) (stays_cons (stays_VE _) (stays_cons (stays_VE _) (stays_cons (stays_VE _) (stays_cons (stays_VE _) (stays_cons (stays_VE _) (stays_cons (stays_VE _) (stays_cons (stays_VE _) (stays_cons (stays_VE _) stays_nil))))))))))))) ⟨?_, ?_, ?_, ?_, ?_, ?_, ?_, ?_, ?_, ?_, ?_, ?_, trivial⟩ ?_
  · intro ev wv hE hw hd
    refine ifw rfl (ifn rfl ?_)
    have v3 : ev (.tmp 3) = .pointer (some ⟨w.heap.size, 0, none⟩) := hE.tmp 3 rfl
    have kx := hw.m.c 0 0 rfl rfl
    have ky := hw.m.c 0 1 rfl rfl
    refine rel_val (u := .agg #[.int .i64 C, .int .i64 S]) (w' := wv) ?_ (Below.refl _ _) ⟨rfl, fun h => by cases h⟩
    have e1 := hE.const; clear hE hd hw
    go_simp
  · intro ev wv hE hw hd
    refine ifw rfl (ifn rfl ?_)
    have v45 : ev (.tmp 45) = .agg #[.int .i64 C, .int .i64 S] := hd 0 (by decide)
    refine rel_call (f := 50) (args := #[.agg #[.int .i64 C, .int .i64 S]]) ?_ (H5.out _) ?_
    · have e0 := hE.func; have e1 := hE.const; clear hE hd hw
      go_simp
    · rintro e w' ⟨rfl, hb⟩
      exact ⟨_, rfl, hb, rfl, fun h => by cases h⟩
  · intro ev wv hE hw hd
    refine ifw rfl (ifn rfl ?_)
    have v3 : ev (.tmp 3) = .pointer (some ⟨w.heap.size, 0, none⟩) := hE.tmp 3 rfl
    have kx := hw.m.c 0 0 rfl rfl
    have ky := hw.m.c 0 1 rfl rfl
    refine rel_val (u := .agg #[.int .i64 C, .int .i64 S]) (w' := wv) ?_ (Below.refl _ _) ⟨rfl, fun h => by cases h⟩
    have e1 := hE.const; clear hE hd hw
    go_simp
  · intro ev wv hE hw hd
    refine ifw rfl (ifn rfl ?_)
    have v47 : ev (.tmp 47) = .agg #[.int .i64 C, .int .i64 S] := hd 2 (by decide)
    refine rel_call (f := 51) (args := #[.agg #[.int .i64 C, .int .i64 S]]) ?_ (H6.out _) ?_
    · have e0 := hE.func; have e1 := hE.const; clear hE hd hw
      go_simp
    · rintro e w' ⟨rfl, hb⟩
      exact ⟨_, rfl, hb, rfl, fun h => by cases h⟩
  · intro ev wv hE hw hd
    refine ifw rfl (ifw rfl ?_)
    have v46 : ev (.tmp 46) = .bool b := hd 1 (by decide)
    have v48 : ev (.tmp 48) = .bool b := hd 3 (by decide)
    refine ⟨.bool false, fun w => ?_, rfl⟩
    have e1 := hE.const; have e2 := hE.func; clear hE hd hw
    go_simp
  · intro ev wv hE hw hd
    refine ifw rfl (ifw rfl ?_)
    have v49 : ev (.tmp 49) = .bool false := hd 4 (by decide)
    refine ⟨.bool false, fun w => ?_, rfl⟩
    have e1 := hE.const; have e2 := hE.func; clear hE hd hw
    go_simp
  · intro ev wv hE hw hd
    have vg : ev (.tmp 50) = .bool false := hd 5 (by decide)
    refine ifw (by show (yv (ev (.tmp 50)) == some false) = true; rw [vg]; rfl) (ifw rfl ?_)
    clear vg
    have v2 : ev (.tmp 2) = .int .i64 n := hE.tmp 2 rfl
    refine ⟨.int .i64 n, fun w => ?_, rfl⟩
    have e1 := hE.const; have e2 := hE.func; clear hE hd hw
    go_simp
  · intro ev wv hE hw hd
    have vg : ev (.tmp 50) = .bool false := hd 5 (by decide)
    refine ifw (by show (yv (ev (.tmp 50)) == some false) = true; rw [vg]; rfl) (ifn rfl ?_)
    clear vg
    have v51 : ev (.tmp 51) = .int .i64 n := hd 6 (by decide)
    refine rel_call (f := 52) (args := #[.int .i64 n]) ?_ (HO.out _) ?_
    · have e0 := hE.func; have e1 := hE.const; clear hE hd hw
      go_simp
    · rintro e w' ⟨rfl, hb⟩
      exact ⟨_, rfl, hb, rfl, fun h => by cases h⟩
  · intro ev wv hE hw hd
    have vg : ev (.tmp 50) = .bool false := hd 5 (by decide)
    refine ifw (by show (yv (ev (.tmp 50)) == some false) = true; rw [vg]; rfl) (ifw rfl ?_)
    clear vg
    have v2 : ev (.tmp 2) = .int .i64 n := hE.tmp 2 rfl
    refine ⟨.int .i64 n, fun w => ?_, rfl⟩
    have e1 := hE.const; have e2 := hE.func; clear hE hd hw
    go_simp
  · intro ev wv hE hw hd
    have vg : ev (.tmp 50) = .bool false := hd 5 (by decide)
    refine ifw (by show (yv (ev (.tmp 50)) == some false) = true; rw [vg]; rfl) (ifw rfl ?_)
    clear vg
    have v53 : ev (.tmp 53) = .int .i64 n := hd 8 (by decide)
    refine ⟨.agg #[.int .i64 n, .int .i64 0], fun w => ?_, rfl⟩
    have e1 := hE.const; have e2 := hE.func; clear hE hd hw
    go_simp
  · intro ev wv hE hw hd
    have vg : ev (.tmp 50) = .bool false := hd 5 (by decide)
    refine ifw (by show (yv (ev (.tmp 50)) == some false) = true; rw [vg]; rfl) (ifw rfl ?_)
    clear vg
    have v52 : ev (.tmp 52) = .agg #[.int .i64 n, .int .i64 0] := hd 7 (by decide)
    have v54 : ev (.tmp 54) = .agg #[.int .i64 n, .int .i64 0] := hd 9 (by decide)
    refine ⟨.bool false, fun w => ?_, rfl⟩
    have e1 := hE.const; have e2 := hE.func; clear hE hd hw
    go_simp
  · intro ev wv hE hw hd
    refine ifw rfl (ifw rfl ?_)
    have v50 : ev (.tmp 50) = .bool false := hd 5 (by decide)
    have v55 : ev (.tmp 55) = .bool false := hd 10 (by decide)
    refine ⟨.bool false, fun w => ?_, rfl⟩
    have e1 := hE.const; have e2 := hE.func; clear hE hd hw
    go_simp
  · intro w6 M6
    intro v0 h0 _ v1 h1 _ v2 h2 _ v3 h3 _ v4 h4 _ v5 h5 _ v6 h6 _ v7 h7 _ v8 h8 _ v9 h9 _ v10 h10 _ v11 h11 _
    simp only [Act.put, List.setIfInBounds_toArray, List.set_cons_zero, List.set_cons_succ, List.drop_succ_cons, List.drop_zero]
    obtain rfl : v0 = _ := h0
    obtain rfl : v1 = _ := h1
    obtain rfl : v2 = _ := h2
    obtain rfl : v3 = _ := h3
    obtain rfl : v4 = _ := h4
    obtain rfl : v5 = _ := h5
    obtain rfl : v6 = _ := h6
    obtain rfl : v7 = _ := h7
    obtain rfl : v8 = _ := h8
    obtain rfl : v9 = _ := h9
    obtain rfl : v10 = _ := h10
    obtain rfl : v11 = _ := h11
    change wpList Try.prog _ _ _ _ w6
    refine calm_normal ?_
    have S6 := M6.m
    clear M6 S5
    have x0_0 := S6.c 0 0 rfl rfl
    have x0_1 := S6.c 0 1 rfl rfl
    go_wp2_with fail
    refine (H7.out _).mono ?_
    rintro e w7 ⟨rfl, hb⟩
    have S7 := S6.keep hb
    clear x0_0 x0_1 S6 hb
    have x0_0 := S7.c 0 0 rfl rfl
    have x0_1 := S7.c 0 1 rfl rfl
    go_wp2_with fail
    refine (H8.out _).mono ?_
    rintro e w8 ⟨rfl, hb⟩
    have S8 := (S7.keep hb).push #[.int .i64 c1, .int .i64 t1] 59
    clear x0_0 x0_1 S7 hb
    have x0_0 := S8.c 0 0 rfl rfl
    have x0_1 := S8.c 0 1 rfl rfl
    have x5_0 := S8.c 5 0 rfl rfl
    have x5_1 := S8.c 5 1 rfl rfl
    go_wp2_with fail
    refine (H9.out _).mono ?_
    rintro e w9 ⟨rfl, hb⟩
    have S9 := (S8.keep hb).push #[.int .i64 c2, .int .i64 t2] 59
    clear x0_0 x0_1 x5_0 x5_1 S8 hb
    have x0_0 := S9.c 0 0 rfl rfl
    have x0_1 := S9.c 0 1 rfl rfl
    have x5_0 := S9.c 5 0 rfl rfl
    have x5_1 := S9.c 5 1 rfl rfl
    have S10 := S9.push #[.int .i64 c1, .int .i64 t1] 59
    simp only [size_alloc] at S10
    have q0_0 := S10.c 0 0 rfl rfl; have q0_1 := S10.c 0 1 rfl rfl
    have q6_0 := S10.c 6 0 rfl rfl; have q6_1 := S10.c 6 1 rfl rfl
    have S11 := S10
    clear S9 S10
    go_upto_region 15 with fail
    clear x0_0 x0_1 x5_0 x5_1 q0_0 q0_1 q6_0 q6_1
    have x0_0 := S11.c 0 0 rfl rfl
    have x0_1 := S11.c 0 1 rfl rfl
    have x1_0 := S11.c 1 0 rfl rfl
    have x1_1 := S11.c 1 1 rfl rfl
    have x2_0 := S11.c 2 0 rfl rfl
    have x2_1 := S11.c 2 1 rfl rfl
    have x3_0 := S11.c 3 0 rfl rfl
    have x3_1 := S11.c 3 1 rfl rfl
    have x4_0 := S11.c 4 0 rfl rfl
    have x4_1 := S11.c 4 1 rfl rfl
    have x5_0 := S11.c 5 0 rfl rfl
    have x5_1 := S11.c 5 1 rfl rfl
    have x6_0 := S11.c 6 0 rfl rfl
    have x6_1 := S11.c 6 1 rfl rfl
    have x7_0 := S11.c 7 0 rfl rfl
    have x7_1 := S11.c 7 1 rfl rfl
    go_wp2_with fail
    refine (H11.out _).mono ?_
    rintro e w12 ⟨rfl, hb⟩
    have S12 := (S11.keep hb).push #[.int .i64 c4, .int .i64 t4] 59
    clear x0_0 x0_1 x1_0 x1_1 x2_0 x2_1 x3_0 x3_1 x4_0 x4_1 x5_0 x5_1 x6_0 x6_1 x7_0 x7_1 S11 hb
    have x4_0 := S12.c 4 0 rfl rfl
    have x4_1 := S12.c 4 1 rfl rfl
    have x8_0 := S12.c 8 0 rfl rfl
    have x8_1 := S12.c 8 1 rfl rfl
    go_wp2_with fail
    refine (HK.out _).mono ?_
    rintro e wz ⟨rfl, hb⟩
    have HB := Lib.hid (S12.keep hb).bl
    clear hb S12
    clear x4_0 x4_1 x8_0 x8_1
    go_wp2_with fail
    go_ret
    exact ⟨rfl, HB.out⟩
set_option maxRecDepth 100000 in
set_option maxHeartbeats 8000000 in
theorem one_neg_lo (C S s n c1 t1 e1 c2 t2 e2 : Int) (b : Bool) (h1 : Ans 46 #[DV C S] c1 t1 e1) (h2 : Ans 47 #[DV C S] c2 t2 e2) (h3 : Ans 48 #[DV C S] c2 t2 e2) (h4 : Ans 49 #[DV C S, .int .i64 s] 0 0 2) (h5 : AnsB 50 #[DV C S] b) (h6 : AnsB 51 #[DV C S] b) (h7 : AnsB 39 #[DV C S] true) (h8 : Ans 53 #[DV C S] c1 t1 e1) (h9 : Ans 42 #[DV 0 0, DV C S] c2 t2 e2) (h10 : True) (hC : C < 0) (hs : s < 0) : AnsB 7 #[DV C S, .int .i64 s, .int .i64 n] true := fun w => by
  have HK := Lib.hid known2_any
  have H1 := Lib.hid h1
  have H2 := Lib.hid h2
  have H3 := Lib.hid h3
  have H4 := Lib.hid h4
  have H5 := Lib.hid h5
  have H6 := Lib.hid h6
  have H7 := Lib.hid h7
  have H8 := Lib.hid h8
  have H9 := Lib.hid h9
  have H10 := Lib.hid h10
  have HO := Lib.hid (dof_any n)
  clear h1 h2 h3 h4 h5 h6 h7 h8 h9 h10
  have S0 := (Mem.start w).push #[.int .i64 C, .int .i64 S] 59
  go_enter Try.func7, Try.ntmps7
  go_wp2_with fail
  refine (H1.out _).mono ?_
  rintro e w1 ⟨rfl, hb⟩
  have S1 := (S0.keep hb).push #[.int .i64 c1, .int .i64 t1] 59
  clear S0 hb
  have x0_0 := S1.c 0 0 rfl rfl
  have x0_1 := S1.c 0 1 rfl rfl
  go_wp2_with fail
  refine (H2.out _).mono ?_
  rintro e w2 ⟨rfl, hb⟩
  have S2 := (S1.keep hb).push #[.int .i64 c2, .int .i64 t2] 59
  clear x0_0 x0_1 S1 hb
  have x0_0 := S2.c 0 0 rfl rfl
  have x0_1 := S2.c 0 1 rfl rfl
  go_wp2_with fail
  refine (H3.out _).mono ?_
  rintro e w3 ⟨rfl, hb⟩
  have S3 := (S2.keep hb).push #[.int .i64 c2, .int .i64 t2] 59
  clear x0_0 x0_1 S2 hb
  have x0_0 := S3.c 0 0 rfl rfl
  have x0_1 := S3.c 0 1 rfl rfl
  go_wp2_with fail
  refine (H4.out _).mono ?_
  rintro e w4 ⟨rfl, hb⟩
  have S4 := (S3.keep hb).push #[.int .i64 0, .int .i64 0] 59
  clear x0_0 x0_1 S3 hb
  go_upto_region 5 with fail
  generalize w4.alloc (.cells #[.int .i64 0, .int .i64 0] 59) = w5 at *
  have S5 : Mem w w5 [(w.heap.size, #[.int .i64 C, .int .i64 S]), (w1.heap.size, #[.int .i64 c1, .int .i64 t1]), (w2.heap.size, #[.int .i64 c2, .int .i64 t2]), (w3.heap.size, #[.int .i64 c2, .int .i64 t2]), (w4.heap.size, #[.int .i64 0, .int .i64 0])] [] := S4
  clear S4
  refine wp_region_rel 12 (MemAt w w5.heap.size [(w.heap.size, #[.int .i64 C, .int .i64 S]), (w1.heap.size, #[.int .i64 c1, .int .i64 t1]), (w2.heap.size, #[.int .i64 c2, .int .i64 t2]), (w3.heap.size, #[.int .i64 c2, .int .i64 t2]), (w4.heap.size, #[.int .i64 0, .int .i64 0])] [])
    (fun i => List.getD [VE (.agg #[.int .i64 C, .int .i64 S]), VE (.bool b), VE (.agg #[.int .i64 C, .int .i64 S]), VE (.bool b), VE (.bool false), VE (.bool false), VE (.int .i64 n), VE (.agg #[.int .i64 n, .int .i64 0]), VE (.int .i64 n), VE (.agg #[.int .i64 n, .int .i64 0]), VE (.bool false), VE (.bool false)] i (fun _ _ => False)) [] [4, 5, 6, 8, 9, 10, 11] (by kernel_rfl) (by kernel_rfl) S5.at (fun _ _ h hb => h.grow hb)
    (stays_all (stays_cons (stays_VE _) (stays_cons (stays_VE _) (stays_cons (stays_VE _) (stays_cons (stays_VE _) (stays_cons (stays_VE _) (stays_cons (stays_VE _) (stays_cons (stays_VE _) (stays_cons (stays_VE _) (stays_cons (stays_VE _) (stays_cons (stays_VE _) (stays_cons (stays_VE _) (stays_cons (stays_VE _) stays_nil))))))))))))) ⟨?_, ?_, ?_, ?_, ?_, ?_, ?_, ?_, ?_, ?_, ?_, ?_, trivial⟩ ?_
  · intro ev wv hE hw hd
    refine ifw rfl (ifn rfl ?_)
    have v3 : ev (.tmp 3) = .pointer (some ⟨w.heap.size, 0, none⟩) := hE.tmp 3 rfl
    have kx := hw.m.c 0 0 rfl rfl
    have ky := hw.m.c 0 1 rfl rfl
    refine rel_val (u := .agg #[.int .i64 C, .int .i64 S]) (w' := wv) ?_ (Below.refl _ _) ⟨rfl, fun h => by cases h⟩
    have e1 := hE.const; clear hE hd hw
    go_simp
  · intro ev wv hE hw hd
    refine ifw rfl (ifn rfl ?_)
    have v45 : ev (.tmp 45) = .agg #[.int .i64 C, .int .i64 S] := hd 0 (by decide)
    refine rel_call (f := 50) (args := #[.agg #[.int .i64 C, .int .i64 S]]) ?_ (H5.out _) ?_
    · have e0 := hE.func; have e1 := hE.const; clear hE hd hw
      go_simp
    · rintro e w' ⟨rfl, hb⟩
      exact ⟨_, rfl, hb, rfl, fun h => by cases h⟩
  · intro ev wv hE hw hd
    refine ifw rfl (ifn rfl ?_)
    have v3 : ev (.tmp 3) = .pointer (some ⟨w.heap.size, 0, none⟩) := hE.tmp 3 rfl
    have kx := hw.m.c 0 0 rfl rfl
    have ky := hw.m.c 0 1 rfl rfl
    refine rel_val (u := .agg #[.int .i64 C, .int .i64 S]) (w' := wv) ?_ (Below.refl _ _) ⟨rfl, fun h => by cases h⟩
    have e1 := hE.const; clear hE hd hw
    go_simp
  · intro ev wv hE hw hd
    refine ifw rfl (ifn rfl ?_)
    have v47 : ev (.tmp 47) = .agg #[.int .i64 C, .int .i64 S] := hd 2 (by decide)
    refine rel_call (f := 51) (args := #[.agg #[.int .i64 C, .int .i64 S]]) ?_ (H6.out _) ?_
    · have e0 := hE.func; have e1 := hE.const; clear hE hd hw
      go_simp
    · rintro e w' ⟨rfl, hb⟩
      exact ⟨_, rfl, hb, rfl, fun h => by cases h⟩
  · intro ev wv hE hw hd
    refine ifw rfl (ifw rfl ?_)
    have v46 : ev (.tmp 46) = .bool b := hd 1 (by decide)
    have v48 : ev (.tmp 48) = .bool b := hd 3 (by decide)
    refine ⟨.bool false, fun w => ?_, rfl⟩
    have e1 := hE.const; have e2 := hE.func; clear hE hd hw
    go_simp
  · intro ev wv hE hw hd
    refine ifw rfl (ifw rfl ?_)
    have v49 : ev (.tmp 49) = .bool false := hd 4 (by decide)
    refine ⟨.bool false, fun w => ?_, rfl⟩
    have e1 := hE.const; have e2 := hE.func; clear hE hd hw
    go_simp
  · intro ev wv hE hw hd
    have vg : ev (.tmp 50) = .bool false := hd 5 (by decide)
    refine ifw (by show (yv (ev (.tmp 50)) == some false) = true; rw [vg]; rfl) (ifw rfl ?_)
    clear vg
    have v2 : ev (.tmp 2) = .int .i64 n := hE.tmp 2 rfl
    refine ⟨.int .i64 n, fun w => ?_, rfl⟩
    have e1 := hE.const; have e2 := hE.func; clear hE hd hw
    go_simp
  · intro ev wv hE hw hd
    have vg : ev (.tmp 50) = .bool false := hd 5 (by decide)
    refine ifw (by show (yv (ev (.tmp 50)) == some false) = true; rw [vg]; rfl) (ifn rfl ?_)
    clear vg
    have v51 : ev (.tmp 51) = .int .i64 n := hd 6 (by decide)
    refine rel_call (f := 52) (args := #[.int .i64 n]) ?_ (HO.out _) ?_
    · have e0 := hE.func; have e1 := hE.const; clear hE hd hw
      go_simp
    · rintro e w' ⟨rfl, hb⟩
      exact ⟨_, rfl, hb, rfl, fun h => by cases h⟩
  · intro ev wv hE hw hd
    have vg : ev (.tmp 50) = .bool false := hd 5 (by decide)
    refine ifw (by show (yv (ev (.tmp 50)) == some false) = true; rw [vg]; rfl) (ifw rfl ?_)
    clear vg
    have v2 : ev (.tmp 2) = .int .i64 n := hE.tmp 2 rfl
    refine ⟨.int .i64 n, fun w => ?_, rfl⟩
    have e1 := hE.const; have e2 := hE.func; clear hE hd hw
    go_simp
  · intro ev wv hE hw hd
    have vg : ev (.tmp 50) = .bool false := hd 5 (by decide)
    refine ifw (by show (yv (ev (.tmp 50)) == some false) = true; rw [vg]; rfl) (ifw rfl ?_)
    clear vg
    have v53 : ev (.tmp 53) = .int .i64 n := hd 8 (by decide)
    refine ⟨.agg #[.int .i64 n, .int .i64 0], fun w => ?_, rfl⟩
    have e1 := hE.const; have e2 := hE.func; clear hE hd hw
    go_simp
  · intro ev wv hE hw hd
    have vg : ev (.tmp 50) = .bool false := hd 5 (by decide)
    refine ifw (by show (yv (ev (.tmp 50)) == some false) = true; rw [vg]; rfl) (ifw rfl ?_)
    clear vg
    have v52 : ev (.tmp 52) = .agg #[.int .i64 n, .int .i64 0] := hd 7 (by decide)
    have v54 : ev (.tmp 54) = .agg #[.int .i64 n, .int .i64 0] := hd 9 (by decide)
    refine ⟨.bool false, fun w => ?_, rfl⟩
    have e1 := hE.const; have e2 := hE.func; clear hE hd hw
    go_simp
  · intro ev wv hE hw hd
    refine ifw rfl (ifw rfl ?_)
    have v50 : ev (.tmp 50) = .bool false := hd 5 (by decide)
    have v55 : ev (.tmp 55) = .bool false := hd 10 (by decide)
    refine ⟨.bool false, fun w => ?_, rfl⟩
    have e1 := hE.const; have e2 := hE.func; clear hE hd hw
    go_simp
  · intro w6 M6
    intro v0 h0 _ v1 h1 _ v2 h2 _ v3 h3 _ v4 h4 _ v5 h5 _ v6 h6 _ v7 h7 _ v8 h8 _ v9 h9 _ v10 h10 _ v11 h11 _
    simp only [Act.put, List.setIfInBounds_toArray, List.set_cons_zero, List.set_cons_succ, List.drop_succ_cons, List.drop_zero]
    obtain rfl : v0 = _ := h0
    obtain rfl : v1 = _ := h1
    obtain rfl : v2 = _ := h2
    obtain rfl : v3 = _ := h3
    obtain rfl : v4 = _ := h4
    obtain rfl : v5 = _ := h5
    obtain rfl : v6 = _ := h6
    obtain rfl : v7 = _ := h7
    obtain rfl : v8 = _ := h8
    obtain rfl : v9 = _ := h9
    obtain rfl : v10 = _ := h10
    obtain rfl : v11 = _ := h11
    change wpList Try.prog _ _ _ _ w6
    refine calm_normal ?_
    have S6 := M6.m
    clear M6 S5
    have x0_0 := S6.c 0 0 rfl rfl
    have x0_1 := S6.c 0 1 rfl rfl
    go_wp2_with fail
    refine (H7.out _).mono ?_
    rintro e w7 ⟨rfl, hb⟩
    have S7 := S6.keep hb
    clear x0_0 x0_1 S6 hb
    have x0_0 := S7.c 0 0 rfl rfl
    have x0_1 := S7.c 0 1 rfl rfl
    go_wp2_with fail
    refine (H8.out _).mono ?_
    rintro e w8 ⟨rfl, hb⟩
    have S8 := (S7.keep hb).push #[.int .i64 c1, .int .i64 t1] 59
    clear x0_0 x0_1 S7 hb
    have x0_0 := S8.c 0 0 rfl rfl
    have x0_1 := S8.c 0 1 rfl rfl
    have x5_0 := S8.c 5 0 rfl rfl
    have x5_1 := S8.c 5 1 rfl rfl
    go_wp2_with fail
    refine (H9.out _).mono ?_
    rintro e w9 ⟨rfl, hb⟩
    have S9 := (S8.keep hb).push #[.int .i64 c2, .int .i64 t2] 59
    clear x0_0 x0_1 x5_0 x5_1 S8 hb
    have x0_0 := S9.c 0 0 rfl rfl
    have x0_1 := S9.c 0 1 rfl rfl
    have x5_0 := S9.c 5 0 rfl rfl
    have x5_1 := S9.c 5 1 rfl rfl
    have S10 := S9.push #[.int .i64 c1, .int .i64 t1] 59
    simp only [size_alloc] at S10
    have q0_0 := S10.c 0 0 rfl rfl; have q0_1 := S10.c 0 1 rfl rfl
    have q6_0 := S10.c 6 0 rfl rfl; have q6_1 := S10.c 6 1 rfl rfl
    have S11 := S9.push #[.int .i64 c2, .int .i64 t2] 59
    simp only [size_alloc] at S11
    clear S9 S10
    go_upto_region 15 with fail
    clear x0_0 x0_1 x5_0 x5_1 q0_0 q0_1 q6_0 q6_1
    have x0_0 := S11.c 0 0 rfl rfl
    have x0_1 := S11.c 0 1 rfl rfl
    have x1_0 := S11.c 1 0 rfl rfl
    have x1_1 := S11.c 1 1 rfl rfl
    have x2_0 := S11.c 2 0 rfl rfl
    have x2_1 := S11.c 2 1 rfl rfl
    have x3_0 := S11.c 3 0 rfl rfl
    have x3_1 := S11.c 3 1 rfl rfl
    have x4_0 := S11.c 4 0 rfl rfl
    have x4_1 := S11.c 4 1 rfl rfl
    have x5_0 := S11.c 5 0 rfl rfl
    have x5_1 := S11.c 5 1 rfl rfl
    have x6_0 := S11.c 6 0 rfl rfl
    have x6_1 := S11.c 6 1 rfl rfl
    have x7_0 := S11.c 7 0 rfl rfl
    have x7_1 := S11.c 7 1 rfl rfl
    go_wp2_with fail
    refine (HK.out _).mono ?_
    rintro e wz ⟨rfl, hb⟩
    have HB := Lib.hid (S11.keep hb).bl
    clear hb S11
    clear x0_0 x0_1 x1_0 x1_1 x2_0 x2_1 x3_0 x3_1 x4_0 x4_1 x5_0 x5_1 x6_0 x6_1 x7_0 x7_1
    go_wp2_with fail
    go_ret
    exact ⟨rfl, HB.out⟩
set_option maxRecDepth 100000 in
set_option maxHeartbeats 8000000 in
theorem one_neg_hi (C S s n c1 t1 e1 c2 t2 e2 : Int) (b : Bool) (h1 : Ans 46 #[DV C S] c1 t1 e1) (h2 : Ans 47 #[DV C S] c2 t2 e2) (h3 : Ans 48 #[DV C S] c2 t2 e2) (h4 : Ans 49 #[DV C S, .int .i64 s] 0 0 2) (h5 : AnsB 50 #[DV C S] b) (h6 : AnsB 51 #[DV C S] b) (h7 : AnsB 39 #[DV C S] true) (h8 : Ans 53 #[DV C S] c1 t1 e1) (h9 : Ans 42 #[DV 0 0, DV C S] c2 t2 e2) (h10 : True) (hC : C < 0) (hs : 9 < s) : AnsB 7 #[DV C S, .int .i64 s, .int .i64 n] true := fun w => by
  have HK := Lib.hid known2_any
  have H1 := Lib.hid h1
  have H2 := Lib.hid h2
  have H3 := Lib.hid h3
  have H4 := Lib.hid h4
  have H5 := Lib.hid h5
  have H6 := Lib.hid h6
  have H7 := Lib.hid h7
  have H8 := Lib.hid h8
  have H9 := Lib.hid h9
  have H10 := Lib.hid h10
  have HO := Lib.hid (dof_any n)
  clear h1 h2 h3 h4 h5 h6 h7 h8 h9 h10
  have hs0 : 0 ≤ s := by omega
  have S0 := (Mem.start w).push #[.int .i64 C, .int .i64 S] 59
  go_enter Try.func7, Try.ntmps7
  go_wp2_with fail
  refine (H1.out _).mono ?_
  rintro e w1 ⟨rfl, hb⟩
  have S1 := (S0.keep hb).push #[.int .i64 c1, .int .i64 t1] 59
  clear S0 hb
  have x0_0 := S1.c 0 0 rfl rfl
  have x0_1 := S1.c 0 1 rfl rfl
  go_wp2_with fail
  refine (H2.out _).mono ?_
  rintro e w2 ⟨rfl, hb⟩
  have S2 := (S1.keep hb).push #[.int .i64 c2, .int .i64 t2] 59
  clear x0_0 x0_1 S1 hb
  have x0_0 := S2.c 0 0 rfl rfl
  have x0_1 := S2.c 0 1 rfl rfl
  go_wp2_with fail
  refine (H3.out _).mono ?_
  rintro e w3 ⟨rfl, hb⟩
  have S3 := (S2.keep hb).push #[.int .i64 c2, .int .i64 t2] 59
  clear x0_0 x0_1 S2 hb
  have x0_0 := S3.c 0 0 rfl rfl
  have x0_1 := S3.c 0 1 rfl rfl
  go_wp2_with fail
  refine (H4.out _).mono ?_
  rintro e w4 ⟨rfl, hb⟩
  have S4 := (S3.keep hb).push #[.int .i64 0, .int .i64 0] 59
  clear x0_0 x0_1 S3 hb
  go_upto_region 5 with fail
  generalize w4.alloc (.cells #[.int .i64 0, .int .i64 0] 59) = w5 at *
  have S5 : Mem w w5 [(w.heap.size, #[.int .i64 C, .int .i64 S]), (w1.heap.size, #[.int .i64 c1, .int .i64 t1]), (w2.heap.size, #[.int .i64 c2, .int .i64 t2]), (w3.heap.size, #[.int .i64 c2, .int .i64 t2]), (w4.heap.size, #[.int .i64 0, .int .i64 0])] [] := S4
  clear S4
  refine wp_region_rel 12 (MemAt w w5.heap.size [(w.heap.size, #[.int .i64 C, .int .i64 S]), (w1.heap.size, #[.int .i64 c1, .int .i64 t1]), (w2.heap.size, #[.int .i64 c2, .int .i64 t2]), (w3.heap.size, #[.int .i64 c2, .int .i64 t2]), (w4.heap.size, #[.int .i64 0, .int .i64 0])] [])
    (fun i => List.getD [VE (.agg #[.int .i64 C, .int .i64 S]), VE (.bool b), VE (.agg #[.int .i64 C, .int .i64 S]), VE (.bool b), VE (.bool false), VE (.bool false), VE (.int .i64 n), VE (.agg #[.int .i64 n, .int .i64 0]), VE (.int .i64 n), VE (.agg #[.int .i64 n, .int .i64 0]), VE (.bool false), VE (.bool false)] i (fun _ _ => False)) [] [4, 5, 6, 8, 9, 10, 11] (by kernel_rfl) (by kernel_rfl) S5.at (fun _ _ h hb => h.grow hb)
    (stays_all (stays_cons (stays_VE _) (stays_cons (stays_VE _) (stays_cons (stays_VE _) (stays_cons (stays_VE _) (stays_cons (stays_VE _) (stays_cons (stays_VE _) (stays_cons (stays_VE _) (stays_cons (stays_VE _) (stays_cons (stays_VE _) (stays_cons (stays_VE _) (stays_cons (stays_VE _) (stays_cons (stays_VE _) stays_nil))))))))))))) ⟨?_, ?_, ?_, ?_, ?_, ?_, ?_, ?_, ?_, ?_, ?_, ?_, trivial⟩ ?_
  · intro ev wv hE hw hd
    refine ifw rfl (ifn rfl ?_)
    have v3 : ev (.tmp 3) = .pointer (some ⟨w.heap.size, 0, none⟩) := hE.tmp 3 rfl
    have kx := hw.m.c 0 0 rfl rfl
    have ky := hw.m.c 0 1 rfl rfl
    refine rel_val (u := .agg #[.int .i64 C, .int .i64 S]) (w' := wv) ?_ (Below.refl _ _) ⟨rfl, fun h => by cases h⟩
    have e1 := hE.const; clear hE hd hw
    go_simp
  · intro ev wv hE hw hd
    refine ifw rfl (ifn rfl ?_)
    have v45 : ev (.tmp 45) = .agg #[.int .i64 C, .int .i64 S] := hd 0 (by decide)
    refine rel_call (f := 50) (args := #[.agg #[.int .i64 C, .int .i64 S]]) ?_ (H5.out _) ?_
    · have e0 := hE.func; have e1 := hE.const; clear hE hd hw
      go_simp
    · rintro e w' ⟨rfl, hb⟩
      exact ⟨_, rfl, hb, rfl, fun h => by cases h⟩
  · intro ev wv hE hw hd
    refine ifw rfl (ifn rfl ?_)
    have v3 : ev (.tmp 3) = .pointer (some ⟨w.heap.size, 0, none⟩) := hE.tmp 3 rfl
    have kx := hw.m.c 0 0 rfl rfl
    have ky := hw.m.c 0 1 rfl rfl
    refine rel_val (u := .agg #[.int .i64 C, .int .i64 S]) (w' := wv) ?_ (Below.refl _ _) ⟨rfl, fun h => by cases h⟩
    have e1 := hE.const; clear hE hd hw
    go_simp
  · intro ev wv hE hw hd
    refine ifw rfl (ifn rfl ?_)
    have v47 : ev (.tmp 47) = .agg #[.int .i64 C, .int .i64 S] := hd 2 (by decide)
    refine rel_call (f := 51) (args := #[.agg #[.int .i64 C, .int .i64 S]]) ?_ (H6.out _) ?_
    · have e0 := hE.func; have e1 := hE.const; clear hE hd hw
      go_simp
    · rintro e w' ⟨rfl, hb⟩
      exact ⟨_, rfl, hb, rfl, fun h => by cases h⟩
  · intro ev wv hE hw hd
    refine ifw rfl (ifw rfl ?_)
    have v46 : ev (.tmp 46) = .bool b := hd 1 (by decide)
    have v48 : ev (.tmp 48) = .bool b := hd 3 (by decide)
    refine ⟨.bool false, fun w => ?_, rfl⟩
    have e1 := hE.const; have e2 := hE.func; clear hE hd hw
    go_simp
  · intro ev wv hE hw hd
    refine ifw rfl (ifw rfl ?_)
    have v49 : ev (.tmp 49) = .bool false := hd 4 (by decide)
    refine ⟨.bool false, fun w => ?_, rfl⟩
    have e1 := hE.const; have e2 := hE.func; clear hE hd hw
    go_simp
  · intro ev wv hE hw hd
    have vg : ev (.tmp 50) = .bool false := hd 5 (by decide)
    refine ifw (by show (yv (ev (.tmp 50)) == some false) = true; rw [vg]; rfl) (ifw rfl ?_)
    clear vg
    have v2 : ev (.tmp 2) = .int .i64 n := hE.tmp 2 rfl
    refine ⟨.int .i64 n, fun w => ?_, rfl⟩
    have e1 := hE.const; have e2 := hE.func; clear hE hd hw
    go_simp
  · intro ev wv hE hw hd
    have vg : ev (.tmp 50) = .bool false := hd 5 (by decide)
    refine ifw (by show (yv (ev (.tmp 50)) == some false) = true; rw [vg]; rfl) (ifn rfl ?_)
    clear vg
    have v51 : ev (.tmp 51) = .int .i64 n := hd 6 (by decide)
    refine rel_call (f := 52) (args := #[.int .i64 n]) ?_ (HO.out _) ?_
    · have e0 := hE.func; have e1 := hE.const; clear hE hd hw
      go_simp
    · rintro e w' ⟨rfl, hb⟩
      exact ⟨_, rfl, hb, rfl, fun h => by cases h⟩
  · intro ev wv hE hw hd
    have vg : ev (.tmp 50) = .bool false := hd 5 (by decide)
    refine ifw (by show (yv (ev (.tmp 50)) == some false) = true; rw [vg]; rfl) (ifw rfl ?_)
    clear vg
    have v2 : ev (.tmp 2) = .int .i64 n := hE.tmp 2 rfl
    refine ⟨.int .i64 n, fun w => ?_, rfl⟩
    have e1 := hE.const; have e2 := hE.func; clear hE hd hw
    go_simp
  · intro ev wv hE hw hd
    have vg : ev (.tmp 50) = .bool false := hd 5 (by decide)
    refine ifw (by show (yv (ev (.tmp 50)) == some false) = true; rw [vg]; rfl) (ifw rfl ?_)
    clear vg
    have v53 : ev (.tmp 53) = .int .i64 n := hd 8 (by decide)
    refine ⟨.agg #[.int .i64 n, .int .i64 0], fun w => ?_, rfl⟩
    have e1 := hE.const; have e2 := hE.func; clear hE hd hw
    go_simp
  · intro ev wv hE hw hd
    have vg : ev (.tmp 50) = .bool false := hd 5 (by decide)
    refine ifw (by show (yv (ev (.tmp 50)) == some false) = true; rw [vg]; rfl) (ifw rfl ?_)
    clear vg
    have v52 : ev (.tmp 52) = .agg #[.int .i64 n, .int .i64 0] := hd 7 (by decide)
    have v54 : ev (.tmp 54) = .agg #[.int .i64 n, .int .i64 0] := hd 9 (by decide)
    refine ⟨.bool false, fun w => ?_, rfl⟩
    have e1 := hE.const; have e2 := hE.func; clear hE hd hw
    go_simp
  · intro ev wv hE hw hd
    refine ifw rfl (ifw rfl ?_)
    have v50 : ev (.tmp 50) = .bool false := hd 5 (by decide)
    have v55 : ev (.tmp 55) = .bool false := hd 10 (by decide)
    refine ⟨.bool false, fun w => ?_, rfl⟩
    have e1 := hE.const; have e2 := hE.func; clear hE hd hw
    go_simp
  · intro w6 M6
    intro v0 h0 _ v1 h1 _ v2 h2 _ v3 h3 _ v4 h4 _ v5 h5 _ v6 h6 _ v7 h7 _ v8 h8 _ v9 h9 _ v10 h10 _ v11 h11 _
    simp only [Act.put, List.setIfInBounds_toArray, List.set_cons_zero, List.set_cons_succ, List.drop_succ_cons, List.drop_zero]
    obtain rfl : v0 = _ := h0
    obtain rfl : v1 = _ := h1
    obtain rfl : v2 = _ := h2
    obtain rfl : v3 = _ := h3
    obtain rfl : v4 = _ := h4
    obtain rfl : v5 = _ := h5
    obtain rfl : v6 = _ := h6
    obtain rfl : v7 = _ := h7
    obtain rfl : v8 = _ := h8
    obtain rfl : v9 = _ := h9
    obtain rfl : v10 = _ := h10
    obtain rfl : v11 = _ := h11
    change wpList Try.prog _ _ _ _ w6
    refine calm_normal ?_
    have S6 := M6.m
    clear M6 S5
    have x0_0 := S6.c 0 0 rfl rfl
    have x0_1 := S6.c 0 1 rfl rfl
    go_wp2_with fail
    refine (H7.out _).mono ?_
    rintro e w7 ⟨rfl, hb⟩
    have S7 := S6.keep hb
    clear x0_0 x0_1 S6 hb
    have x0_0 := S7.c 0 0 rfl rfl
    have x0_1 := S7.c 0 1 rfl rfl
    go_wp2_with fail
    refine (H8.out _).mono ?_
    rintro e w8 ⟨rfl, hb⟩
    have S8 := (S7.keep hb).push #[.int .i64 c1, .int .i64 t1] 59
    clear x0_0 x0_1 S7 hb
    have x0_0 := S8.c 0 0 rfl rfl
    have x0_1 := S8.c 0 1 rfl rfl
    have x5_0 := S8.c 5 0 rfl rfl
    have x5_1 := S8.c 5 1 rfl rfl
    go_wp2_with fail
    refine (H9.out _).mono ?_
    rintro e w9 ⟨rfl, hb⟩
    have S9 := (S8.keep hb).push #[.int .i64 c2, .int .i64 t2] 59
    clear x0_0 x0_1 x5_0 x5_1 S8 hb
    have x0_0 := S9.c 0 0 rfl rfl
    have x0_1 := S9.c 0 1 rfl rfl
    have x5_0 := S9.c 5 0 rfl rfl
    have x5_1 := S9.c 5 1 rfl rfl
    have S10 := S9.push #[.int .i64 c1, .int .i64 t1] 59
    simp only [size_alloc] at S10
    have q0_0 := S10.c 0 0 rfl rfl; have q0_1 := S10.c 0 1 rfl rfl
    have q6_0 := S10.c 6 0 rfl rfl; have q6_1 := S10.c 6 1 rfl rfl
    have S11 := S9.push #[.int .i64 c2, .int .i64 t2] 59
    simp only [size_alloc] at S11
    clear S9 S10
    go_upto_region 15 with fail
    clear x0_0 x0_1 x5_0 x5_1 q0_0 q0_1 q6_0 q6_1
    have x0_0 := S11.c 0 0 rfl rfl
    have x0_1 := S11.c 0 1 rfl rfl
    have x1_0 := S11.c 1 0 rfl rfl
    have x1_1 := S11.c 1 1 rfl rfl
    have x2_0 := S11.c 2 0 rfl rfl
    have x2_1 := S11.c 2 1 rfl rfl
    have x3_0 := S11.c 3 0 rfl rfl
    have x3_1 := S11.c 3 1 rfl rfl
    have x4_0 := S11.c 4 0 rfl rfl
    have x4_1 := S11.c 4 1 rfl rfl
    have x5_0 := S11.c 5 0 rfl rfl
    have x5_1 := S11.c 5 1 rfl rfl
    have x6_0 := S11.c 6 0 rfl rfl
    have x6_1 := S11.c 6 1 rfl rfl
    have x7_0 := S11.c 7 0 rfl rfl
    have x7_1 := S11.c 7 1 rfl rfl
    go_wp2_with fail
    refine (HK.out _).mono ?_
    rintro e wz ⟨rfl, hb⟩
    have HB := Lib.hid (S11.keep hb).bl
    clear hb S11
    clear x0_0 x0_1 x1_0 x1_1 x2_0 x2_1 x3_0 x3_1 x4_0 x4_1 x5_0 x5_1 x6_0 x6_1 x7_0 x7_1
    go_wp2_with fail
    go_ret
    exact ⟨rfl, HB.out⟩
set_option maxRecDepth 100000 in
set_option maxHeartbeats 8000000 in
theorem one_neg_ok (C S s n c1 t1 e1 c2 t2 e2 c4 t4 e4 : Int) (b : Bool) (h1 : Ans 46 #[DV C S] c1 t1 e1) (h2 : Ans 47 #[DV C S] c2 t2 e2) (h3 : Ans 48 #[DV C S] c2 t2 e2) (h4 : Ans 49 #[DV C S, .int .i64 s] c4 t4 e4) (h5 : AnsB 50 #[DV C S] b) (h6 : AnsB 51 #[DV C S] b) (h7 : AnsB 39 #[DV C S] true) (h8 : Ans 53 #[DV C S] c1 t1 e1) (h9 : Ans 42 #[DV 0 0, DV C S] c2 t2 e2) (h10 : True) (h11 : Ans 54 #[DV C S, .int .i64 s] c4 t4 e4) (hC : C < 0) (hs : 0 ≤ s ∧ s ≤ 9) : AnsB 7 #[DV C S, .int .i64 s, .int .i64 n] true := fun w => by
  obtain ⟨hs0, hs1⟩ := hs
  have HK := Lib.hid known2_any
  have H1 := Lib.hid h1
  have H2 := Lib.hid h2
  have H3 := Lib.hid h3
  have H4 := Lib.hid h4
  have H5 := Lib.hid h5
  have H6 := Lib.hid h6
  have H7 := Lib.hid h7
  have H8 := Lib.hid h8
  have H9 := Lib.hid h9
  have H10 := Lib.hid h10
  have H11 := Lib.hid h11
  have HO := Lib.hid (dof_any n)
  clear h1 h2 h3 h4 h5 h6 h7 h8 h9 h10 h11
  have S0 := (Mem.start w).push #[.int .i64 C, .int .i64 S] 59
  go_enter Try.func7, Try.ntmps7
  go_wp2_with fail
  refine (H1.out _).mono ?_
  rintro e w1 ⟨rfl, hb⟩
  have S1 := (S0.keep hb).push #[.int .i64 c1, .int .i64 t1] 59
  clear S0 hb
  have x0_0 := S1.c 0 0 rfl rfl
  have x0_1 := S1.c 0 1 rfl rfl
  go_wp2_with fail
  refine (H2.out _).mono ?_
  rintro e w2 ⟨rfl, hb⟩
  have S2 := (S1.keep hb).push #[.int .i64 c2, .int .i64 t2] 59
  clear x0_0 x0_1 S1 hb
  have x0_0 := S2.c 0 0 rfl rfl
  have x0_1 := S2.c 0 1 rfl rfl
  go_wp2_with fail
  refine (H3.out _).mono ?_
  rintro e w3 ⟨rfl, hb⟩
  have S3 := (S2.keep hb).push #[.int .i64 c2, .int .i64 t2] 59
  clear x0_0 x0_1 S2 hb
  have x0_0 := S3.c 0 0 rfl rfl
  have x0_1 := S3.c 0 1 rfl rfl
  go_wp2_with fail
  refine (H4.out _).mono ?_
  rintro e w4 ⟨rfl, hb⟩
  have S4 := (S3.keep hb).push #[.int .i64 c4, .int .i64 t4] 59
  clear x0_0 x0_1 S3 hb
  go_upto_region 5 with fail
  generalize w4.alloc (.cells #[.int .i64 c4, .int .i64 t4] 59) = w5 at *
  have S5 : Mem w w5 [(w.heap.size, #[.int .i64 C, .int .i64 S]), (w1.heap.size, #[.int .i64 c1, .int .i64 t1]), (w2.heap.size, #[.int .i64 c2, .int .i64 t2]), (w3.heap.size, #[.int .i64 c2, .int .i64 t2]), (w4.heap.size, #[.int .i64 c4, .int .i64 t4])] [] := S4
  clear S4
  refine wp_region_rel 12 (MemAt w w5.heap.size [(w.heap.size, #[.int .i64 C, .int .i64 S]), (w1.heap.size, #[.int .i64 c1, .int .i64 t1]), (w2.heap.size, #[.int .i64 c2, .int .i64 t2]), (w3.heap.size, #[.int .i64 c2, .int .i64 t2]), (w4.heap.size, #[.int .i64 c4, .int .i64 t4])] [])
    (fun i => List.getD [VE (.agg #[.int .i64 C, .int .i64 S]), VE (.bool b), VE (.agg #[.int .i64 C, .int .i64 S]), VE (.bool b), VE (.bool false), VE (.bool false), VE (.int .i64 n), VE (.agg #[.int .i64 n, .int .i64 0]), VE (.int .i64 n), VE (.agg #[.int .i64 n, .int .i64 0]), VE (.bool false), VE (.bool false)] i (fun _ _ => False)) [] [4, 5, 6, 8, 9, 10, 11] (by kernel_rfl) (by kernel_rfl) S5.at (fun _ _ h hb => h.grow hb)
    (stays_all (stays_cons (stays_VE _) (stays_cons (stays_VE _) (stays_cons (stays_VE _) (stays_cons (stays_VE _) (stays_cons (stays_VE _) (stays_cons (stays_VE _) (stays_cons (stays_VE _) (stays_cons (stays_VE _) (stays_cons (stays_VE _) (stays_cons (stays_VE _) (stays_cons (stays_VE _) (stays_cons (stays_VE _) stays_nil))))))))))))) ⟨?_, ?_, ?_, ?_, ?_, ?_, ?_, ?_, ?_, ?_, ?_, ?_, trivial⟩ ?_
  · intro ev wv hE hw hd
    refine ifw rfl (ifn rfl ?_)
    have v3 : ev (.tmp 3) = .pointer (some ⟨w.heap.size, 0, none⟩) := hE.tmp 3 rfl
    have kx := hw.m.c 0 0 rfl rfl
    have ky := hw.m.c 0 1 rfl rfl
    refine rel_val (u := .agg #[.int .i64 C, .int .i64 S]) (w' := wv) ?_ (Below.refl _ _) ⟨rfl, fun h => by cases h⟩
    have e1 := hE.const; clear hE hd hw
    go_simp
  · intro ev wv hE hw hd
    refine ifw rfl (ifn rfl ?_)
    have v45 : ev (.tmp 45) = .agg #[.int .i64 C, .int .i64 S] := hd 0 (by decide)
    refine rel_call (f := 50) (args := #[.agg #[.int .i64 C, .int .i64 S]]) ?_ (H5.out _) ?_
    · have e0 := hE.func; have e1 := hE.const; clear hE hd hw
      go_simp
    · rintro e w' ⟨rfl, hb⟩
      exact ⟨_, rfl, hb, rfl, fun h => by cases h⟩
  · intro ev wv hE hw hd
    refine ifw rfl (ifn rfl ?_)
    have v3 : ev (.tmp 3) = .pointer (some ⟨w.heap.size, 0, none⟩) := hE.tmp 3 rfl
    have kx := hw.m.c 0 0 rfl rfl
    have ky := hw.m.c 0 1 rfl rfl
    refine rel_val (u := .agg #[.int .i64 C, .int .i64 S]) (w' := wv) ?_ (Below.refl _ _) ⟨rfl, fun h => by cases h⟩
    have e1 := hE.const; clear hE hd hw
    go_simp
  · intro ev wv hE hw hd
    refine ifw rfl (ifn rfl ?_)
    have v47 : ev (.tmp 47) = .agg #[.int .i64 C, .int .i64 S] := hd 2 (by decide)
    refine rel_call (f := 51) (args := #[.agg #[.int .i64 C, .int .i64 S]]) ?_ (H6.out _) ?_
    · have e0 := hE.func; have e1 := hE.const; clear hE hd hw
      go_simp
    · rintro e w' ⟨rfl, hb⟩
      exact ⟨_, rfl, hb, rfl, fun h => by cases h⟩
  · intro ev wv hE hw hd
    refine ifw rfl (ifw rfl ?_)
    have v46 : ev (.tmp 46) = .bool b := hd 1 (by decide)
    have v48 : ev (.tmp 48) = .bool b := hd 3 (by decide)
    refine ⟨.bool false, fun w => ?_, rfl⟩
    have e1 := hE.const; have e2 := hE.func; clear hE hd hw
    go_simp
  · intro ev wv hE hw hd
    refine ifw rfl (ifw rfl ?_)
    have v49 : ev (.tmp 49) = .bool false := hd 4 (by decide)
    refine ⟨.bool false, fun w => ?_, rfl⟩
    have e1 := hE.const; have e2 := hE.func; clear hE hd hw
    go_simp
  · intro ev wv hE hw hd
    have vg : ev (.tmp 50) = .bool false := hd 5 (by decide)
    refine ifw (by show (yv (ev (.tmp 50)) == some false) = true; rw [vg]; rfl) (ifw rfl ?_)
    clear vg
    have v2 : ev (.tmp 2) = .int .i64 n := hE.tmp 2 rfl
    refine ⟨.int .i64 n, fun w => ?_, rfl⟩
    have e1 := hE.const; have e2 := hE.func; clear hE hd hw
    go_simp
  · intro ev wv hE hw hd
    have vg : ev (.tmp 50) = .bool false := hd 5 (by decide)
    refine ifw (by show (yv (ev (.tmp 50)) == some false) = true; rw [vg]; rfl) (ifn rfl ?_)
    clear vg
    have v51 : ev (.tmp 51) = .int .i64 n := hd 6 (by decide)
    refine rel_call (f := 52) (args := #[.int .i64 n]) ?_ (HO.out _) ?_
    · have e0 := hE.func; have e1 := hE.const; clear hE hd hw
      go_simp
    · rintro e w' ⟨rfl, hb⟩
      exact ⟨_, rfl, hb, rfl, fun h => by cases h⟩
  · intro ev wv hE hw hd
    have vg : ev (.tmp 50) = .bool false := hd 5 (by decide)
    refine ifw (by show (yv (ev (.tmp 50)) == some false) = true; rw [vg]; rfl) (ifw rfl ?_)
    clear vg
    have v2 : ev (.tmp 2) = .int .i64 n := hE.tmp 2 rfl
    refine ⟨.int .i64 n, fun w => ?_, rfl⟩
    have e1 := hE.const; have e2 := hE.func; clear hE hd hw
    go_simp
  · intro ev wv hE hw hd
    have vg : ev (.tmp 50) = .bool false := hd 5 (by decide)
    refine ifw (by show (yv (ev (.tmp 50)) == some false) = true; rw [vg]; rfl) (ifw rfl ?_)
    clear vg
    have v53 : ev (.tmp 53) = .int .i64 n := hd 8 (by decide)
    refine ⟨.agg #[.int .i64 n, .int .i64 0], fun w => ?_, rfl⟩
    have e1 := hE.const; have e2 := hE.func; clear hE hd hw
    go_simp
  · intro ev wv hE hw hd
    have vg : ev (.tmp 50) = .bool false := hd 5 (by decide)
    refine ifw (by show (yv (ev (.tmp 50)) == some false) = true; rw [vg]; rfl) (ifw rfl ?_)
    clear vg
    have v52 : ev (.tmp 52) = .agg #[.int .i64 n, .int .i64 0] := hd 7 (by decide)
    have v54 : ev (.tmp 54) = .agg #[.int .i64 n, .int .i64 0] := hd 9 (by decide)
    refine ⟨.bool false, fun w => ?_, rfl⟩
    have e1 := hE.const; have e2 := hE.func; clear hE hd hw
    go_simp
  · intro ev wv hE hw hd
    refine ifw rfl (ifw rfl ?_)
    have v50 : ev (.tmp 50) = .bool false := hd 5 (by decide)
    have v55 : ev (.tmp 55) = .bool false := hd 10 (by decide)
    refine ⟨.bool false, fun w => ?_, rfl⟩
    have e1 := hE.const; have e2 := hE.func; clear hE hd hw
    go_simp
  · intro w6 M6
    intro v0 h0 _ v1 h1 _ v2 h2 _ v3 h3 _ v4 h4 _ v5 h5 _ v6 h6 _ v7 h7 _ v8 h8 _ v9 h9 _ v10 h10 _ v11 h11 _
    simp only [Act.put, List.setIfInBounds_toArray, List.set_cons_zero, List.set_cons_succ, List.drop_succ_cons, List.drop_zero]
    obtain rfl : v0 = _ := h0
    obtain rfl : v1 = _ := h1
    obtain rfl : v2 = _ := h2
    obtain rfl : v3 = _ := h3
    obtain rfl : v4 = _ := h4
    obtain rfl : v5 = _ := h5
    obtain rfl : v6 = _ := h6
    obtain rfl : v7 = _ := h7
    obtain rfl : v8 = _ := h8
    obtain rfl : v9 = _ := h9
    obtain rfl : v10 = _ := h10
    obtain rfl : v11 = _ := h11
    change wpList Try.prog _ _ _ _ w6
    refine calm_normal ?_
    have S6 := M6.m
    clear M6 S5
    have x0_0 := S6.c 0 0 rfl rfl
    have x0_1 := S6.c 0 1 rfl rfl
    go_wp2_with fail
    refine (H7.out _).mono ?_
    rintro e w7 ⟨rfl, hb⟩
    have S7 := S6.keep hb
    clear x0_0 x0_1 S6 hb
    have x0_0 := S7.c 0 0 rfl rfl
    have x0_1 := S7.c 0 1 rfl rfl
    go_wp2_with fail
    refine (H8.out _).mono ?_
    rintro e w8 ⟨rfl, hb⟩
    have S8 := (S7.keep hb).push #[.int .i64 c1, .int .i64 t1] 59
    clear x0_0 x0_1 S7 hb
    have x0_0 := S8.c 0 0 rfl rfl
    have x0_1 := S8.c 0 1 rfl rfl
    have x5_0 := S8.c 5 0 rfl rfl
    have x5_1 := S8.c 5 1 rfl rfl
    go_wp2_with fail
    refine (H9.out _).mono ?_
    rintro e w9 ⟨rfl, hb⟩
    have S9 := (S8.keep hb).push #[.int .i64 c2, .int .i64 t2] 59
    clear x0_0 x0_1 x5_0 x5_1 S8 hb
    have x0_0 := S9.c 0 0 rfl rfl
    have x0_1 := S9.c 0 1 rfl rfl
    have x5_0 := S9.c 5 0 rfl rfl
    have x5_1 := S9.c 5 1 rfl rfl
    have S10 := S9.push #[.int .i64 c1, .int .i64 t1] 59
    simp only [size_alloc] at S10
    have q0_0 := S10.c 0 0 rfl rfl; have q0_1 := S10.c 0 1 rfl rfl
    have q6_0 := S10.c 6 0 rfl rfl; have q6_1 := S10.c 6 1 rfl rfl
    have S11 := S9.push #[.int .i64 c2, .int .i64 t2] 59
    simp only [size_alloc] at S11
    clear S9 S10
    go_upto_region 15 with fail
    clear x0_0 x0_1 x5_0 x5_1 q0_0 q0_1 q6_0 q6_1
    have x0_0 := S11.c 0 0 rfl rfl
    have x0_1 := S11.c 0 1 rfl rfl
    have x1_0 := S11.c 1 0 rfl rfl
    have x1_1 := S11.c 1 1 rfl rfl
    have x2_0 := S11.c 2 0 rfl rfl
    have x2_1 := S11.c 2 1 rfl rfl
    have x3_0 := S11.c 3 0 rfl rfl
    have x3_1 := S11.c 3 1 rfl rfl
    have x4_0 := S11.c 4 0 rfl rfl
    have x4_1 := S11.c 4 1 rfl rfl
    have x5_0 := S11.c 5 0 rfl rfl
    have x5_1 := S11.c 5 1 rfl rfl
    have x6_0 := S11.c 6 0 rfl rfl
    have x6_1 := S11.c 6 1 rfl rfl
    have x7_0 := S11.c 7 0 rfl rfl
    have x7_1 := S11.c 7 1 rfl rfl
    go_wp2_with fail
    refine (H11.out _).mono ?_
    rintro e w12 ⟨rfl, hb⟩
    have S12 := (S11.keep hb).push #[.int .i64 c4, .int .i64 t4] 59
    clear x0_0 x0_1 x1_0 x1_1 x2_0 x2_1 x3_0 x3_1 x4_0 x4_1 x5_0 x5_1 x6_0 x6_1 x7_0 x7_1 S11 hb
    have x4_0 := S12.c 4 0 rfl rfl
    have x4_1 := S12.c 4 1 rfl rfl
    have x8_0 := S12.c 8 0 rfl rfl
    have x8_1 := S12.c 8 1 rfl rfl
    go_wp2_with fail
    refine (HK.out _).mono ?_
    rintro e wz ⟨rfl, hb⟩
    have HB := Lib.hid (S12.keep hb).bl
    clear hb S12
    clear x4_0 x4_1 x8_0 x8_1
    go_wp2_with fail
    go_ret
    exact ⟨rfl, HB.out⟩
theorem one_any (C S s n : Int) (c0 : -9223372036854775808 ≤ C) (c1 : C ≤ 9223372036854775807) : AnsB 7 #[DV C S, .int .i64 s, .int .i64 n] true := by
  by_cases h : S < 0 ∨ 9 < S
  · exact one_bad C S s n false (fun w => dput_no C S w h) (fun w => dneg_no C S w h) (fun w => dabs_no C S w h) (fun w => dround_no1 C S s w h) (fun w => dmay_none C S w h) (fun w => nmay_none C S w h) (fun w => nis_no C S w h) trivial trivial
  · obtain ⟨S, rfl⟩ : ∃ k : Nat, S = (k : Int) := ⟨S.toNat, by omega⟩
    have x : IsD C S := ⟨c0, c1, by omega⟩
    obtain ⟨a1, b1, d1, p1, q1, r1⟩ := put_both x
    obtain ⟨a2, b2, d2, p2, q2, r2⟩ := neg_both x
    obtain ⟨b, m1, m2⟩ := may_both x
    by_cases hl : s < 0
    · have pr : Ans 49 #[DV C S, .int .i64 s] 0 0 2 := fun w => dround_no2 C S s w (by omega) (by have := x.s; omega) hl
      rcases Int.lt_or_le C 0 with hn | hn
      · exact one_neg_lo C S s n a1 b1 d1 a2 b2 d2 b p1 p2 (r2 hn) pr m1 m2 (is_yes x) q1 q2 trivial hn hl
      · exact one_pos_lo C S s n a1 b1 d1 a2 b2 d2 b p1 p2 (r1 hn) pr m1 m2 (is_yes x) q1 q2 trivial hn hl
    · by_cases hh : 9 < s
      · have pr : Ans 49 #[DV C S, .int .i64 s] 0 0 2 := fun w => dround_no3 C S s w (by omega) (by have := x.s; omega) hh
        rcases Int.lt_or_le C 0 with hn | hn
        · exact one_neg_hi C S s n a1 b1 d1 a2 b2 d2 b p1 p2 (r2 hn) pr m1 m2 (is_yes x) q1 q2 trivial hn hh
        · exact one_pos_hi C S s n a1 b1 d1 a2 b2 d2 b p1 p2 (r1 hn) pr m1 m2 (is_yes x) q1 q2 trivial hn hh
      · obtain ⟨p, rfl⟩ : ∃ k : Nat, s = (k : Int) := ⟨s.toNat, by omega⟩
        obtain ⟨a4, b4, d4, p4, q4⟩ := round_both (p := p) x (by omega)
        rcases Int.lt_or_le C 0 with hn | hn
        · exact one_neg_ok C S p n a1 b1 d1 a2 b2 d2 a4 b4 d4 b p1 p2 (r2 hn) p4 m1 m2 (is_yes x) q1 q2 trivial q4 hn ⟨by omega, by omega⟩
        · exact one_pos_ok C S p n a1 b1 d1 a2 b2 d2 a4 b4 d4 b p1 p2 (r1 hn) p4 m1 m2 (is_yes x) q1 q2 trivial q4 hn ⟨by omega, by omega⟩
end Go.Proofs.Ytgkogjlcecbfjaa

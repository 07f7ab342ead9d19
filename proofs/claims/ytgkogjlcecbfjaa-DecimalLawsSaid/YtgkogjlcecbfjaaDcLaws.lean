/- DecimalLaws at every input. (Written by wip/gen/gendc3.py.) -/
import Derived.Test.YtgkogjlcecbfjaaDcKnown
namespace Go.Proofs.Ytgkogjlcecbfjaa
open Go.RowKit Corr
set_option linter.unusedVariables false
set_option maxRecDepth 100000 in
set_option maxHeartbeats 8000000 in
theorem laws_bad (C S C' S' p tp i : Int) (h1 : Ans 34 #[DV C S, DV C' S'] 0 0 2) (h2 : Ans 34 #[DV C' S', DV C S] 0 0 2) (h3 : Ans 36 #[DV C S, DV C' S'] 0 0 2) (h4 : Ans 36 #[DV C' S', DV C S] 0 0 2) (h5 : Ans 46 #[DV C S] p tp i) (h6 : AnsIE 38 #[DV C S, DV C' S'] 0 2) (h7 : Ans 35 #[DV C S, DV C' S'] 0 0 2) : AnsB 8 #[DV C S, DV C' S'] true := fun w => by
  have HK := Lib.hid known2_any
  have H1 := Lib.hid h1
  have H2 := Lib.hid h2
  have H3 := Lib.hid h3
  have H4 := Lib.hid h4
  have H5 := Lib.hid h5
  have H6 := Lib.hid h6
  have H7 := Lib.hid h7
  clear h1 h2 h3 h4 h5 h6 h7
  have S0 := ((Mem.start w).push #[.int .i64 C, .int .i64 S] 59).push #[.int .i64 C', .int .i64 S'] 59
  simp only [size_alloc] at S0
  go_enter Try.func8, Try.ntmps8
  go_wp2_with fail
  refine (H1.out _).mono ?_
  rintro e w1 ⟨rfl, hb⟩
  have S1 := (S0.keep hb).push #[.int .i64 0, .int .i64 0] 59
  clear S0 hb
  have x0_0 := S1.c 0 0 rfl rfl
  have x0_1 := S1.c 0 1 rfl rfl
  have x1_0 := S1.c 1 0 rfl rfl
  have x1_1 := S1.c 1 1 rfl rfl
  go_wp2_with fail
  refine (H2.out _).mono ?_
  rintro e w2 ⟨rfl, hb⟩
  have S2 := (S1.keep hb).push #[.int .i64 0, .int .i64 0] 59
  clear x0_0 x0_1 x1_0 x1_1 S1 hb
  have x0_0 := S2.c 0 0 rfl rfl
  have x0_1 := S2.c 0 1 rfl rfl
  have x1_0 := S2.c 1 0 rfl rfl
  have x1_1 := S2.c 1 1 rfl rfl
  go_wp2_with fail
  refine (H3.out _).mono ?_
  rintro e w3 ⟨rfl, hb⟩
  have S3 := (S2.keep hb).push #[.int .i64 0, .int .i64 0] 59
  clear x0_0 x0_1 x1_0 x1_1 S2 hb
  have x0_0 := S3.c 0 0 rfl rfl
  have x0_1 := S3.c 0 1 rfl rfl
  have x1_0 := S3.c 1 0 rfl rfl
  have x1_1 := S3.c 1 1 rfl rfl
  go_wp2_with fail
  refine (H4.out _).mono ?_
  rintro e w4 ⟨rfl, hb⟩
  have S4 := (S3.keep hb).push #[.int .i64 0, .int .i64 0] 59
  clear x0_0 x0_1 x1_0 x1_1 S3 hb
  have x0_0 := S4.c 0 0 rfl rfl
  have x0_1 := S4.c 0 1 rfl rfl
  have x2_0 := S4.c 2 0 rfl rfl
  have x2_1 := S4.c 2 1 rfl rfl
  have x3_0 := S4.c 3 0 rfl rfl
  have x3_1 := S4.c 3 1 rfl rfl
  have x4_0 := S4.c 4 0 rfl rfl
  have x4_1 := S4.c 4 1 rfl rfl
  have x5_0 := S4.c 5 0 rfl rfl
  have x5_1 := S4.c 5 1 rfl rfl
  go_wp2_with fail
  refine (H5.out _).mono ?_
  rintro e w5 ⟨rfl, hb⟩
  have S5 := (S4.keep hb).push #[.int .i64 p, .int .i64 tp] 59
  clear x0_0 x0_1 x2_0 x2_1 x3_0 x3_1 x4_0 x4_1 x5_0 x5_1 S4 hb
  have x0_0 := S5.c 0 0 rfl rfl
  have x0_1 := S5.c 0 1 rfl rfl
  have x1_0 := S5.c 1 0 rfl rfl
  have x1_1 := S5.c 1 1 rfl rfl
  go_wp2_with fail
  refine (H6.out _).mono ?_
  rintro e w6 ⟨rfl, hb⟩
  have S6 := S5.keep hb
  clear x0_0 x0_1 x1_0 x1_1 S5 hb
  have x0_0 := S6.c 0 0 rfl rfl
  have x0_1 := S6.c 0 1 rfl rfl
  have x1_0 := S6.c 1 0 rfl rfl
  have x1_1 := S6.c 1 1 rfl rfl
  go_wp2_with fail
  refine (H7.out _).mono ?_
  rintro e w7 ⟨rfl, hb⟩
  have S7 := (S6.keep hb).push #[.int .i64 0, .int .i64 0] 59
  clear x0_0 x0_1 x1_0 x1_1 S6 hb
  have x0_0 := S7.c 0 0 rfl rfl
  have x0_1 := S7.c 0 1 rfl rfl
  have x1_0 := S7.c 1 0 rfl rfl
  have x1_1 := S7.c 1 1 rfl rfl
  go_wp2_with fail
  refine (HK.out _).mono ?_
  rintro e wz ⟨rfl, hb⟩
  have HB := Lib.hid (S7.keep hb).bl
  clear hb S7
  clear x0_0 x0_1 x1_0 x1_1
  go_wp2_with fail
  go_ret
  exact ⟨rfl, HB.out⟩
set_option maxRecDepth 100000 in
set_option maxHeartbeats 16000000 in
theorem laws_xx (C S C' S' c1 t1 e1 c3 t3 e3 c2 t2 e2 p tp q : Int) (s0 : 0 ≤ S) (s9 : S ≤ 9) (s0' : 0 ≤ S') (s9' : S' ≤ 9) (h1 : Ans 34 #[DV C S, DV C' S'] c1 t1 e1) (h2 : Ans 34 #[DV C' S', DV C S] c1 t1 e1) (h3 : Ans 36 #[DV C S, DV C' S'] c3 t3 e3) (h4 : Ans 36 #[DV C' S', DV C S] c3 t3 e3) (h7 : Ans 46 #[DV C S] p tp 0) (h9 : AnsIE 38 #[DV C S, DV C' S'] q 0) (h10 : Ans 35 #[DV C S, DV C' S'] c2 t2 e2) (h11 : e2 = 0 → ∃ bn bz : Bool, decide (q < 0) = bn ∧ decide (c2 < 0) = bn ∧ (q == 0) = bz ∧ (c2 == 0) = bz) (he1 : (e1 == 0) = false) (he3 : (e3 == 0) = false) : AnsB 8 #[DV C S, DV C' S'] true := fun w => by
  have HK := Lib.hid known2_any
  have H1 := Lib.hid h1
  have H2 := Lib.hid h2
  have H3 := Lib.hid h3
  have H4 := Lib.hid h4
  have H7 := Lib.hid h7
  have H9 := Lib.hid h9
  have H10 := Lib.hid h10
  clear h1 h2 h3 h4 h7 h9 h10
  have S0 := ((Mem.start w).push #[.int .i64 C, .int .i64 S] 59).push #[.int .i64 C', .int .i64 S'] 59
  simp only [size_alloc] at S0
  go_enter Try.func8, Try.ntmps8
  go_wp2_with fail
  refine (H1.out _).mono ?_
  rintro e w1 ⟨rfl, hb⟩
  have S1 := (S0.keep hb).push #[.int .i64 c1, .int .i64 t1] 59
  clear S0 hb
  have x0_0 := S1.c 0 0 rfl rfl
  have x0_1 := S1.c 0 1 rfl rfl
  have x1_0 := S1.c 1 0 rfl rfl
  have x1_1 := S1.c 1 1 rfl rfl
  go_wp2_with fail
  refine (H2.out _).mono ?_
  rintro e w2 ⟨rfl, hb⟩
  have S2 := (S1.keep hb).push #[.int .i64 c1, .int .i64 t1] 59
  clear x0_0 x0_1 x1_0 x1_1 S1 hb
  have x0_0 := S2.c 0 0 rfl rfl
  have x0_1 := S2.c 0 1 rfl rfl
  have x1_0 := S2.c 1 0 rfl rfl
  have x1_1 := S2.c 1 1 rfl rfl
  go_wp2_with fail
  refine (H3.out _).mono ?_
  rintro e w3 ⟨rfl, hb⟩
  have S3 := (S2.keep hb).push #[.int .i64 c3, .int .i64 t3] 59
  clear x0_0 x0_1 x1_0 x1_1 S2 hb
  have x0_0 := S3.c 0 0 rfl rfl
  have x0_1 := S3.c 0 1 rfl rfl
  have x1_0 := S3.c 1 0 rfl rfl
  have x1_1 := S3.c 1 1 rfl rfl
  go_wp2_with fail
  refine (H4.out _).mono ?_
  rintro e w4 ⟨rfl, hb⟩
  have S4 := (S3.keep hb).push #[.int .i64 c3, .int .i64 t3] 59
  clear x0_0 x0_1 x1_0 x1_1 S3 hb
  have x2_0 := S4.c 2 0 rfl rfl
  have x2_1 := S4.c 2 1 rfl rfl
  have x3_0 := S4.c 3 0 rfl rfl
  have x3_1 := S4.c 3 1 rfl rfl
  have x4_0 := S4.c 4 0 rfl rfl
  have x4_1 := S4.c 4 1 rfl rfl
  have x5_0 := S4.c 5 0 rfl rfl
  have x5_1 := S4.c 5 1 rfl rfl
  have x0_0 := S4.c 0 0 rfl rfl
  have x0_1 := S4.c 0 1 rfl rfl
  go_wp2_with fail
  refine (H7.out _).mono ?_
  rintro e w5 ⟨rfl, hb⟩
  have S5 := (S4.keep hb).push #[.int .i64 p, .int .i64 tp] 59
  clear x2_0 x2_1 x3_0 x3_1 x4_0 x4_1 x5_0 x5_1 x0_0 x0_1 S4 hb
  have x0_0 := S5.c 0 0 rfl rfl
  have x0_1 := S5.c 0 1 rfl rfl
  have x1_0 := S5.c 1 0 rfl rfl
  have x1_1 := S5.c 1 1 rfl rfl
  go_wp2_with fail
  refine (H9.out _).mono ?_
  rintro e w6 ⟨rfl, hb⟩
  have S6 := S5.keep hb
  clear x0_0 x0_1 x1_0 x1_1 S5 hb
  have x0_0 := S6.c 0 0 rfl rfl
  have x0_1 := S6.c 0 1 rfl rfl
  have x1_0 := S6.c 1 0 rfl rfl
  have x1_1 := S6.c 1 1 rfl rfl
  go_wp2_with fail
  refine (H10.out _).mono ?_
  rintro e w7 ⟨rfl, hb⟩
  have S7 := (S6.keep hb).push #[.int .i64 c2, .int .i64 t2] 59
  clear x0_0 x0_1 x1_0 x1_1 S6 hb
  have x0_0 := S7.c 0 0 rfl rfl
  have x0_1 := S7.c 0 1 rfl rfl
  have x1_0 := S7.c 1 0 rfl rfl
  have x1_1 := S7.c 1 1 rfl rfl
  have x4_0 := S7.c 4 0 rfl rfl
  have x4_1 := S7.c 4 1 rfl rfl
  by_cases he2 : e2 = 0
  · subst he2
    obtain ⟨bn, bz, hn1, hn2, hz1, hz2⟩ := h11 rfl
    clear h11
    have x2_0 := S7.c 2 0 rfl rfl
    have x2_1 := S7.c 2 1 rfl rfl
    have x3_0 := S7.c 3 0 rfl rfl
    have x3_1 := S7.c 3 1 rfl rfl
    have x5_0 := S7.c 5 0 rfl rfl
    have x5_1 := S7.c 5 1 rfl rfl
    have x6_0 := S7.c 6 0 rfl rfl
    have x6_1 := S7.c 6 1 rfl rfl
    have x7_0 := S7.c 7 0 rfl rfl
    have x7_1 := S7.c 7 1 rfl rfl
    go_wp2_with fail
    refine (HK.out _).mono ?_
    rintro e wz ⟨rfl, hb⟩
    have HB := Lib.hid (S7.keep hb).bl
    clear hb S7
    clear x0_0 x0_1 x1_0 x1_1 x4_0 x4_1 x2_0 x2_1 x3_0 x3_1 x5_0 x5_1 x6_0 x6_1 x7_0 x7_1
    go_wp2_with fail
    go_ret
    exact ⟨rfl, HB.out⟩
  · have he2' : (e2 == 0) = false := by rw [beq_eq_false_iff_ne]; exact he2
    clear h11 he2
    have x2_0 := S7.c 2 0 rfl rfl
    have x2_1 := S7.c 2 1 rfl rfl
    have x3_0 := S7.c 3 0 rfl rfl
    have x3_1 := S7.c 3 1 rfl rfl
    have x5_0 := S7.c 5 0 rfl rfl
    have x5_1 := S7.c 5 1 rfl rfl
    have x6_0 := S7.c 6 0 rfl rfl
    have x6_1 := S7.c 6 1 rfl rfl
    have x7_0 := S7.c 7 0 rfl rfl
    have x7_1 := S7.c 7 1 rfl rfl
    go_wp2_with fail
    refine (HK.out _).mono ?_
    rintro e wz ⟨rfl, hb⟩
    have HB := Lib.hid (S7.keep hb).bl
    clear hb S7
    clear x0_0 x0_1 x1_0 x1_1 x4_0 x4_1 x2_0 x2_1 x3_0 x3_1 x5_0 x5_1 x6_0 x6_1 x7_0 x7_1
    go_wp2_with fail
    go_ret
    exact ⟨rfl, HB.out⟩
set_option maxRecDepth 100000 in
set_option maxHeartbeats 16000000 in
theorem laws_xm (C S C' S' c1 t1 e1 c3 t3 c2 t2 e2 p tp q : Int) (s0 : 0 ≤ S) (s9 : S ≤ 9) (s0' : 0 ≤ S') (s9' : S' ≤ 9) (h1 : Ans 34 #[DV C S, DV C' S'] c1 t1 e1) (h2 : Ans 34 #[DV C' S', DV C S] c1 t1 e1) (h3 : Ans 36 #[DV C S, DV C' S'] c3 t3 0) (h4 : Ans 36 #[DV C' S', DV C S] c3 t3 0) (h7 : Ans 46 #[DV C S] p tp 0) (h9 : AnsIE 38 #[DV C S, DV C' S'] q 0) (h10 : Ans 35 #[DV C S, DV C' S'] c2 t2 e2) (h11 : e2 = 0 → ∃ bn bz : Bool, decide (q < 0) = bn ∧ decide (c2 < 0) = bn ∧ (q == 0) = bz ∧ (c2 == 0) = bz) (he1 : (e1 == 0) = false) (h6 : AnsB 50 #[DV c3 t3] true) (h12 : S + S' ≤ 9 → C' ≠ 0 → Ans 37 #[DV c3 t3, DV C' S'] p tp 0) : AnsB 8 #[DV C S, DV C' S'] true := fun w => by
  have HK := Lib.hid known2_any
  have H1 := Lib.hid h1
  have H2 := Lib.hid h2
  have H3 := Lib.hid h3
  have H4 := Lib.hid h4
  have H7 := Lib.hid h7
  have H9 := Lib.hid h9
  have H10 := Lib.hid h10
  have H6 := Lib.hid h6
  have H12 := Lib.hid h12
  clear h1 h2 h3 h4 h7 h9 h10 h6 h12
  have S0 := ((Mem.start w).push #[.int .i64 C, .int .i64 S] 59).push #[.int .i64 C', .int .i64 S'] 59
  simp only [size_alloc] at S0
  go_enter Try.func8, Try.ntmps8
  go_wp2_with fail
  refine (H1.out _).mono ?_
  rintro e w1 ⟨rfl, hb⟩
  have S1 := (S0.keep hb).push #[.int .i64 c1, .int .i64 t1] 59
  clear S0 hb
  have x0_0 := S1.c 0 0 rfl rfl
  have x0_1 := S1.c 0 1 rfl rfl
  have x1_0 := S1.c 1 0 rfl rfl
  have x1_1 := S1.c 1 1 rfl rfl
  go_wp2_with fail
  refine (H2.out _).mono ?_
  rintro e w2 ⟨rfl, hb⟩
  have S2 := (S1.keep hb).push #[.int .i64 c1, .int .i64 t1] 59
  clear x0_0 x0_1 x1_0 x1_1 S1 hb
  have x0_0 := S2.c 0 0 rfl rfl
  have x0_1 := S2.c 0 1 rfl rfl
  have x1_0 := S2.c 1 0 rfl rfl
  have x1_1 := S2.c 1 1 rfl rfl
  go_wp2_with fail
  refine (H3.out _).mono ?_
  rintro e w3 ⟨rfl, hb⟩
  have S3 := (S2.keep hb).push #[.int .i64 c3, .int .i64 t3] 59
  clear x0_0 x0_1 x1_0 x1_1 S2 hb
  have x0_0 := S3.c 0 0 rfl rfl
  have x0_1 := S3.c 0 1 rfl rfl
  have x1_0 := S3.c 1 0 rfl rfl
  have x1_1 := S3.c 1 1 rfl rfl
  go_wp2_with fail
  refine (H4.out _).mono ?_
  rintro e w4 ⟨rfl, hb⟩
  have S4 := (S3.keep hb).push #[.int .i64 c3, .int .i64 t3] 59
  clear x0_0 x0_1 x1_0 x1_1 S3 hb
  have x2_0 := S4.c 2 0 rfl rfl
  have x2_1 := S4.c 2 1 rfl rfl
  have x3_0 := S4.c 3 0 rfl rfl
  have x3_1 := S4.c 3 1 rfl rfl
  have x4_0 := S4.c 4 0 rfl rfl
  have x4_1 := S4.c 4 1 rfl rfl
  have x5_0 := S4.c 5 0 rfl rfl
  have x5_1 := S4.c 5 1 rfl rfl
  go_wp2_with fail
  refine (H6.out _).mono ?_
  rintro e w5 ⟨rfl, hb⟩
  have S5 := S4.keep hb
  clear x2_0 x2_1 x3_0 x3_1 x4_0 x4_1 x5_0 x5_1 S4 hb
  have x2_0 := S5.c 2 0 rfl rfl
  have x2_1 := S5.c 2 1 rfl rfl
  have x3_0 := S5.c 3 0 rfl rfl
  have x3_1 := S5.c 3 1 rfl rfl
  have x4_0 := S5.c 4 0 rfl rfl
  have x4_1 := S5.c 4 1 rfl rfl
  have x5_0 := S5.c 5 0 rfl rfl
  have x5_1 := S5.c 5 1 rfl rfl
  have x0_0 := S5.c 0 0 rfl rfl
  have x0_1 := S5.c 0 1 rfl rfl
  go_wp2_with fail
  refine (H7.out _).mono ?_
  rintro e w6 ⟨rfl, hb⟩
  have S6 := (S5.keep hb).push #[.int .i64 p, .int .i64 tp] 59
  clear x2_0 x2_1 x3_0 x3_1 x4_0 x4_1 x5_0 x5_1 x0_0 x0_1 S5 hb
  have x0_0 := S6.c 0 0 rfl rfl
  have x0_1 := S6.c 0 1 rfl rfl
  have x1_0 := S6.c 1 0 rfl rfl
  have x1_1 := S6.c 1 1 rfl rfl
  go_wp2_with fail
  refine (H9.out _).mono ?_
  rintro e w7 ⟨rfl, hb⟩
  have S7 := S6.keep hb
  clear x0_0 x0_1 x1_0 x1_1 S6 hb
  have x0_0 := S7.c 0 0 rfl rfl
  have x0_1 := S7.c 0 1 rfl rfl
  have x1_0 := S7.c 1 0 rfl rfl
  have x1_1 := S7.c 1 1 rfl rfl
  go_wp2_with fail
  refine (H10.out _).mono ?_
  rintro e w8 ⟨rfl, hb⟩
  have S8 := (S7.keep hb).push #[.int .i64 c2, .int .i64 t2] 59
  clear x0_0 x0_1 x1_0 x1_1 S7 hb
  have x0_0 := S8.c 0 0 rfl rfl
  have x0_1 := S8.c 0 1 rfl rfl
  have x1_0 := S8.c 1 0 rfl rfl
  have x1_1 := S8.c 1 1 rfl rfl
  have x4_0 := S8.c 4 0 rfl rfl
  have x4_1 := S8.c 4 1 rfl rfl
  by_cases he2 : e2 = 0
  · subst he2
    obtain ⟨bn, bz, hn1, hn2, hz1, hz2⟩ := h11 rfl
    clear h11
    have x2_0 := S8.c 2 0 rfl rfl
    have x2_1 := S8.c 2 1 rfl rfl
    have x3_0 := S8.c 3 0 rfl rfl
    have x3_1 := S8.c 3 1 rfl rfl
    have x5_0 := S8.c 5 0 rfl rfl
    have x5_1 := S8.c 5 1 rfl rfl
    have x6_0 := S8.c 6 0 rfl rfl
    have x6_1 := S8.c 6 1 rfl rfl
    have x7_0 := S8.c 7 0 rfl rfl
    have x7_1 := S8.c 7 1 rfl rfl
    rcases Int.lt_or_le 9 (S + S') with hs | hs
    · have hs1 : decide (S + S' ≤ 9) = false := decide_eq_false (by omega)
      clear hs H12
      go_wp2_with fail
      refine (HK.out _).mono ?_
      rintro e wz ⟨rfl, hb⟩
      have HB := Lib.hid (S8.keep hb).bl
      clear hb S8
      clear x0_0 x0_1 x1_0 x1_1 x4_0 x4_1 x2_0 x2_1 x3_0 x3_1 x5_0 x5_1 x6_0 x6_1 x7_0 x7_1
      go_wp2_with fail
      go_ret
      exact ⟨rfl, HB.out⟩
    · have hs1 : decide (S + S' ≤ 9) = true := decide_eq_true hs
      by_cases h0 : C' = 0
      · subst h0
        clear H12 hs
        go_wp2_with fail
        refine (HK.out _).mono ?_
        rintro e wz ⟨rfl, hb⟩
        have HB := Lib.hid (S8.keep hb).bl
        clear hb S8
        clear x0_0 x0_1 x1_0 x1_1 x4_0 x4_1 x2_0 x2_1 x3_0 x3_1 x5_0 x5_1 x6_0 x6_1 x7_0 x7_1
        go_wp2_with fail
        go_ret
        exact ⟨rfl, HB.out⟩
      · have h0' : (C' != 0) = true := by rw [bne_iff_ne]; exact h0
        have HD := Lib.hid (H12.out hs h0)
        clear h0
        clear hs H12
        go_wp2_with fail
        refine (HD.out _).mono ?_
        rintro e w9 ⟨rfl, hb⟩
        have S9 := (S8.keep hb).push #[.int .i64 p, .int .i64 tp] 59
        clear x0_0 x0_1 x1_0 x1_1 x4_0 x4_1 x2_0 x2_1 x3_0 x3_1 x5_0 x5_1 x6_0 x6_1 x7_0 x7_1 S8 hb
        have x6_0 := S9.c 6 0 rfl rfl
        have x6_1 := S9.c 6 1 rfl rfl
        have x8_0 := S9.c 8 0 rfl rfl
        have x8_1 := S9.c 8 1 rfl rfl
        go_wp2_with fail
        refine (HK.out _).mono ?_
        rintro e wz ⟨rfl, hb⟩
        have HB := Lib.hid (S9.keep hb).bl
        clear hb S9
        clear x6_0 x6_1 x8_0 x8_1
        go_wp2_with fail
        go_ret
        exact ⟨rfl, HB.out⟩
  · have he2' : (e2 == 0) = false := by rw [beq_eq_false_iff_ne]; exact he2
    clear h11 he2
    have x2_0 := S8.c 2 0 rfl rfl
    have x2_1 := S8.c 2 1 rfl rfl
    have x3_0 := S8.c 3 0 rfl rfl
    have x3_1 := S8.c 3 1 rfl rfl
    have x5_0 := S8.c 5 0 rfl rfl
    have x5_1 := S8.c 5 1 rfl rfl
    have x6_0 := S8.c 6 0 rfl rfl
    have x6_1 := S8.c 6 1 rfl rfl
    have x7_0 := S8.c 7 0 rfl rfl
    have x7_1 := S8.c 7 1 rfl rfl
    rcases Int.lt_or_le 9 (S + S') with hs | hs
    · have hs1 : decide (S + S' ≤ 9) = false := decide_eq_false (by omega)
      clear hs H12
      go_wp2_with fail
      refine (HK.out _).mono ?_
      rintro e wz ⟨rfl, hb⟩
      have HB := Lib.hid (S8.keep hb).bl
      clear hb S8
      clear x0_0 x0_1 x1_0 x1_1 x4_0 x4_1 x2_0 x2_1 x3_0 x3_1 x5_0 x5_1 x6_0 x6_1 x7_0 x7_1
      go_wp2_with fail
      go_ret
      exact ⟨rfl, HB.out⟩
    · have hs1 : decide (S + S' ≤ 9) = true := decide_eq_true hs
      by_cases h0 : C' = 0
      · subst h0
        clear H12 hs
        go_wp2_with fail
        refine (HK.out _).mono ?_
        rintro e wz ⟨rfl, hb⟩
        have HB := Lib.hid (S8.keep hb).bl
        clear hb S8
        clear x0_0 x0_1 x1_0 x1_1 x4_0 x4_1 x2_0 x2_1 x3_0 x3_1 x5_0 x5_1 x6_0 x6_1 x7_0 x7_1
        go_wp2_with fail
        go_ret
        exact ⟨rfl, HB.out⟩
      · have h0' : (C' != 0) = true := by rw [bne_iff_ne]; exact h0
        have HD := Lib.hid (H12.out hs h0)
        clear h0
        clear hs H12
        go_wp2_with fail
        refine (HD.out _).mono ?_
        rintro e w9 ⟨rfl, hb⟩
        have S9 := (S8.keep hb).push #[.int .i64 p, .int .i64 tp] 59
        clear x0_0 x0_1 x1_0 x1_1 x4_0 x4_1 x2_0 x2_1 x3_0 x3_1 x5_0 x5_1 x6_0 x6_1 x7_0 x7_1 S8 hb
        have x6_0 := S9.c 6 0 rfl rfl
        have x6_1 := S9.c 6 1 rfl rfl
        have x8_0 := S9.c 8 0 rfl rfl
        have x8_1 := S9.c 8 1 rfl rfl
        go_wp2_with fail
        refine (HK.out _).mono ?_
        rintro e wz ⟨rfl, hb⟩
        have HB := Lib.hid (S9.keep hb).bl
        clear hb S9
        clear x6_0 x6_1 x8_0 x8_1
        go_wp2_with fail
        go_ret
        exact ⟨rfl, HB.out⟩
set_option maxRecDepth 100000 in
set_option maxHeartbeats 16000000 in
theorem laws_ax (C S C' S' c1 t1 c3 t3 e3 c2 t2 e2 p tp q : Int) (s0 : 0 ≤ S) (s9 : S ≤ 9) (s0' : 0 ≤ S') (s9' : S' ≤ 9) (h1 : Ans 34 #[DV C S, DV C' S'] c1 t1 0) (h2 : Ans 34 #[DV C' S', DV C S] c1 t1 0) (h3 : Ans 36 #[DV C S, DV C' S'] c3 t3 e3) (h4 : Ans 36 #[DV C' S', DV C S] c3 t3 e3) (h7 : Ans 46 #[DV C S] p tp 0) (h9 : AnsIE 38 #[DV C S, DV C' S'] q 0) (h10 : Ans 35 #[DV C S, DV C' S'] c2 t2 e2) (h11 : e2 = 0 → ∃ bn bz : Bool, decide (q < 0) = bn ∧ decide (c2 < 0) = bn ∧ (q == 0) = bz ∧ (c2 == 0) = bz) (h5 : AnsB 50 #[DV c1 t1] true) (h8 : Ans 35 #[DV c1 t1, DV C' S'] p tp 0) (he3 : (e3 == 0) = false) : AnsB 8 #[DV C S, DV C' S'] true := fun w => by
  have HK := Lib.hid known2_any
  have H1 := Lib.hid h1
  have H2 := Lib.hid h2
  have H3 := Lib.hid h3
  have H4 := Lib.hid h4
  have H7 := Lib.hid h7
  have H9 := Lib.hid h9
  have H10 := Lib.hid h10
  have H5 := Lib.hid h5
  have H8 := Lib.hid h8
  clear h1 h2 h3 h4 h7 h9 h10 h5 h8
  have S0 := ((Mem.start w).push #[.int .i64 C, .int .i64 S] 59).push #[.int .i64 C', .int .i64 S'] 59
  simp only [size_alloc] at S0
  go_enter Try.func8, Try.ntmps8
  go_wp2_with fail
  refine (H1.out _).mono ?_
  rintro e w1 ⟨rfl, hb⟩
  have S1 := (S0.keep hb).push #[.int .i64 c1, .int .i64 t1] 59
  clear S0 hb
  have x0_0 := S1.c 0 0 rfl rfl
  have x0_1 := S1.c 0 1 rfl rfl
  have x1_0 := S1.c 1 0 rfl rfl
  have x1_1 := S1.c 1 1 rfl rfl
  go_wp2_with fail
  refine (H2.out _).mono ?_
  rintro e w2 ⟨rfl, hb⟩
  have S2 := (S1.keep hb).push #[.int .i64 c1, .int .i64 t1] 59
  clear x0_0 x0_1 x1_0 x1_1 S1 hb
  have x0_0 := S2.c 0 0 rfl rfl
  have x0_1 := S2.c 0 1 rfl rfl
  have x1_0 := S2.c 1 0 rfl rfl
  have x1_1 := S2.c 1 1 rfl rfl
  go_wp2_with fail
  refine (H3.out _).mono ?_
  rintro e w3 ⟨rfl, hb⟩
  have S3 := (S2.keep hb).push #[.int .i64 c3, .int .i64 t3] 59
  clear x0_0 x0_1 x1_0 x1_1 S2 hb
  have x0_0 := S3.c 0 0 rfl rfl
  have x0_1 := S3.c 0 1 rfl rfl
  have x1_0 := S3.c 1 0 rfl rfl
  have x1_1 := S3.c 1 1 rfl rfl
  go_wp2_with fail
  refine (H4.out _).mono ?_
  rintro e w4 ⟨rfl, hb⟩
  have S4 := (S3.keep hb).push #[.int .i64 c3, .int .i64 t3] 59
  clear x0_0 x0_1 x1_0 x1_1 S3 hb
  have x2_0 := S4.c 2 0 rfl rfl
  have x2_1 := S4.c 2 1 rfl rfl
  have x3_0 := S4.c 3 0 rfl rfl
  have x3_1 := S4.c 3 1 rfl rfl
  have x4_0 := S4.c 4 0 rfl rfl
  have x4_1 := S4.c 4 1 rfl rfl
  have x5_0 := S4.c 5 0 rfl rfl
  have x5_1 := S4.c 5 1 rfl rfl
  go_wp2_with fail
  refine (H5.out _).mono ?_
  rintro e w5 ⟨rfl, hb⟩
  have S5 := S4.keep hb
  clear x2_0 x2_1 x3_0 x3_1 x4_0 x4_1 x5_0 x5_1 S4 hb
  have x2_0 := S5.c 2 0 rfl rfl
  have x2_1 := S5.c 2 1 rfl rfl
  have x3_0 := S5.c 3 0 rfl rfl
  have x3_1 := S5.c 3 1 rfl rfl
  have x4_0 := S5.c 4 0 rfl rfl
  have x4_1 := S5.c 4 1 rfl rfl
  have x5_0 := S5.c 5 0 rfl rfl
  have x5_1 := S5.c 5 1 rfl rfl
  have x0_0 := S5.c 0 0 rfl rfl
  have x0_1 := S5.c 0 1 rfl rfl
  go_wp2_with fail
  refine (H7.out _).mono ?_
  rintro e w6 ⟨rfl, hb⟩
  have S6 := (S5.keep hb).push #[.int .i64 p, .int .i64 tp] 59
  clear x2_0 x2_1 x3_0 x3_1 x4_0 x4_1 x5_0 x5_1 x0_0 x0_1 S5 hb
  have x1_0 := S6.c 1 0 rfl rfl
  have x1_1 := S6.c 1 1 rfl rfl
  have x2_0 := S6.c 2 0 rfl rfl
  have x2_1 := S6.c 2 1 rfl rfl
  go_wp2_with fail
  refine (H8.out _).mono ?_
  rintro e w7 ⟨rfl, hb⟩
  have S7 := (S6.keep hb).push #[.int .i64 p, .int .i64 tp] 59
  clear x1_0 x1_1 x2_0 x2_1 S6 hb
  have x6_0 := S7.c 6 0 rfl rfl
  have x6_1 := S7.c 6 1 rfl rfl
  have x7_0 := S7.c 7 0 rfl rfl
  have x7_1 := S7.c 7 1 rfl rfl
  have x0_0 := S7.c 0 0 rfl rfl
  have x0_1 := S7.c 0 1 rfl rfl
  have x1_0 := S7.c 1 0 rfl rfl
  have x1_1 := S7.c 1 1 rfl rfl
  go_wp2_with fail
  refine (H9.out _).mono ?_
  rintro e w8 ⟨rfl, hb⟩
  have S8 := S7.keep hb
  clear x6_0 x6_1 x7_0 x7_1 x0_0 x0_1 x1_0 x1_1 S7 hb
  have x0_0 := S8.c 0 0 rfl rfl
  have x0_1 := S8.c 0 1 rfl rfl
  have x1_0 := S8.c 1 0 rfl rfl
  have x1_1 := S8.c 1 1 rfl rfl
  go_wp2_with fail
  refine (H10.out _).mono ?_
  rintro e w9 ⟨rfl, hb⟩
  have S9 := (S8.keep hb).push #[.int .i64 c2, .int .i64 t2] 59
  clear x0_0 x0_1 x1_0 x1_1 S8 hb
  have x0_0 := S9.c 0 0 rfl rfl
  have x0_1 := S9.c 0 1 rfl rfl
  have x1_0 := S9.c 1 0 rfl rfl
  have x1_1 := S9.c 1 1 rfl rfl
  have x4_0 := S9.c 4 0 rfl rfl
  have x4_1 := S9.c 4 1 rfl rfl
  by_cases he2 : e2 = 0
  · subst he2
    obtain ⟨bn, bz, hn1, hn2, hz1, hz2⟩ := h11 rfl
    clear h11
    have x2_0 := S9.c 2 0 rfl rfl
    have x2_1 := S9.c 2 1 rfl rfl
    have x3_0 := S9.c 3 0 rfl rfl
    have x3_1 := S9.c 3 1 rfl rfl
    have x5_0 := S9.c 5 0 rfl rfl
    have x5_1 := S9.c 5 1 rfl rfl
    have x6_0 := S9.c 6 0 rfl rfl
    have x6_1 := S9.c 6 1 rfl rfl
    have x7_0 := S9.c 7 0 rfl rfl
    have x7_1 := S9.c 7 1 rfl rfl
    have x8_0 := S9.c 8 0 rfl rfl
    have x8_1 := S9.c 8 1 rfl rfl
    go_wp2_with fail
    refine (HK.out _).mono ?_
    rintro e wz ⟨rfl, hb⟩
    have HB := Lib.hid (S9.keep hb).bl
    clear hb S9
    clear x0_0 x0_1 x1_0 x1_1 x4_0 x4_1 x2_0 x2_1 x3_0 x3_1 x5_0 x5_1 x6_0 x6_1 x7_0 x7_1 x8_0 x8_1
    go_wp2_with fail
    go_ret
    exact ⟨rfl, HB.out⟩
  · have he2' : (e2 == 0) = false := by rw [beq_eq_false_iff_ne]; exact he2
    clear h11 he2
    have x2_0 := S9.c 2 0 rfl rfl
    have x2_1 := S9.c 2 1 rfl rfl
    have x3_0 := S9.c 3 0 rfl rfl
    have x3_1 := S9.c 3 1 rfl rfl
    have x5_0 := S9.c 5 0 rfl rfl
    have x5_1 := S9.c 5 1 rfl rfl
    have x6_0 := S9.c 6 0 rfl rfl
    have x6_1 := S9.c 6 1 rfl rfl
    have x7_0 := S9.c 7 0 rfl rfl
    have x7_1 := S9.c 7 1 rfl rfl
    have x8_0 := S9.c 8 0 rfl rfl
    have x8_1 := S9.c 8 1 rfl rfl
    go_wp2_with fail
    refine (HK.out _).mono ?_
    rintro e wz ⟨rfl, hb⟩
    have HB := Lib.hid (S9.keep hb).bl
    clear hb S9
    clear x0_0 x0_1 x1_0 x1_1 x4_0 x4_1 x2_0 x2_1 x3_0 x3_1 x5_0 x5_1 x6_0 x6_1 x7_0 x7_1 x8_0 x8_1
    go_wp2_with fail
    go_ret
    exact ⟨rfl, HB.out⟩
set_option maxRecDepth 100000 in
set_option maxHeartbeats 16000000 in
theorem laws_am (C S C' S' c1 t1 c3 t3 c2 t2 e2 p tp q : Int) (s0 : 0 ≤ S) (s9 : S ≤ 9) (s0' : 0 ≤ S') (s9' : S' ≤ 9) (h1 : Ans 34 #[DV C S, DV C' S'] c1 t1 0) (h2 : Ans 34 #[DV C' S', DV C S] c1 t1 0) (h3 : Ans 36 #[DV C S, DV C' S'] c3 t3 0) (h4 : Ans 36 #[DV C' S', DV C S] c3 t3 0) (h7 : Ans 46 #[DV C S] p tp 0) (h9 : AnsIE 38 #[DV C S, DV C' S'] q 0) (h10 : Ans 35 #[DV C S, DV C' S'] c2 t2 e2) (h11 : e2 = 0 → ∃ bn bz : Bool, decide (q < 0) = bn ∧ decide (c2 < 0) = bn ∧ (q == 0) = bz ∧ (c2 == 0) = bz) (h5 : AnsB 50 #[DV c1 t1] true) (h8 : Ans 35 #[DV c1 t1, DV C' S'] p tp 0) (h6 : AnsB 50 #[DV c3 t3] true) (h12 : S + S' ≤ 9 → C' ≠ 0 → Ans 37 #[DV c3 t3, DV C' S'] p tp 0) : AnsB 8 #[DV C S, DV C' S'] true := fun w => by
  have HK := Lib.hid known2_any
  have H1 := Lib.hid h1
  have H2 := Lib.hid h2
  have H3 := Lib.hid h3
  have H4 := Lib.hid h4
  have H7 := Lib.hid h7
  have H9 := Lib.hid h9
  have H10 := Lib.hid h10
  have H5 := Lib.hid h5
  have H8 := Lib.hid h8
  have H6 := Lib.hid h6
  have H12 := Lib.hid h12
  clear h1 h2 h3 h4 h7 h9 h10 h5 h8 h6 h12
  have S0 := ((Mem.start w).push #[.int .i64 C, .int .i64 S] 59).push #[.int .i64 C', .int .i64 S'] 59
  simp only [size_alloc] at S0
  go_enter Try.func8, Try.ntmps8
  go_wp2_with fail
  refine (H1.out _).mono ?_
  rintro e w1 ⟨rfl, hb⟩
  have S1 := (S0.keep hb).push #[.int .i64 c1, .int .i64 t1] 59
  clear S0 hb
  have x0_0 := S1.c 0 0 rfl rfl
  have x0_1 := S1.c 0 1 rfl rfl
  have x1_0 := S1.c 1 0 rfl rfl
  have x1_1 := S1.c 1 1 rfl rfl
  go_wp2_with fail
  refine (H2.out _).mono ?_
  rintro e w2 ⟨rfl, hb⟩
  have S2 := (S1.keep hb).push #[.int .i64 c1, .int .i64 t1] 59
  clear x0_0 x0_1 x1_0 x1_1 S1 hb
  have x0_0 := S2.c 0 0 rfl rfl
  have x0_1 := S2.c 0 1 rfl rfl
  have x1_0 := S2.c 1 0 rfl rfl
  have x1_1 := S2.c 1 1 rfl rfl
  go_wp2_with fail
  refine (H3.out _).mono ?_
  rintro e w3 ⟨rfl, hb⟩
  have S3 := (S2.keep hb).push #[.int .i64 c3, .int .i64 t3] 59
  clear x0_0 x0_1 x1_0 x1_1 S2 hb
  have x0_0 := S3.c 0 0 rfl rfl
  have x0_1 := S3.c 0 1 rfl rfl
  have x1_0 := S3.c 1 0 rfl rfl
  have x1_1 := S3.c 1 1 rfl rfl
  go_wp2_with fail
  refine (H4.out _).mono ?_
  rintro e w4 ⟨rfl, hb⟩
  have S4 := (S3.keep hb).push #[.int .i64 c3, .int .i64 t3] 59
  clear x0_0 x0_1 x1_0 x1_1 S3 hb
  have x2_0 := S4.c 2 0 rfl rfl
  have x2_1 := S4.c 2 1 rfl rfl
  have x3_0 := S4.c 3 0 rfl rfl
  have x3_1 := S4.c 3 1 rfl rfl
  have x4_0 := S4.c 4 0 rfl rfl
  have x4_1 := S4.c 4 1 rfl rfl
  have x5_0 := S4.c 5 0 rfl rfl
  have x5_1 := S4.c 5 1 rfl rfl
  go_wp2_with fail
  refine (H5.out _).mono ?_
  rintro e w5 ⟨rfl, hb⟩
  have S5 := S4.keep hb
  clear x2_0 x2_1 x3_0 x3_1 x4_0 x4_1 x5_0 x5_1 S4 hb
  have x2_0 := S5.c 2 0 rfl rfl
  have x2_1 := S5.c 2 1 rfl rfl
  have x3_0 := S5.c 3 0 rfl rfl
  have x3_1 := S5.c 3 1 rfl rfl
  have x4_0 := S5.c 4 0 rfl rfl
  have x4_1 := S5.c 4 1 rfl rfl
  have x5_0 := S5.c 5 0 rfl rfl
  have x5_1 := S5.c 5 1 rfl rfl
  go_wp2_with fail
  refine (H6.out _).mono ?_
  rintro e w6 ⟨rfl, hb⟩
  have S6 := S5.keep hb
  clear x2_0 x2_1 x3_0 x3_1 x4_0 x4_1 x5_0 x5_1 S5 hb
  have x2_0 := S6.c 2 0 rfl rfl
  have x2_1 := S6.c 2 1 rfl rfl
  have x3_0 := S6.c 3 0 rfl rfl
  have x3_1 := S6.c 3 1 rfl rfl
  have x4_0 := S6.c 4 0 rfl rfl
  have x4_1 := S6.c 4 1 rfl rfl
  have x5_0 := S6.c 5 0 rfl rfl
  have x5_1 := S6.c 5 1 rfl rfl
  have x0_0 := S6.c 0 0 rfl rfl
  have x0_1 := S6.c 0 1 rfl rfl
  go_wp2_with fail
  refine (H7.out _).mono ?_
  rintro e w7 ⟨rfl, hb⟩
  have S7 := (S6.keep hb).push #[.int .i64 p, .int .i64 tp] 59
  clear x2_0 x2_1 x3_0 x3_1 x4_0 x4_1 x5_0 x5_1 x0_0 x0_1 S6 hb
  have x1_0 := S7.c 1 0 rfl rfl
  have x1_1 := S7.c 1 1 rfl rfl
  have x2_0 := S7.c 2 0 rfl rfl
  have x2_1 := S7.c 2 1 rfl rfl
  go_wp2_with fail
  refine (H8.out _).mono ?_
  rintro e w8 ⟨rfl, hb⟩
  have S8 := (S7.keep hb).push #[.int .i64 p, .int .i64 tp] 59
  clear x1_0 x1_1 x2_0 x2_1 S7 hb
  have x6_0 := S8.c 6 0 rfl rfl
  have x6_1 := S8.c 6 1 rfl rfl
  have x7_0 := S8.c 7 0 rfl rfl
  have x7_1 := S8.c 7 1 rfl rfl
  have x0_0 := S8.c 0 0 rfl rfl
  have x0_1 := S8.c 0 1 rfl rfl
  have x1_0 := S8.c 1 0 rfl rfl
  have x1_1 := S8.c 1 1 rfl rfl
  go_wp2_with fail
  refine (H9.out _).mono ?_
  rintro e w9 ⟨rfl, hb⟩
  have S9 := S8.keep hb
  clear x6_0 x6_1 x7_0 x7_1 x0_0 x0_1 x1_0 x1_1 S8 hb
  have x0_0 := S9.c 0 0 rfl rfl
  have x0_1 := S9.c 0 1 rfl rfl
  have x1_0 := S9.c 1 0 rfl rfl
  have x1_1 := S9.c 1 1 rfl rfl
  go_wp2_with fail
  refine (H10.out _).mono ?_
  rintro e w10 ⟨rfl, hb⟩
  have S10 := (S9.keep hb).push #[.int .i64 c2, .int .i64 t2] 59
  clear x0_0 x0_1 x1_0 x1_1 S9 hb
  have x0_0 := S10.c 0 0 rfl rfl
  have x0_1 := S10.c 0 1 rfl rfl
  have x1_0 := S10.c 1 0 rfl rfl
  have x1_1 := S10.c 1 1 rfl rfl
  have x4_0 := S10.c 4 0 rfl rfl
  have x4_1 := S10.c 4 1 rfl rfl
  by_cases he2 : e2 = 0
  · subst he2
    obtain ⟨bn, bz, hn1, hn2, hz1, hz2⟩ := h11 rfl
    clear h11
    have x2_0 := S10.c 2 0 rfl rfl
    have x2_1 := S10.c 2 1 rfl rfl
    have x3_0 := S10.c 3 0 rfl rfl
    have x3_1 := S10.c 3 1 rfl rfl
    have x5_0 := S10.c 5 0 rfl rfl
    have x5_1 := S10.c 5 1 rfl rfl
    have x6_0 := S10.c 6 0 rfl rfl
    have x6_1 := S10.c 6 1 rfl rfl
    have x7_0 := S10.c 7 0 rfl rfl
    have x7_1 := S10.c 7 1 rfl rfl
    have x8_0 := S10.c 8 0 rfl rfl
    have x8_1 := S10.c 8 1 rfl rfl
    rcases Int.lt_or_le 9 (S + S') with hs | hs
    · have hs1 : decide (S + S' ≤ 9) = false := decide_eq_false (by omega)
      clear hs H12
      go_wp2_with fail
      refine (HK.out _).mono ?_
      rintro e wz ⟨rfl, hb⟩
      have HB := Lib.hid (S10.keep hb).bl
      clear hb S10
      clear x0_0 x0_1 x1_0 x1_1 x4_0 x4_1 x2_0 x2_1 x3_0 x3_1 x5_0 x5_1 x6_0 x6_1 x7_0 x7_1 x8_0 x8_1
      go_wp2_with fail
      go_ret
      exact ⟨rfl, HB.out⟩
    · have hs1 : decide (S + S' ≤ 9) = true := decide_eq_true hs
      by_cases h0 : C' = 0
      · subst h0
        clear H12 hs
        go_wp2_with fail
        refine (HK.out _).mono ?_
        rintro e wz ⟨rfl, hb⟩
        have HB := Lib.hid (S10.keep hb).bl
        clear hb S10
        clear x0_0 x0_1 x1_0 x1_1 x4_0 x4_1 x2_0 x2_1 x3_0 x3_1 x5_0 x5_1 x6_0 x6_1 x7_0 x7_1 x8_0 x8_1
        go_wp2_with fail
        go_ret
        exact ⟨rfl, HB.out⟩
      · have h0' : (C' != 0) = true := by rw [bne_iff_ne]; exact h0
        have HD := Lib.hid (H12.out hs h0)
        clear h0
        clear hs H12
        go_wp2_with fail
        refine (HD.out _).mono ?_
        rintro e w11 ⟨rfl, hb⟩
        have S11 := (S10.keep hb).push #[.int .i64 p, .int .i64 tp] 59
        clear x0_0 x0_1 x1_0 x1_1 x4_0 x4_1 x2_0 x2_1 x3_0 x3_1 x5_0 x5_1 x6_0 x6_1 x7_0 x7_1 x8_0 x8_1 S10 hb
        have x6_0 := S11.c 6 0 rfl rfl
        have x6_1 := S11.c 6 1 rfl rfl
        have x9_0 := S11.c 9 0 rfl rfl
        have x9_1 := S11.c 9 1 rfl rfl
        go_wp2_with fail
        refine (HK.out _).mono ?_
        rintro e wz ⟨rfl, hb⟩
        have HB := Lib.hid (S11.keep hb).bl
        clear hb S11
        clear x6_0 x6_1 x9_0 x9_1
        go_wp2_with fail
        go_ret
        exact ⟨rfl, HB.out⟩
  · have he2' : (e2 == 0) = false := by rw [beq_eq_false_iff_ne]; exact he2
    clear h11 he2
    have x2_0 := S10.c 2 0 rfl rfl
    have x2_1 := S10.c 2 1 rfl rfl
    have x3_0 := S10.c 3 0 rfl rfl
    have x3_1 := S10.c 3 1 rfl rfl
    have x5_0 := S10.c 5 0 rfl rfl
    have x5_1 := S10.c 5 1 rfl rfl
    have x6_0 := S10.c 6 0 rfl rfl
    have x6_1 := S10.c 6 1 rfl rfl
    have x7_0 := S10.c 7 0 rfl rfl
    have x7_1 := S10.c 7 1 rfl rfl
    have x8_0 := S10.c 8 0 rfl rfl
    have x8_1 := S10.c 8 1 rfl rfl
    rcases Int.lt_or_le 9 (S + S') with hs | hs
    · have hs1 : decide (S + S' ≤ 9) = false := decide_eq_false (by omega)
      clear hs H12
      go_wp2_with fail
      refine (HK.out _).mono ?_
      rintro e wz ⟨rfl, hb⟩
      have HB := Lib.hid (S10.keep hb).bl
      clear hb S10
      clear x0_0 x0_1 x1_0 x1_1 x4_0 x4_1 x2_0 x2_1 x3_0 x3_1 x5_0 x5_1 x6_0 x6_1 x7_0 x7_1 x8_0 x8_1
      go_wp2_with fail
      go_ret
      exact ⟨rfl, HB.out⟩
    · have hs1 : decide (S + S' ≤ 9) = true := decide_eq_true hs
      by_cases h0 : C' = 0
      · subst h0
        clear H12 hs
        go_wp2_with fail
        refine (HK.out _).mono ?_
        rintro e wz ⟨rfl, hb⟩
        have HB := Lib.hid (S10.keep hb).bl
        clear hb S10
        clear x0_0 x0_1 x1_0 x1_1 x4_0 x4_1 x2_0 x2_1 x3_0 x3_1 x5_0 x5_1 x6_0 x6_1 x7_0 x7_1 x8_0 x8_1
        go_wp2_with fail
        go_ret
        exact ⟨rfl, HB.out⟩
      · have h0' : (C' != 0) = true := by rw [bne_iff_ne]; exact h0
        have HD := Lib.hid (H12.out hs h0)
        clear h0
        clear hs H12
        go_wp2_with fail
        refine (HD.out _).mono ?_
        rintro e w11 ⟨rfl, hb⟩
        have S11 := (S10.keep hb).push #[.int .i64 p, .int .i64 tp] 59
        clear x0_0 x0_1 x1_0 x1_1 x4_0 x4_1 x2_0 x2_1 x3_0 x3_1 x5_0 x5_1 x6_0 x6_1 x7_0 x7_1 x8_0 x8_1 S10 hb
        have x6_0 := S11.c 6 0 rfl rfl
        have x6_1 := S11.c 6 1 rfl rfl
        have x9_0 := S11.c 9 0 rfl rfl
        have x9_1 := S11.c 9 1 rfl rfl
        go_wp2_with fail
        refine (HK.out _).mono ?_
        rintro e wz ⟨rfl, hb⟩
        have HB := Lib.hid (S11.keep hb).bl
        clear hb S11
        clear x6_0 x6_1 x9_0 x9_1
        go_wp2_with fail
        go_ret
        exact ⟨rfl, HB.out⟩
end Go.Proofs.Ytgkogjlcecbfjaa

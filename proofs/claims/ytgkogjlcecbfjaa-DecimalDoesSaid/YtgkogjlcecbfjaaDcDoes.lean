/- DecimalDoes at every input. (Written by wip/gen/gendc3.py.) -/
import Derived.Test.YtgkogjlcecbfjaaDcBoth
namespace Go.Proofs.Ytgkogjlcecbfjaa
open Go.RowKit Corr
set_option linter.unusedVariables false
set_option maxRecDepth 100000 in
set_option maxHeartbeats 4000000 in
theorem does_no1 (C S C' S' : Int) (h1 : Ans 34 #[DV C S, DV C' S'] 0 0 2) (h2 : Ans 35 #[DV C S, DV C' S'] 0 0 2) (h3 : Ans 36 #[DV C S, DV C' S'] 0 0 2) (h4 : Ans 37 #[DV C S, DV C' S'] 0 0 2) (h5 : AnsIE 38 #[DV C S, DV C' S'] 0 2) (h6 : AnsB 39 #[DV C S] false) : AnsB 6 #[DV C S, DV C' S'] true := fun w => by
  have HK := Lib.hid known2_any
  have H1 := Lib.hid h1
  have H2 := Lib.hid h2
  have H3 := Lib.hid h3
  have H4 := Lib.hid h4
  have H5 := Lib.hid h5
  have H6 := Lib.hid h6
  clear h1 h2 h3 h4 h5 h6
  have S0 := ((Mem.start w).push #[.int .i64 C, .int .i64 S] 59).push #[.int .i64 C', .int .i64 S'] 59
  simp only [size_alloc] at S0
  go_enter Try.func6, Try.ntmps6
  go_wp2_with fail
  refine (H1.out _).mono ?_
  rintro e w1 ⟨rfl, hb⟩
  have S1 := (S0.keep hb).push #[.int .i64 0, .int .i64 0] 59
  clear S0 hb
  have x0_0 := S1.c 0 0 rfl rfl
  have x0_1 := S1.c 0 1 rfl rfl
  have x1_0 := S1.c 1 0 rfl rfl
  have x1_1 := S1.c 1 1 rfl rfl
  go_wp2_with fail
  refine (H2.out _).mono ?_
  rintro e w2 ⟨rfl, hb⟩
  have S2 := (S1.keep hb).push #[.int .i64 0, .int .i64 0] 59
  clear x0_0 x0_1 x1_0 x1_1 S1 hb
  have x0_0 := S2.c 0 0 rfl rfl
  have x0_1 := S2.c 0 1 rfl rfl
  have x1_0 := S2.c 1 0 rfl rfl
  have x1_1 := S2.c 1 1 rfl rfl
  go_wp2_with fail
  refine (H3.out _).mono ?_
  rintro e w3 ⟨rfl, hb⟩
  have S3 := (S2.keep hb).push #[.int .i64 0, .int .i64 0] 59
  clear x0_0 x0_1 x1_0 x1_1 S2 hb
  have x0_0 := S3.c 0 0 rfl rfl
  have x0_1 := S3.c 0 1 rfl rfl
  have x1_0 := S3.c 1 0 rfl rfl
  have x1_1 := S3.c 1 1 rfl rfl
  go_wp2_with fail
  refine (H4.out _).mono ?_
  rintro e w4 ⟨rfl, hb⟩
  have S4 := (S3.keep hb).push #[.int .i64 0, .int .i64 0] 59
  clear x0_0 x0_1 x1_0 x1_1 S3 hb
  have x0_0 := S4.c 0 0 rfl rfl
  have x0_1 := S4.c 0 1 rfl rfl
  have x1_0 := S4.c 1 0 rfl rfl
  have x1_1 := S4.c 1 1 rfl rfl
  go_wp2_with fail
  refine (H5.out _).mono ?_
  rintro e w5 ⟨rfl, hb⟩
  have S5 := S4.keep hb
  clear x0_0 x0_1 x1_0 x1_1 S4 hb
  have x0_0 := S5.c 0 0 rfl rfl
  have x0_1 := S5.c 0 1 rfl rfl
  go_wp2_with fail
  refine (H6.out _).mono ?_
  rintro e w6 ⟨rfl, hb⟩
  have S6 := S5.keep hb
  clear x0_0 x0_1 S5 hb
  have S7 := S6.push #[.int .i64 0, .int .i64 0] 59
  clear S6
  have x2_0 := S7.c 2 0 rfl rfl
  have x2_1 := S7.c 2 1 rfl rfl
  have x3_0 := S7.c 3 0 rfl rfl
  have x3_1 := S7.c 3 1 rfl rfl
  have x4_0 := S7.c 4 0 rfl rfl
  have x4_1 := S7.c 4 1 rfl rfl
  have x5_0 := S7.c 5 0 rfl rfl
  have x5_1 := S7.c 5 1 rfl rfl
  have x6_0 := S7.c 6 0 rfl rfl
  have x6_1 := S7.c 6 1 rfl rfl
  go_wp2_with fail
  refine (HK.out _).mono ?_
  rintro e wz ⟨rfl, hb⟩
  have HB := Lib.hid (S7.keep hb).bl
  clear hb S7
  clear x2_0 x2_1 x3_0 x3_1 x4_0 x4_1 x5_0 x5_1 x6_0 x6_1
  go_wp2_with fail
  go_ret
  exact ⟨rfl, HB.out⟩
set_option maxRecDepth 100000 in
set_option maxHeartbeats 4000000 in
theorem does_no2 (C S C' S' : Int) (h1 : Ans 34 #[DV C S, DV C' S'] 0 0 2) (h2 : Ans 35 #[DV C S, DV C' S'] 0 0 2) (h3 : Ans 36 #[DV C S, DV C' S'] 0 0 2) (h4 : Ans 37 #[DV C S, DV C' S'] 0 0 2) (h5 : AnsIE 38 #[DV C S, DV C' S'] 0 2) (h6 : AnsB 39 #[DV C S] true) (h7 : AnsB 39 #[DV C' S'] false) : AnsB 6 #[DV C S, DV C' S'] true := fun w => by
  have HK := Lib.hid known2_any
  have H1 := Lib.hid h1
  have H2 := Lib.hid h2
  have H3 := Lib.hid h3
  have H4 := Lib.hid h4
  have H5 := Lib.hid h5
  have H6 := Lib.hid h6
  have H7 := Lib.hid h7
  clear h1 h2 h3 h4 h5 h6 h7
  have S0 := ((Mem.start w).push #[.int .i64 C, .int .i64 S] 59).push #[.int .i64 C', .int .i64 S'] 59
  simp only [size_alloc] at S0
  go_enter Try.func6, Try.ntmps6
  go_wp2_with fail
  refine (H1.out _).mono ?_
  rintro e w1 ⟨rfl, hb⟩
  have S1 := (S0.keep hb).push #[.int .i64 0, .int .i64 0] 59
  clear S0 hb
  have x0_0 := S1.c 0 0 rfl rfl
  have x0_1 := S1.c 0 1 rfl rfl
  have x1_0 := S1.c 1 0 rfl rfl
  have x1_1 := S1.c 1 1 rfl rfl
  go_wp2_with fail
  refine (H2.out _).mono ?_
  rintro e w2 ⟨rfl, hb⟩
  have S2 := (S1.keep hb).push #[.int .i64 0, .int .i64 0] 59
  clear x0_0 x0_1 x1_0 x1_1 S1 hb
  have x0_0 := S2.c 0 0 rfl rfl
  have x0_1 := S2.c 0 1 rfl rfl
  have x1_0 := S2.c 1 0 rfl rfl
  have x1_1 := S2.c 1 1 rfl rfl
  go_wp2_with fail
  refine (H3.out _).mono ?_
  rintro e w3 ⟨rfl, hb⟩
  have S3 := (S2.keep hb).push #[.int .i64 0, .int .i64 0] 59
  clear x0_0 x0_1 x1_0 x1_1 S2 hb
  have x0_0 := S3.c 0 0 rfl rfl
  have x0_1 := S3.c 0 1 rfl rfl
  have x1_0 := S3.c 1 0 rfl rfl
  have x1_1 := S3.c 1 1 rfl rfl
  go_wp2_with fail
  refine (H4.out _).mono ?_
  rintro e w4 ⟨rfl, hb⟩
  have S4 := (S3.keep hb).push #[.int .i64 0, .int .i64 0] 59
  clear x0_0 x0_1 x1_0 x1_1 S3 hb
  have x0_0 := S4.c 0 0 rfl rfl
  have x0_1 := S4.c 0 1 rfl rfl
  have x1_0 := S4.c 1 0 rfl rfl
  have x1_1 := S4.c 1 1 rfl rfl
  go_wp2_with fail
  refine (H5.out _).mono ?_
  rintro e w5 ⟨rfl, hb⟩
  have S5 := S4.keep hb
  clear x0_0 x0_1 x1_0 x1_1 S4 hb
  have x0_0 := S5.c 0 0 rfl rfl
  have x0_1 := S5.c 0 1 rfl rfl
  go_wp2_with fail
  refine (H6.out _).mono ?_
  rintro e w6 ⟨rfl, hb⟩
  have S6 := S5.keep hb
  clear x0_0 x0_1 S5 hb
  have x1_0 := S6.c 1 0 rfl rfl
  have x1_1 := S6.c 1 1 rfl rfl
  go_wp2_with fail
  refine (H7.out _).mono ?_
  rintro e w7 ⟨rfl, hb⟩
  have S7 := S6.keep hb
  clear x1_0 x1_1 S6 hb
  have S8 := S7.push #[.int .i64 0, .int .i64 0] 59
  clear S7
  have x2_0 := S8.c 2 0 rfl rfl
  have x2_1 := S8.c 2 1 rfl rfl
  have x3_0 := S8.c 3 0 rfl rfl
  have x3_1 := S8.c 3 1 rfl rfl
  have x4_0 := S8.c 4 0 rfl rfl
  have x4_1 := S8.c 4 1 rfl rfl
  have x5_0 := S8.c 5 0 rfl rfl
  have x5_1 := S8.c 5 1 rfl rfl
  have x6_0 := S8.c 6 0 rfl rfl
  have x6_1 := S8.c 6 1 rfl rfl
  go_wp2_with fail
  refine (HK.out _).mono ?_
  rintro e wz ⟨rfl, hb⟩
  have HB := Lib.hid (S8.keep hb).bl
  clear hb S8
  clear x2_0 x2_1 x3_0 x3_1 x4_0 x4_1 x5_0 x5_1 x6_0 x6_1
  go_wp2_with fail
  go_ret
  exact ⟨rfl, HB.out⟩
set_option maxRecDepth 100000 in
set_option maxHeartbeats 8000000 in
theorem does_nought (C S S' q c1 t1 e1 c2 t2 e2 c3 t3 e3 : Int) (h1 : Ans 34 #[DV C S, DV 0 S'] c1 t1 e1) (h2 : Ans 35 #[DV C S, DV 0 S'] c2 t2 e2) (h3 : Ans 36 #[DV C S, DV 0 S'] c3 t3 e3) (h4 : Ans 37 #[DV C S, DV 0 S'] 0 0 12) (h5 : AnsIE 38 #[DV C S, DV 0 S'] q 0) (h6 : AnsB 39 #[DV C S] true) (h7 : AnsB 39 #[DV 0 S'] true) (h8 : Ans 41 #[DV C S, DV 0 S'] c1 t1 e1) (h9 : Ans 42 #[DV C S, DV 0 S'] c2 t2 e2) (h10 : Ans 43 #[DV C S, DV 0 S'] c3 t3 e3) (h11 : AnsI 44 #[DV C S, DV 0 S'] q) : AnsB 6 #[DV C S, DV 0 S'] true := fun w => by
  have HK := Lib.hid known2_any
  have H1 := Lib.hid h1
  have H2 := Lib.hid h2
  have H3 := Lib.hid h3
  have H4 := Lib.hid h4
  have H5 := Lib.hid h5
  have H6 := Lib.hid h6
  have H7 := Lib.hid h7
  have H8 := Lib.hid h8
  have H9 := Lib.hid h9
  have H10 := Lib.hid h10
  have H11 := Lib.hid h11
  clear h1 h2 h3 h4 h5 h6 h7 h8 h9 h10 h11
  have S0 := ((Mem.start w).push #[.int .i64 C, .int .i64 S] 59).push #[.int .i64 0, .int .i64 S'] 59
  simp only [size_alloc] at S0
  go_enter Try.func6, Try.ntmps6
  go_wp2_with fail
  refine (H1.out _).mono ?_
  rintro e w1 ⟨rfl, hb⟩
  have S1 := (S0.keep hb).push #[.int .i64 c1, .int .i64 t1] 59
  clear S0 hb
  have x0_0 := S1.c 0 0 rfl rfl
  have x0_1 := S1.c 0 1 rfl rfl
  have x1_0 := S1.c 1 0 rfl rfl
  have x1_1 := S1.c 1 1 rfl rfl
  go_wp2_with fail
  refine (H2.out _).mono ?_
  rintro e w2 ⟨rfl, hb⟩
  have S2 := (S1.keep hb).push #[.int .i64 c2, .int .i64 t2] 59
  clear x0_0 x0_1 x1_0 x1_1 S1 hb
  have x0_0 := S2.c 0 0 rfl rfl
  have x0_1 := S2.c 0 1 rfl rfl
  have x1_0 := S2.c 1 0 rfl rfl
  have x1_1 := S2.c 1 1 rfl rfl
  go_wp2_with fail
  refine (H3.out _).mono ?_
  rintro e w3 ⟨rfl, hb⟩
  have S3 := (S2.keep hb).push #[.int .i64 c3, .int .i64 t3] 59
  clear x0_0 x0_1 x1_0 x1_1 S2 hb
  have x0_0 := S3.c 0 0 rfl rfl
  have x0_1 := S3.c 0 1 rfl rfl
  have x1_0 := S3.c 1 0 rfl rfl
  have x1_1 := S3.c 1 1 rfl rfl
  go_wp2_with fail
  refine (H4.out _).mono ?_
  rintro e w4 ⟨rfl, hb⟩
  have S4 := (S3.keep hb).push #[.int .i64 0, .int .i64 0] 59
  clear x0_0 x0_1 x1_0 x1_1 S3 hb
  have x0_0 := S4.c 0 0 rfl rfl
  have x0_1 := S4.c 0 1 rfl rfl
  have x1_0 := S4.c 1 0 rfl rfl
  have x1_1 := S4.c 1 1 rfl rfl
  go_wp2_with fail
  refine (H5.out _).mono ?_
  rintro e w5 ⟨rfl, hb⟩
  have S5 := S4.keep hb
  clear x0_0 x0_1 x1_0 x1_1 S4 hb
  have x0_0 := S5.c 0 0 rfl rfl
  have x0_1 := S5.c 0 1 rfl rfl
  go_wp2_with fail
  refine (H6.out _).mono ?_
  rintro e w6 ⟨rfl, hb⟩
  have S6 := S5.keep hb
  clear x0_0 x0_1 S5 hb
  have x1_0 := S6.c 1 0 rfl rfl
  have x1_1 := S6.c 1 1 rfl rfl
  go_wp2_with fail
  refine (H7.out _).mono ?_
  rintro e w7 ⟨rfl, hb⟩
  have S7 := S6.keep hb
  clear x1_0 x1_1 S6 hb
  have x0_0 := S7.c 0 0 rfl rfl
  have x0_1 := S7.c 0 1 rfl rfl
  have x1_0 := S7.c 1 0 rfl rfl
  have x1_1 := S7.c 1 1 rfl rfl
  go_wp2_with fail
  refine (H8.out _).mono ?_
  rintro e w8 ⟨rfl, hb⟩
  have S8 := (S7.keep hb).push #[.int .i64 c1, .int .i64 t1] 59
  clear x0_0 x0_1 x1_0 x1_1 S7 hb
  have x0_0 := S8.c 0 0 rfl rfl
  have x0_1 := S8.c 0 1 rfl rfl
  have x1_0 := S8.c 1 0 rfl rfl
  have x1_1 := S8.c 1 1 rfl rfl
  go_wp2_with fail
  refine (H9.out _).mono ?_
  rintro e w9 ⟨rfl, hb⟩
  have S9 := (S8.keep hb).push #[.int .i64 c2, .int .i64 t2] 59
  clear x0_0 x0_1 x1_0 x1_1 S8 hb
  have x0_0 := S9.c 0 0 rfl rfl
  have x0_1 := S9.c 0 1 rfl rfl
  have x1_0 := S9.c 1 0 rfl rfl
  have x1_1 := S9.c 1 1 rfl rfl
  go_wp2_with fail
  refine (H10.out _).mono ?_
  rintro e w10 ⟨rfl, hb⟩
  have S10 := (S9.keep hb).push #[.int .i64 c3, .int .i64 t3] 59
  clear x0_0 x0_1 x1_0 x1_1 S9 hb
  have x0_0 := S10.c 0 0 rfl rfl
  have x0_1 := S10.c 0 1 rfl rfl
  have x1_0 := S10.c 1 0 rfl rfl
  have x1_1 := S10.c 1 1 rfl rfl
  have x2_0 := S10.c 2 0 rfl rfl
  have x2_1 := S10.c 2 1 rfl rfl
  have x3_0 := S10.c 3 0 rfl rfl
  have x3_1 := S10.c 3 1 rfl rfl
  have x4_0 := S10.c 4 0 rfl rfl
  have x4_1 := S10.c 4 1 rfl rfl
  have x5_0 := S10.c 5 0 rfl rfl
  have x5_1 := S10.c 5 1 rfl rfl
  have x6_0 := S10.c 6 0 rfl rfl
  have x6_1 := S10.c 6 1 rfl rfl
  have x7_0 := S10.c 7 0 rfl rfl
  have x7_1 := S10.c 7 1 rfl rfl
  have x8_0 := S10.c 8 0 rfl rfl
  have x8_1 := S10.c 8 1 rfl rfl
  go_wp2_with fail
  refine (H11.out _).mono ?_
  rintro e w11 ⟨rfl, hb⟩
  have S11 := S10.keep hb
  clear x0_0 x0_1 x1_0 x1_1 x2_0 x2_1 x3_0 x3_1 x4_0 x4_1 x5_0 x5_1 x6_0 x6_1 x7_0 x7_1 x8_0 x8_1 S10 hb
  have x1_0 := S11.c 1 0 rfl rfl
  have x1_1 := S11.c 1 1 rfl rfl
  have x5_0 := S11.c 5 0 rfl rfl
  have x5_1 := S11.c 5 1 rfl rfl
  go_wp2_with fail
  refine (HK.out _).mono ?_
  rintro e wz ⟨rfl, hb⟩
  have HB := Lib.hid (S11.keep hb).bl
  clear hb S11
  clear x1_0 x1_1 x5_0 x5_1
  go_wp2_with fail
  go_ret
  exact ⟨rfl, HB.out⟩
set_option maxRecDepth 100000 in
set_option maxHeartbeats 8000000 in
theorem does_good (C S C' S' q c1 t1 e1 c2 t2 e2 c3 t3 e3 c4 t4 e4 : Int) (h1 : Ans 34 #[DV C S, DV C' S'] c1 t1 e1) (h2 : Ans 35 #[DV C S, DV C' S'] c2 t2 e2) (h3 : Ans 36 #[DV C S, DV C' S'] c3 t3 e3) (h4 : Ans 37 #[DV C S, DV C' S'] c4 t4 e4) (h5 : AnsIE 38 #[DV C S, DV C' S'] q 0) (h6 : AnsB 39 #[DV C S] true) (h7 : AnsB 39 #[DV C' S'] true) (h8 : Ans 41 #[DV C S, DV C' S'] c1 t1 e1) (h9 : Ans 42 #[DV C S, DV C' S'] c2 t2 e2) (h10 : Ans 43 #[DV C S, DV C' S'] c3 t3 e3) (h11 : AnsI 44 #[DV C S, DV C' S'] q) (h12 : Ans 45 #[DV C S, DV C' S'] c4 t4 e4) (h0 : C' ≠ 0) : AnsB 6 #[DV C S, DV C' S'] true := fun w => by
  have HK := Lib.hid known2_any
  have H1 := Lib.hid h1
  have H2 := Lib.hid h2
  have H3 := Lib.hid h3
  have H4 := Lib.hid h4
  have H5 := Lib.hid h5
  have H6 := Lib.hid h6
  have H7 := Lib.hid h7
  have H8 := Lib.hid h8
  have H9 := Lib.hid h9
  have H10 := Lib.hid h10
  have H11 := Lib.hid h11
  have H12 := Lib.hid h12
  clear h1 h2 h3 h4 h5 h6 h7 h8 h9 h10 h11 h12
  have hz : (C' == 0) = false := by rw [beq_eq_false_iff_ne]; exact h0
  clear h0
  have S0 := ((Mem.start w).push #[.int .i64 C, .int .i64 S] 59).push #[.int .i64 C', .int .i64 S'] 59
  simp only [size_alloc] at S0
  go_enter Try.func6, Try.ntmps6
  go_wp2_with fail
  refine (H1.out _).mono ?_
  rintro e w1 ⟨rfl, hb⟩
  have S1 := (S0.keep hb).push #[.int .i64 c1, .int .i64 t1] 59
  clear S0 hb
  have x0_0 := S1.c 0 0 rfl rfl
  have x0_1 := S1.c 0 1 rfl rfl
  have x1_0 := S1.c 1 0 rfl rfl
  have x1_1 := S1.c 1 1 rfl rfl
  go_wp2_with fail
  refine (H2.out _).mono ?_
  rintro e w2 ⟨rfl, hb⟩
  have S2 := (S1.keep hb).push #[.int .i64 c2, .int .i64 t2] 59
  clear x0_0 x0_1 x1_0 x1_1 S1 hb
  have x0_0 := S2.c 0 0 rfl rfl
  have x0_1 := S2.c 0 1 rfl rfl
  have x1_0 := S2.c 1 0 rfl rfl
  have x1_1 := S2.c 1 1 rfl rfl
  go_wp2_with fail
  refine (H3.out _).mono ?_
  rintro e w3 ⟨rfl, hb⟩
  have S3 := (S2.keep hb).push #[.int .i64 c3, .int .i64 t3] 59
  clear x0_0 x0_1 x1_0 x1_1 S2 hb
  have x0_0 := S3.c 0 0 rfl rfl
  have x0_1 := S3.c 0 1 rfl rfl
  have x1_0 := S3.c 1 0 rfl rfl
  have x1_1 := S3.c 1 1 rfl rfl
  go_wp2_with fail
  refine (H4.out _).mono ?_
  rintro e w4 ⟨rfl, hb⟩
  have S4 := (S3.keep hb).push #[.int .i64 c4, .int .i64 t4] 59
  clear x0_0 x0_1 x1_0 x1_1 S3 hb
  have x0_0 := S4.c 0 0 rfl rfl
  have x0_1 := S4.c 0 1 rfl rfl
  have x1_0 := S4.c 1 0 rfl rfl
  have x1_1 := S4.c 1 1 rfl rfl
  go_wp2_with fail
  refine (H5.out _).mono ?_
  rintro e w5 ⟨rfl, hb⟩
  have S5 := S4.keep hb
  clear x0_0 x0_1 x1_0 x1_1 S4 hb
  have x0_0 := S5.c 0 0 rfl rfl
  have x0_1 := S5.c 0 1 rfl rfl
  go_wp2_with fail
  refine (H6.out _).mono ?_
  rintro e w6 ⟨rfl, hb⟩
  have S6 := S5.keep hb
  clear x0_0 x0_1 S5 hb
  have x1_0 := S6.c 1 0 rfl rfl
  have x1_1 := S6.c 1 1 rfl rfl
  go_wp2_with fail
  refine (H7.out _).mono ?_
  rintro e w7 ⟨rfl, hb⟩
  have S7 := S6.keep hb
  clear x1_0 x1_1 S6 hb
  have x0_0 := S7.c 0 0 rfl rfl
  have x0_1 := S7.c 0 1 rfl rfl
  have x1_0 := S7.c 1 0 rfl rfl
  have x1_1 := S7.c 1 1 rfl rfl
  go_wp2_with fail
  refine (H8.out _).mono ?_
  rintro e w8 ⟨rfl, hb⟩
  have S8 := (S7.keep hb).push #[.int .i64 c1, .int .i64 t1] 59
  clear x0_0 x0_1 x1_0 x1_1 S7 hb
  have x0_0 := S8.c 0 0 rfl rfl
  have x0_1 := S8.c 0 1 rfl rfl
  have x1_0 := S8.c 1 0 rfl rfl
  have x1_1 := S8.c 1 1 rfl rfl
  go_wp2_with fail
  refine (H9.out _).mono ?_
  rintro e w9 ⟨rfl, hb⟩
  have S9 := (S8.keep hb).push #[.int .i64 c2, .int .i64 t2] 59
  clear x0_0 x0_1 x1_0 x1_1 S8 hb
  have x0_0 := S9.c 0 0 rfl rfl
  have x0_1 := S9.c 0 1 rfl rfl
  have x1_0 := S9.c 1 0 rfl rfl
  have x1_1 := S9.c 1 1 rfl rfl
  go_wp2_with fail
  refine (H10.out _).mono ?_
  rintro e w10 ⟨rfl, hb⟩
  have S10 := (S9.keep hb).push #[.int .i64 c3, .int .i64 t3] 59
  clear x0_0 x0_1 x1_0 x1_1 S9 hb
  have x0_0 := S10.c 0 0 rfl rfl
  have x0_1 := S10.c 0 1 rfl rfl
  have x1_0 := S10.c 1 0 rfl rfl
  have x1_1 := S10.c 1 1 rfl rfl
  have x2_0 := S10.c 2 0 rfl rfl
  have x2_1 := S10.c 2 1 rfl rfl
  have x3_0 := S10.c 3 0 rfl rfl
  have x3_1 := S10.c 3 1 rfl rfl
  have x4_0 := S10.c 4 0 rfl rfl
  have x4_1 := S10.c 4 1 rfl rfl
  have x5_0 := S10.c 5 0 rfl rfl
  have x5_1 := S10.c 5 1 rfl rfl
  have x6_0 := S10.c 6 0 rfl rfl
  have x6_1 := S10.c 6 1 rfl rfl
  have x7_0 := S10.c 7 0 rfl rfl
  have x7_1 := S10.c 7 1 rfl rfl
  have x8_0 := S10.c 8 0 rfl rfl
  have x8_1 := S10.c 8 1 rfl rfl
  go_wp2_with fail
  refine (H11.out _).mono ?_
  rintro e w11 ⟨rfl, hb⟩
  have S11 := S10.keep hb
  clear x0_0 x0_1 x1_0 x1_1 x2_0 x2_1 x3_0 x3_1 x4_0 x4_1 x5_0 x5_1 x6_0 x6_1 x7_0 x7_1 x8_0 x8_1 S10 hb
  have x0_0 := S11.c 0 0 rfl rfl
  have x0_1 := S11.c 0 1 rfl rfl
  have x1_0 := S11.c 1 0 rfl rfl
  have x1_1 := S11.c 1 1 rfl rfl
  have x2_0 := S11.c 2 0 rfl rfl
  have x2_1 := S11.c 2 1 rfl rfl
  have x3_0 := S11.c 3 0 rfl rfl
  have x3_1 := S11.c 3 1 rfl rfl
  have x4_0 := S11.c 4 0 rfl rfl
  have x4_1 := S11.c 4 1 rfl rfl
  have x5_0 := S11.c 5 0 rfl rfl
  have x5_1 := S11.c 5 1 rfl rfl
  have x6_0 := S11.c 6 0 rfl rfl
  have x6_1 := S11.c 6 1 rfl rfl
  have x7_0 := S11.c 7 0 rfl rfl
  have x7_1 := S11.c 7 1 rfl rfl
  have x8_0 := S11.c 8 0 rfl rfl
  have x8_1 := S11.c 8 1 rfl rfl
  go_wp2_with fail
  refine (H12.out _).mono ?_
  rintro e w12 ⟨rfl, hb⟩
  have S12 := (S11.keep hb).push #[.int .i64 c4, .int .i64 t4] 59
  clear x0_0 x0_1 x1_0 x1_1 x2_0 x2_1 x3_0 x3_1 x4_0 x4_1 x5_0 x5_1 x6_0 x6_1 x7_0 x7_1 x8_0 x8_1 S11 hb
  have x5_0 := S12.c 5 0 rfl rfl
  have x5_1 := S12.c 5 1 rfl rfl
  have x9_0 := S12.c 9 0 rfl rfl
  have x9_1 := S12.c 9 1 rfl rfl
  go_wp2_with fail
  refine (HK.out _).mono ?_
  rintro e wz ⟨rfl, hb⟩
  have HB := Lib.hid (S12.keep hb).bl
  clear hb S12
  clear x5_0 x5_1 x9_0 x9_1
  go_wp2_with fail
  go_ret
  exact ⟨rfl, HB.out⟩
theorem does_any (C S C' S' : Int) (c0 : -9223372036854775808 ≤ C) (c1 : C ≤ 9223372036854775807) (c0' : -9223372036854775808 ≤ C') (c1' : C' ≤ 9223372036854775807) : AnsB 6 #[DV C S, DV C' S'] true := by
  by_cases h : S < 0 ∨ 9 < S
  · exact does_no1 C S C' S' (fun w => dadd_no1 C C' S S' w h) (fun w => dsub_no1 C C' S S' w h) (fun w => dmul_no1 C C' S S' w h) (fun w => ddiv_no1 C C' S S' w h) (fun w => dcmp_no1 C C' S S' w h) (fun w => nis_no C S w h)
  · by_cases h' : S' < 0 ∨ 9 < S'
    · exact does_no2 C S C' S' (fun w => dadd_no2 C C' S S' w (by omega) (by omega) h') (fun w => dsub_no2 C C' S S' w (by omega) (by omega) h') (fun w => dmul_no2 C C' S S' w (by omega) (by omega) h') (fun w => ddiv_no2 C C' S S' w (by omega) (by omega) h') (fun w => dcmp_no2 C C' S S' w (by omega) (by omega) h') (fun w => nis_yes C S w (by omega) (by omega)) (fun w => nis_no C' S' w h')
    · obtain ⟨s, rfl⟩ : ∃ s : Nat, S = (s : Int) := ⟨S.toNat, by omega⟩
      obtain ⟨s', rfl⟩ : ∃ s' : Nat, S' = (s' : Int) := ⟨S'.toNat, by omega⟩
      have x : IsD C s := ⟨c0, c1, by omega⟩
      have y : IsD C' s' := ⟨c0', c1', by omega⟩
      obtain ⟨a1, b1, d1, p1, q1⟩ := add_both x y
      obtain ⟨a2, b2, d2, p2, q2⟩ := sub_both x y
      obtain ⟨a3, b3, d3, p3, q3⟩ := mul_both x y
      obtain ⟨k, p5, q5⟩ := cmp_both x y
      by_cases h0 : C' = 0
      · subst h0
        exact does_nought C s s' k a1 b1 d1 a2 b2 d2 a3 b3 d3 p1 p2 p3 (fun w => ddiv_nought C s s' w x.s y.s) p5 (is_yes x) (is_yes y) q1 q2 q3 q5
      · obtain ⟨a4, b4, d4, p4, q4⟩ := div_both x y h0
        exact does_good C s C' s' k a1 b1 d1 a2 b2 d2 a3 b3 d3 a4 b4 d4 p1 p2 p3 p4 p5 (is_yes x) (is_yes y) q1 q2 q3 q5 q4 h0
end Go.Proofs.Ytgkogjlcecbfjaa

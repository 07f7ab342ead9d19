/- Contracts of package decimal: sums, refusals. (Written by wip/gen/gendc3.py.) -/
import Derived.Test.YtgkogjlcecbfjaaDc2
namespace Go.Proofs.Ytgkogjlcecbfjaa
open Go.RowKit Corr
set_option linter.unusedVariables false
theorem dsums_le (C C' : Int) (S S' : Nat) (w : World) (h : S ≤ S') (hS : S ≤ 9) (hS' : S' ≤ 9) :
    Calls Try.prog 73 #[.agg #[.int .i64 C, .int .i64 (S : Int)], .agg #[.int .i64 C', .int .i64 (S' : Int)]] w fun e w' => ∃ gx gs gy : Nat, e = .returned (.tuple #[.func (.func 81) #[] #[.pointer (some ⟨gx, 0, none⟩), .pointer (some ⟨gs, 0, none⟩), .pointer (some ⟨gy, 0, none⟩)], .int .i64 (S' : Int)]) ∧ Blk w' gx #[.int .i64 C, .int .i64 (S : Int)] ∧ Blk w' gs #[.int .i64 (S' : Int)] ∧ Blk w' gy #[.int .i64 C', .int .i64 (S' : Int)] ∧ Below w.heap.size w w' := by
  have hmx : max (S : Int) (S' : Int) = (S' : Int) := by omega
  have S0 := (((Mem.start w).push #[.int .i64 C, .int .i64 (S : Int)] 59).push #[.int .i64 C', .int .i64 (S' : Int)] 59).push #[.int .i64 0] 3
  simp only [size_alloc] at S0
  have S1 := (((Mem.start w).push #[.int .i64 C, .int .i64 (S : Int)] 59).push #[.int .i64 C', .int .i64 (S' : Int)] 59).push #[.int .i64 (S' : Int)] 3
  simp only [size_alloc] at S1
  clear S0
  have HF := Lib.hid S1.drew
  have z0 := S1.drew.c 2 0 rfl rfl; have z1 := S1.drew.f 2 0 rfl
  clear S1
  go_enter Try.func73, Try.ntmps73
  go_upto_region 3 with fail
  go_region
  go_wp2_with fail
  exact bodyPost_ret (v := .tuple #[.func (.func 81) #[] #[.pointer (some ⟨w.heap.size, 0, none⟩), .pointer (some ⟨w.heap.size + 1 + 1, 0, none⟩), .pointer (some ⟨w.heap.size + 1, 0, none⟩)], .int .i64 (S' : Int)]) (by simp [results, Try.results73, go_sem, z0]) rfl ⟨_, _, _, rfl, HF.out.b 0 rfl, HF.out.b 2 rfl, HF.out.b 1 rfl, HF.out.bl⟩
theorem dsums_gt (C C' : Int) (S S' : Nat) (w : World) (h : S' < S) (hS : S ≤ 9) (hS' : S' ≤ 9) :
    Calls Try.prog 73 #[.agg #[.int .i64 C, .int .i64 (S : Int)], .agg #[.int .i64 C', .int .i64 (S' : Int)]] w fun e w' => ∃ gx gs gy : Nat, e = .returned (.tuple #[.func (.func 81) #[] #[.pointer (some ⟨gx, 0, none⟩), .pointer (some ⟨gs, 0, none⟩), .pointer (some ⟨gy, 0, none⟩)], .int .i64 (S : Int)]) ∧ Blk w' gx #[.int .i64 C, .int .i64 (S : Int)] ∧ Blk w' gs #[.int .i64 (S : Int)] ∧ Blk w' gy #[.int .i64 C', .int .i64 (S' : Int)] ∧ Below w.heap.size w w' := by
  have hmx : max (S : Int) (S' : Int) = (S : Int) := by omega
  have S0 := (((Mem.start w).push #[.int .i64 C, .int .i64 (S : Int)] 59).push #[.int .i64 C', .int .i64 (S' : Int)] 59).push #[.int .i64 0] 3
  simp only [size_alloc] at S0
  have S1 := (((Mem.start w).push #[.int .i64 C, .int .i64 (S : Int)] 59).push #[.int .i64 C', .int .i64 (S' : Int)] 59).push #[.int .i64 (S : Int)] 3
  simp only [size_alloc] at S1
  clear S0
  have HF := Lib.hid S1.drew
  have z0 := S1.drew.c 2 0 rfl rfl; have z1 := S1.drew.f 2 0 rfl
  clear S1
  go_enter Try.func73, Try.ntmps73
  go_upto_region 3 with fail
  go_region
  go_wp2_with fail
  exact bodyPost_ret (v := .tuple #[.func (.func 81) #[] #[.pointer (some ⟨w.heap.size, 0, none⟩), .pointer (some ⟨w.heap.size + 1 + 1, 0, none⟩), .pointer (some ⟨w.heap.size + 1, 0, none⟩)], .int .i64 (S : Int)]) (by simp [results, Try.results73, go_sem, z0]) rfl ⟨_, _, _, rfl, HF.out.b 0 rfl, HF.out.b 2 rfl, HF.out.b 1 rfl, HF.out.bl⟩
theorem dadd_no1 (C C' S S' : Int) (w : World) (h : S < 0 ∨ 9 < S) :
    Calls Try.prog 34 #[.agg #[.int .i64 C, .int .i64 S], .agg #[.int .i64 C', .int .i64 S']] w fun e w' => e = .returned (.tuple #[.agg #[.int .i64 0, .int .i64 0], .int .i64 2]) ∧ Below w.heap.size w w' := by
  have HI := Lib.hid (fun w => dis_no C S w h)
  clear h
  have S0 := (((Mem.start w).push #[.int .i64 C, .int .i64 S] 59).push #[.int .i64 C', .int .i64 S'] 59).push #[.int .i64 0, .int .i64 0] 59
  simp only [size_alloc] at S0
  go_enter Try.func34, Try.ntmps34
  go_wp2_with fail
  refine (HI.out _).mono ?_
  rintro e w1 ⟨rfl, hb⟩
  have S1 := S0.keep hb
  clear S0 hb
  have za := S1.c 2 0 rfl rfl; have zb := S1.c 2 1 rfl rfl; have zc := S1.f 2 0 rfl; have zd := S1.f 2 1 rfl
  have HF := Lib.hid (S1.put20 2 rfl (.int .i64 0) (.int .i64 0))
  clear S1
  go_wp2_with fail
  exact bodyPost_ret (v := .tuple #[.agg #[.int .i64 0, .int .i64 0], .int .i64 2]) (by simp [results, Try.results34, go_sem, za, zb]) rfl ⟨rfl, HF.out.bl⟩
theorem dadd_no2 (C C' S S' : Int) (w : World) (h0 : 0 ≤ S) (h9 : S ≤ 9) (h : S' < 0 ∨ 9 < S') :
    Calls Try.prog 34 #[.agg #[.int .i64 C, .int .i64 S], .agg #[.int .i64 C', .int .i64 S']] w fun e w' => e = .returned (.tuple #[.agg #[.int .i64 0, .int .i64 0], .int .i64 2]) ∧ Below w.heap.size w w' := by
  have HJ := Lib.hid (fun w => dis_yes C S w h0 h9)
  have HI := Lib.hid (fun w => dis_no C' S' w h)
  clear h h0 h9
  have S0 := (((Mem.start w).push #[.int .i64 C, .int .i64 S] 59).push #[.int .i64 C', .int .i64 S'] 59).push #[.int .i64 0, .int .i64 0] 59
  simp only [size_alloc] at S0
  go_enter Try.func34, Try.ntmps34
  go_wp2_with fail
  refine (HJ.out _).mono ?_
  rintro e w1 ⟨rfl, hb⟩
  have S1 := S0.keep hb
  clear S0 hb
  have x1_0 := S1.c 1 0 rfl rfl
  have x1_1 := S1.c 1 1 rfl rfl
  go_wp2_with fail
  refine (HI.out _).mono ?_
  rintro e w2 ⟨rfl, hb⟩
  have S2 := S1.keep hb
  clear x1_0 x1_1 S1 hb
  have za := S2.c 2 0 rfl rfl; have zb := S2.c 2 1 rfl rfl; have zc := S2.f 2 0 rfl; have zd := S2.f 2 1 rfl
  have HF := Lib.hid (S2.put20 2 rfl (.int .i64 0) (.int .i64 0))
  clear S2
  go_wp2_with fail
  exact bodyPost_ret (v := .tuple #[.agg #[.int .i64 0, .int .i64 0], .int .i64 2]) (by simp [results, Try.results34, go_sem, za, zb]) rfl ⟨rfl, HF.out.bl⟩
theorem dsub_no1 (C C' S S' : Int) (w : World) (h : S < 0 ∨ 9 < S) :
    Calls Try.prog 35 #[.agg #[.int .i64 C, .int .i64 S], .agg #[.int .i64 C', .int .i64 S']] w fun e w' => e = .returned (.tuple #[.agg #[.int .i64 0, .int .i64 0], .int .i64 2]) ∧ Below w.heap.size w w' := by
  have HI := Lib.hid (fun w => dis_no C S w h)
  clear h
  have S0 := (((Mem.start w).push #[.int .i64 C, .int .i64 S] 59).push #[.int .i64 C', .int .i64 S'] 59).push #[.int .i64 0, .int .i64 0] 59
  simp only [size_alloc] at S0
  go_enter Try.func35, Try.ntmps35
  go_wp2_with fail
  refine (HI.out _).mono ?_
  rintro e w1 ⟨rfl, hb⟩
  have S1 := S0.keep hb
  clear S0 hb
  have za := S1.c 2 0 rfl rfl; have zb := S1.c 2 1 rfl rfl; have zc := S1.f 2 0 rfl; have zd := S1.f 2 1 rfl
  have HF := Lib.hid (S1.put20 2 rfl (.int .i64 0) (.int .i64 0))
  clear S1
  go_wp2_with fail
  exact bodyPost_ret (v := .tuple #[.agg #[.int .i64 0, .int .i64 0], .int .i64 2]) (by simp [results, Try.results35, go_sem, za, zb]) rfl ⟨rfl, HF.out.bl⟩
theorem dsub_no2 (C C' S S' : Int) (w : World) (h0 : 0 ≤ S) (h9 : S ≤ 9) (h : S' < 0 ∨ 9 < S') :
    Calls Try.prog 35 #[.agg #[.int .i64 C, .int .i64 S], .agg #[.int .i64 C', .int .i64 S']] w fun e w' => e = .returned (.tuple #[.agg #[.int .i64 0, .int .i64 0], .int .i64 2]) ∧ Below w.heap.size w w' := by
  have HJ := Lib.hid (fun w => dis_yes C S w h0 h9)
  have HI := Lib.hid (fun w => dis_no C' S' w h)
  clear h h0 h9
  have S0 := (((Mem.start w).push #[.int .i64 C, .int .i64 S] 59).push #[.int .i64 C', .int .i64 S'] 59).push #[.int .i64 0, .int .i64 0] 59
  simp only [size_alloc] at S0
  go_enter Try.func35, Try.ntmps35
  go_wp2_with fail
  refine (HJ.out _).mono ?_
  rintro e w1 ⟨rfl, hb⟩
  have S1 := S0.keep hb
  clear S0 hb
  have x1_0 := S1.c 1 0 rfl rfl
  have x1_1 := S1.c 1 1 rfl rfl
  go_wp2_with fail
  refine (HI.out _).mono ?_
  rintro e w2 ⟨rfl, hb⟩
  have S2 := S1.keep hb
  clear x1_0 x1_1 S1 hb
  have za := S2.c 2 0 rfl rfl; have zb := S2.c 2 1 rfl rfl; have zc := S2.f 2 0 rfl; have zd := S2.f 2 1 rfl
  have HF := Lib.hid (S2.put20 2 rfl (.int .i64 0) (.int .i64 0))
  clear S2
  go_wp2_with fail
  exact bodyPost_ret (v := .tuple #[.agg #[.int .i64 0, .int .i64 0], .int .i64 2]) (by simp [results, Try.results35, go_sem, za, zb]) rfl ⟨rfl, HF.out.bl⟩
theorem dmul_no1 (C C' S S' : Int) (w : World) (h : S < 0 ∨ 9 < S) :
    Calls Try.prog 36 #[.agg #[.int .i64 C, .int .i64 S], .agg #[.int .i64 C', .int .i64 S']] w fun e w' => e = .returned (.tuple #[.agg #[.int .i64 0, .int .i64 0], .int .i64 2]) ∧ Below w.heap.size w w' := by
  have HI := Lib.hid (fun w => dis_no C S w h)
  clear h
  have S0 := (((Mem.start w).push #[.int .i64 C, .int .i64 S] 59).push #[.int .i64 C', .int .i64 S'] 59).push #[.int .i64 0, .int .i64 0] 59
  simp only [size_alloc] at S0
  go_enter Try.func36, Try.ntmps36
  go_wp2_with fail
  refine (HI.out _).mono ?_
  rintro e w1 ⟨rfl, hb⟩
  have S1 := S0.keep hb
  clear S0 hb
  have za := S1.c 2 0 rfl rfl; have zb := S1.c 2 1 rfl rfl; have zc := S1.f 2 0 rfl; have zd := S1.f 2 1 rfl
  have HF := Lib.hid (S1.put20 2 rfl (.int .i64 0) (.int .i64 0))
  clear S1
  go_wp2_with fail
  exact bodyPost_ret (v := .tuple #[.agg #[.int .i64 0, .int .i64 0], .int .i64 2]) (by simp [results, Try.results36, go_sem, za, zb]) rfl ⟨rfl, HF.out.bl⟩
theorem dmul_no2 (C C' S S' : Int) (w : World) (h0 : 0 ≤ S) (h9 : S ≤ 9) (h : S' < 0 ∨ 9 < S') :
    Calls Try.prog 36 #[.agg #[.int .i64 C, .int .i64 S], .agg #[.int .i64 C', .int .i64 S']] w fun e w' => e = .returned (.tuple #[.agg #[.int .i64 0, .int .i64 0], .int .i64 2]) ∧ Below w.heap.size w w' := by
  have HJ := Lib.hid (fun w => dis_yes C S w h0 h9)
  have HI := Lib.hid (fun w => dis_no C' S' w h)
  clear h h0 h9
  have S0 := (((Mem.start w).push #[.int .i64 C, .int .i64 S] 59).push #[.int .i64 C', .int .i64 S'] 59).push #[.int .i64 0, .int .i64 0] 59
  simp only [size_alloc] at S0
  go_enter Try.func36, Try.ntmps36
  go_wp2_with fail
  refine (HJ.out _).mono ?_
  rintro e w1 ⟨rfl, hb⟩
  have S1 := S0.keep hb
  clear S0 hb
  have x1_0 := S1.c 1 0 rfl rfl
  have x1_1 := S1.c 1 1 rfl rfl
  go_wp2_with fail
  refine (HI.out _).mono ?_
  rintro e w2 ⟨rfl, hb⟩
  have S2 := S1.keep hb
  clear x1_0 x1_1 S1 hb
  have za := S2.c 2 0 rfl rfl; have zb := S2.c 2 1 rfl rfl; have zc := S2.f 2 0 rfl; have zd := S2.f 2 1 rfl
  have HF := Lib.hid (S2.put20 2 rfl (.int .i64 0) (.int .i64 0))
  clear S2
  go_wp2_with fail
  exact bodyPost_ret (v := .tuple #[.agg #[.int .i64 0, .int .i64 0], .int .i64 2]) (by simp [results, Try.results36, go_sem, za, zb]) rfl ⟨rfl, HF.out.bl⟩
theorem ddiv_no1 (C C' S S' : Int) (w : World) (h : S < 0 ∨ 9 < S) :
    Calls Try.prog 37 #[.agg #[.int .i64 C, .int .i64 S], .agg #[.int .i64 C', .int .i64 S']] w fun e w' => e = .returned (.tuple #[.agg #[.int .i64 0, .int .i64 0], .int .i64 2]) ∧ Below w.heap.size w w' := by
  have HI := Lib.hid (fun w => dis_no C S w h)
  clear h
  have S0 := (((Mem.start w).push #[.int .i64 C, .int .i64 S] 59).push #[.int .i64 C', .int .i64 S'] 59).push #[.int .i64 0, .int .i64 0] 59
  simp only [size_alloc] at S0
  go_enter Try.func37, Try.ntmps37
  go_wp2_with fail
  refine (HI.out _).mono ?_
  rintro e w1 ⟨rfl, hb⟩
  have S1 := S0.keep hb
  clear S0 hb
  have za := S1.c 2 0 rfl rfl; have zb := S1.c 2 1 rfl rfl; have zc := S1.f 2 0 rfl; have zd := S1.f 2 1 rfl
  have HF := Lib.hid (S1.put20 2 rfl (.int .i64 0) (.int .i64 0))
  clear S1
  go_wp2_with fail
  exact bodyPost_ret (v := .tuple #[.agg #[.int .i64 0, .int .i64 0], .int .i64 2]) (by simp [results, Try.results37, go_sem, za, zb]) rfl ⟨rfl, HF.out.bl⟩
theorem ddiv_no2 (C C' S S' : Int) (w : World) (h0 : 0 ≤ S) (h9 : S ≤ 9) (h : S' < 0 ∨ 9 < S') :
    Calls Try.prog 37 #[.agg #[.int .i64 C, .int .i64 S], .agg #[.int .i64 C', .int .i64 S']] w fun e w' => e = .returned (.tuple #[.agg #[.int .i64 0, .int .i64 0], .int .i64 2]) ∧ Below w.heap.size w w' := by
  have HJ := Lib.hid (fun w => dis_yes C S w h0 h9)
  have HI := Lib.hid (fun w => dis_no C' S' w h)
  clear h h0 h9
  have S0 := (((Mem.start w).push #[.int .i64 C, .int .i64 S] 59).push #[.int .i64 C', .int .i64 S'] 59).push #[.int .i64 0, .int .i64 0] 59
  simp only [size_alloc] at S0
  go_enter Try.func37, Try.ntmps37
  go_wp2_with fail
  refine (HJ.out _).mono ?_
  rintro e w1 ⟨rfl, hb⟩
  have S1 := S0.keep hb
  clear S0 hb
  have x1_0 := S1.c 1 0 rfl rfl
  have x1_1 := S1.c 1 1 rfl rfl
  go_wp2_with fail
  refine (HI.out _).mono ?_
  rintro e w2 ⟨rfl, hb⟩
  have S2 := S1.keep hb
  clear x1_0 x1_1 S1 hb
  have za := S2.c 2 0 rfl rfl; have zb := S2.c 2 1 rfl rfl; have zc := S2.f 2 0 rfl; have zd := S2.f 2 1 rfl
  have HF := Lib.hid (S2.put20 2 rfl (.int .i64 0) (.int .i64 0))
  clear S2
  go_wp2_with fail
  exact bodyPost_ret (v := .tuple #[.agg #[.int .i64 0, .int .i64 0], .int .i64 2]) (by simp [results, Try.results37, go_sem, za, zb]) rfl ⟨rfl, HF.out.bl⟩
theorem dcmp_no1 (C C' S S' : Int) (w : World) (h : S < 0 ∨ 9 < S) :
    Calls Try.prog 38 #[.agg #[.int .i64 C, .int .i64 S], .agg #[.int .i64 C', .int .i64 S']] w fun e w' => e = .returned (.tuple #[.int .i64 0, .int .i64 2]) ∧ Below w.heap.size w w' := by
  have HI := Lib.hid (fun w => dis_no C S w h)
  clear h
  have S0 := ((Mem.start w).push #[.int .i64 C, .int .i64 S] 59).push #[.int .i64 C', .int .i64 S'] 59
  simp only [size_alloc] at S0
  go_enter Try.func38, Try.ntmps38
  go_wp2_with fail
  refine (HI.out _).mono ?_
  rintro e w1 ⟨rfl, hb⟩
  have S1 := S0.keep hb
  clear S0 hb
  have HB := Lib.hid S1.bl
  clear S1
  go_wp2_with fail
  go_ret2
  exact ⟨rfl, HB.out⟩
theorem dcmp_no2 (C C' S S' : Int) (w : World) (h0 : 0 ≤ S) (h9 : S ≤ 9) (h : S' < 0 ∨ 9 < S') :
    Calls Try.prog 38 #[.agg #[.int .i64 C, .int .i64 S], .agg #[.int .i64 C', .int .i64 S']] w fun e w' => e = .returned (.tuple #[.int .i64 0, .int .i64 2]) ∧ Below w.heap.size w w' := by
  have HJ := Lib.hid (fun w => dis_yes C S w h0 h9)
  have HI := Lib.hid (fun w => dis_no C' S' w h)
  clear h h0 h9
  have S0 := ((Mem.start w).push #[.int .i64 C, .int .i64 S] 59).push #[.int .i64 C', .int .i64 S'] 59
  simp only [size_alloc] at S0
  go_enter Try.func38, Try.ntmps38
  go_wp2_with fail
  refine (HJ.out _).mono ?_
  rintro e w1 ⟨rfl, hb⟩
  have S1 := S0.keep hb
  clear S0 hb
  have x1_0 := S1.c 1 0 rfl rfl
  have x1_1 := S1.c 1 1 rfl rfl
  go_wp2_with fail
  refine (HI.out _).mono ?_
  rintro e w2 ⟨rfl, hb⟩
  have S2 := S1.keep hb
  clear x1_0 x1_1 S1 hb
  have HB := Lib.hid S2.bl
  clear S2
  go_wp2_with fail
  go_ret2
  exact ⟨rfl, HB.out⟩
end Go.Proofs.Ytgkogjlcecbfjaa

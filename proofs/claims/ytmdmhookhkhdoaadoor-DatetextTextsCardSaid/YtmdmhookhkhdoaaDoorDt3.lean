/- Contracts of corrodyref06: Span, ParseSpan. (Written by wip/gen/gendt3.py.) -/
import Derived.Test.YtmdmhookhkhdoaaDoorDt2
import Derived.Test.YtmdmhookhkhdoaaDoorRelMem
namespace Go.Proofs.YtmdmhookhkhdoaaDoor
set_option maxRecDepth 8000
open Go.RowKit Go.PlainAid Corr
set_option linter.unusedVariables false
set_option linter.unusedSimpArgs false
theorem dspan_no0 (a b : Int) (w : World) (h : a < 1) : Calls Tryd.prog 9 #[.agg #[.int .i64 a, .int .i64 b]] w fun e w' => e = .returned (.string (mkS (spanL a b))) ∧ Below w.heap.size w w' := by
  have HR := Lib.hid (show (⟨#[]⟩ : ByteArray) = mkS (spanL a b) by unfold spanL; rw [if_pos (by omega)])
  have d1 : decide (a < 1) = true := decide_eq_true h
  clear h
  have S0 := (Mem.start w).push #[.int .i64 a, .int .i64 b] 23
  have x0_0 := S0.c 0 0 rfl rfl
  have x0_1 := S0.c 0 1 rfl rfl
  have HB := Lib.hid S0.bl
  clear S0
  go_enter Tryd.func9, Tryd.ntmps9
  go_wp2_with fail
  go_ret
  exact ⟨congrArg (fun x => Ending.returned (.string x)) HR.out, HB.out⟩
theorem dspan_no1 (a b : Int) (w : World) (h0 : ¬ a < 1) (h : b ≤ a) : Calls Tryd.prog 9 #[.agg #[.int .i64 a, .int .i64 b]] w fun e w' => e = .returned (.string (mkS (spanL a b))) ∧ Below w.heap.size w w' := by
  have HR := Lib.hid (show (⟨#[]⟩ : ByteArray) = mkS (spanL a b) by unfold spanL; rw [if_pos (by omega)])
  have d1 : decide (a < 1) = false := decide_eq_false h0
  have d2 : decide (a ≥ b) = true := decide_eq_true h
  clear h h0
  have S0 := (Mem.start w).push #[.int .i64 a, .int .i64 b] 23
  have x0_0 := S0.c 0 0 rfl rfl
  have x0_1 := S0.c 0 1 rfl rfl
  have HB := Lib.hid S0.bl
  clear S0
  go_enter Tryd.func9, Tryd.ntmps9
  go_wp2_with fail
  go_ret
  exact ⟨congrArg (fun x => Ending.returned (.string x)) HR.out, HB.out⟩
theorem dspan_no2 (a b : Int) (w : World) (h0 : ¬ a < 1) (h1 : ¬ b ≤ a) (h : 3652060 < b) : Calls Tryd.prog 9 #[.agg #[.int .i64 a, .int .i64 b]] w fun e w' => e = .returned (.string (mkS (spanL a b))) ∧ Below w.heap.size w w' := by
  have HR := Lib.hid (show (⟨#[]⟩ : ByteArray) = mkS (spanL a b) by unfold spanL; rw [if_pos (by omega)])
  have d1 : decide (a < 1) = false := decide_eq_false h0
  have d2 : decide (a ≥ b) = false := decide_eq_false h1
  have d3 : decide (b > 3652060) = true := decide_eq_true h
  clear h h0 h1
  have S0 := (Mem.start w).push #[.int .i64 a, .int .i64 b] 23
  have x0_0 := S0.c 0 0 rfl rfl
  have x0_1 := S0.c 0 1 rfl rfl
  have HB := Lib.hid S0.bl
  clear S0
  go_enter Tryd.func9, Tryd.ntmps9
  go_wp2_with fail
  go_ret
  exact ⟨congrArg (fun x => Ending.returned (.string x)) HR.out, HB.out⟩
set_option maxHeartbeats 4000000 in
theorem dspan_yes (a b : Int) (w : World) (h1 : 1 ≤ a) (h2 : a < b) (h3 : b ≤ 3652060) : Calls Tryd.prog 9 #[.agg #[.int .i64 a, .int .i64 b]] w fun e w' => e = .returned (.string (mkS (spanL a b))) ∧ Below w.heap.size w w' := by
  have HT := Lib.hid (fun n w => dtext_any n w)
  have sa : (mkS (dayL a)).size = 10 := by rw [← size_len, ba_data, dayL_len (by omega) (by omega)]
  have sb : (mkS (dayL (b - 1))).size = 10 := by rw [← size_len, ba_data, dayL_len (by omega) (by omega)]
  have HR := Lib.hid (show ((mkS (dayL a) ++ ByteArray.mk #[46, 46]) ++ mkS (dayL (b - 1)) : ByteArray) = mkS (spanL a b) by
    refine ba_eq ?_
    unfold spanL
    rw [if_neg (by omega)]
    simp [ba_append])
  have hwb : IntKind.i64.wrap (b - 1) = b - 1 := IntWalk.i64_in _ (by omega)
  have d1 : decide (a < 1) = false := decide_eq_false (by omega)
  have d2 : decide (a ≥ b) = false := decide_eq_false (by omega)
  have d3 : decide (b > 3652060) = false := decide_eq_false (by omega)
  obtain ⟨A, hA⟩ : ∃ A, mkS (dayL a) = A := ⟨_, rfl⟩
  obtain ⟨B, hB⟩ : ∃ B, mkS (dayL (b - 1)) = B := ⟨_, rfl⟩
  have HA := Lib.hid (fun w => HT.out a w)
  have HB := Lib.hid (fun w => HT.out (b - 1) w)
  rw [hA] at HA HR sa
  rw [hB] at HB HR sb
  clear HT hA hB
  have S0 := (Mem.start w).push #[.int .i64 a, .int .i64 b] 23
  have x0_0 := S0.c 0 0 rfl rfl
  have x0_1 := S0.c 0 1 rfl rfl
  go_enter Tryd.func9, Tryd.ntmps9
  go_upto_region 3 with fail
  refine wp_region_rel 9 (MemAt w (w.alloc (.cells #[.int .i64 a, .int .i64 b] 23)).heap.size [(w.heap.size, #[.int .i64 a, .int .i64 b])] [])
    (fun i => List.getD [VE (.pointer (some ⟨w.heap.size, 0, none⟩)), VE (.int .i64 a), VE (.string A), VE (.string (A ++ (ByteArray.mk #[46, 46]))), VE (.pointer (some ⟨w.heap.size, 1, none⟩)), VE (.int .i64 b), VE (.int .i64 (b - 1)), VE (.string B), VE (.string ((A ++ ByteArray.mk #[46, 46]) ++ B))] i (fun _ _ => False)) [] [0, 3, 4, 6, 8] (by kernel_rfl) (by kernel_rfl) S0.at (fun _ _ h hb => h.grow hb)
    (stays_all (stays_cons (stays_VE _) (stays_cons (stays_VE _) (stays_cons (stays_VE _) (stays_cons (stays_VE _) (stays_cons (stays_VE _) (stays_cons (stays_VE _) (stays_cons (stays_VE _) (stays_cons (stays_VE _) (stays_cons (stays_VE _) stays_nil)))))))))) ⟨?_, ?_, ?_, ?_, ?_, ?_, ?_, ?_, ?_, trivial⟩ ?_
  · intro ev wv hE hw hd
    refine ifw rfl (ifw rfl ?_)
    have v1 : ev (.tmp 1) = .pointer (some ⟨w.heap.size, 0, none⟩) := hE.tmp 1 rfl
    refine ⟨.pointer (some ⟨w.heap.size, 0, none⟩), fun w => ?_, rfl⟩
    have e1 := hE.const; have e2 := hE.func; clear hE hd hw
    go_simp
  · intro ev wv hE hw hd
    refine ifw rfl (ifn rfl ?_)
    have v18 : ev (.tmp 18) = .pointer (some ⟨w.heap.size, 0, none⟩) := hd 0 (by decide)
    have kx := hw.m.c 0 0 rfl rfl
    refine rel_val (u := .int .i64 a) (w' := wv) ?_ (Below.refl _ _) ⟨rfl, fun h => by cases h⟩
    have e1 := hE.const; clear hE hd hw
    go_simp
  · intro ev wv hE hw hd
    refine ifw rfl (ifn rfl ?_)
    have v19 : ev (.tmp 19) = .int .i64 a := hd 1 (by decide)
    refine rel_call (f := 8) (args := #[.int .i64 a]) ?_ (HA.out _) ?_
    · have e0 := hE.func; have e1 := hE.const; clear hE hd hw
      go_simp
    · rintro e w' ⟨rfl, hb⟩
      exact ⟨_, rfl, hb, rfl, fun h => by cases h⟩
  · intro ev wv hE hw hd
    refine ifw rfl (ifw rfl ?_)
    have v20 : ev (.tmp 20) = .string A := hd 2 (by decide)
    refine ⟨.string (A ++ (ByteArray.mk #[46, 46])), fun w => ?_, rfl⟩
    have e1 := hE.const; have e2 := hE.func; clear hE hd hw
    go_simp
  · intro ev wv hE hw hd
    refine ifw rfl (ifw rfl ?_)
    have v1 : ev (.tmp 1) = .pointer (some ⟨w.heap.size, 0, none⟩) := hE.tmp 1 rfl
    refine ⟨.pointer (some ⟨w.heap.size, 1, none⟩), fun w => ?_, rfl⟩
    have e1 := hE.const; have e2 := hE.func; clear hE hd hw
    go_simp
  · intro ev wv hE hw hd
    refine ifw rfl (ifn rfl ?_)
    have v22 : ev (.tmp 22) = .pointer (some ⟨w.heap.size, 1, none⟩) := hd 4 (by decide)
    have kx := hw.m.c 0 1 rfl rfl
    refine rel_val (u := .int .i64 b) (w' := wv) ?_ (Below.refl _ _) ⟨rfl, fun h => by cases h⟩
    have e1 := hE.const; clear hE hd hw
    go_simp
  · intro ev wv hE hw hd
    refine ifw rfl (ifw rfl ?_)
    have v23 : ev (.tmp 23) = .int .i64 b := hd 5 (by decide)
    refine ⟨.int .i64 (b - 1), fun w => ?_, rfl⟩
    have e1 := hE.const; have e2 := hE.func; clear hE hd hw
    go_simp
  · intro ev wv hE hw hd
    refine ifw rfl (ifn rfl ?_)
    have v24 : ev (.tmp 24) = .int .i64 (b - 1) := hd 6 (by decide)
    refine rel_call (f := 8) (args := #[.int .i64 (b - 1)]) ?_ (HB.out _) ?_
    · have e0 := hE.func; have e1 := hE.const; clear hE hd hw
      go_simp
    · rintro e w' ⟨rfl, hb⟩
      exact ⟨_, rfl, hb, rfl, fun h => by cases h⟩
  · intro ev wv hE hw hd
    refine ifw rfl (ifw rfl ?_)
    have v21 : ev (.tmp 21) = .string (A ++ (ByteArray.mk #[46, 46])) := hd 3 (by decide)
    have v25 : ev (.tmp 25) = .string B := hd 7 (by decide)
    refine ⟨.string ((A ++ ByteArray.mk #[46, 46]) ++ B), fun w => ?_, rfl⟩
    have e1 := hE.const; have e2 := hE.func; clear hE hd hw
    go_simp
  · intro wz hw
    intro v0 h0 _ v1 h1 _ v2 h2 _ v3 h3 _ v4 h4 _ v5 h5 _ v6 h6 _ v7 h7 _ v8 h8 _
    simp only [Act.put, List.setIfInBounds_toArray, List.set_cons_zero, List.set_cons_succ, List.drop_succ_cons, List.drop_zero]
    obtain rfl : v0 = _ := h0
    obtain rfl : v1 = _ := h1
    obtain rfl : v2 = _ := h2
    obtain rfl : v3 = _ := h3
    obtain rfl : v4 = _ := h4
    obtain rfl : v5 = _ := h5
    obtain rfl : v6 = _ := h6
    obtain rfl : v7 = _ := h7
    obtain rfl : v8 = _ := h8
    change wpList Tryd.prog _ _ _ _ wz
    have HBL := Lib.hid hw.m.bl
    clear hw S0 x0_0 x0_1
    go_wp2_with fail
    refine calm_normal ?_
    go_wp2_with fail
    go_ret
    exact ⟨congrArg (fun x => Ending.returned (.string x)) HR.out, HBL.out⟩
theorem dspan_any (a b : Int) (w : World) : Calls Tryd.prog 9 #[.agg #[.int .i64 a, .int .i64 b]] w fun e w' => e = .returned (.string (mkS (spanL a b))) ∧ Below w.heap.size w w' := by
  by_cases h1 : a < 1
  · exact dspan_no0 a b w h1
  · by_cases h2 : b ≤ a
    · exact dspan_no1 a b w h1 h2
    · by_cases h3 : 3652060 < b
      · exact dspan_no2 a b w h1 h2 h3
      · exact dspan_yes a b w (by omega) (by omega) (by omega)
end Go.Proofs.YtmdmhookhkhdoaaDoor

/- The contract of the statements' own 'known': it answers true. -/
import Derived.Test.YtbenpcnibongaaaSmall
import Derived.Deep.QuietTactic
namespace Go.Proofs.Ytbenpcnibongaaa
open Go.RowKit Corr
set_option linter.unusedVariables false

/-- A block of three cells, in a world that is as it was below what w had. -/
structure Has3 (w W : World) (k : Nat) (a b c : Value) : Prop where
  box : Box3 W k a b c
  below : Below w.heap.size w W
theorem Has3.keep {w W w1 : World} {k : Nat} {a b c : Value} (h : Has3 w W k a b c) (hb : Below W.heap.size W w1) : Has3 w w1 k a b c :=
  ⟨h.box.keep hb, h.below.trans (hb.mono h.below.size)⟩

theorem ZW_minus : ZW (-1) = .agg #[.bool true, .int .u64 0, .int .u64 1] := by
  unfold ZW; rw [show negB (-1) = true by decide, show hiW (Int.natAbs (-1)) = 0 by decide, show loW (Int.natAbs (-1)) = 1 by decide]; rfl
theorem ZW_floor : ZW (val true (floorN true (nat2 0 1) 10)) = .agg #[.bool true, .int .u64 0, .int .u64 1] := by
  rw [show val true (floorN true (nat2 0 1) 10) = -1 by decide]; exact ZW_minus
theorem ZW_mul : ZW (4611686018427387904 * 4) = .agg #[.bool false, .int .u64 1, .int .u64 0] := by
  unfold ZW; rw [show negB (4611686018427387904 * 4) = false by decide, show hiW (Int.natAbs (4611686018427387904 * 4)) = 1 by decide, show loW (Int.natAbs (4611686018427387904 * 4)) = 0 by decide]; rfl

set_option maxHeartbeats 1000000 in
theorem known_any (w : World) : Calls Try.prog 23 #[] w fun e w' => e = .returned (.bool true) ∧ Below w.heap.size w w' := by
  go_enter Try.func23, Try.ntmps23
  go_wp2_with fail
  refine (of_any _ _ (by omega) (by omega)).mono ?_
  rintro e w1 ⟨rfl, hb⟩
  have B1 : Below w.heap.size w w1 := hb
  clear hb
  rw [ZW_minus]
  go_wp2_with fail
  refine (floor_ten true 0 1 _ (by decide) (by decide)).mono ?_
  rintro e w2 ⟨rfl, hb⟩
  rw [ZW_floor]
  have B2 : Below w.heap.size w w2 := B1.trans (hb.mono B1.size)
  clear hb B1
  go_upto_region 3 with fail
  have S0 : Has3 w (w2.alloc (.cells #[.bool true, .int .u64 0, .int .u64 1] 24)).drew w2.heap.size (.bool true) (.int .u64 0) (.int .u64 1) :=
    ⟨(Box3.new w2 _ _ _ _).keep ((Below.refl _ _).drew), (B2.alloc B2.size _).drew⟩
  refine wp_region_quiet (C := fun w' => Has3 w w' w2.heap.size (.bool true) (.int .u64 0) (.int .u64 1)) (by kernel_rfl) (by kernel_rfl) S0 ?_
  refine wpQuiet_step (fun K hK => ?_)
  rw [if_pos (by rfl)]
  refine ⟨.agg #[.bool false, .int .u64 1, .int .u64 0], fun w' hw' => ?_, hK _ ?_⟩
  · (go_simp; exact (mul_any 4611686018427387904 4 _ (by omega) (by omega) (by omega) (by omega)).mono fun e w1 ⟨he, hb⟩ => ⟨he.trans (by rw [ZW_mul]), hw'.keep hb⟩)
  clear hK K
  simp only [Act.put, List.setIfInBounds_toArray, List.set_cons_zero, List.set_cons_succ]
  refine wpQuiet_step (fun K hK => ?_)
  rw [if_pos (by rfl)]
  refine ⟨.agg #[.bool false, .int .u64 1, .int .u64 0], fun w' hw' => ?_, hK _ ?_⟩
  · go_simp
  clear hK K
  simp only [Act.put, List.setIfInBounds_toArray, List.set_cons_zero, List.set_cons_succ]
  refine wpQuiet_step (fun K hK => ?_)
  rw [if_pos (by rfl)]
  refine ⟨.bool true, fun w' hw' => ?_, hK _ ?_⟩
  · go_simp
  clear hK K
  simp only [Act.put, List.setIfInBounds_toArray, List.set_cons_zero, List.set_cons_succ]
  refine wpQuiet_step (fun K hK => ?_)
  rw [if_pos (by rfl)]
  refine ⟨.bool true, fun w' hw' => ?_, hK _ ?_⟩
  · go_simp
  clear hK K
  simp only [Act.put, List.setIfInBounds_toArray, List.set_cons_zero, List.set_cons_succ]
  refine wpQuiet_step (fun K hK => ?_)
  rw [if_pos (by rfl)]
  refine ⟨.func (.func 43) #[] #[], fun w' hw' => ?_, hK _ ?_⟩
  · go_simp
  clear hK K
  simp only [Act.put, List.setIfInBounds_toArray, List.set_cons_zero, List.set_cons_succ]
  refine wpQuiet_step (fun K hK => ?_)
  rw [if_pos (by rfl)]
  refine ⟨.int .i64 0, fun w' hw' => ?_, hK _ ?_⟩
  · (go_simp; exact (known1_any 5 0 _ (by omega) (by omega) (by decide) (by omega) (by omega)).mono fun e w1 ⟨he, hb⟩ => ⟨he, hw'.keep hb⟩)
  clear hK K
  simp only [Act.put, List.setIfInBounds_toArray, List.set_cons_zero, List.set_cons_succ]
  refine wpQuiet_step (fun K hK => ?_)
  rw [if_pos (by rfl)]
  refine ⟨.bool true, fun w' hw' => ?_, hK _ ?_⟩
  · go_simp
  clear hK K
  simp only [Act.put, List.setIfInBounds_toArray, List.set_cons_zero, List.set_cons_succ]
  refine wpQuiet_step (fun K hK => ?_)
  rw [if_pos (by rfl)]
  refine ⟨.bool true, fun w' hw' => ?_, hK _ ?_⟩
  · go_simp
  clear hK K
  simp only [Act.put, List.setIfInBounds_toArray, List.set_cons_zero, List.set_cons_succ]
  refine wpQuiet_step (fun K hK => ?_)
  rw [if_pos (by rfl)]
  refine ⟨.bool true, fun w' hw' => ?_, hK _ ?_⟩
  · go_simp
  clear hK K
  simp only [Act.put, List.setIfInBounds_toArray, List.set_cons_zero, List.set_cons_succ]
  refine wpQuiet_step (fun K hK => ?_)
  rw [if_pos (by rfl)]
  refine ⟨.func (.func 43) #[] #[], fun w' hw' => ?_, hK _ ?_⟩
  · go_simp
  clear hK K
  simp only [Act.put, List.setIfInBounds_toArray, List.set_cons_zero, List.set_cons_succ]
  refine wpQuiet_step (fun K hK => ?_)
  rw [if_pos (by rfl)]
  refine ⟨.int .i64 2, fun w' hw' => ?_, hK _ ?_⟩
  · (go_simp; exact (known1_any 15 2 _ (by omega) (by omega) (by decide) (by omega) (by omega)).mono fun e w1 ⟨he, hb⟩ => ⟨he, hw'.keep hb⟩)
  clear hK K
  simp only [Act.put, List.setIfInBounds_toArray, List.set_cons_zero, List.set_cons_succ]
  refine wpQuiet_step (fun K hK => ?_)
  rw [if_pos (by rfl)]
  refine ⟨.bool true, fun w' hw' => ?_, hK _ ?_⟩
  · go_simp
  clear hK K
  simp only [Act.put, List.setIfInBounds_toArray, List.set_cons_zero, List.set_cons_succ]
  refine wpQuiet_step (fun K hK => ?_)
  rw [if_pos (by rfl)]
  refine ⟨.bool true, fun w' hw' => ?_, hK _ ?_⟩
  · go_simp
  clear hK K
  simp only [Act.put, List.setIfInBounds_toArray, List.set_cons_zero, List.set_cons_succ]
  refine wpQuiet_step (fun K hK => ?_)
  rw [if_pos (by rfl)]
  refine ⟨.bool true, fun w' hw' => ?_, hK _ ?_⟩
  · go_simp
  clear hK K
  simp only [Act.put, List.setIfInBounds_toArray, List.set_cons_zero, List.set_cons_succ]
  refine wpQuiet_step (fun K hK => ?_)
  rw [if_pos (by rfl)]
  refine ⟨.func (.func 43) #[] #[], fun w' hw' => ?_, hK _ ?_⟩
  · go_simp
  clear hK K
  simp only [Act.put, List.setIfInBounds_toArray, List.set_cons_zero, List.set_cons_succ]
  refine wpQuiet_step (fun K hK => ?_)
  rw [if_pos (by rfl)]
  refine ⟨.int .i64 (-2), fun w' hw' => ?_, hK _ ?_⟩
  · (go_simp; exact (known1_any (-25) (-2) _ (by omega) (by omega) (by decide) (by omega) (by omega)).mono fun e w1 ⟨he, hb⟩ => ⟨he, hw'.keep hb⟩)
  clear hK K
  simp only [Act.put, List.setIfInBounds_toArray, List.set_cons_zero, List.set_cons_succ]
  refine wpQuiet_step (fun K hK => ?_)
  rw [if_pos (by rfl)]
  refine ⟨.bool true, fun w' hw' => ?_, hK _ ?_⟩
  · go_simp
  clear hK K
  simp only [Act.put, List.setIfInBounds_toArray, List.set_cons_zero, List.set_cons_succ]
  refine wpQuiet_step (fun K hK => ?_)
  rw [if_pos (by rfl)]
  refine ⟨.bool true, fun w' hw' => ?_, hK _ ?_⟩
  · go_simp
  clear hK K
  simp only [Act.put, List.setIfInBounds_toArray, List.set_cons_zero, List.set_cons_succ]
  refine wpQuiet_step (fun K hK => ?_)
  rw [if_pos (by rfl)]
  refine ⟨.bool true, fun w' hw' => ?_, hK _ ?_⟩
  · go_simp
  clear hK K
  simp only [Act.put, List.setIfInBounds_toArray, List.set_cons_zero, List.set_cons_succ]
  refine wpQuiet_step (fun K hK => ?_)
  rw [if_pos (by rfl)]
  refine ⟨.int .i64 0, fun w' hw' => ?_, hK _ ?_⟩
  · go_simp
  clear hK K
  simp only [Act.put, List.setIfInBounds_toArray, List.set_cons_zero, List.set_cons_succ]
  refine wpQuiet_step (fun K hK => ?_)
  rw [if_pos (by rfl)]
  refine ⟨.bool true, fun w' hw' => ?_, hK _ ?_⟩
  · go_simp
  clear hK K
  simp only [Act.put, List.setIfInBounds_toArray, List.set_cons_zero, List.set_cons_succ]
  refine wpQuiet_step (fun K hK => ?_)
  rw [if_pos (by rfl)]
  refine ⟨.bool true, fun w' hw' => ?_, hK _ ?_⟩
  · go_simp
  clear hK K
  simp only [Act.put, List.setIfInBounds_toArray, List.set_cons_zero, List.set_cons_succ]
  refine wpQuiet_step (fun K hK => ?_)
  rw [if_pos (by rfl)]
  refine ⟨.bool true, fun w' hw' => ?_, hK _ ?_⟩
  · go_simp
  clear hK K
  simp only [Act.put, List.setIfInBounds_toArray, List.set_cons_zero, List.set_cons_succ]
  refine wpQuiet_step (fun K hK => ?_)
  rw [if_pos (by rfl)]
  refine ⟨.agg #[.bool true, .int .u64 0, .int .u64 1], fun w' hw' => ?_, hK _ ?_⟩
  · (have k0 := hw'.box.c0; have k1 := hw'.box.c1; have k2 := hw'.box.c2; go_simp)
  clear hK K
  simp only [Act.put, List.setIfInBounds_toArray, List.set_cons_zero, List.set_cons_succ]
  refine wpQuiet_step (fun K hK => ?_)
  rw [if_pos (by rfl)]
  refine ⟨.agg #[.bool true, .int .u64 0, .int .u64 1], fun w' hw' => ?_, hK _ ?_⟩
  · (go_simp; exact (of_any (-1) _ (by omega) (by omega)).mono fun e w1 ⟨he, hb⟩ => ⟨he.trans (by rw [ZW_minus]), hw'.keep hb⟩)
  clear hK K
  simp only [Act.put, List.setIfInBounds_toArray, List.set_cons_zero, List.set_cons_succ]
  refine wpQuiet_step (fun K hK => ?_)
  rw [if_pos (by rfl)]
  refine ⟨.bool true, fun w' hw' => ?_, hK _ ?_⟩
  · go_simp
  clear hK K
  simp only [Act.put, List.setIfInBounds_toArray, List.set_cons_zero, List.set_cons_succ]
  refine wpQuiet_step (fun K hK => ?_)
  rw [if_pos (by rfl)]
  refine ⟨.bool true, fun w' hw' => ?_, hK _ ?_⟩
  · go_simp
  clear hK K
  simp only [Act.put, List.setIfInBounds_toArray, List.set_cons_zero, List.set_cons_succ]
  refine wpQuiet_step (fun K hK => ?_)
  rw [if_pos (by rfl)]
  refine ⟨.bool true, fun w' hw' => ?_, hK _ ?_⟩
  · go_simp
  clear hK K
  simp only [Act.put, List.setIfInBounds_toArray, List.set_cons_zero]
  refine wpQuiet_nil ?_
  intro w' hw'
  go_wp2_with fail
  go_ret
  exact ⟨rfl, hw'.below⟩
end Go.Proofs.Ytbenpcnibongaaa

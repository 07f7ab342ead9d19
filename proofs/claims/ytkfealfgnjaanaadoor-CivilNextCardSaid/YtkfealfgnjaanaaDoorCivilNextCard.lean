/- Proved: corrodylaw04.CivilNext answers true at every int. Conditions: none beside the row's own (the listed library variables hold what the program's text lays in them, tied by the card). -/
import Derived.Test.YtkfealfgnjaanaaDoorFrameBase
import Derived.Test.YtkfealfgnjaanaaDoorCvLaws
import Derived.Test.YtkfealfgnjaanaaDoorCards
import Derived.Test.YtkfealfgnjaanaaDoorTie
import Derived.ChangeMaps5
import Derived.Deep.DeepHandedRow
import Derived.LaidMore
import Derived.Lay
import Derived.SevenTiedAt
import Derived.Stop.LaidErr
import Derived.Shelf.Vars
namespace Go.Proofs.YtkfealfgnjaanaaDoor
open Go.ChangeMaps Go.ChangeShapes Go.WideShapes Go.ChangeAt Go.RowKit Go.Joins Corr
set_option linter.unusedVariables false
/-- The table of lengths, out of what the row lists. -/
theorem good_len {W : World} {rest : List (String × DataW Unit)} (h : laidMet Tryd.prog (("corrody/civil.lengths", Lib.tabData .i64 lenT) :: rest) W) : LV W :=
  ⟨fun i hi => (Lib.tabIs_of_head (g := 0) (by kernel_rfl) (by kernel_rfl) Tryd.underlying36 Tryd.underlying3 (by kernel_rfl) (by kernel_rfl) h).cell (by kernel_rfl) i hi⟩
theorem good_vars {W : World} (hL : laidMet Tryd.prog Rows.civilNextRow.laid W) (hS : W.ShapedOpen Tryd.prog) : LV W := good_len hL

set_option maxRecDepth 100000 in
theorem civilNext_lifted (os : Os) (started : os.Started) (H : Type) (enc : TypeId × Value → H) (F : Stop.Interp) :
    ReturnsInHanded {} Tryd.checked os 5 .any ((OpenSpec.ofChange Rows.civilNextSpec).preRow enc Tryd.prog Tryd.f5 Rows.civilNextRow.domain false Rows.civilNextRow.laid) (((OpenSpec.ofChange Rows.civilNextSpec).at F).post enc Tryd.prog Tryd.f5 false true false false) := by
  refine returnsInHanded_of_row (C := Tryd.checked) (s := OpenSpec.ofChange Rows.civilNextSpec) own started (by kernel_rfl) Tryd.func5
    (ChangeSpec.witness_shaped (enc := enc) (C := Tryd.checked) (s := Rows.civilNextSpec) (os := os) (X := fun w _ => laidMetH Tryd.prog Rows.civilNextRow.laid w) false (World.laidAll Tryd.prog os Rows.civilNextRow.laid) #[.int .i64 0] 8 (World.laidAll_os _ _ _)
      (World.shaped_of_ZipB (by kernel_rfl) (by kernel_rfl)) (by kernel_rfl) (by kernel_rfl) (by kernel_rfl)
      (by rw [MakeChecks.laidMetH_plain _ _ _ (by kernel_rfl)]; exact laidMet_laidAll _ (by kernel_rfl) (by kernel_rfl))) ?_
  intro W base args ds gs before hval0 hW _ _ _ hL hS _
  have hval : ∀ (j : Nat) t v, Tryd.f5.params[j]? = some t → args[j]? = some v → Value.okWide Tryd.prog W .any base t v := hval0
  have hW' := hW
  obtain ⟨p, q, hA0, hV, rfl, hfz, hnd⟩ := hW
  have hA : DataW.TrodAll enc Tryd.prog W 0 (fun _ => true) true Tryd.f5.params.toList args.toList ds p := hA0
  rw [Tryd.params5] at hA hval
  obtain ⟨v0, vs0, d0', ds0, p0, q0, hargs, rfl, rfl, h0, r0⟩ := trodAll_cons hA
  obtain ⟨rfl, rfl, rfl⟩ := trodAll_nil r0
  obtain rfl : args = #[v0] := by cases args; simp_all
  obtain ⟨rfl, rfl⟩ := trodVars_none hV
  obtain ⟨n0, rfl, rfl, rfl, w0⟩ := open_int Tryd.underlying3 (hval 0 3 v0 rfl rfl) h0
  obtain ⟨a0, b0⟩ := bounds_i64 w0
  clear hA0 hval0
  rw [MakeChecks.laidMetH_plain _ _ _ (by kernel_rfl)] at hL
  have g := good_vars hL hS
  refine ((fun n w a b g => next_any n w g a b) n0 W a0 b0 g).mono fun e W' ⟨he, bel⟩ => ?_
  subst he
  exact ⟨_, rfl, _, _, _, [], _, [], hW', trodAll_mk1 (shut_bool Tryd.underlying4 _), (trodAll_cons_mk (shut_int Tryd.underlying3 w0) trodAll_mk0), rfl, bel.frame _, fun h => by cases h⟩

theorem civilNext_row : Rows.CivilNextSaid :=
  OpenClaim.holds_of_cond 5 Tryd.f5 rfl rfl rfl rfl rfl rfl rfl ⟨rfl, rfl, rfl, rfl, rfl⟩ rfl rfl rfl rfl rfl (by kernel_rfl) Tryd.func5 (by kernel_rfl)
    (of_decide_eq_true (by kernel_rfl)) (by unfold Func.isWrapper; first | (rw [if_pos (by decide +kernel)]; kernel_rfl) | (rw [if_neg (by decide +kernel)]; exact ⟨rfl, rfl⟩))
    (fun os started H enc _ F => by rw [OpenClaim.pre_eq_preRow]; exact civilNext_lifted os started H enc F)
theorem civilNext_plain (f : FuncId) (fn : Func) (hf : Tryd.pinned.checked.prog.funcNamed "corrody/corrodylaw04.CivilNext" = some f) (hfn : Tryd.pinned.checked.prog.funcs[f]? = some fn) :
    false = Tryd.pinned.checked.prog.looks [] ∧ ∀ (j : Nat) t, fn.params[j]? = some t → Tryd.pinned.checked.prog.wantsStandIn t = false := by
  obtain rfl : f = 5 := Option.some.inj ((show Tryd.prog.funcNamed "corrody/corrodylaw04.CivilNext" = some 5 by kernel_rfl).symm.trans hf) |>.symm
  obtain rfl : fn = Tryd.f5 := (Option.some.inj (Tryd.func5.symm.trans hfn)).symm
  refine ⟨by kernel_rfl, fun j t ht => ?_⟩
  rw [Tryd.params5] at ht
  have hm : t ∈ [3] := by simpa using Array.mem_of_getElem? ht
  have hall : ([3].all fun u => !Tryd.prog.wantsStandIn u) = true := by kernel_rfl
  exact (show Tryd.prog.wantsStandIn t = false by simpa using List.all_eq_true.1 hall t hm)
/-- The card. -/
theorem civilNext_card : Rows.CivilNextCardSaid :=
  Claim7.holds_tied_plain_at .later [] _ _ _ _ civilNext_row (fun _ h => by cases h) (by kernel_rfl) (fun _ h => by cases h) civilNext_row_tie rfl ⟨rfl, rfl⟩ (by kernel_rfl) rfl civilNext_plain (by kernel_rfl)
#print axioms civilNext_card
end Go.Proofs.YtkfealfgnjaanaaDoor

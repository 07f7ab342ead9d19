/- Proved: corrodylaw06.DatetextTexts answers true at every int and every span. Conditions: none beside the row's own (the listed library variables hold what the program's text lays in them, tied by the card). -/
import Derived.Test.YtmdmhookhkhdoaaDoorFrameSpan
import Derived.Test.YtmdmhookhkhdoaaDoorDtTexts
import Derived.Test.YtmdmhookhkhdoaaDoorCards
import Derived.Test.YtmdmhookhkhdoaaDoorTie
import Derived.ChangeMaps5
import Derived.Deep.DeepHandedRow
import Derived.LaidMore
import Derived.Lay
import Derived.SevenTiedAt
import Derived.Stop.LaidErr
import Derived.Shelf.Vars
namespace Go.Proofs.YtmdmhookhkhdoaaDoor
open Go.ChangeMaps Go.ChangeShapes Go.WideShapes Go.ChangeAt Go.RowKit Go.Joins Corr
set_option linter.unusedVariables false
/-- The table of lengths, out of what the row lists. -/
theorem good_len {W : World} {rest : List (String × DataW Unit)} (h : laidMet Tryd.prog (("corrody/civil.lengths", Lib.tabData .i64 lenT) :: rest) W) : LV W :=
  ⟨fun i hi => (Lib.tabIs_of_head (g := 0) (by kernel_rfl) (by kernel_rfl) Tryd.underlying57 Tryd.underlying3 (by kernel_rfl) (by kernel_rfl) h).cell (by kernel_rfl) i hi⟩
theorem good_vars {W : World} (hL : laidMet Tryd.prog Rows.datetextTextsRow.laid W) (hS : W.ShapedOpen Tryd.prog) : DV W :=
  ⟨good_len hL, cell_of_shapedOpen_int (zero := #[.int .i64 0]) hS (of_decide_eq_true (by kernel_rfl)) (by kernel_rfl) rfl (by kernel_rfl) (by kernel_rfl) Tryd.underlying3⟩

set_option maxRecDepth 100000 in
theorem datetextTexts_lifted (os : Os) (started : os.Started) (H : Type) (enc : TypeId × Value → H) (F : Stop.Interp) :
    ReturnsInHanded {} Tryd.checked os 3 .any ((OpenSpec.ofChange Rows.datetextTextsSpec).preRow enc Tryd.prog Tryd.f3 Rows.datetextTextsRow.domain false Rows.datetextTextsRow.laid) (((OpenSpec.ofChange Rows.datetextTextsSpec).at F).post enc Tryd.prog Tryd.f3 false true false false) := by
  refine returnsInHanded_of_row (C := Tryd.checked) (s := OpenSpec.ofChange Rows.datetextTextsSpec) own started (by kernel_rfl) Tryd.func3
    (ChangeSpec.witness_shaped (enc := enc) (C := Tryd.checked) (s := Rows.datetextTextsSpec) (os := os) (X := fun w _ => laidMetH Tryd.prog Rows.datetextTextsRow.laid w) false (World.laidAll Tryd.prog os Rows.datetextTextsRow.laid) #[.int .i64 0, .agg #[.int .i64 0, .int .i64 0]] 8 (World.laidAll_os _ _ _)
      (World.shaped_of_ZipB (by kernel_rfl) (by kernel_rfl)) (by kernel_rfl) (by kernel_rfl) (by kernel_rfl)
      (by rw [MakeChecks.laidMetH_plain _ _ _ (by kernel_rfl)]; exact laidMet_laidAll _ (by kernel_rfl) (by kernel_rfl))) ?_
  intro W base args ds gs before hval0 hW _ _ _ hL hS _
  have hval : ∀ (j : Nat) t v, Tryd.f3.params[j]? = some t → args[j]? = some v → Value.okWide Tryd.prog W .any base t v := hval0
  have hW' := hW
  obtain ⟨p, q, hA0, hV, rfl, hfz, hnd⟩ := hW
  have hA : DataW.TrodAll enc Tryd.prog W 0 (fun _ => true) true Tryd.f3.params.toList args.toList ds p := hA0
  rw [Tryd.params3] at hA hval
  obtain ⟨v0, vs0, d0', ds0, p0, q0, hargs, rfl, rfl, h0, r0⟩ := trodAll_cons hA
  obtain ⟨v1, vs1, d1', ds1, p1, q1, rfl, rfl, rfl, h1, r1⟩ := trodAll_cons r0
  obtain ⟨rfl, rfl, rfl⟩ := trodAll_nil r1
  obtain rfl : args = #[v0, v1] := by cases args; simp_all
  obtain ⟨rfl, rfl⟩ := trodVars_none hV
  obtain ⟨n0, rfl, rfl, rfl, w0⟩ := open_int Tryd.underlying3 (hval 0 3 v0 rfl rfl) h0
  obtain ⟨a0, b0⟩ := bounds_i64 w0
  obtain ⟨C1, S1, rfl, rfl, rfl, a1, b1, c1, d1⟩ := open_span (hval 1 23 v1 rfl rfl) h1
  clear hA0 hval0
  rw [MakeChecks.laidMetH_plain _ _ _ (by kernel_rfl)] at hL
  have g := good_vars hL hS
  refine ((fun n a b w _ _ q1 _ _ q2 g => dtexts_any n a b w g q1 q2) n0 C1 S1 W a0 b0 a1 b1 c1 d1 g).mono fun e W' ⟨he, bel⟩ => ?_
  subst he
  exact ⟨_, rfl, _, _, _, [], _, [], hW', trodAll_mk1 (shut_bool Tryd.underlying4 _), (trodAll_cons_mk (shut_int Tryd.underlying3 w0) (trodAll_cons_mk (shut_span C1 S1 a1 b1 c1 d1) trodAll_mk0)), rfl, bel.frame _, fun h => by cases h⟩

theorem datetextTexts_row : Rows.DatetextTextsSaid :=
  OpenClaim.holds_of_cond 3 Tryd.f3 rfl rfl rfl rfl rfl rfl rfl ⟨rfl, rfl, rfl, rfl, rfl⟩ rfl rfl rfl rfl rfl (by kernel_rfl) Tryd.func3 (by kernel_rfl)
    (of_decide_eq_true (by kernel_rfl)) (by unfold Func.isWrapper; first | (rw [if_pos (by decide +kernel)]; kernel_rfl) | (rw [if_neg (by decide +kernel)]; exact ⟨rfl, rfl⟩))
    (fun os started H enc _ F => by rw [OpenClaim.pre_eq_preRow]; exact datetextTexts_lifted os started H enc F)
theorem datetextTexts_plain (f : FuncId) (fn : Func) (hf : Tryd.pinned.checked.prog.funcNamed "corrody/corrodylaw06.DatetextTexts" = some f) (hfn : Tryd.pinned.checked.prog.funcs[f]? = some fn) :
    false = Tryd.pinned.checked.prog.looks [] ∧ ∀ (j : Nat) t, fn.params[j]? = some t → Tryd.pinned.checked.prog.wantsStandIn t = false := by
  obtain rfl : f = 3 := Option.some.inj ((show Tryd.prog.funcNamed "corrody/corrodylaw06.DatetextTexts" = some 3 by kernel_rfl).symm.trans hf) |>.symm
  obtain rfl : fn = Tryd.f3 := (Option.some.inj (Tryd.func3.symm.trans hfn)).symm
  refine ⟨by kernel_rfl, fun j t ht => ?_⟩
  rw [Tryd.params3] at ht
  have hm : t ∈ [3, 23] := by simpa using Array.mem_of_getElem? ht
  have hall : ([3, 23].all fun u => !Tryd.prog.wantsStandIn u) = true := by kernel_rfl
  exact (show Tryd.prog.wantsStandIn t = false by simpa using List.all_eq_true.1 hall t hm)
/-- The card. -/
theorem datetextTexts_card : Rows.DatetextTextsCardSaid :=
  Claim7.holds_tied_plain_at .later [] _ _ _ _ datetextTexts_row (fun _ h => by cases h) (by kernel_rfl) (fun _ h => by cases h) datetextTexts_row_tie rfl ⟨rfl, rfl⟩ (by kernel_rfl) rfl datetextTexts_plain (by kernel_rfl)
#print axioms datetextTexts_card
end Go.Proofs.YtmdmhookhkhdoaaDoor

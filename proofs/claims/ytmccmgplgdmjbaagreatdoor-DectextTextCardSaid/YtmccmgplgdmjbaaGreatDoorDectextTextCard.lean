/- Proved: corrodylaw03.DectextText answers true at every Dec, canonical or not, or none. Conditions: none beside the row's own (the listed library variables hold what the program's text lays in them, tied by the card). -/
import Derived.Test.YtmccmgplgdmjbaaGreatDoorTx6
import Derived.Test.YtmccmgplgdmjbaaGreatDoorTx8
import Derived.Test.YtmccmgplgdmjbaaGreatDoorFrameDec
import Derived.Test.YtmccmgplgdmjbaaGreatDoorCards
import Derived.Test.YtmccmgplgdmjbaaGreatDoorTie
import Derived.ChangeMaps5
import Derived.Deep.DeepHandedRow
import Derived.LaidMore
import Derived.Lay
import Derived.SevenTiedAt
import Derived.Stop.LaidErr
import Derived.Shelf.Vars
namespace Corr
set_option maxRecDepth 8000
open Go
set_option linter.unusedSimpArgs false
set_option linter.unusedVariables false
/-- The text of a number that Put tells is read as that number. -/
theorem text_back {c : Int} {t : Nat} (h1 : -9223372036854775808 ≤ c) (h2 : c ≤ 9223372036854775807) (ht : t ≤ 9) (hc : t = 0 ∨ ¬ c % 10 = 0) :
    pE (txt c t) = 0 ∧ pC (txt c t) = c ∧ pS (txt c t) = t := by
  obtain ⟨w, p, hF, hp, hv⟩ := form_txt ht hc
  obtain ⟨f1, f2, f3, f4⟩ := form_ok hF
  have hV : pV (txt c t) = c := by unfold pV; rw [f2, f3, f4]; exact hv
  have hE : pE (txt c t) = 0 := by
    unfold pE
    rw [if_neg (by have := txt_len (c := c) (S := t) ht (by omega); omega), f1, if_pos rfl, hV]
    have : fitsI c = true := by simp [fitsI, h1, h2]
    rw [this, if_pos rfl]
  refine ⟨hE, ?_, ?_⟩
  · unfold pC; rw [if_pos hE, hV]
  · unfold pS; rw [if_pos hE, f4, hp]
end Corr
namespace Go.Proofs.YtmccmgplgdmjbaaGreatDoor
set_option maxRecDepth 8000
open Go.RowKit Go.PlainAid Corr
set_option linter.unusedVariables false
set_option linter.unusedSimpArgs false
theorem lawtext_no (C S : Int) (w : World) (g : GV w) (h : S < 0 ∨ 9 < S) : Calls Tryz.prog 3 #[.agg #[.int .i64 C, .int .i64 S]] w fun e w' => e = .returned (.bool true) ∧ Below w.heap.size w w' := by
  have H1 := Lib.hid (fun w => text_no C S w h)
  have H2 := Lib.hid (fun w => rtext_no C S w h)
  have H3 := Lib.hid (fun w => nis_no C S w h)
  have HK := Lib.hid (fun (w' : World) (b : Below w.heap.size w w') => known_any w' (g.keep b))
  clear h
  have S0 := ((Mem.start w).push #[.int .i64 C, .int .i64 S] 23)
  have za := S0.c 0 0 rfl rfl; have zb := S0.c 0 1 rfl rfl
  go_enter Tryz.func3, Tryz.ntmps3
  go_wp2_with fail
  refine (H1.out _).mono ?_
  rintro e w1 ⟨rfl, hb⟩
  have S1 := S0.keep hb
  clear S0 hb za zb
  have za := S1.c 0 0 rfl rfl; have zb := S1.c 0 1 rfl rfl
  go_wp2_with fail
  refine (H2.out _).mono ?_
  rintro e w2 ⟨rfl, hb⟩
  have S2 := S1.keep hb
  clear S1 hb za zb
  have za := S2.c 0 0 rfl rfl; have zb := S2.c 0 1 rfl rfl
  go_wp2_with fail
  refine (H3.out _).mono ?_
  rintro e w3 ⟨rfl, hb⟩
  have HB := Lib.hid (S2.keep hb).bl
  clear S2 hb za zb
  go_wp2_with fail
  refine (HK.out _ HB.out).mono ?_
  rintro e w4 ⟨rfl, hb⟩
  have HB2 := Lib.hid (HB.out.trans (hb.mono HB.out.size))
  clear hb
  go_wp2_with fail
  go_ret
  exact ⟨rfl, HB2.out⟩
set_option maxHeartbeats 1000000 in
theorem lawtext_yes (C : Int) (S : Nat) (w : World) (g : GV w) (hC1 : -9223372036854775808 ≤ C) (hC2 : C ≤ 9223372036854775807) (hS : S ≤ 9) : Calls Tryz.prog 3 #[.agg #[.int .i64 C, .int .i64 (S : Int)]] w fun e w' => e = .returned (.bool true) ∧ Below w.heap.size w w' := by
  have H1 := Lib.hid (fun w => text_any C S w hC1 hC2 hS)
  have H2 := Lib.hid (fun w => rtext_any C S w hC1 hC2 hS)
  have H3 := Lib.hid (fun w => nis_yes C (S : Int) w (by omega) (by omega))
  have H4 := Lib.hid (fun w => nput_any C S _ _ w hC1 hC2 hS rfl (ev_nine hS))
  obtain ⟨c, t, hc, ht, he, c1, c2, t9, hcn⟩ := put_fit hC1 hC2 hS
  rw [hc, ht] at H1 H2
  rw [hc, ht, he] at H4
  obtain ⟨b1, b2, b3⟩ := text_back c1 c2 t9 hcn
  have hl := txt_len (c := c) t9 (by omega)
  obtain ⟨X, hX⟩ : ∃ X : ByteArray, (⟨(txt c t).toArray⟩ : ByteArray) = X := ⟨_, rfl⟩
  have hXl : X.data.toList = txt c t := by rw [← hX]
  have hXs : X.size ≤ 4000000 := by rw [← size_len, hXl]; omega
  have H5 := Lib.hid (fun w g => parse_any X w hXs g)
  rw [hXl, b1, b2, b3] at H5
  rw [hX] at H1 H2
  have HK := Lib.hid (fun (w' : World) (b : Below w.heap.size w w') => known_any w' (g.keep b))
  clear hc ht he hcn b1 b2 b3 hl hX hXl
  have S0 := ((Mem.start w).push #[.int .i64 C, .int .i64 (S : Int)] 23)
  have za := S0.c 0 0 rfl rfl; have zb := S0.c 0 1 rfl rfl
  go_enter Tryz.func3, Tryz.ntmps3
  go_wp2_with fail
  refine (H1.out _).mono ?_
  rintro e w1 ⟨rfl, hb⟩
  have S1 := S0.keep hb
  clear S0 hb za zb
  have za := S1.c 0 0 rfl rfl; have zb := S1.c 0 1 rfl rfl
  go_wp2_with fail
  refine (H2.out _).mono ?_
  rintro e w2 ⟨rfl, hb⟩
  have S2 := S1.keep hb
  clear S1 hb za zb
  have za := S2.c 0 0 rfl rfl; have zb := S2.c 0 1 rfl rfl
  go_wp2_with fail
  refine (H3.out _).mono ?_
  rintro e w3 ⟨rfl, hb⟩
  have S3 := S2.keep hb
  clear S2 hb za zb
  go_wp2_with fail
  refine (H5.out _ (g.keep S3.bl)).mono ?_
  rintro e w4 ⟨rfl, hb⟩
  have S4 := (S3.keep hb).push #[.int .i64 c, .int .i64 (t : Int)] 23
  clear S3 hb
  have za := S4.c 0 0 rfl rfl; have zb := S4.c 0 1 rfl rfl
  go_wp2_with fail
  refine (H4.out _).mono ?_
  rintro e w5 ⟨rfl, hb⟩
  have S5 := (S4.keep hb).push #[.int .i64 c, .int .i64 (t : Int)] 23
  clear S4 hb za zb
  have za := S5.c 1 0 rfl rfl; have zb := S5.c 1 1 rfl rfl; have zc := S5.c 2 0 rfl rfl; have zd := S5.c 2 1 rfl rfl
  have HB := Lib.hid S5.bl
  clear S5
  go_wp2_with fail
  refine (HK.out _ HB.out).mono ?_
  rintro e w6 ⟨rfl, hb⟩
  have HB2 := Lib.hid (HB.out.trans (hb.mono HB.out.size))
  clear hb
  go_wp2_with fail
  go_ret
  exact ⟨rfl, HB2.out⟩
theorem lawtext_any (C S : Int) (w : World) (hC1 : -9223372036854775808 ≤ C) (hC2 : C ≤ 9223372036854775807) (g : GV w) : Calls Tryz.prog 3 #[.agg #[.int .i64 C, .int .i64 S]] w fun e w' => e = .returned (.bool true) ∧ Below w.heap.size w w' := by
  by_cases h : 0 ≤ S ∧ S ≤ 9
  · obtain ⟨k, rfl⟩ : ∃ k : Nat, S = (k : Int) := ⟨S.toNat, by omega⟩
    exact lawtext_yes C k w g hC1 hC2 (by omega)
  · exact lawtext_no C S w g (by omega)
end Go.Proofs.YtmccmgplgdmjbaaGreatDoor
namespace Go.Proofs.YtmccmgplgdmjbaaGreatDoor
set_option maxRecDepth 8000
open Go.ChangeMaps Go.ChangeShapes Go.WideShapes Go.ChangeAt Go.RowKit Go.Joins Corr
set_option linter.unusedVariables false
theorem errRow (u : TypeId) (h : Tryz.prog.typeName? 3 u = some "*errors.errorString") : u = 126 :=
  typeName_ptr_named (nm := "errors.errorString") (by rw [show "*" ++ "errors.errorString" = "*errors.errorString" by decide]; kernel_rfl) (by kernel_rfl) (by decide) u (by rw [show "*" ++ "errors.errorString" = "*errors.errorString" by decide]; exact h)
/-- What the listed variables and the world's shape give the walk. -/
theorem good_vars {W : World} (hL : laidMet Tryz.prog Rows.dectextTextRow.laid W) (hS : W.ShapedOpen Tryz.prog) : GV W := by
  have hE := hL.tail.tail.tail.tail
  obtain ⟨a0, s0, hv0, _, _, _⟩ := laid_sentinel hE (show Tryz.prog.globalNamed "strconv.ErrRange" = some 2 by kernel_rfl) (show (Tryz.prog.globals[2]?).map (·.type) = some 47 by kernel_rfl) Tryz.underlying47 errRow Tryz.underlying126 Tryz.underlying128 rfl rfl Tryz.underlying9 (by kernel_rfl) (by kernel_rfl)
  have h0 := World.var?_cell (show Tryz.prog.globalNamed "strconv.ErrRange" = some 2 by kernel_rfl) hv0 0
  exact ⟨cell_of_shapedOpen_int (zero := #[.int .i64 0]) hS (of_decide_eq_true (by kernel_rfl)) (by kernel_rfl) rfl (by kernel_rfl) (by kernel_rfl) Tryz.underlying3, ⟨126, .pointer (some a0), by simpa using h0⟩⟩

set_option maxRecDepth 100000 in
theorem dectextText_lifted (os : Os) (started : os.Started) (H : Type) (enc : TypeId × Value → H) (F : Stop.Interp) :
    ReturnsInHanded {} Tryz.checked os 3 .any ((OpenSpec.ofChange Rows.dectextTextSpec).preRow enc Tryz.prog Tryz.f3 Rows.dectextTextRow.domain false Rows.dectextTextRow.laid) (((OpenSpec.ofChange Rows.dectextTextSpec).at F).post enc Tryz.prog Tryz.f3 false true false false) := by
  refine returnsInHanded_of_row (C := Tryz.checked) (s := OpenSpec.ofChange Rows.dectextTextSpec) own started (by kernel_rfl) Tryz.func3
    (ChangeSpec.witness_shaped (enc := enc) (C := Tryz.checked) (s := Rows.dectextTextSpec) (os := os) (X := fun w _ => laidMetH Tryz.prog Rows.dectextTextRow.laid w) false (World.laidAll Tryz.prog os Rows.dectextTextRow.laid) #[.agg #[.int .i64 0, .int .i64 0]] 8 (World.laidAll_os _ _ _)
      (World.shaped_of_ZipB (by kernel_rfl) (by kernel_rfl)) (by kernel_rfl) (by kernel_rfl) (by kernel_rfl)
      (by rw [MakeChecks.laidMetH_plain _ _ _ (by kernel_rfl)]; exact laidMet_laidAll _ (by kernel_rfl) (by kernel_rfl))) ?_
  intro W base args ds gs before hval0 hW _ _ _ hL hS _
  have hval : ∀ (j : Nat) t v, Tryz.f3.params[j]? = some t → args[j]? = some v → Value.okWide Tryz.prog W .any base t v := hval0
  have hW' := hW
  obtain ⟨p, q, hA0, hV, rfl, hfz, hnd⟩ := hW
  have hA : DataW.TrodAll enc Tryz.prog W 0 (fun _ => true) true Tryz.f3.params.toList args.toList ds p := hA0
  rw [Tryz.params3] at hA hval
  obtain ⟨v0, vs0, d0', ds0, p0, q0, hargs, rfl, rfl, h0, r0⟩ := trodAll_cons hA
  obtain ⟨rfl, rfl, rfl⟩ := trodAll_nil r0
  obtain rfl : args = #[v0] := by cases args; simp_all
  obtain ⟨rfl, rfl⟩ := trodVars_none hV
  obtain ⟨C0, S0, rfl, rfl, rfl, a0, b0, c0, d0⟩ := open_dec (hval 0 23 v0 rfl rfl) h0
  clear hA0 hval0
  rw [MakeChecks.laidMetH_plain _ _ _ (by kernel_rfl)] at hL
  have g := good_vars hL hS
  refine ((fun C S w a b c d g => lawtext_any C S w a b g) C0 S0 W a0 b0 c0 d0 g).mono fun e W' ⟨he, bel⟩ => ?_
  subst he
  exact ⟨_, rfl, _, _, _, [], _, [], hW', trodAll_mk1 (shut_bool Tryz.underlying4 _), (trodAll_cons_mk (shut_dec C0 S0 a0 b0 c0 d0) trodAll_mk0), rfl, bel.frame _, fun h => by cases h⟩

theorem dectextText_row : Rows.DectextTextSaid :=
  OpenClaim.holds_of_cond 3 Tryz.f3 rfl rfl rfl rfl rfl rfl rfl ⟨rfl, rfl, rfl, rfl, rfl⟩ rfl rfl rfl rfl rfl (by kernel_rfl) Tryz.func3 (by kernel_rfl)
    (of_decide_eq_true (by kernel_rfl)) (by unfold Func.isWrapper; first | (rw [if_pos (by decide +kernel)]; kernel_rfl) | (rw [if_neg (by decide +kernel)]; exact ⟨rfl, rfl⟩))
    (fun os started H enc _ F => by rw [OpenClaim.pre_eq_preRow]; exact dectextText_lifted os started H enc F)
theorem dectextText_plain (f : FuncId) (fn : Func) (hf : Tryz.pinned.checked.prog.funcNamed "corrody/corrodylaw03.DectextText" = some f) (hfn : Tryz.pinned.checked.prog.funcs[f]? = some fn) :
    true = Tryz.pinned.checked.prog.looks [] ∧ ∀ (j : Nat) t, fn.params[j]? = some t → Tryz.pinned.checked.prog.wantsStandIn t = false := by
  obtain rfl : f = 3 := Option.some.inj ((show Tryz.prog.funcNamed "corrody/corrodylaw03.DectextText" = some 3 by kernel_rfl).symm.trans hf) |>.symm
  obtain rfl : fn = Tryz.f3 := (Option.some.inj (Tryz.func3.symm.trans hfn)).symm
  refine ⟨by kernel_rfl, fun j t ht => ?_⟩
  rw [Tryz.params3] at ht
  have hm : t ∈ [23] := by simpa using Array.mem_of_getElem? ht
  have hall : ([23].all fun u => !Tryz.prog.wantsStandIn u) = true := by kernel_rfl
  exact (show Tryz.prog.wantsStandIn t = false by simpa using List.all_eq_true.1 hall t hm)
/-- The card. -/
theorem dectextText_card : Rows.DectextTextCardSaid :=
  Claim7.holds_tied_plain_at .later [] _ _ _ _ dectextText_row (fun _ h => by cases h) (by kernel_rfl) (fun _ h => by cases h) dectextText_row_tie rfl ⟨rfl, rfl⟩ (by kernel_rfl) rfl dectextText_plain (by kernel_rfl)
#print axioms dectextText_card
end Go.Proofs.YtmccmgplgdmjbaaGreatDoor

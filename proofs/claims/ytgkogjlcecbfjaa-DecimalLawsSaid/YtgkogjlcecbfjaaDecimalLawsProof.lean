/- Proved: corrodylaw02.DecimalLaws answers true at every two Decs, canonical or not, or none, and leaves them as they were. Conditions: none beside the row's own. -/
import Derived.Test.YtgkogjlcecbfjaaFrameDec
import Derived.Test.YtgkogjlcecbfjaaDcLawsAny
namespace Go.Proofs.Ytgkogjlcecbfjaa
open Go.ChangeShapes Go.WideShapes Go.ChangeAt Go.RowKit Go.Joins Corr
set_option linter.unusedVariables false

/-- What the walk of DecimalLaws says. -/
def DecimalLawsWalk : Prop := ∀ (C0 : Int) (S0 : Int) (C1 : Int) (S1 : Int) (w : World), -9223372036854775808 ≤ C0 → C0 ≤ 9223372036854775807 → -9223372036854775808 ≤ S0 → S0 ≤ 9223372036854775807 → -9223372036854775808 ≤ C1 → C1 ≤ 9223372036854775807 → -9223372036854775808 ≤ S1 → S1 ≤ 9223372036854775807 → 
  Calls Try.prog 8 #[.agg #[.int .i64 C0, .int .i64 S0], .agg #[.int .i64 C1, .int .i64 S1]] w fun e w' => e = .returned (.bool true) ∧ Below w.heap.size w w'

set_option maxRecDepth 100000 in
theorem decimalLaws_lifted (walk : DecimalLawsWalk) (os : Os) (started : os.Started) (H : Type) (enc : TypeId × Value → H) :
    ReturnsInHanded {} Try.checked os 8 .any (Rows.decimalLawsSpec.pre6 enc Try.prog Try.f8 Rows.decimalLawsRow.domain false) (Rows.decimalLawsSpec.post enc Try.prog Try.f8 false true false false) := by
  refine returnsInHanded_of_change (C := Try.checked) own started (by kernel_rfl) Try.func8
    (ChangeSpec.witness6 (enc := enc) (C := Try.checked) false ⟨#[], #[.agg #[.int .i64 0, .int .i64 0], .agg #[.int .i64 0, .int .i64 0]], []⟩ 8 (by kernel_rfl) (by kernel_rfl) (by kernel_rfl) (by kernel_rfl)) ?_
  intro W base args ds gs before hval0 hW hcnd _
  have hval : ∀ (j : Nat) t v, Try.f8.params[j]? = some t → args[j]? = some v → Value.okWide Try.prog W .any base t v := hval0
  have hW' := hW
  obtain ⟨p, q, hA0, hV, rfl, hfz, hnd⟩ := hW
  have hA : DataW.TrodAll enc Try.prog W 0 (fun _ => true) true Try.f8.params.toList args.toList ds p := hA0
  rw [Try.params8] at hA hval
  obtain ⟨v0, vs0, d0', ds0, p0, q0, hargs, rfl, rfl, h0, r0⟩ := trodAll_cons hA
  obtain ⟨v1, vs1, d1', ds1, p1, q1, rfl, rfl, rfl, h1, r1⟩ := trodAll_cons r0
  obtain ⟨rfl, rfl, rfl⟩ := trodAll_nil r1
  obtain rfl : args = #[v0, v1] := by cases args; simp_all
  obtain ⟨rfl, rfl⟩ := trodVars_none hV
  obtain ⟨C0, S0, rfl, rfl, rfl, a0, b0, c0, d0⟩ := open_dec (hval 0 59 v0 rfl rfl) h0
  obtain ⟨C1, S1, rfl, rfl, rfl, a1, b1, c1, d1⟩ := open_dec (hval 1 59 v1 rfl rfl) h1
  clear hA0 hval0
  refine (walk C0 S0 C1 S1 W a0 b0 c0 d0 a1 b1 c1 d1).mono fun e W' ⟨he, bel⟩ => ?_
  subst he
  exact ⟨_, rfl, _, _, _, [], _, [], hW', trodAll_mk1 (shut_bool Try.underlying4 _), (trodAll_cons_mk (shut_dec C0 S0 a0 b0 c0 d0) (trodAll_cons_mk (shut_dec C1 S1 a1 b1 c1 d1) trodAll_mk0)), rfl, bel.frame _, fun h => by cases h⟩

theorem decimalLaws_row (walk : DecimalLawsWalk) : Rows.DecimalLawsSaid :=
  OpenClaim.holds_of_wide 8 Try.f8 rfl rfl rfl rfl rfl rfl rfl ⟨rfl, rfl, rfl, rfl, rfl⟩ rfl rfl rfl rfl rfl (by kernel_rfl) Try.func8 (by kernel_rfl)
    (of_decide_eq_true (by kernel_rfl)) (by unfold Func.isWrapper; first | (rw [if_pos (by decide +kernel)]; kernel_rfl) | (rw [if_neg (by decide +kernel)]; exact ⟨rfl, rfl⟩))
    (fun os started H enc _ => decimalLaws_lifted walk os started H enc)
theorem decimalLaws_holds : Rows.DecimalLawsSaid := decimalLaws_row fun C S C' S' w a b _ _ a' b' _ _ => laws_any C S C' S' a b a' b' w
#print axioms decimalLaws_holds
end Go.Proofs.Ytgkogjlcecbfjaa

/- Proved: corrodylaw11.TimelineLast answers true at every list of puts, every put and every day, and leaves them as they were. Conditions: none beside the row's own. -/
import Derived.Test.YtockjcainkoifaaFrameOps
import Derived.Test.YtockjcainkoifaaTlLast
import Derived.Test.YtockjcainkoifaaTlP
namespace Go.Proofs.Ytockjcainkoifaa
open Go.ChangeShapes Go.WideShapes Go.ChangeAt Go.RowKit Go.Joins Corr
set_option linter.unusedVariables false

/-- What the walk of TimelineLast says. -/
def TimelineLastWalk : Prop := ∀ (A0 : Option Addr) (N0 : Nat) (c0 : Nat) (l0 : ItL) (C1 : Int) (S1 : Int) (E1 : Int) (n2 : Int) (w : World), Itm w A0 N0 c0 l0 → -9223372036854775808 ≤ n2 → n2 ≤ 9223372036854775807 → 
  Calls Try.prog 6 #[.slice A0 N0 c0, .agg #[.int .i64 C1, .int .i64 S1, .int .i64 E1], .int .i64 n2] w fun e w' => e = .returned (.bool true) ∧ Below w.heap.size w w'

set_option maxRecDepth 100000 in
theorem timelineLast_lifted (walk : TimelineLastWalk) (os : Os) (started : os.Started) (H : Type) (enc : TypeId × Value → H) :
    ReturnsInHanded {} Try.checked os 6 .any (Rows.timelineLastSpec.pre6 enc Try.prog Try.f6 Rows.timelineLastRow.domain false) (Rows.timelineLastSpec.post enc Try.prog Try.f6 false true false false) := by
  refine returnsInHanded_of_change (C := Try.checked) own started (by kernel_rfl) Try.func6
    (ChangeSpec.witness6 (enc := enc) (C := Try.checked) false ⟨#[], #[.slice none 0 0, .agg #[.int .i64 0, .int .i64 0, .int .i64 0], .int .i64 0], []⟩ 8 (by kernel_rfl) (by kernel_rfl) (by kernel_rfl) (by kernel_rfl)) ?_
  intro W base args ds gs before hval0 hW hcnd _
  have hval : ∀ (j : Nat) t v, Try.f6.params[j]? = some t → args[j]? = some v → Value.okWide Try.prog W .any base t v := hval0
  have hW' := hW
  obtain ⟨p, q, hA0, hV, rfl, hfz, hnd⟩ := hW
  have hA : DataW.TrodAll enc Try.prog W 0 (fun _ => true) true Try.f6.params.toList args.toList ds p := hA0
  rw [Try.params6] at hA hval
  obtain ⟨v0, vs0, d0', ds0, p0, q0, hargs, rfl, rfl, h0, r0⟩ := trodAll_cons hA
  obtain ⟨v1, vs1, d1', ds1, p1, q1, rfl, rfl, rfl, h1, r1⟩ := trodAll_cons r0
  obtain ⟨v2, vs2, d2', ds2, p2, q2, rfl, rfl, rfl, h2, r2⟩ := trodAll_cons r1
  obtain ⟨rfl, rfl, rfl⟩ := trodAll_nil r2
  obtain rfl : args = #[v0, v1, v2] := by cases args; simp_all
  obtain ⟨rfl, rfl⟩ := trodVars_none hV
  have k0 := h0
  obtain ⟨A0, N0, c0, l0, rfl, a0⟩ := open_ops11 (hval 0 22 v0 rfl rfl) h0
  have lt0 : ∀ x ∈ p0, x.block < W.heap.size := fun x hx => by have := hW'.lt x (by simp [hx]); simpa using this
  have k1 := h1
  obtain ⟨C1, S1, E1, rfl⟩ := open_op11 (hval 1 33 v1 rfl rfl) h1
  have lt1 : ∀ x ∈ p1, x.block < W.heap.size := fun x hx => by have := hW'.lt x (by simp [hx]); simpa using this
  obtain ⟨n2, rfl, rfl, rfl, w2⟩ := open_int Try.underlying3 (hval 2 3 v2 rfl rfl) h2
  obtain ⟨a2, b2⟩ := bounds_i64 w2
  clear hA0 hval0
  refine (walk A0 N0 c0 l0 C1 S1 E1 n2 W a0 a2 b2).mono fun e W' ⟨he, bel⟩ => ?_
  subst he
  exact ⟨_, rfl, _, _, _, [], _, [], hW', trodAll_mk1 (shut_bool Try.underlying4 _), (trodAll_cons_mk (Below.trod Try.laidOut1 (by kernel_rfl) (of_decide_eq_true (by kernel_rfl)) k0 bel lt0) (trodAll_cons_mk (Below.trod Try.laidOut1 (by kernel_rfl) (of_decide_eq_true (by kernel_rfl)) k1 bel lt1) (trodAll_cons_mk (shut_int Try.underlying3 w2) trodAll_mk0))), rfl, bel.frame _, fun h => by cases h⟩

theorem timelineLast_row (walk : TimelineLastWalk) : Rows.TimelineLastSaid :=
  OpenClaim.holds_of_wide 6 Try.f6 rfl rfl rfl rfl rfl rfl rfl ⟨rfl, rfl, rfl, rfl, rfl⟩ rfl rfl rfl rfl rfl (by kernel_rfl) Try.func6 (by kernel_rfl)
    (of_decide_eq_true (by kernel_rfl)) (by unfold Func.isWrapper; first | (rw [if_pos (by decide +kernel)]; kernel_rfl) | (rw [if_neg (by decide +kernel)]; exact ⟨rfl, rfl⟩))
    (fun os started H enc _ => timelineLast_lifted walk os started H enc)
theorem timelineLast_holds : Rows.TimelineLastSaid := timelineLast_row fun A N c l a b v day w Rl _ _ => tllast_any tlK A N c l a b v day w Rl
#print axioms timelineLast_holds
end Go.Proofs.Ytockjcainkoifaa

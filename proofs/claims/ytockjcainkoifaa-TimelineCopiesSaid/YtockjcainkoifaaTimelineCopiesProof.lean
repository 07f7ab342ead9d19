/- Proved: corrodylaw11.TimelineCopies answers true at every two lists of puts and every put, and leaves them as they were. Conditions: none beside the row's own. -/
import Derived.Test.YtockjcainkoifaaFrameOps
import Derived.Test.YtockjcainkoifaaTlCopies
import Derived.Test.YtockjcainkoifaaTlP
namespace Go.Proofs.Ytockjcainkoifaa
open Go.ChangeShapes Go.WideShapes Go.ChangeAt Go.RowKit Go.Joins Corr
set_option linter.unusedVariables false

/-- What the walk of TimelineCopies says. -/
def TimelineCopiesWalk : Prop := ∀ (A0 : Option Addr) (N0 : Nat) (c0 : Nat) (l0 : ItL) (A1 : Option Addr) (N1 : Nat) (c1 : Nat) (l1 : ItL) (C2 : Int) (S2 : Int) (E2 : Int) (w : World), Itm w A0 N0 c0 l0 → Itm w A1 N1 c1 l1 → 
  Calls Try.prog 4 #[.slice A0 N0 c0, .slice A1 N1 c1, .agg #[.int .i64 C2, .int .i64 S2, .int .i64 E2]] w fun e w' => e = .returned (.bool true) ∧ Below w.heap.size w w'

set_option maxRecDepth 100000 in
theorem timelineCopies_lifted (walk : TimelineCopiesWalk) (os : Os) (started : os.Started) (H : Type) (enc : TypeId × Value → H) :
    ReturnsInHanded {} Try.checked os 4 .any (Rows.timelineCopiesSpec.pre6 enc Try.prog Try.f4 Rows.timelineCopiesRow.domain false) (Rows.timelineCopiesSpec.post enc Try.prog Try.f4 false true false false) := by
  refine returnsInHanded_of_change (C := Try.checked) own started (by kernel_rfl) Try.func4
    (ChangeSpec.witness6 (enc := enc) (C := Try.checked) false ⟨#[], #[.slice none 0 0, .slice none 0 0, .agg #[.int .i64 0, .int .i64 0, .int .i64 0]], []⟩ 8 (by kernel_rfl) (by kernel_rfl) (by kernel_rfl) (by kernel_rfl)) ?_
  intro W base args ds gs before hval0 hW hcnd _
  have hval : ∀ (j : Nat) t v, Try.f4.params[j]? = some t → args[j]? = some v → Value.okWide Try.prog W .any base t v := hval0
  have hW' := hW
  obtain ⟨p, q, hA0, hV, rfl, hfz, hnd⟩ := hW
  have hA : DataW.TrodAll enc Try.prog W 0 (fun _ => true) true Try.f4.params.toList args.toList ds p := hA0
  rw [Try.params4] at hA hval
  obtain ⟨v0, vs0, d0', ds0, p0, q0, hargs, rfl, rfl, h0, r0⟩ := trodAll_cons hA
  obtain ⟨v1, vs1, d1', ds1, p1, q1, rfl, rfl, rfl, h1, r1⟩ := trodAll_cons r0
  obtain ⟨v2, vs2, d2', ds2, p2, q2, rfl, rfl, rfl, h2, r2⟩ := trodAll_cons r1
  obtain ⟨rfl, rfl, rfl⟩ := trodAll_nil r2
  obtain rfl : args = #[v0, v1, v2] := by cases args; simp_all
  obtain ⟨rfl, rfl⟩ := trodVars_none hV
  have k0 := h0
  obtain ⟨A0, N0, c0, l0, rfl, a0⟩ := open_ops11 (hval 0 22 v0 rfl rfl) h0
  have lt0 : ∀ x ∈ p0, x.block < W.heap.size := fun x hx => by have := hW'.lt x (by simp [hx]); simpa using this
  have k1 := h1
  obtain ⟨A1, N1, c1, l1, rfl, a1⟩ := open_ops11 (hval 1 22 v1 rfl rfl) h1
  have lt1 : ∀ x ∈ p1, x.block < W.heap.size := fun x hx => by have := hW'.lt x (by simp [hx]); simpa using this
  have k2 := h2
  obtain ⟨C2, S2, E2, rfl⟩ := open_op11 (hval 2 33 v2 rfl rfl) h2
  have lt2 : ∀ x ∈ p2, x.block < W.heap.size := fun x hx => by have := hW'.lt x (by simp [hx]); simpa using this
  clear hA0 hval0
  refine (walk A0 N0 c0 l0 A1 N1 c1 l1 C2 S2 E2 W a0 a1).mono fun e W' ⟨he, bel⟩ => ?_
  subst he
  exact ⟨_, rfl, _, _, _, [], _, [], hW', trodAll_mk1 (shut_bool Try.underlying4 _), (trodAll_cons_mk (Below.trod Try.laidOut1 (by kernel_rfl) (of_decide_eq_true (by kernel_rfl)) k0 bel lt0) (trodAll_cons_mk (Below.trod Try.laidOut1 (by kernel_rfl) (of_decide_eq_true (by kernel_rfl)) k1 bel lt1) (trodAll_cons_mk (Below.trod Try.laidOut1 (by kernel_rfl) (of_decide_eq_true (by kernel_rfl)) k2 bel lt2) trodAll_mk0))), rfl, bel.frame _, fun h => by cases h⟩

theorem timelineCopies_row (walk : TimelineCopiesWalk) : Rows.TimelineCopiesSaid :=
  OpenClaim.holds_of_wide 4 Try.f4 rfl rfl rfl rfl rfl rfl rfl ⟨rfl, rfl, rfl, rfl, rfl⟩ rfl rfl rfl rfl rfl (by kernel_rfl) Try.func4 (by kernel_rfl)
    (of_decide_eq_true (by kernel_rfl)) (by unfold Func.isWrapper; first | (rw [if_pos (by decide +kernel)]; kernel_rfl) | (rw [if_neg (by decide +kernel)]; exact ⟨rfl, rfl⟩))
    (fun os started H enc _ => timelineCopies_lifted walk os started H enc)
theorem timelineCopies_holds : Rows.TimelineCopiesSaid := timelineCopies_row fun A N c l A2 N2 c2 l2 a b v w Rl Rm => tlcopies_any tlK A N c l A2 N2 c2 l2 a b v w Rl Rm
#print axioms timelineCopies_holds
end Go.Proofs.Ytockjcainkoifaa

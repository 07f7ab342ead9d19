/- From a walk of corrodylaw01.WideBack at every input to its row: how the arguments are read and left. -/
import Derived.Test.YtbenpcnibongaaaRows
import Derived.Test.YtbenpcnibongaaaBase
import Derived.WalkKit
import Derived.ProofKit
import Derived.OpenShut
import Derived.ShutString
import Derived.ChangeOld
import Derived.Below
import Derived.Lib.SmallJoins
namespace Go.Proofs.Ytbenpcnibongaaa
open Go.ChangeShapes Go.WideShapes Go.ChangeAt Go.RowKit Go.Joins Corr
set_option linter.unusedVariables false

theorem own : ownKnob Try.prog.godebug = none := by kernel_rfl
theorem Try.cellsW : Try.prog.cellsOf 24 = 3 := by kernel_rfl

/-- A Wide that is handed in: its three fields. -/
theorem open_wide {H : Type} {enc : TypeId × Value → H} {W : World} {base b0 : Nat} {sp : Nat → Bool} {held : Bool} {r : Reach} {v : Value} {d : DataW H} {p : List MemPlace}
    (hv : Value.okWide Try.prog W r b0 24 v) (h : DataW.Trod enc Try.prog W base sp held 24 v d p) :
    ∃ (s : Bool) (a b : Nat), v = WV s a b ∧ d = .agg [.lit (.bool s), .lit (.int .u64 (a : Int)), .lit (.int .u64 (b : Int))] ∧ p = [] ∧ a < B64 ∧ b < B64 := by
  obtain ⟨c0, c1, c2, y0, y1, y2, m, rfl, rfl, rfl, hy0, hy1, hy2⟩ := open_agg3 Try.underlying24 (by kernel_rfl) Try.cellsW hv h
  obtain ⟨s, e0, rfl⟩ := DataW.trod_bool Try.underlying4 hy0
  obtain ⟨a, e1, rfl, wa⟩ := DataW.trod_int Try.underlying22 hy1
  obtain ⟨b, e2, rfl, wb⟩ := DataW.trod_int Try.underlying22 hy2
  simp at e0 e1 e2
  subst e0 e1 e2
  obtain ⟨a0, a1⟩ := bounds_u64 wa
  obtain ⟨b0, b1⟩ := bounds_u64 wb
  obtain ⟨a, rfl⟩ := Int.eq_ofNat_of_zero_le a0
  obtain ⟨b, rfl⟩ := Int.eq_ofNat_of_zero_le b0
  exact ⟨s, a, b, rfl, rfl, rfl, by unfold B64; omega, by unfold B64; omega⟩
theorem wf_u64 {a : Nat} (h : a < B64) : (Lit.int .u64 (a : Int)).wf = true := WalkArith.wf_u64 (by unfold B64 at h; omega)
/-- .. and read again, in whatever world. -/
theorem shut_wide {H : Type} {enc : TypeId × Value → H} {W : World} {base : Nat} {sp : Nat → Bool} {held : Bool} (s : Bool) (a b : Nat) (ha : a < B64) (hb : b < B64) :
    DataW.Trod enc Try.prog W base sp held 24 (WV s a b) (.agg [.lit (.bool s), .lit (.int .u64 (a : Int)), .lit (.int .u64 (b : Int))]) [] :=
  shut_agg3 (y0 := (.lit (.bool s), [])) (y1 := (.lit (.int .u64 (a : Int)), [])) (y2 := (.lit (.int .u64 (b : Int)), [])) Try.underlying24 (by kernel_rfl) Try.cellsW
    ⟨1, by simp [DataW.trod, Try.underlying4]⟩ ⟨1, by simp [DataW.trod, Try.underlying22, wf_u64 ha]⟩ ⟨1, by simp [DataW.trod, Try.underlying22, wf_u64 hb]⟩

/-- What the walk of WideBack says. -/
def BackWalk : Prop := ∀ (s s' : Bool) (h l h' l' d : Nat) (w : World), h < B64 → l < B64 → h' < B64 → l' < B64 → d < B64 →
  Calls Try.prog 5 #[WV s h l, WV s' h' l', .int .u64 d] w fun e w' => e = .returned (.bool true) ∧ Below w.heap.size w w'

set_option maxRecDepth 100000 in
theorem back_lifted (walk : BackWalk) (os : Os) (started : os.Started) (H : Type) (enc : TypeId × Value → H) :
    ReturnsInHanded {} Try.checked os 5 .any (Rows.wideBackSpec.pre6 enc Try.prog Try.f5 Rows.wideBackRow.domain false) (Rows.wideBackSpec.post enc Try.prog Try.f5 false true false false) := by
  refine returnsInHanded_of_change (C := Try.checked) own started (by kernel_rfl) Try.func5
    (ChangeSpec.witness6 (enc := enc) (C := Try.checked) false ⟨#[], #[.agg #[.bool false, .int .u64 0, .int .u64 0], .agg #[.bool false, .int .u64 0, .int .u64 0], .int .u64 0], []⟩ 8 (by kernel_rfl) (by kernel_rfl) (by kernel_rfl) (by kernel_rfl)) ?_
  intro W base args ds gs before hval0 hW hcnd _
  have hval : ∀ (j : Nat) t v, Try.f5.params[j]? = some t → args[j]? = some v → Value.okWide Try.prog W .any base t v := hval0
  have hW' := hW
  obtain ⟨p, q, hA0, hV, rfl, hfz, hnd⟩ := hW
  have hA : DataW.TrodAll enc Try.prog W 0 (fun _ => true) true Try.f5.params.toList args.toList ds p := hA0
  rw [Try.params5] at hA hval
  obtain ⟨v0, vs0, d0, ds0, p0, q0, hargs, rfl, rfl, h0, r0⟩ := trodAll_cons hA
  obtain ⟨v1, vs1, d1, ds1, p1, q1, rfl, rfl, rfl, h1, r1⟩ := trodAll_cons r0
  obtain ⟨v2, vs2, d2, ds2, p2, q2, rfl, rfl, rfl, h2, r2⟩ := trodAll_cons r1
  obtain ⟨rfl, rfl, rfl⟩ := trodAll_nil r2
  obtain rfl : args = #[v0, v1, v2] := by cases args; simp_all
  obtain ⟨rfl, rfl⟩ := trodVars_none hV
  obtain ⟨s, h, l, rfl, rfl, rfl, a1, a2⟩ := open_wide (hval 0 24 v0 rfl rfl) h0
  obtain ⟨s', h', l', rfl, rfl, rfl, b1, b2⟩ := open_wide (hval 1 24 v1 rfl rfl) h1
  obtain ⟨x, rfl, rfl, rfl, wx⟩ := open_int Try.underlying22 (hval 2 22 v2 rfl rfl) h2
  obtain ⟨x0, x1⟩ := bounds_u64 wx
  obtain ⟨d, rfl⟩ := Int.eq_ofNat_of_zero_le x0
  have hd : d < B64 := by unfold B64; omega
  clear hA0 hval0
  refine (walk s s' h l h' l' d W a1 a2 b1 b2 hd).mono fun e W' ⟨he, bel⟩ => ?_
  subst he
  exact ⟨_, rfl, _, _, _, [], _, [], hW', trodAll_mk1 (shut_bool Try.underlying4 _), (trodAll_cons_mk (shut_wide s h l a1 a2) (trodAll_cons_mk (shut_wide s' h' l' b1 b2) (trodAll_cons_mk (shut_int Try.underlying22 (wf_u64 hd)) trodAll_mk0))), rfl, bel.frame _, fun h => by cases h⟩

theorem back_row (walk : BackWalk) : Rows.WideBackSaid :=
  OpenClaim.holds_of_wide 5 Try.f5 rfl rfl rfl rfl rfl rfl rfl ⟨rfl, rfl, rfl, rfl, rfl⟩ rfl rfl rfl rfl rfl (by kernel_rfl) Try.func5 (by kernel_rfl)
    (of_decide_eq_true (by kernel_rfl)) (by unfold Func.isWrapper; first | (rw [if_pos (by decide +kernel)]; kernel_rfl) | (rw [if_neg (by decide +kernel)]; exact ⟨rfl, rfl⟩))
    (fun os started H enc _ => back_lifted walk os started H enc)
end Go.Proofs.Ytbenpcnibongaaa

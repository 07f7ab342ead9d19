/- A value of the layers' as an argument. -/
import Derived.Test.YtgojfonnikgboaaGreatDoorFrameDec
import Derived.Test.YtgojfonnikgboaaGreatDoorVl1
import Derived.Carry
import Derived.Deep.Strs
namespace Go.Proofs.YtgojfonnikgboaaGreatDoor
open Go.ChangeShapes Go.WideShapes Go.ChangeAt Go.RowKit Go.Joins Go.Deep Corr
set_option linter.unusedVariables false
set_option maxRecDepth 100000
theorem Tryz.laidOut2 : laidOutB Tryz.prog = true := by kernel_rfl
theorem Tryz.cellsVal : Tryz.prog.cellsOf 26 = 4 := by kernel_rfl
section
variable {H : Type} {enc : TypeId × Value → H} {W : World} {base b0 : Nat} {sp : Nat → Bool} {held : Bool} {r : Reach} {v : Value} {d : DataW H} {p : List MemPlace}
theorem read_value {n : Nat} {cs : List Value} {x : DataW H × List MemPlace} (h : DataW.trod enc Tryz.prog W base sp held n 26 cs = some x) : ∃ K C S E : Int, cs = [.int .u8 K, .int .i64 C, .int .i64 S, .int .i64 E] ∧ -9223372036854775808 ≤ C ∧ C ≤ 9223372036854775807 := by
  obtain ⟨y0, y1, y2, k, rfl, hl, h0, h1, h2⟩ := trod_struct3 Tryz.underlying26 h
  rw [Tryz.cellsVal] at hl
  obtain ⟨K, e0, _⟩ := DataW.trod_int Tryz.underlying5 h0
  obtain ⟨E, e2, _⟩ := DataW.trod_int Tryz.underlying24 h2
  obtain ⟨z0, z1, k2, _, hl2, g0, g1⟩ := trod_struct2 Tryz.underlying23 h1
  obtain ⟨C, f0, _, wc⟩ := DataW.trod_int Tryz.underlying2 g0
  obtain ⟨S, f1, _⟩ := DataW.trod_int Tryz.underlying3 g1
  obtain ⟨a0, a1⟩ := bounds_i64 wc
  match cs, hl with
  | [v0, v1, v2, v3], _ =>
    have q0 : [v0] = [Value.int .u8 K] := e0
    have q1 : [v1] = [Value.int .i64 C] := f0
    have q2 : [v2] = [Value.int .i64 S] := f1
    have q3 : [v3] = [Value.int .i64 E] := e2
    simp at q0 q1 q2 q3
    subst q0 q1 q2 q3
    exact ⟨K, C, S, E, rfl, a0, a1⟩
theorem open_value (hv : Value.okWide Tryz.prog W r b0 26 v) (h : DataW.Trod enc Tryz.prog W base sp held 26 v d p) : ∃ K C S E : Int, v = vlV K C S E ∧ -9223372036854775808 ≤ C ∧ C ≤ 9223372036854775807 := by
  obtain ⟨cs, rfl, _⟩ := okWide_struct Tryz.underlying26 hv
  obtain ⟨fuel, hf⟩ := h
  obtain ⟨K, C, S, E, hs, a0, a1⟩ := read_value (show DataW.trod enc Tryz.prog W base sp held fuel 26 cs.toList = some (d, p) from hf)
  refine ⟨K, C, S, E, ?_, a0, a1⟩
  rw [show cs = cs.toList.toArray from rfl, hs]
end
end Go.Proofs.YtgojfonnikgboaaGreatDoor

/- Items whose days are numbers of the machine's, and spans, as arguments. -/
import Derived.Test.YtolmkagedlcjiaaFrameRows
import Derived.Test.YtolmkagedlcjiaaItK
namespace Go.Proofs.Ytolmkagedlcjiaa
open Go.ChangeShapes Go.WideShapes Go.ChangeAt Go.RowKit Go.Joins Go.Deep Corr
set_option linter.unusedVariables false
set_option maxRecDepth 100000
/-- An item whose day is a number of the machine's. -/
abbrev ItR := { s : It // lowI ≤ s.1 }
section
variable {H : Type} {enc : TypeId × Value → H} {W : World} {base b0 : Nat} {sp : Nat → Bool} {held : Bool} {r : Reach} {v : Value} {d : DataW H} {p : List MemPlace}
theorem read_itemR {n : Nat} {cs : List Value} {x : DataW H × List MemPlace} (h : DataW.trod enc Try.prog W base sp held n 30 cs = some x) : ∃ s : ItR, cs = [.int .i64 s.1.1, .int .i64 s.1.2.1, .int .i64 s.1.2.2] := by
  obtain ⟨y0, y1, y2, k, rfl, hl, h0, h1, h2⟩ := trod_struct3 Try.underlying30 h
  rw [Try.cellsItem] at hl
  obtain ⟨a, e0, _, wa⟩ := DataW.trod_int Try.underlying3 h0
  obtain ⟨b, e1, _⟩ := DataW.trod_int Try.underlying3 h1
  obtain ⟨c, e2, _⟩ := DataW.trod_int Try.underlying3 h2
  match cs, hl with
  | [v0, v1, v2], _ =>
    have f0 : [v0] = [Value.int .i64 a] := e0
    have f1 : [v1] = [Value.int .i64 b] := e1
    have f2 : [v2] = [Value.int .i64 c] := e2
    simp at f0 f1 f2
    subst f0 f1 f2
    exact ⟨⟨(a, b, c), (bounds_i64 wa).1⟩, rfl⟩
theorem cells3_flatR : ∀ l : List ItR, l.flatMap (fun s : ItR => [Value.int .i64 s.1.1, .int .i64 s.1.2.1, .int .i64 s.1.2.2]) = cells3 (l.map (·.1))
  | [] => rfl
  | s :: r => by rw [List.flatMap_cons, cells3_flatR r]; rfl
theorem open_itemsR (hv : Value.okWide Try.prog W r b0 22 v) (h : DataW.Trod enc Try.prog W base sp held 22 v d p) : ∃ (A : Option Addr) (n c : Nat) (l : ItL), v = .slice A n c ∧ Itm W A n c l ∧ okR l := by
  obtain ⟨A, n, c, l, hv, hl⟩ := open_rows (f := fun s : ItR => [Value.int .i64 s.1.1, .int .i64 s.1.2.1, .int .i64 s.1.2.2]) (size := 3) (fun _ => rfl) (by decide) Try.underlying22 Try.cellsItem (fun n cs x hx => read_itemR hx) hv h
  rw [cells3_flatR] at hl
  refine ⟨A, n, c, l.map (·.1), hv, hl, fun y hy => ?_⟩
  obtain ⟨s, _, rfl⟩ := List.mem_map.1 hy
  exact s.2
theorem open_itemR (hv : Value.okWide Try.prog W r b0 30 v) (h : DataW.Trod enc Try.prog W base sp held 30 v d p) : ∃ a b c : Int, v = .agg #[.int .i64 a, .int .i64 b, .int .i64 c] ∧ lowI ≤ a := by
  obtain ⟨cs, rfl, _⟩ := okWide_struct Try.underlying30 hv
  obtain ⟨fuel, hf⟩ := h
  obtain ⟨s, hs⟩ := read_itemR (show DataW.trod enc Try.prog W base sp held fuel 30 cs.toList = some (d, p) from hf)
  refine ⟨s.1.1, s.1.2.1, s.1.2.2, ?_, s.2⟩
  rw [show cs = cs.toList.toArray from rfl, hs]
theorem open_spanB (hv : Value.okWide Try.prog W r b0 24 v) (h : DataW.Trod enc Try.prog W base sp held 24 v d p) : ∃ a b : Int, v = .agg #[.int .i64 a, .int .i64 b] := by
  obtain ⟨c0, c1, y0, y1, m, rfl, rfl, rfl, hy0, hy1⟩ := open_agg2 Try.underlying24 (by kernel_rfl) Try.cellsSpan hv h
  obtain ⟨a, e0, rfl, wa⟩ := DataW.trod_int Try.underlying3 hy0
  obtain ⟨b, e1, rfl, wb⟩ := DataW.trod_int Try.underlying3 hy1
  simp at e0 e1
  subst e0 e1
  exact ⟨a, b, rfl⟩
end
end Go.Proofs.Ytolmkagedlcjiaa

/- A slice of slices of puts as an argument. -/
import Derived.Test.YtonfjjmgjgmanaaFrameOps
import Derived.Test.YtonfjjmgjgmanaaRfKnown
namespace Go.Proofs.Ytonfjjmgjgmanaa
open Go.ChangeShapes Go.WideShapes Go.ChangeAt Go.RowKit Go.Joins Go.Deep Corr
set_option linter.unusedVariables false
set_option maxRecDepth 100000
/-- A row and what it holds. -/
abbrev RowOf (W : World) := { q : Value × ItL // ∃ A m d, q.1 = .slice A m d ∧ Itm W A m d q.2 }
theorem rowOf_flat {W : World} : ∀ l : List (RowOf W), l.flatMap (fun s => [s.1.1]) = l.map (·.1.1)
  | [] => rfl
  | s :: r => by rw [List.flatMap_cons, rowOf_flat r]; rfl
section
variable {H : Type} {enc : TypeId × Value → H} {W : World} {base b0 : Nat} {sp : Nat → Bool} {held : Bool} {r : Reach} {v : Value} {d : DataW H} {p : List MemPlace}
theorem open_slsR (hv : Value.okWide Try.prog W r b0 22 v) (h : DataW.Trod enc Try.prog W base sp held 22 v d p) : ∃ (A : Option Addr) (n c : Nat) (ls : List ItL), v = .slice A n c ∧ SlsR W A n c ls ∧ n ≤ 9223372036854775807 := by
  obtain ⟨A, n, c, l, hv, hl, hn⟩ := rows1 (f := fun s : RowOf W => [s.1.1]) (size := 1) (fun _ => rfl) (by decide) Try.underlying22 (by kernel_rfl) (fun n cs x hx => by
    obtain ⟨A, n, c, l, h1, h2, _⟩ := rows0 (f := fun s : It => [Value.int .i64 s.1, .int .i64 s.2.1, .int .i64 s.2.2]) (size := 3) (fun _ => rfl) (by decide) Try.underlying30 (by kernel_rfl) (fun n cs x hx => read_op12 hx) hx
    rw [cells3_flat] at h2
    exact ⟨⟨(.slice A n c, l), A, n, c, rfl, h2⟩, h1⟩) hv h
  rw [rowOf_flat] at hl
  refine ⟨A, n, c, l.map (·.1.2), hv, ⟨_, hl, by simp, fun i v s h1 h2 => ?_⟩, by have : maxLen = 9223372036854775807 := by decide
                                                                                  omega⟩
  rw [List.getElem?_map] at h1 h2
  cases hq : l[i]? with
  | none => rw [hq] at h1; cases h1
  | some q =>
    rw [hq] at h1 h2
    simp at h1 h2
    subst h1 h2
    exact q.2
end
end Go.Proofs.Ytonfjjmgjgmanaa

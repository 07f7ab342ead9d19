/- Contract of corrodyref07.Right. -/
import Derived.Test.YtmolbckndkhhlaaSp3
import Derived.Test.YtmolbckndkhhlaaRow
import Derived.Test.YtmolbckndkhhlaaRelMem
import Derived.BigQuiet
namespace Corr
open Go Go.RowKit
/-- One piece more: joined to the last one where they touch. -/
def pieceR (out : SpL) (a b : Int) (is : Bool) : SpL :=
  if is = true then (match out.getLast? with | some s => if s.2 = a then out.dropLast ++ [(s.1, b)] else out ++ [(a, b)] | none => [(a, b)]) else out
def rightK (es : List Int) (bs : List Bool) : Nat → SpL
  | 0 => []
  | k + 1 => pieceR (rightK es bs k) (es.getD k 0) (es.getD (k + 1) 0) (bs.getD k false)
theorem pieceR_len (out : SpL) (a b : Int) (is : Bool) : (pieceR out a b is).length ≤ out.length + 1 := by
  unfold pieceR
  split
  · split
    · rename_i s h
      split
      · have : out ≠ [] := fun e => by rw [e] at h; cases h
        have := List.length_pos_iff.2 this
        rw [List.length_append, List.length_dropLast]
        simp only [List.length_singleton]
        omega
      · simp
    · simp
  · omega
theorem rightK_len (es : List Int) (bs : List Bool) : ∀ k, (rightK es bs k).length ≤ k
  | 0 => by simp [rightK]
  | k + 1 => by
    have h1 := rightK_len es bs k
    have h2 := pieceR_len (rightK es bs k) (es.getD k 0) (es.getD (k + 1) 0) (bs.getD k false)
    rw [rightK]; omega
theorem pieceR_no {out : SpL} {a b : Int} : pieceR out a b false = out := rfl
theorem pieceR_nil {a b : Int} : pieceR [] a b true = [(a, b)] := rfl
theorem last_at {out : SpL} {j : Nat} (h : out.length = j + 1) : ∃ s, out[j]? = some s ∧ out.getLast? = some s := by
  have hj : j < out.length := by omega
  refine ⟨out[j], List.getElem?_eq_getElem hj, ?_⟩
  rw [List.getLast?_eq_getElem?, h, Nat.add_sub_cancel, List.getElem?_eq_getElem hj]
theorem cells2_set : ∀ {l : SpL} {j : Nat} {x y y' : Int}, l[j]? = some (x, y) → (cells2 l).set (j * 2 + 1) (.int .i64 y') = cells2 (l.set j (x, y'))
  | [], _, _, _, _, h => by simp at h
  | s :: r, 0, x, y, y', h => by
    have : s = (x, y) := by simpa using h
    subst this; rfl
  | s :: r, j + 1, x, y, y', h => by
    have := cells2_set (l := r) (j := j) (x := x) (y := y) (y' := y') (by simpa using h)
    rw [show (j + 1) * 2 + 1 = j * 2 + 1 + 1 + 1 by omega]
    simp [cells2, this]
/-- What a call leaves that tells spans, in memory of its own. -/
def RetSpn (T : TypeId) (w : World) (l : SpL) (e : Ending) (w' : World) : Prop := ∃ A n c, e = .returned (.slice A n c) ∧ w'.ownsRow w.heap.size T 2 (.slice A n c) n (cells2 l) ∧ Below w.heap.size w w'
end Corr
namespace Go.Proofs.Ytmolbckndkhhlaa
open Go.RowKit Corr
set_option linter.unusedVariables false
set_option linter.unusedSimpArgs false
theorem elem_span : Elem Try.prog 22 37 (.agg #[.int .i64 0, .int .i64 0]) 2 16 := by
  obtain ⟨i, h0, h1, h2, h3⟩ := info_parts (show (Try.prog.info? 37).map (fun i => (i.zero, i.size, i.bytes)) = some (some (.agg #[.int .i64 0, .int .i64 0]), 2, 16) by kernel_rfl)
  exact ⟨Try.underlying22, ⟨i, h0, h1, h2, h3⟩, rfl, by decide⟩
end Go.Proofs.Ytmolbckndkhhlaa

/- What the laws of package lexer ask of it, where G holds of the world. (Written by wip/gen/genlxw.py.) -/
import Derived.Test.YtfceoehfellpgaaDoorLx5
namespace Corr
open Go Go.RowKit Go.PlainAid
theorem lexR_len {s : ByteArray} : ∀ {n a : Nat} {out : List Tk}, (lexR s n a out).1.length ≤ out.length + n
  | 0, a, out => Nat.le_refl _
  | n + 1, a, out => by
    have ih := fun a (x : Tk) => lexR_len (s := s) (n := n) (a := a) (out := out ++ [x])
    simp only [List.length_append, List.length_cons, List.length_nil] at ih
    unfold lexR
    split
    · dsimp only; omega
    · split
      · have := lexR_len (s := s) (n := n) (a := a + 1) (out := out); omega
      · unfold lexW
        repeat' split
        all_goals first | (simp only [List.length_nil]; omega) | (refine Nat.le_trans (ih _ _) ?_; omega)
theorem lexL_len (s : ByteArray) : (lexL s).1.length ≤ s.size := by
  unfold lexL
  split
  · exact Nat.zero_le _
  · have := lexR_len (s := s) (n := s.size) (a := 0) (out := []); simpa using this
end Corr
namespace Go.Proofs.YtfceoehfellpgaaDoor
open Go.RowKit Go.PlainAid Corr
set_option linter.unusedVariables false
structure LxK (G : World → Prop) : Prop where
  keep : ∀ {w w' : World}, G w → Below w.heap.size w w' → G w'
  lex : ∀ (s : ByteArray) (w : World), s.size ≤ 4000000 → G w → Calls Tryd.prog 5 #[.string s] w (RetLex 31 w (lexL s))
  name : ∀ (s : ByteArray) (w : World), s.size ≤ 4000000 → G w → Calls Tryd.prog 8 #[.string s] w fun e w' => e = .returned (.bool (nameB s)) ∧ Below w.heap.size w w'
end Go.Proofs.YtfceoehfellpgaaDoor

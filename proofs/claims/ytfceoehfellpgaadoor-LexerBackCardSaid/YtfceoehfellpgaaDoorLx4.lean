/- The contract of corrodyref14.Lex. (Written by wip/gen/genlx4.py.) -/
import Derived.Test.YtfceoehfellpgaaDoorLxMath
import Derived.Test.YtfceoehfellpgaaDoorRowRel
import Derived.Laws.IdiomStrings
import Derived.Test.YtfceoehfellpgaaDoorTxScan
import Derived.Test.YtfceoehfellpgaaDoorTxBytes
import Derived.Test.YtfceoehfellpgaaDoorRef12
import Derived.Test.YtfceoehfellpgaaDoorDecMath
import Derived.Deep.QuietTactic
import Derived.Deep.DeepCutAuto
import Derived.Deep.CutBlock
import Derived.Test.YtfceoehfellpgaaDoorSep
import Derived.Deep.CutRange
import Derived.Deep.AppendLies
namespace Corr
open Go Go.RowKit Go.PlainAid
/-- A word: its kind, its text, its number, its number's places, its place. -/
abbrev Tk := Int × ByteArray × Int × Int × Int
def cellsT : List Tk → List Value
  | [] => []
  | x :: r => .int .u8 x.1 :: .string x.2.1 :: .int .i64 x.2.2.1 :: .int .i64 x.2.2.2.1 :: .int .i64 x.2.2.2.2 :: cellsT r
theorem cellsT_append : ∀ a b : List Tk, cellsT (a ++ b) = cellsT a ++ cellsT b
  | [], b => rfl
  | x :: r, b => by rw [List.cons_append, cellsT, cellsT_append r b]; rfl
theorem cellsT_len : ∀ l : List Tk, (cellsT l).length = l.length * 5
  | [] => rfl
  | x :: r => by
    have := cellsT_len r
    simp only [cellsT, List.length_cons, this]; omega
theorem cellsT_one : ∀ (x : Tk), ∀ u ∈ cellsT [x], u.oneCell' = true := by
  intro x u hu
  simp [cellsT] at hu
  rcases hu with rfl | rfl | rfl | rfl | rfl <;> rfl
abbrev tk (k : Int) (W : ByteArray) (C S : Int) (a : Nat) : Tk := (k, W, C, S, (a : Int))
/-- What is told of the word W from a to i, and K of what follows. -/
def lexW (x : Int) (a i : Nat) (W : ByteArray) (out : List Tk) (K : List Tk → List Tk × Int × Int) : List Tk × Int × Int :=
  if i = a ∨ (smallB x = true ∧ 12 < i - a) then ([], (a : Int), 4)
  else if smallB x = true then K (out ++ [tk 1 W 0 0 a])
  else if digB x = true then
    if pE W.data.toList = 11 then ([], (a : Int), 11)
    else if pE W.data.toList ≠ 0 then ([], (a : Int), 4)
    else K (out ++ [tk 2 W (pC W.data.toList) (pS W.data.toList : Int) a])
  else K (out ++ [tk 3 W 0 0 a])
theorem lexW_sign {x : Int} {a i : Nat} {W : ByteArray} {out : List Tk} {K : List Tk → List Tk × Int × Int} (h2 : ¬ i = a) (q : smallB x = false) (q0 : digB x = false) : lexW x a i W out K = K (out ++ [tk 3 W 0 0 a]) :=
  (if_neg (by rintro (e | e); exact h2 e; have := e.1; rw [q] at this; cases this)).trans ((if_neg (by rw [q]; decide)).trans (if_neg (by rw [q0]; decide)))
theorem lexW_num {x : Int} {a i : Nat} {W : ByteArray} {out : List Tk} {K : List Tk → List Tk × Int × Int} (h2 : ¬ i = a) (q : smallB x = false) (q0 : digB x = true) : lexW x a i W out K = if pE W.data.toList = 11 then ([], (a : Int), 11) else if pE W.data.toList ≠ 0 then ([], (a : Int), 4) else K (out ++ [tk 2 W (pC W.data.toList) (pS W.data.toList : Int) a]) :=
  (if_neg (by rintro (e | e); exact h2 e; have := e.1; rw [q] at this; cases this)).trans ((if_neg (by rw [q]; decide)).trans (if_pos q0))
/-- What Lex tells: the words, the place, the error. -/
def lexR (s : ByteArray) : Nat → Nat → List Tk → List Tk × Int × Int
  | 0, _, out => (out, 0, 0)
  | n + 1, a, out =>
    if s.size ≤ a then (out, 0, 0)
    else if bt s a = 32 then lexR s n (a + 1) out
    else lexW (bt s a) a (endN s a) (s.extract a (endN s a)) out (lexR s n (endN s a))
theorem lexR_end {s : ByteArray} {n a : Nat} {out : List Tk} (h : s.size ≤ a) : lexR s n a out = (out, 0, 0) := by
  cases n with
  | zero => rfl
  | succ n => exact if_pos h
theorem lexR_blank {s : ByteArray} {n a : Nat} {out : List Tk} (h : a < s.size) (hb : bt s a = 32) : lexR s (n + 1) a out = lexR s n (a + 1) out := (if_neg (by omega)).trans (if_pos hb)
theorem lexR_word {s : ByteArray} {n a : Nat} {out : List Tk} (h : a < s.size) (hb : ¬ bt s a = 32) : lexR s (n + 1) a out = lexW (bt s a) a (endN s a) (s.extract a (endN s a)) out (lexR s n (endN s a)) := (if_neg (by omega)).trans (if_neg hb)
def lexL (s : ByteArray) : List Tk × Int × Int := if 400 < s.size then ([], 0, 3) else lexR s s.size 0 []
theorem endN_le {s : ByteArray} {a : Nat} (h : a < s.size) : a ≤ endN s a ∧ endN s a ≤ s.size := by
  have r := fun p => runTo_to (p := p) (s := s) (i := a) (Nat.le_of_lt h)
  unfold endN
  split
  · exact ⟨(r _).1, (r _).2.1⟩
  · split
    · dsimp only
      split
      · rename_i h2
        have r2 := runTo_to (p := digB) (s := s) (i := runTo digB s a + 1) (by omega)
        have := (r digB).1
        exact ⟨by have := r2.1; omega, r2.2.1⟩
      · exact ⟨(r _).1, (r _).2.1⟩
    · split
      · rename_i h2; exact ⟨by omega, by omega⟩
      · split <;> exact ⟨by omega, by omega⟩
def RetLex (T : TypeId) (w : World) (R : List Tk × Int × Int) (e : Ending) (w' : World) : Prop :=
  ∃ A n c, e = .returned (.tuple #[.slice A n c, .int .i64 R.2.1, .int .i64 R.2.2]) ∧ w'.ownsRow w.heap.size T 5 (.slice A n c) n (cellsT R.1) ∧ Below w.heap.size w w'
end Corr
namespace Go.Proofs.YtfceoehfellpgaaDoor
open Go.RowKit Go.PlainAid Corr
set_option linter.unusedVariables false
set_option linter.unusedSimpArgs false
theorem elem_tok : Elem Tryd.prog 23 31 (.agg #[.int .u8 0, .string ⟨#[]⟩, .int .i64 0, .int .i64 0, .int .i64 0]) 5 48 := by
  obtain ⟨i, h0, h1, h2, h3⟩ := info_parts (show (Tryd.prog.info? 31).map (fun i => (i.zero, i.size, i.bytes)) = some (some (.agg #[.int .u8 0, .string ⟨#[]⟩, .int .i64 0, .int .i64 0, .int .i64 0]), 5, 48) by kernel_rfl)
  exact ⟨Tryd.underlying23, ⟨i, h0, h1, h2, h3⟩, rfl, by decide⟩
end Go.Proofs.YtfceoehfellpgaaDoor

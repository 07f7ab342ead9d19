/- Puts (a span and a number), rows of numbers, spans, as arguments. -/
import Derived.Test.YtonfjjmgjgmanaaGreatFrameRows
namespace Go.Proofs.YtonfjjmgjgmanaaGreat
open Go.ChangeShapes Go.WideShapes Go.ChangeAt Go.RowKit Go.Joins Go.Deep Corr
set_option linter.unusedVariables false
set_option maxRecDepth 100000
/-- A slice that is met on the way: its cells, an element at a time; its length. -/
theorem rows0 {α : Type} {H : Type} {enc : TypeId × Value → H} {P : Program} {W : World} {base : Nat} {sp : Nat → Bool} {held : Bool} {t e : TypeId} {fuel : Nat} {cs : List Value} {x : DataW H × List MemPlace} {f : α → List Value} {size : Nat} (hs : ∀ s, (f s).length = size) (h0 : 0 < size)
    (ht : P.underlying t = some (.slice e)) (he : P.cellsOf e = size) (hr : ∀ n cs x, DataW.trod enc P W base sp held n e cs = some x → ∃ s : α, cs = f s)
    (hf : DataW.trod enc P W base sp held fuel t cs = some x) : ∃ (A : Option Addr) (n c : Nat) (l : List α), cs = [.slice A n c] ∧ Lies W size A n c (l.flatMap f) ∧ n ≤ maxLen := by
  rcases open_slice ht hf with ⟨hcs, _⟩ | ⟨a, len, cap, m, n, D, Pl, hcs, _, hl, hcm, hm, _, hx⟩
  · exact ⟨none, 0, 0, [], hcs, by simpa using Lies.nil_ W size, Nat.zero_le _⟩
  · have hlm : len ≤ m := by rw [hm]; split <;> omega
    obtain ⟨l, hll, hlp⟩ := list_of (n := len) (p := fun i (s : α) => ∀ k, k < size → W.cell? ((a.add (i * size)).add k) = (f s)[k]?) fun i hi => by
      obtain ⟨cs, h1, h2⟩ := hx i (by omega)
      rw [he] at h1
      obtain ⟨_, _, h3⟩ := World.cells?_some h1
      obtain ⟨s, rfl⟩ := hr _ _ _ h2
      exact ⟨s, h3⟩
    refine ⟨some a, len, cap, l, hcs, ⟨by rw [flat_len hs, hll], hl, fun hn => ?_⟩, Nat.le_trans hl hcm⟩
    have q0 := hlp 0 (l[0]'(by omega)) (List.getElem?_eq_getElem (by omega)) 0 h0
    rw [List.getElem?_eq_getElem (show 0 < (f l[0]).length by rw [hs]; exact h0)] at q0
    obtain ⟨g, off, spot⟩ := a
    have q1 := spot_none q0
    have hsp : spot = none := by have := q1.1; simpa [Addr.add] using this
    subst hsp
    refine ⟨g, off, rfl, by simpa [Addr.add] using q1.2, fun i v hi => ?_⟩
    obtain ⟨j, s, k, h1, h2, h3, h4⟩ := flat_get hs hi
    have q := hlp j s h1 k h3
    rw [Addr.add_lit, Addr.add_lit] at q
    rw [h2, ← Nat.add_assoc, q, h4]
/-- A slice that is handed in, and its length. -/
theorem rows1 {α : Type} {H : Type} {enc : TypeId × Value → H} {P : Program} {W : World} {base b0 : Nat} {sp : Nat → Bool} {held : Bool} {r : Reach} {t e : TypeId} {v : Value} {d : DataW H} {p : List MemPlace} {f : α → List Value} {size : Nat} (hs : ∀ s, (f s).length = size) (h0 : 0 < size)
    (ht : P.underlying t = some (.slice e)) (he : P.cellsOf e = size) (hr : ∀ n cs x, DataW.trod enc P W base sp held n e cs = some x → ∃ s : α, cs = f s)
    (hv : Value.okWide P W r b0 t v) (h : DataW.Trod enc P W base sp held t v d p) : ∃ (A : Option Addr) (n c : Nat) (l : List α), v = .slice A n c ∧ Lies W size A n c (l.flatMap f) ∧ n ≤ maxLen := by
  obtain ⟨a0, len, cap, rfl⟩ := okWide_slice ht hv
  obtain ⟨fuel, hf⟩ := h
  obtain ⟨A, n, c, l, h1, h2, h3⟩ := rows0 hs h0 ht he hr hf
  have h1 : [Value.slice a0 len cap] = [Value.slice A n c] := h1
  exact ⟨A, n, c, l, by simpa using h1, h2, h3⟩
section
variable {H : Type} {enc : TypeId × Value → H} {W : World} {base b0 : Nat} {sp : Nat → Bool} {held : Bool} {r : Reach} {v : Value} {d : DataW H} {p : List MemPlace}
theorem read_spanC {n : Nat} {cs : List Value} {x : DataW H × List MemPlace} (h : DataW.trod enc Tryz.prog W base sp held n 24 cs = some x) : ∃ a b : Int, cs = [.int .i64 a, .int .i64 b] := by
  obtain ⟨y0, y1, k, rfl, hl, h0, h1⟩ := trod_struct2 Tryz.underlying24 h
  rw [Tryz.cellsSpan] at hl
  obtain ⟨a, e0, _⟩ := DataW.trod_int Tryz.underlying3 h0
  obtain ⟨b, e1, _⟩ := DataW.trod_int Tryz.underlying3 h1
  match cs, hl with
  | [v0, v1], _ =>
    have f0 : [v0] = [Value.int .i64 a] := e0
    have f1 : [v1] = [Value.int .i64 b] := e1
    simp at f0 f1
    subst f0 f1
    exact ⟨a, b, rfl⟩
theorem open_spanC (hv : Value.okWide Tryz.prog W r b0 24 v) (h : DataW.Trod enc Tryz.prog W base sp held 24 v d p) : ∃ a b : Int, v = .agg #[.int .i64 a, .int .i64 b] := by
  obtain ⟨cs, rfl, _⟩ := okWide_struct Tryz.underlying24 hv
  obtain ⟨fuel, hf⟩ := h
  obtain ⟨a, b, hs⟩ := read_spanC (show DataW.trod enc Tryz.prog W base sp held fuel 24 cs.toList = some (d, p) from hf)
  refine ⟨a, b, ?_⟩
  rw [show cs = cs.toList.toArray from rfl, hs]
theorem ints_flat : ∀ l : List Int, l.flatMap (fun s : Int => [Value.int .i64 s]) = ints l
  | [] => rfl
  | s :: r => by rw [List.flatMap_cons, ints_flat r]; rfl
theorem open_nums (hv : Value.okWide Tryz.prog W r b0 54 v) (h : DataW.Trod enc Tryz.prog W base sp held 54 v d p) : ∃ (A : Option Addr) (n c : Nat) (l : List Int), v = .slice A n c ∧ Nums W A n c l := by
  obtain ⟨A, n, c, l, hv, hl, _⟩ := rows1 (f := fun s : Int => [Value.int .i64 s]) (size := 1) (fun _ => rfl) (by decide) Tryz.underlying54 (by kernel_rfl) (fun n cs x hx => by obtain ⟨a, e0, _⟩ := DataW.trod_int Tryz.underlying3 hx; exact ⟨a, e0⟩) hv h
  rw [ints_flat] at hl
  exact ⟨A, n, c, l, hv, hl⟩
theorem read_op12 {n : Nat} {cs : List Value} {x : DataW H × List MemPlace} (h : DataW.trod enc Tryz.prog W base sp held n 50 cs = some x) : ∃ s : It, cs = [.int .i64 s.1, .int .i64 s.2.1, .int .i64 s.2.2] := by
  obtain ⟨y0, y1, k, rfl, hl, h0, h1⟩ := trod_struct2 Tryz.underlying50 h
  rw [show Tryz.prog.cellsOf 50 = 3 by kernel_rfl] at hl
  obtain ⟨a, b, e0⟩ := read_spanC h0
  obtain ⟨c, e1, _⟩ := DataW.trod_int Tryz.underlying3 h1
  match cs, hl with
  | [v0, v1, v2], _ =>
    have f0 : [v0, v1] = [Value.int .i64 a, .int .i64 b] := e0
    have f1 : [v2] = [Value.int .i64 c] := e1
    simp at f0 f1
    obtain ⟨rfl, rfl⟩ := f0
    subst f1
    exact ⟨(a, b, c), rfl⟩
theorem open_ops12 (hv : Value.okWide Tryz.prog W r b0 22 v) (h : DataW.Trod enc Tryz.prog W base sp held 22 v d p) : ∃ (A : Option Addr) (n c : Nat) (l : ItL), v = .slice A n c ∧ Itm W A n c l := by
  obtain ⟨A, n, c, l, hv, hl, _⟩ := rows1 (f := fun s : It => [Value.int .i64 s.1, .int .i64 s.2.1, .int .i64 s.2.2]) (size := 3) (fun _ => rfl) (by decide) Tryz.underlying22 (by kernel_rfl) (fun n cs x hx => read_op12 hx) hv h
  rw [cells3_flat] at hl
  exact ⟨A, n, c, l, hv, hl⟩
end
end Go.Proofs.YtonfjjmgjgmanaaGreat

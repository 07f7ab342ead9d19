/- A slice of spans as an argument, read and left. -/
import Derived.Test.YtmolbckndkhhlaaFrameBase
import Derived.Test.YtmolbckndkhhlaaRow
import Derived.Deep.SlicePairs
import Derived.Carry
namespace Go.Proofs.Ytmolbckndkhhlaa
open Go.ChangeShapes Go.WideShapes Go.ChangeAt Go.RowKit Go.Joins Go.Deep Corr
set_option linter.unusedVariables false
set_option maxRecDepth 100000
theorem Try.cellsSpan : Try.prog.cellsOf 37 = 2 := by kernel_rfl
theorem Try.laidOut1 : laidOutB Try.prog = true := by kernel_rfl
theorem list_of {α : Type} {p : Nat → α → Prop} : ∀ {n : Nat}, (∀ i, i < n → ∃ x, p i x) → ∃ l : List α, l.length = n ∧ ∀ (i : Nat) (x : α), l[i]? = some x → p i x
  | 0, _ => ⟨[], rfl, fun i x h => by simp at h⟩
  | n + 1, h => by
    obtain ⟨l, hl, hp⟩ := list_of (n := n) fun i hi => h i (by omega)
    obtain ⟨x, hx⟩ := h n (by omega)
    refine ⟨l ++ [x], by simp [hl], fun i y hy => ?_⟩
    by_cases hi : i < n
    · rw [List.getElem?_append_left (by omega)] at hy; exact hp i y hy
    · have : i = n := by have := (List.getElem?_eq_some_iff.1 hy).1; simp [hl] at this; omega
      subst this
      rw [List.getElem?_append_right (by omega), hl] at hy
      simp at hy
      subst hy; exact hx
theorem spot_none {w : World} {a : Addr} {v : Value} (h : w.cell? a = some v) : a.spot = none ∧ a.block < w.heap.size := by
  unfold World.cell? at h
  split at h
  · rename_i c _ _ hb
    split at h
    · cases h
    · rename_i hs
      exact ⟨by simpa using hs, (Array.getElem?_eq_some_iff.1 hb).1⟩
  · cases h
theorem cells2_get {l : SpL} {i : Nat} {v : Value} (h : (cells2 l)[i]? = some v) : ∃ (j : Nat) (s : Int × Int), l[j]? = some s ∧ (i = j * 2 ∧ v = .int .i64 s.1 ∨ i = j * 2 + 1 ∧ v = .int .i64 s.2) := by
  have hi : i < l.length * 2 := by rw [← cells2_len]; exact (List.getElem?_eq_some_iff.1 h).1
  have hs : l[i / 2]? = some (l[i / 2]'(by omega)) := List.getElem?_eq_getElem (by omega)
  refine ⟨i / 2, _, hs, ?_⟩
  rcases Nat.mod_two_eq_zero_or_one i with e | e
  · left
    have := cells2_0 hs
    rw [show i / 2 * 2 = i by omega, h] at this
    exact ⟨by omega, Option.some.inj this⟩
  · right
    have := cells2_1 hs
    rw [show i / 2 * 2 + 1 = i by omega, h] at this
    exact ⟨by omega, Option.some.inj this⟩
/-- A slice of spans that is handed in: its cells. -/
theorem open_spans {H : Type} {enc : TypeId × Value → H} {W : World} {base b0 : Nat} {sp : Nat → Bool} {held : Bool} {r : Reach} {v : Value} {d : DataW H} {p : List MemPlace}
    (hv : Value.okWide Try.prog W r b0 22 v) (h : DataW.Trod enc Try.prog W base sp held 22 v d p) : ∃ (A : Option Addr) (n c : Nat) (l : SpL), v = .slice A n c ∧ Spn W A n c l := by
  obtain ⟨a0, len, cap, rfl⟩ := okWide_slice Try.underlying22 hv
  obtain ⟨fuel, hf⟩ := h
  refine ⟨a0, len, cap, ?_⟩
  rcases open_slice_pairs Try.underlying22 Try.underlying37 Try.cellsSpan rfl rfl (by kernel_rfl) (by kernel_rfl) hf with ⟨hcs, _⟩ | ⟨a, len', cap', m, n, V0, V1, D0, D1, P0, P1, hcs, _, hl, _, hm, _, hx⟩
  · injection hcs with hcs _
    injection hcs with e1 e2 e3
    subst e1 e2 e3
    exact ⟨[], rfl, Lies.nil_ W 2⟩
  · injection hcs with hcs _
    injection hcs with e1 e2 e3
    subst e1 e2 e3
    have hlm : len ≤ m := by rw [hm]; split <;> omega
    obtain ⟨l, hll, hlp⟩ := list_of (n := len) (p := fun i (s : Int × Int) => W.cell? (a.add (i * 2)) = some (.int .i64 s.1) ∧ W.cell? (a.add (i * 2 + 1)) = some (.int .i64 s.2)) fun i hi => by
      obtain ⟨k0, k1, t0, t1⟩ := hx i (by omega)
      obtain ⟨x, e0, _, _⟩ := DataW.trod_int Try.underlying3 t0
      obtain ⟨y, e1, _, _⟩ := DataW.trod_int Try.underlying3 t1
      simp at e0 e1
      rw [e0] at k0
      rw [e1] at k1
      exact ⟨(x, y), k0, k1⟩
    refine ⟨l, rfl, by rw [cells2_len, hll], hl, fun h0 => ?_⟩
    have q0 := hlp 0 (l[0]'(by omega)) (List.getElem?_eq_getElem (by omega))
    obtain ⟨g, off, spot⟩ := a
    have q1 := spot_none q0.1
    have hsp : spot = none := by have := q1.1; simpa [Addr.add] using this
    subst hsp
    refine ⟨g, off, rfl, by simpa [Addr.add] using q1.2, fun i v hi => ?_⟩
    obtain ⟨j, s, hs, hv⟩ := cells2_get hi
    have q := hlp j s hs
    rw [Addr.add_lit, Addr.add_lit] at q
    rcases hv with ⟨rfl, rfl⟩ | ⟨rfl, rfl⟩
    · exact q.1
    · exact q.2
end Go.Proofs.Ytmolbckndkhhlaa

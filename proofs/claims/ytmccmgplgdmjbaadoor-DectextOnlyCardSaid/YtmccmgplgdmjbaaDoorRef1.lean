/- How a row of numbers lies as a slice; the contract of corrodyref01.Word. -/
import Derived.Test.YtmccmgplgdmjbaaDoorWideMath
import Derived.Lib.Hide
import Derived.Lib.SmallJoins
import Derived.Test.YtmccmgplgdmjbaaDoorThou
import Derived.OwnWalk
namespace Corr
set_option maxRecDepth 8000
open Go Go.RowKit

theorem heapNew (w : World) (o : Obj) : (w.alloc o).heap[w.heap.size]? = some o := by
  show (w.heap.push o)[w.heap.size]? = some o
  simp
/-- A slice that reads as the row xs: n places, room for c. -/
structure Row (w : World) (A : Option Addr) (n c : Nat) (xs : List Nat) : Prop where
  len : xs.length = n
  cap : n ≤ c
  at_ : 0 < n → ∃ g off, A = some ⟨g, off, none⟩ ∧ g < w.heap.size ∧ ∀ (i x : Nat), xs[i]? = some x → w.cell? ⟨g, off + i, none⟩ = some (.int .i64 (x : Int))
theorem Row.keep {w w' : World} {A : Option Addr} {n c : Nat} {xs : List Nat} (h : Row w A n c xs) (hb : Below w.heap.size w w') : Row w' A n c xs :=
  ⟨h.len, h.cap, fun hn => by
    obtain ⟨g, off, hA, hg, hc⟩ := h.at_ hn
    exact ⟨g, off, hA, Nat.lt_of_lt_of_le hg hb.size, fun i x hx => (hb.cell (p := ⟨g, off + i, none⟩) hg).trans (hc i x hx)⟩⟩
theorem Row.nil_ (w : World) : Row w none 0 0 [] := ⟨rfl, Nat.le_refl _, fun h => absurd h (by omega)⟩
def encN (x : Nat) : Value := .int .i64 (x : Int)
/-- A row of the call's own is such a slice. -/
theorem Row.of_own {w : World} {base : Nat} {e : TypeId} {v : Value} {xs : List Nat} (h : w.ownsRow base e 1 v xs.length (xs.map encN)) : ∃ A c, v = .slice A xs.length c ∧ Row w A xs.length c xs := by
  rcases Joins.ownsRow_forms h with ⟨rfl, hn⟩ | ⟨g, cap, rfl⟩
  · have : xs = [] := List.length_eq_zero_iff.1 hn
    subst this
    exact ⟨none, 0, rfl, Row.nil_ w⟩
  · refine ⟨some ⟨g, 0, none⟩, cap, rfl, rfl, ?_, fun hn => ⟨g, 0, rfl, ?_, fun i x hx => ?_⟩⟩
    · obtain ⟨_, h' | ⟨g', cap', cur, hv, _, _, hc, _⟩⟩ := h
      · cases h'.1
      · injection hv with _ _ e2; rw [e2]; exact hc
    · obtain ⟨_, h' | ⟨g', cap', cur, hv, _, hh, _⟩⟩ := h
      · cases h'.1
      · injection hv with e1 _ _
        injection e1 with e1
        injection e1 with e1 _ _
        subst e1
        exact (Array.getElem?_eq_some_iff.1 hh).1
    · have hi : i < xs.length := (List.getElem?_eq_some_iff.1 hx).1
      rw [Nat.zero_add, h.cellAt i (by omega), List.getElem?_map, hx]
      rfl

theorem own_block {w : World} {base : Nat} {e : TypeId} {size n : Nat} {v : Value} {xs : List Value} (h : w.ownsRow base e size v n xs) : ∀ k, v.ownBlock = some k → base ≤ k := by
  intro k hk
  obtain ⟨_, h' | ⟨g, cap, cur, rfl, hg, _⟩⟩ := h
  · rw [h'.1] at hk; cases hk
  · have : g = k := by simpa [Value.ownBlock] using hk
    omega
theorem new_one (w : World) (x : Value) (T : TypeId) : ∀ (j : Nat) (u : Value), [x][j]? = some u → (w.alloc (.cells #[x] T)).cell? ((⟨w.heap.size, 0, none⟩ : Addr).add j) = some u := by
  intro j u hj
  cases j with
  | zero =>
    have hu : x = u := by simpa using hj
    subst hu
    rw [show (⟨w.heap.size, 0, none⟩ : Addr).add 0 = ⟨w.heap.size, 0, none⟩ from rfl, Joins.cell_of_block (heapNew w _)]
    rfl
  | succ j => simp at hj
theorem own_snoc {w : World} {base : Nat} {e : TypeId} {v : Value} {acc : List Nat} {x : Nat} (h : w.ownsRow base e 1 v (acc.length + 1) (acc.map encN ++ [encN x])) : w.ownsRow base e 1 v (acc ++ [x]).length ((acc ++ [x]).map encN) := by
  simpa using h

/-- What a call leaves that tells a number as a row. -/
def RetN (w : World) (neg : Bool) (xs : List Nat) (e : Ending) (w' : World) : Prop :=
  ∃ A k c, e = .returned (.agg #[.bool neg, .slice A k c]) ∧ Row w' A k c xs ∧ Below w.heap.size w w'
end Corr
namespace Go.Proofs.YtmccmgplgdmjbaaDoor
set_option maxRecDepth 8000
open Go.RowKit Corr
set_option linter.unusedVariables false
theorem info_int : (Tryd.prog.info? 3).map (fun i => (i.zero, i.size, i.bytes)) = some (some (.int .i64 0), 1, 8) := by kernel_rfl

set_option maxHeartbeats 1000000 in
theorem word_any (n : Nat) (w : World) (hn : n < B64) : Calls Tryd.prog 15 #[.int .u64 n] w (RetN w false (digs n)) := by
  obtain ⟨i0, hi, hz0, hz1, hz2⟩ := info_parts info_int
  have hlen := digs_len 7 n (by unfold B64 at hn; omega)
  have b0 : (n : Int) ≤ 18446744073709551615 := by unfold B64 at hn; omega
  generalize hN : (n : Int) = N
  have HN := Lib.hid hN
  rw [hN] at b0
  have n0 : 0 ≤ N := by omega
  clear hN hn
  go_enter Tryd.func15, Tryd.ntmps15
  go_wp2_with fail
  go_loopw [0, 3] (fun t v wr => ∃ (M : Int) (acc : List Nat), t = .int .u64 M ∧ 0 ≤ M ∧ M ≤ 18446744073709551615 ∧ wr.ownsRow (w.heap.size + 1) 3 1 v acc.length (acc.map encN) ∧ acc ++ digs M.toNat = digs n ∧ Below (w.heap.size + 1) (w.alloc (.cells #[.bool false, .slice none 0 0] 41)) wr) (fun t _ _ => (intOf t).toNat)
  case atStart => exact ⟨N, [], rfl, n0, b0, ⟨rfl, .inl ⟨rfl, rfl⟩⟩, by rw [← HN.out]; rfl, Below.refl _ _⟩
  case round =>
    obtain ⟨M, acc, rfl, m0, m1, hown, hacc, hbel⟩ := hrel
    have HACC := Lib.hid hacc
    have HBEL := Lib.hid hbel
    have hbel0 := hbel.size
    simp at hbel0
    clear hacc hbel
    have hal : acc.length ≤ 7 := by have := congrArg List.length HACC.out; simp at this; omega
    have hsz := hbel0
    by_cases hM : 0 < M
    · have HNX := Lib.hid (show (acc ++ [M.toNat % 1000]) ++ digs (M / 1000).toNat = digs n by
        rw [← HACC.out, digs_pos (show 0 < M.toNat by omega), show (M / 1000).toNat = M.toNat / 1000 by omega]; simp)
      have r0 : 0 ≤ M % 1000 := by omega
      have r1 : M % 1000 < 1000 := by omega
      go_wp2_with (at_builtin; refine wpList_append_own _ rfl _ _ 39 rfl (w.heap.size + 1) 3 i0 (.int .i64 0) 1 8 Tryd.underlying39 hi hz0 hz1 hz2 rfl (by decide) _ _ _ rfl (hown.alloc _) ⟨wr.heap.size, 0, none⟩ 1 1 [.int .i64 (M % 1000)] rfl rfl ?c1 ?c2 ?c3 ?c4 ?c5 ?_)
      case c1 => exact new_one _ _ _
      case c2 => simp [Value.oneCell']
      case c3 => unfold maxLen; omega
      case c4 => omega
      case c5 => simp; omega
      intro v' w1 hown1 hgrow _
      have HB1 := Lib.hid ((HBEL.out.alloc hbel0 _).grown hgrow (by simp; omega) (own_block hown))
      have HO1 := Lib.hid (own_snoc (x := M.toNat % 1000) (by rw [show encN (M.toNat % 1000) = .int .i64 (M % 1000) by unfold encN; congr 1; omega]; exact hown1))
      clear hown1 hgrow hown HBEL
      go_wp2_with fail
      go_roundw
      case rel => exact ⟨M / 1000, acc ++ [M.toNat % 1000], rfl, by omega, by omega, HO1.out, HNX.out, HB1.out⟩
      case measure => simp [intOf]; omega
    · have hM0 : M = 0 := by omega
      have HF := Lib.hid (show acc = digs n by rw [← HACC.out, hM0]; rw [show (0 : Int).toNat = 0 from rfl, digs_zero]; simp)
      obtain ⟨A, c, rfl, _⟩ := Row.of_own hown
      have HO2 := Lib.hid (ownsRow_setCell_below (ownsRow_setCell_below hown (a := ⟨w.heap.size, 0, none⟩) (by simp) (.bool false)) (a := ⟨w.heap.size, 1, none⟩) (by simp) (.slice A acc.length c))
      have HB := HBEL.out
      have q0 : wr.cell? ⟨w.heap.size, 0, none⟩ = some (.bool false) := by rw [HB.cell (by simp)]; rw [Joins.cell_of_block (heapNew w _)]; rfl
      have q1 : wr.cell? ⟨w.heap.size, 1, none⟩ = some (.slice none 0 0) := by rw [HB.cell (by simp)]; rw [Joins.cell_of_block (heapNew w _)]; rfl
      have q2 : wr.frozen? ⟨w.heap.size, 0, none⟩ = false := by rw [HB.frozen (by simp)]; exact Joins.unfrozen_of_block (heapNew w _) _
      have q3 : wr.frozen? ⟨w.heap.size, 1, none⟩ = false := by rw [HB.frozen (by simp)]; exact Joins.unfrozen_of_block (heapNew w _) _
      have HBH := Lib.hid HB
      clear hM0 HB hown
      go_wp2_with fail
      obtain ⟨A', c', hv, R⟩ := Row.of_own HO2.out
      injection hv with e1 _ e2
      subst e1 e2
      refine bodyPost_ret (v := .agg #[.bool false, .slice A acc.length c]) (by simp [results, Tryd.results15, go_sem, q0, q1]) rfl ⟨A, _, c, rfl, ?_, ?_⟩
      · rw [← HF.out]; exact R
      · exact (((((Below.refl _ _).alloc (Nat.le_refl _) _).trans (HBH.out.mono (by omega))).setCell (by simp) _).setCell (by simp) _)
end Go.Proofs.YtmccmgplgdmjbaaDoor

/- Rows of decimal thousands, the lowest ones first: plain arithmetic, no program in this text. How a row of numbers lies as a slice; the contract of corrodyref01.Word. Contracts of corrodyref01: plus, minus. Contracts of corrodyref01: minus, short. Contracts of corrodyref01: against. Contracts of corrodyref01: Neg, Add. -/
import Derived.Test.YtgojfonnikgboaaDoorBase
import Derived.Lib.Hide
import Derived.Lib.SmallJoins
import Derived.OwnWalk
import Derived.Deep.QuietTactic
import Derived.BigQuiet
import Derived.Deep.RegionHeld3
import Derived.Deep.DeepCutAuto
import Derived.Deep.CutBlock
import Derived.Deep.LoopGhost
namespace Corr

/-- The thousands of a number, without noughts at the end. -/
def digs (n : Nat) : List Nat := if h : n = 0 then [] else n % 1000 :: digs (n / 1000)
termination_by n
decreasing_by omega
/-- The worth of a row. -/
def dv : List Nat → Nat
  | [] => 0
  | x :: r => x + 1000 * dv r

theorem digs_zero : digs 0 = [] := by rw [digs]; simp
theorem digs_pos {n : Nat} (h : 0 < n) : digs n = n % 1000 :: digs (n / 1000) := by rw [digs]; simp; omega
theorem dv_digs (n : Nat) : dv (digs n) = n := by
  induction n using Nat.strongRecOn with
  | _ n ih =>
    by_cases h : n = 0
    · subst h; rw [digs_zero]; rfl
    · rw [digs_pos (by omega)]
      show n % 1000 + 1000 * dv (digs (n / 1000)) = n
      rw [ih _ (by omega)]; omega
theorem digs_lt (n : Nat) : ∀ x ∈ digs n, x < 1000 := by
  induction n using Nat.strongRecOn with
  | _ n ih =>
    by_cases h : n = 0
    · subst h; rw [digs_zero]; intro x hx; cases hx
    · rw [digs_pos (by omega)]
      intro x hx
      rcases List.mem_cons.1 hx with rfl | hx
      · omega
      · exact ih _ (by omega) x hx
theorem digs_len : ∀ (k n : Nat), n < 1000 ^ k → (digs n).length ≤ k
  | 0, n, h => by
    have : n = 0 := by simpa using h
    subst this; rw [digs_zero]; simp
  | k + 1, n, h => by
    by_cases h0 : n = 0
    · subst h0; rw [digs_zero]; simp
    · rw [digs_pos (by omega), List.length_cons]
      have := digs_len k (n / 1000) ((Nat.div_lt_iff_lt_mul (by omega)).2 (by rw [Nat.pow_succ] at h; exact h))
      omega
theorem dv_append (a b : List Nat) : dv (a ++ b) = dv a + 1000 ^ a.length * dv b := by
  induction a with
  | nil => simp [dv]
  | cons x r ih =>
    simp only [List.cons_append, dv, ih, List.length_cons, Nat.pow_succ]
    rw [Nat.mul_add, ← Nat.mul_assoc, Nat.mul_comm 1000 (1000 ^ r.length), Nat.mul_assoc]
    omega
theorem dv_drop {xs : List Nat} {i x : Nat} (h : xs[i]? = some x) : dv (xs.drop i) = x + 1000 * dv (xs.drop (i + 1)) := by
  have hl : i < xs.length := (List.getElem?_eq_some_iff.1 h).1
  rw [List.drop_eq_getElem_cons hl, (List.getElem?_eq_some_iff.1 h).2]
  rfl
theorem dv_drop_le (xs : List Nat) : ∀ i, dv (xs.drop i) ≤ dv xs
  | 0 => by simp
  | i + 1 => by
    have ih := dv_drop_le xs i
    rcases Nat.lt_or_ge i xs.length with h | h
    · have := dv_drop (List.getElem?_eq_getElem h); omega
    · rw [List.drop_of_length_le (by omega)]; simp [dv]
end Corr
namespace Corr
open Go Go.RowKit

theorem heapNew (w : World) (o : Obj) : (w.alloc o).heap[w.heap.size]? = some o := by
  show (w.heap.push o)[w.heap.size]? = some o
  simp
/-- A slice that reads as the row xs: n places, room for c. -/
structure Row (w : World) (A : Option Addr) (n c : Nat) (xs : List Nat) : Prop where
  len : xs.length = n
  cap : n ≤ c
  at_ : 0 < n → ∃ g off, A = some ⟨g, off, none⟩ ∧ g < w.heap.size ∧ ∀ (i x : Nat), xs[i]? = some x → w.cell? ⟨g, off + i, none⟩ = some (.int .i64 (x : Int))
theorem Row.keep {w w' : World} {A : Option Addr} {n c : Nat} {xs : List Nat} (h : Row w A n c xs) (hb : Below w.heap.size w w') : Row w' A n c xs :=
  ⟨h.len, h.cap, fun hn => by
    obtain ⟨g, off, hA, hg, hc⟩ := h.at_ hn
    exact ⟨g, off, hA, Nat.lt_of_lt_of_le hg hb.size, fun i x hx => (hb.cell (p := ⟨g, off + i, none⟩) hg).trans (hc i x hx)⟩⟩
theorem Row.nil_ (w : World) : Row w none 0 0 [] := ⟨rfl, Nat.le_refl _, fun h => absurd h (by omega)⟩
def encN (x : Nat) : Value := .int .i64 (x : Int)
/-- A row of the call's own is such a slice. -/
theorem Row.of_own {w : World} {base : Nat} {e : TypeId} {v : Value} {xs : List Nat} (h : w.ownsRow base e 1 v xs.length (xs.map encN)) : ∃ A c, v = .slice A xs.length c ∧ Row w A xs.length c xs := by
  rcases Joins.ownsRow_forms h with ⟨rfl, hn⟩ | ⟨g, cap, rfl⟩
  · have : xs = [] := List.length_eq_zero_iff.1 hn
    subst this
    exact ⟨none, 0, rfl, Row.nil_ w⟩
  · refine ⟨some ⟨g, 0, none⟩, cap, rfl, rfl, ?_, fun hn => ⟨g, 0, rfl, ?_, fun i x hx => ?_⟩⟩
    · obtain ⟨_, h' | ⟨g', cap', cur, hv, _, _, hc, _⟩⟩ := h
      · cases h'.1
      · injection hv with _ _ e2; rw [e2]; exact hc
    · obtain ⟨_, h' | ⟨g', cap', cur, hv, _, hh, _⟩⟩ := h
      · cases h'.1
      · injection hv with e1 _ _
        injection e1 with e1
        injection e1 with e1 _ _
        subst e1
        exact (Array.getElem?_eq_some_iff.1 hh).1
    · have hi : i < xs.length := (List.getElem?_eq_some_iff.1 hx).1
      rw [Nat.zero_add, h.cellAt i (by omega), List.getElem?_map, hx]
      rfl

theorem own_block {w : World} {base : Nat} {e : TypeId} {size n : Nat} {v : Value} {xs : List Value} (h : w.ownsRow base e size v n xs) : ∀ k, v.ownBlock = some k → base ≤ k := by
  intro k hk
  obtain ⟨_, h' | ⟨g, cap, cur, rfl, hg, _⟩⟩ := h
  · rw [h'.1] at hk; cases hk
  · have : g = k := by simpa [Value.ownBlock] using hk
    omega
theorem new_one (w : World) (x : Value) (T : TypeId) : ∀ (j : Nat) (u : Value), [x][j]? = some u → (w.alloc (.cells #[x] T)).cell? ((⟨w.heap.size, 0, none⟩ : Addr).add j) = some u := by
  intro j u hj
  cases j with
  | zero =>
    have hu : x = u := by simpa using hj
    subst hu
    rw [show (⟨w.heap.size, 0, none⟩ : Addr).add 0 = ⟨w.heap.size, 0, none⟩ from rfl, Joins.cell_of_block (heapNew w _)]
    rfl
  | succ j => simp at hj
theorem own_snoc {w : World} {base : Nat} {e : TypeId} {v : Value} {acc : List Nat} {x : Nat} (h : w.ownsRow base e 1 v (acc.length + 1) (acc.map encN ++ [encN x])) : w.ownsRow base e 1 v (acc ++ [x]).length ((acc ++ [x]).map encN) := by
  simpa using h

/-- What a call leaves that tells a number as a row. -/
def RetN (w : World) (neg : Bool) (xs : List Nat) (e : Ending) (w' : World) : Prop :=
  ∃ A k c, e = .returned (.agg #[.bool neg, .slice A k c]) ∧ Row w' A k c xs ∧ Below w.heap.size w w'
end Corr
namespace Go.Proofs.YtgojfonnikgboaaDoor
open Go.RowKit Corr
set_option linter.unusedVariables false
theorem info_int : (Tryd.prog.info? 3).map (fun i => (i.zero, i.size, i.bytes)) = some (some (.int .i64 0), 1, 8) := by kernel_rfl

end Go.Proofs.YtgojfonnikgboaaDoor
namespace Corr
open Go Go.RowKit
/-- What a call leaves that tells a row. -/
def RetRow (w : World) (P : List Nat → Prop) (e : Ending) (w' : World) : Prop :=
  ∃ A k c o, e = .returned (.slice A k c) ∧ Row w' A k c o ∧ P o ∧ Below w.heap.size w w'
/-- A place of a row, in a world that is as it was below. -/
theorem Row.get {w : World} {A : Option Addr} {n c : Nat} {xs : List Nat} (h : Row w A n c xs) (hd : ∀ x ∈ xs, x < 1000) {k : Nat} (hk : k < n) :
    ∃ g off x, A = some ⟨g, off, none⟩ ∧ xs[k]? = some x ∧ x < 1000 ∧ ∀ w', Below w.heap.size w w' → w'.cell? ⟨g, off + k, none⟩ = some (.int .i64 (x : Int)) := by
  obtain ⟨g, off, hA, hg, hc⟩ := h.at_ (by omega)
  have hl : k < xs.length := by rw [h.len]; exact hk
  refine ⟨g, off, xs[k], hA, List.getElem?_eq_getElem hl, hd _ (List.getElem_mem hl), fun w' hb => ?_⟩
  rw [hb.cell (p := ⟨g, off + k, none⟩) hg]
  exact hc k _ (List.getElem?_eq_getElem hl)
theorem dv_snoc (o : List Nat) (x : Nat) : dv (o ++ [x]) = dv o + 1000 ^ o.length * x := by rw [dv_append]; simp [dv]
theorem dv_take {xs : List Nat} {k x : Nat} (h : xs[k]? = some x) : dv (xs.take (k + 1)) = dv (xs.take k) + 1000 ^ k * x := by
  have hl : k < xs.length := (List.getElem?_eq_some_iff.1 h).1
  rw [List.take_add_one, h]
  simp only [Option.toList_some]
  rw [dv_snoc, List.length_take, Nat.min_eq_left (by omega)]
theorem dv_past {xs : List Nat} {k : Nat} (h : xs.length ≤ k) : dv (xs.take (k + 1)) = dv (xs.take k) := by
  rw [List.take_of_length_le (by omega), List.take_of_length_le h]
/-- One place of a sum. -/
theorem plus_step {p c t s : Nat} (h : s + p * c = t) (x y : Nat) : (s + p * ((c + x + y) % 1000)) + p * 1000 * ((c + x + y) / 1000) = t + p * x + p * y := by
  have h1 := Nat.div_add_mod (c + x + y) 1000
  have h2 : p * (1000 * ((c + x + y) / 1000) + (c + x + y) % 1000) = p * (c + x + y) := by rw [h1]
  rw [Nat.mul_add, ← Nat.mul_assoc, Nat.mul_add, Nat.mul_add] at h2
  omega
theorem mem_snoc {o : List Nat} {x : Nat} (h : ∀ y ∈ o, y < 1000) (hx : x < 1000) : ∀ y ∈ o ++ [x], y < 1000 := by
  intro y hy
  rcases List.mem_append.1 hy with h1 | h1
  · exact h y h1
  · have : y = x := by simpa using h1
    omega
end Corr
namespace Go.Proofs.YtgojfonnikgboaaDoor
open Go.RowKit Corr
set_option linter.unusedVariables false

end Go.Proofs.YtgojfonnikgboaaDoor
namespace Corr
open Go Go.RowKit
theorem dv_lt {o : List Nat} (h : ∀ x ∈ o, x < 1000) : dv o < 1000 ^ o.length := by
  induction o with
  | nil => simp [dv]
  | cons x r ih =>
    have h1 := h x List.mem_cons_self
    have h2 := ih (fun y hy => h y (List.mem_cons_of_mem _ hy))
    simp only [dv, List.length_cons, Nat.pow_succ]
    omega
/-- One place of a difference: d is due, x above, y below. -/
theorem minus_step {p d s a b : Nat} (h : s + b = a + p * d) (x y r d' : Nat) (hr : r + d + y = x + 1000 * d') : (s + p * r) + (b + p * y) = (a + p * x) + p * 1000 * d' := by
  have h2 : p * (r + d + y) = p * (x + 1000 * d') := by rw [hr]
  rw [Nat.mul_add, Nat.mul_add, Nat.mul_add, ← Nat.mul_assoc] at h2
  omega
/-- A sign, but not of nought. -/
def nzB (s : Bool) (n : Nat) : Bool := s && decide (n ≠ 0)
/-- A row without a nought at its end is its number's row. -/
theorem digs_dv : ∀ (l : List Nat), (∀ x ∈ l, x < 1000) → (∀ x, l.getLast? = some x → x ≠ 0) → l = digs (dv l)
  | [], _, _ => by rw [show dv [] = 0 from rfl, digs_zero]
  | x :: r, h, hl => by
    have h1 := h x List.mem_cons_self
    have ih : r = digs (dv r) := by
      refine digs_dv r (fun y hy => h y (List.mem_cons_of_mem _ hy)) (fun y hy => ?_)
      cases r with
      | nil => cases hy
      | cons z t => exact hl y (by rw [List.getLast?_cons_cons]; exact hy)
    have hpos : 0 < dv (x :: r) := by
      cases r with
      | nil =>
        have := hl x rfl
        simp only [dv]; omega
      | cons z t =>
        have hz : 0 < dv (z :: t) := by
          rcases Nat.eq_zero_or_pos (dv (z :: t)) with h0 | h0
          · rw [h0, digs_zero] at ih; cases ih
          · exact h0
        simp only [dv] at hz ⊢; omega
    rw [digs_pos hpos]
    simp only [dv]
    rw [show (x + 1000 * dv r) % 1000 = x by omega, show (x + 1000 * dv r) / 1000 = dv r by omega, ← ih]
end Corr
namespace Go.Proofs.YtgojfonnikgboaaDoor
open Go.RowKit Corr
set_option linter.unusedVariables false

/-- short: without noughts at the end. -/
theorem last_take {xs : List Nat} {j x : Nat} (h : xs[j]? = some x) : dv (xs.take (j + 1)) = dv (xs.take j) + 1000 ^ j * x := dv_take h
end Go.Proofs.YtgojfonnikgboaaDoor
namespace Corr
open Go Go.RowKit
theorem digs_low : ∀ (n : Nat), 0 < n → 1000 ^ ((digs n).length - 1) ≤ n := by
  intro n
  induction n using Nat.strongRecOn with
  | _ n ih =>
    intro hn
    rw [digs_pos hn, List.length_cons, Nat.add_sub_cancel]
    by_cases h : n / 1000 = 0
    · rw [h, digs_zero]; simp; omega
    · have h1 := ih (n / 1000) (by omega) (by omega)
      have h2 : (digs (n / 1000)).length ≠ 0 := by rw [digs_pos (by omega)]; simp
      have h3 : 1000 ^ (digs (n / 1000)).length = 1000 ^ ((digs (n / 1000)).length - 1) * 1000 := by rw [← Nat.pow_succ]; congr 1; omega
      rw [h3]
      omega
theorem digs_lt_of_len {a b : Nat} (h : (digs a).length < (digs b).length) : a < b := by
  have hb : 0 < b := by
    rcases Nat.eq_zero_or_pos b with e | e
    · rw [e, digs_zero] at h; simp at h
    · exact e
  have h1 := dv_lt (digs_lt a)
  rw [dv_digs] at h1
  have h2 := digs_low b hb
  have h3 : 1000 ^ (digs a).length ≤ 1000 ^ ((digs b).length - 1) := Nat.pow_le_pow_right (by omega) (by omega)
  omega
/-- Rows of one length that are the same behind a place are as they are at it. -/
theorem dv_place {xs ys : List Nat} {i x y : Nat} (hx : xs[i]? = some x) (hy : ys[i]? = some y) (dx : ∀ z ∈ xs, z < 1000) (hd : xs.drop (i + 1) = ys.drop (i + 1)) (hlt : x < y) : dv xs < dv ys := by
  have hlx : i < xs.length := (List.getElem?_eq_some_iff.1 hx).1
  have hly : i < ys.length := (List.getElem?_eq_some_iff.1 hy).1
  have h1 : dv xs = dv (xs.take (i + 1)) + 1000 ^ (i + 1) * dv (xs.drop (i + 1)) := by
    have h := dv_append (xs.take (i + 1)) (xs.drop (i + 1))
    rw [List.take_append_drop, List.length_take, Nat.min_eq_left (by omega)] at h
    exact h
  have h2 : dv ys = dv (ys.take (i + 1)) + 1000 ^ (i + 1) * dv (ys.drop (i + 1)) := by
    have h := dv_append (ys.take (i + 1)) (ys.drop (i + 1))
    rw [List.take_append_drop, List.length_take, Nat.min_eq_left (by omega)] at h
    exact h
  rw [h1, h2, hd, dv_take hx, dv_take hy]
  have h3 : dv (xs.take i) < 1000 ^ (xs.take i).length := dv_lt (fun z hz => dx z (List.mem_of_mem_take hz))
  rw [List.length_take, Nat.min_eq_left (by omega)] at h3
  have h4 : 1000 ^ i * (x + 1) ≤ 1000 ^ i * y := Nat.mul_le_mul_left _ hlt
  rw [Nat.mul_add, Nat.mul_one] at h4
  omega
theorem digs_inj {a b : Nat} (h : digs a = digs b) : a = b := by rw [← dv_digs a, h, dv_digs]
/-- What a call leaves that compares, and only draws. -/
def RetCmp (w : World) (z : Int) (e : Ending) (w' : World) : Prop := e = .returned (.int .i64 z) ∧ ∃ n, w' = w.drewN n
end Corr
namespace Go.Proofs.YtgojfonnikgboaaDoor
open Go.RowKit Corr
set_option linter.unusedVariables false

end Go.Proofs.YtgojfonnikgboaaDoor
namespace Corr
open Go Go.RowKit
/-- A block that is just these two cells, and may be written. -/
structure Box2 (w : World) (k : Nat) (a b : Value) : Prop where
  blk : ∃ T, w.heap[k]? = some (.cells #[a, b] T (0, 0))
theorem Box2.c0 {w : World} {k : Nat} {a b : Value} (h : Box2 w k a b) : w.cell? ⟨k, 0, none⟩ = some a := by
  obtain ⟨T, h⟩ := h.blk; rw [Joins.cell_of_block h]; rfl
theorem Box2.c1 {w : World} {k : Nat} {a b : Value} (h : Box2 w k a b) : w.cell? ⟨k, 1, none⟩ = some b := by
  obtain ⟨T, h⟩ := h.blk; rw [Joins.cell_of_block h]; rfl
theorem Box2.f {w : World} {k : Nat} {a b : Value} (h : Box2 w k a b) (i : Nat) : w.frozen? ⟨k, i, none⟩ = false := by
  obtain ⟨T, h⟩ := h.blk; exact Joins.unfrozen_of_block h _
theorem Box2.sz {w : World} {k : Nat} {a b : Value} (h : Box2 w k a b) : k < w.heap.size := by
  obtain ⟨T, h⟩ := h.blk; exact (Array.getElem?_eq_some_iff.1 h).1
theorem Box2.keep {W w1 : World} {k : Nat} {a b : Value} (h : Box2 W k a b) (hb : Below W.heap.size W w1) : Box2 w1 k a b := by
  have hk := h.sz
  obtain ⟨T, h⟩ := h.blk
  exact ⟨T, by rw [hb.block k hk]; exact h⟩
theorem Box2.new (w : World) (a b : Value) (T : TypeId) : Box2 (w.alloc (.cells #[a, b] T)) w.heap.size a b := ⟨T, heapNew w _⟩
theorem Box2.alloc {w : World} {k : Nat} {a b : Value} (h : Box2 w k a b) (o : Obj) : Box2 (w.alloc o) k a b :=
  h.keep ((Below.refl _ _).alloc (Nat.le_refl _) _)
theorem Box2.drew {w : World} {k : Nat} {a b : Value} (h : Box2 w k a b) : Box2 w.drew k a b := h.keep ((Below.refl _ _).drew)
theorem Box2.far {w : World} {k g : Nat} {a b : Value} (h : Box2 w k a b) (hg : k ≠ g) (u v : Value) : Box2 ((w.setCell ⟨g, 0, none⟩ u).setCell ⟨g, 1, none⟩ v) k a b := by
  obtain ⟨T, h⟩ := h.blk
  exact ⟨T, by rw [Below.heap_setCell _ _ _ _ hg, Below.heap_setCell _ _ _ _ hg]; exact h⟩
theorem Box2.stored {w : World} {k : Nat} {a b : Value} (h : Box2 w k a b) (u v : Value) : Box2 ((w.setCell ⟨k, 0, none⟩ u).setCell ⟨k, 1, none⟩ v) k u v := by
  obtain ⟨T, h⟩ := h.blk
  exact ⟨T, by rw [Joins.block_setCell (Joins.block_setCell h u) v]; rfl⟩
/-- Such a block, a truth and a slice, is no row's. -/
theorem Box2.ne_row {w : World} {g n c : Nat} {s : Bool} {v : Value} {A : Option Addr} {xs : List Nat} (h : Box2 w g (.bool s) v) (hv : ∀ k z, v ≠ .int k z) (r : Row w A n c xs) : 0 < n → ∀ k off, A = some ⟨k, off, none⟩ → k ≠ g := by
  intro hn k off hA e
  subst e
  obtain ⟨k', off', hA', _, hc⟩ := r.at_ hn
  rw [hA] at hA'
  injection hA' with hA'
  injection hA' with e1 e2 _
  subst e1 e2
  have hl : 0 < xs.length := by rw [r.len]; exact hn
  have h0 := hc 0 _ (List.getElem?_eq_getElem hl)
  obtain ⟨T, hb⟩ := h.blk
  rw [Joins.cell_of_block hb, Nat.add_zero] at h0
  match off, h0 with
  | 0, h0 => simp at h0
  | 1, h0 => simp at h0; exact hv _ _ h0
  | off + 2, h0 => simp at h0
theorem Row.alloc {w : World} {A : Option Addr} {n c : Nat} {xs : List Nat} (h : Row w A n c xs) (o : Obj) : Row (w.alloc o) A n c xs := h.keep ((Below.refl _ _).alloc (Nat.le_refl _) _)
theorem Row.drew {w : World} {A : Option Addr} {n c : Nat} {xs : List Nat} (h : Row w A n c xs) : Row w.drew A n c xs := h.keep ((Below.refl _ _).drew)
/-- A row stays where two cells of another block are written, one that is none of the row's. -/
theorem Row.far {w : World} {A : Option Addr} {n c g : Nat} {xs : List Nat} (h : Row w A n c xs) (hg : 0 < n → ∀ k off, A = some ⟨k, off, none⟩ → k ≠ g) (a b : Value) : Row ((w.setCell ⟨g, 0, none⟩ a).setCell ⟨g, 1, none⟩ b) A n c xs :=
  ⟨h.len, h.cap, fun hn => by
    obtain ⟨k, off, hA, hk, hc⟩ := h.at_ hn
    have hne := hg hn k off hA
    refine ⟨k, off, hA, by simp [go_sem]; omega, fun i x hx => ?_⟩
    have := hc i x hx
    simp [go_sem, this]⟩
theorem sgn_neg (s : Bool) (n : Nat) : nzB s n = negB (val s n) := by unfold nzB; rw [negB_val, Bool.eq_iff_iff]; simp
end Corr
namespace Go.Proofs.YtgojfonnikgboaaDoor
open Go.RowKit Corr
set_option linter.unusedVariables false

theorem len_le {a b : Nat} (h : b ≤ a) : (digs b).length ≤ (digs a).length := by
  rcases Nat.lt_or_ge (digs a).length (digs b).length with h1 | h1
  · have := digs_lt_of_len h1; omega
  · exact h1
end Go.Proofs.YtgojfonnikgboaaDoor

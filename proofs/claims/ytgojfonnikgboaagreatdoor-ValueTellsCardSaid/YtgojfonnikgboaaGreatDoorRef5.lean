/- Rows of decimal thousands, the lowest ones first: plain arithmetic, no program in this text. How a row of numbers lies as a slice; the contract of corrodyref01.Word. Contracts of corrodyref01: plus, minus. Contracts of corrodyref01: minus, short. Contracts of corrodyref01: against. Contracts of corrodyref01: Neg, Add. -/
import Derived.Test.YtgojfonnikgboaaGreatDoorWideMath
import Derived.Lib.Hide
import Derived.Lib.SmallJoins
import Derived.OwnWalk
import Derived.Deep.QuietTactic
import Derived.BigQuiet
import Derived.Deep.RegionHeld3
import Derived.Deep.DeepCutAuto
import Derived.Deep.CutBlock
import Derived.Deep.LoopGhost
namespace Corr
set_option maxRecDepth 8000

/-- The thousands of a number, without noughts at the end. -/
def digs (n : Nat) : List Nat := if h : n = 0 then [] else n % 1000 :: digs (n / 1000)
termination_by n
decreasing_by omega
/-- The worth of a row. -/
def dv : List Nat → Nat
  | [] => 0
  | x :: r => x + 1000 * dv r

theorem digs_zero : digs 0 = [] := by rw [digs]; simp
theorem digs_pos {n : Nat} (h : 0 < n) : digs n = n % 1000 :: digs (n / 1000) := by rw [digs]; simp; omega
theorem dv_digs (n : Nat) : dv (digs n) = n := by
  induction n using Nat.strongRecOn with
  | _ n ih =>
    by_cases h : n = 0
    · subst h; rw [digs_zero]; rfl
    · rw [digs_pos (by omega)]
      show n % 1000 + 1000 * dv (digs (n / 1000)) = n
      rw [ih _ (by omega)]; omega
theorem digs_lt (n : Nat) : ∀ x ∈ digs n, x < 1000 := by
  induction n using Nat.strongRecOn with
  | _ n ih =>
    by_cases h : n = 0
    · subst h; rw [digs_zero]; intro x hx; cases hx
    · rw [digs_pos (by omega)]
      intro x hx
      rcases List.mem_cons.1 hx with rfl | hx
      · omega
      · exact ih _ (by omega) x hx
theorem digs_len : ∀ (k n : Nat), n < 1000 ^ k → (digs n).length ≤ k
  | 0, n, h => by
    have : n = 0 := by simpa using h
    subst this; rw [digs_zero]; simp
  | k + 1, n, h => by
    by_cases h0 : n = 0
    · subst h0; rw [digs_zero]; simp
    · rw [digs_pos (by omega), List.length_cons]
      have := digs_len k (n / 1000) ((Nat.div_lt_iff_lt_mul (by omega)).2 (by rw [Nat.pow_succ] at h; exact h))
      omega
theorem dv_append (a b : List Nat) : dv (a ++ b) = dv a + 1000 ^ a.length * dv b := by
  induction a with
  | nil => simp [dv]
  | cons x r ih =>
    simp only [List.cons_append, dv, ih, List.length_cons, Nat.pow_succ]
    rw [Nat.mul_add, ← Nat.mul_assoc, Nat.mul_comm 1000 (1000 ^ r.length), Nat.mul_assoc]
    omega
theorem dv_drop {xs : List Nat} {i x : Nat} (h : xs[i]? = some x) : dv (xs.drop i) = x + 1000 * dv (xs.drop (i + 1)) := by
  have hl : i < xs.length := (List.getElem?_eq_some_iff.1 h).1
  rw [List.drop_eq_getElem_cons hl, (List.getElem?_eq_some_iff.1 h).2]
  rfl
theorem dv_drop_le (xs : List Nat) : ∀ i, dv (xs.drop i) ≤ dv xs
  | 0 => by simp
  | i + 1 => by
    have ih := dv_drop_le xs i
    rcases Nat.lt_or_ge i xs.length with h | h
    · have := dv_drop (List.getElem?_eq_getElem h); omega
    · rw [List.drop_of_length_le (by omega)]; simp [dv]
end Corr
namespace Corr
set_option maxRecDepth 8000
open Go Go.RowKit

theorem heapNew (w : World) (o : Obj) : (w.alloc o).heap[w.heap.size]? = some o := by
  show (w.heap.push o)[w.heap.size]? = some o
  simp
/-- A slice that reads as the row xs: n places, room for c. -/
structure Row (w : World) (A : Option Addr) (n c : Nat) (xs : List Nat) : Prop where
  len : xs.length = n
  cap : n ≤ c
  at_ : 0 < n → ∃ g off, A = some ⟨g, off, none⟩ ∧ g < w.heap.size ∧ ∀ (i x : Nat), xs[i]? = some x → w.cell? ⟨g, off + i, none⟩ = some (.int .i64 (x : Int))
theorem Row.keep {w w' : World} {A : Option Addr} {n c : Nat} {xs : List Nat} (h : Row w A n c xs) (hb : Below w.heap.size w w') : Row w' A n c xs :=
  ⟨h.len, h.cap, fun hn => by
    obtain ⟨g, off, hA, hg, hc⟩ := h.at_ hn
    exact ⟨g, off, hA, Nat.lt_of_lt_of_le hg hb.size, fun i x hx => (hb.cell (p := ⟨g, off + i, none⟩) hg).trans (hc i x hx)⟩⟩
theorem Row.nil_ (w : World) : Row w none 0 0 [] := ⟨rfl, Nat.le_refl _, fun h => absurd h (by omega)⟩
def encN (x : Nat) : Value := .int .i64 (x : Int)
/-- A row of the call's own is such a slice. -/
theorem Row.of_own {w : World} {base : Nat} {e : TypeId} {v : Value} {xs : List Nat} (h : w.ownsRow base e 1 v xs.length (xs.map encN)) : ∃ A c, v = .slice A xs.length c ∧ Row w A xs.length c xs := by
  rcases Joins.ownsRow_forms h with ⟨rfl, hn⟩ | ⟨g, cap, rfl⟩
  · have : xs = [] := List.length_eq_zero_iff.1 hn
    subst this
    exact ⟨none, 0, rfl, Row.nil_ w⟩
  · refine ⟨some ⟨g, 0, none⟩, cap, rfl, rfl, ?_, fun hn => ⟨g, 0, rfl, ?_, fun i x hx => ?_⟩⟩
    · obtain ⟨_, h' | ⟨g', cap', cur, hv, _, _, hc, _⟩⟩ := h
      · cases h'.1
      · injection hv with _ _ e2; rw [e2]; exact hc
    · obtain ⟨_, h' | ⟨g', cap', cur, hv, _, hh, _⟩⟩ := h
      · cases h'.1
      · injection hv with e1 _ _
        injection e1 with e1
        injection e1 with e1 _ _
        subst e1
        exact (Array.getElem?_eq_some_iff.1 hh).1
    · have hi : i < xs.length := (List.getElem?_eq_some_iff.1 hx).1
      rw [Nat.zero_add, h.cellAt i (by omega), List.getElem?_map, hx]
      rfl

theorem own_block {w : World} {base : Nat} {e : TypeId} {size n : Nat} {v : Value} {xs : List Value} (h : w.ownsRow base e size v n xs) : ∀ k, v.ownBlock = some k → base ≤ k := by
  intro k hk
  obtain ⟨_, h' | ⟨g, cap, cur, rfl, hg, _⟩⟩ := h
  · rw [h'.1] at hk; cases hk
  · have : g = k := by simpa [Value.ownBlock] using hk
    omega
theorem new_one (w : World) (x : Value) (T : TypeId) : ∀ (j : Nat) (u : Value), [x][j]? = some u → (w.alloc (.cells #[x] T)).cell? ((⟨w.heap.size, 0, none⟩ : Addr).add j) = some u := by
  intro j u hj
  cases j with
  | zero =>
    have hu : x = u := by simpa using hj
    subst hu
    rw [show (⟨w.heap.size, 0, none⟩ : Addr).add 0 = ⟨w.heap.size, 0, none⟩ from rfl, Joins.cell_of_block (heapNew w _)]
    rfl
  | succ j => simp at hj
theorem own_snoc {w : World} {base : Nat} {e : TypeId} {v : Value} {acc : List Nat} {x : Nat} (h : w.ownsRow base e 1 v (acc.length + 1) (acc.map encN ++ [encN x])) : w.ownsRow base e 1 v (acc ++ [x]).length ((acc ++ [x]).map encN) := by
  simpa using h

/-- What a call leaves that tells a number as a row. -/
def RetN (w : World) (neg : Bool) (xs : List Nat) (e : Ending) (w' : World) : Prop :=
  ∃ A k c, e = .returned (.agg #[.bool neg, .slice A k c]) ∧ Row w' A k c xs ∧ Below w.heap.size w w'
end Corr
namespace Go.Proofs.YtgojfonnikgboaaGreatDoor
set_option maxRecDepth 8000
open Go.RowKit Corr
set_option linter.unusedVariables false
theorem info_int : (Tryz.prog.info? 3).map (fun i => (i.zero, i.size, i.bytes)) = some (some (.int .i64 0), 1, 8) := by kernel_rfl

set_option maxHeartbeats 1000000 in
theorem word_any (n : Nat) (w : World) (hn : n < B64) : Calls Tryz.prog 31 #[.int .u64 n] w (RetN w false (digs n)) := by
  obtain ⟨i0, hi, hz0, hz1, hz2⟩ := info_parts info_int
  have hlen := digs_len 7 n (by unfold B64 at hn; omega)
  have b0 : (n : Int) ≤ 18446744073709551615 := by unfold B64 at hn; omega
  generalize hN : (n : Int) = N
  have HN := Lib.hid hN
  rw [hN] at b0
  have n0 : 0 ≤ N := by omega
  clear hN hn
  go_enter Tryz.func31, Tryz.ntmps31
  go_wp2_with fail
  go_loopw [0, 3] (fun t v wr => ∃ (M : Int) (acc : List Nat), t = .int .u64 M ∧ 0 ≤ M ∧ M ≤ 18446744073709551615 ∧ wr.ownsRow (w.heap.size + 1) 3 1 v acc.length (acc.map encN) ∧ acc ++ digs M.toNat = digs n ∧ Below (w.heap.size + 1) (w.alloc (.cells #[.bool false, .slice none 0 0] 52)) wr) (fun t _ _ => (intOf t).toNat)
  case atStart => exact ⟨N, [], rfl, n0, b0, ⟨rfl, .inl ⟨rfl, rfl⟩⟩, by rw [← HN.out]; rfl, Below.refl _ _⟩
  case round =>
    obtain ⟨M, acc, rfl, m0, m1, hown, hacc, hbel⟩ := hrel
    have HACC := Lib.hid hacc
    have HBEL := Lib.hid hbel
    have hbel0 := hbel.size
    simp at hbel0
    clear hacc hbel
    have hal : acc.length ≤ 7 := by have := congrArg List.length HACC.out; simp at this; omega
    have hsz := hbel0
    by_cases hM : 0 < M
    · have HNX := Lib.hid (show (acc ++ [M.toNat % 1000]) ++ digs (M / 1000).toNat = digs n by
        rw [← HACC.out, digs_pos (show 0 < M.toNat by omega), show (M / 1000).toNat = M.toNat / 1000 by omega]; simp)
      have r0 : 0 ≤ M % 1000 := by omega
      have r1 : M % 1000 < 1000 := by omega
      go_wp2_with (at_builtin; refine wpList_append_own _ rfl _ _ 50 rfl (w.heap.size + 1) 3 i0 (.int .i64 0) 1 8 Tryz.underlying50 hi hz0 hz1 hz2 rfl (by decide) _ _ _ rfl (hown.alloc _) ⟨wr.heap.size, 0, none⟩ 1 1 [.int .i64 (M % 1000)] rfl rfl ?c1 ?c2 ?c3 ?c4 ?c5 ?_)
      case c1 => exact new_one _ _ _
      case c2 => simp [Value.oneCell']
      case c3 => unfold maxLen; omega
      case c4 => omega
      case c5 => simp; omega
      intro v' w1 hown1 hgrow _
      have HB1 := Lib.hid ((HBEL.out.alloc hbel0 _).grown hgrow (by simp; omega) (own_block hown))
      have HO1 := Lib.hid (own_snoc (x := M.toNat % 1000) (by rw [show encN (M.toNat % 1000) = .int .i64 (M % 1000) by unfold encN; congr 1; omega]; exact hown1))
      clear hown1 hgrow hown HBEL
      go_wp2_with fail
      go_roundw
      case rel => exact ⟨M / 1000, acc ++ [M.toNat % 1000], rfl, by omega, by omega, HO1.out, HNX.out, HB1.out⟩
      case measure => simp [intOf]; omega
    · have hM0 : M = 0 := by omega
      have HF := Lib.hid (show acc = digs n by rw [← HACC.out, hM0]; rw [show (0 : Int).toNat = 0 from rfl, digs_zero]; simp)
      obtain ⟨A, c, rfl, _⟩ := Row.of_own hown
      have HO2 := Lib.hid (ownsRow_setCell_below (ownsRow_setCell_below hown (a := ⟨w.heap.size, 0, none⟩) (by simp) (.bool false)) (a := ⟨w.heap.size, 1, none⟩) (by simp) (.slice A acc.length c))
      have HB := HBEL.out
      have q0 : wr.cell? ⟨w.heap.size, 0, none⟩ = some (.bool false) := by rw [HB.cell (by simp)]; rw [Joins.cell_of_block (heapNew w _)]; rfl
      have q1 : wr.cell? ⟨w.heap.size, 1, none⟩ = some (.slice none 0 0) := by rw [HB.cell (by simp)]; rw [Joins.cell_of_block (heapNew w _)]; rfl
      have q2 : wr.frozen? ⟨w.heap.size, 0, none⟩ = false := by rw [HB.frozen (by simp)]; exact Joins.unfrozen_of_block (heapNew w _) _
      have q3 : wr.frozen? ⟨w.heap.size, 1, none⟩ = false := by rw [HB.frozen (by simp)]; exact Joins.unfrozen_of_block (heapNew w _) _
      have HBH := Lib.hid HB
      clear hM0 HB hown
      go_wp2_with fail
      obtain ⟨A', c', hv, R⟩ := Row.of_own HO2.out
      injection hv with e1 _ e2
      subst e1 e2
      refine bodyPost_ret (v := .agg #[.bool false, .slice A acc.length c]) (by simp [results, Tryz.results31, go_sem, q0, q1]) rfl ⟨A, _, c, rfl, ?_, ?_⟩
      · rw [← HF.out]; exact R
      · exact (((((Below.refl _ _).alloc (Nat.le_refl _) _).trans (HBH.out.mono (by omega))).setCell (by simp) _).setCell (by simp) _)
end Go.Proofs.YtgojfonnikgboaaGreatDoor
namespace Corr
set_option maxRecDepth 8000
open Go Go.RowKit
/-- What a call leaves that tells a row. -/
def RetRow (w : World) (P : List Nat → Prop) (e : Ending) (w' : World) : Prop :=
  ∃ A k c o, e = .returned (.slice A k c) ∧ Row w' A k c o ∧ P o ∧ Below w.heap.size w w'
/-- A place of a row, in a world that is as it was below. -/
theorem Row.get {w : World} {A : Option Addr} {n c : Nat} {xs : List Nat} (h : Row w A n c xs) (hd : ∀ x ∈ xs, x < 1000) {k : Nat} (hk : k < n) :
    ∃ g off x, A = some ⟨g, off, none⟩ ∧ xs[k]? = some x ∧ x < 1000 ∧ ∀ w', Below w.heap.size w w' → w'.cell? ⟨g, off + k, none⟩ = some (.int .i64 (x : Int)) := by
  obtain ⟨g, off, hA, hg, hc⟩ := h.at_ (by omega)
  have hl : k < xs.length := by rw [h.len]; exact hk
  refine ⟨g, off, xs[k], hA, List.getElem?_eq_getElem hl, hd _ (List.getElem_mem hl), fun w' hb => ?_⟩
  rw [hb.cell (p := ⟨g, off + k, none⟩) hg]
  exact hc k _ (List.getElem?_eq_getElem hl)
theorem dv_snoc (o : List Nat) (x : Nat) : dv (o ++ [x]) = dv o + 1000 ^ o.length * x := by rw [dv_append]; simp [dv]
theorem dv_take {xs : List Nat} {k x : Nat} (h : xs[k]? = some x) : dv (xs.take (k + 1)) = dv (xs.take k) + 1000 ^ k * x := by
  have hl : k < xs.length := (List.getElem?_eq_some_iff.1 h).1
  rw [List.take_add_one, h]
  simp only [Option.toList_some]
  rw [dv_snoc, List.length_take, Nat.min_eq_left (by omega)]
theorem dv_past {xs : List Nat} {k : Nat} (h : xs.length ≤ k) : dv (xs.take (k + 1)) = dv (xs.take k) := by
  rw [List.take_of_length_le (by omega), List.take_of_length_le h]
/-- One place of a sum. -/
theorem plus_step {p c t s : Nat} (h : s + p * c = t) (x y : Nat) : (s + p * ((c + x + y) % 1000)) + p * 1000 * ((c + x + y) / 1000) = t + p * x + p * y := by
  have h1 := Nat.div_add_mod (c + x + y) 1000
  have h2 : p * (1000 * ((c + x + y) / 1000) + (c + x + y) % 1000) = p * (c + x + y) := by rw [h1]
  rw [Nat.mul_add, ← Nat.mul_assoc, Nat.mul_add, Nat.mul_add] at h2
  omega
theorem mem_snoc {o : List Nat} {x : Nat} (h : ∀ y ∈ o, y < 1000) (hx : x < 1000) : ∀ y ∈ o ++ [x], y < 1000 := by
  intro y hy
  rcases List.mem_append.1 hy with h1 | h1
  · exact h y h1
  · have : y = x := by simpa using h1
    omega
end Corr
namespace Go.Proofs.YtgojfonnikgboaaGreatDoor
set_option maxRecDepth 8000
open Go.RowKit Corr
set_option linter.unusedVariables false

set_option maxHeartbeats 2000000 in
theorem plus_any (A B : Option Addr) (n m ca cb : Nat) (xs ys : List Nat) (w : World) (hx : Row w A n ca xs) (hy : Row w B m cb ys) (dx : ∀ x ∈ xs, x < 1000) (dy : ∀ y ∈ ys, y < 1000) (hn : n ≤ 10000) (hm : m ≤ 10000) :
    Calls Tryz.prog 52 #[.slice A n ca, .slice B m cb] w (RetRow w fun o => dv o = dv xs + dv ys ∧ (∀ x ∈ o, x < 1000) ∧ o.length ≤ n + m + 1 ∧ (o.length ≤ max n m ∨ o.getLast? = some 1)) := by
  obtain ⟨i0, hi, hz0, hz1, hz2⟩ := info_parts info_int
  go_enter Tryz.func52, Tryz.ntmps52
  go_wp2_with fail
  go_loopw [5, 6, 7] (fun v s t wr => ∃ (k c : Nat) (acc : List Nat), t = .int .i64 (k : Int) ∧ s = .int .i64 (c : Int) ∧ c ≤ 1 ∧ acc.length = k ∧ wr.ownsRow w.heap.size 3 1 v acc.length (acc.map encN) ∧ (∀ x ∈ acc, x < 1000) ∧ dv acc + 1000 ^ k * c = dv (xs.take k) + dv (ys.take k) ∧ Below w.heap.size w wr ∧ (k ≤ n + m ∨ k ≤ n + m + 1 ∧ c = 0) ∧ (k ≤ max n m ∨ k = max n m + 1 ∧ c = 0 ∧ acc.getLast? = some 1)) (fun _ s t _ => (n + m - (intOf t).toNat) * 2 + (intOf s).toNat)
  case atStart => exact ⟨0, 0, [], rfl, rfl, by omega, rfl, ⟨rfl, .inl ⟨rfl, rfl⟩⟩, (fun x hx => by cases hx), by simp [dv], Below.refl _ _, .inl (by omega), .inl (by omega)⟩
  case round =>
    obtain ⟨k, c, acc, rfl, rfl, hc1, hl, hown, hd, hs, hbel, hkb, hkm⟩ := hrel
    have HL := Lib.hid hl
    have HD := Lib.hid hd
    have HS := Lib.hid hs
    have HBEL := Lib.hid hbel
    have hbel0 := hbel.size
    have hal : acc.length ≤ n + m + 1 := by omega
    have HKB := Lib.hid hkb
    have HKM := Lib.hid hkm
    have hkb1 : k ≤ n + m + 1 := by omega
    clear hl hd hs hbel hkb hkm
    have HDX := Lib.hid dx
    have HDY := Lib.hid dy
    clear dx dy
    by_cases ha : k < n
    · by_cases hb : k < m
      · obtain ⟨ga, oa, x, hA, hxk, hx1, hxc⟩ := hx.get HDX.out ha
        subst hA
        have cx := hxc wr HBEL.out
        clear hxc
        obtain ⟨gb, ob, y, hB, hyk, hy1, hyc⟩ := hy.get HDY.out hb
        subst hB
        have cy := hyc wr HBEL.out
        clear hyc
        have HST := Lib.hid (plus_step HS.out x y)
        have HTX := Lib.hid (dv_take hxk)
        have HTY := Lib.hid (dv_take hyk)
        clear hxk
        clear hyk
        go_wp2_with (at_builtin; refine wpList_append_own _ rfl _ _ 50 rfl w.heap.size 3 i0 (.int .i64 0) 1 8 Tryz.underlying50 hi hz0 hz1 hz2 rfl (by decide) _ _ _ rfl (hown.alloc _) ⟨wr.heap.size, 0, none⟩ 1 1 [.int .i64 (((c : Int) + (x : Int) + (y : Int)) % 1000)] rfl rfl ?c1 ?c2 ?c3 ?c4 ?c5 ?_)
        case c1 => exact new_one _ _ _
        case c2 => simp [Value.oneCell']
        case c3 => unfold maxLen; omega
        case c4 => omega
        case c5 => simp; omega
        intro v' w1 hown1 hgrow _
        have HB1 := Lib.hid ((HBEL.out.alloc hbel0 _).grown hgrow (by simp; omega) (own_block hown))
        have HO1 := Lib.hid (own_snoc (x := (c + x + y) % 1000) (by rw [show encN ((c + x + y) % 1000) = .int .i64 (((c : Int) + (x : Int) + (y : Int)) % 1000) by unfold encN; congr 1]; exact hown1))
        clear hown1 hgrow hown HBEL
        go_wp2_with fail
        go_roundw
        case rel => exact ⟨k + 1, (c + x + y) / 1000, acc ++ [(c + x + y) % 1000], by go_num, val_int (by omega), by omega, by simp [HL.out], HO1.out, mem_snoc HD.out (Nat.mod_lt _ (by omega)), (by rw [dv_snoc, HL.out, HTX.out, HTY.out, Nat.pow_succ]; have := HST.out; omega), HB1.out, (by have := HKB.out; omega), (by have := HKM.out; omega)⟩
        case measure => simp [intOf]; omega
      · obtain ⟨ga, oa, x, hA, hxk, hx1, hxc⟩ := hx.get HDX.out ha
        subst hA
        have cx := hxc wr HBEL.out
        clear hxc
        have HST := Lib.hid (plus_step HS.out x 0)
        have HTX := Lib.hid (dv_take hxk)
        have HTY := Lib.hid (dv_past (xs := ys) (k := k) (by rw [hy.len]; omega))
        clear hxk
        go_wp2_with (at_builtin; refine wpList_append_own _ rfl _ _ 50 rfl w.heap.size 3 i0 (.int .i64 0) 1 8 Tryz.underlying50 hi hz0 hz1 hz2 rfl (by decide) _ _ _ rfl (hown.alloc _) ⟨wr.heap.size, 0, none⟩ 1 1 [.int .i64 (((c : Int) + (x : Int)) % 1000)] rfl rfl ?c1 ?c2 ?c3 ?c4 ?c5 ?_)
        case c1 => exact new_one _ _ _
        case c2 => simp [Value.oneCell']
        case c3 => unfold maxLen; omega
        case c4 => omega
        case c5 => simp; omega
        intro v' w1 hown1 hgrow _
        have HB1 := Lib.hid ((HBEL.out.alloc hbel0 _).grown hgrow (by simp; omega) (own_block hown))
        have HO1 := Lib.hid (own_snoc (x := (c + x + 0) % 1000) (by rw [show encN ((c + x + 0) % 1000) = .int .i64 (((c : Int) + (x : Int)) % 1000) by unfold encN; congr 1]; exact hown1))
        clear hown1 hgrow hown HBEL
        go_wp2_with fail
        go_roundw
        case rel => exact ⟨k + 1, (c + x + 0) / 1000, acc ++ [(c + x + 0) % 1000], by go_num, val_int (by omega), by omega, by simp [HL.out], HO1.out, mem_snoc HD.out (Nat.mod_lt _ (by omega)), (by rw [dv_snoc, HL.out, HTX.out, HTY.out, Nat.pow_succ]; have := HST.out; omega), HB1.out, (by have := HKB.out; omega), (by have := HKM.out; omega)⟩
        case measure => simp [intOf]; omega
    · by_cases hb : k < m
      · obtain ⟨gb, ob, y, hB, hyk, hy1, hyc⟩ := hy.get HDY.out hb
        subst hB
        have cy := hyc wr HBEL.out
        clear hyc
        have HST := Lib.hid (plus_step HS.out 0 y)
        have HTX := Lib.hid (dv_past (xs := xs) (k := k) (by rw [hx.len]; omega))
        have HTY := Lib.hid (dv_take hyk)
        clear hyk
        go_wp2_with (at_builtin; refine wpList_append_own _ rfl _ _ 50 rfl w.heap.size 3 i0 (.int .i64 0) 1 8 Tryz.underlying50 hi hz0 hz1 hz2 rfl (by decide) _ _ _ rfl (hown.alloc _) ⟨wr.heap.size, 0, none⟩ 1 1 [.int .i64 (((c : Int) + (y : Int)) % 1000)] rfl rfl ?c1 ?c2 ?c3 ?c4 ?c5 ?_)
        case c1 => exact new_one _ _ _
        case c2 => simp [Value.oneCell']
        case c3 => unfold maxLen; omega
        case c4 => omega
        case c5 => simp; omega
        intro v' w1 hown1 hgrow _
        have HB1 := Lib.hid ((HBEL.out.alloc hbel0 _).grown hgrow (by simp; omega) (own_block hown))
        have HO1 := Lib.hid (own_snoc (x := (c + 0 + y) % 1000) (by rw [show encN ((c + 0 + y) % 1000) = .int .i64 (((c : Int) + (y : Int)) % 1000) by unfold encN; congr 1]; exact hown1))
        clear hown1 hgrow hown HBEL
        go_wp2_with fail
        go_roundw
        case rel => exact ⟨k + 1, (c + 0 + y) / 1000, acc ++ [(c + 0 + y) % 1000], by go_num, val_int (by omega), by omega, by simp [HL.out], HO1.out, mem_snoc HD.out (Nat.mod_lt _ (by omega)), (by rw [dv_snoc, HL.out, HTX.out, HTY.out, Nat.pow_succ]; have := HST.out; omega), HB1.out, (by have := HKB.out; omega), (by have := HKM.out; omega)⟩
        case measure => simp [intOf]; omega
      · by_cases hc : 0 < c
        · have HST := Lib.hid (plus_step HS.out 0 0)
          have HTX := Lib.hid (dv_past (xs := xs) (k := k) (by rw [hx.len]; omega))
          have HTY := Lib.hid (dv_past (xs := ys) (k := k) (by rw [hy.len]; omega))
          go_wp2_with (at_builtin; refine wpList_append_own _ rfl _ _ 50 rfl w.heap.size 3 i0 (.int .i64 0) 1 8 Tryz.underlying50 hi hz0 hz1 hz2 rfl (by decide) _ _ _ rfl (hown.alloc _) ⟨wr.heap.size, 0, none⟩ 1 1 [.int .i64 (((c : Int)) % 1000)] rfl rfl ?c1 ?c2 ?c3 ?c4 ?c5 ?_)
          case c1 => exact new_one _ _ _
          case c2 => simp [Value.oneCell']
          case c3 => unfold maxLen; omega
          case c4 => omega
          case c5 => simp; omega
          intro v' w1 hown1 hgrow _
          have HB1 := Lib.hid ((HBEL.out.alloc hbel0 _).grown hgrow (by simp; omega) (own_block hown))
          have HO1 := Lib.hid (own_snoc (x := (c + 0 + 0) % 1000) (by rw [show encN ((c + 0 + 0) % 1000) = .int .i64 (((c : Int)) % 1000) by unfold encN; congr 1]; exact hown1))
          clear hown1 hgrow hown HBEL
          go_wp2_with fail
          go_roundw
          case rel => exact ⟨k + 1, (c + 0 + 0) / 1000, acc ++ [(c + 0 + 0) % 1000], by go_num, val_int (by omega), by omega, by simp [HL.out], HO1.out, mem_snoc HD.out (Nat.mod_lt _ (by omega)), (by rw [dv_snoc, HL.out, HTX.out, HTY.out, Nat.pow_succ]; have := HST.out; omega), HB1.out, (by have := HKB.out; omega), (.inr ⟨by have := HKM.out; omega, by omega, by rw [List.getLast?_concat, show (c + 0 + 0) % 1000 = 1 by omega]⟩)⟩
          case measure => simp [intOf]; omega
        · obtain ⟨A', c', rfl, R⟩ := Row.of_own hown
          have HR := Lib.hid R
          have HE := Lib.hid (show dv acc = dv xs + dv ys by
            have := HS.out
            rw [List.take_of_length_le (by rw [hx.len]; omega), List.take_of_length_le (by rw [hy.len]; omega), show c = 0 by omega] at this
            omega)
          have HKX := Lib.hid (show acc.length ≤ max n m ∨ acc.getLast? = some 1 by
            rcases HKM.out with h | ⟨_, _, h⟩
            · exact .inl (by have := HL.out; omega)
            · exact .inr h)
          clear hown R
          go_wp2_with fail
          go_ret
          exact ⟨A', _, c', acc, rfl, HR.out, ⟨HE.out, HD.out, by have := HL.out; omega, HKX.out⟩, HBEL.out⟩
end Go.Proofs.YtgojfonnikgboaaGreatDoor
namespace Corr
set_option maxRecDepth 8000
open Go Go.RowKit
theorem dv_lt {o : List Nat} (h : ∀ x ∈ o, x < 1000) : dv o < 1000 ^ o.length := by
  induction o with
  | nil => simp [dv]
  | cons x r ih =>
    have h1 := h x List.mem_cons_self
    have h2 := ih (fun y hy => h y (List.mem_cons_of_mem _ hy))
    simp only [dv, List.length_cons, Nat.pow_succ]
    omega
/-- One place of a difference: d is due, x above, y below. -/
theorem minus_step {p d s a b : Nat} (h : s + b = a + p * d) (x y r d' : Nat) (hr : r + d + y = x + 1000 * d') : (s + p * r) + (b + p * y) = (a + p * x) + p * 1000 * d' := by
  have h2 : p * (r + d + y) = p * (x + 1000 * d') := by rw [hr]
  rw [Nat.mul_add, Nat.mul_add, Nat.mul_add, ← Nat.mul_assoc] at h2
  omega
/-- A sign, but not of nought. -/
def nzB (s : Bool) (n : Nat) : Bool := s && decide (n ≠ 0)
/-- A row without a nought at its end is its number's row. -/
theorem digs_dv : ∀ (l : List Nat), (∀ x ∈ l, x < 1000) → (∀ x, l.getLast? = some x → x ≠ 0) → l = digs (dv l)
  | [], _, _ => by rw [show dv [] = 0 from rfl, digs_zero]
  | x :: r, h, hl => by
    have h1 := h x List.mem_cons_self
    have ih : r = digs (dv r) := by
      refine digs_dv r (fun y hy => h y (List.mem_cons_of_mem _ hy)) (fun y hy => ?_)
      cases r with
      | nil => cases hy
      | cons z t => exact hl y (by rw [List.getLast?_cons_cons]; exact hy)
    have hpos : 0 < dv (x :: r) := by
      cases r with
      | nil =>
        have := hl x rfl
        simp only [dv]; omega
      | cons z t =>
        have hz : 0 < dv (z :: t) := by
          rcases Nat.eq_zero_or_pos (dv (z :: t)) with h0 | h0
          · rw [h0, digs_zero] at ih; cases ih
          · exact h0
        simp only [dv] at hz ⊢; omega
    rw [digs_pos hpos]
    simp only [dv]
    rw [show (x + 1000 * dv r) % 1000 = x by omega, show (x + 1000 * dv r) / 1000 = dv r by omega, ← ih]
end Corr
namespace Go.Proofs.YtgojfonnikgboaaGreatDoor
set_option maxRecDepth 8000
open Go.RowKit Corr
set_option linter.unusedVariables false

set_option maxRecDepth 4000 in
set_option maxHeartbeats 2000000 in
theorem minus_any (A B : Option Addr) (n m ca cb : Nat) (xs ys : List Nat) (w : World) (hx : Row w A n ca xs) (hy : Row w B m cb ys) (dx : ∀ x ∈ xs, x < 1000) (dy : ∀ y ∈ ys, y < 1000) (hn : n ≤ 10000) (hmn : m ≤ n) (hle : dv ys ≤ dv xs) :
    Calls Tryz.prog 74 #[.slice A n ca, .slice B m cb] w (RetRow w fun o => dv o = dv xs - dv ys ∧ (∀ x ∈ o, x < 1000) ∧ o.length = n) := by
  obtain ⟨i0, hi, hz0, hz1, hz2⟩ := info_parts info_int
  have HLE := Lib.hid hle
  clear hle
  go_enter Tryz.func74, Tryz.ntmps74
  go_wp2_with fail
  go_loopw [5, 6, 7] (fun v s t wr => ∃ (k c : Nat) (acc : List Nat), t = .int .i64 (k : Int) ∧ s = .int .i64 (c : Int) ∧ c ≤ 1 ∧ acc.length = k ∧ wr.ownsRow w.heap.size 3 1 v acc.length (acc.map encN) ∧ (∀ x ∈ acc, x < 1000) ∧ dv acc + dv (ys.take k) = dv (xs.take k) + 1000 ^ k * c ∧ Below w.heap.size w wr ∧ k ≤ n) (fun _ _ t _ => n - (intOf t).toNat)
  case atStart => exact ⟨0, 0, [], rfl, rfl, by omega, rfl, ⟨rfl, .inl ⟨rfl, rfl⟩⟩, (fun x hx => by cases hx), by simp [dv], Below.refl _ _, by omega⟩
  case round =>
    obtain ⟨k, c, acc, rfl, rfl, hc1, hl, hown, hd, hs, hbel, hkb⟩ := hrel
    have HL := Lib.hid hl
    have HD := Lib.hid hd
    have HS := Lib.hid hs
    have HBEL := Lib.hid hbel
    have hbel0 := hbel.size
    have hal : acc.length ≤ n := by omega
    have HDX := Lib.hid dx
    have HDY := Lib.hid dy
    clear hl hd hs hbel dx dy
    by_cases ha : k < n
    · by_cases hb : k < m
      · obtain ⟨ga, oa, x, hA, hxk, hx1, hxc⟩ := hx.get HDX.out ha
        subst hA
        have cx := hxc wr HBEL.out
        clear hxc
        obtain ⟨gb, ob, y, hB, hyk, hy1, hyc⟩ := hy.get HDY.out hb
        subst hB
        have cy := hyc wr HBEL.out
        clear hyc
        by_cases ht : (x : Int) - (c : Int) - (y : Int) < 0
        · have HST := Lib.hid (minus_step HS.out x y (x + 1000 - (c + y)) 1 (by omega))
          have HTX := Lib.hid (dv_take hxk)
          have HTY := Lib.hid (dv_take hyk)
          have hlt : x + 1000 - (c + y) < 1000 := by omega
          have HDN := Lib.hid (show ((x + 1000 - (c + y) : Nat) : Int) = (x : Int) - (c : Int) - (y : Int) + 1000 by omega)
          clear hxk
          clear hyk
          go_wp2_with (at_builtin; refine wpList_append_own _ rfl _ _ 50 rfl w.heap.size 3 i0 (.int .i64 0) 1 8 Tryz.underlying50 hi hz0 hz1 hz2 rfl (by decide) _ _ _ rfl (hown.alloc _) ⟨wr.heap.size, 0, none⟩ 1 1 [.int .i64 ((x : Int) - (c : Int) - (y : Int) + 1000)] rfl rfl ?_ ?_ ?_ ?_ ?_ ?_)
          any_goals first
            | with_reducible exact new_one _ _ _
            | (simp [Value.oneCell']; done)
            | (unfold maxLen; omega)
            | omega
            | (simp; omega)
          intro v' w1 hown1 hgrow _
          have HB1 := Lib.hid ((HBEL.out.alloc hbel0 _).grown hgrow (by simp; omega) (own_block hown))
          have HO1 := Lib.hid (own_snoc (x := x + 1000 - (c + y)) (by rw [show encN (x + 1000 - (c + y)) = .int .i64 ((x : Int) - (c : Int) - (y : Int) + 1000) by unfold encN; rw [HDN.out]]; exact hown1))
          clear hown1 hgrow hown HBEL
          go_wp2_with fail
          go_roundw
          case rel => exact ⟨k + 1, 1, acc ++ [x + 1000 - (c + y)], by go_num, rfl, by omega, by simp [HL.out], HO1.out, mem_snoc HD.out hlt, (by rw [dv_snoc, HL.out, HTX.out, HTY.out, Nat.pow_succ]; have := HST.out; omega), HB1.out, by omega⟩
          case measure => simp [intOf]; omega
        · have HST := Lib.hid (minus_step HS.out x y (x - (c + y)) 0 (by omega))
          have HTX := Lib.hid (dv_take hxk)
          have HTY := Lib.hid (dv_take hyk)
          have hlt : x - (c + y) < 1000 := by omega
          have HDN := Lib.hid (show ((x - (c + y) : Nat) : Int) = (x : Int) - (c : Int) - (y : Int) by omega)
          clear hxk
          clear hyk
          go_wp2_with (at_builtin; refine wpList_append_own _ rfl _ _ 50 rfl w.heap.size 3 i0 (.int .i64 0) 1 8 Tryz.underlying50 hi hz0 hz1 hz2 rfl (by decide) _ _ _ rfl (hown.alloc _) ⟨wr.heap.size, 0, none⟩ 1 1 [.int .i64 ((x : Int) - (c : Int) - (y : Int))] rfl rfl ?_ ?_ ?_ ?_ ?_ ?_)
          any_goals first
            | with_reducible exact new_one _ _ _
            | (simp [Value.oneCell']; done)
            | (unfold maxLen; omega)
            | omega
            | (simp; omega)
          intro v' w1 hown1 hgrow _
          have HB1 := Lib.hid ((HBEL.out.alloc hbel0 _).grown hgrow (by simp; omega) (own_block hown))
          have HO1 := Lib.hid (own_snoc (x := x - (c + y)) (by rw [show encN (x - (c + y)) = .int .i64 ((x : Int) - (c : Int) - (y : Int)) by unfold encN; rw [HDN.out]]; exact hown1))
          clear hown1 hgrow hown HBEL
          go_wp2_with fail
          go_roundw
          case rel => exact ⟨k + 1, 0, acc ++ [x - (c + y)], by go_num, rfl, by omega, by simp [HL.out], HO1.out, mem_snoc HD.out hlt, (by rw [dv_snoc, HL.out, HTX.out, HTY.out, Nat.pow_succ]; have := HST.out; omega), HB1.out, by omega⟩
          case measure => simp [intOf]; omega
      · obtain ⟨ga, oa, x, hA, hxk, hx1, hxc⟩ := hx.get HDX.out ha
        subst hA
        have cx := hxc wr HBEL.out
        clear hxc
        by_cases ht : x < c
        · have HST := Lib.hid (minus_step HS.out x 0 (x + 1000 - (c)) 1 (by omega))
          have HTX := Lib.hid (dv_take hxk)
          have HTY := Lib.hid (dv_past (xs := ys) (k := k) (by rw [hy.len]; omega))
          have hlt : x + 1000 - (c) < 1000 := by omega
          have HDN := Lib.hid (show ((x + 1000 - (c) : Nat) : Int) = (x : Int) - (c : Int) + 1000 by omega)
          clear hxk
          go_wp2_with (at_builtin; refine wpList_append_own _ rfl _ _ 50 rfl w.heap.size 3 i0 (.int .i64 0) 1 8 Tryz.underlying50 hi hz0 hz1 hz2 rfl (by decide) _ _ _ rfl (hown.alloc _) ⟨wr.heap.size, 0, none⟩ 1 1 [.int .i64 ((x : Int) - (c : Int) + 1000)] rfl rfl ?_ ?_ ?_ ?_ ?_ ?_)
          any_goals first
            | with_reducible exact new_one _ _ _
            | (simp [Value.oneCell']; done)
            | (unfold maxLen; omega)
            | omega
            | (simp; omega)
          intro v' w1 hown1 hgrow _
          have HB1 := Lib.hid ((HBEL.out.alloc hbel0 _).grown hgrow (by simp; omega) (own_block hown))
          have HO1 := Lib.hid (own_snoc (x := x + 1000 - (c)) (by rw [show encN (x + 1000 - (c)) = .int .i64 ((x : Int) - (c : Int) + 1000) by unfold encN; rw [HDN.out]]; exact hown1))
          clear hown1 hgrow hown HBEL
          go_wp2_with fail
          go_roundw
          case rel => exact ⟨k + 1, 1, acc ++ [x + 1000 - (c)], by go_num, rfl, by omega, by simp [HL.out], HO1.out, mem_snoc HD.out hlt, (by rw [dv_snoc, HL.out, HTX.out, HTY.out, Nat.pow_succ]; have := HST.out; omega), HB1.out, by omega⟩
          case measure => simp [intOf]; omega
        · have HST := Lib.hid (minus_step HS.out x 0 (x - (c)) 0 (by omega))
          have HTX := Lib.hid (dv_take hxk)
          have HTY := Lib.hid (dv_past (xs := ys) (k := k) (by rw [hy.len]; omega))
          have hlt : x - (c) < 1000 := by omega
          have HDN := Lib.hid (show ((x - (c) : Nat) : Int) = (x : Int) - (c : Int) by omega)
          clear hxk
          go_wp2_with (at_builtin; refine wpList_append_own _ rfl _ _ 50 rfl w.heap.size 3 i0 (.int .i64 0) 1 8 Tryz.underlying50 hi hz0 hz1 hz2 rfl (by decide) _ _ _ rfl (hown.alloc _) ⟨wr.heap.size, 0, none⟩ 1 1 [.int .i64 ((x : Int) - (c : Int))] rfl rfl ?_ ?_ ?_ ?_ ?_ ?_)
          any_goals first
            | with_reducible exact new_one _ _ _
            | (simp [Value.oneCell']; done)
            | (unfold maxLen; omega)
            | omega
            | (simp; omega)
          intro v' w1 hown1 hgrow _
          have HB1 := Lib.hid ((HBEL.out.alloc hbel0 _).grown hgrow (by simp; omega) (own_block hown))
          have HO1 := Lib.hid (own_snoc (x := x - (c)) (by rw [show encN (x - (c)) = .int .i64 ((x : Int) - (c : Int)) by unfold encN; rw [HDN.out]]; exact hown1))
          clear hown1 hgrow hown HBEL
          go_wp2_with fail
          go_roundw
          case rel => exact ⟨k + 1, 0, acc ++ [x - (c)], by go_num, rfl, by omega, by simp [HL.out], HO1.out, mem_snoc HD.out hlt, (by rw [dv_snoc, HL.out, HTX.out, HTY.out, Nat.pow_succ]; have := HST.out; omega), HB1.out, by omega⟩
          case measure => simp [intOf]; omega
    · obtain ⟨A', c', rfl, R⟩ := Row.of_own hown
      have HR := Lib.hid R
      have HE := Lib.hid (show dv acc = dv xs - dv ys by
        have h1 := HS.out
        have h2 := dv_lt HD.out
        have h3 := HLE.out
        rw [HL.out] at h2
        rw [List.take_of_length_le (l := xs) (by rw [hx.len]; omega), List.take_of_length_le (l := ys) (by rw [hy.len]; omega)] at h1
        rcases (show c = 0 ∨ c = 1 by omega) with h | h
        · rw [h] at h1; omega
        · rw [h] at h1; omega)
      clear hown R
      go_wp2_with fail
      go_ret
      exact ⟨A', _, c', acc, rfl, HR.out, ⟨HE.out, HD.out, by have := HL.out; omega⟩, HBEL.out⟩

set_option maxRecDepth 4000 in
set_option maxHeartbeats 1000000 in
theorem short_at (s : Bool) (A : Option Addr) (n c : Nat) (xs : List Nat) (w : World) (hx : Row w A n c xs) (dx : ∀ x ∈ xs, x < 1000) (hn : n ≤ 100000) :
    Calls Tryz.prog 53 #[.bool s, .slice A n c] w (fun e w' => ∃ k, e = .returned (.agg #[.bool (nzB s (dv xs)), .slice A k c]) ∧ Row w' A k c (digs (dv xs)) ∧ Below w.heap.size w w') := by
  have HDX := Lib.hid dx
  clear dx
  have hcap := hx.cap
  generalize hbb : nzB s (dv xs) = bb
  have HBB := Lib.hid hbb
  clear hbb
  go_enter Tryz.func53, Tryz.ntmps53
  go_wp2_with fail
  go_loop [1] (fun v => ∃ j : Nat, v = .slice A j c ∧ j ≤ n ∧ dv (xs.take j) = dv xs) (fun v => match v with | .slice _ j _ => j | _ => 0)
  case atStart => exact ⟨n, rfl, Nat.le_refl _, by rw [List.take_of_length_le (by rw [hx.len]; exact Nat.le_refl _)]⟩
  case round =>
    obtain ⟨j, rfl, hj, hd⟩ := hrel
    have HD := Lib.hid hd
    clear hd
    by_cases h0 : j = 0
    · subst h0
      have hz : dv xs = 0 := by rw [← HD.out]; rfl
      have HZ := Lib.hid (show digs (dv xs) = [] by rw [hz, digs_zero])
      have HB := Lib.hid (show bb = false by rw [← HBB.out, hz]; simp [nzB])
      clear hz
      cases s
      all_goals
        go_wp2_with fail
        refine bodyPost_ret (v := .agg #[.bool false, .slice A 0 c]) (by simp [results, Tryz.results53, go_sem]) rfl ⟨0, by rw [HB.out], ⟨by rw [HZ.out]; rfl, Nat.zero_le _, fun h => absurd h (by omega)⟩, ?_⟩
        exact (Below.refl _ _).alloc (Nat.le_refl _) _
    · obtain ⟨i, rfl⟩ : ∃ i, j = i + 1 := ⟨j - 1, by omega⟩
      clear h0
      obtain ⟨g, off, x, hA, hxk, hx1, hxc⟩ := hx.get HDX.out (k := i) (by omega)
      subst hA
      have cx := hxc (w.alloc (.cells #[.bool false, .slice none 0 0] 52)) ((Below.refl _ _).alloc (Nat.le_refl _) _)
      clear hxc
      have HXK := Lib.hid hxk
      clear hxk
      by_cases hx0 : x = 0
      · have t0 : ((x : Int) == 0) = true := by rw [beq_iff_eq]; omega
        have HNX := Lib.hid (show dv (xs.take i) = dv xs by rw [← HD.out, dv_take HXK.out, hx0]; omega)
        clear hx0
        go_wp2_with fail
        go_round
        case rel => exact ⟨i, by go_num, by omega, HNX.out⟩
        case measure => simp
      · have t0 : ((x : Int) == 0) = false := by rw [beq_eq_false_iff_ne]; omega
        have hpos : dv xs ≠ 0 := by
          rw [← HD.out, dv_take HXK.out]
          have h1 : 0 < 1000 ^ i * x := Nat.mul_pos (Nat.pow_pos (by omega)) (by omega)
          omega
        have hl : xs.take (i + 1) = digs (dv xs) := by
          rw [← HD.out]
          refine digs_dv _ (fun y hy => HDX.out y (List.mem_of_mem_take hy)) (fun y hy => ?_)
          have hle : i < xs.length := (List.getElem?_eq_some_iff.1 HXK.out).1
          rw [List.take_add_one, HXK.out] at hy
          simp at hy
          omega
        have HL := Lib.hid hl
        have hlen : (digs (dv xs)).length = i + 1 := by rw [← hl, List.length_take, hx.len]; omega
        have HLN := Lib.hid hlen
        have HB := Lib.hid (show bb = s by rw [← HBB.out]; simp [nzB, hpos])
        have HR : Hid (∀ w', Below w.heap.size w w' → Row w' (some ⟨g, off, none⟩) (i + 1) c (digs (dv xs))) := fun w' hb => ⟨HLN.out, by omega, fun _ => by
          obtain ⟨g', off', hA', hg', hc'⟩ := hx.at_ (by omega)
          injection hA' with hA'
          injection hA' with e1 e2 _
          subst e1 e2
          refine ⟨g, off, rfl, Nat.lt_of_lt_of_le hg' hb.size, fun q y hy => ?_⟩
          rw [hb.cell (p := ⟨g, off + q, none⟩) hg']
          refine hc' q y ?_
          rw [← HL.out, List.getElem?_take] at hy
          split at hy
          · exact hy
          · cases hy⟩
        clear hx0 hpos hl hlen
        cases s
        · go_wp2_with fail
          refine bodyPost_ret (v := .agg #[.bool false, .slice (some ⟨g, off, none⟩) (i + 1) c]) (by simp [results, Tryz.results53, go_sem]) rfl ⟨_, by rw [HB.out], HR.out _ ?_, ?_⟩
          · exact (Below.refl _ _).alloc (Nat.le_refl _) _
          · exact (Below.refl _ _).alloc (Nat.le_refl _) _
        · go_wp2_with fail
          refine bodyPost_ret (v := .agg #[.bool true, .slice (some ⟨g, off, none⟩) (i + 1) c]) (by simp [results, Tryz.results53, go_sem]) rfl ⟨_, by rw [HB.out], HR.out _ ?_, ?_⟩
          · exact (Below.refl _ _).alloc (Nat.le_refl _) _
          · exact (Below.refl _ _).alloc (Nat.le_refl _) _
theorem short_any (s : Bool) (A : Option Addr) (n c : Nat) (xs : List Nat) (w : World) (hx : Row w A n c xs) (dx : ∀ x ∈ xs, x < 1000) (hn : n ≤ 100000) :
    Calls Tryz.prog 53 #[.bool s, .slice A n c] w (RetN w (nzB s (dv xs)) (digs (dv xs))) :=
  (short_at s A n c xs w hx dx hn).mono fun e w' ⟨k, h1, h2, h3⟩ => ⟨A, k, c, h1, h2, h3⟩
end Go.Proofs.YtgojfonnikgboaaGreatDoor
namespace Corr
set_option maxRecDepth 8000
open Go Go.RowKit
theorem digs_low : ∀ (n : Nat), 0 < n → 1000 ^ ((digs n).length - 1) ≤ n := by
  intro n
  induction n using Nat.strongRecOn with
  | _ n ih =>
    intro hn
    rw [digs_pos hn, List.length_cons, Nat.add_sub_cancel]
    by_cases h : n / 1000 = 0
    · rw [h, digs_zero]; simp; omega
    · have h1 := ih (n / 1000) (by omega) (by omega)
      have h2 : (digs (n / 1000)).length ≠ 0 := by rw [digs_pos (by omega)]; simp
      have h3 : 1000 ^ (digs (n / 1000)).length = 1000 ^ ((digs (n / 1000)).length - 1) * 1000 := by rw [← Nat.pow_succ]; congr 1; omega
      rw [h3]
      omega
theorem digs_lt_of_len {a b : Nat} (h : (digs a).length < (digs b).length) : a < b := by
  have hb : 0 < b := by
    rcases Nat.eq_zero_or_pos b with e | e
    · rw [e, digs_zero] at h; simp at h
    · exact e
  have h1 := dv_lt (digs_lt a)
  rw [dv_digs] at h1
  have h2 := digs_low b hb
  have h3 : 1000 ^ (digs a).length ≤ 1000 ^ ((digs b).length - 1) := Nat.pow_le_pow_right (by omega) (by omega)
  omega
/-- Rows of one length that are the same behind a place are as they are at it. -/
theorem dv_place {xs ys : List Nat} {i x y : Nat} (hx : xs[i]? = some x) (hy : ys[i]? = some y) (dx : ∀ z ∈ xs, z < 1000) (hd : xs.drop (i + 1) = ys.drop (i + 1)) (hlt : x < y) : dv xs < dv ys := by
  have hlx : i < xs.length := (List.getElem?_eq_some_iff.1 hx).1
  have hly : i < ys.length := (List.getElem?_eq_some_iff.1 hy).1
  have h1 : dv xs = dv (xs.take (i + 1)) + 1000 ^ (i + 1) * dv (xs.drop (i + 1)) := by
    have h := dv_append (xs.take (i + 1)) (xs.drop (i + 1))
    rw [List.take_append_drop, List.length_take, Nat.min_eq_left (by omega)] at h
    exact h
  have h2 : dv ys = dv (ys.take (i + 1)) + 1000 ^ (i + 1) * dv (ys.drop (i + 1)) := by
    have h := dv_append (ys.take (i + 1)) (ys.drop (i + 1))
    rw [List.take_append_drop, List.length_take, Nat.min_eq_left (by omega)] at h
    exact h
  rw [h1, h2, hd, dv_take hx, dv_take hy]
  have h3 : dv (xs.take i) < 1000 ^ (xs.take i).length := dv_lt (fun z hz => dx z (List.mem_of_mem_take hz))
  rw [List.length_take, Nat.min_eq_left (by omega)] at h3
  have h4 : 1000 ^ i * (x + 1) ≤ 1000 ^ i * y := Nat.mul_le_mul_left _ hlt
  rw [Nat.mul_add, Nat.mul_one] at h4
  omega
theorem digs_inj {a b : Nat} (h : digs a = digs b) : a = b := by rw [← dv_digs a, h, dv_digs]
/-- What a call leaves that compares, and only draws. -/
def RetCmp (w : World) (z : Int) (e : Ending) (w' : World) : Prop := e = .returned (.int .i64 z) ∧ ∃ n, w' = w.drewN n
end Corr
namespace Go.Proofs.YtgojfonnikgboaaGreatDoor
set_option maxRecDepth 8000
open Go.RowKit Corr
set_option linter.unusedVariables false

set_option maxHeartbeats 1000000 in
theorem against_any (A B : Option Addr) (n m ca cb a b : Nat) (w : World) (hx : Row w A n ca (digs a)) (hy : Row w B m cb (digs b)) (hn : n ≤ 100000) (hm : m ≤ 100000) :
    Calls Tryz.prog 73 #[.slice A n ca, .slice B m cb] w (RetCmp w (cmpI a b)) := by
  generalize hz : cmpI (a : Int) (b : Int) = z
  have HZ := Lib.hid hz
  clear hz
  by_cases hne : n = m
  · subst hne
    have t1 : ((n : Int) != (n : Int)) = false := by simp
    go_enter Tryz.func73, Tryz.ntmps73
    go_wp2_with fail
    go_loopw [5] (fun t wr => ∃ k : Nat, t = .int .i64 ((k : Int) - 1) ∧ k ≤ n ∧ (digs a).drop k = (digs b).drop k ∧ ∃ q, wr = w.drewN q) (fun t _ => ((intOf t) + 1).toNat)
    case atStart => exact ⟨n, rfl, Nat.le_refl _, by rw [List.drop_of_length_le (by rw [hx.len]; exact Nat.le_refl _), List.drop_of_length_le (by rw [hy.len]; exact Nat.le_refl _)], 0, rfl⟩
    case round =>
      obtain ⟨k, rfl, hk, hd, q, rfl⟩ := hrel
      have HD := Lib.hid hd
      clear hd
      by_cases h0 : k = 0
      · subst h0
        have HE := Lib.hid (show z = 0 by
          rw [← HZ.out]
          have h := HD.out
          rw [List.drop_zero, List.drop_zero] at h
          exact cmpI_eq (by rw [digs_inj h]))
        go_wp2_with fail
        go_ret
        exact ⟨by rw [HE.out]; rfl, q, rfl⟩
      · obtain ⟨i, rfl⟩ : ∃ i, k = i + 1 := ⟨k - 1, by omega⟩
        clear h0
        obtain ⟨ga, oa, x, hA, hxk, hx1, hxc⟩ := hx.get (digs_lt a) (k := i) (by omega)
        obtain ⟨gb, ob, y, hB, hyk, hy1, hyc⟩ := hy.get (digs_lt b) (k := i) (by omega)
        subst hA hB
        have cx := hxc w (Below.refl _ _)
        have cy := hyc w (Below.refl _ _)
        have HXK := Lib.hid hxk
        have HYK := Lib.hid hyk
        clear hxc hyc hxk hyk
        have i1 : (i : Int) < (n : Int) := by omega
        have i2 : (0 : Int) ≤ (i : Int) := by omega
        simp only [show (((i + 1 : Nat) : Nat) : Int) - 1 = (i : Int) by omega]
        by_cases hxy : x = y
        · subst hxy
          have tne : ((x : Int) != (x : Int)) = false := by simp
          have HN := Lib.hid (show (digs a).drop i = (digs b).drop i by
            rw [List.drop_eq_getElem_cons (l := digs a) (by rw [hx.len]; omega), List.drop_eq_getElem_cons (l := digs b) (by rw [hy.len]; omega), HD.out]
            rw [(List.getElem?_eq_some_iff.1 HXK.out).2, (List.getElem?_eq_some_iff.1 HYK.out).2])
          go_wp2_with fail
          go_quiet (fail)
          go_wp2_with fail
          go_roundw
          case rel => exact ⟨i, rfl, by omega, HN.out, _, rfl⟩
          case measure => simp [intOf]
        · have tne : ((x : Int) != (y : Int)) = true := by rw [bne_iff_ne]; omega
          by_cases hlt : x < y
          · have HE := Lib.hid (show z = -1 by
              rw [← HZ.out]
              have h := dv_place HXK.out HYK.out (digs_lt a) HD.out hlt
              rw [dv_digs, dv_digs] at h
              exact cmpI_lt (by omega))
            clear hxy
            go_wp2_with fail
            go_quiet (fail)
            go_wp2_with fail
            go_quiet (fail)
            go_wp2_with fail
            go_ret
            exact ⟨by rw [HE.out]; rfl, _, by rw [World.drewN_drewN, World.drewN_drewN]⟩
          · have HE := Lib.hid (show z = 1 by
              rw [← HZ.out]
              have h := dv_place HYK.out HXK.out (digs_lt b) HD.out.symm (by omega)
              rw [dv_digs, dv_digs] at h
              exact cmpI_gt (by omega))
            have hge : y < x := by omega
            clear hxy hlt
            go_wp2_with fail
            go_quiet (fail)
            go_wp2_with fail
            go_quiet (fail)
            go_wp2_with fail
            go_ret
            exact ⟨by rw [HE.out]; rfl, _, by rw [World.drewN_drewN, World.drewN_drewN]⟩
  · have t1 : ((n : Int) != (m : Int)) = true := by rw [bne_iff_ne]; omega
    by_cases hlt : n < m
    · have HE := Lib.hid (show z = -1 by
        rw [← HZ.out]
        have h := digs_lt_of_len (a := a) (b := b) (by rw [hx.len, hy.len]; exact hlt)
        exact cmpI_lt (by omega))
      clear hne
      go_enter Tryz.func73, Tryz.ntmps73
      go_wp2_with fail
      go_ret
      exact ⟨by rw [HE.out]; rfl, 0, rfl⟩
    · have HE := Lib.hid (show z = 1 by
        rw [← HZ.out]
        have h := digs_lt_of_len (a := b) (b := a) (by rw [hx.len, hy.len]; omega)
        exact cmpI_gt (by omega))
      have hge : m < n := by omega
      clear hne hlt
      go_enter Tryz.func73, Tryz.ntmps73
      go_wp2_with fail
      go_ret
      exact ⟨by rw [HE.out]; rfl, 0, rfl⟩
end Go.Proofs.YtgojfonnikgboaaGreatDoor
namespace Corr
set_option maxRecDepth 8000
open Go Go.RowKit
/-- A block that is just these two cells, and may be written. -/
structure Box2 (w : World) (k : Nat) (a b : Value) : Prop where
  blk : ∃ T, w.heap[k]? = some (.cells #[a, b] T (0, 0))
theorem Box2.c0 {w : World} {k : Nat} {a b : Value} (h : Box2 w k a b) : w.cell? ⟨k, 0, none⟩ = some a := by
  obtain ⟨T, h⟩ := h.blk; rw [Joins.cell_of_block h]; rfl
theorem Box2.c1 {w : World} {k : Nat} {a b : Value} (h : Box2 w k a b) : w.cell? ⟨k, 1, none⟩ = some b := by
  obtain ⟨T, h⟩ := h.blk; rw [Joins.cell_of_block h]; rfl
theorem Box2.f {w : World} {k : Nat} {a b : Value} (h : Box2 w k a b) (i : Nat) : w.frozen? ⟨k, i, none⟩ = false := by
  obtain ⟨T, h⟩ := h.blk; exact Joins.unfrozen_of_block h _
theorem Box2.sz {w : World} {k : Nat} {a b : Value} (h : Box2 w k a b) : k < w.heap.size := by
  obtain ⟨T, h⟩ := h.blk; exact (Array.getElem?_eq_some_iff.1 h).1
theorem Box2.keep {W w1 : World} {k : Nat} {a b : Value} (h : Box2 W k a b) (hb : Below W.heap.size W w1) : Box2 w1 k a b := by
  have hk := h.sz
  obtain ⟨T, h⟩ := h.blk
  exact ⟨T, by rw [hb.block k hk]; exact h⟩
theorem Box2.new (w : World) (a b : Value) (T : TypeId) : Box2 (w.alloc (.cells #[a, b] T)) w.heap.size a b := ⟨T, heapNew w _⟩
theorem Box2.alloc {w : World} {k : Nat} {a b : Value} (h : Box2 w k a b) (o : Obj) : Box2 (w.alloc o) k a b :=
  h.keep ((Below.refl _ _).alloc (Nat.le_refl _) _)
theorem Box2.drew {w : World} {k : Nat} {a b : Value} (h : Box2 w k a b) : Box2 w.drew k a b := h.keep ((Below.refl _ _).drew)
theorem Box2.far {w : World} {k g : Nat} {a b : Value} (h : Box2 w k a b) (hg : k ≠ g) (u v : Value) : Box2 ((w.setCell ⟨g, 0, none⟩ u).setCell ⟨g, 1, none⟩ v) k a b := by
  obtain ⟨T, h⟩ := h.blk
  exact ⟨T, by rw [Below.heap_setCell _ _ _ _ hg, Below.heap_setCell _ _ _ _ hg]; exact h⟩
theorem Box2.stored {w : World} {k : Nat} {a b : Value} (h : Box2 w k a b) (u v : Value) : Box2 ((w.setCell ⟨k, 0, none⟩ u).setCell ⟨k, 1, none⟩ v) k u v := by
  obtain ⟨T, h⟩ := h.blk
  exact ⟨T, by rw [Joins.block_setCell (Joins.block_setCell h u) v]; rfl⟩
/-- Such a block, a truth and a slice, is no row's. -/
theorem Box2.ne_row {w : World} {g n c : Nat} {s : Bool} {v : Value} {A : Option Addr} {xs : List Nat} (h : Box2 w g (.bool s) v) (hv : ∀ k z, v ≠ .int k z) (r : Row w A n c xs) : 0 < n → ∀ k off, A = some ⟨k, off, none⟩ → k ≠ g := by
  intro hn k off hA e
  subst e
  obtain ⟨k', off', hA', _, hc⟩ := r.at_ hn
  rw [hA] at hA'
  injection hA' with hA'
  injection hA' with e1 e2 _
  subst e1 e2
  have hl : 0 < xs.length := by rw [r.len]; exact hn
  have h0 := hc 0 _ (List.getElem?_eq_getElem hl)
  obtain ⟨T, hb⟩ := h.blk
  rw [Joins.cell_of_block hb, Nat.add_zero] at h0
  match off, h0 with
  | 0, h0 => simp at h0
  | 1, h0 => simp at h0; exact hv _ _ h0
  | off + 2, h0 => simp at h0
theorem Row.alloc {w : World} {A : Option Addr} {n c : Nat} {xs : List Nat} (h : Row w A n c xs) (o : Obj) : Row (w.alloc o) A n c xs := h.keep ((Below.refl _ _).alloc (Nat.le_refl _) _)
theorem Row.drew {w : World} {A : Option Addr} {n c : Nat} {xs : List Nat} (h : Row w A n c xs) : Row w.drew A n c xs := h.keep ((Below.refl _ _).drew)
/-- A row stays where two cells of another block are written, one that is none of the row's. -/
theorem Row.far {w : World} {A : Option Addr} {n c g : Nat} {xs : List Nat} (h : Row w A n c xs) (hg : 0 < n → ∀ k off, A = some ⟨k, off, none⟩ → k ≠ g) (a b : Value) : Row ((w.setCell ⟨g, 0, none⟩ a).setCell ⟨g, 1, none⟩ b) A n c xs :=
  ⟨h.len, h.cap, fun hn => by
    obtain ⟨k, off, hA, hk, hc⟩ := h.at_ hn
    have hne := hg hn k off hA
    refine ⟨k, off, hA, by simp [go_sem]; omega, fun i x hx => ?_⟩
    have := hc i x hx
    simp [go_sem, this]⟩
theorem sgn_neg (s : Bool) (n : Nat) : nzB s n = negB (val s n) := by unfold nzB; rw [negB_val, Bool.eq_iff_iff]; simp
end Corr
namespace Go.Proofs.YtgojfonnikgboaaGreatDoor
set_option maxRecDepth 8000
open Go.RowKit Corr
set_option linter.unusedVariables false

theorem nneg_any (s : Bool) (A : Option Addr) (n c a : Nat) (z : Int) (w : World) (hx : Row w A n c (digs a)) (hn : n ≤ 100000) (hz : val s a = z) :
    Calls Tryz.prog 46 #[.agg #[.bool s, .slice A n c]] w (RetN w (negB (-z)) (digs (-z).natAbs)) := by
  have HB := Lib.hid (show nzB (!s) (dv (digs a)) = negB (-z) by rw [dv_digs, sgn_neg, neg_val, hz])
  have HA := Lib.hid (show dv (digs a) = (-z).natAbs by rw [dv_digs, ← hz, Int.natAbs_neg, natAbs_val])
  generalize negB (-z) = bb at *
  generalize (-z).natAbs = za at *
  have hX := (hx.alloc (.cells #[.bool s, .slice A n c] 52)).alloc (.cells #[.bool false, .slice none 0 0] 52)
  have R0 := Box2.new (w.alloc (.cells #[.bool s, .slice A n c] 52)) (.bool false) (.slice none 0 0) 52
  rw [size_alloc] at R0
  clear hz
  go_enter Tryz.func46, Tryz.ntmps46
  go_wp2_with fail
  refine (short_any _ _ _ _ _ _ hX (digs_lt a) hn).mono ?_
  rintro e w1 ⟨A', k', c', rfl, R, hb⟩
  rw [HB.out]
  rw [HA.out] at R
  have R1 := R0.keep hb
  have r0 := R1.c0; have r1 := R1.c1; have r2 := R1.f 0; have r3 := R1.f 1
  have B1 : Below w.heap.size w w1 := (((Below.refl _ _).alloc (Nat.le_refl _) _).alloc (by simp) _).trans (hb.mono (by simp; omega))
  have HR := Lib.hid (R.far (R1.ne_row (by intro k z h; cases h) R) (.bool bb) (.slice A' k' c'))
  clear hb R
  go_wp2_with fail
  refine bodyPost_ret (v := .agg #[.bool bb, .slice A' k' c']) (by simp [results, Tryz.results46, go_sem, r0, r1]) rfl ⟨A', k', c', rfl, HR.out, ?_⟩
  exact (B1.setCell (by simp) _).setCell (by simp) _

set_option maxHeartbeats 1000000 in

set_option maxHeartbeats 1000000 in

set_option maxHeartbeats 1000000 in

set_option maxHeartbeats 1000000 in

set_option maxHeartbeats 1000000 in
theorem nadd_same (s : Bool) (A B : Option Addr) (n m ca cb a b : Nat) (z : Int) (w : World) (hx : Row w A n ca (digs a)) (hy : Row w B m cb (digs b)) (hn : n ≤ 5000) (hm : m ≤ 5000) (hz : val s a + val s b = z) :
    Calls Tryz.prog 44 #[.agg #[.bool s, .slice A n ca], .agg #[.bool s, .slice B m cb]] w (RetN w (negB z) (digs z.natAbs)) := by
  have hzz : val s (a + b) = z := by rw [← hz, val_add]
  generalize hbb : negB z = bb
  generalize hza : z.natAbs = za
  have HBB := Lib.hid (show nzB s (dv (digs a) + dv (digs b)) = bb by rw [dv_digs, dv_digs, sgn_neg, hzz, hbb])
  have HZA := Lib.hid (show dv (digs a) + dv (digs b) = za by rw [dv_digs, dv_digs, ← hza, ← hzz, natAbs_val])
  clear hbb hza hz hzz
  have X0 := ((Box2.new w (.bool s) (.slice A n ca) 52).alloc (.cells #[.bool s, .slice B m cb] 52)).alloc (.cells #[.bool false, .slice none 0 0] 52)
  have Y0 := (Box2.new (w.alloc (.cells #[.bool s, .slice A n ca] 52)) (.bool s) (.slice B m cb) 52).alloc (.cells #[.bool false, .slice none 0 0] 52)
  have Z0 := Box2.new ((w.alloc (.cells #[.bool s, .slice A n ca] 52)).alloc (.cells #[.bool s, .slice B m cb] 52)) (.bool false) (.slice none 0 0) 52
  rw [size_alloc] at Y0
  rw [size_alloc, size_alloc] at Z0
  have hX := (((hx.alloc (.cells #[.bool s, .slice A n ca] 52)).alloc (.cells #[.bool s, .slice B m cb] 52)).alloc (.cells #[.bool false, .slice none 0 0] 52)).drew
  have hY := (((hy.alloc (.cells #[.bool s, .slice A n ca] 52)).alloc (.cells #[.bool s, .slice B m cb] 52)).alloc (.cells #[.bool false, .slice none 0 0] 52)).drew
  have BW : Below w.heap.size w (((w.alloc (.cells #[.bool s, .slice A n ca] 52)).alloc (.cells #[.bool s, .slice B m cb] 52)).alloc (.cells #[.bool false, .slice none 0 0] 52)) := (((Below.refl _ _).alloc (Nat.le_refl _) _).alloc (by simp) _).alloc (by simp; omega) _
  have t1 : (s == s) = true := by simp
  go_enter Tryz.func44, Tryz.ntmps44
  go_upto_region 2 with fail
  go_region_held3 (fun w' => w'.cell? ⟨w.heap.size, 0, none⟩ = some (.bool s) ∧ w'.cell? ⟨w.heap.size, 1, none⟩ = some (.slice A n ca) ∧ w'.cell? ⟨w.heap.size + 1, 1, none⟩ = some (.slice B m cb))
    (first | (with_reducible exact ⟨(XB.far (by omega) _ _).c0, (XB.far (by omega) _ _).c1, (YB.far (by omega) _ _).c1⟩) | (with_reducible exact ⟨(XB).c0, (XB).c1, (YB).c1⟩) | (with_reducible exact ⟨(XA).c0, (XA).c1, (YA).c1⟩) | (with_reducible exact ⟨(X0.drew).c0, (X0.drew).c1, (Y0.drew).c1⟩) | go_keep)
    (first
      | (go_at_call 52; refine (plus_any _ _ _ _ _ _ _ _ _ hX hY (digs_lt a) (digs_lt b) (by omega) (by omega)).mono ?_; rintro e wA ⟨A1, k1, c1, o, rfl, RO, ⟨o1, o2, o3⟩, hbA⟩; have HO := Lib.hid o1; clear o1; have HO2 := Lib.hid o2; clear o2; have XA := X0.drew.keep hbA; have YA := Y0.drew.keep hbA; have ZA := Z0.drew.keep hbA; have BA := BW.drew.trans (hbA.mono (by simp; omega)))
      | (go_at_call 53; refine (short_any _ _ _ _ _ _ RO HO2.out (by have := RO.len; omega)).mono ?_; rintro e wB ⟨A2, k2, c2, rfl, RB, hbB⟩; have XB := XA.keep hbB; have YB := YA.keep hbB; have ZB := ZA.keep hbB; have BB := BA.trans (hbB.mono BA.size); have z0 := ZB.c0; have z1 := ZB.c1; have z2 := ZB.f 0; have z3 := ZB.f 1))
  have HR := Lib.hid (RB.far (ZB.ne_row (by intro k z h; cases h) RB) (.bool (nzB (s) (dv o))) (.slice A2 k2 c2))
  clear RB
  go_wp2_with fail
  refine bodyPost_ret (v := .agg #[.bool (nzB (s) (dv o)), .slice A2 k2 c2]) (by simp [results, Tryz.results44, go_sem, z0, z1]) rfl ⟨A2, k2, c2, by rw [HO.out, HBB.out], by rw [← HZA.out, ← HO.out]; exact HR.out, ?_⟩
  exact (BB.setCell (by simp; omega) _).setCell (by simp; omega) _

theorem len_le {a b : Nat} (h : b ≤ a) : (digs b).length ≤ (digs a).length := by
  rcases Nat.lt_or_ge (digs a).length (digs b).length with h1 | h1
  · have := digs_lt_of_len h1; omega
  · exact h1
set_option maxHeartbeats 2000000 in
theorem nadd_apart (s s' : Bool) (A B : Option Addr) (n m ca cb a b : Nat) (z : Int) (w : World) (hx : Row w A n ca (digs a)) (hy : Row w B m cb (digs b)) (hn : n ≤ 5000) (hm : m ≤ 5000) (hs : s' = !s) (hz : val s a + val s' b = z) :
    Calls Tryz.prog 44 #[.agg #[.bool s, .slice A n ca], .agg #[.bool s', .slice B m cb]] w (RetN w (negB z) (digs z.natAbs)) := by
  have hAg := ((hx.alloc (.cells #[.bool s, .slice A n ca] 52)).alloc (.cells #[.bool s', .slice B m cb] 52)).alloc (.cells #[.bool false, .slice none 0 0] 52)
  have hBg := ((hy.alloc (.cells #[.bool s, .slice A n ca] 52)).alloc (.cells #[.bool s', .slice B m cb] 52)).alloc (.cells #[.bool false, .slice none 0 0] 52)
  have t1 : (s == s') = false := by rw [hs]; cases s <;> rfl
  generalize hbb : negB z = bb
  generalize hza : z.natAbs = za
  by_cases hlt : a < b
  · have hzz : val s' (b - a) = z := by rw [← hz, hs, val_apart' s a b (by omega)]
    have HBB := Lib.hid (show nzB s' (dv (digs b) - dv (digs a)) = bb by rw [dv_digs, dv_digs, sgn_neg, hzz, hbb])
    have HZA := Lib.hid (show dv (digs b) - dv (digs a) = za by rw [dv_digs, dv_digs, ← hza, ← hzz, natAbs_val])
    have HC := Lib.hid (cmpI_lt (show (a : Int) < b by omega))
    have HLE := Lib.hid (show dv (digs a) ≤ dv (digs b) by rw [dv_digs, dv_digs]; omega)
    have hnm : n ≤ m := by have := len_le (show a ≤ b by omega); rw [hx.len, hy.len] at this; exact this
    clear hbb hza hz hzz hs hlt
    go_enter Tryz.func44, Tryz.ntmps44
    go_wp2_with fail
    refine (against_any _ _ _ _ _ _ _ _ _ hAg hBg (by omega) (by omega)).mono ?_
    rintro e w1 ⟨rfl, q, rfl⟩
    rw [HC.out]
    clear hAg hBg
    go_upto_region 5 with fail
    have X0 := (((Box2.new w (.bool s) (.slice A n ca) 52).alloc (.cells #[.bool s', .slice B m cb] 52)).alloc (.cells #[.bool false, .slice none 0 0] 52)).keep (Joins.below_draws _ _ q)
    have Y0 := (Box2.new (w.alloc (.cells #[.bool s, .slice A n ca] 52)) (.bool s') (.slice B m cb) 52).alloc (.cells #[.bool false, .slice none 0 0] 52) |>.keep (Joins.below_draws _ _ q)
    have Z0 := (Box2.new ((w.alloc (.cells #[.bool s, .slice A n ca] 52)).alloc (.cells #[.bool s', .slice B m cb] 52)) (.bool false) (.slice none 0 0) 52).keep (Joins.below_draws _ _ q)
    rw [size_alloc] at Y0
    rw [size_alloc, size_alloc] at Z0
    have BW : Below w.heap.size w ((((w.alloc (.cells #[.bool s, .slice A n ca] 52)).alloc (.cells #[.bool s', .slice B m cb] 52)).alloc (.cells #[.bool false, .slice none 0 0] 52)).drewN q) := ((((Below.refl _ _).alloc (Nat.le_refl _) _).alloc (by simp) _).alloc (by simp; omega) _).trans (Joins.below_draws _ _ q)
    have sW := Z0.sz
    generalize (((w.alloc (.cells #[.bool s, .slice A n ca] 52)).alloc (.cells #[.bool s', .slice B m cb] 52)).alloc (.cells #[.bool false, .slice none 0 0] 52)).drewN q = W4 at *
    have X1 := (X0.stored (.bool s') (.slice B m cb)).far (g := w.heap.size + 1) (by omega) (.bool s) (.slice A n ca)
    have Y1 := (Y0.far (g := w.heap.size) (by omega) (.bool s') (.slice B m cb)).stored (.bool s) (.slice A n ca)
    have Z1 := (Z0.far (g := w.heap.size) (by omega) (.bool s') (.slice B m cb)).far (g := w.heap.size + 1) (by omega) (.bool s) (.slice A n ca)
    have BW1 := (((BW.setCell (p := ⟨w.heap.size, 0, none⟩) (by simp) (.bool s')).setCell (p := ⟨w.heap.size, 1, none⟩) (by simp) (.slice B m cb)).setCell (p := ⟨w.heap.size + 1, 0, none⟩) (by simp) (.bool s)).setCell (p := ⟨w.heap.size + 1, 1, none⟩) (by simp) (.slice A n ca)
    clear X0 Y0 Z0 BW sW
    generalize (((W4.setCell ⟨w.heap.size, 0, none⟩ (.bool s')).setCell ⟨w.heap.size, 1, none⟩ (.slice B m cb)).setCell ⟨w.heap.size + 1, 0, none⟩ (.bool s)).setCell ⟨w.heap.size + 1, 1, none⟩ (.slice A n ca) = W5 at *
    have X0 := X1
    have Y0 := Y1
    have Z0 := Z1
    have BW := BW1
    have sW := Z0.sz
    clear X1 Y1 Z1 BW1
    have hX := (hx.keep BW).drew
    have hY := (hy.keep BW).drew
    go_region_held3 (fun w' => w'.cell? ⟨w.heap.size, 0, none⟩ = some (.bool s') ∧ w'.cell? ⟨w.heap.size, 1, none⟩ = some (.slice B m cb) ∧ w'.cell? ⟨w.heap.size + 1, 1, none⟩ = some (.slice A n ca))
      (first | (with_reducible exact ⟨(XB.far (by omega) _ _).c0, (XB.far (by omega) _ _).c1, (YB.far (by omega) _ _).c1⟩) | (with_reducible exact ⟨(XB).c0, (XB).c1, (YB).c1⟩) | (with_reducible exact ⟨(XA).c0, (XA).c1, (YA).c1⟩) | (with_reducible exact ⟨(X0.drew).c0, (X0.drew).c1, (Y0.drew).c1⟩) | go_keep)
      (first
        | (go_at_call 74; refine (minus_any _ _ _ _ _ _ _ _ _ hY hX (digs_lt b) (digs_lt a) (by omega) (by omega) HLE.out).mono ?_; rintro e wA ⟨A1, k1, c1, o, rfl, RO, ⟨o1, o2, o3⟩, hbA⟩; have HO := Lib.hid o1; clear o1; have HO2 := Lib.hid o2; clear o2; have XA := X0.drew.keep hbA; have YA := Y0.drew.keep hbA; have ZA := Z0.drew.keep hbA; have BA := BW.drew.trans (hbA.mono (by show w.heap.size ≤ W5.heap.size; omega)))
        | (go_at_call 53; refine (short_any _ _ _ _ _ _ RO HO2.out (by have := RO.len; omega)).mono ?_; rintro e wB ⟨A2, k2, c2, rfl, RB, hbB⟩; have XB := XA.keep hbB; have YB := YA.keep hbB; have ZB := ZA.keep hbB; have BB := BA.trans (hbB.mono BA.size); have z0 := ZB.c0; have z1 := ZB.c1; have z2 := ZB.f 0; have z3 := ZB.f 1))
    have HR := Lib.hid (RB.far (ZB.ne_row (by intro k z h; cases h) RB) (.bool (nzB (s') (dv o))) (.slice A2 k2 c2))
    clear RB
    go_wp2_with fail
    refine bodyPost_ret (v := .agg #[.bool (nzB (s') (dv o)), .slice A2 k2 c2]) (by simp [results, Tryz.results44, go_sem, z0, z1]) rfl ⟨A2, k2, c2, by rw [HO.out, HBB.out], by rw [← HZA.out, ← HO.out]; exact HR.out, ?_⟩
    exact (BB.setCell (by simp; omega) _).setCell (by simp; omega) _
  · have hzz : val s (a - b) = z := by rw [← hz, hs, val_apart s a b (by omega)]
    have HBB := Lib.hid (show nzB s (dv (digs a) - dv (digs b)) = bb by rw [dv_digs, dv_digs, sgn_neg, hzz, hbb])
    have HZA := Lib.hid (show dv (digs a) - dv (digs b) = za by rw [dv_digs, dv_digs, ← hza, ← hzz, natAbs_val])
    have hk : 0 ≤ cmpI (a : Int) b := by
      by_cases e : (a : Int) = b
      · rw [cmpI_eq e]; omega
      · rw [cmpI_gt (by omega)]; omega
    generalize hkk : cmpI (a : Int) (b : Int) = k at hk
    have HC := Lib.hid hkk
    have HLE := Lib.hid (show dv (digs b) ≤ dv (digs a) by rw [dv_digs, dv_digs]; omega)
    have hnm : m ≤ n := by have := len_le (show b ≤ a by omega); rw [hx.len, hy.len] at this; exact this
    clear hbb hza hz hzz hs hlt hkk
    go_enter Tryz.func44, Tryz.ntmps44
    go_wp2_with fail
    refine (against_any _ _ _ _ _ _ _ _ _ hAg hBg (by omega) (by omega)).mono ?_
    rintro e w1 ⟨rfl, q, rfl⟩
    rw [HC.out]
    clear hAg hBg
    go_upto_region 5 with fail
    have X0 := (((Box2.new w (.bool s) (.slice A n ca) 52).alloc (.cells #[.bool s', .slice B m cb] 52)).alloc (.cells #[.bool false, .slice none 0 0] 52)).keep (Joins.below_draws _ _ q)
    have Y0 := (Box2.new (w.alloc (.cells #[.bool s, .slice A n ca] 52)) (.bool s') (.slice B m cb) 52).alloc (.cells #[.bool false, .slice none 0 0] 52) |>.keep (Joins.below_draws _ _ q)
    have Z0 := (Box2.new ((w.alloc (.cells #[.bool s, .slice A n ca] 52)).alloc (.cells #[.bool s', .slice B m cb] 52)) (.bool false) (.slice none 0 0) 52).keep (Joins.below_draws _ _ q)
    rw [size_alloc] at Y0
    rw [size_alloc, size_alloc] at Z0
    have BW : Below w.heap.size w ((((w.alloc (.cells #[.bool s, .slice A n ca] 52)).alloc (.cells #[.bool s', .slice B m cb] 52)).alloc (.cells #[.bool false, .slice none 0 0] 52)).drewN q) := ((((Below.refl _ _).alloc (Nat.le_refl _) _).alloc (by simp) _).alloc (by simp; omega) _).trans (Joins.below_draws _ _ q)
    have sW := Z0.sz
    generalize (((w.alloc (.cells #[.bool s, .slice A n ca] 52)).alloc (.cells #[.bool s', .slice B m cb] 52)).alloc (.cells #[.bool false, .slice none 0 0] 52)).drewN q = W5 at *
    have hX := (hx.keep BW).drew
    have hY := (hy.keep BW).drew
    go_region_held3 (fun w' => w'.cell? ⟨w.heap.size, 0, none⟩ = some (.bool s) ∧ w'.cell? ⟨w.heap.size, 1, none⟩ = some (.slice A n ca) ∧ w'.cell? ⟨w.heap.size + 1, 1, none⟩ = some (.slice B m cb))
      (first | (with_reducible exact ⟨(XB.far (by omega) _ _).c0, (XB.far (by omega) _ _).c1, (YB.far (by omega) _ _).c1⟩) | (with_reducible exact ⟨(XB).c0, (XB).c1, (YB).c1⟩) | (with_reducible exact ⟨(XA).c0, (XA).c1, (YA).c1⟩) | (with_reducible exact ⟨(X0.drew).c0, (X0.drew).c1, (Y0.drew).c1⟩) | go_keep)
      (first
        | (go_at_call 74; refine (minus_any _ _ _ _ _ _ _ _ _ hX hY (digs_lt a) (digs_lt b) (by omega) (by omega) HLE.out).mono ?_; rintro e wA ⟨A1, k1, c1, o, rfl, RO, ⟨o1, o2, o3⟩, hbA⟩; have HO := Lib.hid o1; clear o1; have HO2 := Lib.hid o2; clear o2; have XA := X0.drew.keep hbA; have YA := Y0.drew.keep hbA; have ZA := Z0.drew.keep hbA; have BA := BW.drew.trans (hbA.mono (by show w.heap.size ≤ W5.heap.size; omega)))
        | (go_at_call 53; refine (short_any _ _ _ _ _ _ RO HO2.out (by have := RO.len; omega)).mono ?_; rintro e wB ⟨A2, k2, c2, rfl, RB, hbB⟩; have XB := XA.keep hbB; have YB := YA.keep hbB; have ZB := ZA.keep hbB; have BB := BA.trans (hbB.mono BA.size); have z0 := ZB.c0; have z1 := ZB.c1; have z2 := ZB.f 0; have z3 := ZB.f 1))
    have HR := Lib.hid (RB.far (ZB.ne_row (by intro k z h; cases h) RB) (.bool (nzB (s) (dv o))) (.slice A2 k2 c2))
    clear RB
    go_wp2_with fail
    refine bodyPost_ret (v := .agg #[.bool (nzB (s) (dv o)), .slice A2 k2 c2]) (by simp [results, Tryz.results44, go_sem, z0, z1]) rfl ⟨A2, k2, c2, by rw [HO.out, HBB.out], by rw [← HZA.out, ← HO.out]; exact HR.out, ?_⟩
    exact (BB.setCell (by simp; omega) _).setCell (by simp; omega) _

/-- Add of any two. -/
theorem nadd_any (s s' : Bool) (A B : Option Addr) (n m ca cb a b : Nat) (z : Int) (w : World) (hx : Row w A n ca (digs a)) (hy : Row w B m cb (digs b)) (hn : n ≤ 5000) (hm : m ≤ 5000) (hz : val s a + val s' b = z) :
    Calls Tryz.prog 44 #[.agg #[.bool s, .slice A n ca], .agg #[.bool s', .slice B m cb]] w (RetN w (negB z) (digs z.natAbs)) := by
  by_cases hs : s' = s
  · subst hs; exact nadd_same _ A B n m ca cb a b z w hx hy hn hm hz
  · exact nadd_apart s s' A B n m ca cb a b z w hx hy hn hm (by cases s <;> cases s' <;> simp_all) hz
end Go.Proofs.YtgojfonnikgboaaGreatDoor

/- Contracts of package wide: Times, apart, Add. -/
import Derived.Test.YtgkogjlcecbfjaaCarry
namespace Go.Proofs.Ytgkogjlcecbfjaa
open Go.RowKit Corr
set_option linter.unusedVariables false

/-- A Wide of noughts. -/
abbrev W0 : Value := .agg #[.bool false, .int .u64 0, .int .u64 0]

theorem times_ok (s : Bool) (h l n : Nat) (w : World) (hh : h < B64) (hl : l < B64) (hn : n < B64) (hfit : nat2 h l * n < B128) :
    Calls Try.prog 10 #[WV s h l, .int .u64 n] w fun e w' => e = .returned (.tuple #[ZW (val s (nat2 h l * n)), .int .i64 0]) ∧ Below w.heap.size w w' := by
  have a1 := add64_run0 (loW (h * n)) (hiW (l * n))
  have o1 := hiW_lt (prod_lt hh hn)
  have f2 := times_fit hfit
  have t : (bits .or .u64 (hiW (h * n) : Int) (hiW (loW (h * n) + hiW (l * n)) : Int) != 0) = false :=
    or_test_false _ _ o1 (by rw [hiW_small f2.2]; decide) f2.1 (hiW_small f2.2)
  have HV := Lib.hid (congrArg (val s) (times_is hfit))
  have l1 := loW_lt (loW (h * n) + hiW (l * n))
  have l2 := loW_lt (l * n)
  clear f2 o1
  go_enter Try.func10, Try.ntmps10
  go_wp2_with fail
  refine (mul64_any _ _ hl hn _).mono ?_
  rintro e w' ⟨rfl, rfl⟩
  go_wp2_with fail
  refine (mul64_any _ _ hh hn _).mono ?_
  rintro e w' ⟨rfl, rfl⟩
  go_wp2_with fail
  refine (canonical_z _ _ _ _ _ l1 l2 HV.out).mono ?_
  rintro e w1 ⟨rfl, hb⟩
  obtain ⟨hc, hf⟩ := bcell hb
  go_wp2_with fail
  refine bodyPost_ret (v := .tuple #[ZW (val s (nat2 h l * n)), .int .i64 0]) (by simp [results, Try.results10, go_sem, hc]) rfl ⟨rfl, ?_⟩
  exact ((((((Below.refl _ _).alloc (Nat.le_refl _) _).alloc (by simp) _).trans (hb.mono (by simp; omega))).setCell (by simp) _).setCell (by simp) _).setCell (by simp) _

theorem times_over' (s : Bool) (h l n : Nat) (w : World) (hh : h < B64) (hl : l < B64) (hn : n < B64) (hfit : ¬ nat2 h l * n < B128) :
    Calls Try.prog 10 #[WV s h l, .int .u64 n] w fun e w' => e = .returned (.tuple #[W0, .int .i64 11]) ∧ Below w.heap.size w w' := by
  have a1 := add64_run0 (loW (h * n)) (hiW (l * n))
  have o1 := hiW_lt (prod_lt hh hn)
  have f2 := times_over hfit
  have t : (bits .or .u64 (hiW (h * n) : Int) (hiW (loW (h * n) + hiW (l * n)) : Int) != 0) = true :=
    or_test_true _ _ o1 (Nat.lt_of_le_of_lt (hiW_sum_lt (loW_lt _) (hiW_lt (prod_lt hl hn))) (by decide)) (f2.imp_right hiW_pos)
  clear f2 o1 hfit
  go_enter Try.func10, Try.ntmps10
  go_wp2_with fail
  refine (mul64_any _ _ hl hn _).mono ?_
  rintro e w' ⟨rfl, rfl⟩
  go_wp2_with fail
  refine (mul64_any _ _ hh hn _).mono ?_
  rintro e w' ⟨rfl, rfl⟩
  go_wp2_with fail
  refine bodyPost_ret (v := .tuple #[W0, .int .i64 11]) (by simp [results, Try.results10, go_sem]) rfl ⟨rfl, ?_⟩
  exact ((Below.refl _ _).alloc (Nat.le_refl _) _).alloc (by simp) _

/-- A block of three cells, in a world that is as it was below. -/
theorem cells3 {W w1 : World} {k : Nat} {a b c : Value} {T : TypeId} (hb : Below W.heap.size W w1) (hk : W.heap[k]? = some (.cells #[a, b, c] T)) :
    (w1.cell? ⟨k, 0, none⟩ = some a ∧ w1.cell? ⟨k, 1, none⟩ = some b ∧ w1.cell? ⟨k, 2, none⟩ = some c) ∧ w1.frozen? ⟨k, 0, none⟩ = false ∧ w1.frozen? ⟨k, 1, none⟩ = false ∧ w1.frozen? ⟨k, 2, none⟩ = false := by
  have hlt : k < W.heap.size := by
    rcases Nat.lt_or_ge k W.heap.size with h | h
    · exact h
    · rw [Array.getElem?_eq_none h] at hk; cases hk
  have h1 : w1.heap[k]? = some (.cells #[a, b, c] T) := by rw [hb.block k hlt]; exact hk
  refine ⟨⟨?_, ?_, ?_⟩, ?_, ?_, ?_⟩
  · rw [Joins.cell_of_block h1]; rfl
  · rw [Joins.cell_of_block h1]; rfl
  · rw [Joins.cell_of_block h1]; rfl
  all_goals exact Joins.unfrozen_of_block h1 _

theorem heap_alloc_new (w : World) (o : Obj) : (w.alloc o).heap[w.heap.size]? = some o := by
  show (w.heap.push o)[w.heap.size]? = some o
  simp
theorem heap_alloc_old (w : World) (o : Obj) (k : Nat) (h : k < w.heap.size) : (w.alloc o).heap[k]? = w.heap[k]? := Below.heap_alloc w o k h

set_option maxHeartbeats 400000 in
theorem apart_any (s s' : Bool) (h l h' l' : Nat) (z : Int) (w : World) (hh : h < B64) (hl : l < B64) (hh' : h' < B64) (hl' : l' < B64) (hs : s' = !s)
    (hz : val s (nat2 h l) + val s' (nat2 h' l') = z) :
    Calls Try.prog 59 #[WV s h l, WV s' h' l'] w fun e w' => e = .returned (ZW z) ∧ Below w.heap.size w w' := by
  by_cases hlt : nat2 h l < nat2 h' l'
  · have HV := Lib.hid (show val s' (nat2 (subLo h' h (subBo l' l 0)) (subLo l' l 0)) = z by
      rw [sub_is hh' hl' hh hl (by omega), ← hz, hs, val_apart' s _ _ (by omega)])
    have HC := Lib.hid (cmpI_lt (show (nat2 h l : Int) < nat2 h' l' by omega))
    have a1 := sub64_run0 l' l
    have a2 := sub64_run h' h (subBo l' l 0) (subBo_le _ _ _)
    have l1 := subLo_lt h' h (subBo l' l 0)
    have l2 := subLo_lt l' l 0
    clear hz hs hlt
    go_enter Try.func59, Try.ntmps59
    go_wp2_with fail
    refine (cmpSize_any _ _ _ _ _ _ _ hh hl hh' hl').mono ?_
    rintro e w1 ⟨rfl, hb⟩
    rw [HC.out]
    obtain ⟨⟨x0, x1, x2⟩, fx0, fx1, fx2⟩ := cells3 hb (k := w.heap.size) (by rw [heap_alloc_old _ _ _ (by simp; omega), heap_alloc_old _ _ _ (by simp), heap_alloc_new])
    obtain ⟨⟨y0, y1, y2⟩, fy0, fy1, fy2⟩ := cells3 hb (k := w.heap.size + 1) (by rw [heap_alloc_old _ _ _ (by simp), ← size_alloc w, heap_alloc_new])
    obtain ⟨⟨r0, r1, r2⟩, fr0, fr1, fr2⟩ := cells3 hb (k := w.heap.size + 1 + 1) (by rw [show w.heap.size + 1 + 1 = _ from (by simp : w.heap.size + 1 + 1 = ((w.alloc _).alloc _).heap.size), heap_alloc_new])
    have hz : w.heap.size + 1 + 1 < w1.heap.size := by have := hb.size; simp at this; omega
    have HB := Lib.hid hb
    clear hb
    go_wp2_with fail
    refine (canonical_z _ _ _ _ _ l1 l2 HV.out).mono ?_
    rintro e w2 ⟨rfl, hb2⟩
    obtain ⟨hc2, hf2⟩ := bcell hb2
    clear a1 a2
    go_wp2_with fail
    refine bodyPost_ret (v := ZW z) (by simp [results, Try.results59, go_sem, hc2, hz, r0, r1, r2]) rfl ⟨rfl, ?_⟩
    exact ((((((((Below.refl _ _).alloc (Nat.le_refl _) _).alloc (by simp) _).alloc (by simp; omega) _).trans (HB.out.mono (by simp; omega))).trans ((((((((Below.refl _ _).setCell (by simp) _).setCell (by simp) _).setCell (by simp) _).setCell (by simp) _).setCell (by simp) _).setCell (by simp) _).trans (hb2.mono (by simp; omega)))).setCell (by simp; omega) _).setCell (by simp; omega) _).setCell (by simp; omega) _
  · have HV := Lib.hid (show val s (nat2 (subLo h h' (subBo l l' 0)) (subLo l l' 0)) = z by
      rw [sub_is hh hl hh' hl' (by omega), ← hz, hs, val_apart s _ _ (by omega)])
    have HC : cmpI (nat2 h l) (nat2 h' l') = 0 ∨ cmpI (nat2 h l) (nat2 h' l') = 1 := by
      by_cases e : nat2 h l = nat2 h' l'
      · exact .inl (cmpI_eq (by omega))
      · exact .inr (cmpI_gt (by omega))
    have a1 := sub64_run0 l l'
    have a2 := sub64_run h h' (subBo l l' 0) (subBo_le _ _ _)
    have l1 := subLo_lt h h' (subBo l l' 0)
    have l2 := subLo_lt l l' 0
    clear hz hs hlt
    generalize hk : cmpI (nat2 h l) (nat2 h' l') = k at HC
    have HK := Lib.hid hk
    have k0 : 0 ≤ k := by omega
    have k1 : k ≤ 1 := by omega
    clear hk HC
    go_enter Try.func59, Try.ntmps59
    go_wp2_with fail
    refine (cmpSize_any _ _ _ _ _ _ _ hh hl hh' hl').mono ?_
    rintro e w1 ⟨rfl, hb⟩
    rw [HK.out]
    obtain ⟨⟨x0, x1, x2⟩, fx0, fx1, fx2⟩ := cells3 hb (k := w.heap.size) (by rw [heap_alloc_old _ _ _ (by simp; omega), heap_alloc_old _ _ _ (by simp), heap_alloc_new])
    obtain ⟨⟨y0, y1, y2⟩, fy0, fy1, fy2⟩ := cells3 hb (k := w.heap.size + 1) (by rw [heap_alloc_old _ _ _ (by simp), ← size_alloc w, heap_alloc_new])
    obtain ⟨⟨r0, r1, r2⟩, fr0, fr1, fr2⟩ := cells3 hb (k := w.heap.size + 1 + 1) (by rw [show w.heap.size + 1 + 1 = _ from (by simp : w.heap.size + 1 + 1 = ((w.alloc _).alloc _).heap.size), heap_alloc_new])
    have hz : w.heap.size + 1 + 1 < w1.heap.size := by have := hb.size; simp at this; omega
    have HB := Lib.hid hb
    clear hb
    go_wp2_with fail
    refine (canonical_z _ _ _ _ _ l1 l2 HV.out).mono ?_
    rintro e w2 ⟨rfl, hb2⟩
    obtain ⟨hc2, hf2⟩ := bcell hb2
    clear a1 a2
    go_wp2_with fail
    refine bodyPost_ret (v := ZW z) (by simp [results, Try.results59, go_sem, hc2, hz, r0, r1, r2]) rfl ⟨rfl, ?_⟩
    exact ((((((((Below.refl _ _).alloc (Nat.le_refl _) _).alloc (by simp) _).alloc (by simp; omega) _).trans (HB.out.mono (by simp; omega))).trans (hb2.mono (by omega))).setCell (by simp; omega) _).setCell (by simp; omega) _).setCell (by simp; omega) _

end Go.Proofs.Ytgkogjlcecbfjaa

/- Contract of put of package spans: a span behind right spans of the caller's own. -/
import Derived.Test.YtmolbckndkhhlaaSpPMath
import Derived.Test.YtmolbckndkhhlaaSp5
import Derived.BigQuiet
namespace Go.Proofs.Ytmolbckndkhhlaa
set_option maxRecDepth 8000
open Go.RowKit Corr
set_option linter.unusedVariables false
set_option linter.unusedSimpArgs false
theorem one_cells (w : World) (u v : Value) (T : TypeId) : (w.alloc (.cells #[u, v] T)).cell? ⟨w.heap.size, 0, none⟩ = some u ∧ (w.alloc (.cells #[u, v] T)).cell? ⟨w.heap.size, 1, none⟩ = some v := by
  have h0 := new_cells w [u, v] T 0 u rfl
  have h1 := new_cells w [u, v] T 1 v rfl
  rw [Addr.add_lit] at h0 h1
  exact ⟨h0, h1⟩
/-- What is left by a call that puts spans into a row of its caller's. -/
def RetPut (T : TypeId) (B : Nat) (w : World) (l : SpL) (e : Ending) (w' : World) : Prop := ∃ A n c, e = .returned (.slice A n c) ∧ w'.ownsRow B T 2 (.slice A n c) n (cells2 l) ∧ Below B w w'
set_option maxHeartbeats 4000000 in
theorem put_any (B : Nat) (A : Option Addr) (n c : Nat) (l : SpL) (a b : Int) (w : World) (hown : w.ownsRow B 37 2 (.slice A n c) n (cells2 l)) (hB : B ≤ w.heap.size) (hn : n ≤ 4000000) :
    Calls Try.prog 29 #[.slice A n c, .agg #[.int .i64 a, .int .i64 b]] w (RetPut 37 B w (putL l (a, b))) := by
  have HOB := Lib.hid (own_ge hown)
  have HL := Lib.hid (show l.length = n by have := hown.1; rw [cells2_len] at this; omega)
  have HOW := Lib.hid (own_keep hown (((Below.refl w.heap.size w).alloc (Nat.le_refl _) (.cells #[.int .i64 a, .int .i64 b] 37))))
  have HBW := Lib.hid ((Below.refl B w).alloc hB (.cells #[.int .i64 a, .int .i64 b] 37))
  rcases Nat.eq_zero_or_pos n with h0 | h0
  · have HE := Lib.hid (show l = [] from List.length_eq_zero_iff.1 (by rw [HL.out, h0]))
    subst h0
    go_enter Try.func29, Try.ntmps29
    go_upto_region 2 with fail
    go_quiet (fail)
    have HOA := Lib.hid (own_keep HOW.out (Joins.below_draws _ (w.alloc (.cells #[.int .i64 a, .int .i64 b] 37)) nq))
    have HBA := Lib.hid (HBW.out.trans (Joins.below_draws B (w.alloc (.cells #[.int .i64 a, .int .i64 b] 37)) nq))
    have k0 : ((w.alloc (.cells #[.int .i64 a, .int .i64 b] 37)).drewN nq).cell? ⟨w.heap.size, 0, none⟩ = some (.int .i64 a) := (Below.cell (p := ⟨w.heap.size, 0, none⟩) (Joins.below_draws (w.heap.size + 1) (w.alloc (.cells #[.int .i64 a, .int .i64 b] 37)) nq) (by simp)).trans (one_cells w _ _ _).1
    have k1 : ((w.alloc (.cells #[.int .i64 a, .int .i64 b] 37)).drewN nq).cell? ⟨w.heap.size, 1, none⟩ = some (.int .i64 b) := (Below.cell (p := ⟨w.heap.size, 1, none⟩) (Joins.below_draws (w.heap.size + 1) (w.alloc (.cells #[.int .i64 a, .int .i64 b] 37)) nq) (by simp)).trans (one_cells w _ _ _).2
    have HOA2 := Lib.hid (HOA.out.alloc (.cells #[encZ a, encZ b] 37))
    have HBA2 := Lib.hid (HBA.out.alloc (by simp; omega) (.cells #[encZ a, encZ b] 37))
    have HNC := Lib.hid (new_cells ((w.alloc (.cells #[.int .i64 a, .int .i64 b] 37)).drewN nq) [encZ a, encZ b] 37)
    rw [show ((w.alloc (.cells #[.int .i64 a, .int .i64 b] 37)).drewN nq).heap.size = w.heap.size + 1 by simp] at HNC
    go_wp2_with (at_builtin; refine wpList_app rfl _ _ 22 rfl [encZ a, encZ b] elem_span rfl HOA2.out rfl (by rfl) (fun _ => ⟨_, rfl, HNC.out⟩) (ints_one [a, b]) (by omega) (by unfold maxLen; omega) (by simp; omega) ?_; rintro v1 w1 hown1 hgrow1; have HB2 := Lib.hid (HBA2.out.grown hgrow1 (by simp; omega) HOB.out); have HO2 := Lib.hid (show w1.ownsRow B 37 2 v1 (0 + 1) (cells2 (putL l (a, b))) by rw [HE.out] at hown1 ⊢; simpa [cells2, putL_nil] using hown1); clear hown1 hgrow1; obtain ⟨A1, c1, rfl, _⟩ := Lies.of_own HO2.out HO2.out.1)
    go_ret
    exact ⟨A1, _, c1, rfl, HO2.out, HB2.out⟩
  · obtain ⟨j, rfl⟩ : ∃ j, n = j + 1 := ⟨n - 1, by omega⟩
    rcases Joins.ownsRow_forms hown with ⟨_, h1⟩ | ⟨g3, d3, hv⟩
    · cases h1
    injection hv with e1 _ e3
    subst e1 e3
    obtain ⟨s, hs0, _⟩ := last_at HL.out
    obtain ⟨x, y⟩ := s
    have hs := Lib.hid hs0
    have c3 : w.cell? ⟨g3, j * 2, none⟩ = some (.int .i64 x) := by rw [hown.cellAt _ (by omega)]; exact cells2_0 hs.out
    have c4 : w.cell? ⟨g3, j * 2 + 1, none⟩ = some (.int .i64 y) := by rw [hown.cellAt _ (by omega)]; exact cells2_1 hs.out
    have k0 := (one_cells w (.int .i64 a) (.int .i64 b) 37).1
    have k1 := (one_cells w (.int .i64 a) (.int .i64 b) 37).2
    have k3 : (w.alloc (.cells #[.int .i64 a, .int .i64 b] 37)).cell? ⟨g3, j * 2, none⟩ = some (.int .i64 x) := by rw [HOW.out.cellAt _ (by omega)]; exact cells2_0 hs.out
    have k4 : (w.alloc (.cells #[.int .i64 a, .int .i64 b] 37)).cell? ⟨g3, j * 2 + 1, none⟩ = some (.int .i64 y) := by rw [HOW.out.cellAt _ (by omega)]; exact cells2_1 hs.out
    have j0 : decide ((j : Int) < 0) = false := decide_eq_false (by omega)
    have j1 : (0 : Int) ≤ (j : Int) := by omega
    have j2 : (j : Int) < (j : Int) + 1 := by omega
    have j3 : ((j : Int)).toNat = j := by omega
    clear hs0 c3 c4
    by_cases hlt : y < a
    · go_enter Try.func29, Try.ntmps29
      go_upto_region 2 with fail
      go_quiet (fail)
      have HOA := Lib.hid (own_keep HOW.out (Joins.below_draws _ (w.alloc (.cells #[.int .i64 a, .int .i64 b] 37)) nq))
      have HBA := Lib.hid (HBW.out.trans (Joins.below_draws B (w.alloc (.cells #[.int .i64 a, .int .i64 b] 37)) nq))
      have q0 : ((w.alloc (.cells #[.int .i64 a, .int .i64 b] 37)).drewN nq).cell? ⟨w.heap.size, 0, none⟩ = some (.int .i64 a) := (Below.cell (p := ⟨w.heap.size, 0, none⟩) (Joins.below_draws (w.heap.size + 1) (w.alloc (.cells #[.int .i64 a, .int .i64 b] 37)) nq) (by simp)).trans (one_cells w _ _ _).1
      have q1 : ((w.alloc (.cells #[.int .i64 a, .int .i64 b] 37)).drewN nq).cell? ⟨w.heap.size, 1, none⟩ = some (.int .i64 b) := (Below.cell (p := ⟨w.heap.size, 1, none⟩) (Joins.below_draws (w.heap.size + 1) (w.alloc (.cells #[.int .i64 a, .int .i64 b] 37)) nq) (by simp)).trans (one_cells w _ _ _).2
      have HOA2 := Lib.hid (HOA.out.alloc (.cells #[encZ a, encZ b] 37))
      have HBA2 := Lib.hid (HBA.out.alloc (by simp; omega) (.cells #[encZ a, encZ b] 37))
      have HNC := Lib.hid (new_cells ((w.alloc (.cells #[.int .i64 a, .int .i64 b] 37)).drewN nq) [encZ a, encZ b] 37)
      rw [show ((w.alloc (.cells #[.int .i64 a, .int .i64 b] 37)).drewN nq).heap.size = w.heap.size + 1 by simp] at HNC
      go_wp2_with (at_builtin; refine wpList_app rfl _ _ 22 rfl [encZ a, encZ b] elem_span rfl HOA2.out rfl (by rfl) (fun _ => ⟨_, rfl, HNC.out⟩) (ints_one [a, b]) (by omega) (by unfold maxLen; omega) (by simp; omega) ?_; rintro v1 w1 hown1 hgrow1; have HB2 := Lib.hid (HBA2.out.grown hgrow1 (by simp; omega) HOB.out); have HO2 := Lib.hid (show w1.ownsRow B 37 2 v1 ((j + 1) + 1) (cells2 (putL l (a, b))) by rw [putL_apart HL.out hs.out hlt, cells2_append]; exact hown1); clear hown1 hgrow1; obtain ⟨A1, c1, rfl, _⟩ := Lies.of_own HO2.out HO2.out.1)
      go_ret
      exact ⟨A1, _, c1, rfl, HO2.out, HB2.out⟩
    · have HJ := Lib.hid (putL_join (x := (a, b)) HL.out hs.out hlt)
      go_enter Try.func29, Try.ntmps29
      go_upto_region 2 with fail
      go_quiet (fail)
      go_upto_region 4 with fail
      have HOA := Lib.hid (own_keep HOW.out (Joins.below_draws _ (w.alloc (.cells #[.int .i64 a, .int .i64 b] 37)) nq))
      have HBA := Lib.hid (HBW.out.trans (Joins.below_draws B (w.alloc (.cells #[.int .i64 a, .int .i64 b] 37)) nq))
      have q1 : ((w.alloc (.cells #[.int .i64 a, .int .i64 b] 37)).drewN nq).cell? ⟨w.heap.size, 1, none⟩ = some (.int .i64 b) := (Below.cell (p := ⟨w.heap.size, 1, none⟩) (Joins.below_draws (w.heap.size + 1) (w.alloc (.cells #[.int .i64 a, .int .i64 b] 37)) nq) (by simp)).trans (one_cells w _ _ _).2
      have q4 : ((w.alloc (.cells #[.int .i64 a, .int .i64 b] 37)).drewN nq).cell? ⟨g3, j * 2 + 1, none⟩ = some (.int .i64 y) := by rw [HOA.out.cellAt _ (by omega)]; exact cells2_1 hs.out
      have f4 : ((w.alloc (.cells #[.int .i64 a, .int .i64 b] 37)).drewN nq).frozen? ⟨g3, j * 2 + 1, none⟩ = false := HOA.out.frozenAt _
      clear k0 k1 k3 k4 HOW HBW hown
      generalize (w.alloc (.cells #[.int .i64 a, .int .i64 b] 37)).drewN nq = wq at *
      by_cases hm : y < b
      · go_region
        have HST := HOA.out.stored (j * 2 + 1) (encZ b)
        have HO2 := Lib.hid (show ((wq.setCell ⟨g3, j * 2 + 1, none⟩ (encZ b)).drew).ownsRow B 37 2 (.slice (some ⟨g3, 0, none⟩) (j + 1) c) (j + 1) (cells2 (putL l (a, b))) by
          rw [HJ.out, show max (x, y).2 (a, b).2 = b from Int.max_eq_right (Int.le_of_lt hm), ← cells2_set hs.out]; exact HST.1.drew)
        have HB2 := Lib.hid ((HBA.out.setCell (p := ⟨g3, j * 2 + 1, none⟩) (HOB.out g3 rfl) (encZ b)).drew)
        clear HST
        go_wp2_with fail
        go_ret
        exact ⟨_, _, c, rfl, HO2.out, HB2.out⟩
      · go_region
        have HST := HOA.out.stored (j * 2 + 1) (encZ y)
        have HO2 := Lib.hid (show ((wq.setCell ⟨g3, j * 2 + 1, none⟩ (encZ y)).drew).ownsRow B 37 2 (.slice (some ⟨g3, 0, none⟩) (j + 1) c) (j + 1) (cells2 (putL l (a, b))) by
          rw [HJ.out, show max (x, y).2 (a, b).2 = y from Int.max_eq_left (Int.not_lt.1 hm), ← cells2_set hs.out]; exact HST.1.drew)
        have HB2 := Lib.hid ((HBA.out.setCell (p := ⟨g3, j * 2 + 1, none⟩) (HOB.out g3 rfl) (encZ y)).drew)
        clear HST
        go_wp2_with fail
        go_ret
        exact ⟨_, _, c, rfl, HO2.out, HB2.out⟩
end Go.Proofs.Ytmolbckndkhhlaa

/- Contracts of the small functions of package spans: within, put, ahead, stretch. -/
import Derived.Test.YtmolbckndkhhlaaSpPMath
import Derived.Test.YtmolbckndkhhlaaRow3
import Derived.BigQuiet
namespace Go.Proofs.Ytmolbckndkhhlaa
set_option maxRecDepth 8000
open Go.RowKit Corr
set_option linter.unusedVariables false
set_option linter.unusedSimpArgs false
theorem box_after (w : World) (O : Obj) (u v : Value) (T : TypeId) : ((w.alloc O).alloc (.cells #[u, v] T)).cell? ⟨w.heap.size + 1, 0, none⟩ = some u ∧ ((w.alloc O).alloc (.cells #[u, v] T)).cell? ⟨w.heap.size + 1, 1, none⟩ = some v := by
  have h0 := new_cells (w.alloc O) [u, v] T 0 u rfl
  have h1 := new_cells (w.alloc O) [u, v] T 1 v rfl
  rw [Addr.add_lit] at h0 h1
  simp only [World.size_alloc] at h0 h1
  exact ⟨h0, h1⟩
set_option maxHeartbeats 1000000 in
theorem within_any (x y : Int) (w : World) : Calls Try.prog 25 #[.agg #[.int .i64 x, .int .i64 y]] w fun e w' => e = .returned (.agg #[.int .i64 (inI (x, y)).1, .int .i64 (inI (x, y)).2]) ∧ Below w.heap.size w w' := by
  unfold inI
  go_enter Try.func25, Try.ntmps25
  go_wp2_with fail
  all_goals
    have hb := ((Below.refl w.heap.size w).alloc (Nat.le_refl _) (.cells #[.int .i64 x, .int .i64 y] 37))
    have e : ∀ a b c d : Int, a = c → b = d → Ending.returned (.agg #[.int .i64 a, .int .i64 b]) = .returned (.agg #[.int .i64 c, .int .i64 d]) := by rintro _ _ _ _ rfl rfl; rfl
    first
      | exact bodyPost_ret (v := .agg #[.int .i64 1, .int .i64 3652060]) (by simp [results, Try.results25, go_sem, (box_after w _ _ _ _).1, (box_after w _ _ _ _).2]) rfl ⟨e _ _ _ _ (by omega) (by omega), hb.alloc (by simp) _⟩
      | exact bodyPost_ret (v := .agg #[.int .i64 1, .int .i64 y]) (by simp [results, Try.results25, go_sem, (box_after w _ _ _ _).1, (box_after w _ _ _ _).2]) rfl ⟨e _ _ _ _ (by omega) (by omega), hb.alloc (by simp) _⟩
      | exact bodyPost_ret (v := .agg #[.int .i64 x, .int .i64 3652060]) (by simp [results, Try.results25, go_sem, (box_after w _ _ _ _).1, (box_after w _ _ _ _).2]) rfl ⟨e _ _ _ _ (by omega) (by omega), hb.alloc (by simp) _⟩
      | exact bodyPost_ret (v := .agg #[.int .i64 x, .int .i64 y]) (by simp [results, Try.results25, go_sem, (box_after w _ _ _ _).1, (box_after w _ _ _ _).2]) rfl ⟨e _ _ _ _ (by omega) (by omega), hb.alloc (by simp) _⟩
set_option maxHeartbeats 1000000 in
theorem stretch_any (A : Option Addr) (n c : Nat) (l : SpL) (d : Int) (w : World) (R : Spn w A n c l) : Calls Try.prog 42 #[.slice A n c, .int .i64 d] w fun e w' => e = .returned (.tuple #[.bool (stretchB l d), .int .i64 (stretchN l d)]) ∧ Below w.heap.size w w' := by
  rcases Nat.eq_zero_or_pos n with h0 | h0
  · have HE := Lib.hid (show l = [] from List.length_eq_zero_iff.1 (by rw [R.count, h0]))
    subst h0
    clear R
    go_enter Try.func42, Try.ntmps42
    go_wp2_with fail
    go_ret2
    exact ⟨by rw [HE.out]; rfl, Below.refl _ _⟩
  · obtain ⟨g, off, s, rfl, hs, hg, c0, c1⟩ := Spn.get R h0
    obtain ⟨x, y⟩ := s
    have HX := Lib.hid hs
    have hn : ((n : Int) == 0) = false := by simp; omega
    have hn2 : (0 : Int) < (n : Int) := by omega
    have c0' : w.cell? ⟨g, off, none⟩ = some (.int .i64 x) := by simpa using c0
    have c1' : w.cell? ⟨g, off + 1, none⟩ = some (.int .i64 y) := by simpa using c1
    clear R hs c0 c1
    by_cases hd : d < x
    · have HF := Lib.hid (show stretchB l d = false ∧ stretchN l d = x by
        have := HX.out
        cases l with
        | nil => cases this
        | cons t r =>
          have : t = (x, y) := by simpa using this
          subst this
          exact ⟨decide_eq_false (by show ¬ x ≤ d; omega), if_pos hd⟩)
      go_enter Try.func42, Try.ntmps42
      go_upto_region 4 with fail
      go_quiet (fail)
      go_wp2_with fail
      go_ret2
      exact ⟨by rw [HF.out.1, HF.out.2]; rfl, Joins.below_draws _ _ _⟩
    · have HF := Lib.hid (show stretchB l d = true ∧ stretchN l d = y by
        have := HX.out
        cases l with
        | nil => cases this
        | cons t r =>
          have : t = (x, y) := by simpa using this
          subst this
          exact ⟨decide_eq_true (by show x ≤ d; omega), if_neg hd⟩)
      go_enter Try.func42, Try.ntmps42
      go_upto_region 5 with fail
      go_quiet (fail)
      go_wp2_with fail
      go_ret2
      exact ⟨by rw [HF.out.1, HF.out.2]; rfl, Joins.below_draws _ _ _⟩
end Go.Proofs.Ytmolbckndkhhlaa

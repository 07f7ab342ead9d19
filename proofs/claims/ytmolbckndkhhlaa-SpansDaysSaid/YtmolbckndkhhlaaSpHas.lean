/- Contract of Has of package spans. -/
import Derived.Test.YtmolbckndkhhlaaShelfSp
import Derived.Test.YtmolbckndkhhlaaSpOf
import Derived.Test.YtmolbckndkhhlaaSpSort
namespace Go.Proofs.Ytmolbckndkhhlaa
set_option maxRecDepth 8000
open Go.RowKit Corr Go.Shelf
set_option linter.unusedVariables false
set_option linter.unusedSimpArgs false
/-- Is a day of a span, held within all days? -/
def inB (d : Int) (s : Int × Int) : Bool := decide ((inI s).1 ≤ d) && decide (d < (inI s).2)
set_option maxHeartbeats 1000000 in
theorem pred_any (s : Int × Int) (d : Int) (gd : Nat) (W : World) (hgd : gd < W.heap.size) (hcell : W.cell? ⟨gd, 0, none⟩ = some (.int .i64 d)) :
    Calls Try.prog 37 #[.agg #[.int .i64 s.1, .int .i64 s.2], .pointer (some ⟨gd, 0, none⟩)] W fun e w' => e = .returned (.bool (inB d s)) ∧ Below W.heap.size W w' := by
  obtain ⟨x, y⟩ := s
  unfold inB
  have hwi := fun w' => within_any x y w'
  obtain ⟨X, Y, hXY⟩ : ∃ X Y, inI (x, y) = (X, Y) := ⟨_, _, rfl⟩
  simp only [hXY] at hwi ⊢
  have HC := Lib.hid hcell
  clear hcell
  by_cases h1 : X ≤ d
  · by_cases h2 : d < Y
    · rw [decide_eq_true h1, decide_eq_true h2]
      go_enter Try.func37, Try.ntmps37
      go_wp2_with (go_at_call 25; refine (hwi _).mono ?_; rintro e w2 ⟨rfl, hb2⟩; have HW := Lib.hid (((((Below.refl W.heap.size W).alloc (Nat.le_refl _) (.cells #[.int .i64 x, .int .i64 y] 37)).trans (hb2.mono (by simp))).setCell (p := ⟨W.heap.size, 0, none⟩) (Nat.le_refl _) (encZ X)).setCell (p := ⟨W.heap.size, 1, none⟩) (Nat.le_refl _) (encZ Y)); have b5 := (hb2.block W.heap.size (by simp)).trans (heap_alloc_new W (.cells #[.int .i64 x, .int .i64 y] 37)); have p0 := (box_facts b5).1; have p1 := (box_facts b5).2.1; have f0 := (box_facts b5).2.2.1; have f1 := (box_facts b5).2.2.2; have cd : w2.cell? ⟨gd, 0, none⟩ = some (.int .i64 d) := (hb2.cell (p := ⟨gd, 0, none⟩) (by simp; omega)).trans ((((Below.refl W.heap.size W).alloc (Nat.le_refl _) (.cells #[.int .i64 x, .int .i64 y] 37)).cell (p := ⟨gd, 0, none⟩) hgd).trans HC.out); have ne5 : W.heap.size ≠ gd := (by omega); have ne6 : gd ≠ W.heap.size := (by omega); clear b5 hb2 hwi)
      go_ret
      exact ⟨rfl, HW.out⟩
    · rw [decide_eq_true h1, decide_eq_false h2]
      go_enter Try.func37, Try.ntmps37
      go_wp2_with (go_at_call 25; refine (hwi _).mono ?_; rintro e w2 ⟨rfl, hb2⟩; have HW := Lib.hid (((((Below.refl W.heap.size W).alloc (Nat.le_refl _) (.cells #[.int .i64 x, .int .i64 y] 37)).trans (hb2.mono (by simp))).setCell (p := ⟨W.heap.size, 0, none⟩) (Nat.le_refl _) (encZ X)).setCell (p := ⟨W.heap.size, 1, none⟩) (Nat.le_refl _) (encZ Y)); have b5 := (hb2.block W.heap.size (by simp)).trans (heap_alloc_new W (.cells #[.int .i64 x, .int .i64 y] 37)); have p0 := (box_facts b5).1; have p1 := (box_facts b5).2.1; have f0 := (box_facts b5).2.2.1; have f1 := (box_facts b5).2.2.2; have cd : w2.cell? ⟨gd, 0, none⟩ = some (.int .i64 d) := (hb2.cell (p := ⟨gd, 0, none⟩) (by simp; omega)).trans ((((Below.refl W.heap.size W).alloc (Nat.le_refl _) (.cells #[.int .i64 x, .int .i64 y] 37)).cell (p := ⟨gd, 0, none⟩) hgd).trans HC.out); have ne5 : W.heap.size ≠ gd := (by omega); have ne6 : gd ≠ W.heap.size := (by omega); clear b5 hb2 hwi)
      go_ret
      exact ⟨by simp [h2], HW.out⟩
  · rw [decide_eq_false h1]
    go_enter Try.func37, Try.ntmps37
    go_wp2_with (go_at_call 25; refine (hwi _).mono ?_; rintro e w2 ⟨rfl, hb2⟩; have HW := Lib.hid (((((Below.refl W.heap.size W).alloc (Nat.le_refl _) (.cells #[.int .i64 x, .int .i64 y] 37)).trans (hb2.mono (by simp))).setCell (p := ⟨W.heap.size, 0, none⟩) (Nat.le_refl _) (encZ X)).setCell (p := ⟨W.heap.size, 1, none⟩) (Nat.le_refl _) (encZ Y)); have b5 := (hb2.block W.heap.size (by simp)).trans (heap_alloc_new W (.cells #[.int .i64 x, .int .i64 y] 37)); have p0 := (box_facts b5).1; have p1 := (box_facts b5).2.1; have f0 := (box_facts b5).2.2.1; have f1 := (box_facts b5).2.2.2; have cd : w2.cell? ⟨gd, 0, none⟩ = some (.int .i64 d) := (hb2.cell (p := ⟨gd, 0, none⟩) (by simp; omega)).trans ((((Below.refl W.heap.size W).alloc (Nat.le_refl _) (.cells #[.int .i64 x, .int .i64 y] 37)).cell (p := ⟨gd, 0, none⟩) hgd).trans HC.out); have ne5 : W.heap.size ≠ gd := (by omega); have ne6 : gd ≠ W.heap.size := (by omega); clear b5 hb2 hwi)
    go_ret
    exact ⟨rfl, HW.out⟩
theorem index_none (A : Option Addr) (c : Nat) (fv : Value) (w : World) : Calls Try.prog 45 #[.slice A 0 c, fv] w fun e w' => e = .returned (.int .i64 (-1)) ∧ w' = w := by
  go_enter Try.func45, Try.ntmps45
  go_wp2_with fail
  refine wp_loop_rounds 1 ?_
  rw [rounds_succ]
  go_wp2_with fail
  go_ret
  exact ⟨rfl, rfl⟩
theorem contains_none (A : Option Addr) (c : Nat) (fv : Value) (w : World) : Calls Try.prog 36 #[.slice A 0 c, fv] w fun e w' => e = .returned (.bool false) ∧ w' = w := by
  go_enter Try.func36, Try.ntmps36
  go_wp2_with (go_at_call 45; refine (index_none A c fv _).mono ?_; rintro e w1 ⟨rfl, rfl⟩)
  go_ret
  exact ⟨rfl, rfl⟩
theorem phas_any (A : Option Addr) (N c : Nat) (a : SpL) (d : Int) (w : World) (R : Spn w A N c a) (ha : a.length ≤ 1000) : Calls Try.prog 20 #[.slice A N c, .int .i64 d] w fun e w' => e = .returned (.bool (hasB a d)) ∧ Below w.heap.size w w' := by
  have hN := R.count
  have HA := Lib.hid (show a.any (inB d) = hasB a d from any_in a d)
  rcases Nat.eq_zero_or_pos N with h0 | h0
  · subst h0
    obtain rfl := List.length_eq_zero_iff.1 hN
    have HB := Lib.hid ((Below.refl w.heap.size w).alloc (Nat.le_refl _) (.cells #[.int .i64 d] 3))
    clear R ha hN
    go_enter Try.func20, Try.ntmps20
    go_wp2_with (go_at_call 36; refine (contains_none A c _ _).mono ?_; rintro e w1 ⟨rfl, rfl⟩)
    go_ret
    exact ⟨by rw [← HA.out]; rfl, HB.out⟩
  · obtain ⟨g, off, hA, hg, hc⟩ := R.at_ h0
    subst hA
    have HB := Lib.hid ((Below.refl w.heap.size w).alloc (Nat.le_refl _) (.cells #[.int .i64 d] 3))
    have R1 := R.keep HB.out
    have eg : ∀ args w, (callFunc 37 args).run Try.prog w = .ok (.enter 37 args) w := enters_of Try.func37 (by kernel_rfl) rfl
    have hcell : (w.alloc (.cells #[.int .i64 d] 3)).cell? ⟨w.heap.size, 0, none⟩ = some (.int .i64 d) := by
      have h0 := new_cells w [.int .i64 d] 3 0 (.int .i64 d) rfl
      rw [Addr.add_lit] at h0
      exact h0
    have hp : PredBelow Try.prog 37 #[.pointer (some ⟨w.heap.size, 0, none⟩)] (fun x => .agg (encS x).toArray) (inB d) (w.alloc (.cells #[.int .i64 d] 3)) := by
      intro W x hb
      have hs : w.heap.size < W.heap.size := Nat.lt_of_lt_of_le (by simp) hb.size
      refine (pred_any x d w.heap.size W hs ((hb.cell (p := ⟨w.heap.size, 0, none⟩) (by simp)).trans hcell)).mono ?_
      rintro e w' ⟨he, hb'⟩
      exact ⟨he, hb.trans (hb'.mono hb.size)⟩
    have hcon := AnyQ.slices_ContainsFunc Try.laysHas 2 Try.isAgg37 Try.sizeOf37 encS (fun _ => rfl) (inB d) 37 #[.pointer (some ⟨w.heap.size, 0, none⟩)] eg g off N c a (w.alloc (.cells #[.int .i64 d] 3)) hp (by omega) (by omega) (by simp; omega) (by
      intro j hj i v hv
      have hi : i < 2 := by
        have := (List.getElem?_eq_some_iff.1 hv).1
        simpa [encS] using this
      have hj2 : j * 2 + i < a.length * 2 := by omega
      have h1 := cells2_get (l := a) hj2
      rw [show (j * 2 + i) / 2 = j by omega, show (j * 2 + i) % 2 = i by omega] at h1
      obtain ⟨g', off', hA', hg', hc'⟩ := R1.at_ h0
      injection hA' with hA'
      injection hA' with e1 e2 _
      subst e1 e2
      have h2 := hc' _ _ h1
      rw [← Nat.add_assoc] at h2
      rw [h2]
      have h3 : a.toArray[j]! = a[j]! := by simp
      rw [h3, getElem!_pos (encS a[j]!) i (by simp [encS]; omega)]
      obtain ⟨hk, hv⟩ := List.getElem?_eq_some_iff.1 hv
      rw [hv])
    change Calls Try.prog 36 _ _ _ at hcon
    have HK := Lib.hid hcon
    clear hcon hp hcell eg R1 R hc ha
    rw [List.take_of_length_le (by omega), HA.out] at HK
    go_enter Try.func20, Try.ntmps20
    go_wp2_with (go_at_call 36; refine HK.out.mono ?_; rintro e w1 ⟨rfl, hb1⟩; have HB1 := Lib.hid (HB.out.trans (hb1.mono (by simp))); clear hb1 HK)
    go_ret
    exact ⟨rfl, HB1.out⟩
end Go.Proofs.Ytmolbckndkhhlaa

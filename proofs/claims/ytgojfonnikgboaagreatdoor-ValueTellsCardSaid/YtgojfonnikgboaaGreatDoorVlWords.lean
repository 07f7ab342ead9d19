/- value.words: the map of the six words, its stores in whatever order. -/
import Derived.Test.YtgojfonnikgboaaGreatDoorVlMap
import Derived.Test.YtgojfonnikgboaaGreatDoorRelBlind
import Derived.Carry
namespace Corr
set_option maxRecDepth 8000
open Go Go.RowKit
/-- Which operation lays which word. -/
def insP : List (Nat × (Int × Int × List UInt8)) :=
  [(3, (0, 0, [97, 98, 115, 101, 110, 116])), (6, (2, 0, [116, 114, 117, 101])), (9, (3, 0, [102, 97, 108, 115, 101])), (12, (4, 11, [111, 118, 101, 114])), (15, (4, 12, [100, 105, 118])), (18, (4, 13, [109, 105, 115, 115, 105, 110, 103]))]
theorem insP_one : ∀ x ∈ insP, ∀ y ∈ insP, (x.1 = y.1 ↔ x.2 = y.2) := by decide
theorem wordsL_key : ∀ p ∈ wordsL, ∀ q ∈ wordsL, p.1 = q.1 → p.2.1 = q.2.1 → p = q := by decide
theorem insP_word : ∀ x ∈ insP, x.2 ∈ wordsL := by decide
theorem word_insP : ∀ p ∈ wordsL, ∃ x ∈ insP, x.2 = p := by decide
/-- Block b is the words' map. -/
def WordsAt (b : Nat) (w : World) : Prop := ∃ l : List (Int × Int × List UInt8), w.heap[b]? = some (.map (entsF l 0).toArray l.length) ∧ ∀ p, p ∈ l ↔ p ∈ wordsL
theorem WordsAt.lt {b : Nat} {w : World} (h : WordsAt b w) : b < w.heap.size := by
  obtain ⟨l, hb, _⟩ := h
  exact (Array.getElem?_eq_some_iff.1 hb).1
theorem WordsAt.keep {b : Nat} {w w' : World} (h : WordsAt b w) (hb : Below w.heap.size w w') : WordsAt b w' := by
  have := h.lt
  obtain ⟨l, h1, h2⟩ := h
  exact ⟨l, (hb.block b this).trans h1, h2⟩
/-- What holds while the words are laid. -/
def WC (w : World) (S : Nat → Bool) (wx : World) : Prop :=
  Below w.heap.size w wx ∧ (S 0 = false → wx.heap.size = w.heap.size ∧ ∀ x ∈ insP, S x.1 = false) ∧
  (S 0 = true → ∃ l : List (Int × Int × List UInt8), wx.heap[w.heap.size]? = some (.map (entsF l 0).toArray l.length) ∧ (∀ p ∈ l, p ∈ wordsL) ∧ ∀ x ∈ insP, (x.2 ∈ l ↔ S x.1 = true))
theorem WC.pure {w wx : World} {S : Nat → Bool} {i : Nat} (h : WC w S wx) (h0 : (0 == i) = false) (hi : (insP.all fun x => !(x.1 == i)) = true) : WC w (addS S i) wx := by
  have e0 : addS S i 0 = S 0 := by unfold addS; rw [h0]; rfl
  have ei : ∀ x ∈ insP, addS S i x.1 = S x.1 := fun x hx => by
    have := List.all_eq_true.1 hi x hx
    have : (x.1 == i) = false := by simpa using this
    unfold addS; rw [this]; rfl
  refine ⟨h.1, fun hs => ?_, fun hs => ?_⟩
  · rw [e0] at hs
    obtain ⟨a, b⟩ := h.2.1 hs
    exact ⟨a, fun x hx => by rw [ei x hx]; exact b x hx⟩
  · rw [e0] at hs
    obtain ⟨l, a, b, c⟩ := h.2.2 hs
    exact ⟨l, a, b, fun x hx => by rw [ei x hx]; exact c x hx⟩
theorem WC.made {w wx : World} {S : Nat → Bool} (h : WC w S wx) (h0 : S 0 = false) : WC w (addS S 0) (wx.alloc (.map #[] 0)) ∧ wx.heap.size = w.heap.size := by
  obtain ⟨a, b⟩ := h.2.1 h0
  refine ⟨⟨h.1.alloc h.1.size _, fun hs => ?_, fun _ => ⟨[], ?_, by simp, fun x hx => ?_⟩⟩, a⟩
  · unfold addS at hs; simp at hs
  · rw [← a]; exact (MapKept.heap_alloc wx _).1
  · have h1 := b x hx
    have hn : ∀ y ∈ insP, (y.1 == 0) = false := by decide
    have : addS S 0 x.1 = S x.1 := by unfold addS; rw [hn x hx]; rfl
    rw [this, h1]; simp
end Corr
namespace Go.Proofs.YtgojfonnikgboaaGreatDoor
set_option maxRecDepth 8000
open Go.RowKit Corr
set_option linter.unusedVariables false
set_option linter.unusedSimpArgs false
theorem wc_ins {w wx : World} {S : Nat → Bool} {i : Nat} {p : Int × Int × List UInt8} (h : WC w S wx) (h0 : S 0 = true) (hi : (i, p) ∈ insP) (hS : S i = false) :
    ∃ w', (Instr.mapUpdate 43 (.map (some w.heap.size)) (vl4 p.1 0 0 p.2.1) (.agg #[.string ⟨p.2.2.toArray⟩])).run Tryz.prog wx = .ok () w' ∧ WC w (addS S i) w' := by
  obtain ⟨l, a, b, c⟩ := h.2.2 h0
  have hnot : ¬ p ∈ l := fun hp => by have := (c _ hi).1 hp; rw [hS] at this; cases this
  have hpick : pickW p.1 0 0 p.2.1 l 0 = none := by
    cases hk : pickW p.1 0 0 p.2.1 l 0 with
    | none => rfl
    | some x =>
      obtain ⟨j, v⟩ := x
      obtain ⟨q, hq, e1, _, _, e2, _⟩ := pickW_some hk
      have := wordsL_key p (insP_word _ hi) q (b q hq) e1 e2
      subst this
      exact absurd hq hnot
  refine ⟨_, upd_val p a hpick, ?_⟩
  have e0 : addS S i 0 = true := by unfold addS; rw [h0]; simp
  refine ⟨h.1.grown (row := some w.heap.size) ⟨rfl, rfl, rfl, by simp [ChangeMaps.setBlock], fun j _ hj => ChangeMaps.heap_setBlock_other a _ (fun e => hj (by rw [e]))⟩ h.1.size (fun k hk => by cases hk; exact Nat.le_refl _), (fun hs => absurd (e0.symm.trans hs) (by decide)), fun _ => ⟨l ++ [p], ChangeMaps.heap_setBlock_same a _, fun q hq => ?_, fun x hx => ?_⟩⟩
  · rcases List.mem_append.1 hq with hq | hq
    · exact b q hq
    · rw [List.mem_singleton.1 hq]; exact insP_word _ hi
  · have h1 := insP_one x hx _ hi
    have h2 := c x hx
    unfold addS
    by_cases e : x.1 = i
    · have : x.2 = p := h1.1 e
      simp [e, this]
    · have : ¬ x.2 = p := fun hh => e (h1.2 hh)
      have e' : (x.1 == i) = false := by simpa using e
      rw [e', Bool.false_or, ← h2]
      simp [this]
set_option maxHeartbeats 4000000 in
theorem words_any (w : World) : Calls Tryz.prog 19 #[] w fun e w' => ∃ b, w.heap.size ≤ b ∧ e = .returned (.map (some b)) ∧ WordsAt b w' ∧ Below w.heap.size w w' := by
  go_enter Tryz.func19, Tryz.ntmps19
  go_upto_region 1 with fail
  refine wp_region_blind 19 (WC w) (fun i => List.getD [.map (some w.heap.size), vl4 0 0 0 0, .agg #[.string ⟨#[97, 98, 115, 101, 110, 116]⟩], undef, vl4 2 0 0 0, .agg #[.string ⟨#[116, 114, 117, 101]⟩], undef, vl4 3 0 0 0, .agg #[.string ⟨#[102, 97, 108, 115, 101]⟩], undef, vl4 4 0 0 11, .agg #[.string ⟨#[111, 118, 101, 114]⟩], undef, vl4 4 0 0 12, .agg #[.string ⟨#[100, 105, 118]⟩], undef, vl4 4 0 0 13, .agg #[.string ⟨#[109, 105, 115, 115, 105, 110, 103]⟩], undef] i undef) [3, 6, 9, 12, 15, 18] (by kernel_rfl) (by kernel_rfl) ?_ ?_ ?_
  · refine ⟨(Below.refl _ _).drew, fun _ => ⟨rfl, fun x _ => rfl⟩, fun h => by cases h⟩
  · refine ⟨?_, ?_, ?_, ?_, ?_, ?_, ?_, ?_, ?_, ?_, ?_, ?_, ?_, ?_, ?_, ?_, ?_, ?_, ?_, trivial⟩
    · intro ev wv S hE hw hS hd
      obtain ⟨hw', hz⟩ := hw.made hS
      refine set_val (u := .map (some wv.heap.size)) (w' := wv.alloc (.map #[] 0)) ?_ ⟨fun _ => by rw [hz]; rfl, hw'⟩
      have hmm := @run_makeMap Tryz.prog
      clear hE hd hw hS hw' hz
      go_simp
    · intro ev wv S hE hw hS hd
      refine set_val (u := vl4 0 0 0 0) (w' := wv) ?_ ⟨fun _ => rfl, hw.pure rfl (by decide)⟩
      have e1 := hE.const; clear hE hd hw hS
      go_simp
    · intro ev wv S hE hw hS hd
      refine set_val (u := .agg #[.string ⟨#[97, 98, 115, 101, 110, 116]⟩]) (w' := wv) ?_ ⟨fun _ => rfl, hw.pure rfl (by decide)⟩
      have e1 := hE.const; clear hE hd hw hS
      go_simp
    · intro ev wv S hE hw hS hd
      have h0 := (hd 0 (by decide)).1
      have v1 : ev (.tmp 1) = .map (some w.heap.size) := (hd 0 (by decide)).2 rfl
      have v2 : ev (.tmp 2) = vl4 0 0 0 0 := (hd 1 (by decide)).2 rfl
      have v3 : ev (.tmp 3) = .agg #[.string ⟨#[97, 98, 115, 101, 110, 116]⟩] := (hd 2 (by decide)).2 rfl
      obtain ⟨w', hrun, hw'⟩ := wc_ins hw h0 (p := (0, 0, [97, 98, 115, 101, 110, 116])) (i := 3) (by decide) hS
      refine set_skip (w' := w') ?_ ⟨fun h => absurd h (by decide), hw'⟩
      clear hE hd hw hS hw' h0
      have hrun2 := hrun
      clear hrun
      simp only at hrun2
      simp only [execOp, v1, v2, v3]
      rw [Sem.run_bind]
      rw [show _ = Result.ok () w' from hrun2]
      rfl
    · intro ev wv S hE hw hS hd
      refine set_val (u := vl4 2 0 0 0) (w' := wv) ?_ ⟨fun _ => rfl, hw.pure rfl (by decide)⟩
      have e1 := hE.const; clear hE hd hw hS
      go_simp
    · intro ev wv S hE hw hS hd
      refine set_val (u := .agg #[.string ⟨#[116, 114, 117, 101]⟩]) (w' := wv) ?_ ⟨fun _ => rfl, hw.pure rfl (by decide)⟩
      have e1 := hE.const; clear hE hd hw hS
      go_simp
    · intro ev wv S hE hw hS hd
      have h0 := (hd 0 (by decide)).1
      have v1 : ev (.tmp 1) = .map (some w.heap.size) := (hd 0 (by decide)).2 rfl
      have v2 : ev (.tmp 4) = vl4 2 0 0 0 := (hd 4 (by decide)).2 rfl
      have v3 : ev (.tmp 5) = .agg #[.string ⟨#[116, 114, 117, 101]⟩] := (hd 5 (by decide)).2 rfl
      obtain ⟨w', hrun, hw'⟩ := wc_ins hw h0 (p := (2, 0, [116, 114, 117, 101])) (i := 6) (by decide) hS
      refine set_skip (w' := w') ?_ ⟨fun h => absurd h (by decide), hw'⟩
      clear hE hd hw hS hw' h0
      have hrun2 := hrun
      clear hrun
      simp only at hrun2
      simp only [execOp, v1, v2, v3]
      rw [Sem.run_bind]
      rw [show _ = Result.ok () w' from hrun2]
      rfl
    · intro ev wv S hE hw hS hd
      refine set_val (u := vl4 3 0 0 0) (w' := wv) ?_ ⟨fun _ => rfl, hw.pure rfl (by decide)⟩
      have e1 := hE.const; clear hE hd hw hS
      go_simp
    · intro ev wv S hE hw hS hd
      refine set_val (u := .agg #[.string ⟨#[102, 97, 108, 115, 101]⟩]) (w' := wv) ?_ ⟨fun _ => rfl, hw.pure rfl (by decide)⟩
      have e1 := hE.const; clear hE hd hw hS
      go_simp
    · intro ev wv S hE hw hS hd
      have h0 := (hd 0 (by decide)).1
      have v1 : ev (.tmp 1) = .map (some w.heap.size) := (hd 0 (by decide)).2 rfl
      have v2 : ev (.tmp 6) = vl4 3 0 0 0 := (hd 7 (by decide)).2 rfl
      have v3 : ev (.tmp 7) = .agg #[.string ⟨#[102, 97, 108, 115, 101]⟩] := (hd 8 (by decide)).2 rfl
      obtain ⟨w', hrun, hw'⟩ := wc_ins hw h0 (p := (3, 0, [102, 97, 108, 115, 101])) (i := 9) (by decide) hS
      refine set_skip (w' := w') ?_ ⟨fun h => absurd h (by decide), hw'⟩
      clear hE hd hw hS hw' h0
      have hrun2 := hrun
      clear hrun
      simp only at hrun2
      simp only [execOp, v1, v2, v3]
      rw [Sem.run_bind]
      rw [show _ = Result.ok () w' from hrun2]
      rfl
    · intro ev wv S hE hw hS hd
      refine set_val (u := vl4 4 0 0 11) (w' := wv) ?_ ⟨fun _ => rfl, hw.pure rfl (by decide)⟩
      have e1 := hE.const; clear hE hd hw hS
      go_simp
    · intro ev wv S hE hw hS hd
      refine set_val (u := .agg #[.string ⟨#[111, 118, 101, 114]⟩]) (w' := wv) ?_ ⟨fun _ => rfl, hw.pure rfl (by decide)⟩
      have e1 := hE.const; clear hE hd hw hS
      go_simp
    · intro ev wv S hE hw hS hd
      have h0 := (hd 0 (by decide)).1
      have v1 : ev (.tmp 1) = .map (some w.heap.size) := (hd 0 (by decide)).2 rfl
      have v2 : ev (.tmp 8) = vl4 4 0 0 11 := (hd 10 (by decide)).2 rfl
      have v3 : ev (.tmp 9) = .agg #[.string ⟨#[111, 118, 101, 114]⟩] := (hd 11 (by decide)).2 rfl
      obtain ⟨w', hrun, hw'⟩ := wc_ins hw h0 (p := (4, 11, [111, 118, 101, 114])) (i := 12) (by decide) hS
      refine set_skip (w' := w') ?_ ⟨fun h => absurd h (by decide), hw'⟩
      clear hE hd hw hS hw' h0
      have hrun2 := hrun
      clear hrun
      simp only at hrun2
      simp only [execOp, v1, v2, v3]
      rw [Sem.run_bind]
      rw [show _ = Result.ok () w' from hrun2]
      rfl
    · intro ev wv S hE hw hS hd
      refine set_val (u := vl4 4 0 0 12) (w' := wv) ?_ ⟨fun _ => rfl, hw.pure rfl (by decide)⟩
      have e1 := hE.const; clear hE hd hw hS
      go_simp
    · intro ev wv S hE hw hS hd
      refine set_val (u := .agg #[.string ⟨#[100, 105, 118]⟩]) (w' := wv) ?_ ⟨fun _ => rfl, hw.pure rfl (by decide)⟩
      have e1 := hE.const; clear hE hd hw hS
      go_simp
    · intro ev wv S hE hw hS hd
      have h0 := (hd 0 (by decide)).1
      have v1 : ev (.tmp 1) = .map (some w.heap.size) := (hd 0 (by decide)).2 rfl
      have v2 : ev (.tmp 10) = vl4 4 0 0 12 := (hd 13 (by decide)).2 rfl
      have v3 : ev (.tmp 11) = .agg #[.string ⟨#[100, 105, 118]⟩] := (hd 14 (by decide)).2 rfl
      obtain ⟨w', hrun, hw'⟩ := wc_ins hw h0 (p := (4, 12, [100, 105, 118])) (i := 15) (by decide) hS
      refine set_skip (w' := w') ?_ ⟨fun h => absurd h (by decide), hw'⟩
      clear hE hd hw hS hw' h0
      have hrun2 := hrun
      clear hrun
      simp only at hrun2
      simp only [execOp, v1, v2, v3]
      rw [Sem.run_bind]
      rw [show _ = Result.ok () w' from hrun2]
      rfl
    · intro ev wv S hE hw hS hd
      refine set_val (u := vl4 4 0 0 13) (w' := wv) ?_ ⟨fun _ => rfl, hw.pure rfl (by decide)⟩
      have e1 := hE.const; clear hE hd hw hS
      go_simp
    · intro ev wv S hE hw hS hd
      refine set_val (u := .agg #[.string ⟨#[109, 105, 115, 115, 105, 110, 103]⟩]) (w' := wv) ?_ ⟨fun _ => rfl, hw.pure rfl (by decide)⟩
      have e1 := hE.const; clear hE hd hw hS
      go_simp
    · intro ev wv S hE hw hS hd
      have h0 := (hd 0 (by decide)).1
      have v1 : ev (.tmp 1) = .map (some w.heap.size) := (hd 0 (by decide)).2 rfl
      have v2 : ev (.tmp 12) = vl4 4 0 0 13 := (hd 16 (by decide)).2 rfl
      have v3 : ev (.tmp 13) = .agg #[.string ⟨#[109, 105, 115, 115, 105, 110, 103]⟩] := (hd 17 (by decide)).2 rfl
      obtain ⟨w', hrun, hw'⟩ := wc_ins hw h0 (p := (4, 13, [109, 105, 115, 115, 105, 110, 103])) (i := 18) (by decide) hS
      refine set_skip (w' := w') ?_ ⟨fun h => absurd h (by decide), hw'⟩
      clear hE hd hw hS hw' h0
      have hrun2 := hrun
      clear hrun
      simp only at hrun2
      simp only [execOp, v1, v2, v3]
      rw [Sem.run_bind]
      rw [show _ = Result.ok () w' from hrun2]
      rfl
  · intro S wz hall hC
    obtain ⟨l, hl, hin, hiff⟩ := hC.2.2 (hall 0 (by decide))
    have HW : WordsAt w.heap.size wz := ⟨l, hl, fun p => ⟨hin p, fun hp => by
      obtain ⟨x, hx, rfl⟩ := word_insP p hp
      exact (hiff x hx).2 (hall x.1 (by have : ∀ y ∈ insP, y.1 < 19 := by decide
                                        exact this x hx))⟩⟩
    have HB := hC.1
    clear hC hall hl hin hiff
    intro v0 h0 v1 h1 v2 h2 v3 h3 v4 h4 v5 h5 v6 h6 v7 h7 v8 h8 v9 h9 v10 h10 v11 h11 v12 h12 v13 h13 v14 h14 v15 h15 v16 h16 v17 h17 v18 h18
    simp only [Act.put, List.setIfInBounds_toArray, List.set_cons_zero, List.set_cons_succ, List.drop_succ_cons, List.drop_zero]
    obtain rfl : v0 = _ := h0
    clear h1 h2 h3 h4 h5 h6 h7 h8 h9 h10 h11 h12 h13 h14 h15 h16 h17 h18
    change wpList Tryz.prog _ _ _ _ wz
    go_wp2_with fail
    refine calm_normal ?_
    go_wp2_with fail
    go_ret
    exact ⟨_, Nat.le_refl _, rfl, HW, HB⟩
end Go.Proofs.YtgojfonnikgboaaGreatDoor

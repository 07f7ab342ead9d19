/- Contract of Of of package spans, from the sort's. -/
import Derived.Test.YtmolbckndkhhlaaSpP1
import Derived.Test.YtmolbckndkhhlaaSpPut
import Derived.Test.YtmolbckndkhhlaaSp6
namespace Go.Proofs.Ytmolbckndkhhlaa
set_option maxRecDepth 8000
open Go.RowKit Corr
set_option linter.unusedVariables false
set_option linter.unusedSimpArgs false
theorem box_facts {w : World} {g : Nat} {T : TypeId} {u v : Value} (h : w.heap[g]? = some (.cells #[u, v] T)) : w.cell? ⟨g, 0, none⟩ = some u ∧ w.cell? ⟨g, 1, none⟩ = some v ∧ w.frozen? ⟨g, 0, none⟩ = false ∧ w.frozen? ⟨g, 1, none⟩ = false :=
  ⟨by rw [Joins.cell_of_block h]; rfl, by rw [Joins.cell_of_block h]; rfl, frozen_of_row w g 0 _ _ h, frozen_of_row w g 1 _ _ h⟩
/-- What is asked of the sort: a row of the caller's own is put in order by where its spans begin. -/
def SortC : Prop := ∀ (B : Nat) (A : Option Addr) (n c : Nat) (l : SpL) (w : World), w.ownsRow B 37 2 (.slice A n c) n (cells2 l) → n ≤ 4000000 →
  Calls Try.prog 26 #[.slice A n c, .func (.func 27) #[] #[]] w fun e w' => e = .returned (.tuple #[]) ∧ ∃ m : SpL, m.Perm l ∧ m.Pairwise (fun s t => s.1 ≤ t.1) ∧ w'.ownsRow B 37 2 (.slice A n c) n (cells2 m) ∧ Below B w w'
set_option maxHeartbeats 4000000 in
theorem of_max (HSC : SortC) (A : Option Addr) (N c : Nat) (a : SpL) (w : World) (R : Spn w A N c a) (hN : N ≤ 1000000) : Calls Try.prog 12 #[.slice A N c] w (RetSpn 37 w (twoL 0 a [])) := by
  have HR := Lib.hid R
  have HSort := Lib.hid HSC
  clear R HSC
  go_enter Try.func12, Try.ntmps12
  go_wp2_with fail
  go_loopw [3, 11] (fun v t wr => ∃ (k q : Nat) (out : SpL), t = .int .i64 (k : Int) ∧ k ≤ N ∧ Hid (riseL (a.take k) = out) ∧ Hid (out.length = q) ∧ q ≤ k ∧ wr.ownsRow w.heap.size 37 2 v q (cells2 out) ∧ Below w.heap.size w wr) (fun _ t _ => (N - intOf t).toNat)
  case atStart => exact ⟨0, 0, [], rfl, by omega, Lib.hid rfl, Lib.hid rfl, Nat.le_refl _, World.ownsRow_nil _ _ _ _, Below.refl _ _⟩
  case round =>
    obtain ⟨k, q, out, rfl, hk, HO, HL, hq, hown, hb⟩ := hrel
    have HB := Lib.hid hb
    have hsz := hb.size
    clear hb
    by_cases hlt : k < N
    · obtain ⟨g, off, s, rfl, hs, hg, c0, c1⟩ := Spn.get (HR.out.keep HB.out) hlt
      obtain ⟨x, y⟩ := s
      have hi2 : (k : Int) < (N : Int) := by omega
      obtain ⟨X, Y, hXY⟩ : ∃ X Y, inI (x, y) = (X, Y) := ⟨_, _, rfl⟩
      have hwi := fun w' => within_any x y w'
      simp only [hXY] at hwi
      obtain ⟨A1, c1', rfl, _⟩ := Lies.of_own hown hown.1
      have HOB := Lib.hid (own_ge hown)
      by_cases hlt2 : X < Y
      · have HN := Lib.hid (show riseL (a.take (k + 1)) = out ++ [(X, Y)] by rw [riseL_yes hs (by rw [hXY]; exact hlt2), HO.out, hXY])
        clear hXY hs
        go_wp2_with (first | (go_at_call 25; refine (hwi _).mono ?_; rintro e w2 ⟨rfl, hb2⟩; have HW := Lib.hid (((((Below.refl wr.heap.size wr).alloc (Nat.le_refl _) (.cells #[.int .i64 x, .int .i64 y] 37)).trans (hb2.mono (by simp))).setCell (p := ⟨wr.heap.size, 0, none⟩) (Nat.le_refl _) (encZ X)).setCell (p := ⟨wr.heap.size, 1, none⟩) (Nat.le_refl _) (encZ Y)); have HK := Lib.hid (own_keep hown HW.out); have HB3 := Lib.hid (HB.out.trans (HW.out.mono hsz)); have z5 : wr.heap.size < w2.heap.size := Nat.lt_of_lt_of_le (by simp) hb2.size; have p0 := (box_facts ((hb2.block wr.heap.size (by simp)).trans (heap_alloc_new wr (.cells #[.int .i64 x, .int .i64 y] 37)))).1; have p1 := (box_facts ((hb2.block wr.heap.size (by simp)).trans (heap_alloc_new wr (.cells #[.int .i64 x, .int .i64 y] 37)))).2.1; have f0 := (box_facts ((hb2.block wr.heap.size (by simp)).trans (heap_alloc_new wr (.cells #[.int .i64 x, .int .i64 y] 37)))).2.2.1; have f1 := (box_facts ((hb2.block wr.heap.size (by simp)).trans (heap_alloc_new wr (.cells #[.int .i64 x, .int .i64 y] 37)))).2.2.2; clear hb2 hwi) | (at_builtin; have HOA2 := Lib.hid (HK.out.alloc (.cells #[encZ X, encZ Y] 37)); have HBA2 := Lib.hid (HB3.out.alloc (by simp; omega) (.cells #[encZ X, encZ Y] 37)); have HNC := Lib.hid (new_cells ((w2.setCell ⟨wr.heap.size, 0, none⟩ (encZ X)).setCell ⟨wr.heap.size, 1, none⟩ (encZ Y)) [encZ X, encZ Y] 37); rw [show ((w2.setCell ⟨wr.heap.size, 0, none⟩ (encZ X)).setCell ⟨wr.heap.size, 1, none⟩ (encZ Y)).heap.size = w2.heap.size by simp] at HNC; refine wpList_app rfl _ _ 22 rfl [encZ X, encZ Y] elem_span rfl HOA2.out rfl (by rfl) (fun _ => ⟨_, rfl, HNC.out⟩) (ints_one [X, Y]) (by omega) (by unfold maxLen; omega) (by simp; omega) ?_; rintro v1 w1 hown1 hgrow1; have HB4 := Lib.hid (HBA2.out.grown hgrow1 (by simp; omega) HOB.out); have HO4 := Lib.hid (show w1.ownsRow w.heap.size 37 2 v1 (q + 1) (cells2 (out ++ [(X, Y)])) by rw [cells2_append]; exact hown1); clear hown1 hgrow1 hown))
        go_roundw
        case rel => exact ⟨k + 1, q + 1, _, by go_num, by omega, HN, Lib.hid (by rw [List.length_append, HL.out]; rfl), by omega, HO4.out, HB4.out⟩
        case measure => simp [intOf]; omega
      · have HN := Lib.hid (show riseL (a.take (k + 1)) = out by rw [riseL_no hs (by rw [hXY]; exact hlt2), HO.out])
        clear hXY hs
        go_wp2_with (go_at_call 25; refine (hwi _).mono ?_; rintro e w2 ⟨rfl, hb2⟩; have HW := Lib.hid (((((Below.refl wr.heap.size wr).alloc (Nat.le_refl _) (.cells #[.int .i64 x, .int .i64 y] 37)).trans (hb2.mono (by simp))).setCell (p := ⟨wr.heap.size, 0, none⟩) (Nat.le_refl _) (encZ X)).setCell (p := ⟨wr.heap.size, 1, none⟩) (Nat.le_refl _) (encZ Y)); have HK := Lib.hid (own_keep hown HW.out); have HB3 := Lib.hid (HB.out.trans (HW.out.mono hsz)); have z5 : wr.heap.size < w2.heap.size := Nat.lt_of_lt_of_le (by simp) hb2.size; have p0 := (box_facts ((hb2.block wr.heap.size (by simp)).trans (heap_alloc_new wr (.cells #[.int .i64 x, .int .i64 y] 37)))).1; have p1 := (box_facts ((hb2.block wr.heap.size (by simp)).trans (heap_alloc_new wr (.cells #[.int .i64 x, .int .i64 y] 37)))).2.1; have f0 := (box_facts ((hb2.block wr.heap.size (by simp)).trans (heap_alloc_new wr (.cells #[.int .i64 x, .int .i64 y] 37)))).2.2.1; have f1 := (box_facts ((hb2.block wr.heap.size (by simp)).trans (heap_alloc_new wr (.cells #[.int .i64 x, .int .i64 y] 37)))).2.2.2; clear hb2 hwi)
        go_roundw
        case rel => exact ⟨k + 1, q, _, by go_num, by omega, HN, HL, by omega, HK.out, HB3.out⟩
        case measure => simp [intOf]; omega
    · obtain ⟨A1, c1', rfl, _⟩ := Lies.of_own hown hown.1
      have HE := Lib.hid (show riseL a = out by rw [← HO.out, List.take_of_length_le (by have := HR.out.count; omega)])
      have hkn : k = N := by omega
      have HSo := Lib.hid (HSort.out w.heap.size A1 q c1' out wr hown (by omega))
      clear hown HSort
      go_wp2_with (go_at_call 26; refine HSo.out.mono ?_; rintro e w2 ⟨rfl, m, hperm, hsort, hown2, hb2⟩; have HJ := Lib.hid (join_is (l := a) (m := m) (by rw [HE.out]; exact hperm) hsort); have HM := Lib.hid (own_lies hown2); have HB2 := Lib.hid (HB.out.trans hb2); have HC := Lib.hid (Spn.count (own_lies hown2)); clear hperm hsort hown2 hb2 HSo HB)
      go_loopw [6, 31] (fun v t wr => ∃ (k p : Nat) (out : SpL), t = .int .i64 (k : Int) ∧ k ≤ q ∧ Hid (joinL (m.take k) = out) ∧ Hid (out.length = p) ∧ p ≤ k ∧ wr.ownsRow w2.heap.size 37 2 v p (cells2 out) ∧ Below w2.heap.size w2 wr) (fun _ t _ => (q - intOf t).toNat)
      case atStart => exact ⟨0, 0, [], rfl, by omega, Lib.hid rfl, Lib.hid rfl, Nat.le_refl _, World.ownsRow_nil _ _ _ _, Below.refl _ _⟩
      case round =>
        obtain ⟨i, p, o2, rfl, hi, HO2, HL2, hp, hown, hb⟩ := hrel
        have HB := Lib.hid hb
        have hsz2 := hb.size
        clear hb
        by_cases hlt3 : i < q
        · obtain ⟨g, off, s, rfl, hs, hg, c0, c1⟩ := Spn.get (HM.out.keep HB.out) hlt3
          obtain ⟨x, y⟩ := s
          have hi2 : (i : Int) < (q : Int) := by omega
          have HN := Lib.hid (joinL_more hs)
          rw [HO2.out] at HN
          obtain ⟨A3, c3, rfl, _⟩ := Lies.of_own hown hown.1
          have HPut := Lib.hid (put_any w2.heap.size A3 p c3 o2 x y (wr.alloc (.cells #[.int .i64 x, .int .i64 y] 37)) (hown.alloc _) (by simp; omega) (by omega))
          have HLL := Lib.hid (putL_len o2 (x, y))
          clear hs
          go_wp2_with (go_at_call 29; refine HPut.out.mono ?_; rintro e w4 ⟨A4, n4, c4, rfl, hown4, hb4⟩; have HO4 := Lib.hid hown4; have HB4 := Lib.hid ((HB.out.alloc hsz2 (.cells #[.int .i64 x, .int .i64 y] 37)).trans hb4); have HL4 := Lib.hid (Spn.count (own_lies hown4)); clear hown4 hb4 HPut hown)
          go_roundw
          case rel => exact ⟨i + 1, n4, _, by go_num, by omega, HN, HL4, by have := HL4.out; have := HLL.out; have := HL2.out; omega, HO4.out, HB4.out⟩
          case measure => simp [intOf]; omega
        · have HF := Lib.hid (show o2 = twoL 0 a [] by rw [← HJ.out, ← HO2.out, List.take_of_length_le (by have := HC.out; omega)])
          obtain ⟨A3, c3, rfl, _⟩ := Lies.of_own hown hown.1
          have HB4 := Lib.hid (HB2.out.trans (HB.out.mono HB2.out.size))
          have HO4 := Lib.hid (own_low hown HB2.out.size)
          go_wp2_with fail
          go_ret
          exact ⟨A3, p, c3, rfl, by rw [← HF.out]; exact HO4.out, HB4.out⟩
end Go.Proofs.Ytmolbckndkhhlaa

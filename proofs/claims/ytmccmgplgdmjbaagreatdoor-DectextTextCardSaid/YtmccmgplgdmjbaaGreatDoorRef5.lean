/- Contracts of corrodyref01: Neg, Add. -/
import Derived.Test.YtmccmgplgdmjbaaGreatDoorRef4
import Derived.Deep.RegionHeld3
import Derived.Deep.DeepCutAuto
import Derived.Deep.CutBlock
import Derived.Deep.LoopGhost
namespace Corr
set_option maxRecDepth 8000
open Go Go.RowKit
/-- A block that is just these two cells, and may be written. -/
structure Box2 (w : World) (k : Nat) (a b : Value) : Prop where
  blk : ∃ T, w.heap[k]? = some (.cells #[a, b] T (0, 0))
theorem Box2.c0 {w : World} {k : Nat} {a b : Value} (h : Box2 w k a b) : w.cell? ⟨k, 0, none⟩ = some a := by
  obtain ⟨T, h⟩ := h.blk; rw [Joins.cell_of_block h]; rfl
theorem Box2.c1 {w : World} {k : Nat} {a b : Value} (h : Box2 w k a b) : w.cell? ⟨k, 1, none⟩ = some b := by
  obtain ⟨T, h⟩ := h.blk; rw [Joins.cell_of_block h]; rfl
theorem Box2.f {w : World} {k : Nat} {a b : Value} (h : Box2 w k a b) (i : Nat) : w.frozen? ⟨k, i, none⟩ = false := by
  obtain ⟨T, h⟩ := h.blk; exact Joins.unfrozen_of_block h _
theorem Box2.sz {w : World} {k : Nat} {a b : Value} (h : Box2 w k a b) : k < w.heap.size := by
  obtain ⟨T, h⟩ := h.blk; exact (Array.getElem?_eq_some_iff.1 h).1
theorem Box2.keep {W w1 : World} {k : Nat} {a b : Value} (h : Box2 W k a b) (hb : Below W.heap.size W w1) : Box2 w1 k a b := by
  have hk := h.sz
  obtain ⟨T, h⟩ := h.blk
  exact ⟨T, by rw [hb.block k hk]; exact h⟩
theorem Box2.new (w : World) (a b : Value) (T : TypeId) : Box2 (w.alloc (.cells #[a, b] T)) w.heap.size a b := ⟨T, heapNew w _⟩
theorem Box2.alloc {w : World} {k : Nat} {a b : Value} (h : Box2 w k a b) (o : Obj) : Box2 (w.alloc o) k a b :=
  h.keep ((Below.refl _ _).alloc (Nat.le_refl _) _)
theorem Box2.drew {w : World} {k : Nat} {a b : Value} (h : Box2 w k a b) : Box2 w.drew k a b := h.keep ((Below.refl _ _).drew)
theorem Box2.far {w : World} {k g : Nat} {a b : Value} (h : Box2 w k a b) (hg : k ≠ g) (u v : Value) : Box2 ((w.setCell ⟨g, 0, none⟩ u).setCell ⟨g, 1, none⟩ v) k a b := by
  obtain ⟨T, h⟩ := h.blk
  exact ⟨T, by rw [Below.heap_setCell _ _ _ _ hg, Below.heap_setCell _ _ _ _ hg]; exact h⟩
theorem Box2.stored {w : World} {k : Nat} {a b : Value} (h : Box2 w k a b) (u v : Value) : Box2 ((w.setCell ⟨k, 0, none⟩ u).setCell ⟨k, 1, none⟩ v) k u v := by
  obtain ⟨T, h⟩ := h.blk
  exact ⟨T, by rw [Joins.block_setCell (Joins.block_setCell h u) v]; rfl⟩
/-- Such a block, a truth and a slice, is no row's. -/
theorem Box2.ne_row {w : World} {g n c : Nat} {s : Bool} {v : Value} {A : Option Addr} {xs : List Nat} (h : Box2 w g (.bool s) v) (hv : ∀ k z, v ≠ .int k z) (r : Row w A n c xs) : 0 < n → ∀ k off, A = some ⟨k, off, none⟩ → k ≠ g := by
  intro hn k off hA e
  subst e
  obtain ⟨k', off', hA', _, hc⟩ := r.at_ hn
  rw [hA] at hA'
  injection hA' with hA'
  injection hA' with e1 e2 _
  subst e1 e2
  have hl : 0 < xs.length := by rw [r.len]; exact hn
  have h0 := hc 0 _ (List.getElem?_eq_getElem hl)
  obtain ⟨T, hb⟩ := h.blk
  rw [Joins.cell_of_block hb, Nat.add_zero] at h0
  match off, h0 with
  | 0, h0 => simp at h0
  | 1, h0 => simp at h0; exact hv _ _ h0
  | off + 2, h0 => simp at h0
theorem Row.alloc {w : World} {A : Option Addr} {n c : Nat} {xs : List Nat} (h : Row w A n c xs) (o : Obj) : Row (w.alloc o) A n c xs := h.keep ((Below.refl _ _).alloc (Nat.le_refl _) _)
theorem Row.drew {w : World} {A : Option Addr} {n c : Nat} {xs : List Nat} (h : Row w A n c xs) : Row w.drew A n c xs := h.keep ((Below.refl _ _).drew)
/-- A row stays where two cells of another block are written, one that is none of the row's. -/
theorem Row.far {w : World} {A : Option Addr} {n c g : Nat} {xs : List Nat} (h : Row w A n c xs) (hg : 0 < n → ∀ k off, A = some ⟨k, off, none⟩ → k ≠ g) (a b : Value) : Row ((w.setCell ⟨g, 0, none⟩ a).setCell ⟨g, 1, none⟩ b) A n c xs :=
  ⟨h.len, h.cap, fun hn => by
    obtain ⟨k, off, hA, hk, hc⟩ := h.at_ hn
    have hne := hg hn k off hA
    refine ⟨k, off, hA, by simp [go_sem]; omega, fun i x hx => ?_⟩
    have := hc i x hx
    simp [go_sem, this]⟩
theorem sgn_neg (s : Bool) (n : Nat) : nzB s n = negB (val s n) := by unfold nzB; rw [negB_val, Bool.eq_iff_iff]; simp
end Corr
namespace Go.Proofs.YtmccmgplgdmjbaaGreatDoor
set_option maxRecDepth 8000
open Go.RowKit Corr
set_option linter.unusedVariables false

theorem nneg_any (s : Bool) (A : Option Addr) (n c a : Nat) (z : Int) (w : World) (hx : Row w A n c (digs a)) (hn : n ≤ 100000) (hz : val s a = z) :
    Calls Tryz.prog 56 #[.agg #[.bool s, .slice A n c]] w (RetN w (negB (-z)) (digs (-z).natAbs)) := by
  have HB := Lib.hid (show nzB (!s) (dv (digs a)) = negB (-z) by rw [dv_digs, sgn_neg, neg_val, hz])
  have HA := Lib.hid (show dv (digs a) = (-z).natAbs by rw [dv_digs, ← hz, Int.natAbs_neg, natAbs_val])
  generalize negB (-z) = bb at *
  generalize (-z).natAbs = za at *
  have hX := (hx.alloc (.cells #[.bool s, .slice A n c] 35)).alloc (.cells #[.bool false, .slice none 0 0] 35)
  have R0 := Box2.new (w.alloc (.cells #[.bool s, .slice A n c] 35)) (.bool false) (.slice none 0 0) 35
  rw [size_alloc] at R0
  clear hz
  go_enter Tryz.func56, Tryz.ntmps56
  go_wp2_with fail
  refine (short_any _ _ _ _ _ _ hX (digs_lt a) hn).mono ?_
  rintro e w1 ⟨A', k', c', rfl, R, hb⟩
  rw [HB.out]
  rw [HA.out] at R
  have R1 := R0.keep hb
  have r0 := R1.c0; have r1 := R1.c1; have r2 := R1.f 0; have r3 := R1.f 1
  have B1 : Below w.heap.size w w1 := (((Below.refl _ _).alloc (Nat.le_refl _) _).alloc (by simp) _).trans (hb.mono (by simp; omega))
  have HR := Lib.hid (R.far (R1.ne_row (by intro k z h; cases h) R) (.bool bb) (.slice A' k' c'))
  clear hb R
  go_wp2_with fail
  refine bodyPost_ret (v := .agg #[.bool bb, .slice A' k' c']) (by simp [results, Tryz.results56, go_sem, r0, r1]) rfl ⟨A', k', c', rfl, HR.out, ?_⟩
  exact (B1.setCell (by simp) _).setCell (by simp) _

set_option maxHeartbeats 1000000 in

set_option maxHeartbeats 1000000 in

set_option maxHeartbeats 1000000 in

set_option maxHeartbeats 1000000 in

set_option maxHeartbeats 1000000 in
theorem nadd_same (s : Bool) (A B : Option Addr) (n m ca cb a b : Nat) (z : Int) (w : World) (hx : Row w A n ca (digs a)) (hy : Row w B m cb (digs b)) (hn : n ≤ 5000) (hm : m ≤ 5000) (hz : val s a + val s b = z) :
    Calls Tryz.prog 55 #[.agg #[.bool s, .slice A n ca], .agg #[.bool s, .slice B m cb]] w (RetN w (negB z) (digs z.natAbs)) := by
  have hzz : val s (a + b) = z := by rw [← hz, val_add]
  generalize hbb : negB z = bb
  generalize hza : z.natAbs = za
  have HBB := Lib.hid (show nzB s (dv (digs a) + dv (digs b)) = bb by rw [dv_digs, dv_digs, sgn_neg, hzz, hbb])
  have HZA := Lib.hid (show dv (digs a) + dv (digs b) = za by rw [dv_digs, dv_digs, ← hza, ← hzz, natAbs_val])
  clear hbb hza hz hzz
  have X0 := ((Box2.new w (.bool s) (.slice A n ca) 35).alloc (.cells #[.bool s, .slice B m cb] 35)).alloc (.cells #[.bool false, .slice none 0 0] 35)
  have Y0 := (Box2.new (w.alloc (.cells #[.bool s, .slice A n ca] 35)) (.bool s) (.slice B m cb) 35).alloc (.cells #[.bool false, .slice none 0 0] 35)
  have Z0 := Box2.new ((w.alloc (.cells #[.bool s, .slice A n ca] 35)).alloc (.cells #[.bool s, .slice B m cb] 35)) (.bool false) (.slice none 0 0) 35
  rw [size_alloc] at Y0
  rw [size_alloc, size_alloc] at Z0
  have hX := (((hx.alloc (.cells #[.bool s, .slice A n ca] 35)).alloc (.cells #[.bool s, .slice B m cb] 35)).alloc (.cells #[.bool false, .slice none 0 0] 35)).drew
  have hY := (((hy.alloc (.cells #[.bool s, .slice A n ca] 35)).alloc (.cells #[.bool s, .slice B m cb] 35)).alloc (.cells #[.bool false, .slice none 0 0] 35)).drew
  have BW : Below w.heap.size w (((w.alloc (.cells #[.bool s, .slice A n ca] 35)).alloc (.cells #[.bool s, .slice B m cb] 35)).alloc (.cells #[.bool false, .slice none 0 0] 35)) := (((Below.refl _ _).alloc (Nat.le_refl _) _).alloc (by simp) _).alloc (by simp; omega) _
  have t1 : (s == s) = true := by simp
  go_enter Tryz.func55, Tryz.ntmps55
  go_upto_region 2 with fail
  go_region_held3 (fun w' => w'.cell? ⟨w.heap.size, 0, none⟩ = some (.bool s) ∧ w'.cell? ⟨w.heap.size, 1, none⟩ = some (.slice A n ca) ∧ w'.cell? ⟨w.heap.size + 1, 1, none⟩ = some (.slice B m cb))
    (first | (with_reducible exact ⟨(XB.far (by omega) _ _).c0, (XB.far (by omega) _ _).c1, (YB.far (by omega) _ _).c1⟩) | (with_reducible exact ⟨(XB).c0, (XB).c1, (YB).c1⟩) | (with_reducible exact ⟨(XA).c0, (XA).c1, (YA).c1⟩) | (with_reducible exact ⟨(X0.drew).c0, (X0.drew).c1, (Y0.drew).c1⟩) | go_keep)
    (first
      | (go_at_call 30; refine (plus_any _ _ _ _ _ _ _ _ _ hX hY (digs_lt a) (digs_lt b) (by omega) (by omega)).mono ?_; rintro e wA ⟨A1, k1, c1, o, rfl, RO, ⟨o1, o2, o3⟩, hbA⟩; have HO := Lib.hid o1; clear o1; have HO2 := Lib.hid o2; clear o2; have XA := X0.drew.keep hbA; have YA := Y0.drew.keep hbA; have ZA := Z0.drew.keep hbA; have BA := BW.drew.trans (hbA.mono (by simp; omega)))
      | (go_at_call 31; refine (short_any _ _ _ _ _ _ RO HO2.out (by have := RO.len; omega)).mono ?_; rintro e wB ⟨A2, k2, c2, rfl, RB, hbB⟩; have XB := XA.keep hbB; have YB := YA.keep hbB; have ZB := ZA.keep hbB; have BB := BA.trans (hbB.mono BA.size); have z0 := ZB.c0; have z1 := ZB.c1; have z2 := ZB.f 0; have z3 := ZB.f 1))
  have HR := Lib.hid (RB.far (ZB.ne_row (by intro k z h; cases h) RB) (.bool (nzB (s) (dv o))) (.slice A2 k2 c2))
  clear RB
  go_wp2_with fail
  refine bodyPost_ret (v := .agg #[.bool (nzB (s) (dv o)), .slice A2 k2 c2]) (by simp [results, Tryz.results55, go_sem, z0, z1]) rfl ⟨A2, k2, c2, by rw [HO.out, HBB.out], by rw [← HZA.out, ← HO.out]; exact HR.out, ?_⟩
  exact (BB.setCell (by simp; omega) _).setCell (by simp; omega) _

theorem len_le {a b : Nat} (h : b ≤ a) : (digs b).length ≤ (digs a).length := by
  rcases Nat.lt_or_ge (digs a).length (digs b).length with h1 | h1
  · have := digs_lt_of_len h1; omega
  · exact h1
set_option maxHeartbeats 2000000 in
theorem nadd_apart (s s' : Bool) (A B : Option Addr) (n m ca cb a b : Nat) (z : Int) (w : World) (hx : Row w A n ca (digs a)) (hy : Row w B m cb (digs b)) (hn : n ≤ 5000) (hm : m ≤ 5000) (hs : s' = !s) (hz : val s a + val s' b = z) :
    Calls Tryz.prog 55 #[.agg #[.bool s, .slice A n ca], .agg #[.bool s', .slice B m cb]] w (RetN w (negB z) (digs z.natAbs)) := by
  have hAg := ((hx.alloc (.cells #[.bool s, .slice A n ca] 35)).alloc (.cells #[.bool s', .slice B m cb] 35)).alloc (.cells #[.bool false, .slice none 0 0] 35)
  have hBg := ((hy.alloc (.cells #[.bool s, .slice A n ca] 35)).alloc (.cells #[.bool s', .slice B m cb] 35)).alloc (.cells #[.bool false, .slice none 0 0] 35)
  have t1 : (s == s') = false := by rw [hs]; cases s <;> rfl
  generalize hbb : negB z = bb
  generalize hza : z.natAbs = za
  by_cases hlt : a < b
  · have hzz : val s' (b - a) = z := by rw [← hz, hs, val_apart' s a b (by omega)]
    have HBB := Lib.hid (show nzB s' (dv (digs b) - dv (digs a)) = bb by rw [dv_digs, dv_digs, sgn_neg, hzz, hbb])
    have HZA := Lib.hid (show dv (digs b) - dv (digs a) = za by rw [dv_digs, dv_digs, ← hza, ← hzz, natAbs_val])
    have HC := Lib.hid (cmpI_lt (show (a : Int) < b by omega))
    have HLE := Lib.hid (show dv (digs a) ≤ dv (digs b) by rw [dv_digs, dv_digs]; omega)
    have hnm : n ≤ m := by have := len_le (show a ≤ b by omega); rw [hx.len, hy.len] at this; exact this
    clear hbb hza hz hzz hs hlt
    go_enter Tryz.func55, Tryz.ntmps55
    go_wp2_with fail
    refine (against_any _ _ _ _ _ _ _ _ _ hAg hBg (by omega) (by omega)).mono ?_
    rintro e w1 ⟨rfl, q, rfl⟩
    rw [HC.out]
    clear hAg hBg
    go_upto_region 5 with fail
    have X0 := (((Box2.new w (.bool s) (.slice A n ca) 35).alloc (.cells #[.bool s', .slice B m cb] 35)).alloc (.cells #[.bool false, .slice none 0 0] 35)).keep (Joins.below_draws _ _ q)
    have Y0 := (Box2.new (w.alloc (.cells #[.bool s, .slice A n ca] 35)) (.bool s') (.slice B m cb) 35).alloc (.cells #[.bool false, .slice none 0 0] 35) |>.keep (Joins.below_draws _ _ q)
    have Z0 := (Box2.new ((w.alloc (.cells #[.bool s, .slice A n ca] 35)).alloc (.cells #[.bool s', .slice B m cb] 35)) (.bool false) (.slice none 0 0) 35).keep (Joins.below_draws _ _ q)
    rw [size_alloc] at Y0
    rw [size_alloc, size_alloc] at Z0
    have BW : Below w.heap.size w ((((w.alloc (.cells #[.bool s, .slice A n ca] 35)).alloc (.cells #[.bool s', .slice B m cb] 35)).alloc (.cells #[.bool false, .slice none 0 0] 35)).drewN q) := ((((Below.refl _ _).alloc (Nat.le_refl _) _).alloc (by simp) _).alloc (by simp; omega) _).trans (Joins.below_draws _ _ q)
    have sW := Z0.sz
    generalize (((w.alloc (.cells #[.bool s, .slice A n ca] 35)).alloc (.cells #[.bool s', .slice B m cb] 35)).alloc (.cells #[.bool false, .slice none 0 0] 35)).drewN q = W4 at *
    have X1 := (X0.stored (.bool s') (.slice B m cb)).far (g := w.heap.size + 1) (by omega) (.bool s) (.slice A n ca)
    have Y1 := (Y0.far (g := w.heap.size) (by omega) (.bool s') (.slice B m cb)).stored (.bool s) (.slice A n ca)
    have Z1 := (Z0.far (g := w.heap.size) (by omega) (.bool s') (.slice B m cb)).far (g := w.heap.size + 1) (by omega) (.bool s) (.slice A n ca)
    have BW1 := (((BW.setCell (p := ⟨w.heap.size, 0, none⟩) (by simp) (.bool s')).setCell (p := ⟨w.heap.size, 1, none⟩) (by simp) (.slice B m cb)).setCell (p := ⟨w.heap.size + 1, 0, none⟩) (by simp) (.bool s)).setCell (p := ⟨w.heap.size + 1, 1, none⟩) (by simp) (.slice A n ca)
    clear X0 Y0 Z0 BW sW
    generalize (((W4.setCell ⟨w.heap.size, 0, none⟩ (.bool s')).setCell ⟨w.heap.size, 1, none⟩ (.slice B m cb)).setCell ⟨w.heap.size + 1, 0, none⟩ (.bool s)).setCell ⟨w.heap.size + 1, 1, none⟩ (.slice A n ca) = W5 at *
    have X0 := X1
    have Y0 := Y1
    have Z0 := Z1
    have BW := BW1
    have sW := Z0.sz
    clear X1 Y1 Z1 BW1
    have hX := (hx.keep BW).drew
    have hY := (hy.keep BW).drew
    go_region_held3 (fun w' => w'.cell? ⟨w.heap.size, 0, none⟩ = some (.bool s') ∧ w'.cell? ⟨w.heap.size, 1, none⟩ = some (.slice B m cb) ∧ w'.cell? ⟨w.heap.size + 1, 1, none⟩ = some (.slice A n ca))
      (first | (with_reducible exact ⟨(XB.far (by omega) _ _).c0, (XB.far (by omega) _ _).c1, (YB.far (by omega) _ _).c1⟩) | (with_reducible exact ⟨(XB).c0, (XB).c1, (YB).c1⟩) | (with_reducible exact ⟨(XA).c0, (XA).c1, (YA).c1⟩) | (with_reducible exact ⟨(X0.drew).c0, (X0.drew).c1, (Y0.drew).c1⟩) | go_keep)
      (first
        | (go_at_call 75; refine (minus_any _ _ _ _ _ _ _ _ _ hY hX (digs_lt b) (digs_lt a) (by omega) (by omega) HLE.out).mono ?_; rintro e wA ⟨A1, k1, c1, o, rfl, RO, ⟨o1, o2, o3⟩, hbA⟩; have HO := Lib.hid o1; clear o1; have HO2 := Lib.hid o2; clear o2; have XA := X0.drew.keep hbA; have YA := Y0.drew.keep hbA; have ZA := Z0.drew.keep hbA; have BA := BW.drew.trans (hbA.mono (by show w.heap.size ≤ W5.heap.size; omega)))
        | (go_at_call 31; refine (short_any _ _ _ _ _ _ RO HO2.out (by have := RO.len; omega)).mono ?_; rintro e wB ⟨A2, k2, c2, rfl, RB, hbB⟩; have XB := XA.keep hbB; have YB := YA.keep hbB; have ZB := ZA.keep hbB; have BB := BA.trans (hbB.mono BA.size); have z0 := ZB.c0; have z1 := ZB.c1; have z2 := ZB.f 0; have z3 := ZB.f 1))
    have HR := Lib.hid (RB.far (ZB.ne_row (by intro k z h; cases h) RB) (.bool (nzB (s') (dv o))) (.slice A2 k2 c2))
    clear RB
    go_wp2_with fail
    refine bodyPost_ret (v := .agg #[.bool (nzB (s') (dv o)), .slice A2 k2 c2]) (by simp [results, Tryz.results55, go_sem, z0, z1]) rfl ⟨A2, k2, c2, by rw [HO.out, HBB.out], by rw [← HZA.out, ← HO.out]; exact HR.out, ?_⟩
    exact (BB.setCell (by simp; omega) _).setCell (by simp; omega) _
  · have hzz : val s (a - b) = z := by rw [← hz, hs, val_apart s a b (by omega)]
    have HBB := Lib.hid (show nzB s (dv (digs a) - dv (digs b)) = bb by rw [dv_digs, dv_digs, sgn_neg, hzz, hbb])
    have HZA := Lib.hid (show dv (digs a) - dv (digs b) = za by rw [dv_digs, dv_digs, ← hza, ← hzz, natAbs_val])
    have hk : 0 ≤ cmpI (a : Int) b := by
      by_cases e : (a : Int) = b
      · rw [cmpI_eq e]; omega
      · rw [cmpI_gt (by omega)]; omega
    generalize hkk : cmpI (a : Int) (b : Int) = k at hk
    have HC := Lib.hid hkk
    have HLE := Lib.hid (show dv (digs b) ≤ dv (digs a) by rw [dv_digs, dv_digs]; omega)
    have hnm : m ≤ n := by have := len_le (show b ≤ a by omega); rw [hx.len, hy.len] at this; exact this
    clear hbb hza hz hzz hs hlt hkk
    go_enter Tryz.func55, Tryz.ntmps55
    go_wp2_with fail
    refine (against_any _ _ _ _ _ _ _ _ _ hAg hBg (by omega) (by omega)).mono ?_
    rintro e w1 ⟨rfl, q, rfl⟩
    rw [HC.out]
    clear hAg hBg
    go_upto_region 5 with fail
    have X0 := (((Box2.new w (.bool s) (.slice A n ca) 35).alloc (.cells #[.bool s', .slice B m cb] 35)).alloc (.cells #[.bool false, .slice none 0 0] 35)).keep (Joins.below_draws _ _ q)
    have Y0 := (Box2.new (w.alloc (.cells #[.bool s, .slice A n ca] 35)) (.bool s') (.slice B m cb) 35).alloc (.cells #[.bool false, .slice none 0 0] 35) |>.keep (Joins.below_draws _ _ q)
    have Z0 := (Box2.new ((w.alloc (.cells #[.bool s, .slice A n ca] 35)).alloc (.cells #[.bool s', .slice B m cb] 35)) (.bool false) (.slice none 0 0) 35).keep (Joins.below_draws _ _ q)
    rw [size_alloc] at Y0
    rw [size_alloc, size_alloc] at Z0
    have BW : Below w.heap.size w ((((w.alloc (.cells #[.bool s, .slice A n ca] 35)).alloc (.cells #[.bool s', .slice B m cb] 35)).alloc (.cells #[.bool false, .slice none 0 0] 35)).drewN q) := ((((Below.refl _ _).alloc (Nat.le_refl _) _).alloc (by simp) _).alloc (by simp; omega) _).trans (Joins.below_draws _ _ q)
    have sW := Z0.sz
    generalize (((w.alloc (.cells #[.bool s, .slice A n ca] 35)).alloc (.cells #[.bool s', .slice B m cb] 35)).alloc (.cells #[.bool false, .slice none 0 0] 35)).drewN q = W5 at *
    have hX := (hx.keep BW).drew
    have hY := (hy.keep BW).drew
    go_region_held3 (fun w' => w'.cell? ⟨w.heap.size, 0, none⟩ = some (.bool s) ∧ w'.cell? ⟨w.heap.size, 1, none⟩ = some (.slice A n ca) ∧ w'.cell? ⟨w.heap.size + 1, 1, none⟩ = some (.slice B m cb))
      (first | (with_reducible exact ⟨(XB.far (by omega) _ _).c0, (XB.far (by omega) _ _).c1, (YB.far (by omega) _ _).c1⟩) | (with_reducible exact ⟨(XB).c0, (XB).c1, (YB).c1⟩) | (with_reducible exact ⟨(XA).c0, (XA).c1, (YA).c1⟩) | (with_reducible exact ⟨(X0.drew).c0, (X0.drew).c1, (Y0.drew).c1⟩) | go_keep)
      (first
        | (go_at_call 75; refine (minus_any _ _ _ _ _ _ _ _ _ hX hY (digs_lt a) (digs_lt b) (by omega) (by omega) HLE.out).mono ?_; rintro e wA ⟨A1, k1, c1, o, rfl, RO, ⟨o1, o2, o3⟩, hbA⟩; have HO := Lib.hid o1; clear o1; have HO2 := Lib.hid o2; clear o2; have XA := X0.drew.keep hbA; have YA := Y0.drew.keep hbA; have ZA := Z0.drew.keep hbA; have BA := BW.drew.trans (hbA.mono (by show w.heap.size ≤ W5.heap.size; omega)))
        | (go_at_call 31; refine (short_any _ _ _ _ _ _ RO HO2.out (by have := RO.len; omega)).mono ?_; rintro e wB ⟨A2, k2, c2, rfl, RB, hbB⟩; have XB := XA.keep hbB; have YB := YA.keep hbB; have ZB := ZA.keep hbB; have BB := BA.trans (hbB.mono BA.size); have z0 := ZB.c0; have z1 := ZB.c1; have z2 := ZB.f 0; have z3 := ZB.f 1))
    have HR := Lib.hid (RB.far (ZB.ne_row (by intro k z h; cases h) RB) (.bool (nzB (s) (dv o))) (.slice A2 k2 c2))
    clear RB
    go_wp2_with fail
    refine bodyPost_ret (v := .agg #[.bool (nzB (s) (dv o)), .slice A2 k2 c2]) (by simp [results, Tryz.results55, go_sem, z0, z1]) rfl ⟨A2, k2, c2, by rw [HO.out, HBB.out], by rw [← HZA.out, ← HO.out]; exact HR.out, ?_⟩
    exact (BB.setCell (by simp; omega) _).setCell (by simp; omega) _

/-- Add of any two. -/
theorem nadd_any (s s' : Bool) (A B : Option Addr) (n m ca cb a b : Nat) (z : Int) (w : World) (hx : Row w A n ca (digs a)) (hy : Row w B m cb (digs b)) (hn : n ≤ 5000) (hm : m ≤ 5000) (hz : val s a + val s' b = z) :
    Calls Tryz.prog 55 #[.agg #[.bool s, .slice A n ca], .agg #[.bool s', .slice B m cb]] w (RetN w (negB z) (digs z.natAbs)) := by
  by_cases hs : s' = s
  · subst hs; exact nadd_same _ A B n m ca cb a b z w hx hy hn hm hz
  · exact nadd_apart s s' A B n m ca cb a b z w hx hy hn hm (by cases s <;> cases s' <;> simp_all) hz
end Go.Proofs.YtmccmgplgdmjbaaGreatDoor

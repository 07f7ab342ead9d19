/- Contracts of corrodyref01: Sub, Cmp. -/
import Derived.Test.YtmccmgplgdmjbaaDoorRef5
namespace Go.Proofs.YtmccmgplgdmjbaaDoor
set_option maxRecDepth 8000
open Go.RowKit Corr
set_option linter.unusedVariables false

set_option maxHeartbeats 1000000 in
theorem nsub_any (s s' : Bool) (A B : Option Addr) (n m ca cb a b : Nat) (z : Int) (w : World) (hx : Row w A n ca (digs a)) (hy : Row w B m cb (digs b)) (hn : n ≤ 5000) (hm : m ≤ 5000) (hz : val s a - val s' b = z) :
    Calls Tryd.prog 59 #[.agg #[.bool s, .slice A n ca], .agg #[.bool s', .slice B m cb]] w (RetN w (negB z) (digs z.natAbs)) := by
  generalize hy' : val s' b = y at hz
  have HY := Lib.hid hy'
  have HS := Lib.hid (show val s a + val (negB (-y)) (-y).natAbs = z by rw [val_neg]; omega)
  have HLY := Lib.hid (show (digs (-y).natAbs).length ≤ 5000 by rw [Int.natAbs_neg, ← hy', natAbs_val, hy.len]; exact hm)
  generalize hbb : negB z = bb
  generalize hza : z.natAbs = za
  have HBB := Lib.hid hbb
  have HZA := Lib.hid hza
  clear hbb hza hz hy'
  have X0 := ((Box2.new w (.bool s) (.slice A n ca) 41).alloc (.cells #[.bool s', .slice B m cb] 41)).alloc (.cells #[.bool false, .slice none 0 0] 41)
  have Y0 := (Box2.new (w.alloc (.cells #[.bool s, .slice A n ca] 41)) (.bool s') (.slice B m cb) 41).alloc (.cells #[.bool false, .slice none 0 0] 41)
  have Z0 := Box2.new ((w.alloc (.cells #[.bool s, .slice A n ca] 41)).alloc (.cells #[.bool s', .slice B m cb] 41)) (.bool false) (.slice none 0 0) 41
  rw [size_alloc] at Y0
  rw [size_alloc, size_alloc] at Z0
  have BW : Below w.heap.size w (((w.alloc (.cells #[.bool s, .slice A n ca] 41)).alloc (.cells #[.bool s', .slice B m cb] 41)).alloc (.cells #[.bool false, .slice none 0 0] 41)) := (((Below.refl _ _).alloc (Nat.le_refl _) _).alloc (by simp) _).alloc (by simp; omega) _
  have hX := (hx.keep BW).drew
  have hY := (hy.keep BW).drew
  go_enter Tryd.func59, Tryd.ntmps59
  go_upto_region 1 with fail
  go_region_held3 (fun w' => w'.cell? ⟨w.heap.size, 0, none⟩ = some (.bool s) ∧ w'.cell? ⟨w.heap.size, 1, none⟩ = some (.slice A n ca) ∧ w'.cell? ⟨w.heap.size + 1, 0, none⟩ = some (.bool s') ∧ w'.cell? ⟨w.heap.size + 1, 1, none⟩ = some (.slice B m cb))
    (first | (with_reducible exact ⟨(XB.far (by omega) _ _).c0, (XB.far (by omega) _ _).c1, (YB.far (by omega) _ _).c0, (YB.far (by omega) _ _).c1⟩) | (with_reducible exact ⟨XB.c0, XB.c1, YB.c0, YB.c1⟩) | (with_reducible exact ⟨XA.c0, XA.c1, YA.c0, YA.c1⟩) | go_keep)
    (first
      | (go_at_call 18; refine (nneg_any _ _ _ _ _ _ _ hY (by omega) HY.out).mono ?_; rintro e wA ⟨A1, k1, c1, rfl, RO, hbA⟩; have XA := X0.drew.keep hbA; have YA := Y0.drew.keep hbA; have ZA := Z0.drew.keep hbA; have hXA := hX.keep hbA; have BA := BW.drew.trans (hbA.mono (by simp; omega)))
      | (go_at_call 16; refine (nadd_any _ _ _ _ _ _ _ _ _ _ _ _ hXA RO (by omega) (by have h1 := RO.len; have h2 := HLY.out; omega) HS.out).mono ?_; rintro e wB ⟨A2, k2, c2, rfl, RB, hbB⟩; have XB := XA.keep hbB; have YB := YA.keep hbB; have ZB := ZA.keep hbB; have BB := BA.trans (hbB.mono BA.size); have z0 := ZB.c0; have z1 := ZB.c1; have z2 := ZB.f 0; have z3 := ZB.f 1))
  rw [HBB.out]
  rw [HZA.out] at RB
  have HR := Lib.hid (RB.far (ZB.ne_row (by intro k z h; cases h) RB) (.bool bb) (.slice A2 k2 c2))
  clear RB
  go_wp2_with fail
  refine bodyPost_ret (v := .agg #[.bool bb, .slice A2 k2 c2]) (by simp [results, Tryd.results59, go_sem, z0, z1]) rfl ⟨A2, k2, c2, rfl, HR.out, ?_⟩
  exact (BB.setCell (by simp; omega) _).setCell (by simp; omega) _

/-- What a call leaves that tells a number. -/
def RetI (w : World) (z : Int) (e : Ending) (w' : World) : Prop := e = .returned (.int .i64 z) ∧ Below w.heap.size w w'
set_option maxHeartbeats 1000000 in
theorem ncmp_any (s s' : Bool) (A B : Option Addr) (n m ca cb a b : Nat) (w : World) (hx : Row w A n ca (digs a)) (hy : Row w B m cb (digs b)) (hn : n ≤ 5000) (hm : m ≤ 5000) :
    Calls Tryd.prog 38 #[.agg #[.bool s, .slice A n ca], .agg #[.bool s', .slice B m cb]] w (RetI w (cmpI (val s a) (val s' b))) := by
  generalize hzz : val s a - val s' b = z
  have HZ := Lib.hid hzz
  generalize hq : cmpI (val s a) (val s' b) = q
  have HQ := Lib.hid hq
  have BW : Below w.heap.size w ((w.alloc (.cells #[.bool s, .slice A n ca] 41)).alloc (.cells #[.bool s', .slice B m cb] 41)) := ((Below.refl _ _).alloc (Nat.le_refl _) _).alloc (by simp) _
  have hX := hx.keep BW
  have hY := hy.keep BW
  have HLT := Lib.hid (show z < 0 → q = -1 by intro h; rw [← hq]; exact cmpI_lt (by omega))
  have HEQ := Lib.hid (show z = 0 → q = 0 by intro h; rw [← hq]; exact cmpI_eq (by omega))
  have HGT := Lib.hid (show 0 < z → q = 1 by intro h; rw [← hq]; exact cmpI_gt (by omega))
  clear hzz hq
  go_enter Tryd.func38, Tryd.ntmps38
  go_wp2_with fail
  refine (nsub_any _ _ _ _ _ _ _ _ _ _ _ _ hX hY hn hm HZ.out).mono ?_
  rintro e w1 ⟨A1, k1, c1, rfl, R, hb⟩
  have B1 : Below w.heap.size w w1 := BW.trans (hb.mono (by simp; omega))
  have HL := Lib.hid R.len
  clear hb R hX hY BW
  by_cases h0 : z = 0
  · have hk : k1 = 0 := by rw [← HL.out, h0]; rw [show Int.natAbs 0 = 0 from rfl, digs_zero]; rfl
    have HE := Lib.hid (HEQ.out h0)
    subst hk
    clear h0
    go_wp2_with fail
    go_ret
    exact ⟨by rw [HE.out]; rfl, B1.alloc B1.size _⟩
  · have hk : k1 ≠ 0 := by rw [← HL.out, digs_pos (by omega)]; simp
    have t0 : ((k1 : Int) == 0) = false := by rw [beq_eq_false_iff_ne]; omega
    by_cases h1 : z < 0
    · have HN := Lib.hid (show negB z = true by simp [negB, h1])
      have HE := Lib.hid (HLT.out h1)
      rw [HN.out]
      clear h0 h1 hk
      go_wp2_with fail
      go_ret
      exact ⟨by rw [HE.out]; rfl, B1.alloc B1.size _⟩
    · have HN := Lib.hid (show negB z = false by simp [negB, h1])
      have HE := Lib.hid (HGT.out (by omega))
      rw [HN.out]
      clear h0 h1 hk
      go_wp2_with fail
      go_ret
      exact ⟨by rw [HE.out]; rfl, B1.alloc B1.size _⟩
end Go.Proofs.YtmccmgplgdmjbaaDoor

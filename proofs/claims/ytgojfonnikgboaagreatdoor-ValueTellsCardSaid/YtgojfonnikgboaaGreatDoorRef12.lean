/- Contracts of corrodyref01: Down. -/
import Derived.Test.YtgojfonnikgboaaGreatDoorRef11
namespace Corr
set_option maxRecDepth 8000
open Go Go.RowKit
/-- The memory of a call of Down: both arguments, both results, the quotient's row. -/
structure DownSt (w wr : World) (s : Bool) (A B : Option Addr) (n ca m cb : Nat) (qs : List Nat) : Prop where
  x : Box2 wr w.heap.size (.bool s) (.slice A n ca)
  y : Box2 wr (w.heap.size + 1) (.bool false) (.slice B m cb)
  o1 : Box2 wr (w.heap.size + 1 + 1) (.bool false) (.slice none 0 0)
  o2 : Box2 wr (w.heap.size + 1 + 1 + 1) (.bool false) (.slice none 0 0)
  q : QR wr (w.heap.size + 1 + 1 + 1 + 1) n qs
  bl : Below w.heap.size w wr
section
variable {w wr w' : World} {s : Bool} {A B : Option Addr} {n ca m cb : Nat} {qs : List Nat}
theorem DownSt.keep (h : DownSt w wr s A B n ca m cb qs) (hb : Below wr.heap.size wr w') : DownSt w w' s A B n ca m cb qs :=
  ⟨h.x.keep hb, h.y.keep hb, h.o1.keep hb, h.o2.keep hb, h.q.keep hb, h.bl.trans (hb.mono h.bl.size)⟩
theorem DownSt.drew (h : DownSt w wr s A B n ca m cb qs) : DownSt w wr.drew s A B n ca m cb qs := h.keep ((Below.refl _ _).drew)
theorem DownSt.alloc (h : DownSt w wr s A B n ca m cb qs) (o : Obj) : DownSt w (wr.alloc o) s A B n ca m cb qs := h.keep ((Below.refl _ _).alloc (Nat.le_refl _) _)
theorem DownSt.far {g : Nat} (h : DownSt w wr s A B n ca m cb qs) (hg : w.heap.size + 4 < g) (a b : Value) : DownSt w ((wr.setCell ⟨g, 0, none⟩ a).setCell ⟨g, 1, none⟩ b) s A B n ca m cb qs :=
  ⟨h.x.far (by omega) a b, h.y.far (by omega) a b, h.o1.far (by omega) a b, h.o2.far (by omega) a b, h.q.far (by omega) a b, (h.bl.setCell (p := ⟨g, 0, none⟩) (by simp; omega) a).setCell (p := ⟨g, 1, none⟩) (by simp; omega) b⟩
theorem DownSt.set {j y : Nat} (h : DownSt w wr s A B n ca m cb qs) (hj : j < n) : DownSt w (wr.setCell ⟨w.heap.size + 1 + 1 + 1 + 1, j, none⟩ (.int .i64 (y : Int))) s A B n ca m cb (qs.set j y) :=
  ⟨h.x.ne_q (by omega) j _, h.y.ne_q (by omega) j _, h.o1.ne_q (by omega) j _, h.o2.ne_q (by omega) j _, h.q.set hj, h.bl.setCell (p := ⟨w.heap.size + 1 + 1 + 1 + 1, j, none⟩) (by simp; omega) _⟩
end
/-- What a call leaves that tells two numbers as rows. -/
def RetNN (w : World) (q r : Int) (e : Ending) (w' : World) : Prop :=
  ∃ A k c A' k' c', e = .returned (.tuple #[.agg #[.bool (negB q), .slice A k c], .agg #[.bool (negB r), .slice A' k' c']]) ∧ Row w' A k c (digs q.natAbs) ∧ Row w' A' k' c' (digs r.natAbs) ∧ Below w.heap.size w w'
theorem len_lt {D b : Nat} (h : D < 1000 * b) : (digs D).length ≤ (digs b).length + 1 := by
  refine digs_len _ _ (Nat.lt_of_lt_of_le h ?_)
  have h1 := dv_lt (digs_lt b)
  rw [dv_digs] at h1
  rw [Nat.pow_succ, Nat.mul_comm]
  exact Nat.mul_le_mul_right _ (Nat.le_of_lt h1)

theorem own_one (w : World) (x : Nat) (T : TypeId) : ((w.alloc (.cells #[.int .i64 (x : Int)] T)).drew).ownsRow w.heap.size T 1 (.slice (some ⟨w.heap.size, 0, none⟩) 1 1) 1 [encN x] := by
  refine ⟨rfl, .inr ⟨w.heap.size, 1, _, rfl, Nat.le_refl _, heapNew w _, Nat.le_refl _, by unfold maxLen; omega, rfl, rfl⟩⟩
theorem digs_cons_lt {x r : Nat} (h : x < 1000) : ∀ y ∈ x :: digs r, y < 1000 := by
  intro y hy
  rcases List.mem_cons.1 hy with rfl | hy
  · exact h
  · exact digs_lt r y hy
theorem dv_cons_digs (x r : Nat) : dv (x :: digs r) = x + 1000 * r := by show x + 1000 * dv (digs r) = _; rw [dv_digs]
theorem dec_le {a b : Nat} {c : Int} (h : c = cmpI (a : Int) (b : Int)) : decide (c ≤ 0) = decide (a ≤ b) := by
  subst h
  by_cases h1 : (a : Int) < b
  · rw [cmpI_lt h1]; simp; omega
  · by_cases h2 : (a : Int) = b
    · rw [cmpI_eq h2]; simp; omega
    · rw [cmpI_gt (by omega)]; simp; omega
end Corr
namespace Go.Proofs.YtgojfonnikgboaaGreatDoor
set_option maxRecDepth 8000
open Go.RowKit Corr
set_option linter.unusedVariables false

theorem wrap_small (z : Int) (h0 : 0 ≤ z) (h1 : z ≤ 999) : IntKind.u64.wrap z = z := by simp [IntKind.wrap, IntKind.bits, IntKind.signed]; omega
theorem negB_nat (n : Nat) : negB (n : Int) = false := decide_eq_false (Int.not_lt.2 (Int.natCast_nonneg _))
theorem nmul_nat (A B : Option Addr) (n m ca cb a b : Nat) (w : World) (hx : Row w A n ca (digs a)) (hy : Row w B m cb (digs b)) (hn : n ≤ 2000) (hm : m ≤ 2000) :
    Calls Tryz.prog 45 #[.agg #[.bool false, .slice A n ca], .agg #[.bool false, .slice B m cb]] w (RetN w false (digs (a * b))) := by
  have h := nmul_any false false A B n m ca cb a b ((a * b : Nat) : Int) w hx hy hn hm (by simp [val])
  rw [negB_nat, Int.natAbs_natCast] at h
  exact h
theorem nsub_nat (A B : Option Addr) (n m ca cb a b : Nat) (w : World) (hx : Row w A n ca (digs a)) (hy : Row w B m cb (digs b)) (hn : n ≤ 5000) (hm : m ≤ 5000) (hle : b ≤ a) :
    Calls Tryz.prog 55 #[.agg #[.bool false, .slice A n ca], .agg #[.bool false, .slice B m cb]] w (RetN w false (digs (a - b))) := by
  have h := nsub_any false false A B n m ca cb a b ((a - b : Nat) : Int) w hx hy hn hm (by simp [val]; omega)
  rw [negB_nat, Int.natAbs_natCast] at h
  exact h
theorem ncmp_nat (A B : Option Addr) (n m ca cb a b : Nat) (w : World) (hx : Row w A n ca (digs a)) (hy : Row w B m cb (digs b)) (hn : n ≤ 5000) (hm : m ≤ 5000) :
    Calls Tryz.prog 54 #[.agg #[.bool false, .slice A n ca], .agg #[.bool false, .slice B m cb]] w (RetI w (cmpI (a : Int) (b : Int))) := ncmp_any false false A B n m ca cb a b w hx hy hn hm
theorem word_nat (M : Nat) (w : World) (h1 : M ≤ 999) : Calls Tryz.prog 31 #[.int .u64 (M : Int)] w (RetN w false (digs M)) := word_any M w (by unfold B64; omega)
theorem digs_small {M : Nat} (h : M ≤ 999) : (digs M).length ≤ 1 := digs_len 1 M (by omega)
theorem mul_len {M b m : Nat} (h : M ≤ 999) (hb : (digs b).length = m) (h0 : 0 < b) : (digs (M * b)).length ≤ m + 1 := by
  rw [← hb]
  refine len_lt ?_
  have h1 : M * b ≤ 999 * b := Nat.mul_le_mul_right _ h
  omega

set_option maxHeartbeats 4000000 in
theorem ndown_any (s : Bool) (A B : Option Addr) (n m ca cb a b : Nat) (w : World) (hx : Row w A n ca (digs a)) (hy : Row w B m cb (digs b)) (hn : n ≤ 1000) (hm : m ≤ 1000) (hb : 0 < b) :
    Calls Tryz.prog 30 #[.agg #[.bool s, .slice A n ca], .agg #[.bool false, .slice B m cb]] w (RetNN w (val s a / (b : Int)) (val s a % (b : Int))) := by
  obtain ⟨i0, hi, hz0, hz1, hz2⟩ := info_parts info_int
  generalize hzq : val s a / (b : Int) = zq
  generalize hzr : val s a % (b : Int) = zr
  have HZQ := Lib.hid hzq
  have HZR := Lib.hid hzr
  have HBP := Lib.hid hb
  clear hzq hzr hb
  have X0 := (((Box2.new w (.bool s) (.slice A n ca) 52).alloc (.cells #[.bool false, .slice B m cb] 52)).alloc (.cells #[.bool false, .slice none 0 0] 52)).alloc (.cells #[.bool false, .slice none 0 0] 52)
  have Y0 := ((Box2.new (w.alloc (.cells #[.bool s, .slice A n ca] 52)) (.bool false) (.slice B m cb) 52).alloc (.cells #[.bool false, .slice none 0 0] 52)).alloc (.cells #[.bool false, .slice none 0 0] 52)
  have O1 := (Box2.new ((w.alloc (.cells #[.bool s, .slice A n ca] 52)).alloc (.cells #[.bool false, .slice B m cb] 52)) (.bool false) (.slice none 0 0) 52).alloc (.cells #[.bool false, .slice none 0 0] 52)
  have O2 := Box2.new (((w.alloc (.cells #[.bool s, .slice A n ca] 52)).alloc (.cells #[.bool false, .slice B m cb] 52)).alloc (.cells #[.bool false, .slice none 0 0] 52)) (.bool false) (.slice none 0 0) 52
  rw [size_alloc] at Y0
  rw [size_alloc, size_alloc] at O1
  rw [size_alloc, size_alloc, size_alloc] at O2
  have BW : Below w.heap.size w ((((w.alloc (.cells #[.bool s, .slice A n ca] 52)).alloc (.cells #[.bool false, .slice B m cb] 52)).alloc (.cells #[.bool false, .slice none 0 0] 52)).alloc (.cells #[.bool false, .slice none 0 0] 52)) := ((((Below.refl _ _).alloc (Nat.le_refl _) _).alloc (by simp) _).alloc (by simp; omega) _).alloc (by simp; omega) _
  have s4 : ((((w.alloc (.cells #[.bool s, .slice A n ca] 52)).alloc (.cells #[.bool false, .slice B m cb] 52)).alloc (.cells #[.bool false, .slice none 0 0] 52)).alloc (.cells #[.bool false, .slice none 0 0] 52)).heap.size = w.heap.size + 1 + 1 + 1 + 1 := by simp
  have HS4 := Lib.hid s4
  clear s4
  go_enter Tryz.func30, Tryz.ntmps30
  go_wp2_with (at_make; refine wpList_make_full _ rfl _ _ 50 rfl (w.heap.size + 1 + 1 + 1 + 1) 3 i0 (.int .i64 0) 1 Tryz.underlying50 hi hz0 hz1 .i64 .i64 _ _ n rfl rfl ?_ ?_ ?_ ?_ ?_ ?_)
  · omega
  · omega
  · rw [hz2]; omega
  · unfold maxLen; omega
  · simp
  intro w4 hown4 hgrow4
  have hb4 : Below (w.heap.size + 1 + 1 + 1 + 1) _ w4 := (Below.refl _ _).grown hgrow4 (by simp) (by intro k hk; cases hk)
  have hb5 := hb4
  rw [← HS4.out] at hb5
  have S4 : DownSt w w4 s A B n ca m cb (List.replicate n 0) := ⟨X0.keep hb5, Y0.keep hb5, O1.keep hb5, O2.keep hb5, QR.of_own (by rw [made_zeros] at hown4; exact hown4), BW.trans (hb4.mono (by omega))⟩
  clear hown4 hgrow4 hb4 hb5 X0 Y0 O1 O2 BW HS4
  have S5 := S4.alloc (.cells #[.bool false, .slice none 0 0] 52)
  have R5 := Box2.new w4 (.bool false) (.slice none 0 0) 52
  have hkr : w.heap.size + 4 < w4.heap.size := S4.q.lt
  have x1 := S4.x.c1
  have x2 := S5.x.c1
  go_wp2_with fail
  clear x1 x2 S4
  generalize w4.alloc (.cells #[.bool false, .slice none 0 0] 52) = w5 at *
  generalize w4.heap.size = kr at *
  have HNL := Lib.hid hx.len
  have HDA := Lib.hid (digs_lt a)
  go_loopg [8] n (fun k t wr => ∃ (i : Int) (qs : List Nat) (r lr cr : Nat) (Ar : Option Addr), t = .int .i64 i ∧ i = (k : Int) - 1 ∧ k ≤ n ∧ DownSt w wr s A B n ca m cb qs ∧ (∀ x ∈ qs, x < 1000) ∧ Box2 wr kr (.bool false) (.slice Ar lr cr) ∧ Row wr Ar lr cr (digs r) ∧ r < b ∧ dv ((digs a).drop k) = dv (qs.drop k) * b + r)
  case atStart => exact ⟨_, _, 0, 0, 0, none, rfl, rfl, Nat.le_refl _, S5, (fun x hx => by have := List.eq_of_mem_replicate hx; omega), R5, by rw [digs_zero]; exact Row.nil_ _, HBP.out, by rw [List.drop_of_length_le (by rw [HNL.out]; exact Nat.le_refl _), List.drop_of_length_le (by simp)]; simp [dv]⟩
  case round =>
    obtain ⟨i, qs, r, lr, cr, Ar, rfl, hik, hkn, S, hq, R, RR, hrb, hdv⟩ := hrel
    clear S5 R5
    have HQ := Lib.hid hq
    have HDV := Lib.hid hdv
    have HRB := Lib.hid hrb
    clear hq hdv hrb
    by_cases hk0 : gk = 0
    · subst hk0
      have hi1 : i = -1 := by omega
      subst hi1
      clear hik
      have HV := Lib.hid (show a = dv qs * b + r by have h := HDV.out; rw [List.drop_zero, List.drop_zero, dv_digs] at h; exact h)
      have x0 := S.x.c0
      clear HDV
      go_wp2_with fail
      refine (short_any s _ n n qs _ S.q.row HQ.out (by omega)).mono ?_
      rintro e w7 ⟨A1, k1, c1, rfl, R1, hb1⟩
      have HK1 := Lib.hid R1.len
      generalize hbo : nzB s (dv qs) = bo
      have HBO := Lib.hid hbo
      clear hbo
      have S7 := (S.keep hb1).alloc (.cells #[.bool bo, .slice A1 k1 c1] 52)
      have RB7 := (R.keep hb1).alloc (.cells #[.bool bo, .slice A1 k1 c1] 52)
      have RR7 := (RR.keep hb1).alloc (.cells #[.bool bo, .slice A1 k1 c1] 52)
      have O7 := Box2.new w7 (.bool bo) (.slice A1 k1 c1) 52
      have RO7 := R1.alloc (.cells #[.bool bo, .slice A1 k1 c1] 52)
      have hko : w.heap.size + 4 < w7.heap.size := by have h1 := (S.keep hb1).q.lt; omega
      have hkk : kr < w7.heap.size := (R.keep hb1).sz
      have HLL := Lib.hid RR.len
      clear S R RR x0 hb1 R1
      have x0 := S7.x.c0; have x1 := S7.x.c1; have r0 := RB7.c0; have r1 := RB7.c1
      cases s with
      | false =>
        have HQQ := Lib.hid (show ((dv qs : Nat) : Int) = zq from (down_pos HV.out HRB.out).1.symm.trans HZQ.out)
        have HRR := Lib.hid (show ((r : Nat) : Int) = zr from (down_pos HV.out HRB.out).2.symm.trans HZR.out)
        go_upto_region 19 with fail
        obtain ⟨W, hW⟩ : ∃ W, w7.alloc (.cells #[.bool bo, .slice A1 k1 c1] 52) = W := ⟨_, rfl⟩
        rw [hW] at S7 RB7 RR7 O7 RO7 x0 x1 r0 r1 ⊢
        clear hW
        obtain ⟨SO, OB, RBx, RQ, RX⟩ : DownSt w W _ A B n ca m cb qs ∧ Box2 W w7.heap.size (.bool bo) (.slice A1 k1 c1) ∧ Box2 W kr (.bool false) (.slice Ar lr cr) ∧ Row W A1 k1 c1 (digs (dv qs)) ∧ Row W Ar lr cr (digs r) := ⟨S7, O7, RB7, RO7, RR7⟩
        clear S7 O7 RB7 RO7 RR7 x0 x1 r0 r1
        have HBQ := Lib.hid (show negB zq = bo by rw [← HQQ.out, ← HBO.out, sgn_neg]; rfl)
        have HBR := Lib.hid (show negB zr = false by rw [← HRR.out]; exact decide_eq_false (Int.not_lt.2 (Int.natCast_nonneg _)))
        have HLQ := Lib.hid (show digs (dv qs) = digs zq.natAbs by rw [← HQQ.out, Int.natAbs_natCast])
        have HLX := Lib.hid (show digs r = digs zr.natAbs by rw [← HRR.out, Int.natAbs_natCast])
        have f0 := OB.c0; have f1 := OB.c1; have f2 := RBx.c0; have f3 := RBx.c1
        have g0 := SO.o1.c0; have g1 := SO.o1.c1; have g2 := SO.o1.f 0; have g3 := SO.o1.f 1
        have g4 := SO.o2.c0; have g5 := SO.o2.c1; have g6 := SO.o2.f 0; have g7 := SO.o2.f 1
        have OB2 := OB.drew.far (g := w.heap.size + 1 + 1) (by omega) (.bool bo) (.slice A1 k1 c1)
        have RB2 := RBx.drew.far (g := w.heap.size + 1 + 1) (by omega) (.bool bo) (.slice A1 k1 c1)
        have e0 := RB2.c0; have e1 := RB2.c1
        have RQ2 := RQ.drew.far (SO.drew.o1.ne_row (by intro k z h; cases h) RQ.drew) (.bool bo) (.slice A1 k1 c1)
        have RX2 := RX.drew.far (SO.drew.o1.ne_row (by intro k z h; cases h) RX.drew) (.bool bo) (.slice A1 k1 c1)
        have O22 := SO.drew.o2.far (g := w.heap.size + 1 + 1) (by omega) (.bool bo) (.slice A1 k1 c1)
        have O11 := SO.drew.o1.stored (.bool bo) (.slice A1 k1 c1)
        have RQ3 := RQ2.far (O22.ne_row (by intro k z h; cases h) RQ2) (.bool false) (.slice Ar lr cr)
        have RX3 := RX2.far (O22.ne_row (by intro k z h; cases h) RX2) (.bool false) (.slice Ar lr cr)
        have O13 := O11.far (g := w.heap.size + 1 + 1 + 1) (by omega) (.bool false) (.slice Ar lr cr)
        have O23 := O22.stored (.bool false) (.slice Ar lr cr)
        have h4 := O22.c0; have h5 := O22.c1; have h6 := O22.f 0; have h7 := O22.f 1
        have HQ3 := Lib.hid RQ3
        have HX3 := Lib.hid RX3
        have H13 := Lib.hid O13
        have H23 := Lib.hid O23
        have HBL := Lib.hid (show Below w.heap.size w _ from (((SO.drew.bl.setCell (p := ⟨w.heap.size + 1 + 1, 0, none⟩) (by simp; omega) (.bool bo)).setCell (p := ⟨w.heap.size + 1 + 1, 1, none⟩) (by simp; omega) (.slice A1 k1 c1)).setCell (p := ⟨w.heap.size + 1 + 1 + 1, 0, none⟩) (by simp; omega) (.bool false)).setCell (p := ⟨w.heap.size + 1 + 1 + 1, 1, none⟩) (by simp; omega) (.slice Ar lr cr))
        clear RQ3 RX3 O13 O23 O11 O22 RQ2 RX2 RB2 OB2 RQ RX OB RBx SO
        go_region
        all_goals
          go_wp2_with fail
          refine bodyPost_ret (v := .tuple #[.agg #[.bool bo, .slice A1 k1 c1], .agg #[.bool false, .slice Ar lr cr]]) (by simp [results, Tryz.results30, go_sem, g0, g1, g4, g5]) rfl ⟨A1, k1, c1, Ar, lr, cr, by rw [HBQ.out, HBR.out], ?_, ?_, HBL.out⟩
          · rw [← HLQ.out]; exact HQ3.out
          · rw [← HLX.out]; exact HX3.out
      | true =>
        by_cases hr0 : r = 0
        · have HQQ := Lib.hid (show -((dv qs : Nat) : Int) = zq from (down_neg0 (a := a) (by have h := HV.out; rw [hr0] at h; exact h) HBP.out).1.symm.trans HZQ.out)
          have HRR := Lib.hid (show (0 : Int) = zr from (down_neg0 (q := dv qs) (a := a) (by have h := HV.out; rw [hr0] at h; exact h) HBP.out).2.symm.trans HZR.out)
          have hl0 : lr = 0 := by have h := HLL.out; rw [hr0, digs_zero] at h; simpa using h.symm
          subst hl0
          have HR0 := Lib.hid hr0
          clear hr0
          go_upto_region 19 with fail
          obtain ⟨W, hW⟩ : ∃ W, w7.alloc (.cells #[.bool bo, .slice A1 k1 c1] 52) = W := ⟨_, rfl⟩
          rw [hW] at S7 RB7 RR7 O7 RO7 x0 x1 r0 r1 ⊢
          clear hW
          obtain ⟨SO, OB, RBx, RQ, RX⟩ : DownSt w W _ A B n ca m cb qs ∧ Box2 W w7.heap.size (.bool bo) (.slice A1 k1 c1) ∧ Box2 W kr (.bool false) (.slice Ar 0 cr) ∧ Row W A1 k1 c1 (digs (dv qs)) ∧ Row W Ar 0 cr (digs r) := ⟨S7, O7, RB7, RO7, RR7⟩
          clear S7 O7 RB7 RO7 RR7 x0 x1 r0 r1
          have HBQ := Lib.hid (show negB zq = bo by rw [← HQQ.out, ← HBO.out, sgn_neg]; rfl)
          have HBR := Lib.hid (show negB zr = false by rw [← HRR.out]; rfl)
          have HLQ := Lib.hid (show digs (dv qs) = digs zq.natAbs by rw [← HQQ.out, Int.natAbs_neg, Int.natAbs_natCast])
          have HLX := Lib.hid (show digs r = digs zr.natAbs by rw [← HRR.out, HR0.out]; rfl)
          have f0 := OB.c0; have f1 := OB.c1; have f2 := RBx.c0; have f3 := RBx.c1
          have g0 := SO.o1.c0; have g1 := SO.o1.c1; have g2 := SO.o1.f 0; have g3 := SO.o1.f 1
          have g4 := SO.o2.c0; have g5 := SO.o2.c1; have g6 := SO.o2.f 0; have g7 := SO.o2.f 1
          have OB2 := OB.drew.far (g := w.heap.size + 1 + 1) (by omega) (.bool bo) (.slice A1 k1 c1)
          have RB2 := RBx.drew.far (g := w.heap.size + 1 + 1) (by omega) (.bool bo) (.slice A1 k1 c1)
          have e0 := RB2.c0; have e1 := RB2.c1
          have RQ2 := RQ.drew.far (SO.drew.o1.ne_row (by intro k z h; cases h) RQ.drew) (.bool bo) (.slice A1 k1 c1)
          have RX2 := RX.drew.far (SO.drew.o1.ne_row (by intro k z h; cases h) RX.drew) (.bool bo) (.slice A1 k1 c1)
          have O22 := SO.drew.o2.far (g := w.heap.size + 1 + 1) (by omega) (.bool bo) (.slice A1 k1 c1)
          have O11 := SO.drew.o1.stored (.bool bo) (.slice A1 k1 c1)
          have RQ3 := RQ2.far (O22.ne_row (by intro k z h; cases h) RQ2) (.bool false) (.slice Ar 0 cr)
          have RX3 := RX2.far (O22.ne_row (by intro k z h; cases h) RX2) (.bool false) (.slice Ar 0 cr)
          have O13 := O11.far (g := w.heap.size + 1 + 1 + 1) (by omega) (.bool false) (.slice Ar 0 cr)
          have O23 := O22.stored (.bool false) (.slice Ar 0 cr)
          have h4 := O22.c0; have h5 := O22.c1; have h6 := O22.f 0; have h7 := O22.f 1
          have HQ3 := Lib.hid RQ3
          have HX3 := Lib.hid RX3
          have H13 := Lib.hid O13
          have H23 := Lib.hid O23
          have HBL := Lib.hid (show Below w.heap.size w _ from (((SO.drew.bl.setCell (p := ⟨w.heap.size + 1 + 1, 0, none⟩) (by simp; omega) (.bool bo)).setCell (p := ⟨w.heap.size + 1 + 1, 1, none⟩) (by simp; omega) (.slice A1 k1 c1)).setCell (p := ⟨w.heap.size + 1 + 1 + 1, 0, none⟩) (by simp; omega) (.bool false)).setCell (p := ⟨w.heap.size + 1 + 1 + 1, 1, none⟩) (by simp; omega) (.slice Ar 0 cr))
          clear RQ3 RX3 O13 O23 O11 O22 RQ2 RX2 RB2 OB2 RQ RX OB RBx SO
          go_region
          all_goals
            go_wp2_with fail
            refine bodyPost_ret (v := .tuple #[.agg #[.bool bo, .slice A1 k1 c1], .agg #[.bool false, .slice Ar 0 cr]]) (by simp [results, Tryz.results30, go_sem, g0, g1, g4, g5]) rfl ⟨A1, k1, c1, Ar, 0, cr, by rw [HBQ.out, HBR.out], ?_, ?_, HBL.out⟩
            · rw [← HLQ.out]; exact HQ3.out
            · rw [← HLX.out]; exact HX3.out
        · have HQQ := Lib.hid (show -((dv qs : Nat) : Int) - 1 = zq from (down_neg1 HV.out HRB.out (by omega)).1.symm.trans HZQ.out)
          have HRR := Lib.hid (show (b : Int) - (r : Int) = zr from (down_neg1 HV.out HRB.out (by omega)).2.symm.trans HZR.out)
          have hl0 : 0 < lr := by rw [← HLL.out, digs_pos (by omega)]; simp
          have hl1 : (0 : Int) < (lr : Int) := by omega
          have HR0 := Lib.hid hr0
          clear hr0
          have HLR := Lib.hid (show lr ≤ m by have h1 := HLL.out; have h2 := hy.len; have h3 := len_le (Nat.le_of_lt HRB.out); omega)
          have HK2 := Lib.hid (show k1 ≤ 1000 by
            have h1 := HK1.out
            have h2 := HNL.out
            have h3 : (digs (dv qs)).length ≤ (digs a).length := len_le (by
              have h4 := HV.out
              have h5 : dv qs * 1 ≤ dv qs * b := Nat.mul_le_mul_left _ HBP.out
              omega)
            omega)
          have HSQ := Lib.hid (show val bo (dv qs) - val false 1 = zq by
            rw [← HQQ.out, ← HBO.out, sgn_neg, show val (negB (val true (dv qs))) (dv qs) = val true (dv qs) by have h := val_neg (val true (dv qs)); rw [natAbs_val] at h; exact h]; rfl)
          have HSR := Lib.hid (show val false b - val false r = zr by rw [← HRR.out]; rfl)
          go_upto_region 17 with fail
          obtain ⟨W, hW⟩ : ∃ W, w7.alloc (.cells #[.bool bo, .slice A1 k1 c1] 52) = W := ⟨_, rfl⟩
          rw [hW] at S7 RB7 RR7 O7 RO7 x0 x1 r0 r1 ⊢
          clear hW
          have o0 := O7.c0; have o1 := O7.c1
          generalize w7.heap.size = ko at *
          go_cut [] from 78 (fun wx => ∃ (lo co : Nat) (Ao : Option Addr), DownSt w wx true A B n ca m cb qs ∧ Box2 wx ko (.bool (negB zq)) (.slice Ao lo co) ∧ Row wx Ao lo co (digs zq.natAbs) ∧ Box2 wx kr (.bool false) (.slice Ar lr cr) ∧ Row wx Ar lr cr (digs r))
          case first =>
            have HL1 := Lib.hid (show (digs 1).length ≤ 1 from digs_len 1 1 (by decide))
            have HK3 := HK2.out
            go_region_with (first
              | (go_at_call 31; refine (word_one _).mono ?_; rintro e wA ⟨A2, k2, c2, rfl, R2, hbA⟩; have SA := S7.drew.keep hbA; have RA := RB7.drew.keep hbA; have RRA := RR7.drew.keep hbA; have OA := O7.drew.keep hbA; have ROA := RO7.drew.keep hbA; have hk2 := R2.len; have a0 := OA.c0; have a1 := OA.c1)
              | (go_at_call 55; refine (nsub_any _ _ _ _ _ _ _ _ _ _ _ _ ROA R2 (by omega) (by have := HL1.out; omega) HSQ.out).mono ?_; rintro e wB ⟨A3, k3, c3, rfl, R3, hbB⟩; have SB := SA.keep hbB; have RB := RA.keep hbB; have RRB := RRA.keep hbB; have OB := OA.keep hbB; have d0 := OB.c0; have d1 := OB.c1; have d2 := OB.f 0; have d3 := OB.f 1))
            all_goals
              have HS2 := Lib.hid (SB.far hko (.bool (negB zq)) (.slice A3 k3 c3))
              have HO2 := Lib.hid (OB.stored (.bool (negB zq)) (.slice A3 k3 c3))
              have HR3 := Lib.hid (R3.far (OB.ne_row (by intro k z h; cases h) R3) (.bool (negB zq)) (.slice A3 k3 c3))
              have HRB := Lib.hid (RB.far (g := ko) (by omega) (.bool (negB zq)) (.slice A3 k3 c3))
              have HRR2 := Lib.hid (RRB.far (OB.ne_row (by intro k z h; cases h) RRB) (.bool (negB zq)) (.slice A3 k3 c3))
              clear SA SB RA RB RRA RRB OA OB ROA R2 R3 hbA hbB S7 RB7 RR7 O7 RO7
              go_wp2_with fail
              go_meet
              case rel => exact ⟨k3, c3, A3, HS2.out, HO2.out, HR3.out, HRB.out, HRR2.out⟩
          case rest =>
            clear S7 RB7 RR7 O7 RO7 x0 x1 r0 r1 o0 o1
            obtain ⟨lo, co, Ao, SO, OB, RQ, RBx, RX⟩ := hcut
            have y0 := SO.y.c0; have y1 := SO.y.c1; have r0 := RBx.c0; have r1 := RBx.c1
            have hY := hy.keep SO.bl
            have HL3 := HLR.out
            go_wp2_with fail
            refine (nsub_any _ _ _ _ _ _ _ _ _ _ _ _ hY RX (by omega) (by omega) HSR.out).mono ?_
            rintro e wB ⟨Ax, lx, cx, rfl, R3, hbB⟩
            have SB := SO.keep hbB; have RB := RBx.keep hbB; have OB1 := OB.keep hbB; have RQ1 := RQ.keep hbB
            have d0 := RB.c0; have d1 := RB.c1; have d2 := RB.f 0; have d3 := RB.f 1
            clear SO RBx OB RQ RX hY y0 y1 r0 r1
            have S2 := SB.far hkr (.bool (negB zr)) (.slice Ax lx cx)
            have O2 := OB1.far (g := kr) (by omega) (.bool (negB zr)) (.slice Ax lx cx)
            have Q2 := RQ1.far (RB.ne_row (by intro k z h; cases h) RQ1) (.bool (negB zr)) (.slice Ax lx cx)
            have X2 := R3.far (RB.ne_row (by intro k z h; cases h) R3) (.bool (negB zr)) (.slice Ax lx cx)
            have B2 := RB.stored (.bool (negB zr)) (.slice Ax lx cx)
            clear SB RB OB1 RQ1 R3 hbB
            go_upto_region 19 with fail
            generalize (wB.setCell ⟨kr, 0, none⟩ (.bool (negB zr))).setCell ⟨kr, 1, none⟩ (.slice Ax lx cx) = W2 at *
            obtain ⟨SO, OB, RBx, RQ, RX⟩ : DownSt w W2 true A B n ca m cb qs ∧ Box2 W2 ko (.bool (negB zq)) (.slice Ao lo co) ∧ Box2 W2 kr (.bool (negB zr)) (.slice Ax lx cx) ∧ Row W2 Ao lo co (digs zq.natAbs) ∧ Row W2 Ax lx cx (digs zr.natAbs) := ⟨S2, O2, B2, Q2, X2⟩
            clear S2 O2 B2 Q2 X2 d0 d1 d2 d3
            generalize hbq : negB zq = bq at *
            generalize hbr : negB zr = br at *
            have HBQ := Lib.hid hbq
            have HBR := Lib.hid hbr
            clear hbq hbr
            have f0 := OB.c0; have f1 := OB.c1; have f2 := RBx.c0; have f3 := RBx.c1
            have g0 := SO.o1.c0; have g1 := SO.o1.c1; have g2 := SO.o1.f 0; have g3 := SO.o1.f 1
            have g4 := SO.o2.c0; have g5 := SO.o2.c1; have g6 := SO.o2.f 0; have g7 := SO.o2.f 1
            have OB2 := OB.drew.far (g := w.heap.size + 1 + 1) (by omega) (.bool bq) (.slice Ao lo co)
            have RB2 := RBx.drew.far (g := w.heap.size + 1 + 1) (by omega) (.bool bq) (.slice Ao lo co)
            have e0 := RB2.c0; have e1 := RB2.c1
            have RQ2 := RQ.drew.far (SO.drew.o1.ne_row (by intro k z h; cases h) RQ.drew) (.bool bq) (.slice Ao lo co)
            have RX2 := RX.drew.far (SO.drew.o1.ne_row (by intro k z h; cases h) RX.drew) (.bool bq) (.slice Ao lo co)
            have O22 := SO.drew.o2.far (g := w.heap.size + 1 + 1) (by omega) (.bool bq) (.slice Ao lo co)
            have O11 := SO.drew.o1.stored (.bool bq) (.slice Ao lo co)
            have RQ3 := RQ2.far (O22.ne_row (by intro k z h; cases h) RQ2) (.bool br) (.slice Ax lx cx)
            have RX3 := RX2.far (O22.ne_row (by intro k z h; cases h) RX2) (.bool br) (.slice Ax lx cx)
            have O13 := O11.far (g := w.heap.size + 1 + 1 + 1) (by omega) (.bool br) (.slice Ax lx cx)
            have O23 := O22.stored (.bool br) (.slice Ax lx cx)
            have h4 := O22.c0; have h5 := O22.c1; have h6 := O22.f 0; have h7 := O22.f 1
            have HQ3 := Lib.hid RQ3
            have HX3 := Lib.hid RX3
            have H13 := Lib.hid O13
            have H23 := Lib.hid O23
            have HBL := Lib.hid (show Below w.heap.size w _ from (((SO.drew.bl.setCell (p := ⟨w.heap.size + 1 + 1, 0, none⟩) (by simp; omega) (.bool bq)).setCell (p := ⟨w.heap.size + 1 + 1, 1, none⟩) (by simp; omega) (.slice Ao lo co)).setCell (p := ⟨w.heap.size + 1 + 1 + 1, 0, none⟩) (by simp; omega) (.bool br)).setCell (p := ⟨w.heap.size + 1 + 1 + 1, 1, none⟩) (by simp; omega) (.slice Ax lx cx))
            clear RQ3 RX3 O13 O23 O11 O22 RQ2 RX2 RB2 OB2 RQ RX OB RBx SO
            go_region
            all_goals
              go_wp2_with fail
              refine bodyPost_ret (v := .tuple #[.agg #[.bool bq, .slice Ao lo co], .agg #[.bool br, .slice Ax lx cx]]) (by simp [results, Tryz.results30, go_sem, g0, g1, g4, g5]) rfl ⟨Ao, lo, co, Ax, lx, cx, by rw [HBQ.out, HBR.out], ?_, ?_, HBL.out⟩
              · exact HQ3.out
              · exact HX3.out
    · obtain ⟨j, rfl⟩ : ∃ j, gk = j + 1 := ⟨gk - 1, by omega⟩
      have hij : i = (j : Int) := by omega
      subst hij
      clear hik hk0
      have hX := hx.keep S.bl
      obtain ⟨g, off, x, hA, hxk, hx1, hxc⟩ := hX.get HDA.out (k := j) (by omega)
      subst hA
      have HXK := Lib.hid hxk
      have cx := hxc wr (Below.refl _ _)
      clear hxc hxk
      have x1 := S.x.c1; have r0 := R.c0; have r1 := R.c1; have r2 := R.f 0; have r3 := R.f 1
      have b0 : (0 : Int) ≤ (j : Int) := by omega
      have b1 : (j : Int) < (n : Int) := by omega
      have HLR := Lib.hid (show lr ≤ m by have h1 := RR.len; have h2 := hy.len; have h3 := len_le (Nat.le_of_lt HRB.out); omega)
      have HLR2 := HLR.out
      go_upto_region 6 with fail
      go_cut [] from 22 to 65 (fun wx => ∃ (l2 c2 : Nat) (A2 : Option Addr), DownSt w wx s (some ⟨g, off, none⟩) B n ca m cb qs ∧ Box2 wx kr (.bool false) (.slice A2 l2 c2) ∧ Row wx A2 l2 c2 (digs (x + 1000 * r)) ∧ Hid (∀ k off, A2 = some ⟨k, off, none⟩ → k ≠ w.heap.size + 1 + 1 + 1 + 1))
      case first =>
        have HO := Lib.hid (own_one wr x 3)
        have ra1 := (R.alloc (.cells #[.int .i64 (x : Int)] 3)).c1
        have HRL := Lib.hid RR.len
        have HQL := Lib.hid S.q.lt
        have HBA : Below wr.heap.size wr (wr.alloc (.cells #[.int .i64 (x : Int)] 3)).drew := ((Below.refl _ _).alloc (Nat.le_refl _) _).drew
        go_region_law (first
          | (refine step_append_row (by rfl) _ _ 50 (by rfl) 3 i0 Tryz.underlying50 hi hz0 hz1 hz2 wr.heap.size x (by rfl) HO.out _ _ _ _ (by rfl) ((RR.alloc _).drew) (by omega) (by simp) ?_; intro A1 k1 c1 wA R1 hA1 hbA; have hAB := HBA.trans hbA; have SA := S.keep hAB; have RA := R.keep hAB; have HA1 := Lib.hid hA1; clear hA1 hbA hAB)
          | (go_simp; go_at_call 53; refine (short_at _ _ _ _ _ _ R1 (digs_cons_lt hx1) (by have := R1.len; rw [List.length_cons, HRL.out] at this; omega)).mono ?_; rintro e wB ⟨k2, rfl, R2, hbB⟩; rw [dv_cons_digs] at R2; have SB := SA.keep hbB; have RB := RA.keep hbB; have d0 := RB.c0; have d1 := RB.c1; have d2 := RB.f 0; have d3 := RB.f 1; clear hbB R1 SA RA))
        all_goals
          have HS2 := Lib.hid (SB.far hkr (.bool false) (.slice A1 k2 c1))
          have HR2 := Lib.hid (R2.far (RB.ne_row (by intro k z h; cases h) R2) (.bool false) (.slice A1 k2 c1))
          have HB2 := Lib.hid (RB.stored (.bool false) (.slice A1 k2 c1))
          clear SB RB R2
          go_wp2_with fail
          go_meet
          case rel => exact ⟨k2, c1, A1, HS2.out, HB2.out, HR2.out, Lib.hid (fun k off h => by have h1 := HA1.out k off h; have h2 := HQL.out; omega)⟩
      case rest =>
        obtain ⟨l2, c2, A2, S2, R2, RR2, HFQ⟩ := hcut
        clear S R RR hX cx x1 r0 r1 r2 r3
        obtain ⟨wo, rfl⟩ : ∃ wo : World, wo = wc := ⟨_, rfl⟩
        have HDL := Lib.hid (show x + 1000 * r < 1000 * b by have := HRB.out; omega)
        obtain ⟨D, hD⟩ : ∃ D, x + 1000 * r = D := ⟨_, rfl⟩
        rw [hD] at RR2
        have HDD := Lib.hid hD
        have HD2 := Lib.hid (show D < 1000 * b by have := HDL.out; omega)
        clear hD HDL
        go_wp2_with fail
        go_loopg [9, 10] 999 (fun k lo hi wr => ∃ (p q : Nat), lo = .int .i64 (p : Int) ∧ hi = .int .i64 (q : Int) ∧ q - p ≤ k ∧ p ≤ q ∧ q ≤ 999 ∧ Hid (p * b ≤ D) ∧ Hid (D < (q + 1) * b) ∧ DownSt w wr s (some ⟨g, off, none⟩) B n ca m cb qs ∧ Box2 wr kr (.bool false) (.slice A2 l2 c2) ∧ Row wr A2 l2 c2 (digs D))
        case atStart => exact ⟨0, 999, rfl, rfl, by omega, by omega, by omega, Lib.hid (by rw [Nat.zero_mul]; exact Nat.zero_le _), Lib.hid HD2.out, S2, R2, RR2⟩
        case round =>
          obtain ⟨p, q, rfl, rfl, hpk, hpq, hq9, HLO, HHI, S, R, RR⟩ := hrel
          clear S2 R2 RR2
          have HL2 := Lib.hid (show l2 ≤ m + 1 by have h1 := RR.len; have h2 := hy.len; have h3 := len_lt HD2.out; omega)
          have hl2 := HL2.out
          by_cases hlt : p < q
          · obtain ⟨M, hM⟩ : ∃ M : Nat, ((p : Int) + (q : Int) + 1) / 2 = (M : Int) := ⟨(p + q + 1) / 2, by omega⟩
            have hM1 : p < M := by omega
            have hM2 : M ≤ q := by omega
            have hMw : IntKind.u64.wrap (M : Int) = (M : Int) := wrap_small _ (by omega) (by omega)
            have y0 := S.y.c0; have y1 := S.y.c1; have r0 := R.c0; have r1 := R.c1
            go_upto_region 10 with fail
            rw [hM]
            go_cut [51] from 36 to 54 (fun t wx => t = .bool (decide (M * b ≤ D)) ∧ DownSt w wx s (some ⟨g, off, none⟩) B n ca m cb qs ∧ Box2 wx kr (.bool false) (.slice A2 l2 c2) ∧ Row wx A2 l2 c2 (digs D))
            case first =>
              have HMH := Lib.hid hM
              clear hM
              have HYL := Lib.hid hy.len
              go_region_held3 (fun w' => w'.cell? ⟨w.heap.size + 1, 0, none⟩ = some (.bool false) ∧ w'.cell? ⟨w.heap.size + 1, 1, none⟩ = some (.slice B m cb) ∧ w'.cell? ⟨kr, 0, none⟩ = some (.bool false) ∧ w'.cell? ⟨kr, 1, none⟩ = some (.slice A2 l2 c2))
                (first | (with_reducible exact ⟨SC.y.c0, SC.y.c1, RC.c0, RC.c1⟩) | (with_reducible exact ⟨SB.y.c0, SB.y.c1, RB.c0, RB.c1⟩) | (with_reducible exact ⟨SA.y.c0, SA.y.c1, RA.c0, RA.c1⟩) | (with_reducible exact ⟨S.drew.y.c0, S.drew.y.c1, R.drew.c0, R.drew.c1⟩) | go_keep)
                (first
                  | (go_at_call 31; ((with_reducible refine (word_nat M _ (by omega)).mono ?_)); rintro e wA ⟨A3, k3, c3, rfl, R3, hbA⟩; have SA := S.drew.keep hbA; have RA := R.drew.keep hbA; have RRA := RR.drew.keep hbA; have hk3 := digs_small (M := M) (by omega); rw [R3.len] at hk3)
                  | (go_at_call 45; ((with_reducible refine (nmul_nat _ _ _ _ _ _ _ _ _ R3 (hy.keep SA.bl) (by omega) (by omega)).mono ?_)); rintro e wB ⟨A4, k4, c4, rfl, R4, hbB⟩; have SB := SA.keep hbB; have RB := RA.keep hbB; have RRB := RRA.keep hbB; have hk4 := mul_len (M := M) (by omega) HYL.out HBP.out; rw [R4.len] at hk4)
                  | (go_at_call 54; ((with_reducible refine (ncmp_nat _ _ _ _ _ _ _ _ _ R4 RRB (by omega) (by omega)).mono ?_)); rintro e wC ⟨rfl, hbC⟩; generalize hcc : cmpI ((M * b : Nat) : Int) (D : Int) = cc; have HCC := Lib.hid (dec_le hcc.symm); clear hcc; have SC := SB.keep hbC; have RC := RB.keep hbC; have RRC := RRB.keep hbC))
              all_goals
                clear SA SB RA RB RRA RRB R3 R4 hbA hbB hbC
                go_wp2_with fail
                go_meet
                case rel => exact ⟨by rw [← HCC.out], SC, RC, RRC⟩
            case rest =>
              obtain ⟨rfl, S3, R3, RR3⟩ := hcut
              have HMH := Lib.hid hM
              clear hM S R RR y0 y1 r0 r1 hMw
              by_cases hle : M * b ≤ D
              · have HLE := Lib.hid hle
                rw [decide_eq_true hle]
                clear hle
                go_wp2_with fail
                go_roundg (q - M)
                case measure => omega
                case rel => exact ⟨M, q, rfl, rfl, Nat.le_refl _, hM2, hq9, HLE, HHI, S3, R3, RR3⟩
              · have HLE := Lib.hid (show D < (M - 1 + 1) * b by rw [show M - 1 + 1 = M by omega]; omega)
                rw [decide_eq_false hle]
                clear hle
                go_wp2_with fail
                go_roundg (M - 1 - p)
                case measure => omega
                case rel => exact ⟨p, M - 1, rfl, val_int (by omega), Nat.le_refl _, by omega, by omega, HLO, HLE, S3, R3, RR3⟩
          · obtain rfl : p = q := by omega
            clear hlt hpq hpk
            have hjn : j < n := by omega
            have hjl : j < qs.length := by rw [S.q.len]; exact hjn
            have q0 := S.q.cell j _ (List.getElem?_eq_getElem hjl)
            have q1 := S.q.fr j
            generalize qs[j] = yo at q0
            have S4 := S.set (y := p) hjn
            have R4 := R.ne_q (G := w.heap.size + 1 + 1 + 1 + 1) (by omega) j (.int .i64 (p : Int))
            have RR4 := RR.far1 (G := w.heap.size + 1 + 1 + 1 + 1) (fun _ k off h => HFQ.out k off h) j (.int .i64 (p : Int))
            have HJL := Lib.hid hjl
            clear hjl
            go_upto_region 14 with fail
            generalize wr.setCell ⟨w.heap.size + 1 + 1 + 1 + 1, j, none⟩ (.int .i64 (p : Int)) = W5 at *
            clear q0 q1 S R RR
            have y0 := S4.y.c0; have y1 := S4.y.c1; have r0 := R4.c0; have r1 := R4.c1
            have hpw : IntKind.u64.wrap (p : Int) = (p : Int) := wrap_small _ (by omega) (by omega)
            have HQ6 := Lib.hid (set_lt (i := j) HQ.out (show p < 1000 by omega))
            have HV6 := Lib.hid (show dv ((digs a).drop j) = dv ((qs.set j p).drop j) * b + (D - p * b) by
              rw [dv_drop HXK.out, dv_drop (xs := qs.set j p) (i := j) (x := p) (List.getElem?_set_self HJL.out), List.drop_set_of_lt (by omega), ← HDD.out]
              exact down_step HDV.out (by rw [HDD.out]; exact HLO.out))
            have HR6 := Lib.hid (show D - p * b < b by have h1 := HHI.out; have h2 := HBP.out; rw [Nat.add_mul, Nat.one_mul] at h1; omega)
            have HYL := Lib.hid hy.len
            go_region_with (first
              | (go_at_call 31; ((with_reducible refine (word_nat p _ (by omega)).mono ?_)); rintro e wA ⟨A3, k3, c3, rfl, R3, hbA⟩; have SA := S4.drew.keep hbA; have RA := R4.drew.keep hbA; have RRA := RR4.drew.keep hbA; have hk3 := digs_small (M := p) (by omega); rw [R3.len] at hk3; have u0 := SA.y.c0; have u1 := SA.y.c1; have u2 := RA.c0; have u3 := RA.c1)
              | (go_at_call 45; ((with_reducible refine (nmul_nat _ _ _ _ _ _ _ _ _ R3 (hy.keep SA.bl) (by omega) (by omega)).mono ?_)); rintro e wB ⟨A4, k4, c4, rfl, R4', hbB⟩; have SB := SA.keep hbB; have RB := RA.keep hbB; have RRB := RRA.keep hbB; have hk4 := mul_len (M := p) (by omega) HYL.out HBP.out; rw [R4'.len] at hk4; have v0 := RB.c0; have v1 := RB.c1)
              | (go_at_call 55; ((with_reducible refine (nsub_nat _ _ _ _ _ _ _ _ _ RRB R4' (by omega) (by omega) HLO.out).mono ?_)); rintro e wC ⟨A5, k5, c5, rfl, R5, hbC⟩; have SC := SB.keep hbC; have RC := RB.keep hbC; have d0 := RC.c0; have d1 := RC.c1; have d2 := RC.f 0; have d3 := RC.f 1))
            all_goals
              have HS2 := Lib.hid (SC.far hkr (.bool false) (.slice A5 k5 c5))
              have HR2 := Lib.hid (R5.far (RC.ne_row (by intro k z h; cases h) R5) (.bool false) (.slice A5 k5 c5))
              have HB2 := Lib.hid (RC.stored (.bool false) (.slice A5 k5 c5))
              clear SA SB SC RA RB RC RRA RRB R3 R4' R5 hbA hbB hbC S4 R4 RR4
              go_wp2_with fail
              go_roundg j
              case measure => omega
              case rel => exact ⟨_, _, _, _, _, _, rfl, by omega, by omega, HS2.out, HQ6.out, HB2.out, HR2.out, HR6.out, HV6.out⟩
end Go.Proofs.YtgojfonnikgboaaGreatDoor

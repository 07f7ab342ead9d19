/- Contracts of corrodyref01: Sub, Cmp. The contract of corrodyref01.Mul. Contracts of corrodyref01: Ten. Contracts of corrodyref01: Of. For corrodyref01.Down: an append of a row behind one place, as a step of a region that draws; a row that is filled place by place; the arithmetic of long division. -/
import Derived.Test.YtfceoehfellpgaaGreatDoorRowRel
import Derived.Deep.RegionWith
import Derived.Deep.RegionLaw
import Derived.Deep.CutRange
import Derived.Deep.AppendLies
namespace Go.Proofs.YtfceoehfellpgaaGreatDoor
set_option maxRecDepth 8000
open Go.RowKit Corr
set_option linter.unusedVariables false

set_option maxHeartbeats 1000000 in
theorem nsub_any (s s' : Bool) (A B : Option Addr) (n m ca cb a b : Nat) (z : Int) (w : World) (hx : Row w A n ca (digs a)) (hy : Row w B m cb (digs b)) (hn : n ≤ 5000) (hm : m ≤ 5000) (hz : val s a - val s' b = z) :
    Calls Tryz.prog 51 #[.agg #[.bool s, .slice A n ca], .agg #[.bool s', .slice B m cb]] w (RetN w (negB z) (digs z.natAbs)) := by
  generalize hy' : val s' b = y at hz
  have HY := Lib.hid hy'
  have HS := Lib.hid (show val s a + val (negB (-y)) (-y).natAbs = z by rw [val_neg]; omega)
  have HLY := Lib.hid (show (digs (-y).natAbs).length ≤ 5000 by rw [Int.natAbs_neg, ← hy', natAbs_val, hy.len]; exact hm)
  generalize hbb : negB z = bb
  generalize hza : z.natAbs = za
  have HBB := Lib.hid hbb
  have HZA := Lib.hid hza
  clear hbb hza hz hy'
  have X0 := ((Box2.new w (.bool s) (.slice A n ca) 45).alloc (.cells #[.bool s', .slice B m cb] 45)).alloc (.cells #[.bool false, .slice none 0 0] 45)
  have Y0 := (Box2.new (w.alloc (.cells #[.bool s, .slice A n ca] 45)) (.bool s') (.slice B m cb) 45).alloc (.cells #[.bool false, .slice none 0 0] 45)
  have Z0 := Box2.new ((w.alloc (.cells #[.bool s, .slice A n ca] 45)).alloc (.cells #[.bool s', .slice B m cb] 45)) (.bool false) (.slice none 0 0) 45
  rw [size_alloc] at Y0
  rw [size_alloc, size_alloc] at Z0
  have BW : Below w.heap.size w (((w.alloc (.cells #[.bool s, .slice A n ca] 45)).alloc (.cells #[.bool s', .slice B m cb] 45)).alloc (.cells #[.bool false, .slice none 0 0] 45)) := (((Below.refl _ _).alloc (Nat.le_refl _) _).alloc (by simp) _).alloc (by simp; omega) _
  have hX := (hx.keep BW).drew
  have hY := (hy.keep BW).drew
  go_enter Tryz.func51, Tryz.ntmps51
  go_upto_region 1 with fail
  go_region_held3 (fun w' => w'.cell? ⟨w.heap.size, 0, none⟩ = some (.bool s) ∧ w'.cell? ⟨w.heap.size, 1, none⟩ = some (.slice A n ca) ∧ w'.cell? ⟨w.heap.size + 1, 0, none⟩ = some (.bool s') ∧ w'.cell? ⟨w.heap.size + 1, 1, none⟩ = some (.slice B m cb))
    (first | (with_reducible exact ⟨(XB.far (by omega) _ _).c0, (XB.far (by omega) _ _).c1, (YB.far (by omega) _ _).c0, (YB.far (by omega) _ _).c1⟩) | (with_reducible exact ⟨XB.c0, XB.c1, YB.c0, YB.c1⟩) | (with_reducible exact ⟨XA.c0, XA.c1, YA.c0, YA.c1⟩) | go_keep)
    (first
      | (go_at_call 28; refine (nneg_any _ _ _ _ _ _ _ hY (by omega) HY.out).mono ?_; rintro e wA ⟨A1, k1, c1, rfl, RO, hbA⟩; have XA := X0.drew.keep hbA; have YA := Y0.drew.keep hbA; have ZA := Z0.drew.keep hbA; have hXA := hX.keep hbA; have BA := BW.drew.trans (hbA.mono (by simp; omega)))
      | (go_at_call 26; refine (nadd_any _ _ _ _ _ _ _ _ _ _ _ _ hXA RO (by omega) (by have h1 := RO.len; have h2 := HLY.out; omega) HS.out).mono ?_; rintro e wB ⟨A2, k2, c2, rfl, RB, hbB⟩; have XB := XA.keep hbB; have YB := YA.keep hbB; have ZB := ZA.keep hbB; have BB := BA.trans (hbB.mono BA.size); have z0 := ZB.c0; have z1 := ZB.c1; have z2 := ZB.f 0; have z3 := ZB.f 1))
  rw [HBB.out]
  rw [HZA.out] at RB
  have HR := Lib.hid (RB.far (ZB.ne_row (by intro k z h; cases h) RB) (.bool bb) (.slice A2 k2 c2))
  clear RB
  go_wp2_with fail
  refine bodyPost_ret (v := .agg #[.bool bb, .slice A2 k2 c2]) (by simp [results, Tryz.results51, go_sem, z0, z1]) rfl ⟨A2, k2, c2, rfl, HR.out, ?_⟩
  exact (BB.setCell (by simp; omega) _).setCell (by simp; omega) _

/-- What a call leaves that tells a number. -/
def RetI (w : World) (z : Int) (e : Ending) (w' : World) : Prop := e = .returned (.int .i64 z) ∧ Below w.heap.size w w'
set_option maxHeartbeats 1000000 in
theorem ncmp_any (s s' : Bool) (A B : Option Addr) (n m ca cb a b : Nat) (w : World) (hx : Row w A n ca (digs a)) (hy : Row w B m cb (digs b)) (hn : n ≤ 5000) (hm : m ≤ 5000) :
    Calls Tryz.prog 41 #[.agg #[.bool s, .slice A n ca], .agg #[.bool s', .slice B m cb]] w (RetI w (cmpI (val s a) (val s' b))) := by
  generalize hzz : val s a - val s' b = z
  have HZ := Lib.hid hzz
  generalize hq : cmpI (val s a) (val s' b) = q
  have HQ := Lib.hid hq
  have BW : Below w.heap.size w ((w.alloc (.cells #[.bool s, .slice A n ca] 45)).alloc (.cells #[.bool s', .slice B m cb] 45)) := ((Below.refl _ _).alloc (Nat.le_refl _) _).alloc (by simp) _
  have hX := hx.keep BW
  have hY := hy.keep BW
  have HLT := Lib.hid (show z < 0 → q = -1 by intro h; rw [← hq]; exact cmpI_lt (by omega))
  have HEQ := Lib.hid (show z = 0 → q = 0 by intro h; rw [← hq]; exact cmpI_eq (by omega))
  have HGT := Lib.hid (show 0 < z → q = 1 by intro h; rw [← hq]; exact cmpI_gt (by omega))
  clear hzz hq
  go_enter Tryz.func41, Tryz.ntmps41
  go_wp2_with fail
  refine (nsub_any _ _ _ _ _ _ _ _ _ _ _ _ hX hY hn hm HZ.out).mono ?_
  rintro e w1 ⟨A1, k1, c1, rfl, R, hb⟩
  have B1 : Below w.heap.size w w1 := BW.trans (hb.mono (by simp; omega))
  have HL := Lib.hid R.len
  clear hb R hX hY BW
  by_cases h0 : z = 0
  · have hk : k1 = 0 := by rw [← HL.out, h0]; rw [show Int.natAbs 0 = 0 from rfl, digs_zero]; rfl
    have HE := Lib.hid (HEQ.out h0)
    subst hk
    clear h0
    go_wp2_with fail
    go_ret
    exact ⟨by rw [HE.out]; rfl, B1.alloc B1.size _⟩
  · have hk : k1 ≠ 0 := by rw [← HL.out, digs_pos (by omega)]; simp
    have t0 : ((k1 : Int) == 0) = false := by rw [beq_eq_false_iff_ne]; omega
    by_cases h1 : z < 0
    · have HN := Lib.hid (show negB z = true by simp [negB, h1])
      have HE := Lib.hid (HLT.out h1)
      rw [HN.out]
      clear h0 h1 hk
      go_wp2_with fail
      go_ret
      exact ⟨by rw [HE.out]; rfl, B1.alloc B1.size _⟩
    · have HN := Lib.hid (show negB z = false by simp [negB, h1])
      have HE := Lib.hid (HGT.out (by omega))
      rw [HN.out]
      clear h0 h1 hk
      go_wp2_with fail
      go_ret
      exact ⟨by rw [HE.out]; rfl, B1.alloc B1.size _⟩
end Go.Proofs.YtfceoehfellpgaaGreatDoor
namespace Corr
set_option maxRecDepth 8000
open Go Go.RowKit
theorem dv_set : ∀ (os : List Nat) (i x d : Nat), os[i]? = some x → dv (os.set i d) + 1000 ^ i * x = dv os + 1000 ^ i * d
  | [], _, _, _, h => by simp at h
  | y :: r, 0, x, d, h => by
    have : y = x := by simpa using h
    subst this
    simp only [List.set_cons_zero, dv, Nat.pow_zero, Nat.one_mul]; omega
  | y :: r, i + 1, x, d, h => by
    have ih := dv_set r i x d (by simpa using h)
    simp only [List.set_cons_succ, dv, Nat.pow_succ]
    have e1 : 1000 ^ i * 1000 * x = 1000 * (1000 ^ i * x) := by rw [Nat.mul_comm (1000 ^ i) 1000, Nat.mul_assoc]
    have e2 : 1000 ^ i * 1000 * d = 1000 * (1000 ^ i * d) := by rw [Nat.mul_comm (1000 ^ i) 1000, Nat.mul_assoc]
    omega
theorem dv_zeros (n : Nat) : dv (List.replicate n 0) = 0 := by
  induction n with
  | zero => rfl
  | succ n ih => rw [List.replicate_succ]; simp [dv, ih]
/-- One place of the carrying. -/
theorem carry_step {o c p V x : Nat} (h : o + p * c = V) (o' : Nat) (ho : o' + p * x = o + p * ((c + x) % 1000)) : o' + p * 1000 * ((c + x) / 1000) = V := by
  have h1 := Nat.div_add_mod (c + x) 1000
  have h2 : p * (1000 * ((c + x) / 1000) + (c + x) % 1000) = p * (c + x) := by rw [h1]
  rw [Nat.mul_add, ← Nat.mul_assoc, Nat.mul_add] at h2
  omega
theorem set_lt {os : List Nat} {i d : Nat} (h : ∀ x ∈ os, x < 1000) (hd : d < 1000) : ∀ x ∈ os.set i d, x < 1000 := by
  intro x hx
  rcases List.mem_or_eq_of_mem_set hx with h1 | h1
  · exact h x h1
  · omega
theorem dv_take_le (xs : List Nat) (i : Nat) : dv (xs.take i) ≤ dv xs := by
  have h := dv_append (xs.take i) (xs.drop i)
  rw [List.take_append_drop] at h
  omega
/-- What is carried never leaves the row. -/
theorem in_row {p n c V : Nat} (hc : 0 < c) (h : 1000 ^ p * c ≤ V) (hV : V < 1000 ^ n) : p < n := by
  rcases Nat.lt_or_ge p n with h1 | h1
  · exact h1
  · have h2 : 1000 ^ n ≤ 1000 ^ p := Nat.pow_le_pow_right (by omega) h1
    have h3 : 1000 ^ p * 1 ≤ 1000 ^ p * c := Nat.mul_le_mul_left _ hc
    omega
theorem made_zeros (N : Nat) : (madeCells #[Value.int .i64 0] N).toList = (List.replicate N 0).map encN := by
  rw [toList_madeCells_one, List.map_replicate]; rfl
/-- The row that Mul fills: its places, its worth. -/
structure MulSt (W3 wr : World) (G N : Nat) (os : List Nat) (c V : Nat) : Prop where
  own : wr.ownsRow G 3 1 (.slice (some ⟨G, 0, none⟩) N N) N (os.map encN)
  lt : ∀ x ∈ os, x < 1000
  len : os.length = N
  worth : dv os + c = V
  below : Below G W3 wr
theorem MulSt.drewN {W3 wr : World} {G N c V : Nat} {os : List Nat} (h : MulSt W3 wr G N os c V) (q : Nat) : MulSt W3 (wr.drewN q) G N os c V :=
  ⟨h.own, h.lt, h.len, h.worth, h.below.trans (Joins.below_draws _ _ q)⟩
theorem mul_bound {xs ys : List Nat} {i j x y n m : Nat} (hx : xs[i]? = some x) (hy : ys[j]? = some y) (dx : ∀ z ∈ xs, z < 1000) (dy : ∀ z ∈ ys, z < 1000) (hn : xs.length = n) (hm : ys.length = m) :
    dv (xs.take i) * dv ys + 1000 ^ i * x * dv (ys.take j) + 1000 ^ (i + j) * (x * y) < 1000 ^ (n + m) := by
  have h1 : 1000 ^ (i + j) * (x * y) = 1000 ^ i * x * (1000 ^ j * y) := by rw [Nat.pow_add, Nat.mul_mul_mul_comm]
  have h2 : dv (ys.take j) + 1000 ^ j * y ≤ dv ys := by rw [← dv_take hy]; exact dv_take_le ys (j + 1)
  have h3 : dv (xs.take i) + 1000 ^ i * x ≤ dv xs := by rw [← dv_take hx]; exact dv_take_le xs (i + 1)
  have h4 : 1000 ^ i * x * (dv (ys.take j) + 1000 ^ j * y) ≤ 1000 ^ i * x * dv ys := Nat.mul_le_mul_left _ h2
  have h5 : (dv (xs.take i) + 1000 ^ i * x) * dv ys ≤ dv xs * dv ys := Nat.mul_le_mul_right _ h3
  have h6 : dv xs < 1000 ^ n := by have := dv_lt dx; rwa [hn] at this
  have h7 : dv ys < 1000 ^ m := by have := dv_lt dy; rwa [hm] at this
  have h8 : dv xs * dv ys < 1000 ^ n * 1000 ^ m := Nat.mul_lt_mul'' h6 h7
  rw [Nat.mul_add] at h4
  rw [Nat.add_mul] at h5
  rw [h1, Nat.pow_add]
  omega
theorem mul_next {V0 p x y d k : Nat} : V0 + p * x * d + p * k * (x * y) = V0 + p * x * (d + k * y) := by
  rw [Nat.mul_add, Nat.mul_mul_mul_comm]; omega
end Corr
namespace Go.Proofs.YtfceoehfellpgaaGreatDoor
set_option maxRecDepth 8000
open Go.RowKit Corr
set_option linter.unusedVariables false
theorem val_mul2 (s s' : Bool) (a b : Nat) : val s a * val s' b = val (s != s') (a * b) := by
  cases s <;> cases s' <;> simp [val, Int.neg_mul, Int.mul_neg]

set_option maxHeartbeats 4000000 in
theorem nmul_any (s s' : Bool) (A B : Option Addr) (n m ca cb a b : Nat) (z : Int) (w : World) (hx : Row w A n ca (digs a)) (hy : Row w B m cb (digs b)) (hn : n ≤ 2000) (hm : m ≤ 2000) (hz : val s a * val s' b = z) :
    Calls Tryz.prog 27 #[.agg #[.bool s, .slice A n ca], .agg #[.bool s', .slice B m cb]] w (RetN w (negB z) (digs z.natAbs)) := by
  obtain ⟨i0, hi, hz0, hz1, hz2⟩ := info_parts info_int
  have hzz : val (s != s') (a * b) = z := by rw [← hz, val_mul2]
  generalize hbb : negB z = bb
  generalize hza : z.natAbs = za
  have HBB := Lib.hid (show nzB (!s == s') (dv (digs a) * dv (digs b)) = bb by rw [show (!s == s') = (s != s') by cases s <;> cases s' <;> rfl, dv_digs, dv_digs, sgn_neg, hzz, hbb])
  have HZA := Lib.hid (show dv (digs a) * dv (digs b) = za by rw [dv_digs, dv_digs, ← hza, ← hzz, natAbs_val])
  clear hbb hza hz hzz
  have X0 := ((Box2.new w (.bool s) (.slice A n ca) 45).alloc (.cells #[.bool s', .slice B m cb] 45)).alloc (.cells #[.bool false, .slice none 0 0] 45)
  have Y0 := (Box2.new (w.alloc (.cells #[.bool s, .slice A n ca] 45)) (.bool s') (.slice B m cb) 45).alloc (.cells #[.bool false, .slice none 0 0] 45)
  have Z0 := Box2.new ((w.alloc (.cells #[.bool s, .slice A n ca] 45)).alloc (.cells #[.bool s', .slice B m cb] 45)) (.bool false) (.slice none 0 0) 45
  rw [size_alloc] at Y0
  rw [size_alloc, size_alloc] at Z0
  have BW : Below w.heap.size w (((w.alloc (.cells #[.bool s, .slice A n ca] 45)).alloc (.cells #[.bool s', .slice B m cb] 45)).alloc (.cells #[.bool false, .slice none 0 0] 45)) := (((Below.refl _ _).alloc (Nat.le_refl _) _).alloc (by simp) _).alloc (by simp; omega) _
  have hX := hx.keep BW
  have hY := hy.keep BW
  have s3 : (((w.alloc (.cells #[.bool s, .slice A n ca] 45)).alloc (.cells #[.bool s', .slice B m cb] 45)).alloc (.cells #[.bool false, .slice none 0 0] 45)).heap.size = w.heap.size + 1 + 1 + 1 := by simp
  have HS3 := Lib.hid s3
  clear s3
  go_enter Tryz.func27, Tryz.ntmps27
  go_wp2_with (at_make; refine wpList_make_full _ rfl _ _ 43 rfl (w.heap.size + 1 + 1 + 1) 3 i0 (.int .i64 0) 1 Tryz.underlying43 hi hz0 hz1 .i64 .i64 _ _ (n + m + 1) rfl rfl ?_ ?_ ?_ ?_ ?_ ?_)
  · omega
  · omega
  · rw [hz2]; omega
  · unfold maxLen; omega
  · simp
  intro w4 hown4 hgrow4
  have M4 : MulSt (((w.alloc (.cells #[.bool s, .slice A n ca] 45)).alloc (.cells #[.bool s', .slice B m cb] 45)).alloc (.cells #[.bool false, .slice none 0 0] 45)) w4 (w.heap.size + 1 + 1 + 1) (n + m + 1) (List.replicate (n + m + 1) 0) 0 0 :=
    ⟨by rw [made_zeros] at hown4; exact hown4, (fun x hx => by have := List.eq_of_mem_replicate hx; omega), by simp, by rw [dv_zeros], (Below.refl _ _).grown hgrow4 (by simp) (by intro k hk; cases hk)⟩
  clear hown4 hgrow4
  generalize (((w.alloc (.cells #[.bool s, .slice A n ca] 45)).alloc (.cells #[.bool s', .slice B m cb] 45)).alloc (.cells #[.bool false, .slice none 0 0] 45)) = W3 at *
  have HX1 := Lib.hid (digs_lt a)
  have HY1 := Lib.hid (digs_lt b)
  have HNL := Lib.hid hx.len
  have HML := Lib.hid hy.len
  go_wp2_with fail
  go_loopw [6] (fun t wr => ∃ (i : Nat) (os : List Nat), t = .int .i64 (i : Int) ∧ i ≤ n ∧ MulSt W3 wr (w.heap.size + 1 + 1 + 1) (n + m + 1) os 0 (dv ((digs a).take i) * dv (digs b))) (fun t _ => n - (intOf t).toNat)
  case atStart => exact ⟨0, _, rfl, Nat.zero_le _, by simpa [dv] using M4⟩
  case round =>
    obtain ⟨i, os, rfl, hin, M⟩ := hrel
    clear M4
    have hbW : Below W3.heap.size W3 wr := by rw [HS3.out]; exact M.below
    have Xr := X0.keep hbW
    have Yr := Y0.keep hbW
    have x0 := Xr.c0; have x1 := Xr.c1; have y0 := Yr.c0; have y1 := Yr.c1
    by_cases hlt : i < n
    · obtain ⟨ga, oa, x, hA, hxk, hxl, hxc⟩ := hx.get HX1.out hlt
      subst hA
      have HXK := Lib.hid hxk
      have HXC := Lib.hid hxc
      clear hxk hxc
      go_wp2_with fail
      obtain ⟨wo, rfl⟩ : ∃ wo : World, wo = wr := ⟨_, rfl⟩
      go_loopw [7] (fun t wq => ∃ (j : Nat) (os : List Nat), t = .int .i64 (j : Int) ∧ j ≤ m ∧ MulSt W3 wq (w.heap.size + 1 + 1 + 1) (n + m + 1) os 0 (dv ((digs a).take i) * dv (digs b) + 1000 ^ i * x * dv ((digs b).take j))) (fun t _ => m - (intOf t).toNat)
      case atStart => exact ⟨0, _, rfl, Nat.zero_le _, by simpa [dv] using M⟩
      case round =>
        obtain ⟨j, os2, rfl, hjm, M2⟩ := hrel
        clear M Xr Yr x0 x1 y0 y1 hbW
        have hbW : Below W3.heap.size W3 wr := by rw [HS3.out]; exact M2.below
        have BQ : Below w.heap.size w wr := BW.trans (hbW.mono (by rw [HS3.out]; omega))
        have Xr := X0.keep hbW
        have Yr := Y0.keep hbW
        have x0 := Xr.c0; have x1 := Xr.c1; have y0 := Yr.c0; have y1 := Yr.c1
        by_cases hlt2 : j < m
        · obtain ⟨gb, ob, y, hB, hyk, hyl, hyc⟩ := hy.get HY1.out hlt2
          subst hB
          have cx := HXC.out wr BQ
          have cy := hyc wr BQ
          have HYK := Lib.hid hyk
          clear hyk hyc
          obtain ⟨P, hP⟩ : ∃ P, x * y = P := ⟨_, rfl⟩
          have P1 : P ≤ 998001 := by rw [← hP]; exact Nat.mul_le_mul (show x ≤ 999 by omega) (show y ≤ 999 by omega)
          have HP := Lib.hid hP
          clear hP
          have HW := Lib.hid (show wrap64 ((x : Int) * (y : Int)) = (P : Int) by
            rw [show (x : Int) * (y : Int) = ((x * y : Nat) : Int) by simp, HP.out]; unfold wrap64; omega)
          obtain ⟨V3, hV3⟩ : ∃ V3, dv ((digs a).take i) * dv (digs b) + 1000 ^ i * x * dv ((digs b).take j) + 1000 ^ (i + j) * P = V3 := ⟨_, rfl⟩
          have HV3 := Lib.hid hV3
          have HVB := Lib.hid (show V3 < 1000 ^ (n + m) by
            rw [← hV3, ← HP.out]; exact mul_bound HXK.out HYK.out HX1.out HY1.out HNL.out HML.out)
          have HVN := Lib.hid (show dv ((digs a).take i) * dv (digs b) + 1000 ^ i * x * dv ((digs b).take (j + 1)) = V3 by
            rw [← hV3, ← HP.out, dv_take HYK.out, Nat.pow_add]; exact mul_next.symm)
          clear hV3
          have i1 : (i : Int) < (n : Int) := by omega
          have i2 : (0 : Int) ≤ (i : Int) := by omega
          have j1 : (j : Int) < (m : Int) := by omega
          have j2 : (0 : Int) ≤ (j : Int) := by omega
          go_upto_region 9 with fail
          go_quiet (fail)
          simp only [HW.out]
          have HM2 := Lib.hid (show ∀ q, MulSt W3 (wr.drewN q) (w.heap.size + 1 + 1 + 1) (n + m + 1) os2 (1000 ^ (i + j) * P) V3 from fun q => by
            have h := M2.drewN q
            exact ⟨h.own, h.lt, h.len, by have := h.worth; have := HV3.out; omega, h.below⟩)
          clear M2 cx cy x0 x1 y0 y1 Xr Yr hbW BQ
          go_wp2_with fail
          obtain ⟨wi, rfl⟩ : ∃ wi : World, wi = wr := ⟨_, rfl⟩
          go_loopw [8, 9] (fun t c wv => ∃ (p k : Nat) (os : List Nat), t = .int .i64 (p : Int) ∧ c = .int .i64 (k : Int) ∧ k ≤ 998001 ∧ p ≤ n + m ∧ MulSt W3 wv (w.heap.size + 1 + 1 + 1) (n + m + 1) os (1000 ^ p * k) V3) (fun t _ _ => n + m - (intOf t).toNat)
          case atStart => exact ⟨i + j, P, os2, val_int (by omega), rfl, P1, by omega, HM2.out _⟩
          case round =>
            obtain ⟨p, k, os3, rfl, rfl, hk1, hp1, M3⟩ := hrel
            clear HM2
            by_cases hk : 0 < k
            · have hp : p < n + m := in_row hk (by have := M3.worth; omega) HVB.out
              have hpl : p < os3.length := by rw [M3.len]; omega
              obtain ⟨o, ho⟩ : ∃ o, os3[p]? = some o := ⟨_, List.getElem?_eq_getElem hpl⟩
              have o1 : o < 1000 := M3.lt o (List.mem_of_getElem? ho)
              have co : wr.cell? ⟨w.heap.size + 1 + 1 + 1, p, none⟩ = some (.int .i64 (o : Int)) := by
                rw [M3.own.cellAt p (by omega), List.getElem?_map, ho]; rfl
              have fo := M3.own.frozenAt p
              have HNX := Lib.hid (show MulSt W3 (wr.setCell ⟨w.heap.size + 1 + 1 + 1, p, none⟩ (.int .i64 (((k : Int) + (o : Int)) % 1000))) (w.heap.size + 1 + 1 + 1) (n + m + 1) (os3.set p ((k + o) % 1000)) (1000 ^ (p + 1) * ((k + o) / 1000)) V3 from by
                have hst := M3.own.stored p (.int .i64 (((k : Int) + (o : Int)) % 1000))
                refine ⟨?_, set_lt M3.lt (Nat.mod_lt _ (by omega)), by rw [List.length_set, M3.len], ?_, M3.below.setCell (Nat.le_refl _) _⟩
                · have h1 := hst.1
                  rw [show (.int .i64 (((k : Int) + (o : Int)) % 1000) : Value) = encN ((k + o) % 1000) by unfold encN; exact val_int (by omega), ← List.map_set] at h1
                  rw [show (.int .i64 (((k : Int) + (o : Int)) % 1000) : Value) = encN ((k + o) % 1000) by unfold encN; exact val_int (by omega)]
                  exact h1
                · rw [Nat.pow_succ]
                  exact carry_step M3.worth _ (dv_set os3 p o _ ho))
              clear M3 ho hpl
              go_wp2_with fail
              go_roundw
              case rel => exact ⟨p + 1, (k + o) / 1000, _, by go_num, val_int (by omega), by omega, by omega, HNX.out⟩
              case measure => simp [intOf]; omega
            · have HM3 := Lib.hid (show MulSt W3 wr (w.heap.size + 1 + 1 + 1) (n + m + 1) os3 0 (dv ((digs a).take i) * dv (digs b) + 1000 ^ i * x * dv ((digs b).take (j + 1))) from by
                rw [HVN.out]
                exact ⟨M3.own, M3.lt, M3.len, by have := M3.worth; rw [show k = 0 by omega, Nat.mul_zero] at this; exact this, M3.below⟩)
              clear M3
              go_wp2_with fail
              go_roundw
              case rel => exact ⟨j + 1, os3, by go_num, by omega, HM3.out⟩
              case measure => simp [intOf]; omega
        · have HM3 := Lib.hid (show MulSt W3 wr (w.heap.size + 1 + 1 + 1) (n + m + 1) os2 0 (dv ((digs a).take (i + 1)) * dv (digs b)) from by
            have h := M2.worth
            rw [List.take_of_length_le (l := digs b) (by rw [HML.out]; omega)] at h
            exact ⟨M2.own, M2.lt, M2.len, by rw [h, dv_take HXK.out, Nat.add_mul], M2.below⟩)
          clear M2
          go_wp2_with fail
          go_roundw
          case rel => exact ⟨i + 1, os2, by go_num, by omega, HM3.out⟩
          case measure => simp [intOf]; omega
    · have hl : os.length = n + m + 1 := M.len
      obtain ⟨A', c', hv, R⟩ := Row.of_own (xs := os) (by rw [hl]; exact M.own)
      have hl2 : os.length ≤ 100000 := by omega
      have HW := Lib.hid (show dv os = dv (digs a) * dv (digs b) by
        have h := M.worth
        rw [List.take_of_length_le (by rw [HNL.out]; omega)] at h
        omega)
      have HLT := Lib.hid M.lt
      rw [hl] at hv R
      injection hv with e1 _ e2
      subst e1 e2
      have Zr := Z0.keep hbW
      have BQ : Below w.heap.size w wr := BW.trans (hbW.mono (by rw [HS3.out]; omega))
      clear hbW M
      go_wp2_with fail
      refine (short_any _ _ _ _ _ _ R HLT.out (by omega)).mono ?_
      rintro e w5 ⟨A2, k2, c2, rfl, RB, hb5⟩
      rw [HW.out, HBB.out]
      rw [HW.out, HZA.out] at RB
      have ZB := Zr.keep hb5
      have BB : Below w.heap.size w w5 := BQ.trans (hb5.mono BQ.size)
      have z0 := ZB.c0; have z1 := ZB.c1; have z2 := ZB.f 0; have z3 := ZB.f 1
      have HR := Lib.hid (RB.far (ZB.ne_row (by intro k z h; cases h) RB) (.bool bb) (.slice A2 k2 c2))
      clear RB hb5
      go_wp2_with fail
      refine bodyPost_ret (v := .agg #[.bool bb, .slice A2 k2 c2]) (by simp [results, Tryz.results27, go_sem, z0, z1]) rfl ⟨A2, k2, c2, rfl, HR.out, ?_⟩
      exact (BB.setCell (by simp; omega) _).setCell (by simp; omega) _
end Go.Proofs.YtfceoehfellpgaaGreatDoor
namespace Go.Proofs.YtfceoehfellpgaaGreatDoor
set_option maxRecDepth 8000
open Go.RowKit Corr
set_option linter.unusedVariables false

theorem word_ten (w : World) : Calls Tryz.prog 25 #[.int .u64 10] w (RetN w false (digs 10)) := word_any 10 w (by decide)
end Go.Proofs.YtfceoehfellpgaaGreatDoor
namespace Corr
set_option maxRecDepth 8000
open Go Go.RowKit
/-- A row that is worth enough has no nought at its end. -/
theorem last_of_worth {o : List Nat} (hd : ∀ x ∈ o, x < 1000) (hw : 0 < o.length → 1000 ^ (o.length - 1) ≤ dv o) : ∀ x, o.getLast? = some x → x ≠ 0 := by
  intro x hx h0
  subst h0
  obtain ⟨t, ht⟩ : ∃ t, o = t ++ [0] := by
    refine ⟨o.dropLast, ?_⟩
    have hne : o ≠ [] := by intro h; rw [h] at hx; cases hx
    have h1 := List.dropLast_concat_getLast hne
    have h2 : o.getLast hne = 0 := by rw [List.getLast?_eq_some_getLast hne] at hx; simpa using hx
    rw [h2] at h1
    exact h1.symm
  subst ht
  have h1 := hw (by simp)
  rw [dv_snoc] at h1
  have h2 : dv t < 1000 ^ t.length := dv_lt (fun y hy => hd y (List.mem_append_left _ hy))
  simp at h1
  omega
/-- What plus tells of two numbers' rows is the sum's row. -/
theorem plus_digs {o : List Nat} {a b n m : Nat} (h1 : dv o = dv (digs a) + dv (digs b)) (hd : ∀ x ∈ o, x < 1000) (hn : (digs a).length = n) (hm : (digs b).length = m) (hl : o.length ≤ max n m ∨ o.getLast? = some 1) : o = digs (a + b) := by
  rw [dv_digs, dv_digs] at h1
  rw [← h1]
  refine digs_dv o hd ?_
  rcases hl with hl | hl
  · refine last_of_worth hd (fun hp => ?_)
    rcases Nat.lt_or_ge n m with h | h
    · have hb : 0 < b := by
        rcases Nat.eq_zero_or_pos b with e | e
        · subst e; rw [digs_zero] at hm; simp at hm; omega
        · exact e
      have h2 := digs_low b hb
      rw [hm] at h2
      have h3 : 1000 ^ (o.length - 1) ≤ 1000 ^ (m - 1) := Nat.pow_le_pow_right (by omega) (by omega)
      omega
    · have ha : 0 < a := by
        rcases Nat.eq_zero_or_pos a with e | e
        · subst e; rw [digs_zero] at hn; simp at hn; omega
        · exact e
      have h2 := digs_low a ha
      rw [hn] at h2
      have h3 : 1000 ^ (o.length - 1) ≤ 1000 ^ (n - 1) := Nat.pow_le_pow_right (by omega) (by omega)
      omega
  · intro x hx
    rw [hl] at hx
    have : 1 = x := by simpa using hx
    omega
/-- A row of one place, newly laid. -/
theorem row_one (w : World) (x : Nat) (z : Int) (hz : z = x) (T : TypeId) : Row (w.alloc (.cells #[.int .i64 z] T)) (some ⟨w.heap.size, 0, none⟩) 1 1 [x] := by
  subst hz
  refine ⟨rfl, Nat.le_refl _, fun _ => ⟨w.heap.size, 0, rfl, by simp, fun i y hy => ?_⟩⟩
  match i, hy with
  | 0, hy =>
    have : x = y := by simpa using hy
    subst this
    rw [Joins.cell_of_block (heapNew w _)]; rfl
  | i + 1, hy => simp at hy
theorem digs_one : digs 1 = [1] := by rw [digs_pos (by omega)]; rw [show 1 / 1000 = 0 from rfl, digs_zero]
end Corr
namespace Go.Proofs.YtfceoehfellpgaaGreatDoor
set_option maxRecDepth 8000
open Go.RowKit Corr
set_option linter.unusedVariables false
theorem word_i (z : Int) (w : World) (h0 : 0 ≤ z) (h1 : z ≤ 9223372036854775807) : Calls Tryz.prog 25 #[.int .u64 z] w (RetN w false (digs z.natAbs)) := by
  obtain ⟨n, rfl⟩ := Int.eq_ofNat_of_zero_le h0
  rw [Int.natAbs_natCast]
  exact word_any n w (by unfold B64; omega)

set_option maxHeartbeats 1000000 in
theorem nof_any (z : Int) (w : World) (h1 : -9223372036854775808 ≤ z) (h2 : z ≤ 9223372036854775807) :
    Calls Tryz.prog 42 #[.int .i64 z] w (RetN w (negB z) (digs z.natAbs)) := by
  have Z0 := Box2.new w (.bool false) (.slice none 0 0) 45
  have BW : Below w.heap.size w (w.alloc (.cells #[.bool false, .slice none 0 0] 45)) := (Below.refl _ _).alloc (Nat.le_refl _) _
  by_cases h : 0 ≤ z
  · have HN := Lib.hid (show negB z = false by simp [negB]; omega)
    rw [HN.out]
    go_enter Tryz.func42, Tryz.ntmps42
    go_wp2_with fail
    refine (word_i _ _ h h2).mono ?_
    rintro e w1 ⟨A, k, c, rfl, R, hb⟩
    have Z1 := Z0.keep hb
    have B1 : Below w.heap.size w w1 := BW.trans (hb.mono (by simp))
    have HR := Lib.hid (R.far (Z1.ne_row (by intro k z h; cases h) R) (.bool false) (.slice A k c))
    have z0 := Z1.c0; have z1 := Z1.c1; have z2 := Z1.f 0; have z3 := Z1.f 1
    clear R hb
    go_wp2_with fail
    refine bodyPost_ret (v := .agg #[.bool false, .slice A k c]) (by simp [results, Tryz.results42, go_sem, z0, z1]) rfl ⟨A, k, c, rfl, HR.out, ?_⟩
    exact (B1.setCell (by simp) _).setCell (by simp) _
  · have HN := Lib.hid (show negB z = true by simp [negB]; omega)
    rw [HN.out]
    have u0 : 0 ≤ -(z + 1) := by omega
    have u1 : -(z + 1) ≤ 9223372036854775807 := by omega
    have hlt : z < 0 := by omega
    clear h
    go_enter Tryz.func42, Tryz.ntmps42
    go_wp2_with fail
    refine (word_i _ _ u0 u1).mono ?_
    rintro e w1 ⟨A, k, c, rfl, R, hb⟩
    have Z1 := Z0.keep hb
    have B1 : Below w.heap.size w w1 := BW.trans (hb.mono (by simp))
    have hk : k ≤ 7 := by rw [← R.len]; exact digs_len 7 _ (by omega)
    clear hb
    have hfd : ∀ (x y : Value) (w : World), (Instr.field 45 (.agg #[x, y]) 1).run Tryz.prog w = .ok y w := fun _ _ _ => by kernel_rfl
    go_wp2_with fail
    have R1 := R.alloc (.cells #[.int .i64 1] 3)
    have RO := row_one w1 1 1 rfl 3
    rw [← digs_one] at RO
    have Z2 := Z1.alloc (.cells #[.int .i64 1] 3)
    have B2 : Below w.heap.size w (w1.alloc (.cells #[.int .i64 1] 3)) := B1.alloc B1.size _
    refine (plus_any _ _ _ _ _ _ _ _ _ R1 RO (digs_lt _) (digs_lt _) (by omega) (by omega)).mono ?_
    rintro e w3 ⟨A1, k1, c1, o, rfl, RP, ⟨o1, o2, o3, o4⟩, hb⟩
    have HO : o = digs z.natAbs := by
      have := plus_digs o1 o2 R1.len RO.len o4
      rw [this]; congr 1; omega
    subst HO
    have Z3 := Z2.keep hb
    have B3 : Below w.heap.size w w3 := B2.trans (hb.mono B2.size)
    have HR := Lib.hid (RP.far (Z3.ne_row (by intro k z h; cases h) RP) (.bool true) (.slice A1 k1 c1))
    have z0 := Z3.c0; have z1 := Z3.c1; have z2 := Z3.f 0; have z3 := Z3.f 1
    clear RP hb R1 RO R Z2 B2 o1 o2 o3 o4
    go_wp2_with fail
    refine bodyPost_ret (v := .agg #[.bool true, .slice A1 k1 c1]) (by simp [results, Tryz.results42, go_sem, z0, z1]) rfl ⟨A1, k1, c1, rfl, HR.out, ?_⟩
    exact (B3.setCell (by simp) _).setCell (by simp) _
end Go.Proofs.YtfceoehfellpgaaGreatDoor
namespace Corr
set_option maxRecDepth 8000
open Go Go.RowKit

/-- A row of n places in a block of its own, which may be written. -/
structure QR (w : World) (G n : Nat) (qs : List Nat) : Prop where
  len : qs.length = n
  lt : G < w.heap.size
  cell : ∀ (i x : Nat), qs[i]? = some x → w.cell? ⟨G, i, none⟩ = some (.int .i64 (x : Int))
  fr : ∀ i, w.frozen? ⟨G, i, none⟩ = false
theorem QR.keep {w w' : World} {G n : Nat} {qs : List Nat} (h : QR w G n qs) (hb : Below w.heap.size w w') : QR w' G n qs :=
  ⟨h.len, Nat.lt_of_lt_of_le h.lt hb.size, fun i x hx => (hb.cell (p := ⟨G, i, none⟩) h.lt).trans (h.cell i x hx), fun i => (hb.frozen (p := ⟨G, i, none⟩) h.lt).trans (h.fr i)⟩
theorem QR.drew {w : World} {G n : Nat} {qs : List Nat} (h : QR w G n qs) : QR w.drew G n qs := h.keep ((Below.refl _ _).drew)
theorem QR.alloc {w : World} {G n : Nat} {qs : List Nat} (h : QR w G n qs) (o : Obj) : QR (w.alloc o) G n qs := h.keep ((Below.refl _ _).alloc (Nat.le_refl _) _)
theorem QR.far {w : World} {G n g : Nat} {qs : List Nat} (h : QR w G n qs) (hg : G ≠ g) (a b : Value) : QR ((w.setCell ⟨g, 0, none⟩ a).setCell ⟨g, 1, none⟩ b) G n qs := by
  refine ⟨h.len, by simp [go_sem]; exact h.lt, fun i x hx => ?_, fun i => ?_⟩
  · have := h.cell i x hx
    simp [go_sem, this]
  · have := h.fr i
    simp [go_sem, this]
theorem QR.set {w : World} {G n j y : Nat} {qs : List Nat} (h : QR w G n qs) (hj : j < n) : QR (w.setCell ⟨G, j, none⟩ (.int .i64 (y : Int))) G n (qs.set j y) := by
  have hjl : j < qs.length := by rw [h.len]; exact hj
  have h0 := h.cell j _ (List.getElem?_eq_getElem hjl)
  refine ⟨by rw [List.length_set, h.len], by simp [go_sem]; exact h.lt, fun i x hx => ?_, fun i => ?_⟩
  · by_cases e : i = j
    · subst e
      rw [List.getElem?_set_self hjl] at hx
      have : y = x := by simpa using hx
      subst this
      simp [go_sem, h0]
    · rw [List.getElem?_set_ne (by omega)] at hx
      have := h.cell i x hx
      simp [go_sem, this]
  · have := h.fr i
    simp [go_sem, this]
theorem QR.row {w : World} {G n : Nat} {qs : List Nat} (h : QR w G n qs) : Row w (some ⟨G, 0, none⟩) n n qs :=
  ⟨h.len, Nat.le_refl _, fun _ => ⟨G, 0, rfl, h.lt, fun i x hx => by rw [Nat.zero_add]; exact h.cell i x hx⟩⟩
theorem QR.of_own {w : World} {base G n : Nat} {e : TypeId} {qs : List Nat} (h : w.ownsRow base e 1 (.slice (some ⟨G, 0, none⟩) n n) n (qs.map encN)) : QR w G n qs := by
  have hl : qs.length = n := by have := h.1; rw [List.length_map, Nat.mul_one] at this; exact this
  refine ⟨hl, ?_, fun i x hx => ?_, fun i => h.frozenAt i⟩
  · obtain ⟨_, h' | ⟨g', cap', cur, hv, _, hh, _⟩⟩ := h
    · cases h'.1
    · injection hv with e1 _ _
      injection e1 with e1
      injection e1 with e1 _ _
      subst e1
      exact (Array.getElem?_eq_some_iff.1 hh).1
  · have hi : i < qs.length := (List.getElem?_eq_some_iff.1 hx).1
    rw [h.cellAt i (by omega), List.getElem?_map, hx]
    rfl
theorem Box2.ne_q {w : World} {k : Nat} {a b : Value} {G : Nat} (h : Box2 w k a b) (hG : k ≠ G) (j : Nat) (v : Value) : Box2 (w.setCell ⟨G, j, none⟩ v) k a b := by
  obtain ⟨T, h⟩ := h.blk
  exact ⟨T, by rw [Below.heap_setCell _ _ _ _ hG]; exact h⟩
end Corr

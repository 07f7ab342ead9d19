/- The contract of corrodyref01.Mul. -/
import Derived.Test.YtmccmgplgdmjbaaGreatDoorRef6
namespace Corr
set_option maxRecDepth 8000
open Go Go.RowKit
theorem dv_set : ∀ (os : List Nat) (i x d : Nat), os[i]? = some x → dv (os.set i d) + 1000 ^ i * x = dv os + 1000 ^ i * d
  | [], _, _, _, h => by simp at h
  | y :: r, 0, x, d, h => by
    have : y = x := by simpa using h
    subst this
    simp only [List.set_cons_zero, dv, Nat.pow_zero, Nat.one_mul]; omega
  | y :: r, i + 1, x, d, h => by
    have ih := dv_set r i x d (by simpa using h)
    simp only [List.set_cons_succ, dv, Nat.pow_succ]
    have e1 : 1000 ^ i * 1000 * x = 1000 * (1000 ^ i * x) := by rw [Nat.mul_comm (1000 ^ i) 1000, Nat.mul_assoc]
    have e2 : 1000 ^ i * 1000 * d = 1000 * (1000 ^ i * d) := by rw [Nat.mul_comm (1000 ^ i) 1000, Nat.mul_assoc]
    omega
theorem dv_zeros (n : Nat) : dv (List.replicate n 0) = 0 := by
  induction n with
  | zero => rfl
  | succ n ih => rw [List.replicate_succ]; simp [dv, ih]
/-- One place of the carrying. -/
theorem carry_step {o c p V x : Nat} (h : o + p * c = V) (o' : Nat) (ho : o' + p * x = o + p * ((c + x) % 1000)) : o' + p * 1000 * ((c + x) / 1000) = V := by
  have h1 := Nat.div_add_mod (c + x) 1000
  have h2 : p * (1000 * ((c + x) / 1000) + (c + x) % 1000) = p * (c + x) := by rw [h1]
  rw [Nat.mul_add, ← Nat.mul_assoc, Nat.mul_add] at h2
  omega
theorem set_lt {os : List Nat} {i d : Nat} (h : ∀ x ∈ os, x < 1000) (hd : d < 1000) : ∀ x ∈ os.set i d, x < 1000 := by
  intro x hx
  rcases List.mem_or_eq_of_mem_set hx with h1 | h1
  · exact h x h1
  · omega
theorem dv_take_le (xs : List Nat) (i : Nat) : dv (xs.take i) ≤ dv xs := by
  have h := dv_append (xs.take i) (xs.drop i)
  rw [List.take_append_drop] at h
  omega
/-- What is carried never leaves the row. -/
theorem in_row {p n c V : Nat} (hc : 0 < c) (h : 1000 ^ p * c ≤ V) (hV : V < 1000 ^ n) : p < n := by
  rcases Nat.lt_or_ge p n with h1 | h1
  · exact h1
  · have h2 : 1000 ^ n ≤ 1000 ^ p := Nat.pow_le_pow_right (by omega) h1
    have h3 : 1000 ^ p * 1 ≤ 1000 ^ p * c := Nat.mul_le_mul_left _ hc
    omega
theorem made_zeros (N : Nat) : (madeCells #[Value.int .i64 0] N).toList = (List.replicate N 0).map encN := by
  rw [toList_madeCells_one, List.map_replicate]; rfl
/-- The row that Mul fills: its places, its worth. -/
structure MulSt (W3 wr : World) (G N : Nat) (os : List Nat) (c V : Nat) : Prop where
  own : wr.ownsRow G 3 1 (.slice (some ⟨G, 0, none⟩) N N) N (os.map encN)
  lt : ∀ x ∈ os, x < 1000
  len : os.length = N
  worth : dv os + c = V
  below : Below G W3 wr
theorem MulSt.drewN {W3 wr : World} {G N c V : Nat} {os : List Nat} (h : MulSt W3 wr G N os c V) (q : Nat) : MulSt W3 (wr.drewN q) G N os c V :=
  ⟨h.own, h.lt, h.len, h.worth, h.below.trans (Joins.below_draws _ _ q)⟩
theorem mul_bound {xs ys : List Nat} {i j x y n m : Nat} (hx : xs[i]? = some x) (hy : ys[j]? = some y) (dx : ∀ z ∈ xs, z < 1000) (dy : ∀ z ∈ ys, z < 1000) (hn : xs.length = n) (hm : ys.length = m) :
    dv (xs.take i) * dv ys + 1000 ^ i * x * dv (ys.take j) + 1000 ^ (i + j) * (x * y) < 1000 ^ (n + m) := by
  have h1 : 1000 ^ (i + j) * (x * y) = 1000 ^ i * x * (1000 ^ j * y) := by rw [Nat.pow_add, Nat.mul_mul_mul_comm]
  have h2 : dv (ys.take j) + 1000 ^ j * y ≤ dv ys := by rw [← dv_take hy]; exact dv_take_le ys (j + 1)
  have h3 : dv (xs.take i) + 1000 ^ i * x ≤ dv xs := by rw [← dv_take hx]; exact dv_take_le xs (i + 1)
  have h4 : 1000 ^ i * x * (dv (ys.take j) + 1000 ^ j * y) ≤ 1000 ^ i * x * dv ys := Nat.mul_le_mul_left _ h2
  have h5 : (dv (xs.take i) + 1000 ^ i * x) * dv ys ≤ dv xs * dv ys := Nat.mul_le_mul_right _ h3
  have h6 : dv xs < 1000 ^ n := by have := dv_lt dx; rwa [hn] at this
  have h7 : dv ys < 1000 ^ m := by have := dv_lt dy; rwa [hm] at this
  have h8 : dv xs * dv ys < 1000 ^ n * 1000 ^ m := Nat.mul_lt_mul'' h6 h7
  rw [Nat.mul_add] at h4
  rw [Nat.add_mul] at h5
  rw [h1, Nat.pow_add]
  omega
theorem mul_next {V0 p x y d k : Nat} : V0 + p * x * d + p * k * (x * y) = V0 + p * x * (d + k * y) := by
  rw [Nat.mul_add, Nat.mul_mul_mul_comm]; omega
end Corr
namespace Go.Proofs.YtmccmgplgdmjbaaGreatDoor
set_option maxRecDepth 8000
open Go.RowKit Corr
set_option linter.unusedVariables false
theorem val_mul2 (s s' : Bool) (a b : Nat) : val s a * val s' b = val (s != s') (a * b) := by
  cases s <;> cases s' <;> simp [val, Int.neg_mul, Int.mul_neg]

set_option maxHeartbeats 4000000 in
theorem nmul_any (s s' : Bool) (A B : Option Addr) (n m ca cb a b : Nat) (z : Int) (w : World) (hx : Row w A n ca (digs a)) (hy : Row w B m cb (digs b)) (hn : n ≤ 2000) (hm : m ≤ 2000) (hz : val s a * val s' b = z) :
    Calls Tryz.prog 33 #[.agg #[.bool s, .slice A n ca], .agg #[.bool s', .slice B m cb]] w (RetN w (negB z) (digs z.natAbs)) := by
  obtain ⟨i0, hi, hz0, hz1, hz2⟩ := info_parts info_int
  have hzz : val (s != s') (a * b) = z := by rw [← hz, val_mul2]
  generalize hbb : negB z = bb
  generalize hza : z.natAbs = za
  have HBB := Lib.hid (show nzB (!s == s') (dv (digs a) * dv (digs b)) = bb by rw [show (!s == s') = (s != s') by cases s <;> cases s' <;> rfl, dv_digs, dv_digs, sgn_neg, hzz, hbb])
  have HZA := Lib.hid (show dv (digs a) * dv (digs b) = za by rw [dv_digs, dv_digs, ← hza, ← hzz, natAbs_val])
  clear hbb hza hz hzz
  have X0 := ((Box2.new w (.bool s) (.slice A n ca) 35).alloc (.cells #[.bool s', .slice B m cb] 35)).alloc (.cells #[.bool false, .slice none 0 0] 35)
  have Y0 := (Box2.new (w.alloc (.cells #[.bool s, .slice A n ca] 35)) (.bool s') (.slice B m cb) 35).alloc (.cells #[.bool false, .slice none 0 0] 35)
  have Z0 := Box2.new ((w.alloc (.cells #[.bool s, .slice A n ca] 35)).alloc (.cells #[.bool s', .slice B m cb] 35)) (.bool false) (.slice none 0 0) 35
  rw [size_alloc] at Y0
  rw [size_alloc, size_alloc] at Z0
  have BW : Below w.heap.size w (((w.alloc (.cells #[.bool s, .slice A n ca] 35)).alloc (.cells #[.bool s', .slice B m cb] 35)).alloc (.cells #[.bool false, .slice none 0 0] 35)) := (((Below.refl _ _).alloc (Nat.le_refl _) _).alloc (by simp) _).alloc (by simp; omega) _
  have hX := hx.keep BW
  have hY := hy.keep BW
  have s3 : (((w.alloc (.cells #[.bool s, .slice A n ca] 35)).alloc (.cells #[.bool s', .slice B m cb] 35)).alloc (.cells #[.bool false, .slice none 0 0] 35)).heap.size = w.heap.size + 1 + 1 + 1 := by simp
  have HS3 := Lib.hid s3
  clear s3
  go_enter Tryz.func33, Tryz.ntmps33
  go_wp2_with (at_make; refine wpList_make_full _ rfl _ _ 33 rfl (w.heap.size + 1 + 1 + 1) 3 i0 (.int .i64 0) 1 Tryz.underlying33 hi hz0 hz1 .i64 .i64 _ _ (n + m + 1) rfl rfl ?_ ?_ ?_ ?_ ?_ ?_)
  · omega
  · omega
  · rw [hz2]; omega
  · unfold maxLen; omega
  · simp
  intro w4 hown4 hgrow4
  have M4 : MulSt (((w.alloc (.cells #[.bool s, .slice A n ca] 35)).alloc (.cells #[.bool s', .slice B m cb] 35)).alloc (.cells #[.bool false, .slice none 0 0] 35)) w4 (w.heap.size + 1 + 1 + 1) (n + m + 1) (List.replicate (n + m + 1) 0) 0 0 :=
    ⟨by rw [made_zeros] at hown4; exact hown4, (fun x hx => by have := List.eq_of_mem_replicate hx; omega), by simp, by rw [dv_zeros], (Below.refl _ _).grown hgrow4 (by simp) (by intro k hk; cases hk)⟩
  clear hown4 hgrow4
  generalize (((w.alloc (.cells #[.bool s, .slice A n ca] 35)).alloc (.cells #[.bool s', .slice B m cb] 35)).alloc (.cells #[.bool false, .slice none 0 0] 35)) = W3 at *
  have HX1 := Lib.hid (digs_lt a)
  have HY1 := Lib.hid (digs_lt b)
  have HNL := Lib.hid hx.len
  have HML := Lib.hid hy.len
  go_wp2_with fail
  go_loopw [6] (fun t wr => ∃ (i : Nat) (os : List Nat), t = .int .i64 (i : Int) ∧ i ≤ n ∧ MulSt W3 wr (w.heap.size + 1 + 1 + 1) (n + m + 1) os 0 (dv ((digs a).take i) * dv (digs b))) (fun t _ => n - (intOf t).toNat)
  case atStart => exact ⟨0, _, rfl, Nat.zero_le _, by simpa [dv] using M4⟩
  case round =>
    obtain ⟨i, os, rfl, hin, M⟩ := hrel
    clear M4
    have hbW : Below W3.heap.size W3 wr := by rw [HS3.out]; exact M.below
    have Xr := X0.keep hbW
    have Yr := Y0.keep hbW
    have x0 := Xr.c0; have x1 := Xr.c1; have y0 := Yr.c0; have y1 := Yr.c1
    by_cases hlt : i < n
    · obtain ⟨ga, oa, x, hA, hxk, hxl, hxc⟩ := hx.get HX1.out hlt
      subst hA
      have HXK := Lib.hid hxk
      have HXC := Lib.hid hxc
      clear hxk hxc
      go_wp2_with fail
      obtain ⟨wo, rfl⟩ : ∃ wo : World, wo = wr := ⟨_, rfl⟩
      go_loopw [7] (fun t wq => ∃ (j : Nat) (os : List Nat), t = .int .i64 (j : Int) ∧ j ≤ m ∧ MulSt W3 wq (w.heap.size + 1 + 1 + 1) (n + m + 1) os 0 (dv ((digs a).take i) * dv (digs b) + 1000 ^ i * x * dv ((digs b).take j))) (fun t _ => m - (intOf t).toNat)
      case atStart => exact ⟨0, _, rfl, Nat.zero_le _, by simpa [dv] using M⟩
      case round =>
        obtain ⟨j, os2, rfl, hjm, M2⟩ := hrel
        clear M Xr Yr x0 x1 y0 y1 hbW
        have hbW : Below W3.heap.size W3 wr := by rw [HS3.out]; exact M2.below
        have BQ : Below w.heap.size w wr := BW.trans (hbW.mono (by rw [HS3.out]; omega))
        have Xr := X0.keep hbW
        have Yr := Y0.keep hbW
        have x0 := Xr.c0; have x1 := Xr.c1; have y0 := Yr.c0; have y1 := Yr.c1
        by_cases hlt2 : j < m
        · obtain ⟨gb, ob, y, hB, hyk, hyl, hyc⟩ := hy.get HY1.out hlt2
          subst hB
          have cx := HXC.out wr BQ
          have cy := hyc wr BQ
          have HYK := Lib.hid hyk
          clear hyk hyc
          obtain ⟨P, hP⟩ : ∃ P, x * y = P := ⟨_, rfl⟩
          have P1 : P ≤ 998001 := by rw [← hP]; exact Nat.mul_le_mul (show x ≤ 999 by omega) (show y ≤ 999 by omega)
          have HP := Lib.hid hP
          clear hP
          have HW := Lib.hid (show wrap64 ((x : Int) * (y : Int)) = (P : Int) by
            rw [show (x : Int) * (y : Int) = ((x * y : Nat) : Int) by simp, HP.out]; unfold wrap64; omega)
          obtain ⟨V3, hV3⟩ : ∃ V3, dv ((digs a).take i) * dv (digs b) + 1000 ^ i * x * dv ((digs b).take j) + 1000 ^ (i + j) * P = V3 := ⟨_, rfl⟩
          have HV3 := Lib.hid hV3
          have HVB := Lib.hid (show V3 < 1000 ^ (n + m) by
            rw [← hV3, ← HP.out]; exact mul_bound HXK.out HYK.out HX1.out HY1.out HNL.out HML.out)
          have HVN := Lib.hid (show dv ((digs a).take i) * dv (digs b) + 1000 ^ i * x * dv ((digs b).take (j + 1)) = V3 by
            rw [← hV3, ← HP.out, dv_take HYK.out, Nat.pow_add]; exact mul_next.symm)
          clear hV3
          have i1 : (i : Int) < (n : Int) := by omega
          have i2 : (0 : Int) ≤ (i : Int) := by omega
          have j1 : (j : Int) < (m : Int) := by omega
          have j2 : (0 : Int) ≤ (j : Int) := by omega
          go_upto_region 9 with fail
          go_quiet (fail)
          simp only [HW.out]
          have HM2 := Lib.hid (show ∀ q, MulSt W3 (wr.drewN q) (w.heap.size + 1 + 1 + 1) (n + m + 1) os2 (1000 ^ (i + j) * P) V3 from fun q => by
            have h := M2.drewN q
            exact ⟨h.own, h.lt, h.len, by have := h.worth; have := HV3.out; omega, h.below⟩)
          clear M2 cx cy x0 x1 y0 y1 Xr Yr hbW BQ
          go_wp2_with fail
          obtain ⟨wi, rfl⟩ : ∃ wi : World, wi = wr := ⟨_, rfl⟩
          go_loopw [8, 9] (fun t c wv => ∃ (p k : Nat) (os : List Nat), t = .int .i64 (p : Int) ∧ c = .int .i64 (k : Int) ∧ k ≤ 998001 ∧ p ≤ n + m ∧ MulSt W3 wv (w.heap.size + 1 + 1 + 1) (n + m + 1) os (1000 ^ p * k) V3) (fun t _ _ => n + m - (intOf t).toNat)
          case atStart => exact ⟨i + j, P, os2, val_int (by omega), rfl, P1, by omega, HM2.out _⟩
          case round =>
            obtain ⟨p, k, os3, rfl, rfl, hk1, hp1, M3⟩ := hrel
            clear HM2
            by_cases hk : 0 < k
            · have hp : p < n + m := in_row hk (by have := M3.worth; omega) HVB.out
              have hpl : p < os3.length := by rw [M3.len]; omega
              obtain ⟨o, ho⟩ : ∃ o, os3[p]? = some o := ⟨_, List.getElem?_eq_getElem hpl⟩
              have o1 : o < 1000 := M3.lt o (List.mem_of_getElem? ho)
              have co : wr.cell? ⟨w.heap.size + 1 + 1 + 1, p, none⟩ = some (.int .i64 (o : Int)) := by
                rw [M3.own.cellAt p (by omega), List.getElem?_map, ho]; rfl
              have fo := M3.own.frozenAt p
              have HNX := Lib.hid (show MulSt W3 (wr.setCell ⟨w.heap.size + 1 + 1 + 1, p, none⟩ (.int .i64 (((k : Int) + (o : Int)) % 1000))) (w.heap.size + 1 + 1 + 1) (n + m + 1) (os3.set p ((k + o) % 1000)) (1000 ^ (p + 1) * ((k + o) / 1000)) V3 from by
                have hst := M3.own.stored p (.int .i64 (((k : Int) + (o : Int)) % 1000))
                refine ⟨?_, set_lt M3.lt (Nat.mod_lt _ (by omega)), by rw [List.length_set, M3.len], ?_, M3.below.setCell (Nat.le_refl _) _⟩
                · have h1 := hst.1
                  rw [show (.int .i64 (((k : Int) + (o : Int)) % 1000) : Value) = encN ((k + o) % 1000) by unfold encN; exact val_int (by omega), ← List.map_set] at h1
                  rw [show (.int .i64 (((k : Int) + (o : Int)) % 1000) : Value) = encN ((k + o) % 1000) by unfold encN; exact val_int (by omega)]
                  exact h1
                · rw [Nat.pow_succ]
                  exact carry_step M3.worth _ (dv_set os3 p o _ ho))
              clear M3 ho hpl
              go_wp2_with fail
              go_roundw
              case rel => exact ⟨p + 1, (k + o) / 1000, _, by go_num, val_int (by omega), by omega, by omega, HNX.out⟩
              case measure => simp [intOf]; omega
            · have HM3 := Lib.hid (show MulSt W3 wr (w.heap.size + 1 + 1 + 1) (n + m + 1) os3 0 (dv ((digs a).take i) * dv (digs b) + 1000 ^ i * x * dv ((digs b).take (j + 1))) from by
                rw [HVN.out]
                exact ⟨M3.own, M3.lt, M3.len, by have := M3.worth; rw [show k = 0 by omega, Nat.mul_zero] at this; exact this, M3.below⟩)
              clear M3
              go_wp2_with fail
              go_roundw
              case rel => exact ⟨j + 1, os3, by go_num, by omega, HM3.out⟩
              case measure => simp [intOf]; omega
        · have HM3 := Lib.hid (show MulSt W3 wr (w.heap.size + 1 + 1 + 1) (n + m + 1) os2 0 (dv ((digs a).take (i + 1)) * dv (digs b)) from by
            have h := M2.worth
            rw [List.take_of_length_le (l := digs b) (by rw [HML.out]; omega)] at h
            exact ⟨M2.own, M2.lt, M2.len, by rw [h, dv_take HXK.out, Nat.add_mul], M2.below⟩)
          clear M2
          go_wp2_with fail
          go_roundw
          case rel => exact ⟨i + 1, os2, by go_num, by omega, HM3.out⟩
          case measure => simp [intOf]; omega
    · have hl : os.length = n + m + 1 := M.len
      obtain ⟨A', c', hv, R⟩ := Row.of_own (xs := os) (by rw [hl]; exact M.own)
      have hl2 : os.length ≤ 100000 := by omega
      have HW := Lib.hid (show dv os = dv (digs a) * dv (digs b) by
        have h := M.worth
        rw [List.take_of_length_le (by rw [HNL.out]; omega)] at h
        omega)
      have HLT := Lib.hid M.lt
      rw [hl] at hv R
      injection hv with e1 _ e2
      subst e1 e2
      have Zr := Z0.keep hbW
      have BQ : Below w.heap.size w wr := BW.trans (hbW.mono (by rw [HS3.out]; omega))
      clear hbW M
      go_wp2_with fail
      refine (short_any _ _ _ _ _ _ R HLT.out (by omega)).mono ?_
      rintro e w5 ⟨A2, k2, c2, rfl, RB, hb5⟩
      rw [HW.out, HBB.out]
      rw [HW.out, HZA.out] at RB
      have ZB := Zr.keep hb5
      have BB : Below w.heap.size w w5 := BQ.trans (hb5.mono BQ.size)
      have z0 := ZB.c0; have z1 := ZB.c1; have z2 := ZB.f 0; have z3 := ZB.f 1
      have HR := Lib.hid (RB.far (ZB.ne_row (by intro k z h; cases h) RB) (.bool bb) (.slice A2 k2 c2))
      clear RB hb5
      go_wp2_with fail
      refine bodyPost_ret (v := .agg #[.bool bb, .slice A2 k2 c2]) (by simp [results, Tryz.results33, go_sem, z0, z1]) rfl ⟨A2, k2, c2, rfl, HR.out, ?_⟩
      exact (BB.setCell (by simp; omega) _).setCell (by simp; omega) _
end Go.Proofs.YtmccmgplgdmjbaaGreatDoor

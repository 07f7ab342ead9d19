/- Contracts of corrodyref02: Div, May. (Written by wip/gen/gendec5.py.) -/
import Derived.Test.YtgkogjlcecbfjaaDec4
namespace Corr
open Go Go.RowKit
theorem Mem.ne {w wr : World} {bs : List (Nat × Array Value)} {rs : List RowD} (S : Mem w wr bs rs) (i j : Nat) {k k' : Nat} {vs vs' : Array Value} (h : bs[i]? = some (k, vs)) (h' : bs[j]? = some (k', vs')) (hij : i < j) : k ≠ k' := by
  obtain ⟨hi, e1⟩ := List.getElem?_eq_some_iff.1 h
  obtain ⟨hj, e2⟩ := List.getElem?_eq_some_iff.1 h'
  have := List.pairwise_iff_getElem.1 S.nd i j hi hj hij
  rw [e1, e2] at this
  exact this
end Corr
namespace Go.Proofs.Ytgkogjlcecbfjaa
open Go.RowKit Corr
set_option linter.unusedVariables false
theorem ten_9 (w : World) : Calls Try.prog 30 #[.int .i64 9] w (RetN w false (digs (10 ^ 9))) := nten_any 9 w (by omega)
theorem nunits_w (b : Bool) (C : Int) (S : Nat) (z : Int) (w : World) (hC1 : -9223372036854775808 ≤ C) (hC2 : C ≤ 9223372036854775807) (hS : S ≤ 9) (hz : C * ((10 ^ (18 - S) : Nat) : Int) = z) (hb : negB z = b) :
    Calls Try.prog 78 #[.agg #[.int .i64 C, .int .i64 (S : Int)]] w (RetN w b (digs z.natAbs)) := by
  subst hb; exact nunits_any C S z w hC1 hC2 hS hz
theorem nneg_low (A : Option Addr) (n c : Nat) (z : Int) (w : World) (hx : Row w A n c (digs z.natAbs)) (hn : n ≤ 100000) (hb : negB z = true) :
    Calls Try.prog 15 #[.agg #[.bool true, .slice A n c]] w (RetN w false (digs z.natAbs)) := by
  have hz : z < 0 := of_decide_eq_true hb
  have h := nneg_any true A n c z.natAbs z w hx hn (by rw [← hb]; exact val_neg z)
  rw [Int.natAbs_neg, show negB (-z) = false from decide_eq_false (by omega)] at h
  exact h

set_option maxHeartbeats 4000000 in
theorem ndiv02_pos (C C' : Int) (S S' : Nat) (zx zy u : Int) (w : World) (hC1 : -9223372036854775808 ≤ C) (hC2 : C ≤ 9223372036854775807) (hS : S ≤ 9) (hC1' : -9223372036854775808 ≤ C') (hC2' : C' ≤ 9223372036854775807) (hS' : S' ≤ 9)
    (hzx : C * ((10 ^ (18 - S) : Nat) : Int) = zx) (hzy : C' * ((10 ^ (18 - S') : Nat) : Int) = zy) (hy0 : 0 < zy) (hu : evZ (zx * ((10 ^ 9 : Nat) : Int)) zy.natAbs = u) :
    Calls Try.prog 45 #[.agg #[.int .i64 C, .int .i64 (S : Int)], .agg #[.int .i64 C', .int .i64 (S' : Int)]] w fun e w' => e = .returned (.tuple #[.agg #[.int .i64 (mC u 9), .int .i64 (mS u 9 : Int)], .int .i64 (mE u 9)]) ∧ Below w.heap.size w w' := by
  have S0 := (((Mem.start w).push #[.int .i64 C, .int .i64 (S : Int)] 59).push #[.int .i64 C', .int .i64 (S' : Int)] 59).push #[.int .i64 0, .int .i64 0] 59
  simp only [size_alloc] at S0
  obtain ⟨c, hc⟩ : ∃ c, mC u 9 = c := ⟨_, rfl⟩
  obtain ⟨t, ht⟩ : ∃ t, mS u 9 = t := ⟨_, rfl⟩
  obtain ⟨e, he⟩ : ∃ e, mE u 9 = e := ⟨_, rfl⟩
  obtain ⟨bz, hbz⟩ : ∃ b, negB u = b := ⟨_, rfl⟩
  have HM := Lib.hid (And.intro hc (And.intro ht he))
  have hxa : zx.natAbs < 10 ^ 37 := units_lt hC1 hC2 hzx
  have hya : zy.natAbs < 10 ^ 37 := units_lt hC1' hC2' hzy
  have HXA := Lib.hid hxa; have HYA := Lib.hid hya
  have HX := Lib.hid hzx; have HY := Lib.hid hzy; have HBZ := Lib.hid hbz
  obtain ⟨z9, hz9⟩ : ∃ z, zx * ((10 ^ 9 : Nat) : Int) = z := ⟨_, rfl⟩
  have HZ9 := Lib.hid (show val (negB zx) zx.natAbs * val false (10 ^ 9) = z9 by rw [val_neg]; exact hz9)
  have HU := Lib.hid (show evZ (z9) zy.natAbs = u by rw [← hz9]; exact hu)
  have h9a : z9.natAbs < 10 ^ 46 := by
    rw [← hz9, Int.natAbs_mul, Int.natAbs_natCast, show (10 : Nat) ^ 46 = 10 ^ 37 * 10 ^ 9 by decide]
    exact Nat.mul_lt_mul_of_pos_right hxa (by decide)
  have HK9 := Lib.hid (show z9.natAbs < 1000 ^ 60 from Nat.lt_trans h9a (by decide))
  have HKU := Lib.hid (show u.natAbs < 1000 ^ 60 from Nat.lt_of_le_of_lt (by rw [← HU.out]; exact evZ_abs (z9) _ (by omega)) (by
    have h1 : (z9).natAbs + 1 < 10 ^ 46 + 1 := by omega
    exact Nat.lt_trans h1 (by decide)))
  have HBY := Lib.hid (show negB zy = false from decide_eq_false (by omega))
  clear hz9 h9a
  clear hc ht he hbz hzx hzy hu hxa hya
  rw [HM.out.1, HM.out.2.1, HM.out.2.2]
  go_enter Try.func45, Try.ntmps45
  go_upto_region 1 with fail
  refine wp_region_rel 8 (MemAt w (w.heap.size + 1 + 1 + 1) [(w.heap.size, #[.int .i64 C, .int .i64 (S : Int)]), (w.heap.size + 1, #[.int .i64 C', .int .i64 (S' : Int)]), (w.heap.size + 1 + 1, #[.int .i64 0, .int .i64 0])] [])
    (fun i => List.getD [VE (.agg #[.int .i64 C, .int .i64 (S : Int)]), VN (negB zx) (zx.natAbs), VN (false) (10 ^ 9), VN (negB z9) (z9.natAbs), VE (.agg #[.int .i64 C', .int .i64 (S' : Int)]), VN (false) (zy.natAbs), VA (w.heap.size + 1 + 1 + 1) #[.bool false, .slice none 0 0], VA (w.heap.size + 1 + 1 + 1) #[.bool false, .slice none 0 0]] i (fun _ _ => False)) [6, 7] [] (by kernel_rfl) (by kernel_rfl) ⟨S0.drew, by simp⟩ (fun _ _ h hb => h.grow hb)
    (stays_all (stays_cons (stays_VE _) (stays_cons (stays_VN _ _) (stays_cons (stays_VN _ _) (stays_cons (stays_VN _ _) (stays_cons (stays_VE _) (stays_cons (stays_VN _ _) (stays_cons (stays_VA _ _) (stays_cons (stays_VA _ _) stays_nil))))))))) ⟨?_, ?_, ?_, ?_, ?_, ?_, ?_, ?_, trivial⟩ ?_
  · intro ev wv hE hw hd
    refine ifw rfl (ifn rfl ?_)
    have v2 : ev (.tmp 2) = .pointer (some ⟨w.heap.size, 0, none⟩) := hE.tmp 2 rfl
    have kx := hw.m.c 0 0 rfl rfl
    have ky := hw.m.c 0 1 rfl rfl
    refine rel_val (u := .agg #[.int .i64 C, .int .i64 (S : Int)]) (w' := wv) ?_ (Below.refl _ _) ⟨rfl, fun h => by cases h⟩
    have e1 := hE.const; clear hE hd hw
    go_simp
  · intro ev wv hE hw hd
    refine ifw rfl (ifn rfl ?_)
    have v8 : ev (.tmp 8) = .agg #[.int .i64 C, .int .i64 (S : Int)] := hd 0 (by decide)
    refine rel_call (f := 78) (args := #[.agg #[.int .i64 C, .int .i64 (S : Int)]]) ?_ (nunits_any C S zx _ hC1 hC2 hS HX.out) ?_
    · have e0 := hE.func; have e1 := hE.const; clear hE hd hw
      go_simp
    · rintro e w' ⟨A, k, c, rfl, R, hb⟩
      exact ⟨_, rfl, hb, ⟨A, k, c, rfl, R⟩, fun h => by cases h⟩
  · intro ev wv hE hw hd
    refine ifw rfl (ifn rfl ?_)
    refine rel_call (f := 30) (args := #[.int .i64 9]) ?_ (ten_9 _) ?_
    · have e0 := hE.func; have e1 := hE.const; clear hE hd hw
      go_simp
    · rintro e w' ⟨A, k, c, rfl, R, hb⟩
      exact ⟨_, rfl, hb, ⟨A, k, c, rfl, R⟩, fun h => by cases h⟩
  · intro ev wv hE hw hd
    refine ifw rfl (ifn rfl ?_)
    obtain ⟨xA1, xk1, xc1, v9, xR1⟩ : VN (negB zx) (zx.natAbs) (ev (.tmp 9)) wv := hd 1 (by decide)
    obtain ⟨xA2, xk2, xc2, v10, xR2⟩ : VN (false) (10 ^ 9) (ev (.tmp 10)) wv := hd 2 (by decide)
    refine rel_call (f := 13) (args := #[.agg #[.bool (negB zx), .slice xA1 xk1 xc1], .agg #[.bool (false), .slice xA2 xk2 xc2]]) ?_ (nmul_any _ _ _ _ _ _ _ _ zx.natAbs (10 ^ 9) z9 _ xR1 xR2 (by have := row_le (k := 13) xR1 (Nat.lt_of_lt_of_le HXA.out (by decide)); omega) (by have := row_le (k := 60) xR2 (by decide); omega) HZ9.out) ?_
    · have e0 := hE.func; have e1 := hE.const; clear hE hd hw
      go_simp
    · rintro e w' ⟨A, k, c, rfl, R, hb⟩
      exact ⟨_, rfl, hb, ⟨A, k, c, rfl, R⟩, fun h => by cases h⟩
  · intro ev wv hE hw hd
    refine ifw rfl (ifn rfl ?_)
    have v3 : ev (.tmp 3) = .pointer (some ⟨w.heap.size + 1, 0, none⟩) := hE.tmp 3 rfl
    have kx := hw.m.c 1 0 rfl rfl
    have ky := hw.m.c 1 1 rfl rfl
    refine rel_val (u := .agg #[.int .i64 C', .int .i64 (S' : Int)]) (w' := wv) ?_ (Below.refl _ _) ⟨rfl, fun h => by cases h⟩
    have e1 := hE.const; clear hE hd hw
    go_simp
  · intro ev wv hE hw hd
    refine ifw rfl (ifn rfl ?_)
    have v12 : ev (.tmp 12) = .agg #[.int .i64 C', .int .i64 (S' : Int)] := hd 4 (by decide)
    refine rel_call (f := 78) (args := #[.agg #[.int .i64 C', .int .i64 (S' : Int)]]) ?_ (nunits_w false C' S' zy _ hC1' hC2' hS' HY.out HBY.out) ?_
    · have e0 := hE.func; have e1 := hE.const; clear hE hd hw
      go_simp
    · rintro e w' ⟨A, k, c, rfl, R, hb⟩
      exact ⟨_, rfl, hb, ⟨A, k, c, rfl, R⟩, fun h => by cases h⟩
  · intro ev wv hE hw hd
    refine ifw rfl (ifn rfl ?_)
    refine rel_val (u := .pointer (some ⟨wv.heap.size, 0, none⟩)) (w' := wv.alloc (.cells #[.bool false, .slice none 0 0] 27)) ?_ ((Below.refl _ _).alloc (Nat.le_refl _) _) ⟨⟨_, rfl, Blk.new _ _ _, hw.h⟩, fun _ => ⟨_, rfl, Nat.le_refl _, by simp⟩⟩
    clear hE hd hw
    go_simp
  · intro ev wv hE hw hd
    refine ifw rfl (ifn rfl ?_)
    refine rel_val (u := .pointer (some ⟨wv.heap.size, 0, none⟩)) (w' := wv.alloc (.cells #[.bool false, .slice none 0 0] 27)) ?_ ((Below.refl _ _).alloc (Nat.le_refl _) _) ⟨⟨_, rfl, Blk.new _ _ _, hw.h⟩, fun _ => ⟨_, rfl, Nat.le_refl _, by simp⟩⟩
    clear hE hd hw
    go_simp
  · intro w1 M1
    intro v0 h0 _ v1 h1 _ v2 h2 _ v3 h3 _ v4 h4 _ v5 h5 _ v6 h6 n6 v7 h7 n7
    simp only [Act.put, List.setIfInBounds_toArray, List.set_cons_zero, List.set_cons_succ, List.drop_succ_cons, List.drop_zero]
    obtain rfl : v0 = _ := h0
    obtain ⟨xA1, xk1, xc1, rfl, xR1⟩ : VN (negB zx) (zx.natAbs) v1 w1 := h1
    obtain ⟨xA2, xk2, xc2, rfl, xR2⟩ : VN (false) (10 ^ 9) v2 w1 := h2
    obtain ⟨xA3, xk3, xc3, rfl, xR3⟩ : VN (negB z9) (z9.natAbs) v3 w1 := h3
    obtain rfl : v4 = _ := h4
    obtain ⟨xA5, xk5, xc5, rfl, xR5⟩ : VN (false) (zy.natAbs) v5 w1 := h5
    obtain ⟨xg6, rfl, xB6, xl6⟩ : VA (w.heap.size + 1 + 1 + 1) #[.bool false, .slice none 0 0] v6 w1 := h6
    obtain ⟨xg7, rfl, xB7, xl7⟩ : VA (w.heap.size + 1 + 1 + 1) #[.bool false, .slice none 0 0] v7 w1 := h7
    change wpList Try.prog _ _ _ _ w1
    have n67 := ne_ptr (n7 rfl _ (List.mem_cons_self))
    have SF := (((M1.m.add xR3).add xR5).join2 S0 xB6 xB7 (by simpa using xl6) (by simpa using xl7) n67)
    have f0 := SF.c 3 0 rfl rfl; have f1 := SF.c 3 1 rfl rfl; have f2 := SF.f 3 0 rfl; have f3 := SF.f 3 1 rfl
    have f4 := SF.c 4 0 rfl rfl; have f5 := SF.c 4 1 rfl rfl; have f6 := SF.f 4 0 rfl; have f7 := SF.f 4 1 rfl
    have M2 : Mem w _ [(w.heap.size, #[.int .i64 C, .int .i64 (S : Int)]), (w.heap.size + 1, #[.int .i64 C', .int .i64 (S' : Int)]), (w.heap.size + 1 + 1, #[.int .i64 0, .int .i64 0]), (xg6, #[.bool (negB z9), .slice xA3 xk3 xc3]), (xg7, #[.bool false, .slice xA5 xk5 xc5])] [(xA3, xk3, xc3, digs z9.natAbs), (xA5, xk5, xc5, digs zy.natAbs)] := (SF.put2 3 rfl rfl (.bool (negB z9)) (.slice xA3 xk3 xc3) rfl).put2 4 rfl rfl (.bool false) (.slice xA5 xk5 xc5) rfl
    have hkx3 := row_le (k := 60) xR3 HK9.out
    have hkx5 := row_le (k := 60) xR5 (Nat.lt_trans HYA.out (by decide))
    clear SF xR1 xR2 xR3 xR5 M1 n6 n7 xB6 xB7 S0
    go_wp2_with fail
    refine calm_normal ?_
    generalize (((w1.setCell ⟨xg6, 0, none⟩ (.bool (negB z9))).setCell ⟨xg6, 1, none⟩ (.slice xA3 xk3 xc3)).setCell ⟨xg7, 0, none⟩ (.bool false)).setCell ⟨xg7, 1, none⟩ (.slice xA5 xk5 xc5) = w2 at *
    clear f0 f1 f2 f3 f4 f5 f6 f7
    have vv := M2.c 4 0 rfl rfl
    have ua := M2.c 3 0 rfl rfl; have ub := M2.c 3 1 rfl rfl; have va := M2.c 4 0 rfl rfl; have vb := M2.c 4 1 rfl rfl
    go_wp2_with fail
    refine (neven_z _ bz _ _ _ _ _ _ (z9) zy.natAbs u _ (M2.r 0 rfl) (M2.r 1 rfl) (by omega) (by omega) (by omega) rfl HU.out HBZ.out).mono ?_
    rintro e6 w6 ⟨A6, k6, c6, rfl, R6, hb⟩
    have S6 := (M2.keep hb).add R6
    have hk6 := row_le (k := 60) R6 HKU.out
    clear M2 hb ua ub va vb
    go_wp2_with fail
    refine (nmade_any _ _ _ _ 9 u _ R6 (by omega) (by omega) HBZ.out).mono ?_
    rintro e7 w7 ⟨rfl, hb⟩
    rw [HM.out.1, HM.out.2.1, HM.out.2.2]
    have S7 := (S6.keep hb).only
    have za := S7.c 2 0 rfl rfl; have zb := S7.c 2 1 rfl rfl; have zc := S7.f 2 0 rfl; have zd := S7.f 2 1 rfl
    have HF := Lib.hid (S7.put20 2 rfl (.int .i64 c) (.int .i64 (t : Int)))
    clear S6 S7 hb R6
    go_wp2_with fail
    exact bodyPost_ret (v := .tuple #[.agg #[.int .i64 c, .int .i64 (t : Int)], .int .i64 e]) (by simp [results, Try.results45, go_sem, za, zb]) rfl ⟨rfl, HF.out.bl⟩

set_option maxHeartbeats 4000000 in
theorem ndiv02_neg (C C' : Int) (S S' : Nat) (zx zy u : Int) (w : World) (hC1 : -9223372036854775808 ≤ C) (hC2 : C ≤ 9223372036854775807) (hS : S ≤ 9) (hC1' : -9223372036854775808 ≤ C') (hC2' : C' ≤ 9223372036854775807) (hS' : S' ≤ 9)
    (hzx : C * ((10 ^ (18 - S) : Nat) : Int) = zx) (hzy : C' * ((10 ^ (18 - S') : Nat) : Int) = zy) (hy0 : zy < 0) (hu : evZ (-(zx * ((10 ^ 9 : Nat) : Int))) zy.natAbs = u) :
    Calls Try.prog 45 #[.agg #[.int .i64 C, .int .i64 (S : Int)], .agg #[.int .i64 C', .int .i64 (S' : Int)]] w fun e w' => e = .returned (.tuple #[.agg #[.int .i64 (mC u 9), .int .i64 (mS u 9 : Int)], .int .i64 (mE u 9)]) ∧ Below w.heap.size w w' := by
  have S0 := (((Mem.start w).push #[.int .i64 C, .int .i64 (S : Int)] 59).push #[.int .i64 C', .int .i64 (S' : Int)] 59).push #[.int .i64 0, .int .i64 0] 59
  simp only [size_alloc] at S0
  obtain ⟨c, hc⟩ : ∃ c, mC u 9 = c := ⟨_, rfl⟩
  obtain ⟨t, ht⟩ : ∃ t, mS u 9 = t := ⟨_, rfl⟩
  obtain ⟨e, he⟩ : ∃ e, mE u 9 = e := ⟨_, rfl⟩
  obtain ⟨bz, hbz⟩ : ∃ b, negB u = b := ⟨_, rfl⟩
  have HM := Lib.hid (And.intro hc (And.intro ht he))
  have hxa : zx.natAbs < 10 ^ 37 := units_lt hC1 hC2 hzx
  have hya : zy.natAbs < 10 ^ 37 := units_lt hC1' hC2' hzy
  have HXA := Lib.hid hxa; have HYA := Lib.hid hya
  have HX := Lib.hid hzx; have HY := Lib.hid hzy; have HBZ := Lib.hid hbz
  obtain ⟨z9, hz9⟩ : ∃ z, zx * ((10 ^ 9 : Nat) : Int) = z := ⟨_, rfl⟩
  have HZ9 := Lib.hid (show val (negB zx) zx.natAbs * val false (10 ^ 9) = z9 by rw [val_neg]; exact hz9)
  have HU := Lib.hid (show evZ (-z9) zy.natAbs = u by rw [← hz9]; exact hu)
  have h9a : z9.natAbs < 10 ^ 46 := by
    rw [← hz9, Int.natAbs_mul, Int.natAbs_natCast, show (10 : Nat) ^ 46 = 10 ^ 37 * 10 ^ 9 by decide]
    exact Nat.mul_lt_mul_of_pos_right hxa (by decide)
  have HK9 := Lib.hid (show z9.natAbs < 1000 ^ 60 from Nat.lt_trans h9a (by decide))
  have HKU := Lib.hid (show u.natAbs < 1000 ^ 60 from Nat.lt_of_le_of_lt (by rw [← HU.out]; exact evZ_abs (-z9) _ (by omega)) (by
    have h1 : (-z9).natAbs + 1 < 10 ^ 46 + 1 := by omega
    exact Nat.lt_trans h1 (by decide)))
  have HBY := Lib.hid (show negB zy = true from decide_eq_true hy0)
  clear hz9 h9a
  clear hc ht he hbz hzx hzy hu hxa hya
  rw [HM.out.1, HM.out.2.1, HM.out.2.2]
  go_enter Try.func45, Try.ntmps45
  go_upto_region 1 with fail
  refine wp_region_rel 8 (MemAt w (w.heap.size + 1 + 1 + 1) [(w.heap.size, #[.int .i64 C, .int .i64 (S : Int)]), (w.heap.size + 1, #[.int .i64 C', .int .i64 (S' : Int)]), (w.heap.size + 1 + 1, #[.int .i64 0, .int .i64 0])] [])
    (fun i => List.getD [VE (.agg #[.int .i64 C, .int .i64 (S : Int)]), VN (negB zx) (zx.natAbs), VN (false) (10 ^ 9), VN (negB z9) (z9.natAbs), VE (.agg #[.int .i64 C', .int .i64 (S' : Int)]), VN (true) (zy.natAbs), VA (w.heap.size + 1 + 1 + 1) #[.bool false, .slice none 0 0], VA (w.heap.size + 1 + 1 + 1) #[.bool false, .slice none 0 0]] i (fun _ _ => False)) [6, 7] [] (by kernel_rfl) (by kernel_rfl) ⟨S0.drew, by simp⟩ (fun _ _ h hb => h.grow hb)
    (stays_all (stays_cons (stays_VE _) (stays_cons (stays_VN _ _) (stays_cons (stays_VN _ _) (stays_cons (stays_VN _ _) (stays_cons (stays_VE _) (stays_cons (stays_VN _ _) (stays_cons (stays_VA _ _) (stays_cons (stays_VA _ _) stays_nil))))))))) ⟨?_, ?_, ?_, ?_, ?_, ?_, ?_, ?_, trivial⟩ ?_
  · intro ev wv hE hw hd
    refine ifw rfl (ifn rfl ?_)
    have v2 : ev (.tmp 2) = .pointer (some ⟨w.heap.size, 0, none⟩) := hE.tmp 2 rfl
    have kx := hw.m.c 0 0 rfl rfl
    have ky := hw.m.c 0 1 rfl rfl
    refine rel_val (u := .agg #[.int .i64 C, .int .i64 (S : Int)]) (w' := wv) ?_ (Below.refl _ _) ⟨rfl, fun h => by cases h⟩
    have e1 := hE.const; clear hE hd hw
    go_simp
  · intro ev wv hE hw hd
    refine ifw rfl (ifn rfl ?_)
    have v8 : ev (.tmp 8) = .agg #[.int .i64 C, .int .i64 (S : Int)] := hd 0 (by decide)
    refine rel_call (f := 78) (args := #[.agg #[.int .i64 C, .int .i64 (S : Int)]]) ?_ (nunits_any C S zx _ hC1 hC2 hS HX.out) ?_
    · have e0 := hE.func; have e1 := hE.const; clear hE hd hw
      go_simp
    · rintro e w' ⟨A, k, c, rfl, R, hb⟩
      exact ⟨_, rfl, hb, ⟨A, k, c, rfl, R⟩, fun h => by cases h⟩
  · intro ev wv hE hw hd
    refine ifw rfl (ifn rfl ?_)
    refine rel_call (f := 30) (args := #[.int .i64 9]) ?_ (ten_9 _) ?_
    · have e0 := hE.func; have e1 := hE.const; clear hE hd hw
      go_simp
    · rintro e w' ⟨A, k, c, rfl, R, hb⟩
      exact ⟨_, rfl, hb, ⟨A, k, c, rfl, R⟩, fun h => by cases h⟩
  · intro ev wv hE hw hd
    refine ifw rfl (ifn rfl ?_)
    obtain ⟨xA1, xk1, xc1, v9, xR1⟩ : VN (negB zx) (zx.natAbs) (ev (.tmp 9)) wv := hd 1 (by decide)
    obtain ⟨xA2, xk2, xc2, v10, xR2⟩ : VN (false) (10 ^ 9) (ev (.tmp 10)) wv := hd 2 (by decide)
    refine rel_call (f := 13) (args := #[.agg #[.bool (negB zx), .slice xA1 xk1 xc1], .agg #[.bool (false), .slice xA2 xk2 xc2]]) ?_ (nmul_any _ _ _ _ _ _ _ _ zx.natAbs (10 ^ 9) z9 _ xR1 xR2 (by have := row_le (k := 13) xR1 (Nat.lt_of_lt_of_le HXA.out (by decide)); omega) (by have := row_le (k := 60) xR2 (by decide); omega) HZ9.out) ?_
    · have e0 := hE.func; have e1 := hE.const; clear hE hd hw
      go_simp
    · rintro e w' ⟨A, k, c, rfl, R, hb⟩
      exact ⟨_, rfl, hb, ⟨A, k, c, rfl, R⟩, fun h => by cases h⟩
  · intro ev wv hE hw hd
    refine ifw rfl (ifn rfl ?_)
    have v3 : ev (.tmp 3) = .pointer (some ⟨w.heap.size + 1, 0, none⟩) := hE.tmp 3 rfl
    have kx := hw.m.c 1 0 rfl rfl
    have ky := hw.m.c 1 1 rfl rfl
    refine rel_val (u := .agg #[.int .i64 C', .int .i64 (S' : Int)]) (w' := wv) ?_ (Below.refl _ _) ⟨rfl, fun h => by cases h⟩
    have e1 := hE.const; clear hE hd hw
    go_simp
  · intro ev wv hE hw hd
    refine ifw rfl (ifn rfl ?_)
    have v12 : ev (.tmp 12) = .agg #[.int .i64 C', .int .i64 (S' : Int)] := hd 4 (by decide)
    refine rel_call (f := 78) (args := #[.agg #[.int .i64 C', .int .i64 (S' : Int)]]) ?_ (nunits_w true C' S' zy _ hC1' hC2' hS' HY.out HBY.out) ?_
    · have e0 := hE.func; have e1 := hE.const; clear hE hd hw
      go_simp
    · rintro e w' ⟨A, k, c, rfl, R, hb⟩
      exact ⟨_, rfl, hb, ⟨A, k, c, rfl, R⟩, fun h => by cases h⟩
  · intro ev wv hE hw hd
    refine ifw rfl (ifn rfl ?_)
    refine rel_val (u := .pointer (some ⟨wv.heap.size, 0, none⟩)) (w' := wv.alloc (.cells #[.bool false, .slice none 0 0] 27)) ?_ ((Below.refl _ _).alloc (Nat.le_refl _) _) ⟨⟨_, rfl, Blk.new _ _ _, hw.h⟩, fun _ => ⟨_, rfl, Nat.le_refl _, by simp⟩⟩
    clear hE hd hw
    go_simp
  · intro ev wv hE hw hd
    refine ifw rfl (ifn rfl ?_)
    refine rel_val (u := .pointer (some ⟨wv.heap.size, 0, none⟩)) (w' := wv.alloc (.cells #[.bool false, .slice none 0 0] 27)) ?_ ((Below.refl _ _).alloc (Nat.le_refl _) _) ⟨⟨_, rfl, Blk.new _ _ _, hw.h⟩, fun _ => ⟨_, rfl, Nat.le_refl _, by simp⟩⟩
    clear hE hd hw
    go_simp
  · intro w1 M1
    intro v0 h0 _ v1 h1 _ v2 h2 _ v3 h3 _ v4 h4 _ v5 h5 _ v6 h6 n6 v7 h7 n7
    simp only [Act.put, List.setIfInBounds_toArray, List.set_cons_zero, List.set_cons_succ, List.drop_succ_cons, List.drop_zero]
    obtain rfl : v0 = _ := h0
    obtain ⟨xA1, xk1, xc1, rfl, xR1⟩ : VN (negB zx) (zx.natAbs) v1 w1 := h1
    obtain ⟨xA2, xk2, xc2, rfl, xR2⟩ : VN (false) (10 ^ 9) v2 w1 := h2
    obtain ⟨xA3, xk3, xc3, rfl, xR3⟩ : VN (negB z9) (z9.natAbs) v3 w1 := h3
    obtain rfl : v4 = _ := h4
    obtain ⟨xA5, xk5, xc5, rfl, xR5⟩ : VN (true) (zy.natAbs) v5 w1 := h5
    obtain ⟨xg6, rfl, xB6, xl6⟩ : VA (w.heap.size + 1 + 1 + 1) #[.bool false, .slice none 0 0] v6 w1 := h6
    obtain ⟨xg7, rfl, xB7, xl7⟩ : VA (w.heap.size + 1 + 1 + 1) #[.bool false, .slice none 0 0] v7 w1 := h7
    change wpList Try.prog _ _ _ _ w1
    have n67 := ne_ptr (n7 rfl _ (List.mem_cons_self))
    have SF := (((M1.m.add xR3).add xR5).join2 S0 xB6 xB7 (by simpa using xl6) (by simpa using xl7) n67)
    have f0 := SF.c 3 0 rfl rfl; have f1 := SF.c 3 1 rfl rfl; have f2 := SF.f 3 0 rfl; have f3 := SF.f 3 1 rfl
    have f4 := SF.c 4 0 rfl rfl; have f5 := SF.c 4 1 rfl rfl; have f6 := SF.f 4 0 rfl; have f7 := SF.f 4 1 rfl
    have M2 : Mem w _ [(w.heap.size, #[.int .i64 C, .int .i64 (S : Int)]), (w.heap.size + 1, #[.int .i64 C', .int .i64 (S' : Int)]), (w.heap.size + 1 + 1, #[.int .i64 0, .int .i64 0]), (xg6, #[.bool (negB z9), .slice xA3 xk3 xc3]), (xg7, #[.bool true, .slice xA5 xk5 xc5])] [(xA3, xk3, xc3, digs z9.natAbs), (xA5, xk5, xc5, digs zy.natAbs)] := (SF.put2 3 rfl rfl (.bool (negB z9)) (.slice xA3 xk3 xc3) rfl).put2 4 rfl rfl (.bool true) (.slice xA5 xk5 xc5) rfl
    have hkx3 := row_le (k := 60) xR3 HK9.out
    have hkx5 := row_le (k := 60) xR5 (Nat.lt_trans HYA.out (by decide))
    clear SF xR1 xR2 xR3 xR5 M1 n6 n7 xB6 xB7 S0
    go_wp2_with fail
    refine calm_normal ?_
    generalize (((w1.setCell ⟨xg6, 0, none⟩ (.bool (negB z9))).setCell ⟨xg6, 1, none⟩ (.slice xA3 xk3 xc3)).setCell ⟨xg7, 0, none⟩ (.bool true)).setCell ⟨xg7, 1, none⟩ (.slice xA5 xk5 xc5) = w2 at *
    clear f0 f1 f2 f3 f4 f5 f6 f7
    have vv := M2.c 4 0 rfl rfl
    go_upto_region 3 with fail
    refine wp_region_rel 4 (MemAt w w2.heap.size [(w.heap.size, #[.int .i64 C, .int .i64 (S : Int)]), (w.heap.size + 1, #[.int .i64 C', .int .i64 (S' : Int)]), (w.heap.size + 1 + 1, #[.int .i64 0, .int .i64 0]), (xg6, #[.bool (negB z9), .slice xA3 xk3 xc3]), (xg7, #[.bool true, .slice xA5 xk5 xc5])] [(xA3, xk3, xc3, digs z9.natAbs), (xA5, xk5, xc5, digs zy.natAbs)])
      (fun i => List.getD [VE (.agg #[.bool (negB z9), .slice xA3 xk3 xc3]), VN (negB (-z9)) ((-z9).natAbs), VE (.agg #[.bool true, .slice xA5 xk5 xc5]), VN (false) (zy.natAbs)] i (fun _ _ => False)) [] [] (by kernel_rfl) (by kernel_rfl) M2.at (fun _ _ h hb => h.grow hb)
      (stays_all (stays_cons (stays_VE _) (stays_cons (stays_VN _ _) (stays_cons (stays_VE _) (stays_cons (stays_VN _ _) stays_nil))))) ⟨?_, ?_, ?_, ?_, trivial⟩ ?_
    · intro ev wv hE hw hd
      refine ifw rfl (ifn rfl ?_)
      have v6 : ev (.tmp 6) = .pointer (some ⟨xg6, 0, none⟩) := hE.tmp 6 rfl
      have kx := hw.m.c 3 0 rfl rfl
      have ky := hw.m.c 3 1 rfl rfl
      refine rel_val (u := .agg #[.bool (negB z9), .slice xA3 xk3 xc3]) (w' := wv) ?_ (Below.refl _ _) ⟨rfl, fun h => by cases h⟩
      have e1 := hE.const; clear hE hd hw
      go_simp
    · intro ev wv hE hw hd
      refine ifw rfl (ifn rfl ?_)
      have v16 : ev (.tmp 16) = .agg #[.bool (negB z9), .slice xA3 xk3 xc3] := hd 0 (by decide)
      refine rel_call (f := 15) (args := #[.agg #[.bool (negB z9), .slice xA3 xk3 xc3]]) ?_ (nneg_any _ _ _ _ z9.natAbs z9 _ (hw.m.r 0 rfl) (by omega) (val_neg z9)) ?_
      · have e0 := hE.func; have e1 := hE.const; clear hE hd hw
        go_simp
      · rintro e w' ⟨A, k, c, rfl, R, hb⟩
        exact ⟨_, rfl, hb, ⟨A, k, c, rfl, R⟩, fun h => by cases h⟩
    · intro ev wv hE hw hd
      refine ifw rfl (ifn rfl ?_)
      have v7 : ev (.tmp 7) = .pointer (some ⟨xg7, 0, none⟩) := hE.tmp 7 rfl
      have kx := hw.m.c 4 0 rfl rfl
      have ky := hw.m.c 4 1 rfl rfl
      refine rel_val (u := .agg #[.bool true, .slice xA5 xk5 xc5]) (w' := wv) ?_ (Below.refl _ _) ⟨rfl, fun h => by cases h⟩
      have e1 := hE.const; clear hE hd hw
      go_simp
    · intro ev wv hE hw hd
      refine ifw rfl (ifn rfl ?_)
      have v18 : ev (.tmp 18) = .agg #[.bool true, .slice xA5 xk5 xc5] := hd 2 (by decide)
      refine rel_call (f := 15) (args := #[.agg #[.bool true, .slice xA5 xk5 xc5]]) ?_ (nneg_low _ _ _ zy _ (hw.m.r 1 rfl) (by omega) HBY.out) ?_
      · have e0 := hE.func; have e1 := hE.const; clear hE hd hw
        go_simp
      · rintro e w' ⟨A, k, c, rfl, R, hb⟩
        exact ⟨_, rfl, hb, ⟨A, k, c, rfl, R⟩, fun h => by cases h⟩
    · intro w3 M3
      intro v0 h0 _ v1 h1 _ v2 h2 _ v3 h3 _
      simp only [Act.put, List.setIfInBounds_toArray, List.set_cons_zero, List.set_cons_succ, List.drop_succ_cons, List.drop_zero]
      obtain rfl : v0 = _ := h0
      obtain ⟨yA1, yk1, yc1, rfl, yR1⟩ : VN (negB (-z9)) ((-z9).natAbs) v1 w3 := h1
      obtain rfl : v2 = _ := h2
      obtain ⟨yA3, yk3, yc3, rfl, yR3⟩ : VN (false) (zy.natAbs) v3 w3 := h3
      change wpList Try.prog _ _ _ _ w3
      have S4 := (M3.m.add yR1).add yR3
      have f0 := S4.c 3 0 rfl rfl; have f1 := S4.c 3 1 rfl rfl; have f2 := S4.f 3 0 rfl; have f3 := S4.f 3 1 rfl
      have f4 := S4.c 4 0 rfl rfl; have f5 := S4.c 4 1 rfl rfl; have f6 := S4.f 4 0 rfl; have f7 := S4.f 4 1 rfl
      have ne := S4.ne 3 4 rfl rfl (by decide)
      have M5 := (S4.put2 3 rfl rfl (.bool (negB (-z9))) (.slice yA1 yk1 yc1) rfl).put2 4 rfl rfl (.bool false) (.slice yA3 yk3 yc3) rfl
      have hk1 := row_le (k := 60) yR1 (by rw [Int.natAbs_neg]; exact HK9.out)
      have hk3 := row_le (k := 60) yR3 (Nat.lt_trans HYA.out (by decide))
      clear S4 M3 yR1 yR3 M2
      go_wp2_with fail
      refine calm_normal ?_
      generalize (((w3.setCell ⟨xg6, 0, none⟩ (.bool (negB (-z9)))).setCell ⟨xg6, 1, none⟩ (.slice yA1 yk1 yc1)).setCell ⟨xg7, 0, none⟩ (.bool false)).setCell ⟨xg7, 1, none⟩ (.slice yA3 yk3 yc3) = w5 at *
      clear f0 f1 f2 f3 f4 f5 f6 f7
      have ua := M5.c 3 0 rfl rfl; have ub := M5.c 3 1 rfl rfl; have va := M5.c 4 0 rfl rfl; have vb := M5.c 4 1 rfl rfl
      go_wp2_with fail
      refine (neven_z _ bz _ _ _ _ _ _ (-z9) zy.natAbs u _ (M5.r 2 rfl) (M5.r 3 rfl) (by omega) (by omega) (by omega) rfl HU.out HBZ.out).mono ?_
      rintro e6 w6 ⟨A6, k6, c6, rfl, R6, hb⟩
      have S6 := (M5.keep hb).add R6
      have hk6 := row_le (k := 60) R6 HKU.out
      clear M5 hb ua ub va vb
      go_wp2_with fail
      refine (nmade_any _ _ _ _ 9 u _ R6 (by omega) (by omega) HBZ.out).mono ?_
      rintro e7 w7 ⟨rfl, hb⟩
      rw [HM.out.1, HM.out.2.1, HM.out.2.2]
      have S7 := (S6.keep hb).only
      have za := S7.c 2 0 rfl rfl; have zb := S7.c 2 1 rfl rfl; have zc := S7.f 2 0 rfl; have zd := S7.f 2 1 rfl
      have HF := Lib.hid (S7.put20 2 rfl (.int .i64 c) (.int .i64 (t : Int)))
      clear S6 S7 hb R6
      go_wp2_with fail
      exact bodyPost_ret (v := .tuple #[.agg #[.int .i64 c, .int .i64 (t : Int)], .int .i64 e]) (by simp [results, Try.results45, go_sem, za, zb]) rfl ⟨rfl, HF.out.bl⟩
end Go.Proofs.Ytgkogjlcecbfjaa

/- Contracts of corrodyref01: Even. (Written by wip/gen/genref16.py.) -/
import Derived.Test.YtgojfonnikgboaaGreatDoorRowRel
import Derived.Test.YtgojfonnikgboaaGreatDoorNat
namespace Go.Proofs.YtgojfonnikgboaaGreatDoor
set_option maxRecDepth 8000
open Go.RowKit Corr
set_option linter.unusedVariables false
theorem quo_abs {s : Bool} {a b : Nat} {Q : Int} (hb : 0 < b) (hQ : val s a / (b : Int) = Q) : Q.natAbs ≤ a := by
  subst hQ
  cases s
  · have h : val false a / (b : Int) = ((a / b : Nat) : Int) := rfl
    rw [h, Int.natAbs_natCast]; exact Nat.div_le_self _ _
  · have h1 : -(a : Int) ≤ -(a : Int) / (b : Int) := by
      rw [Int.le_ediv_iff_mul_le (by omega)]
      have : (a : Int) * 1 ≤ (a : Int) * (b : Int) := Int.mul_le_mul_of_nonneg_left (by omega) (by omega)
      rw [Int.neg_mul]; omega
    have h2 : -(a : Int) / (b : Int) ≤ 0 := Int.ediv_le_of_le_mul (by omega) (by omega)
    show (-(a : Int) / (b : Int)).natAbs ≤ a
    omega

set_option maxHeartbeats 4000000 in
theorem neven_up (s : Bool) (A B : Option Addr) (n m ca cb a b : Nat) (w : World) (hx : Row w A n ca (digs a)) (hy : Row w B m cb (digs b)) (hn : n ≤ 1000) (hm : m ≤ 1000) (hb : 0 < b) (Q : Int) (r : Nat) (hQ : val s a / (b : Int) = Q) (hr : val s a % (b : Int) = r) (hup : b < r + r ∨ (r + r = b ∧ Q % 2 = 1)) :
    Calls Tryz.prog 71 #[.agg #[.bool s, .slice A n ca], .agg #[.bool false, .slice B m cb]] w (RetN w (negB (Q + 1)) (digs (Q + 1).natAbs)) := by
  have S0 := (((((Mem.start w).add hx).add hy).push #[.bool s, .slice A n ca] 52).push #[.bool false, .slice B m cb] 52).push #[.bool false, .slice none 0 0] 52
  simp only [size_alloc] at S0
  have HB := Lib.hid hb
  have HQ := Lib.hid hQ
  have HR := Lib.hid hr
  have HUP := Lib.hid hup
  have hrb : r < b := by have := Int.emod_lt_of_pos (val s a) (show (0 : Int) < b by omega); omega
  have HK3 := Lib.hid (show (digs Q.natAbs).length ≤ 1000 by have h1 := len_le (quo_abs (s := s) (a := a) hb hQ); have h2 := hx.len; omega)
  have HK4 := Lib.hid (show (digs r).length ≤ 1000 by have h1 := len_le (Nat.le_of_lt hrb); have h2 := hy.len; omega)
  have HKR := Lib.hid (show (digs (r + r)).length ≤ 1001 by have h1 := len_lt (show r + r < 1000 * b by omega); have h2 := hy.len; omega)
  clear hQ hr hb hup hrb
  obtain ⟨cc, hcc⟩ : ∃ cc, cmpI ((r + r : Nat) : Int) (b : Int) = cc := ⟨_, rfl⟩
  have HCC := Lib.hid hcc
  clear hcc
  go_enter Tryz.func71, Tryz.ntmps71
  go_wp2_with fail
  refine (ndown_any _ _ _ _ _ _ _ _ _ _ (S0.r 0 rfl) (S0.r 1 rfl) hn hm HB.out).mono ?_
  rintro e w1 ⟨A3, k3, c3, A4, k4, c4, rfl, R3, R4, hb1⟩
  rw [HQ.out] at R3 ⊢
  rw [HR.out, Int.natAbs_natCast] at R4
  rw [HR.out, negB_nat]
  obtain ⟨bq, hbq⟩ : ∃ bq, negB Q = bq := ⟨_, rfl⟩
  rw [hbq]
  have HBQ := Lib.hid hbq
  have HQ1 := Lib.hid (show val bq Q.natAbs + val false 1 = Q + 1 by rw [← hbq, val_neg]; rfl)
  clear hbq
  have hk3 : k3 ≤ 1000 := by rw [← R3.len]; exact HK3.out
  have hk4 : k4 ≤ 1000 := by rw [← R4.len]; exact HK4.out
  have S1 := ((((S0.keep hb1).add R3).add R4).push #[.bool bq, .slice A3 k3 c3] 52).push #[.bool false, .slice A4 k4 c4] 52
  simp only [size_alloc] at S1
  clear S0 hb1 R3 R4
  go_upto_region 2 with fail
  refine wp_region_rel 6 (MemAt w (w1.heap.size + 1 + 1) [(w.heap.size, #[.bool s, .slice A n ca]), (w.heap.size + 1, #[.bool false, .slice B m cb]), (w.heap.size + 1 + 1, #[.bool false, .slice none 0 0]), (w1.heap.size, #[.bool bq, .slice A3 k3 c3]), (w1.heap.size + 1, #[.bool false, .slice A4 k4 c4])] [(A, n, ca, digs a), (B, m, cb, digs b), (A3, k3, c3, digs Q.natAbs), (A4, k4, c4, digs r)])
    (fun i => List.getD [VE (.agg #[.bool false, .slice A4 k4 c4]), VE (.agg #[.bool false, .slice A4 k4 c4]), VN (false) (r + r), VE (.agg #[.bool false, .slice B m cb]), VE (.int .i64 cc), VE (.int .i64 cc)] i (fun _ _ => False)) [] [5] (by kernel_rfl) (by kernel_rfl) ⟨S1.drew, by simp⟩ (fun _ _ h hb => h.grow hb)
    (stays_all (stays_cons (stays_VE _) (stays_cons (stays_VE _) (stays_cons (stays_VN _ _) (stays_cons (stays_VE _) (stays_cons (stays_VE _) (stays_cons (stays_VE _) stays_nil))))))) ⟨?_, ?_, ?_, ?_, ?_, ?_, trivial⟩ ?_
  · intro ev wv hE hw hd
    refine ifw rfl (ifn rfl ?_)
    have v6 : ev (.tmp 6) = .pointer (some ⟨w1.heap.size + 1, 0, none⟩) := hE.tmp 6 rfl
    have kx := hw.m.c 4 0 rfl rfl
    have ky := hw.m.c 4 1 rfl rfl
    refine rel_val (u := .agg #[.bool false, .slice A4 k4 c4]) (w' := wv) ?_ (Below.refl _ _) ⟨rfl, fun h => by cases h⟩
    have e1 := hE.const; clear hE hd hw
    go_simp
  · intro ev wv hE hw hd
    refine ifw rfl (ifn rfl ?_)
    have v6 : ev (.tmp 6) = .pointer (some ⟨w1.heap.size + 1, 0, none⟩) := hE.tmp 6 rfl
    have kx := hw.m.c 4 0 rfl rfl
    have ky := hw.m.c 4 1 rfl rfl
    refine rel_val (u := .agg #[.bool false, .slice A4 k4 c4]) (w' := wv) ?_ (Below.refl _ _) ⟨rfl, fun h => by cases h⟩
    have e1 := hE.const; clear hE hd hw
    go_simp
  · intro ev wv hE hw hd
    refine ifw rfl (ifn rfl ?_)
    have v16 : ev (.tmp 16) = .agg #[.bool false, .slice A4 k4 c4] := hd 0 (by decide)
    have v17 : ev (.tmp 17) = .agg #[.bool false, .slice A4 k4 c4] := hd 1 (by decide)
    refine rel_call (f := 44) (args := #[.agg #[.bool false, .slice A4 k4 c4], .agg #[.bool false, .slice A4 k4 c4]]) ?_ (nadd_nat _ _ _ _ _ _ r r _ (hw.m.r 3 rfl) (hw.m.r 3 rfl) (by omega) (by omega)) ?_
    · have e0 := hE.func; have e1 := hE.const; clear hE hd hw
      go_simp
    · rintro e w' ⟨A, k, c, rfl, R, hb⟩
      exact ⟨_, rfl, hb, ⟨A, k, c, rfl, R⟩, fun h => by cases h⟩
  · intro ev wv hE hw hd
    refine ifw rfl (ifn rfl ?_)
    have v3 : ev (.tmp 3) = .pointer (some ⟨w.heap.size + 1, 0, none⟩) := hE.tmp 3 rfl
    have kx := hw.m.c 1 0 rfl rfl
    have ky := hw.m.c 1 1 rfl rfl
    refine rel_val (u := .agg #[.bool false, .slice B m cb]) (w' := wv) ?_ (Below.refl _ _) ⟨rfl, fun h => by cases h⟩
    have e1 := hE.const; clear hE hd hw
    go_simp
  · intro ev wv hE hw hd
    refine ifw rfl (ifn rfl ?_)
    obtain ⟨xA2, xk2, xc2, v18, xR2⟩ : VN (false) (r + r) (ev (.tmp 18)) wv := hd 2 (by decide)
    have v19 : ev (.tmp 19) = .agg #[.bool false, .slice B m cb] := hd 3 (by decide)
    refine rel_call (f := 54) (args := #[.agg #[.bool (false), .slice xA2 xk2 xc2], .agg #[.bool false, .slice B m cb]]) ?_ (ncmp_nat _ _ _ _ _ _ (r + r) b _ xR2 (hw.m.r 1 rfl) (by have h1 := xR2.len; have h2 := HKR.out; omega) (by omega)) ?_
    · have e0 := hE.func; have e1 := hE.const; clear hE hd hw
      go_simp
    · rintro e w' ⟨rfl, hb⟩
      exact ⟨_, rfl, hb, (by rw [HCC.out]; rfl), fun h => by cases h⟩
  · intro ev wv hE hw hd
    refine ifw rfl (ifw rfl ?_)
    have v20 : ev (.tmp 20) = .int .i64 cc := hd 4 (by decide)
    refine ⟨.int .i64 cc, fun w => ?_, rfl⟩
    have e1 := hE.const; have e2 := hE.func; clear hE hd hw
    go_simp
  · intro w2 M2
    intro v0 h0 _ v1 h1 _ v2 h2 _ v3 h3 _ v4 h4 _ v5 h5 _
    simp only [Act.put, List.setIfInBounds_toArray, List.set_cons_zero, List.set_cons_succ, List.drop_succ_cons, List.drop_zero]
    obtain rfl : v0 = _ := h0
    obtain rfl : v1 = _ := h1
    obtain ⟨xA2, xk2, xc2, rfl, xR2⟩ : VN (false) (r + r) v2 w2 := h2
    obtain rfl : v3 = _ := h3
    obtain rfl : v4 = _ := h4
    obtain rfl : v5 = _ := h5
    change wpList Tryz.prog _ _ _ _ w2
    refine calm_normal ?_
    clear S1
    go_upto_region 3 with fail
    refine wp_region_rel 8 (MemAt w w2.heap.size [(w.heap.size, #[.bool s, .slice A n ca]), (w.heap.size + 1, #[.bool false, .slice B m cb]), (w.heap.size + 1 + 1, #[.bool false, .slice none 0 0]), (w1.heap.size, #[.bool bq, .slice A3 k3 c3]), (w1.heap.size + 1, #[.bool false, .slice A4 k4 c4])] [(A, n, ca, digs a), (B, m, cb, digs b), (A3, k3, c3, digs Q.natAbs), (A4, k4, c4, digs r)])
      (fun i => List.getD [VE (.agg #[.bool bq, .slice A3 k3 c3]), VN (false) (2), VNN (negB (Q / 2)) ((Q / 2).natAbs) (negB (Q % 2)) ((Q % 2).natAbs), VNN (negB (Q / 2)) ((Q / 2).natAbs) (negB (Q % 2)) ((Q % 2).natAbs), VN (negB (Q / 2)) ((Q / 2).natAbs), VN (negB (Q % 2)) ((Q % 2).natAbs), VA (w2.heap.size) #[.bool false, .slice none 0 0], VA (w2.heap.size) #[.bool false, .slice none 0 0]] i (fun _ _ => False)) [6, 7] [3, 4, 5] (by kernel_rfl) (by kernel_rfl) M2.m.at (fun _ _ h hb => h.grow hb)
      (stays_all (stays_cons (stays_VE _) (stays_cons (stays_VN _ _) (stays_cons (stays_VNN _ _ _ _) (stays_cons (stays_VNN _ _ _ _) (stays_cons (stays_VN _ _) (stays_cons (stays_VN _ _) (stays_cons (stays_VA _ _) (stays_cons (stays_VA _ _) stays_nil))))))))) ⟨?_, ?_, ?_, ?_, ?_, ?_, ?_, ?_, trivial⟩ ?_
    · intro ev wv hE hw hd
      refine ifw rfl (ifn rfl ?_)
      have v5 : ev (.tmp 5) = .pointer (some ⟨w1.heap.size, 0, none⟩) := hE.tmp 5 rfl
      have kx := hw.m.c 3 0 rfl rfl
      have ky := hw.m.c 3 1 rfl rfl
      refine rel_val (u := .agg #[.bool bq, .slice A3 k3 c3]) (w' := wv) ?_ (Below.refl _ _) ⟨rfl, fun h => by cases h⟩
      have e1 := hE.const; clear hE hd hw
      go_simp
    · intro ev wv hE hw hd
      refine ifw rfl (ifn rfl ?_)
      refine rel_call (f := 31) (args := #[.int .u64 2]) ?_ (word_two _) ?_
      · have e0 := hE.func; have e1 := hE.const; clear hE hd hw
        go_simp
      · rintro e w' ⟨A, k, c, rfl, R, hb⟩
        exact ⟨_, rfl, hb, ⟨A, k, c, rfl, R⟩, fun h => by cases h⟩
    · intro ev wv hE hw hd
      refine ifw rfl (ifn rfl ?_)
      have v22 : ev (.tmp 22) = .agg #[.bool bq, .slice A3 k3 c3] := hd 0 (by decide)
      obtain ⟨yA1, yk1, yc1, v23, yR1⟩ : VN (false) (2) (ev (.tmp 23)) wv := hd 1 (by decide)
      refine rel_call (f := 30) (args := #[.agg #[.bool bq, .slice A3 k3 c3], .agg #[.bool (false), .slice yA1 yk1 yc1]]) ?_ (ndown_int _ _ _ _ _ _ _ Q 2 _ HBQ.out.symm (hw.m.r 2 rfl) yR1 (by omega) (by have := row_le (k := 1) yR1 (by decide); omega) (by decide)) ?_
      · have e0 := hE.func; have e1 := hE.const; clear hE hd hw
        go_simp
      · rintro e w' ⟨A, k, c, A', k', c', rfl, R, R', hb⟩
        exact ⟨_, rfl, hb, ⟨A, k, c, A', k', c', rfl, R, R'⟩, fun h => by cases h⟩
    · intro ev wv hE hw hd
      refine ifw rfl (ifw rfl ?_)
      refine ⟨ev (.tmp 24), fun w => ?_, hd 2 (by decide)⟩
      clear hE hd hw
      go_simp
    · intro ev wv hE hw hd
      refine ifw rfl (ifw rfl ?_)
      obtain ⟨yA3, yk3, yc3, yA'3, yk'3, yc'3, v21, yR3, yR'3⟩ : VNN (negB (Q / 2)) ((Q / 2).natAbs) (negB (Q % 2)) ((Q % 2).natAbs) (ev (.tmp 21)) wv := hd 3 (by decide)
      refine ⟨.agg #[.bool (negB (Q / 2)), .slice yA3 yk3 yc3], fun w => ?_, ⟨yA3, yk3, yc3, rfl, yR3⟩⟩
      have e1 := hE.const; clear hE hd hw
      go_simp
    · intro ev wv hE hw hd
      refine ifw rfl (ifw rfl ?_)
      obtain ⟨yA3, yk3, yc3, yA'3, yk'3, yc'3, v21, yR3, yR'3⟩ : VNN (negB (Q / 2)) ((Q / 2).natAbs) (negB (Q % 2)) ((Q % 2).natAbs) (ev (.tmp 21)) wv := hd 3 (by decide)
      refine ⟨.agg #[.bool (negB (Q % 2)), .slice yA'3 yk'3 yc'3], fun w => ?_, ⟨yA'3, yk'3, yc'3, rfl, yR'3⟩⟩
      have e1 := hE.const; clear hE hd hw
      go_simp
    · intro ev wv hE hw hd
      refine ifw rfl (ifn rfl ?_)
      refine rel_val (u := .pointer (some ⟨wv.heap.size, 0, none⟩)) (w' := wv.alloc (.cells #[.bool false, .slice none 0 0] 52)) ?_ ((Below.refl _ _).alloc (Nat.le_refl _) _) ⟨⟨_, rfl, Blk.new _ _ _, hw.h⟩, fun _ => ⟨_, rfl, Nat.le_refl _, by simp⟩⟩
      clear hE hd hw
      go_simp
    · intro ev wv hE hw hd
      refine ifw rfl (ifn rfl ?_)
      refine rel_val (u := .pointer (some ⟨wv.heap.size, 0, none⟩)) (w' := wv.alloc (.cells #[.bool false, .slice none 0 0] 52)) ?_ ((Below.refl _ _).alloc (Nat.le_refl _) _) ⟨⟨_, rfl, Blk.new _ _ _, hw.h⟩, fun _ => ⟨_, rfl, Nat.le_refl _, by simp⟩⟩
      clear hE hd hw
      go_simp
    · intro w3 M3
      intro v0 h0 _ v1 h1 _ v2 h2 _ v3 h3 _ v4 h4 _ v5 h5 _ v6 h6 n6 v7 h7 n7
      simp only [Act.put, List.setIfInBounds_toArray, List.set_cons_zero, List.set_cons_succ, List.drop_succ_cons, List.drop_zero]
      obtain rfl : v0 = _ := h0
      obtain ⟨yA1, yk1, yc1, rfl, yR1⟩ : VN (false) (2) v1 w3 := h1
      clear h2
      clear h3
      obtain ⟨yA4, yk4, yc4, rfl, yR4⟩ : VN (negB (Q / 2)) ((Q / 2).natAbs) v4 w3 := h4
      obtain ⟨yA5, yk5, yc5, rfl, yR5⟩ : VN (negB (Q % 2)) ((Q % 2).natAbs) v5 w3 := h5
      obtain ⟨yg6, rfl, yB6, yl6⟩ : VA (w2.heap.size) #[.bool false, .slice none 0 0] v6 w3 := h6
      obtain ⟨yg7, rfl, yB7, yl7⟩ : VA (w2.heap.size) #[.bool false, .slice none 0 0] v7 w3 := h7
      change wpList Tryz.prog _ _ _ _ w3
      have n67 := ne_ptr (n7 rfl _ (List.mem_cons_self))
      have SF := (((M3.m.add yR4).add yR5).join2 M2.m yB6 yB7 yl6 yl7 n67)
      have f0 := SF.c 5 0 rfl rfl; have f1 := SF.c 5 1 rfl rfl; have f2 := SF.f 5 0 rfl; have f3 := SF.f 5 1 rfl
      have f4 := SF.c 6 0 rfl rfl; have f5 := SF.c 6 1 rfl rfl; have f6 := SF.f 6 0 rfl; have f7 := SF.f 6 1 rfl
      have M4x := (SF.put2 5 rfl rfl (.bool (negB (Q / 2))) (.slice yA4 yk4 yc4) rfl).put2 6 rfl rfl (.bool (negB (Q % 2))) (.slice yA5 yk5 yc5) rfl
      have HKO := Lib.hid yR5.len
      clear SF yR1 yR4 yR5 M3 n6 n7 yB6 yB7
      go_wp2_with fail
      refine calm_normal ?_
      generalize (((w3.setCell ⟨yg6, 0, none⟩ (.bool (negB (Q / 2)))).setCell ⟨yg6, 1, none⟩ (.slice yA4 yk4 yc4)).setCell ⟨yg7, 0, none⟩ (.bool (negB (Q % 2)))).setCell ⟨yg7, 1, none⟩ (.slice yA5 yk5 yc5) = w4 at *
      clear f0 f1 f2 f3 f4 f5 f6 f7
      have ob := M4x.c 6 1 rfl rfl
      have M4 : Mem w w4 [(w.heap.size, #[.bool s, .slice A n ca]), (w.heap.size + 1, #[.bool false, .slice B m cb]), (w.heap.size + 1 + 1, #[.bool false, .slice none 0 0]), (w1.heap.size, #[.bool bq, .slice A3 k3 c3]), (w1.heap.size + 1, #[.bool false, .slice A4 k4 c4])] [(A, n, ca, digs a), (B, m, cb, digs b), (A3, k3, c3, digs Q.natAbs), (A4, k4, c4, digs r)] := (M4x.take 5).rtake 4
      clear M4x M2
      have key : cc = 1 ∨ cc = 0 ∧ yk5 = 1 := by
        rcases HUP.out with h | ⟨h, h'⟩
        · exact .inl (by rw [← HCC.out, cmpI_gt (by omega)])
        · refine .inr ⟨by rw [← HCC.out, cmpI_eq (by omega)], ?_⟩
          have h1 := HKO.out
          rw [h', show Int.natAbs 1 = 1 from rfl, digs_one] at h1
          exact h1.symm
      clear HKO
      rcases key with rfl | ⟨rfl, rfl⟩
      all_goals
        go_upto_region 5 with fail
        refine wp_region_rel 3 (MemAt w w4.heap.size [(w.heap.size, #[.bool s, .slice A n ca]), (w.heap.size + 1, #[.bool false, .slice B m cb]), (w.heap.size + 1 + 1, #[.bool false, .slice none 0 0]), (w1.heap.size, #[.bool bq, .slice A3 k3 c3]), (w1.heap.size + 1, #[.bool false, .slice A4 k4 c4])] [(A, n, ca, digs a), (B, m, cb, digs b), (A3, k3, c3, digs Q.natAbs), (A4, k4, c4, digs r)])
          (fun i => List.getD [VE (.agg #[.bool bq, .slice A3 k3 c3]), VN (false) (1), VN (negB (Q + 1)) ((Q + 1).natAbs)] i (fun _ _ => False)) [] [] (by kernel_rfl) (by kernel_rfl) M4.at (fun _ _ h hb => h.grow hb)
          (stays_all (stays_cons (stays_VE _) (stays_cons (stays_VN _ _) (stays_cons (stays_VN _ _) stays_nil)))) ⟨?_, ?_, ?_, trivial⟩ ?_
        · intro ev wv hE hw hd
          refine ifw rfl (ifn rfl ?_)
          have v5 : ev (.tmp 5) = .pointer (some ⟨w1.heap.size, 0, none⟩) := hE.tmp 5 rfl
          have kx := hw.m.c 3 0 rfl rfl
          have ky := hw.m.c 3 1 rfl rfl
          refine rel_val (u := .agg #[.bool bq, .slice A3 k3 c3]) (w' := wv) ?_ (Below.refl _ _) ⟨rfl, fun h => by cases h⟩
          have e1 := hE.const; clear hE hd hw
          go_simp
        · intro ev wv hE hw hd
          refine ifw rfl (ifn rfl ?_)
          refine rel_call (f := 31) (args := #[.int .u64 1]) ?_ (word_one _) ?_
          · have e0 := hE.func; have e1 := hE.const; clear hE hd hw
            go_simp
          · rintro e w' ⟨A, k, c, rfl, R, hb⟩
            exact ⟨_, rfl, hb, ⟨A, k, c, rfl, R⟩, fun h => by cases h⟩
        · intro ev wv hE hw hd
          refine ifw rfl (ifn rfl ?_)
          have v39 : ev (.tmp 39) = .agg #[.bool bq, .slice A3 k3 c3] := hd 0 (by decide)
          obtain ⟨zA1, zk1, zc1, v40, zR1⟩ : VN (false) (1) (ev (.tmp 40)) wv := hd 1 (by decide)
          refine rel_call (f := 44) (args := #[.agg #[.bool bq, .slice A3 k3 c3], .agg #[.bool (false), .slice zA1 zk1 zc1]]) ?_ (nadd_any _ _ _ _ _ _ _ _ Q.natAbs 1 (Q + 1) _ (hw.m.r 2 rfl) zR1 (by omega) (by have := row_le (k := 1) zR1 (by decide); omega) HQ1.out) ?_
          · have e0 := hE.func; have e1 := hE.const; clear hE hd hw
            go_simp
          · rintro e w' ⟨A, k, c, rfl, R, hb⟩
            exact ⟨_, rfl, hb, ⟨A, k, c, rfl, R⟩, fun h => by cases h⟩
        · intro w5 M5
          intro v0 h0 _ v1 h1 _ v2 h2 _
          simp only [Act.put, List.setIfInBounds_toArray, List.set_cons_zero, List.set_cons_succ, List.drop_succ_cons, List.drop_zero]
          obtain rfl : v0 = _ := h0
          obtain ⟨zA1, zk1, zc1, rfl, zR1⟩ : VN (false) (1) v1 w5 := h1
          obtain ⟨zA2, zk2, zc2, rfl, zR2⟩ : VN (negB (Q + 1)) ((Q + 1).natAbs) v2 w5 := h2
          change wpList Tryz.prog _ _ _ _ w5
          have qa := M5.m.c 3 0 rfl rfl; have qb := M5.m.c 3 1 rfl rfl; have qc := M5.m.f 3 0 rfl; have qd := M5.m.f 3 1 rfl
          have S6 := (M5.m.add zR2).put2 3 rfl rfl (.bool (negB (Q + 1))) (.slice zA2 zk2 zc2) rfl
          clear zR1 zR2 M5
          go_wp2_with fail
          refine calm_normal ?_
          generalize (w5.setCell ⟨w1.heap.size, 0, none⟩ (.bool (negB (Q + 1)))).setCell ⟨w1.heap.size, 1, none⟩ (.slice zA2 zk2 zc2) = w6 at *
          clear qa qb qc qd
          have qa := S6.c 3 0 rfl rfl; have qb := S6.c 3 1 rfl rfl
          have za := S6.c 2 0 rfl rfl; have zb := S6.c 2 1 rfl rfl; have zc := S6.f 2 0 rfl; have zd := S6.f 2 1 rfl
          have HF := Lib.hid (S6.put2 2 rfl rfl (.bool (negB (Q + 1))) (.slice zA2 zk2 zc2) rfl)
          clear S6
          go_wp2_with fail
          exact bodyPost_ret (v := .agg #[.bool (negB (Q + 1)), .slice zA2 zk2 zc2]) (by simp [results, Tryz.results71, go_sem, za, zb]) rfl ⟨zA2, zk2, zc2, rfl, HF.out.r 4 rfl, HF.out.bl⟩

set_option maxHeartbeats 4000000 in
theorem neven_no (s : Bool) (A B : Option Addr) (n m ca cb a b : Nat) (w : World) (hx : Row w A n ca (digs a)) (hy : Row w B m cb (digs b)) (hn : n ≤ 1000) (hm : m ≤ 1000) (hb : 0 < b) (Q : Int) (r : Nat) (hQ : val s a / (b : Int) = Q) (hr : val s a % (b : Int) = r) (hup : ¬ (b < r + r ∨ (r + r = b ∧ Q % 2 = 1))) :
    Calls Tryz.prog 71 #[.agg #[.bool s, .slice A n ca], .agg #[.bool false, .slice B m cb]] w (RetN w (negB Q) (digs Q.natAbs)) := by
  have S0 := (((((Mem.start w).add hx).add hy).push #[.bool s, .slice A n ca] 52).push #[.bool false, .slice B m cb] 52).push #[.bool false, .slice none 0 0] 52
  simp only [size_alloc] at S0
  have HB := Lib.hid hb
  have HQ := Lib.hid hQ
  have HR := Lib.hid hr
  have HUP := Lib.hid hup
  have hrb : r < b := by have := Int.emod_lt_of_pos (val s a) (show (0 : Int) < b by omega); omega
  have HK3 := Lib.hid (show (digs Q.natAbs).length ≤ 1000 by have h1 := len_le (quo_abs (s := s) (a := a) hb hQ); have h2 := hx.len; omega)
  have HK4 := Lib.hid (show (digs r).length ≤ 1000 by have h1 := len_le (Nat.le_of_lt hrb); have h2 := hy.len; omega)
  have HKR := Lib.hid (show (digs (r + r)).length ≤ 1001 by have h1 := len_lt (show r + r < 1000 * b by omega); have h2 := hy.len; omega)
  clear hQ hr hb hup hrb
  obtain ⟨cc, hcc⟩ : ∃ cc, cmpI ((r + r : Nat) : Int) (b : Int) = cc := ⟨_, rfl⟩
  have HCC := Lib.hid hcc
  clear hcc
  go_enter Tryz.func71, Tryz.ntmps71
  go_wp2_with fail
  refine (ndown_any _ _ _ _ _ _ _ _ _ _ (S0.r 0 rfl) (S0.r 1 rfl) hn hm HB.out).mono ?_
  rintro e w1 ⟨A3, k3, c3, A4, k4, c4, rfl, R3, R4, hb1⟩
  rw [HQ.out] at R3 ⊢
  rw [HR.out, Int.natAbs_natCast] at R4
  rw [HR.out, negB_nat]
  obtain ⟨bq, hbq⟩ : ∃ bq, negB Q = bq := ⟨_, rfl⟩
  rw [hbq]
  have HBQ := Lib.hid hbq
  have HQ1 := Lib.hid (show val bq Q.natAbs + val false 1 = Q + 1 by rw [← hbq, val_neg]; rfl)
  clear hbq
  have hk3 : k3 ≤ 1000 := by rw [← R3.len]; exact HK3.out
  have hk4 : k4 ≤ 1000 := by rw [← R4.len]; exact HK4.out
  have S1 := ((((S0.keep hb1).add R3).add R4).push #[.bool bq, .slice A3 k3 c3] 52).push #[.bool false, .slice A4 k4 c4] 52
  simp only [size_alloc] at S1
  clear S0 hb1 R3 R4
  go_upto_region 2 with fail
  refine wp_region_rel 6 (MemAt w (w1.heap.size + 1 + 1) [(w.heap.size, #[.bool s, .slice A n ca]), (w.heap.size + 1, #[.bool false, .slice B m cb]), (w.heap.size + 1 + 1, #[.bool false, .slice none 0 0]), (w1.heap.size, #[.bool bq, .slice A3 k3 c3]), (w1.heap.size + 1, #[.bool false, .slice A4 k4 c4])] [(A, n, ca, digs a), (B, m, cb, digs b), (A3, k3, c3, digs Q.natAbs), (A4, k4, c4, digs r)])
    (fun i => List.getD [VE (.agg #[.bool false, .slice A4 k4 c4]), VE (.agg #[.bool false, .slice A4 k4 c4]), VN (false) (r + r), VE (.agg #[.bool false, .slice B m cb]), VE (.int .i64 cc), VE (.int .i64 cc)] i (fun _ _ => False)) [] [5] (by kernel_rfl) (by kernel_rfl) ⟨S1.drew, by simp⟩ (fun _ _ h hb => h.grow hb)
    (stays_all (stays_cons (stays_VE _) (stays_cons (stays_VE _) (stays_cons (stays_VN _ _) (stays_cons (stays_VE _) (stays_cons (stays_VE _) (stays_cons (stays_VE _) stays_nil))))))) ⟨?_, ?_, ?_, ?_, ?_, ?_, trivial⟩ ?_
  · intro ev wv hE hw hd
    refine ifw rfl (ifn rfl ?_)
    have v6 : ev (.tmp 6) = .pointer (some ⟨w1.heap.size + 1, 0, none⟩) := hE.tmp 6 rfl
    have kx := hw.m.c 4 0 rfl rfl
    have ky := hw.m.c 4 1 rfl rfl
    refine rel_val (u := .agg #[.bool false, .slice A4 k4 c4]) (w' := wv) ?_ (Below.refl _ _) ⟨rfl, fun h => by cases h⟩
    have e1 := hE.const; clear hE hd hw
    go_simp
  · intro ev wv hE hw hd
    refine ifw rfl (ifn rfl ?_)
    have v6 : ev (.tmp 6) = .pointer (some ⟨w1.heap.size + 1, 0, none⟩) := hE.tmp 6 rfl
    have kx := hw.m.c 4 0 rfl rfl
    have ky := hw.m.c 4 1 rfl rfl
    refine rel_val (u := .agg #[.bool false, .slice A4 k4 c4]) (w' := wv) ?_ (Below.refl _ _) ⟨rfl, fun h => by cases h⟩
    have e1 := hE.const; clear hE hd hw
    go_simp
  · intro ev wv hE hw hd
    refine ifw rfl (ifn rfl ?_)
    have v16 : ev (.tmp 16) = .agg #[.bool false, .slice A4 k4 c4] := hd 0 (by decide)
    have v17 : ev (.tmp 17) = .agg #[.bool false, .slice A4 k4 c4] := hd 1 (by decide)
    refine rel_call (f := 44) (args := #[.agg #[.bool false, .slice A4 k4 c4], .agg #[.bool false, .slice A4 k4 c4]]) ?_ (nadd_nat _ _ _ _ _ _ r r _ (hw.m.r 3 rfl) (hw.m.r 3 rfl) (by omega) (by omega)) ?_
    · have e0 := hE.func; have e1 := hE.const; clear hE hd hw
      go_simp
    · rintro e w' ⟨A, k, c, rfl, R, hb⟩
      exact ⟨_, rfl, hb, ⟨A, k, c, rfl, R⟩, fun h => by cases h⟩
  · intro ev wv hE hw hd
    refine ifw rfl (ifn rfl ?_)
    have v3 : ev (.tmp 3) = .pointer (some ⟨w.heap.size + 1, 0, none⟩) := hE.tmp 3 rfl
    have kx := hw.m.c 1 0 rfl rfl
    have ky := hw.m.c 1 1 rfl rfl
    refine rel_val (u := .agg #[.bool false, .slice B m cb]) (w' := wv) ?_ (Below.refl _ _) ⟨rfl, fun h => by cases h⟩
    have e1 := hE.const; clear hE hd hw
    go_simp
  · intro ev wv hE hw hd
    refine ifw rfl (ifn rfl ?_)
    obtain ⟨xA2, xk2, xc2, v18, xR2⟩ : VN (false) (r + r) (ev (.tmp 18)) wv := hd 2 (by decide)
    have v19 : ev (.tmp 19) = .agg #[.bool false, .slice B m cb] := hd 3 (by decide)
    refine rel_call (f := 54) (args := #[.agg #[.bool (false), .slice xA2 xk2 xc2], .agg #[.bool false, .slice B m cb]]) ?_ (ncmp_nat _ _ _ _ _ _ (r + r) b _ xR2 (hw.m.r 1 rfl) (by have h1 := xR2.len; have h2 := HKR.out; omega) (by omega)) ?_
    · have e0 := hE.func; have e1 := hE.const; clear hE hd hw
      go_simp
    · rintro e w' ⟨rfl, hb⟩
      exact ⟨_, rfl, hb, (by rw [HCC.out]; rfl), fun h => by cases h⟩
  · intro ev wv hE hw hd
    refine ifw rfl (ifw rfl ?_)
    have v20 : ev (.tmp 20) = .int .i64 cc := hd 4 (by decide)
    refine ⟨.int .i64 cc, fun w => ?_, rfl⟩
    have e1 := hE.const; have e2 := hE.func; clear hE hd hw
    go_simp
  · intro w2 M2
    intro v0 h0 _ v1 h1 _ v2 h2 _ v3 h3 _ v4 h4 _ v5 h5 _
    simp only [Act.put, List.setIfInBounds_toArray, List.set_cons_zero, List.set_cons_succ, List.drop_succ_cons, List.drop_zero]
    obtain rfl : v0 = _ := h0
    obtain rfl : v1 = _ := h1
    obtain ⟨xA2, xk2, xc2, rfl, xR2⟩ : VN (false) (r + r) v2 w2 := h2
    obtain rfl : v3 = _ := h3
    obtain rfl : v4 = _ := h4
    obtain rfl : v5 = _ := h5
    change wpList Tryz.prog _ _ _ _ w2
    refine calm_normal ?_
    clear S1
    go_upto_region 3 with fail
    refine wp_region_rel 8 (MemAt w w2.heap.size [(w.heap.size, #[.bool s, .slice A n ca]), (w.heap.size + 1, #[.bool false, .slice B m cb]), (w.heap.size + 1 + 1, #[.bool false, .slice none 0 0]), (w1.heap.size, #[.bool bq, .slice A3 k3 c3]), (w1.heap.size + 1, #[.bool false, .slice A4 k4 c4])] [(A, n, ca, digs a), (B, m, cb, digs b), (A3, k3, c3, digs Q.natAbs), (A4, k4, c4, digs r)])
      (fun i => List.getD [VE (.agg #[.bool bq, .slice A3 k3 c3]), VN (false) (2), VNN (negB (Q / 2)) ((Q / 2).natAbs) (negB (Q % 2)) ((Q % 2).natAbs), VNN (negB (Q / 2)) ((Q / 2).natAbs) (negB (Q % 2)) ((Q % 2).natAbs), VN (negB (Q / 2)) ((Q / 2).natAbs), VN (negB (Q % 2)) ((Q % 2).natAbs), VA (w2.heap.size) #[.bool false, .slice none 0 0], VA (w2.heap.size) #[.bool false, .slice none 0 0]] i (fun _ _ => False)) [6, 7] [3, 4, 5] (by kernel_rfl) (by kernel_rfl) M2.m.at (fun _ _ h hb => h.grow hb)
      (stays_all (stays_cons (stays_VE _) (stays_cons (stays_VN _ _) (stays_cons (stays_VNN _ _ _ _) (stays_cons (stays_VNN _ _ _ _) (stays_cons (stays_VN _ _) (stays_cons (stays_VN _ _) (stays_cons (stays_VA _ _) (stays_cons (stays_VA _ _) stays_nil))))))))) ⟨?_, ?_, ?_, ?_, ?_, ?_, ?_, ?_, trivial⟩ ?_
    · intro ev wv hE hw hd
      refine ifw rfl (ifn rfl ?_)
      have v5 : ev (.tmp 5) = .pointer (some ⟨w1.heap.size, 0, none⟩) := hE.tmp 5 rfl
      have kx := hw.m.c 3 0 rfl rfl
      have ky := hw.m.c 3 1 rfl rfl
      refine rel_val (u := .agg #[.bool bq, .slice A3 k3 c3]) (w' := wv) ?_ (Below.refl _ _) ⟨rfl, fun h => by cases h⟩
      have e1 := hE.const; clear hE hd hw
      go_simp
    · intro ev wv hE hw hd
      refine ifw rfl (ifn rfl ?_)
      refine rel_call (f := 31) (args := #[.int .u64 2]) ?_ (word_two _) ?_
      · have e0 := hE.func; have e1 := hE.const; clear hE hd hw
        go_simp
      · rintro e w' ⟨A, k, c, rfl, R, hb⟩
        exact ⟨_, rfl, hb, ⟨A, k, c, rfl, R⟩, fun h => by cases h⟩
    · intro ev wv hE hw hd
      refine ifw rfl (ifn rfl ?_)
      have v22 : ev (.tmp 22) = .agg #[.bool bq, .slice A3 k3 c3] := hd 0 (by decide)
      obtain ⟨yA1, yk1, yc1, v23, yR1⟩ : VN (false) (2) (ev (.tmp 23)) wv := hd 1 (by decide)
      refine rel_call (f := 30) (args := #[.agg #[.bool bq, .slice A3 k3 c3], .agg #[.bool (false), .slice yA1 yk1 yc1]]) ?_ (ndown_int _ _ _ _ _ _ _ Q 2 _ HBQ.out.symm (hw.m.r 2 rfl) yR1 (by omega) (by have := row_le (k := 1) yR1 (by decide); omega) (by decide)) ?_
      · have e0 := hE.func; have e1 := hE.const; clear hE hd hw
        go_simp
      · rintro e w' ⟨A, k, c, A', k', c', rfl, R, R', hb⟩
        exact ⟨_, rfl, hb, ⟨A, k, c, A', k', c', rfl, R, R'⟩, fun h => by cases h⟩
    · intro ev wv hE hw hd
      refine ifw rfl (ifw rfl ?_)
      refine ⟨ev (.tmp 24), fun w => ?_, hd 2 (by decide)⟩
      clear hE hd hw
      go_simp
    · intro ev wv hE hw hd
      refine ifw rfl (ifw rfl ?_)
      obtain ⟨yA3, yk3, yc3, yA'3, yk'3, yc'3, v21, yR3, yR'3⟩ : VNN (negB (Q / 2)) ((Q / 2).natAbs) (negB (Q % 2)) ((Q % 2).natAbs) (ev (.tmp 21)) wv := hd 3 (by decide)
      refine ⟨.agg #[.bool (negB (Q / 2)), .slice yA3 yk3 yc3], fun w => ?_, ⟨yA3, yk3, yc3, rfl, yR3⟩⟩
      have e1 := hE.const; clear hE hd hw
      go_simp
    · intro ev wv hE hw hd
      refine ifw rfl (ifw rfl ?_)
      obtain ⟨yA3, yk3, yc3, yA'3, yk'3, yc'3, v21, yR3, yR'3⟩ : VNN (negB (Q / 2)) ((Q / 2).natAbs) (negB (Q % 2)) ((Q % 2).natAbs) (ev (.tmp 21)) wv := hd 3 (by decide)
      refine ⟨.agg #[.bool (negB (Q % 2)), .slice yA'3 yk'3 yc'3], fun w => ?_, ⟨yA'3, yk'3, yc'3, rfl, yR'3⟩⟩
      have e1 := hE.const; clear hE hd hw
      go_simp
    · intro ev wv hE hw hd
      refine ifw rfl (ifn rfl ?_)
      refine rel_val (u := .pointer (some ⟨wv.heap.size, 0, none⟩)) (w' := wv.alloc (.cells #[.bool false, .slice none 0 0] 52)) ?_ ((Below.refl _ _).alloc (Nat.le_refl _) _) ⟨⟨_, rfl, Blk.new _ _ _, hw.h⟩, fun _ => ⟨_, rfl, Nat.le_refl _, by simp⟩⟩
      clear hE hd hw
      go_simp
    · intro ev wv hE hw hd
      refine ifw rfl (ifn rfl ?_)
      refine rel_val (u := .pointer (some ⟨wv.heap.size, 0, none⟩)) (w' := wv.alloc (.cells #[.bool false, .slice none 0 0] 52)) ?_ ((Below.refl _ _).alloc (Nat.le_refl _) _) ⟨⟨_, rfl, Blk.new _ _ _, hw.h⟩, fun _ => ⟨_, rfl, Nat.le_refl _, by simp⟩⟩
      clear hE hd hw
      go_simp
    · intro w3 M3
      intro v0 h0 _ v1 h1 _ v2 h2 _ v3 h3 _ v4 h4 _ v5 h5 _ v6 h6 n6 v7 h7 n7
      simp only [Act.put, List.setIfInBounds_toArray, List.set_cons_zero, List.set_cons_succ, List.drop_succ_cons, List.drop_zero]
      obtain rfl : v0 = _ := h0
      obtain ⟨yA1, yk1, yc1, rfl, yR1⟩ : VN (false) (2) v1 w3 := h1
      clear h2
      clear h3
      obtain ⟨yA4, yk4, yc4, rfl, yR4⟩ : VN (negB (Q / 2)) ((Q / 2).natAbs) v4 w3 := h4
      obtain ⟨yA5, yk5, yc5, rfl, yR5⟩ : VN (negB (Q % 2)) ((Q % 2).natAbs) v5 w3 := h5
      obtain ⟨yg6, rfl, yB6, yl6⟩ : VA (w2.heap.size) #[.bool false, .slice none 0 0] v6 w3 := h6
      obtain ⟨yg7, rfl, yB7, yl7⟩ : VA (w2.heap.size) #[.bool false, .slice none 0 0] v7 w3 := h7
      change wpList Tryz.prog _ _ _ _ w3
      have n67 := ne_ptr (n7 rfl _ (List.mem_cons_self))
      have SF := (((M3.m.add yR4).add yR5).join2 M2.m yB6 yB7 yl6 yl7 n67)
      have f0 := SF.c 5 0 rfl rfl; have f1 := SF.c 5 1 rfl rfl; have f2 := SF.f 5 0 rfl; have f3 := SF.f 5 1 rfl
      have f4 := SF.c 6 0 rfl rfl; have f5 := SF.c 6 1 rfl rfl; have f6 := SF.f 6 0 rfl; have f7 := SF.f 6 1 rfl
      have M4x := (SF.put2 5 rfl rfl (.bool (negB (Q / 2))) (.slice yA4 yk4 yc4) rfl).put2 6 rfl rfl (.bool (negB (Q % 2))) (.slice yA5 yk5 yc5) rfl
      have HKO := Lib.hid yR5.len
      clear SF yR1 yR4 yR5 M3 n6 n7 yB6 yB7
      go_wp2_with fail
      refine calm_normal ?_
      generalize (((w3.setCell ⟨yg6, 0, none⟩ (.bool (negB (Q / 2)))).setCell ⟨yg6, 1, none⟩ (.slice yA4 yk4 yc4)).setCell ⟨yg7, 0, none⟩ (.bool (negB (Q % 2)))).setCell ⟨yg7, 1, none⟩ (.slice yA5 yk5 yc5) = w4 at *
      clear f0 f1 f2 f3 f4 f5 f6 f7
      have ob := M4x.c 6 1 rfl rfl
      have M4 : Mem w w4 [(w.heap.size, #[.bool s, .slice A n ca]), (w.heap.size + 1, #[.bool false, .slice B m cb]), (w.heap.size + 1 + 1, #[.bool false, .slice none 0 0]), (w1.heap.size, #[.bool bq, .slice A3 k3 c3]), (w1.heap.size + 1, #[.bool false, .slice A4 k4 c4])] [(A, n, ca, digs a), (B, m, cb, digs b), (A3, k3, c3, digs Q.natAbs), (A4, k4, c4, digs r)] := (M4x.take 5).rtake 4
      clear M4x M2
      have key : cc = -1 ∨ cc = 0 ∧ yk5 = 0 := by
        have h := HUP.out
        by_cases h1 : r + r < b
        · exact .inl (by rw [← HCC.out, cmpI_lt (by omega)])
        · refine .inr ⟨by rw [← HCC.out, cmpI_eq (by omega)], ?_⟩
          have h2 := HKO.out
          rw [show Q % 2 = 0 by omega, show Int.natAbs 0 = 0 from rfl, digs_zero] at h2
          exact h2.symm
      clear HKO
      have qa := M4.c 3 0 rfl rfl; have qb := M4.c 3 1 rfl rfl
      have za := M4.c 2 0 rfl rfl; have zb := M4.c 2 1 rfl rfl; have zc := M4.f 2 0 rfl; have zd := M4.f 2 1 rfl
      have HF := Lib.hid (M4.put2 2 rfl rfl (.bool bq) (.slice A3 k3 c3) rfl)
      clear M4
      rcases key with rfl | ⟨rfl, rfl⟩
      all_goals
        go_wp2_with fail
        exact bodyPost_ret (v := .agg #[.bool bq, .slice A3 k3 c3]) (by simp [results, Tryz.results71, go_sem, za, zb]) rfl ⟨A3, k3, c3, by rw [HBQ.out], HF.out.r 2 rfl, HF.out.bl⟩
end Go.Proofs.YtgojfonnikgboaaGreatDoor

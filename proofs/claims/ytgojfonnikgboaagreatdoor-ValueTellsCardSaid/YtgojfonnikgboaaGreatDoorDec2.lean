/- Contracts of corrodyref02: Made. (Written by wip/gen/gendec2.py.) -/
import Derived.Test.YtgojfonnikgboaaGreatDoorDec1
import Derived.Test.YtgojfonnikgboaaGreatDoorRef17
namespace Go.Proofs.YtgojfonnikgboaaGreatDoor
set_option maxRecDepth 8000
open Go.RowKit Corr
set_option linter.unusedVariables false
theorem nsmall_in (b : Bool) (A : Option Addr) (n c : Nat) (z : Int) (w : World) (hx : Row w A n c (digs z.natAbs)) (hn : n ≤ 1000) (hb : negB z = b) (hf : -9223372036854775808 ≤ z ∧ z ≤ 9223372036854775807) :
    Calls Tryz.prog 47 #[.agg #[.bool b, .slice A n c]] w fun e w' => e = .returned (.tuple #[.int .i64 z, .bool true]) ∧ Below w.heap.size w w' := by
  have hv := val_neg z
  rw [hb] at hv
  cases b with
  | false => exact nsmall_pos A n c z.natAbs z w hx hn hv hf.2
  | true => exact nsmall_neg A n c z.natAbs z w hx hn hv hf.1
theorem nsmall_out (b : Bool) (A : Option Addr) (n c : Nat) (z : Int) (w : World) (hx : Row w A n c (digs z.natAbs)) (hn : n ≤ 1000) (hb : negB z = b) (hf : ¬ (-9223372036854775808 ≤ z ∧ z ≤ 9223372036854775807)) :
    Calls Tryz.prog 47 #[.agg #[.bool b, .slice A n c]] w fun e w' => e = .returned (.tuple #[.int .i64 0, .bool false]) ∧ Below w.heap.size w w' := by
  have hv := val_neg z
  rw [hb] at hv
  rcases Int.lt_or_le z (-9223372036854775808) with h2 | h2
  · exact nsmall_low b A n c z.natAbs z w hx hn hv h2
  · exact nsmall_high b A n c z.natAbs z w hx hn hv (by omega)

set_option maxHeartbeats 4000000 in
theorem nmade_any (b0 : Bool) (A0 : Option Addr) (n0 c0 s0 : Nat) (u0 : Int) (w : World) (hx : Row w A0 n0 c0 (digs u0.natAbs)) (hn : n0 ≤ 1000) (hs : s0 ≤ 18) (hb : negB u0 = b0) :
    Calls Tryz.prog 41 #[.agg #[.bool b0, .slice A0 n0 c0], .int .i64 (s0 : Int)] w fun e w' => e = .returned (.tuple #[.agg #[.int .i64 (mC u0 s0), .int .i64 (mS u0 s0 : Int)], .int .i64 (mE u0 s0)]) ∧ Below w.heap.size w w' := by
  have S0 := (((Mem.start w).add hx).push #[.bool b0, .slice A0 n0 c0] 52).push #[.int .i64 0, .int .i64 0] 23
  simp only [size_alloc] at S0
  have HB0 := Lib.hid hb
  clear hb
  go_enter Tryz.func41, Tryz.ntmps41
  go_wp2_with fail
  go_loopg [1] s0 (fun k t wr => ∃ (s n c : Nat) (A : Option Addr) (u : Int) (b : Bool), t = .int .i64 (s : Int) ∧ s = k ∧ s ≤ 18 ∧ Hid (negB u = b) ∧ n ≤ 1000 ∧ Hid (strip u s = strip u0 s0) ∧ Mem w wr [(w.heap.size, #[.bool b, .slice A n c]), (w.heap.size + 1, #[.int .i64 0, .int .i64 0])] [(A, n, c, digs u.natAbs)])
  case atStart => exact ⟨s0, n0, c0, A0, u0, b0, rfl, rfl, hs, HB0, hn, Lib.hid rfl, S0⟩
  case round =>
    obtain ⟨s, n, c, A, u, b, rfl, hsk, hs18, HBU, hn1, HINV, S⟩ := hrel
    clear S0
    subst hsk
    by_cases hs0 : s = 0
    · subst hs0
      have HST := Lib.hid (strip_no (u := u) (s := 0) (.inl rfl))
      have x0 := S.c 0 0 rfl rfl; have x1 := S.c 0 1 rfl rfl
      have hR := S.r 0 rfl
      by_cases hf : -9223372036854775808 ≤ u ∧ u ≤ 9223372036854775807
      · have HV := Lib.hid (made_fit HST.out HINV.out hf)
        have HSM := Lib.hid (fun w' hr => nsmall_in b A n c u w' hr hn1 HBU.out hf)
        clear hf
        go_wp2_with fail
        refine (HSM.out _ hR).mono ?_
        rintro e w9 ⟨rfl, hb9⟩
        have S9 := (S.keep hb9).only
        have z0 := S9.c 1 0 rfl rfl; have z1 := S9.c 1 1 rfl rfl; have z2 := S9.f 1 0 rfl; have z3 := S9.f 1 1 rfl
        have HF := Lib.hid (S9.put20 1 rfl (.int .i64 u) (.int .i64 0))
        clear S S9 hb9 hR x0 x1
        go_wp2_with fail
        exact bodyPost_ret (v := .tuple #[.agg #[.int .i64 u, .int .i64 0], .int .i64 0]) (by simp [results, Tryz.results41, go_sem, z0, z1]) rfl ⟨by rw [HV.out.1, HV.out.2.1, HV.out.2.2]; rfl, HF.out.bl⟩
      · have HV := Lib.hid (made_over HST.out HINV.out hf)
        have HSM := Lib.hid (fun w' hr => nsmall_out b A n c u w' hr hn1 HBU.out hf)
        clear hf
        go_wp2_with fail
        refine (HSM.out _ hR).mono ?_
        rintro e w9 ⟨rfl, hb9⟩
        have S9 := (S.keep hb9).only
        have z0 := S9.c 1 0 rfl rfl; have z1 := S9.c 1 1 rfl rfl; have z2 := S9.f 1 0 rfl; have z3 := S9.f 1 1 rfl
        have HF := Lib.hid (S9.put20 1 rfl (.int .i64 0) (.int .i64 0))
        clear S S9 hb9 hR x0 x1
        go_wp2_with fail
        exact bodyPost_ret (v := .tuple #[.agg #[.int .i64 0, .int .i64 0], .int .i64 11]) (by simp [results, Tryz.results41, go_sem, z0, z1]) rfl ⟨by rw [HV.out.1, HV.out.2.1, HV.out.2.2]; rfl, HF.out.bl⟩
    · obtain ⟨j, rfl⟩ : ∃ j, s = j + 1 := ⟨s - 1, by omega⟩
      clear hs0
      have hR0 := S.r 0 rfl
      go_upto_region 2 with fail
      refine wp_region_rel 8 (MemAt w wr.heap.size [(w.heap.size, #[.bool b, .slice A n c]), (w.heap.size + 1, #[.int .i64 0, .int .i64 0])] [(A, n, c, digs u.natAbs)])
        (fun i => List.getD [VE (.agg #[.bool b, .slice A n c]), VN (false) (10), VNN (negB (u / 10)) ((u / 10).natAbs) (negB (u % 10)) ((u % 10).natAbs), VNN (negB (u / 10)) ((u / 10).natAbs) (negB (u % 10)) ((u % 10).natAbs), VN (negB (u / 10)) ((u / 10).natAbs), VN (negB (u % 10)) ((u % 10).natAbs), VA (wr.heap.size) #[.bool false, .slice none 0 0], VA (wr.heap.size) #[.bool false, .slice none 0 0]] i (fun _ _ => False)) [6, 7] [3, 4, 5] (by kernel_rfl) (by kernel_rfl) S.at (fun _ _ h hb => h.grow hb)
        (stays_all (stays_cons (stays_VE _) (stays_cons (stays_VN _ _) (stays_cons (stays_VNN _ _ _ _) (stays_cons (stays_VNN _ _ _ _) (stays_cons (stays_VN _ _) (stays_cons (stays_VN _ _) (stays_cons (stays_VA _ _) (stays_cons (stays_VA _ _) stays_nil))))))))) ⟨?_, ?_, ?_, ?_, ?_, ?_, ?_, ?_, trivial⟩ ?_
      · intro ev wv hE hw hd
        refine ifw rfl (ifn rfl ?_)
        have v2 : ev (.tmp 2) = .pointer (some ⟨w.heap.size, 0, none⟩) := hE.tmp 2 rfl
        have kx := hw.m.c 0 0 rfl rfl
        have ky := hw.m.c 0 1 rfl rfl
        refine rel_val (u := .agg #[.bool b, .slice A n c]) (w' := wv) ?_ (Below.refl _ _) ⟨rfl, fun h => by cases h⟩
        have e1 := hE.const; clear hE hd hw
        go_simp
      · intro ev wv hE hw hd
        refine ifw rfl (ifn rfl ?_)
        refine rel_call (f := 31) (args := #[.int .u64 10]) ?_ (word_ten _) ?_
        · have e0 := hE.func; have e1 := hE.const; clear hE hd hw
          go_simp
        · rintro e w' ⟨A, k, c, rfl, R, hb⟩
          exact ⟨_, rfl, hb, ⟨A, k, c, rfl, R⟩, fun h => by cases h⟩
      · intro ev wv hE hw hd
        refine ifw rfl (ifn rfl ?_)
        have v13 : ev (.tmp 13) = .agg #[.bool b, .slice A n c] := hd 0 (by decide)
        obtain ⟨yA1, yk1, yc1, v14, yR1⟩ : VN (false) (10) (ev (.tmp 14)) wv := hd 1 (by decide)
        refine rel_call (f := 30) (args := #[.agg #[.bool b, .slice A n c], .agg #[.bool (false), .slice yA1 yk1 yc1]]) ?_ (ndown_int _ _ _ _ _ _ _ u 10 _ HBU.out.symm (hw.m.r 0 rfl) yR1 hn1 (by have := row_le (k := 1) yR1 (by decide); omega) (by decide)) ?_
        · have e0 := hE.func; have e1 := hE.const; clear hE hd hw
          go_simp
        · rintro e w' ⟨A, k, c, A', k', c', rfl, R, R', hb⟩
          exact ⟨_, rfl, hb, ⟨A, k, c, A', k', c', rfl, R, R'⟩, fun h => by cases h⟩
      · intro ev wv hE hw hd
        refine ifw rfl (ifw rfl ?_)
        refine ⟨ev (.tmp 15), fun w => ?_, hd 2 (by decide)⟩
        clear hE hd hw
        go_simp
      · intro ev wv hE hw hd
        refine ifw rfl (ifw rfl ?_)
        obtain ⟨yA3, yk3, yc3, yA'3, yk'3, yc'3, v12, yR3, yR'3⟩ : VNN (negB (u / 10)) ((u / 10).natAbs) (negB (u % 10)) ((u % 10).natAbs) (ev (.tmp 12)) wv := hd 3 (by decide)
        refine ⟨.agg #[.bool (negB (u / 10)), .slice yA3 yk3 yc3], fun w => ?_, ⟨yA3, yk3, yc3, rfl, yR3⟩⟩
        have e1 := hE.const; clear hE hd hw
        go_simp
      · intro ev wv hE hw hd
        refine ifw rfl (ifw rfl ?_)
        obtain ⟨yA3, yk3, yc3, yA'3, yk'3, yc'3, v12, yR3, yR'3⟩ : VNN (negB (u / 10)) ((u / 10).natAbs) (negB (u % 10)) ((u % 10).natAbs) (ev (.tmp 12)) wv := hd 3 (by decide)
        refine ⟨.agg #[.bool (negB (u % 10)), .slice yA'3 yk'3 yc'3], fun w => ?_, ⟨yA'3, yk'3, yc'3, rfl, yR'3⟩⟩
        have e1 := hE.const; clear hE hd hw
        go_simp
      · intro ev wv hE hw hd
        refine ifw rfl (ifn rfl ?_)
        refine rel_val (u := .pointer (some ⟨wv.heap.size, 0, none⟩)) (w' := wv.alloc (.cells #[.bool false, .slice none 0 0] 52)) ?_ ((Below.refl _ _).alloc (Nat.le_refl _) _) ⟨⟨_, rfl, Blk.new _ _ _, hw.h⟩, fun _ => ⟨_, rfl, Nat.le_refl _, by simp⟩⟩
        clear hE hd hw
        go_simp
      · intro ev wv hE hw hd
        refine ifw rfl (ifn rfl ?_)
        refine rel_val (u := .pointer (some ⟨wv.heap.size, 0, none⟩)) (w' := wv.alloc (.cells #[.bool false, .slice none 0 0] 52)) ?_ ((Below.refl _ _).alloc (Nat.le_refl _) _) ⟨⟨_, rfl, Blk.new _ _ _, hw.h⟩, fun _ => ⟨_, rfl, Nat.le_refl _, by simp⟩⟩
        clear hE hd hw
        go_simp
      · intro w3 M3
        intro v0 h0 _ v1 h1 _ v2 h2 _ v3 h3 _ v4 h4 _ v5 h5 _ v6 h6 n6 v7 h7 n7
        simp only [Act.put, List.setIfInBounds_toArray, List.set_cons_zero, List.set_cons_succ, List.drop_succ_cons, List.drop_zero]
        obtain rfl : v0 = _ := h0
        obtain ⟨yA1, yk1, yc1, rfl, yR1⟩ : VN (false) (10) v1 w3 := h1
        clear h2
        clear h3
        obtain ⟨yA4, yk4, yc4, rfl, yR4⟩ : VN (negB (u / 10)) ((u / 10).natAbs) v4 w3 := h4
        obtain ⟨yA5, yk5, yc5, rfl, yR5⟩ : VN (negB (u % 10)) ((u % 10).natAbs) v5 w3 := h5
        obtain ⟨yg6, rfl, yB6, yl6⟩ : VA (wr.heap.size) #[.bool false, .slice none 0 0] v6 w3 := h6
        obtain ⟨yg7, rfl, yB7, yl7⟩ : VA (wr.heap.size) #[.bool false, .slice none 0 0] v7 w3 := h7
        change wpList Tryz.prog _ _ _ _ w3
        have n67 := ne_ptr (n7 rfl _ (List.mem_cons_self))
        have SF := (((M3.m.add yR4).add yR5).join2 S yB6 yB7 yl6 yl7 n67)
        have f0 := SF.c 2 0 rfl rfl; have f1 := SF.c 2 1 rfl rfl; have f2 := SF.f 2 0 rfl; have f3 := SF.f 2 1 rfl
        have f4 := SF.c 3 0 rfl rfl; have f5 := SF.c 3 1 rfl rfl; have f6 := SF.f 3 0 rfl; have f7 := SF.f 3 1 rfl
        have M4 := (SF.put2 2 rfl rfl (.bool (negB (u / 10))) (.slice yA4 yk4 yc4) rfl).put2 3 rfl rfl (.bool (negB (u % 10))) (.slice yA5 yk5 yc5) rfl
        have HKO := Lib.hid yR5.len
        have hky4 : yk4 ≤ 1000 := by have h1 := yR4.len; have h2 := hR0.len; have h3 := len_le (tenth_le u); omega
        clear SF yR1 yR4 yR5 M3 n6 n7 yB6 yB7 S hR0
        go_wp2_with fail
        refine calm_normal ?_
        generalize (((w3.setCell ⟨yg6, 0, none⟩ (.bool (negB (u / 10)))).setCell ⟨yg6, 1, none⟩ (.slice yA4 yk4 yc4)).setCell ⟨yg7, 0, none⟩ (.bool (negB (u % 10)))).setCell ⟨yg7, 1, none⟩ (.slice yA5 yk5 yc5) = w4 at *
        clear f0 f1 f2 f3 f4 f5 f6 f7
        have ob := M4.c 3 1 rfl rfl
        have qa := M4.c 2 0 rfl rfl; have qb := M4.c 2 1 rfl rfl
        by_cases h10 : u % 10 = 0
        · have hk0 : yk5 = 0 := by have h1 := HKO.out; rw [h10, show Int.natAbs 0 = 0 from rfl, digs_zero] at h1; exact h1.symm
          subst hk0
          have HI2 := Lib.hid (show strip (u / 10) j = strip u0 s0 by rw [← HINV.out]; exact (strip_yes j h10).symm)
          have ua := M4.c 0 0 rfl rfl; have ub := M4.c 0 1 rfl rfl; have uc := M4.f 0 0 rfl; have ud := M4.f 0 1 rfl
          have M5 := M4.put2 0 rfl rfl (.bool (negB (u / 10))) (.slice yA4 yk4 yc4) rfl
          have HM6 := Lib.hid (((M5.take 2).only).add (M5.r 1 rfl))
          clear M4 M5 h10 HKO
          go_wp2_with fail
          go_roundg j
          case measure => omega
          case rel => exact ⟨_, _, _, _, _, _, rfl, rfl, by omega, Lib.hid rfl, hky4, HI2, HM6.out⟩
        · have hk0 : 0 < yk5 := by rw [← HKO.out, digs_pos (by omega)]; simp
          have hk1 : (0 : Int) < (yk5 : Int) := by omega
          have HST := Lib.hid (strip_no (s := j + 1) (.inr h10))
          have S : Mem w w4 [(w.heap.size, #[.bool b, .slice A n c]), (w.heap.size + 1, #[.int .i64 0, .int .i64 0])] [(A, n, c, digs u.natAbs)] := (M4.take 2).rtake 1
          clear M4 h10 HKO qa qb
          have x0 := S.c 0 0 rfl rfl; have x1 := S.c 0 1 rfl rfl
          have hR := S.r 0 rfl
          by_cases hf : -9223372036854775808 ≤ u ∧ u ≤ 9223372036854775807
          · have HV := Lib.hid (made_fit HST.out HINV.out hf)
            have HSM := Lib.hid (fun w' hr => nsmall_in b A n c u w' hr hn1 HBU.out hf)
            clear hf
            go_wp2_with fail
            refine (HSM.out _ hR).mono ?_
            rintro e w9 ⟨rfl, hb9⟩
            have S9 := (S.keep hb9).only
            have z0 := S9.c 1 0 rfl rfl; have z1 := S9.c 1 1 rfl rfl; have z2 := S9.f 1 0 rfl; have z3 := S9.f 1 1 rfl
            have HF := Lib.hid (S9.put20 1 rfl (.int .i64 u) (.int .i64 ((j : Int) + 1)))
            clear S S9 hb9 hR x0 x1
            go_wp2_with fail
            exact bodyPost_ret (v := .tuple #[.agg #[.int .i64 u, .int .i64 ((j : Int) + 1)], .int .i64 0]) (by simp [results, Tryz.results41, go_sem, z0, z1]) rfl ⟨by rw [HV.out.1, HV.out.2.1, HV.out.2.2]; rfl, HF.out.bl⟩
          · have HV := Lib.hid (made_over HST.out HINV.out hf)
            have HSM := Lib.hid (fun w' hr => nsmall_out b A n c u w' hr hn1 HBU.out hf)
            clear hf
            go_wp2_with fail
            refine (HSM.out _ hR).mono ?_
            rintro e w9 ⟨rfl, hb9⟩
            have S9 := (S.keep hb9).only
            have z0 := S9.c 1 0 rfl rfl; have z1 := S9.c 1 1 rfl rfl; have z2 := S9.f 1 0 rfl; have z3 := S9.f 1 1 rfl
            have HF := Lib.hid (S9.put20 1 rfl (.int .i64 0) (.int .i64 0))
            clear S S9 hb9 hR x0 x1
            go_wp2_with fail
            exact bodyPost_ret (v := .tuple #[.agg #[.int .i64 0, .int .i64 0], .int .i64 11]) (by simp [results, Tryz.results41, go_sem, z0, z1]) rfl ⟨by rw [HV.out.1, HV.out.2.1, HV.out.2.2]; rfl, HF.out.bl⟩
end Go.Proofs.YtgojfonnikgboaaGreatDoor

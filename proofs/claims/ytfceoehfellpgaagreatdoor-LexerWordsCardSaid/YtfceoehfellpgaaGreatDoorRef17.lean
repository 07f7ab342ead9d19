/- Contracts of corrodyref01: Small. (Written by wip/gen/gensm.py.) -/
import Derived.Test.YtfceoehfellpgaaGreatDoorRowRel
import Derived.Test.YtfceoehfellpgaaGreatDoorNat
namespace Go.Proofs.YtfceoehfellpgaaGreatDoor
set_option maxRecDepth 8000
open Go.RowKit Corr
set_option linter.unusedVariables false
theorem of_low (w : World) : Calls Tryz.prog 42 #[.int .i64 (-9223372036854775808)] w (RetN w true (digs 9223372036854775808)) := nof_any (-9223372036854775808) w (by omega) (by omega)
theorem of_high (w : World) : Calls Tryz.prog 42 #[.int .i64 9223372036854775807] w (RetN w false (digs 9223372036854775807)) := nof_any 9223372036854775807 w (by omega) (by omega)

set_option maxHeartbeats 4000000 in
theorem nsmall_low (s : Bool) (A : Option Addr) (n c a : Nat) (z : Int) (w : World) (hx : Row w A n c (digs a)) (hn : n ≤ 1000) (hz : val s a = z) (h : z < -9223372036854775808) :
    Calls Tryz.prog 29 #[.agg #[.bool s, .slice A n c]] w fun e w' => e = .returned (.tuple #[.int .i64 0, .bool false]) ∧ Below w.heap.size w w' := by
  have S0 := ((Mem.start w).add hx).push #[.bool s, .slice A n c] 45
  obtain ⟨cl, hcl⟩ : ∃ cl, cmpI (val s a) (val true 9223372036854775808) = cl := ⟨_, rfl⟩
  obtain ⟨ch, hch⟩ : ∃ ch, cmpI (val s a) (val false 9223372036854775807) = ch := ⟨_, rfl⟩
  have HCL := Lib.hid hcl
  have HCH := Lib.hid hch
  have HZ := Lib.hid hz
  have tl : cl < 0 := by rw [← hcl, hz, cmpI_lt (by show z < -9223372036854775808; omega)]; omega
  clear hcl hch hz
  go_enter Tryz.func29, Tryz.ntmps29
  go_upto_region 1 with fail
  refine wp_region_rel 10 (MemAt w (w.heap.size + 1) [(w.heap.size, #[.bool s, .slice A n c])] [(A, n, c, digs a)])
    (fun i => List.getD [VE (.agg #[.bool s, .slice A n c]), VN (true) (9223372036854775808), VE (.int .i64 cl), VE (.bool true), VE (.bool true), VE (undef), VE (undef), VE (undef), VE (undef), VE (.bool true)] i (fun _ _ => False)) [] [3, 4, 5, 6, 7, 8, 9] (by kernel_rfl) (by kernel_rfl) ⟨S0.drew, by simp⟩ (fun _ _ h hb => h.grow hb)
    (stays_all (stays_cons (stays_VE _) (stays_cons (stays_VN _ _) (stays_cons (stays_VE _) (stays_cons (stays_VE _) (stays_cons (stays_VE _) (stays_cons (stays_VE _) (stays_cons (stays_VE _) (stays_cons (stays_VE _) (stays_cons (stays_VE _) (stays_cons (stays_VE _) stays_nil))))))))))) ⟨?_, ?_, ?_, ?_, ?_, ?_, ?_, ?_, ?_, ?_, trivial⟩ ?_
  · intro ev wv hE hw hd
    refine ifw rfl (ifn rfl ?_)
    have v1 : ev (.tmp 1) = .pointer (some ⟨w.heap.size, 0, none⟩) := hE.tmp 1 rfl
    have kx := hw.m.c 0 0 rfl rfl
    have ky := hw.m.c 0 1 rfl rfl
    refine rel_val (u := .agg #[.bool s, .slice A n c]) (w' := wv) ?_ (Below.refl _ _) ⟨rfl, fun h => by cases h⟩
    have e1 := hE.const; clear hE hd hw
    go_simp
  · intro ev wv hE hw hd
    refine ifw rfl (ifn rfl ?_)
    refine rel_call (f := 42) (args := #[.int .i64 (-9223372036854775808)]) ?_ (of_low _) ?_
    · have e0 := hE.func; have e1 := hE.const; clear hE hd hw
      go_simp
    · rintro e w' ⟨A, k, c, rfl, R, hb⟩
      exact ⟨_, rfl, hb, ⟨A, k, c, rfl, R⟩, fun h => by cases h⟩
  · intro ev wv hE hw hd
    refine ifw rfl (ifn rfl ?_)
    have v6 : ev (.tmp 6) = .agg #[.bool s, .slice A n c] := hd 0 (by decide)
    obtain ⟨xA1, xk1, xc1, v7, xR1⟩ : VN (true) (9223372036854775808) (ev (.tmp 7)) wv := hd 1 (by decide)
    refine rel_call (f := 41) (args := #[.agg #[.bool s, .slice A n c], .agg #[.bool (true), .slice xA1 xk1 xc1]]) ?_ (ncmp_any s true _ _ _ _ _ _ a _ _ (hw.m.r 0 rfl) xR1 (by omega) (by have := row_le (k := 7) xR1 (by decide); omega)) ?_
    · have e0 := hE.func; have e1 := hE.const; clear hE hd hw
      go_simp
    · rintro e w' ⟨rfl, hb⟩
      exact ⟨_, rfl, hb, (by rw [HCL.out]; rfl), fun h => by cases h⟩
  · intro ev wv hE hw hd
    refine ifw rfl (ifw rfl ?_)
    have v8 : ev (.tmp 8) = .int .i64 cl := hd 2 (by decide)
    refine ⟨.bool true, fun w => ?_, rfl⟩
    have e1 := hE.const; have e2 := hE.func; clear hE hd hw
    go_simp
  · intro ev wv hE hw hd
    refine ifw rfl (ifw rfl ?_)
    have v9 : ev (.tmp 9) = .bool true := hd 3 (by decide)
    refine ⟨.bool true, fun w => ?_, rfl⟩
    have e1 := hE.const; have e2 := hE.func; clear hE hd hw
    go_simp
  · intro ev wv hE hw hd
    have vg : ev (.tmp 10) = .bool true := hd 4 (by decide)
    exact ifn (by show (yv (ev (.tmp 10)) == some false) = false; rw [vg]; rfl) rfl
  · intro ev wv hE hw hd
    have vg : ev (.tmp 10) = .bool true := hd 4 (by decide)
    exact ifn (by show (yv (ev (.tmp 10)) == some false) = false; rw [vg]; rfl) rfl
  · intro ev wv hE hw hd
    have vg : ev (.tmp 10) = .bool true := hd 4 (by decide)
    exact ifn (by show (yv (ev (.tmp 10)) == some false) = false; rw [vg]; rfl) rfl
  · intro ev wv hE hw hd
    have vg : ev (.tmp 10) = .bool true := hd 4 (by decide)
    exact ifn (by show (yv (ev (.tmp 10)) == some false) = false; rw [vg]; rfl) rfl
  · intro ev wv hE hw hd
    refine ifw rfl (ifw rfl ?_)
    have v10 : ev (.tmp 10) = .bool true := hd 4 (by decide)
    have v14 : ev (.tmp 14) = undef := hd 8 (by decide)
    refine ⟨.bool true, fun w => ?_, rfl⟩
    have e1 := hE.const; have e2 := hE.func; clear hE hd hw
    go_simp
  · intro w1 M1
    intro v0 h0 _ v1 h1 _ v2 h2 _ v3 h3 _ v4 h4 _ v5 h5 _ v6 h6 _ v7 h7 _ v8 h8 _ v9 h9 _
    simp only [Act.put, List.setIfInBounds_toArray, List.set_cons_zero, List.set_cons_succ, List.drop_succ_cons, List.drop_zero]
    obtain rfl : v0 = _ := h0
    obtain ⟨xA1, xk1, xc1, rfl, xR1⟩ : VN (true) (9223372036854775808) v1 w1 := h1
    obtain rfl : v2 = _ := h2
    obtain rfl : v3 = _ := h3
    obtain rfl : v4 = _ := h4
    obtain rfl : v5 = _ := h5
    obtain rfl : v6 = _ := h6
    obtain rfl : v7 = _ := h7
    obtain rfl : v8 = _ := h8
    obtain rfl : v9 = _ := h9
    change wpList Tryz.prog _ _ _ _ w1
    refine calm_normal ?_
    have HB := Lib.hid M1.m.bl
    clear M1 S0
    go_wp2_with fail
    go_ret2
    exact ⟨rfl, HB.out⟩

set_option maxHeartbeats 4000000 in
theorem nsmall_high (s : Bool) (A : Option Addr) (n c a : Nat) (z : Int) (w : World) (hx : Row w A n c (digs a)) (hn : n ≤ 1000) (hz : val s a = z) (h : 9223372036854775807 < z) :
    Calls Tryz.prog 29 #[.agg #[.bool s, .slice A n c]] w fun e w' => e = .returned (.tuple #[.int .i64 0, .bool false]) ∧ Below w.heap.size w w' := by
  have S0 := ((Mem.start w).add hx).push #[.bool s, .slice A n c] 45
  obtain ⟨cl, hcl⟩ : ∃ cl, cmpI (val s a) (val true 9223372036854775808) = cl := ⟨_, rfl⟩
  obtain ⟨ch, hch⟩ : ∃ ch, cmpI (val s a) (val false 9223372036854775807) = ch := ⟨_, rfl⟩
  have HCL := Lib.hid hcl
  have HCH := Lib.hid hch
  have HZ := Lib.hid hz
  have tl : 0 ≤ cl := by
    rw [← hcl, hz]
    show 0 ≤ cmpI z (-9223372036854775808)
    by_cases e : z = -9223372036854775808
    · rw [cmpI_eq e]; omega
    · rw [cmpI_gt (by omega)]; omega
  have th : 0 < ch := by rw [← hch, hz, cmpI_gt (by show 9223372036854775807 < z; omega)]; omega
  clear hcl hch hz
  go_enter Tryz.func29, Tryz.ntmps29
  go_upto_region 1 with fail
  refine wp_region_rel 10 (MemAt w (w.heap.size + 1) [(w.heap.size, #[.bool s, .slice A n c])] [(A, n, c, digs a)])
    (fun i => List.getD [VE (.agg #[.bool s, .slice A n c]), VN (true) (9223372036854775808), VE (.int .i64 cl), VE (.bool false), VE (.bool false), VE (.agg #[.bool s, .slice A n c]), VN (false) (9223372036854775807), VE (.int .i64 ch), VE (.bool true), VE (.bool true)] i (fun _ _ => False)) [] [3, 4, 8, 9] (by kernel_rfl) (by kernel_rfl) ⟨S0.drew, by simp⟩ (fun _ _ h hb => h.grow hb)
    (stays_all (stays_cons (stays_VE _) (stays_cons (stays_VN _ _) (stays_cons (stays_VE _) (stays_cons (stays_VE _) (stays_cons (stays_VE _) (stays_cons (stays_VE _) (stays_cons (stays_VN _ _) (stays_cons (stays_VE _) (stays_cons (stays_VE _) (stays_cons (stays_VE _) stays_nil))))))))))) ⟨?_, ?_, ?_, ?_, ?_, ?_, ?_, ?_, ?_, ?_, trivial⟩ ?_
  · intro ev wv hE hw hd
    refine ifw rfl (ifn rfl ?_)
    have v1 : ev (.tmp 1) = .pointer (some ⟨w.heap.size, 0, none⟩) := hE.tmp 1 rfl
    have kx := hw.m.c 0 0 rfl rfl
    have ky := hw.m.c 0 1 rfl rfl
    refine rel_val (u := .agg #[.bool s, .slice A n c]) (w' := wv) ?_ (Below.refl _ _) ⟨rfl, fun h => by cases h⟩
    have e1 := hE.const; clear hE hd hw
    go_simp
  · intro ev wv hE hw hd
    refine ifw rfl (ifn rfl ?_)
    refine rel_call (f := 42) (args := #[.int .i64 (-9223372036854775808)]) ?_ (of_low _) ?_
    · have e0 := hE.func; have e1 := hE.const; clear hE hd hw
      go_simp
    · rintro e w' ⟨A, k, c, rfl, R, hb⟩
      exact ⟨_, rfl, hb, ⟨A, k, c, rfl, R⟩, fun h => by cases h⟩
  · intro ev wv hE hw hd
    refine ifw rfl (ifn rfl ?_)
    have v6 : ev (.tmp 6) = .agg #[.bool s, .slice A n c] := hd 0 (by decide)
    obtain ⟨xA1, xk1, xc1, v7, xR1⟩ : VN (true) (9223372036854775808) (ev (.tmp 7)) wv := hd 1 (by decide)
    refine rel_call (f := 41) (args := #[.agg #[.bool s, .slice A n c], .agg #[.bool (true), .slice xA1 xk1 xc1]]) ?_ (ncmp_any s true _ _ _ _ _ _ a _ _ (hw.m.r 0 rfl) xR1 (by omega) (by have := row_le (k := 7) xR1 (by decide); omega)) ?_
    · have e0 := hE.func; have e1 := hE.const; clear hE hd hw
      go_simp
    · rintro e w' ⟨rfl, hb⟩
      exact ⟨_, rfl, hb, (by rw [HCL.out]; rfl), fun h => by cases h⟩
  · intro ev wv hE hw hd
    refine ifw rfl (ifw rfl ?_)
    have v8 : ev (.tmp 8) = .int .i64 cl := hd 2 (by decide)
    refine ⟨.bool false, fun w => ?_, rfl⟩
    have e1 := hE.const; have e2 := hE.func; clear hE hd hw
    go_simp
  · intro ev wv hE hw hd
    refine ifw rfl (ifw rfl ?_)
    have v9 : ev (.tmp 9) = .bool false := hd 3 (by decide)
    refine ⟨.bool false, fun w => ?_, rfl⟩
    have e1 := hE.const; have e2 := hE.func; clear hE hd hw
    go_simp
  · intro ev wv hE hw hd
    have vg : ev (.tmp 10) = .bool false := hd 4 (by decide)
    refine ifw (by show (yv (ev (.tmp 10)) == some false) = true; rw [vg]; rfl) (ifn rfl ?_)
    clear vg
    have v1 : ev (.tmp 1) = .pointer (some ⟨w.heap.size, 0, none⟩) := hE.tmp 1 rfl
    have kx := hw.m.c 0 0 rfl rfl
    have ky := hw.m.c 0 1 rfl rfl
    refine rel_val (u := .agg #[.bool s, .slice A n c]) (w' := wv) ?_ (Below.refl _ _) ⟨rfl, fun h => by cases h⟩
    have e1 := hE.const; clear hE hd hw
    go_simp
  · intro ev wv hE hw hd
    have vg : ev (.tmp 10) = .bool false := hd 4 (by decide)
    refine ifw (by show (yv (ev (.tmp 10)) == some false) = true; rw [vg]; rfl) (ifn rfl ?_)
    clear vg
    refine rel_call (f := 42) (args := #[.int .i64 9223372036854775807]) ?_ (of_high _) ?_
    · have e0 := hE.func; have e1 := hE.const; clear hE hd hw
      go_simp
    · rintro e w' ⟨A, k, c, rfl, R, hb⟩
      exact ⟨_, rfl, hb, ⟨A, k, c, rfl, R⟩, fun h => by cases h⟩
  · intro ev wv hE hw hd
    have vg : ev (.tmp 10) = .bool false := hd 4 (by decide)
    refine ifw (by show (yv (ev (.tmp 10)) == some false) = true; rw [vg]; rfl) (ifn rfl ?_)
    clear vg
    have v11 : ev (.tmp 11) = .agg #[.bool s, .slice A n c] := hd 5 (by decide)
    obtain ⟨xA6, xk6, xc6, v12, xR6⟩ : VN (false) (9223372036854775807) (ev (.tmp 12)) wv := hd 6 (by decide)
    refine rel_call (f := 41) (args := #[.agg #[.bool s, .slice A n c], .agg #[.bool (false), .slice xA6 xk6 xc6]]) ?_ (ncmp_any s false _ _ _ _ _ _ a _ _ (hw.m.r 0 rfl) xR6 (by omega) (by have := row_le (k := 7) xR6 (by decide); omega)) ?_
    · have e0 := hE.func; have e1 := hE.const; clear hE hd hw
      go_simp
    · rintro e w' ⟨rfl, hb⟩
      exact ⟨_, rfl, hb, (by rw [HCH.out]; rfl), fun h => by cases h⟩
  · intro ev wv hE hw hd
    have vg : ev (.tmp 10) = .bool false := hd 4 (by decide)
    refine ifw (by show (yv (ev (.tmp 10)) == some false) = true; rw [vg]; rfl) (ifw rfl ?_)
    clear vg
    have v13 : ev (.tmp 13) = .int .i64 ch := hd 7 (by decide)
    refine ⟨.bool true, fun w => ?_, rfl⟩
    have e1 := hE.const; have e2 := hE.func; clear hE hd hw
    go_simp
  · intro ev wv hE hw hd
    refine ifw rfl (ifw rfl ?_)
    have v10 : ev (.tmp 10) = .bool false := hd 4 (by decide)
    have v14 : ev (.tmp 14) = .bool true := hd 8 (by decide)
    refine ⟨.bool true, fun w => ?_, rfl⟩
    have e1 := hE.const; have e2 := hE.func; clear hE hd hw
    go_simp
  · intro w1 M1
    intro v0 h0 _ v1 h1 _ v2 h2 _ v3 h3 _ v4 h4 _ v5 h5 _ v6 h6 _ v7 h7 _ v8 h8 _ v9 h9 _
    simp only [Act.put, List.setIfInBounds_toArray, List.set_cons_zero, List.set_cons_succ, List.drop_succ_cons, List.drop_zero]
    obtain rfl : v0 = _ := h0
    obtain ⟨xA1, xk1, xc1, rfl, xR1⟩ : VN (true) (9223372036854775808) v1 w1 := h1
    obtain rfl : v2 = _ := h2
    obtain rfl : v3 = _ := h3
    obtain rfl : v4 = _ := h4
    obtain rfl : v5 = _ := h5
    obtain ⟨xA6, xk6, xc6, rfl, xR6⟩ : VN (false) (9223372036854775807) v6 w1 := h6
    obtain rfl : v7 = _ := h7
    obtain rfl : v8 = _ := h8
    obtain rfl : v9 = _ := h9
    change wpList Tryz.prog _ _ _ _ w1
    refine calm_normal ?_
    have HB := Lib.hid M1.m.bl
    clear M1 S0
    go_wp2_with fail
    go_ret2
    exact ⟨rfl, HB.out⟩

set_option maxHeartbeats 4000000 in
theorem nsmall_pos (A : Option Addr) (n c a : Nat) (z : Int) (w : World) (hx : Row w A n c (digs a)) (hn : n ≤ 1000) (hz : val false a = z) (h : z ≤ 9223372036854775807) :
    Calls Tryz.prog 29 #[.agg #[.bool false, .slice A n c]] w fun e w' => e = .returned (.tuple #[.int .i64 z, .bool true]) ∧ Below w.heap.size w w' := by
  have S0 := ((Mem.start w).add hx).push #[.bool false, .slice A n c] 45
  obtain ⟨cl, hcl⟩ : ∃ cl, cmpI (val false a) (val true 9223372036854775808) = cl := ⟨_, rfl⟩
  obtain ⟨ch, hch⟩ : ∃ ch, cmpI (val false a) (val false 9223372036854775807) = ch := ⟨_, rfl⟩
  have HCL := Lib.hid hcl
  have HCH := Lib.hid hch
  have HZ := Lib.hid hz
  have h' : 0 ≤ z := by rw [← hz]; exact Int.natCast_nonneg _
  have tl : 0 ≤ cl := by
    rw [← hcl, hz]
    show 0 ≤ cmpI z (-9223372036854775808)
    by_cases e : z = -9223372036854775808
    · rw [cmpI_eq e]; omega
    · rw [cmpI_gt (by omega)]; omega
  have th : ch ≤ 0 := by
    rw [← hch, hz]
    show cmpI z 9223372036854775807 ≤ 0
    by_cases e : z = 9223372036854775807
    · rw [cmpI_eq e]; omega
    · rw [cmpI_lt (by omega)]; omega
  have HA := Lib.hid (show (a : Int) ≤ 9223372036854775807 by have : (a : Int) = z := hz; omega)
  clear hcl hch hz
  go_enter Tryz.func29, Tryz.ntmps29
  go_upto_region 1 with fail
  refine wp_region_rel 10 (MemAt w (w.heap.size + 1) [(w.heap.size, #[.bool false, .slice A n c])] [(A, n, c, digs a)])
    (fun i => List.getD [VE (.agg #[.bool false, .slice A n c]), VN (true) (9223372036854775808), VE (.int .i64 cl), VE (.bool false), VE (.bool false), VE (.agg #[.bool false, .slice A n c]), VN (false) (9223372036854775807), VE (.int .i64 ch), VE (.bool false), VE (.bool false)] i (fun _ _ => False)) [] [3, 4, 8, 9] (by kernel_rfl) (by kernel_rfl) ⟨S0.drew, by simp⟩ (fun _ _ h hb => h.grow hb)
    (stays_all (stays_cons (stays_VE _) (stays_cons (stays_VN _ _) (stays_cons (stays_VE _) (stays_cons (stays_VE _) (stays_cons (stays_VE _) (stays_cons (stays_VE _) (stays_cons (stays_VN _ _) (stays_cons (stays_VE _) (stays_cons (stays_VE _) (stays_cons (stays_VE _) stays_nil))))))))))) ⟨?_, ?_, ?_, ?_, ?_, ?_, ?_, ?_, ?_, ?_, trivial⟩ ?_
  · intro ev wv hE hw hd
    refine ifw rfl (ifn rfl ?_)
    have v1 : ev (.tmp 1) = .pointer (some ⟨w.heap.size, 0, none⟩) := hE.tmp 1 rfl
    have kx := hw.m.c 0 0 rfl rfl
    have ky := hw.m.c 0 1 rfl rfl
    refine rel_val (u := .agg #[.bool false, .slice A n c]) (w' := wv) ?_ (Below.refl _ _) ⟨rfl, fun h => by cases h⟩
    have e1 := hE.const; clear hE hd hw
    go_simp
  · intro ev wv hE hw hd
    refine ifw rfl (ifn rfl ?_)
    refine rel_call (f := 42) (args := #[.int .i64 (-9223372036854775808)]) ?_ (of_low _) ?_
    · have e0 := hE.func; have e1 := hE.const; clear hE hd hw
      go_simp
    · rintro e w' ⟨A, k, c, rfl, R, hb⟩
      exact ⟨_, rfl, hb, ⟨A, k, c, rfl, R⟩, fun h => by cases h⟩
  · intro ev wv hE hw hd
    refine ifw rfl (ifn rfl ?_)
    have v6 : ev (.tmp 6) = .agg #[.bool false, .slice A n c] := hd 0 (by decide)
    obtain ⟨xA1, xk1, xc1, v7, xR1⟩ : VN (true) (9223372036854775808) (ev (.tmp 7)) wv := hd 1 (by decide)
    refine rel_call (f := 41) (args := #[.agg #[.bool false, .slice A n c], .agg #[.bool (true), .slice xA1 xk1 xc1]]) ?_ (ncmp_any false true _ _ _ _ _ _ a _ _ (hw.m.r 0 rfl) xR1 (by omega) (by have := row_le (k := 7) xR1 (by decide); omega)) ?_
    · have e0 := hE.func; have e1 := hE.const; clear hE hd hw
      go_simp
    · rintro e w' ⟨rfl, hb⟩
      exact ⟨_, rfl, hb, (by rw [HCL.out]; rfl), fun h => by cases h⟩
  · intro ev wv hE hw hd
    refine ifw rfl (ifw rfl ?_)
    have v8 : ev (.tmp 8) = .int .i64 cl := hd 2 (by decide)
    refine ⟨.bool false, fun w => ?_, rfl⟩
    have e1 := hE.const; have e2 := hE.func; clear hE hd hw
    go_simp
  · intro ev wv hE hw hd
    refine ifw rfl (ifw rfl ?_)
    have v9 : ev (.tmp 9) = .bool false := hd 3 (by decide)
    refine ⟨.bool false, fun w => ?_, rfl⟩
    have e1 := hE.const; have e2 := hE.func; clear hE hd hw
    go_simp
  · intro ev wv hE hw hd
    have vg : ev (.tmp 10) = .bool false := hd 4 (by decide)
    refine ifw (by show (yv (ev (.tmp 10)) == some false) = true; rw [vg]; rfl) (ifn rfl ?_)
    clear vg
    have v1 : ev (.tmp 1) = .pointer (some ⟨w.heap.size, 0, none⟩) := hE.tmp 1 rfl
    have kx := hw.m.c 0 0 rfl rfl
    have ky := hw.m.c 0 1 rfl rfl
    refine rel_val (u := .agg #[.bool false, .slice A n c]) (w' := wv) ?_ (Below.refl _ _) ⟨rfl, fun h => by cases h⟩
    have e1 := hE.const; clear hE hd hw
    go_simp
  · intro ev wv hE hw hd
    have vg : ev (.tmp 10) = .bool false := hd 4 (by decide)
    refine ifw (by show (yv (ev (.tmp 10)) == some false) = true; rw [vg]; rfl) (ifn rfl ?_)
    clear vg
    refine rel_call (f := 42) (args := #[.int .i64 9223372036854775807]) ?_ (of_high _) ?_
    · have e0 := hE.func; have e1 := hE.const; clear hE hd hw
      go_simp
    · rintro e w' ⟨A, k, c, rfl, R, hb⟩
      exact ⟨_, rfl, hb, ⟨A, k, c, rfl, R⟩, fun h => by cases h⟩
  · intro ev wv hE hw hd
    have vg : ev (.tmp 10) = .bool false := hd 4 (by decide)
    refine ifw (by show (yv (ev (.tmp 10)) == some false) = true; rw [vg]; rfl) (ifn rfl ?_)
    clear vg
    have v11 : ev (.tmp 11) = .agg #[.bool false, .slice A n c] := hd 5 (by decide)
    obtain ⟨xA6, xk6, xc6, v12, xR6⟩ : VN (false) (9223372036854775807) (ev (.tmp 12)) wv := hd 6 (by decide)
    refine rel_call (f := 41) (args := #[.agg #[.bool false, .slice A n c], .agg #[.bool (false), .slice xA6 xk6 xc6]]) ?_ (ncmp_any false false _ _ _ _ _ _ a _ _ (hw.m.r 0 rfl) xR6 (by omega) (by have := row_le (k := 7) xR6 (by decide); omega)) ?_
    · have e0 := hE.func; have e1 := hE.const; clear hE hd hw
      go_simp
    · rintro e w' ⟨rfl, hb⟩
      exact ⟨_, rfl, hb, (by rw [HCH.out]; rfl), fun h => by cases h⟩
  · intro ev wv hE hw hd
    have vg : ev (.tmp 10) = .bool false := hd 4 (by decide)
    refine ifw (by show (yv (ev (.tmp 10)) == some false) = true; rw [vg]; rfl) (ifw rfl ?_)
    clear vg
    have v13 : ev (.tmp 13) = .int .i64 ch := hd 7 (by decide)
    refine ⟨.bool false, fun w => ?_, rfl⟩
    have e1 := hE.const; have e2 := hE.func; clear hE hd hw
    go_simp
  · intro ev wv hE hw hd
    refine ifw rfl (ifw rfl ?_)
    have v10 : ev (.tmp 10) = .bool false := hd 4 (by decide)
    have v14 : ev (.tmp 14) = .bool false := hd 8 (by decide)
    refine ⟨.bool false, fun w => ?_, rfl⟩
    have e1 := hE.const; have e2 := hE.func; clear hE hd hw
    go_simp
  · intro w1 M1
    intro v0 h0 _ v1 h1 _ v2 h2 _ v3 h3 _ v4 h4 _ v5 h5 _ v6 h6 _ v7 h7 _ v8 h8 _ v9 h9 _
    simp only [Act.put, List.setIfInBounds_toArray, List.set_cons_zero, List.set_cons_succ, List.drop_succ_cons, List.drop_zero]
    obtain rfl : v0 = _ := h0
    obtain ⟨xA1, xk1, xc1, rfl, xR1⟩ : VN (true) (9223372036854775808) v1 w1 := h1
    obtain rfl : v2 = _ := h2
    obtain rfl : v3 = _ := h3
    obtain rfl : v4 = _ := h4
    obtain rfl : v5 = _ := h5
    obtain ⟨xA6, xk6, xc6, rfl, xR6⟩ : VN (false) (9223372036854775807) v6 w1 := h6
    obtain rfl : v7 = _ := h7
    obtain rfl : v8 = _ := h8
    obtain rfl : v9 = _ := h9
    change wpList Tryz.prog _ _ _ _ w1
    refine calm_normal ?_
    have HB := Lib.hid M1.m.bl
    have x0 := M1.m.c 0 0 rfl rfl; have x1 := M1.m.c 0 1 rfl rfl
    have hX := M1.m.r 0 rfl
    clear M1 S0
    go_wp2_with fail
    go_loop [4, 5] (fun v t => ∃ (k : Nat) (N : Int), t = .int .i64 ((k : Int) - 1) ∧ v = .int .i64 N ∧ k ≤ n ∧ N = (dv ((digs a).drop k) : Int)) (fun _ t => ((intOf t) + 1).toNat)
    case atStart => exact ⟨n, 0, rfl, rfl, Nat.le_refl _, by rw [List.drop_of_length_le (by rw [hX.len]; exact Nat.le_refl _)]; rfl⟩
    case round =>
      obtain ⟨k, N, rfl, rfl, hk, hN⟩ := hrel
      have HN := Lib.hid hN
      have n0 : 0 ≤ N := by rw [hN]; omega
      clear hN
      by_cases h0 : k = 0
      · subst h0
        have HE := Lib.hid (show N = z by have := HN.out; rw [List.drop_zero, dv_digs] at this; rw [this, ← HZ.out]; rfl)
        go_wp2_with fail
        go_ret2
        exact ⟨ret_intbool HE.out rfl, HB.out⟩
      · obtain ⟨i, rfl⟩ : ∃ i, k = i + 1 := ⟨k - 1, by omega⟩
        clear h0
        obtain ⟨g, off, x, hA, hxk, hx1, hxc⟩ := hX.get (digs_lt a) (k := i) (by omega)
        subst hA
        have cx := hxc _ (Below.refl _ _)
        clear hxc
        have hd := dv_drop hxk
        have hle := dv_drop_le (digs a) i
        have b1 : N * 1000 + (x : Int) ≤ 9223372036854775807 := by have h1 := HN.out; have h2 := HA.out; rw [dv_digs] at hle; omega
        have HX := Lib.hid (show N * 1000 + (x : Int) = (dv ((digs a).drop i) : Int) by have h1 := HN.out; omega)
        clear hd hle hxk
        generalize hxx : (x : Int) = X at *
        have q0 : 0 ≤ X := by omega
        have q1 : X < 1000 := by omega
        clear hxx
        simp only [show (((i + 1 : Nat) : Nat) : Int) - 1 = (i : Int) by omega]
        go_wp2_with fail
        go_round
        case rel => exact ⟨i, N * 1000 + X, rfl, rfl, by omega, HX.out⟩
        case measure => simp [intOf]

set_option maxHeartbeats 4000000 in
theorem nsmall_neg (A : Option Addr) (n c a : Nat) (z : Int) (w : World) (hx : Row w A n c (digs a)) (hn : n ≤ 1000) (hz : val true a = z) (h : -9223372036854775808 ≤ z) :
    Calls Tryz.prog 29 #[.agg #[.bool true, .slice A n c]] w fun e w' => e = .returned (.tuple #[.int .i64 z, .bool true]) ∧ Below w.heap.size w w' := by
  have S0 := ((Mem.start w).add hx).push #[.bool true, .slice A n c] 45
  obtain ⟨cl, hcl⟩ : ∃ cl, cmpI (val true a) (val true 9223372036854775808) = cl := ⟨_, rfl⟩
  obtain ⟨ch, hch⟩ : ∃ ch, cmpI (val true a) (val false 9223372036854775807) = ch := ⟨_, rfl⟩
  have HCL := Lib.hid hcl
  have HCH := Lib.hid hch
  have HZ := Lib.hid hz
  have h' : z ≤ 0 := by rw [← hz]; show -(a : Int) ≤ 0; omega
  have tl : 0 ≤ cl := by
    rw [← hcl, hz]
    show 0 ≤ cmpI z (-9223372036854775808)
    by_cases e : z = -9223372036854775808
    · rw [cmpI_eq e]; omega
    · rw [cmpI_gt (by omega)]; omega
  have th : ch ≤ 0 := by
    rw [← hch, hz]
    show cmpI z 9223372036854775807 ≤ 0
    by_cases e : z = 9223372036854775807
    · rw [cmpI_eq e]; omega
    · rw [cmpI_lt (by omega)]; omega
  have HA := Lib.hid (show (a : Int) ≤ 9223372036854775808 by have : -(a : Int) = z := hz; omega)
  clear hcl hch hz
  go_enter Tryz.func29, Tryz.ntmps29
  go_upto_region 1 with fail
  refine wp_region_rel 10 (MemAt w (w.heap.size + 1) [(w.heap.size, #[.bool true, .slice A n c])] [(A, n, c, digs a)])
    (fun i => List.getD [VE (.agg #[.bool true, .slice A n c]), VN (true) (9223372036854775808), VE (.int .i64 cl), VE (.bool false), VE (.bool false), VE (.agg #[.bool true, .slice A n c]), VN (false) (9223372036854775807), VE (.int .i64 ch), VE (.bool false), VE (.bool false)] i (fun _ _ => False)) [] [3, 4, 8, 9] (by kernel_rfl) (by kernel_rfl) ⟨S0.drew, by simp⟩ (fun _ _ h hb => h.grow hb)
    (stays_all (stays_cons (stays_VE _) (stays_cons (stays_VN _ _) (stays_cons (stays_VE _) (stays_cons (stays_VE _) (stays_cons (stays_VE _) (stays_cons (stays_VE _) (stays_cons (stays_VN _ _) (stays_cons (stays_VE _) (stays_cons (stays_VE _) (stays_cons (stays_VE _) stays_nil))))))))))) ⟨?_, ?_, ?_, ?_, ?_, ?_, ?_, ?_, ?_, ?_, trivial⟩ ?_
  · intro ev wv hE hw hd
    refine ifw rfl (ifn rfl ?_)
    have v1 : ev (.tmp 1) = .pointer (some ⟨w.heap.size, 0, none⟩) := hE.tmp 1 rfl
    have kx := hw.m.c 0 0 rfl rfl
    have ky := hw.m.c 0 1 rfl rfl
    refine rel_val (u := .agg #[.bool true, .slice A n c]) (w' := wv) ?_ (Below.refl _ _) ⟨rfl, fun h => by cases h⟩
    have e1 := hE.const; clear hE hd hw
    go_simp
  · intro ev wv hE hw hd
    refine ifw rfl (ifn rfl ?_)
    refine rel_call (f := 42) (args := #[.int .i64 (-9223372036854775808)]) ?_ (of_low _) ?_
    · have e0 := hE.func; have e1 := hE.const; clear hE hd hw
      go_simp
    · rintro e w' ⟨A, k, c, rfl, R, hb⟩
      exact ⟨_, rfl, hb, ⟨A, k, c, rfl, R⟩, fun h => by cases h⟩
  · intro ev wv hE hw hd
    refine ifw rfl (ifn rfl ?_)
    have v6 : ev (.tmp 6) = .agg #[.bool true, .slice A n c] := hd 0 (by decide)
    obtain ⟨xA1, xk1, xc1, v7, xR1⟩ : VN (true) (9223372036854775808) (ev (.tmp 7)) wv := hd 1 (by decide)
    refine rel_call (f := 41) (args := #[.agg #[.bool true, .slice A n c], .agg #[.bool (true), .slice xA1 xk1 xc1]]) ?_ (ncmp_any true true _ _ _ _ _ _ a _ _ (hw.m.r 0 rfl) xR1 (by omega) (by have := row_le (k := 7) xR1 (by decide); omega)) ?_
    · have e0 := hE.func; have e1 := hE.const; clear hE hd hw
      go_simp
    · rintro e w' ⟨rfl, hb⟩
      exact ⟨_, rfl, hb, (by rw [HCL.out]; rfl), fun h => by cases h⟩
  · intro ev wv hE hw hd
    refine ifw rfl (ifw rfl ?_)
    have v8 : ev (.tmp 8) = .int .i64 cl := hd 2 (by decide)
    refine ⟨.bool false, fun w => ?_, rfl⟩
    have e1 := hE.const; have e2 := hE.func; clear hE hd hw
    go_simp
  · intro ev wv hE hw hd
    refine ifw rfl (ifw rfl ?_)
    have v9 : ev (.tmp 9) = .bool false := hd 3 (by decide)
    refine ⟨.bool false, fun w => ?_, rfl⟩
    have e1 := hE.const; have e2 := hE.func; clear hE hd hw
    go_simp
  · intro ev wv hE hw hd
    have vg : ev (.tmp 10) = .bool false := hd 4 (by decide)
    refine ifw (by show (yv (ev (.tmp 10)) == some false) = true; rw [vg]; rfl) (ifn rfl ?_)
    clear vg
    have v1 : ev (.tmp 1) = .pointer (some ⟨w.heap.size, 0, none⟩) := hE.tmp 1 rfl
    have kx := hw.m.c 0 0 rfl rfl
    have ky := hw.m.c 0 1 rfl rfl
    refine rel_val (u := .agg #[.bool true, .slice A n c]) (w' := wv) ?_ (Below.refl _ _) ⟨rfl, fun h => by cases h⟩
    have e1 := hE.const; clear hE hd hw
    go_simp
  · intro ev wv hE hw hd
    have vg : ev (.tmp 10) = .bool false := hd 4 (by decide)
    refine ifw (by show (yv (ev (.tmp 10)) == some false) = true; rw [vg]; rfl) (ifn rfl ?_)
    clear vg
    refine rel_call (f := 42) (args := #[.int .i64 9223372036854775807]) ?_ (of_high _) ?_
    · have e0 := hE.func; have e1 := hE.const; clear hE hd hw
      go_simp
    · rintro e w' ⟨A, k, c, rfl, R, hb⟩
      exact ⟨_, rfl, hb, ⟨A, k, c, rfl, R⟩, fun h => by cases h⟩
  · intro ev wv hE hw hd
    have vg : ev (.tmp 10) = .bool false := hd 4 (by decide)
    refine ifw (by show (yv (ev (.tmp 10)) == some false) = true; rw [vg]; rfl) (ifn rfl ?_)
    clear vg
    have v11 : ev (.tmp 11) = .agg #[.bool true, .slice A n c] := hd 5 (by decide)
    obtain ⟨xA6, xk6, xc6, v12, xR6⟩ : VN (false) (9223372036854775807) (ev (.tmp 12)) wv := hd 6 (by decide)
    refine rel_call (f := 41) (args := #[.agg #[.bool true, .slice A n c], .agg #[.bool (false), .slice xA6 xk6 xc6]]) ?_ (ncmp_any true false _ _ _ _ _ _ a _ _ (hw.m.r 0 rfl) xR6 (by omega) (by have := row_le (k := 7) xR6 (by decide); omega)) ?_
    · have e0 := hE.func; have e1 := hE.const; clear hE hd hw
      go_simp
    · rintro e w' ⟨rfl, hb⟩
      exact ⟨_, rfl, hb, (by rw [HCH.out]; rfl), fun h => by cases h⟩
  · intro ev wv hE hw hd
    have vg : ev (.tmp 10) = .bool false := hd 4 (by decide)
    refine ifw (by show (yv (ev (.tmp 10)) == some false) = true; rw [vg]; rfl) (ifw rfl ?_)
    clear vg
    have v13 : ev (.tmp 13) = .int .i64 ch := hd 7 (by decide)
    refine ⟨.bool false, fun w => ?_, rfl⟩
    have e1 := hE.const; have e2 := hE.func; clear hE hd hw
    go_simp
  · intro ev wv hE hw hd
    refine ifw rfl (ifw rfl ?_)
    have v10 : ev (.tmp 10) = .bool false := hd 4 (by decide)
    have v14 : ev (.tmp 14) = .bool false := hd 8 (by decide)
    refine ⟨.bool false, fun w => ?_, rfl⟩
    have e1 := hE.const; have e2 := hE.func; clear hE hd hw
    go_simp
  · intro w1 M1
    intro v0 h0 _ v1 h1 _ v2 h2 _ v3 h3 _ v4 h4 _ v5 h5 _ v6 h6 _ v7 h7 _ v8 h8 _ v9 h9 _
    simp only [Act.put, List.setIfInBounds_toArray, List.set_cons_zero, List.set_cons_succ, List.drop_succ_cons, List.drop_zero]
    obtain rfl : v0 = _ := h0
    obtain ⟨xA1, xk1, xc1, rfl, xR1⟩ : VN (true) (9223372036854775808) v1 w1 := h1
    obtain rfl : v2 = _ := h2
    obtain rfl : v3 = _ := h3
    obtain rfl : v4 = _ := h4
    obtain rfl : v5 = _ := h5
    obtain ⟨xA6, xk6, xc6, rfl, xR6⟩ : VN (false) (9223372036854775807) v6 w1 := h6
    obtain rfl : v7 = _ := h7
    obtain rfl : v8 = _ := h8
    obtain rfl : v9 = _ := h9
    change wpList Tryz.prog _ _ _ _ w1
    refine calm_normal ?_
    have HB := Lib.hid M1.m.bl
    have x0 := M1.m.c 0 0 rfl rfl; have x1 := M1.m.c 0 1 rfl rfl
    have hX := M1.m.r 0 rfl
    clear M1 S0
    go_wp2_with fail
    go_loop [4, 5] (fun v t => ∃ (k : Nat) (N : Int), t = .int .i64 ((k : Int) - 1) ∧ v = .int .i64 N ∧ k ≤ n ∧ N = -(dv ((digs a).drop k) : Int)) (fun _ t => ((intOf t) + 1).toNat)
    case atStart => exact ⟨n, 0, rfl, rfl, Nat.le_refl _, by rw [List.drop_of_length_le (by rw [hX.len]; exact Nat.le_refl _)]; rfl⟩
    case round =>
      obtain ⟨k, N, rfl, rfl, hk, hN⟩ := hrel
      have HN := Lib.hid hN
      have n0 : N ≤ 0 := by rw [hN]; omega
      clear hN
      by_cases h0 : k = 0
      · subst h0
        have HE := Lib.hid (show N = z by have := HN.out; rw [List.drop_zero, dv_digs] at this; rw [this, ← HZ.out]; rfl)
        go_wp2_with fail
        go_ret2
        exact ⟨ret_intbool HE.out rfl, HB.out⟩
      · obtain ⟨i, rfl⟩ : ∃ i, k = i + 1 := ⟨k - 1, by omega⟩
        clear h0
        obtain ⟨g, off, x, hA, hxk, hx1, hxc⟩ := hX.get (digs_lt a) (k := i) (by omega)
        subst hA
        have cx := hxc _ (Below.refl _ _)
        clear hxc
        have hd := dv_drop hxk
        have hle := dv_drop_le (digs a) i
        have b1 : -9223372036854775808 ≤ N * 1000 - (x : Int) := by have h1 := HN.out; have h2 := HA.out; rw [dv_digs] at hle; omega
        have HX := Lib.hid (show N * 1000 - (x : Int) = -(dv ((digs a).drop i) : Int) by have h1 := HN.out; omega)
        clear hd hle hxk
        generalize hxx : (x : Int) = X at *
        have q0 : 0 ≤ X := by omega
        have q1 : X < 1000 := by omega
        clear hxx
        simp only [show (((i + 1 : Nat) : Nat) : Int) - 1 = (i : Int) by omega]
        go_wp2_with fail
        go_round
        case rel => exact ⟨i, N * 1000 - X, rfl, rfl, by omega, HX.out⟩
        case measure => simp [intOf]
end Go.Proofs.YtfceoehfellpgaaGreatDoor

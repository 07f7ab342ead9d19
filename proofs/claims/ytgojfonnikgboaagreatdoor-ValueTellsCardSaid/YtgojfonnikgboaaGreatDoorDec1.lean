/- Contracts of corrodyref02: Units, Near. (Written by wip/gen/gendec1.py.) -/
import Derived.Test.YtgojfonnikgboaaGreatDoorRef16
import Derived.Test.YtgojfonnikgboaaGreatDoorDecMath
namespace Go.Proofs.YtgojfonnikgboaaGreatDoor
set_option maxRecDepth 8000
open Go.RowKit Corr
set_option linter.unusedVariables false
theorem neven_z (b b2 : Bool) (A B : Option Addr) (n m ca cb : Nat) (z : Int) (d : Nat) (z2 : Int) (w : World) (hx : Row w A n ca (digs z.natAbs)) (hy : Row w B m cb (digs d)) (hn : n ≤ 1000) (hm : m ≤ 1000) (h0 : 0 < d) (hb : negB z = b) (hz : evZ z d = z2) (hb2 : negB z2 = b2) :
    Calls Tryz.prog 71 #[.agg #[.bool b, .slice A n ca], .agg #[.bool false, .slice B m cb]] w (RetN w b2 (digs z2.natAbs)) := by
  have hv : val b z.natAbs = z := by rw [← hb]; exact val_neg z
  obtain ⟨r, hr⟩ : ∃ r : Nat, z % (d : Int) = r := ⟨(z % (d : Int)).toNat, by have := Int.emod_nonneg z (show (d : Int) ≠ 0 by omega); omega⟩
  subst hb2
  unfold evZ at hz
  by_cases h : d < r + r ∨ (r + r = d ∧ (z / (d : Int)) % 2 = 1)
  · rw [if_pos (by rw [hr]; omega)] at hz
    rw [← hz]
    exact neven_up b A B n m ca cb z.natAbs d w hx hy hn hm h0 _ r (by rw [hv]) (by rw [hv]; exact hr) h
  · rw [if_neg (by rw [hr]; omega)] at hz
    rw [← hz]
    exact neven_no b A B n m ca cb z.natAbs d w hx hy hn hm h0 _ r (by rw [hv]) (by rw [hv]; exact hr) h
theorem abs7' {a : Int} (a1 : -9223372036854775808 ≤ a) (a2 : a ≤ 9223372036854775807) : a.natAbs < 1000 ^ 7 :=
  Nat.lt_of_le_of_lt (show a.natAbs ≤ 9223372036854775808 by omega) (by decide)

set_option maxHeartbeats 2000000 in
theorem nunits_any (C : Int) (S : Nat) (z : Int) (w : World) (hC1 : -9223372036854775808 ≤ C) (hC2 : C ≤ 9223372036854775807) (hS : S ≤ 9) (hz : C * ((10 ^ (18 - S) : Nat) : Int) = z) :
    Calls Tryz.prog 43 #[.agg #[.int .i64 C, .int .i64 (S : Int)]] w (RetN w (negB z) (digs z.natAbs)) := by
  have S0 := ((Mem.start w).push #[.int .i64 C, .int .i64 (S : Int)] 23).push #[.bool false, .slice none 0 0] 52
  simp only [size_alloc] at S0
  have HK := Lib.hid (abs7' hC1 hC2)
  have HZ := Lib.hid (show val (negB C) C.natAbs * val false (10 ^ (18 - S)) = z by rw [val_neg]; exact hz)
  have hs1 : (18 : Int) - (S : Int) = ((18 - S : Nat) : Int) := by omega
  have hs2 : IntKind.i64.wrap ((18 - S : Nat) : Int) = ((18 - S : Nat) : Int) := IntWalk.i64_in _ (by omega)
  clear hz
  go_enter Tryz.func43, Tryz.ntmps43
  go_upto_region 1 with fail
  refine wp_region_rel 8 (MemAt w (w.heap.size + 1 + 1) [(w.heap.size, #[.int .i64 C, .int .i64 (S : Int)]), (w.heap.size + 1, #[.bool false, .slice none 0 0])] [])
    (fun i => List.getD [VE (.pointer (some ⟨w.heap.size, 0, none⟩)), VE (.int .i64 C), VN (negB C) (C.natAbs), VE (.pointer (some ⟨w.heap.size, 1, none⟩)), VE (.int .i64 (S : Int)), VE (.int .i64 ((18 - S : Nat) : Int)), VN (false) (10 ^ (18 - S)), VN (negB z) (z.natAbs)] i (fun _ _ => False)) [] [0, 3, 5] (by kernel_rfl) (by kernel_rfl) ⟨S0.drew, by simp⟩ (fun _ _ h hb => h.grow hb)
    (stays_all (stays_cons (stays_VE _) (stays_cons (stays_VE _) (stays_cons (stays_VN _ _) (stays_cons (stays_VE _) (stays_cons (stays_VE _) (stays_cons (stays_VE _) (stays_cons (stays_VN _ _) (stays_cons (stays_VN _ _) stays_nil))))))))) ⟨?_, ?_, ?_, ?_, ?_, ?_, ?_, ?_, trivial⟩ ?_
  · intro ev wv hE hw hd
    refine ifw rfl (ifw rfl ?_)
    have v1 : ev (.tmp 1) = .pointer (some ⟨w.heap.size, 0, none⟩) := hE.tmp 1 rfl
    refine ⟨.pointer (some ⟨w.heap.size, 0, none⟩), fun w => ?_, rfl⟩
    have e1 := hE.const; have e2 := hE.func; clear hE hd hw
    go_simp
  · intro ev wv hE hw hd
    refine ifw rfl (ifn rfl ?_)
    have v3 : ev (.tmp 3) = .pointer (some ⟨w.heap.size, 0, none⟩) := hd 0 (by decide)
    have kx := hw.m.c 0 0 rfl rfl
    refine rel_val (u := .int .i64 C) (w' := wv) ?_ (Below.refl _ _) ⟨rfl, fun h => by cases h⟩
    have e1 := hE.const; clear hE hd hw
    go_simp
  · intro ev wv hE hw hd
    refine ifw rfl (ifn rfl ?_)
    have v4 : ev (.tmp 4) = .int .i64 C := hd 1 (by decide)
    refine rel_call (f := 29) (args := #[.int .i64 C]) ?_ (nof_any C _ hC1 hC2) ?_
    · have e0 := hE.func; have e1 := hE.const; clear hE hd hw
      go_simp
    · rintro e w' ⟨A, k, c, rfl, R, hb⟩
      exact ⟨_, rfl, hb, ⟨A, k, c, rfl, R⟩, fun h => by cases h⟩
  · intro ev wv hE hw hd
    refine ifw rfl (ifw rfl ?_)
    have v1 : ev (.tmp 1) = .pointer (some ⟨w.heap.size, 0, none⟩) := hE.tmp 1 rfl
    refine ⟨.pointer (some ⟨w.heap.size, 1, none⟩), fun w => ?_, rfl⟩
    have e1 := hE.const; have e2 := hE.func; clear hE hd hw
    go_simp
  · intro ev wv hE hw hd
    refine ifw rfl (ifn rfl ?_)
    have v6 : ev (.tmp 6) = .pointer (some ⟨w.heap.size, 1, none⟩) := hd 3 (by decide)
    have kx := hw.m.c 0 1 rfl rfl
    refine rel_val (u := .int .i64 (S : Int)) (w' := wv) ?_ (Below.refl _ _) ⟨rfl, fun h => by cases h⟩
    have e1 := hE.const; clear hE hd hw
    go_simp
  · intro ev wv hE hw hd
    refine ifw rfl (ifw rfl ?_)
    have v7 : ev (.tmp 7) = .int .i64 (S : Int) := hd 4 (by decide)
    refine ⟨.int .i64 ((18 - S : Nat) : Int), fun w => ?_, rfl⟩
    have e1 := hE.const; have e2 := hE.func; clear hE hd hw
    go_simp
  · intro ev wv hE hw hd
    refine ifw rfl (ifn rfl ?_)
    have v8 : ev (.tmp 8) = .int .i64 ((18 - S : Nat) : Int) := hd 5 (by decide)
    refine rel_call (f := 72) (args := #[.int .i64 ((18 - S : Nat) : Int)]) ?_ (nten_any (18 - S) _ (by omega)) ?_
    · have e0 := hE.func; have e1 := hE.const; clear hE hd hw
      go_simp
    · rintro e w' ⟨A, k, c, rfl, R, hb⟩
      exact ⟨_, rfl, hb, ⟨A, k, c, rfl, R⟩, fun h => by cases h⟩
  · intro ev wv hE hw hd
    refine ifw rfl (ifn rfl ?_)
    obtain ⟨xA2, xk2, xc2, v5, xR2⟩ : VN (negB C) (C.natAbs) (ev (.tmp 5)) wv := hd 2 (by decide)
    obtain ⟨xA6, xk6, xc6, v9, xR6⟩ : VN (false) (10 ^ (18 - S)) (ev (.tmp 9)) wv := hd 6 (by decide)
    refine rel_call (f := 45) (args := #[.agg #[.bool (negB C), .slice xA2 xk2 xc2], .agg #[.bool (false), .slice xA6 xk6 xc6]]) ?_ (nmul_any _ _ _ _ _ _ _ _ C.natAbs (10 ^ (18 - S)) z _ xR2 xR6 (by have := row_le (k := 7) xR2 HK.out; omega) (by have := xR6.len; have := ten_len (k := 18 - S) (by omega); omega) HZ.out) ?_
    · have e0 := hE.func; have e1 := hE.const; clear hE hd hw
      go_simp
    · rintro e w' ⟨A, k, c, rfl, R, hb⟩
      exact ⟨_, rfl, hb, ⟨A, k, c, rfl, R⟩, fun h => by cases h⟩
  · intro w1 M1
    intro v0 h0 _ v1 h1 _ v2 h2 _ v3 h3 _ v4 h4 _ v5 h5 _ v6 h6 _ v7 h7 _
    simp only [Act.put, List.setIfInBounds_toArray, List.set_cons_zero, List.set_cons_succ, List.drop_succ_cons, List.drop_zero]
    obtain rfl : v0 = _ := h0
    obtain rfl : v1 = _ := h1
    obtain ⟨xA2, xk2, xc2, rfl, xR2⟩ : VN (negB C) (C.natAbs) v2 w1 := h2
    obtain rfl : v3 = _ := h3
    obtain rfl : v4 = _ := h4
    obtain rfl : v5 = _ := h5
    obtain ⟨xA6, xk6, xc6, rfl, xR6⟩ : VN (false) (10 ^ (18 - S)) v6 w1 := h6
    obtain ⟨xA7, xk7, xc7, rfl, xR7⟩ : VN (negB z) (z.natAbs) v7 w1 := h7
    change wpList Tryz.prog _ _ _ _ w1
    have za := M1.m.c 1 0 rfl rfl; have zb := M1.m.c 1 1 rfl rfl; have zc := M1.m.f 1 0 rfl; have zd := M1.m.f 1 1 rfl
    have HF := Lib.hid ((M1.m.add xR7).put2 1 rfl rfl (.bool (negB z)) (.slice xA7 xk7 xc7) rfl)
    clear xR2 xR6 xR7 M1 S0
    go_wp2_with fail
    refine calm_normal ?_
    go_wp2_with fail
    exact bodyPost_ret (v := .agg #[.bool (negB z), .slice xA7 xk7 xc7]) (by simp [results, Tryz.results43, go_sem, za, zb]) rfl ⟨xA7, xk7, xc7, rfl, HF.out.r 0 rfl, HF.out.bl⟩

set_option maxHeartbeats 2000000 in
theorem nnear_any (b b2 : Bool) (A : Option Addr) (n c s : Nat) (z z2 : Int) (w : World) (hx : Row w A n c (digs z.natAbs)) (hn : n ≤ 1000) (hs : s ≤ 18) (hb : negB z = b) (hz : evZ z (10 ^ (18 - s)) = z2) (hb2 : negB z2 = b2) :
    Calls Tryz.prog 42 #[.agg #[.bool b, .slice A n c], .int .i64 (s : Int)] w (RetN w b2 (digs z2.natAbs)) := by
  have S0 := (((Mem.start w).add hx).push #[.bool b, .slice A n c] 52).push #[.bool false, .slice none 0 0] 52
  simp only [size_alloc] at S0
  have HB := Lib.hid hb
  have HZ := Lib.hid hz
  have HB2 := Lib.hid hb2
  have hs1 : (18 : Int) - (s : Int) = ((18 - s : Nat) : Int) := by omega
  have hs2 : IntKind.i64.wrap ((18 - s : Nat) : Int) = ((18 - s : Nat) : Int) := IntWalk.i64_in _ (by omega)
  clear hz hb hb2
  go_enter Tryz.func42, Tryz.ntmps42
  go_upto_region 1 with fail
  refine wp_region_rel 5 (MemAt w (w.heap.size + 1 + 1) [(w.heap.size, #[.bool b, .slice A n c]), (w.heap.size + 1, #[.bool false, .slice none 0 0])] [(A, n, c, digs z.natAbs)])
    (fun i => List.getD [VE (.agg #[.bool b, .slice A n c]), VE (.int .i64 (s : Int)), VE (.int .i64 ((18 - s : Nat) : Int)), VN (false) (10 ^ (18 - s)), VN (b2) (z2.natAbs)] i (fun _ _ => False)) [] [1, 2] (by kernel_rfl) (by kernel_rfl) ⟨S0.drew, by simp⟩ (fun _ _ h hb => h.grow hb)
    (stays_all (stays_cons (stays_VE _) (stays_cons (stays_VE _) (stays_cons (stays_VE _) (stays_cons (stays_VN _ _) (stays_cons (stays_VN _ _) stays_nil)))))) ⟨?_, ?_, ?_, ?_, ?_, trivial⟩ ?_
  · intro ev wv hE hw hd
    refine ifw rfl (ifn rfl ?_)
    have v2 : ev (.tmp 2) = .pointer (some ⟨w.heap.size, 0, none⟩) := hE.tmp 2 rfl
    have kx := hw.m.c 0 0 rfl rfl
    have ky := hw.m.c 0 1 rfl rfl
    refine rel_val (u := .agg #[.bool b, .slice A n c]) (w' := wv) ?_ (Below.refl _ _) ⟨rfl, fun h => by cases h⟩
    have e1 := hE.const; clear hE hd hw
    go_simp
  · intro ev wv hE hw hd
    refine ifw rfl (ifw rfl ?_)
    have v1 : ev (.tmp 1) = .int .i64 (s : Int) := hE.tmp 1 rfl
    refine ⟨.int .i64 (s : Int), fun w => ?_, rfl⟩
    have e1 := hE.const; have e2 := hE.func; clear hE hd hw
    go_simp
  · intro ev wv hE hw hd
    refine ifw rfl (ifw rfl ?_)
    have v6 : ev (.tmp 6) = .int .i64 (s : Int) := hd 1 (by decide)
    refine ⟨.int .i64 ((18 - s : Nat) : Int), fun w => ?_, rfl⟩
    have e1 := hE.const; have e2 := hE.func; clear hE hd hw
    go_simp
  · intro ev wv hE hw hd
    refine ifw rfl (ifn rfl ?_)
    have v7 : ev (.tmp 7) = .int .i64 ((18 - s : Nat) : Int) := hd 2 (by decide)
    refine rel_call (f := 72) (args := #[.int .i64 ((18 - s : Nat) : Int)]) ?_ (nten_any (18 - s) _ (by omega)) ?_
    · have e0 := hE.func; have e1 := hE.const; clear hE hd hw
      go_simp
    · rintro e w' ⟨A, k, c, rfl, R, hb⟩
      exact ⟨_, rfl, hb, ⟨A, k, c, rfl, R⟩, fun h => by cases h⟩
  · intro ev wv hE hw hd
    refine ifw rfl (ifn rfl ?_)
    have v5 : ev (.tmp 5) = .agg #[.bool b, .slice A n c] := hd 0 (by decide)
    obtain ⟨xA3, xk3, xc3, v8, xR3⟩ : VN (false) (10 ^ (18 - s)) (ev (.tmp 8)) wv := hd 3 (by decide)
    refine rel_call (f := 71) (args := #[.agg #[.bool b, .slice A n c], .agg #[.bool (false), .slice xA3 xk3 xc3]]) ?_ (neven_z b b2 _ _ _ _ _ _ z (10 ^ (18 - s)) z2 _ (hw.m.r 0 rfl) xR3 hn (by have := xR3.len; have := ten_len (k := 18 - s) (by omega); omega) (Nat.pow_pos (by omega)) HB.out HZ.out HB2.out) ?_
    · have e0 := hE.func; have e1 := hE.const; clear hE hd hw
      go_simp
    · rintro e w' ⟨A, k, c, rfl, R, hb⟩
      exact ⟨_, rfl, hb, ⟨A, k, c, rfl, R⟩, fun h => by cases h⟩
  · intro w1 M1
    intro v0 h0 _ v1 h1 _ v2 h2 _ v3 h3 _ v4 h4 _
    simp only [Act.put, List.setIfInBounds_toArray, List.set_cons_zero, List.set_cons_succ, List.drop_succ_cons, List.drop_zero]
    obtain rfl : v0 = _ := h0
    obtain rfl : v1 = _ := h1
    obtain rfl : v2 = _ := h2
    obtain ⟨xA3, xk3, xc3, rfl, xR3⟩ : VN (false) (10 ^ (18 - s)) v3 w1 := h3
    obtain ⟨xA4, xk4, xc4, rfl, xR4⟩ : VN (b2) (z2.natAbs) v4 w1 := h4
    change wpList Tryz.prog _ _ _ _ w1
    have za := M1.m.c 1 0 rfl rfl; have zb := M1.m.c 1 1 rfl rfl; have zc := M1.m.f 1 0 rfl; have zd := M1.m.f 1 1 rfl
    have HF := Lib.hid ((M1.m.add xR4).put2 1 rfl rfl (.bool b2) (.slice xA4 xk4 xc4) rfl)
    clear xR3 xR4 M1 S0
    go_wp2_with fail
    refine calm_normal ?_
    go_wp2_with fail
    exact bodyPost_ret (v := .agg #[.bool b2, .slice xA4 xk4 xc4]) (by simp [results, Tryz.results42, go_sem, za, zb]) rfl ⟨xA4, xk4, xc4, rfl, HF.out.r 1 rfl, HF.out.bl⟩
end Go.Proofs.YtgojfonnikgboaaGreatDoor

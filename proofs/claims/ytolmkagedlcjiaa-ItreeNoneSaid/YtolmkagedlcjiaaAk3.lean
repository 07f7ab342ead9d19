/- Contracts of cmp.Compare, cmp.Or and of package avl: order. (Written by wip/gen/genak3.py.) -/
import Derived.Test.YtolmkagedlcjiaaAkMem
import Derived.Test.YtolmkagedlcjiaaRowRel
import Derived.BigQuiet
namespace Corr
set_option maxRecDepth 8000
open Go Go.RowKit
def cmpZ (a b : Int) : Int := if a < b then -1 else if b < a then 1 else 0
def orI (a b c : Int) : Int := if a = 0 then (if b = 0 then c else b) else a
def ordI (x y : It) : Int := orI (cmpZ x.1 y.1) (cmpZ x.2.1 y.2.1) (cmpZ x.2.2 y.2.2)
end Corr
namespace Go.Proofs.Ytolmkagedlcjiaa
set_option maxRecDepth 8000
open Go.RowKit Corr
set_option linter.unusedVariables false
set_option linter.unusedSimpArgs false
theorem isNaN_any (a : Int) (w : World) : Calls Try.prog 52 #[.int .i64 a] w fun e w' => e = .returned (.bool false) ∧ w' = w := by
  go_enter Try.func52, Try.ntmps52
  go_wp2_with fail
  go_ret
  exact ⟨rfl, rfl⟩
theorem compare_any (a b : Int) (w : World) : Calls Try.prog 49 #[.int .i64 a, .int .i64 b] w fun e w' => e = .returned (.int .i64 (cmpZ a b)) ∧ Below w.heap.size w w' := by
  have HN := Lib.hid (fun z => isNaN_any z w)
  obtain ⟨z, hz⟩ : ∃ z, cmpZ a b = z := ⟨_, rfl⟩
  rw [hz]
  have HZ := Lib.hid hz
  clear hz
  by_cases h1 : a < b
  · have d1 : decide (a < b) = true := decide_eq_true h1
    have HE := Lib.hid (show z = -1 by rw [← HZ.out]; unfold cmpZ; rw [if_pos h1])
    clear h1
    go_enter Try.func49, Try.ntmps49
    go_wp2_with (first | (go_at_call_of 52 a; refine (HN.out a).mono ?_; rintro e w1 ⟨rfl, rfl⟩) | (go_at_call_of 52 b; refine (HN.out b).mono ?_; rintro e w1 ⟨rfl, rfl⟩))
    go_ret
    exact ⟨by rw [HE.out]; rfl, Below.refl _ _⟩
  · have d1 : decide (a < b) = false := decide_eq_false h1
    by_cases h2 : b < a
    · have d2 : decide (a > b) = true := decide_eq_true h2
      have HE := Lib.hid (show z = 1 by rw [← HZ.out]; unfold cmpZ; rw [if_neg h1, if_pos h2])
      clear h1 h2
      go_enter Try.func49, Try.ntmps49
      go_wp2_with (first | (go_at_call_of 52 a; refine (HN.out a).mono ?_; rintro e w1 ⟨rfl, rfl⟩) | (go_at_call_of 52 b; refine (HN.out b).mono ?_; rintro e w1 ⟨rfl, rfl⟩))
      go_ret
      exact ⟨by rw [HE.out]; rfl, Below.refl _ _⟩
    · have d2 : decide (a > b) = false := decide_eq_false h2
      have HE := Lib.hid (show z = 0 by rw [← HZ.out]; unfold cmpZ; rw [if_neg h1, if_neg h2])
      clear h1 h2
      go_enter Try.func49, Try.ntmps49
      go_wp2_with (first | (go_at_call_of 52 a; refine (HN.out a).mono ?_; rintro e w1 ⟨rfl, rfl⟩) | (go_at_call_of 52 b; refine (HN.out b).mono ?_; rintro e w1 ⟨rfl, rfl⟩))
      go_ret
      exact ⟨by rw [HE.out]; rfl, Below.refl _ _⟩
theorem or_any (g : Nat) (a b c : Int) (w : World) (B : Blk w g #[.int .i64 a, .int .i64 b, .int .i64 c]) : Calls Try.prog 48 #[.slice (some ⟨g, 0, none⟩) 3 3] w fun e w' => e = .returned (.int .i64 (orI a b c)) ∧ w' = w := by
  have c0 := B.get 0 rfl
  have c1 := B.get 1 rfl
  have c2 := B.get 2 rfl
  clear B
  by_cases h1 : a = 0
  · subst h1
    by_cases h2 : b = 0
    · subst h2
      by_cases h3 : c = 0
      · subst h3
        go_enter Try.func48, Try.ntmps48
        go_wp2_with fail
        refine wp_loop_rounds 4 ?_
        rw [rounds_succ]
        go_wp2_with fail
        rw [rounds_succ]
        go_wp2_with fail
        rw [rounds_succ]
        go_wp2_with fail
        rw [rounds_succ]
        go_wp2_with fail
        go_ret
        exact ⟨rfl, rfl⟩
      · have d3 : (c == 0) = false := by simpa using h3
        have HE := Lib.hid (show orI 0 0 c = c from rfl)
        go_enter Try.func48, Try.ntmps48
        go_wp2_with fail
        refine wp_loop_rounds 3 ?_
        rw [rounds_succ]
        go_wp2_with fail
        rw [rounds_succ]
        go_wp2_with fail
        rw [rounds_succ]
        go_wp2_with fail
        go_ret
        exact ⟨by rw [HE.out]; rfl, rfl⟩
    · have d2 : (b == 0) = false := by simpa using h2
      have HE := Lib.hid (show orI 0 b c = b by unfold orI; rw [if_pos rfl, if_neg h2])
      go_enter Try.func48, Try.ntmps48
      go_wp2_with fail
      refine wp_loop_rounds 2 ?_
      rw [rounds_succ]
      go_wp2_with fail
      rw [rounds_succ]
      go_wp2_with fail
      go_ret
      exact ⟨by rw [HE.out]; rfl, rfl⟩
  · have d1 : (a == 0) = false := by simpa using h1
    have HE := Lib.hid (show orI a b c = a by unfold orI; rw [if_neg h1])
    go_enter Try.func48, Try.ntmps48
    go_wp2_with fail
    refine wp_loop_rounds 1 ?_
    rw [rounds_succ]
    go_wp2_with fail
    go_ret
    exact ⟨by rw [HE.out]; rfl, rfl⟩
set_option maxHeartbeats 4000000 in
theorem order_any (x y : It) (w : World) : Calls Try.prog 38 #[itV x, itV y] w fun e w' => e = .returned (.int .i64 (ordI x y)) ∧ Below w.heap.size w w' := by
  obtain ⟨x1, x2, x3⟩ := x
  obtain ⟨y1, y2, y3⟩ := y
  have S0 := ((Mem.start w).push #[.int .i64 x1, .int .i64 x2, .int .i64 x3] 30).push #[.int .i64 y1, .int .i64 y2, .int .i64 y3] 30
  simp only [size_alloc] at S0
  have HS := Lib.hid S0
  have HE := Lib.hid (show ordI (x1, x2, x3) (y1, y2, y3) = orI (cmpZ x1 y1) (cmpZ x2 y2) (cmpZ x3 y3) from rfl)
  rw [HE.out]
  obtain ⟨p1, hp1⟩ : ∃ p, cmpZ x1 y1 = p := ⟨_, rfl⟩
  obtain ⟨p2, hp2⟩ : ∃ p, cmpZ x2 y2 = p := ⟨_, rfl⟩
  obtain ⟨p3, hp3⟩ : ∃ p, cmpZ x3 y3 = p := ⟨_, rfl⟩
  have HC1 := Lib.hid (fun w => by have := compare_any x1 y1 w; rw [hp1] at this; exact this)
  have HC2 := Lib.hid (fun w => by have := compare_any x2 y2 w; rw [hp2] at this; exact this)
  have HC3 := Lib.hid (fun w => by have := compare_any x3 y3 w; rw [hp3] at this; exact this)
  rw [hp1, hp2, hp3]
  clear hp1 hp2 hp3 HE S0
  go_enter Try.func38, Try.ntmps38
  go_upto_region 1 with fail
  have hne : w.heap.size ≠ w.heap.size + 1 := by omega
  generalize w.heap.size = hx at *
  generalize hx + 1 = hy at *
  generalize hwq : (w.alloc (.cells #[.int .i64 x1, .int .i64 x2, .int .i64 x3] 30)).alloc (.cells #[.int .i64 y1, .int .i64 y2, .int .i64 y3] 30) = wq at *
  clear hwq
  refine wp_region_rel 15 (MemAt w wq.heap.size [(hx, #[.int .i64 x1, .int .i64 x2, .int .i64 x3]), (hy, #[.int .i64 y1, .int .i64 y2, .int .i64 y3])] [])
    (fun i => List.getD [VE (.pointer (some ⟨hx, 0, none⟩)), VE (.int .i64 x1), VE (.pointer (some ⟨hy, 0, none⟩)), VE (.int .i64 y1), VE (.int .i64 p1), VE (.pointer (some ⟨hx, 1, none⟩)), VE (.int .i64 x2), VE (.pointer (some ⟨hy, 1, none⟩)), VE (.int .i64 y2), VE (.int .i64 p2), VE (.pointer (some ⟨hx, 2, none⟩)), VE (.int .i64 x3), VE (.pointer (some ⟨hy, 2, none⟩)), VE (.int .i64 y3), VE (.int .i64 p3)] i (fun _ _ => False)) [] [0, 2, 5, 7, 10, 12] (by kernel_rfl) (by kernel_rfl) HS.out.at (fun _ _ h hb => h.grow hb)
    (stays_all (stays_cons (stays_VE _) (stays_cons (stays_VE _) (stays_cons (stays_VE _) (stays_cons (stays_VE _) (stays_cons (stays_VE _) (stays_cons (stays_VE _) (stays_cons (stays_VE _) (stays_cons (stays_VE _) (stays_cons (stays_VE _) (stays_cons (stays_VE _) (stays_cons (stays_VE _) (stays_cons (stays_VE _) (stays_cons (stays_VE _) (stays_cons (stays_VE _) (stays_cons (stays_VE _) stays_nil)))))))))))))))) ⟨?_, ?_, ?_, ?_, ?_, ?_, ?_, ?_, ?_, ?_, ?_, ?_, ?_, ?_, ?_, trivial⟩ ?_
  · intro ev wv hE hw hd
    refine ifw rfl (ifw rfl ?_)
    have v2 : ev (.tmp 2) = .pointer (some ⟨hx, 0, none⟩) := hE.tmp 2 rfl
    refine ⟨.pointer (some ⟨hx, 0, none⟩), fun w => ?_, rfl⟩
    have e1 := hE.const; have e2 := hE.func; clear hE hd hw
    go_simp
  · intro ev wv hE hw hd
    refine ifw rfl (ifn rfl ?_)
    have v5 : ev (.tmp 5) = .pointer (some ⟨hx, 0, none⟩) := hd 0 (by decide)
    have kx := hw.m.c 0 0 rfl rfl
    refine rel_val (u := .int .i64 x1) (w' := wv) ?_ (Below.refl _ _) ⟨rfl, fun h => by cases h⟩
    have e1 := hE.const; clear hE hd hw
    go_simp
  · intro ev wv hE hw hd
    refine ifw rfl (ifw rfl ?_)
    have v3 : ev (.tmp 3) = .pointer (some ⟨hy, 0, none⟩) := hE.tmp 3 rfl
    refine ⟨.pointer (some ⟨hy, 0, none⟩), fun w => ?_, rfl⟩
    have e1 := hE.const; have e2 := hE.func; clear hE hd hw
    go_simp
  · intro ev wv hE hw hd
    refine ifw rfl (ifn rfl ?_)
    have v7 : ev (.tmp 7) = .pointer (some ⟨hy, 0, none⟩) := hd 2 (by decide)
    have kx := hw.m.c 1 0 rfl rfl
    refine rel_val (u := .int .i64 y1) (w' := wv) ?_ (Below.refl _ _) ⟨rfl, fun h => by cases h⟩
    have e1 := hE.const; clear hE hd hw
    go_simp
  · intro ev wv hE hw hd
    refine ifw rfl (ifn rfl ?_)
    have v6 : ev (.tmp 6) = .int .i64 x1 := hd 1 (by decide)
    have v8 : ev (.tmp 8) = .int .i64 y1 := hd 3 (by decide)
    refine rel_call (f := 49) (args := #[.int .i64 x1, .int .i64 y1]) ?_ (HC1.out _) ?_
    · have e0 := hE.func; have e1 := hE.const; clear hE hd hw
      go_simp
    · rintro e w' ⟨rfl, hb⟩
      exact ⟨_, rfl, hb, rfl, fun h => by cases h⟩
  · intro ev wv hE hw hd
    refine ifw rfl (ifw rfl ?_)
    have v2 : ev (.tmp 2) = .pointer (some ⟨hx, 0, none⟩) := hE.tmp 2 rfl
    refine ⟨.pointer (some ⟨hx, 1, none⟩), fun w => ?_, rfl⟩
    have e1 := hE.const; have e2 := hE.func; clear hE hd hw
    go_simp
  · intro ev wv hE hw hd
    refine ifw rfl (ifn rfl ?_)
    have v10 : ev (.tmp 10) = .pointer (some ⟨hx, 1, none⟩) := hd 5 (by decide)
    have kx := hw.m.c 0 1 rfl rfl
    refine rel_val (u := .int .i64 x2) (w' := wv) ?_ (Below.refl _ _) ⟨rfl, fun h => by cases h⟩
    have e1 := hE.const; clear hE hd hw
    go_simp
  · intro ev wv hE hw hd
    refine ifw rfl (ifw rfl ?_)
    have v3 : ev (.tmp 3) = .pointer (some ⟨hy, 0, none⟩) := hE.tmp 3 rfl
    refine ⟨.pointer (some ⟨hy, 1, none⟩), fun w => ?_, rfl⟩
    have e1 := hE.const; have e2 := hE.func; clear hE hd hw
    go_simp
  · intro ev wv hE hw hd
    refine ifw rfl (ifn rfl ?_)
    have v12 : ev (.tmp 12) = .pointer (some ⟨hy, 1, none⟩) := hd 7 (by decide)
    have kx := hw.m.c 1 1 rfl rfl
    refine rel_val (u := .int .i64 y2) (w' := wv) ?_ (Below.refl _ _) ⟨rfl, fun h => by cases h⟩
    have e1 := hE.const; clear hE hd hw
    go_simp
  · intro ev wv hE hw hd
    refine ifw rfl (ifn rfl ?_)
    have v11 : ev (.tmp 11) = .int .i64 x2 := hd 6 (by decide)
    have v13 : ev (.tmp 13) = .int .i64 y2 := hd 8 (by decide)
    refine rel_call (f := 49) (args := #[.int .i64 x2, .int .i64 y2]) ?_ (HC2.out _) ?_
    · have e0 := hE.func; have e1 := hE.const; clear hE hd hw
      go_simp
    · rintro e w' ⟨rfl, hb⟩
      exact ⟨_, rfl, hb, rfl, fun h => by cases h⟩
  · intro ev wv hE hw hd
    refine ifw rfl (ifw rfl ?_)
    have v2 : ev (.tmp 2) = .pointer (some ⟨hx, 0, none⟩) := hE.tmp 2 rfl
    refine ⟨.pointer (some ⟨hx, 2, none⟩), fun w => ?_, rfl⟩
    have e1 := hE.const; have e2 := hE.func; clear hE hd hw
    go_simp
  · intro ev wv hE hw hd
    refine ifw rfl (ifn rfl ?_)
    have v15 : ev (.tmp 15) = .pointer (some ⟨hx, 2, none⟩) := hd 10 (by decide)
    have kx := hw.m.c 0 2 rfl rfl
    refine rel_val (u := .int .i64 x3) (w' := wv) ?_ (Below.refl _ _) ⟨rfl, fun h => by cases h⟩
    have e1 := hE.const; clear hE hd hw
    go_simp
  · intro ev wv hE hw hd
    refine ifw rfl (ifw rfl ?_)
    have v3 : ev (.tmp 3) = .pointer (some ⟨hy, 0, none⟩) := hE.tmp 3 rfl
    refine ⟨.pointer (some ⟨hy, 2, none⟩), fun w => ?_, rfl⟩
    have e1 := hE.const; have e2 := hE.func; clear hE hd hw
    go_simp
  · intro ev wv hE hw hd
    refine ifw rfl (ifn rfl ?_)
    have v17 : ev (.tmp 17) = .pointer (some ⟨hy, 2, none⟩) := hd 12 (by decide)
    have kx := hw.m.c 1 2 rfl rfl
    refine rel_val (u := .int .i64 y3) (w' := wv) ?_ (Below.refl _ _) ⟨rfl, fun h => by cases h⟩
    have e1 := hE.const; clear hE hd hw
    go_simp
  · intro ev wv hE hw hd
    refine ifw rfl (ifn rfl ?_)
    have v16 : ev (.tmp 16) = .int .i64 x3 := hd 11 (by decide)
    have v18 : ev (.tmp 18) = .int .i64 y3 := hd 13 (by decide)
    refine rel_call (f := 49) (args := #[.int .i64 x3, .int .i64 y3]) ?_ (HC3.out _) ?_
    · have e0 := hE.func; have e1 := hE.const; clear hE hd hw
      go_simp
    · rintro e w' ⟨rfl, hb⟩
      exact ⟨_, rfl, hb, rfl, fun h => by cases h⟩
  · intro w1 hw
    intro v0 h0 _ v1 h1 _ v2 h2 _ v3 h3 _ v4 h4 _ v5 h5 _ v6 h6 _ v7 h7 _ v8 h8 _ v9 h9 _ v10 h10 _ v11 h11 _ v12 h12 _ v13 h13 _ v14 h14 _
    simp only [Act.put, List.setIfInBounds_toArray, List.set_cons_zero, List.set_cons_succ, List.drop_succ_cons, List.drop_zero]
    obtain rfl : v0 = _ := h0
    obtain rfl : v1 = _ := h1
    obtain rfl : v2 = _ := h2
    obtain rfl : v3 = _ := h3
    obtain rfl : v4 = _ := h4
    obtain rfl : v5 = _ := h5
    obtain rfl : v6 = _ := h6
    obtain rfl : v7 = _ := h7
    obtain rfl : v8 = _ := h8
    obtain rfl : v9 = _ := h9
    obtain rfl : v10 = _ := h10
    obtain rfl : v11 = _ := h11
    obtain rfl : v12 = _ := h12
    obtain rfl : v13 = _ := h13
    obtain rfl : v14 = _ := h14
    change wpList Try.prog _ _ _ _ w1
    have HM := Lib.hid (hw.m.push #[.int .i64 p1, .int .i64 p2, .int .i64 p3] 3)
    clear hw
    go_wp2_with fail
    refine (or_any _ p1 p2 p3 _ (HM.out.b 2 rfl)).mono ?_
    rintro e w2 ⟨rfl, rfl⟩
    have HF := Lib.hid HM.out.bl
    clear HM
    go_wp2_with fail
    refine calm_normal ?_
    go_wp2_with fail
    go_ret
    exact ⟨rfl, HF.out⟩
end Go.Proofs.Ytolmkagedlcjiaa

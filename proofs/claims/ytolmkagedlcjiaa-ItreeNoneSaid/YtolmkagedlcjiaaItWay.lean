/- Contracts of package itree: order; a way: push, pop. -/
import Derived.Test.YtolmkagedlcjiaaAk3
import Derived.Test.YtolmkagedlcjiaaItMath
namespace Corr
set_option maxRecDepth 8000
open Go Go.RowKit
/-- A way of places. -/
structure PlV (vs : Array Value) (l : List Nat) : Prop where
  sz : vs.size = 29
  cnt : vs.toList[28]? = some (.int .i64 (l.length : Int))
  le : l.length ≤ 28
  at_ : ∀ (i p : Nat), l[i]? = some p → vs.toList[i]? = some (Value.int .i64 (p : Int))
def zeroPl : Array Value := (List.replicate 29 (Value.int .i64 0)).toArray
theorem PlV.zero : PlV zeroPl [] := ⟨rfl, rfl, by simp, fun i p h => by simp at h⟩
theorem PlV.push {vs : Array Value} {l : List Nat} (h : PlV vs l) (hl : l.length < 28) (p : Nat) : PlV ((vs.setIfInBounds l.length (.int .i64 (p : Int))).setIfInBounds 28 (.int .i64 ((l.length : Int) + 1))) (l ++ [p]) := by
  have hs : vs.toList.length = 29 := by simpa using h.sz
  refine ⟨by simpa using h.sz, ?_, by simp; omega, ?_⟩
  · simp only [Array.toList_setIfInBounds]
    rw [List.getElem?_set_self (by simp [h.sz])]
    simp
  · intro i q hi
    simp only [Array.toList_setIfInBounds]
    rcases Nat.lt_or_ge i l.length with h1 | h1
    · rw [List.getElem?_append_left h1] at hi
      rw [List.getElem?_set_ne (by omega), List.getElem?_set_ne (by omega)]
      exact h.at_ i q hi
    · have e : i = l.length := by
        have := (List.getElem?_eq_some_iff.1 hi).1
        simp at this; omega
      subst e
      rw [List.getElem?_append_right (Nat.le_refl _), Nat.sub_self] at hi
      obtain rfl : p = q := by simpa using hi
      rw [List.getElem?_set_ne (by omega), List.getElem?_set_self (by omega)]
theorem PlV.pop {vs : Array Value} {l : List Nat} {p : Nat} (h : PlV vs (l ++ [p])) : PlV (vs.setIfInBounds 28 (.int .i64 (l.length : Int))) l := by
  have hle := h.le
  simp at hle
  refine ⟨by simpa using h.sz, ?_, by omega, ?_⟩
  · simp only [Array.toList_setIfInBounds]
    rw [List.getElem?_set_self (by simp [h.sz])]
  · intro i q hi
    have hi' := (List.getElem?_eq_some_iff.1 hi).1
    have := h.at_ i q (by rw [List.getElem?_append_left hi']; exact hi)
    simp only [Array.toList_setIfInBounds]
    rw [List.getElem?_set_ne (by omega)]
    exact this
def PlM (w : World) (g : Nat) (l : List Nat) : Prop := ∃ vs, Blk w g vs ∧ PlV vs l
section
variable {w w' : World} {g : Nat} {l : List Nat}
theorem PlM.sz (h : PlM w g l) : g < w.heap.size := by obtain ⟨_, h, _⟩ := h; exact h.sz
theorem PlM.keep (h : PlM w g l) (hb : Below w.heap.size w w') : PlM w' g l := by obtain ⟨vs, h1, h2⟩ := h; exact ⟨vs, h1.keep hb, h2⟩
end
end Corr
namespace Go.Proofs.Ytolmkagedlcjiaa
set_option maxRecDepth 8000
open Go.RowKit Corr
set_option linter.unusedVariables false
set_option linter.unusedSimpArgs false
set_option maxHeartbeats 4000000 in
theorem ipush_any (g : Nat) (l : List Nat) (p : Nat) (w : World) (W : PlM w g l) (hl : l.length < 28) : Calls Try.prog 46 #[.pointer (some ⟨g, 0, none⟩), .int .i64 (p : Int)] w fun e w' => e = .returned (.tuple #[]) ∧ PlM w' g (l ++ [p]) ∧ Off (· = g) w w' := by
  obtain ⟨vs, B, V⟩ := W
  have HV := Lib.hid V
  have hg := B.sz
  obtain ⟨k, hk⟩ : ∃ k, l.length = k := ⟨_, rfl⟩
  have HK := Lib.hid hk
  have c28 := B.get 28 (by have := V.cnt; rw [hk] at this; exact this)
  have HB1 := Lib.hid B
  have f0 := B.f k
  have f2 := B.f 28
  have hk1 : k < 28 := by omega
  have j0 : decide ((k : Int) < 0) = false := decide_eq_false (by omega)
  have j1 : (0 : Int) ≤ (k : Int) := by omega
  have j2 : (k : Int) < 28 := by omega
  have j3 : ((k : Int)).toNat = k := by omega
  obtain ⟨v0, hv0⟩ : ∃ v, vs.toList[k]? = some v := ⟨_, List.getElem?_eq_getElem (by rw [Array.length_toList, V.sz]; omega)⟩
  have y0 := B.get _ hv0
  clear hv0 V B hk
  go_enter Try.func46, Try.ntmps46
  go_upto_region 0 with fail
  go_region
  have HB2 := Lib.hid ((HB1.out.set k (.int .i64 (p : Int))).drew)
  have HO2 := Lib.hid ((Off.set (w := w) (F := (· = g)) (a := ⟨g, k, none⟩) rfl (.int .i64 (p : Int))).drew)
  have z28 : ((w.setCell ⟨g, k, none⟩ (.int .i64 (p : Int))).drew).cell? ⟨g, 28, none⟩ = some (.int .i64 (k : Int)) := HB2.out.get 28 (by
    simp only [Array.toList_setIfInBounds]
    rw [List.getElem?_set_ne (by omega)]
    have := HV.out.cnt; rw [HK.out] at this; exact this)
  have f3 := HB2.out.f 28
  generalize (w.setCell ⟨g, k, none⟩ (.int .i64 (p : Int))).drew = wr at *
  clear c28 f0 f2 y0
  go_wp2_with fail
  go_end0
  refine ⟨rfl, ⟨_, HB2.out.set 28 _, ?_⟩, HO2.out.trans (Off.set (F := (· = g)) (a := ⟨g, 28, none⟩) rfl _)⟩
  have := HV.out.push (by rw [HK.out]; omega) p
  rw [HK.out] at this
  exact this
set_option maxHeartbeats 4000000 in
theorem ipop_any (g : Nat) (l : List Nat) (p : Nat) (w : World) (W : PlM w g (l ++ [p])) : Calls Try.prog 47 #[.pointer (some ⟨g, 0, none⟩)] w fun e w' => e = .returned (.int .i64 (p : Int)) ∧ PlM w' g l ∧ Off (· = g) w w' := by
  obtain ⟨vs, B, V⟩ := W
  have HV := Lib.hid V
  have hg := B.sz
  obtain ⟨k, hk⟩ : ∃ k, l.length = k := ⟨_, rfl⟩
  have HK := Lib.hid hk
  have hk1 : k < 28 := by have := V.le; simp at this; omega
  have hat := V.at_ k p (by rw [List.getElem?_append_right (by omega), hk, Nat.sub_self]; rfl)
  have hcn : vs.toList[28]? = some (.int .i64 ((k : Int) + 1)) := by have := V.cnt; rw [List.length_append, hk] at this; exact this
  have HB1 := Lib.hid B
  have c28 := B.get 28 hcn
  have f28 := B.f 28
  have j0 : decide ((k : Int) < 0) = false := decide_eq_false (by omega)
  have j1 : (0 : Int) ≤ (k : Int) := by omega
  have j2 : (k : Int) < 28 := by omega
  have j3 : ((k : Int)).toNat = k := by omega
  have HA := Lib.hid hat
  clear V B hk hcn hat
  go_enter Try.func47, Try.ntmps47
  go_upto_region 2 with fail
  have HB2 := Lib.hid (HB1.out.set 28 (.int .i64 (k : Int)))
  have HO2 := Lib.hid (Off.set (w := w) (F := (· = g)) (a := ⟨g, 28, none⟩) rfl (.int .i64 (k : Int)))
  have z28 := HB2.out.get 28 (v := .int .i64 (k : Int)) (by rw [Array.toList_setIfInBounds, List.getElem?_set_self (by rw [Array.length_toList, HV.out.sz]; omega)])
  have y0 := HB2.out.get k (v := .int .i64 (p : Int)) (by rw [Array.toList_setIfInBounds, List.getElem?_set_ne (by omega)]; exact HA.out)
  generalize w.setCell ⟨g, 28, none⟩ (.int .i64 (k : Int)) = wr at *
  clear c28 f28
  go_region
  have HB3 := Lib.hid HB2.out.drew
  go_wp2_with fail
  refine bodyPost_ret (results_tmp rfl _ _ _) rfl ⟨rfl, ⟨_, HB3.out, ?_⟩, HO2.out.drew⟩
  have := HV.out.pop
  rw [HK.out] at this
  exact this
set_option maxHeartbeats 4000000 in
theorem iorder_any (x y : It) (w : World) : Calls Try.prog 45 #[itV x, itV y] w fun e w' => e = .returned (.int .i64 (ordI x y)) ∧ Below w.heap.size w w' := by
  obtain ⟨x1, x2, x3⟩ := x
  obtain ⟨y1, y2, y3⟩ := y
  have S0 := ((Mem.start w).push #[.int .i64 x1, .int .i64 x2, .int .i64 x3] 30).push #[.int .i64 y1, .int .i64 y2, .int .i64 y3] 30
  simp only [size_alloc] at S0
  have HS := Lib.hid S0
  have HE := Lib.hid (show ordI (x1, x2, x3) (y1, y2, y3) = orI (cmpZ x1 y1) (cmpZ x2 y2) (cmpZ x3 y3) from rfl)
  rw [HE.out]
  obtain ⟨p1, hp1⟩ : ∃ p, cmpZ x1 y1 = p := ⟨_, rfl⟩
  obtain ⟨p2, hp2⟩ : ∃ p, cmpZ x2 y2 = p := ⟨_, rfl⟩
  obtain ⟨p3, hp3⟩ : ∃ p, cmpZ x3 y3 = p := ⟨_, rfl⟩
  have HC1 := Lib.hid (fun w => by have := compare_any x1 y1 w; rw [hp1] at this; exact this)
  have HC2 := Lib.hid (fun w => by have := compare_any x2 y2 w; rw [hp2] at this; exact this)
  have HC3 := Lib.hid (fun w => by have := compare_any x3 y3 w; rw [hp3] at this; exact this)
  rw [hp1, hp2, hp3]
  clear hp1 hp2 hp3 HE S0
  go_enter Try.func45, Try.ntmps45
  go_upto_region 1 with fail
  have hne : w.heap.size ≠ w.heap.size + 1 := by omega
  generalize w.heap.size = hx at *
  generalize hx + 1 = hy at *
  generalize hwq : (w.alloc (.cells #[.int .i64 x1, .int .i64 x2, .int .i64 x3] 30)).alloc (.cells #[.int .i64 y1, .int .i64 y2, .int .i64 y3] 30) = wq at *
  clear hwq
  refine wp_region_rel 15 (MemAt w wq.heap.size [(hx, #[.int .i64 x1, .int .i64 x2, .int .i64 x3]), (hy, #[.int .i64 y1, .int .i64 y2, .int .i64 y3])] [])
    (fun i => List.getD [VE (.pointer (some ⟨hx, 0, none⟩)), VE (.int .i64 x1), VE (.pointer (some ⟨hy, 0, none⟩)), VE (.int .i64 y1), VE (.int .i64 p1), VE (.pointer (some ⟨hx, 1, none⟩)), VE (.int .i64 x2), VE (.pointer (some ⟨hy, 1, none⟩)), VE (.int .i64 y2), VE (.int .i64 p2), VE (.pointer (some ⟨hx, 2, none⟩)), VE (.int .i64 x3), VE (.pointer (some ⟨hy, 2, none⟩)), VE (.int .i64 y3), VE (.int .i64 p3)] i (fun _ _ => False)) [] [0, 2, 5, 7, 10, 12] (by kernel_rfl) (by kernel_rfl) HS.out.at (fun _ _ h hb => h.grow hb)
    (stays_all (stays_cons (stays_VE _) (stays_cons (stays_VE _) (stays_cons (stays_VE _) (stays_cons (stays_VE _) (stays_cons (stays_VE _) (stays_cons (stays_VE _) (stays_cons (stays_VE _) (stays_cons (stays_VE _) (stays_cons (stays_VE _) (stays_cons (stays_VE _) (stays_cons (stays_VE _) (stays_cons (stays_VE _) (stays_cons (stays_VE _) (stays_cons (stays_VE _) (stays_cons (stays_VE _) stays_nil)))))))))))))))) ⟨?_, ?_, ?_, ?_, ?_, ?_, ?_, ?_, ?_, ?_, ?_, ?_, ?_, ?_, ?_, trivial⟩ ?_
  · intro ev wv hE hw hd
    refine ifw rfl (ifw rfl ?_)
    have v2 : ev (.tmp 2) = .pointer (some ⟨hx, 0, none⟩) := hE.tmp 2 rfl
    refine ⟨.pointer (some ⟨hx, 0, none⟩), fun w => ?_, rfl⟩
    have e1 := hE.const; have e2 := hE.func; clear hE hd hw
    go_simp
  · intro ev wv hE hw hd
    refine ifw rfl (ifn rfl ?_)
    have v5 : ev (.tmp 5) = .pointer (some ⟨hx, 0, none⟩) := hd 0 (by decide)
    have kx := hw.m.c 0 0 rfl rfl
    refine rel_val (u := .int .i64 x1) (w' := wv) ?_ (Below.refl _ _) ⟨rfl, fun h => by cases h⟩
    have e1 := hE.const; clear hE hd hw
    go_simp
  · intro ev wv hE hw hd
    refine ifw rfl (ifw rfl ?_)
    have v3 : ev (.tmp 3) = .pointer (some ⟨hy, 0, none⟩) := hE.tmp 3 rfl
    refine ⟨.pointer (some ⟨hy, 0, none⟩), fun w => ?_, rfl⟩
    have e1 := hE.const; have e2 := hE.func; clear hE hd hw
    go_simp
  · intro ev wv hE hw hd
    refine ifw rfl (ifn rfl ?_)
    have v7 : ev (.tmp 7) = .pointer (some ⟨hy, 0, none⟩) := hd 2 (by decide)
    have kx := hw.m.c 1 0 rfl rfl
    refine rel_val (u := .int .i64 y1) (w' := wv) ?_ (Below.refl _ _) ⟨rfl, fun h => by cases h⟩
    have e1 := hE.const; clear hE hd hw
    go_simp
  · intro ev wv hE hw hd
    refine ifw rfl (ifn rfl ?_)
    have v6 : ev (.tmp 6) = .int .i64 x1 := hd 1 (by decide)
    have v8 : ev (.tmp 8) = .int .i64 y1 := hd 3 (by decide)
    refine rel_call (f := 49) (args := #[.int .i64 x1, .int .i64 y1]) ?_ (HC1.out _) ?_
    · have e0 := hE.func; have e1 := hE.const; clear hE hd hw
      go_simp
    · rintro e w' ⟨rfl, hb⟩
      exact ⟨_, rfl, hb, rfl, fun h => by cases h⟩
  · intro ev wv hE hw hd
    refine ifw rfl (ifw rfl ?_)
    have v2 : ev (.tmp 2) = .pointer (some ⟨hx, 0, none⟩) := hE.tmp 2 rfl
    refine ⟨.pointer (some ⟨hx, 1, none⟩), fun w => ?_, rfl⟩
    have e1 := hE.const; have e2 := hE.func; clear hE hd hw
    go_simp
  · intro ev wv hE hw hd
    refine ifw rfl (ifn rfl ?_)
    have v10 : ev (.tmp 10) = .pointer (some ⟨hx, 1, none⟩) := hd 5 (by decide)
    have kx := hw.m.c 0 1 rfl rfl
    refine rel_val (u := .int .i64 x2) (w' := wv) ?_ (Below.refl _ _) ⟨rfl, fun h => by cases h⟩
    have e1 := hE.const; clear hE hd hw
    go_simp
  · intro ev wv hE hw hd
    refine ifw rfl (ifw rfl ?_)
    have v3 : ev (.tmp 3) = .pointer (some ⟨hy, 0, none⟩) := hE.tmp 3 rfl
    refine ⟨.pointer (some ⟨hy, 1, none⟩), fun w => ?_, rfl⟩
    have e1 := hE.const; have e2 := hE.func; clear hE hd hw
    go_simp
  · intro ev wv hE hw hd
    refine ifw rfl (ifn rfl ?_)
    have v12 : ev (.tmp 12) = .pointer (some ⟨hy, 1, none⟩) := hd 7 (by decide)
    have kx := hw.m.c 1 1 rfl rfl
    refine rel_val (u := .int .i64 y2) (w' := wv) ?_ (Below.refl _ _) ⟨rfl, fun h => by cases h⟩
    have e1 := hE.const; clear hE hd hw
    go_simp
  · intro ev wv hE hw hd
    refine ifw rfl (ifn rfl ?_)
    have v11 : ev (.tmp 11) = .int .i64 x2 := hd 6 (by decide)
    have v13 : ev (.tmp 13) = .int .i64 y2 := hd 8 (by decide)
    refine rel_call (f := 49) (args := #[.int .i64 x2, .int .i64 y2]) ?_ (HC2.out _) ?_
    · have e0 := hE.func; have e1 := hE.const; clear hE hd hw
      go_simp
    · rintro e w' ⟨rfl, hb⟩
      exact ⟨_, rfl, hb, rfl, fun h => by cases h⟩
  · intro ev wv hE hw hd
    refine ifw rfl (ifw rfl ?_)
    have v2 : ev (.tmp 2) = .pointer (some ⟨hx, 0, none⟩) := hE.tmp 2 rfl
    refine ⟨.pointer (some ⟨hx, 2, none⟩), fun w => ?_, rfl⟩
    have e1 := hE.const; have e2 := hE.func; clear hE hd hw
    go_simp
  · intro ev wv hE hw hd
    refine ifw rfl (ifn rfl ?_)
    have v15 : ev (.tmp 15) = .pointer (some ⟨hx, 2, none⟩) := hd 10 (by decide)
    have kx := hw.m.c 0 2 rfl rfl
    refine rel_val (u := .int .i64 x3) (w' := wv) ?_ (Below.refl _ _) ⟨rfl, fun h => by cases h⟩
    have e1 := hE.const; clear hE hd hw
    go_simp
  · intro ev wv hE hw hd
    refine ifw rfl (ifw rfl ?_)
    have v3 : ev (.tmp 3) = .pointer (some ⟨hy, 0, none⟩) := hE.tmp 3 rfl
    refine ⟨.pointer (some ⟨hy, 2, none⟩), fun w => ?_, rfl⟩
    have e1 := hE.const; have e2 := hE.func; clear hE hd hw
    go_simp
  · intro ev wv hE hw hd
    refine ifw rfl (ifn rfl ?_)
    have v17 : ev (.tmp 17) = .pointer (some ⟨hy, 2, none⟩) := hd 12 (by decide)
    have kx := hw.m.c 1 2 rfl rfl
    refine rel_val (u := .int .i64 y3) (w' := wv) ?_ (Below.refl _ _) ⟨rfl, fun h => by cases h⟩
    have e1 := hE.const; clear hE hd hw
    go_simp
  · intro ev wv hE hw hd
    refine ifw rfl (ifn rfl ?_)
    have v16 : ev (.tmp 16) = .int .i64 x3 := hd 11 (by decide)
    have v18 : ev (.tmp 18) = .int .i64 y3 := hd 13 (by decide)
    refine rel_call (f := 49) (args := #[.int .i64 x3, .int .i64 y3]) ?_ (HC3.out _) ?_
    · have e0 := hE.func; have e1 := hE.const; clear hE hd hw
      go_simp
    · rintro e w' ⟨rfl, hb⟩
      exact ⟨_, rfl, hb, rfl, fun h => by cases h⟩
  · intro w1 hw
    intro v0 h0 _ v1 h1 _ v2 h2 _ v3 h3 _ v4 h4 _ v5 h5 _ v6 h6 _ v7 h7 _ v8 h8 _ v9 h9 _ v10 h10 _ v11 h11 _ v12 h12 _ v13 h13 _ v14 h14 _
    simp only [Act.put, List.setIfInBounds_toArray, List.set_cons_zero, List.set_cons_succ, List.drop_succ_cons, List.drop_zero]
    obtain rfl : v0 = _ := h0
    obtain rfl : v1 = _ := h1
    obtain rfl : v2 = _ := h2
    obtain rfl : v3 = _ := h3
    obtain rfl : v4 = _ := h4
    obtain rfl : v5 = _ := h5
    obtain rfl : v6 = _ := h6
    obtain rfl : v7 = _ := h7
    obtain rfl : v8 = _ := h8
    obtain rfl : v9 = _ := h9
    obtain rfl : v10 = _ := h10
    obtain rfl : v11 = _ := h11
    obtain rfl : v12 = _ := h12
    obtain rfl : v13 = _ := h13
    obtain rfl : v14 = _ := h14
    change wpList Try.prog _ _ _ _ w1
    have HM := Lib.hid (hw.m.push #[.int .i64 p1, .int .i64 p2, .int .i64 p3] 3)
    clear hw
    go_wp2_with fail
    refine (or_any _ p1 p2 p3 _ (HM.out.b 2 rfl)).mono ?_
    rintro e w2 ⟨rfl, rfl⟩
    have HF := Lib.hid HM.out.bl
    clear HM
    go_wp2_with fail
    refine calm_normal ?_
    go_wp2_with fail
    go_ret
    exact ⟨rfl, HF.out⟩
end Go.Proofs.Ytolmkagedlcjiaa

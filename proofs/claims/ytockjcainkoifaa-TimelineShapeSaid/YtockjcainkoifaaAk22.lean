/- Contracts of package avl: Has, Insert, Delete. (Written by wip/gen/genak18.py.) Contracts of package avl: Insert, Delete, way by way. (Written by wip/gen/genak19.py.) Contracts of package avl: Insert and Delete where they change the tree. (Written by wip/gen/genak20.py.) Contracts of package avl: Delete. (Written by wip/gen/genak21.py.) Contract of package avl: Items. (Written by wip/gen/genak22.py.) -/
import Derived.Test.YtockjcainkoifaaAk15
import Derived.Test.YtockjcainkoifaaAk17
import Derived.Test.YtockjcainkoifaaRowRel
import Derived.Test.YtockjcainkoifaaRelVal
import Derived.Deep.RegionWith
import Derived.Deep.AppendLies
namespace Corr
set_option maxRecDepth 8000
open Go Go.RowKit
/-- What find yields: a way, and a place. -/
def VF (l : WyL) (res : Int) (v : Value) (_ : World) : Prop := ∃ vs, v = .tuple #[.agg vs, .int .i64 res] ∧ WayV vs l
def VG (l : WyL) (v : Value) (_ : World) : Prop := ∃ vs, v = .agg vs ∧ WayV vs l
theorem stays_VF (l : WyL) (res : Int) : stays (VF l res) := fun _ _ _ h _ => h
theorem stays_VG (l : WyL) : stays (VG l) := fun _ _ _ h _ => h
end Corr
namespace Go.Proofs.Ytockjcainkoifaa
set_option maxRecDepth 8000
open Go.RowKit Corr
set_option linter.unusedVariables false
set_option linter.unusedSimpArgs false
end Go.Proofs.Ytockjcainkoifaa
namespace Go.Proofs.Ytockjcainkoifaa
set_option maxRecDepth 8000
open Go.RowKit Corr
set_option linter.unusedVariables false
set_option linter.unusedSimpArgs false
set_option maxHeartbeats 8000000 in
theorem ins_bad (gT g n c : Nat) (M : Int) (A : Option Addr) (K : KnL) (t : PT) (l : ItL) (x : It) (w : World) (H : TreeR 101 w gT g n c M A K t l) (hn : n ≤ 1001) (hb : x.2.1 ≤ x.1) : Calls Try.prog 37 #[.pointer (some ⟨gT, 0, none⟩), itV x] w fun e w' => e = .returned (.int .i64 2) ∧ Below w.heap.size w w' := by
  obtain ⟨x1, x2, x3⟩ := x
  have HT := Lib.hid H
  have HS := Lib.hid ((Mem.start w).push #[.int .i64 x1, .int .i64 x2, .int .i64 x3] 74)
  have HTL := Lib.hid H.lt
  have HB0 := Lib.hid (show Ext w _ from (Below.refl _ w).alloc (Nat.le_refl _) (.cells #[.int .i64 x1, .int .i64 x2, .int .i64 x3] 74))
  have HM := Lib.hid (made_any gT g _ (H.keep HB0.out).tp)
  have d1 : decide (x1 ≥ x2) = true := decide_eq_true hb
  clear hb
  clear H
  go_enter Try.func37, Try.ntmps37
  go_upto_region 1 with fail
  generalize w.heap.size = hx at HS ⊢
  generalize w.alloc (.cells #[.int .i64 x1, .int .i64 x2, .int .i64 x3] 74) = wq at *
  go_wp2_with fail
  refine HM.out.mono ?_
  rintro e w1 ⟨rfl, hw1⟩
  subst w1
  have x0 := HS.out.c 0 0 rfl rfl
  have x1' := HS.out.c 0 1 rfl rfl
  go_wp2_with fail
  go_ret
  exact ⟨rfl, HB0.out⟩
set_option maxHeartbeats 8000000 in
theorem ins_twice (gT g n c : Nat) (M : Int) (A : Option Addr) (K : KnL) (t : PT) (l : ItL) (x : It) (w : World) (H : TreeR 101 w gT g n c M A K t l) (hn : n ≤ 1001) (wy : WyL) (res : Int) (P : Pth K x t.root wy res) (hl : wy.length ≤ 28) (hb : x.1 < x.2.1) (hr : (res != -1) = true) : Calls Try.prog 37 #[.pointer (some ⟨gT, 0, none⟩), itV x] w fun e w' => e = .returned (.int .i64 6) ∧ Below w.heap.size w w' := by
  obtain ⟨x1, x2, x3⟩ := x
  have HT := Lib.hid H
  have HS := Lib.hid ((Mem.start w).push #[.int .i64 x1, .int .i64 x2, .int .i64 x3] 74)
  have HTL := Lib.hid H.lt
  have HB0 := Lib.hid (show Ext w _ from (Below.refl _ w).alloc (Nat.le_refl _) (.cells #[.int .i64 x1, .int .i64 x2, .int .i64 x3] 74))
  have HM := Lib.hid (made_any gT g _ (H.keep HB0.out).tp)
  have HP := Lib.hid P
  clear P
  have d1 : decide (x1 ≥ x2) = false := decide_eq_false (by have : x1 < x2 := hb; omega)
  clear hb
  clear H
  go_enter Try.func37, Try.ntmps37
  go_upto_region 1 with fail
  generalize w.heap.size = hx at HS ⊢
  generalize w.alloc (.cells #[.int .i64 x1, .int .i64 x2, .int .i64 x3] 74) = wq at *
  go_wp2_with fail
  refine HM.out.mono ?_
  rintro e w1 ⟨rfl, hw1⟩
  subst w1
  have x0 := HS.out.c 0 0 rfl rfl
  have x1' := HS.out.c 0 1 rfl rfl
  go_upto_region 5 with fail
  refine wp_region_rel 10 (MemAt w wq.heap.size [(hx, #[.int .i64 x1, .int .i64 x2, .int .i64 x3])] [])
    (fun i => List.getD [VE (.pointer (some ⟨gT, 0, none⟩)), VE (.pointer (some ⟨gT, 0, none⟩)), VE (.pointer (some ⟨gT, 0, none⟩)), VE (.pointer (some ⟨g, 0, none⟩)), VE (.agg #[.int .i64 x1, .int .i64 x2, .int .i64 x3]), VF (wy) (res), VF (wy) (res), VG (wy), VE (.int .i64 res), VA (wq.heap.size) zeroWay] i (fun _ _ => False)) [9] [0, 1, 2, 6, 7, 8] (by kernel_rfl) (by kernel_rfl) HS.out.at (fun _ _ h hb => h.grow hb)
    (stays_all (stays_cons (stays_VE _) (stays_cons (stays_VE _) (stays_cons (stays_VE _) (stays_cons (stays_VE _) (stays_cons (stays_VE _) (stays_cons (stays_VF _ _) (stays_cons (stays_VF _ _) (stays_cons (stays_VG _) (stays_cons (stays_VE _) (stays_cons (stays_VA _ _) stays_nil))))))))))) ⟨?_, ?_, ?_, ?_, ?_, ?_, ?_, ?_, ?_, ?_, trivial⟩ ?_
  · intro ev wv hE hw hd
    refine ifw rfl (ifw rfl ?_)
    have v0 : ev (.tmp 0) = .pointer (some ⟨gT, 0, none⟩) := hE.tmp 0 rfl
    refine ⟨.pointer (some ⟨gT, 0, none⟩), fun w => ?_, rfl⟩
    have e1 := hE.const; have e2 := hE.func; clear hE hd hw
    go_simp
  · intro ev wv hE hw hd
    refine ifw rfl (ifw rfl ?_)
    have v16 : ev (.tmp 16) = .pointer (some ⟨gT, 0, none⟩) := hd 0 (by decide)
    refine ⟨.pointer (some ⟨gT, 0, none⟩), fun w => ?_, rfl⟩
    have e1 := hE.const; have e2 := hE.func; clear hE hd hw
    go_simp
  · intro ev wv hE hw hd
    refine ifw rfl (ifw rfl ?_)
    have v17 : ev (.tmp 17) = .pointer (some ⟨gT, 0, none⟩) := hd 1 (by decide)
    refine ⟨.pointer (some ⟨gT, 0, none⟩), fun w => ?_, rfl⟩
    have e1 := hE.const; have e2 := hE.func; clear hE hd hw
    go_simp
  · intro ev wv hE hw hd
    refine ifw rfl (ifn rfl ?_)
    have v18 : ev (.tmp 18) = .pointer (some ⟨gT, 0, none⟩) := hd 2 (by decide)
    have kx := (HT.out.keep hw.m.bl).tp.get 0 rfl
    refine rel_val (u := .pointer (some ⟨g, 0, none⟩)) (w' := wv) ?_ (Below.refl _ _) ⟨rfl, fun h => by cases h⟩
    have e1 := hE.const; clear hE hd hw
    go_simp
  · intro ev wv hE hw hd
    refine ifw rfl (ifn rfl ?_)
    have v3 : ev (.tmp 3) = .pointer (some ⟨hx, 0, none⟩) := hE.tmp 3 rfl
    have kx := hw.m.c 0 0 rfl rfl
    have ky := hw.m.c 0 1 rfl rfl
    have kz := hw.m.c 0 2 rfl rfl
    refine rel_val (u := .agg #[.int .i64 x1, .int .i64 x2, .int .i64 x3]) (w' := wv) ?_ (Below.refl _ _) ⟨rfl, fun h => by cases h⟩
    have e1 := hE.const; clear hE hd hw
    go_simp
  · intro ev wv hE hw hd
    refine ifw rfl (ifn rfl ?_)
    have v19 : ev (.tmp 19) = .pointer (some ⟨g, 0, none⟩) := hd 3 (by decide)
    have v20 : ev (.tmp 20) = .agg #[.int .i64 x1, .int .i64 x2, .int .i64 x3] := hd 4 (by decide)
    refine rel_call (f := 54) (args := #[.pointer (some ⟨g, 0, none⟩), .agg #[.int .i64 x1, .int .i64 x2, .int .i64 x3]]) ?_ ((find_any g n c A M t.root K (x1, x2, x3) wy res _ (HT.out.ar.keep hw.m.bl) HP.out hl (by omega))) ?_
    · have e0 := hE.func; have e1 := hE.const; clear hE hd hw
      go_simp
    · rintro e w' ⟨vs, rfl, hv, hb⟩
      exact ⟨_, rfl, hb, ⟨vs, rfl, hv⟩, fun h => by cases h⟩
  · intro ev wv hE hw hd
    refine ifw rfl (ifw rfl ?_)
    refine ⟨ev (.tmp 21), fun w => ?_, hd 5 (by decide)⟩
    clear hE hd hw
    go_simp
  · intro ev wv hE hw hd
    refine ifw rfl (ifw rfl ?_)
    obtain ⟨xv6, v15, xh6⟩ : VF (wy) (res) (ev (.tmp 15)) wv := hd 6 (by decide)
    refine ⟨.agg xv6, fun w => ?_, ⟨xv6, rfl, xh6⟩⟩
    have e1 := hE.const; clear hE hd hw
    go_simp
  · intro ev wv hE hw hd
    refine ifw rfl (ifw rfl ?_)
    obtain ⟨xv6, v15, xh6⟩ : VF (wy) (res) (ev (.tmp 15)) wv := hd 6 (by decide)
    refine ⟨.int .i64 res, fun w => ?_, rfl⟩
    have e1 := hE.const; clear hE hd hw
    go_simp
  · intro ev wv hE hw hd
    refine ifw rfl (ifn rfl ?_)
    refine rel_val (u := .pointer (some ⟨wv.heap.size, 0, none⟩)) (w' := wv.alloc (.cells zeroWay 108)) ?_ ((Below.refl _ _).alloc (Nat.le_refl _) _) ⟨⟨_, rfl, Blk.new _ _ _, hw.h⟩, fun _ => ⟨_, rfl, Nat.le_refl _, by simp⟩⟩
    clear hE hd hw
    go_simp
    rfl
  · intro wz hw
    intro v0 h0 _ v1 h1 _ v2 h2 _ v3 h3 _ v4 h4 _ v5 h5 _ v6 h6 _ v7 h7 _ v8 h8 _ v9 h9 n9
    simp only [Act.put, List.setIfInBounds_toArray, List.set_cons_zero, List.set_cons_succ, List.drop_succ_cons, List.drop_zero]
    obtain rfl : v0 = _ := h0
    obtain rfl : v1 = _ := h1
    obtain rfl : v2 = _ := h2
    obtain rfl : v3 = _ := h3
    obtain rfl : v4 = _ := h4
    obtain ⟨xv5, rfl, xh5⟩ : VF (wy) (res) v5 wz := h5
    obtain ⟨xv6, rfl, xh6⟩ : VF (wy) (res) v6 wz := h6
    obtain ⟨xv7, rfl, xh7⟩ : VG (wy) v7 wz := h7
    obtain rfl : v8 = _ := h8
    obtain ⟨xg9, rfl, xB9, xl9⟩ : VA (wq.heap.size) zeroWay v9 wz := h9
    change wpList Try.prog _ _ _ _ wz
    have HM1 := Lib.hid hw.m
    have hB0 := xB9
    obtain ⟨TR, BR⟩ := hB0.blk
    have hBR := Lib.hid BR
    have hV := Lib.hid xh7
    have HLO := Lib.hid (Nat.le_trans HS.out.bl.size xl9)
    clear BR hB0 hw n9
    go_wp2_with (refine wpList_store_row rfl 108 _ _ rfl xg9 xv7 rfl rfl TR zeroWay hBR.out (by rw [hV.out.sz]; exact way_info) (by rw [hV.out.sz]; rfl) hV.out.one ?_)
    refine calm_normal ?_
    have HO5 := Lib.hid (off_setRow (Off.refl (· = xg9) wz) (g := xg9) (.inl rfl) xv7)
    have HB5 := Lib.hid (show Below w.heap.size w _ from below_setRow HM1.out.bl HLO.out xv7)
    have HW5 := Lib.hid (show WayM (wz.setRow xg9 xv7) xg9 wy from ⟨xv7, ⟨TR, setRow_heap wz xg9 _ xv7 TR (0, 0) hBR.out⟩, hV.out⟩)
    have HX5 := Lib.hid (HO5.out.blk (HM1.out.b 0 rfl) (fun e => by have h1 := (HS.out.b 0 rfl).sz; have h2 := xl9; omega))
    clear HO5 hBR hV HM1 x0 x1'
    generalize wz.setRow xg9 xv7 = w5 at *
    obtain ⟨gW, hgW⟩ : ∃ k, xg9 = k := ⟨_, rfl⟩
    rw [hgW] at HW5 HLO ⊢
    clear hgW
    go_wp2_with fail
    go_ret
    exact ⟨rfl, HB5.out⟩
theorem len_b (gT g n c : Nat) (M : Int) (A : Option Addr) (K : KnL) (t : PT) (l : ItL) (w : World) (H : TreeR 101 w gT g n c M A K t l) : Calls Try.prog 35 #[.pointer (some ⟨gT, 0, none⟩)] w fun e w' => e = .returned (.int .i64 (n : Int)) ∧ Below w.heap.size w w' :=
  (len_any gT g n c M A K t l w H).mono fun e w' h => ⟨h.1, by rw [h.2]; exact Below.refl _ _⟩
set_option maxHeartbeats 8000000 in
theorem ins_full (gT g n c : Nat) (M : Int) (A : Option Addr) (K : KnL) (t : PT) (l : ItL) (x : It) (w : World) (H : TreeR 101 w gT g n c M A K t l) (hn : n ≤ 1001) (wy : WyL) (res : Int) (P : Pth K x t.root wy res) (hl : wy.length ≤ 28) (hb : x.1 < x.2.1) (hr : (res != -1) = false) (hf : (n : Int) = M) : Calls Try.prog 37 #[.pointer (some ⟨gT, 0, none⟩), itV x] w fun e w' => e = .returned (.int .i64 7) ∧ Below w.heap.size w w' := by
  obtain ⟨x1, x2, x3⟩ := x
  have HT := Lib.hid H
  have HS := Lib.hid ((Mem.start w).push #[.int .i64 x1, .int .i64 x2, .int .i64 x3] 74)
  have HTL := Lib.hid H.lt
  have HB0 := Lib.hid (show Ext w _ from (Below.refl _ w).alloc (Nat.le_refl _) (.cells #[.int .i64 x1, .int .i64 x2, .int .i64 x3] 74))
  have HM := Lib.hid (made_any gT g _ (H.keep HB0.out).tp)
  have HP := Lib.hid P
  clear P
  have d1 : decide (x1 ≥ x2) = false := decide_eq_false (by have : x1 < x2 := hb; omega)
  clear hb
  have df : ((n : Int) == M) = true := by simpa using hf
  clear hf
  clear H
  go_enter Try.func37, Try.ntmps37
  go_upto_region 1 with fail
  generalize w.heap.size = hx at HS ⊢
  generalize w.alloc (.cells #[.int .i64 x1, .int .i64 x2, .int .i64 x3] 74) = wq at *
  go_wp2_with fail
  refine HM.out.mono ?_
  rintro e w1 ⟨rfl, hw1⟩
  subst w1
  have x0 := HS.out.c 0 0 rfl rfl
  have x1' := HS.out.c 0 1 rfl rfl
  go_upto_region 5 with fail
  refine wp_region_rel 10 (MemAt w wq.heap.size [(hx, #[.int .i64 x1, .int .i64 x2, .int .i64 x3])] [])
    (fun i => List.getD [VE (.pointer (some ⟨gT, 0, none⟩)), VE (.pointer (some ⟨gT, 0, none⟩)), VE (.pointer (some ⟨gT, 0, none⟩)), VE (.pointer (some ⟨g, 0, none⟩)), VE (.agg #[.int .i64 x1, .int .i64 x2, .int .i64 x3]), VF (wy) (res), VF (wy) (res), VG (wy), VE (.int .i64 res), VA (wq.heap.size) zeroWay] i (fun _ _ => False)) [9] [0, 1, 2, 6, 7, 8] (by kernel_rfl) (by kernel_rfl) HS.out.at (fun _ _ h hb => h.grow hb)
    (stays_all (stays_cons (stays_VE _) (stays_cons (stays_VE _) (stays_cons (stays_VE _) (stays_cons (stays_VE _) (stays_cons (stays_VE _) (stays_cons (stays_VF _ _) (stays_cons (stays_VF _ _) (stays_cons (stays_VG _) (stays_cons (stays_VE _) (stays_cons (stays_VA _ _) stays_nil))))))))))) ⟨?_, ?_, ?_, ?_, ?_, ?_, ?_, ?_, ?_, ?_, trivial⟩ ?_
  · intro ev wv hE hw hd
    refine ifw rfl (ifw rfl ?_)
    have v0 : ev (.tmp 0) = .pointer (some ⟨gT, 0, none⟩) := hE.tmp 0 rfl
    refine ⟨.pointer (some ⟨gT, 0, none⟩), fun w => ?_, rfl⟩
    have e1 := hE.const; have e2 := hE.func; clear hE hd hw
    go_simp
  · intro ev wv hE hw hd
    refine ifw rfl (ifw rfl ?_)
    have v16 : ev (.tmp 16) = .pointer (some ⟨gT, 0, none⟩) := hd 0 (by decide)
    refine ⟨.pointer (some ⟨gT, 0, none⟩), fun w => ?_, rfl⟩
    have e1 := hE.const; have e2 := hE.func; clear hE hd hw
    go_simp
  · intro ev wv hE hw hd
    refine ifw rfl (ifw rfl ?_)
    have v17 : ev (.tmp 17) = .pointer (some ⟨gT, 0, none⟩) := hd 1 (by decide)
    refine ⟨.pointer (some ⟨gT, 0, none⟩), fun w => ?_, rfl⟩
    have e1 := hE.const; have e2 := hE.func; clear hE hd hw
    go_simp
  · intro ev wv hE hw hd
    refine ifw rfl (ifn rfl ?_)
    have v18 : ev (.tmp 18) = .pointer (some ⟨gT, 0, none⟩) := hd 2 (by decide)
    have kx := (HT.out.keep hw.m.bl).tp.get 0 rfl
    refine rel_val (u := .pointer (some ⟨g, 0, none⟩)) (w' := wv) ?_ (Below.refl _ _) ⟨rfl, fun h => by cases h⟩
    have e1 := hE.const; clear hE hd hw
    go_simp
  · intro ev wv hE hw hd
    refine ifw rfl (ifn rfl ?_)
    have v3 : ev (.tmp 3) = .pointer (some ⟨hx, 0, none⟩) := hE.tmp 3 rfl
    have kx := hw.m.c 0 0 rfl rfl
    have ky := hw.m.c 0 1 rfl rfl
    have kz := hw.m.c 0 2 rfl rfl
    refine rel_val (u := .agg #[.int .i64 x1, .int .i64 x2, .int .i64 x3]) (w' := wv) ?_ (Below.refl _ _) ⟨rfl, fun h => by cases h⟩
    have e1 := hE.const; clear hE hd hw
    go_simp
  · intro ev wv hE hw hd
    refine ifw rfl (ifn rfl ?_)
    have v19 : ev (.tmp 19) = .pointer (some ⟨g, 0, none⟩) := hd 3 (by decide)
    have v20 : ev (.tmp 20) = .agg #[.int .i64 x1, .int .i64 x2, .int .i64 x3] := hd 4 (by decide)
    refine rel_call (f := 54) (args := #[.pointer (some ⟨g, 0, none⟩), .agg #[.int .i64 x1, .int .i64 x2, .int .i64 x3]]) ?_ ((find_any g n c A M t.root K (x1, x2, x3) wy res _ (HT.out.ar.keep hw.m.bl) HP.out hl (by omega))) ?_
    · have e0 := hE.func; have e1 := hE.const; clear hE hd hw
      go_simp
    · rintro e w' ⟨vs, rfl, hv, hb⟩
      exact ⟨_, rfl, hb, ⟨vs, rfl, hv⟩, fun h => by cases h⟩
  · intro ev wv hE hw hd
    refine ifw rfl (ifw rfl ?_)
    refine ⟨ev (.tmp 21), fun w => ?_, hd 5 (by decide)⟩
    clear hE hd hw
    go_simp
  · intro ev wv hE hw hd
    refine ifw rfl (ifw rfl ?_)
    obtain ⟨xv6, v15, xh6⟩ : VF (wy) (res) (ev (.tmp 15)) wv := hd 6 (by decide)
    refine ⟨.agg xv6, fun w => ?_, ⟨xv6, rfl, xh6⟩⟩
    have e1 := hE.const; clear hE hd hw
    go_simp
  · intro ev wv hE hw hd
    refine ifw rfl (ifw rfl ?_)
    obtain ⟨xv6, v15, xh6⟩ : VF (wy) (res) (ev (.tmp 15)) wv := hd 6 (by decide)
    refine ⟨.int .i64 res, fun w => ?_, rfl⟩
    have e1 := hE.const; clear hE hd hw
    go_simp
  · intro ev wv hE hw hd
    refine ifw rfl (ifn rfl ?_)
    refine rel_val (u := .pointer (some ⟨wv.heap.size, 0, none⟩)) (w' := wv.alloc (.cells zeroWay 108)) ?_ ((Below.refl _ _).alloc (Nat.le_refl _) _) ⟨⟨_, rfl, Blk.new _ _ _, hw.h⟩, fun _ => ⟨_, rfl, Nat.le_refl _, by simp⟩⟩
    clear hE hd hw
    go_simp
    rfl
  · intro wz hw
    intro v0 h0 _ v1 h1 _ v2 h2 _ v3 h3 _ v4 h4 _ v5 h5 _ v6 h6 _ v7 h7 _ v8 h8 _ v9 h9 n9
    simp only [Act.put, List.setIfInBounds_toArray, List.set_cons_zero, List.set_cons_succ, List.drop_succ_cons, List.drop_zero]
    obtain rfl : v0 = _ := h0
    obtain rfl : v1 = _ := h1
    obtain rfl : v2 = _ := h2
    obtain rfl : v3 = _ := h3
    obtain rfl : v4 = _ := h4
    obtain ⟨xv5, rfl, xh5⟩ : VF (wy) (res) v5 wz := h5
    obtain ⟨xv6, rfl, xh6⟩ : VF (wy) (res) v6 wz := h6
    obtain ⟨xv7, rfl, xh7⟩ : VG (wy) v7 wz := h7
    obtain rfl : v8 = _ := h8
    obtain ⟨xg9, rfl, xB9, xl9⟩ : VA (wq.heap.size) zeroWay v9 wz := h9
    change wpList Try.prog _ _ _ _ wz
    have HM1 := Lib.hid hw.m
    have hB0 := xB9
    obtain ⟨TR, BR⟩ := hB0.blk
    have hBR := Lib.hid BR
    have hV := Lib.hid xh7
    have HLO := Lib.hid (Nat.le_trans HS.out.bl.size xl9)
    clear BR hB0 hw n9
    go_wp2_with (refine wpList_store_row rfl 108 _ _ rfl xg9 xv7 rfl rfl TR zeroWay hBR.out (by rw [hV.out.sz]; exact way_info) (by rw [hV.out.sz]; rfl) hV.out.one ?_)
    refine calm_normal ?_
    have HO5 := Lib.hid (off_setRow (Off.refl (· = xg9) wz) (g := xg9) (.inl rfl) xv7)
    have HB5 := Lib.hid (show Below w.heap.size w _ from below_setRow HM1.out.bl HLO.out xv7)
    have HW5 := Lib.hid (show WayM (wz.setRow xg9 xv7) xg9 wy from ⟨xv7, ⟨TR, setRow_heap wz xg9 _ xv7 TR (0, 0) hBR.out⟩, hV.out⟩)
    have HX5 := Lib.hid (HO5.out.blk (HM1.out.b 0 rfl) (fun e => by have h1 := (HS.out.b 0 rfl).sz; have h2 := xl9; omega))
    clear HO5 hBR hV HM1 x0 x1'
    generalize wz.setRow xg9 xv7 = w5 at *
    obtain ⟨gW, hgW⟩ : ∃ k, xg9 = k := ⟨_, rfl⟩
    rw [hgW] at HW5 HLO ⊢
    clear hgW
    go_wp2_with fail
    go_upto_region 8 with fail
    refine wp_region_rel 11 (Ext w5)
      (fun i => List.getD [VE (.pointer (some ⟨gT, 0, none⟩)), VE (.int .i64 (n : Int)), VE (.pointer (some ⟨gT, 0, none⟩)), VE (.pointer (some ⟨gT, 0, none⟩)), VE (.pointer (some ⟨gT, 0, none⟩)), VE (.pointer (some ⟨g, 0, none⟩)), VE (.pointer (some ⟨g, 0, none⟩)), VE (.pointer (some ⟨g, 0, none⟩)), VE (.int .i64 M), VE (.bool true), VE (.bool true)] i (fun _ _ => False)) [] [0, 2, 3, 4, 6, 7, 9, 10] (by kernel_rfl) (by kernel_rfl) (Ext.start w5) (fun _ _ h hb => h.grow hb)
      (stays_all (stays_cons (stays_VE _) (stays_cons (stays_VE _) (stays_cons (stays_VE _) (stays_cons (stays_VE _) (stays_cons (stays_VE _) (stays_cons (stays_VE _) (stays_cons (stays_VE _) (stays_cons (stays_VE _) (stays_cons (stays_VE _) (stays_cons (stays_VE _) (stays_cons (stays_VE _) stays_nil)))))))))))) ⟨?_, ?_, ?_, ?_, ?_, ?_, ?_, ?_, ?_, ?_, ?_, trivial⟩ ?_
    · intro ev wv hE hw hd
      refine ifw rfl (ifw rfl ?_)
      have v0 : ev (.tmp 0) = .pointer (some ⟨gT, 0, none⟩) := hE.tmp 0 rfl
      refine ⟨.pointer (some ⟨gT, 0, none⟩), fun w => ?_, rfl⟩
      have e1 := hE.const; have e2 := hE.func; clear hE hd hw
      go_simp
    · intro ev wv hE hw hd
      refine ifw rfl (ifn rfl ?_)
      have v28 : ev (.tmp 28) = .pointer (some ⟨gT, 0, none⟩) := hd 0 (by decide)
      refine rel_call (f := 35) (args := #[.pointer (some ⟨gT, 0, none⟩)]) ?_ (len_b gT g n c M A K t l _ (HT.out.keep (Below.trans HB5.out (Below.mono hw HB5.out.size)))) ?_
      · have e0 := hE.func; have e1 := hE.const; clear hE hd hw
        go_simp
      · rintro e w' ⟨rfl, hb⟩
        exact ⟨_, rfl, hb, rfl, fun h => by cases h⟩
    · intro ev wv hE hw hd
      refine ifw rfl (ifw rfl ?_)
      have v0 : ev (.tmp 0) = .pointer (some ⟨gT, 0, none⟩) := hE.tmp 0 rfl
      refine ⟨.pointer (some ⟨gT, 0, none⟩), fun w => ?_, rfl⟩
      have e1 := hE.const; have e2 := hE.func; clear hE hd hw
      go_simp
    · intro ev wv hE hw hd
      refine ifw rfl (ifw rfl ?_)
      have v30 : ev (.tmp 30) = .pointer (some ⟨gT, 0, none⟩) := hd 2 (by decide)
      refine ⟨.pointer (some ⟨gT, 0, none⟩), fun w => ?_, rfl⟩
      have e1 := hE.const; have e2 := hE.func; clear hE hd hw
      go_simp
    · intro ev wv hE hw hd
      refine ifw rfl (ifw rfl ?_)
      have v31 : ev (.tmp 31) = .pointer (some ⟨gT, 0, none⟩) := hd 3 (by decide)
      refine ⟨.pointer (some ⟨gT, 0, none⟩), fun w => ?_, rfl⟩
      have e1 := hE.const; have e2 := hE.func; clear hE hd hw
      go_simp
    · intro ev wv hE hw hd
      refine ifw rfl (ifn rfl ?_)
      have v32 : ev (.tmp 32) = .pointer (some ⟨gT, 0, none⟩) := hd 4 (by decide)
      have kx := (HT.out.keep (Below.trans HB5.out (Below.mono hw HB5.out.size))).tp.get 0 rfl
      refine rel_val (u := .pointer (some ⟨g, 0, none⟩)) (w' := wv) ?_ (Below.refl _ _) ⟨rfl, fun h => by cases h⟩
      have e1 := hE.const; clear hE hd hw
      go_simp
    · intro ev wv hE hw hd
      refine ifw rfl (ifw rfl ?_)
      have v33 : ev (.tmp 33) = .pointer (some ⟨g, 0, none⟩) := hd 5 (by decide)
      refine ⟨.pointer (some ⟨g, 0, none⟩), fun w => ?_, rfl⟩
      have e1 := hE.const; have e2 := hE.func; clear hE hd hw
      go_simp
    · intro ev wv hE hw hd
      refine ifw rfl (ifw rfl ?_)
      have v34 : ev (.tmp 34) = .pointer (some ⟨g, 0, none⟩) := hd 6 (by decide)
      refine ⟨.pointer (some ⟨g, 0, none⟩), fun w => ?_, rfl⟩
      have e1 := hE.const; have e2 := hE.func; clear hE hd hw
      go_simp
    · intro ev wv hE hw hd
      refine ifw rfl (ifn rfl ?_)
      have v35 : ev (.tmp 35) = .pointer (some ⟨g, 0, none⟩) := hd 7 (by decide)
      have kx := (HT.out.keep (Below.trans HB5.out (Below.mono hw HB5.out.size))).ar.b.get 0 rfl
      refine rel_val (u := .int .i64 M) (w' := wv) ?_ (Below.refl _ _) ⟨rfl, fun h => by cases h⟩
      have e1 := hE.const; clear hE hd hw
      go_simp
    · intro ev wv hE hw hd
      refine ifw rfl (ifw rfl ?_)
      have v29 : ev (.tmp 29) = .int .i64 (n : Int) := hd 1 (by decide)
      have v36 : ev (.tmp 36) = .int .i64 M := hd 8 (by decide)
      refine ⟨.bool true, fun w => ?_, rfl⟩
      have e1 := hE.const; have e2 := hE.func; clear hE hd hw
      go_simp
    · intro ev wv hE hw hd
      refine ifw rfl (ifw rfl ?_)
      have v37 : ev (.tmp 37) = .bool true := hd 9 (by decide)
      refine ⟨.bool true, fun w => ?_, rfl⟩
      have e1 := hE.const; have e2 := hE.func; clear hE hd hw
      go_simp
    · intro w6 hw
      intro v0 h0 _ v1 h1 _ v2 h2 _ v3 h3 _ v4 h4 _ v5 h5 _ v6 h6 _ v7 h7 _ v8 h8 _ v9 h9 _ v10 h10 _
      simp only [Act.put, List.setIfInBounds_toArray, List.set_cons_zero, List.set_cons_succ, List.drop_succ_cons, List.drop_zero]
      obtain rfl : v0 = _ := h0
      obtain rfl : v1 = _ := h1
      obtain rfl : v2 = _ := h2
      obtain rfl : v3 = _ := h3
      obtain rfl : v4 = _ := h4
      obtain rfl : v5 = _ := h5
      obtain rfl : v6 = _ := h6
      obtain rfl : v7 = _ := h7
      obtain rfl : v8 = _ := h8
      obtain rfl : v9 = _ := h9
      obtain rfl : v10 = _ := h10
      change wpList Try.prog _ _ _ _ w6
      have HB6 := Lib.hid (Below.trans HB5.out (Below.mono hw HB5.out.size))
      clear hw
      go_wp2_with fail
      refine calm_normal ?_
      go_wp2_with fail
      go_ret
      exact ⟨rfl, HB6.out⟩
end Go.Proofs.Ytockjcainkoifaa
namespace Go.Proofs.Ytockjcainkoifaa
set_option maxRecDepth 8000
open Go.RowKit Corr
set_option linter.unusedVariables false
set_option linter.unusedSimpArgs false
set_option maxHeartbeats 8000000 in
theorem ins_ok (gT g n c : Nat) (M : Int) (A : Option Addr) (K : KnL) (t : PT) (l : ItL) (x : It) (w : World) (H : TreeR 101 w gT g n c M A K t l) (hn : n ≤ 1001) (cx : Cx) (hplug : cx.plug .nil = t) (P : Pth K x t.root cx.way (-1)) (hl : cx.way.length ≤ 28) (hb : x.1 < x.2.1) (hf : ¬ (n : Int) = M) (hb1 : ∀ y ∈ cx.bef, lessB y x = true) (hb2 : ∀ y ∈ cx.aft, lessB x y = true) : Calls Try.prog 37 #[.pointer (some ⟨gT, 0, none⟩), itV x] w fun e w' => e = .returned (.int .i64 0) ∧ ∃ A' c' K' t', TreeR 101 w' gT g (n + 1) c' M A' K' t' (insI x l) ∧ Off (inTr gT g A n c) w w' ∧ ∀ k, inRow A' (n + 1) c' k → inRow A n c k ∨ w.heap.size ≤ k := by
  obtain ⟨x1, x2, x3⟩ := x
  have HT := Lib.hid H
  have HS := Lib.hid ((Mem.start w).push #[.int .i64 x1, .int .i64 x2, .int .i64 x3] 74)
  have HTL := Lib.hid H.lt
  have HB0 := Lib.hid (show Ext w _ from (Below.refl _ w).alloc (Nat.le_refl _) (.cells #[.int .i64 x1, .int .i64 x2, .int .i64 x3] 74))
  have HM := Lib.hid (made_any gT g _ (H.keep HB0.out).tp)
  have HP := Lib.hid P
  have HPL := Lib.hid hplug
  have HF := Lib.hid (And.intro hb1 hb2)
  have hr : ((-1 : Int) != -1) = false := rfl
  have df : ((n : Int) == M) = false := by simpa using hf
  clear P hplug hb1 hb2 hf
  have d1 : decide (x1 ≥ x2) = false := decide_eq_false (by have : x1 < x2 := hb; omega)
  clear hb
  clear H
  go_enter Try.func37, Try.ntmps37
  go_upto_region 1 with fail
  generalize w.heap.size = hx at HS ⊢
  generalize w.alloc (.cells #[.int .i64 x1, .int .i64 x2, .int .i64 x3] 74) = wq at *
  go_wp2_with fail
  refine HM.out.mono ?_
  rintro e w1 ⟨rfl, hw1⟩
  subst w1
  have x0 := HS.out.c 0 0 rfl rfl
  have x1' := HS.out.c 0 1 rfl rfl
  go_upto_region 5 with fail
  refine wp_region_rel 10 (MemAt w wq.heap.size [(hx, #[.int .i64 x1, .int .i64 x2, .int .i64 x3])] [])
    (fun i => List.getD [VE (.pointer (some ⟨gT, 0, none⟩)), VE (.pointer (some ⟨gT, 0, none⟩)), VE (.pointer (some ⟨gT, 0, none⟩)), VE (.pointer (some ⟨g, 0, none⟩)), VE (.agg #[.int .i64 x1, .int .i64 x2, .int .i64 x3]), VF (cx.way) ((-1)), VF (cx.way) ((-1)), VG (cx.way), VE (.int .i64 (-1)), VA (wq.heap.size) zeroWay] i (fun _ _ => False)) [9] [0, 1, 2, 6, 7, 8] (by kernel_rfl) (by kernel_rfl) HS.out.at (fun _ _ h hb => h.grow hb)
    (stays_all (stays_cons (stays_VE _) (stays_cons (stays_VE _) (stays_cons (stays_VE _) (stays_cons (stays_VE _) (stays_cons (stays_VE _) (stays_cons (stays_VF _ _) (stays_cons (stays_VF _ _) (stays_cons (stays_VG _) (stays_cons (stays_VE _) (stays_cons (stays_VA _ _) stays_nil))))))))))) ⟨?_, ?_, ?_, ?_, ?_, ?_, ?_, ?_, ?_, ?_, trivial⟩ ?_
  · intro ev wv hE hw hd
    refine ifw rfl (ifw rfl ?_)
    have v0 : ev (.tmp 0) = .pointer (some ⟨gT, 0, none⟩) := hE.tmp 0 rfl
    refine ⟨.pointer (some ⟨gT, 0, none⟩), fun w => ?_, rfl⟩
    have e1 := hE.const; have e2 := hE.func; clear hE hd hw
    go_simp
  · intro ev wv hE hw hd
    refine ifw rfl (ifw rfl ?_)
    have v16 : ev (.tmp 16) = .pointer (some ⟨gT, 0, none⟩) := hd 0 (by decide)
    refine ⟨.pointer (some ⟨gT, 0, none⟩), fun w => ?_, rfl⟩
    have e1 := hE.const; have e2 := hE.func; clear hE hd hw
    go_simp
  · intro ev wv hE hw hd
    refine ifw rfl (ifw rfl ?_)
    have v17 : ev (.tmp 17) = .pointer (some ⟨gT, 0, none⟩) := hd 1 (by decide)
    refine ⟨.pointer (some ⟨gT, 0, none⟩), fun w => ?_, rfl⟩
    have e1 := hE.const; have e2 := hE.func; clear hE hd hw
    go_simp
  · intro ev wv hE hw hd
    refine ifw rfl (ifn rfl ?_)
    have v18 : ev (.tmp 18) = .pointer (some ⟨gT, 0, none⟩) := hd 2 (by decide)
    have kx := (HT.out.keep hw.m.bl).tp.get 0 rfl
    refine rel_val (u := .pointer (some ⟨g, 0, none⟩)) (w' := wv) ?_ (Below.refl _ _) ⟨rfl, fun h => by cases h⟩
    have e1 := hE.const; clear hE hd hw
    go_simp
  · intro ev wv hE hw hd
    refine ifw rfl (ifn rfl ?_)
    have v3 : ev (.tmp 3) = .pointer (some ⟨hx, 0, none⟩) := hE.tmp 3 rfl
    have kx := hw.m.c 0 0 rfl rfl
    have ky := hw.m.c 0 1 rfl rfl
    have kz := hw.m.c 0 2 rfl rfl
    refine rel_val (u := .agg #[.int .i64 x1, .int .i64 x2, .int .i64 x3]) (w' := wv) ?_ (Below.refl _ _) ⟨rfl, fun h => by cases h⟩
    have e1 := hE.const; clear hE hd hw
    go_simp
  · intro ev wv hE hw hd
    refine ifw rfl (ifn rfl ?_)
    have v19 : ev (.tmp 19) = .pointer (some ⟨g, 0, none⟩) := hd 3 (by decide)
    have v20 : ev (.tmp 20) = .agg #[.int .i64 x1, .int .i64 x2, .int .i64 x3] := hd 4 (by decide)
    refine rel_call (f := 54) (args := #[.pointer (some ⟨g, 0, none⟩), .agg #[.int .i64 x1, .int .i64 x2, .int .i64 x3]]) ?_ ((find_any g n c A M t.root K (x1, x2, x3) cx.way (-1) _ (HT.out.ar.keep hw.m.bl) HP.out hl (by omega))) ?_
    · have e0 := hE.func; have e1 := hE.const; clear hE hd hw
      go_simp
    · rintro e w' ⟨vs, rfl, hv, hb⟩
      exact ⟨_, rfl, hb, ⟨vs, rfl, hv⟩, fun h => by cases h⟩
  · intro ev wv hE hw hd
    refine ifw rfl (ifw rfl ?_)
    refine ⟨ev (.tmp 21), fun w => ?_, hd 5 (by decide)⟩
    clear hE hd hw
    go_simp
  · intro ev wv hE hw hd
    refine ifw rfl (ifw rfl ?_)
    obtain ⟨xv6, v15, xh6⟩ : VF (cx.way) ((-1)) (ev (.tmp 15)) wv := hd 6 (by decide)
    refine ⟨.agg xv6, fun w => ?_, ⟨xv6, rfl, xh6⟩⟩
    have e1 := hE.const; clear hE hd hw
    go_simp
  · intro ev wv hE hw hd
    refine ifw rfl (ifw rfl ?_)
    obtain ⟨xv6, v15, xh6⟩ : VF (cx.way) ((-1)) (ev (.tmp 15)) wv := hd 6 (by decide)
    refine ⟨.int .i64 (-1), fun w => ?_, rfl⟩
    have e1 := hE.const; clear hE hd hw
    go_simp
  · intro ev wv hE hw hd
    refine ifw rfl (ifn rfl ?_)
    refine rel_val (u := .pointer (some ⟨wv.heap.size, 0, none⟩)) (w' := wv.alloc (.cells zeroWay 108)) ?_ ((Below.refl _ _).alloc (Nat.le_refl _) _) ⟨⟨_, rfl, Blk.new _ _ _, hw.h⟩, fun _ => ⟨_, rfl, Nat.le_refl _, by simp⟩⟩
    clear hE hd hw
    go_simp
    rfl
  · intro wz hw
    intro v0 h0 _ v1 h1 _ v2 h2 _ v3 h3 _ v4 h4 _ v5 h5 _ v6 h6 _ v7 h7 _ v8 h8 _ v9 h9 n9
    simp only [Act.put, List.setIfInBounds_toArray, List.set_cons_zero, List.set_cons_succ, List.drop_succ_cons, List.drop_zero]
    obtain rfl : v0 = _ := h0
    obtain rfl : v1 = _ := h1
    obtain rfl : v2 = _ := h2
    obtain rfl : v3 = _ := h3
    obtain rfl : v4 = _ := h4
    obtain ⟨xv5, rfl, xh5⟩ : VF (cx.way) ((-1)) v5 wz := h5
    obtain ⟨xv6, rfl, xh6⟩ : VF (cx.way) ((-1)) v6 wz := h6
    obtain ⟨xv7, rfl, xh7⟩ : VG (cx.way) v7 wz := h7
    obtain rfl : v8 = _ := h8
    obtain ⟨xg9, rfl, xB9, xl9⟩ : VA (wq.heap.size) zeroWay v9 wz := h9
    change wpList Try.prog _ _ _ _ wz
    have HM1 := Lib.hid hw.m
    have hB0 := xB9
    obtain ⟨TR, BR⟩ := hB0.blk
    have hBR := Lib.hid BR
    have hV := Lib.hid xh7
    have HLO := Lib.hid (Nat.le_trans HS.out.bl.size xl9)
    clear BR hB0 hw n9
    go_wp2_with (refine wpList_store_row rfl 108 _ _ rfl xg9 xv7 rfl rfl TR zeroWay hBR.out (by rw [hV.out.sz]; exact way_info) (by rw [hV.out.sz]; rfl) hV.out.one ?_)
    refine calm_normal ?_
    have HO5 := Lib.hid (off_setRow (Off.refl (· = xg9) wz) (g := xg9) (.inl rfl) xv7)
    have HB5 := Lib.hid (show Below w.heap.size w _ from below_setRow HM1.out.bl HLO.out xv7)
    have HW5 := Lib.hid (show WayM (wz.setRow xg9 xv7) xg9 cx.way from ⟨xv7, ⟨TR, setRow_heap wz xg9 _ xv7 TR (0, 0) hBR.out⟩, hV.out⟩)
    have HX5 := Lib.hid (HO5.out.blk (HM1.out.b 0 rfl) (fun e => by have h1 := (HS.out.b 0 rfl).sz; have h2 := xl9; omega))
    clear HO5 hBR hV HM1 x0 x1'
    generalize wz.setRow xg9 xv7 = w5 at *
    obtain ⟨gW, hgW⟩ : ∃ k, xg9 = k := ⟨_, rfl⟩
    rw [hgW] at HW5 HLO ⊢
    clear hgW
    go_wp2_with fail
    go_upto_region 8 with fail
    refine wp_region_rel 11 (Ext w5)
      (fun i => List.getD [VE (.pointer (some ⟨gT, 0, none⟩)), VE (.int .i64 (n : Int)), VE (.pointer (some ⟨gT, 0, none⟩)), VE (.pointer (some ⟨gT, 0, none⟩)), VE (.pointer (some ⟨gT, 0, none⟩)), VE (.pointer (some ⟨g, 0, none⟩)), VE (.pointer (some ⟨g, 0, none⟩)), VE (.pointer (some ⟨g, 0, none⟩)), VE (.int .i64 M), VE (.bool false), VE (.bool false)] i (fun _ _ => False)) [] [0, 2, 3, 4, 6, 7, 9, 10] (by kernel_rfl) (by kernel_rfl) (Ext.start w5) (fun _ _ h hb => h.grow hb)
      (stays_all (stays_cons (stays_VE _) (stays_cons (stays_VE _) (stays_cons (stays_VE _) (stays_cons (stays_VE _) (stays_cons (stays_VE _) (stays_cons (stays_VE _) (stays_cons (stays_VE _) (stays_cons (stays_VE _) (stays_cons (stays_VE _) (stays_cons (stays_VE _) (stays_cons (stays_VE _) stays_nil)))))))))))) ⟨?_, ?_, ?_, ?_, ?_, ?_, ?_, ?_, ?_, ?_, ?_, trivial⟩ ?_
    · intro ev wv hE hw hd
      refine ifw rfl (ifw rfl ?_)
      have v0 : ev (.tmp 0) = .pointer (some ⟨gT, 0, none⟩) := hE.tmp 0 rfl
      refine ⟨.pointer (some ⟨gT, 0, none⟩), fun w => ?_, rfl⟩
      have e1 := hE.const; have e2 := hE.func; clear hE hd hw
      go_simp
    · intro ev wv hE hw hd
      refine ifw rfl (ifn rfl ?_)
      have v28 : ev (.tmp 28) = .pointer (some ⟨gT, 0, none⟩) := hd 0 (by decide)
      refine rel_call (f := 35) (args := #[.pointer (some ⟨gT, 0, none⟩)]) ?_ (len_b gT g n c M A K t l _ (HT.out.keep (Below.trans HB5.out (Below.mono hw HB5.out.size)))) ?_
      · have e0 := hE.func; have e1 := hE.const; clear hE hd hw
        go_simp
      · rintro e w' ⟨rfl, hb⟩
        exact ⟨_, rfl, hb, rfl, fun h => by cases h⟩
    · intro ev wv hE hw hd
      refine ifw rfl (ifw rfl ?_)
      have v0 : ev (.tmp 0) = .pointer (some ⟨gT, 0, none⟩) := hE.tmp 0 rfl
      refine ⟨.pointer (some ⟨gT, 0, none⟩), fun w => ?_, rfl⟩
      have e1 := hE.const; have e2 := hE.func; clear hE hd hw
      go_simp
    · intro ev wv hE hw hd
      refine ifw rfl (ifw rfl ?_)
      have v30 : ev (.tmp 30) = .pointer (some ⟨gT, 0, none⟩) := hd 2 (by decide)
      refine ⟨.pointer (some ⟨gT, 0, none⟩), fun w => ?_, rfl⟩
      have e1 := hE.const; have e2 := hE.func; clear hE hd hw
      go_simp
    · intro ev wv hE hw hd
      refine ifw rfl (ifw rfl ?_)
      have v31 : ev (.tmp 31) = .pointer (some ⟨gT, 0, none⟩) := hd 3 (by decide)
      refine ⟨.pointer (some ⟨gT, 0, none⟩), fun w => ?_, rfl⟩
      have e1 := hE.const; have e2 := hE.func; clear hE hd hw
      go_simp
    · intro ev wv hE hw hd
      refine ifw rfl (ifn rfl ?_)
      have v32 : ev (.tmp 32) = .pointer (some ⟨gT, 0, none⟩) := hd 4 (by decide)
      have kx := (HT.out.keep (Below.trans HB5.out (Below.mono hw HB5.out.size))).tp.get 0 rfl
      refine rel_val (u := .pointer (some ⟨g, 0, none⟩)) (w' := wv) ?_ (Below.refl _ _) ⟨rfl, fun h => by cases h⟩
      have e1 := hE.const; clear hE hd hw
      go_simp
    · intro ev wv hE hw hd
      refine ifw rfl (ifw rfl ?_)
      have v33 : ev (.tmp 33) = .pointer (some ⟨g, 0, none⟩) := hd 5 (by decide)
      refine ⟨.pointer (some ⟨g, 0, none⟩), fun w => ?_, rfl⟩
      have e1 := hE.const; have e2 := hE.func; clear hE hd hw
      go_simp
    · intro ev wv hE hw hd
      refine ifw rfl (ifw rfl ?_)
      have v34 : ev (.tmp 34) = .pointer (some ⟨g, 0, none⟩) := hd 6 (by decide)
      refine ⟨.pointer (some ⟨g, 0, none⟩), fun w => ?_, rfl⟩
      have e1 := hE.const; have e2 := hE.func; clear hE hd hw
      go_simp
    · intro ev wv hE hw hd
      refine ifw rfl (ifn rfl ?_)
      have v35 : ev (.tmp 35) = .pointer (some ⟨g, 0, none⟩) := hd 7 (by decide)
      have kx := (HT.out.keep (Below.trans HB5.out (Below.mono hw HB5.out.size))).ar.b.get 0 rfl
      refine rel_val (u := .int .i64 M) (w' := wv) ?_ (Below.refl _ _) ⟨rfl, fun h => by cases h⟩
      have e1 := hE.const; clear hE hd hw
      go_simp
    · intro ev wv hE hw hd
      refine ifw rfl (ifw rfl ?_)
      have v29 : ev (.tmp 29) = .int .i64 (n : Int) := hd 1 (by decide)
      have v36 : ev (.tmp 36) = .int .i64 M := hd 8 (by decide)
      refine ⟨.bool false, fun w => ?_, rfl⟩
      have e1 := hE.const; have e2 := hE.func; clear hE hd hw
      go_simp
    · intro ev wv hE hw hd
      refine ifw rfl (ifw rfl ?_)
      have v37 : ev (.tmp 37) = .bool false := hd 9 (by decide)
      refine ⟨.bool false, fun w => ?_, rfl⟩
      have e1 := hE.const; have e2 := hE.func; clear hE hd hw
      go_simp
    · intro w6 hw
      intro v0 h0 _ v1 h1 _ v2 h2 _ v3 h3 _ v4 h4 _ v5 h5 _ v6 h6 _ v7 h7 _ v8 h8 _ v9 h9 _ v10 h10 _
      simp only [Act.put, List.setIfInBounds_toArray, List.set_cons_zero, List.set_cons_succ, List.drop_succ_cons, List.drop_zero]
      obtain rfl : v0 = _ := h0
      obtain rfl : v1 = _ := h1
      obtain rfl : v2 = _ := h2
      obtain rfl : v3 = _ := h3
      obtain rfl : v4 = _ := h4
      obtain rfl : v5 = _ := h5
      obtain rfl : v6 = _ := h6
      obtain rfl : v7 = _ := h7
      obtain rfl : v8 = _ := h8
      obtain rfl : v9 = _ := h9
      obtain rfl : v10 = _ := h10
      change wpList Try.prog _ _ _ _ w6
      have HB6 := Lib.hid (Below.trans HB5.out (Below.mono hw HB5.out.size))
      have HX6 := Lib.hid (HX5.out.keep hw)
      have HW6 := Lib.hid (HW5.out.keep hw)
      clear hw
      go_wp2_with fail
      refine calm_normal ?_
      go_upto_region 10 with fail
      refine wp_region_rel 5 (Ext w6)
        (fun i => List.getD [VE (.pointer (some ⟨gT, 0, none⟩)), VE (.pointer (some ⟨gT, 0, none⟩)), VE (.pointer (some ⟨gT, 0, none⟩)), VE (.pointer (some ⟨g, 0, none⟩)), VE (.agg #[.int .i64 x1, .int .i64 x2, .int .i64 x3])] i (fun _ _ => False)) [] [0, 1, 2] (by kernel_rfl) (by kernel_rfl) (Ext.start w6) (fun _ _ h hb => h.grow hb)
        (stays_all (stays_cons (stays_VE _) (stays_cons (stays_VE _) (stays_cons (stays_VE _) (stays_cons (stays_VE _) (stays_cons (stays_VE _) stays_nil)))))) ⟨?_, ?_, ?_, ?_, ?_, trivial⟩ ?_
      · intro ev wv hE hw hd
        refine ifw rfl (ifw rfl ?_)
        have v0 : ev (.tmp 0) = .pointer (some ⟨gT, 0, none⟩) := hE.tmp 0 rfl
        refine ⟨.pointer (some ⟨gT, 0, none⟩), fun w => ?_, rfl⟩
        have e1 := hE.const; have e2 := hE.func; clear hE hd hw
        go_simp
      · intro ev wv hE hw hd
        refine ifw rfl (ifw rfl ?_)
        have v38 : ev (.tmp 38) = .pointer (some ⟨gT, 0, none⟩) := hd 0 (by decide)
        refine ⟨.pointer (some ⟨gT, 0, none⟩), fun w => ?_, rfl⟩
        have e1 := hE.const; have e2 := hE.func; clear hE hd hw
        go_simp
      · intro ev wv hE hw hd
        refine ifw rfl (ifw rfl ?_)
        have v39 : ev (.tmp 39) = .pointer (some ⟨gT, 0, none⟩) := hd 1 (by decide)
        refine ⟨.pointer (some ⟨gT, 0, none⟩), fun w => ?_, rfl⟩
        have e1 := hE.const; have e2 := hE.func; clear hE hd hw
        go_simp
      · intro ev wv hE hw hd
        refine ifw rfl (ifn rfl ?_)
        have v40 : ev (.tmp 40) = .pointer (some ⟨gT, 0, none⟩) := hd 2 (by decide)
        have kx := (HT.out.keep (Below.trans HB6.out (Below.mono hw HB6.out.size))).tp.get 0 rfl
        refine rel_val (u := .pointer (some ⟨g, 0, none⟩)) (w' := wv) ?_ (Below.refl _ _) ⟨rfl, fun h => by cases h⟩
        have e1 := hE.const; clear hE hd hw
        go_simp
      · intro ev wv hE hw hd
        refine ifw rfl (ifn rfl ?_)
        have v3 : ev (.tmp 3) = .pointer (some ⟨hx, 0, none⟩) := hE.tmp 3 rfl
        have kx := (HX6.out.keep hw).get 0 rfl
        have ky := (HX6.out.keep hw).get 1 rfl
        have kz := (HX6.out.keep hw).get 2 rfl
        refine rel_val (u := .agg #[.int .i64 x1, .int .i64 x2, .int .i64 x3]) (w' := wv) ?_ (Below.refl _ _) ⟨rfl, fun h => by cases h⟩
        have e1 := hE.const; clear hE hd hw
        go_simp
      · intro w7 hw
        intro v0 h0 _ v1 h1 _ v2 h2 _ v3 h3 _ v4 h4 _
        simp only [Act.put, List.setIfInBounds_toArray, List.set_cons_zero, List.set_cons_succ, List.drop_succ_cons, List.drop_zero]
        obtain rfl : v0 = _ := h0
        obtain rfl : v1 = _ := h1
        obtain rfl : v2 = _ := h2
        obtain rfl : v3 = _ := h3
        obtain rfl : v4 = _ := h4
        change wpList Try.prog _ _ _ _ w7
        have HB7 := Lib.hid (Below.trans HB6.out (Below.mono hw HB6.out.size))
        have HW7 := Lib.hid (HW6.out.keep hw)
        have HT7 := Lib.hid (HT.out.keep HB7.out)
        clear hw
        have HNE := Lib.hid (show ¬ inAr g A n c gW from fun e => by have h1 := HTL.out gW (.inr e); have h2 := HLO.out; omega)
        have HTG := Lib.hid (show gT ≠ gW from fun e => by have h1 := HTL.out gT (.inl rfl); have h2 := HLO.out; omega)
        have hrc : RpC K t.root cx (-1) := by
          have h1 := (RpC.of cx .nil (by rw [HPL.out]; exact HT.out.rp)).2
          rw [HPL.out] at h1; exact h1
        have hok : okC cx 0 := (okC.of cx .nil (by rw [HPL.out]; exact HT.out.bal)).2
        have hpm : t.places.Perm cx.places := by have := cx.perm .nil; rw [HPL.out] at this; exact this
        have hit : cx.bef ++ cx.aft = l := by have := cx.items .nil; rw [HPL.out, HT.out.it] at this; exact this.symm
        have hlen : (cx.bef ++ (x1, x2, x3) :: cx.aft).length ≤ 1500 := by
          have h1 := congrArg List.length hit
          rw [HT.out.num] at h1
          simp at h1 ⊢; omega
        have HPM := Lib.hid hpm
        have HIT := Lib.hid hit
        go_wp2_with fail
        refine (put_any g gW n c A M t.root K cx (x1, x2, x3) w7 HT7.out.ar HW7.out HNE.out hrc (hpm.nodup_iff.1 HT.out.nd) hok hlen (by omega)).mono ?_
        rintro e w8 ⟨A', c', t', K', h0, rfl, hA8, hR8, hF8, hU8⟩
        have HA8 := Lib.hid hA8
        have HR8 := Lib.hid hR8
        have HF8 := Lib.hid hF8
        have HU8 := Lib.hid hU8
        clear hA8 hR8 hF8 hU8 hrc hok hpm hit hlen
        go_wp2_with fail
        refine calm_normal ?_
        go_wp2_with fail
        go_ret
        have hsp := ins_split (x := (x1, x2, x3)) (by rw [HIT.out]; exact HT.out.srt) HF.out.1 HF.out.2
        rw [HIT.out] at hsp
        have hpm8 : t'.places.Perm (n :: cx.places) := by have := HR8.out.pm; rwa [Cx.places, List.append_nil] at this
        have hlo : ∀ k, inRow A' (n + 1) c' k → inRow A n c k ∨ w.heap.size ≤ k := fun k hk => (HU8.out k hk).imp_right fun h => Nat.le_trans HB7.out.size h
        refine ⟨rfl, A', c', K', t', ⟨HF8.out.blk HT7.out.tp ?_, HA8.out, HR8.out.rp, HR8.out.bal, ?_, ?_, ?_, ?_, HT.out.ne.1, ?_⟩, ?_, hlo⟩
        · rintro ((e | e) | e)
          · exact HT.out.ne.1 e
          · exact HT.out.ne.2 e
          · exact HTG.out e
        · have := HR8.out.nd; rwa [Cx.places, List.append_nil] at this
        · rw [hpm8.length_eq, List.length_cons, ← HPM.out.length_eq, HT.out.len]
        · rw [hsp.1]; exact HR8.out.it
        · exact ins_srt HT.out.srt hsp.2
        · intro e
          rcases hlo gT e with h | h
          · exact HT.out.ne.2 h
          · have := HTL.out gT (.inl rfl); omega
        · refine ((Off.of HB7.out).trans HF8.out).less fun k hk => ?_
          rcases hk with h | h
          · exact .inl (.inr h)
          · right; rw [h]; exact HLO.out
end Go.Proofs.Ytockjcainkoifaa
namespace Go.Proofs.Ytockjcainkoifaa
set_option maxRecDepth 8000
open Go.RowKit Corr
set_option linter.unusedVariables false
set_option linter.unusedSimpArgs false
set_option maxHeartbeats 8000000 in
theorem del_no (gT g n c : Nat) (M : Int) (A : Option Addr) (K : KnL) (t : PT) (l : ItL) (x : It) (w : World) (H : TreeR 101 w gT g n c M A K t l) (hn : n ≤ 1001) (wy : WyL) (res : Int) (P : Pth K x t.root wy res) (hl : wy.length ≤ 28) (hr : (res == -1) = true) : Calls Try.prog 46 #[.pointer (some ⟨gT, 0, none⟩), itV x] w fun e w' => e = .returned (.int .i64 5) ∧ Below w.heap.size w w' := by
  obtain ⟨x1, x2, x3⟩ := x
  have HT := Lib.hid H
  have HS := Lib.hid ((Mem.start w).push #[.int .i64 x1, .int .i64 x2, .int .i64 x3] 74)
  have HTL := Lib.hid H.lt
  have HB0 := Lib.hid (show Ext w _ from (Below.refl _ w).alloc (Nat.le_refl _) (.cells #[.int .i64 x1, .int .i64 x2, .int .i64 x3] 74))
  have HM := Lib.hid (made_any gT g _ (H.keep HB0.out).tp)
  have HP := Lib.hid P
  clear P
  clear H
  go_enter Try.func46, Try.ntmps46
  go_upto_region 1 with fail
  generalize w.heap.size = hx at HS ⊢
  generalize w.alloc (.cells #[.int .i64 x1, .int .i64 x2, .int .i64 x3] 74) = wq at *
  go_wp2_with fail
  refine HM.out.mono ?_
  rintro e w1 ⟨rfl, hw1⟩
  subst w1
  have x0 := HS.out.c 0 0 rfl rfl
  have x1' := HS.out.c 0 1 rfl rfl
  go_upto_region 3 with fail
  refine wp_region_rel 10 (MemAt w wq.heap.size [(hx, #[.int .i64 x1, .int .i64 x2, .int .i64 x3])] [])
    (fun i => List.getD [VE (.pointer (some ⟨gT, 0, none⟩)), VE (.pointer (some ⟨gT, 0, none⟩)), VE (.pointer (some ⟨gT, 0, none⟩)), VE (.pointer (some ⟨g, 0, none⟩)), VE (.agg #[.int .i64 x1, .int .i64 x2, .int .i64 x3]), VF (wy) (res), VF (wy) (res), VG (wy), VE (.int .i64 res), VA (wq.heap.size) zeroWay] i (fun _ _ => False)) [9] [0, 1, 2, 6, 7, 8] (by kernel_rfl) (by kernel_rfl) HS.out.at (fun _ _ h hb => h.grow hb)
    (stays_all (stays_cons (stays_VE _) (stays_cons (stays_VE _) (stays_cons (stays_VE _) (stays_cons (stays_VE _) (stays_cons (stays_VE _) (stays_cons (stays_VF _ _) (stays_cons (stays_VF _ _) (stays_cons (stays_VG _) (stays_cons (stays_VE _) (stays_cons (stays_VA _ _) stays_nil))))))))))) ⟨?_, ?_, ?_, ?_, ?_, ?_, ?_, ?_, ?_, ?_, trivial⟩ ?_
  · intro ev wv hE hw hd
    refine ifw rfl (ifw rfl ?_)
    have v0 : ev (.tmp 0) = .pointer (some ⟨gT, 0, none⟩) := hE.tmp 0 rfl
    refine ⟨.pointer (some ⟨gT, 0, none⟩), fun w => ?_, rfl⟩
    have e1 := hE.const; have e2 := hE.func; clear hE hd hw
    go_simp
  · intro ev wv hE hw hd
    refine ifw rfl (ifw rfl ?_)
    have v11 : ev (.tmp 11) = .pointer (some ⟨gT, 0, none⟩) := hd 0 (by decide)
    refine ⟨.pointer (some ⟨gT, 0, none⟩), fun w => ?_, rfl⟩
    have e1 := hE.const; have e2 := hE.func; clear hE hd hw
    go_simp
  · intro ev wv hE hw hd
    refine ifw rfl (ifw rfl ?_)
    have v12 : ev (.tmp 12) = .pointer (some ⟨gT, 0, none⟩) := hd 1 (by decide)
    refine ⟨.pointer (some ⟨gT, 0, none⟩), fun w => ?_, rfl⟩
    have e1 := hE.const; have e2 := hE.func; clear hE hd hw
    go_simp
  · intro ev wv hE hw hd
    refine ifw rfl (ifn rfl ?_)
    have v13 : ev (.tmp 13) = .pointer (some ⟨gT, 0, none⟩) := hd 2 (by decide)
    have kx := (HT.out.keep hw.m.bl).tp.get 0 rfl
    refine rel_val (u := .pointer (some ⟨g, 0, none⟩)) (w' := wv) ?_ (Below.refl _ _) ⟨rfl, fun h => by cases h⟩
    have e1 := hE.const; clear hE hd hw
    go_simp
  · intro ev wv hE hw hd
    refine ifw rfl (ifn rfl ?_)
    have v3 : ev (.tmp 3) = .pointer (some ⟨hx, 0, none⟩) := hE.tmp 3 rfl
    have kx := hw.m.c 0 0 rfl rfl
    have ky := hw.m.c 0 1 rfl rfl
    have kz := hw.m.c 0 2 rfl rfl
    refine rel_val (u := .agg #[.int .i64 x1, .int .i64 x2, .int .i64 x3]) (w' := wv) ?_ (Below.refl _ _) ⟨rfl, fun h => by cases h⟩
    have e1 := hE.const; clear hE hd hw
    go_simp
  · intro ev wv hE hw hd
    refine ifw rfl (ifn rfl ?_)
    have v14 : ev (.tmp 14) = .pointer (some ⟨g, 0, none⟩) := hd 3 (by decide)
    have v15 : ev (.tmp 15) = .agg #[.int .i64 x1, .int .i64 x2, .int .i64 x3] := hd 4 (by decide)
    refine rel_call (f := 54) (args := #[.pointer (some ⟨g, 0, none⟩), .agg #[.int .i64 x1, .int .i64 x2, .int .i64 x3]]) ?_ ((find_any g n c A M t.root K (x1, x2, x3) wy res _ (HT.out.ar.keep hw.m.bl) HP.out hl (by omega))) ?_
    · have e0 := hE.func; have e1 := hE.const; clear hE hd hw
      go_simp
    · rintro e w' ⟨vs, rfl, hv, hb⟩
      exact ⟨_, rfl, hb, ⟨vs, rfl, hv⟩, fun h => by cases h⟩
  · intro ev wv hE hw hd
    refine ifw rfl (ifw rfl ?_)
    refine ⟨ev (.tmp 16), fun w => ?_, hd 5 (by decide)⟩
    clear hE hd hw
    go_simp
  · intro ev wv hE hw hd
    refine ifw rfl (ifw rfl ?_)
    obtain ⟨xv6, v10, xh6⟩ : VF (wy) (res) (ev (.tmp 10)) wv := hd 6 (by decide)
    refine ⟨.agg xv6, fun w => ?_, ⟨xv6, rfl, xh6⟩⟩
    have e1 := hE.const; clear hE hd hw
    go_simp
  · intro ev wv hE hw hd
    refine ifw rfl (ifw rfl ?_)
    obtain ⟨xv6, v10, xh6⟩ : VF (wy) (res) (ev (.tmp 10)) wv := hd 6 (by decide)
    refine ⟨.int .i64 res, fun w => ?_, rfl⟩
    have e1 := hE.const; clear hE hd hw
    go_simp
  · intro ev wv hE hw hd
    refine ifw rfl (ifn rfl ?_)
    refine rel_val (u := .pointer (some ⟨wv.heap.size, 0, none⟩)) (w' := wv.alloc (.cells zeroWay 108)) ?_ ((Below.refl _ _).alloc (Nat.le_refl _) _) ⟨⟨_, rfl, Blk.new _ _ _, hw.h⟩, fun _ => ⟨_, rfl, Nat.le_refl _, by simp⟩⟩
    clear hE hd hw
    go_simp
    rfl
  · intro wz hw
    intro v0 h0 _ v1 h1 _ v2 h2 _ v3 h3 _ v4 h4 _ v5 h5 _ v6 h6 _ v7 h7 _ v8 h8 _ v9 h9 n9
    simp only [Act.put, List.setIfInBounds_toArray, List.set_cons_zero, List.set_cons_succ, List.drop_succ_cons, List.drop_zero]
    obtain rfl : v0 = _ := h0
    obtain rfl : v1 = _ := h1
    obtain rfl : v2 = _ := h2
    obtain rfl : v3 = _ := h3
    obtain rfl : v4 = _ := h4
    obtain ⟨xv5, rfl, xh5⟩ : VF (wy) (res) v5 wz := h5
    obtain ⟨xv6, rfl, xh6⟩ : VF (wy) (res) v6 wz := h6
    obtain ⟨xv7, rfl, xh7⟩ : VG (wy) v7 wz := h7
    obtain rfl : v8 = _ := h8
    obtain ⟨xg9, rfl, xB9, xl9⟩ : VA (wq.heap.size) zeroWay v9 wz := h9
    change wpList Try.prog _ _ _ _ wz
    have HM1 := Lib.hid hw.m
    have hB0 := xB9
    obtain ⟨TR, BR⟩ := hB0.blk
    have hBR := Lib.hid BR
    have hV := Lib.hid xh7
    have HLO := Lib.hid (Nat.le_trans HS.out.bl.size xl9)
    clear BR hB0 hw n9
    go_wp2_with (refine wpList_store_row rfl 108 _ _ rfl xg9 xv7 rfl rfl TR zeroWay hBR.out (by rw [hV.out.sz]; exact way_info) (by rw [hV.out.sz]; rfl) hV.out.one ?_)
    refine calm_normal ?_
    have HO5 := Lib.hid (off_setRow (Off.refl (· = xg9) wz) (g := xg9) (.inl rfl) xv7)
    have HB5 := Lib.hid (show Below w.heap.size w _ from below_setRow HM1.out.bl HLO.out xv7)
    have HW5 := Lib.hid (show WayM (wz.setRow xg9 xv7) xg9 wy from ⟨xv7, ⟨TR, setRow_heap wz xg9 _ xv7 TR (0, 0) hBR.out⟩, hV.out⟩)
    have HX5 := Lib.hid (HO5.out.blk (HM1.out.b 0 rfl) (fun e => by have h1 := (HS.out.b 0 rfl).sz; have h2 := xl9; omega))
    clear HO5 hBR hV HM1 x0 x1'
    generalize wz.setRow xg9 xv7 = w5 at *
    obtain ⟨gW, hgW⟩ : ∃ k, xg9 = k := ⟨_, rfl⟩
    rw [hgW] at HW5 HLO ⊢
    clear hgW
    go_wp2_with fail
    go_ret
    exact ⟨rfl, HB5.out⟩
set_option maxHeartbeats 8000000 in
theorem del_ok (gT g n c : Nat) (M : Int) (A : Option Addr) (K : KnL) (t : PT) (l : ItL) (x : It) (w : World) (H : TreeR 101 w gT g n c M A K t l) (hn : n ≤ 1001) (m : Nat) (hm : n = m + 1) (cx : Cx) (l1 : PT) (p : Nat) (r1 : PT) (hplug : cx.plug (.node l1 p x r1) = t) (P : Pth K x t.root cx.way (p : Int)) (hl : cx.way.length ≤ 28) : Calls Try.prog 46 #[.pointer (some ⟨gT, 0, none⟩), itV x] w fun e w' => e = .returned (.int .i64 0) ∧ ∃ K' t', TreeR 101 w' gT g m c M A K' t' (delI x l) ∧ Off (inTr gT g A n c) w w' := by
  obtain ⟨x1, x2, x3⟩ := x
  have HT := Lib.hid H
  have HS := Lib.hid ((Mem.start w).push #[.int .i64 x1, .int .i64 x2, .int .i64 x3] 74)
  have HTL := Lib.hid H.lt
  have HB0 := Lib.hid (show Ext w _ from (Below.refl _ w).alloc (Nat.le_refl _) (.cells #[.int .i64 x1, .int .i64 x2, .int .i64 x3] 74))
  have HM := Lib.hid (made_any gT g _ (H.keep HB0.out).tp)
  have HP := Lib.hid P
  have HPL := Lib.hid hplug
  have hr : ((p : Int) == -1) = false := by simp
  clear P hplug
  clear H
  go_enter Try.func46, Try.ntmps46
  go_upto_region 1 with fail
  generalize w.heap.size = hx at HS ⊢
  generalize w.alloc (.cells #[.int .i64 x1, .int .i64 x2, .int .i64 x3] 74) = wq at *
  go_wp2_with fail
  refine HM.out.mono ?_
  rintro e w1 ⟨rfl, hw1⟩
  subst w1
  have x0 := HS.out.c 0 0 rfl rfl
  have x1' := HS.out.c 0 1 rfl rfl
  go_upto_region 3 with fail
  refine wp_region_rel 10 (MemAt w wq.heap.size [(hx, #[.int .i64 x1, .int .i64 x2, .int .i64 x3])] [])
    (fun i => List.getD [VE (.pointer (some ⟨gT, 0, none⟩)), VE (.pointer (some ⟨gT, 0, none⟩)), VE (.pointer (some ⟨gT, 0, none⟩)), VE (.pointer (some ⟨g, 0, none⟩)), VE (.agg #[.int .i64 x1, .int .i64 x2, .int .i64 x3]), VF (cx.way) ((p : Int)), VF (cx.way) ((p : Int)), VG (cx.way), VE (.int .i64 (p : Int)), VA (wq.heap.size) zeroWay] i (fun _ _ => False)) [9] [0, 1, 2, 6, 7, 8] (by kernel_rfl) (by kernel_rfl) HS.out.at (fun _ _ h hb => h.grow hb)
    (stays_all (stays_cons (stays_VE _) (stays_cons (stays_VE _) (stays_cons (stays_VE _) (stays_cons (stays_VE _) (stays_cons (stays_VE _) (stays_cons (stays_VF _ _) (stays_cons (stays_VF _ _) (stays_cons (stays_VG _) (stays_cons (stays_VE _) (stays_cons (stays_VA _ _) stays_nil))))))))))) ⟨?_, ?_, ?_, ?_, ?_, ?_, ?_, ?_, ?_, ?_, trivial⟩ ?_
  · intro ev wv hE hw hd
    refine ifw rfl (ifw rfl ?_)
    have v0 : ev (.tmp 0) = .pointer (some ⟨gT, 0, none⟩) := hE.tmp 0 rfl
    refine ⟨.pointer (some ⟨gT, 0, none⟩), fun w => ?_, rfl⟩
    have e1 := hE.const; have e2 := hE.func; clear hE hd hw
    go_simp
  · intro ev wv hE hw hd
    refine ifw rfl (ifw rfl ?_)
    have v11 : ev (.tmp 11) = .pointer (some ⟨gT, 0, none⟩) := hd 0 (by decide)
    refine ⟨.pointer (some ⟨gT, 0, none⟩), fun w => ?_, rfl⟩
    have e1 := hE.const; have e2 := hE.func; clear hE hd hw
    go_simp
  · intro ev wv hE hw hd
    refine ifw rfl (ifw rfl ?_)
    have v12 : ev (.tmp 12) = .pointer (some ⟨gT, 0, none⟩) := hd 1 (by decide)
    refine ⟨.pointer (some ⟨gT, 0, none⟩), fun w => ?_, rfl⟩
    have e1 := hE.const; have e2 := hE.func; clear hE hd hw
    go_simp
  · intro ev wv hE hw hd
    refine ifw rfl (ifn rfl ?_)
    have v13 : ev (.tmp 13) = .pointer (some ⟨gT, 0, none⟩) := hd 2 (by decide)
    have kx := (HT.out.keep hw.m.bl).tp.get 0 rfl
    refine rel_val (u := .pointer (some ⟨g, 0, none⟩)) (w' := wv) ?_ (Below.refl _ _) ⟨rfl, fun h => by cases h⟩
    have e1 := hE.const; clear hE hd hw
    go_simp
  · intro ev wv hE hw hd
    refine ifw rfl (ifn rfl ?_)
    have v3 : ev (.tmp 3) = .pointer (some ⟨hx, 0, none⟩) := hE.tmp 3 rfl
    have kx := hw.m.c 0 0 rfl rfl
    have ky := hw.m.c 0 1 rfl rfl
    have kz := hw.m.c 0 2 rfl rfl
    refine rel_val (u := .agg #[.int .i64 x1, .int .i64 x2, .int .i64 x3]) (w' := wv) ?_ (Below.refl _ _) ⟨rfl, fun h => by cases h⟩
    have e1 := hE.const; clear hE hd hw
    go_simp
  · intro ev wv hE hw hd
    refine ifw rfl (ifn rfl ?_)
    have v14 : ev (.tmp 14) = .pointer (some ⟨g, 0, none⟩) := hd 3 (by decide)
    have v15 : ev (.tmp 15) = .agg #[.int .i64 x1, .int .i64 x2, .int .i64 x3] := hd 4 (by decide)
    refine rel_call (f := 54) (args := #[.pointer (some ⟨g, 0, none⟩), .agg #[.int .i64 x1, .int .i64 x2, .int .i64 x3]]) ?_ ((find_any g n c A M t.root K (x1, x2, x3) cx.way (p : Int) _ (HT.out.ar.keep hw.m.bl) HP.out hl (by omega))) ?_
    · have e0 := hE.func; have e1 := hE.const; clear hE hd hw
      go_simp
    · rintro e w' ⟨vs, rfl, hv, hb⟩
      exact ⟨_, rfl, hb, ⟨vs, rfl, hv⟩, fun h => by cases h⟩
  · intro ev wv hE hw hd
    refine ifw rfl (ifw rfl ?_)
    refine ⟨ev (.tmp 16), fun w => ?_, hd 5 (by decide)⟩
    clear hE hd hw
    go_simp
  · intro ev wv hE hw hd
    refine ifw rfl (ifw rfl ?_)
    obtain ⟨xv6, v10, xh6⟩ : VF (cx.way) ((p : Int)) (ev (.tmp 10)) wv := hd 6 (by decide)
    refine ⟨.agg xv6, fun w => ?_, ⟨xv6, rfl, xh6⟩⟩
    have e1 := hE.const; clear hE hd hw
    go_simp
  · intro ev wv hE hw hd
    refine ifw rfl (ifw rfl ?_)
    obtain ⟨xv6, v10, xh6⟩ : VF (cx.way) ((p : Int)) (ev (.tmp 10)) wv := hd 6 (by decide)
    refine ⟨.int .i64 (p : Int), fun w => ?_, rfl⟩
    have e1 := hE.const; clear hE hd hw
    go_simp
  · intro ev wv hE hw hd
    refine ifw rfl (ifn rfl ?_)
    refine rel_val (u := .pointer (some ⟨wv.heap.size, 0, none⟩)) (w' := wv.alloc (.cells zeroWay 108)) ?_ ((Below.refl _ _).alloc (Nat.le_refl _) _) ⟨⟨_, rfl, Blk.new _ _ _, hw.h⟩, fun _ => ⟨_, rfl, Nat.le_refl _, by simp⟩⟩
    clear hE hd hw
    go_simp
    rfl
  · intro wz hw
    intro v0 h0 _ v1 h1 _ v2 h2 _ v3 h3 _ v4 h4 _ v5 h5 _ v6 h6 _ v7 h7 _ v8 h8 _ v9 h9 n9
    simp only [Act.put, List.setIfInBounds_toArray, List.set_cons_zero, List.set_cons_succ, List.drop_succ_cons, List.drop_zero]
    obtain rfl : v0 = _ := h0
    obtain rfl : v1 = _ := h1
    obtain rfl : v2 = _ := h2
    obtain rfl : v3 = _ := h3
    obtain rfl : v4 = _ := h4
    obtain ⟨xv5, rfl, xh5⟩ : VF (cx.way) ((p : Int)) v5 wz := h5
    obtain ⟨xv6, rfl, xh6⟩ : VF (cx.way) ((p : Int)) v6 wz := h6
    obtain ⟨xv7, rfl, xh7⟩ : VG (cx.way) v7 wz := h7
    obtain rfl : v8 = _ := h8
    obtain ⟨xg9, rfl, xB9, xl9⟩ : VA (wq.heap.size) zeroWay v9 wz := h9
    change wpList Try.prog _ _ _ _ wz
    have HM1 := Lib.hid hw.m
    have hB0 := xB9
    obtain ⟨TR, BR⟩ := hB0.blk
    have hBR := Lib.hid BR
    have hV := Lib.hid xh7
    have HLO := Lib.hid (Nat.le_trans HS.out.bl.size xl9)
    clear BR hB0 hw n9
    go_wp2_with (refine wpList_store_row rfl 108 _ _ rfl xg9 xv7 rfl rfl TR zeroWay hBR.out (by rw [hV.out.sz]; exact way_info) (by rw [hV.out.sz]; rfl) hV.out.one ?_)
    refine calm_normal ?_
    have HO5 := Lib.hid (off_setRow (Off.refl (· = xg9) wz) (g := xg9) (.inl rfl) xv7)
    have HB5 := Lib.hid (show Below w.heap.size w _ from below_setRow HM1.out.bl HLO.out xv7)
    have HW5 := Lib.hid (show WayM (wz.setRow xg9 xv7) xg9 cx.way from ⟨xv7, ⟨TR, setRow_heap wz xg9 _ xv7 TR (0, 0) hBR.out⟩, hV.out⟩)
    have HX5 := Lib.hid (HO5.out.blk (HM1.out.b 0 rfl) (fun e => by have h1 := (HS.out.b 0 rfl).sz; have h2 := xl9; omega))
    clear HO5 hBR hV HM1 x0 x1'
    generalize wz.setRow xg9 xv7 = w5 at *
    obtain ⟨gW, hgW⟩ : ∃ k, xg9 = k := ⟨_, rfl⟩
    rw [hgW] at HW5 HLO ⊢
    clear hgW
    have HNE := Lib.hid (show ¬ inAr g A n c gW from fun e => by have h1 := HTL.out gW (.inr e); have h2 := HLO.out; omega)
    have HTG := Lib.hid (show gT ≠ gW from fun e => by have h1 := HTL.out gT (.inl rfl); have h2 := HLO.out; omega)
    have HT5 := Lib.hid (HT.out.keep HB5.out)
    subst hm
    obtain ⟨gK, rfl, _, _⟩ := HT5.out.ar.addr (by omega)
    have c0 := HT5.out.tp.get 0 rfl
    have hwh : Whole0 K (cx.plug (.node l1 p (x1, x2, x3) r1)) := by rw [HPL.out]; exact ⟨HT.out.rp, HT.out.bal, HT.out.nd, by rw [HT.out.len, HT.out.ar.len]⟩
    have HWH := Lib.hid hwh
    have har : Ar 101 w5 g M (cx.plug (.node l1 p (x1, x2, x3) r1)).root (some ⟨gK, 0, none⟩) (m + 1) c K := by rw [HPL.out]; exact HT5.out.ar
    have HAR := Lib.hid har
    have hsr : srt (cx.plug (.node l1 p (x1, x2, x3) r1)).items := by rw [HPL.out, HT.out.it]; exact HT.out.srt
    have HSR := Lib.hid hsr
    clear hwh har hsr
    go_wp2_with fail
    refine (take_any g gW m c gK M K cx l1 r1 p (x1, x2, x3) w5 HAR.out HW5.out HNE.out HWH.out HSR.out (by omega)).mono ?_
    rintro e w8 ⟨K', t', rfl, hA8, hW8, hF8⟩
    have HA8 := Lib.hid hA8
    have HW8 := Lib.hid hW8
    have HF8 := Lib.hid hF8
    clear hA8 hW8 hF8 c0
    go_wp2_with fail
    go_ret
    have hit : l = cx.bef ++ (l1.items ++ (x1, x2, x3) :: (r1.items ++ cx.aft)) := by
      rw [← HT.out.it, ← HPL.out, Cx.items]; simp [PT.items]
    have hsp := del_split (x := (x1, x2, x3)) (a := cx.bef ++ l1.items) (b := r1.items ++ cx.aft) (by rw [List.append_assoc, ← hit]; exact HT.out.srt)
    rw [List.append_assoc cx.bef l1.items ((x1, x2, x3) :: (r1.items ++ cx.aft)), ← hit] at hsp
    have hdl : delI (x1, x2, x3) l = cx.bef ++ ((l1.items ++ r1.items) ++ cx.aft) := by rw [hsp.1]; simp
    refine ⟨rfl, K', t', ⟨HF8.out.blk HT5.out.tp ?_, HA8.out, HW8.out.rp, HW8.out.bal, HW8.out.nd, by rw [HW8.out.len, HA8.out.len], by rw [hdl]; exact HW8.out.it, del_srt HT.out.srt, HT.out.ne.1, HT.out.ne.2⟩, ?_⟩
    · rintro ((e | e) | e)
      · exact HT.out.ne.1 e
      · exact HT.out.ne.2 e
      · exact HTG.out e
    · refine ((Off.of HB5.out).trans HF8.out).less fun k hk => ?_
      rcases hk with h | h
      · exact .inl (.inr h)
      · right; rw [h]; exact HLO.out
end Go.Proofs.Ytockjcainkoifaa
namespace Corr
set_option maxRecDepth 8000
open Go Go.RowKit
set_option linter.unusedVariables false
abbrev Stk := List (Nat × It × PT)
def stkW : Stk → WyL
  | [] => []
  | (p, _, _) :: m => stkW m ++ [(p, false)]
def stkA : Stk → ItL
  | [] => []
  | (_, x, r) :: m => x :: (r.items ++ stkA m)
def stkM : Stk → Nat
  | [] => 0
  | (_, _, r) :: m => 1 + 2 * r.items.length + stkM m
/-- What waits: each with its right side still to come. -/
def StkP (K : KnL) : Stk → Prop
  | [] => True
  | (p, x, r) :: m => (∃ k, K[p]? = some k ∧ k.it = x ∧ k.r = r.root) ∧ Rp K r ∧ m.length + r.height ≤ 21 ∧ StkP K m
theorem stkW_len : ∀ m : Stk, (stkW m).length = m.length
  | [] => rfl
  | (p, x, r) :: m => by simp [stkW, stkW_len m]
/-- In the midst of a pop. -/
def PopD (gW : Nat) (l0 : WyL) (x : Nat × Bool) (wr : World) (b4 b8 : Bool) (v8 : Value) (wx : World) : Prop := Off (· = gW) wr wx ∧ (b4 = false → WayM wx gW (l0 ++ [x])) ∧ (b4 = true → WayM wx gW l0) ∧ (b8 = true → ∃ kb, v8 = .pointer (some ⟨kb, 0, none⟩) ∧ Blk wx kb #[.int .i64 0, .int .i64 0, .int .i64 0, .int .i64 0, .int .i64 0, .int .i64 0, .int .i64 0] ∧ wr.heap.size ≤ kb)
end Corr
namespace Go.Proofs.Ytockjcainkoifaa
set_option maxRecDepth 8000
open Go.RowKit Corr
set_option linter.unusedVariables false
set_option linter.unusedSimpArgs false
set_option maxHeartbeats 8000000 in
theorem items_any (gT g n c : Nat) (M : Int) (A : Option Addr) (K : KnL) (t : PT) (l : ItL) (w : World) (H : TreeR 101 w gT g n c M A K t l) (hn : n ≤ 1400) : Calls Try.prog 36 #[.pointer (some ⟨gT, 0, none⟩)] w (RetItems 74 w l) := by
  have HT := Lib.hid H
  have HN := Lib.hid (nodes_any gT g w H.tp)
  have HH := Lib.hid (show t.height ≤ 21 from bal_le H.bal (by rw [PT.len, H.len]; omega))
  have HLN := Lib.hid (show l.length ≤ 1400 by rw [H.num]; exact hn)
  clear H
  go_enter Try.func36, Try.ntmps36
  go_wp2_with fail
  refine HN.out.mono ?_
  rintro e w1 ⟨rfl, hw1⟩
  subst w1
  go_upto_region 4 with fail
  change Code.wp Try.prog _ _ _ (w.alloc (.cells zeroWay 108))
  have HW := Lib.hid (show WayM (w.alloc (.cells zeroWay 108)) w.heap.size [] from ⟨_, Blk.new w zeroWay 108, WayV.zero⟩)
  have HB := Lib.hid (show Ext w _ from (Below.refl _ w).alloc (Nat.le_refl _) (.cells zeroWay 108))
  have HS := Lib.hid (show (w.alloc (.cells zeroWay 108)).heap.size = w.heap.size + 1 by simp)
  generalize w.alloc (.cells zeroWay 108) = wq at *
  obtain ⟨gW, hgW⟩ : ∃ k, w.heap.size = k := ⟨_, rfl⟩
  have HGW := Lib.hid hgW
  rw [hgW] at HW HS ⊢
  clear hgW
  have a1 := (HT.out.ar.keep HB.out).b.get 1 rfl
  go_upto_region 5 with fail
  clear a1
  go_loopg [4, 6] (2 * l.length) (fun kk v z wr => ∃ (dn : ItL) (nD cD : Nat) (AD : Option Addr) (m : Stk) (s : PT), v = .slice AD nD cD ∧ z = .int .i64 s.root ∧ wr.ownsRow (gW + 1) 74 3 (.slice AD nD cD) nD (cells3 dn) ∧ Hid (kk = 2 * s.items.length + stkM m) ∧ Hid (dn ++ (s.items ++ stkA m) = l) ∧ Hid (Rp K s) ∧ Hid (StkP K m) ∧ Hid (m.length + s.height ≤ 21) ∧ Hid (WayM wr gW (stkW m)) ∧ Hid (Below w.heap.size w wr) ∧ Hid (gW + 1 ≤ wr.heap.size))
  case atStart => exact ⟨[], 0, 0, none, [], t, rfl, rfl, World.ownsRow_nil _ _ _ _, Lib.hid (by rw [HT.out.it]; rfl), Lib.hid (by rw [HT.out.it]; simp [stkA]), Lib.hid HT.out.rp, Lib.hid trivial, Lib.hid (by simpa using HH.out), HW, Lib.hid HB.out, Lib.hid (Nat.le_of_eq HS.out.symm)⟩
  case round =>
    clear HW HB HS
    obtain ⟨dn, nD, cD, AD, m, s, rfl, rfl, hown, HK, HL, HRS, HST, HHT, HW, HB, HSZ⟩ := hrel
    have HO := Lib.hid hown
    have HOB := Lib.hid (own_ge hown)
    have HDN := Lib.hid (show dn.length = nD by have := hown.1; rw [cells3_len] at this; omega)
    have HA := Lib.hid (HT.out.ar.keep HB.out)
    clear hown
    obtain ⟨vs, BV, V⟩ := HW.out
    have c56 := BV.get 56 V.cnt
    rw [stkW_len] at c56
    clear BV V
    cases s with
    | node a q y b =>
      have hk := HRS.out.1
      have HKQ := Lib.hid hk
      obtain ⟨gK, rfl, _, _, hqn⟩ := HA.out.at0 hk
      have e1 : ((PT.node a q y b).root == -1) = false := by simp [PT.root]
      have e2 : ((PT.node a q y b).root != -1) = true := by simp [PT.root]
      have e3 : (PT.node a q y b).root = (q : Int) := rfl
      have i0 : decide ((q : Int) < 0) = false := decide_eq_false (by omega)
      have i1 : (0 : Int) ≤ (q : Int) := by omega
      have i2 : (q : Int) < (n : Int) := by omega
      have i3 : ((q : Int)).toNat = q := by omega
      clear hk
      go_wp2_with fail
      have HHN := Lib.hid (show m.length + (max a.height b.height + 1) ≤ 21 from HHT.out)
      refine (push_any gW (stkW m) q false wr HW.out (by rw [stkW_len]; have := HHN.out; omega)).mono ?_
      rintro e w2 ⟨rfl, hW2, hF2⟩
      have HW2 := Lib.hid hW2
      have HF2 := Lib.hid hF2
      have HA2 := Lib.hid (HA.out.off hF2 (fun e => by have := HT.out.ar.sz; have := HGW.out; omega) (fun k hk e => by have := own_lt HT.out.ar.o hk; have := HGW.out; omega))
      have HB2 := Lib.hid (HB.out.trans (hF2.below HB.out.size (fun k e => by have := HGW.out; omega)))
      have HO2 := Lib.hid (hF2.own HO.out (fun k hk e => by have := HOB.out k hk; omega))
      have hs2 := hF2.size
      clear hW2 hF2 c56
      have a2 := HA2.out.b.get 2 rfl
      have c3 := HA2.out.c3 HKQ.out
      simp only [] at c3
      go_wp2_with fail
      go_roundg (2 * a.items.length + (1 + 2 * b.items.length + stkM m))
      case measure => rw [HK.out]; simp [PT.items]; omega
      case rel => exact ⟨dn, nD, cD, AD, (q, y, b) :: m, a, rfl, rfl, HO2.out, Lib.hid rfl, Lib.hid (by rw [← HL.out]; simp [PT.items, stkA]), Lib.hid HRS.out.2.1, Lib.hid ⟨⟨_, HKQ.out, rfl, rfl⟩, HRS.out.2.2, by have := HHN.out; omega, HST.out⟩, Lib.hid (by have := HHN.out; simp; omega), HW2, HB2, Lib.hid (by have := HSZ.out; omega)⟩
    | nil =>
      cases m with
      | nil =>
        have HEQ := Lib.hid (show dn = l by rw [← HL.out]; simp [PT.items, stkA])
        have e3 : PT.nil.root = -1 := rfl
        have c56 : wr.cell? ⟨gW, 56, none⟩ = some (.int .i64 0) := c56
        go_wp2_with fail
        refine bodyPost_ret (results_tmp rfl _ _ _) rfl ?_
        exact ⟨AD, nD, cD, rfl, by rw [← HEQ.out]; exact own_low HO.out (by have := HGW.out; omega), HB.out⟩
      | cons fr m =>
        obtain ⟨p, x, r⟩ := fr
        obtain ⟨⟨k, hk, hx, hr⟩, hRr, hm, hst⟩ := HST.out
        have HKP := Lib.hid hk
        obtain ⟨gK, rfl, _, _, hpn⟩ := HA.out.at0 hk
        obtain ⟨⟨x1, x2, x3⟩, kl, kr, kh, kt⟩ := k
        have hx : (x1, x2, x3) = x := hx
        have hr : kr = r.root := hr
        subst hx hr
        have e3 : PT.nil.root = -1 := rfl
        have c56 : wr.cell? ⟨gW, 56, none⟩ = some (.int .i64 ((m.length : Int) + 1)) := by rw [c56]; simp
        obtain ⟨mm, hmm⟩ : ∃ k : Nat, m.length = k := ⟨_, rfl⟩
        rw [hmm] at c56
        have d0 : decide ((mm : Int) + 1 > 0) = true := decide_eq_true (by omega)
        have i0 : decide ((p : Int) < 0) = false := decide_eq_false (by omega)
        have i1 : (0 : Int) ≤ (p : Int) := by omega
        have i2 : (p : Int) < (n : Int) := by omega
        have i3 : ((p : Int)).toNat = p := by omega
        have HRr := Lib.hid hRr
        have HMM := Lib.hid hm
        have HSTM := Lib.hid hst
        have HNG := Lib.hid (show (¬ g = gW) ∧ ∀ k, inRow (some ⟨gK, 0, none⟩) n c k → ¬ k = gW from ⟨fun e => by have := HT.out.ar.sz; have := HGW.out; omega, fun k hk e => by have := own_lt HT.out.ar.o hk; have := HGW.out; omega⟩)
        have hfd := stF p false
        clear hmm hk hRr hm hst
        go_upto_region 9 with fail
        refine wp_region_val 9 (fun S val wx => VVs 9 [(fun vv => vv = .pointer (some ⟨g, 0, none⟩)), (fun vv => vv = .pointer (some ⟨g, 0, none⟩)), (fun vv => vv = .pointer (some ⟨g, 2, none⟩)), (fun vv => vv = .slice (some ⟨gK, 0, none⟩) n c), (fun vv => vv = stV p false), (fun vv => vv = .int .i64 (p : Int)), (fun vv => vv = .pointer (some ⟨gK, p * 7, none⟩)), (fun vv => vv = .agg #[.int .i64 x1, .int .i64 x2, .int .i64 x3, .int .i64 kl, .int .i64 r.root, .int .i64 kh, .int .i64 kt]), (fun vv => ∃ kb, vv = .pointer (some ⟨kb, 0, none⟩))] S val ∧ Clo [[], [0], [1], [2], [], [4], [3, 5], [6], []] S ∧ PopD gW (stkW m) (p, false) wr (S 4) (S 8) (val 8) wx) [0, 1, 2, 5, 6] (by kernel_rfl) (by kernel_rfl) ⟨VVs.start, Clo.start, (show PopD gW (stkW m) (p, false) wr false false undef wr.drew from ⟨(Off.refl _ wr).drew, (fun _ => HW.out.keep ((Below.refl _ _).drew)), (fun h => by cases h), (fun h => by cases h)⟩)⟩ ⟨?_, ?_, ?_, ?_, ?_, ?_, ?_, ?_, ?_, trivial⟩ ?_
        · rintro ev wv S val hE ⟨hV, hK, hw⟩ hS hd
          have hcl := Clo.add hK (i := 0) ((fun _ h => by cases h))
          have v3 : ev (.tmp 3) = .pointer (some ⟨g, 0, none⟩) := hE.tmp 3 rfl
          refine ifw rfl (ifw rfl ⟨.pointer (some ⟨g, 0, none⟩), fun w9 => ?_, VVs.add hV rfl, hcl, hw⟩)
          have e1 := hE.const; have e2 := hE.func; clear hE hd hw hS hV hK hcl
          show _ = Result.ok (Next.value (.pointer (some ⟨g, 0, none⟩))) w9
          go_simp
        · rintro ev wv S val hE ⟨hV, hK, hw⟩ hS hd
          have hcl := Clo.add hK (i := 1) (List.forall_mem_cons.2 ⟨(hd 0 (by decide)).1, (fun _ h => by cases h)⟩)
          have v34 : ev (.tmp 34) = .pointer (some ⟨g, 0, none⟩) := (hd 0 (by decide)).2.trans (hV 0 (by decide) (hd 0 (by decide)).1)
          refine ifw rfl (ifw rfl ⟨.pointer (some ⟨g, 0, none⟩), fun w9 => ?_, VVs.add hV rfl, hcl, hw⟩)
          have e1 := hE.const; have e2 := hE.func; clear hE hd hw hS hV hK hcl
          show _ = Result.ok (Next.value (.pointer (some ⟨g, 0, none⟩))) w9
          go_simp
        · rintro ev wv S val hE ⟨hV, hK, hw⟩ hS hd
          have hcl := Clo.add hK (i := 2) (List.forall_mem_cons.2 ⟨(hd 1 (by decide)).1, (fun _ h => by cases h)⟩)
          have v35 : ev (.tmp 35) = .pointer (some ⟨g, 0, none⟩) := (hd 1 (by decide)).2.trans (hV 1 (by decide) (hd 1 (by decide)).1)
          refine ifw rfl (ifw rfl ⟨.pointer (some ⟨g, 2, none⟩), fun w9 => ?_, VVs.add hV rfl, hcl, hw⟩)
          have e1 := hE.const; have e2 := hE.func; clear hE hd hw hS hV hK hcl
          show _ = Result.ok (Next.value (.pointer (some ⟨g, 2, none⟩))) w9
          go_simp
        · rintro ev wv S val hE ⟨hV, hK, hw⟩ hS hd
          have hcl := Clo.add hK (i := 3) (List.forall_mem_cons.2 ⟨(hd 2 (by decide)).1, (fun _ h => by cases h)⟩)
          have v36 : ev (.tmp 36) = .pointer (some ⟨g, 2, none⟩) := (hd 2 (by decide)).2.trans (hV 2 (by decide) (hd 2 (by decide)).1)
          have hA := HA.out.off hw.1 HNG.out.1 HNG.out.2
          have kx := hA.b.get 2 rfl
          refine ifw rfl (ifn rfl ?_)
          refine set_val (u := .slice (some ⟨gK, 0, none⟩) n c) (w' := wv) ?_ ⟨VVs.add hV rfl, hcl, hw⟩
          have e1 := hE.const; clear hE hd hw hS hV hK hcl
          go_simp
        · rintro ev wv S val hE ⟨hV, hK, hw⟩ hS hd
          have hcl := Clo.add hK (i := 4) ((fun _ h => by cases h))
          have v5 : ev (.tmp 5) = .pointer (some ⟨gW, 0, none⟩) := hE.tmp 5 rfl
          refine ifw rfl (ifn rfl ?_)
          refine set_call (f := 52) (args := #[.pointer (some ⟨gW, 0, none⟩)]) ?_ (pop_any gW (stkW m) p false wv (hw.2.1 hS)) ?_
          · have e0 := hE.func; have e1 := hE.const; clear hE hd hw hS hV hK hcl
            go_simp
          · rintro e w' ⟨rfl, hW', hF'⟩
            exact ⟨_, rfl, VVs.add hV (rfl), hcl, ⟨hw.1.trans hF', (fun h => by simp [addS] at h), (fun _ => hW'), (fun h8 => by obtain ⟨kb, g1, g2, g3⟩ := hw.2.2.2 h8; exact ⟨kb, g1, hF'.blk g2 (fun e => by have := HSZ.out; omega), g3⟩)⟩⟩
        · rintro ev wv S val hE ⟨hV, hK, hw⟩ hS hd
          have hcl := Clo.add hK (i := 5) (List.forall_mem_cons.2 ⟨(hd 4 (by decide)).1, (fun _ h => by cases h)⟩)
          have v38 : ev (.tmp 38) = stV p false := (hd 4 (by decide)).2.trans (hV 4 (by decide) (hd 4 (by decide)).1)
          refine ifw rfl (ifw rfl ⟨.int .i64 (p : Int), fun w9 => ?_, VVs.add hV rfl, hcl, hw⟩)
          have e1 := hE.const; have e2 := hE.func; clear hE hd hw hS hV hK hcl
          show _ = Result.ok (Next.value (.int .i64 (p : Int))) w9
          go_simp
        · rintro ev wv S val hE ⟨hV, hK, hw⟩ hS hd
          have hcl := Clo.add hK (i := 6) (List.forall_mem_cons.2 ⟨(hd 3 (by decide)).1, List.forall_mem_cons.2 ⟨(hd 5 (by decide)).1, (fun _ h => by cases h)⟩⟩)
          have v37 : ev (.tmp 37) = .slice (some ⟨gK, 0, none⟩) n c := (hd 3 (by decide)).2.trans (hV 3 (by decide) (hd 3 (by decide)).1)
          have v39 : ev (.tmp 39) = .int .i64 (p : Int) := (hd 5 (by decide)).2.trans (hV 5 (by decide) (hd 5 (by decide)).1)
          refine ifw rfl (ifw rfl ⟨.pointer (some ⟨gK, p * 7, none⟩), fun w9 => ?_, VVs.add hV rfl, hcl, hw⟩)
          have e1 := hE.const; have e2 := hE.func; clear hE hd hw hS hV hK hcl
          show _ = Result.ok (Next.value (.pointer (some ⟨gK, p * 7, none⟩))) w9
          go_simp
        · rintro ev wv S val hE ⟨hV, hK, hw⟩ hS hd
          have hcl := Clo.add hK (i := 7) (List.forall_mem_cons.2 ⟨(hd 6 (by decide)).1, (fun _ h => by cases h)⟩)
          have v40 : ev (.tmp 40) = .pointer (some ⟨gK, p * 7, none⟩) := (hd 6 (by decide)).2.trans (hV 6 (by decide) (hd 6 (by decide)).1)
          have hA := HA.out.off hw.1 HNG.out.1 HNG.out.2
          have ka := hA.c0 HKP.out
          have kb := hA.c1 HKP.out
          have kc := hA.c2 HKP.out
          have kd := hA.c3 HKP.out
          have ke := hA.c4 HKP.out
          have kf := hA.c5 HKP.out
          have kg := hA.c6 HKP.out
          simp only [] at ka kb kc kd ke kf kg
          refine ifw rfl (ifn rfl ?_)
          refine set_val (u := .agg #[.int .i64 x1, .int .i64 x2, .int .i64 x3, .int .i64 kl, .int .i64 r.root, .int .i64 kh, .int .i64 kt]) (w' := wv) ?_ ⟨VVs.add hV rfl, hcl, hw⟩
          have e1 := hE.const; clear hE hd hw hS hV hK hcl
          go_simp
        · rintro ev wv S val hE ⟨hV, hK, hw⟩ hS hd
          have hcl := Clo.add hK (i := 8) ((fun _ h => by cases h))
          refine ifw rfl (ifn rfl ?_)
          refine set_val (u := .pointer (some ⟨wv.heap.size, 0, none⟩)) (w' := wv.alloc (.cells #[.int .i64 0, .int .i64 0, .int .i64 0, .int .i64 0, .int .i64 0, .int .i64 0, .int .i64 0] 101)) ?_ ⟨VVs.add hV ⟨_, rfl⟩, hcl, ⟨hw.1.later ((Below.refl _ wv).alloc (Nat.le_refl _) _), (fun h => (hw.2.1 h).keep ((Below.refl _ wv).alloc (Nat.le_refl _) _)), (fun h => (hw.2.2.1 h).keep ((Below.refl _ wv).alloc (Nat.le_refl _) _)), (fun _ => ⟨_, rfl, Blk.new wv #[.int .i64 0, .int .i64 0, .int .i64 0, .int .i64 0, .int .i64 0, .int .i64 0, .int .i64 0] 101, hw.1.size⟩)⟩⟩
          have e1 := hE.const; clear hE hd hw hS hV hK hcl
          go_simp
        · rintro S val wz hS ⟨hV, hK, hw⟩
          have e0 : val 0 = .pointer (some ⟨g, 0, none⟩) := hV 0 (by decide) (hS 0 (by decide))
          have e1 : val 1 = .pointer (some ⟨g, 0, none⟩) := hV 1 (by decide) (hS 1 (by decide))
          have e2 : val 2 = .pointer (some ⟨g, 2, none⟩) := hV 2 (by decide) (hS 2 (by decide))
          have e3 : val 3 = .slice (some ⟨gK, 0, none⟩) n c := hV 3 (by decide) (hS 3 (by decide))
          have e4 : val 4 = stV p false := hV 4 (by decide) (hS 4 (by decide))
          have e5 : val 5 = .int .i64 (p : Int) := hV 5 (by decide) (hS 5 (by decide))
          have e6 : val 6 = .pointer (some ⟨gK, p * 7, none⟩) := hV 6 (by decide) (hS 6 (by decide))
          have e7 : val 7 = .agg #[.int .i64 x1, .int .i64 x2, .int .i64 x3, .int .i64 kl, .int .i64 r.root, .int .i64 kh, .int .i64 kt] := hV 7 (by decide) (hS 7 (by decide))
          obtain ⟨kb8, e8⟩ := hV 8 (by decide) (hS 8 (by decide))
          intro v0 h0 u0 v1 h1 u1 v2 h2 u2 v3 h3 u3 v4 h4 u4 v5 h5 u5 v6 h6 u6 v7 h7 u7 v8 h8 u8
          simp only [Act.put, List.setIfInBounds_toArray, List.set_cons_zero, List.set_cons_succ, List.drop_succ_cons, List.drop_zero]
          simp only [h0.trans e0, h1.trans e1, h2.trans e2, h3.trans e3, h4.trans e4, h5.trans e5, h6.trans e6, h7.trans e7, h8.trans e8]
          clear hV h0 e0 u0 v0 h1 e1 u1 v1 h2 e2 u2 v2 h3 e3 u3 v3 h4 e4 u4 v4 h5 e5 u5 v5 h6 e6 u6 v6 h7 e7 u7 v7 h8 u8 v8
          change wpList Try.prog _ _ _ _ wz
          obtain ⟨hOff, hX4, hW4, h8⟩ := hw
          have hWn := hW4 (hS 4 (by decide))
          obtain ⟨kb, g1, g2, g3⟩ := h8 (hS 8 (by decide))
          have hkb : kb8 = kb := by
            rw [e8] at g1
            injection g1 with g1
            injection g1 with g1
            injection g1
          subst kb8
          have HG3 := Lib.hid g3
          have HKW := Lib.hid (show gW ≠ kb by have := HSZ.out; omega)
          have HF3 := Lib.hid ((((((((hOff.put ⟨kb, 0, none⟩ (.inr g3) (.int .i64 x1)).put ⟨kb, 1, none⟩ (.inr g3) (.int .i64 x2)).put ⟨kb, 2, none⟩ (.inr g3) (.int .i64 x3)).put ⟨kb, 3, none⟩ (.inr g3) (.int .i64 kl)).put ⟨kb, 4, none⟩ (.inr g3) (.int .i64 r.root)).put ⟨kb, 5, none⟩ (.inr g3) (.int .i64 kh)).put ⟨kb, 6, none⟩ (.inr g3) (.int .i64 kt)))
          have HK3 := Lib.hid ((((((((g2.set 0 (.int .i64 x1)).set 1 (.int .i64 x2)).set 2 (.int .i64 x3)).set 3 (.int .i64 kl)).set 4 (.int .i64 r.root)).set 5 (.int .i64 kh)).set 6 (.int .i64 kt)))
          have HW3 := Lib.hid (hWn.off (((((((((Off.refl (· = kb) wz).put ⟨kb, 0, none⟩ (.inl rfl) (.int .i64 x1)).put ⟨kb, 1, none⟩ (.inl rfl) (.int .i64 x2)).put ⟨kb, 2, none⟩ (.inl rfl) (.int .i64 x3)).put ⟨kb, 3, none⟩ (.inl rfl) (.int .i64 kl)).put ⟨kb, 4, none⟩ (.inl rfl) (.int .i64 r.root)).put ⟨kb, 5, none⟩ (.inl rfl) (.int .i64 kh)).put ⟨kb, 6, none⟩ (.inl rfl) (.int .i64 kt))) (fun e => HKW.out e))
          have x0 := g2.get 0 rfl
          have x1' := g2.get 1 rfl
          have x2' := g2.get 2 rfl
          have x3' := g2.get 3 rfl
          have x4 := g2.get 4 rfl
          have x5 := g2.get 5 rfl
          have x6 := g2.get 6 rfl
          have f0 := g2.f 0
          have f1 := g2.f 1
          have f2 := g2.f 2
          have f3 := g2.f 3
          have f4 := g2.f 4
          have f5 := g2.f 5
          have f6 := g2.f 6
          clear hX4 hOff hW4 h8 hWn g1 g2 g3 e8 hS hK hfd c56 val S
          go_wp2_with fail
          refine calm_normal ?_
          clear x0 x1' x2' x3' x4 x5 x6 f0 f1 f2 f3 f4 f5 f6
          generalize ((((((wz.setCell ⟨kb, 0, none⟩ (.int .i64 x1)).setCell ⟨kb, 1, none⟩ (.int .i64 x2)).setCell ⟨kb, 2, none⟩ (.int .i64 x3)).setCell ⟨kb, 3, none⟩ (.int .i64 kl)).setCell ⟨kb, 4, none⟩ (.int .i64 r.root)).setCell ⟨kb, 5, none⟩ (.int .i64 kh)).setCell ⟨kb, 6, none⟩ (.int .i64 kt) = w3 at *
          have HO3 := Lib.hid (HF3.out.own HO.out (fun k hk e => by have := HOB.out k hk; omega))
          have hs3 := HF3.out.size
          have hsz := HSZ.out
          have y0 := HK3.out.get 0 (v := .int .i64 x1) rfl
          have y1 := HK3.out.get 1 (v := .int .i64 x2) rfl
          have y2 := HK3.out.get 2 (v := .int .i64 x3) rfl
          have hnD : nD ≤ 1400 := by
            have h1 := congrArg List.length HL.out
            have h2 := HLN.out
            have h3 := HDN.out
            simp at h1; omega
          go_upto_region 10 with fail
          go_wp2_with (at_builtin; refine wpList_app rfl _ _ 79 rfl (cells3 [(x1, x2, x3)]) elem_item rfl (HO3.out.alloc (.cells (cells3 [(x1, x2, x3)]).toArray 74)) rfl rfl (fun _ => ⟨_, rfl, new_cells w3 (cells3 [(x1, x2, x3)]) 74⟩) (cells3_one _) (by omega) (by unfold maxLen; omega) (by simp; omega) ?_)
          intro v4 w4 hown4 hg4
          have HB4 := Lib.hid (((HB.out.trans (HF3.out.below HB.out.size (fun k e => by have := HGW.out; omega))).alloc (Nat.le_trans HB.out.size hs3) (.cells (cells3 [(x1, x2, x3)]).toArray 74)).grown hg4 (by simp; have := HB.out.size; omega) (fun k hk => by have := HOB.out k hk; have := HGW.out; omega))
          have hoff4 := (Off.of (F := fun k => (Value.slice AD nD cD).ownBlock = some k) ((Below.refl _ w3).alloc (Nat.le_refl _) (.cells (cells3 [(x1, x2, x3)]).toArray 74))).trans (Off.grown (v := .slice AD nD cD) hg4)
          have HW4 := Lib.hid (HW3.out.off hoff4 (fun e => by have := HOB.out gW e; omega))
          have hK4 := hoff4.blk HK3.out (fun e => by have h1 := own_lt HO.out e; have h2 := HG3.out; omega)
          have z4 := hK4.get 4 (v := .int .i64 r.root) rfl
          have hs4 := hoff4.size
          obtain ⟨A4, d4, rfl, _⟩ := Lies.of_own hown4 (by have := hown4.1; exact this)
          have HO4 := Lib.hid hown4
          clear y0 y1 y2 hown4 hg4 hoff4 hK4
          go_wp2_with fail
          go_roundg (2 * r.items.length + stkM m)
          case measure => rw [HK.out]; simp [PT.items, stkM]
          case rel => exact ⟨dn ++ [(x1, x2, x3)], nD + 1, d4, A4, m, r, rfl, rfl, by rw [cells3_append]; exact HO4.out, Lib.hid rfl, Lib.hid (by rw [← HL.out]; simp [PT.items, stkA]), HRr, HSTM, HMM, HW4, HB4, Lib.hid (by omega)⟩
end Go.Proofs.Ytockjcainkoifaa

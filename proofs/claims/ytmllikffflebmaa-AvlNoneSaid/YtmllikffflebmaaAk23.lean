/- Contracts of package avl: trees that are not there, or were not made. (Written by wip/gen/genak23.py.) -/
import Derived.Test.YtmllikffflebmaaAk18
namespace Corr
set_option maxRecDepth 8000
open Go Go.RowKit
/-- A new arena without nodes. -/
def VA0 (T : TypeId) (v : Value) (w : World) : Prop := ∃ g, v = .pointer (some ⟨g, 0, none⟩) ∧ Ar T w g 0 (-1) none 0 0 []
theorem stays_VA0 (T : TypeId) : stays (VA0 T) := fun _ _ _ h hb => by
  obtain ⟨g, h1, h2⟩ := h; exact ⟨g, h1, h2.keep hb⟩
end Corr
namespace Go.Proofs.Ytmllikffflebmaa
set_option maxRecDepth 8000
open Go.RowKit Corr
set_option linter.unusedVariables false
set_option linter.unusedSimpArgs false
theorem nodes_v (p : Value) (w : World) (h : NilA w p) : Calls Try.prog 25 #[p] w fun e w' => ∃ g, e = .returned (.pointer (some ⟨g, 0, none⟩)) ∧ Ar 48 w' g 0 (-1) none 0 0 [] ∧ Below w.heap.size w w' := nodes_nil p w h
theorem insert_nil (p : Value) (x : It) (w : World) (h : NilA w p) : Calls Try.prog 8 #[p, itV x] w fun e w' => e = .returned (.int .i64 1) ∧ Below w.heap.size w w' := by
  obtain ⟨x1, x2, x3⟩ := x
  have HB0 := Lib.hid (show Ext w _ from (Below.refl _ w).alloc (Nat.le_refl _) (.cells #[.int .i64 x1, .int .i64 x2, .int .i64 x3] 33))
  have HM := Lib.hid (made_nil p _ (h.keep HB0.out))
  clear h
  go_enter Try.func8, Try.ntmps8
  go_wp2_with fail
  refine HM.out.mono ?_
  rintro e w1 ⟨rfl, rfl⟩
  go_wp2_with fail
  go_ret
  exact ⟨rfl, HB0.out⟩
theorem delete_nil (p : Value) (x : It) (w : World) (h : NilA w p) : Calls Try.prog 10 #[p, itV x] w fun e w' => e = .returned (.int .i64 1) ∧ Below w.heap.size w w' := by
  obtain ⟨x1, x2, x3⟩ := x
  have HB0 := Lib.hid (show Ext w _ from (Below.refl _ w).alloc (Nat.le_refl _) (.cells #[.int .i64 x1, .int .i64 x2, .int .i64 x3] 33))
  have HM := Lib.hid (made_nil p _ (h.keep HB0.out))
  clear h
  go_enter Try.func10, Try.ntmps10
  go_wp2_with fail
  refine HM.out.mono ?_
  rintro e w1 ⟨rfl, rfl⟩
  go_wp2_with fail
  go_ret
  exact ⟨rfl, HB0.out⟩
theorem items_nil (p : Value) (w : World) (h : NilA w p) : Calls Try.prog 14 #[p] w fun e w' => ∃ (A : Option Addr) (c : Nat), e = .returned (.slice A 0 c) ∧ Below w.heap.size w w' := by
  have HN := Lib.hid (nodes_nil p w h)
  clear h
  go_enter Try.func14, Try.ntmps14
  go_wp2_with fail
  refine HN.out.mono ?_
  rintro e w1 ⟨g, rfl, hA, hb⟩
  go_upto_region 4 with fail
  change Code.wp Try.prog _ _ _ (w1.alloc (.cells zeroWay 59))
  have HW := Lib.hid (Blk.new w1 zeroWay 59)
  have HB := Lib.hid (hb.alloc hb.size (.cells zeroWay 59))
  have HA := Lib.hid (hA.keep ((Below.refl _ w1).alloc (Nat.le_refl _) (.cells zeroWay 59)))
  clear hA hb
  generalize w1.alloc (.cells zeroWay 59) = wq at *
  generalize w1.heap.size = gW at *
  have a1 := HA.out.b.get 1 rfl
  have c56 := HW.out.get 56 (v := .int .i64 0) rfl
  go_wp2_with fail
  refine wp_loop_rounds 1 ?_
  rw [rounds_succ]
  go_wp2_with fail
  go_ret
  exact ⟨_, _, rfl, HB.out⟩
set_option maxHeartbeats 8000000 in
theorem has_nil (p : Value) (x : It) (w : World) (h : NilA w p) : Calls Try.prog 12 #[p, itV x] w fun e w' => e = .returned (.bool false) ∧ Below w.heap.size w w' := by
  obtain ⟨x1, x2, x3⟩ := x
  have HNI := Lib.hid h
  have HS := Lib.hid ((Mem.start w).push #[.int .i64 x1, .int .i64 x2, .int .i64 x3] 33)
  have HP := Lib.hid (Pth.none (K := []) (x := (x1, x2, x3)))
  clear h
  go_enter Try.func12, Try.ntmps12
  go_upto_region 1 with fail
  generalize w.heap.size = hx at HS ⊢
  generalize w.alloc (.cells #[.int .i64 x1, .int .i64 x2, .int .i64 x3] 33) = wq at *
  refine wp_region_rel 8 (MemAt w wq.heap.size [(hx, #[.int .i64 x1, .int .i64 x2, .int .i64 x3])] [])
    (fun i => List.getD [VE (p), VA0 48, VE (.agg #[.int .i64 x1, .int .i64 x2, .int .i64 x3]), VF ([]) (-1), VF ([]) (-1), VG ([]), VE (.int .i64 (-1)), VA (wq.heap.size) zeroWay] i (fun _ _ => False)) [7] [0, 4, 5, 6] (by kernel_rfl) (by kernel_rfl) HS.out.at (fun _ _ h hb => h.grow hb)
    (stays_all (stays_cons (stays_VE _) (stays_cons (stays_VA0 _) (stays_cons (stays_VE _) (stays_cons (stays_VF _ _) (stays_cons (stays_VF _ _) (stays_cons (stays_VG _) (stays_cons (stays_VE _) (stays_cons (stays_VA _ _) stays_nil))))))))) ⟨?_, ?_, ?_, ?_, ?_, ?_, ?_, ?_, trivial⟩ ?_
  · intro ev wv hE hw hd
    refine ifw rfl (ifw rfl ?_)
    have v0 : ev (.tmp 0) = p := hE.tmp 0 rfl
    refine ⟨p, fun w => ?_, rfl⟩
    have e1 := hE.const; have e2 := hE.func; clear hE hd hw
    go_simp
  · intro ev wv hE hw hd
    refine ifw rfl (ifn rfl ?_)
    have v8 : ev (.tmp 8) = p := hd 0 (by decide)
    refine rel_call (f := 25) (args := #[p]) ?_ (nodes_v p _ (HNI.out.keep hw.m.bl)) ?_
    · have e0 := hE.func; have e1 := hE.const; clear hE hd hw
      go_simp
    · rintro e w' ⟨g, rfl, hA, hb⟩
      exact ⟨_, rfl, hb, ⟨g, rfl, hA⟩, fun h => by cases h⟩
  · intro ev wv hE hw hd
    refine ifw rfl (ifn rfl ?_)
    have v3 : ev (.tmp 3) = .pointer (some ⟨hx, 0, none⟩) := hE.tmp 3 rfl
    have kx := hw.m.c 0 0 rfl rfl
    have ky := hw.m.c 0 1 rfl rfl
    have kz := hw.m.c 0 2 rfl rfl
    refine rel_val (u := .agg #[.int .i64 x1, .int .i64 x2, .int .i64 x3]) (w' := wv) ?_ (Below.refl _ _) ⟨rfl, fun h => by cases h⟩
    have e1 := hE.const; clear hE hd hw
    go_simp
  · intro ev wv hE hw hd
    refine ifw rfl (ifn rfl ?_)
    obtain ⟨xg1, v9, xA1⟩ : VA0 48 (ev (.tmp 9)) wv := hd 1 (by decide)
    have v10 : ev (.tmp 10) = .agg #[.int .i64 x1, .int .i64 x2, .int .i64 x3] := hd 2 (by decide)
    refine rel_call (f := 21) (args := #[.pointer (some ⟨xg1, 0, none⟩), .agg #[.int .i64 x1, .int .i64 x2, .int .i64 x3]]) ?_ (find_any xg1 0 0 none 0 (-1) [] (x1, x2, x3) [] (-1) _ xA1 HP.out (by simp) (by omega)) ?_
    · have e0 := hE.func; have e1 := hE.const; clear hE hd hw
      go_simp
    · rintro e w' ⟨vs, rfl, hv, hb⟩
      exact ⟨_, rfl, hb, ⟨vs, rfl, hv⟩, fun h => by cases h⟩
  · intro ev wv hE hw hd
    refine ifw rfl (ifw rfl ?_)
    refine ⟨ev (.tmp 11), fun w => ?_, hd 3 (by decide)⟩
    clear hE hd hw
    go_simp
  · intro ev wv hE hw hd
    refine ifw rfl (ifw rfl ?_)
    obtain ⟨xv4, v7, xh4⟩ : VF ([]) (-1) (ev (.tmp 7)) wv := hd 4 (by decide)
    refine ⟨.agg xv4, fun w => ?_, ⟨xv4, rfl, xh4⟩⟩
    have e1 := hE.const; clear hE hd hw
    go_simp
  · intro ev wv hE hw hd
    refine ifw rfl (ifw rfl ?_)
    obtain ⟨xv4, v7, xh4⟩ : VF ([]) (-1) (ev (.tmp 7)) wv := hd 4 (by decide)
    refine ⟨.int .i64 (-1), fun w => ?_, rfl⟩
    have e1 := hE.const; clear hE hd hw
    go_simp
  · intro ev wv hE hw hd
    refine ifw rfl (ifn rfl ?_)
    refine rel_val (u := .pointer (some ⟨wv.heap.size, 0, none⟩)) (w' := wv.alloc (.cells zeroWay 59)) ?_ ((Below.refl _ _).alloc (Nat.le_refl _) _) ⟨⟨_, rfl, Blk.new _ _ _, hw.h⟩, fun _ => ⟨_, rfl, Nat.le_refl _, by simp⟩⟩
    clear hE hd hw
    go_simp
    rfl
  · intro wz hw
    intro v0 h0 _ v1 h1 _ v2 h2 _ v3 h3 _ v4 h4 _ v5 h5 _ v6 h6 _ v7 h7 n7
    simp only [Act.put, List.setIfInBounds_toArray, List.set_cons_zero, List.set_cons_succ, List.drop_succ_cons, List.drop_zero]
    obtain rfl : v0 = _ := h0
    obtain ⟨xg1, rfl, xA1⟩ : VA0 48 v1 wz := h1
    obtain rfl : v2 = _ := h2
    obtain ⟨xv3, rfl, xh3⟩ : VF ([]) (-1) v3 wz := h3
    obtain ⟨xv4, rfl, xh4⟩ : VF ([]) (-1) v4 wz := h4
    obtain ⟨xv5, rfl, xh5⟩ : VG ([]) v5 wz := h5
    obtain rfl : v6 = _ := h6
    obtain ⟨xg7, rfl, xB7, xl7⟩ : VA (wq.heap.size) zeroWay v7 wz := h7
    change wpList Try.prog _ _ _ _ wz
    have HM1 := Lib.hid hw.m
    have hB0 := xB7
    obtain ⟨TR, BR⟩ := hB0.blk
    have hBR := Lib.hid BR
    have hV := Lib.hid xh5
    have HLO := Lib.hid (Nat.le_trans HS.out.bl.size xl7)
    clear BR hB0 hw n7
    go_wp2_with (refine wpList_store_row rfl 59 _ _ rfl xg7 xv5 rfl rfl TR zeroWay hBR.out (by rw [hV.out.sz]; exact way_info) (by rw [hV.out.sz]; rfl) hV.out.one ?_)
    refine calm_normal ?_
    go_wp2_with fail
    go_ret
    exact ⟨rfl, below_setRow HM1.out.bl HLO.out _⟩
end Go.Proofs.Ytmllikffflebmaa

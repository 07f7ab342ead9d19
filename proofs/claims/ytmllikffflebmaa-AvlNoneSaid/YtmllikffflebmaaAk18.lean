/- Contracts of package avl: Has, Insert, Delete. (Written by wip/gen/genak18.py.) -/
import Derived.Test.YtmllikffflebmaaAk15
import Derived.Test.YtmllikffflebmaaAk17
import Derived.Test.YtmllikffflebmaaRow
import Derived.Test.YtmllikffflebmaaRelMem
namespace Corr
set_option maxRecDepth 8000
open Go Go.RowKit
/-- What find yields: a way, and a place. -/
def VF (l : WyL) (res : Int) (v : Value) (_ : World) : Prop := ∃ vs, v = .tuple #[.agg vs, .int .i64 res] ∧ WayV vs l
def VG (l : WyL) (v : Value) (_ : World) : Prop := ∃ vs, v = .agg vs ∧ WayV vs l
theorem stays_VF (l : WyL) (res : Int) : stays (VF l res) := fun _ _ _ h _ => h
theorem stays_VG (l : WyL) : stays (VG l) := fun _ _ _ h _ => h
end Corr
namespace Go.Proofs.Ytmllikffflebmaa
set_option maxRecDepth 8000
open Go.RowKit Corr
set_option linter.unusedVariables false
set_option linter.unusedSimpArgs false
theorem nodes_b (gT g : Nat) (w : World) (B : Blk w gT #[.pointer (some ⟨g, 0, none⟩)]) : Calls Try.prog 25 #[.pointer (some ⟨gT, 0, none⟩)] w fun e w' => e = .returned (.pointer (some ⟨g, 0, none⟩)) ∧ Below w.heap.size w w' :=
  (nodes_any gT g w B).mono fun e w' h => ⟨h.1, by rw [h.2]; exact Below.refl _ _⟩
set_option maxHeartbeats 8000000 in
theorem has_way (gT g n c : Nat) (M : Int) (A : Option Addr) (K : KnL) (t : PT) (l : ItL) (x : It) (wy : WyL) (res : Int) (w : World) (H : TreeR 48 w gT g n c M A K t l) (P : Pth K x t.root wy res) (hl : wy.length ≤ 28) (hn : n ≤ 1400) : Calls Try.prog 12 #[.pointer (some ⟨gT, 0, none⟩), itV x] w fun e w' => e = .returned (.bool (res != -1)) ∧ Below w.heap.size w w' := by
  have HP := Lib.hid P
  obtain ⟨x1, x2, x3⟩ := x
  have HT := Lib.hid H
  have HS := Lib.hid ((Mem.start w).push #[.int .i64 x1, .int .i64 x2, .int .i64 x3] 33)
  clear H P
  go_enter Try.func12, Try.ntmps12
  go_upto_region 1 with fail
  generalize w.heap.size = hx at HS ⊢
  generalize w.alloc (.cells #[.int .i64 x1, .int .i64 x2, .int .i64 x3] 33) = wq at *
  refine wp_region_rel 8 (MemAt w wq.heap.size [(hx, #[.int .i64 x1, .int .i64 x2, .int .i64 x3])] [])
    (fun i => List.getD [VE (.pointer (some ⟨gT, 0, none⟩)), VE (.pointer (some ⟨g, 0, none⟩)), VE (.agg #[.int .i64 x1, .int .i64 x2, .int .i64 x3]), VF (wy) (res), VF (wy) (res), VG (wy), VE (.int .i64 res), VA (wq.heap.size) zeroWay] i (fun _ _ => False)) [7] [0, 4, 5, 6] (by kernel_rfl) (by kernel_rfl) HS.out.at (fun _ _ h hb => h.grow hb)
    (stays_all (stays_cons (stays_VE _) (stays_cons (stays_VE _) (stays_cons (stays_VE _) (stays_cons (stays_VF _ _) (stays_cons (stays_VF _ _) (stays_cons (stays_VG _) (stays_cons (stays_VE _) (stays_cons (stays_VA _ _) stays_nil))))))))) ⟨?_, ?_, ?_, ?_, ?_, ?_, ?_, ?_, trivial⟩ ?_
  · intro ev wv hE hw hd
    refine ifw rfl (ifw rfl ?_)
    have v0 : ev (.tmp 0) = .pointer (some ⟨gT, 0, none⟩) := hE.tmp 0 rfl
    refine ⟨.pointer (some ⟨gT, 0, none⟩), fun w => ?_, rfl⟩
    have e1 := hE.const; have e2 := hE.func; clear hE hd hw
    go_simp
  · intro ev wv hE hw hd
    refine ifw rfl (ifn rfl ?_)
    have v8 : ev (.tmp 8) = .pointer (some ⟨gT, 0, none⟩) := hd 0 (by decide)
    refine rel_call (f := 25) (args := #[.pointer (some ⟨gT, 0, none⟩)]) ?_ (nodes_b gT g _ (HT.out.keep hw.m.bl).tp) ?_
    · have e0 := hE.func; have e1 := hE.const; clear hE hd hw
      go_simp
    · rintro e w' ⟨rfl, hb⟩
      exact ⟨_, rfl, hb, rfl, fun h => by cases h⟩
  · intro ev wv hE hw hd
    refine ifw rfl (ifn rfl ?_)
    have v3 : ev (.tmp 3) = .pointer (some ⟨hx, 0, none⟩) := hE.tmp 3 rfl
    have kx := hw.m.c 0 0 rfl rfl
    have ky := hw.m.c 0 1 rfl rfl
    have kz := hw.m.c 0 2 rfl rfl
    refine rel_val (u := .agg #[.int .i64 x1, .int .i64 x2, .int .i64 x3]) (w' := wv) ?_ (Below.refl _ _) ⟨rfl, fun h => by cases h⟩
    have e1 := hE.const; clear hE hd hw
    go_simp
  · intro ev wv hE hw hd
    refine ifw rfl (ifn rfl ?_)
    have v9 : ev (.tmp 9) = .pointer (some ⟨g, 0, none⟩) := hd 1 (by decide)
    have v10 : ev (.tmp 10) = .agg #[.int .i64 x1, .int .i64 x2, .int .i64 x3] := hd 2 (by decide)
    refine rel_call (f := 21) (args := #[.pointer (some ⟨g, 0, none⟩), .agg #[.int .i64 x1, .int .i64 x2, .int .i64 x3]]) ?_ ((find_any g n c A M t.root K (x1, x2, x3) wy res _ (HT.out.ar.keep hw.m.bl) HP.out hl (by omega))) ?_
    · have e0 := hE.func; have e1 := hE.const; clear hE hd hw
      go_simp
    · rintro e w' ⟨vs, rfl, hv, hb⟩
      exact ⟨_, rfl, hb, ⟨vs, rfl, hv⟩, fun h => by cases h⟩
  · intro ev wv hE hw hd
    refine ifw rfl (ifw rfl ?_)
    refine ⟨ev (.tmp 11), fun w => ?_, hd 3 (by decide)⟩
    clear hE hd hw
    go_simp
  · intro ev wv hE hw hd
    refine ifw rfl (ifw rfl ?_)
    obtain ⟨xv4, v7, xh4⟩ : VF (wy) (res) (ev (.tmp 7)) wv := hd 4 (by decide)
    refine ⟨.agg xv4, fun w => ?_, ⟨xv4, rfl, xh4⟩⟩
    have e1 := hE.const; clear hE hd hw
    go_simp
  · intro ev wv hE hw hd
    refine ifw rfl (ifw rfl ?_)
    obtain ⟨xv4, v7, xh4⟩ : VF (wy) (res) (ev (.tmp 7)) wv := hd 4 (by decide)
    refine ⟨.int .i64 res, fun w => ?_, rfl⟩
    have e1 := hE.const; clear hE hd hw
    go_simp
  · intro ev wv hE hw hd
    refine ifw rfl (ifn rfl ?_)
    refine rel_val (u := .pointer (some ⟨wv.heap.size, 0, none⟩)) (w' := wv.alloc (.cells zeroWay 59)) ?_ ((Below.refl _ _).alloc (Nat.le_refl _) _) ⟨⟨_, rfl, Blk.new _ _ _, hw.h⟩, fun _ => ⟨_, rfl, Nat.le_refl _, by simp⟩⟩
    clear hE hd hw
    go_simp
    rfl
  · intro wz hw
    intro v0 h0 _ v1 h1 _ v2 h2 _ v3 h3 _ v4 h4 _ v5 h5 _ v6 h6 _ v7 h7 n7
    simp only [Act.put, List.setIfInBounds_toArray, List.set_cons_zero, List.set_cons_succ, List.drop_succ_cons, List.drop_zero]
    obtain rfl : v0 = _ := h0
    obtain rfl : v1 = _ := h1
    obtain rfl : v2 = _ := h2
    obtain ⟨xv3, rfl, xh3⟩ : VF (wy) (res) v3 wz := h3
    obtain ⟨xv4, rfl, xh4⟩ : VF (wy) (res) v4 wz := h4
    obtain ⟨xv5, rfl, xh5⟩ : VG (wy) v5 wz := h5
    obtain rfl : v6 = _ := h6
    obtain ⟨xg7, rfl, xB7, xl7⟩ : VA (wq.heap.size) zeroWay v7 wz := h7
    change wpList Try.prog _ _ _ _ wz
    have HM1 := Lib.hid hw.m
    have hB0 := xB7
    obtain ⟨TR, BR⟩ := hB0.blk
    have hBR := Lib.hid BR
    have hV := Lib.hid xh5
    have HLO := Lib.hid (Nat.le_trans HS.out.bl.size xl7)
    clear BR hB0 hw n7
    go_wp2_with (refine wpList_store_row rfl 59 _ _ rfl xg7 xv5 rfl rfl TR zeroWay hBR.out (by rw [hV.out.sz]; exact way_info) (by rw [hV.out.sz]; rfl) hV.out.one ?_)
    refine calm_normal ?_
    go_wp2_with fail
    go_ret
    exact ⟨rfl, below_setRow HM1.out.bl HLO.out _⟩
end Go.Proofs.Ytmllikffflebmaa

/- corrodyref08: the plain side; Less. Contracts of corrodyref08: place, Has. (Written by wip/gen/genav2.py.) -/
import Derived.Test.YtolmkagedlcjiaaChecked
import Derived.Test.YtolmkagedlcjiaaRow3
import Derived.Test.YtolmkagedlcjiaaRowRel
import Derived.BigQuiet
namespace Corr
set_option maxRecDepth 8000
/-- Is an item less? -/
def lessB (a b : It) : Bool := if a.1 = b.1 then (if a.2.1 = b.2.1 then decide (a.2.2 < b.2.2) else decide (a.2.1 < b.2.1)) else decide (a.1 < b.1)
/-- How many stand ahead of it. -/
def cntI (x : It) (l : ItL) : Nat := (l.takeWhile fun y => lessB y x).length
end Corr
namespace Go.Proofs.Ytolmkagedlcjiaa
set_option maxRecDepth 8000
open Go.RowKit Corr
set_option linter.unusedVariables false
set_option linter.unusedSimpArgs false
theorem ret_bool {a b : Bool} (h : a = b) : Ending.returned (.bool a) = .returned (.bool b) := by rw [h]
set_option maxHeartbeats 1000000 in
theorem less_any (a b : It) (w : World) : Calls Try.prog 33 #[itV a, itV b] w fun e w' => e = .returned (.bool (lessB a b)) ∧ Below w.heap.size w w' := by
  obtain ⟨a1, a2, a3⟩ := a
  obtain ⟨b1, b2, b3⟩ := b
  have HB := Lib.hid ((((Below.refl w.heap.size w).alloc (Nat.le_refl _) (.cells #[.int .i64 a1, .int .i64 a2, .int .i64 a3] 30)).alloc (by simp) (.cells #[.int .i64 b1, .int .i64 b2, .int .i64 b3] 30)))
  by_cases p1 : a1 = b1
  · by_cases p2 : a2 = b2
    · have HF := Lib.hid (show decide (a3 < b3) = lessB (a1, a2, a3) (b1, b2, b3) by unfold lessB; rw [if_pos p1, if_pos p2])
      have d1 : (a1 != b1) = false := by simpa using p1
      have d2 : (a2 != b2) = false := by simpa using p2
      clear p1 p2
      go_enter Try.func33, Try.ntmps33
      go_wp2_with fail
      go_ret
      exact ⟨ret_bool HF.out, HB.out⟩
    · have HF := Lib.hid (show decide (a2 < b2) = lessB (a1, a2, a3) (b1, b2, b3) by unfold lessB; rw [if_pos p1, if_neg p2])
      have d1 : (a1 != b1) = false := by simpa using p1
      have d2 : (a2 != b2) = true := by simpa using p2
      clear p1 p2
      go_enter Try.func33, Try.ntmps33
      go_wp2_with fail
      go_ret
      exact ⟨ret_bool HF.out, HB.out⟩
  · have HF := Lib.hid (show decide (a1 < b1) = lessB (a1, a2, a3) (b1, b2, b3) by unfold lessB; rw [if_neg p1])
    have d1 : (a1 != b1) = true := by simpa using p1
    clear p1
    go_enter Try.func33, Try.ntmps33
    go_wp2_with fail
    go_ret
    exact ⟨ret_bool HF.out, HB.out⟩
end Go.Proofs.Ytolmkagedlcjiaa
namespace Corr
set_option maxRecDepth 8000
open Go Go.RowKit
theorem cntI_at {x : It} {l : ItL} {k : Nat} (hk : k ≤ l.length) (h1 : ∀ y ∈ l.take k, lessB y x = true) (h2 : ∀ y, l[k]? = some y → lessB y x = false) : cntI x l = k := by
  unfold cntI
  have e : l = l.take k ++ l.drop k := (List.take_append_drop k l).symm
  have hd : (l.drop k).takeWhile (fun y => lessB y x) = [] := by
    cases hd : l.drop k with
    | nil => rfl
    | cons y r =>
      have : l[k]? = some y := by
        have := congrArg (·[0]?) hd
        simpa using this
      rw [List.takeWhile_cons, h2 y this]; rfl
  rw [e, List.takeWhile_append_of_pos h1, hd, List.append_nil, List.length_take]
  omega
theorem take_less {x y : It} {l : ItL} {k : Nat} (h : ∀ y ∈ l.take k, lessB y x = true) (hx : l[k]? = some y) (hlt : lessB y x = true) : ∀ y ∈ l.take (k + 1), lessB y x = true := by
  rw [List.take_add_one, hx]
  intro z hz
  rcases List.mem_append.1 hz with hz | hz
  · exact h z hz
  · have : z = y := by simpa using hz
    rw [this]; exact hlt
/-- Does it stand there? -/
def hasI (x : It) (l : ItL) : Bool := decide (l[cntI x l]? = some x)
theorem ret_ib' {a b : Int} {c d : Bool} (h : a = b) (h' : c = d) : Ending.returned (.tuple #[.int .i64 a, .bool c]) = .returned (.tuple #[.int .i64 b, .bool d]) := by rw [h, h']
/-- The document's tree: so many at most, its items in a row. -/
structure RTree (w : World) (g : Nat) (A : Option Addr) (n c : Nat) (l : ItL) : Prop where
  s : w.cell? ⟨g, 1, none⟩ = some (.slice A n c)
  i : Itm w A n c l
theorem RTree.lt {w : World} {g n c : Nat} {A : Option Addr} {l : ItL} (h : RTree w g A n c l) : g < w.heap.size := World.block_lt_of_cell? _ _ h.s
theorem RTree.keep {w w' : World} {g n c : Nat} {A : Option Addr} {l : ItL} (h : RTree w g A n c l) (hb : Below w.heap.size w w') : RTree w' g A n c l :=
  ⟨(hb.cell (p := ⟨g, 1, none⟩) h.lt).trans h.s, h.i.keep hb⟩
end Corr
namespace Go.Proofs.Ytolmkagedlcjiaa
set_option maxRecDepth 8000
open Go.RowKit Corr
set_option linter.unusedVariables false
set_option linter.unusedSimpArgs false
set_option maxHeartbeats 4000000 in
theorem place_any (g n c : Nat) (A : Option Addr) (l : ItL) (x : It) (w : World) (T : RTree w g A n c l) (hn : n ≤ 100000) : Calls Try.prog 20 #[.pointer (some ⟨g, 0, none⟩), itV x] w fun e w' => e = .returned (.tuple #[.int .i64 (cntI x l : Int), .bool (hasI x l)]) ∧ Below w.heap.size w w' := by
  obtain ⟨x1, x2, x3⟩ := x
  have HT := Lib.hid (T.keep ((Below.refl _ w).alloc (Nat.le_refl _) (.cells #[.int .i64 x1, .int .i64 x2, .int .i64 x3] 30)))
  have HBX := Lib.hid (Blk.new w #[.int .i64 x1, .int .i64 x2, .int .i64 x3] 30)
  have HB0 := Lib.hid ((Below.refl w.heap.size w).alloc (Nat.le_refl _) (.cells #[.int .i64 x1, .int .i64 x2, .int .i64 x3] 30))
  have HC := Lib.hid (Itm.count T.i)
  have hgl : g < w.heap.size := T.lt
  clear T
  go_enter Try.func20, Try.ntmps20
  go_wp2_with fail
  go_loopw [6] (fun t wr => ∃ k : Nat, t = .int .i64 (k : Int) ∧ k ≤ n ∧ Hid (∀ y ∈ l.take k, lessB y (x1, x2, x3) = true) ∧ Below (w.alloc (.cells #[.int .i64 x1, .int .i64 x2, .int .i64 x3] 30)).heap.size (w.alloc (.cells #[.int .i64 x1, .int .i64 x2, .int .i64 x3] 30)) wr) (fun t _ => (n - intOf t).toNat)
  case atStart => exact ⟨0, rfl, by omega, Lib.hid (by simp), Below.refl _ _⟩
  case round =>
    obtain ⟨k, rfl, hk, HX, hb⟩ := hrel
    have HBE := Lib.hid (HB0.out.trans (hb.mono HB0.out.size))
    have HTR := Lib.hid (HT.out.keep hb)
    have HBB := HBX.out.keep hb
    have b0 := HBB.get 0 rfl
    have b1 := HBB.get 1 rfl
    have b2 := HBB.get 2 rfl
    have HB := Lib.hid hb
    have cT := HTR.out.s
    clear HBB hb
    by_cases hlt : k < n
    · obtain ⟨g1, off, y, rfl, hy, hg1, c0, c1, c2⟩ := Itm.get HTR.out.i hlt
      obtain ⟨y1, y2, y3⟩ := y
      have HY := Lib.hid hy
      clear hy
      have hki : (k : Int) < (n : Int) := by omega
      by_cases p : lessB (y1, y2, y3) (x1, x2, x3) = true
      · have HX2 := Lib.hid (take_less HX.out HY.out p)
        go_upto_region 2 with fail
        have HLS := Lib.hid (fun w => less_any (y1, y2, y3) (x1, x2, x3) w)
        rw [p] at HLS
        refine wp_region_rel 18 (Ext wr)
          (fun i => List.getD [VE (.int .i64 (k : Int)), VE (.pointer (some ⟨g, 0, none⟩)), VE (.pointer (some ⟨g, 0, none⟩)), VE (.pointer (some ⟨g, 1, none⟩)), VE (.slice (some ⟨g1, off, none⟩) n c), VE (.int .i64 (n : Int)), VE (.bool true), VE (.bool true), VE (.pointer (some ⟨g, 0, none⟩)), VE (.pointer (some ⟨g, 0, none⟩)), VE (.pointer (some ⟨g, 1, none⟩)), VE (.slice (some ⟨g1, off, none⟩) n c), VE (.int .i64 (k : Int)), VE (.pointer (some ⟨g1, off + k * 3, none⟩)), VE (itV (y1, y2, y3)), VE (itV (x1, x2, x3)), VE (.bool true), VE (.bool true)] i (fun _ _ => False)) [] [0, 1, 2, 3, 5, 6, 7, 8, 9, 10, 12, 13, 17] (by kernel_rfl) (by kernel_rfl) (Ext.start wr) (fun _ _ h hb => h.grow hb)
          (stays_all (stays_cons (stays_VE _) (stays_cons (stays_VE _) (stays_cons (stays_VE _) (stays_cons (stays_VE _) (stays_cons (stays_VE _) (stays_cons (stays_VE _) (stays_cons (stays_VE _) (stays_cons (stays_VE _) (stays_cons (stays_VE _) (stays_cons (stays_VE _) (stays_cons (stays_VE _) (stays_cons (stays_VE _) (stays_cons (stays_VE _) (stays_cons (stays_VE _) (stays_cons (stays_VE _) (stays_cons (stays_VE _) (stays_cons (stays_VE _) (stays_cons (stays_VE _) stays_nil))))))))))))))))))) ⟨?_, ?_, ?_, ?_, ?_, ?_, ?_, ?_, ?_, ?_, ?_, ?_, ?_, ?_, ?_, ?_, ?_, ?_, trivial⟩ ?_
        · intro ev wv hE hw hd
          refine ifw rfl (ifw rfl ?_)
          have v6 : ev (.tmp 6) = .int .i64 (k : Int) := hE.tmp 6 rfl
          refine ⟨.int .i64 (k : Int), fun w => ?_, rfl⟩
          have e1 := hE.const; have e2 := hE.func; clear hE hd hw
          go_simp
        · intro ev wv hE hw hd
          refine ifw rfl (ifw rfl ?_)
          have v0 : ev (.tmp 0) = .pointer (some ⟨g, 0, none⟩) := hE.tmp 0 rfl
          refine ⟨.pointer (some ⟨g, 0, none⟩), fun w => ?_, rfl⟩
          have e1 := hE.const; have e2 := hE.func; clear hE hd hw
          go_simp
        · intro ev wv hE hw hd
          refine ifw rfl (ifw rfl ?_)
          have v8 : ev (.tmp 8) = .pointer (some ⟨g, 0, none⟩) := hd 1 (by decide)
          refine ⟨.pointer (some ⟨g, 0, none⟩), fun w => ?_, rfl⟩
          have e1 := hE.const; have e2 := hE.func; clear hE hd hw
          go_simp
        · intro ev wv hE hw hd
          refine ifw rfl (ifw rfl ?_)
          have v9 : ev (.tmp 9) = .pointer (some ⟨g, 0, none⟩) := hd 2 (by decide)
          refine ⟨.pointer (some ⟨g, 1, none⟩), fun w => ?_, rfl⟩
          have e1 := hE.const; have e2 := hE.func; clear hE hd hw
          go_simp
        · intro ev wv hE hw hd
          refine ifw rfl (ifn rfl ?_)
          have v10 : ev (.tmp 10) = .pointer (some ⟨g, 1, none⟩) := hd 3 (by decide)
          have kt := (Below.cell hw HTR.out.lt).trans HTR.out.s
          refine rel_val (u := .slice (some ⟨g1, off, none⟩) n c) (w' := wv) ?_ (Below.refl _ _) ⟨rfl, fun h => by cases h⟩
          have e1 := hE.const; clear hE hd hw
          go_simp
        · intro ev wv hE hw hd
          refine ifw rfl (ifw rfl ?_)
          have v11 : ev (.tmp 11) = .slice (some ⟨g1, off, none⟩) n c := hd 4 (by decide)
          refine ⟨.int .i64 (n : Int), fun w => ?_, rfl⟩
          have e1 := hE.const; have e2 := hE.func; clear hE hd hw
          go_simp
        · intro ev wv hE hw hd
          refine ifw rfl (ifw rfl ?_)
          have v7 : ev (.tmp 7) = .int .i64 (k : Int) := hd 0 (by decide)
          have v12 : ev (.tmp 12) = .int .i64 (n : Int) := hd 5 (by decide)
          refine ⟨.bool true, fun w => ?_, rfl⟩
          have e1 := hE.const; have e2 := hE.func; clear hE hd hw
          go_simp
        · intro ev wv hE hw hd
          refine ifw rfl (ifw rfl ?_)
          have v13 : ev (.tmp 13) = .bool true := hd 6 (by decide)
          refine ⟨.bool true, fun w => ?_, rfl⟩
          have e1 := hE.const; have e2 := hE.func; clear hE hd hw
          go_simp
        · intro ev wv hE hw hd
          have vg : ev (.tmp 14) = .bool true := hd 7 (by decide)
          refine ifw (by show (yv (ev (.tmp 14)) == some true) = true; rw [vg]; rfl) (ifw rfl ?_)
          clear vg
          have v0 : ev (.tmp 0) = .pointer (some ⟨g, 0, none⟩) := hE.tmp 0 rfl
          refine ⟨.pointer (some ⟨g, 0, none⟩), fun w => ?_, rfl⟩
          have e1 := hE.const; have e2 := hE.func; clear hE hd hw
          go_simp
        · intro ev wv hE hw hd
          have vg : ev (.tmp 14) = .bool true := hd 7 (by decide)
          refine ifw (by show (yv (ev (.tmp 14)) == some true) = true; rw [vg]; rfl) (ifw rfl ?_)
          clear vg
          have v15 : ev (.tmp 15) = .pointer (some ⟨g, 0, none⟩) := hd 8 (by decide)
          refine ⟨.pointer (some ⟨g, 0, none⟩), fun w => ?_, rfl⟩
          have e1 := hE.const; have e2 := hE.func; clear hE hd hw
          go_simp
        · intro ev wv hE hw hd
          have vg : ev (.tmp 14) = .bool true := hd 7 (by decide)
          refine ifw (by show (yv (ev (.tmp 14)) == some true) = true; rw [vg]; rfl) (ifw rfl ?_)
          clear vg
          have v16 : ev (.tmp 16) = .pointer (some ⟨g, 0, none⟩) := hd 9 (by decide)
          refine ⟨.pointer (some ⟨g, 1, none⟩), fun w => ?_, rfl⟩
          have e1 := hE.const; have e2 := hE.func; clear hE hd hw
          go_simp
        · intro ev wv hE hw hd
          have vg : ev (.tmp 14) = .bool true := hd 7 (by decide)
          refine ifw (by show (yv (ev (.tmp 14)) == some true) = true; rw [vg]; rfl) (ifn rfl ?_)
          clear vg
          have v17 : ev (.tmp 17) = .pointer (some ⟨g, 1, none⟩) := hd 10 (by decide)
          have kt := (Below.cell hw HTR.out.lt).trans HTR.out.s
          refine rel_val (u := .slice (some ⟨g1, off, none⟩) n c) (w' := wv) ?_ (Below.refl _ _) ⟨rfl, fun h => by cases h⟩
          have e1 := hE.const; clear hE hd hw
          go_simp
        · intro ev wv hE hw hd
          have vg : ev (.tmp 14) = .bool true := hd 7 (by decide)
          refine ifw (by show (yv (ev (.tmp 14)) == some true) = true; rw [vg]; rfl) (ifw rfl ?_)
          clear vg
          have v6 : ev (.tmp 6) = .int .i64 (k : Int) := hE.tmp 6 rfl
          refine ⟨.int .i64 (k : Int), fun w => ?_, rfl⟩
          have e1 := hE.const; have e2 := hE.func; clear hE hd hw
          go_simp
        · intro ev wv hE hw hd
          have vg : ev (.tmp 14) = .bool true := hd 7 (by decide)
          refine ifw (by show (yv (ev (.tmp 14)) == some true) = true; rw [vg]; rfl) (ifw rfl ?_)
          clear vg
          have v18 : ev (.tmp 18) = .slice (some ⟨g1, off, none⟩) n c := hd 11 (by decide)
          have v19 : ev (.tmp 19) = .int .i64 (k : Int) := hd 12 (by decide)
          refine ⟨.pointer (some ⟨g1, off + k * 3, none⟩), fun w => ?_, rfl⟩
          have e1 := hE.const; have e2 := hE.func; clear hE hd hw
          go_simp
        · intro ev wv hE hw hd
          have vg : ev (.tmp 14) = .bool true := hd 7 (by decide)
          refine ifw (by show (yv (ev (.tmp 14)) == some true) = true; rw [vg]; rfl) (ifn rfl ?_)
          clear vg
          have v20 : ev (.tmp 20) = .pointer (some ⟨g1, off + k * 3, none⟩) := hd 13 (by decide)
          have k0 : wv.cell? ⟨g1, off + k * 3, none⟩ = some (.int .i64 y1) := (Below.cell hw hg1).trans c0
          have k1 : wv.cell? ⟨g1, off + k * 3 + 1, none⟩ = some (.int .i64 y2) := (Below.cell (p := ⟨g1, off + k * 3 + 1, none⟩) hw hg1).trans c1
          have k2 : wv.cell? ⟨g1, off + k * 3 + 2, none⟩ = some (.int .i64 y3) := (Below.cell (p := ⟨g1, off + k * 3 + 2, none⟩) hw hg1).trans c2
          refine rel_val (u := itV (y1, y2, y3)) (w' := wv) ?_ (Below.refl _ _) ⟨rfl, fun h => by cases h⟩
          have e1 := hE.const; clear hE hd hw
          go_simp
        · intro ev wv hE hw hd
          have vg : ev (.tmp 14) = .bool true := hd 7 (by decide)
          refine ifw (by show (yv (ev (.tmp 14)) == some true) = true; rw [vg]; rfl) (ifn rfl ?_)
          clear vg
          have v3 : ev (.tmp 3) = .pointer (some ⟨w.heap.size, 0, none⟩) := hE.tmp 3 rfl
          have HBV := (HBX.out.keep HB.out).keep hw
          have k0 := HBV.get 0 rfl
          have k1 := HBV.get 1 rfl
          have k2 := HBV.get 2 rfl
          refine rel_val (u := itV (x1, x2, x3)) (w' := wv) ?_ (Below.refl _ _) ⟨rfl, fun h => by cases h⟩
          have e1 := hE.const; clear hE hd hw
          go_simp
        · intro ev wv hE hw hd
          have vg : ev (.tmp 14) = .bool true := hd 7 (by decide)
          refine ifw (by show (yv (ev (.tmp 14)) == some true) = true; rw [vg]; rfl) (ifn rfl ?_)
          clear vg
          have v21 : ev (.tmp 21) = itV (y1, y2, y3) := hd 14 (by decide)
          have v22 : ev (.tmp 22) = itV (x1, x2, x3) := hd 15 (by decide)
          refine rel_call (f := 33) (args := #[itV (y1, y2, y3), itV (x1, x2, x3)]) ?_ (HLS.out _) ?_
          · have e0 := hE.func; have e1 := hE.const; clear hE hd hw
            go_simp
          · rintro e w' ⟨rfl, hb⟩
            exact ⟨_, rfl, hb, rfl, fun h => by cases h⟩
        · intro ev wv hE hw hd
          refine ifw rfl (ifw rfl ?_)
          have v14 : ev (.tmp 14) = .bool true := hd 7 (by decide)
          have v23 : ev (.tmp 23) = .bool true := hd 16 (by decide)
          refine ⟨.bool true, fun w => ?_, rfl⟩
          have e1 := hE.const; have e2 := hE.func; clear hE hd hw
          go_simp
        · intro w1 hw
          intro v0 h0 _ v1 h1 _ v2 h2 _ v3 h3 _ v4 h4 _ v5 h5 _ v6 h6 _ v7 h7 _ v8 h8 _ v9 h9 _ v10 h10 _ v11 h11 _ v12 h12 _ v13 h13 _ v14 h14 _ v15 h15 _ v16 h16 _ v17 h17 _
          simp only [Act.put, List.setIfInBounds_toArray, List.set_cons_zero, List.set_cons_succ, List.drop_succ_cons, List.drop_zero]
          obtain rfl : v0 = _ := h0
          obtain rfl : v1 = _ := h1
          obtain rfl : v2 = _ := h2
          obtain rfl : v3 = _ := h3
          obtain rfl : v4 = _ := h4
          obtain rfl : v5 = _ := h5
          obtain rfl : v6 = _ := h6
          obtain rfl : v7 = _ := h7
          obtain rfl : v8 = _ := h8
          obtain rfl : v9 = _ := h9
          obtain rfl : v10 = _ := h10
          obtain rfl : v11 = _ := h11
          obtain rfl : v12 = _ := h12
          obtain rfl : v13 = _ := h13
          obtain rfl : v14 = _ := h14
          obtain rfl : v15 = _ := h15
          obtain rfl : v16 = _ := h16
          obtain rfl : v17 = _ := h17
          change wpList Try.prog _ _ _ _ w1
          have HBW := Lib.hid (Below.trans HB.out (Below.mono hw HB.out.size))
          clear hw
          go_wp2_with fail
          refine calm_normal ?_
          go_wp2_with fail
          exact ⟨⟨k + 1, by go_num, by omega, HX2, HBW.out⟩, by simp [intOf]; omega⟩
      · have pf : lessB (y1, y2, y3) (x1, x2, x3) = false := by simpa using p
        have HK := Lib.hid (cntI_at (by rw [HC.out]; omega) HX.out (fun z hz => by have := HY.out; rw [hz] at this; rw [Option.some.inj this]; exact pf))
        go_upto_region 2 with fail
        by_cases e1 : y1 = x1
        · by_cases e2 : y2 = x2
          · by_cases e3 : y3 = x3
            · have HI := Lib.hid (show true = hasI (x1, x2, x3) l by unfold hasI; rw [HK.out, HY.out, e1, e2, e3]; simp)
              have d1 : (y1 == x1) = true := by simpa using e1
              have d2 : (y2 == x2) = true := by simpa using e2
              have d3 : (y3 == x3) = true := by simpa using e3
              clear e1 e2 e3
              have HLS := Lib.hid (fun w => less_any (y1, y2, y3) (x1, x2, x3) w)
              rw [pf] at HLS
              refine wp_region_rel 18 (Ext wr)
                (fun i => List.getD [VE (.int .i64 (k : Int)), VE (.pointer (some ⟨g, 0, none⟩)), VE (.pointer (some ⟨g, 0, none⟩)), VE (.pointer (some ⟨g, 1, none⟩)), VE (.slice (some ⟨g1, off, none⟩) n c), VE (.int .i64 (n : Int)), VE (.bool true), VE (.bool true), VE (.pointer (some ⟨g, 0, none⟩)), VE (.pointer (some ⟨g, 0, none⟩)), VE (.pointer (some ⟨g, 1, none⟩)), VE (.slice (some ⟨g1, off, none⟩) n c), VE (.int .i64 (k : Int)), VE (.pointer (some ⟨g1, off + k * 3, none⟩)), VE (itV (y1, y2, y3)), VE (itV (x1, x2, x3)), VE (.bool false), VE (.bool false)] i (fun _ _ => False)) [] [0, 1, 2, 3, 5, 6, 7, 8, 9, 10, 12, 13, 17] (by kernel_rfl) (by kernel_rfl) (Ext.start wr) (fun _ _ h hb => h.grow hb)
                (stays_all (stays_cons (stays_VE _) (stays_cons (stays_VE _) (stays_cons (stays_VE _) (stays_cons (stays_VE _) (stays_cons (stays_VE _) (stays_cons (stays_VE _) (stays_cons (stays_VE _) (stays_cons (stays_VE _) (stays_cons (stays_VE _) (stays_cons (stays_VE _) (stays_cons (stays_VE _) (stays_cons (stays_VE _) (stays_cons (stays_VE _) (stays_cons (stays_VE _) (stays_cons (stays_VE _) (stays_cons (stays_VE _) (stays_cons (stays_VE _) (stays_cons (stays_VE _) stays_nil))))))))))))))))))) ⟨?_, ?_, ?_, ?_, ?_, ?_, ?_, ?_, ?_, ?_, ?_, ?_, ?_, ?_, ?_, ?_, ?_, ?_, trivial⟩ ?_
              · intro ev wv hE hw hd
                refine ifw rfl (ifw rfl ?_)
                have v6 : ev (.tmp 6) = .int .i64 (k : Int) := hE.tmp 6 rfl
                refine ⟨.int .i64 (k : Int), fun w => ?_, rfl⟩
                have e1 := hE.const; have e2 := hE.func; clear hE hd hw
                go_simp
              · intro ev wv hE hw hd
                refine ifw rfl (ifw rfl ?_)
                have v0 : ev (.tmp 0) = .pointer (some ⟨g, 0, none⟩) := hE.tmp 0 rfl
                refine ⟨.pointer (some ⟨g, 0, none⟩), fun w => ?_, rfl⟩
                have e1 := hE.const; have e2 := hE.func; clear hE hd hw
                go_simp
              · intro ev wv hE hw hd
                refine ifw rfl (ifw rfl ?_)
                have v8 : ev (.tmp 8) = .pointer (some ⟨g, 0, none⟩) := hd 1 (by decide)
                refine ⟨.pointer (some ⟨g, 0, none⟩), fun w => ?_, rfl⟩
                have e1 := hE.const; have e2 := hE.func; clear hE hd hw
                go_simp
              · intro ev wv hE hw hd
                refine ifw rfl (ifw rfl ?_)
                have v9 : ev (.tmp 9) = .pointer (some ⟨g, 0, none⟩) := hd 2 (by decide)
                refine ⟨.pointer (some ⟨g, 1, none⟩), fun w => ?_, rfl⟩
                have e1 := hE.const; have e2 := hE.func; clear hE hd hw
                go_simp
              · intro ev wv hE hw hd
                refine ifw rfl (ifn rfl ?_)
                have v10 : ev (.tmp 10) = .pointer (some ⟨g, 1, none⟩) := hd 3 (by decide)
                have kt := (Below.cell hw HTR.out.lt).trans HTR.out.s
                refine rel_val (u := .slice (some ⟨g1, off, none⟩) n c) (w' := wv) ?_ (Below.refl _ _) ⟨rfl, fun h => by cases h⟩
                have e1 := hE.const; clear hE hd hw
                go_simp
              · intro ev wv hE hw hd
                refine ifw rfl (ifw rfl ?_)
                have v11 : ev (.tmp 11) = .slice (some ⟨g1, off, none⟩) n c := hd 4 (by decide)
                refine ⟨.int .i64 (n : Int), fun w => ?_, rfl⟩
                have e1 := hE.const; have e2 := hE.func; clear hE hd hw
                go_simp
              · intro ev wv hE hw hd
                refine ifw rfl (ifw rfl ?_)
                have v7 : ev (.tmp 7) = .int .i64 (k : Int) := hd 0 (by decide)
                have v12 : ev (.tmp 12) = .int .i64 (n : Int) := hd 5 (by decide)
                refine ⟨.bool true, fun w => ?_, rfl⟩
                have e1 := hE.const; have e2 := hE.func; clear hE hd hw
                go_simp
              · intro ev wv hE hw hd
                refine ifw rfl (ifw rfl ?_)
                have v13 : ev (.tmp 13) = .bool true := hd 6 (by decide)
                refine ⟨.bool true, fun w => ?_, rfl⟩
                have e1 := hE.const; have e2 := hE.func; clear hE hd hw
                go_simp
              · intro ev wv hE hw hd
                have vg : ev (.tmp 14) = .bool true := hd 7 (by decide)
                refine ifw (by show (yv (ev (.tmp 14)) == some true) = true; rw [vg]; rfl) (ifw rfl ?_)
                clear vg
                have v0 : ev (.tmp 0) = .pointer (some ⟨g, 0, none⟩) := hE.tmp 0 rfl
                refine ⟨.pointer (some ⟨g, 0, none⟩), fun w => ?_, rfl⟩
                have e1 := hE.const; have e2 := hE.func; clear hE hd hw
                go_simp
              · intro ev wv hE hw hd
                have vg : ev (.tmp 14) = .bool true := hd 7 (by decide)
                refine ifw (by show (yv (ev (.tmp 14)) == some true) = true; rw [vg]; rfl) (ifw rfl ?_)
                clear vg
                have v15 : ev (.tmp 15) = .pointer (some ⟨g, 0, none⟩) := hd 8 (by decide)
                refine ⟨.pointer (some ⟨g, 0, none⟩), fun w => ?_, rfl⟩
                have e1 := hE.const; have e2 := hE.func; clear hE hd hw
                go_simp
              · intro ev wv hE hw hd
                have vg : ev (.tmp 14) = .bool true := hd 7 (by decide)
                refine ifw (by show (yv (ev (.tmp 14)) == some true) = true; rw [vg]; rfl) (ifw rfl ?_)
                clear vg
                have v16 : ev (.tmp 16) = .pointer (some ⟨g, 0, none⟩) := hd 9 (by decide)
                refine ⟨.pointer (some ⟨g, 1, none⟩), fun w => ?_, rfl⟩
                have e1 := hE.const; have e2 := hE.func; clear hE hd hw
                go_simp
              · intro ev wv hE hw hd
                have vg : ev (.tmp 14) = .bool true := hd 7 (by decide)
                refine ifw (by show (yv (ev (.tmp 14)) == some true) = true; rw [vg]; rfl) (ifn rfl ?_)
                clear vg
                have v17 : ev (.tmp 17) = .pointer (some ⟨g, 1, none⟩) := hd 10 (by decide)
                have kt := (Below.cell hw HTR.out.lt).trans HTR.out.s
                refine rel_val (u := .slice (some ⟨g1, off, none⟩) n c) (w' := wv) ?_ (Below.refl _ _) ⟨rfl, fun h => by cases h⟩
                have e1 := hE.const; clear hE hd hw
                go_simp
              · intro ev wv hE hw hd
                have vg : ev (.tmp 14) = .bool true := hd 7 (by decide)
                refine ifw (by show (yv (ev (.tmp 14)) == some true) = true; rw [vg]; rfl) (ifw rfl ?_)
                clear vg
                have v6 : ev (.tmp 6) = .int .i64 (k : Int) := hE.tmp 6 rfl
                refine ⟨.int .i64 (k : Int), fun w => ?_, rfl⟩
                have e1 := hE.const; have e2 := hE.func; clear hE hd hw
                go_simp
              · intro ev wv hE hw hd
                have vg : ev (.tmp 14) = .bool true := hd 7 (by decide)
                refine ifw (by show (yv (ev (.tmp 14)) == some true) = true; rw [vg]; rfl) (ifw rfl ?_)
                clear vg
                have v18 : ev (.tmp 18) = .slice (some ⟨g1, off, none⟩) n c := hd 11 (by decide)
                have v19 : ev (.tmp 19) = .int .i64 (k : Int) := hd 12 (by decide)
                refine ⟨.pointer (some ⟨g1, off + k * 3, none⟩), fun w => ?_, rfl⟩
                have e1 := hE.const; have e2 := hE.func; clear hE hd hw
                go_simp
              · intro ev wv hE hw hd
                have vg : ev (.tmp 14) = .bool true := hd 7 (by decide)
                refine ifw (by show (yv (ev (.tmp 14)) == some true) = true; rw [vg]; rfl) (ifn rfl ?_)
                clear vg
                have v20 : ev (.tmp 20) = .pointer (some ⟨g1, off + k * 3, none⟩) := hd 13 (by decide)
                have k0 : wv.cell? ⟨g1, off + k * 3, none⟩ = some (.int .i64 y1) := (Below.cell hw hg1).trans c0
                have k1 : wv.cell? ⟨g1, off + k * 3 + 1, none⟩ = some (.int .i64 y2) := (Below.cell (p := ⟨g1, off + k * 3 + 1, none⟩) hw hg1).trans c1
                have k2 : wv.cell? ⟨g1, off + k * 3 + 2, none⟩ = some (.int .i64 y3) := (Below.cell (p := ⟨g1, off + k * 3 + 2, none⟩) hw hg1).trans c2
                refine rel_val (u := itV (y1, y2, y3)) (w' := wv) ?_ (Below.refl _ _) ⟨rfl, fun h => by cases h⟩
                have e1 := hE.const; clear hE hd hw
                go_simp
              · intro ev wv hE hw hd
                have vg : ev (.tmp 14) = .bool true := hd 7 (by decide)
                refine ifw (by show (yv (ev (.tmp 14)) == some true) = true; rw [vg]; rfl) (ifn rfl ?_)
                clear vg
                have v3 : ev (.tmp 3) = .pointer (some ⟨w.heap.size, 0, none⟩) := hE.tmp 3 rfl
                have HBV := (HBX.out.keep HB.out).keep hw
                have k0 := HBV.get 0 rfl
                have k1 := HBV.get 1 rfl
                have k2 := HBV.get 2 rfl
                refine rel_val (u := itV (x1, x2, x3)) (w' := wv) ?_ (Below.refl _ _) ⟨rfl, fun h => by cases h⟩
                have e1 := hE.const; clear hE hd hw
                go_simp
              · intro ev wv hE hw hd
                have vg : ev (.tmp 14) = .bool true := hd 7 (by decide)
                refine ifw (by show (yv (ev (.tmp 14)) == some true) = true; rw [vg]; rfl) (ifn rfl ?_)
                clear vg
                have v21 : ev (.tmp 21) = itV (y1, y2, y3) := hd 14 (by decide)
                have v22 : ev (.tmp 22) = itV (x1, x2, x3) := hd 15 (by decide)
                refine rel_call (f := 33) (args := #[itV (y1, y2, y3), itV (x1, x2, x3)]) ?_ (HLS.out _) ?_
                · have e0 := hE.func; have e1 := hE.const; clear hE hd hw
                  go_simp
                · rintro e w' ⟨rfl, hb⟩
                  exact ⟨_, rfl, hb, rfl, fun h => by cases h⟩
              · intro ev wv hE hw hd
                refine ifw rfl (ifw rfl ?_)
                have v14 : ev (.tmp 14) = .bool true := hd 7 (by decide)
                have v23 : ev (.tmp 23) = .bool false := hd 16 (by decide)
                refine ⟨.bool false, fun w => ?_, rfl⟩
                have e1 := hE.const; have e2 := hE.func; clear hE hd hw
                go_simp
              · intro w1 hw
                intro v0 h0 _ v1 h1 _ v2 h2 _ v3 h3 _ v4 h4 _ v5 h5 _ v6 h6 _ v7 h7 _ v8 h8 _ v9 h9 _ v10 h10 _ v11 h11 _ v12 h12 _ v13 h13 _ v14 h14 _ v15 h15 _ v16 h16 _ v17 h17 _
                simp only [Act.put, List.setIfInBounds_toArray, List.set_cons_zero, List.set_cons_succ, List.drop_succ_cons, List.drop_zero]
                obtain rfl : v0 = _ := h0
                obtain rfl : v1 = _ := h1
                obtain rfl : v2 = _ := h2
                obtain rfl : v3 = _ := h3
                obtain rfl : v4 = _ := h4
                obtain rfl : v5 = _ := h5
                obtain rfl : v6 = _ := h6
                obtain rfl : v7 = _ := h7
                obtain rfl : v8 = _ := h8
                obtain rfl : v9 = _ := h9
                obtain rfl : v10 = _ := h10
                obtain rfl : v11 = _ := h11
                obtain rfl : v12 = _ := h12
                obtain rfl : v13 = _ := h13
                obtain rfl : v14 = _ := h14
                obtain rfl : v15 = _ := h15
                obtain rfl : v16 = _ := h16
                obtain rfl : v17 = _ := h17
                change wpList Try.prog _ _ _ _ w1
                have HTQ := Lib.hid (HTR.out.keep hw)
                have HBQ := Lib.hid (HBE.out.trans (Below.mono hw HBE.out.size))
                have HBBQ := ((HBX.out.keep HB.out).keep hw)
                have q0 := HBBQ.get 0 rfl
                have q1 := HBBQ.get 1 rfl
                have q2 := HBBQ.get 2 rfl
                have qT := HTQ.out.s
                have r0 := (Below.cell hw hg1).trans c0
                have r1 := (Below.cell (p := ⟨g1, off + k * 3 + 1, none⟩) hw hg1).trans c1
                have r2 := (Below.cell (p := ⟨g1, off + k * 3 + 2, none⟩) hw hg1).trans c2
                clear c0 c1 c2
                clear hw HBBQ b0 b1 b2 cT
                go_wp2_with fail
                refine calm_normal ?_
                go_upto_region 4 with fail
                go_quiet (fail)
                go_wp2_with fail
                go_ret2
                exact ⟨ret_ib' (by rw [HK.out]) HI.out, HBQ.out.trans (Joins.below_draws _ _ _)⟩
            · have HI := Lib.hid (show false = hasI (x1, x2, x3) l by unfold hasI; rw [HK.out, HY.out]; symm; rw [decide_eq_false_iff_not]; intro h; injection h with h; injection h with h1 h; injection h with h2 h3; exact e3 h3)
              have dq : (y3 == x3) = false := by simpa using e3
              have d1 : (y1 == x1) = true := by simpa using e1
              have d2 : (y2 == x2) = true := by simpa using e2
              clear e1 e2 e3
              have HLS := Lib.hid (fun w => less_any (y1, y2, y3) (x1, x2, x3) w)
              rw [pf] at HLS
              refine wp_region_rel 18 (Ext wr)
                (fun i => List.getD [VE (.int .i64 (k : Int)), VE (.pointer (some ⟨g, 0, none⟩)), VE (.pointer (some ⟨g, 0, none⟩)), VE (.pointer (some ⟨g, 1, none⟩)), VE (.slice (some ⟨g1, off, none⟩) n c), VE (.int .i64 (n : Int)), VE (.bool true), VE (.bool true), VE (.pointer (some ⟨g, 0, none⟩)), VE (.pointer (some ⟨g, 0, none⟩)), VE (.pointer (some ⟨g, 1, none⟩)), VE (.slice (some ⟨g1, off, none⟩) n c), VE (.int .i64 (k : Int)), VE (.pointer (some ⟨g1, off + k * 3, none⟩)), VE (itV (y1, y2, y3)), VE (itV (x1, x2, x3)), VE (.bool false), VE (.bool false)] i (fun _ _ => False)) [] [0, 1, 2, 3, 5, 6, 7, 8, 9, 10, 12, 13, 17] (by kernel_rfl) (by kernel_rfl) (Ext.start wr) (fun _ _ h hb => h.grow hb)
                (stays_all (stays_cons (stays_VE _) (stays_cons (stays_VE _) (stays_cons (stays_VE _) (stays_cons (stays_VE _) (stays_cons (stays_VE _) (stays_cons (stays_VE _) (stays_cons (stays_VE _) (stays_cons (stays_VE _) (stays_cons (stays_VE _) (stays_cons (stays_VE _) (stays_cons (stays_VE _) (stays_cons (stays_VE _) (stays_cons (stays_VE _) (stays_cons (stays_VE _) (stays_cons (stays_VE _) (stays_cons (stays_VE _) (stays_cons (stays_VE _) (stays_cons (stays_VE _) stays_nil))))))))))))))))))) ⟨?_, ?_, ?_, ?_, ?_, ?_, ?_, ?_, ?_, ?_, ?_, ?_, ?_, ?_, ?_, ?_, ?_, ?_, trivial⟩ ?_
              · intro ev wv hE hw hd
                refine ifw rfl (ifw rfl ?_)
                have v6 : ev (.tmp 6) = .int .i64 (k : Int) := hE.tmp 6 rfl
                refine ⟨.int .i64 (k : Int), fun w => ?_, rfl⟩
                have e1 := hE.const; have e2 := hE.func; clear hE hd hw
                go_simp
              · intro ev wv hE hw hd
                refine ifw rfl (ifw rfl ?_)
                have v0 : ev (.tmp 0) = .pointer (some ⟨g, 0, none⟩) := hE.tmp 0 rfl
                refine ⟨.pointer (some ⟨g, 0, none⟩), fun w => ?_, rfl⟩
                have e1 := hE.const; have e2 := hE.func; clear hE hd hw
                go_simp
              · intro ev wv hE hw hd
                refine ifw rfl (ifw rfl ?_)
                have v8 : ev (.tmp 8) = .pointer (some ⟨g, 0, none⟩) := hd 1 (by decide)
                refine ⟨.pointer (some ⟨g, 0, none⟩), fun w => ?_, rfl⟩
                have e1 := hE.const; have e2 := hE.func; clear hE hd hw
                go_simp
              · intro ev wv hE hw hd
                refine ifw rfl (ifw rfl ?_)
                have v9 : ev (.tmp 9) = .pointer (some ⟨g, 0, none⟩) := hd 2 (by decide)
                refine ⟨.pointer (some ⟨g, 1, none⟩), fun w => ?_, rfl⟩
                have e1 := hE.const; have e2 := hE.func; clear hE hd hw
                go_simp
              · intro ev wv hE hw hd
                refine ifw rfl (ifn rfl ?_)
                have v10 : ev (.tmp 10) = .pointer (some ⟨g, 1, none⟩) := hd 3 (by decide)
                have kt := (Below.cell hw HTR.out.lt).trans HTR.out.s
                refine rel_val (u := .slice (some ⟨g1, off, none⟩) n c) (w' := wv) ?_ (Below.refl _ _) ⟨rfl, fun h => by cases h⟩
                have e1 := hE.const; clear hE hd hw
                go_simp
              · intro ev wv hE hw hd
                refine ifw rfl (ifw rfl ?_)
                have v11 : ev (.tmp 11) = .slice (some ⟨g1, off, none⟩) n c := hd 4 (by decide)
                refine ⟨.int .i64 (n : Int), fun w => ?_, rfl⟩
                have e1 := hE.const; have e2 := hE.func; clear hE hd hw
                go_simp
              · intro ev wv hE hw hd
                refine ifw rfl (ifw rfl ?_)
                have v7 : ev (.tmp 7) = .int .i64 (k : Int) := hd 0 (by decide)
                have v12 : ev (.tmp 12) = .int .i64 (n : Int) := hd 5 (by decide)
                refine ⟨.bool true, fun w => ?_, rfl⟩
                have e1 := hE.const; have e2 := hE.func; clear hE hd hw
                go_simp
              · intro ev wv hE hw hd
                refine ifw rfl (ifw rfl ?_)
                have v13 : ev (.tmp 13) = .bool true := hd 6 (by decide)
                refine ⟨.bool true, fun w => ?_, rfl⟩
                have e1 := hE.const; have e2 := hE.func; clear hE hd hw
                go_simp
              · intro ev wv hE hw hd
                have vg : ev (.tmp 14) = .bool true := hd 7 (by decide)
                refine ifw (by show (yv (ev (.tmp 14)) == some true) = true; rw [vg]; rfl) (ifw rfl ?_)
                clear vg
                have v0 : ev (.tmp 0) = .pointer (some ⟨g, 0, none⟩) := hE.tmp 0 rfl
                refine ⟨.pointer (some ⟨g, 0, none⟩), fun w => ?_, rfl⟩
                have e1 := hE.const; have e2 := hE.func; clear hE hd hw
                go_simp
              · intro ev wv hE hw hd
                have vg : ev (.tmp 14) = .bool true := hd 7 (by decide)
                refine ifw (by show (yv (ev (.tmp 14)) == some true) = true; rw [vg]; rfl) (ifw rfl ?_)
                clear vg
                have v15 : ev (.tmp 15) = .pointer (some ⟨g, 0, none⟩) := hd 8 (by decide)
                refine ⟨.pointer (some ⟨g, 0, none⟩), fun w => ?_, rfl⟩
                have e1 := hE.const; have e2 := hE.func; clear hE hd hw
                go_simp
              · intro ev wv hE hw hd
                have vg : ev (.tmp 14) = .bool true := hd 7 (by decide)
                refine ifw (by show (yv (ev (.tmp 14)) == some true) = true; rw [vg]; rfl) (ifw rfl ?_)
                clear vg
                have v16 : ev (.tmp 16) = .pointer (some ⟨g, 0, none⟩) := hd 9 (by decide)
                refine ⟨.pointer (some ⟨g, 1, none⟩), fun w => ?_, rfl⟩
                have e1 := hE.const; have e2 := hE.func; clear hE hd hw
                go_simp
              · intro ev wv hE hw hd
                have vg : ev (.tmp 14) = .bool true := hd 7 (by decide)
                refine ifw (by show (yv (ev (.tmp 14)) == some true) = true; rw [vg]; rfl) (ifn rfl ?_)
                clear vg
                have v17 : ev (.tmp 17) = .pointer (some ⟨g, 1, none⟩) := hd 10 (by decide)
                have kt := (Below.cell hw HTR.out.lt).trans HTR.out.s
                refine rel_val (u := .slice (some ⟨g1, off, none⟩) n c) (w' := wv) ?_ (Below.refl _ _) ⟨rfl, fun h => by cases h⟩
                have e1 := hE.const; clear hE hd hw
                go_simp
              · intro ev wv hE hw hd
                have vg : ev (.tmp 14) = .bool true := hd 7 (by decide)
                refine ifw (by show (yv (ev (.tmp 14)) == some true) = true; rw [vg]; rfl) (ifw rfl ?_)
                clear vg
                have v6 : ev (.tmp 6) = .int .i64 (k : Int) := hE.tmp 6 rfl
                refine ⟨.int .i64 (k : Int), fun w => ?_, rfl⟩
                have e1 := hE.const; have e2 := hE.func; clear hE hd hw
                go_simp
              · intro ev wv hE hw hd
                have vg : ev (.tmp 14) = .bool true := hd 7 (by decide)
                refine ifw (by show (yv (ev (.tmp 14)) == some true) = true; rw [vg]; rfl) (ifw rfl ?_)
                clear vg
                have v18 : ev (.tmp 18) = .slice (some ⟨g1, off, none⟩) n c := hd 11 (by decide)
                have v19 : ev (.tmp 19) = .int .i64 (k : Int) := hd 12 (by decide)
                refine ⟨.pointer (some ⟨g1, off + k * 3, none⟩), fun w => ?_, rfl⟩
                have e1 := hE.const; have e2 := hE.func; clear hE hd hw
                go_simp
              · intro ev wv hE hw hd
                have vg : ev (.tmp 14) = .bool true := hd 7 (by decide)
                refine ifw (by show (yv (ev (.tmp 14)) == some true) = true; rw [vg]; rfl) (ifn rfl ?_)
                clear vg
                have v20 : ev (.tmp 20) = .pointer (some ⟨g1, off + k * 3, none⟩) := hd 13 (by decide)
                have k0 : wv.cell? ⟨g1, off + k * 3, none⟩ = some (.int .i64 y1) := (Below.cell hw hg1).trans c0
                have k1 : wv.cell? ⟨g1, off + k * 3 + 1, none⟩ = some (.int .i64 y2) := (Below.cell (p := ⟨g1, off + k * 3 + 1, none⟩) hw hg1).trans c1
                have k2 : wv.cell? ⟨g1, off + k * 3 + 2, none⟩ = some (.int .i64 y3) := (Below.cell (p := ⟨g1, off + k * 3 + 2, none⟩) hw hg1).trans c2
                refine rel_val (u := itV (y1, y2, y3)) (w' := wv) ?_ (Below.refl _ _) ⟨rfl, fun h => by cases h⟩
                have e1 := hE.const; clear hE hd hw
                go_simp
              · intro ev wv hE hw hd
                have vg : ev (.tmp 14) = .bool true := hd 7 (by decide)
                refine ifw (by show (yv (ev (.tmp 14)) == some true) = true; rw [vg]; rfl) (ifn rfl ?_)
                clear vg
                have v3 : ev (.tmp 3) = .pointer (some ⟨w.heap.size, 0, none⟩) := hE.tmp 3 rfl
                have HBV := (HBX.out.keep HB.out).keep hw
                have k0 := HBV.get 0 rfl
                have k1 := HBV.get 1 rfl
                have k2 := HBV.get 2 rfl
                refine rel_val (u := itV (x1, x2, x3)) (w' := wv) ?_ (Below.refl _ _) ⟨rfl, fun h => by cases h⟩
                have e1 := hE.const; clear hE hd hw
                go_simp
              · intro ev wv hE hw hd
                have vg : ev (.tmp 14) = .bool true := hd 7 (by decide)
                refine ifw (by show (yv (ev (.tmp 14)) == some true) = true; rw [vg]; rfl) (ifn rfl ?_)
                clear vg
                have v21 : ev (.tmp 21) = itV (y1, y2, y3) := hd 14 (by decide)
                have v22 : ev (.tmp 22) = itV (x1, x2, x3) := hd 15 (by decide)
                refine rel_call (f := 33) (args := #[itV (y1, y2, y3), itV (x1, x2, x3)]) ?_ (HLS.out _) ?_
                · have e0 := hE.func; have e1 := hE.const; clear hE hd hw
                  go_simp
                · rintro e w' ⟨rfl, hb⟩
                  exact ⟨_, rfl, hb, rfl, fun h => by cases h⟩
              · intro ev wv hE hw hd
                refine ifw rfl (ifw rfl ?_)
                have v14 : ev (.tmp 14) = .bool true := hd 7 (by decide)
                have v23 : ev (.tmp 23) = .bool false := hd 16 (by decide)
                refine ⟨.bool false, fun w => ?_, rfl⟩
                have e1 := hE.const; have e2 := hE.func; clear hE hd hw
                go_simp
              · intro w1 hw
                intro v0 h0 _ v1 h1 _ v2 h2 _ v3 h3 _ v4 h4 _ v5 h5 _ v6 h6 _ v7 h7 _ v8 h8 _ v9 h9 _ v10 h10 _ v11 h11 _ v12 h12 _ v13 h13 _ v14 h14 _ v15 h15 _ v16 h16 _ v17 h17 _
                simp only [Act.put, List.setIfInBounds_toArray, List.set_cons_zero, List.set_cons_succ, List.drop_succ_cons, List.drop_zero]
                obtain rfl : v0 = _ := h0
                obtain rfl : v1 = _ := h1
                obtain rfl : v2 = _ := h2
                obtain rfl : v3 = _ := h3
                obtain rfl : v4 = _ := h4
                obtain rfl : v5 = _ := h5
                obtain rfl : v6 = _ := h6
                obtain rfl : v7 = _ := h7
                obtain rfl : v8 = _ := h8
                obtain rfl : v9 = _ := h9
                obtain rfl : v10 = _ := h10
                obtain rfl : v11 = _ := h11
                obtain rfl : v12 = _ := h12
                obtain rfl : v13 = _ := h13
                obtain rfl : v14 = _ := h14
                obtain rfl : v15 = _ := h15
                obtain rfl : v16 = _ := h16
                obtain rfl : v17 = _ := h17
                change wpList Try.prog _ _ _ _ w1
                have HTQ := Lib.hid (HTR.out.keep hw)
                have HBQ := Lib.hid (HBE.out.trans (Below.mono hw HBE.out.size))
                have HBBQ := ((HBX.out.keep HB.out).keep hw)
                have q0 := HBBQ.get 0 rfl
                have q1 := HBBQ.get 1 rfl
                have q2 := HBBQ.get 2 rfl
                have qT := HTQ.out.s
                have r0 := (Below.cell hw hg1).trans c0
                have r1 := (Below.cell (p := ⟨g1, off + k * 3 + 1, none⟩) hw hg1).trans c1
                have r2 := (Below.cell (p := ⟨g1, off + k * 3 + 2, none⟩) hw hg1).trans c2
                clear c0 c1 c2
                clear hw HBBQ b0 b1 b2 cT
                go_wp2_with fail
                refine calm_normal ?_
                go_upto_region 4 with fail
                go_quiet (fail)
                go_wp2_with fail
                go_ret2
                exact ⟨ret_ib' (by rw [HK.out]) HI.out, HBQ.out.trans (Joins.below_draws _ _ _)⟩
          · have HI := Lib.hid (show false = hasI (x1, x2, x3) l by unfold hasI; rw [HK.out, HY.out]; symm; rw [decide_eq_false_iff_not]; intro h; injection h with h; injection h with h1 h; injection h with h2 h3; exact e2 h2)
            have dq : (y2 == x2) = false := by simpa using e2
            have d1 : (y1 == x1) = true := by simpa using e1
            clear e1 e2
            have HLS := Lib.hid (fun w => less_any (y1, y2, y3) (x1, x2, x3) w)
            rw [pf] at HLS
            refine wp_region_rel 18 (Ext wr)
              (fun i => List.getD [VE (.int .i64 (k : Int)), VE (.pointer (some ⟨g, 0, none⟩)), VE (.pointer (some ⟨g, 0, none⟩)), VE (.pointer (some ⟨g, 1, none⟩)), VE (.slice (some ⟨g1, off, none⟩) n c), VE (.int .i64 (n : Int)), VE (.bool true), VE (.bool true), VE (.pointer (some ⟨g, 0, none⟩)), VE (.pointer (some ⟨g, 0, none⟩)), VE (.pointer (some ⟨g, 1, none⟩)), VE (.slice (some ⟨g1, off, none⟩) n c), VE (.int .i64 (k : Int)), VE (.pointer (some ⟨g1, off + k * 3, none⟩)), VE (itV (y1, y2, y3)), VE (itV (x1, x2, x3)), VE (.bool false), VE (.bool false)] i (fun _ _ => False)) [] [0, 1, 2, 3, 5, 6, 7, 8, 9, 10, 12, 13, 17] (by kernel_rfl) (by kernel_rfl) (Ext.start wr) (fun _ _ h hb => h.grow hb)
              (stays_all (stays_cons (stays_VE _) (stays_cons (stays_VE _) (stays_cons (stays_VE _) (stays_cons (stays_VE _) (stays_cons (stays_VE _) (stays_cons (stays_VE _) (stays_cons (stays_VE _) (stays_cons (stays_VE _) (stays_cons (stays_VE _) (stays_cons (stays_VE _) (stays_cons (stays_VE _) (stays_cons (stays_VE _) (stays_cons (stays_VE _) (stays_cons (stays_VE _) (stays_cons (stays_VE _) (stays_cons (stays_VE _) (stays_cons (stays_VE _) (stays_cons (stays_VE _) stays_nil))))))))))))))))))) ⟨?_, ?_, ?_, ?_, ?_, ?_, ?_, ?_, ?_, ?_, ?_, ?_, ?_, ?_, ?_, ?_, ?_, ?_, trivial⟩ ?_
            · intro ev wv hE hw hd
              refine ifw rfl (ifw rfl ?_)
              have v6 : ev (.tmp 6) = .int .i64 (k : Int) := hE.tmp 6 rfl
              refine ⟨.int .i64 (k : Int), fun w => ?_, rfl⟩
              have e1 := hE.const; have e2 := hE.func; clear hE hd hw
              go_simp
            · intro ev wv hE hw hd
              refine ifw rfl (ifw rfl ?_)
              have v0 : ev (.tmp 0) = .pointer (some ⟨g, 0, none⟩) := hE.tmp 0 rfl
              refine ⟨.pointer (some ⟨g, 0, none⟩), fun w => ?_, rfl⟩
              have e1 := hE.const; have e2 := hE.func; clear hE hd hw
              go_simp
            · intro ev wv hE hw hd
              refine ifw rfl (ifw rfl ?_)
              have v8 : ev (.tmp 8) = .pointer (some ⟨g, 0, none⟩) := hd 1 (by decide)
              refine ⟨.pointer (some ⟨g, 0, none⟩), fun w => ?_, rfl⟩
              have e1 := hE.const; have e2 := hE.func; clear hE hd hw
              go_simp
            · intro ev wv hE hw hd
              refine ifw rfl (ifw rfl ?_)
              have v9 : ev (.tmp 9) = .pointer (some ⟨g, 0, none⟩) := hd 2 (by decide)
              refine ⟨.pointer (some ⟨g, 1, none⟩), fun w => ?_, rfl⟩
              have e1 := hE.const; have e2 := hE.func; clear hE hd hw
              go_simp
            · intro ev wv hE hw hd
              refine ifw rfl (ifn rfl ?_)
              have v10 : ev (.tmp 10) = .pointer (some ⟨g, 1, none⟩) := hd 3 (by decide)
              have kt := (Below.cell hw HTR.out.lt).trans HTR.out.s
              refine rel_val (u := .slice (some ⟨g1, off, none⟩) n c) (w' := wv) ?_ (Below.refl _ _) ⟨rfl, fun h => by cases h⟩
              have e1 := hE.const; clear hE hd hw
              go_simp
            · intro ev wv hE hw hd
              refine ifw rfl (ifw rfl ?_)
              have v11 : ev (.tmp 11) = .slice (some ⟨g1, off, none⟩) n c := hd 4 (by decide)
              refine ⟨.int .i64 (n : Int), fun w => ?_, rfl⟩
              have e1 := hE.const; have e2 := hE.func; clear hE hd hw
              go_simp
            · intro ev wv hE hw hd
              refine ifw rfl (ifw rfl ?_)
              have v7 : ev (.tmp 7) = .int .i64 (k : Int) := hd 0 (by decide)
              have v12 : ev (.tmp 12) = .int .i64 (n : Int) := hd 5 (by decide)
              refine ⟨.bool true, fun w => ?_, rfl⟩
              have e1 := hE.const; have e2 := hE.func; clear hE hd hw
              go_simp
            · intro ev wv hE hw hd
              refine ifw rfl (ifw rfl ?_)
              have v13 : ev (.tmp 13) = .bool true := hd 6 (by decide)
              refine ⟨.bool true, fun w => ?_, rfl⟩
              have e1 := hE.const; have e2 := hE.func; clear hE hd hw
              go_simp
            · intro ev wv hE hw hd
              have vg : ev (.tmp 14) = .bool true := hd 7 (by decide)
              refine ifw (by show (yv (ev (.tmp 14)) == some true) = true; rw [vg]; rfl) (ifw rfl ?_)
              clear vg
              have v0 : ev (.tmp 0) = .pointer (some ⟨g, 0, none⟩) := hE.tmp 0 rfl
              refine ⟨.pointer (some ⟨g, 0, none⟩), fun w => ?_, rfl⟩
              have e1 := hE.const; have e2 := hE.func; clear hE hd hw
              go_simp
            · intro ev wv hE hw hd
              have vg : ev (.tmp 14) = .bool true := hd 7 (by decide)
              refine ifw (by show (yv (ev (.tmp 14)) == some true) = true; rw [vg]; rfl) (ifw rfl ?_)
              clear vg
              have v15 : ev (.tmp 15) = .pointer (some ⟨g, 0, none⟩) := hd 8 (by decide)
              refine ⟨.pointer (some ⟨g, 0, none⟩), fun w => ?_, rfl⟩
              have e1 := hE.const; have e2 := hE.func; clear hE hd hw
              go_simp
            · intro ev wv hE hw hd
              have vg : ev (.tmp 14) = .bool true := hd 7 (by decide)
              refine ifw (by show (yv (ev (.tmp 14)) == some true) = true; rw [vg]; rfl) (ifw rfl ?_)
              clear vg
              have v16 : ev (.tmp 16) = .pointer (some ⟨g, 0, none⟩) := hd 9 (by decide)
              refine ⟨.pointer (some ⟨g, 1, none⟩), fun w => ?_, rfl⟩
              have e1 := hE.const; have e2 := hE.func; clear hE hd hw
              go_simp
            · intro ev wv hE hw hd
              have vg : ev (.tmp 14) = .bool true := hd 7 (by decide)
              refine ifw (by show (yv (ev (.tmp 14)) == some true) = true; rw [vg]; rfl) (ifn rfl ?_)
              clear vg
              have v17 : ev (.tmp 17) = .pointer (some ⟨g, 1, none⟩) := hd 10 (by decide)
              have kt := (Below.cell hw HTR.out.lt).trans HTR.out.s
              refine rel_val (u := .slice (some ⟨g1, off, none⟩) n c) (w' := wv) ?_ (Below.refl _ _) ⟨rfl, fun h => by cases h⟩
              have e1 := hE.const; clear hE hd hw
              go_simp
            · intro ev wv hE hw hd
              have vg : ev (.tmp 14) = .bool true := hd 7 (by decide)
              refine ifw (by show (yv (ev (.tmp 14)) == some true) = true; rw [vg]; rfl) (ifw rfl ?_)
              clear vg
              have v6 : ev (.tmp 6) = .int .i64 (k : Int) := hE.tmp 6 rfl
              refine ⟨.int .i64 (k : Int), fun w => ?_, rfl⟩
              have e1 := hE.const; have e2 := hE.func; clear hE hd hw
              go_simp
            · intro ev wv hE hw hd
              have vg : ev (.tmp 14) = .bool true := hd 7 (by decide)
              refine ifw (by show (yv (ev (.tmp 14)) == some true) = true; rw [vg]; rfl) (ifw rfl ?_)
              clear vg
              have v18 : ev (.tmp 18) = .slice (some ⟨g1, off, none⟩) n c := hd 11 (by decide)
              have v19 : ev (.tmp 19) = .int .i64 (k : Int) := hd 12 (by decide)
              refine ⟨.pointer (some ⟨g1, off + k * 3, none⟩), fun w => ?_, rfl⟩
              have e1 := hE.const; have e2 := hE.func; clear hE hd hw
              go_simp
            · intro ev wv hE hw hd
              have vg : ev (.tmp 14) = .bool true := hd 7 (by decide)
              refine ifw (by show (yv (ev (.tmp 14)) == some true) = true; rw [vg]; rfl) (ifn rfl ?_)
              clear vg
              have v20 : ev (.tmp 20) = .pointer (some ⟨g1, off + k * 3, none⟩) := hd 13 (by decide)
              have k0 : wv.cell? ⟨g1, off + k * 3, none⟩ = some (.int .i64 y1) := (Below.cell hw hg1).trans c0
              have k1 : wv.cell? ⟨g1, off + k * 3 + 1, none⟩ = some (.int .i64 y2) := (Below.cell (p := ⟨g1, off + k * 3 + 1, none⟩) hw hg1).trans c1
              have k2 : wv.cell? ⟨g1, off + k * 3 + 2, none⟩ = some (.int .i64 y3) := (Below.cell (p := ⟨g1, off + k * 3 + 2, none⟩) hw hg1).trans c2
              refine rel_val (u := itV (y1, y2, y3)) (w' := wv) ?_ (Below.refl _ _) ⟨rfl, fun h => by cases h⟩
              have e1 := hE.const; clear hE hd hw
              go_simp
            · intro ev wv hE hw hd
              have vg : ev (.tmp 14) = .bool true := hd 7 (by decide)
              refine ifw (by show (yv (ev (.tmp 14)) == some true) = true; rw [vg]; rfl) (ifn rfl ?_)
              clear vg
              have v3 : ev (.tmp 3) = .pointer (some ⟨w.heap.size, 0, none⟩) := hE.tmp 3 rfl
              have HBV := (HBX.out.keep HB.out).keep hw
              have k0 := HBV.get 0 rfl
              have k1 := HBV.get 1 rfl
              have k2 := HBV.get 2 rfl
              refine rel_val (u := itV (x1, x2, x3)) (w' := wv) ?_ (Below.refl _ _) ⟨rfl, fun h => by cases h⟩
              have e1 := hE.const; clear hE hd hw
              go_simp
            · intro ev wv hE hw hd
              have vg : ev (.tmp 14) = .bool true := hd 7 (by decide)
              refine ifw (by show (yv (ev (.tmp 14)) == some true) = true; rw [vg]; rfl) (ifn rfl ?_)
              clear vg
              have v21 : ev (.tmp 21) = itV (y1, y2, y3) := hd 14 (by decide)
              have v22 : ev (.tmp 22) = itV (x1, x2, x3) := hd 15 (by decide)
              refine rel_call (f := 33) (args := #[itV (y1, y2, y3), itV (x1, x2, x3)]) ?_ (HLS.out _) ?_
              · have e0 := hE.func; have e1 := hE.const; clear hE hd hw
                go_simp
              · rintro e w' ⟨rfl, hb⟩
                exact ⟨_, rfl, hb, rfl, fun h => by cases h⟩
            · intro ev wv hE hw hd
              refine ifw rfl (ifw rfl ?_)
              have v14 : ev (.tmp 14) = .bool true := hd 7 (by decide)
              have v23 : ev (.tmp 23) = .bool false := hd 16 (by decide)
              refine ⟨.bool false, fun w => ?_, rfl⟩
              have e1 := hE.const; have e2 := hE.func; clear hE hd hw
              go_simp
            · intro w1 hw
              intro v0 h0 _ v1 h1 _ v2 h2 _ v3 h3 _ v4 h4 _ v5 h5 _ v6 h6 _ v7 h7 _ v8 h8 _ v9 h9 _ v10 h10 _ v11 h11 _ v12 h12 _ v13 h13 _ v14 h14 _ v15 h15 _ v16 h16 _ v17 h17 _
              simp only [Act.put, List.setIfInBounds_toArray, List.set_cons_zero, List.set_cons_succ, List.drop_succ_cons, List.drop_zero]
              obtain rfl : v0 = _ := h0
              obtain rfl : v1 = _ := h1
              obtain rfl : v2 = _ := h2
              obtain rfl : v3 = _ := h3
              obtain rfl : v4 = _ := h4
              obtain rfl : v5 = _ := h5
              obtain rfl : v6 = _ := h6
              obtain rfl : v7 = _ := h7
              obtain rfl : v8 = _ := h8
              obtain rfl : v9 = _ := h9
              obtain rfl : v10 = _ := h10
              obtain rfl : v11 = _ := h11
              obtain rfl : v12 = _ := h12
              obtain rfl : v13 = _ := h13
              obtain rfl : v14 = _ := h14
              obtain rfl : v15 = _ := h15
              obtain rfl : v16 = _ := h16
              obtain rfl : v17 = _ := h17
              change wpList Try.prog _ _ _ _ w1
              have HTQ := Lib.hid (HTR.out.keep hw)
              have HBQ := Lib.hid (HBE.out.trans (Below.mono hw HBE.out.size))
              have HBBQ := ((HBX.out.keep HB.out).keep hw)
              have q0 := HBBQ.get 0 rfl
              have q1 := HBBQ.get 1 rfl
              have q2 := HBBQ.get 2 rfl
              have qT := HTQ.out.s
              have r0 := (Below.cell hw hg1).trans c0
              have r1 := (Below.cell (p := ⟨g1, off + k * 3 + 1, none⟩) hw hg1).trans c1
              have r2 := (Below.cell (p := ⟨g1, off + k * 3 + 2, none⟩) hw hg1).trans c2
              clear c0 c1 c2
              clear hw HBBQ b0 b1 b2 cT
              go_wp2_with fail
              refine calm_normal ?_
              go_upto_region 4 with fail
              go_quiet (fail)
              go_wp2_with fail
              go_ret2
              exact ⟨ret_ib' (by rw [HK.out]) HI.out, HBQ.out.trans (Joins.below_draws _ _ _)⟩
        · have HI := Lib.hid (show false = hasI (x1, x2, x3) l by unfold hasI; rw [HK.out, HY.out]; symm; rw [decide_eq_false_iff_not]; intro h; injection h with h; injection h with h1 h; injection h with h2 h3; exact e1 h1)
          have dq : (y1 == x1) = false := by simpa using e1
          clear e1
          have HLS := Lib.hid (fun w => less_any (y1, y2, y3) (x1, x2, x3) w)
          rw [pf] at HLS
          refine wp_region_rel 18 (Ext wr)
            (fun i => List.getD [VE (.int .i64 (k : Int)), VE (.pointer (some ⟨g, 0, none⟩)), VE (.pointer (some ⟨g, 0, none⟩)), VE (.pointer (some ⟨g, 1, none⟩)), VE (.slice (some ⟨g1, off, none⟩) n c), VE (.int .i64 (n : Int)), VE (.bool true), VE (.bool true), VE (.pointer (some ⟨g, 0, none⟩)), VE (.pointer (some ⟨g, 0, none⟩)), VE (.pointer (some ⟨g, 1, none⟩)), VE (.slice (some ⟨g1, off, none⟩) n c), VE (.int .i64 (k : Int)), VE (.pointer (some ⟨g1, off + k * 3, none⟩)), VE (itV (y1, y2, y3)), VE (itV (x1, x2, x3)), VE (.bool false), VE (.bool false)] i (fun _ _ => False)) [] [0, 1, 2, 3, 5, 6, 7, 8, 9, 10, 12, 13, 17] (by kernel_rfl) (by kernel_rfl) (Ext.start wr) (fun _ _ h hb => h.grow hb)
            (stays_all (stays_cons (stays_VE _) (stays_cons (stays_VE _) (stays_cons (stays_VE _) (stays_cons (stays_VE _) (stays_cons (stays_VE _) (stays_cons (stays_VE _) (stays_cons (stays_VE _) (stays_cons (stays_VE _) (stays_cons (stays_VE _) (stays_cons (stays_VE _) (stays_cons (stays_VE _) (stays_cons (stays_VE _) (stays_cons (stays_VE _) (stays_cons (stays_VE _) (stays_cons (stays_VE _) (stays_cons (stays_VE _) (stays_cons (stays_VE _) (stays_cons (stays_VE _) stays_nil))))))))))))))))))) ⟨?_, ?_, ?_, ?_, ?_, ?_, ?_, ?_, ?_, ?_, ?_, ?_, ?_, ?_, ?_, ?_, ?_, ?_, trivial⟩ ?_
          · intro ev wv hE hw hd
            refine ifw rfl (ifw rfl ?_)
            have v6 : ev (.tmp 6) = .int .i64 (k : Int) := hE.tmp 6 rfl
            refine ⟨.int .i64 (k : Int), fun w => ?_, rfl⟩
            have e1 := hE.const; have e2 := hE.func; clear hE hd hw
            go_simp
          · intro ev wv hE hw hd
            refine ifw rfl (ifw rfl ?_)
            have v0 : ev (.tmp 0) = .pointer (some ⟨g, 0, none⟩) := hE.tmp 0 rfl
            refine ⟨.pointer (some ⟨g, 0, none⟩), fun w => ?_, rfl⟩
            have e1 := hE.const; have e2 := hE.func; clear hE hd hw
            go_simp
          · intro ev wv hE hw hd
            refine ifw rfl (ifw rfl ?_)
            have v8 : ev (.tmp 8) = .pointer (some ⟨g, 0, none⟩) := hd 1 (by decide)
            refine ⟨.pointer (some ⟨g, 0, none⟩), fun w => ?_, rfl⟩
            have e1 := hE.const; have e2 := hE.func; clear hE hd hw
            go_simp
          · intro ev wv hE hw hd
            refine ifw rfl (ifw rfl ?_)
            have v9 : ev (.tmp 9) = .pointer (some ⟨g, 0, none⟩) := hd 2 (by decide)
            refine ⟨.pointer (some ⟨g, 1, none⟩), fun w => ?_, rfl⟩
            have e1 := hE.const; have e2 := hE.func; clear hE hd hw
            go_simp
          · intro ev wv hE hw hd
            refine ifw rfl (ifn rfl ?_)
            have v10 : ev (.tmp 10) = .pointer (some ⟨g, 1, none⟩) := hd 3 (by decide)
            have kt := (Below.cell hw HTR.out.lt).trans HTR.out.s
            refine rel_val (u := .slice (some ⟨g1, off, none⟩) n c) (w' := wv) ?_ (Below.refl _ _) ⟨rfl, fun h => by cases h⟩
            have e1 := hE.const; clear hE hd hw
            go_simp
          · intro ev wv hE hw hd
            refine ifw rfl (ifw rfl ?_)
            have v11 : ev (.tmp 11) = .slice (some ⟨g1, off, none⟩) n c := hd 4 (by decide)
            refine ⟨.int .i64 (n : Int), fun w => ?_, rfl⟩
            have e1 := hE.const; have e2 := hE.func; clear hE hd hw
            go_simp
          · intro ev wv hE hw hd
            refine ifw rfl (ifw rfl ?_)
            have v7 : ev (.tmp 7) = .int .i64 (k : Int) := hd 0 (by decide)
            have v12 : ev (.tmp 12) = .int .i64 (n : Int) := hd 5 (by decide)
            refine ⟨.bool true, fun w => ?_, rfl⟩
            have e1 := hE.const; have e2 := hE.func; clear hE hd hw
            go_simp
          · intro ev wv hE hw hd
            refine ifw rfl (ifw rfl ?_)
            have v13 : ev (.tmp 13) = .bool true := hd 6 (by decide)
            refine ⟨.bool true, fun w => ?_, rfl⟩
            have e1 := hE.const; have e2 := hE.func; clear hE hd hw
            go_simp
          · intro ev wv hE hw hd
            have vg : ev (.tmp 14) = .bool true := hd 7 (by decide)
            refine ifw (by show (yv (ev (.tmp 14)) == some true) = true; rw [vg]; rfl) (ifw rfl ?_)
            clear vg
            have v0 : ev (.tmp 0) = .pointer (some ⟨g, 0, none⟩) := hE.tmp 0 rfl
            refine ⟨.pointer (some ⟨g, 0, none⟩), fun w => ?_, rfl⟩
            have e1 := hE.const; have e2 := hE.func; clear hE hd hw
            go_simp
          · intro ev wv hE hw hd
            have vg : ev (.tmp 14) = .bool true := hd 7 (by decide)
            refine ifw (by show (yv (ev (.tmp 14)) == some true) = true; rw [vg]; rfl) (ifw rfl ?_)
            clear vg
            have v15 : ev (.tmp 15) = .pointer (some ⟨g, 0, none⟩) := hd 8 (by decide)
            refine ⟨.pointer (some ⟨g, 0, none⟩), fun w => ?_, rfl⟩
            have e1 := hE.const; have e2 := hE.func; clear hE hd hw
            go_simp
          · intro ev wv hE hw hd
            have vg : ev (.tmp 14) = .bool true := hd 7 (by decide)
            refine ifw (by show (yv (ev (.tmp 14)) == some true) = true; rw [vg]; rfl) (ifw rfl ?_)
            clear vg
            have v16 : ev (.tmp 16) = .pointer (some ⟨g, 0, none⟩) := hd 9 (by decide)
            refine ⟨.pointer (some ⟨g, 1, none⟩), fun w => ?_, rfl⟩
            have e1 := hE.const; have e2 := hE.func; clear hE hd hw
            go_simp
          · intro ev wv hE hw hd
            have vg : ev (.tmp 14) = .bool true := hd 7 (by decide)
            refine ifw (by show (yv (ev (.tmp 14)) == some true) = true; rw [vg]; rfl) (ifn rfl ?_)
            clear vg
            have v17 : ev (.tmp 17) = .pointer (some ⟨g, 1, none⟩) := hd 10 (by decide)
            have kt := (Below.cell hw HTR.out.lt).trans HTR.out.s
            refine rel_val (u := .slice (some ⟨g1, off, none⟩) n c) (w' := wv) ?_ (Below.refl _ _) ⟨rfl, fun h => by cases h⟩
            have e1 := hE.const; clear hE hd hw
            go_simp
          · intro ev wv hE hw hd
            have vg : ev (.tmp 14) = .bool true := hd 7 (by decide)
            refine ifw (by show (yv (ev (.tmp 14)) == some true) = true; rw [vg]; rfl) (ifw rfl ?_)
            clear vg
            have v6 : ev (.tmp 6) = .int .i64 (k : Int) := hE.tmp 6 rfl
            refine ⟨.int .i64 (k : Int), fun w => ?_, rfl⟩
            have e1 := hE.const; have e2 := hE.func; clear hE hd hw
            go_simp
          · intro ev wv hE hw hd
            have vg : ev (.tmp 14) = .bool true := hd 7 (by decide)
            refine ifw (by show (yv (ev (.tmp 14)) == some true) = true; rw [vg]; rfl) (ifw rfl ?_)
            clear vg
            have v18 : ev (.tmp 18) = .slice (some ⟨g1, off, none⟩) n c := hd 11 (by decide)
            have v19 : ev (.tmp 19) = .int .i64 (k : Int) := hd 12 (by decide)
            refine ⟨.pointer (some ⟨g1, off + k * 3, none⟩), fun w => ?_, rfl⟩
            have e1 := hE.const; have e2 := hE.func; clear hE hd hw
            go_simp
          · intro ev wv hE hw hd
            have vg : ev (.tmp 14) = .bool true := hd 7 (by decide)
            refine ifw (by show (yv (ev (.tmp 14)) == some true) = true; rw [vg]; rfl) (ifn rfl ?_)
            clear vg
            have v20 : ev (.tmp 20) = .pointer (some ⟨g1, off + k * 3, none⟩) := hd 13 (by decide)
            have k0 : wv.cell? ⟨g1, off + k * 3, none⟩ = some (.int .i64 y1) := (Below.cell hw hg1).trans c0
            have k1 : wv.cell? ⟨g1, off + k * 3 + 1, none⟩ = some (.int .i64 y2) := (Below.cell (p := ⟨g1, off + k * 3 + 1, none⟩) hw hg1).trans c1
            have k2 : wv.cell? ⟨g1, off + k * 3 + 2, none⟩ = some (.int .i64 y3) := (Below.cell (p := ⟨g1, off + k * 3 + 2, none⟩) hw hg1).trans c2
            refine rel_val (u := itV (y1, y2, y3)) (w' := wv) ?_ (Below.refl _ _) ⟨rfl, fun h => by cases h⟩
            have e1 := hE.const; clear hE hd hw
            go_simp
          · intro ev wv hE hw hd
            have vg : ev (.tmp 14) = .bool true := hd 7 (by decide)
            refine ifw (by show (yv (ev (.tmp 14)) == some true) = true; rw [vg]; rfl) (ifn rfl ?_)
            clear vg
            have v3 : ev (.tmp 3) = .pointer (some ⟨w.heap.size, 0, none⟩) := hE.tmp 3 rfl
            have HBV := (HBX.out.keep HB.out).keep hw
            have k0 := HBV.get 0 rfl
            have k1 := HBV.get 1 rfl
            have k2 := HBV.get 2 rfl
            refine rel_val (u := itV (x1, x2, x3)) (w' := wv) ?_ (Below.refl _ _) ⟨rfl, fun h => by cases h⟩
            have e1 := hE.const; clear hE hd hw
            go_simp
          · intro ev wv hE hw hd
            have vg : ev (.tmp 14) = .bool true := hd 7 (by decide)
            refine ifw (by show (yv (ev (.tmp 14)) == some true) = true; rw [vg]; rfl) (ifn rfl ?_)
            clear vg
            have v21 : ev (.tmp 21) = itV (y1, y2, y3) := hd 14 (by decide)
            have v22 : ev (.tmp 22) = itV (x1, x2, x3) := hd 15 (by decide)
            refine rel_call (f := 33) (args := #[itV (y1, y2, y3), itV (x1, x2, x3)]) ?_ (HLS.out _) ?_
            · have e0 := hE.func; have e1 := hE.const; clear hE hd hw
              go_simp
            · rintro e w' ⟨rfl, hb⟩
              exact ⟨_, rfl, hb, rfl, fun h => by cases h⟩
          · intro ev wv hE hw hd
            refine ifw rfl (ifw rfl ?_)
            have v14 : ev (.tmp 14) = .bool true := hd 7 (by decide)
            have v23 : ev (.tmp 23) = .bool false := hd 16 (by decide)
            refine ⟨.bool false, fun w => ?_, rfl⟩
            have e1 := hE.const; have e2 := hE.func; clear hE hd hw
            go_simp
          · intro w1 hw
            intro v0 h0 _ v1 h1 _ v2 h2 _ v3 h3 _ v4 h4 _ v5 h5 _ v6 h6 _ v7 h7 _ v8 h8 _ v9 h9 _ v10 h10 _ v11 h11 _ v12 h12 _ v13 h13 _ v14 h14 _ v15 h15 _ v16 h16 _ v17 h17 _
            simp only [Act.put, List.setIfInBounds_toArray, List.set_cons_zero, List.set_cons_succ, List.drop_succ_cons, List.drop_zero]
            obtain rfl : v0 = _ := h0
            obtain rfl : v1 = _ := h1
            obtain rfl : v2 = _ := h2
            obtain rfl : v3 = _ := h3
            obtain rfl : v4 = _ := h4
            obtain rfl : v5 = _ := h5
            obtain rfl : v6 = _ := h6
            obtain rfl : v7 = _ := h7
            obtain rfl : v8 = _ := h8
            obtain rfl : v9 = _ := h9
            obtain rfl : v10 = _ := h10
            obtain rfl : v11 = _ := h11
            obtain rfl : v12 = _ := h12
            obtain rfl : v13 = _ := h13
            obtain rfl : v14 = _ := h14
            obtain rfl : v15 = _ := h15
            obtain rfl : v16 = _ := h16
            obtain rfl : v17 = _ := h17
            change wpList Try.prog _ _ _ _ w1
            have HTQ := Lib.hid (HTR.out.keep hw)
            have HBQ := Lib.hid (HBE.out.trans (Below.mono hw HBE.out.size))
            have HBBQ := ((HBX.out.keep HB.out).keep hw)
            have q0 := HBBQ.get 0 rfl
            have q1 := HBBQ.get 1 rfl
            have q2 := HBBQ.get 2 rfl
            have qT := HTQ.out.s
            have r0 := (Below.cell hw hg1).trans c0
            have r1 := (Below.cell (p := ⟨g1, off + k * 3 + 1, none⟩) hw hg1).trans c1
            have r2 := (Below.cell (p := ⟨g1, off + k * 3 + 2, none⟩) hw hg1).trans c2
            clear c0 c1 c2
            clear hw HBBQ b0 b1 b2 cT
            go_wp2_with fail
            refine calm_normal ?_
            go_upto_region 4 with fail
            go_quiet (fail)
            go_wp2_with fail
            go_ret2
            exact ⟨ret_ib' (by rw [HK.out]) HI.out, HBQ.out.trans (Joins.below_draws _ _ _)⟩
    · have hkn : k = n := by omega
      subst hkn
      have HK := Lib.hid (cntI_at (x := (x1, x2, x3)) (by rw [HC.out]; exact Nat.le_refl _) HX.out (fun z hz => by have := (List.getElem?_eq_some_iff.1 hz).1; have := HC.out; omega))
      have HI := Lib.hid (show hasI (x1, x2, x3) l = false by
        unfold hasI; rw [HK.out, List.getElem?_eq_none (by rw [HC.out]; exact Nat.le_refl _)]; simp)
      have hki : ¬ (k : Int) < (k : Int) := by omega
      go_upto_region 2 with fail
      refine wp_region_rel 18 (Ext wr)
        (fun i => List.getD [VE (.int .i64 (k : Int)), VE (.pointer (some ⟨g, 0, none⟩)), VE (.pointer (some ⟨g, 0, none⟩)), VE (.pointer (some ⟨g, 1, none⟩)), VE (.slice A k c), VE (.int .i64 (k : Int)), VE (.bool false), VE (.bool false), VE (undef), VE (undef), VE (undef), VE (undef), VE (undef), VE (undef), VE (undef), VE (undef), VE (undef), VE (.bool false)] i (fun _ _ => False)) [] [0, 1, 2, 3, 5, 6, 7, 8, 9, 10, 11, 12, 13, 14, 15, 16, 17] (by kernel_rfl) (by kernel_rfl) (Ext.start wr) (fun _ _ h hb => h.grow hb)
        (stays_all (stays_cons (stays_VE _) (stays_cons (stays_VE _) (stays_cons (stays_VE _) (stays_cons (stays_VE _) (stays_cons (stays_VE _) (stays_cons (stays_VE _) (stays_cons (stays_VE _) (stays_cons (stays_VE _) (stays_cons (stays_VE _) (stays_cons (stays_VE _) (stays_cons (stays_VE _) (stays_cons (stays_VE _) (stays_cons (stays_VE _) (stays_cons (stays_VE _) (stays_cons (stays_VE _) (stays_cons (stays_VE _) (stays_cons (stays_VE _) (stays_cons (stays_VE _) stays_nil))))))))))))))))))) ⟨?_, ?_, ?_, ?_, ?_, ?_, ?_, ?_, ?_, ?_, ?_, ?_, ?_, ?_, ?_, ?_, ?_, ?_, trivial⟩ ?_
      · intro ev wv hE hw hd
        refine ifw rfl (ifw rfl ?_)
        have v6 : ev (.tmp 6) = .int .i64 (k : Int) := hE.tmp 6 rfl
        refine ⟨.int .i64 (k : Int), fun w => ?_, rfl⟩
        have e1 := hE.const; have e2 := hE.func; clear hE hd hw
        go_simp
      · intro ev wv hE hw hd
        refine ifw rfl (ifw rfl ?_)
        have v0 : ev (.tmp 0) = .pointer (some ⟨g, 0, none⟩) := hE.tmp 0 rfl
        refine ⟨.pointer (some ⟨g, 0, none⟩), fun w => ?_, rfl⟩
        have e1 := hE.const; have e2 := hE.func; clear hE hd hw
        go_simp
      · intro ev wv hE hw hd
        refine ifw rfl (ifw rfl ?_)
        have v8 : ev (.tmp 8) = .pointer (some ⟨g, 0, none⟩) := hd 1 (by decide)
        refine ⟨.pointer (some ⟨g, 0, none⟩), fun w => ?_, rfl⟩
        have e1 := hE.const; have e2 := hE.func; clear hE hd hw
        go_simp
      · intro ev wv hE hw hd
        refine ifw rfl (ifw rfl ?_)
        have v9 : ev (.tmp 9) = .pointer (some ⟨g, 0, none⟩) := hd 2 (by decide)
        refine ⟨.pointer (some ⟨g, 1, none⟩), fun w => ?_, rfl⟩
        have e1 := hE.const; have e2 := hE.func; clear hE hd hw
        go_simp
      · intro ev wv hE hw hd
        refine ifw rfl (ifn rfl ?_)
        have v10 : ev (.tmp 10) = .pointer (some ⟨g, 1, none⟩) := hd 3 (by decide)
        have kt := (Below.cell hw HTR.out.lt).trans HTR.out.s
        refine rel_val (u := .slice A k c) (w' := wv) ?_ (Below.refl _ _) ⟨rfl, fun h => by cases h⟩
        have e1 := hE.const; clear hE hd hw
        go_simp
      · intro ev wv hE hw hd
        refine ifw rfl (ifw rfl ?_)
        have v11 : ev (.tmp 11) = .slice A k c := hd 4 (by decide)
        refine ⟨.int .i64 (k : Int), fun w => ?_, rfl⟩
        have e1 := hE.const; have e2 := hE.func; clear hE hd hw
        go_simp
      · intro ev wv hE hw hd
        refine ifw rfl (ifw rfl ?_)
        have v7 : ev (.tmp 7) = .int .i64 (k : Int) := hd 0 (by decide)
        have v12 : ev (.tmp 12) = .int .i64 (k : Int) := hd 5 (by decide)
        refine ⟨.bool false, fun w => ?_, rfl⟩
        have e1 := hE.const; have e2 := hE.func; clear hE hd hw
        go_simp
      · intro ev wv hE hw hd
        refine ifw rfl (ifw rfl ?_)
        have v13 : ev (.tmp 13) = .bool false := hd 6 (by decide)
        refine ⟨.bool false, fun w => ?_, rfl⟩
        have e1 := hE.const; have e2 := hE.func; clear hE hd hw
        go_simp
      · intro ev wv hE hw hd
        have vg : ev (.tmp 14) = .bool false := hd 7 (by decide)
        exact ifn (by show (yv (ev (.tmp 14)) == some true) = false; rw [vg]; rfl) rfl
      · intro ev wv hE hw hd
        have vg : ev (.tmp 14) = .bool false := hd 7 (by decide)
        exact ifn (by show (yv (ev (.tmp 14)) == some true) = false; rw [vg]; rfl) rfl
      · intro ev wv hE hw hd
        have vg : ev (.tmp 14) = .bool false := hd 7 (by decide)
        exact ifn (by show (yv (ev (.tmp 14)) == some true) = false; rw [vg]; rfl) rfl
      · intro ev wv hE hw hd
        have vg : ev (.tmp 14) = .bool false := hd 7 (by decide)
        exact ifn (by show (yv (ev (.tmp 14)) == some true) = false; rw [vg]; rfl) rfl
      · intro ev wv hE hw hd
        have vg : ev (.tmp 14) = .bool false := hd 7 (by decide)
        exact ifn (by show (yv (ev (.tmp 14)) == some true) = false; rw [vg]; rfl) rfl
      · intro ev wv hE hw hd
        have vg : ev (.tmp 14) = .bool false := hd 7 (by decide)
        exact ifn (by show (yv (ev (.tmp 14)) == some true) = false; rw [vg]; rfl) rfl
      · intro ev wv hE hw hd
        have vg : ev (.tmp 14) = .bool false := hd 7 (by decide)
        exact ifn (by show (yv (ev (.tmp 14)) == some true) = false; rw [vg]; rfl) rfl
      · intro ev wv hE hw hd
        have vg : ev (.tmp 14) = .bool false := hd 7 (by decide)
        exact ifn (by show (yv (ev (.tmp 14)) == some true) = false; rw [vg]; rfl) rfl
      · intro ev wv hE hw hd
        have vg : ev (.tmp 14) = .bool false := hd 7 (by decide)
        exact ifn (by show (yv (ev (.tmp 14)) == some true) = false; rw [vg]; rfl) rfl
      · intro ev wv hE hw hd
        refine ifw rfl (ifw rfl ?_)
        have v14 : ev (.tmp 14) = .bool false := hd 7 (by decide)
        have v23 : ev (.tmp 23) = undef := hd 16 (by decide)
        refine ⟨.bool false, fun w => ?_, rfl⟩
        have e1 := hE.const; have e2 := hE.func; clear hE hd hw
        go_simp
      · intro w1 hw
        intro v0 h0 _ v1 h1 _ v2 h2 _ v3 h3 _ v4 h4 _ v5 h5 _ v6 h6 _ v7 h7 _ v8 h8 _ v9 h9 _ v10 h10 _ v11 h11 _ v12 h12 _ v13 h13 _ v14 h14 _ v15 h15 _ v16 h16 _ v17 h17 _
        simp only [Act.put, List.setIfInBounds_toArray, List.set_cons_zero, List.set_cons_succ, List.drop_succ_cons, List.drop_zero]
        obtain rfl : v0 = _ := h0
        obtain rfl : v1 = _ := h1
        obtain rfl : v2 = _ := h2
        obtain rfl : v3 = _ := h3
        obtain rfl : v4 = _ := h4
        obtain rfl : v5 = _ := h5
        obtain rfl : v6 = _ := h6
        obtain rfl : v7 = _ := h7
        obtain rfl : v8 = _ := h8
        obtain rfl : v9 = _ := h9
        obtain rfl : v10 = _ := h10
        obtain rfl : v11 = _ := h11
        obtain rfl : v12 = _ := h12
        obtain rfl : v13 = _ := h13
        obtain rfl : v14 = _ := h14
        obtain rfl : v15 = _ := h15
        obtain rfl : v16 = _ := h16
        obtain rfl : v17 = _ := h17
        change wpList Try.prog _ _ _ _ w1
        have HTQ := Lib.hid (HTR.out.keep hw)
        have HBQ := Lib.hid (HBE.out.trans (Below.mono hw HBE.out.size))
        have HBBQ := ((HBX.out.keep HB.out).keep hw)
        have q0 := HBBQ.get 0 rfl
        have q1 := HBBQ.get 1 rfl
        have q2 := HBBQ.get 2 rfl
        have qT := HTQ.out.s
        clear hw HBBQ b0 b1 b2 cT
        go_wp2_with fail
        refine calm_normal ?_
        go_upto_region 4 with fail
        go_quiet (fail)
        go_wp2_with fail
        go_ret2
        exact ⟨ret_ib' (by rw [HK.out]) HI.out.symm, HBQ.out.trans (Joins.below_draws _ _ _)⟩
end Go.Proofs.Ytolmkagedlcjiaa

/- Contracts of package decimal: the closure of sums, sums, Add, Sub, Cmp. (Written by wip/gen/gendc2.py.) -/
import Derived.Test.YtgkogjlcecbfjaaDc1
namespace Go.Proofs.Ytgkogjlcecbfjaa
open Go.RowKit Corr
set_option linter.unusedVariables false

set_option maxHeartbeats 4000000 in
theorem dtell_sum (b : Bool) (h l : Nat) (C C' : Int) (S S' s gx gs gy : Nat) (zx zy z : Int) (w : World) (hC1 : -9223372036854775808 ≤ C) (hC2 : C ≤ 9223372036854775807) (hC1' : -9223372036854775808 ≤ C') (hC2' : C' ≤ 9223372036854775807) (hS : S ≤ s) (hS' : S' ≤ s) (hs : s ≤ 9)
    (hzx : C * ((10 ^ (s - S) : Nat) : Int) = zx) (hzy : C' * ((10 ^ (s - S') : Nat) : Int) = zy) (hz : zx + zy = z) (e1 : negB z = b) (e2 : hiW z.natAbs = h) (e3 : loW z.natAbs = l)
    (FX : Blk w gx #[.int .i64 C, .int .i64 (S : Int)]) (FS : Blk w gs #[.int .i64 (s : Int)]) (FY : Blk w gy #[.int .i64 C', .int .i64 (S' : Int)]) :
    Calls Try.prog 81 #[.bool false, .pointer (some ⟨gx, 0, none⟩), .pointer (some ⟨gs, 0, none⟩), .pointer (some ⟨gy, 0, none⟩)] w fun e w' => e = .returned (WV b h l) ∧ Below w.heap.size w w' := by
  obtain ⟨bx, ebx⟩ : ∃ x, negB zx = x := ⟨_, rfl⟩
  obtain ⟨hx, ehx⟩ : ∃ x, hiW (zx).natAbs = x := ⟨_, rfl⟩
  obtain ⟨lx, elx⟩ : ∃ x, loW (zx).natAbs = x := ⟨_, rfl⟩
  obtain ⟨bY, ebY⟩ : ∃ x, negB zy = x := ⟨_, rfl⟩
  obtain ⟨hy, ehy⟩ : ∃ x, hiW (zy).natAbs = x := ⟨_, rfl⟩
  obtain ⟨ly, ely⟩ : ∃ x, loW (zy).natAbs = x := ⟨_, rfl⟩
  have hxa : zx.natAbs ≤ 9223372036854775808 * 10 ^ 9 := by rw [← hzx]; exact scale_le hC1 hC2 (by omega)
  have hya : zy.natAbs ≤ 9223372036854775808 * 10 ^ 9 := by rw [← hzy]; exact scale_le hC1' hC2' (by omega)
  have hxb : zx.natAbs < B128 := Nat.lt_of_le_of_lt hxa (by decide)
  have hyb : zy.natAbs < B128 := Nat.lt_of_le_of_lt hya (by decide)
  have hzb : z.natAbs < B128 := Nat.lt_of_le_of_lt (show z.natAbs ≤ 9223372036854775808 * 10 ^ 9 + 9223372036854775808 * 10 ^ 9 by rw [← hz]; omega) (by decide)
  have HUX := Lib.hid (fun w => dunits_any bx hx lx C S s zx w hC1 hC2 hS hs hzx ebx ehx elx)
  have HUY := Lib.hid (fun w => dunits_any bY hy ly C' S' s zy w hC1' hC2' hS' hs hzy ebY ehy ely)
  have HA := Lib.hid (fun w => add_w b bx bY hx lx hy ly h l zx zy z w (hi_of hxb ehx) (lo_of elx) (hi_of hyb ehy) (lo_of ely) (of_abs ebx ehx elx) (of_abs ebY ehy ely) (by rw [← hz]) hzb e1 e2 e3)
  clear hzx hzy hz hxa hya hxb hyb hzb ebx ehx elx ebY ehy ely e1 e2 e3
  have S0 := (Mem.start w).push #[.bool false, .int .u64 0, .int .u64 0] 24
  go_enter Try.func81, Try.ntmps81
  go_upto_region 1 with fail
  refine wp_region_rel 8 (MemAt w (w.heap.size + 1) [(w.heap.size, #[.bool false, .int .u64 0, .int .u64 0])] [])
    (fun i => List.getD [VE (.agg #[.int .i64 C, .int .i64 (S : Int)]), VE (.int .i64 (s : Int)), VE (.agg #[.bool bx, .int .u64 (hx : Int), .int .u64 (lx : Int)]), VE (.agg #[.int .i64 C', .int .i64 (S' : Int)]), VE (.int .i64 (s : Int)), VE (.agg #[.bool bY, .int .u64 (hy : Int), .int .u64 (ly : Int)]), VA (w.heap.size + 1) #[.bool false, .int .u64 0, .int .u64 0], VA (w.heap.size + 1) #[.bool false, .int .u64 0, .int .u64 0]] i (fun _ _ => False)) [6, 7] [] (by kernel_rfl) (by kernel_rfl) ⟨S0.drew, by simp⟩ (fun _ _ h hb => h.grow hb)
    (stays_all (stays_cons (stays_VE _) (stays_cons (stays_VE _) (stays_cons (stays_VE _) (stays_cons (stays_VE _) (stays_cons (stays_VE _) (stays_cons (stays_VE _) (stays_cons (stays_VA _ _) (stays_cons (stays_VA _ _) stays_nil))))))))) ⟨?_, ?_, ?_, ?_, ?_, ?_, ?_, ?_, trivial⟩ ?_
  · intro ev wv hE hw hd
    refine ifw rfl (ifn rfl ?_)
    have v1 : ev (.tmp 1) = .pointer (some ⟨gx, 0, none⟩) := hE.tmp 1 rfl
    have kx := (FX.keep hw.m.bl).get 0 rfl
    have ky := (FX.keep hw.m.bl).get 1 rfl
    refine rel_val (u := .agg #[.int .i64 C, .int .i64 (S : Int)]) (w' := wv) ?_ (Below.refl _ _) ⟨rfl, fun h => by cases h⟩
    have e1 := hE.const; clear hE hd hw
    go_simp
  · intro ev wv hE hw hd
    refine ifw rfl (ifn rfl ?_)
    have v2 : ev (.tmp 2) = .pointer (some ⟨gs, 0, none⟩) := hE.tmp 2 rfl
    have kx := (FS.keep hw.m.bl).get 0 rfl
    refine rel_val (u := .int .i64 (s : Int)) (w' := wv) ?_ (Below.refl _ _) ⟨rfl, fun h => by cases h⟩
    have e1 := hE.const; clear hE hd hw
    go_simp
  · intro ev wv hE hw hd
    refine ifw rfl (ifn rfl ?_)
    have v10 : ev (.tmp 10) = .agg #[.int .i64 C, .int .i64 (S : Int)] := hd 0 (by decide)
    have v11 : ev (.tmp 11) = .int .i64 (s : Int) := hd 1 (by decide)
    refine rel_call (f := 82) (args := #[.agg #[.int .i64 C, .int .i64 (S : Int)], .int .i64 (s : Int)]) ?_ (HUX.out _) ?_
    · have e0 := hE.func; have e1 := hE.const; clear hE hd hw
      go_simp
    · rintro e w' ⟨rfl, hb⟩
      exact ⟨_, rfl, hb, rfl, fun h => by cases h⟩
  · intro ev wv hE hw hd
    refine ifw rfl (ifn rfl ?_)
    have v3 : ev (.tmp 3) = .pointer (some ⟨gy, 0, none⟩) := hE.tmp 3 rfl
    have kx := (FY.keep hw.m.bl).get 0 rfl
    have ky := (FY.keep hw.m.bl).get 1 rfl
    refine rel_val (u := .agg #[.int .i64 C', .int .i64 (S' : Int)]) (w' := wv) ?_ (Below.refl _ _) ⟨rfl, fun h => by cases h⟩
    have e1 := hE.const; clear hE hd hw
    go_simp
  · intro ev wv hE hw hd
    refine ifw rfl (ifn rfl ?_)
    have v2 : ev (.tmp 2) = .pointer (some ⟨gs, 0, none⟩) := hE.tmp 2 rfl
    have kx := (FS.keep hw.m.bl).get 0 rfl
    refine rel_val (u := .int .i64 (s : Int)) (w' := wv) ?_ (Below.refl _ _) ⟨rfl, fun h => by cases h⟩
    have e1 := hE.const; clear hE hd hw
    go_simp
  · intro ev wv hE hw hd
    refine ifw rfl (ifn rfl ?_)
    have v13 : ev (.tmp 13) = .agg #[.int .i64 C', .int .i64 (S' : Int)] := hd 3 (by decide)
    have v14 : ev (.tmp 14) = .int .i64 (s : Int) := hd 4 (by decide)
    refine rel_call (f := 82) (args := #[.agg #[.int .i64 C', .int .i64 (S' : Int)], .int .i64 (s : Int)]) ?_ (HUY.out _) ?_
    · have e0 := hE.func; have e1 := hE.const; clear hE hd hw
      go_simp
    · rintro e w' ⟨rfl, hb⟩
      exact ⟨_, rfl, hb, rfl, fun h => by cases h⟩
  · intro ev wv hE hw hd
    refine ifw rfl (ifn rfl ?_)
    refine rel_val (u := .pointer (some ⟨wv.heap.size, 0, none⟩)) (w' := wv.alloc (.cells #[.bool false, .int .u64 0, .int .u64 0] 24)) ?_ ((Below.refl _ _).alloc (Nat.le_refl _) _) ⟨⟨_, rfl, Blk.new _ _ _, hw.h⟩, fun _ => ⟨_, rfl, Nat.le_refl _, by simp⟩⟩
    clear hE hd hw
    go_simp
  · intro ev wv hE hw hd
    refine ifw rfl (ifn rfl ?_)
    refine rel_val (u := .pointer (some ⟨wv.heap.size, 0, none⟩)) (w' := wv.alloc (.cells #[.bool false, .int .u64 0, .int .u64 0] 24)) ?_ ((Below.refl _ _).alloc (Nat.le_refl _) _) ⟨⟨_, rfl, Blk.new _ _ _, hw.h⟩, fun _ => ⟨_, rfl, Nat.le_refl _, by simp⟩⟩
    clear hE hd hw
    go_simp
  · intro w1 M1
    intro v0 h0 _ v1 h1 _ v2 h2 _ v3 h3 _ v4 h4 _ v5 h5 _ v6 h6 n6 v7 h7 n7
    simp only [Act.put, List.setIfInBounds_toArray, List.set_cons_zero, List.set_cons_succ, List.drop_succ_cons, List.drop_zero]
    obtain rfl : v0 = _ := h0
    obtain rfl : v1 = _ := h1
    obtain rfl : v2 = _ := h2
    obtain rfl : v3 = _ := h3
    obtain rfl : v4 = _ := h4
    obtain rfl : v5 = _ := h5
    obtain ⟨xg6, rfl, xB6, xl6⟩ : VA (w.heap.size + 1) #[.bool false, .int .u64 0, .int .u64 0] v6 w1 := h6
    obtain ⟨xg7, rfl, xB7, xl7⟩ : VA (w.heap.size + 1) #[.bool false, .int .u64 0, .int .u64 0] v7 w1 := h7
    change wpList Try.prog _ _ _ _ w1
    have ne := ne_ptr (n7 rfl _ (List.mem_cons_self))
    have SF := M1.m.join2 S0 xB6 xB7 (by simpa using xl6) (by simpa using xl7) ne
    have y0 := SF.c 1 0 rfl rfl
    have y1 := SF.f 1 0 rfl
    have y2 := SF.c 1 1 rfl rfl
    have y3 := SF.f 1 1 rfl
    have y4 := SF.c 1 2 rfl rfl
    have y5 := SF.f 1 2 rfl
    have y6 := SF.c 2 0 rfl rfl
    have y7 := SF.f 2 0 rfl
    have y8 := SF.c 2 1 rfl rfl
    have y9 := SF.f 2 1 rfl
    have y10 := SF.c 2 2 rfl rfl
    have y11 := SF.f 2 2 rfl
    have M4 := (SF.put3 1 rfl rfl (.bool bx) (.int .u64 (hx : Int)) (.int .u64 (lx : Int)) rfl rfl).put3 2 rfl rfl (.bool bY) (.int .u64 (hy : Int)) (.int .u64 (ly : Int)) rfl rfl
    clear SF xB6 xB7 xl6 xl7 M1 S0 n6 n7
    go_wp2_with fail
    refine calm_normal ?_
    generalize (((((w1.setCell ⟨xg6, 0, none⟩ (.bool bx)).setCell ⟨xg6, 1, none⟩ (.int .u64 (hx : Int))).setCell ⟨xg6, 2, none⟩ (.int .u64 (lx : Int))).setCell ⟨xg7, 0, none⟩ (.bool bY)).setCell ⟨xg7, 1, none⟩ (.int .u64 (hy : Int))).setCell ⟨xg7, 2, none⟩ (.int .u64 (ly : Int)) = w4 at *
    clear y0 y1 y2 y3 y4 y5 y6 y7 y8 y9 y10 y11
    have M6 := M4
    clear M4
    have y0 := M6.c 1 0 rfl rfl; have y1 := M6.c 1 1 rfl rfl; have y2 := M6.c 1 2 rfl rfl
    have y6 := M6.c 2 0 rfl rfl; have y7 := M6.c 2 1 rfl rfl; have y8 := M6.c 2 2 rfl rfl
    go_wp2_with fail
    refine (HA.out _).mono ?_
    rintro e w7 ⟨rfl, hb⟩
    have M7 := (M6.keep hb).push #[.bool b, .int .u64 (h : Int), .int .u64 (l : Int)] 24
    clear M6 hb y0 y1 y2 y6 y7 y8
    have y0 := M7.c 0 0 rfl rfl; have y1 := M7.c 0 1 rfl rfl; have y2 := M7.c 0 2 rfl rfl; have y3 := M7.f 0 0 rfl; have y4 := M7.f 0 1 rfl; have y5 := M7.f 0 2 rfl
    have HF := Lib.hid (M7.put3 0 rfl rfl (.bool b) (.int .u64 (h : Int)) (.int .u64 (l : Int)) rfl rfl)
    clear M7
    go_wp2_with fail
    exact bodyPost_ret (v := WV b h l) (by simp [results, Try.results81, go_sem, y0, y1, y2]) rfl ⟨rfl, HF.out.bl⟩

set_option maxHeartbeats 4000000 in
theorem dtell_sub (b : Bool) (h l : Nat) (C C' : Int) (S S' s gx gs gy : Nat) (zx zy z : Int) (w : World) (hC1 : -9223372036854775808 ≤ C) (hC2 : C ≤ 9223372036854775807) (hC1' : -9223372036854775808 ≤ C') (hC2' : C' ≤ 9223372036854775807) (hS : S ≤ s) (hS' : S' ≤ s) (hs : s ≤ 9)
    (hzx : C * ((10 ^ (s - S) : Nat) : Int) = zx) (hzy : C' * ((10 ^ (s - S') : Nat) : Int) = zy) (hz : zx - zy = z) (e1 : negB z = b) (e2 : hiW z.natAbs = h) (e3 : loW z.natAbs = l)
    (FX : Blk w gx #[.int .i64 C, .int .i64 (S : Int)]) (FS : Blk w gs #[.int .i64 (s : Int)]) (FY : Blk w gy #[.int .i64 C', .int .i64 (S' : Int)]) :
    Calls Try.prog 81 #[.bool true, .pointer (some ⟨gx, 0, none⟩), .pointer (some ⟨gs, 0, none⟩), .pointer (some ⟨gy, 0, none⟩)] w fun e w' => e = .returned (WV b h l) ∧ Below w.heap.size w w' := by
  obtain ⟨bx, ebx⟩ : ∃ x, negB zx = x := ⟨_, rfl⟩
  obtain ⟨hx, ehx⟩ : ∃ x, hiW (zx).natAbs = x := ⟨_, rfl⟩
  obtain ⟨lx, elx⟩ : ∃ x, loW (zx).natAbs = x := ⟨_, rfl⟩
  obtain ⟨bY, ebY⟩ : ∃ x, negB zy = x := ⟨_, rfl⟩
  obtain ⟨hy, ehy⟩ : ∃ x, hiW (zy).natAbs = x := ⟨_, rfl⟩
  obtain ⟨ly, ely⟩ : ∃ x, loW (zy).natAbs = x := ⟨_, rfl⟩
  obtain ⟨bn, ebn⟩ : ∃ x, negB (-zy) = x := ⟨_, rfl⟩
  obtain ⟨hn, ehn⟩ : ∃ x, hiW ((-zy)).natAbs = x := ⟨_, rfl⟩
  obtain ⟨ln, eln⟩ : ∃ x, loW ((-zy)).natAbs = x := ⟨_, rfl⟩
  have hxa : zx.natAbs ≤ 9223372036854775808 * 10 ^ 9 := by rw [← hzx]; exact scale_le hC1 hC2 (by omega)
  have hya : zy.natAbs ≤ 9223372036854775808 * 10 ^ 9 := by rw [← hzy]; exact scale_le hC1' hC2' (by omega)
  have hxb : zx.natAbs < B128 := Nat.lt_of_le_of_lt hxa (by decide)
  have hyb : zy.natAbs < B128 := Nat.lt_of_le_of_lt hya (by decide)
  have hzb : z.natAbs < B128 := Nat.lt_of_le_of_lt (show z.natAbs ≤ 9223372036854775808 * 10 ^ 9 + 9223372036854775808 * 10 ^ 9 by rw [← hz]; omega) (by decide)
  have HUX := Lib.hid (fun w => dunits_any bx hx lx C S s zx w hC1 hC2 hS hs hzx ebx ehx elx)
  have HUY := Lib.hid (fun w => dunits_any bY hy ly C' S' s zy w hC1' hC2' hS' hs hzy ebY ehy ely)
  have HN := Lib.hid (fun w => neg_w bn bY hy ly hn ln zy (-zy) w (hi_of hyb ehy) (lo_of ely) (of_abs ebY ehy ely) rfl ebn ehn eln)
  have HA := Lib.hid (fun w => add_w b bx bn hx lx hn ln h l zx (-zy) z w (hi_of hxb ehx) (lo_of elx) (hi_of (by rw [Int.natAbs_neg]; exact hyb) ehn) (lo_of eln) (of_abs ebx ehx elx) (of_abs ebn ehn eln) (by rw [← hz]; omega) hzb e1 e2 e3)
  clear hzx hzy hz hxa hya hxb hyb hzb ebx ehx elx ebY ehy ely ebn ehn eln e1 e2 e3
  have S0 := (Mem.start w).push #[.bool false, .int .u64 0, .int .u64 0] 24
  go_enter Try.func81, Try.ntmps81
  go_upto_region 1 with fail
  refine wp_region_rel 8 (MemAt w (w.heap.size + 1) [(w.heap.size, #[.bool false, .int .u64 0, .int .u64 0])] [])
    (fun i => List.getD [VE (.agg #[.int .i64 C, .int .i64 (S : Int)]), VE (.int .i64 (s : Int)), VE (.agg #[.bool bx, .int .u64 (hx : Int), .int .u64 (lx : Int)]), VE (.agg #[.int .i64 C', .int .i64 (S' : Int)]), VE (.int .i64 (s : Int)), VE (.agg #[.bool bY, .int .u64 (hy : Int), .int .u64 (ly : Int)]), VA (w.heap.size + 1) #[.bool false, .int .u64 0, .int .u64 0], VA (w.heap.size + 1) #[.bool false, .int .u64 0, .int .u64 0]] i (fun _ _ => False)) [6, 7] [] (by kernel_rfl) (by kernel_rfl) ⟨S0.drew, by simp⟩ (fun _ _ h hb => h.grow hb)
    (stays_all (stays_cons (stays_VE _) (stays_cons (stays_VE _) (stays_cons (stays_VE _) (stays_cons (stays_VE _) (stays_cons (stays_VE _) (stays_cons (stays_VE _) (stays_cons (stays_VA _ _) (stays_cons (stays_VA _ _) stays_nil))))))))) ⟨?_, ?_, ?_, ?_, ?_, ?_, ?_, ?_, trivial⟩ ?_
  · intro ev wv hE hw hd
    refine ifw rfl (ifn rfl ?_)
    have v1 : ev (.tmp 1) = .pointer (some ⟨gx, 0, none⟩) := hE.tmp 1 rfl
    have kx := (FX.keep hw.m.bl).get 0 rfl
    have ky := (FX.keep hw.m.bl).get 1 rfl
    refine rel_val (u := .agg #[.int .i64 C, .int .i64 (S : Int)]) (w' := wv) ?_ (Below.refl _ _) ⟨rfl, fun h => by cases h⟩
    have e1 := hE.const; clear hE hd hw
    go_simp
  · intro ev wv hE hw hd
    refine ifw rfl (ifn rfl ?_)
    have v2 : ev (.tmp 2) = .pointer (some ⟨gs, 0, none⟩) := hE.tmp 2 rfl
    have kx := (FS.keep hw.m.bl).get 0 rfl
    refine rel_val (u := .int .i64 (s : Int)) (w' := wv) ?_ (Below.refl _ _) ⟨rfl, fun h => by cases h⟩
    have e1 := hE.const; clear hE hd hw
    go_simp
  · intro ev wv hE hw hd
    refine ifw rfl (ifn rfl ?_)
    have v10 : ev (.tmp 10) = .agg #[.int .i64 C, .int .i64 (S : Int)] := hd 0 (by decide)
    have v11 : ev (.tmp 11) = .int .i64 (s : Int) := hd 1 (by decide)
    refine rel_call (f := 82) (args := #[.agg #[.int .i64 C, .int .i64 (S : Int)], .int .i64 (s : Int)]) ?_ (HUX.out _) ?_
    · have e0 := hE.func; have e1 := hE.const; clear hE hd hw
      go_simp
    · rintro e w' ⟨rfl, hb⟩
      exact ⟨_, rfl, hb, rfl, fun h => by cases h⟩
  · intro ev wv hE hw hd
    refine ifw rfl (ifn rfl ?_)
    have v3 : ev (.tmp 3) = .pointer (some ⟨gy, 0, none⟩) := hE.tmp 3 rfl
    have kx := (FY.keep hw.m.bl).get 0 rfl
    have ky := (FY.keep hw.m.bl).get 1 rfl
    refine rel_val (u := .agg #[.int .i64 C', .int .i64 (S' : Int)]) (w' := wv) ?_ (Below.refl _ _) ⟨rfl, fun h => by cases h⟩
    have e1 := hE.const; clear hE hd hw
    go_simp
  · intro ev wv hE hw hd
    refine ifw rfl (ifn rfl ?_)
    have v2 : ev (.tmp 2) = .pointer (some ⟨gs, 0, none⟩) := hE.tmp 2 rfl
    have kx := (FS.keep hw.m.bl).get 0 rfl
    refine rel_val (u := .int .i64 (s : Int)) (w' := wv) ?_ (Below.refl _ _) ⟨rfl, fun h => by cases h⟩
    have e1 := hE.const; clear hE hd hw
    go_simp
  · intro ev wv hE hw hd
    refine ifw rfl (ifn rfl ?_)
    have v13 : ev (.tmp 13) = .agg #[.int .i64 C', .int .i64 (S' : Int)] := hd 3 (by decide)
    have v14 : ev (.tmp 14) = .int .i64 (s : Int) := hd 4 (by decide)
    refine rel_call (f := 82) (args := #[.agg #[.int .i64 C', .int .i64 (S' : Int)], .int .i64 (s : Int)]) ?_ (HUY.out _) ?_
    · have e0 := hE.func; have e1 := hE.const; clear hE hd hw
      go_simp
    · rintro e w' ⟨rfl, hb⟩
      exact ⟨_, rfl, hb, rfl, fun h => by cases h⟩
  · intro ev wv hE hw hd
    refine ifw rfl (ifn rfl ?_)
    refine rel_val (u := .pointer (some ⟨wv.heap.size, 0, none⟩)) (w' := wv.alloc (.cells #[.bool false, .int .u64 0, .int .u64 0] 24)) ?_ ((Below.refl _ _).alloc (Nat.le_refl _) _) ⟨⟨_, rfl, Blk.new _ _ _, hw.h⟩, fun _ => ⟨_, rfl, Nat.le_refl _, by simp⟩⟩
    clear hE hd hw
    go_simp
  · intro ev wv hE hw hd
    refine ifw rfl (ifn rfl ?_)
    refine rel_val (u := .pointer (some ⟨wv.heap.size, 0, none⟩)) (w' := wv.alloc (.cells #[.bool false, .int .u64 0, .int .u64 0] 24)) ?_ ((Below.refl _ _).alloc (Nat.le_refl _) _) ⟨⟨_, rfl, Blk.new _ _ _, hw.h⟩, fun _ => ⟨_, rfl, Nat.le_refl _, by simp⟩⟩
    clear hE hd hw
    go_simp
  · intro w1 M1
    intro v0 h0 _ v1 h1 _ v2 h2 _ v3 h3 _ v4 h4 _ v5 h5 _ v6 h6 n6 v7 h7 n7
    simp only [Act.put, List.setIfInBounds_toArray, List.set_cons_zero, List.set_cons_succ, List.drop_succ_cons, List.drop_zero]
    obtain rfl : v0 = _ := h0
    obtain rfl : v1 = _ := h1
    obtain rfl : v2 = _ := h2
    obtain rfl : v3 = _ := h3
    obtain rfl : v4 = _ := h4
    obtain rfl : v5 = _ := h5
    obtain ⟨xg6, rfl, xB6, xl6⟩ : VA (w.heap.size + 1) #[.bool false, .int .u64 0, .int .u64 0] v6 w1 := h6
    obtain ⟨xg7, rfl, xB7, xl7⟩ : VA (w.heap.size + 1) #[.bool false, .int .u64 0, .int .u64 0] v7 w1 := h7
    change wpList Try.prog _ _ _ _ w1
    have ne := ne_ptr (n7 rfl _ (List.mem_cons_self))
    have SF := M1.m.join2 S0 xB6 xB7 (by simpa using xl6) (by simpa using xl7) ne
    have y0 := SF.c 1 0 rfl rfl
    have y1 := SF.f 1 0 rfl
    have y2 := SF.c 1 1 rfl rfl
    have y3 := SF.f 1 1 rfl
    have y4 := SF.c 1 2 rfl rfl
    have y5 := SF.f 1 2 rfl
    have y6 := SF.c 2 0 rfl rfl
    have y7 := SF.f 2 0 rfl
    have y8 := SF.c 2 1 rfl rfl
    have y9 := SF.f 2 1 rfl
    have y10 := SF.c 2 2 rfl rfl
    have y11 := SF.f 2 2 rfl
    have M4 := (SF.put3 1 rfl rfl (.bool bx) (.int .u64 (hx : Int)) (.int .u64 (lx : Int)) rfl rfl).put3 2 rfl rfl (.bool bY) (.int .u64 (hy : Int)) (.int .u64 (ly : Int)) rfl rfl
    clear SF xB6 xB7 xl6 xl7 M1 S0 n6 n7
    go_wp2_with fail
    refine calm_normal ?_
    generalize (((((w1.setCell ⟨xg6, 0, none⟩ (.bool bx)).setCell ⟨xg6, 1, none⟩ (.int .u64 (hx : Int))).setCell ⟨xg6, 2, none⟩ (.int .u64 (lx : Int))).setCell ⟨xg7, 0, none⟩ (.bool bY)).setCell ⟨xg7, 1, none⟩ (.int .u64 (hy : Int))).setCell ⟨xg7, 2, none⟩ (.int .u64 (ly : Int)) = w4 at *
    clear y0 y1 y2 y3 y4 y5 y6 y7 y8 y9 y10 y11
    have y0 := M4.c 2 0 rfl rfl; have y1 := M4.c 2 1 rfl rfl; have y2 := M4.c 2 2 rfl rfl
    go_wp2_with fail
    refine (HN.out _).mono ?_
    rintro e w5 ⟨rfl, hb⟩
    have M5 := M4.keep hb
    clear y0 y1 y2 M4 hb
    have y0 := M5.c 2 0 rfl rfl; have y1 := M5.c 2 1 rfl rfl; have y2 := M5.c 2 2 rfl rfl; have y3 := M5.f 2 0 rfl; have y4 := M5.f 2 1 rfl; have y5 := M5.f 2 2 rfl
    have M6 := M5.put3 2 rfl rfl (.bool bn) (.int .u64 (hn : Int)) (.int .u64 (ln : Int)) rfl rfl
    clear M5
    have ne2 : (xg6 == xg7) = false := by rw [beq_eq_false_iff_ne]; exact ne.symm
    go_upto_region 4 with fail
    generalize ((w5.setCell ⟨xg7, 0, none⟩ (.bool bn)).setCell ⟨xg7, 1, none⟩ (.int .u64 (hn : Int))).setCell ⟨xg7, 2, none⟩ (.int .u64 (ln : Int)) = w6 at *
    clear y0 y1 y2 y3 y4 y5
    have y0 := M6.c 1 0 rfl rfl; have y1 := M6.c 1 1 rfl rfl; have y2 := M6.c 1 2 rfl rfl
    have y6 := M6.c 2 0 rfl rfl; have y7 := M6.c 2 1 rfl rfl; have y8 := M6.c 2 2 rfl rfl
    go_wp2_with fail
    refine (HA.out _).mono ?_
    rintro e w7 ⟨rfl, hb⟩
    have M7 := (M6.keep hb).push #[.bool b, .int .u64 (h : Int), .int .u64 (l : Int)] 24
    clear M6 hb y0 y1 y2 y6 y7 y8
    have y0 := M7.c 0 0 rfl rfl; have y1 := M7.c 0 1 rfl rfl; have y2 := M7.c 0 2 rfl rfl; have y3 := M7.f 0 0 rfl; have y4 := M7.f 0 1 rfl; have y5 := M7.f 0 2 rfl
    have HF := Lib.hid (M7.put3 0 rfl rfl (.bool b) (.int .u64 (h : Int)) (.int .u64 (l : Int)) rfl rfl)
    clear M7
    go_wp2_with fail
    exact bodyPost_ret (v := WV b h l) (by simp [results, Try.results81, go_sem, y0, y1, y2]) rfl ⟨rfl, HF.out.bl⟩
end Go.Proofs.Ytgkogjlcecbfjaa

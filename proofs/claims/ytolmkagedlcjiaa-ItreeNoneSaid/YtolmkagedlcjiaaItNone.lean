/- The law ItreeNone. -/
import Derived.Test.YtolmkagedlcjiaaItK
import Derived.Test.YtolmkagedlcjiaaRowRel
namespace Go.Proofs.Ytolmkagedlcjiaa
set_option maxRecDepth 8000
open Go.RowKit Corr
set_option linter.unusedVariables false
set_option linter.unusedSimpArgs false
/-- What package itree does with a tree that is not there, or was not made. -/
structure ItN (NilT : World → Value → Prop) : Prop where
  keep : ∀ {w w' p}, NilT w p → Below w.heap.size w w' → NilT w' p
  nil : ∀ w : World, NilT w (.pointer none)
  zero : ∀ w : World, NilT (w.alloc (.cells #[.pointer none] 50)) (.pointer (some ⟨w.heap.size, 0, none⟩))
  first : ∀ (w : World) (p : Value) (day : Int), NilT w p → Calls Try.prog 9 #[p, .int .i64 day] w fun e w' => e = .returned (.tuple #[.agg #[.int .i64 0, .int .i64 0, .int .i64 0], .bool false]) ∧ Below w.heap.size w w'
  last : ∀ (w : World) (p : Value) (day : Int), NilT w p → Calls Try.prog 10 #[p, .int .i64 day] w fun e w' => e = .returned (.tuple #[.agg #[.int .i64 0, .int .i64 0, .int .i64 0], .bool false]) ∧ Below w.heap.size w w'
  stab : ∀ (w : World) (p : Value) (day : Int), NilT w p → Calls Try.prog 14 #[p, .int .i64 day] w (RetItm 30 w [])
  over : ∀ (w : World) (p : Value) (a b : Int), NilT w p → Calls Try.prog 16 #[p, .agg #[.int .i64 a, .int .i64 b]] w (RetItm 30 w [])
set_option maxHeartbeats 4000000 in
theorem itnone_any {Rep : RepT} (K : ItK Rep) {NilT : World → Value → Prop} (V : ItN NilT) (day a b : Int) (w : World) : Calls Try.prog 5 #[.int .i64 day, .agg #[.int .i64 a, .int .i64 b]] w fun e w' => e = .returned (.bool true) ∧ Below w.heap.size w w' := by
  have HK := Lib.hid K
  have HV := Lib.hid V
  clear K V
  have S0 := (((Mem.start w).push #[.int .i64 a, .int .i64 b] 24).push #[.pointer none] 50).push #[.pointer none, .pointer (some ⟨w.heap.size + 1, 0, none⟩)] 33
  simp only [size_alloc] at S0
  have HZ : NilT (((w.alloc (.cells #[.int .i64 a, .int .i64 b] 24)).alloc (.cells #[.pointer none] 50)).alloc (.cells #[.pointer none, .pointer (some ⟨w.heap.size + 1, 0, none⟩)] 33)) (.pointer (some ⟨w.heap.size + 1, 0, none⟩)) := by have h := HV.out.zero (w.alloc (.cells #[.int .i64 a, .int .i64 b] 24)); simp only [size_alloc] at h; exact HV.out.keep h ((Below.refl _ _).alloc (Nat.le_refl _) _)
  have HZ := Lib.hid HZ
  have HS := Lib.hid S0
  clear S0
  go_enter Try.func5, Try.ntmps5
  have y0 := HS.out.c 0 0 rfl rfl; have y1 := HS.out.c 0 1 rfl rfl; have z0 := HS.out.c 2 0 rfl rfl; have z1 := HS.out.c 2 1 rfl rfl
  go_wp2_with fail
  refine wp_loop_rounds 3 ?_
  clear y0 y1 z0 z1
  rw [rounds_succ]
  have y0 := HS.out.c 0 0 rfl rfl; have y1 := HS.out.c 0 1 rfl rfl; have z0 := HS.out.c 2 0 rfl rfl; have z1 := HS.out.c 2 1 rfl rfl
  go_wp2_with fail
  refine (HV.out.first _ (.pointer none) day (HV.out.nil _)).mono ?_
  rintro e w1 ⟨rfl, b1⟩
  clear y0 y1 z0 z1
  have HS2 := Lib.hid (HS.out.keep b1)
  have HZ2 := Lib.hid (HV.out.keep HZ.out b1)
  clear HS HZ
  have HS := HS2
  have HZ := HZ2
  clear HS2 HZ2
  clear b1
  have hk := (Below.refl w1.heap.size w1).alloc (Nat.le_refl _) (.cells #[.int .i64 0, .int .i64 0, .int .i64 0] 30)
  have HS2 := Lib.hid (HS.out.push #[.int .i64 0, .int .i64 0, .int .i64 0] 30)
  have HZ2 := Lib.hid (HV.out.keep HZ.out hk)
  clear HS HZ hk
  have HS := HS2
  have HZ := HZ2
  clear HS2 HZ2
  have y0 := HS.out.c 0 0 rfl rfl; have y1 := HS.out.c 0 1 rfl rfl; have z0 := HS.out.c 2 0 rfl rfl; have z1 := HS.out.c 2 1 rfl rfl
  go_wp2_with fail
  refine (HV.out.last _ (.pointer none) day (HV.out.nil _)).mono ?_
  rintro e w2 ⟨rfl, b1⟩
  clear y0 y1 z0 z1
  have HS2 := Lib.hid (HS.out.keep b1)
  have HZ2 := Lib.hid (HV.out.keep HZ.out b1)
  clear HS HZ
  have HS := HS2
  have HZ := HZ2
  clear HS2 HZ2
  clear b1
  have hk := (Below.refl w2.heap.size w2).alloc (Nat.le_refl _) (.cells #[.int .i64 0, .int .i64 0, .int .i64 0] 30)
  have HS2 := Lib.hid (HS.out.push #[.int .i64 0, .int .i64 0, .int .i64 0] 30)
  have HZ2 := Lib.hid (HV.out.keep HZ.out hk)
  clear HS HZ hk
  have HS := HS2
  have HZ := HZ2
  clear HS2 HZ2
  have y0 := HS.out.c 0 0 rfl rfl; have y1 := HS.out.c 0 1 rfl rfl; have z0 := HS.out.c 2 0 rfl rfl; have z1 := HS.out.c 2 1 rfl rfl
  have yl := (HS.out.b 0 rfl).sz
  go_upto_region 8 with fail
  refine wp_region_rel 16 (Ext (w2.alloc (.cells #[.int .i64 0, .int .i64 0, .int .i64 0] 30)))
    (fun i => List.getD [VE (.pointer none), VE (.int .i64 day), VSl 3 (cells3 []), VE (.int .i64 0), VE (.pointer none), VE (.agg #[.int .i64 a, .int .i64 b]), VSl 3 (cells3 []), VE (.int .i64 0), VE (.int .i64 0), VE (.bool false), VE (.bool false), VE (.bool false), VE (.bool false), VE (.bool false), VE (.bool false), VE (.bool false)] i (fun _ _ => False)) [] [0, 1, 3, 4, 7, 8, 9, 10, 11, 12, 13, 14, 15] (by kernel_rfl) (by kernel_rfl) (Ext.start (w2.alloc (.cells #[.int .i64 0, .int .i64 0, .int .i64 0] 30))) (fun _ _ h hb => h.grow hb)
    (stays_all (stays_cons (stays_VE _) (stays_cons (stays_VE _) (stays_cons (stays_VSl _ _) (stays_cons (stays_VE _) (stays_cons (stays_VE _) (stays_cons (stays_VE _) (stays_cons (stays_VSl _ _) (stays_cons (stays_VE _) (stays_cons (stays_VE _) (stays_cons (stays_VE _) (stays_cons (stays_VE _) (stays_cons (stays_VE _) (stays_cons (stays_VE _) (stays_cons (stays_VE _) (stays_cons (stays_VE _) (stays_cons (stays_VE _) stays_nil))))))))))))))))) ⟨?_, ?_, ?_, ?_, ?_, ?_, ?_, ?_, ?_, ?_, ?_, ?_, ?_, ?_, ?_, ?_, trivial⟩ ?_
  · intro ev wv hE hw hd
    refine ifw rfl (ifw rfl ?_)
    have v8 : ev (.tmp 8) = .pointer none := hE.tmp 8 rfl
    refine ⟨.pointer none, fun w => ?_, rfl⟩
    have e1 := hE.const; have e2 := hE.func; clear hE hd hw
    go_simp
  · intro ev wv hE hw hd
    refine ifw rfl (ifw rfl ?_)
    have v0 : ev (.tmp 0) = .int .i64 day := hE.tmp 0 rfl
    refine ⟨.int .i64 day, fun w => ?_, rfl⟩
    have e1 := hE.const; have e2 := hE.func; clear hE hd hw
    go_simp
  · intro ev wv hE hw hd
    refine ifw rfl (ifn rfl ?_)
    have v32 : ev (.tmp 32) = .pointer none := hd 0 (by decide)
    have v33 : ev (.tmp 33) = .int .i64 day := hd 1 (by decide)
    refine rel_call (f := 14) (args := #[.pointer none, .int .i64 day]) ?_ (HV.out.stab _ (.pointer none) day (HV.out.nil _)) ?_
    · have e0 := hE.func; have e1 := hE.const; clear hE hd hw
      go_simp
    · rintro e w' ⟨A, n, c, rfl, R, hb⟩
      exact ⟨_, rfl, hb, ⟨A, n, c, rfl, own_lies R⟩, fun h => by cases h⟩
  · intro ev wv hE hw hd
    refine ifw rfl (ifw rfl ?_)
    obtain ⟨xA2, xk2, xc2, v34, xR2⟩ : VSl 3 (cells3 []) (ev (.tmp 34)) wv := hd 2 (by decide)
    refine ⟨.int .i64 0, fun w => ?_, rfl⟩
    have e1 := hE.const; have e2 := hE.func; clear hE hd hw
    have hz : xk2 = 0 := by have h := Itm.count (show Itm _ _ _ _ [] from xR2); simpa using h.symm
    subst hz
    go_simp
  · intro ev wv hE hw hd
    refine ifw rfl (ifw rfl ?_)
    have v8 : ev (.tmp 8) = .pointer none := hE.tmp 8 rfl
    refine ⟨.pointer none, fun w => ?_, rfl⟩
    have e1 := hE.const; have e2 := hE.func; clear hE hd hw
    go_simp
  · intro ev wv hE hw hd
    refine ifw rfl (ifn rfl ?_)
    have v3 : ev (.tmp 3) = .pointer (some ⟨w.heap.size, 0, none⟩) := hE.tmp 3 rfl
    have kx := (Below.cell (p := ⟨w.heap.size, 0, none⟩) hw yl).trans y0
    have ky := (Below.cell (p := ⟨w.heap.size, 1, none⟩) hw yl).trans y1
    refine rel_val (u := .agg #[.int .i64 a, .int .i64 b]) (w' := wv) ?_ (Below.refl _ _) ⟨rfl, fun h => by cases h⟩
    have e1 := hE.const; clear hE hd hw
    go_simp
  · intro ev wv hE hw hd
    refine ifw rfl (ifn rfl ?_)
    have v36 : ev (.tmp 36) = .pointer none := hd 4 (by decide)
    have v37 : ev (.tmp 37) = .agg #[.int .i64 a, .int .i64 b] := hd 5 (by decide)
    refine rel_call (f := 16) (args := #[.pointer none, .agg #[.int .i64 a, .int .i64 b]]) ?_ (HV.out.over _ (.pointer none) a b (HV.out.nil _)) ?_
    · have e0 := hE.func; have e1 := hE.const; clear hE hd hw
      go_simp
    · rintro e w' ⟨A, n, c, rfl, R, hb⟩
      exact ⟨_, rfl, hb, ⟨A, n, c, rfl, own_lies R⟩, fun h => by cases h⟩
  · intro ev wv hE hw hd
    refine ifw rfl (ifw rfl ?_)
    obtain ⟨xA6, xk6, xc6, v38, xR6⟩ : VSl 3 (cells3 []) (ev (.tmp 38)) wv := hd 6 (by decide)
    refine ⟨.int .i64 0, fun w => ?_, rfl⟩
    have e1 := hE.const; have e2 := hE.func; clear hE hd hw
    have hz : xk6 = 0 := by have h := Itm.count (show Itm _ _ _ _ [] from xR6); simpa using h.symm
    subst hz
    go_simp
  · intro ev wv hE hw hd
    refine ifw rfl (ifw rfl ?_)
    have v35 : ev (.tmp 35) = .int .i64 0 := hd 3 (by decide)
    have v39 : ev (.tmp 39) = .int .i64 0 := hd 7 (by decide)
    refine ⟨.int .i64 0, fun w => ?_, rfl⟩
    have e1 := hE.const; have e2 := hE.func; clear hE hd hw
    have hw0 : IntKind.i64.wrap 0 = 0 := rfl
    go_simp
  · intro ev wv hE hw hd
    refine ifw rfl (ifw rfl ?_)
    have v40 : ev (.tmp 40) = .int .i64 0 := hd 8 (by decide)
    refine ⟨.bool false, fun w => ?_, rfl⟩
    have e1 := hE.const; have e2 := hE.func; clear hE hd hw
    go_simp
  · intro ev wv hE hw hd
    refine ifw rfl (ifw rfl ?_)
    have v41 : ev (.tmp 41) = .bool false := hd 9 (by decide)
    refine ⟨.bool false, fun w => ?_, rfl⟩
    have e1 := hE.const; have e2 := hE.func; clear hE hd hw
    go_simp
  · intro ev wv hE hw hd
    have vg : ev (.tmp 42) = .bool false := hd 10 (by decide)
    refine ifw (by show (yv (ev (.tmp 42)) == some false) = true; rw [vg]; rfl) (ifw rfl ?_)
    clear vg
    have v10 : ev (.tmp 10) = .bool false := hE.tmp 10 rfl
    refine ⟨.bool false, fun w => ?_, rfl⟩
    have e1 := hE.const; have e2 := hE.func; clear hE hd hw
    go_simp
  · intro ev wv hE hw hd
    refine ifw rfl (ifw rfl ?_)
    have v42 : ev (.tmp 42) = .bool false := hd 10 (by decide)
    have v43 : ev (.tmp 43) = .bool false := hd 11 (by decide)
    refine ⟨.bool false, fun w => ?_, rfl⟩
    have e1 := hE.const; have e2 := hE.func; clear hE hd hw
    go_simp
  · intro ev wv hE hw hd
    refine ifw rfl (ifw rfl ?_)
    have v44 : ev (.tmp 44) = .bool false := hd 12 (by decide)
    refine ⟨.bool false, fun w => ?_, rfl⟩
    have e1 := hE.const; have e2 := hE.func; clear hE hd hw
    go_simp
  · intro ev wv hE hw hd
    have vg : ev (.tmp 45) = .bool false := hd 13 (by decide)
    refine ifw (by show (yv (ev (.tmp 45)) == some false) = true; rw [vg]; rfl) (ifw rfl ?_)
    clear vg
    have v12 : ev (.tmp 12) = .bool false := hE.tmp 12 rfl
    refine ⟨.bool false, fun w => ?_, rfl⟩
    have e1 := hE.const; have e2 := hE.func; clear hE hd hw
    go_simp
  · intro ev wv hE hw hd
    refine ifw rfl (ifw rfl ?_)
    have v45 : ev (.tmp 45) = .bool false := hd 13 (by decide)
    have v46 : ev (.tmp 46) = .bool false := hd 14 (by decide)
    refine ⟨.bool false, fun w => ?_, rfl⟩
    have e1 := hE.const; have e2 := hE.func; clear hE hd hw
    go_simp
  · intro w3 hw
    intro v0 h0 _ v1 h1 _ v2 h2 _ v3 h3 _ v4 h4 _ v5 h5 _ v6 h6 _ v7 h7 _ v8 h8 _ v9 h9 _ v10 h10 _ v11 h11 _ v12 h12 _ v13 h13 _ v14 h14 _ v15 h15 _
    simp only [Act.put, List.setIfInBounds_toArray, List.set_cons_zero, List.set_cons_succ, List.drop_succ_cons, List.drop_zero]
    obtain rfl : v0 = _ := h0
    obtain rfl : v1 = _ := h1
    obtain ⟨xA2, xk2, xc2, rfl, xR2⟩ : VSl 3 (cells3 []) v2 w3 := h2
    obtain rfl : v3 = _ := h3
    obtain rfl : v4 = _ := h4
    obtain rfl : v5 = _ := h5
    obtain ⟨xA6, xk6, xc6, rfl, xR6⟩ : VSl 3 (cells3 []) v6 w3 := h6
    obtain rfl : v7 = _ := h7
    obtain rfl : v8 = _ := h8
    obtain rfl : v9 = _ := h9
    obtain rfl : v10 = _ := h10
    obtain rfl : v11 = _ := h11
    obtain rfl : v12 = _ := h12
    obtain rfl : v13 = _ := h13
    obtain rfl : v14 = _ := h14
    obtain rfl : v15 = _ := h15
    change wpList Try.prog _ _ _ _ w3
    clear y0 y1 z0 z1 yl
    have HS2 := Lib.hid (HS.out.keep hw)
    have HZ2 := Lib.hid (HV.out.keep HZ.out hw)
    clear HS HZ
    have HS := HS2
    have HZ := HZ2
    clear HS2 HZ2
    clear hw
    go_wp2_with fail
    refine calm_normal ?_
    have y0 := HS.out.c 0 0 rfl rfl; have y1 := HS.out.c 0 1 rfl rfl; have z0 := HS.out.c 2 0 rfl rfl; have z1 := HS.out.c 2 1 rfl rfl
    go_wp2_with fail
    clear y0 y1 z0 z1
    rw [rounds_succ]
    have y0 := HS.out.c 0 0 rfl rfl; have y1 := HS.out.c 0 1 rfl rfl; have z0 := HS.out.c 2 0 rfl rfl; have z1 := HS.out.c 2 1 rfl rfl
    go_wp2_with fail
    refine (HV.out.first _ (.pointer (some ⟨w.heap.size + 1, 0, none⟩)) day HZ.out).mono ?_
    rintro e w4 ⟨rfl, b1⟩
    clear y0 y1 z0 z1
    have HS2 := Lib.hid (HS.out.keep b1)
    have HZ2 := Lib.hid (HV.out.keep HZ.out b1)
    clear HS HZ
    have HS := HS2
    have HZ := HZ2
    clear HS2 HZ2
    clear b1
    have hk := (Below.refl w4.heap.size w4).alloc (Nat.le_refl _) (.cells #[.int .i64 0, .int .i64 0, .int .i64 0] 30)
    have HS2 := Lib.hid (HS.out.push #[.int .i64 0, .int .i64 0, .int .i64 0] 30)
    have HZ2 := Lib.hid (HV.out.keep HZ.out hk)
    clear HS HZ hk
    have HS := HS2
    have HZ := HZ2
    clear HS2 HZ2
    have y0 := HS.out.c 0 0 rfl rfl; have y1 := HS.out.c 0 1 rfl rfl; have z0 := HS.out.c 2 0 rfl rfl; have z1 := HS.out.c 2 1 rfl rfl
    go_wp2_with fail
    refine (HV.out.last _ (.pointer (some ⟨w.heap.size + 1, 0, none⟩)) day HZ.out).mono ?_
    rintro e w5 ⟨rfl, b1⟩
    clear y0 y1 z0 z1
    have HS2 := Lib.hid (HS.out.keep b1)
    have HZ2 := Lib.hid (HV.out.keep HZ.out b1)
    clear HS HZ
    have HS := HS2
    have HZ := HZ2
    clear HS2 HZ2
    clear b1
    have hk := (Below.refl w5.heap.size w5).alloc (Nat.le_refl _) (.cells #[.int .i64 0, .int .i64 0, .int .i64 0] 30)
    have HS2 := Lib.hid (HS.out.push #[.int .i64 0, .int .i64 0, .int .i64 0] 30)
    have HZ2 := Lib.hid (HV.out.keep HZ.out hk)
    clear HS HZ hk
    have HS := HS2
    have HZ := HZ2
    clear HS2 HZ2
    have y0 := HS.out.c 0 0 rfl rfl; have y1 := HS.out.c 0 1 rfl rfl; have z0 := HS.out.c 2 0 rfl rfl; have z1 := HS.out.c 2 1 rfl rfl
    have yl := (HS.out.b 0 rfl).sz
    go_upto_region 8 with fail
    refine wp_region_rel 16 (Ext (w5.alloc (.cells #[.int .i64 0, .int .i64 0, .int .i64 0] 30)))
      (fun i => List.getD [VE (.pointer (some ⟨w.heap.size + 1, 0, none⟩)), VE (.int .i64 day), VSl 3 (cells3 []), VE (.int .i64 0), VE (.pointer (some ⟨w.heap.size + 1, 0, none⟩)), VE (.agg #[.int .i64 a, .int .i64 b]), VSl 3 (cells3 []), VE (.int .i64 0), VE (.int .i64 0), VE (.bool false), VE (.bool false), VE (.bool false), VE (.bool false), VE (.bool false), VE (.bool false), VE (.bool false)] i (fun _ _ => False)) [] [0, 1, 3, 4, 7, 8, 9, 10, 11, 12, 13, 14, 15] (by kernel_rfl) (by kernel_rfl) (Ext.start (w5.alloc (.cells #[.int .i64 0, .int .i64 0, .int .i64 0] 30))) (fun _ _ h hb => h.grow hb)
      (stays_all (stays_cons (stays_VE _) (stays_cons (stays_VE _) (stays_cons (stays_VSl _ _) (stays_cons (stays_VE _) (stays_cons (stays_VE _) (stays_cons (stays_VE _) (stays_cons (stays_VSl _ _) (stays_cons (stays_VE _) (stays_cons (stays_VE _) (stays_cons (stays_VE _) (stays_cons (stays_VE _) (stays_cons (stays_VE _) (stays_cons (stays_VE _) (stays_cons (stays_VE _) (stays_cons (stays_VE _) (stays_cons (stays_VE _) stays_nil))))))))))))))))) ⟨?_, ?_, ?_, ?_, ?_, ?_, ?_, ?_, ?_, ?_, ?_, ?_, ?_, ?_, ?_, ?_, trivial⟩ ?_
    · intro ev wv hE hw hd
      refine ifw rfl (ifw rfl ?_)
      have v8 : ev (.tmp 8) = .pointer (some ⟨w.heap.size + 1, 0, none⟩) := hE.tmp 8 rfl
      refine ⟨.pointer (some ⟨w.heap.size + 1, 0, none⟩), fun w => ?_, rfl⟩
      have e1 := hE.const; have e2 := hE.func; clear hE hd hw
      go_simp
    · intro ev wv hE hw hd
      refine ifw rfl (ifw rfl ?_)
      have v0 : ev (.tmp 0) = .int .i64 day := hE.tmp 0 rfl
      refine ⟨.int .i64 day, fun w => ?_, rfl⟩
      have e1 := hE.const; have e2 := hE.func; clear hE hd hw
      go_simp
    · intro ev wv hE hw hd
      refine ifw rfl (ifn rfl ?_)
      have v32 : ev (.tmp 32) = .pointer (some ⟨w.heap.size + 1, 0, none⟩) := hd 0 (by decide)
      have v33 : ev (.tmp 33) = .int .i64 day := hd 1 (by decide)
      refine rel_call (f := 14) (args := #[.pointer (some ⟨w.heap.size + 1, 0, none⟩), .int .i64 day]) ?_ (HV.out.stab _ (.pointer (some ⟨w.heap.size + 1, 0, none⟩)) day (HV.out.keep HZ.out hw)) ?_
      · have e0 := hE.func; have e1 := hE.const; clear hE hd hw
        go_simp
      · rintro e w' ⟨A, n, c, rfl, R, hb⟩
        exact ⟨_, rfl, hb, ⟨A, n, c, rfl, own_lies R⟩, fun h => by cases h⟩
    · intro ev wv hE hw hd
      refine ifw rfl (ifw rfl ?_)
      obtain ⟨xA2, xk2, xc2, v34, xR2⟩ : VSl 3 (cells3 []) (ev (.tmp 34)) wv := hd 2 (by decide)
      refine ⟨.int .i64 0, fun w => ?_, rfl⟩
      have e1 := hE.const; have e2 := hE.func; clear hE hd hw
      have hz : xk2 = 0 := by have h := Itm.count (show Itm _ _ _ _ [] from xR2); simpa using h.symm
      subst hz
      go_simp
    · intro ev wv hE hw hd
      refine ifw rfl (ifw rfl ?_)
      have v8 : ev (.tmp 8) = .pointer (some ⟨w.heap.size + 1, 0, none⟩) := hE.tmp 8 rfl
      refine ⟨.pointer (some ⟨w.heap.size + 1, 0, none⟩), fun w => ?_, rfl⟩
      have e1 := hE.const; have e2 := hE.func; clear hE hd hw
      go_simp
    · intro ev wv hE hw hd
      refine ifw rfl (ifn rfl ?_)
      have v3 : ev (.tmp 3) = .pointer (some ⟨w.heap.size, 0, none⟩) := hE.tmp 3 rfl
      have kx := (Below.cell (p := ⟨w.heap.size, 0, none⟩) hw yl).trans y0
      have ky := (Below.cell (p := ⟨w.heap.size, 1, none⟩) hw yl).trans y1
      refine rel_val (u := .agg #[.int .i64 a, .int .i64 b]) (w' := wv) ?_ (Below.refl _ _) ⟨rfl, fun h => by cases h⟩
      have e1 := hE.const; clear hE hd hw
      go_simp
    · intro ev wv hE hw hd
      refine ifw rfl (ifn rfl ?_)
      have v36 : ev (.tmp 36) = .pointer (some ⟨w.heap.size + 1, 0, none⟩) := hd 4 (by decide)
      have v37 : ev (.tmp 37) = .agg #[.int .i64 a, .int .i64 b] := hd 5 (by decide)
      refine rel_call (f := 16) (args := #[.pointer (some ⟨w.heap.size + 1, 0, none⟩), .agg #[.int .i64 a, .int .i64 b]]) ?_ (HV.out.over _ (.pointer (some ⟨w.heap.size + 1, 0, none⟩)) a b (HV.out.keep HZ.out hw)) ?_
      · have e0 := hE.func; have e1 := hE.const; clear hE hd hw
        go_simp
      · rintro e w' ⟨A, n, c, rfl, R, hb⟩
        exact ⟨_, rfl, hb, ⟨A, n, c, rfl, own_lies R⟩, fun h => by cases h⟩
    · intro ev wv hE hw hd
      refine ifw rfl (ifw rfl ?_)
      obtain ⟨xA6, xk6, xc6, v38, xR6⟩ : VSl 3 (cells3 []) (ev (.tmp 38)) wv := hd 6 (by decide)
      refine ⟨.int .i64 0, fun w => ?_, rfl⟩
      have e1 := hE.const; have e2 := hE.func; clear hE hd hw
      have hz : xk6 = 0 := by have h := Itm.count (show Itm _ _ _ _ [] from xR6); simpa using h.symm
      subst hz
      go_simp
    · intro ev wv hE hw hd
      refine ifw rfl (ifw rfl ?_)
      have v35 : ev (.tmp 35) = .int .i64 0 := hd 3 (by decide)
      have v39 : ev (.tmp 39) = .int .i64 0 := hd 7 (by decide)
      refine ⟨.int .i64 0, fun w => ?_, rfl⟩
      have e1 := hE.const; have e2 := hE.func; clear hE hd hw
      have hw0 : IntKind.i64.wrap 0 = 0 := rfl
      go_simp
    · intro ev wv hE hw hd
      refine ifw rfl (ifw rfl ?_)
      have v40 : ev (.tmp 40) = .int .i64 0 := hd 8 (by decide)
      refine ⟨.bool false, fun w => ?_, rfl⟩
      have e1 := hE.const; have e2 := hE.func; clear hE hd hw
      go_simp
    · intro ev wv hE hw hd
      refine ifw rfl (ifw rfl ?_)
      have v41 : ev (.tmp 41) = .bool false := hd 9 (by decide)
      refine ⟨.bool false, fun w => ?_, rfl⟩
      have e1 := hE.const; have e2 := hE.func; clear hE hd hw
      go_simp
    · intro ev wv hE hw hd
      have vg : ev (.tmp 42) = .bool false := hd 10 (by decide)
      refine ifw (by show (yv (ev (.tmp 42)) == some false) = true; rw [vg]; rfl) (ifw rfl ?_)
      clear vg
      have v10 : ev (.tmp 10) = .bool false := hE.tmp 10 rfl
      refine ⟨.bool false, fun w => ?_, rfl⟩
      have e1 := hE.const; have e2 := hE.func; clear hE hd hw
      go_simp
    · intro ev wv hE hw hd
      refine ifw rfl (ifw rfl ?_)
      have v42 : ev (.tmp 42) = .bool false := hd 10 (by decide)
      have v43 : ev (.tmp 43) = .bool false := hd 11 (by decide)
      refine ⟨.bool false, fun w => ?_, rfl⟩
      have e1 := hE.const; have e2 := hE.func; clear hE hd hw
      go_simp
    · intro ev wv hE hw hd
      refine ifw rfl (ifw rfl ?_)
      have v44 : ev (.tmp 44) = .bool false := hd 12 (by decide)
      refine ⟨.bool false, fun w => ?_, rfl⟩
      have e1 := hE.const; have e2 := hE.func; clear hE hd hw
      go_simp
    · intro ev wv hE hw hd
      have vg : ev (.tmp 45) = .bool false := hd 13 (by decide)
      refine ifw (by show (yv (ev (.tmp 45)) == some false) = true; rw [vg]; rfl) (ifw rfl ?_)
      clear vg
      have v12 : ev (.tmp 12) = .bool false := hE.tmp 12 rfl
      refine ⟨.bool false, fun w => ?_, rfl⟩
      have e1 := hE.const; have e2 := hE.func; clear hE hd hw
      go_simp
    · intro ev wv hE hw hd
      refine ifw rfl (ifw rfl ?_)
      have v45 : ev (.tmp 45) = .bool false := hd 13 (by decide)
      have v46 : ev (.tmp 46) = .bool false := hd 14 (by decide)
      refine ⟨.bool false, fun w => ?_, rfl⟩
      have e1 := hE.const; have e2 := hE.func; clear hE hd hw
      go_simp
    · intro w6 hw
      intro v0 h0 _ v1 h1 _ v2 h2 _ v3 h3 _ v4 h4 _ v5 h5 _ v6 h6 _ v7 h7 _ v8 h8 _ v9 h9 _ v10 h10 _ v11 h11 _ v12 h12 _ v13 h13 _ v14 h14 _ v15 h15 _
      simp only [Act.put, List.setIfInBounds_toArray, List.set_cons_zero, List.set_cons_succ, List.drop_succ_cons, List.drop_zero]
      obtain rfl : v0 = _ := h0
      obtain rfl : v1 = _ := h1
      obtain ⟨xA2, xk2, xc2, rfl, xR2⟩ : VSl 3 (cells3 []) v2 w6 := h2
      obtain rfl : v3 = _ := h3
      obtain rfl : v4 = _ := h4
      obtain rfl : v5 = _ := h5
      obtain ⟨xA6, xk6, xc6, rfl, xR6⟩ : VSl 3 (cells3 []) v6 w6 := h6
      obtain rfl : v7 = _ := h7
      obtain rfl : v8 = _ := h8
      obtain rfl : v9 = _ := h9
      obtain rfl : v10 = _ := h10
      obtain rfl : v11 = _ := h11
      obtain rfl : v12 = _ := h12
      obtain rfl : v13 = _ := h13
      obtain rfl : v14 = _ := h14
      obtain rfl : v15 = _ := h15
      change wpList Try.prog _ _ _ _ w6
      clear y0 y1 z0 z1 yl
      have HS2 := Lib.hid (HS.out.keep hw)
      have HZ2 := Lib.hid (HV.out.keep HZ.out hw)
      clear HS HZ
      have HS := HS2
      have HZ := HZ2
      clear HS2 HZ2
      clear hw
      go_wp2_with fail
      refine calm_normal ?_
      have y0 := HS.out.c 0 0 rfl rfl; have y1 := HS.out.c 0 1 rfl rfl; have z0 := HS.out.c 2 0 rfl rfl; have z1 := HS.out.c 2 1 rfl rfl
      go_wp2_with fail
      clear y0 y1 z0 z1
      rw [rounds_succ]
      have y0 := HS.out.c 0 0 rfl rfl; have y1 := HS.out.c 0 1 rfl rfl; have z0 := HS.out.c 2 0 rfl rfl; have z1 := HS.out.c 2 1 rfl rfl
      go_wp2_with fail
      refine (itknown_any HK.out _).mono ?_
      rintro e w99 ⟨rfl, b1⟩
      have HB := Lib.hid ((HS.out.keep b1).bl)
      clear b1
      go_wp2_with fail
      go_ret
      exact ⟨rfl, HB.out⟩
end Go.Proofs.Ytolmkagedlcjiaa

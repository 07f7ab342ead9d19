/- corrodylaw10.known, ValueParses, ValueSame. -/
import Derived.Test.YtgojfonnikgboaaGreatDoorVlK
namespace Go.Proofs.YtgojfonnikgboaaGreatDoor
set_option maxRecDepth 8000
open Go.RowKit Go.PlainAid Corr
set_option linter.unusedVariables false
set_option linter.unusedSimpArgs false
theorem vkn_parse0 {G : World → Prop} (K : VlK G) (w : World) (g : G w) : Calls Tryz.prog 9 #[.string { data := #[116, 114, 117, 101] }] w fun e w' => e = .returned (.tuple #[vlV 2 0 0 0, .int .i64 0]) ∧ Below w.heap.size w w' := by
  have h := K.parse { data := #[116, 114, 117, 101] } w g (by decide)
  rw [show ({ data := #[116, 114, 117, 101] } : ByteArray).data.toList = [116, 114, 117, 101] from rfl, show readV [116, 114, 117, 101] = (2, 0, 0, 0, 0) by decide +kernel] at h
  exact h
theorem vkn_parse1 {G : World → Prop} (K : VlK G) (w : World) (g : G w) : Calls Tryz.prog 9 #[.string { data := #[45, 49, 46, 53] }] w fun e w' => e = .returned (.tuple #[vlV 1 (-15) 1 0, .int .i64 0]) ∧ Below w.heap.size w w' := by
  have h := K.parse { data := #[45, 49, 46, 53] } w g (by decide)
  rw [show ({ data := #[45, 49, 46, 53] } : ByteArray).data.toList = [45, 49, 46, 53] from rfl, show readV [45, 49, 46, 53] = (1, (-15), 1, 0, 0) by decide +kernel] at h
  exact h
theorem vkn_parse2 {G : World → Prop} (K : VlK G) (w : World) (g : G w) : Calls Tryz.prog 9 #[.string { data := #[100, 105, 118] }] w fun e w' => e = .returned (.tuple #[vlV 4 0 0 12, .int .i64 0]) ∧ Below w.heap.size w w' := by
  have h := K.parse { data := #[100, 105, 118] } w g (by decide)
  rw [show ({ data := #[100, 105, 118] } : ByteArray).data.toList = [100, 105, 118] from rfl, show readV [100, 105, 118] = (4, 0, 0, 12, 0) by decide +kernel] at h
  exact h
theorem vkn_parse3 {G : World → Prop} (K : VlK G) (w : World) (g : G w) : Calls Tryz.prog 9 #[.string { data := #[48, 49] }] w fun e w' => e = .returned (.tuple #[vlV 0 0 0 0, .int .i64 4]) ∧ Below w.heap.size w w' := by
  have h := K.parse { data := #[48, 49] } w g (by decide)
  rw [show ({ data := #[48, 49] } : ByteArray).data.toList = [48, 49] from rfl, show readV [48, 49] = (0, 0, 0, 0, 4) by decide +kernel] at h
  exact h
set_option maxHeartbeats 4000000 in
theorem vknown_any {G : World → Prop} (K : VlK G) (w : World) (g : G w) : Calls Tryz.prog 14 #[] w fun e w' => e = .returned (.bool true) ∧ Below w.heap.size w w' := by
  have HK := Lib.hid K
  have HG := Lib.hid g
  clear K g
  have S0 := Mem.start w
  go_enter Tryz.func14, Tryz.ntmps14
  go_wp2_with fail
  refine (vkn_parse0 HK.out _ (HK.out.keep _ _ HG.out S0.bl)).mono ?_
  rintro e w1 ⟨rfl, b1⟩
  have S1 := (S0.keep b1).push #[.int .u8 2, .int .i64 0, .int .i64 0, .int .i64 0] 26
  clear b1 S0
  go_wp2_with fail
  refine (vkn_parse1 HK.out _ (HK.out.keep _ _ HG.out S1.bl)).mono ?_
  rintro e w2 ⟨rfl, b2⟩
  have S2 := (S1.keep b2).push #[.int .u8 1, .int .i64 (-15), .int .i64 1, .int .i64 0] 26
  clear b2 S1
  go_wp2_with fail
  refine (vkn_parse2 HK.out _ (HK.out.keep _ _ HG.out S2.bl)).mono ?_
  rintro e w3 ⟨rfl, b3⟩
  have S3 := (S2.keep b3).push #[.int .u8 4, .int .i64 0, .int .i64 0, .int .i64 12] 26
  clear b3 S2
  go_wp2_with fail
  refine (vkn_parse3 HK.out _ (HK.out.keep _ _ HG.out S3.bl)).mono ?_
  rintro e w4 ⟨rfl, b4⟩
  have S4 := (S3.keep b4).push #[.int .u8 0, .int .i64 0, .int .i64 0, .int .i64 0] 26
  clear b4 S3
  go_upto_region 5 with fail
  refine wp_region_rel 30 (MemAt w (w4.alloc (.cells #[.int .u8 0, .int .i64 0, .int .i64 0, .int .i64 0] 26)).heap.size [(w1.heap.size, #[.int .u8 2, .int .i64 0, .int .i64 0, .int .i64 0]), (w2.heap.size, #[.int .u8 1, .int .i64 (-15), .int .i64 1, .int .i64 0]), (w3.heap.size, #[.int .u8 4, .int .i64 0, .int .i64 0, .int .i64 12]), (w4.heap.size, #[.int .u8 0, .int .i64 0, .int .i64 0, .int .i64 0])] [])
    (fun i => List.getD [VE (.int .i64 0), VE (.bool true), VE (.bool true), VE (.int .i64 0), VE (.bool true), VE (.bool true), VE (.bool true), VE (.int .i64 0), VE (.bool true), VE (.bool true), VE (.bool true), VE (.int .i64 4), VE (.bool true), VE (.bool true), VE (.bool true), VE (.agg #[.int .u8 2, .int .i64 0, .int .i64 0, .int .i64 0]), VE (.agg #[.int .u8 2, .int .i64 0, .int .i64 0, .int .i64 0]), VE (.bool true), VE (.bool true), VE (.bool true), VE (.agg #[.int .u8 1, .int .i64 (-15), .int .i64 1, .int .i64 0]), VE (.agg #[.int .i64 (-15), .int .i64 1]), VE (.agg #[.int .u8 1, .int .i64 (-15), .int .i64 1, .int .i64 0]), VE (.bool true), VE (.bool true), VE (.bool true), VE (.agg #[.int .u8 4, .int .i64 0, .int .i64 0, .int .i64 12]), VE (.agg #[.int .u8 4, .int .i64 0, .int .i64 0, .int .i64 12]), VE (.bool true), VE (.bool true)] i (fun _ _ => False)) [] [0, 1, 2, 3, 4, 5, 6, 7, 8, 9, 10, 11, 12, 13, 14, 17, 18, 19, 21, 22, 23, 24, 25, 27, 28, 29] (by kernel_rfl) (by kernel_rfl) S4.at (fun _ _ h hb => h.grow hb)
    (stays_all (stays_cons (stays_VE _) (stays_cons (stays_VE _) (stays_cons (stays_VE _) (stays_cons (stays_VE _) (stays_cons (stays_VE _) (stays_cons (stays_VE _) (stays_cons (stays_VE _) (stays_cons (stays_VE _) (stays_cons (stays_VE _) (stays_cons (stays_VE _) (stays_cons (stays_VE _) (stays_cons (stays_VE _) (stays_cons (stays_VE _) (stays_cons (stays_VE _) (stays_cons (stays_VE _) (stays_cons (stays_VE _) (stays_cons (stays_VE _) (stays_cons (stays_VE _) (stays_cons (stays_VE _) (stays_cons (stays_VE _) (stays_cons (stays_VE _) (stays_cons (stays_VE _) (stays_cons (stays_VE _) (stays_cons (stays_VE _) (stays_cons (stays_VE _) (stays_cons (stays_VE _) (stays_cons (stays_VE _) (stays_cons (stays_VE _) (stays_cons (stays_VE _) (stays_cons (stays_VE _) stays_nil))))))))))))))))))))))))))))))) ⟨?_, ?_, ?_, ?_, ?_, ?_, ?_, ?_, ?_, ?_, ?_, ?_, ?_, ?_, ?_, ?_, ?_, ?_, ?_, ?_, ?_, ?_, ?_, ?_, ?_, ?_, ?_, ?_, ?_, ?_, trivial⟩ ?_
  · intro ev wv hE hw hd
    refine ifw rfl (ifw rfl ?_)
    have v2 : ev (.tmp 2) = .int .i64 0 := hE.tmp 2 rfl
    refine ⟨.int .i64 0, fun w => ?_, rfl⟩
    have e1 := hE.const; have e2 := hE.func; clear hE hd hw
    go_simp
  · intro ev wv hE hw hd
    refine ifw rfl (ifw rfl ?_)
    have v25 : ev (.tmp 25) = .int .i64 0 := hd 0 (by decide)
    refine ⟨.bool true, fun w => ?_, rfl⟩
    have e1 := hE.const; have e2 := hE.func; clear hE hd hw
    go_simp
  · intro ev wv hE hw hd
    refine ifw rfl (ifw rfl ?_)
    have v26 : ev (.tmp 26) = .bool true := hd 1 (by decide)
    refine ⟨.bool true, fun w => ?_, rfl⟩
    have e1 := hE.const; have e2 := hE.func; clear hE hd hw
    go_simp
  · intro ev wv hE hw hd
    have vg : ev (.tmp 27) = .bool true := hd 2 (by decide)
    refine ifw (by show (yv (ev (.tmp 27)) == some true) = true; rw [vg]; rfl) (ifw rfl ?_)
    clear vg
    have v4 : ev (.tmp 4) = .int .i64 0 := hE.tmp 4 rfl
    refine ⟨.int .i64 0, fun w => ?_, rfl⟩
    have e1 := hE.const; have e2 := hE.func; clear hE hd hw
    go_simp
  · intro ev wv hE hw hd
    have vg : ev (.tmp 27) = .bool true := hd 2 (by decide)
    refine ifw (by show (yv (ev (.tmp 27)) == some true) = true; rw [vg]; rfl) (ifw rfl ?_)
    clear vg
    have v28 : ev (.tmp 28) = .int .i64 0 := hd 3 (by decide)
    refine ⟨.bool true, fun w => ?_, rfl⟩
    have e1 := hE.const; have e2 := hE.func; clear hE hd hw
    go_simp
  · intro ev wv hE hw hd
    refine ifw rfl (ifw rfl ?_)
    have v27 : ev (.tmp 27) = .bool true := hd 2 (by decide)
    have v29 : ev (.tmp 29) = .bool true := hd 4 (by decide)
    refine ⟨.bool true, fun w => ?_, rfl⟩
    have e1 := hE.const; have e2 := hE.func; clear hE hd hw
    go_simp
  · intro ev wv hE hw hd
    refine ifw rfl (ifw rfl ?_)
    have v30 : ev (.tmp 30) = .bool true := hd 5 (by decide)
    refine ⟨.bool true, fun w => ?_, rfl⟩
    have e1 := hE.const; have e2 := hE.func; clear hE hd hw
    go_simp
  · intro ev wv hE hw hd
    have vg : ev (.tmp 31) = .bool true := hd 6 (by decide)
    refine ifw (by show (yv (ev (.tmp 31)) == some true) = true; rw [vg]; rfl) (ifw rfl ?_)
    clear vg
    have v6 : ev (.tmp 6) = .int .i64 0 := hE.tmp 6 rfl
    refine ⟨.int .i64 0, fun w => ?_, rfl⟩
    have e1 := hE.const; have e2 := hE.func; clear hE hd hw
    go_simp
  · intro ev wv hE hw hd
    have vg : ev (.tmp 31) = .bool true := hd 6 (by decide)
    refine ifw (by show (yv (ev (.tmp 31)) == some true) = true; rw [vg]; rfl) (ifw rfl ?_)
    clear vg
    have v32 : ev (.tmp 32) = .int .i64 0 := hd 7 (by decide)
    refine ⟨.bool true, fun w => ?_, rfl⟩
    have e1 := hE.const; have e2 := hE.func; clear hE hd hw
    go_simp
  · intro ev wv hE hw hd
    refine ifw rfl (ifw rfl ?_)
    have v31 : ev (.tmp 31) = .bool true := hd 6 (by decide)
    have v33 : ev (.tmp 33) = .bool true := hd 8 (by decide)
    refine ⟨.bool true, fun w => ?_, rfl⟩
    have e1 := hE.const; have e2 := hE.func; clear hE hd hw
    go_simp
  · intro ev wv hE hw hd
    refine ifw rfl (ifw rfl ?_)
    have v34 : ev (.tmp 34) = .bool true := hd 9 (by decide)
    refine ⟨.bool true, fun w => ?_, rfl⟩
    have e1 := hE.const; have e2 := hE.func; clear hE hd hw
    go_simp
  · intro ev wv hE hw hd
    have vg : ev (.tmp 35) = .bool true := hd 10 (by decide)
    refine ifw (by show (yv (ev (.tmp 35)) == some true) = true; rw [vg]; rfl) (ifw rfl ?_)
    clear vg
    have v8 : ev (.tmp 8) = .int .i64 4 := hE.tmp 8 rfl
    refine ⟨.int .i64 4, fun w => ?_, rfl⟩
    have e1 := hE.const; have e2 := hE.func; clear hE hd hw
    go_simp
  · intro ev wv hE hw hd
    have vg : ev (.tmp 35) = .bool true := hd 10 (by decide)
    refine ifw (by show (yv (ev (.tmp 35)) == some true) = true; rw [vg]; rfl) (ifw rfl ?_)
    clear vg
    have v36 : ev (.tmp 36) = .int .i64 4 := hd 11 (by decide)
    refine ⟨.bool true, fun w => ?_, rfl⟩
    have e1 := hE.const; have e2 := hE.func; clear hE hd hw
    go_simp
  · intro ev wv hE hw hd
    refine ifw rfl (ifw rfl ?_)
    have v35 : ev (.tmp 35) = .bool true := hd 10 (by decide)
    have v37 : ev (.tmp 37) = .bool true := hd 12 (by decide)
    refine ⟨.bool true, fun w => ?_, rfl⟩
    have e1 := hE.const; have e2 := hE.func; clear hE hd hw
    go_simp
  · intro ev wv hE hw hd
    refine ifw rfl (ifw rfl ?_)
    have v38 : ev (.tmp 38) = .bool true := hd 13 (by decide)
    refine ⟨.bool true, fun w => ?_, rfl⟩
    have e1 := hE.const; have e2 := hE.func; clear hE hd hw
    go_simp
  · intro ev wv hE hw hd
    have vg : ev (.tmp 39) = .bool true := hd 14 (by decide)
    refine ifw (by show (yv (ev (.tmp 39)) == some true) = true; rw [vg]; rfl) (ifn rfl ?_)
    clear vg
    have v1 : ev (.tmp 1) = .pointer (some ⟨w1.heap.size, 0, none⟩) := hE.tmp 1 rfl
    have kx := hw.m.c 0 0 rfl rfl
    have ky := hw.m.c 0 1 rfl rfl
    have kz := hw.m.c 0 2 rfl rfl
    have ku := hw.m.c 0 3 rfl rfl
    refine rel_val (u := .agg #[.int .u8 2, .int .i64 0, .int .i64 0, .int .i64 0]) (w' := wv) ?_ (Below.refl _ _) ⟨rfl, fun h => by cases h⟩
    have e1 := hE.const; clear hE hd hw
    go_simp
  · intro ev wv hE hw hd
    have vg : ev (.tmp 39) = .bool true := hd 14 (by decide)
    refine ifw (by show (yv (ev (.tmp 39)) == some true) = true; rw [vg]; rfl) (ifn rfl ?_)
    clear vg
    refine rel_call (f := 12) (args := #[.bool true]) ?_ (HK.out.truth true _ (HK.out.keep _ _ HG.out hw.m.bl)) ?_
    · have e0 := hE.func; have e1 := hE.const; clear hE hd hw
      go_simp
    · rintro e w' ⟨rfl, hb⟩
      exact ⟨_, rfl, hb, rfl, fun h => by cases h⟩
  · intro ev wv hE hw hd
    have vg : ev (.tmp 39) = .bool true := hd 14 (by decide)
    refine ifw (by show (yv (ev (.tmp 39)) == some true) = true; rw [vg]; rfl) (ifw rfl ?_)
    clear vg
    have v40 : ev (.tmp 40) = .agg #[.int .u8 2, .int .i64 0, .int .i64 0, .int .i64 0] := hd 15 (by decide)
    have v41 : ev (.tmp 41) = .agg #[.int .u8 2, .int .i64 0, .int .i64 0, .int .i64 0] := hd 16 (by decide)
    refine ⟨.bool true, fun w => ?_, rfl⟩
    have e1 := hE.const; have e2 := hE.func; clear hE hd hw
    go_simp
  · intro ev wv hE hw hd
    refine ifw rfl (ifw rfl ?_)
    have v39 : ev (.tmp 39) = .bool true := hd 14 (by decide)
    have v42 : ev (.tmp 42) = .bool true := hd 17 (by decide)
    refine ⟨.bool true, fun w => ?_, rfl⟩
    have e1 := hE.const; have e2 := hE.func; clear hE hd hw
    go_simp
  · intro ev wv hE hw hd
    refine ifw rfl (ifw rfl ?_)
    have v43 : ev (.tmp 43) = .bool true := hd 18 (by decide)
    refine ⟨.bool true, fun w => ?_, rfl⟩
    have e1 := hE.const; have e2 := hE.func; clear hE hd hw
    go_simp
  · intro ev wv hE hw hd
    have vg : ev (.tmp 44) = .bool true := hd 19 (by decide)
    refine ifw (by show (yv (ev (.tmp 44)) == some true) = true; rw [vg]; rfl) (ifn rfl ?_)
    clear vg
    have v3 : ev (.tmp 3) = .pointer (some ⟨w2.heap.size, 0, none⟩) := hE.tmp 3 rfl
    have kx := hw.m.c 1 0 rfl rfl
    have ky := hw.m.c 1 1 rfl rfl
    have kz := hw.m.c 1 2 rfl rfl
    have ku := hw.m.c 1 3 rfl rfl
    refine rel_val (u := .agg #[.int .u8 1, .int .i64 (-15), .int .i64 1, .int .i64 0]) (w' := wv) ?_ (Below.refl _ _) ⟨rfl, fun h => by cases h⟩
    have e1 := hE.const; clear hE hd hw
    go_simp
  · intro ev wv hE hw hd
    have vg : ev (.tmp 44) = .bool true := hd 19 (by decide)
    refine ifw (by show (yv (ev (.tmp 44)) == some true) = true; rw [vg]; rfl) (ifw rfl ?_)
    clear vg
    refine ⟨.agg #[.int .i64 (-15), .int .i64 1], fun w => ?_, rfl⟩
    have e1 := hE.const; have e2 := hE.func; clear hE hd hw
    go_simp
  · intro ev wv hE hw hd
    have vg : ev (.tmp 44) = .bool true := hd 19 (by decide)
    refine ifw (by show (yv (ev (.tmp 44)) == some true) = true; rw [vg]; rfl) (ifw rfl ?_)
    clear vg
    have v46 : ev (.tmp 46) = .agg #[.int .i64 (-15), .int .i64 1] := hd 21 (by decide)
    refine ⟨.agg #[.int .u8 1, .int .i64 (-15), .int .i64 1, .int .i64 0], fun w => ?_, rfl⟩
    have e1 := hE.const; have e2 := hE.func; clear hE hd hw
    go_simp
  · intro ev wv hE hw hd
    have vg : ev (.tmp 44) = .bool true := hd 19 (by decide)
    refine ifw (by show (yv (ev (.tmp 44)) == some true) = true; rw [vg]; rfl) (ifw rfl ?_)
    clear vg
    have v45 : ev (.tmp 45) = .agg #[.int .u8 1, .int .i64 (-15), .int .i64 1, .int .i64 0] := hd 20 (by decide)
    have v47 : ev (.tmp 47) = .agg #[.int .u8 1, .int .i64 (-15), .int .i64 1, .int .i64 0] := hd 22 (by decide)
    refine ⟨.bool true, fun w => ?_, rfl⟩
    have e1 := hE.const; have e2 := hE.func; clear hE hd hw
    go_simp
  · intro ev wv hE hw hd
    refine ifw rfl (ifw rfl ?_)
    have v44 : ev (.tmp 44) = .bool true := hd 19 (by decide)
    have v48 : ev (.tmp 48) = .bool true := hd 23 (by decide)
    refine ⟨.bool true, fun w => ?_, rfl⟩
    have e1 := hE.const; have e2 := hE.func; clear hE hd hw
    go_simp
  · intro ev wv hE hw hd
    refine ifw rfl (ifw rfl ?_)
    have v49 : ev (.tmp 49) = .bool true := hd 24 (by decide)
    refine ⟨.bool true, fun w => ?_, rfl⟩
    have e1 := hE.const; have e2 := hE.func; clear hE hd hw
    go_simp
  · intro ev wv hE hw hd
    have vg : ev (.tmp 50) = .bool true := hd 25 (by decide)
    refine ifw (by show (yv (ev (.tmp 50)) == some true) = true; rw [vg]; rfl) (ifn rfl ?_)
    clear vg
    have v5 : ev (.tmp 5) = .pointer (some ⟨w3.heap.size, 0, none⟩) := hE.tmp 5 rfl
    have kx := hw.m.c 2 0 rfl rfl
    have ky := hw.m.c 2 1 rfl rfl
    have kz := hw.m.c 2 2 rfl rfl
    have ku := hw.m.c 2 3 rfl rfl
    refine rel_val (u := .agg #[.int .u8 4, .int .i64 0, .int .i64 0, .int .i64 12]) (w' := wv) ?_ (Below.refl _ _) ⟨rfl, fun h => by cases h⟩
    have e1 := hE.const; clear hE hd hw
    go_simp
  · intro ev wv hE hw hd
    have vg : ev (.tmp 50) = .bool true := hd 25 (by decide)
    refine ifw (by show (yv (ev (.tmp 50)) == some true) = true; rw [vg]; rfl) (ifw rfl ?_)
    clear vg
    refine ⟨.agg #[.int .u8 4, .int .i64 0, .int .i64 0, .int .i64 12], fun w => ?_, rfl⟩
    have e1 := hE.const; have e2 := hE.func; clear hE hd hw
    go_simp
  · intro ev wv hE hw hd
    have vg : ev (.tmp 50) = .bool true := hd 25 (by decide)
    refine ifw (by show (yv (ev (.tmp 50)) == some true) = true; rw [vg]; rfl) (ifw rfl ?_)
    clear vg
    have v51 : ev (.tmp 51) = .agg #[.int .u8 4, .int .i64 0, .int .i64 0, .int .i64 12] := hd 26 (by decide)
    have v52 : ev (.tmp 52) = .agg #[.int .u8 4, .int .i64 0, .int .i64 0, .int .i64 12] := hd 27 (by decide)
    refine ⟨.bool true, fun w => ?_, rfl⟩
    have e1 := hE.const; have e2 := hE.func; clear hE hd hw
    go_simp
  · intro ev wv hE hw hd
    refine ifw rfl (ifw rfl ?_)
    have v50 : ev (.tmp 50) = .bool true := hd 25 (by decide)
    have v53 : ev (.tmp 53) = .bool true := hd 28 (by decide)
    refine ⟨.bool true, fun w => ?_, rfl⟩
    have e1 := hE.const; have e2 := hE.func; clear hE hd hw
    go_simp
  · intro wz hw
    intro v0 h0 _ v1 h1 _ v2 h2 _ v3 h3 _ v4 h4 _ v5 h5 _ v6 h6 _ v7 h7 _ v8 h8 _ v9 h9 _ v10 h10 _ v11 h11 _ v12 h12 _ v13 h13 _ v14 h14 _ v15 h15 _ v16 h16 _ v17 h17 _ v18 h18 _ v19 h19 _ v20 h20 _ v21 h21 _ v22 h22 _ v23 h23 _ v24 h24 _ v25 h25 _ v26 h26 _ v27 h27 _ v28 h28 _ v29 h29 _
    simp only [Act.put, List.setIfInBounds_toArray, List.set_cons_zero, List.set_cons_succ, List.drop_succ_cons, List.drop_zero]
    obtain rfl : v0 = _ := h0
    obtain rfl : v1 = _ := h1
    obtain rfl : v2 = _ := h2
    obtain rfl : v3 = _ := h3
    obtain rfl : v4 = _ := h4
    obtain rfl : v5 = _ := h5
    obtain rfl : v6 = _ := h6
    obtain rfl : v7 = _ := h7
    obtain rfl : v8 = _ := h8
    obtain rfl : v9 = _ := h9
    obtain rfl : v10 = _ := h10
    obtain rfl : v11 = _ := h11
    obtain rfl : v12 = _ := h12
    obtain rfl : v13 = _ := h13
    obtain rfl : v14 = _ := h14
    obtain rfl : v15 = _ := h15
    obtain rfl : v16 = _ := h16
    obtain rfl : v17 = _ := h17
    obtain rfl : v18 = _ := h18
    obtain rfl : v19 = _ := h19
    obtain rfl : v20 = _ := h20
    obtain rfl : v21 = _ := h21
    obtain rfl : v22 = _ := h22
    obtain rfl : v23 = _ := h23
    obtain rfl : v24 = _ := h24
    obtain rfl : v25 = _ := h25
    obtain rfl : v26 = _ := h26
    obtain rfl : v27 = _ := h27
    obtain rfl : v28 = _ := h28
    obtain rfl : v29 = _ := h29
    change wpList Tryz.prog _ _ _ _ wz
    have HB := Lib.hid hw.m.bl
    clear hw S4
    go_wp2_with fail
    refine calm_normal ?_
    go_wp2_with fail
    go_ret
    exact ⟨rfl, HB.out⟩
end Go.Proofs.YtgojfonnikgboaaGreatDoor

/- The law DatetextTexts. (Written by wip/gen/gendtl.py.) -/
import Derived.Test.YtmdmhookhkhdoaaDoorDtLaws
import Derived.Test.YtmdmhookhkhdoaaDoorRelMem
namespace Go.Proofs.YtmdmhookhkhdoaaDoor
set_option maxRecDepth 8000
open Go.RowKit Go.PlainAid Corr
set_option linter.unusedVariables false
set_option linter.unusedSimpArgs false
set_option maxHeartbeats 4000000 in
theorem dtexts_any (n a b : Int) (w : World) (g : DV w) (q1 : -9223372036854775808 ≤ a) (q2 : b ≤ 9223372036854775807) : Calls Tryd.prog 3 #[.int .i64 n, .agg #[.int .i64 a, .int .i64 b]] w fun e w' => e = .returned (.bool true) ∧ Below w.heap.size w w' := by
  have HP := Lib.hid (fun w g => ptext_any n w g)
  have HR := Lib.hid (fun w => dtext_any n w)
  have HS := Lib.hid (fun w g => pspan_any a b w g q1 q2)
  have HT := Lib.hid (fun w => dspan_any a b w)
  obtain ⟨s, hs, hs1, hs2⟩ := text_read n
  obtain ⟨t, ht, ht1, ht2⟩ := span_read a b
  rw [hs] at HP HR
  rw [ht] at HS HT
  have HU := Lib.hid (fun w g => pparse_any s w g hs1)
  have HV := Lib.hid (fun w g => pps_any t w g ht1)
  obtain ⟨E, hE⟩ : ∃ z, pdE s.data.toList = z := ⟨_, rfl⟩
  obtain ⟨m, hm⟩ : ∃ z, pdN s.data.toList = z := ⟨_, rfl⟩
  obtain ⟨F, hF⟩ : ∃ z, psE t.data.toList = z := ⟨_, rfl⟩
  obtain ⟨c, hc⟩ : ∃ z, psA t.data.toList = z := ⟨_, rfl⟩
  obtain ⟨d, hd⟩ : ∃ z, psB t.data.toList = z := ⟨_, rfl⟩
  rw [hE, hm] at HU hs2
  rw [hF, hc, hd] at HV ht2
  have qs : (s.toList != s.toList) = false := by simp
  have qt : (t.toList != t.toList) = false := by simp
  have HK := Lib.hid (fun (w' : World) (b : Below w.heap.size w w') => dknown_any w' (g.keep b))
  have HS2 := Lib.hid hs2
  have HT2 := Lib.hid ht2
  clear hs ht hs1 ht1 hE hm hF hc hd hs2 ht2
  have S0 := (Mem.start w).push #[.int .i64 a, .int .i64 b] 23
  go_enter Tryd.func3, Tryd.ntmps3
  go_upto_region 1 with fail
  refine wp_region_rel 6 (MemAt w (w.alloc (.cells #[.int .i64 a, .int .i64 b] 23)).heap.size [(w.heap.size, #[.int .i64 a, .int .i64 b])] [])
    (fun i => List.getD [VE (.int .i64 n), VE (.string s), VE (.agg #[.int .i64 a, .int .i64 b]), VE (.string t), VE (.string s), VE (.string t)] i (fun _ _ => False)) [] [0, 4, 5] (by kernel_rfl) (by kernel_rfl) S0.at (fun _ _ h hb => h.grow hb)
    (stays_all (stays_cons (stays_VE _) (stays_cons (stays_VE _) (stays_cons (stays_VE _) (stays_cons (stays_VE _) (stays_cons (stays_VE _) (stays_cons (stays_VE _) stays_nil))))))) ⟨?_, ?_, ?_, ?_, ?_, ?_, trivial⟩ ?_
  · intro ev wv hE hw hd
    refine ifw rfl (ifw rfl ?_)
    have v0 : ev (.tmp 0) = .int .i64 n := hE.tmp 0 rfl
    refine ⟨.int .i64 n, fun w => ?_, rfl⟩
    have e1 := hE.const; have e2 := hE.func; clear hE hd hw
    go_simp
  · intro ev wv hE hw hd
    refine ifw rfl (ifn rfl ?_)
    have v11 : ev (.tmp 11) = .int .i64 n := hd 0 (by decide)
    refine rel_call (f := 6) (args := #[.int .i64 n]) ?_ (HP.out _ (g.keep hw.m.bl)) ?_
    · have e0 := hE.func; have e1 := hE.const; clear hE hd hw
      go_simp
    · rintro e w' ⟨rfl, hb⟩
      exact ⟨_, rfl, hb, rfl, fun h => by cases h⟩
  · intro ev wv hE hw hd
    refine ifw rfl (ifn rfl ?_)
    have v3 : ev (.tmp 3) = .pointer (some ⟨w.heap.size, 0, none⟩) := hE.tmp 3 rfl
    have kx := hw.m.c 0 0 rfl rfl
    have ky := hw.m.c 0 1 rfl rfl
    refine rel_val (u := .agg #[.int .i64 a, .int .i64 b]) (w' := wv) ?_ (Below.refl _ _) ⟨rfl, fun h => by cases h⟩
    have e1 := hE.const; clear hE hd hw
    go_simp
  · intro ev wv hE hw hd
    refine ifw rfl (ifn rfl ?_)
    have v13 : ev (.tmp 13) = .agg #[.int .i64 a, .int .i64 b] := hd 2 (by decide)
    refine rel_call (f := 7) (args := #[.agg #[.int .i64 a, .int .i64 b]]) ?_ (HS.out _ (g.keep hw.m.bl)) ?_
    · have e0 := hE.func; have e1 := hE.const; clear hE hd hw
      go_simp
    · rintro e w' ⟨rfl, hb⟩
      exact ⟨_, rfl, hb, rfl, fun h => by cases h⟩
  · intro ev wv hE hw hd
    refine ifw rfl (ifw rfl ?_)
    have v12 : ev (.tmp 12) = .string s := hd 1 (by decide)
    refine ⟨.string s, fun w => ?_, rfl⟩
    have e1 := hE.const; have e2 := hE.func; clear hE hd hw
    go_simp
  · intro ev wv hE hw hd
    refine ifw rfl (ifw rfl ?_)
    have v14 : ev (.tmp 14) = .string t := hd 3 (by decide)
    refine ⟨.string t, fun w => ?_, rfl⟩
    have e1 := hE.const; have e2 := hE.func; clear hE hd hw
    go_simp
  · intro wz hw
    intro v0 h0 _ v1 h1 _ v2 h2 _ v3 h3 _ v4 h4 _ v5 h5 _
    simp only [Act.put, List.setIfInBounds_toArray, List.set_cons_zero, List.set_cons_succ, List.drop_succ_cons, List.drop_zero]
    obtain rfl : v0 = _ := h0
    obtain rfl : v1 = _ := h1
    obtain rfl : v2 = _ := h2
    obtain rfl : v3 = _ := h3
    obtain rfl : v4 = _ := h4
    obtain rfl : v5 = _ := h5
    change wpList Tryd.prog _ _ _ _ wz
    have S1 := hw.m
    clear hw S0
    go_wp2_with fail
    refine calm_normal ?_
    go_wp2_with fail
    refine (HR.out _).mono ?_
    rintro e w3 ⟨rfl, b3⟩
    have S3 := S1.keep b3
    have za := S3.c 0 0 rfl rfl; have zb := S3.c 0 1 rfl rfl
    clear b3 S1
    go_wp2_with fail
    refine (HT.out _).mono ?_
    rintro e w4 ⟨rfl, b4⟩
    have S4 := S3.keep b4
    have G4 := Lib.hid (g.keep S4.bl)
    clear b4 S3 za zb
    go_wp2_with fail
    refine (HU.out _ G4.out).mono ?_
    rintro e w5 ⟨rfl, b5⟩
    have S5 := S4.keep b5
    have G5 := Lib.hid (g.keep S5.bl)
    clear b5 G4 S4
    go_wp2_with fail
    refine (HV.out _ G5.out).mono ?_
    rintro e w6 ⟨rfl, b6⟩
    have S6 := (S5.keep b6).push #[.int .i64 c, .int .i64 d] 23
    clear b6 G5 S5
    have HB := Lib.hid S6.bl
    have za := S6.c 0 0 rfl rfl; have zb := S6.c 0 1 rfl rfl; have zc := S6.c 1 0 rfl rfl; have zd := S6.c 1 1 rfl rfl
    clear S6
    have HS3 := HS2.out
    have HT3 := HT2.out
    clear HS2 HT2 HP HR HS HT HU HV
    rcases HS3 with ⟨s1, rfl, rfl⟩ | ⟨s1, rfl, rfl⟩ <;> rcases HT3 with ⟨t1, rfl, rfl, rfl⟩ | ⟨t1, rfl, rfl, rfl⟩
    all_goals
      go_wp2_with fail
      refine (HK.out _ HB.out).mono ?_
      rintro e w6 ⟨rfl, hb⟩
      have HB6 := Lib.hid (HB.out.trans (hb.mono HB.out.size))
      clear hb
      go_wp2_with fail
      go_ret
      exact ⟨rfl, HB6.out⟩
end Go.Proofs.YtmdmhookhkhdoaaDoor

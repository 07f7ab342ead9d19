/- Package value: May, Text. (Written by wip/gen/genvlp.py.) -/
import Derived.Test.YtgojfonnikgboaaGreatDoorVlP1
import Derived.Test.YtgojfonnikgboaaGreatDoorRowRel
namespace Corr
set_option maxRecDepth 8000
open Go Go.RowKit
/-- The value is a map of the words. -/
def VWd (v : Value) (w : World) : Prop := ∃ b, v = .map (some b) ∧ WordsAt b w
theorem stays_VWd (v : Value) (w w' : World) (h : VWd v w) (hb : Below w.heap.size w w') : VWd v w' := by
  obtain ⟨b, h1, h2⟩ := h; exact ⟨b, h1, h2.keep hb⟩
end Corr
namespace Go.Proofs.YtgojfonnikgboaaGreatDoor
set_option maxRecDepth 8000
open Go.RowKit Corr
set_option linter.unusedVariables false
set_option linter.unusedSimpArgs false
theorem words_vwd (w : World) : Calls Tryz.prog 19 #[] w fun e w' => (∃ u, e = .returned u ∧ VWd u w') ∧ Below w.heap.size w w' :=
  (words_any w).mono fun e w' ⟨b, _, he, hW, hb⟩ => ⟨⟨_, he, b, rfl, hW⟩, hb⟩
theorem look_t {w : World} {b : Nat} (K C S E : Int) (h : WordsAt b w) : (Instr.lookup 43 (.map (some b)) (vlV K C S E) true).run Tryz.prog w = .ok (.tuple #[.agg #[.string ⟨(wordT K C S E).toArray⟩], .bool (wordB K C S E)]) w := by
  obtain ⟨l, hl, hm⟩ := h
  have h1 := look_val K C S E true hl
  rw [(look_words hm).1, (look_words hm).2, if_pos rfl] at h1
  exact h1
theorem look_f {w : World} {b : Nat} (K C S E : Int) (h : WordsAt b w) : (Instr.lookup 43 (.map (some b)) (vlV K C S E) false).run Tryz.prog w = .ok (.agg #[.string ⟨(wordT K C S E).toArray⟩]) w := by
  obtain ⟨l, hl, hm⟩ := h
  have h1 := look_val K C S E false hl
  rw [(look_words hm).1, if_neg (by decide)] at h1
  exact h1
set_option maxHeartbeats 4000000 in
theorem may_any (K C S E : Int) (w : World) (h1 : -9223372036854775808 ≤ C) (h2 : C ≤ 9223372036854775807) : Calls Tryz.prog 6 #[vlV K C S E] w fun e w' => e = .returned (.bool (mayV K C S E)) ∧ Below w.heap.size w w' := by
  have HN := Lib.hid (fun w => isnum_any K C S E w h1 h2)
  have HF := Lib.hid (may_is K C S E)
  have HLK := Lib.hid (fun (w : World) (b : Nat) (h : WordsAt b w) => look_t K C S E h)
  clear h1 h2
  have S1 := (Mem.start w).push #[.int .u8 K, .int .i64 C, .int .i64 S, .int .i64 E] 26
  generalize wordB K C S E = bb at *
  generalize (⟨(wordT K C S E).toArray⟩ : ByteArray) = tt at *
  go_enter Tryz.func6, Tryz.ntmps6
  go_upto_region 1 with fail
  refine wp_region_rel 7 (MemAt w (w.alloc (.cells #[.int .u8 K, .int .i64 C, .int .i64 S, .int .i64 E] 26)).heap.size [(w.heap.size, #[.int .u8 K, .int .i64 C, .int .i64 S, .int .i64 E])] [])
    (fun i => List.getD [VWd, VE (vlV K C S E), VE (.tuple #[.agg #[.string tt], .bool bb]), VE (.tuple #[.agg #[.string tt], .bool bb]), VE (.agg #[.string tt]), VE (.bool bb), VA ((w.alloc (.cells #[.int .u8 K, .int .i64 C, .int .i64 S, .int .i64 E] 26)).heap.size) #[.string ⟨#[]⟩]] i (fun _ _ => False)) [6] [3, 4, 5] (by kernel_rfl) (by kernel_rfl) S1.at (fun _ _ h hb => h.grow hb)
    (stays_all (stays_cons (stays_VWd) (stays_cons (stays_VE _) (stays_cons (stays_VE _) (stays_cons (stays_VE _) (stays_cons (stays_VE _) (stays_cons (stays_VE _) (stays_cons (stays_VA _ _) stays_nil)))))))) ⟨?_, ?_, ?_, ?_, ?_, ?_, ?_, trivial⟩ ?_
  · intro ev wv hE hw hd
    refine ifw rfl (ifn rfl ?_)
    refine rel_call (f := 19) (args := #[]) ?_ (words_vwd wv) ?_
    · have e0 := hE.func; have e1 := hE.const; clear hE hd hw
      go_simp
    · rintro e w' ⟨⟨u, he, hu⟩, hb⟩
      exact ⟨u, he, hb, hu, fun h => by cases h⟩
  · intro ev wv hE hw hd
    refine ifw rfl (ifn rfl ?_)
    have v1 : ev (.tmp 1) = .pointer (some ⟨w.heap.size, 0, none⟩) := hE.tmp 1 rfl
    have kx := hw.m.c 0 0 rfl rfl
    have ky := hw.m.c 0 1 rfl rfl
    have kz := hw.m.c 0 2 rfl rfl
    have ku := hw.m.c 0 3 rfl rfl
    refine rel_val (u := vlV K C S E) (w' := wv) ?_ (Below.refl _ _) ⟨rfl, fun h => by cases h⟩
    have e1 := hE.const; clear hE hd hw
    go_simp
  · intro ev wv hE hw hd
    refine ifw rfl (ifn rfl ?_)
    have p0 : VWd (ev (.tmp 6)) wv := hd 0 (by decide)
    have v7 : ev (.tmp 7) = vlV K C S E := hd 1 (by decide)
    obtain ⟨b, v8, hW⟩ : VWd (ev (.tmp 6)) wv := hd 0 (by decide)
    have hlk := HLK.out wv b hW
    refine rel_val (u := .tuple #[.agg #[.string tt], .bool bb]) (w' := wv) ?_ (Below.refl _ _) ⟨rfl, fun h => by cases h⟩
    have e1 := hE.const; clear hE hd hw
    go_simp
  · intro ev wv hE hw hd
    refine ifw rfl (ifw rfl ?_)
    have v8 : ev (.tmp 8) = .tuple #[.agg #[.string tt], .bool bb] := hd 2 (by decide)
    refine ⟨.tuple #[.agg #[.string tt], .bool bb], fun w => ?_, rfl⟩
    have e1 := hE.const; have e2 := hE.func; clear hE hd hw
    go_simp
  · intro ev wv hE hw hd
    refine ifw rfl (ifw rfl ?_)
    have v5 : ev (.tmp 5) = .tuple #[.agg #[.string tt], .bool bb] := hd 3 (by decide)
    refine ⟨.agg #[.string tt], fun w => ?_, rfl⟩
    have e1 := hE.const; have e2 := hE.func; clear hE hd hw
    go_simp
  · intro ev wv hE hw hd
    refine ifw rfl (ifw rfl ?_)
    have v5 : ev (.tmp 5) = .tuple #[.agg #[.string tt], .bool bb] := hd 3 (by decide)
    refine ⟨.bool bb, fun w => ?_, rfl⟩
    have e1 := hE.const; have e2 := hE.func; clear hE hd hw
    go_simp
  · intro ev wv hE hw hd
    refine ifw rfl (ifn rfl ?_)
    refine rel_val (u := .pointer (some ⟨wv.heap.size, 0, none⟩)) (w' := wv.alloc (.cells #[.string ⟨#[]⟩] 42)) ?_ ((Below.refl _ _).alloc (Nat.le_refl _) _) ⟨⟨_, rfl, Blk.new _ _ _, hw.h⟩, fun _ => ⟨_, rfl, Nat.le_refl _, by simp⟩⟩
    clear hE hd hw
    go_simp
  · intro wz hw
    intro v0 h0 _ v1 h1 _ v2 h2 _ v3 h3 _ v4 h4 _ v5 h5 _ v6 h6 n6
    simp only [Act.put, List.setIfInBounds_toArray, List.set_cons_zero, List.set_cons_succ, List.drop_succ_cons, List.drop_zero]
    have p0 : VWd v0 wz := h0
    obtain rfl : v1 = _ := h1
    obtain rfl : v2 = _ := h2
    obtain rfl : v3 = _ := h3
    obtain rfl : v4 = _ := h4
    obtain rfl : v5 = _ := h5
    obtain ⟨xg6, rfl, xB6, xl6⟩ : VA ((w.alloc (.cells #[.int .u8 K, .int .i64 C, .int .i64 S, .int .i64 E] 26)).heap.size) #[.string ⟨#[]⟩] v6 wz := h6
    change wpList Tryz.prog _ _ _ _ wz
    have hS := hw.m.join S1 xB6 xl6
    have b0 := hw.m.c 0 0 rfl rfl
    have b1 := hw.m.c 0 1 rfl rfl
    have b2 := hw.m.c 0 2 rfl rfl
    have b3 := hw.m.c 0 3 rfl rfl
    have hlt : w.heap.size < xg6 := by have := xl6; simp only [size_alloc] at this; omega
    have hne : ¬ w.heap.size = xg6 := by omega
    have hne2 : ¬ xg6 = w.heap.size := by omega
    have c0 := hS.c 1 0 rfl rfl
    have f0 := hS.f 1 0 rfl
    have HS := Lib.hid (hS.set0 1 rfl 0 (.string tt)).bl
    clear hS hw xB6 xl6 n6 h0 p0 hlt S1 HLK
    go_wp2_with fail
    refine calm_normal ?_
    cases bb
    · have HF2 := Lib.hid (show isN K C S E = mayV K C S E from HF.out)
      go_wp2_with fail
      refine (HN.out _).mono ?_
      rintro e w9 ⟨rfl, hb⟩
      have HB := Lib.hid (HS.out.trans (hb.mono HS.out.size))
      clear hb
      go_wp2_with fail
      go_ret
      exact ⟨retb HF2.out, HB.out⟩
    · have HF2 := Lib.hid (show true = mayV K C S E from HF.out)
      go_wp2_with fail
      go_ret
      exact ⟨retb HF2.out, HS.out⟩
set_option maxHeartbeats 4000000 in
theorem vtext_code (K C S E : Int) (w : World) (h1 : -9223372036854775808 ≤ C) (h2 : C ≤ 9223372036854775807) : Calls Tryz.prog 5 #[vlV K C S E] w fun e w' => e = .returned (.string ⟨(textV K C S E).toArray⟩) ∧ Below w.heap.size w w' := by
  have HN := Lib.hid (fun w => isnum_any K C S E w h1 h2)
  have S1 := (Mem.start w).push #[.int .u8 K, .int .i64 C, .int .i64 S, .int .i64 E] 26
  by_cases hi : isN K C S E = true
  · obtain ⟨rfl, rfl, hm⟩ := isN_iff.1 hi
    obtain ⟨s0, s9, hc⟩ := mayD_iff.1 hm
    have HF := Lib.hid (text_num hm)
    obtain ⟨n, rfl⟩ : ∃ n : Nat, S = (n : Int) := ⟨S.toNat, by omega⟩
    obtain ⟨m1, m2, _⟩ := put_canon h1 h2 (show n ≤ 9 by omega) (by omega)
    have HT := Lib.hid (fun w => text_any C n w h1 h2 (by omega))
    rw [m1, m2] at HT
    rw [hi] at HN
    clear h1 h2 hi hm s0 s9 hc m1 m2
    go_enter Tryz.func5, Tryz.ntmps5
    go_wp2_with fail
    refine (HN.out _).mono ?_
    rintro e w1 ⟨rfl, hb⟩
    have S2 := S1.keep hb
    have c1 := S2.c 0 1 rfl rfl
    have c2 := S2.c 0 2 rfl rfl
    have HB := Lib.hid S2.bl
    clear hb S1 S2 HN
    go_wp2_with fail
    refine (HT.out _).mono ?_
    rintro e w2 ⟨rfl, hb⟩
    have HB2 := Lib.hid (HB.out.trans (hb.mono HB.out.size))
    clear hb HT
    go_wp2_with fail
    go_ret
    exact ⟨rets (by rw [HF.out]; rfl), HB2.out⟩
  · have hi : isN K C S E = false := by simpa using hi
    have HF := Lib.hid (show (⟨(wordT K C S E).toArray⟩ : ByteArray) = ⟨(textV K C S E).toArray⟩ by rw [text_word hi])
    have HLK := Lib.hid (fun (w : World) (b : Nat) (h : WordsAt b w) => look_f K C S E h)
    rw [hi] at HN
    clear h1 h2 hi
    generalize (⟨(wordT K C S E).toArray⟩ : ByteArray) = tt at *
    go_enter Tryz.func5, Tryz.ntmps5
    go_wp2_with fail
    refine (HN.out _).mono ?_
    rintro e w1 ⟨rfl, hb⟩
    have S2 := S1.keep hb
    clear hb S1 HN
    go_upto_region 3 with fail
    refine wp_region_rel 4 (MemAt w w1.heap.size [(w.heap.size, #[.int .u8 K, .int .i64 C, .int .i64 S, .int .i64 E])] [])
      (fun i => List.getD [VWd, VE (vlV K C S E), VE (.agg #[.string tt]), VE (.string tt)] i (fun _ _ => False)) [] [3] (by kernel_rfl) (by kernel_rfl) S2.at (fun _ _ h hb => h.grow hb)
      (stays_all (stays_cons (stays_VWd) (stays_cons (stays_VE _) (stays_cons (stays_VE _) (stays_cons (stays_VE _) stays_nil))))) ⟨?_, ?_, ?_, ?_, trivial⟩ ?_
    · intro ev wv hE hw hd
      refine ifw rfl (ifn rfl ?_)
      refine rel_call (f := 19) (args := #[]) ?_ (words_vwd wv) ?_
      · have e0 := hE.func; have e1 := hE.const; clear hE hd hw
        go_simp
      · rintro e w' ⟨⟨u, he, hu⟩, hb⟩
        exact ⟨u, he, hb, hu, fun h => by cases h⟩
    · intro ev wv hE hw hd
      refine ifw rfl (ifn rfl ?_)
      have v1 : ev (.tmp 1) = .pointer (some ⟨w.heap.size, 0, none⟩) := hE.tmp 1 rfl
      have kx := hw.m.c 0 0 rfl rfl
      have ky := hw.m.c 0 1 rfl rfl
      have kz := hw.m.c 0 2 rfl rfl
      have ku := hw.m.c 0 3 rfl rfl
      refine rel_val (u := vlV K C S E) (w' := wv) ?_ (Below.refl _ _) ⟨rfl, fun h => by cases h⟩
      have e1 := hE.const; clear hE hd hw
      go_simp
    · intro ev wv hE hw hd
      refine ifw rfl (ifn rfl ?_)
      have p0 : VWd (ev (.tmp 8)) wv := hd 0 (by decide)
      have v9 : ev (.tmp 9) = vlV K C S E := hd 1 (by decide)
      obtain ⟨b, v8, hW⟩ : VWd (ev (.tmp 8)) wv := hd 0 (by decide)
      have hlk := HLK.out wv b hW
      refine rel_val (u := .agg #[.string tt]) (w' := wv) ?_ (Below.refl _ _) ⟨rfl, fun h => by cases h⟩
      have e1 := hE.const; clear hE hd hw
      go_simp
    · intro ev wv hE hw hd
      refine ifw rfl (ifw rfl ?_)
      have v10 : ev (.tmp 10) = .agg #[.string tt] := hd 2 (by decide)
      refine ⟨.string tt, fun w => ?_, rfl⟩
      have e1 := hE.const; have e2 := hE.func; clear hE hd hw
      have hfd : ∀ (x0 : Value) (w : World), (Instr.field 42 (.agg #[x0]) 0).run Tryz.prog w = .ok x0 w := fun x0 w => by kernel_rfl
      go_simp
    · intro wz hw
      intro v0 h0 _ v1 h1 _ v2 h2 _ v3 h3 _
      simp only [Act.put, List.setIfInBounds_toArray, List.set_cons_zero, List.set_cons_succ, List.drop_succ_cons, List.drop_zero]
      have p0 : VWd v0 wz := h0
      obtain rfl : v1 = _ := h1
      obtain rfl : v2 = _ := h2
      obtain rfl : v3 = _ := h3
      change wpList Tryz.prog _ _ _ _ wz
      clear h0 p0 HLK
      have HB := Lib.hid hw.m.bl
      clear hw
      go_wp2_with fail
      refine calm_normal ?_
      go_wp2_with fail
      go_ret
      exact ⟨rets HF.out, HB.out⟩
end Go.Proofs.YtgojfonnikgboaaGreatDoor

/- The law DatetextOnly. -/
import Derived.Test.YtmdmhookhkhdoaaDoorDtKnown
import Derived.Test.YtmdmhookhkhdoaaDoorDt2
import Derived.Test.YtmdmhookhkhdoaaDoorRelMem
namespace Go.Proofs.YtmdmhookhkhdoaaDoor
set_option maxRecDepth 8000
open Go.RowKit Go.PlainAid Corr
set_option linter.unusedVariables false
set_option linter.unusedSimpArgs false
theorem eq0_no {n : Int} (h : ¬ n = 0) : (n == 0) = false ∧ (n != 0) = true := by
  constructor
  · exact beq_eq_false_iff_ne.2 h
  · exact bne_iff_ne.2 h
theorem donly_two (s t : ByteArray) (w : World) (g : DV w) (hs : s.size ≤ 100) (ht : t.size ≤ 100) (he : pdE s.data.toList = 0) (hf : pdE t.data.toList = 0) : Calls Tryd.prog 5 #[.string s, .string t] w fun e w' => e = .returned (.bool true) ∧ Below w.heap.size w w' := by
  have g1 : decide ((s.size : Int) > 100) = false := decide_eq_false (by omega)
  have g2 : decide ((t.size : Int) > 100) = false := decide_eq_false (by omega)
  have HP := Lib.hid (fun w g => pparse_any s w g hs)
  have HP2 := Lib.hid (fun w g => pparse_any t w g ht)
  have HS := Lib.hid (fun w g => pps_any s w g hs)
  have hg : ¬ psE s.data.toList = 0 := fun q => by have h1 := pdE_len he; have h2 := psE_len q; omega
  have es : mkS s.data.toList = s := rfl
  have qs : (s.toList != s.toList) = false := by simp
  have HT := Lib.hid (fun w g => ptext_any (pdN s.data.toList) w g)
  rw [day_back he, es] at HT
  obtain ⟨E, hE⟩ : ∃ z, pdE s.data.toList = z := ⟨_, rfl⟩
  obtain ⟨m, hm⟩ : ∃ z, pdN s.data.toList = z := ⟨_, rfl⟩
  obtain ⟨F, hF⟩ : ∃ z, pdE t.data.toList = z := ⟨_, rfl⟩
  obtain ⟨k, hk⟩ : ∃ z, pdN t.data.toList = z := ⟨_, rfl⟩
  obtain ⟨G, hG⟩ : ∃ z, psE s.data.toList = z := ⟨_, rfl⟩
  obtain ⟨a, ha⟩ : ∃ z, psA s.data.toList = z := ⟨_, rfl⟩
  obtain ⟨b, hb⟩ : ∃ z, psB s.data.toList = z := ⟨_, rfl⟩
  rw [hE, hm] at HP
  rw [hF, hk] at HP2
  rw [hG, ha, hb] at HS
  rw [hm] at HT
  obtain ⟨k1, k2⟩ := eq0_no (n := G) (by rw [← hG]; exact hg)
  have hl := pd_less he hf
  rw [hm, hk, ← Lib.toList_data, ← Lib.toList_data] at hl
  have hE0 : E = 0 := by rw [← hE]; exact he
  have hF0 : F = 0 := by rw [← hF]; exact hf
  obtain ⟨q, hq⟩ : ∃ q, decide (m < k) = q := ⟨_, rfl⟩
  rw [hq] at hl
  have hqq : (q == q) = true := by simp
  subst hE0
  subst hF0
  have HK := Lib.hid (fun (w' : World) (b : Below w.heap.size w w') => dknown_any w' (g.keep b))
  clear hE hm hF hk hG ha hb he hf hg es
  go_enter Tryd.func5, Tryd.ntmps5
  go_wp2_with fail
  refine (HP.out _ g).mono ?_
  rintro e w1 ⟨rfl, b1⟩
  go_wp2_with fail
  refine (HP2.out _ (g.keep b1)).mono ?_
  rintro e w2 ⟨rfl, b2⟩
  have b2 := b1.trans (b2.mono b1.size)
  go_wp2_with fail
  refine (HS.out _ (g.keep b2)).mono ?_
  rintro e w3 ⟨rfl, b3⟩
  have S1 := (((Mem.start w).keep b2).keep b3).push #[.int .i64 a, .int .i64 b] 23
  clear b1 b2 b3
  have za := S1.c 0 0 rfl rfl; have zb := S1.c 0 1 rfl rfl
  go_wp2_with fail
  refine (HT.out _ (g.keep S1.bl)).mono ?_
  rintro e w4 ⟨rfl, b4⟩
  have S2 := S1.keep b4
  have HB := Lib.hid S2.bl
  clear S1 S2 b4 za zb
  go_wp2_with fail
  refine (HK.out _ HB.out).mono ?_
  rintro e w6 ⟨rfl, hb⟩
  have HB6 := Lib.hid (HB.out.trans (hb.mono HB.out.size))
  clear hb
  go_wp2_with fail
  go_ret
  exact ⟨rfl, HB6.out⟩
theorem donly_day (s t : ByteArray) (w : World) (g : DV w) (hs : s.size ≤ 100) (ht : t.size ≤ 100) (he : pdE s.data.toList = 0) (hf : ¬ pdE t.data.toList = 0) : Calls Tryd.prog 5 #[.string s, .string t] w fun e w' => e = .returned (.bool true) ∧ Below w.heap.size w w' := by
  have g1 : decide ((s.size : Int) > 100) = false := decide_eq_false (by omega)
  have g2 : decide ((t.size : Int) > 100) = false := decide_eq_false (by omega)
  have HP := Lib.hid (fun w g => pparse_any s w g hs)
  have HP2 := Lib.hid (fun w g => pparse_any t w g ht)
  have HS := Lib.hid (fun w g => pps_any s w g hs)
  have hg : ¬ psE s.data.toList = 0 := fun q => by have h1 := pdE_len he; have h2 := psE_len q; omega
  have es : mkS s.data.toList = s := rfl
  have qs : (s.toList != s.toList) = false := by simp
  have HT := Lib.hid (fun w g => ptext_any (pdN s.data.toList) w g)
  rw [day_back he, es] at HT
  obtain ⟨E, hE⟩ : ∃ z, pdE s.data.toList = z := ⟨_, rfl⟩
  obtain ⟨m, hm⟩ : ∃ z, pdN s.data.toList = z := ⟨_, rfl⟩
  obtain ⟨F, hF⟩ : ∃ z, pdE t.data.toList = z := ⟨_, rfl⟩
  obtain ⟨k, hk⟩ : ∃ z, pdN t.data.toList = z := ⟨_, rfl⟩
  obtain ⟨G, hG⟩ : ∃ z, psE s.data.toList = z := ⟨_, rfl⟩
  obtain ⟨a, ha⟩ : ∃ z, psA s.data.toList = z := ⟨_, rfl⟩
  obtain ⟨b, hb⟩ : ∃ z, psB s.data.toList = z := ⟨_, rfl⟩
  rw [hE, hm] at HP
  rw [hF, hk] at HP2
  rw [hG, ha, hb] at HS
  rw [hm] at HT
  obtain ⟨k1, k2⟩ := eq0_no (n := G) (by rw [← hG]; exact hg)
  obtain ⟨f1, f2⟩ := eq0_no (n := F) (by rw [← hF]; exact hf)
  have hE0 : E = 0 := by rw [← hE]; exact he
  subst hE0
  have HK := Lib.hid (fun (w' : World) (b : Below w.heap.size w w') => dknown_any w' (g.keep b))
  clear hE hm hF hk hG ha hb he hf hg es
  go_enter Tryd.func5, Tryd.ntmps5
  go_wp2_with fail
  refine (HP.out _ g).mono ?_
  rintro e w1 ⟨rfl, b1⟩
  go_wp2_with fail
  refine (HP2.out _ (g.keep b1)).mono ?_
  rintro e w2 ⟨rfl, b2⟩
  have b2 := b1.trans (b2.mono b1.size)
  go_wp2_with fail
  refine (HS.out _ (g.keep b2)).mono ?_
  rintro e w3 ⟨rfl, b3⟩
  have S1 := (((Mem.start w).keep b2).keep b3).push #[.int .i64 a, .int .i64 b] 23
  clear b1 b2 b3
  have za := S1.c 0 0 rfl rfl; have zb := S1.c 0 1 rfl rfl
  go_wp2_with fail
  refine (HT.out _ (g.keep S1.bl)).mono ?_
  rintro e w4 ⟨rfl, b4⟩
  have S2 := S1.keep b4
  have HB := Lib.hid S2.bl
  clear S1 S2 b4 za zb
  go_wp2_with fail
  refine (HK.out _ HB.out).mono ?_
  rintro e w6 ⟨rfl, hb⟩
  have HB6 := Lib.hid (HB.out.trans (hb.mono HB.out.size))
  clear hb
  go_wp2_with fail
  go_ret
  exact ⟨rfl, HB6.out⟩
theorem donly_span (s t : ByteArray) (w : World) (g : DV w) (hs : s.size ≤ 100) (ht : t.size ≤ 100) (he : ¬ pdE s.data.toList = 0) (hg : psE s.data.toList = 0) : Calls Tryd.prog 5 #[.string s, .string t] w fun e w' => e = .returned (.bool true) ∧ Below w.heap.size w w' := by
  have g1 : decide ((s.size : Int) > 100) = false := decide_eq_false (by omega)
  have g2 : decide ((t.size : Int) > 100) = false := decide_eq_false (by omega)
  have HP := Lib.hid (fun w g => pparse_any s w g hs)
  have HP2 := Lib.hid (fun w g => pparse_any t w g ht)
  have HS := Lib.hid (fun w g => pps_any s w g hs)
  have es : mkS s.data.toList = s := rfl
  have qs : (s.toList != s.toList) = false := by simp
  have HT := Lib.hid (fun w g => pspan_any (psA s.data.toList) (psB s.data.toList) w g (by have := ps_bd s.data.toList; omega) (by have := ps_bd s.data.toList; omega))
  rw [span_back hg, es] at HT
  obtain ⟨E, hE⟩ : ∃ z, pdE s.data.toList = z := ⟨_, rfl⟩
  obtain ⟨m, hm⟩ : ∃ z, pdN s.data.toList = z := ⟨_, rfl⟩
  obtain ⟨F, hF⟩ : ∃ z, pdE t.data.toList = z := ⟨_, rfl⟩
  obtain ⟨k, hk⟩ : ∃ z, pdN t.data.toList = z := ⟨_, rfl⟩
  obtain ⟨G, hG⟩ : ∃ z, psE s.data.toList = z := ⟨_, rfl⟩
  obtain ⟨a, ha⟩ : ∃ z, psA s.data.toList = z := ⟨_, rfl⟩
  obtain ⟨b, hb⟩ : ∃ z, psB s.data.toList = z := ⟨_, rfl⟩
  rw [hE, hm] at HP
  rw [hF, hk] at HP2
  rw [hG, ha, hb] at HS
  rw [ha, hb] at HT
  obtain ⟨e1, e2⟩ := eq0_no (n := E) (by rw [← hE]; exact he)
  have hG0 : G = 0 := by rw [← hG]; exact hg
  subst hG0
  have HK := Lib.hid (fun (w' : World) (b : Below w.heap.size w w') => dknown_any w' (g.keep b))
  clear hE hm hF hk hG ha hb he hg es
  go_enter Tryd.func5, Tryd.ntmps5
  go_wp2_with fail
  refine (HP.out _ g).mono ?_
  rintro e w1 ⟨rfl, b1⟩
  go_wp2_with fail
  refine (HP2.out _ (g.keep b1)).mono ?_
  rintro e w2 ⟨rfl, b2⟩
  have b2 := b1.trans (b2.mono b1.size)
  go_wp2_with fail
  refine (HS.out _ (g.keep b2)).mono ?_
  rintro e w3 ⟨rfl, b3⟩
  have S1 := (((Mem.start w).keep b2).keep b3).push #[.int .i64 a, .int .i64 b] 23
  clear b1 b2 b3
  have za := S1.c 0 0 rfl rfl; have zb := S1.c 0 1 rfl rfl
  go_wp2_with fail
  refine (HT.out _ (g.keep S1.bl)).mono ?_
  rintro e w4 ⟨rfl, b4⟩
  have S2 := S1.keep b4
  have HB := Lib.hid S2.bl
  clear S1 S2 b4 za zb
  go_wp2_with fail
  refine (HK.out _ HB.out).mono ?_
  rintro e w6 ⟨rfl, hb⟩
  have HB6 := Lib.hid (HB.out.trans (hb.mono HB.out.size))
  clear hb
  go_wp2_with fail
  go_ret
  exact ⟨rfl, HB6.out⟩
theorem donly_none (s t : ByteArray) (w : World) (g : DV w) (hs : s.size ≤ 100) (ht : t.size ≤ 100) (he : ¬ pdE s.data.toList = 0) (hg : ¬ psE s.data.toList = 0) : Calls Tryd.prog 5 #[.string s, .string t] w fun e w' => e = .returned (.bool true) ∧ Below w.heap.size w w' := by
  have g1 : decide ((s.size : Int) > 100) = false := decide_eq_false (by omega)
  have g2 : decide ((t.size : Int) > 100) = false := decide_eq_false (by omega)
  have HP := Lib.hid (fun w g => pparse_any s w g hs)
  have HP2 := Lib.hid (fun w g => pparse_any t w g ht)
  have HS := Lib.hid (fun w g => pps_any s w g hs)
  obtain ⟨E, hE⟩ : ∃ z, pdE s.data.toList = z := ⟨_, rfl⟩
  obtain ⟨m, hm⟩ : ∃ z, pdN s.data.toList = z := ⟨_, rfl⟩
  obtain ⟨F, hF⟩ : ∃ z, pdE t.data.toList = z := ⟨_, rfl⟩
  obtain ⟨k, hk⟩ : ∃ z, pdN t.data.toList = z := ⟨_, rfl⟩
  obtain ⟨G, hG⟩ : ∃ z, psE s.data.toList = z := ⟨_, rfl⟩
  obtain ⟨a, ha⟩ : ∃ z, psA s.data.toList = z := ⟨_, rfl⟩
  obtain ⟨b, hb⟩ : ∃ z, psB s.data.toList = z := ⟨_, rfl⟩
  rw [hE, hm] at HP
  rw [hF, hk] at HP2
  rw [hG, ha, hb] at HS
  obtain ⟨e1, e2⟩ := eq0_no (n := E) (by rw [← hE]; exact he)
  obtain ⟨k1, k2⟩ := eq0_no (n := G) (by rw [← hG]; exact hg)
  have HK := Lib.hid (fun (w' : World) (b : Below w.heap.size w w') => dknown_any w' (g.keep b))
  clear hE hm hF hk hG ha hb he hg
  go_enter Tryd.func5, Tryd.ntmps5
  go_wp2_with fail
  refine (HP.out _ g).mono ?_
  rintro e w1 ⟨rfl, b1⟩
  go_wp2_with fail
  refine (HP2.out _ (g.keep b1)).mono ?_
  rintro e w2 ⟨rfl, b2⟩
  have b2 := b1.trans (b2.mono b1.size)
  go_wp2_with fail
  refine (HS.out _ (g.keep b2)).mono ?_
  rintro e w3 ⟨rfl, b3⟩
  have S1 := (((Mem.start w).keep b2).keep b3).push #[.int .i64 a, .int .i64 b] 23
  clear b1 b2 b3
  have za := S1.c 0 0 rfl rfl; have zb := S1.c 0 1 rfl rfl
  have HB := Lib.hid S1.bl
  clear S1
  go_wp2_with fail
  refine (HK.out _ HB.out).mono ?_
  rintro e w6 ⟨rfl, hb⟩
  have HB6 := Lib.hid (HB.out.trans (hb.mono HB.out.size))
  clear hb
  go_wp2_with fail
  go_ret
  exact ⟨rfl, HB6.out⟩
theorem donly_any (s t : ByteArray) (w : World) (g : DV w) : Calls Tryd.prog 5 #[.string s, .string t] w fun e w' => e = .returned (.bool true) ∧ Below w.heap.size w w' := by
  by_cases h : 100 < s.size
  · have h1 : decide ((s.size : Int) > 100) = true := decide_eq_true (by omega)
    go_enter Tryd.func5, Tryd.ntmps5
    go_wp2_with fail
    refine (dknown_any _ g).mono ?_
    rintro e w1 ⟨rfl, hb⟩
    go_wp2_with fail
    go_ret
    exact ⟨rfl, hb⟩
  · by_cases h' : 100 < t.size
    · have h1 : decide ((s.size : Int) > 100) = false := decide_eq_false (by omega)
      have h2 : decide ((t.size : Int) > 100) = true := decide_eq_true (by omega)
      go_enter Tryd.func5, Tryd.ntmps5
      go_wp2_with fail
      refine (dknown_any _ g).mono ?_
      rintro e w1 ⟨rfl, hb⟩
      go_wp2_with fail
      go_ret
      exact ⟨rfl, hb⟩
    · by_cases he : pdE s.data.toList = 0
      · by_cases hf : pdE t.data.toList = 0
        · exact donly_two s t w g (by omega) (by omega) he hf
        · exact donly_day s t w g (by omega) (by omega) he hf
      · by_cases hg : psE s.data.toList = 0
        · exact donly_span s t w g (by omega) (by omega) he hg
        · exact donly_none s t w g (by omega) (by omega) he hg
end Go.Proofs.YtmdmhookhkhdoaaDoor

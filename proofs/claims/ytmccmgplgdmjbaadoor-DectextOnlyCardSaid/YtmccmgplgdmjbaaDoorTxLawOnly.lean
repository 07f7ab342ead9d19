/- The walk of corrodylaw03.DectextOnly, at every text. -/
import Derived.Test.YtmccmgplgdmjbaaDoorTx6
import Derived.Test.YtmccmgplgdmjbaaDoorTxOnly
import Derived.Test.YtmccmgplgdmjbaaDoorRelMem
namespace Go.Proofs.YtmccmgplgdmjbaaDoor
set_option maxRecDepth 8000
open Go.RowKit Go.PlainAid Corr
set_option linter.unusedVariables false
set_option linter.unusedSimpArgs false
theorem only_long (s : ByteArray) (w : World) (g : GV w) (h : 100 < s.size) : Calls Tryd.prog 4 #[.string s] w fun e w' => e = .returned (.bool true) ∧ Below w.heap.size w w' := by
  have h1 : (100 : Int) < (s.size : Int) := by omega
  go_enter Tryd.func4, Tryd.ntmps4
  go_wp2_with fail
  refine (known_any _ g).mono ?_
  rintro e w1 ⟨rfl, hb⟩
  go_wp2_with fail
  go_ret
  exact ⟨rfl, hb⟩
theorem only_none (s : ByteArray) (w : World) (g : GV w) (h : s.size ≤ 100) (he : pE s.data.toList ≠ 0) : Calls Tryd.prog 4 #[.string s] w fun e w' => e = .returned (.bool true) ∧ Below w.heap.size w w' := by
  have h1 : ¬ (100 : Int) < (s.size : Int) := by omega
  have HP := Lib.hid (fun w g => parse_any s w (by omega) g)
  obtain ⟨z1, z2⟩ := no_zero he
  obtain ⟨E, hE⟩ : ∃ E, pE s.data.toList = E := ⟨_, rfl⟩
  rw [z1, z2, hE] at HP
  rw [hE] at he
  have he2 : (E != 0) = true := by simpa using he
  clear z1 z2 hE
  go_enter Tryd.func4, Tryd.ntmps4
  go_wp2_with fail
  refine (HP.out _ g).mono ?_
  rintro e w1 ⟨rfl, hb⟩
  have S1 := ((Mem.start w).keep hb).push #[.int .i64 0, .int .i64 0] 24
  have HB := Lib.hid S1.bl
  have HK := Lib.hid (fun (w' : World) (b : Below w.heap.size w w') => known_any w' (g.keep b))
  clear hb
  have za := S1.c 0 0 rfl rfl; have zb := S1.c 0 1 rfl rfl
  clear S1
  go_wp2_with fail
  refine (HK.out _ HB.out).mono ?_
  rintro e w2 ⟨rfl, hb⟩
  have HB2 := Lib.hid (HB.out.trans (hb.mono HB.out.size))
  clear hb
  go_wp2_with fail
  go_ret
  exact ⟨rfl, HB2.out⟩
set_option maxHeartbeats 1000000 in
theorem only_some (s : ByteArray) (w : World) (g : GV w) (h : s.size ≤ 100) (he : pE s.data.toList = 0) : Calls Tryd.prog 4 #[.string s] w fun e w' => e = .returned (.bool true) ∧ Below w.heap.size w w' := by
  have h1 : ¬ (100 : Int) < (s.size : Int) := by omega
  have HP := Lib.hid (fun w g => parse_any s w (by omega) g)
  obtain ⟨c1, c2, t9, m1, m2, ht⟩ := only_text he
  have HT := Lib.hid (fun w => text_any (pC s.data.toList) (pS s.data.toList) w c1 c2 t9)
  rw [m1, m2, ht] at HT
  obtain ⟨E1, hE1⟩ : ∃ E, pE (43 :: s.data.toList) = E := ⟨_, rfl⟩
  obtain ⟨E2, hE2⟩ : ∃ E, pE (48 :: s.data.toList) = E := ⟨_, rfl⟩
  obtain ⟨E3, hE3⟩ : ∃ E, pE (s.data.toList ++ [32]) = E := ⟨_, rfl⟩
  have n1 : (E1 != 0) = true := by rw [← hE1]; simpa using plus_bad s.data.toList
  have n2 : (E2 != 0) = true := by rw [← hE2]; simpa using nought_bad he
  have n3 : (E3 != 0) = true := by rw [← hE3]; simpa using blank_bad he
  have l1 : ((⟨#[43]⟩ : ByteArray) ++ s).data.toList = 43 :: s.data.toList := by rw [ba_append]; rfl
  have l2 : ((⟨#[48]⟩ : ByteArray) ++ s).data.toList = 48 :: s.data.toList := by rw [ba_append]; rfl
  have l3 : (s ++ (⟨#[32]⟩ : ByteArray)).data.toList = s.data.toList ++ [32] := by rw [ba_append]
  have q1 : ((⟨#[43]⟩ : ByteArray) ++ s).size ≤ 4000000 := by rw [← size_len, l1]; have := size_len s; simp; omega
  have q2 : ((⟨#[48]⟩ : ByteArray) ++ s).size ≤ 4000000 := by rw [← size_len, l2]; have := size_len s; simp; omega
  have q3 : (s ++ (⟨#[32]⟩ : ByteArray)).size ≤ 4000000 := by rw [← size_len, l3]; have := size_len s; simp; omega
  have HP1 := Lib.hid (fun w g => parse_any ((⟨#[43]⟩ : ByteArray) ++ s) w q1 g)
  have HP2 := Lib.hid (fun w g => parse_any ((⟨#[48]⟩ : ByteArray) ++ s) w q2 g)
  have HP3 := Lib.hid (fun w g => parse_any (s ++ (⟨#[32]⟩ : ByteArray)) w q3 g)
  rw [l1, hE1] at HP1
  rw [l2, hE2] at HP2
  rw [l3, hE3] at HP3
  obtain ⟨C1, hC1⟩ : ∃ z, pC (43 :: s.data.toList) = z := ⟨_, rfl⟩
  obtain ⟨T1, hT1⟩ : ∃ z, (pS (43 :: s.data.toList) : Int) = z := ⟨_, rfl⟩
  obtain ⟨C2, hC2⟩ : ∃ z, pC (48 :: s.data.toList) = z := ⟨_, rfl⟩
  obtain ⟨T2, hT2⟩ : ∃ z, (pS (48 :: s.data.toList) : Int) = z := ⟨_, rfl⟩
  obtain ⟨C3, hC3⟩ : ∃ z, pC (s.data.toList ++ [32]) = z := ⟨_, rfl⟩
  obtain ⟨T3, hT3⟩ : ∃ z, (pS (s.data.toList ++ [32]) : Int) = z := ⟨_, rfl⟩
  rw [hC1, hT1] at HP1
  rw [hC2, hT2] at HP2
  rw [hC3, hT3] at HP3
  obtain ⟨c, hc⟩ : ∃ z, pC s.data.toList = z := ⟨_, rfl⟩
  obtain ⟨t, hcT⟩ : ∃ z, (pS s.data.toList : Int) = z := ⟨_, rfl⟩
  rw [hc, hcT, he] at HP
  rw [hc, hcT] at HT
  have es : (⟨s.data.toList.toArray⟩ : ByteArray) = s := rfl
  rw [es] at HT
  have hs62 : (s.size : Int) ≤ 100 := by omega
  clear c1 c2 t9 m1 m2 ht hE1 hE2 hE3 l1 l2 l3 q1 q2 q3 hC1 hT1 hC2 hT2 hC3 hT3 hc hcT es he
  have HK := Lib.hid (fun (w' : World) (b : Below w.heap.size w w') => known_any w' (g.keep b))
  go_enter Tryd.func4, Tryd.ntmps4
  go_wp2_with fail
  refine (HP.out _ g).mono ?_
  rintro e w1 ⟨rfl, hb⟩
  have S1 := Lib.hid (((Mem.start w).keep hb).push #[.int .i64 c, .int .i64 t] 24)
  clear hb
  go_wp2_with fail
  refine (HP1.out _ (g.keep S1.out.bl)).mono ?_
  rintro e w2 ⟨rfl, hb⟩
  have S2 := Lib.hid ((S1.out.keep hb).push #[.int .i64 C1, .int .i64 T1] 24)
  clear hb S1
  go_wp2_with fail
  refine (HP2.out _ (g.keep S2.out.bl)).mono ?_
  rintro e w3 ⟨rfl, hb⟩
  have S3 := Lib.hid ((S2.out.keep hb).push #[.int .i64 C2, .int .i64 T2] 24)
  clear hb S2
  go_wp2_with fail
  refine (HP3.out _ (g.keep S3.out.bl)).mono ?_
  rintro e w4 ⟨rfl, hb⟩
  have S4 := Lib.hid ((S3.out.keep hb).push #[.int .i64 C3, .int .i64 T3] 24)
  clear hb S3
  have za := S4.out.c 0 0 rfl rfl; have zb := S4.out.c 0 1 rfl rfl
  go_wp2_with fail
  refine (HT.out _).mono ?_
  rintro e w5 ⟨rfl, hb⟩
  have HB5 := Lib.hid ((S4.out.keep hb).bl)
  clear hb S4 za zb
  go_wp2_with fail
  refine (HK.out _ HB5.out).mono ?_
  rintro e w6 ⟨rfl, hb⟩
  have HB6 := Lib.hid (HB5.out.trans (hb.mono HB5.out.size))
  clear hb
  go_wp2_with fail
  go_ret
  exact ⟨rfl, HB6.out⟩
theorem only_any (s : ByteArray) (w : World) (g : GV w) : Calls Tryd.prog 4 #[.string s] w fun e w' => e = .returned (.bool true) ∧ Below w.heap.size w w' := by
  by_cases h : 100 < s.size
  · exact only_long s w g h
  · by_cases he : pE s.data.toList = 0
    · exact only_some s w g (by omega) he
    · exact only_none s w g (by omega) he
end Go.Proofs.YtmccmgplgdmjbaaDoor

/- Package lexer: the word that a text begins with. -/
import Derived.Test.YtfceoehfellpgaaDoorLw4
namespace Corr
set_option maxRecDepth 8000
set_option linter.unusedVariables false
open Go Go.RowKit Go.PlainAid
theorem ext_size {t : ByteArray} {n : Nat} (h : n ≤ t.size) : (t.extract 0 n).size = n := by rw [ByteArray.size_extract]; omega
theorem size_tests (A : ByteArray) : A.toList.isEmpty = decide (A.size = 0) := by
  rw [Lib.toList_data, Bool.eq_iff_iff]
  have := size_len A
  simp only [decide_eq_true_eq]
  cases hl : A.data.toList with
  | nil => rw [hl] at this; exact ⟨fun _ => this.symm, fun _ => rfl⟩
  | cons x r => rw [hl, List.length_cons] at this; exact ⟨fun h => (by cases h), fun h => by omega⟩
end Corr
namespace Go.Proofs.YtfceoehfellpgaaDoor
set_option maxRecDepth 8000
open Go.RowKit Go.PlainAid Corr
set_option linter.unusedVariables false
set_option linter.unusedSimpArgs false
set_option maxHeartbeats 2000000 in
theorem lwword0_any (t : ByteArray) (w : World) (ht : t.size ≤ 4000000) (h0 : 0 < t.size) (hg : LV w) : Calls Tryd.prog 12 #[.string t] w (RetWd (wordR t) w) := by
  have HG := Lib.hid hg
  obtain ⟨A, hA⟩ : ∃ A, t.extract 0 (nameE t) = A := ⟨_, rfl⟩
  obtain ⟨N, hN⟩ : ∃ N, t.extract 0 (numE t) = N := ⟨_, rfl⟩
  obtain ⟨S, hS⟩ : ∃ S, t.extract 0 (signE t) = S := ⟨_, rfl⟩
  have H1 := Lib.hid (fun w => by have := lwname_any t w ht; rw [hA] at this; exact this)
  have H2 := Lib.hid (fun w => by have := lwnumber_any t w ht; rw [hN] at this; exact this)
  have H3 := Lib.hid (fun w h => by have := lwsignof_any t w ht h; rw [hS] at this; exact this)
  obtain ⟨R, hR⟩ : ∃ R, wordR t = R := ⟨_, rfl⟩
  have HB0 := Lib.hid (Blk.new w #[.int .u8 0, .string ⟨#[]⟩, .int .i64 0, .int .i64 0, .int .i64 0] 31)
  have HL0 := Lib.hid ((Below.refl w.heap.size w).alloc (Nat.le_refl _) (.cells #[.int .u8 0, .string ⟨#[]⟩, .int .i64 0, .int .i64 0, .int .i64 0] 31))
  have hsz := HL0.out.size
  have hle := (endN_le h0).2
  have hAs : A.size = nameE t := by rw [← hA]; exact ext_size nameE_le
  have tA := size_tests A
  have tN := size_tests N
  have tS := size_tests S
  have HF := Lib.hid (show (smallB (bt t 0) = true ∧ A.size = endN t 0 ∧ 0 < A.size ∧ R = if 12 < A.size then ((0, ⟨#[]⟩, 0, 0, 0), 4) else ((1, A, 0, 0, 0), 0))
      ∨ (A.size = 0 ∧ 0 < N.size ∧ N.size ≤ 4000000 ∧ R = numR N)
      ∨ (A.size = 0 ∧ N.size = 0 ∧ R = if S.size = 0 then ((0, ⟨#[]⟩, 0, 0, 0), 4) else ((3, S, 0, 0, 0), 0)) by
    rw [← hR]
    unfold wordR
    cases q : smallB (bt t 0) with
    | true =>
      obtain ⟨e1, e2⟩ := nameE_some h0 q
      have e3 : t.extract 0 (endN t 0) = A := by rw [← e1]; exact hA
      refine .inl ⟨rfl, by omega, by omega, ?_⟩
      rw [if_pos rfl, e3, hAs, e1]
    | false =>
      have e1 := nameE_none h0 q
      rw [if_neg Bool.false_ne_true]
      cases q0 : digB (bt t 0) with
      | true =>
        obtain ⟨e2, e3⟩ := numE_some h0 q0
        have e4 : t.extract 0 (endN t 0) = N := by rw [← e2]; exact hN
        have e5 : N.size = endN t 0 := by rw [← e4]; exact ext_size hle
        refine .inr (.inl ⟨by omega, by omega, by omega, ?_⟩)
        rw [if_pos rfl, e4]; rfl
      | false =>
        have e2 := numE_none h0 q0
        have e3 := signE_is h0 q q0
        have e4 : t.extract 0 (endN t 0) = S := by rw [← e3]; exact hS
        have e5 : S.size = endN t 0 := by rw [← e4]; exact ext_size hle
        have e6 : N.size = 0 := by rw [← hN, e2]; exact ext_size (Nat.zero_le _)
        refine .inr (.inr ⟨by omega, e6, ?_⟩)
        rw [if_neg Bool.false_ne_true, e4, e5])
  rw [hR]
  clear hA hN hS hR hAs hle hg
  rcases HF.out with ⟨-, -, a1, a2⟩ | ⟨a1, a2, a3, a4⟩ | ⟨a1, a2, a3⟩
  all_goals clear HF
  · have d1 : A.toList.isEmpty = false := by rw [tA]; exact decide_eq_false (by omega)
    clear tA tN tS a1
    by_cases h12 : 12 < A.size
    · have d2 : decide ((A.size : Int) > 12) = true := decide_eq_true (by omega)
      have HE := Lib.hid (show R = ((0, ⟨#[]⟩, 0, 0, 0), 4) by rw [a2, if_pos h12])
      clear a2 h12
      go_enter Tryd.func12, Tryd.ntmps12
      go_wp2_with fail
      refine (H1.out _).mono ?_
      rintro e w1 ⟨rfl, hb⟩
      have HB1 := Lib.hid (HB0.out.keep hb)
      have HL1 := Lib.hid (HL0.out.trans (hb.mono hsz))
      have hsz1 := HL1.out.size
      clear hb
      go_wp2_with fail
      refine (H2.out _).mono ?_
      rintro e w2 ⟨rfl, hb⟩
      have HB2 := Lib.hid (HB1.out.keep hb)
      have HL2 := Lib.hid (HL1.out.trans (hb.mono hsz1))
      have hsz2 := HL2.out.size
      clear hb
      go_wp2_with fail
      refine (H3.out _ (HG.out.2.keep HL2.out)).mono ?_
      rintro e w3 ⟨rfl, hb⟩
      have HB3 := Lib.hid (HB2.out.keep hb)
      have HL3 := Lib.hid (HL2.out.trans (hb.mono hsz2))
      have hsz3 := HL3.out.size
      clear hb
      have c0 := HB3.out.get 0 rfl; have c1 := HB3.out.get 1 rfl; have c2 := HB3.out.get 2 rfl; have c3 := HB3.out.get 3 rfl; have c4 := HB3.out.get 4 rfl
      have f0 := HB3.out.f 0; have f1 := HB3.out.f 1; have f2 := HB3.out.f 2; have f3 := HB3.out.f 3; have f4 := HB3.out.f 4
      go_wp2_with fail
      have H5 := Lib.hid (Corr.Blk.put5 HB3.out (.int .u8 0) (.string ⟨#[]⟩) (.int .i64 0) (.int .i64 0) (.int .i64 0))
      have HL5 := Lib.hid (Corr.Below.put5 HL3.out (Nat.le_refl _) (.int .u8 0) (.string ⟨#[]⟩) (.int .i64 0) (.int .i64 0) (.int .i64 0))
      go_wp2_with fail
      refine bodyPost_ret (v := .tuple #[.agg #[.int .u8 0, .string ⟨#[]⟩, .int .i64 0, .int .i64 0, .int .i64 0], .int .i64 4]) (by simp [results, Tryd.results12, go_sem, H5.out.get 0 rfl, H5.out.get 1 rfl, H5.out.get 2 rfl, H5.out.get 3 rfl, H5.out.get 4 rfl]) rfl ⟨by rw [HE.out], HL5.out⟩
    · have d2 : decide ((A.size : Int) > 12) = false := decide_eq_false (by omega)
      have HE := Lib.hid (show R = ((1, A, 0, 0, 0), 0) by rw [a2, if_neg h12])
      clear a2 h12
      go_enter Tryd.func12, Tryd.ntmps12
      go_wp2_with fail
      refine (H1.out _).mono ?_
      rintro e w1 ⟨rfl, hb⟩
      have HB1 := Lib.hid (HB0.out.keep hb)
      have HL1 := Lib.hid (HL0.out.trans (hb.mono hsz))
      have hsz1 := HL1.out.size
      clear hb
      go_wp2_with fail
      refine (H2.out _).mono ?_
      rintro e w2 ⟨rfl, hb⟩
      have HB2 := Lib.hid (HB1.out.keep hb)
      have HL2 := Lib.hid (HL1.out.trans (hb.mono hsz1))
      have hsz2 := HL2.out.size
      clear hb
      go_wp2_with fail
      refine (H3.out _ (HG.out.2.keep HL2.out)).mono ?_
      rintro e w3 ⟨rfl, hb⟩
      have HB3 := Lib.hid (HB2.out.keep hb)
      have HL3 := Lib.hid (HL2.out.trans (hb.mono hsz2))
      have hsz3 := HL3.out.size
      clear hb
      have c0 := HB3.out.get 0 rfl; have c1 := HB3.out.get 1 rfl; have c2 := HB3.out.get 2 rfl; have c3 := HB3.out.get 3 rfl; have c4 := HB3.out.get 4 rfl
      have f0 := HB3.out.f 0; have f1 := HB3.out.f 1; have f2 := HB3.out.f 2; have f3 := HB3.out.f 3; have f4 := HB3.out.f 4
      go_wp2_with fail
      have H5 := Lib.hid (Corr.Blk.put5 HB3.out (.int .u8 1) (.string A) (.int .i64 0) (.int .i64 0) (.int .i64 0))
      have HL5 := Lib.hid (Corr.Below.put5 HL3.out (Nat.le_refl _) (.int .u8 1) (.string A) (.int .i64 0) (.int .i64 0) (.int .i64 0))
      go_wp2_with fail
      refine bodyPost_ret (v := .tuple #[.agg #[.int .u8 1, .string A, .int .i64 0, .int .i64 0, .int .i64 0], .int .i64 0]) (by simp [results, Tryd.results12, go_sem, H5.out.get 0 rfl, H5.out.get 1 rfl, H5.out.get 2 rfl, H5.out.get 3 rfl, H5.out.get 4 rfl]) rfl ⟨by rw [HE.out], HL5.out⟩
  · have d1 : A.toList.isEmpty = true := by rw [tA]; exact decide_eq_true (by omega)
    have d2 : decide ((A.size : Int) > 12) = false := decide_eq_false (by omega)
    have d3 : N.toList.isEmpty = false := by rw [tN]; exact decide_eq_false (by omega)
    have HN := Lib.hid (fun w h => lwnumbered_any N w a3 h)
    rw [← a4] at HN
    clear tA tN tS a1 a2 a3 a4
    go_enter Tryd.func12, Tryd.ntmps12
    go_wp2_with fail
    refine (H1.out _).mono ?_
    rintro e w1 ⟨rfl, hb⟩
    have HB1 := Lib.hid (HB0.out.keep hb)
    have HL1 := Lib.hid (HL0.out.trans (hb.mono hsz))
    have hsz1 := HL1.out.size
    clear hb
    go_wp2_with fail
    refine (H2.out _).mono ?_
    rintro e w2 ⟨rfl, hb⟩
    have HB2 := Lib.hid (HB1.out.keep hb)
    have HL2 := Lib.hid (HL1.out.trans (hb.mono hsz1))
    have hsz2 := HL2.out.size
    clear hb
    go_wp2_with fail
    refine (H3.out _ (HG.out.2.keep HL2.out)).mono ?_
    rintro e w3 ⟨rfl, hb⟩
    have HB3 := Lib.hid (HB2.out.keep hb)
    have HL3 := Lib.hid (HL2.out.trans (hb.mono hsz2))
    have hsz3 := HL3.out.size
    clear hb
    have c0 := HB3.out.get 0 rfl; have c1 := HB3.out.get 1 rfl; have c2 := HB3.out.get 2 rfl; have c3 := HB3.out.get 3 rfl; have c4 := HB3.out.get 4 rfl
    have f0 := HB3.out.f 0; have f1 := HB3.out.f 1; have f2 := HB3.out.f 2; have f3 := HB3.out.f 3; have f4 := HB3.out.f 4
    go_wp2_with fail
    refine (HN.out _ (HG.out.1.keep HL3.out)).mono ?_
    rintro e w4 ⟨rfl, hb⟩
    have HB4 := Lib.hid (HB3.out.keep hb)
    have HL4 := Lib.hid (HL3.out.trans (hb.mono hsz3))
    clear hb c0 c1 c2 c3 c4 f0 f1 f2 f3 f4
    have c0 := HB4.out.get 0 rfl; have c1 := HB4.out.get 1 rfl; have c2 := HB4.out.get 2 rfl; have c3 := HB4.out.get 3 rfl; have c4 := HB4.out.get 4 rfl
    have f0 := HB4.out.f 0; have f1 := HB4.out.f 1; have f2 := HB4.out.f 2; have f3 := HB4.out.f 3; have f4 := HB4.out.f 4
    have H5 := Lib.hid (Corr.Blk.put5 HB4.out (.int .u8 R.1.1) (.string R.1.2.1) (.int .i64 R.1.2.2.1) (.int .i64 R.1.2.2.2.1) (.int .i64 R.1.2.2.2.2))
    have HL5 := Lib.hid (Corr.Below.put5 HL4.out (Nat.le_refl _) (.int .u8 R.1.1) (.string R.1.2.1) (.int .i64 R.1.2.2.1) (.int .i64 R.1.2.2.2.1) (.int .i64 R.1.2.2.2.2))
    go_wp2_with fail
    refine bodyPost_ret (v := .tuple #[.agg #[.int .u8 R.1.1, .string R.1.2.1, .int .i64 R.1.2.2.1, .int .i64 R.1.2.2.2.1, .int .i64 R.1.2.2.2.2], .int .i64 R.2]) (by simp [results, Tryd.results12, go_sem, H5.out.get 0 rfl, H5.out.get 1 rfl, H5.out.get 2 rfl, H5.out.get 3 rfl, H5.out.get 4 rfl]) rfl ⟨rfl, HL5.out⟩
  · have d1 : A.toList.isEmpty = true := by rw [tA]; exact decide_eq_true (by omega)
    have d2 : decide ((A.size : Int) > 12) = false := decide_eq_false (by omega)
    have d3 : N.toList.isEmpty = true := by rw [tN]; exact decide_eq_true (by omega)
    by_cases hs : S.size = 0
    · have d4 : S.toList.isEmpty = true := by rw [tS]; exact decide_eq_true (by omega)
      have HE := Lib.hid (show R = ((0, ⟨#[]⟩, 0, 0, 0), 4) by rw [a3, if_pos hs])
      clear tA tN tS a1 a2 a3 hs
      go_enter Tryd.func12, Tryd.ntmps12
      go_wp2_with fail
      refine (H1.out _).mono ?_
      rintro e w1 ⟨rfl, hb⟩
      have HB1 := Lib.hid (HB0.out.keep hb)
      have HL1 := Lib.hid (HL0.out.trans (hb.mono hsz))
      have hsz1 := HL1.out.size
      clear hb
      go_wp2_with fail
      refine (H2.out _).mono ?_
      rintro e w2 ⟨rfl, hb⟩
      have HB2 := Lib.hid (HB1.out.keep hb)
      have HL2 := Lib.hid (HL1.out.trans (hb.mono hsz1))
      have hsz2 := HL2.out.size
      clear hb
      go_wp2_with fail
      refine (H3.out _ (HG.out.2.keep HL2.out)).mono ?_
      rintro e w3 ⟨rfl, hb⟩
      have HB3 := Lib.hid (HB2.out.keep hb)
      have HL3 := Lib.hid (HL2.out.trans (hb.mono hsz2))
      have hsz3 := HL3.out.size
      clear hb
      have c0 := HB3.out.get 0 rfl; have c1 := HB3.out.get 1 rfl; have c2 := HB3.out.get 2 rfl; have c3 := HB3.out.get 3 rfl; have c4 := HB3.out.get 4 rfl
      have f0 := HB3.out.f 0; have f1 := HB3.out.f 1; have f2 := HB3.out.f 2; have f3 := HB3.out.f 3; have f4 := HB3.out.f 4
      go_wp2_with fail
      have H5 := Lib.hid (Corr.Blk.put5 HB3.out (.int .u8 0) (.string ⟨#[]⟩) (.int .i64 0) (.int .i64 0) (.int .i64 0))
      have HL5 := Lib.hid (Corr.Below.put5 HL3.out (Nat.le_refl _) (.int .u8 0) (.string ⟨#[]⟩) (.int .i64 0) (.int .i64 0) (.int .i64 0))
      go_wp2_with fail
      refine bodyPost_ret (v := .tuple #[.agg #[.int .u8 0, .string ⟨#[]⟩, .int .i64 0, .int .i64 0, .int .i64 0], .int .i64 4]) (by simp [results, Tryd.results12, go_sem, H5.out.get 0 rfl, H5.out.get 1 rfl, H5.out.get 2 rfl, H5.out.get 3 rfl, H5.out.get 4 rfl]) rfl ⟨by rw [HE.out], HL5.out⟩
    · have d4 : S.toList.isEmpty = false := by rw [tS]; exact decide_eq_false (by omega)
      have HE := Lib.hid (show R = ((3, S, 0, 0, 0), 0) by rw [a3, if_neg hs])
      clear tA tN tS a1 a2 a3 hs
      go_enter Tryd.func12, Tryd.ntmps12
      go_wp2_with fail
      refine (H1.out _).mono ?_
      rintro e w1 ⟨rfl, hb⟩
      have HB1 := Lib.hid (HB0.out.keep hb)
      have HL1 := Lib.hid (HL0.out.trans (hb.mono hsz))
      have hsz1 := HL1.out.size
      clear hb
      go_wp2_with fail
      refine (H2.out _).mono ?_
      rintro e w2 ⟨rfl, hb⟩
      have HB2 := Lib.hid (HB1.out.keep hb)
      have HL2 := Lib.hid (HL1.out.trans (hb.mono hsz1))
      have hsz2 := HL2.out.size
      clear hb
      go_wp2_with fail
      refine (H3.out _ (HG.out.2.keep HL2.out)).mono ?_
      rintro e w3 ⟨rfl, hb⟩
      have HB3 := Lib.hid (HB2.out.keep hb)
      have HL3 := Lib.hid (HL2.out.trans (hb.mono hsz2))
      have hsz3 := HL3.out.size
      clear hb
      have c0 := HB3.out.get 0 rfl; have c1 := HB3.out.get 1 rfl; have c2 := HB3.out.get 2 rfl; have c3 := HB3.out.get 3 rfl; have c4 := HB3.out.get 4 rfl
      have f0 := HB3.out.f 0; have f1 := HB3.out.f 1; have f2 := HB3.out.f 2; have f3 := HB3.out.f 3; have f4 := HB3.out.f 4
      go_wp2_with fail
      have H5 := Lib.hid (Corr.Blk.put5 HB3.out (.int .u8 3) (.string S) (.int .i64 0) (.int .i64 0) (.int .i64 0))
      have HL5 := Lib.hid (Corr.Below.put5 HL3.out (Nat.le_refl _) (.int .u8 3) (.string S) (.int .i64 0) (.int .i64 0) (.int .i64 0))
      go_wp2_with fail
      refine bodyPost_ret (v := .tuple #[.agg #[.int .u8 3, .string S, .int .i64 0, .int .i64 0, .int .i64 0], .int .i64 0]) (by simp [results, Tryd.results12, go_sem, H5.out.get 0 rfl, H5.out.get 1 rfl, H5.out.get 2 rfl, H5.out.get 3 rfl, H5.out.get 4 rfl]) rfl ⟨by rw [HE.out], HL5.out⟩
end Go.Proofs.YtfceoehfellpgaaDoor

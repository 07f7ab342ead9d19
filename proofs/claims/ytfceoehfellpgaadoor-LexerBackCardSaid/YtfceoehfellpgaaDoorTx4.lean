/- The contract of dectext.Parse. (Written by wip/gen/gentx4.py.) -/
import Derived.Test.YtfceoehfellpgaaDoorTx2
import Derived.Test.YtfceoehfellpgaaDoorShelfTx
import Derived.Lib.AtoiErrMem
namespace Corr
set_option maxRecDepth 8000
open Go Go.RowKit
/-- The variables of the library's that are read hold something of their kinds. -/
structure GVars (a b : Nat) (w : World) : Prop where
  m : ∃ m, w.cell? ⟨a, 0, none⟩ = some (.int .i64 m)
  e : ∃ te pe, w.cell? ⟨b, 0, none⟩ = some (.iface te pe)
theorem GVars.keep {a b : Nat} {w w' : World} (h : GVars a b w) (hb : Below w.heap.size w w') : GVars a b w' := by
  obtain ⟨⟨m, hm⟩, ⟨te, pe, he⟩⟩ := h
  exact ⟨⟨m, by rw [hb.cell (Lib.lt_of_cell hm)]; exact hm⟩, ⟨te, pe, by rw [hb.cell (Lib.lt_of_cell he)]; exact he⟩⟩
end Corr
namespace Go.Proofs.YtfceoehfellpgaaDoor
set_option maxRecDepth 8000
open Go.RowKit Go.PlainAid Corr
set_option linter.unusedVariables false
set_option linter.unusedSimpArgs false
abbrev GV (w : World) : Prop := GVars 3 5 w
theorem cut_small (t : List UInt8) : (Lib.cut t [46]).1.length ≤ t.length ∧ (Lib.cut t [46]).2.1.length ≤ t.length := by
  rcases point_cases t with h | ⟨a, b, h, h2⟩
  · rw [cut_no h]; simp
  · rw [h, cut_at b h2]; simp; omega
theorem trim_small (l : List UInt8) : (Lib.trimPrefix l [45]).length ≤ l.length := by
  unfold Lib.trimPrefix; split <;> simp
/-- The text without its sign; cut at its point. -/
theorem cut_pre (s : ByteArray) (hs : s.size ≤ 4000000) : ∃ T W P : ByteArray, W.data.toList = pW s.data.toList ∧ P.data.toList = pP s.data.toList ∧ W.size ≤ 4000000 ∧ P.size ≤ s.size ∧
    (∀ w, Calls Tryd.prog 38 #[.string s, .string ⟨#[45]⟩] w fun e w' => e = .returned (.string T) ∧ w' = w) ∧
    (∀ w, GV w → Calls Tryd.prog 49 #[.string T, .string ⟨#[46]⟩] w fun e w' => e = .returned (.tuple #[.string W, .string P, .bool (pF s.data.toList)]) ∧ Below w.heap.size w w') := by
  have h1 := trim_small s.data.toList
  have h2 := cut_small (Lib.trimPrefix s.data.toList [45])
  rw [size_len] at h1
  refine ⟨⟨(Lib.trimPrefix s.data.toList [45]).toArray⟩, ⟨(pW s.data.toList).toArray⟩, ⟨(pP s.data.toList).toArray⟩, rfl, rfl, ?_, ?_, fun w => Tryd.strings_TrimPrefix s ⟨#[45]⟩ w, fun w g => ?_⟩
  · show (Array.size _) ≤ _; rw [List.size_toArray]; unfold pW; omega
  · show (Array.size _) ≤ _; rw [List.size_toArray]; unfold pP; omega
  · obtain ⟨m, hm⟩ := g.m
    refine (Tryd.strings_Cut ⟨(Lib.trimPrefix s.data.toList [45]).toArray⟩ ⟨#[46]⟩ m w ?_ hm).mono ?_
    · show (Array.size _) < _; rw [List.size_toArray]; omega
    · rintro e w' ⟨rfl, n, rfl⟩
      exact ⟨rfl, Joins.below_draws _ _ _⟩
/-- The text without its point. -/
theorem rep_pre (s : ByteArray) (hs : s.size ≤ 4000000) : ∃ R : ByteArray, R.data.toList = Lib.replace s.data.toList [46] [] 1 ∧ R.size ≤ 4000000 ∧
    ∀ w, GV w → Calls Tryd.prog 53 #[.string s, .string ⟨#[46]⟩, .string ⟨#[]⟩, .int .i64 1] w fun e w' => e = .returned (.string R) ∧ Below w.heap.size w w' := by
  refine ⟨⟨(Lib.replace s.data.toList [46] [] 1).toArray⟩, rfl, ?_, fun w g => ?_⟩
  · show (Array.size _) ≤ _
    rw [List.size_toArray]
    have hl := size_len s
    rcases point_cases s.data.toList with h | ⟨a, b, h, h2⟩
    · rw [replace_no h, hl]; exact hs
    · rw [h, replace_at b h2]; rw [h] at hl; simp at hl ⊢; omega
  · obtain ⟨m, hm⟩ := g.m
    exact Tryd.strings_Replace s ⟨#[46]⟩ ⟨#[]⟩ 1 m w (by omega) hm (by decide) (by show s.size + Lib.countB s ⟨#[46]⟩ * 0 ≤ _; omega)
theorem int_ok (R : ByteArray) (v : Int) (w : World) (hR : R.size ≤ 4000000) (h : Lib.parseIntB 64 R.data.toList = .ok v) :
    Calls Tryd.prog 52 #[.string R, .int .i64 10, .int .i64 64] w fun e w' => e = .returned (.tuple #[.int .i64 v, .nilIface]) ∧ Below w.heap.size w w' := by
  refine (Tryd.strconv_ParseInt_10_at64_ok R (by omega) v h w).mono ?_
  rintro e w' ⟨rfl, hw⟩
  refine ⟨rfl, ?_⟩
  rcases hw with rfl | ⟨t, rfl⟩
  · exact Below.refl _ _
  · exact Lib.bytesWorld_below _ _ _
theorem int_over (R : ByteArray) (w : World) (hR : R.size ≤ 4000000) (h : Lib.parseIntB 64 R.data.toList = .range) (g : GV w) :
    Calls Tryd.prog 52 #[.string R, .int .i64 10, .int .i64 64] w fun e w' => ∃ z N, e = .returned (.tuple #[.int .i64 z, .iface 88 (.pointer (some ⟨N, 0, none⟩))]) ∧ Below w.heap.size w w' := by
  obtain ⟨te, pe, he⟩ := g.e
  refine (Tryd.strconv_ParseInt_10_at64_range R (by omega) h _ w he (Or.inr ⟨te, pe, rfl⟩)).mono ?_
  rintro e w' ⟨N, rfl, _, _, hb⟩
  exact ⟨_, N, rfl, hb⟩
theorem ok_parts {l : List UInt8} : pOk l = ((l != [45, 48]) && (isWh (pW l) && (!pF l || isPl (pP l)))) := rfl
theorem s_minus (s : ByteArray) : (s.toList == [45, 48]) = (s.data.toList == [45, 48]) := by rw [Lib.toList_data]
theorem bne_true {l : List UInt8} (h : (l == [45, 48]) = true) : (l != [45, 48]) = false := by rw [bne, h]; rfl
theorem bne_false {l : List UInt8} (h : (l == [45, 48]) = false) : (l != [45, 48]) = true := by rw [bne, h]; rfl
theorem parse_long (s : ByteArray) (w : World) (hs : s.size ≤ 4000000) (hg : GV w) (h : 21 < s.size) :
    Calls Tryd.prog 41 #[.string s] w fun e w' => e = .returned (.tuple #[.agg #[.int .i64 0, .int .i64 0], .int .i64 3]) ∧ Below w.heap.size w w' := by
  have h2 : (21 : Int) < (s.size : Int) := by omega
  have S0 := ((Mem.start w).push #[.int .i64 0, .int .i64 0] 29)
  have g0 : GV (w.alloc (.cells #[.int .i64 0, .int .i64 0] 29)) := hg.keep ((Below.refl _ _).alloc (Nat.le_refl _) _)
  clear g0
  have za := S0.c 0 0 rfl rfl; have zb := S0.c 0 1 rfl rfl; have zc := S0.f 0 0 rfl; have zd := S0.f 0 1 rfl
  have HF := Lib.hid (S0.put20 0 rfl (.int .i64 0) (.int .i64 0))
  clear S0
  go_enter Tryd.func41, Tryd.ntmps41
  go_wp2_with fail
  exact bodyPost_ret (v := .tuple #[.agg #[.int .i64 0, .int .i64 0], .int .i64 3]) (by simp [results, Tryd.results41, go_sem, za, zb]) rfl ⟨rfl, (Below.refl _ _).alloc (Nat.le_refl _) _⟩
theorem parse_minus (s : ByteArray) (w : World) (hs : s.size ≤ 4000000) (hg : GV w) (h : s.size ≤ 21) (h1 : (s.data.toList == [45, 48]) = true) :
    Calls Tryd.prog 41 #[.string s] w fun e w' => e = .returned (.tuple #[.agg #[.int .i64 0, .int .i64 0], .int .i64 4]) ∧ Below w.heap.size w w' := by
  obtain ⟨T, W, P, dW, dP, sW, sP, cT, cC⟩ := cut_pre s hs
  have HT := Lib.hid cT
  have HC := Lib.hid cC
  have HW := Lib.hid (fun w => isWhole_any W w sW)
  have HPl := Lib.hid (fun w => isPlaces_any P w (by omega))
  rw [dW] at HW
  rw [dP] at HPl
  clear cT cC sW
  have h2 : ¬ (21 : Int) < (s.size : Int) := by omega
  have h3 : (s.toList == [45, 48]) = true := by rw [s_minus]; exact h1
  have S0 := ((Mem.start w).push #[.int .i64 0, .int .i64 0] 29)
  have g0 : GV (w.alloc (.cells #[.int .i64 0, .int .i64 0] 29)) := hg.keep ((Below.refl _ _).alloc (Nat.le_refl _) _)
  go_enter Tryd.func41, Tryd.ntmps41
  go_wp2_with fail
  refine (HT.out _).mono ?_
  rintro e w1 ⟨rfl, rfl⟩
  go_wp2_with fail
  refine (HC.out _ g0).mono ?_
  rintro e w2 ⟨rfl, hb⟩
  have S1 := S0.keep hb
  have g1 := g0.keep hb
  clear S0 g0 hb
  have za := S1.c 0 0 rfl rfl; have zb := S1.c 0 1 rfl rfl; have zc := S1.f 0 0 rfl; have zd := S1.f 0 1 rfl
  have HF := Lib.hid (S1.put20 0 rfl (.int .i64 0) (.int .i64 0))
  clear S1
  go_wp2_with fail
  exact bodyPost_ret (v := .tuple #[.agg #[.int .i64 0, .int .i64 0], .int .i64 4]) (by simp [results, Tryd.results41, go_sem, za, zb]) rfl ⟨rfl, HF.out.bl⟩
theorem parse_whole (s : ByteArray) (w : World) (hs : s.size ≤ 4000000) (hg : GV w) (h : s.size ≤ 21) (h1 : (s.data.toList == [45, 48]) = false) (h4 : isWh (pW s.data.toList) = false) :
    Calls Tryd.prog 41 #[.string s] w fun e w' => e = .returned (.tuple #[.agg #[.int .i64 0, .int .i64 0], .int .i64 4]) ∧ Below w.heap.size w w' := by
  obtain ⟨T, W, P, dW, dP, sW, sP, cT, cC⟩ := cut_pre s hs
  have HT := Lib.hid cT
  have HC := Lib.hid cC
  have HW := Lib.hid (fun w => isWhole_any W w sW)
  have HPl := Lib.hid (fun w => isPlaces_any P w (by omega))
  rw [dW] at HW
  rw [dP] at HPl
  clear cT cC sW
  have h2 : ¬ (21 : Int) < (s.size : Int) := by omega
  have h3 : (s.toList == [45, 48]) = false := by rw [s_minus]; exact h1
  rw [h4] at HW
  have S0 := ((Mem.start w).push #[.int .i64 0, .int .i64 0] 29)
  have g0 : GV (w.alloc (.cells #[.int .i64 0, .int .i64 0] 29)) := hg.keep ((Below.refl _ _).alloc (Nat.le_refl _) _)
  go_enter Tryd.func41, Tryd.ntmps41
  go_wp2_with fail
  refine (HT.out _).mono ?_
  rintro e w1 ⟨rfl, rfl⟩
  go_wp2_with fail
  refine (HC.out _ g0).mono ?_
  rintro e w2 ⟨rfl, hb⟩
  have S1 := S0.keep hb
  have g1 := g0.keep hb
  clear S0 g0 hb
  go_wp2_with fail
  refine (HW.out _).mono ?_
  rintro e w3 ⟨rfl, rfl⟩
  have za := S1.c 0 0 rfl rfl; have zb := S1.c 0 1 rfl rfl; have zc := S1.f 0 0 rfl; have zd := S1.f 0 1 rfl
  have HF := Lib.hid (S1.put20 0 rfl (.int .i64 0) (.int .i64 0))
  clear S1
  go_wp2_with fail
  exact bodyPost_ret (v := .tuple #[.agg #[.int .i64 0, .int .i64 0], .int .i64 4]) (by simp [results, Tryd.results41, go_sem, za, zb]) rfl ⟨rfl, HF.out.bl⟩
theorem parse_places (s : ByteArray) (w : World) (hs : s.size ≤ 4000000) (hg : GV w) (h : s.size ≤ 21) (h1 : (s.data.toList == [45, 48]) = false) (h4 : isWh (pW s.data.toList) = true) (h5 : pF s.data.toList = true) (h6 : isPl (pP s.data.toList) = false) :
    Calls Tryd.prog 41 #[.string s] w fun e w' => e = .returned (.tuple #[.agg #[.int .i64 0, .int .i64 0], .int .i64 4]) ∧ Below w.heap.size w w' := by
  obtain ⟨T, W, P, dW, dP, sW, sP, cT, cC⟩ := cut_pre s hs
  have HT := Lib.hid cT
  have HC := Lib.hid cC
  have HW := Lib.hid (fun w => isWhole_any W w sW)
  have HPl := Lib.hid (fun w => isPlaces_any P w (by omega))
  rw [dW] at HW
  rw [dP] at HPl
  clear cT cC sW
  have h2 : ¬ (21 : Int) < (s.size : Int) := by omega
  have h3 : (s.toList == [45, 48]) = false := by rw [s_minus]; exact h1
  rw [h4] at HW
  rw [h6] at HPl
  rw [h5] at HC
  have S0 := ((Mem.start w).push #[.int .i64 0, .int .i64 0] 29)
  have g0 : GV (w.alloc (.cells #[.int .i64 0, .int .i64 0] 29)) := hg.keep ((Below.refl _ _).alloc (Nat.le_refl _) _)
  go_enter Tryd.func41, Tryd.ntmps41
  go_wp2_with fail
  refine (HT.out _).mono ?_
  rintro e w1 ⟨rfl, rfl⟩
  go_wp2_with fail
  refine (HC.out _ g0).mono ?_
  rintro e w2 ⟨rfl, hb⟩
  have S1 := S0.keep hb
  have g1 := g0.keep hb
  clear S0 g0 hb
  go_wp2_with fail
  refine (HW.out _).mono ?_
  rintro e w3 ⟨rfl, rfl⟩
  go_wp2_with fail
  refine (HPl.out _).mono ?_
  rintro e w4 ⟨rfl, rfl⟩
  have za := S1.c 0 0 rfl rfl; have zb := S1.c 0 1 rfl rfl; have zc := S1.f 0 0 rfl; have zd := S1.f 0 1 rfl
  have HF := Lib.hid (S1.put20 0 rfl (.int .i64 0) (.int .i64 0))
  clear S1
  go_wp2_with fail
  exact bodyPost_ret (v := .tuple #[.agg #[.int .i64 0, .int .i64 0], .int .i64 4]) (by simp [results, Tryd.results41, go_sem, za, zb]) rfl ⟨rfl, HF.out.bl⟩
theorem parse_okTrue (s : ByteArray) (w : World) (hs : s.size ≤ 4000000) (hg : GV w) (h : s.size ≤ 21) (h1 : (s.data.toList == [45, 48]) = false) (h4 : isWh (pW s.data.toList) = true) (h5 : pF s.data.toList = true) (h6 : isPl (pP s.data.toList) = true) (hok : pOk s.data.toList = true) (hf : (if fitsI (pV s.data.toList) = true then (Lib.NumEnd.ok (pV s.data.toList)) else .range) = .ok (pV s.data.toList)) :
    Calls Tryd.prog 41 #[.string s] w fun e w' => e = .returned (.tuple #[.agg #[.int .i64 (pV s.data.toList), .int .i64 ((pP s.data.toList).length : Int)], .int .i64 0]) ∧ Below w.heap.size w w' := by
  obtain ⟨T, W, P, dW, dP, sW, sP, cT, cC⟩ := cut_pre s hs
  have HT := Lib.hid cT
  have HC := Lib.hid cC
  have HW := Lib.hid (fun w => isWhole_any W w sW)
  have HPl := Lib.hid (fun w => isPlaces_any P w (by omega))
  rw [dW] at HW
  rw [dP] at HPl
  clear cT cC sW
  have h2 : ¬ (21 : Int) < (s.size : Int) := by omega
  have h3 : (s.toList == [45, 48]) = false := by rw [s_minus]; exact h1
  rw [h4] at HW
  rw [h5] at HC
  rw [h6] at HPl
  obtain ⟨R, dR, sR, cR⟩ := rep_pre s hs
  have hpi := form_parse (ok_form hok)
  rw [hf] at hpi
  rw [← dR] at hpi
  have HI := Lib.hid (fun w => int_ok R _ w sR hpi)
  obtain ⟨v, hv⟩ : ∃ v, pV s.data.toList = v := ⟨_, rfl⟩
  have hpl : (pP s.data.toList).length = P.size := by rw [← dP, size_len]
  rw [hv] at HI
  rw [hv, hpl]
  have HR := Lib.hid cR
  clear cR sR dR hpi
  have S0 := ((Mem.start w).push #[.int .i64 0, .int .i64 0] 29)
  have g0 : GV (w.alloc (.cells #[.int .i64 0, .int .i64 0] 29)) := hg.keep ((Below.refl _ _).alloc (Nat.le_refl _) _)
  go_enter Tryd.func41, Tryd.ntmps41
  go_wp2_with fail
  refine (HT.out _).mono ?_
  rintro e w1 ⟨rfl, rfl⟩
  go_wp2_with fail
  refine (HC.out _ g0).mono ?_
  rintro e w2 ⟨rfl, hb⟩
  have S1 := S0.keep hb
  have g1 := g0.keep hb
  clear S0 g0 hb
  go_wp2_with fail
  refine (HW.out _).mono ?_
  rintro e w3 ⟨rfl, rfl⟩
  go_wp2_with fail
  refine (HPl.out _).mono ?_
  rintro e w4 ⟨rfl, rfl⟩
  go_wp2_with fail
  refine (HR.out _ g1).mono ?_
  rintro e w5 ⟨rfl, hb⟩
  have S2 := S1.keep hb
  have g2 := g1.keep hb
  clear S1 g1 hb
  go_wp2_with fail
  refine (HI.out _).mono ?_
  rintro e w6 ⟨rfl, hb⟩
  have S3 := S2.keep hb
  clear S2 g2 hb
  have za := S3.c 0 0 rfl rfl; have zb := S3.c 0 1 rfl rfl; have zc := S3.f 0 0 rfl; have zd := S3.f 0 1 rfl
  have HF := Lib.hid (S3.put20 0 rfl (.int .i64 v) (.int .i64 (P.size : Int)))
  clear S3
  go_wp2_with fail
  exact bodyPost_ret (v := .tuple #[.agg #[.int .i64 v, .int .i64 (P.size : Int)], .int .i64 0]) (by simp [results, Tryd.results41, go_sem, za, zb]) rfl ⟨rfl, HF.out.bl⟩
theorem parse_overTrue (s : ByteArray) (w : World) (hs : s.size ≤ 4000000) (hg : GV w) (h : s.size ≤ 21) (h1 : (s.data.toList == [45, 48]) = false) (h4 : isWh (pW s.data.toList) = true) (h5 : pF s.data.toList = true) (h6 : isPl (pP s.data.toList) = true) (hok : pOk s.data.toList = true) (hf : (if fitsI (pV s.data.toList) = true then (Lib.NumEnd.ok (pV s.data.toList)) else .range) = .range) :
    Calls Tryd.prog 41 #[.string s] w fun e w' => e = .returned (.tuple #[.agg #[.int .i64 0, .int .i64 0], .int .i64 11]) ∧ Below w.heap.size w w' := by
  obtain ⟨T, W, P, dW, dP, sW, sP, cT, cC⟩ := cut_pre s hs
  have HT := Lib.hid cT
  have HC := Lib.hid cC
  have HW := Lib.hid (fun w => isWhole_any W w sW)
  have HPl := Lib.hid (fun w => isPlaces_any P w (by omega))
  rw [dW] at HW
  rw [dP] at HPl
  clear cT cC sW
  have h2 : ¬ (21 : Int) < (s.size : Int) := by omega
  have h3 : (s.toList == [45, 48]) = false := by rw [s_minus]; exact h1
  rw [h4] at HW
  rw [h5] at HC
  rw [h6] at HPl
  obtain ⟨R, dR, sR, cR⟩ := rep_pre s hs
  have hpi := form_parse (ok_form hok)
  rw [hf] at hpi
  rw [← dR] at hpi
  have HI := Lib.hid (fun w g => int_over R w sR hpi g)
  have HR := Lib.hid cR
  clear cR sR dR hpi
  have S0 := ((Mem.start w).push #[.int .i64 0, .int .i64 0] 29)
  have g0 : GV (w.alloc (.cells #[.int .i64 0, .int .i64 0] 29)) := hg.keep ((Below.refl _ _).alloc (Nat.le_refl _) _)
  go_enter Tryd.func41, Tryd.ntmps41
  go_wp2_with fail
  refine (HT.out _).mono ?_
  rintro e w1 ⟨rfl, rfl⟩
  go_wp2_with fail
  refine (HC.out _ g0).mono ?_
  rintro e w2 ⟨rfl, hb⟩
  have S1 := S0.keep hb
  have g1 := g0.keep hb
  clear S0 g0 hb
  go_wp2_with fail
  refine (HW.out _).mono ?_
  rintro e w3 ⟨rfl, rfl⟩
  go_wp2_with fail
  refine (HPl.out _).mono ?_
  rintro e w4 ⟨rfl, rfl⟩
  go_wp2_with fail
  refine (HR.out _ g1).mono ?_
  rintro e w5 ⟨rfl, hb⟩
  have S2 := S1.keep hb
  have g2 := g1.keep hb
  clear S1 g1 hb
  go_wp2_with fail
  refine (HI.out _ g2).mono ?_
  rintro e w6 ⟨z, N, rfl, hb⟩
  have S3 := S2.keep hb
  clear S2 g2 hb
  have za := S3.c 0 0 rfl rfl; have zb := S3.c 0 1 rfl rfl; have zc := S3.f 0 0 rfl; have zd := S3.f 0 1 rfl
  have HF := Lib.hid (S3.put20 0 rfl (.int .i64 0) (.int .i64 0))
  clear S3
  go_wp2_with fail
  exact bodyPost_ret (v := .tuple #[.agg #[.int .i64 0, .int .i64 0], .int .i64 11]) (by simp [results, Tryd.results41, go_sem, za, zb]) rfl ⟨rfl, HF.out.bl⟩
theorem parse_okFalse (s : ByteArray) (w : World) (hs : s.size ≤ 4000000) (hg : GV w) (h : s.size ≤ 21) (h1 : (s.data.toList == [45, 48]) = false) (h4 : isWh (pW s.data.toList) = true) (h5 : pF s.data.toList = false) (hok : pOk s.data.toList = true) (hf : (if fitsI (pV s.data.toList) = true then (Lib.NumEnd.ok (pV s.data.toList)) else .range) = .ok (pV s.data.toList)) :
    Calls Tryd.prog 41 #[.string s] w fun e w' => e = .returned (.tuple #[.agg #[.int .i64 (pV s.data.toList), .int .i64 ((pP s.data.toList).length : Int)], .int .i64 0]) ∧ Below w.heap.size w w' := by
  obtain ⟨T, W, P, dW, dP, sW, sP, cT, cC⟩ := cut_pre s hs
  have HT := Lib.hid cT
  have HC := Lib.hid cC
  have HW := Lib.hid (fun w => isWhole_any W w sW)
  have HPl := Lib.hid (fun w => isPlaces_any P w (by omega))
  rw [dW] at HW
  rw [dP] at HPl
  clear cT cC sW
  have h2 : ¬ (21 : Int) < (s.size : Int) := by omega
  have h3 : (s.toList == [45, 48]) = false := by rw [s_minus]; exact h1
  rw [h4] at HW
  rw [h5] at HC
  obtain ⟨R, dR, sR, cR⟩ := rep_pre s hs
  have hpi := form_parse (ok_form hok)
  rw [hf] at hpi
  rw [← dR] at hpi
  have HI := Lib.hid (fun w => int_ok R _ w sR hpi)
  obtain ⟨v, hv⟩ : ∃ v, pV s.data.toList = v := ⟨_, rfl⟩
  have hpl : (pP s.data.toList).length = P.size := by rw [← dP, size_len]
  rw [hv] at HI
  rw [hv, hpl]
  have HR := Lib.hid cR
  clear cR sR dR hpi
  have S0 := ((Mem.start w).push #[.int .i64 0, .int .i64 0] 29)
  have g0 : GV (w.alloc (.cells #[.int .i64 0, .int .i64 0] 29)) := hg.keep ((Below.refl _ _).alloc (Nat.le_refl _) _)
  go_enter Tryd.func41, Tryd.ntmps41
  go_wp2_with fail
  refine (HT.out _).mono ?_
  rintro e w1 ⟨rfl, rfl⟩
  go_wp2_with fail
  refine (HC.out _ g0).mono ?_
  rintro e w2 ⟨rfl, hb⟩
  have S1 := S0.keep hb
  have g1 := g0.keep hb
  clear S0 g0 hb
  go_wp2_with fail
  refine (HW.out _).mono ?_
  rintro e w3 ⟨rfl, rfl⟩
  go_wp2_with fail
  refine (HR.out _ g1).mono ?_
  rintro e w5 ⟨rfl, hb⟩
  have S2 := S1.keep hb
  have g2 := g1.keep hb
  clear S1 g1 hb
  go_wp2_with fail
  refine (HI.out _).mono ?_
  rintro e w6 ⟨rfl, hb⟩
  have S3 := S2.keep hb
  clear S2 g2 hb
  have za := S3.c 0 0 rfl rfl; have zb := S3.c 0 1 rfl rfl; have zc := S3.f 0 0 rfl; have zd := S3.f 0 1 rfl
  have HF := Lib.hid (S3.put20 0 rfl (.int .i64 v) (.int .i64 (P.size : Int)))
  clear S3
  go_wp2_with fail
  exact bodyPost_ret (v := .tuple #[.agg #[.int .i64 v, .int .i64 (P.size : Int)], .int .i64 0]) (by simp [results, Tryd.results41, go_sem, za, zb]) rfl ⟨rfl, HF.out.bl⟩
theorem parse_overFalse (s : ByteArray) (w : World) (hs : s.size ≤ 4000000) (hg : GV w) (h : s.size ≤ 21) (h1 : (s.data.toList == [45, 48]) = false) (h4 : isWh (pW s.data.toList) = true) (h5 : pF s.data.toList = false) (hok : pOk s.data.toList = true) (hf : (if fitsI (pV s.data.toList) = true then (Lib.NumEnd.ok (pV s.data.toList)) else .range) = .range) :
    Calls Tryd.prog 41 #[.string s] w fun e w' => e = .returned (.tuple #[.agg #[.int .i64 0, .int .i64 0], .int .i64 11]) ∧ Below w.heap.size w w' := by
  obtain ⟨T, W, P, dW, dP, sW, sP, cT, cC⟩ := cut_pre s hs
  have HT := Lib.hid cT
  have HC := Lib.hid cC
  have HW := Lib.hid (fun w => isWhole_any W w sW)
  have HPl := Lib.hid (fun w => isPlaces_any P w (by omega))
  rw [dW] at HW
  rw [dP] at HPl
  clear cT cC sW
  have h2 : ¬ (21 : Int) < (s.size : Int) := by omega
  have h3 : (s.toList == [45, 48]) = false := by rw [s_minus]; exact h1
  rw [h4] at HW
  rw [h5] at HC
  obtain ⟨R, dR, sR, cR⟩ := rep_pre s hs
  have hpi := form_parse (ok_form hok)
  rw [hf] at hpi
  rw [← dR] at hpi
  have HI := Lib.hid (fun w g => int_over R w sR hpi g)
  have HR := Lib.hid cR
  clear cR sR dR hpi
  have S0 := ((Mem.start w).push #[.int .i64 0, .int .i64 0] 29)
  have g0 : GV (w.alloc (.cells #[.int .i64 0, .int .i64 0] 29)) := hg.keep ((Below.refl _ _).alloc (Nat.le_refl _) _)
  go_enter Tryd.func41, Tryd.ntmps41
  go_wp2_with fail
  refine (HT.out _).mono ?_
  rintro e w1 ⟨rfl, rfl⟩
  go_wp2_with fail
  refine (HC.out _ g0).mono ?_
  rintro e w2 ⟨rfl, hb⟩
  have S1 := S0.keep hb
  have g1 := g0.keep hb
  clear S0 g0 hb
  go_wp2_with fail
  refine (HW.out _).mono ?_
  rintro e w3 ⟨rfl, rfl⟩
  go_wp2_with fail
  refine (HR.out _ g1).mono ?_
  rintro e w5 ⟨rfl, hb⟩
  have S2 := S1.keep hb
  have g2 := g1.keep hb
  clear S1 g1 hb
  go_wp2_with fail
  refine (HI.out _ g2).mono ?_
  rintro e w6 ⟨z, N, rfl, hb⟩
  have S3 := S2.keep hb
  clear S2 g2 hb
  have za := S3.c 0 0 rfl rfl; have zb := S3.c 0 1 rfl rfl; have zc := S3.f 0 0 rfl; have zd := S3.f 0 1 rfl
  have HF := Lib.hid (S3.put20 0 rfl (.int .i64 0) (.int .i64 0))
  clear S3
  go_wp2_with fail
  exact bodyPost_ret (v := .tuple #[.agg #[.int .i64 0, .int .i64 0], .int .i64 11]) (by simp [results, Tryd.results41, go_sem, za, zb]) rfl ⟨rfl, HF.out.bl⟩
/-- Parse, at every text. -/
theorem parse_any (s : ByteArray) (w : World) (hs : s.size ≤ 4000000) (hg : GV w) :
    Calls Tryd.prog 41 #[.string s] w fun e w' => e = .returned (.tuple #[.agg #[.int .i64 (pC s.data.toList), .int .i64 (pS s.data.toList : Int)], .int .i64 (pE s.data.toList)]) ∧ Below w.heap.size w w' := by
  have hl := size_len s
  unfold pC pS
  by_cases h : 21 < s.size
  · have e : pE s.data.toList = 3 := by unfold pE; rw [hl, if_pos h]
    rw [e]; exact parse_long s w hs hg h
  · have h' : s.size ≤ 21 := by omega
    cases hok : pOk s.data.toList with
    | false =>
      have e : pE s.data.toList = 4 := by unfold pE; rw [hl, if_neg h, hok, if_neg (by decide)]
      rw [e]
      cases h1 : s.data.toList == [45, 48] with
      | true => exact parse_minus s w hs hg h' h1
      | false =>
        rw [ok_parts, bne_false h1] at hok
        cases h4 : isWh (pW s.data.toList) with
        | false => exact parse_whole s w hs hg h' h1 h4
        | true =>
          rw [h4] at hok
          cases h5 : pF s.data.toList with
          | false => rw [h5] at hok; cases hok
          | true =>
            rw [h5] at hok
            exact parse_places s w hs hg h' h1 h4 h5 (by simpa using hok)
    | true =>
      have hok' := hok
      rw [ok_parts] at hok'
      simp only [Bool.and_eq_true] at hok'
      obtain ⟨h1, h4, h5⟩ := hok'
      have h1' : (s.data.toList == [45, 48]) = false := by
        cases hx : s.data.toList == [45, 48] with
        | false => rfl
        | true => rw [bne_true hx] at h1; cases h1
      cases hf : fitsI (pV s.data.toList) with
      | false =>
        have e : pE s.data.toList = 11 := by unfold pE; rw [hl, if_neg h, hok, if_pos rfl, hf, if_neg (by decide)]
        rw [e]
        cases h6 : pF s.data.toList with
        | false => exact parse_overFalse s w hs hg h' h1' h4 h6 hok (by rw [hf]; rfl)
        | true => rw [h6] at h5; exact parse_overTrue s w hs hg h' h1' h4 h6 (by simpa using h5) hok (by rw [hf]; rfl)
      | true =>
        have e : pE s.data.toList = 0 := by unfold pE; rw [hl, if_neg h, hok, if_pos rfl, hf, if_pos rfl]
        rw [e]
        cases h6 : pF s.data.toList with
        | false => exact parse_okFalse s w hs hg h' h1' h4 h6 hok (by rw [hf]; rfl)
        | true => rw [h6] at h5; exact parse_okTrue s w hs hg h' h1' h4 h6 (by simpa using h5) hok (by rw [hf]; rfl)
end Go.Proofs.YtfceoehfellpgaaDoor

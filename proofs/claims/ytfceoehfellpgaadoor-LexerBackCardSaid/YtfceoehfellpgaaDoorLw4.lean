/- Package lexer: the sign that a text begins with; the word of a number's text; the word that a text begins with. -/
import Derived.Test.YtfceoehfellpgaaDoorLw3
import Derived.Test.YtfceoehfellpgaaDoorTx4
namespace Corr
set_option maxRecDepth 8000
set_option linter.unusedVariables false
open Go Go.RowKit Go.PlainAid
section
variable {w w0 : World} {g : Nat} {a b c d e : Value}
theorem Blk.put5 (h : Blk w g #[a, b, c, d, e]) (u v x y z : Value) : Blk (((((w.setCell ⟨g, 0, none⟩ u).setCell ⟨g, 1, none⟩ v).setCell ⟨g, 2, none⟩ x).setCell ⟨g, 3, none⟩ y).setCell ⟨g, 4, none⟩ z) g #[u, v, x, y, z] := ((((h.set 0 u).set 1 v).set 2 x).set 3 y).set 4 z
theorem Below.put5 {B : Nat} (h : Below B w0 w) (hg : B ≤ g) (u v x y z : Value) : Below B w0 (((((w.setCell ⟨g, 0, none⟩ u).setCell ⟨g, 1, none⟩ v).setCell ⟨g, 2, none⟩ x).setCell ⟨g, 3, none⟩ y).setCell ⟨g, 4, none⟩ z) :=
  ((((h.setCell (p := ⟨g, 0, none⟩) hg u).setCell (p := ⟨g, 1, none⟩) hg v).setCell (p := ⟨g, 2, none⟩) hg x).setCell (p := ⟨g, 3, none⟩) hg y).setCell (p := ⟨g, 4, none⟩) hg z
end
/-- The signs of two bytes, as the variable holds them. -/
structure PVars (a : Nat) (w : World) : Prop where
  c0 : w.cell? ⟨a, 0, none⟩ = some (.string ⟨#[60, 61]⟩)
  c1 : w.cell? ⟨a, 1, none⟩ = some (.string ⟨#[62, 61]⟩)
  c2 : w.cell? ⟨a, 2, none⟩ = some (.string ⟨#[60, 62]⟩)
theorem PVars.keep {a : Nat} {w w' : World} (h : PVars a w) (hb : Below w.heap.size w w') : PVars a w' :=
  ⟨by rw [hb.cell (Lib.lt_of_cell h.c0)]; exact h.c0, by rw [hb.cell (Lib.lt_of_cell h.c1)]; exact h.c1, by rw [hb.cell (Lib.lt_of_cell h.c2)]; exact h.c2⟩
theorem two_pre {t : ByteArray} {x y : UInt8} : Lib.hasPrefix t.data.toList [x, y] = true ↔ 1 < t.size ∧ bt t 0 = (x.toNat : Int) ∧ bt t 1 = (y.toNat : Int) := by
  unfold Lib.hasPrefix
  have hl := size_len t
  constructor
  · intro h
    cases h0 : t.data.toList with
    | nil => rw [h0] at h; cases h
    | cons a r =>
      cases r with
      | nil => rw [h0] at h; simp at h
      | cons b r =>
        rw [h0] at h hl
        simp at h hl
        obtain ⟨rfl, rfl⟩ := h
        exact ⟨by omega, bt_of (by rw [h0]; rfl), bt_of (by rw [h0]; rfl)⟩
  · rintro ⟨h1, h2, h3⟩
    obtain ⟨a, ha, ha2⟩ := bt_at (show 0 < t.size by omega)
    obtain ⟨b, hb, hb2⟩ := bt_at h1
    have e1 : x = a := UInt8.toNat_inj.1 (by omega)
    have e2 : y = b := UInt8.toNat_inj.1 (by omega)
    subst e1; subst e2
    cases h0 : t.data.toList with
    | nil => rw [h0] at ha; cases ha
    | cons a r =>
      cases r with
      | nil => rw [h0] at hb; cases hb
      | cons b r =>
        rw [h0] at ha hb
        simp at ha hb
        subst ha; subst hb; simp
theorem two_ext {t : ByteArray} {x y : UInt8} (h : Lib.hasPrefix t.data.toList [x, y] = true) : t.extract 0 2 = ⟨#[x, y]⟩ := by
  obtain ⟨h1, h2, h3⟩ := two_pre.1 h
  apply ByteArray.ext
  apply Array.ext'
  have := (two_bytes (s := t) (a := 0) h1 x y).2 ⟨h2, h3⟩
  rw [Nat.zero_add] at this
  rw [this]
theorem pairB_pre (t : ByteArray) : pairB t = (Lib.hasPrefix t.data.toList [60, 61] || (Lib.hasPrefix t.data.toList [62, 61] || Lib.hasPrefix t.data.toList [60, 62])) := by
  rw [Bool.eq_iff_iff]
  simp only [Bool.or_eq_true, two_pre]
  unfold pairB sign2B
  simp only [Bool.and_eq_true, decide_eq_true_eq, Bool.or_eq_true, beq_iff_eq]
  constructor
  · rintro ⟨h, (h1 | h1) | h1⟩
    · exact .inl ⟨h, h1.1, h1.2⟩
    · exact .inr (.inl ⟨h, h1.1, h1.2⟩)
    · exact .inr (.inr ⟨h, h1.1, h1.2⟩)
  · rintro (⟨h, h1, h2⟩ | ⟨h, h1, h2⟩ | ⟨h, h1, h2⟩)
    · exact ⟨h, .inl (.inl ⟨h1, h2⟩)⟩
    · exact ⟨h, .inl (.inr ⟨h1, h2⟩)⟩
    · exact ⟨h, .inr ⟨h1, h2⟩⟩
end Corr
namespace Go.Proofs.YtfceoehfellpgaaDoor
set_option maxRecDepth 8000
open Go.RowKit Go.PlainAid Corr
set_option linter.unusedVariables false
set_option linter.unusedSimpArgs false
/-- What the package reads of the world: the library's variables, its own signs. -/
def LV (w : World) : Prop := GV w ∧ PVars 0 w
theorem LV.keep {w w' : World} (h : LV w) (hb : Below w.heap.size w w') : LV w' := ⟨h.1.keep hb, h.2.keep hb⟩
theorem lwix_0 (w : World) : (Instr.index 62 (.agg #[.string ⟨#[60, 61]⟩, .string ⟨#[62, 61]⟩, .string ⟨#[60, 62]⟩]) (.int .i64 0)).run Tryd.prog w = .ok (.string ⟨#[60, 61]⟩) w := by kernel_rfl
theorem lwix_1 (w : World) : (Instr.index 62 (.agg #[.string ⟨#[60, 61]⟩, .string ⟨#[62, 61]⟩, .string ⟨#[60, 62]⟩]) (.int .i64 1)).run Tryd.prog w = .ok (.string ⟨#[62, 61]⟩) w := by kernel_rfl
theorem lwix_2 (w : World) : (Instr.index 62 (.agg #[.string ⟨#[60, 61]⟩, .string ⟨#[62, 61]⟩, .string ⟨#[60, 62]⟩]) (.int .i64 2)).run Tryd.prog w = .ok (.string ⟨#[60, 62]⟩) w := by kernel_rfl
theorem lwsignof_any (t : ByteArray) (w : World) (ht : t.size ≤ 4000000) (hg : PVars 0 w) : Calls Tryd.prog 27 #[.string t] w fun e w' => e = .returned (.string (t.extract 0 (signE t))) ∧ Below w.heap.size w w' := by
  have ix0 := lwix_0; have ix1 := lwix_1; have ix2 := lwix_2
  have x0 := hg.c0; have x1 := hg.c1; have x2 := hg.c2
  have P0 := Lib.hid (fun w => Tryd.lw_strings_HasPrefix t ⟨#[60, 61]⟩ w)
  have P1 := Lib.hid (fun w => Tryd.lw_strings_HasPrefix t ⟨#[62, 61]⟩ w)
  have P2 := Lib.hid (fun w => Tryd.lw_strings_HasPrefix t ⟨#[60, 62]⟩ w)
  have HA := Lib.hid (fun w => lwrun_sign t w)
  unfold RetRun at HA
  have hle := (runTo_to (p := sign1B) (s := t) (i := 0) (Nat.zero_le _)).2.1
  obtain ⟨S, hS⟩ : ∃ S, t.extract 0 (signE t) = S := ⟨_, rfl⟩
  rw [hS]
  unfold signE at hS
  rw [pairB_pre] at hS
  have E0 := Lib.hid (fun h => two_ext (t := t) (x := 60) (y := 61) h)
  have E1 := Lib.hid (fun h => two_ext (t := t) (x := 62) (y := 61) h)
  have E2 := Lib.hid (fun h => two_ext (t := t) (x := 60) (y := 62) h)
  have HS := Lib.hid hS
  clear hS hg
  generalize Lib.hasPrefix t.data.toList [60, 61] = b0 at *
  generalize Lib.hasPrefix t.data.toList [62, 61] = b1 at *
  generalize Lib.hasPrefix t.data.toList [60, 62] = b2 at *
  generalize runTo sign1B t 0 = n at *
  obtain ⟨m, hm⟩ : ∃ m, min n 1 = m := ⟨_, rfl⟩
  rw [hm] at HS
  have hmi : min (n : Int) 1 = (m : Int) := by omega
  have hrun := fun w => run_slice_string (P := Tryd.prog) w 9 t .i64 .i64 0 (m : Int) Tryd.underlying9 (by omega) (by omega) (by omega)
  have k2 : ((m : Int)).toNat = m := by omega
  simp only [k2, Int.toNat_zero] at hrun
  clear k2 hm
  go_enter Tryd.func27, Tryd.ntmps27
  go_wp2_with fail
  go_loopw [6] (fun u wr => wr = w ∧ ∃ j : Nat, u = .int .i64 (j : Int) ∧ j ≤ 3 ∧ Hid ((0 < j → b0 = false) ∧ (1 < j → b1 = false) ∧ (2 < j → b2 = false))) (fun u _ => (3 - intOf u).toNat)
  case atStart => exact ⟨rfl, 0, rfl, by omega, Lib.hid ⟨fun h => by omega, fun h => by omega, fun h => by omega⟩⟩
  case round =>
    obtain ⟨rfl, j, rfl, hj, HJ⟩ := hrel
    by_cases h0 : j = 0
    · subst h0
      clear HJ
      cases b0 with
      | true =>
        have HE := Lib.hid (show S = ⟨#[60, 61]⟩ by rw [← HS.out, ← E0.out rfl]; rfl)
        go_wp2_with fail
        refine (P0.out _).mono ?_
        rintro e w' ⟨rfl, hw⟩
        obtain rfl := hw.symm
        go_wp2_with fail
        go_ret
        exact ⟨by rw [HE.out]; rfl, Below.refl _ _⟩
      | false =>
        go_wp2_with fail
        refine (P0.out _).mono ?_
        rintro e w' ⟨rfl, hw⟩
        obtain rfl := hw.symm
        go_wp2_with fail
        go_roundw
        case rel => exact ⟨(by first | rfl | trivial), 1, rfl, by omega, Lib.hid ⟨by simp, by simp, by simp⟩⟩
        case measure => decide
    · by_cases h1 : j = 1
      · subst h1
        have h0 := HJ.out.1 (by omega)
        subst h0
        clear HJ
        cases b1 with
        | true =>
          have HE := Lib.hid (show S = ⟨#[62, 61]⟩ by rw [← HS.out, ← E1.out rfl]; rfl)
          go_wp2_with fail
          refine (P1.out _).mono ?_
          rintro e w' ⟨rfl, hw⟩
          obtain rfl := hw.symm
          go_wp2_with fail
          go_ret
          exact ⟨by rw [HE.out]; rfl, Below.refl _ _⟩
        | false =>
          go_wp2_with fail
          refine (P1.out _).mono ?_
          rintro e w' ⟨rfl, hw⟩
          obtain rfl := hw.symm
          go_wp2_with fail
          go_roundw
          case rel => exact ⟨(by first | rfl | trivial), 2, rfl, by omega, Lib.hid ⟨by simp, by simp, by simp⟩⟩
          case measure => decide
      · by_cases h2 : j = 2
        · subst h2
          have h0 := HJ.out.1 (by omega)
          have h1 := HJ.out.2.1 (by omega)
          subst h0; subst h1
          clear HJ
          cases b2 with
          | true =>
            have HE := Lib.hid (show S = ⟨#[60, 62]⟩ by rw [← HS.out, ← E2.out rfl]; rfl)
            go_wp2_with fail
            refine (P2.out _).mono ?_
            rintro e w' ⟨rfl, hw⟩
            obtain rfl := hw.symm
            go_wp2_with fail
            go_ret
            exact ⟨by rw [HE.out]; rfl, Below.refl _ _⟩
          | false =>
            go_wp2_with fail
            refine (P2.out _).mono ?_
            rintro e w' ⟨rfl, hw⟩
            obtain rfl := hw.symm
            go_wp2_with fail
            go_roundw
            case rel => exact ⟨(by first | rfl | trivial), 3, rfl, by omega, Lib.hid ⟨by simp, by simp, by simp⟩⟩
            case measure => decide
        · obtain rfl : j = 3 := by omega
          have h0 := HJ.out.1 (by omega)
          have h1 := HJ.out.2.1 (by omega)
          have h2 := HJ.out.2.2 (by omega)
          subst h0; subst h1; subst h2
          have HE := Lib.hid (show S = t.extract 0 m by rw [← HS.out]; rfl)
          clear HJ
          go_wp2_with fail
          refine (HA.out _).mono ?_
          rintro e w1 ⟨rfl, hb⟩
          have HB := Lib.hid hb
          clear hb
          go_wp2_with fail
          go_ret
          exact ⟨by rw [HE.out]; rfl, HB.out⟩
/-- What numbered tells of a number's text. -/
def numR (W : ByteArray) : Tk × Int :=
  if pE W.data.toList = 0 then ((2, W, pC W.data.toList, (pS W.data.toList : Int), 0), 0)
  else if pE W.data.toList = 11 then ((0, ⟨#[]⟩, 0, 0, 0), 11) else ((0, ⟨#[]⟩, 0, 0, 0), 4)
abbrev RetWd (R : Tk × Int) (w : World) (e : Ending) (w' : World) : Prop := e = .returned (.tuple #[.agg #[.int .u8 R.1.1, .string R.1.2.1, .int .i64 R.1.2.2.1, .int .i64 R.1.2.2.2.1, .int .i64 R.1.2.2.2.2], .int .i64 R.2]) ∧ Below w.heap.size w w'
theorem lwnumbered_any (W : ByteArray) (w : World) (hs : W.size ≤ 4000000) (hg : GV w) : Calls Tryd.prog 28 #[.string W] w (RetWd (numR W) w) := by
  have HG := Lib.hid hg
  have HPA := Lib.hid (fun w h => parse_any W w hs h)
  obtain ⟨R, hR⟩ : ∃ R, numR W = R := ⟨_, rfl⟩
  have HR := Lib.hid hR
  unfold numR at HR
  rw [hR]
  generalize pE W.data.toList = E at *
  generalize pC W.data.toList = C at *
  generalize (pS W.data.toList : Int) = S at *
  have HB0 := Lib.hid (Blk.new w #[.int .u8 0, .string ⟨#[]⟩, .int .i64 0, .int .i64 0, .int .i64 0] 31)
  have HL0 := Lib.hid ((Below.refl w.heap.size w).alloc (Nat.le_refl _) (.cells #[.int .u8 0, .string ⟨#[]⟩, .int .i64 0, .int .i64 0, .int .i64 0] 31))
  have HG0 := Lib.hid (HG.out.keep HL0.out)
  have hsz := HL0.out.size
  clear hR hg hs
  go_enter Tryd.func28, Tryd.ntmps28
  go_wp2_with fail
  refine (HPA.out _ HG0.out).mono ?_
  rintro e w2 ⟨rfl, hb⟩
  have HB2 := Lib.hid (HB0.out.keep hb)
  have HL2 := Lib.hid (HL0.out.trans (hb.mono hsz))
  have hsz2 := HL2.out.size
  clear hb
  have HD := Lib.hid (Blk.new w2 #[.int .i64 C, .int .i64 S] 29)
  have HB3 := Lib.hid (HB2.out.alloc (.cells #[.int .i64 C, .int .i64 S] 29))
  have HL3 := Lib.hid (HL2.out.alloc hsz2 (.cells #[.int .i64 C, .int .i64 S] 29))
  have z0 := HD.out.get 0 rfl; have z1 := HD.out.get 1 rfl
  have c0 := HB3.out.get 0 rfl; have c1 := HB3.out.get 1 rfl; have c2 := HB3.out.get 2 rfl; have c3 := HB3.out.get 3 rfl; have c4 := HB3.out.get 4 rfl
  have f0 := HB3.out.f 0; have f1 := HB3.out.f 1; have f2 := HB3.out.f 2; have f3 := HB3.out.f 3; have f4 := HB3.out.f 4
  by_cases h0 : E = 0
  · have HE := Lib.hid (show R = ((2, W, C, S, 0), 0) by rw [← HR.out]; exact if_pos h0)
    have d0 : (E == 0) = true := by simpa using h0
    clear h0
    have H5 := Lib.hid (Corr.Blk.put5 HB3.out (.int .u8 2) (.string W) (.int .i64 C) (.int .i64 S) (.int .i64 0))
    have HL5 := Lib.hid (Corr.Below.put5 HL3.out (Nat.le_refl _) (.int .u8 2) (.string W) (.int .i64 C) (.int .i64 S) (.int .i64 0))
    go_wp2_with fail
    refine bodyPost_ret (v := .tuple #[.agg #[.int .u8 2, .string W, .int .i64 C, .int .i64 S, .int .i64 0], .int .i64 0]) (by simp [results, Tryd.results28, go_sem, H5.out.get 0 rfl, H5.out.get 1 rfl, H5.out.get 2 rfl, H5.out.get 3 rfl, H5.out.get 4 rfl]) rfl ⟨by rw [HE.out], HL5.out⟩
  · have d0 : (E == 0) = false := by simpa using h0
    by_cases h1 : E = 11
    · have HE := Lib.hid (show R = ((0, ⟨#[]⟩, 0, 0, 0), 11) by rw [← HR.out, if_neg h0]; exact if_pos h1)
      have d1 : (E == 11) = true := by simpa using h1
      clear h0 h1
      have H5 := Lib.hid (Corr.Blk.put5 HB3.out (.int .u8 0) (.string ⟨#[]⟩) (.int .i64 0) (.int .i64 0) (.int .i64 0))
      have HL5 := Lib.hid (Corr.Below.put5 HL3.out (Nat.le_refl _) (.int .u8 0) (.string ⟨#[]⟩) (.int .i64 0) (.int .i64 0) (.int .i64 0))
      go_wp2_with fail
      refine bodyPost_ret (v := .tuple #[.agg #[.int .u8 0, .string ⟨#[]⟩, .int .i64 0, .int .i64 0, .int .i64 0], .int .i64 11]) (by simp [results, Tryd.results28, go_sem, H5.out.get 0 rfl, H5.out.get 1 rfl, H5.out.get 2 rfl, H5.out.get 3 rfl, H5.out.get 4 rfl]) rfl ⟨by rw [HE.out], HL5.out⟩
    · have HE := Lib.hid (show R = ((0, ⟨#[]⟩, 0, 0, 0), 4) by rw [← HR.out, if_neg h0]; exact if_neg h1)
      have d1 : (E == 11) = false := by simpa using h1
      clear h0 h1
      have H5 := Lib.hid (Corr.Blk.put5 HB3.out (.int .u8 0) (.string ⟨#[]⟩) (.int .i64 0) (.int .i64 0) (.int .i64 0))
      have HL5 := Lib.hid (Corr.Below.put5 HL3.out (Nat.le_refl _) (.int .u8 0) (.string ⟨#[]⟩) (.int .i64 0) (.int .i64 0) (.int .i64 0))
      go_wp2_with fail
      refine bodyPost_ret (v := .tuple #[.agg #[.int .u8 0, .string ⟨#[]⟩, .int .i64 0, .int .i64 0, .int .i64 0], .int .i64 4]) (by simp [results, Tryd.results28, go_sem, H5.out.get 0 rfl, H5.out.get 1 rfl, H5.out.get 2 rfl, H5.out.get 3 rfl, H5.out.get 4 rfl]) rfl ⟨by rw [HE.out], HL5.out⟩
end Go.Proofs.YtfceoehfellpgaaDoor

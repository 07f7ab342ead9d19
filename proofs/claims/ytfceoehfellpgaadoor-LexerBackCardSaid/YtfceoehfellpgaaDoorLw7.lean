/- Package lexer: Lex; all that is asked of the package. -/
import Derived.Test.YtfceoehfellpgaaDoorLw6
import Derived.Test.YtfceoehfellpgaaDoorLxK
namespace Corr
set_option maxRecDepth 8000
set_option linter.unusedVariables false
open Go Go.RowKit Go.PlainAid
theorem lexL_g {s : ByteArray} (h : ¬ 400 < s.size) : lexL s = lexG s (runTo blankB s 0) [] := by
  unfold lexL
  rw [if_neg h, ← lexG_skip (Nat.zero_le _)]
  rfl
/-- Behind a run of blanks none stands. -/
theorem skip_none {s : ByteArray} {a : Nat} (h : a ≤ s.size) (hl : runTo blankB s a < s.size) : ¬ bt s (runTo blankB s a) = 32 := by
  have h2 := (runTo_to (p := blankB) h).2.2.2 hl
  intro e
  rw [e] at h2
  cases h2
theorem word_pos {s : ByteArray} {a : Nat} (h : a < s.size) (hok : (wordR (s.extract a s.size)).2 = 0) : a < endN s a := by
  rw [endN_fr h]
  have h0 : 0 < (s.extract a s.size).size := by rw [size_fr]; omega
  cases q : smallB (bt (s.extract a s.size) 0) with
  | true => have := nameE_some h0 q; omega
  | false =>
    cases q0 : digB (bt (s.extract a s.size) 0) with
    | true => have := numE_some h0 q0; omega
    | false =>
      unfold wordR at hok
      rw [q, q0, if_neg Bool.false_ne_true, if_neg Bool.false_ne_true] at hok
      by_cases e : endN (s.extract a s.size) 0 = 0
      · rw [if_pos e] at hok; cases hok
      · omega
theorem Blk.grow {w w' : World} {k : Nat} {vs : Array Value} {row : Option Nat} (h : Blk w k vs) (hg : w.grownBy w' row) (hn : ¬ some k = row) : Blk w' k vs := by
  obtain ⟨T, hT⟩ := h.blk
  exact ⟨T, by rw [hg.block k (Array.getElem?_eq_some_iff.1 hT).1 hn]; exact hT⟩
end Corr
namespace Go.Proofs.YtfceoehfellpgaaDoor
set_option maxRecDepth 8000
open Go.RowKit Go.PlainAid Corr
set_option linter.unusedVariables false
set_option linter.unusedSimpArgs false
set_option maxHeartbeats 400000 in
theorem lwlex_any (s : ByteArray) (w : World) (hs : s.size ≤ 4000000) (hg : LV w) : Calls Tryd.prog 5 #[.string s] w (RetLex 31 w (lexL s)) := by
  by_cases h400 : 400 < s.size
  · have d0 : decide ((s.size : Int) > 400) = true := decide_eq_true (by omega)
    have HL := Lib.hid (show lexL s = ([], 0, 3) by unfold lexL; rw [if_pos h400])
    clear h400
    go_enter Tryd.func5, Tryd.ntmps5
    go_wp2_with fail
    exact bodyPost_ret (v := .tuple #[.slice none 0 0, .int .i64 0, .int .i64 3]) (by simp [results, Tryd.results5, go_sem]) rfl ⟨none, 0, 0, by rw [HL.out], by rw [HL.out]; exact World.ownsRow_nil _ _ _ _, Below.refl _ _⟩
  have d0 : decide ((s.size : Int) > 400) = false := decide_eq_false (by omega)
  have HG := Lib.hid hg
  have HC := Lib.hid (fun w => lwclone_any s w hs)
  have HR := Lib.hid (fun w => lwrun_blank s w)
  obtain ⟨R, hR⟩ : ∃ R, lexL s = R := ⟨_, rfl⟩
  have HX0 := Lib.hid (show lexG s (runTo blankB s 0) [] = R by rw [← hR]; exact (lexL_g h400).symm)
  rw [hR]
  have hs4 : s.size ≤ 400 := by omega
  have hle0 := (runTo_to (p := blankB) (s := s) (i := 0) (Nat.zero_le _)).2.1
  have HS0 := Lib.hid (fun h => skip_none (s := s) (a := 0) (Nat.zero_le _) h)
  unfold RetRun at HR
  generalize runTo blankB s 0 = a0 at *
  clear hR h400 hg
  go_enter Tryd.func5, Tryd.ntmps5
  go_wp2_with fail
  refine (HC.out _).mono ?_
  rintro e w1 ⟨rfl, hb⟩
  have HB1 := Lib.hid hb
  have hsz1 := HB1.out.size
  clear hb
  go_wp2_with fail
  refine (HR.out _).mono ?_
  rintro e w2 ⟨rfl, hb⟩
  have HB2 := Lib.hid (HB1.out.trans (hb.mono hsz1))
  clear hb hsz1
  go_wp2_with fail
  go_loopw [5, 6] (fun u v wr => ∃ (a n c : Nat) (A : Option Addr) (out : List Tk), u = .slice A n c ∧ v = .int .i64 (a : Int) ∧ a ≤ s.size ∧ n ≤ a ∧ Hid ((a < s.size → ¬ bt s a = 32) ∧ lexG s a out = R) ∧ Hid (wr.ownsRow w.heap.size 31 5 (.slice A n c) n (cellsT out)) ∧ Hid (Below w.heap.size w wr)) (fun _ v _ => (s.size - intOf v).toNat)
  case atStart => exact ⟨a0, 0, 0, none, [], rfl, rfl, hle0, by omega, Lib.hid ⟨HS0.out, HX0.out⟩, Lib.hid (World.ownsRow_nil _ _ _ _), HB2⟩
  case round =>
    obtain ⟨a, n, c, A, out, rfl, rfl, ha, hna, HX, HO, HB⟩ := hrel
    clear HX0 HS0 HB1 HB2 hle0
    have hsz := HB.out.size
    have HOB := Lib.hid (own_ge HO.out)
    have HLT := Lib.hid (fun k (hk : (Value.slice A n c).ownBlock = some k) => own_lt HO.out hk)
    by_cases h1 : a < s.size
    · have hbl := HX.out.1 h1
      have h3 := lexG_word (out := out) h1 hbl
      rw [HX.out.2] at h3
      obtain ⟨hai, his⟩ := endN_le h1
      have hln := wordR_len h1
      have hpo := word_pos h1
      have hrun := fun w => run_slice_string (P := Tryd.prog) w 9 s .i64 .i64 (a : Int) (s.size : Int) Tryd.underlying9 (by omega) (by omega) (by omega)
      have kt1 : ((a : Int)).toNat = a := by omega
      have kt2 : ((s.size : Int)).toNat = s.size := by omega
      simp only [kt1, kt2] at hrun
      have HW := Lib.hid (fun w h => lwword0_any (s.extract a s.size) w (by rw [size_fr]; omega) (by rw [size_fr]; omega) h)
      unfold RetWd at HW
      obtain ⟨⟨k, W, C, S, z⟩, E, hWR⟩ : ∃ (x : Tk) (E : Int), wordR (s.extract a s.size) = (x, E) := ⟨_, _, rfl⟩
      rw [hWR] at HW h3 hln hpo
      dsimp only at HW h3 hln hpo
      clear hWR kt1 kt2
      by_cases h0 : E = 0
      · subst h0
        rw [if_pos rfl] at h3
        have hW := hln rfl
        obtain ⟨i, hi⟩ : ∃ i, endN s a = i := ⟨_, rfl⟩
        have hpos := hpo rfl
        rw [hi] at h3 hai his hW hpos
        have hWs : W.size = i - a := by rw [hW, ByteArray.size_extract]; omega
        obtain ⟨m, hm⟩ : ∃ m, runTo blankB (s.extract i s.size) 0 = m := ⟨_, rfl⟩
        have hfr := runTo_fr (p := blankB) (s := s) (a := i) (i := 0) (by omega)
        rw [Nat.add_zero, hm] at hfr
        have hmle := (runTo_to (p := blankB) his).2.1
        have hsk := fun h => skip_none (s := s) (a := i) his h
        rw [hfr] at hmle hsk
        have HRI := Lib.hid (fun w => by have := lwrun_blank (s.extract i s.size) w; unfold RetRun at this; rw [hm] at this; exact this)
        have HX2 := Lib.hid (show (i + m < s.size → ¬ bt s (i + m) = 32) ∧ lexG s (i + m) (out ++ [(k, W, C, S, (a : Int))]) = R from ⟨hsk, by rw [h3, lexG_skip his, hfr]⟩)
        have hrun2 := fun w => run_slice_string (P := Tryd.prog) w 9 s .i64 .i64 (i : Int) (s.size : Int) Tryd.underlying9 (by omega) (by omega) (by omega)
        have kt3 : ((i : Int)).toNat = i := by omega
        have kt4 : ((s.size : Int)).toNat = s.size := by omega
        simp only [kt3, kt4] at hrun2
        have q1 : IntKind.i64.wrap ((a : Int) + (W.size : Int)) = (i : Int) := (IntWalk.i64_in _ (by omega)).trans (by omega)
        have q2 : IntKind.i64.wrap ((i : Int) + (m : Int)) = ((i + m : Nat) : Int) := (IntWalk.i64_in _ (by omega)).trans (by omega)
        have i0 : (0 : Int) ≤ (i : Int) := by omega
        have i1 : (i : Int) ≤ (s.size : Int) := by omega
        clear h3 hW hi hln hbl HX hpo hfr hsk hm kt3 kt4 hai hWs
        go_wp2_with fail
        refine (HW.out _ (HG.out.keep HB.out)).mono ?_
        rintro e w3 ⟨rfl, hb⟩
        have HB3 := Lib.hid (HB.out.trans (hb.mono hsz))
        have HO3 := Lib.hid (own_keep HO.out hb)
        have hsz3 := HB3.out.size
        have hsz3' := hb.size
        clear hb
        have HB5 := Lib.hid ((Blk.new w3 #[.int .u8 k, .string W, .int .i64 C, .int .i64 S, .int .i64 (a : Int)] 31).alloc (.cells #[.int .u8 k, .string W, .int .i64 C, .int .i64 S, .int .i64 (a : Int)] 31))
        have HBK := Lib.hid (HB3.out.alloc hsz3 (.cells #[.int .u8 k, .string W, .int .i64 C, .int .i64 S, .int .i64 (a : Int)] 31))
        have HOK := Lib.hid (HO3.out.alloc (.cells #[.int .u8 k, .string W, .int .i64 C, .int .i64 S, .int .i64 (a : Int)] 31))
        have hszK := HBK.out.size
        have HCN := Lib.hid (show ∀ (j : Nat) (u : Value), (cellsT [(k, W, C, S, (a : Int))])[j]? = some u → (((w3.alloc (.cells #[.int .u8 k, .string W, .int .i64 C, .int .i64 S, .int .i64 (a : Int)] 31))).alloc (.cells #[.int .u8 k, .string W, .int .i64 C, .int .i64 S, .int .i64 (a : Int)] 31)).cell? ((⟨w3.heap.size + 1, 0, none⟩ : Addr).add j) = some u from by
          have h0 := new_cells ((w3.alloc (.cells #[.int .u8 k, .string W, .int .i64 C, .int .i64 S, .int .i64 (a : Int)] 31))) (cellsT [(k, W, C, S, (a : Int))]) 31
          have e0 : ((w3.alloc (.cells #[.int .u8 k, .string W, .int .i64 C, .int .i64 S, .int .i64 (a : Int)] 31))).heap.size = w3.heap.size + 1 := by simp
          rw [e0] at h0; exact h0)
        go_wp2_with (at_builtin; refine wpList_app rfl _ _ 23 rfl (cellsT [(k, W, C, S, (a : Int))]) elem_tok rfl (HOK.out.alloc _) rfl rfl (fun _ => ⟨_, rfl, HCN.out⟩) (cellsT_one _) (by omega) (by unfold maxLen; omega) (by simp; omega) ?_)
        intro v4 w4 hown4 hg4
        have HB4 := Lib.hid ((HBK.out.alloc hszK (.cells #[.int .u8 k, .string W, .int .i64 C, .int .i64 S, .int .i64 (a : Int)] 31)).grown hg4 (by simp; omega) HOB.out)
        have HO4 := Lib.hid (show w4.ownsRow w.heap.size 31 5 v4 (n + 1) (cellsT (out ++ [(k, W, C, S, (a : Int))])) by rw [cellsT_append]; exact hown4)
        have HT4 := Lib.hid (Blk.grow HB5.out hg4 (fun e => by have := HLT.out _ e.symm; omega))
        have y1 := HT4.out.get 1 rfl
        obtain ⟨A4, d4, rfl, _⟩ := Lies.of_own hown4 (by have := hown4.1; exact this)
        have hsz4 := HB4.out.size
        clear hown4 hg4
        go_wp2_with fail
        refine (HRI.out _).mono ?_
        rintro e w5 ⟨rfl, hb⟩
        have HB6 := Lib.hid (HB4.out.trans (hb.mono hsz4))
        have HO6 := Lib.hid (own_keep HO4.out hb)
        clear hb y1
        go_wp2_with fail
        go_roundw
        case rel => exact ⟨i + m, n + 1, d4, A4, out ++ [(k, W, C, S, (a : Int))], rfl, rfl, by omega, by omega, HX2, HO6, HB6⟩
        case measure => simp [intOf]; omega
      · have HRR := Lib.hid (show R = ([], (a : Int), E) by rw [h3, if_neg h0])
        have d3 : (E != 0) = true := by simpa using h0
        clear h3 hln hbl HX h0 hpo
        go_wp2_with fail
        refine (HW.out _ (HG.out.keep HB.out)).mono ?_
        rintro e w3 ⟨rfl, hb⟩
        have HB3 := Lib.hid (HB.out.trans (hb.mono hsz))
        have hsz3 := HB3.out.size
        have HBZ := Lib.hid (HB3.out.alloc hsz3 (.cells #[.int .u8 k, .string W, .int .i64 C, .int .i64 S, .int .i64 z] 31))
        clear hb
        go_wp2_with fail
        exact bodyPost_ret (v := .tuple #[.slice none 0 0, .int .i64 (a : Int), .int .i64 E]) (by simp [results, Tryd.results5, go_sem]) rfl ⟨none, 0, 0, by rw [HRR.out], by rw [HRR.out]; exact World.ownsRow_nil _ _ _ _, HBZ.out⟩
    · have HRR := Lib.hid (show R = (out, 0, 0) by rw [← HX.out.2, lexG_end (by omega)])
      go_wp2_with fail
      exact bodyPost_ret (v := .tuple #[.slice A n c, .int .i64 0, .int .i64 0]) (by simp [results, Tryd.results5, go_sem]) rfl ⟨A, n, c, by rw [HRR.out], by rw [HRR.out]; exact HO.out, HB.out⟩
end Go.Proofs.YtfceoehfellpgaaDoor

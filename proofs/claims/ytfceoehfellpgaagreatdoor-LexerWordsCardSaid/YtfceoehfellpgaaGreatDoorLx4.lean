/- The contract of corrodyref14.Lex. (Written by wip/gen/genlx4.py.) -/
import Derived.Test.YtfceoehfellpgaaGreatDoorLx3
import Derived.Test.YtfceoehfellpgaaGreatDoorTx5
import Derived.Test.YtfceoehfellpgaaGreatDoorSep
import Derived.Deep.CutRange
import Derived.Deep.AppendLies
import Derived.Deep.DeepCutAuto
import Derived.Deep.CutBlock
namespace Corr
set_option maxRecDepth 8000
open Go Go.RowKit Go.PlainAid
/-- A word: its kind, its text, its number, its number's places, its place. -/
abbrev Tk := Int × ByteArray × Int × Int × Int
def cellsT : List Tk → List Value
  | [] => []
  | x :: r => .int .u8 x.1 :: .string x.2.1 :: .int .i64 x.2.2.1 :: .int .i64 x.2.2.2.1 :: .int .i64 x.2.2.2.2 :: cellsT r
theorem cellsT_append : ∀ a b : List Tk, cellsT (a ++ b) = cellsT a ++ cellsT b
  | [], b => rfl
  | x :: r, b => by rw [List.cons_append, cellsT, cellsT_append r b]; rfl
theorem cellsT_len : ∀ l : List Tk, (cellsT l).length = l.length * 5
  | [] => rfl
  | x :: r => by
    have := cellsT_len r
    simp only [cellsT, List.length_cons, this]; omega
theorem cellsT_one : ∀ (x : Tk), ∀ u ∈ cellsT [x], u.oneCell' = true := by
  intro x u hu
  simp [cellsT] at hu
  rcases hu with rfl | rfl | rfl | rfl | rfl <;> rfl
abbrev tk (k : Int) (W : ByteArray) (C S : Int) (a : Nat) : Tk := (k, W, C, S, (a : Int))
/-- What is told of the word W from a to i, and K of what follows. -/
def lexW (x : Int) (a i : Nat) (W : ByteArray) (out : List Tk) (K : List Tk → List Tk × Int × Int) : List Tk × Int × Int :=
  if i = a ∨ (smallB x = true ∧ 12 < i - a) then ([], (a : Int), 4)
  else if smallB x = true then K (out ++ [tk 1 W 0 0 a])
  else if digB x = true then
    if pE W.data.toList = 11 then ([], (a : Int), 11)
    else if pE W.data.toList ≠ 0 then ([], (a : Int), 4)
    else K (out ++ [tk 2 W (pC W.data.toList) (pS W.data.toList : Int) a])
  else K (out ++ [tk 3 W 0 0 a])
theorem lexW_sign {x : Int} {a i : Nat} {W : ByteArray} {out : List Tk} {K : List Tk → List Tk × Int × Int} (h2 : ¬ i = a) (q : smallB x = false) (q0 : digB x = false) : lexW x a i W out K = K (out ++ [tk 3 W 0 0 a]) :=
  (if_neg (by rintro (e | e); exact h2 e; have := e.1; rw [q] at this; cases this)).trans ((if_neg (by rw [q]; decide)).trans (if_neg (by rw [q0]; decide)))
theorem lexW_num {x : Int} {a i : Nat} {W : ByteArray} {out : List Tk} {K : List Tk → List Tk × Int × Int} (h2 : ¬ i = a) (q : smallB x = false) (q0 : digB x = true) : lexW x a i W out K = if pE W.data.toList = 11 then ([], (a : Int), 11) else if pE W.data.toList ≠ 0 then ([], (a : Int), 4) else K (out ++ [tk 2 W (pC W.data.toList) (pS W.data.toList : Int) a]) :=
  (if_neg (by rintro (e | e); exact h2 e; have := e.1; rw [q] at this; cases this)).trans ((if_neg (by rw [q]; decide)).trans (if_pos q0))
/-- What Lex tells: the words, the place, the error. -/
def lexR (s : ByteArray) : Nat → Nat → List Tk → List Tk × Int × Int
  | 0, _, out => (out, 0, 0)
  | n + 1, a, out =>
    if s.size ≤ a then (out, 0, 0)
    else if bt s a = 32 then lexR s n (a + 1) out
    else lexW (bt s a) a (endN s a) (s.extract a (endN s a)) out (lexR s n (endN s a))
theorem lexR_end {s : ByteArray} {n a : Nat} {out : List Tk} (h : s.size ≤ a) : lexR s n a out = (out, 0, 0) := by
  cases n with
  | zero => rfl
  | succ n => exact if_pos h
theorem lexR_blank {s : ByteArray} {n a : Nat} {out : List Tk} (h : a < s.size) (hb : bt s a = 32) : lexR s (n + 1) a out = lexR s n (a + 1) out := (if_neg (by omega)).trans (if_pos hb)
theorem lexR_word {s : ByteArray} {n a : Nat} {out : List Tk} (h : a < s.size) (hb : ¬ bt s a = 32) : lexR s (n + 1) a out = lexW (bt s a) a (endN s a) (s.extract a (endN s a)) out (lexR s n (endN s a)) := (if_neg (by omega)).trans (if_neg hb)
def lexL (s : ByteArray) : List Tk × Int × Int := if 400 < s.size then ([], 0, 3) else lexR s s.size 0 []
theorem endN_le {s : ByteArray} {a : Nat} (h : a < s.size) : a ≤ endN s a ∧ endN s a ≤ s.size := by
  have r := fun p => runTo_to (p := p) (s := s) (i := a) (Nat.le_of_lt h)
  unfold endN
  split
  · exact ⟨(r _).1, (r _).2.1⟩
  · split
    · dsimp only
      split
      · rename_i h2
        have r2 := runTo_to (p := digB) (s := s) (i := runTo digB s a + 1) (by omega)
        have := (r digB).1
        exact ⟨by have := r2.1; omega, r2.2.1⟩
      · exact ⟨(r _).1, (r _).2.1⟩
    · split
      · rename_i h2; exact ⟨by omega, by omega⟩
      · split <;> exact ⟨by omega, by omega⟩
def RetLex (T : TypeId) (w : World) (R : List Tk × Int × Int) (e : Ending) (w' : World) : Prop :=
  ∃ A n c, e = .returned (.tuple #[.slice A n c, .int .i64 R.2.1, .int .i64 R.2.2]) ∧ w'.ownsRow w.heap.size T 5 (.slice A n c) n (cellsT R.1) ∧ Below w.heap.size w w'
end Corr
namespace Go.Proofs.YtfceoehfellpgaaGreatDoor
set_option maxRecDepth 8000
open Go.RowKit Go.PlainAid Corr
set_option linter.unusedVariables false
set_option linter.unusedSimpArgs false
theorem ref03_any (s : ByteArray) (w : World) (hs : s.size ≤ 4000000) :
    Calls Tryz.prog 17 #[.string s] w fun e w' => e = .returned (.tuple #[.agg #[.int .i64 (pC s.data.toList), .int .i64 (pS s.data.toList : Int)], .int .i64 (pE s.data.toList)]) ∧ Below w.heap.size w w' := by
  by_cases h : 21 < s.size
  · have e : pE s.data.toList = 3 := by unfold pE; rw [size_len, if_pos h]
    unfold pC pS
    rw [e]; exact rparse_long s w hs h
  · exact rparse_short s w hs (by omega)
theorem elem_tok : Elem Tryz.prog 23 33 (.agg #[.int .u8 0, .string ⟨#[]⟩, .int .i64 0, .int .i64 0, .int .i64 0]) 5 48 := by
  obtain ⟨i, h0, h1, h2, h3⟩ := info_parts (show (Tryz.prog.info? 33).map (fun i => (i.zero, i.size, i.bytes)) = some (some (.agg #[.int .u8 0, .string ⟨#[]⟩, .int .i64 0, .int .i64 0, .int .i64 0]), 5, 48) by kernel_rfl)
  exact ⟨Tryz.underlying23, ⟨i, h0, h1, h2, h3⟩, rfl, by decide⟩
theorem end_is {s : ByteArray} {a i : Nat} (hs : s.size ≤ 4000000) (ha : a < s.size) (h : endN s a = i) (w : World) : Calls Tryz.prog 14 #[.string s, .int .i64 (a : Int)] w fun e w' => e = .returned (.int .i64 (i : Int)) ∧ w' = w := by rw [← h]; exact end_any s a w hs ha
set_option maxHeartbeats 8000000 in
theorem lex_any (s : ByteArray) (w : World) (hs : s.size ≤ 4000000) : Calls Tryz.prog 6 #[.string s] w (RetLex 33 w (lexL s)) := by
  have hb := get_bt s
  by_cases h400 : 400 < s.size
  · have d0 : decide ((s.size : Int) > 400) = true := decide_eq_true (by omega)
    have HL := Lib.hid (show lexL s = ([], 0, 3) by unfold lexL; rw [if_pos h400])
    clear h400
    go_enter Tryz.func6, Tryz.ntmps6
    go_wp2_with fail
    exact bodyPost_ret (v := .tuple #[.slice none 0 0, .int .i64 0, .int .i64 3]) (by simp [results, Tryz.results6, go_sem]) rfl ⟨none, 0, 0, by rw [HL.out], by rw [HL.out]; exact World.ownsRow_nil _ _ _ _, Below.refl _ _⟩
  have d0 : decide ((s.size : Int) > 400) = false := decide_eq_false (by omega)
  obtain ⟨R, hR⟩ : ∃ R, lexL s = R := ⟨_, rfl⟩
  have HR0 := Lib.hid (show lexR s s.size 0 [] = R by rw [← hR]; unfold lexL; rw [if_neg h400])
  rw [hR]
  have hs4 : s.size ≤ 400 := by omega
  clear hR h400
  go_enter Tryz.func6, Tryz.ntmps6
  go_wp2_with fail
  go_loopw [5, 6] (fun u v wr => ∃ (a n c m : Nat) (A : Option Addr) (out : List Tk), u = .slice A n c ∧ v = .int .i64 (a : Int) ∧ a ≤ s.size ∧ n ≤ a ∧ Hid (s.size ≤ a + m ∧ lexR s m a out = R) ∧ Hid (wr.ownsRow w.heap.size 33 5 (.slice A n c) n (cellsT out)) ∧ Hid (Below w.heap.size w wr)) (fun _ v _ => (s.size - intOf v).toNat)
  case atStart => exact ⟨0, 0, 0, s.size, none, [], rfl, rfl, by omega, by omega, Lib.hid ⟨by omega, HR0.out⟩, Lib.hid (World.ownsRow_nil _ _ _ _), Lib.hid (Below.refl _ _)⟩
  case round =>
    obtain ⟨a, n, c, m, A, out, rfl, rfl, ha, hna, HX, HO, HB⟩ := hrel
    clear HR0
    have hsz := HB.out.size
    have HOB := Lib.hid (own_ge HO.out)
    have HLT := Lib.hid (fun k (hk : (Value.slice A n c).ownBlock = some k) => own_lt HO.out hk)
    by_cases h1 : a < s.size
    · obtain ⟨m, rfl⟩ : ∃ m', m = m' + 1 := ⟨m - 1, by have := HX.out.1; omega⟩
      have hx1 := HX.out.1
      by_cases hbl : bt s a = 32
      · have HX2 := Lib.hid (show s.size ≤ a + 1 + m ∧ lexR s m (a + 1) out = R from ⟨by omega, by rw [← HX.out.2]; exact (lexR_blank h1 hbl).symm⟩)
        have d1 : (bt s a == 32) = true := by simpa using hbl
        clear hbl hx1 HX
        go_wp2_with fail
        go_roundw
        case rel => exact ⟨a + 1, n, c, m, A, out, rfl, by go_num, by omega, by omega, HX2, HO, HB⟩
        case measure => simp [intOf]; omega
      · have d1 : (bt s a == 32) = false := by simpa using hbl
        obtain ⟨i, hi⟩ : ∃ i, endN s a = i := ⟨_, rfl⟩
        obtain ⟨hai, his⟩ := endN_le h1
        rw [hi] at hai his
        have HX1 := Lib.hid (show lexW (bt s a) a i (s.extract a i) out (lexR s m i) = R from by rw [← HX.out.2, ← hi]; exact (lexR_word h1 hbl).symm)
        have HEND := Lib.hid (fun w => end_is hs h1 hi w)
        obtain ⟨W, hW⟩ : ∃ W, s.extract a i = W := ⟨_, rfl⟩
        have hWs : W.size ≤ 4000000 := by rw [← hW, ByteArray.size_extract]; omega
        have hrun := fun w => run_slice_string (P := Tryz.prog) w 9 s .i64 .i64 (a : Int) (i : Int) Tryz.underlying9 (by omega) (by omega) (by omega)
        have kt1 : ((a : Int)).toNat = a := by omega
        have kt2 : ((i : Int)).toNat = i := by omega
        simp only [kt1, kt2, hW] at hrun
        rw [hW] at HX1
        have HB0 := Lib.hid (Blk.new wr #[.int .u8 0, .string W, .int .i64 0, .int .i64 0, .int .i64 (a : Int)] 33)
        have HBA := Lib.hid (HB.out.alloc hsz (.cells #[.int .u8 0, .string W, .int .i64 0, .int .i64 0, .int .i64 (a : Int)] 33))
        have HOA := Lib.hid (HO.out.alloc (.cells #[.int .u8 0, .string W, .int .i64 0, .int .i64 0, .int .i64 (a : Int)] 33))
        clear hbl hi hW HX kt1 kt2
        by_cases h2 : i = a
        · have d2 : ((i : Int) == (a : Int)) = true := by simp; omega
          have HRR := Lib.hid (show R = ([], (a : Int), 4) by rw [← HX1.out]; unfold lexW; exact if_pos (.inl h2))
          clear h2 HX1
          go_wp2_with fail
          refine (HEND.out _).mono ?_
          rintro e w' ⟨rfl, hw'⟩
          obtain rfl := hw'.symm
          go_wp2_with fail
          exact bodyPost_ret (v := .tuple #[.slice none 0 0, .int .i64 (a : Int), .int .i64 4]) (by simp [results, Tryz.results6, go_sem]) rfl ⟨none, 0, 0, by rw [HRR.out], by rw [HRR.out]; exact World.ownsRow_nil _ _ _ _, HBA.out⟩
        have hia : a < i := by omega
        have d2 : ((i : Int) == (a : Int)) = false := by simp; omega
        cases q : smallB (bt s a) with
        | true =>
          have HQ := Lib.hid q
          by_cases h12 : 12 < i - a
          · have d3 : decide ((i : Int) - (a : Int) > 12) = true := decide_eq_true (by omega)
            have HRR := Lib.hid (show R = ([], (a : Int), 4) by rw [← HX1.out]; unfold lexW; exact if_pos (.inr ⟨q, h12⟩))
            clear h2 h12 q HX1
            go_wp2_with fail
            refine (HEND.out _).mono ?_
            rintro e w' ⟨rfl, hw'⟩
            obtain rfl := hw'.symm
            go_wp2_with fail
            refine (small_is HQ.out _).mono ?_
            rintro e w' ⟨rfl, hw'⟩
            obtain rfl := hw'.symm
            go_wp2_with fail
            exact bodyPost_ret (v := .tuple #[.slice none 0 0, .int .i64 (a : Int), .int .i64 4]) (by simp [results, Tryz.results6, go_sem]) rfl ⟨none, 0, 0, by rw [HRR.out], by rw [HRR.out]; exact World.ownsRow_nil _ _ _ _, HBA.out⟩
          · have d3 : decide ((i : Int) - (a : Int) > 12) = false := decide_eq_false (by omega)
            have HX2 := Lib.hid (show s.size ≤ i + m ∧ lexR s m i (out ++ [tk 1 W 0 0 a]) = R from ⟨by omega, by rw [← HX1.out]; unfold lexW; rw [if_neg (by rintro (e | e); exact h2 e; exact h12 e.2), if_pos q]⟩)
            clear h2 h12 q HX1
            go_wp2_with fail
            refine (HEND.out _).mono ?_
            rintro e w' ⟨rfl, hw'⟩
            obtain rfl := hw'.symm
            go_wp2_with fail
            refine (small_is HQ.out _).mono ?_
            rintro e w' ⟨rfl, hw'⟩
            obtain rfl := hw'.symm
            go_wp2_with fail
            refine (small_is HQ.out _).mono ?_
            rintro e w' ⟨rfl, hw'⟩
            obtain rfl := hw'.symm
            have HB1 := Lib.hid (Blk.new wr #[.int .u8 1, .string W, .int .i64 0, .int .i64 0, .int .i64 (a : Int)] 33)
            have y0 := HB1.out.get 0 rfl; have y1 := HB1.out.get 1 rfl; have y2 := HB1.out.get 2 rfl; have y3 := HB1.out.get 3 rfl; have y4 := HB1.out.get 4 rfl
            have HBK := Lib.hid (HB.out.alloc hsz (.cells #[.int .u8 1, .string W, .int .i64 0, .int .i64 0, .int .i64 (a : Int)] 33))
            have HOK := Lib.hid (HO.out.alloc (.cells #[.int .u8 1, .string W, .int .i64 0, .int .i64 0, .int .i64 (a : Int)] 33))
            have hszK := HBK.out.size
            have HCN := Lib.hid (show ∀ (j : Nat) (u : Value), (cellsT [tk (1) W (0) (0) a])[j]? = some u → (((wr.alloc (.cells #[.int .u8 1, .string W, .int .i64 0, .int .i64 0, .int .i64 (a : Int)] 33))).alloc (.cells #[.int .u8 1, .string W, .int .i64 0, .int .i64 0, .int .i64 (a : Int)] 33)).cell? ((⟨wr.heap.size + 1, 0, none⟩ : Addr).add j) = some u from by
              have h0 := new_cells ((wr.alloc (.cells #[.int .u8 1, .string W, .int .i64 0, .int .i64 0, .int .i64 (a : Int)] 33))) (cellsT [tk (1) W (0) (0) a]) 33
              have e0 : ((wr.alloc (.cells #[.int .u8 1, .string W, .int .i64 0, .int .i64 0, .int .i64 (a : Int)] 33))).heap.size = wr.heap.size + 1 := by simp [World.setCell]
              rw [e0] at h0; exact h0)
            go_wp2_with (at_builtin; refine wpList_app rfl _ _ 23 rfl (cellsT [tk (1) W (0) (0) a]) elem_tok rfl (HOK.out.alloc _) rfl rfl (fun _ => ⟨_, rfl, HCN.out⟩) (cellsT_one _) (by omega) (by unfold maxLen; omega) (by simp; omega) ?_)
            intro v4 w4 hown4 hg4
            have HB4 := Lib.hid ((HBK.out.alloc hszK (.cells #[.int .u8 1, .string W, .int .i64 0, .int .i64 0, .int .i64 (a : Int)] 33)).grown hg4 (by simp; omega) HOB.out)
            have HO4 := Lib.hid (show w4.ownsRow w.heap.size 33 5 v4 (n + 1) (cellsT (out ++ [tk (1) W (0) (0) a])) by rw [cellsT_append]; exact hown4)
            obtain ⟨A4, d4, rfl, _⟩ := Lies.of_own hown4 (by have := hown4.1; exact this)
            clear hown4 hg4
            go_wp2_with fail
            go_roundw
            case rel => exact ⟨i, n + 1, d4, m, A4, out ++ [tk (1) W (0) (0) a], rfl, val_int (by omega), by omega, by omega, HX2, HO4, HB4⟩
            case measure => simp [intOf]; omega
        | false =>
          have HQ := Lib.hid q
          cases q0 : digB (bt s a) with
          | false =>
            have HQ0 := Lib.hid q0
            have HX2 := Lib.hid (show s.size ≤ i + m ∧ lexR s m i (out ++ [tk 3 W 0 0 a]) = R from ⟨by omega, by rw [← HX1.out]; exact (lexW_sign h2 q q0).symm⟩)
            clear h2 q q0 HX1
            go_wp2_with fail
            refine (HEND.out _).mono ?_
            rintro e w' ⟨rfl, hw'⟩
            obtain rfl := hw'.symm
            go_wp2_with fail
            refine (small_is HQ.out _).mono ?_
            rintro e w' ⟨rfl, hw'⟩
            obtain rfl := hw'.symm
            go_wp2_with fail
            refine (small_is HQ.out _).mono ?_
            rintro e w' ⟨rfl, hw'⟩
            obtain rfl := hw'.symm
            go_wp2_with fail
            refine (digit_is HQ0.out _).mono ?_
            rintro e w' ⟨rfl, hw'⟩
            obtain rfl := hw'.symm
            have HB1 := Lib.hid (Blk.new wr #[.int .u8 3, .string W, .int .i64 0, .int .i64 0, .int .i64 (a : Int)] 33)
            have y0 := HB1.out.get 0 rfl; have y1 := HB1.out.get 1 rfl; have y2 := HB1.out.get 2 rfl; have y3 := HB1.out.get 3 rfl; have y4 := HB1.out.get 4 rfl
            have HBK := Lib.hid (HB.out.alloc hsz (.cells #[.int .u8 3, .string W, .int .i64 0, .int .i64 0, .int .i64 (a : Int)] 33))
            have HOK := Lib.hid (HO.out.alloc (.cells #[.int .u8 3, .string W, .int .i64 0, .int .i64 0, .int .i64 (a : Int)] 33))
            have hszK := HBK.out.size
            have HCN := Lib.hid (show ∀ (j : Nat) (u : Value), (cellsT [tk (3) W (0) (0) a])[j]? = some u → (((wr.alloc (.cells #[.int .u8 3, .string W, .int .i64 0, .int .i64 0, .int .i64 (a : Int)] 33))).alloc (.cells #[.int .u8 3, .string W, .int .i64 0, .int .i64 0, .int .i64 (a : Int)] 33)).cell? ((⟨wr.heap.size + 1, 0, none⟩ : Addr).add j) = some u from by
              have h0 := new_cells ((wr.alloc (.cells #[.int .u8 3, .string W, .int .i64 0, .int .i64 0, .int .i64 (a : Int)] 33))) (cellsT [tk (3) W (0) (0) a]) 33
              have e0 : ((wr.alloc (.cells #[.int .u8 3, .string W, .int .i64 0, .int .i64 0, .int .i64 (a : Int)] 33))).heap.size = wr.heap.size + 1 := by simp [World.setCell]
              rw [e0] at h0; exact h0)
            go_wp2_with (at_builtin; refine wpList_app rfl _ _ 23 rfl (cellsT [tk (3) W (0) (0) a]) elem_tok rfl (HOK.out.alloc _) rfl rfl (fun _ => ⟨_, rfl, HCN.out⟩) (cellsT_one _) (by omega) (by unfold maxLen; omega) (by simp; omega) ?_)
            intro v4 w4 hown4 hg4
            have HB4 := Lib.hid ((HBK.out.alloc hszK (.cells #[.int .u8 3, .string W, .int .i64 0, .int .i64 0, .int .i64 (a : Int)] 33)).grown hg4 (by simp; omega) HOB.out)
            have HO4 := Lib.hid (show w4.ownsRow w.heap.size 33 5 v4 (n + 1) (cellsT (out ++ [tk (3) W (0) (0) a])) by rw [cellsT_append]; exact hown4)
            obtain ⟨A4, d4, rfl, _⟩ := Lies.of_own hown4 (by have := hown4.1; exact this)
            clear hown4 hg4
            go_wp2_with fail
            go_roundw
            case rel => exact ⟨i, n + 1, d4, m, A4, out ++ [tk (3) W (0) (0) a], rfl, val_int (by omega), by omega, by omega, HX2, HO4, HB4⟩
            case measure => simp [intOf]; omega
          | true =>
            have HQ0 := Lib.hid q0
            have HX3 := Lib.hid (show (if pE W.data.toList = 11 then ([], (a : Int), 11) else if pE W.data.toList ≠ 0 then ([], (a : Int), 4) else lexR s m i (out ++ [tk 2 W (pC W.data.toList) (pS W.data.toList : Int) a])) = R from by rw [← HX1.out]; exact (lexW_num h2 q q0).symm)
            clear h2 q q0 HX1
            have HPA := Lib.hid (fun w => ref03_any W w hWs)
            obtain ⟨E, hE⟩ : ∃ E, pE W.data.toList = E := ⟨_, rfl⟩
            obtain ⟨C, hC⟩ : ∃ C, pC W.data.toList = C := ⟨_, rfl⟩
            obtain ⟨S, hS⟩ : ∃ S : Int, (pS W.data.toList : Int) = S := ⟨_, rfl⟩
            rw [hE, hC, hS] at HPA HX3
            clear hE hC hS
            go_wp2_with fail
            refine (HEND.out _).mono ?_
            rintro e w' ⟨rfl, hw'⟩
            obtain rfl := hw'.symm
            go_wp2_with fail
            refine (small_is HQ.out _).mono ?_
            rintro e w' ⟨rfl, hw'⟩
            obtain rfl := hw'.symm
            go_wp2_with fail
            refine (small_is HQ.out _).mono ?_
            rintro e w' ⟨rfl, hw'⟩
            obtain rfl := hw'.symm
            go_wp2_with fail
            refine (digit_is HQ0.out _).mono ?_
            rintro e w' ⟨rfl, hw'⟩
            obtain rfl := hw'.symm
            have HB1 := Lib.hid (Blk.new wr #[.int .u8 2, .string W, .int .i64 0, .int .i64 0, .int .i64 (a : Int)] 33)
            have y0 := HB1.out.get 0 rfl; have y1 := HB1.out.get 1 rfl; have y2 := HB1.out.get 2 rfl; have y3 := HB1.out.get 3 rfl; have y4 := HB1.out.get 4 rfl
            have HBK := Lib.hid (HB.out.alloc hsz (.cells #[.int .u8 2, .string W, .int .i64 0, .int .i64 0, .int .i64 (a : Int)] 33))
            have HOK := Lib.hid (HO.out.alloc (.cells #[.int .u8 2, .string W, .int .i64 0, .int .i64 0, .int .i64 (a : Int)] 33))
            have hszK := HBK.out.size
            go_wp2_with fail
            refine (HPA.out _).mono ?_
            rintro e w5 ⟨rfl, hb5⟩
            have HB5 := Lib.hid (HB1.out.keep hb5)
            have HBK5 := Lib.hid (HBK.out.trans (hb5.mono hszK))
            have HO5 := Lib.hid (own_keep HOK.out hb5)
            have hsz5 := HBK5.out.size
            clear hb5 y0 y1 y2 y3 y4
            by_cases h11 : E = 11
            · have HRR := Lib.hid (show R = ([], (a : Int), 11) by rw [← HX3.out, if_pos h11])
              have e5 : (E == 11) = true := by simpa using h11
              have HE := Lib.hid h11
              have HBZ := Lib.hid (HBK5.out.alloc hsz5 (.cells #[.int .i64 C, .int .i64 S] 31))
              clear HX3 h11
              go_wp2_with fail
              exact bodyPost_ret (v := .tuple #[.slice none 0 0, .int .i64 (a : Int), .int .i64 E]) (by simp [results, Tryz.results6, go_sem]) rfl ⟨none, 0, 0, by rw [HRR.out, HE.out], by rw [HRR.out]; exact World.ownsRow_nil _ _ _ _, HBZ.out⟩
            have e5 : (E == 11) = false := by simpa using h11
            by_cases h0 : E = 0
            · have e6 : (E != 0) = false := by simpa using h0
              have HX2 := Lib.hid (show s.size ≤ i + m ∧ lexR s m i (out ++ [tk 2 W C S a]) = R from ⟨by omega, by rw [← HX3.out, if_neg h11, if_neg (fun e => e h0)]⟩)
              have B9 := Blk.new w5 #[.int .i64 C, .int .i64 S] 31
              have z0 := B9.get 0 rfl; have z1 := B9.get 1 rfl
              have HB6 := Lib.hid (HB5.out.alloc (.cells #[.int .i64 C, .int .i64 S] 31))
              have f2 := HB6.out.f 2
              have c2 := HB6.out.get 2 rfl
              have c3 := (HB6.out.set 2 (.int .i64 C)).get 3 rfl
              have f3 := (HB6.out.set 2 (.int .i64 C)).f 3
              have HB7 := Lib.hid ((HB6.out.set 2 (.int .i64 C)).set 3 (.int .i64 S))
              have y0 := HB7.out.get 0 rfl; have y1 := HB7.out.get 1 rfl; have y2 := HB7.out.get 2 rfl; have y3 := HB7.out.get 3 rfl; have y4 := HB7.out.get 4 rfl
              have HBL := Lib.hid (((HBK5.out.alloc hsz5 (.cells #[.int .i64 C, .int .i64 S] 31)).setCell (p := ⟨wr.heap.size, 2, none⟩) hsz (.int .i64 C)).setCell (p := ⟨wr.heap.size, 3, none⟩) hsz (.int .i64 S))
              have HOL := Lib.hid (Off.own ((Off.set (F := (· = wr.heap.size)) (a := ⟨wr.heap.size, 2, none⟩) rfl (.int .i64 C)).trans (Off.set (F := (· = wr.heap.size)) (a := ⟨wr.heap.size, 3, none⟩) rfl (.int .i64 S))) (HO5.out.alloc (.cells #[.int .i64 C, .int .i64 S] 31)) (fun k hk e => by have := HLT.out k hk; omega))
              have hszL := HBL.out.size
              clear HX3 h0 h11 B9
              have HCN := Lib.hid (show ∀ (j : Nat) (u : Value), (cellsT [tk (2) W (C) (S) a])[j]? = some u → ((((w5.alloc (.cells #[.int .i64 C, .int .i64 S] 31)).setCell ⟨wr.heap.size, 2, none⟩ (.int .i64 C)).setCell ⟨wr.heap.size, 3, none⟩ (.int .i64 S)).alloc (.cells #[.int .u8 2, .string W, .int .i64 C, .int .i64 S, .int .i64 (a : Int)] 33)).cell? ((⟨w5.heap.size + 1, 0, none⟩ : Addr).add j) = some u from by
                have h0 := new_cells (((w5.alloc (.cells #[.int .i64 C, .int .i64 S] 31)).setCell ⟨wr.heap.size, 2, none⟩ (.int .i64 C)).setCell ⟨wr.heap.size, 3, none⟩ (.int .i64 S)) (cellsT [tk (2) W (C) (S) a]) 33
                have e0 : (((w5.alloc (.cells #[.int .i64 C, .int .i64 S] 31)).setCell ⟨wr.heap.size, 2, none⟩ (.int .i64 C)).setCell ⟨wr.heap.size, 3, none⟩ (.int .i64 S)).heap.size = w5.heap.size + 1 := by simp [World.setCell]
                rw [e0] at h0; exact h0)
              go_wp2_with (at_builtin; refine wpList_app rfl _ _ 23 rfl (cellsT [tk (2) W (C) (S) a]) elem_tok rfl (HOL.out.alloc _) rfl rfl (fun _ => ⟨_, rfl, HCN.out⟩) (cellsT_one _) (by omega) (by unfold maxLen; omega) (by simp; omega) ?_)
              intro v4 w4 hown4 hg4
              have HB4 := Lib.hid ((HBL.out.alloc hszL (.cells #[.int .u8 2, .string W, .int .i64 C, .int .i64 S, .int .i64 (a : Int)] 33)).grown hg4 (by simp; omega) HOB.out)
              have HO4 := Lib.hid (show w4.ownsRow w.heap.size 33 5 v4 (n + 1) (cellsT (out ++ [tk (2) W (C) (S) a])) by rw [cellsT_append]; exact hown4)
              obtain ⟨A4, d4, rfl, _⟩ := Lies.of_own hown4 (by have := hown4.1; exact this)
              clear hown4 hg4
              go_wp2_with fail
              go_roundw
              case rel => exact ⟨i, n + 1, d4, m, A4, out ++ [tk (2) W (C) (S) a], rfl, val_int (by omega), by omega, by omega, HX2, HO4, HB4⟩
              case measure => simp [intOf]; omega
            · have e6 : (E != 0) = true := by simpa using h0
              have HRR := Lib.hid (show R = ([], (a : Int), 4) by rw [← HX3.out, if_neg h11, if_pos h0])
              have HBZ := Lib.hid (HBK5.out.alloc hsz5 (.cells #[.int .i64 C, .int .i64 S] 31))
              clear HX3 h0 h11
              go_wp2_with fail
              exact bodyPost_ret (v := .tuple #[.slice none 0 0, .int .i64 (a : Int), .int .i64 4]) (by simp [results, Tryz.results6, go_sem]) rfl ⟨none, 0, 0, by rw [HRR.out], by rw [HRR.out]; exact World.ownsRow_nil _ _ _ _, HBZ.out⟩
    · have HB9 := Lib.hid (show R = (out, 0, 0) by
        rw [← HX.out.2]; exact lexR_end (by omega))
      go_wp2_with fail
      exact bodyPost_ret (v := .tuple #[.slice A n c, .int .i64 0, .int .i64 0]) (by simp [results, Tryz.results6, go_sem]) rfl ⟨A, n, c, by rw [HB9.out], by rw [HB9.out]; exact HO.out, HB.out⟩
end Go.Proofs.YtfceoehfellpgaaGreatDoor

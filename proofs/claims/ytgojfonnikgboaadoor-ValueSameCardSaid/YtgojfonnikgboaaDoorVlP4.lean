/- Package value: Num of what is none; Parse. -/
import Derived.Test.YtgojfonnikgboaaDoorVlP3
import Derived.Test.YtgojfonnikgboaaDoorTx4
namespace Corr
set_option maxRecDepth 8000
open Go Go.RowKit
/-- Where the loop over the words stands. -/
def AtWord (s : List UInt8) (l : List (Int × Int × List UInt8)) (b r : Nat) (wr : World) : Prop :=
  ∃ seen : Array Nat, wr.heap[b]? = some (.map (entsF l 0).toArray l.length) ∧ wr.heap[r]? = some (.mapIter (some b) l.length seen l.length) ∧ ∀ p k, mkE p k ∈ entsF l 0 → seen.contains k = true → ¬ s = p.2.2
structure PR (s : List UInt8) (l : List (Int × Int × List UInt8)) (w : World) (b r : Nat) (wr : World) : Prop where
  x : Blk wr w.heap.size #[.int .u8 0, .int .i64 0, .int .i64 0, .int .i64 0]
  at_ : AtWord s l b r wr
  bl : Below w.heap.size w wr
theorem PR.alloc {s : List UInt8} {l : List (Int × Int × List UInt8)} {w wr : World} {b r : Nat} (h : PR s l w b r wr) (o : Obj) : PR s l w b r (wr.alloc o) := by
  obtain ⟨seen, h1, h2, h3⟩ := h.at_
  exact ⟨h.x.alloc o, ⟨seen, (Below.heap_alloc wr o b (Array.getElem?_eq_some_iff.1 h1).1).trans h1, (Below.heap_alloc wr o r (Array.getElem?_eq_some_iff.1 h2).1).trans h2, h3⟩, h.bl.alloc h.bl.size _⟩
theorem entsF_inj {l : List (Int × Int × List UInt8)} {p q : Int × Int × List UInt8} {k : Nat} : ∀ {n : Nat}, mkE p k ∈ entsF l n → mkE q k ∈ entsF l n → p.2.2 = q.2.2 := by
  induction l with
  | nil => intro n h; cases h
  | cons x l ih =>
    intro n h1 h2
    rcases List.mem_cons.1 h1 with e1 | h1
    · rcases List.mem_cons.1 h2 with e2 | h2
      · have := e1.trans e2.symm
        simp only [mkE, MapEntry.mk.injEq, Value.agg.injEq] at this
        simpa using this.2.1
      · obtain ⟨_, _, j, e, h, _⟩ := entsF_mem h2
        have a := congrArg MapEntry.born e1
        have b := congrArg MapEntry.born e
        simp only [mkE] at a b
        omega
    · rcases List.mem_cons.1 h2 with e2 | h2
      · obtain ⟨_, _, j, e, h, _⟩ := entsF_mem h1
        have a := congrArg MapEntry.born e2
        have b := congrArg MapEntry.born e
        simp only [mkE] at a b
        omega
      · exact ih h1 h2
end Corr
namespace Go.Proofs.YtgojfonnikgboaaDoor
set_option maxRecDepth 8000
open Go.RowKit Corr
set_option linter.unusedVariables false
set_option linter.unusedSimpArgs false
theorem num_none (C S : Int) (w : World) (h : S < 0 ∨ 9 < S) : Calls Tryd.prog 17 #[.agg #[.int .i64 C, .int .i64 S]] w fun e w' => e = .returned (.tuple #[vlV 0 0 0 0, .int .i64 2]) ∧ Below w.heap.size w w' := by
  have HP := Lib.hid (fun w => dput_no C S w h)
  clear h
  have S1 := ((Mem.start w).push #[.int .i64 C, .int .i64 S] 23).push #[.int .u8 0, .int .i64 0, .int .i64 0, .int .i64 0] 26
  simp only [size_alloc] at S1
  have a0 := S1.c 0 0 rfl rfl
  have a1 := S1.c 0 1 rfl rfl
  go_enter Tryd.func17, Tryd.ntmps17
  go_wp2_with fail
  refine (HP.out _).mono ?_
  rintro e w1 ⟨rfl, hb⟩
  have S2 := (S1.keep hb).push #[.int .i64 0, .int .i64 0] 23
  clear a0 a1
  have b0 := S2.c 1 0 rfl rfl
  have b1 := S2.c 1 1 rfl rfl
  have b2 := S2.c 1 2 rfl rfl
  have b3 := S2.c 1 3 rfl rfl
  have f0 := S2.f 1 0 rfl
  have f1 := S2.f 1 1 rfl
  have f2 := S2.f 1 2 rfl
  have f3 := S2.f 1 3 rfl
  have HF := Lib.hid (S2.put40 1 rfl (.int .u8 0) (.int .i64 0) (.int .i64 0) (.int .i64 0)).bl
  clear S1 S2 hb
  go_wp2_with fail
  exact bodyPost_ret (v := .tuple #[vlV 0 0 0 0, .int .i64 2]) (by simp [results, Tryd.results17, go_sem, b0, b1, b2, b3]) rfl ⟨rfl, HF.out⟩
theorem wpl_range {w : World} {ops : Array Oper} {rest : List Oper} {o : Oper} {a : Act} {Q : Exit → Act → World → Prop} (hg : o.guard = none) (m : Operand) (hop : o.op = Op.range 34 m) (b : Nat) (l : List (Int × Int × List UInt8)) (hm : a.eval m = .map (some b))
    (hb : w.heap[b]? = some (.map (entsF l 0).toArray l.length)) (hK : wpList Tryd.prog ops Q rest (a.put o.dst (.pointer (some ⟨w.heap.size, 0, none⟩))) (w.alloc (.mapIter (some b) l.length #[] l.length))) : wpList Tryd.prog ops Q (o :: rest) a w := by
  refine wpList_plain hg fun K' hK' => ?_
  have hrun := run_range_map w 34 _ _ b _ _ Tryd.underlying34 hb
  unfold Oper.wp
  simp [execOp, hop, hm, hrun, Result.andThen]
  exact hK' _ _ hK
theorem left_alloc {w : World} {b r : Nat} (o : Obj) (hb : b < w.heap.size) (hr : r < w.heap.size) : (w.alloc o).rangeLeft b r = w.rangeLeft b r := by
  unfold World.rangeLeft
  rw [Below.heap_alloc w o b hb, Below.heap_alloc w o r hr]
theorem no_words {s : List UInt8} {l : List (Int × Int × List UInt8)} (hm : ∀ p, p ∈ l ↔ p ∈ wordsL) (h : ∀ p ∈ l, ¬ s = p.2.2) : readV s = if s.length ≤ 21 ∧ pE s = 0 then (1, pC s, (pS s : Int), 0, 0) else (0, 0, 0, 0, 4) := by
  have g : ∀ p ∈ wordsL, ¬ s = p.2.2 := fun p hp => h p ((hm p).2 hp)
  have w : ∀ i (hi : i < wordsL.length), ¬ s = (wordsL[i]).2.2 := fun i hi => g _ (List.getElem_mem hi)
  exact readV_rest (w 0 (by decide)) (w 1 (by decide)) (w 2 (by decide)) (w 3 (by decide)) (w 4 (by decide)) (w 5 (by decide))
set_option maxHeartbeats 4000000 in
theorem vparse_code (s : ByteArray) (w : World) (hg : GV w) (hs : s.size ≤ 100) : Calls Tryd.prog 10 #[.string s] w fun e w' => e = .returned (readR (readV s.data.toList)) ∧ Below w.heap.size w w' := by
  have S1 := (Mem.start w).push #[.int .u8 0, .int .i64 0, .int .i64 0, .int .i64 0] 26
  go_enter Tryd.func10, Tryd.ntmps10
  go_wp2_with fail
  refine (words_any _).mono ?_
  rintro e w1 ⟨b, hbb, rfl, ⟨l, hl, hm⟩, hb⟩
  have S2 := S1.keep hb
  have h0 : PR s.data.toList l w b w1.heap.size (w1.alloc (.mapIter (some b) l.length #[] l.length)) := by
    have hlt := (Array.getElem?_eq_some_iff.1 hl).1
    refine ⟨(S2.b 0 rfl).alloc _, ⟨#[], (Below.heap_alloc w1 _ b hlt).trans hl, heapNew w1 _, fun p k _ h => by simp at h⟩, S2.bl.alloc S2.bl.size _⟩
  have hw1 : w.heap.size < w1.heap.size := S2.sz 0 rfl
  clear hb S1 S2 hbb
  go_wp2_with (first
    | (at_range; refine wpl_range rfl _ rfl b l rfl hl ?_)
    | go_in)
  go_frame
  clear hl
  go_loopw [10] (fun _ wr => PR s.data.toList l w b w1.heap.size wr) (fun _ wr => wr.rangeLeft b w1.heap.size)
  case atStart => exact h0
  case round =>
    have HP := Lib.hid hrel
    obtain ⟨seen, hat1, hat2, hat3⟩ := hrel.at_
    have HA := Lib.hid hat3
    clear hrel hat3
    go_wp2_with (first
      | (at_next; refine wpl_next rfl _ rfl l b w1.heap.size seen rfl hat1 hat2 ?_ ?_)
      | go_in)
    · intro hall
      have HN := Lib.hid (no_words hm (fun p hp => by
        obtain ⟨k, hk⟩ := entsF_has 0 hp
        exact HA.out p k hk (hall p hp k hk)))
      have HG := Lib.hid (hg.keep HP.out.bl)
      have HQ := Lib.hid (fun w9 g => parse_any s w9 (by omega) g)
      clear hat1 hat2 HA hall
      obtain ⟨t, ht⟩ : ∃ t, s.data.toList = t := ⟨_, rfl⟩
      have HT := Lib.hid ht
      rw [ht] at HN HQ
      clear ht
      obtain ⟨C, hC⟩ : ∃ C, pC t = C := ⟨_, rfl⟩
      obtain ⟨S, hS⟩ : ∃ S : Nat, pS t = S := ⟨_, rfl⟩
      obtain ⟨E, hE⟩ : ∃ E, pE t = E := ⟨_, rfl⟩
      have HO := Lib.hid (fun h => only_text (l := t) h)
      have HL := Lib.hid (fun h => (pE_ok (l := t) h).1)
      rw [hC, hS, hE] at HO HN HQ
      rw [hE] at HL
      clear hC hS hE hm
      by_cases p : E = 0
      · have HR := Lib.hid (show readV t = (1, C, (S : Int), 0, 0) by rw [HN.out, if_pos ⟨HL.out p, p⟩])
        obtain ⟨o1, o2, o3, o4, o5, _⟩ := HO.out p
        have HU := Lib.hid (fun w9 => num_some C S w9 o1 o2 o3)
        rw [o4, o5] at HU
        subst p
        clear HO HN HL o1 o2 o3 o4 o5
        go_wp2_with fail
        refine (HQ.out _ HG.out).mono ?_
        rintro e w3 ⟨rfl, hb⟩
        have HX := ((HP.out.x.keep hb).alloc (.cells #[.int .i64 C, .int .i64 (S : Int)] 23))
        have HB := (HP.out.bl.trans (hb.mono HP.out.bl.size)).alloc (Nat.le_trans HP.out.bl.size hb.size) (.cells #[.int .i64 C, .int .i64 (S : Int)] 23)
        generalize (S : Int) = Sz at *
        clear hb HP HQ HG
        go_wp2_with fail
        refine (HU.out _).mono ?_
        rintro e w4 ⟨rfl, hb⟩
        have HX2 := HX.keep hb
        have HB2 := Lib.hid (HB.trans (hb.mono HB.size))
        have b0 := HX2.get 0 rfl
        have f0 := HX2.f 0
        have b1 := HX2.get 1 rfl
        have f1 := HX2.f 1
        have b2 := HX2.get 2 rfl
        have f2 := HX2.f 2
        have b3 := HX2.get 3 rfl
        have f3 := HX2.f 3
        have HF := Lib.hid ((((HB2.out.setCell (p := ⟨w.heap.size, 0, none⟩) (Nat.le_refl _) (.int .u8 1)).setCell (p := ⟨w.heap.size, 1, none⟩) (Nat.le_refl _) (.int .i64 C)).setCell (p := ⟨w.heap.size, 2, none⟩) (Nat.le_refl _) (.int .i64 Sz)).setCell (p := ⟨w.heap.size, 3, none⟩) (Nat.le_refl _) (.int .i64 0))
        clear hb HX HX2 HB HU
        go_wp2_with fail
        exact bodyPost_ret (v := .tuple #[vlV 1 C Sz 0, .int .i64 0]) (by simp [results, Tryd.results10, go_sem, b0, b1, b2, b3]) rfl ⟨by rw [HT.out, HR.out]; rfl, HF.out⟩
      · have HR := Lib.hid (show readV t = (0, 0, 0, 0, 4) by rw [HN.out, if_neg (fun h => p h.2)])
        have d : (E != 0) = true := by simpa using p
        clear HO HN HL p
        go_wp2_with fail
        refine (HQ.out _ HG.out).mono ?_
        rintro e w3 ⟨rfl, hb⟩
        have HX := ((HP.out.x.keep hb).alloc (.cells #[.int .i64 C, .int .i64 (S : Int)] 23))
        have HB := Lib.hid ((HP.out.bl.trans (hb.mono HP.out.bl.size)).alloc (Nat.le_trans HP.out.bl.size hb.size) (.cells #[.int .i64 C, .int .i64 (S : Int)] 23))
        have b0 := HX.get 0 rfl
        have f0 := HX.f 0
        have b1 := HX.get 1 rfl
        have f1 := HX.f 1
        have b2 := HX.get 2 rfl
        have f2 := HX.f 2
        have b3 := HX.get 3 rfl
        have f3 := HX.f 3
        have HF := Lib.hid ((((HB.out.setCell (p := ⟨w.heap.size, 0, none⟩) (Nat.le_refl _) (.int .u8 0)).setCell (p := ⟨w.heap.size, 1, none⟩) (Nat.le_refl _) (.int .i64 0)).setCell (p := ⟨w.heap.size, 2, none⟩) (Nat.le_refl _) (.int .i64 0)).setCell (p := ⟨w.heap.size, 3, none⟩) (Nat.le_refl _) (.int .i64 0))
        generalize (S : Int) = Sz at *
        clear hb HX HB HP HQ HG
        go_wp2_with fail
        exact bodyPost_ret (v := .tuple #[vlV 0 0 0 0, .int .i64 4]) (by simp [results, Tryd.results10, go_sem, b0, b1, b2, b3]) rfl ⟨by rw [HT.out, HR.out]; rfl, HF.out⟩
    · intro kk ee tt k w2 hp he hb2 hr2 hlt hgr hsz hen
      obtain ⟨T, hT⟩ : ∃ T : ByteArray, T = ⟨tt.toArray⟩ := ⟨_, rfl⟩
      rw [← hT] at hen ⊢
      have hT2 : T.data.toList = tt := by subst hT; simp
      clear hT
      have hP2 : PR s.data.toList l w b w1.heap.size w2 → True := fun _ => trivial
      have hx2 : Blk w2 w.heap.size #[.int .u8 0, .int .i64 0, .int .i64 0, .int .i64 0] := by
        obtain ⟨T0, h0⟩ := HP.out.x.blk
        exact ⟨T0, (hgr.block w.heap.size HP.out.x.sz (by intro e; have := Option.some.inj e; omega)).trans h0⟩
      have hB2 : Below w.heap.size w w2 := HP.out.bl.grown hgr HP.out.bl.size (fun j hj => by cases hj; omega)
      have hszb := (Array.getElem?_eq_some_iff.1 hb2).1
      have hszr := (Array.getElem?_eq_some_iff.1 hr2).1
      have HX := ((hx2.alloc (.cells #[.int .u8 kk, .int .i64 0, .int .i64 0, .int .i64 ee] 26)).alloc (.cells #[.string T] 33))
      have HB := Lib.hid ((hB2.alloc hB2.size (.cells #[.int .u8 kk, .int .i64 0, .int .i64 0, .int .i64 ee] 26)).alloc (hB2.alloc hB2.size (.cells #[.int .u8 kk, .int .i64 0, .int .i64 0, .int .i64 ee] 26)).size (.cells #[.string T] 33))
      have hne : ¬ w.heap.size = w2.heap.size := by have := hx2.sz; omega
      by_cases hq : s.data.toList = tt
      · have d : (T.toList == s.toList) = true := by rw [Lib.toList_data, Lib.toList_data, hT2, hq]; simp
        have HR := Lib.hid (show readV s.data.toList = (kk, 0, 0, ee, 0) by rw [hq]; exact (word_may (kk, ee, tt) hp).2.2.2)
        have b0 := HX.get 0 rfl
        have f0 := HX.f 0
        have b1 := HX.get 1 rfl
        have f1 := HX.f 1
        have b2 := HX.get 2 rfl
        have f2 := HX.f 2
        have b3 := HX.get 3 rfl
        have f3 := HX.f 3
        have HF := Lib.hid ((((HB.out.setCell (p := ⟨w.heap.size, 0, none⟩) (Nat.le_refl _) (.int .u8 kk)).setCell (p := ⟨w.heap.size, 1, none⟩) (Nat.le_refl _) (.int .i64 0)).setCell (p := ⟨w.heap.size, 2, none⟩) (Nat.le_refl _) (.int .i64 0)).setCell (p := ⟨w.heap.size, 3, none⟩) (Nat.le_refl _) (.int .i64 ee))
        clear HX hx2 hB2 HP HA hb2 hr2 hlt hgr hsz he hp hT2 hq hP2 hm hg hat1 hat2 hszb hszr
        go_wp2_with fail
        exact bodyPost_ret (v := .tuple #[vlV kk 0 0 ee, .int .i64 0]) (by simp [results, Tryd.results10, go_sem, b0, b1, b2, b3]) rfl ⟨by rw [HR.out]; rfl, HF.out⟩
      · have d : (T.toList == s.toList) = false := by
          rw [Lib.toList_data, Lib.toList_data, hT2]
          simpa using fun e : tt = s.data.toList => hq e.symm
        have HP3 := Lib.hid (show PR s.data.toList l w b w1.heap.size w2 from ⟨hx2, ⟨seen.push k, hb2, hr2, fun p j hj hc => by
          rw [contains_push] at hc
          by_cases hjk : j = k
          · subst hjk
            have := entsF_inj hj he
            intro e
            exact hq (e.trans this)
          · have hc2 : seen.contains j = true := by
              have : (j == k) = false := by simpa using hjk
              rw [this, Bool.or_false] at hc
              exact hc
            exact HA.out p j hj hc2⟩, hB2⟩)
        have HM := Lib.hid hlt
        have HSZ := Lib.hid (And.intro hszb hszr)
        clear HX HB hx2 hB2 HP HA hb2 hr2 hlt hgr hsz he hp hT2 hq hP2 hm hg hat1 hat2 hszb hszr
        go_wp2_with fail
        go_roundw
        case rel => exact (HP3.out.alloc _).alloc _
        case measure =>
          rw [left_alloc _ (by have := HSZ.out.1; simp; omega) (by have := HSZ.out.2; simp; omega), left_alloc _ HSZ.out.1 HSZ.out.2]
          exact HM.out
end Go.Proofs.YtgojfonnikgboaaDoor

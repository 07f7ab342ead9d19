/- Contracts of package itree: rising, All, the function to be ranged over that they hand back, by the blocks that a round may turn. (In the place of XItSeq.lean, whose names it uses.) -/
import Derived.Test.YtonfjjmgjgmanaaGreatItNext
import Derived.Test.YtonfjjmgjgmanaaGreatSeqOff
import Derived.Deep.LoopGhost
import Derived.Lib.AtoiErrMem
namespace Corr
set_option maxRecDepth 8000
open Go Go.RowKit
set_option linter.unusedVariables false
/-- Ahead of the j-th item that is told. -/
def AtI (L : ItL) (j : Nat) (x : It) : Prop := (j = 0 ∧ x = (lowI, lowI, lowI)) ∨ ∃ i, j = i + 1 ∧ L[i]? = some x
end Corr
namespace Go.Proofs.YtonfjjmgjgmanaaGreat
set_option maxRecDepth 8000
open Go.RowKit Corr
set_option linter.unusedVariables false
set_option linter.unusedSimpArgs false
theorem rising_any (p : Option Addr) (low : Int) (fe ge : Nat) (w : World) : Calls Tryz.prog 55 #[.pointer p, .int .i64 low, .func (.func fe) #[] #[.pointer (some ⟨ge, 0, none⟩)]] w fun e w' =>
    e = .returned (.func (.func 66) #[] #[.pointer (some ⟨w.heap.size, 0, none⟩), .pointer (some ⟨w.heap.size + 1, 0, none⟩), .pointer (some ⟨w.heap.size + 1 + 1, 0, none⟩)]) ∧ Below w.heap.size w w' ∧
    Blk w' w.heap.size #[.pointer p] ∧ Blk w' (w.heap.size + 1) #[.int .i64 low] ∧ Blk w' (w.heap.size + 1 + 1) #[.func (.func fe) #[] #[.pointer (some ⟨ge, 0, none⟩)]] := by
  have h1 := ((Blk.new w #[.pointer p] 81).alloc (.cells #[.int .i64 low] 3)).alloc (.cells #[.func (.func fe) #[] #[.pointer (some ⟨ge, 0, none⟩)]] 115)
  have h2 := (Blk.new (w.alloc (.cells #[.pointer p] 81)) #[.int .i64 low] 3).alloc (.cells #[.func (.func fe) #[] #[.pointer (some ⟨ge, 0, none⟩)]] 115)
  have h3 := Blk.new ((w.alloc (.cells #[.pointer p] 81)).alloc (.cells #[.int .i64 low] 3)) #[.func (.func fe) #[] #[.pointer (some ⟨ge, 0, none⟩)]] 115
  have hb := Joins.below_alloc3 w (.cells #[.pointer p] 81) (.cells #[.int .i64 low] 3) (.cells #[.func (.func fe) #[] #[.pointer (some ⟨ge, 0, none⟩)]] 115)
  simp only [size_alloc] at h1 h2 h3
  have H1 := Lib.hid h1
  have H2 := Lib.hid h2
  have H3 := Lib.hid h3
  have HB := Lib.hid hb
  clear h1 h2 h3 hb
  go_enter Tryz.func55, Tryz.ntmps55
  go_wp2_with fail
  refine bodyPost_ret (results_tmp rfl _ _ _) rfl ⟨rfl, HB.out, H1.out, H2.out, H3.out⟩
set_option maxHeartbeats 4000000 in
theorem rise_off (p : Option Addr) (low : Int) (fe ge : Nat) (E : Int → Bool) (hE : ∀ i j, i ≤ j → E j = true → E i = true) (t : PT) (gt gl gc : Nat) (Z : Nat → Prop) (w1 : World) (hok : okL t.items)
    (h1 : ¬ Z gt) (h2 : ¬ Z gl) (h3 : ¬ Z gc) (h4 : ¬ Z ge) (hn : ∀ k, w1.heap.size ≤ k → Z k)
    (bt : Blk w1 gt #[.pointer p]) (bl : Blk w1 gl #[.int .i64 low]) (bc : Blk w1 gc #[.func (.func fe) #[] #[.pointer (some ⟨ge, 0, none⟩)]]) (hL : EarlyP fe ge E w1)
    (hT : ∀ w2, Off Z w1 w2 → TH (.pointer p) w2 t) (L : ItL) (hLL : t.items.filter (hitB low E) = L) :
    SeqOff Tryz.prog 66 #[.pointer (some ⟨gt, 0, none⟩), .pointer (some ⟨gl, 0, none⟩), .pointer (some ⟨gc, 0, none⟩)] (fun x : It => #[itV x]) Z (fun ys => ys = L) (fun pre => pre <+: L) L.length w1 := by
  intro l J Jx W hW hgrow hY h0
  have hW0 := Off.of (F := Z) hW
  have HT := Lib.hid (fun w2 (hb : Off Z W w2) => hT w2 (hW0.trans hb))
  have HLL := Lib.hid (fun (x : It) (j : Nat) (hx : AtI L j x) => show nextI x low E t.items = L[j]? from by
    rw [← hLL] at hx ⊢
    refine next_at (hT w1 (Off.refl _ _)).up ?_
    rcases hx with ⟨h, rfl⟩ | h
    · exact .inl ⟨h, low_less hok⟩
    · exact .inr h)
  have HE := Lib.hid hE
  have HLE := Lib.hid hL
  have HBT := Lib.hid (bt.keep hW)
  have HBL := Lib.hid (bl.keep hW)
  have HBC := Lib.hid (bc.keep hW)
  have hge : W.heap[ge]? = w1.heap[ge]? := hW.block _ hL.1
  have HGE := Lib.hid hge
  have HYY := Lib.hid hY
  have HGR := Lib.hid hgrow
  have H00 := Lib.hid h0
  have HNW := Lib.hid (show ∀ k, W.heap.size ≤ k → Z k from fun k hk => hn k (Nat.le_trans hW.size hk))
  have HLW := Lib.hid (show gt < W.heap.size ∧ gl < W.heap.size ∧ gc < W.heap.size ∧ ge < W.heap.size from ⟨Nat.lt_of_lt_of_le bt.sz hW.size, Nat.lt_of_lt_of_le bl.sz hW.size, Nat.lt_of_lt_of_le bc.sz hW.size, Nat.lt_of_lt_of_le hL.1 hW.size⟩)
  have HBB := Lib.hid (Blk.new W #[.int .i64 lowI, .int .i64 lowI, .int .i64 lowI] 87)
  have hdd : ∀ k : Nat, (Fence.wide.depth.isSome = true → 1 ≤ k) := fun k h => by cases h
  clear hT hLL hE bt bl bc hge hY hgrow h0 hok hL
  unfold lowI at HBB
  refine callsIn_of_wp Tryz.func66 rfl trivial ?_ rfl
  simp only [Tryz.ntmps66, List.size_toArray, List.length_cons, List.length_nil, Nat.reduceAdd, Nat.reduceSub, Array.replicate_succ, Array.replicate_zero, List.push_toArray, List.append_toArray, List.nil_append, List.cons_append]
  gi_wp2
  have hba := (Below.refl W.heap.size W).alloc (Nat.le_refl _) (.cells #[.int .i64 (-9223372036854775808), .int .i64 (-9223372036854775808), .int .i64 (-9223372036854775808)] 87)
  have HST := Lib.hid (HGR.out _ _ _ _ H00.out (Off.of hba))
  have HBA := Lib.hid (Off.of (F := Z) hba)
  have HSZ := Lib.hid (show W.heap.size < (W.alloc (.cells #[.int .i64 (-9223372036854775808), .int .i64 (-9223372036854775808), .int .i64 (-9223372036854775808)] 87)).heap.size by simp)
  obtain ⟨R, hR⟩ : ∃ R : Nat → World → Prop, R = fun k wr => ∃ (j : Nat) (x : It) (G : Nat → Prop), k = L.length - j ∧ j ≤ L.length ∧ J G (L.take j) wr ∧ AtI L j x ∧ Blk wr W.heap.size #[.int .i64 x.1, .int .i64 x.2.1, .int .i64 x.2.2] ∧ G W.heap.size ∧ Off Z W wr := ⟨_, rfl⟩
  clear hba
  gi_loopw [7] (fun _ wr => ∃ k, R k wr) (fun _ wr => leastOf fun k => R k wr)
  case atStart => exact ⟨L.length, by rw [hR]; exact ⟨0, (lowI, lowI, lowI), _, rfl, by omega, HST.out, .inl ⟨rfl, rfl⟩, HBB.out, .inr ⟨Nat.le_refl _, HSZ.out⟩, HBA.out⟩⟩
  case round =>
    have HLS := Lib.hid (leastOf_spec hrel)
    clear hrel HST HBA HSZ HBB
    obtain ⟨k, hk⟩ : ∃ k, (leastOf fun k => R k wr) = k := ⟨_, rfl⟩
    have hr := HLS.out.1
    rw [hk, hR] at hr
    have HKK := Lib.hid hk
    have HRR := Lib.hid hR
    clear hk hR HLS
    obtain ⟨j, ⟨x1, x2, x3⟩, G, hkj, hjl, hJ, hat, hbx, hG, hbw⟩ := hr
    have HKJ := Lib.hid hkj
    have HJL := Lib.hid hjl
    have HJ := Lib.hid hJ
    have HAT := Lib.hid hat
    have HG := Lib.hid hG
    have HBW := Lib.hid hbw
    have HBX := Lib.hid hbx
    have hN := (callsIn_wide (n := 1)).2 (next_any (.pointer p) (x1, x2, x3) low fe ge E HE.out t wr (HT.out _ hbw) (HLE.out.later ((hbw.block _ HLW.out.2.2.2 h4).trans HGE.out) (Nat.le_trans hW.size hbw.size)))
    rw [HLL.out _ _ hat] at hN
    have c0 := (blk_of_eq HBT.out (hbw.block _ HLW.out.1 h1)).get 0 rfl
    have c1 := (blk_of_eq HBL.out (hbw.block _ HLW.out.2.1 h2)).get 0 rfl
    have c2 := (blk_of_eq HBC.out (hbw.block _ HLW.out.2.2.1 h3)).get 0 rfl
    have x0 := hbx.get 0 rfl
    have x1' := hbx.get 1 rfl
    have x2' := hbx.get 2 rfl
    clear hkj hjl hJ hat hG hbw hbx
    cases hl : L[j]? with
    | none =>
      rw [hl] at hN
      have HALL := Lib.hid (show L.take j = L from List.take_of_length_le (List.getElem?_eq_none_iff.1 hl))
      clear hl
      gi_wp2_with fail
      refine ⟨trivial, hN.mono ?_⟩
      clear hN
      rintro e w2 ⟨rfl, b2⟩
      have HB2 := Lib.hid b2
      clear b2
      unfold oneI
      gi_wp2_with fail
      refine ⟨fun _ h => (by cases h), ?_⟩
      gi_wp2_with fail
      refine bodyPost_ret (results_none rfl _ _ _) rfl ?_
      refine ⟨⟨_, rfl⟩, .inl ⟨L, _, rfl, by rw [← HALL.out]; exact HGR.out _ _ _ _ HJ.out (Off.of (HB2.out.alloc HB2.out.size _))⟩⟩
    | some y =>
      obtain ⟨y1, y2, y3⟩ := y
      rw [hl] at hN
      have HY1 := Lib.hid hl
      clear hl
      gi_wp2_with fail
      refine ⟨trivial, hN.mono ?_⟩
      clear hN
      rintro e w2 ⟨rfl, b2⟩
      have hB2 := b2.alloc b2.size (.cells #[.int .i64 y1, .int .i64 y2, .int .i64 y3] 87)
      have HB2 := Lib.hid hB2
      have HJ2 := Lib.hid (HGR.out _ _ _ _ HJ.out (Off.of hB2))
      have hq := Blk.new w2 #[.int .i64 y1, .int .i64 y2, .int .i64 y3] 87
      have HQ := Lib.hid hq
      have HQG := Lib.hid (show madeG G wr (w2.alloc (.cells #[.int .i64 y1, .int .i64 y2, .int .i64 y3] 87)) w2.heap.size from .inr ⟨b2.size, by simp⟩)
      have HBG := Lib.hid (show madeG G wr (w2.alloc (.cells #[.int .i64 y1, .int .i64 y2, .int .i64 y3] 87)) W.heap.size from .inl HG.out)
      have HBX2 := Lib.hid (HBX.out.keep hB2)
      have q0 := hq.get 0 rfl
      have q1 := hq.get 1 rfl
      have q2 := hq.get 2 rfl
      clear b2 hB2 hq c0 c1 c2 x0 x1' x2'
      obtain ⟨fn, tmps, assign, body, hy, hR⟩ := HYY.out _ _ (y1, y2, y3) _ HJ2.out (by
        have := (List.getElem?_eq_some_iff.1 HY1.out).1
        rw [List.length_take]; omega)
      unfold oneI
      gi_wp2_with fail
      refine hR.mono ?_
      clear hR hy
      rintro e W3 (⟨rfl, hJ3, hk3, hG3⟩ | ⟨rfl, hx3⟩)
      · have HQ3 := blk_of_eq HQ.out (hG3 _ HQG.out)
        have HX3 := blk_of_eq HBX2.out (hG3 _ HBG.out)
        have q0' := HQ3.get 0 rfl
        have q1' := HQ3.get 1 rfl
        have q2' := HQ3.get 2 rfl
        have c0 := HX3.get 0 rfl
        have c1 := HX3.get 1 rfl
        have c2 := HX3.get 2 rfl
        have z0 := HX3.f 0
        have z1 := HX3.f 1
        have z2 := HX3.f 2
        have HX4 := Lib.hid (((HX3.set 0 (.int .i64 y1)).set 1 (.int .i64 y2)).set 2 (.int .i64 y3))
        have HJ3 := Lib.hid hJ3
        have HK3 := Lib.hid hk3
        have HJT := Lib.hid (show j < L.length ∧ L.take j ++ [(y1, y2, y3)] = L.take (j + 1) from by
          have := (List.getElem?_eq_some_iff.1 HY1.out).1
          refine ⟨this, ?_⟩
          rw [List.take_add_one, HY1.out]; rfl)
        have HRN := Lib.hid (show R (L.length - (j + 1)) (((W3.setCell ⟨W.heap.size, 0, none⟩ (.int .i64 y1)).setCell ⟨W.heap.size, 1, none⟩ (.int .i64 y2)).setCell ⟨W.heap.size, 2, none⟩ (.int .i64 y3)) from by
          rw [HRR.out]
          have ho := ((((Off.refl _ W3).put ⟨W.heap.size, 0, none⟩ (.inl HBG.out) (.int .i64 y1)).put ⟨W.heap.size, 1, none⟩ (.inl HBG.out) (.int .i64 y2)).put ⟨W.heap.size, 2, none⟩ (.inl HBG.out) (.int .i64 y3))
          have hj := HGR.out _ _ _ _ HJ3.out ho
          rw [HJT.out.2] at hj
          exact ⟨j + 1, (y1, y2, y3), _, rfl, HJT.out.1, hj, .inr ⟨j, rfl, HY1.out⟩, HX4.out, .inl HBG.out,
            (((((HBW.out.trans (Off.of (F := Z) HB2.out)).trans HK3.out).put ⟨W.heap.size, 0, none⟩ (.inl (HNW.out _ (Nat.le_refl _))) (.int .i64 y1)).put ⟨W.heap.size, 1, none⟩ (.inl (HNW.out _ (Nat.le_refl _))) (.int .i64 y2)).put ⟨W.heap.size, 2, none⟩ (.inl (HNW.out _ (Nat.le_refl _))) (.int .i64 y3))⟩)
        clear q0 q1 q2 hJ3 hk3 hG3 HQ3 HX3 HQ HBX2 HBX
        gi_wp2_with fail
        go_roundw
        case rel => exact ⟨_, HRN.out⟩
        case measure =>
          rw [HKK.out]
          have h1 := (leastOf_spec (p := fun k => R k (((W3.setCell ⟨W.heap.size, 0, none⟩ (.int .i64 y1)).setCell ⟨W.heap.size, 1, none⟩ (.int .i64 y2)).setCell ⟨W.heap.size, 2, none⟩ (.int .i64 y3))) ⟨_, HRN.out⟩).2 _ HRN.out
          have h2 := HKJ.out
          have h3 := HJT.out.1
          omega
      · gi_wp2_with fail
        refine bodyPost_ret (results_none rfl _ _ _) rfl ?_
        refine ⟨⟨_, rfl⟩, .inr ⟨L.take j ++ [(y1, y2, y3)], ?_, hx3⟩⟩
        have := (List.getElem?_eq_some_iff.1 HY1.out).1
        rw [show L.take j ++ [(y1, y2, y3)] = L.take (j + 1) by rw [List.take_add_one, HY1.out]; rfl]
        exact List.take_prefix _ _
end Go.Proofs.YtonfjjmgjgmanaaGreat
namespace Corr
set_option maxRecDepth 8000
open Go Go.RowKit
theorem hit_over (a b : Int) (l : ItL) : l.filter (hitB a fun d => decide (a < b) && decide (d < b)) = l.filter (overB a b) := by
  congr 1; funext y
  show (decide (a < y.2.1) && (decide (a < b) && decide (y.1 < b))) = (decide (a < b) && (decide (y.1 < b) && decide (a < y.2.1)))
  cases decide (a < b) <;> cases decide (y.1 < b) <;> cases decide (a < y.2.1) <;> rfl
end Corr
namespace Go.Proofs.YtonfjjmgjgmanaaGreat
set_option maxRecDepth 8000
open Go.RowKit Corr
set_option linter.unusedVariables false
set_option linter.unusedSimpArgs false
theorem all1_any (ge : Nat) (a b d : Int) (w : World) (B : Blk w ge #[.int .i64 a, .int .i64 b]) : Calls Tryz.prog 56 #[.int .i64 d, .pointer (some ⟨ge, 0, none⟩)] w fun e w2 => e = .returned (.bool (decide (a < b) && decide (d < b))) ∧ Below w.heap.size w w2 := by
  have c0 := B.get 0 rfl
  have c1 := B.get 1 rfl
  clear B
  by_cases h : a < b
  · have h1 : decide (a < b) = true := decide_eq_true h
    rw [h1, Bool.true_and]
    go_enter Tryz.func56, Tryz.ntmps56
    go_wp2_with fail
    go_ret
    exact ⟨rfl, Below.refl _ _⟩
  · have h1 : decide (a < b) = false := decide_eq_false h
    rw [h1, Bool.false_and]
    go_enter Tryz.func56, Tryz.ntmps56
    go_wp2_with fail
    go_ret
    exact ⟨rfl, Below.refl _ _⟩
theorem allEarly (ge : Nat) (a b : Int) (w : World) (B : Blk w ge #[.int .i64 a, .int .i64 b]) : EarlyP 56 ge (fun d => decide (a < b) && decide (d < b)) w :=
  ⟨B.sz, enters_of Tryz.func56 (by kernel_rfl) rfl, fun w1 h1 d => all1_any ge a b d w1 (blk_of_eq B h1)⟩
theorem all_mono (a b : Int) : ∀ i j : Int, i ≤ j → (fun d => decide (a < b) && decide (d < b)) j = true → (fun d => decide (a < b) && decide (d < b)) i = true := by intro i j h; simp; omega
theorem rise_enters : ∀ args w, (callFunc 66 args).run Tryz.prog w = .ok (.enter 66 args) w := enters_of Tryz.func66 (by kernel_rfl) rfl
theorem iall_any (p : Option Addr) (a b : Int) (w : World) : Calls Tryz.prog 44 #[.pointer p, .agg #[.int .i64 a, .int .i64 b]] w fun e w' =>
    e = .returned (.func (.func 66) #[] #[.pointer (some ⟨w.heap.size + 1, 0, none⟩), .pointer (some ⟨w.heap.size + 1 + 1, 0, none⟩), .pointer (some ⟨w.heap.size + 1 + 1 + 1, 0, none⟩)]) ∧ Below w.heap.size w w' ∧
    Blk w' w.heap.size #[.int .i64 a, .int .i64 b] ∧ Blk w' (w.heap.size + 1) #[.pointer p] ∧ Blk w' (w.heap.size + 1 + 1) #[.int .i64 a] ∧ Blk w' (w.heap.size + 1 + 1 + 1) #[.func (.func 56) #[] #[.pointer (some ⟨w.heap.size, 0, none⟩)]] := by
  have hb := (Below.refl w.heap.size w).alloc (Nat.le_refl _) (.cells #[.int .i64 a, .int .i64 b] 24)
  have HB := Lib.hid hb
  have hd := Blk.new w #[.int .i64 a, .int .i64 b] 24
  have HD := Lib.hid hd
  have c0 := hd.get 0 rfl
  clear hb hd
  go_enter Tryz.func44, Tryz.ntmps44
  go_wp2_with fail
  refine (rising_any p a 56 w.heap.size _).mono ?_
  rintro e w1 ⟨rfl, b1, q1, q2, q3⟩
  simp only [size_alloc] at q1 q2 q3
  have H1 := Lib.hid q1
  have H2 := Lib.hid q2
  have H3 := Lib.hid q3
  have HD1 := Lib.hid (HD.out.keep b1)
  have HB1 := Lib.hid (HB.out.trans (b1.mono HB.out.size))
  clear q1 q2 q3 b1 c0
  go_wp2_with fail
  go_ret
  exact ⟨rfl, HB1.out, HD1.out, H1.out, H2.out, H3.out⟩
theorem all_off (p : Option Addr) (a b : Int) (t : PT) (g : Nat) (Z : Nat → Prop) (w1 : World) (hok : okL t.items) (hg : ∀ k, g ≤ k → k < g + 4 → ¬ Z k) (hn : ∀ k, w1.heap.size ≤ k → Z k)
    (q0 : Blk w1 g #[.int .i64 a, .int .i64 b]) (q1 : Blk w1 (g + 1) #[.pointer p]) (q2 : Blk w1 (g + 1 + 1) #[.int .i64 a]) (q3 : Blk w1 (g + 1 + 1 + 1) #[.func (.func 56) #[] #[.pointer (some ⟨g, 0, none⟩)]])
    (hT : ∀ w2, Off Z w1 w2 → TH (.pointer p) w2 t) :
    SeqOff Tryz.prog 66 #[.pointer (some ⟨g + 1, 0, none⟩), .pointer (some ⟨g + 1 + 1, 0, none⟩), .pointer (some ⟨g + 1 + 1 + 1, 0, none⟩)] (fun x : It => #[itV x]) Z (fun ys => ys = t.items.filter (overB a b)) (fun pre => pre <+: t.items.filter (overB a b)) (t.items.filter (overB a b)).length w1 :=
  rise_off p a 56 g (fun d => decide (a < b) && decide (d < b)) (all_mono a b) t _ _ _ Z w1 hok (hg _ (by omega) (by omega)) (hg _ (by omega) (by omega)) (hg _ (by omega) (by omega)) (hg _ (by omega) (by omega)) hn q1 q2 q3 (allEarly _ a b _ q0) hT _ (hit_over a b t.items)
end Go.Proofs.YtonfjjmgjgmanaaGreat

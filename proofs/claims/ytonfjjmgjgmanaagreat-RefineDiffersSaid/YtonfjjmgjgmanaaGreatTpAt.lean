/- Contract of package timeline: At; of slices.Backward over four trees. -/
import Derived.Test.YtonfjjmgjgmanaaGreatTpSegs
import Derived.Deep.LoopGhost
import Derived.Lib.AtoiErrMem
namespace Corr
set_option maxRecDepth 8000
open Go Go.RowKit
set_option linter.unusedVariables false
/-- The trees' numbers, the last one ahead: those down to k. -/
def bkA : List (Fin 4) := [3, 2, 1, 0]
def bkL (k : Nat) : List (Fin 4) := bkA.take (4 - k)
theorem blk_eq2 {w w' : World} {k : Nat} {vs : Array Value} (B : Blk w k vs) (h : w'.heap[k]? = w.heap[k]?) : Blk w' k vs := by
  obtain ⟨T, hb⟩ := B.blk
  exact ⟨T, h.trans hb⟩
theorem bkL_step : ∀ {i : Nat} (h : i < 4), bkL (i + 1) ++ [⟨i, h⟩] = bkL i
  | 0, _ => rfl
  | 1, _ => rfl
  | 2, _ => rfl
  | 3, _ => rfl
theorem bkL_pre (k : Nat) : bkL k <+: bkA := List.take_prefix _ _
theorem bkL_len {k : Nat} (hk : k ≤ 4) : (bkL k).length = 4 - k := by unfold bkL bkA; rw [List.length_take]; simp
theorem bk_all : ∀ x : Fin 4, x ∈ bkA := by decide
theorem bk_next {pre : List (Fin 4)} {x : Fin 4} (h : pre ++ [x] <+: bkA) : ∀ j, x.val < j → (hj : j < 4) → (⟨j, hj⟩ : Fin 4) ∈ pre := by
  obtain ⟨t, ht⟩ := h
  unfold bkA at ht
  match pre, ht with
  | [], ht => injection ht with h1 _; subst h1; exact fun j h1 h2 => by have h1 : 3 < j := h1; omega
  | [a], ht =>
    injection ht with h1 h2; injection h2 with h2 _; subst h1 h2
    exact fun j h1 h2 => by
      have h1 : 2 < j := h1
      obtain rfl : j = 3 := by omega
      exact List.mem_cons_self
  | [a, b], ht =>
    injection ht with h1 h2; injection h2 with h2 h3; injection h3 with h3 _; subst h1 h2 h3
    exact fun j h1 h2 => by
      have h1 : 1 < j := h1
      have : j = 3 ∨ j = 2 := by omega
      rcases this with rfl | rfl
      · exact List.mem_cons_self
      · exact List.mem_cons_of_mem _ List.mem_cons_self
  | [a, b, c], ht =>
    injection ht with h1 h2; injection h2 with h2 h3; injection h3 with h3 h4; injection h4 with h4 _; subst h1 h2 h3 h4
    exact fun j h1 h2 => by
      have h1 : 0 < j := h1
      have : j = 3 ∨ j = 2 ∨ j = 1 := by omega
      rcases this with rfl | rfl | rfl
      · exact List.mem_cons_self
      · exact List.mem_cons_of_mem _ List.mem_cons_self
      · exact List.mem_cons_of_mem _ (List.mem_cons_of_mem _ List.mem_cons_self)
  | a :: b :: c :: d :: r, ht =>
    injection ht with _ ht; injection ht with _ ht; injection ht with _ ht; injection ht with _ ht
    have := congrArg List.length ht
    simp at this
end Corr
namespace Go.Proofs.YtonfjjmgjgmanaaGreat
set_option maxRecDepth 8000
open Go.RowKit Corr
set_option linter.unusedVariables false
set_option linter.unusedSimpArgs false
theorem back_any (a : Addr) (n c : Nat) (w : World) : Calls Tryz.prog 35 #[.slice (some a) n c] w fun e w' => e = .returned (.func (.func 48) #[] #[.pointer (some ⟨w.heap.size, 0, none⟩)]) ∧ w' = w.alloc (.cells #[.slice (some a) n c] 80) := by
  have hmf : ∀ (fn : Fn) (first cap : Array Value) (w : World), (Instr.makeFunc fn first cap).run Tryz.prog w = .ok (.func fn first cap) w := fun _ _ _ _ => rfl
  go_enter Tryz.func35, Tryz.ntmps35
  go_wp2_with fail
  go_ret
  exact ⟨rfl, rfl⟩
theorem back_enters : ∀ args w, (callFunc 48 args).run Tryz.prog w = .ok (.enter 48 args) w := enters_of Tryz.func48 (by kernel_rfl) rfl
set_option maxHeartbeats 4000000 in
theorem back_stops (gs gT : Nat) (q : Nat → Value) (n₀ : Nat) (w1 : World) (h1 : gs < n₀) (h2 : gT < n₀) (hn : n₀ ≤ w1.heap.size) (bs : Blk w1 gs #[.slice (some ⟨gT, 0, none⟩) 4 4]) (bq : ∀ i, i < 4 → w1.cell? ⟨gT, i, none⟩ = some (q i)) :
    SeqOwn Tryz.prog 48 #[.pointer (some ⟨gs, 0, none⟩)] (fun i : Fin 4 => #[.int .i64 (i.val : Int), q i.val]) n₀ (fun ys => ys = bkA) (fun pre => pre <+: bkA) 4 w1 := by
  intro l J Jx W hW hgrow hY h0
  have HBS := Lib.hid (bs.keep hW)
  have HBQ := Lib.hid (show ∀ i, i < 4 → W.cell? ⟨gT, i, none⟩ = some (q i) from fun i hi => (Below.cell (p := ⟨gT, i, none⟩) hW (by show gT < w1.heap.size; omega)).trans (bq i hi))
  have HYY := Lib.hid hY
  have HGR := Lib.hid hgrow
  have H00 := Lib.hid h0
  have HNW := Lib.hid (show n₀ ≤ W.heap.size from Nat.le_trans hn hW.size)
  have c0 := HBS.out.get 0 rfl
  clear bs bq hY hgrow h0
  refine callsIn_of_wp Tryz.func48 rfl trivial ?_ rfl
  simp only [Tryz.ntmps48, List.size_toArray, List.length_cons, List.length_nil, Nat.reduceAdd, Nat.reduceSub, Array.replicate_succ, Array.replicate_zero, List.push_toArray, List.append_toArray, List.nil_append, List.cons_append]
  gi_wp2
  gi_loopw [3] (fun u wr => ∃ (k : Nat) (G : Nat → Prop), u = .int .i64 ((k : Int) - 1) ∧ k ≤ 4 ∧ Hid (J G (bkL k) wr) ∧ Hid (Below n₀ W wr)) (fun u _ => (intOf u + 1).toNat)
  case atStart => exact ⟨4, _, rfl, by omega, H00, Lib.hid (Below.refl _ _)⟩
  case round =>
    obtain ⟨k, G, rfl, hk, HJ, HBW⟩ := hrel
    clear c0
    rcases Nat.eq_zero_or_pos k with hk0 | hk0
    · subst hk0
      have d0 : decide (((0 : Nat) : Int) - 1 ≥ 0) = false := decide_eq_false (by omega)
      gi_wp2_with fail
      go_end0
      exact ⟨⟨_, rfl⟩, .inl ⟨_, G, rfl, HJ.out⟩⟩
    · obtain ⟨i, rfl⟩ : ∃ i, k = i + 1 := ⟨k - 1, by omega⟩
      have HI := Lib.hid (show i < 4 by omega)
      have hi4 : i < 4 := by omega
      have e1 : (((i + 1 : Nat) : Int) - 1) = (i : Int) := by omega
      rw [e1]
      have c0 := (blk_eq2 HBS.out (HBW.out.block _ h1)).get 0 rfl
      have hcw := (Below.cell (p := ⟨gT, i, none⟩) HBW.out h2).trans (HBQ.out i hi4)
      have HJW := Lib.hid (HYY.out G (bkL (i + 1)) ⟨i, hi4⟩ wr HJ.out (by rw [bkL_len (by omega)]; omega))
      have d0 : decide ((i : Int) ≥ 0) = true := decide_eq_true (by omega)
      have i3 : ((i : Int)).toNat = i := by omega
      obtain ⟨fn, tmps, assign, body, hy, hR⟩ := HJW.out
      gi_wp2_with fail
      refine hR.mono ?_
      clear hR hy
      rintro e W3 (⟨rfl, hJ3, hk3, hG3⟩ | ⟨rfl, hx3⟩)
      · have HJ3 := Lib.hid hJ3
        have HK3 := Lib.hid hk3
        clear hJ3 hk3 hG3 c0 hcw
        gi_wp2_with fail
        go_roundw
        case rel => exact ⟨i, G, rfl, by omega, Lib.hid (by rw [← bkL_step HI.out]; exact HJ3.out), Lib.hid (HBW.out.trans HK3.out)⟩
        case measure => simp [intOf]
      · have HX3 := Lib.hid hx3
        clear hx3
        gi_wp2_with fail
        refine bodyPost_ret (results_none rfl _ _ _) rfl ?_
        exact ⟨⟨_, rfl⟩, .inr ⟨bkL (i + 1) ++ [⟨i, HI.out⟩], by rw [bkL_step HI.out]; exact bkL_pre i, HX3.out⟩⟩
attribute [local go_sem] Oper.semAt_some
set_option maxRecDepth 100000 in
set_option maxHeartbeats 8000000 in
theorem tpat_any {Rep : RepT} (K : TrK Rep) (gT : Nat) (F : Nat → Prop) (n : Nat) (f : Int → Int) (d : Int) (w : World) (H : TpQ Rep w (.pointer (some ⟨gT, 0, none⟩)) F n (pcI f)) (hof : offF f) (hn : n ≤ 1000) : Calls Tryz.prog 17 #[.pointer (some ⟨gT, 0, none⟩), .int .i64 d] w fun e w' => e = .returned (.int .i64 (f d)) ∧ Below w.heap.size w w' := by
  have HK := Lib.hid K
  obtain ⟨gT', gM, q, Fs, l, m, e, HT, rfl, k1, k2, k3⟩ := H
  injection e with e
  injection e with e
  injection e with e _ _
  subst e
  have HK1 := Lib.hid k1
  have HK2 := Lib.hid k2
  have HK3 := Lib.hid (fun i hi => Nat.le_trans (k3 i hi) hn)
  have HOF := Lib.hid hof
  obtain ⟨wq, hwq⟩ : ∃ wq, (((w.alloc (.cells #[.pointer (some ⟨gT, 0, none⟩)] 27)).alloc (.cells #[.int .i64 d] 3)).alloc (.cells #[.int .i64 0] 3)).alloc (.cells #[.int .i64 0] 3) = wq := ⟨_, rfl⟩
  have hs0 : SepF (fun _ => False) w [blkT w.heap.size #[.pointer (some ⟨gT, 0, none⟩)], blkT (w.heap.size + 1) #[.int .i64 d], blkT (w.heap.size + 1 + 1) #[.int .i64 0], blkT (w.heap.size + 1 + 1 + 1) #[.int .i64 0]] wq := by
    have h := ((((SepF.nil w).push #[.pointer (some ⟨gT, 0, none⟩)] 27).push #[.int .i64 d] 3).push #[.int .i64 0] 3).push #[.int .i64 0] 3
    simp only [size_alloc, List.nil_append, List.cons_append] at h
    rw [← hwq]; exact h
  have hlt := HT.lt K.toRepOk
  have hTq := HT.keep K.toRepOk hs0.bl
  have HT2 := Lib.hid hTq
  have HLT := Lib.hid hlt
  have HS0 := Lib.hid hs0
  have x0 := (hs0.b 0 rfl).get 0 rfl
  have x1 := (hs0.b 1 rfl).get 0 rfl
  have x2 := (hs0.b 2 rfl).get 0 rfl
  have x3 := (hs0.b 3 rfl).get 0 rfl
  have HC := Lib.hid hTq.map_cell
  clear K HT k1 k2 k3 hof hs0 hlt hTq
  refine calls_of_wp_marks Tryz.func17 rfl ?_
  simp only [Tryz.ntmps17, List.size_toArray, List.length_cons, List.length_nil, Nat.reduceAdd, Nat.reduceSub, Array.replicate_succ, Array.replicate_zero, List.push_toArray, List.append_toArray, List.nil_append, List.cons_append]
  go_wp2_with fail
  refine (tpmade_yes gT gM _ HC.out).mono ?_
  rintro e w1 ⟨rfl, hw1⟩
  subst w1
  clear hwq
  go_wp2_with fail
  refine (back_any _ _ _ _).mono ?_
  rintro e w1 ⟨rfl, hw1⟩
  subst w1
  go_wp2_with fail
  obtain ⟨gt, hgt⟩ : ∃ k, w.heap.size = k := ⟨_, rfl⟩
  obtain ⟨gd, hgd⟩ : ∃ k, gt + 1 = k := ⟨_, rfl⟩
  obtain ⟨g4, hg4⟩ : ∃ k, gd + 1 = k := ⟨_, rfl⟩
  obtain ⟨g5, hg5⟩ : ∃ k, g4 + 1 = k := ⟨_, rfl⟩
  obtain ⟨gb, hgb⟩ : ∃ k, wq.heap.size = k := ⟨_, rfl⟩
  rw [hgt, hgd, hg4, hg5, hgb]
  have hs0 := HS0.out
  rw [hgt, hgd, hg4, hg5] at hs0
  have HQ0 := Lib.hid hs0
  have hb6 := (Below.refl wq.heap.size wq).alloc (Nat.le_refl _) (.cells #[.slice (some ⟨gT, 0, none⟩) 4 4] 80)
  have HB0 := Lib.hid (Blk.new wq #[.slice (some ⟨gT, 0, none⟩) 4 4] 80)
  rw [hgb] at HB0
  have HN := Lib.hid (show gt = w.heap.size ∧ gd = gt + 1 ∧ g4 = gt + 2 ∧ g5 = gt + 3 ∧ gb = wq.heap.size ∧ g5 < gb from ⟨hgt.symm, hgd.symm, by omega, by omega, hgb.symm, by have := (hs0.b 3 rfl).sz; omega⟩)
  have HS6 := Lib.hid (hs0.keep hb6)
  have HT6 := Lib.hid (HT2.out.keep HK.out.toRepOk hb6)
  have hz6 : (wq.alloc (.cells #[.slice (some ⟨gT, 0, none⟩) 4 4] 80)).heap.size = gb + 1 := by simp [hgb]
  generalize wq.alloc (.cells #[.slice (some ⟨gT, 0, none⟩) 4 4] 80) = w6 at *
  have HZ6 := Lib.hid hz6
  have HSQ := Lib.hid (back_stops gb gT q w6.heap.size w6 (by omega) (by have := HLT.out gT (.inl rfl); have := HN.out; omega) (Nat.le_refl _) HB0.out (fun i hi => HT6.out.cell hi))
  clear hgt hgd hg4 hg5 hgb hs0 hb6 x0 x1 x2 x3 hz6
  refine wp_rangeFunc_seq (gf := 48) (lb := #[.pointer (some ⟨gb, 0, none⟩)]) rfl back_enters (Nat.le_refl _) HSQ.out (fun _ => rfl)
    (fun G (pre : List (Fin 4)) W => Below w6.heap.size w6 W ∧ (∀ k, G k → w6.heap.size ≤ k ∧ k < W.heap.size) ∧ ∀ j ∈ pre, lastF d (l j.val) = none) (fun c (pre : List (Fin 4)) W => c = .ret ∧ (∃ pre' x y, pre = pre' ++ [x] ∧ (∀ j ∈ pre', lastF d (l j.val) = none) ∧ lastF d (l x.val) = some y ∧ W.cell? ⟨g4, 0, none⟩ = some (.int .i64 (if y.2.1 ≤ d then 0 else valM m y.1))) ∧ Below w.heap.size w W ∧ w6.heap.size ≤ W.heap.size)
    ?grow ?objI ?objX ?start (fun (x : Fin 4) a' W => a' = { tmps := (.pointer (some ⟨gT, 0, none⟩) :: .int .i64 d :: .pointer (some ⟨gt, 0, none⟩) :: .pointer (some ⟨gd, 0, none⟩) :: .pointer (some ⟨g4, 0, none⟩) :: .pointer (some ⟨g5, 0, none⟩) :: undef :: q x.val :: undef :: undef :: .pointer (some ⟨gT, 0, none⟩) :: .bool true :: .bool false :: undef :: .pointer (some ⟨gT, 0, none⟩) :: .pointer (some ⟨gT, 0, none⟩) :: .pointer (some ⟨gT, 0, none⟩) :: .slice (some ⟨gT, 0, none⟩) 4 4 :: .func (.func 48) #[] #[.pointer (some ⟨gb, 0, none⟩)] :: .int .i64 (x.val : Int) :: q x.val :: undef :: undef :: undef :: undef :: undef :: undef :: undef :: undef :: undef :: undef :: undef :: undef :: undef :: undef :: undef :: undef :: undef :: undef :: undef :: undef :: undef :: []).toArray, defers := [] }) ?ax ?assign ?body ?done ?stop
  case grow =>
    rintro G pre W W' ⟨h1, h2, h3⟩ ho
    refine ⟨h1.trans (ho.below h1.size fun k hk => (h2 k hk).1), fun k hk => ?_, h3⟩
    rcases hk with hk | hk
    · exact ⟨(h2 k hk).1, Nat.lt_of_lt_of_le (h2 k hk).2 ho.size⟩
    · have := h1.size; exact ⟨by omega, hk.2⟩
  case objI =>
    rintro G pre W l' o o' ⟨h1, h2, h3⟩ hl _ ho _
    exact ⟨h1.trans (below_putObj o' hl ho), fun k hk => by rw [World.putObj_size]; exact h2 k hk, h3⟩
  case objX =>
    rintro c pre W l' o o' ⟨h1, h2, h3, h4⟩ hl _ ho _
    obtain ⟨pre', x, y, e1, e2, e3, h2⟩ := h2
    refine ⟨h1, ⟨pre', x, y, e1, e2, e3, ?_⟩, h3.trans (below_putObj o' (by have := HZ6.out; have := HN.out; omega) ho), by rw [World.putObj_size]; exact h4⟩
    exact (Below.cell (p := ⟨g4, 0, none⟩) (below_putObj (n₀ := g4 + 1) o' (by have := HZ6.out; have := HN.out; omega) ho) (Nat.lt_succ_self _)).trans h2
  case start =>
    intro W hb
    exact ⟨hb, fun _ e => e.elim, fun j hj => absurd hj List.not_mem_nil⟩
  case ax => exact fun x a' _ W l o o' h _ _ _ _ => h
  case assign =>
    intro l' G pre x W K hsz hi hK
    gi_wp2
    exact hK _ _ (KeepsFrom.refl _ _) (KpOwn.refl _ _ _) hi rfl
  case body =>
    rintro l' G pre ⟨x, hx4⟩ a' W hl hsz ⟨i1, i2, i3⟩ rfl hpn
    have HI1 := Lib.hid i1
    have HI2 := Lib.hid i2
    have HI3 := Lib.hid i3
    have HX4 := Lib.hid hx4
    have HTW := Lib.hid (HT6.out.keep HK.out.toRepOk i1)
    have hsw := HS6.out.keep i1
    have HSW := Lib.hid hsw
    have x1 := (hsw.b 1 rfl).get 0 rfl
    obtain ⟨qa, hqa⟩ := HTW.out.ptr x hx4
    have HQA := Lib.hid hqa
    have hN := (callsIn_wide (n := 0)).2 (HK.out.last W (q x) (Fs x) 1000000 (l x) d (HTW.out.tr x hx4) (HK3.out x hx4))
    clear i1 i2 i3 hsw hqa hpn
    cases hy : lastF d (l x) with
    | none =>
      rw [hy] at hN
      have HY := Lib.hid hy
      clear hy
      gi_wp2_with fail
      refine ⟨trivial, CallsIn.mono (F := Fence.wide.inRound l') (n := 0) hN ?_⟩
      clear hN
      rintro e W2 ⟨rfl, b2⟩
      have HB2 := Lib.hid (b2.alloc b2.size (.cells #[.int .i64 0, .int .i64 0, .int .i64 0] 87))
      clear b2
      unfold oneI
      gi_wp2_with fail
      refine ⟨keeps_off (P := fun _ => False) (Off.of HB2.out) (fun _ _ e => e.elim), ⟨HB2.out.mono HI1.out.size, fun k hk => HB2.out.block k (HI2.out k hk).2⟩, HI1.out.trans (HB2.out.mono HI1.out.size), fun k hk => ⟨(HI2.out k hk).1, Nat.lt_of_lt_of_le (HI2.out k hk).2 HB2.out.size⟩, fun j hj => ?_⟩
      rcases List.mem_append.1 hj with hj | hj
      · exact HI3.out j hj
      · obtain rfl : j = ⟨x, hx4⟩ := by simpa using hj
        exact HY.out
    | some y =>
      rw [hy] at hN
      have HY := Lib.hid hy
      obtain ⟨y1, y2, y3⟩ := y
      clear hy
      by_cases hyd : y2 ≤ d
      · have HR := Lib.hid (show (if ((y1, y2, y3) : It).2.1 ≤ d then (0 : Int) else valM m ((y1, y2, y3) : It).1) = 0 from if_pos hyd)
        have d0 : decide (y2 ≤ d) = true := decide_eq_true hyd
        gi_wp2_with fail
        refine ⟨trivial, CallsIn.mono (F := Fence.wide.inRound l') (n := 0) hN ?_⟩
        clear hN
        rintro e W2 ⟨rfl, b2⟩
        have HB2 := Lib.hid (b2.alloc b2.size (.cells #[.int .i64 y1, .int .i64 y2, .int .i64 y3] 87))
        have hsx := (HSW.out.keep b2).push #[.int .i64 y1, .int .i64 y2, .int .i64 y3] 87
        have HSX := Lib.hid hsx
        have z1 := (hsx.b 4 rfl).get 1 rfl
        have u1 := (hsx.b 1 rfl).get 0 rfl
        have u3 := (hsx.b 3 rfl).get 0 rfl
        have u2 := (hsx.b 2 rfl).get 0 rfl
        have f2 := (hsx.b 2 rfl).f 0
        clear b2 x1 hsx
        unfold oneI
        gi_wp2_with fail
        have h4 := (HSX.out.b 2 rfl).set 0 (.int .i64 0)
        refine ⟨keeps_off (P := fun k => k = g4) ((Off.of (F := fun k => k = g4) HB2.out).trans (Off.set (F := fun k => k = g4) (a := ⟨g4, 0, none⟩) rfl _)) (fun k o e hk => by subst e; exact blk_cells (HSW.out.b 2 rfl) hk), rfl, ⟨pre, ⟨x, hx4⟩, _, rfl, HI3.out, HY.out, by rw [HR.out]; exact h4.get 0 rfl⟩, HSX.out.bl.setCell (p := ⟨g4, 0, none⟩) (by have := HN.out; show w.heap.size ≤ g4; omega) _, ?_⟩
        have h1 := HB2.out.size
        have h2 := HI1.out.size
        have h3 := (Off.set (F := fun k => k = g4) (w := W2.alloc (.cells #[.int .i64 y1, .int .i64 y2, .int .i64 y3] 87)) (a := ⟨g4, 0, none⟩) rfl (.int .i64 0)).size
        omega
      · have HR := Lib.hid (show (if ((y1, y2, y3) : It).2.1 ≤ d then (0 : Int) else valM m ((y1, y2, y3) : It).1) = valM m y1 from if_neg hyd)
        have d0 : decide (y2 ≤ d) = false := decide_eq_false hyd
        gi_wp2_with fail
        refine ⟨trivial, CallsIn.mono (F := Fence.wide.inRound l') (n := 0) hN ?_⟩
        clear hN
        rintro e W2 ⟨rfl, b2⟩
        have HB2 := Lib.hid (b2.alloc b2.size (.cells #[.int .i64 y1, .int .i64 y2, .int .i64 y3] 87))
        have hsx := (HSW.out.keep b2).push #[.int .i64 y1, .int .i64 y2, .int .i64 y3] 87
        have HTX := Lib.hid (HTW.out.keep HK.out.toRepOk HB2.out)
        have HSX := Lib.hid hsx
        have z1 := (hsx.b 4 rfl).get 1 rfl
        have u1 := (hsx.b 1 rfl).get 0 rfl
        clear b2 x1 hsx
        unfold oneI
        gi_wp2_with fail
        obtain ⟨gx, hgx⟩ : ∃ k, W2.heap.size = k := ⟨_, rfl⟩
        rw [hgx] at HSX ⊢
        clear hgx
        generalize W2.alloc (.cells #[.int .i64 y1, .int .i64 y2, .int .i64 y3] 87) = wk at *
        clear z1 u1
        refine wpIn_region_val 8 (fun S val wx => VVs 8 [(fun vv => vv = .pointer (some ⟨gT, 0, none⟩)), (fun vv => vv = .pointer (some ⟨gT, 0, none⟩)), (fun vv => vv = .pointer (some ⟨gT, 4, none⟩)), (fun vv => vv = .map (some gM)), (fun vv => vv = .pointer (some ⟨gx, 0, none⟩)), (fun vv => vv = .int .i64 y1), (fun vv => vv = .agg #[.int .i64 (valM m y1)]), (fun vv => vv = .int .i64 (valM m y1))] S val ∧ Clo [[], [0], [1], [2], [], [4], [3, 5], [6]] S ∧ wx = wk.drew) [1, 2, 4, 7] (by kernel_rfl) (by kernel_rfl) (by kernel_rfl) ⟨VVs.start, Clo.start, rfl⟩ ⟨?_, ?_, ?_, ?_, ?_, ?_, ?_, ?_, trivial⟩ ?_
        · rintro ev wv S val hE ⟨hV, hK, hw⟩ hS hd
          have hcl := Clo.add hK (i := 0) ((fun _ h => by cases h))
          have v2 : ev (.tmp 2) = .pointer (some ⟨gt, 0, none⟩) := hE.tmp 2 rfl
          have kx : wv.cell? ⟨gt, 0, none⟩ = some (.pointer (some ⟨gT, 0, none⟩)) := by rw [hw]; exact (HSX.out.b 0 rfl).get 0 rfl
          refine ifw rfl (ifn rfl ?_)
          refine set_val (u := .pointer (some ⟨gT, 0, none⟩)) (w' := wv) ?_ ⟨VVs.add hV rfl, hcl, hw⟩
          have e1 := hE.const; clear hE hd hw hS hV hK hcl
          go_simp
        · rintro ev wv S val hE ⟨hV, hK, hw⟩ hS hd
          have hcl := Clo.add hK (i := 1) (List.forall_mem_cons.2 ⟨(hd 0 (by decide)).1, (fun _ h => by cases h)⟩)
          have v33 : ev (.tmp 33) = .pointer (some ⟨gT, 0, none⟩) := (hd 0 (by decide)).2.trans (hV 0 (by decide) (hd 0 (by decide)).1)
          refine ifw rfl (ifw rfl ⟨.pointer (some ⟨gT, 0, none⟩), fun w9 => ?_, VVs.add hV rfl, hcl, hw⟩)
          have e1 := hE.const; have e2 := hE.func; clear hE hd hw hS hV hK hcl
          show _ = Result.ok (Next.value (.pointer (some ⟨gT, 0, none⟩))) w9
          go_simp
        · rintro ev wv S val hE ⟨hV, hK, hw⟩ hS hd
          have hcl := Clo.add hK (i := 2) (List.forall_mem_cons.2 ⟨(hd 1 (by decide)).1, (fun _ h => by cases h)⟩)
          have v34 : ev (.tmp 34) = .pointer (some ⟨gT, 0, none⟩) := (hd 1 (by decide)).2.trans (hV 1 (by decide) (hd 1 (by decide)).1)
          refine ifw rfl (ifw rfl ⟨.pointer (some ⟨gT, 4, none⟩), fun w9 => ?_, VVs.add hV rfl, hcl, hw⟩)
          have e1 := hE.const; have e2 := hE.func; clear hE hd hw hS hV hK hcl
          show _ = Result.ok (Next.value (.pointer (some ⟨gT, 4, none⟩))) w9
          go_simp
        · rintro ev wv S val hE ⟨hV, hK, hw⟩ hS hd
          have hcl := Clo.add hK (i := 3) (List.forall_mem_cons.2 ⟨(hd 2 (by decide)).1, (fun _ h => by cases h)⟩)
          have v35 : ev (.tmp 35) = .pointer (some ⟨gT, 4, none⟩) := (hd 2 (by decide)).2.trans (hV 2 (by decide) (hd 2 (by decide)).1)
          have kx : wv.cell? ⟨gT, 4, none⟩ = some (.map (some gM)) := by rw [hw]; exact HTX.out.map_cell
          refine ifw rfl (ifn rfl ?_)
          refine set_val (u := .map (some gM)) (w' := wv) ?_ ⟨VVs.add hV rfl, hcl, hw⟩
          have e1 := hE.const; clear hE hd hw hS hV hK hcl
          go_simp
        · rintro ev wv S val hE ⟨hV, hK, hw⟩ hS hd
          have hcl := Clo.add hK (i := 4) ((fun _ h => by cases h))
          have v8 : ev (.tmp 8) = .pointer (some ⟨gx, 0, none⟩) := hE.tmp 8 rfl
          refine ifw rfl (ifw rfl ⟨.pointer (some ⟨gx, 0, none⟩), fun w9 => ?_, VVs.add hV rfl, hcl, hw⟩)
          have e1 := hE.const; have e2 := hE.func; clear hE hd hw hS hV hK hcl
          show _ = Result.ok (Next.value (.pointer (some ⟨gx, 0, none⟩))) w9
          go_simp
        · rintro ev wv S val hE ⟨hV, hK, hw⟩ hS hd
          have hcl := Clo.add hK (i := 5) (List.forall_mem_cons.2 ⟨(hd 4 (by decide)).1, (fun _ h => by cases h)⟩)
          have v37 : ev (.tmp 37) = .pointer (some ⟨gx, 0, none⟩) := (hd 4 (by decide)).2.trans (hV 4 (by decide) (hd 4 (by decide)).1)
          have kx : wv.cell? ⟨gx, 0, none⟩ = some (.int .i64 y1) := by rw [hw]; exact (HSX.out.b 4 rfl).get 0 rfl
          refine ifw rfl (ifn rfl ?_)
          refine set_val (u := .int .i64 y1) (w' := wv) ?_ ⟨VVs.add hV rfl, hcl, hw⟩
          have e1 := hE.const; clear hE hd hw hS hV hK hcl
          go_simp
        · rintro ev wv S val hE ⟨hV, hK, hw⟩ hS hd
          have hcl := Clo.add hK (i := 6) (List.forall_mem_cons.2 ⟨(hd 3 (by decide)).1, List.forall_mem_cons.2 ⟨(hd 5 (by decide)).1, (fun _ h => by cases h)⟩⟩)
          have v36 : ev (.tmp 36) = .map (some gM) := (hd 3 (by decide)).2.trans (hV 3 (by decide) (hd 3 (by decide)).1)
          have v38 : ev (.tmp 38) = .int .i64 y1 := (hd 5 (by decide)).2.trans (hV 5 (by decide) (hd 5 (by decide)).1)
          have kx := look_int y1 (show MapI wv gM m by rw [hw]; exact HTX.out.mp.of_eq rfl)
          refine ifw rfl (ifn rfl ?_)
          refine set_val (u := .agg #[.int .i64 (valM m y1)]) (w' := wv) ?_ ⟨VVs.add hV rfl, hcl, hw⟩
          have e1 := hE.const; clear hE hd hw hS hV hK hcl
          go_simp
        · rintro ev wv S val hE ⟨hV, hK, hw⟩ hS hd
          have hcl := Clo.add hK (i := 7) (List.forall_mem_cons.2 ⟨(hd 6 (by decide)).1, (fun _ h => by cases h)⟩)
          have v39 : ev (.tmp 39) = .agg #[.int .i64 (valM m y1)] := (hd 6 (by decide)).2.trans (hV 6 (by decide) (hd 6 (by decide)).1)
          refine ifw rfl (ifw rfl ⟨.int .i64 (valM m y1), fun w9 => ?_, VVs.add hV rfl, hcl, hw⟩)
          have e1 := hE.const; have e2 := hE.func; clear hE hd hw hS hV hK hcl
          have hfl : (Instr.field 91 (.agg #[.int .i64 (valM m y1)]) 0).run Tryz.prog w9 = .ok (.int .i64 (valM m y1)) w9 := by kernel_rfl
          show _ = Result.ok (Next.value (.int .i64 (valM m y1))) w9
          go_simp
        · rintro S val wz hS ⟨hV, hK, hw⟩
          have e0 : val 0 = .pointer (some ⟨gT, 0, none⟩) := hV 0 (by decide) (hS 0 (by decide))
          have e1 : val 1 = .pointer (some ⟨gT, 0, none⟩) := hV 1 (by decide) (hS 1 (by decide))
          have e2 : val 2 = .pointer (some ⟨gT, 4, none⟩) := hV 2 (by decide) (hS 2 (by decide))
          have e3 : val 3 = .map (some gM) := hV 3 (by decide) (hS 3 (by decide))
          have e4 : val 4 = .pointer (some ⟨gx, 0, none⟩) := hV 4 (by decide) (hS 4 (by decide))
          have e5 : val 5 = .int .i64 y1 := hV 5 (by decide) (hS 5 (by decide))
          have e6 : val 6 = .agg #[.int .i64 (valM m y1)] := hV 6 (by decide) (hS 6 (by decide))
          have e7 : val 7 = .int .i64 (valM m y1) := hV 7 (by decide) (hS 7 (by decide))
          intro v0 h0 u0 v1 h1 u1 v2 h2 u2 v3 h3 u3 v4 h4 u4 v5 h5 u5 v6 h6 u6 v7 h7 u7
          simp only [Act.put, List.setIfInBounds_toArray, List.set_cons_zero, List.set_cons_succ, List.drop_succ_cons, List.drop_zero]
          simp only [h0.trans e0, h1.trans e1, h2.trans e2, h3.trans e3, h4.trans e4, h5.trans e5, h6.trans e6, h7.trans e7]
          clear hV h0 e0 u0 v0 h1 e1 u1 v1 h2 e2 u2 v2 h3 e3 u3 v3 h4 e4 u4 v4 h5 e5 u5 v5 h6 e6 u6 v6 h7 e7 u7 v7
          change wpList Tryz.prog _ _ _ _ wz
          have HBZ := Lib.hid (show Below wk.heap.size wk wz by rw [hw]; exact (Below.refl _ _).drew)
          have HSZ := Lib.hid (HSX.out.keep HBZ.out)
          have y0 := (HSZ.out.b 2 rfl).get 0 rfl
          have z0 := (HSZ.out.b 2 rfl).f 0
          clear hw hS hK val S
          go_wp2_with fail
          refine kept_normal ?_
          gi_wp2_with fail
          have h4 := (HSZ.out.b 2 rfl).set 0 (.int .i64 (valM m y1))
          refine ⟨keeps_off (P := fun k => k = g4) ((Off.of (F := fun k => k = g4) (HB2.out.trans (HBZ.out.mono HB2.out.size))).trans (Off.set (F := fun k => k = g4) (a := ⟨g4, 0, none⟩) rfl _)) (fun k o e hk => by subst e; exact blk_cells (HSW.out.b 2 rfl) hk), rfl, ⟨pre, ⟨x, hx4⟩, _, rfl, HI3.out, HY.out, by rw [HR.out]; exact h4.get 0 rfl⟩, HSZ.out.bl.setCell (p := ⟨g4, 0, none⟩) (by have := HN.out; show w.heap.size ≤ g4; omega) _, ?_⟩
          have h1 := HB2.out.size
          have h2 := HI1.out.size
          have h5 := HBZ.out.size
          have h3 := (Off.set (F := fun k => k = g4) (w := wz) (a := ⟨g4, 0, none⟩) rfl (.int .i64 (valM m y1))).size
          omega
  case done =>
    rintro D G xs W hD rfl ⟨i1, i2, i3⟩ hK
    have HF := Lib.hid (show f d = 0 from at_zero HK1.out HOF.out fun j hj => i3 ⟨j, hj⟩ (bk_all _))
    have HD := Lib.hid hD
    have HKD := Lib.hid hK
    have HSW := Lib.hid (HS6.out.keep i1)
    have u3 := (HSW.out.b 3 rfl).get 0 rfl
    have u2 := (HSW.out.b 2 rfl).get 0 rfl
    have f2 := (HSW.out.b 2 rfl).f 0
    clear i1 i2 i3 hD hK
    go_wp2_with fail
    have hn := HN.out
    have hg4 := (HSW.out.b 2 rfl).sz
    have hd6 := HZ6.out
    have hdd := HD.out
    have h4 := ((HSW.out.b 2 rfl).set 0 (.int .i64 0)).get 0 (v := .int .i64 0) rfl
    refine leaves_marks_off (B := D) (Z := fun k => k = D) (w0 := W.setCell ⟨g4, 0, none⟩ (.int .i64 0)) (fun W' hb => ?_) [D] _ ⟨fun E hE => ?_, by simp⟩ (fun E hE => by simpa using hE) (Off.refl _ _)
    · have h5 := (hb.cell (p := ⟨g4, 0, none⟩) (World.block_lt_of_cell? _ _ h4) (by show ¬ g4 = D; omega)).trans h4
      refine ⟨.int .i64 0, by simp [results, Tryz.results17, go_sem, h5], by rw [HF.out], (HSW.out.bl.setCell (p := ⟨g4, 0, none⟩) (by show w.heap.size ≤ g4; omega) _).trans (hb.below (by have := HSW.out.bl.size; have := (Off.set (F := fun k => k = g4) (w := W) (a := ⟨g4, 0, none⟩) rfl (.int .i64 0)).size; omega) fun k hk => by omega)⟩
    · obtain rfl : E = D := by simpa using hE
      exact ⟨Nat.le_refl _, (Below.heap_setCell _ _ _ _ (by show E ≠ g4; omega)).trans HKD.out⟩
  case stop =>
    rintro D c pre W hD hp ⟨rfl, ⟨pre', x, y, rfl, i3, hy, h1⟩, h2, h3⟩ hK
    have HF := Lib.hid (show f d = (if y.2.1 ≤ d then 0 else valM m y.1) from by
      obtain ⟨v, hv, hf⟩ := at_last HK1.out HK2.out HOF.out x.isLt hy fun j h1 h2 => i3 ⟨j, h2⟩ (bk_next hp j h1 h2)
      rw [hf]
      unfold valM
      rw [hv]; rfl)
    obtain ⟨r, hr⟩ : ∃ r, (if y.2.1 ≤ d then 0 else valM m y.1) = r := ⟨_, rfl⟩
    rw [hr] at h1 HF
    have HD := Lib.hid hD
    have HKD := Lib.hid hK
    have H1 := Lib.hid h1
    have H2 := Lib.hid h2
    have H3 := Lib.hid h3
    clear hD hK h1 h2 h3 hp i3 hy hr
    go_wp2_with fail
    have hn := HN.out
    have hd6 := HZ6.out
    have hdd := HD.out
    refine leaves_marks_off (B := D) (Z := fun k => k = D) (w0 := W) (fun W' hb => ?_) [D] _ ⟨fun E hE => ?_, by simp⟩ (fun E hE => by simpa using hE) (Off.refl _ _)
    · have h5 := (hb.cell (p := ⟨g4, 0, none⟩) (World.block_lt_of_cell? _ _ H1.out) (by show ¬ g4 = D; omega)).trans H1.out
      refine ⟨.int .i64 r, by simp [results, Tryz.results17, go_sem, h5], by rw [HF.out], H2.out.trans (hb.below H2.out.size fun k hk => by omega)⟩
    · obtain rfl : E = D := by simpa using hE
      exact ⟨Nat.le_refl _, HKD.out⟩
end Go.Proofs.YtonfjjmgjgmanaaGreat

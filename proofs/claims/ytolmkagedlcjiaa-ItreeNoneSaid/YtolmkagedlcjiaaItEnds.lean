/- Contracts of package itree: First$1, Last$1: how a node is looked at. Contract of package itree: down; First, Last. Contracts of package itree: First, Last. (Written by wip/gen/genitends.py.) -/
import Derived.Test.YtolmkagedlcjiaaItTree
import Derived.Deep.LoopGhost
namespace Go.Proofs.Ytolmkagedlcjiaa
set_option maxRecDepth 8000
open Go.RowKit Corr
set_option linter.unusedVariables false
set_option linter.unusedSimpArgs false
/-- A closure that looks at a knot: whether it fits, and which side is next. -/
def LookP (fe ge : Nat) (fit : It → Bool) (lf : Bool) (w : World) : Prop :=
  ge < w.heap.size ∧ (∀ args w, (callFunc fe args).run Try.prog w = .ok (.enter fe args) w) ∧ ∀ w1, w1.heap[ge]? = w.heap[ge]? → ∀ (y : It) (i j h t : Int), Calls Try.prog fe #[knotV y i j h t, .pointer (some ⟨ge, 0, none⟩)] w1 fun e w2 => e = .returned (.tuple #[.bool (fit y), .int .i64 (if fit y == lf then i else j)]) ∧ Below w1.heap.size w1 w2
theorem LookP.later {fe ge : Nat} {fit : It → Bool} {lf : Bool} {w w' : World} (h : LookP fe ge fit lf w) (hb : Below w.heap.size w w') : LookP fe ge fit lf w' :=
  ⟨Nat.lt_of_lt_of_le h.1 hb.size, h.2.1, fun w1 h1 => h.2.2 w1 (h1.trans (hb.block _ h.1))⟩
set_option maxHeartbeats 2000000 in
theorem firstLook_any (ge : Nat) (day i j h t : Int) (y : It) (w : World) (B : Blk w ge #[.int .i64 day]) : Calls Try.prog 23 #[knotV y i j h t, .pointer (some ⟨ge, 0, none⟩)] w fun e w2 => e = .returned (.tuple #[.bool (decide (y.1 ≥ day)), .int .i64 (if decide (y.1 ≥ day) == true then i else j)]) ∧ Below w.heap.size w w2 := by
  obtain ⟨y1, y2, y3⟩ := y
  have hB := (Below.refl w.heap.size w).alloc (Nat.le_refl _) (.cells #[.int .i64 y1, .int .i64 y2, .int .i64 y3, .int .i64 i, .int .i64 j, .int .i64 h, .int .i64 t] 59)
  have HB := Lib.hid hB
  have HX := Blk.new w #[.int .i64 y1, .int .i64 y2, .int .i64 y3, .int .i64 i, .int .i64 j, .int .i64 h, .int .i64 t] 59
  have d0 := (B.keep hB).get 0 rfl
  have x0 := HX.get 0 rfl
  have x3 := HX.get 3 rfl
  have x4 := HX.get 4 rfl
  clear B HX hB
  by_cases hy : y1 ≥ day
  · have e1 : decide (y1 ≥ day) = true := decide_eq_true hy
    have HE : (if decide (y1 ≥ day) == true then i else j) = i := by rw [e1]; rfl
    dsimp only
    rw [HE, e1]
    clear HE hy
    go_enter Try.func23, Try.ntmps23
    go_upto_region 2 with fail
    go_quiet (fail)
    go_wp2_with fail
    go_ret2
    exact ⟨rfl, HB.out.trans (Joins.below_draws _ _ _)⟩
  · have e1 : decide (y1 ≥ day) = false := decide_eq_false hy
    have HE : (if decide (y1 ≥ day) == true then i else j) = j := by rw [e1]; rfl
    dsimp only
    rw [HE, e1]
    clear HE hy
    go_enter Try.func23, Try.ntmps23
    go_upto_region 3 with fail
    go_quiet (fail)
    go_wp2_with fail
    go_ret2
    exact ⟨rfl, HB.out.trans (Joins.below_draws _ _ _)⟩
set_option maxHeartbeats 2000000 in
theorem lastLook_any (ge : Nat) (day i j h t : Int) (y : It) (w : World) (B : Blk w ge #[.int .i64 day]) : Calls Try.prog 24 #[knotV y i j h t, .pointer (some ⟨ge, 0, none⟩)] w fun e w2 => e = .returned (.tuple #[.bool (decide (y.1 ≤ day)), .int .i64 (if decide (y.1 ≤ day) == false then i else j)]) ∧ Below w.heap.size w w2 := by
  obtain ⟨y1, y2, y3⟩ := y
  have hB := (Below.refl w.heap.size w).alloc (Nat.le_refl _) (.cells #[.int .i64 y1, .int .i64 y2, .int .i64 y3, .int .i64 i, .int .i64 j, .int .i64 h, .int .i64 t] 59)
  have HB := Lib.hid hB
  have HX := Blk.new w #[.int .i64 y1, .int .i64 y2, .int .i64 y3, .int .i64 i, .int .i64 j, .int .i64 h, .int .i64 t] 59
  have d0 := (B.keep hB).get 0 rfl
  have x0 := HX.get 0 rfl
  have x3 := HX.get 3 rfl
  have x4 := HX.get 4 rfl
  clear B HX hB
  by_cases hy : y1 ≤ day
  · have e1 : decide (y1 ≤ day) = true := decide_eq_true hy
    have HE : (if decide (y1 ≤ day) == false then i else j) = j := by rw [e1]; rfl
    dsimp only
    rw [HE, e1]
    clear HE hy
    go_enter Try.func24, Try.ntmps24
    go_upto_region 2 with fail
    go_quiet (fail)
    go_wp2_with fail
    go_ret2
    exact ⟨rfl, HB.out.trans (Joins.below_draws _ _ _)⟩
  · have e1 : decide (y1 ≤ day) = false := decide_eq_false hy
    have HE : (if decide (y1 ≤ day) == false then i else j) = i := by rw [e1]; rfl
    dsimp only
    rw [HE, e1]
    clear HE hy
    go_enter Try.func24, Try.ntmps24
    go_upto_region 3 with fail
    go_quiet (fail)
    go_wp2_with fail
    go_ret2
    exact ⟨rfl, HB.out.trans (Joins.below_draws _ _ _)⟩
theorem blk_of_eq {w w1 : World} {g : Nat} {vs : Array Value} (B : Blk w g vs) (h : w1.heap[g]? = w.heap[g]?) : Blk w1 g vs := by
  obtain ⟨T, hT⟩ := B.blk
  exact ⟨T, h.trans hT⟩
theorem firstLook (ge : Nat) (day : Int) (w : World) (B : Blk w ge #[.int .i64 day]) : LookP 23 ge (fun y => decide (y.1 ≥ day)) true w :=
  ⟨B.sz, enters_of Try.func23 (by kernel_rfl) rfl, fun w1 h1 y i j h t => firstLook_any ge day i j h t y w1 (blk_of_eq B h1)⟩
theorem lastLook (ge : Nat) (day : Int) (w : World) (B : Blk w ge #[.int .i64 day]) : LookP 24 ge (fun y => decide (y.1 ≤ day)) false w :=
  ⟨B.sz, enters_of Try.func24 (by kernel_rfl) rfl, fun w1 h1 y i j h t => lastLook_any ge day i j h t y w1 (blk_of_eq B h1)⟩
end Go.Proofs.Ytolmkagedlcjiaa
namespace Corr
set_option maxRecDepth 8000
open Go Go.RowKit
def isN : PT → Bool
  | .nil => false
  | .node _ _ _ _ => true
/-- What a place tells of a tree. -/
def KnS (s : PT) (y : It) (i j h t : Int) : Prop := match s with
  | .nil => y = (0, 0, 0) ∧ i = 0 ∧ j = 0 ∧ h = 0 ∧ t = 0
  | .node a q z b => y = z ∧ i = a.root ∧ j = b.root ∧ t = topL (PT.node a q z b).items
/-- What down has made: its answer's block, what it has found, the knot. -/
structure DnM (w wr : World) (hr hf hk : Nat) (f : It) (y : It) (i j h t : Int) : Prop where
  br : Blk wr hr #[.int .i64 0, .int .i64 0, .int .i64 0]
  bf : Blk wr hf #[.int .i64 f.1, .int .i64 f.2.1, .int .i64 f.2.2]
  bk : Blk wr hk #[.int .i64 y.1, .int .i64 y.2.1, .int .i64 y.2.2, .int .i64 i, .int .i64 j, .int .i64 h, .int .i64 t]
  bb : Below w.heap.size w wr
  lo : w.heap.size ≤ hr ∧ w.heap.size ≤ hf ∧ w.heap.size ≤ hk
  ne : hr ≠ hf ∧ hr ≠ hk ∧ hf ≠ hk
theorem DnM.keep {w wr w' : World} {hr hf hk : Nat} {f y : It} {i j h t : Int} (H : DnM w wr hr hf hk f y i j h t) (hb : Below wr.heap.size wr w') : DnM w w' hr hf hk f y i j h t := ⟨H.br.keep hb, H.bf.keep hb, H.bk.keep hb, H.bb.trans (hb.mono H.bb.size), H.lo, H.ne⟩
theorem below_set {B : Nat} {w wr : World} (h : Below B w wr) {g : Nat} (hg : B ≤ g) (k : Nat) (v : Value) : Below B w (wr.setCell ⟨g, k, none⟩ v) := h.setCell (p := ⟨g, k, none⟩) hg v
theorem DnM.found {w wr : World} {hr hf hk : Nat} {f y : It} {i j h t : Int} (H : DnM w wr hr hf hk f y i j h t) (z : It) : DnM w (((wr.setCell ⟨hf, 0, none⟩ (.int .i64 z.1)).setCell ⟨hf, 1, none⟩ (.int .i64 z.2.1)).setCell ⟨hf, 2, none⟩ (.int .i64 z.2.2)) hr hf hk z y i j h t :=
  ⟨(((H.br.far H.ne.1 0 (.int .i64 z.1)).far H.ne.1 1 (.int .i64 z.2.1)).far H.ne.1 2 (.int .i64 z.2.2)), (((H.bf.set 0 (.int .i64 z.1)).set 1 (.int .i64 z.2.1)).set 2 (.int .i64 z.2.2)), (((H.bk.far (Ne.symm H.ne.2.2) 0 (.int .i64 z.1)).far (Ne.symm H.ne.2.2) 1 (.int .i64 z.2.1)).far (Ne.symm H.ne.2.2) 2 (.int .i64 z.2.2)), (below_set (below_set (below_set H.bb H.lo.2.1 0 (.int .i64 z.1)) H.lo.2.1 1 (.int .i64 z.2.1)) H.lo.2.1 2 (.int .i64 z.2.2)), H.lo, H.ne⟩
theorem DnM.knot {w wr : World} {hr hf hk : Nat} {f y : It} {i j h t : Int} (H : DnM w wr hr hf hk f y i j h t) (z : It) (i' j' h' t' : Int) : DnM w (((((((wr.setCell ⟨hk, 0, none⟩ (.int .i64 z.1)).setCell ⟨hk, 1, none⟩ (.int .i64 z.2.1)).setCell ⟨hk, 2, none⟩ (.int .i64 z.2.2)).setCell ⟨hk, 3, none⟩ (.int .i64 i')).setCell ⟨hk, 4, none⟩ (.int .i64 j')).setCell ⟨hk, 5, none⟩ (.int .i64 h')).setCell ⟨hk, 6, none⟩ (.int .i64 t')) hr hf hk f z i' j' h' t' :=
  ⟨(((((((H.br.far H.ne.2.1 0 (.int .i64 z.1)).far H.ne.2.1 1 (.int .i64 z.2.1)).far H.ne.2.1 2 (.int .i64 z.2.2)).far H.ne.2.1 3 (.int .i64 i')).far H.ne.2.1 4 (.int .i64 j')).far H.ne.2.1 5 (.int .i64 h')).far H.ne.2.1 6 (.int .i64 t')), (((((((H.bf.far H.ne.2.2 0 (.int .i64 z.1)).far H.ne.2.2 1 (.int .i64 z.2.1)).far H.ne.2.2 2 (.int .i64 z.2.2)).far H.ne.2.2 3 (.int .i64 i')).far H.ne.2.2 4 (.int .i64 j')).far H.ne.2.2 5 (.int .i64 h')).far H.ne.2.2 6 (.int .i64 t')), (by have := (((((((H.bk.set 0 (.int .i64 z.1)).set 1 (.int .i64 z.2.1)).set 2 (.int .i64 z.2.2)).set 3 (.int .i64 i')).set 4 (.int .i64 j')).set 5 (.int .i64 h')).set 6 (.int .i64 t')); simp only [List.setIfInBounds_toArray, List.set_cons_zero, List.set_cons_succ] at this; exact this), (below_set (below_set (below_set (below_set (below_set (below_set (below_set H.bb H.lo.2.2 0 (.int .i64 z.1)) H.lo.2.2 1 (.int .i64 z.2.1)) H.lo.2.2 2 (.int .i64 z.2.2)) H.lo.2.2 3 (.int .i64 i')) H.lo.2.2 4 (.int .i64 j')) H.lo.2.2 5 (.int .i64 h')) H.lo.2.2 6 (.int .i64 t')), H.lo, H.ne⟩
end Corr
namespace Go.Proofs.Ytolmkagedlcjiaa
set_option maxRecDepth 8000
open Go.RowKit Corr
set_option linter.unusedVariables false
set_option linter.unusedSimpArgs false
theorem knot_any {p : Value} {w w1 : World} {t s : PT} (T : TH p w t) (h : NodeOk p w s) (hb : Below w.heap.size w w1) : ∃ (y : It) (i j h t' : Int), KnS s y i j h t' ∧ Calls Try.prog 34 #[p, .int .i64 s.root] w1 fun e w2 => e = .returned (.tuple #[knotV y i j h t', .bool (isN s)]) ∧ Below w1.heap.size w1 w2 := by
  cases s with
  | nil => exact ⟨(0, 0, 0), 0, 0, 0, 0, ⟨rfl, rfl, rfl, rfl, rfl⟩, T.out w1 hb⟩
  | node a q y b => exact ⟨y, _, _, _, _, ⟨rfl, rfl, rfl, rfl⟩, h.1 w1 hb⟩
set_option maxHeartbeats 4000000 in
theorem down_any (p : Value) (fe ge : Nat) (fit : It → Bool) (lf : Bool) (t : PT) (w : World) (T : TH p w t) (L : LookP fe ge fit lf w) : Calls Try.prog 22 #[p, .func (.func fe) #[] #[.pointer (some ⟨ge, 0, none⟩)]] w fun e w' => e = .returned (oneI (dnI fit lf t none)) ∧ Below w.heap.size w w' := by
  obtain ⟨res, hres⟩ : ∃ r, dnI fit lf t none = r := ⟨_, rfl⟩
  rw [hres]
  have HRES := Lib.hid hres
  have HT := Lib.hid T
  have HL := Lib.hid L
  have hcf := L.2.1
  have HR := (Blk.new w #[.int .i64 0, .int .i64 0, .int .i64 0] 30).alloc (.cells #[.int .i64 0, .int .i64 0, .int .i64 0] 30)
  have HF := Blk.new (w.alloc (.cells #[.int .i64 0, .int .i64 0, .int .i64 0] 30)) #[.int .i64 0, .int .i64 0, .int .i64 0] 30
  simp only [size_alloc] at HF
  have HR := Lib.hid HR
  have HF := Lib.hid HF
  have HB := Lib.hid (Joins.below_alloc2 w (.cells #[.int .i64 0, .int .i64 0, .int .i64 0] 30) (.cells #[.int .i64 0, .int .i64 0, .int .i64 0] 30))
  clear T L hres
  go_enter Try.func22, Try.ntmps22
  go_upto_region 3 with fail
  have HNE := Lib.hid (show w.heap.size ≠ w.heap.size + 1 by omega)
  have HLR := Lib.hid (show w.heap.size ≤ w.heap.size + 1 by omega)
  generalize hwq : (w.alloc (.cells #[.int .i64 0, .int .i64 0, .int .i64 0] 30)).alloc (.cells #[.int .i64 0, .int .i64 0, .int .i64 0] 30) = wq at *
  generalize w.heap.size + 1 = hf at *
  generalize hhr : w.heap.size = hr at HR HNE ⊢
  have HLO := Lib.hid (Nat.le_of_eq hhr)
  clear hwq hhr
  go_wp2_with fail
  refine (HT.out.root _ HB.out).mono ?_
  rintro e w1 ⟨rfl, b1⟩
  have HB1 := Lib.hid (HB.out.trans (b1.mono HB.out.size))
  have HR1 := Lib.hid (HR.out.keep b1)
  have HF1 := Lib.hid (HF.out.keep b1)
  clear b1 HR HF HB
  go_wp2_with fail
  obtain ⟨y, i, j, h, t', hk, hc⟩ := knot_any HT.out HT.out.node HB1.out
  refine hc.mono ?_
  clear hc
  rintro e w2 ⟨rfl, b2⟩
  obtain ⟨y1, y2, y3⟩ := y
  have HM := Lib.hid (show DnM w (w2.alloc (.cells #[.int .i64 y1, .int .i64 y2, .int .i64 y3, .int .i64 i, .int .i64 j, .int .i64 h, .int .i64 t'] 59)) hr hf w2.heap.size (0, 0, 0) (y1, y2, y3) i j h t' from by
    have h1 := HR1.out.keep b2
    have h2 := HF1.out.keep b2
    have h3 := HB1.out.trans (b2.mono HB1.out.size)
    have q1 := h1.sz
    have q2 := h2.sz
    exact ⟨h1.alloc _, h2.alloc _, Blk.new _ _ _, h3.alloc h3.size _, ⟨HLO.out, HLR.out, h3.size⟩, ⟨HNE.out, by omega, by omega⟩⟩)
  have HK := Lib.hid hk
  clear hk b2 HR1 HF1 HB1 HNE HLO HLR
  go_wp2_with fail
  generalize w2.alloc (.cells #[.int .i64 y1, .int .i64 y2, .int .i64 y3, .int .i64 i, .int .i64 j, .int .i64 h, .int .i64 t'] 59) = w3 at *
  generalize w2.heap.size = hk at *
  go_loopg [7, 9] t.height (fun k v z wr => ∃ (s : PT) (f : Option It) (y : It) (i j h t' : Int), v = .bool f.isSome ∧ z = .bool (isN s) ∧ Hid (k = s.height) ∧ Hid (dnI fit lf s f = res) ∧ Hid (NodeOk p w s) ∧ Hid (KnS s y i j h t') ∧ Hid (DnM w wr hr hf hk (f.getD (0, 0, 0)) y i j h t'))
  case atStart => exact ⟨t, none, (y1, y2, y3), i, j, h, t', rfl, rfl, Lib.hid rfl, HRES, Lib.hid HT.out.node, HK, HM⟩
  case round =>
    clear HRES HM HK
    obtain ⟨s, f, ⟨y1, y2, y3⟩, i, j, h, t', rfl, rfl, HKK, HRES, HNO, HK, HM⟩ := hrel
    cases s with
    | nil =>
      have HE := Lib.hid (show f = res from HRES.out)
      obtain ⟨⟨f1, f2, f3⟩, hf'⟩ : ∃ g : It, f.getD (0, 0, 0) = g := ⟨_, rfl⟩
      rw [hf'] at HM
      have HFF := Lib.hid hf'
      clear hf' HRES
      have x0 : wr.cell? ⟨hf, 0, none⟩ = some (.int .i64 f1) := HM.out.bf.get 0 rfl
      have x1 : wr.cell? ⟨hf, 1, none⟩ = some (.int .i64 f2) := HM.out.bf.get 1 rfl
      have x2 : wr.cell? ⟨hf, 2, none⟩ = some (.int .i64 f3) := HM.out.bf.get 2 rfl
      have c0 := HM.out.br.get 0 rfl
      have c1 := HM.out.br.get 1 rfl
      have c2 := HM.out.br.get 2 rfl
      have z0 := HM.out.br.f 0
      have z1 := HM.out.br.f 1
      have z2 := HM.out.br.f 2
      have HR2 := Lib.hid (((HM.out.br.set 0 (.int .i64 f1)).set 1 (.int .i64 f2)).set 2 (.int .i64 f3))
      have HB2 := Lib.hid (below_set (below_set (below_set HM.out.bb HM.out.lo.1 0 (.int .i64 f1)) HM.out.lo.1 1 (.int .i64 f2)) HM.out.lo.1 2 (.int .i64 f3))
      obtain ⟨sm, hsm⟩ : ∃ b, f.isSome = b := ⟨_, rfl⟩
      have HSM := Lib.hid hsm
      clear hsm
      have e1 : isN PT.nil = false := rfl
      rw [e1, HSM.out]
      go_wp2_with fail
      have r0 := HR2.out.get 0 (v := .int .i64 f1) rfl
      have r1 := HR2.out.get 1 (v := .int .i64 f2) rfl
      have r2 := HR2.out.get 2 (v := .int .i64 f3) rfl
      refine bodyPost_ret (v := .tuple #[.agg #[.int .i64 f1, .int .i64 f2, .int .i64 f3], .bool sm]) (by simp [results, Try.results22, go_sem, r0, r1, r2]) rfl ⟨by rw [← HE.out, ← HSM.out]; unfold oneI; rw [HFF.out], HB2.out⟩
    | node a q z b =>
      obtain ⟨rfl, rfl, rfl, rfl⟩ := HK.out
      obtain ⟨tp, htp⟩ : ∃ tp, topL (PT.node a q (y1, y2, y3) b).items = tp := ⟨_, rfl⟩
      rw [htp] at HM
      clear htp HK
      have HMA := Lib.hid (HM.out.bb.block _ HL.out.1)
      obtain ⟨s', hs'⟩ : ∃ s', (if fit (y1, y2, y3) == lf then a else b) = s' := ⟨_, rfl⟩
      have HLK := Lib.hid (fun w1 h1 => HL.out.2.2 w1 h1 (y1, y2, y3) a.root b.root h tp)
      rw [show (if fit (y1, y2, y3) == lf then a.root else b.root) = s'.root by rw [← hs']; split <;> rfl] at HLK
      have HS' := Lib.hid (show s'.height < (PT.node a q (y1, y2, y3) b).height ∧ NodeOk p w s' by
        rw [← hs']
        simp only [PT.height]
        split
        · exact ⟨by omega, HNO.out.2.1⟩
        · exact ⟨by omega, HNO.out.2.2⟩)
      have HDN := Lib.hid (show dnI fit lf s' (if fit (y1, y2, y3) then some (y1, y2, y3) else f) = res by
        rw [← HRES.out, ← hs']
        show _ = (if fit (y1, y2, y3) == lf then dnI fit lf a (if fit (y1, y2, y3) then some (y1, y2, y3) else f) else dnI fit lf b (if fit (y1, y2, y3) then some (y1, y2, y3) else f))
        split <;> rfl)
      clear hs' HRES
      have x0 : wr.cell? ⟨hk, 0, none⟩ = some (.int .i64 y1) := HM.out.bk.get 0 rfl
      have x1 : wr.cell? ⟨hk, 1, none⟩ = some (.int .i64 y2) := HM.out.bk.get 1 rfl
      have x2 : wr.cell? ⟨hk, 2, none⟩ = some (.int .i64 y3) := HM.out.bk.get 2 rfl
      have x3 : wr.cell? ⟨hk, 3, none⟩ = some (.int .i64 a.root) := HM.out.bk.get 3 rfl
      have x4 : wr.cell? ⟨hk, 4, none⟩ = some (.int .i64 b.root) := HM.out.bk.get 4 rfl
      have x5 : wr.cell? ⟨hk, 5, none⟩ = some (.int .i64 h) := HM.out.bk.get 5 rfl
      have x6 : wr.cell? ⟨hk, 6, none⟩ = some (.int .i64 tp) := HM.out.bk.get 6 rfl
      have e1 : isN (PT.node a q (y1, y2, y3) b) = true := rfl
      rw [e1]
      obtain ⟨sm, hsm⟩ : ∃ b, f.isSome = b := ⟨_, rfl⟩
      have HSM := Lib.hid hsm
      rw [hsm]
      clear hsm
      cases hfy : fit (y1, y2, y3) with
      | true =>
        rw [hfy] at HLK HDN
        clear hfy
        go_wp2_with fail
        refine (HLK.out _ HMA.out).mono ?_
        rintro e wa ⟨rfl, ba⟩
        have HMa := Lib.hid (HM.out.keep ba)
        clear x0 x1 x2 x3 x4 x5 x6 ba HM HLK HMA e1
        have x0 : wa.cell? ⟨hk, 0, none⟩ = some (.int .i64 y1) := HMa.out.bk.get 0 rfl
        have x1 : wa.cell? ⟨hk, 1, none⟩ = some (.int .i64 y2) := HMa.out.bk.get 1 rfl
        have x2 : wa.cell? ⟨hk, 2, none⟩ = some (.int .i64 y3) := HMa.out.bk.get 2 rfl
        have c0 := HMa.out.bf.get 0 rfl
        have c1 := HMa.out.bf.get 1 rfl
        have c2 := HMa.out.bf.get 2 rfl
        have z0 := HMa.out.bf.f 0
        have z1 := HMa.out.bf.f 1
        have z2 := HMa.out.bf.f 2
        have HMb := Lib.hid (HMa.out.found (y1, y2, y3))
        clear HMa
        dsimp only at HMb
        go_wp2_with fail
        generalize ((wa.setCell ⟨hf, 0, none⟩ (.int .i64 y1)).setCell ⟨hf, 1, none⟩ (.int .i64 y2)).setCell ⟨hf, 2, none⟩ (.int .i64 y3) = wb at *
        clear x0 x1 x2 c0 c1 c2 z0 z1 z2
        obtain ⟨⟨n1, n2, n3⟩, i', j', h', t'', hk', hc⟩ := knot_any HT.out HS'.out.2 HMb.out.bb
        refine hc.mono ?_
        clear hc
        rintro e wc ⟨rfl, bc⟩
        have HMc := Lib.hid (HMb.out.keep bc)
        have HK' := Lib.hid hk'
        clear HMb bc hk'
        have k0 := HMc.out.bk.get 0 rfl
        have k1 := HMc.out.bk.get 1 rfl
        have k2 := HMc.out.bk.get 2 rfl
        have k3 := HMc.out.bk.get 3 rfl
        have k4 := HMc.out.bk.get 4 rfl
        have k5 := HMc.out.bk.get 5 rfl
        have k6 := HMc.out.bk.get 6 rfl
        have z0 := HMc.out.bk.f 0
        have z1 := HMc.out.bk.f 1
        have z2 := HMc.out.bk.f 2
        have z3 := HMc.out.bk.f 3
        have z4 := HMc.out.bk.f 4
        have z5 := HMc.out.bk.f 5
        have z6 := HMc.out.bk.f 6
        have HMd := Lib.hid (HMc.out.knot (n1, n2, n3) i' j' h' t'')
        dsimp only at HMd k0 k1 k2
        clear HMc
        go_wp2_with fail
        go_roundg s'.height
        case measure => rw [HKK.out]; exact HS'.out.1
        case rel => exact ⟨s', (some (y1, y2, y3)), (n1, n2, n3), i', j', h', t'', rfl, rfl, Lib.hid rfl, HDN, Lib.hid HS'.out.2, HK', HMd⟩
      | false =>
        rw [hfy] at HLK HDN
        clear hfy
        go_wp2_with fail
        refine (HLK.out _ HMA.out).mono ?_
        rintro e wa ⟨rfl, ba⟩
        have HMa := Lib.hid (HM.out.keep ba)
        clear x0 x1 x2 x3 x4 x5 x6 ba HM HLK HMA e1
        have HMb := HMa
        clear HMa
        obtain ⟨wb, hwb⟩ : ∃ wb, wa = wb := ⟨_, rfl⟩
        rw [hwb] at HMb ⊢
        clear hwb
        go_wp2_with fail
        obtain ⟨⟨n1, n2, n3⟩, i', j', h', t'', hk', hc⟩ := knot_any HT.out HS'.out.2 HMb.out.bb
        refine hc.mono ?_
        clear hc
        rintro e wc ⟨rfl, bc⟩
        have HMc := Lib.hid (HMb.out.keep bc)
        have HK' := Lib.hid hk'
        clear HMb bc hk'
        have k0 := HMc.out.bk.get 0 rfl
        have k1 := HMc.out.bk.get 1 rfl
        have k2 := HMc.out.bk.get 2 rfl
        have k3 := HMc.out.bk.get 3 rfl
        have k4 := HMc.out.bk.get 4 rfl
        have k5 := HMc.out.bk.get 5 rfl
        have k6 := HMc.out.bk.get 6 rfl
        have z0 := HMc.out.bk.f 0
        have z1 := HMc.out.bk.f 1
        have z2 := HMc.out.bk.f 2
        have z3 := HMc.out.bk.f 3
        have z4 := HMc.out.bk.f 4
        have z5 := HMc.out.bk.f 5
        have z6 := HMc.out.bk.f 6
        have HMd := Lib.hid (HMc.out.knot (n1, n2, n3) i' j' h' t'')
        dsimp only at HMd k0 k1 k2
        clear HMc
        go_wp2_with fail
        go_roundg s'.height
        case measure => rw [HKK.out]; exact HS'.out.1
        case rel => exact ⟨s', f, (n1, n2, n3), i', j', h', t'', by rw [HSM.out], rfl, Lib.hid rfl, HDN, Lib.hid HS'.out.2, HK', HMd⟩
end Go.Proofs.Ytolmkagedlcjiaa
namespace Go.Proofs.Ytolmkagedlcjiaa
set_option maxRecDepth 8000
open Go.RowKit Corr
set_option linter.unusedVariables false
set_option linter.unusedSimpArgs false
set_option maxHeartbeats 2000000 in
theorem ifirst_any (p : Value) (day : Int) (t : PT) (w : World) (T : TH p w t) : Calls Try.prog 9 #[p, .int .i64 day] w fun e w' => e = .returned (oneI (t.items.find? (fun y => decide (y.1 ≥ day)))) ∧ Below w.heap.size w w' := by
  have hD := (Blk.new w #[.int .i64 day] 3).alloc (.cells #[.int .i64 0, .int .i64 0, .int .i64 0] 30)
  have hR := Blk.new (w.alloc (.cells #[.int .i64 day] 3)) #[.int .i64 0, .int .i64 0, .int .i64 0] 30
  simp only [size_alloc] at hR
  have hB := Joins.below_alloc2 w (.cells #[.int .i64 day] 3) (.cells #[.int .i64 0, .int .i64 0, .int .i64 0] 30)
  have HC := Lib.hid (down_any p 23 w.heap.size (fun y => decide (y.1 ≥ day)) true t _ (T.later hB) (firstLook _ day _ hD))
  rw [idn_first T.up, Option.or_none] at HC
  obtain ⟨o, ho⟩ : ∃ o, t.items.find? (fun y => decide (y.1 ≥ day)) = o := ⟨_, rfl⟩
  rw [ho] at HC ⊢
  have HR := Lib.hid hR
  have HB := Lib.hid hB
  clear hD hR hB ho T
  obtain ⟨⟨y1, y2, y3⟩, hy⟩ : ∃ y, o.getD (0, 0, 0) = y := ⟨_, rfl⟩
  obtain ⟨sm, hsm⟩ : ∃ b, o.isSome = b := ⟨_, rfl⟩
  unfold oneI at HC ⊢
  rw [hy, hsm] at HC ⊢
  clear hy hsm
  have HLO := Lib.hid (show w.heap.size ≤ w.heap.size + 1 by omega)
  go_enter Try.func9, Try.ntmps9
  go_wp2_with fail
  generalize (w.alloc (.cells #[.int .i64 day] 3)).alloc (.cells #[.int .i64 0, .int .i64 0, .int .i64 0] 30) = wq at *
  refine HC.out.mono ?_
  rintro e w1 ⟨rfl, b1⟩
  have HR1 := Lib.hid (HR.out.keep b1)
  have HB1 := Lib.hid (HB.out.trans (b1.mono HB.out.size))
  clear HR HB b1 HC
  generalize w.heap.size + 1 = hr at *
  have c0 := HR1.out.get 0 rfl
  have c1 := HR1.out.get 1 rfl
  have c2 := HR1.out.get 2 rfl
  have z0 := HR1.out.f 0
  have z1 := HR1.out.f 1
  have z2 := HR1.out.f 2
  have HR2 := Lib.hid (((HR1.out.set 0 (.int .i64 y1)).set 1 (.int .i64 y2)).set 2 (.int .i64 y3))
  have HB2 := Lib.hid (below_set (below_set (below_set HB1.out HLO.out 0 (.int .i64 y1)) HLO.out 1 (.int .i64 y2)) HLO.out 2 (.int .i64 y3))
  go_wp2_with fail
  have r0 := HR2.out.get 0 (v := .int .i64 y1) rfl
  have r1 := HR2.out.get 1 (v := .int .i64 y2) rfl
  have r2 := HR2.out.get 2 (v := .int .i64 y3) rfl
  refine bodyPost_ret (v := .tuple #[.agg #[.int .i64 y1, .int .i64 y2, .int .i64 y3], .bool sm]) (by simp [results, Try.results9, go_sem, r0, r1, r2]) rfl ⟨rfl, HB2.out⟩
set_option maxHeartbeats 2000000 in
theorem ilast_any (p : Value) (day : Int) (t : PT) (w : World) (T : TH p w t) : Calls Try.prog 10 #[p, .int .i64 day] w fun e w' => e = .returned (oneI (t.items.reverse.find? (fun y => decide (y.1 ≤ day)))) ∧ Below w.heap.size w w' := by
  have hD := (Blk.new w #[.int .i64 day] 3).alloc (.cells #[.int .i64 0, .int .i64 0, .int .i64 0] 30)
  have hR := Blk.new (w.alloc (.cells #[.int .i64 day] 3)) #[.int .i64 0, .int .i64 0, .int .i64 0] 30
  simp only [size_alloc] at hR
  have hB := Joins.below_alloc2 w (.cells #[.int .i64 day] 3) (.cells #[.int .i64 0, .int .i64 0, .int .i64 0] 30)
  have HC := Lib.hid (down_any p 24 w.heap.size (fun y => decide (y.1 ≤ day)) false t _ (T.later hB) (lastLook _ day _ hD))
  rw [idn_last T.up, Option.or_none] at HC
  obtain ⟨o, ho⟩ : ∃ o, t.items.reverse.find? (fun y => decide (y.1 ≤ day)) = o := ⟨_, rfl⟩
  rw [ho] at HC ⊢
  have HR := Lib.hid hR
  have HB := Lib.hid hB
  clear hD hR hB ho T
  obtain ⟨⟨y1, y2, y3⟩, hy⟩ : ∃ y, o.getD (0, 0, 0) = y := ⟨_, rfl⟩
  obtain ⟨sm, hsm⟩ : ∃ b, o.isSome = b := ⟨_, rfl⟩
  unfold oneI at HC ⊢
  rw [hy, hsm] at HC ⊢
  clear hy hsm
  have HLO := Lib.hid (show w.heap.size ≤ w.heap.size + 1 by omega)
  go_enter Try.func10, Try.ntmps10
  go_wp2_with fail
  generalize (w.alloc (.cells #[.int .i64 day] 3)).alloc (.cells #[.int .i64 0, .int .i64 0, .int .i64 0] 30) = wq at *
  refine HC.out.mono ?_
  rintro e w1 ⟨rfl, b1⟩
  have HR1 := Lib.hid (HR.out.keep b1)
  have HB1 := Lib.hid (HB.out.trans (b1.mono HB.out.size))
  clear HR HB b1 HC
  generalize w.heap.size + 1 = hr at *
  have c0 := HR1.out.get 0 rfl
  have c1 := HR1.out.get 1 rfl
  have c2 := HR1.out.get 2 rfl
  have z0 := HR1.out.f 0
  have z1 := HR1.out.f 1
  have z2 := HR1.out.f 2
  have HR2 := Lib.hid (((HR1.out.set 0 (.int .i64 y1)).set 1 (.int .i64 y2)).set 2 (.int .i64 y3))
  have HB2 := Lib.hid (below_set (below_set (below_set HB1.out HLO.out 0 (.int .i64 y1)) HLO.out 1 (.int .i64 y2)) HLO.out 2 (.int .i64 y3))
  go_wp2_with fail
  have r0 := HR2.out.get 0 (v := .int .i64 y1) rfl
  have r1 := HR2.out.get 1 (v := .int .i64 y2) rfl
  have r2 := HR2.out.get 2 (v := .int .i64 y3) rfl
  refine bodyPost_ret (v := .tuple #[.agg #[.int .i64 y1, .int .i64 y2, .int .i64 y3], .bool sm]) (by simp [results, Try.results10, go_sem, r0, r1, r2]) rfl ⟨rfl, HB2.out⟩
end Go.Proofs.Ytolmkagedlcjiaa

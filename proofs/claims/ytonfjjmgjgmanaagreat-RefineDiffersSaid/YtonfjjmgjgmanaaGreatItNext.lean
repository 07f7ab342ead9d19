/- A tree as package itree asks it: its root, its knots, by their contracts. Contracts of package itree: First$1, Last$1: how a node is looked at. Contract of package itree: down; First, Last. Contracts of package itree: First, Last. (Written by wip/gen/genitends.py.) Contract of package itree: next. (Written by wip/gen/gennext.py.) -/
import Derived.Test.YtonfjjmgjgmanaaGreatAk17
import Derived.Test.YtonfjjmgjgmanaaGreatItWay
import Derived.Deep.LoopGhost
namespace Go.Proofs.YtonfjjmgjgmanaaGreat
set_option maxRecDepth 8000
open Go.RowKit Corr
set_option linter.unusedVariables false
set_option linter.unusedSimpArgs false
abbrev knot0 : Value := .agg #[.int .i64 0, .int .i64 0, .int .i64 0, .int .i64 0, .int .i64 0, .int .i64 0, .int .i64 0]
set_option maxHeartbeats 4000000 in
theorem node_none (gT g n c : Nat) (M : Int) (A : Option Addr) (K : KnL) (t : PT) (l : ItL) (w : World) (H : TreeR 103 w gT g n c M A K t l) : Calls Tryz.prog 59 #[.pointer (some ⟨gT, 0, none⟩), .int .i64 (-1)] w fun e w' => e = .returned (.tuple #[knot0, .bool false]) ∧ Below w.heap.size w w' := by
  have HX := Lib.hid (Blk.new w #[.int .i64 0, .int .i64 0, .int .i64 0, .int .i64 0, .int .i64 0, .int .i64 0, .int .i64 0] 103)
  have HB := Lib.hid (show Ext w _ from (Below.refl _ w).alloc (Nat.le_refl _) (.cells #[.int .i64 0, .int .i64 0, .int .i64 0, .int .i64 0, .int .i64 0, .int .i64 0, .int .i64 0] 103))
  have HT := Lib.hid (H.keep HB.out)
  have HN := Lib.hid (nodes_any gT g _ HT.out.tp)
  clear H
  go_enter Tryz.func59, Tryz.ntmps59
  go_wp2_with fail
  generalize w.alloc (.cells #[.int .i64 0, .int .i64 0, .int .i64 0, .int .i64 0, .int .i64 0, .int .i64 0, .int .i64 0] 103) = wq at *
  generalize hhx : w.heap.size = hx at HX ⊢
  have HLO := Lib.hid (Nat.le_of_eq hhx)
  clear hhx
  refine HN.out.mono ?_
  rintro e w1 ⟨rfl, rfl⟩
  have a2 := HT.out.ar.b.get 2 rfl
  have x0 := HX.out.get 0 rfl
  have x1 := HX.out.get 1 rfl
  have x2 := HX.out.get 2 rfl
  have x3 := HX.out.get 3 rfl
  have x4 := HX.out.get 4 rfl
  have x5 := HX.out.get 5 rfl
  have x6 := HX.out.get 6 rfl
  have f0 := HX.out.f 0
  have f1 := HX.out.f 1
  have f2 := HX.out.f 2
  have f3 := HX.out.f 3
  have f4 := HX.out.f 4
  have f5 := HX.out.f 5
  have f6 := HX.out.f 6
  have HF := Lib.hid ((((((((Off.of (F := fun _ => False) HB.out).put ⟨hx, 0, none⟩ (.inr HLO.out) (.int .i64 0)).put ⟨hx, 1, none⟩ (.inr HLO.out) (.int .i64 0)).put ⟨hx, 2, none⟩ (.inr HLO.out) (.int .i64 0)).put ⟨hx, 3, none⟩ (.inr HLO.out) (.int .i64 0)).put ⟨hx, 4, none⟩ (.inr HLO.out) (.int .i64 0)).put ⟨hx, 5, none⟩ (.inr HLO.out) (.int .i64 0)).put ⟨hx, 6, none⟩ (.inr HLO.out) (.int .i64 0))
  have HX2 := Lib.hid (((((((HX.out.set 0 (.int .i64 0)).set 1 (.int .i64 0)).set 2 (.int .i64 0)).set 3 (.int .i64 0)).set 4 (.int .i64 0)).set 5 (.int .i64 0)).set 6 (.int .i64 0))
  go_wp2_with fail
  have r0 := HX2.out.get 0 (v := .int .i64 0) rfl
  have r1 := HX2.out.get 1 (v := .int .i64 0) rfl
  have r2 := HX2.out.get 2 (v := .int .i64 0) rfl
  have r3 := HX2.out.get 3 (v := .int .i64 0) rfl
  have r4 := HX2.out.get 4 (v := .int .i64 0) rfl
  have r5 := HX2.out.get 5 (v := .int .i64 0) rfl
  have r6 := HX2.out.get 6 (v := .int .i64 0) rfl
  refine bodyPost_ret (v := .tuple #[knot0, .bool false]) (by simp [results, Tryz.results59, go_sem, r0, r1, r2, r3, r4, r5, r6]) rfl ⟨rfl, HF.out.below (Nat.le_refl _) (fun k e => e.elim)⟩
/-- What is told of each node of a tree. -/
def NodeOk (p : Value) (w : World) : PT → Prop
  | .nil => True
  | .node a q y b => (∀ w1, Below w.heap.size w w1 → Calls Tryz.prog 59 #[p, .int .i64 (q : Int)] w1 fun e w2 => e = .returned (.tuple #[knotV y a.root b.root ((PT.node a q y b).height : Int) (topL (PT.node a q y b).items), .bool true]) ∧ Below w1.heap.size w1 w2) ∧ NodeOk p w a ∧ NodeOk p w b
theorem NodeOk.later {p : Value} {w w' : World} (hb : Below w.heap.size w w') : ∀ {t : PT}, NodeOk p w t → NodeOk p w' t
  | .nil, _ => trivial
  | .node a q y b, ⟨h1, h2, h3⟩ => ⟨fun w1 h => h1 w1 (hb.trans (h.mono hb.size)), h2.later hb, h3.later hb⟩
/-- A tree, as it is asked. -/
structure TH (p : Value) (w : World) (t : PT) : Prop where
  root : ∀ w1, Below w.heap.size w w1 → Calls Tryz.prog 60 #[p] w1 fun e w2 => e = .returned (.int .i64 t.root) ∧ Below w1.heap.size w1 w2
  out : ∀ w1, Below w.heap.size w w1 → Calls Tryz.prog 59 #[p, .int .i64 (-1)] w1 fun e w2 => e = .returned (.tuple #[knot0, .bool false]) ∧ Below w1.heap.size w1 w2
  node : NodeOk p w t
  up : srt t.items
  deep : t.height ≤ 28
theorem TH.later {p : Value} {w w' : World} {t : PT} (h : TH p w t) (hb : Below w.heap.size w w') : TH p w' t :=
  ⟨fun w1 h1 => h.root w1 (hb.trans (h1.mono hb.size)), fun w1 h1 => h.out w1 (hb.trans (h1.mono hb.size)), h.node.later hb, h.up, h.deep⟩
theorem nodeOk_of {gT g n c : Nat} {M : Int} {A : Option Addr} {K : KnL} {t : PT} {l : ItL} {w : World} (H : TreeR 103 w gT g n c M A K t l) (hn : n ≤ 2000) : ∀ {s : PT}, Rp K s → NodeOk (.pointer (some ⟨gT, 0, none⟩)) w s
  | .nil, _ => trivial
  | .node a q y b, ⟨h1, h2, h3⟩ => ⟨fun w1 hb => node_at gT g n c q M A K t l y _ _ _ _ w1 (H.keep hb) h1 hn, nodeOk_of H hn h2, nodeOk_of H hn h3⟩
theorem TH.of {gT g n c : Nat} {M : Int} {A : Option Addr} {K : KnL} {t : PT} {l : ItL} {w : World} (H : TreeR 103 w gT g n c M A K t l) (hl : l.length ≤ 1000) : TH (.pointer (some ⟨gT, 0, none⟩)) w t :=
  ⟨fun w1 hb => (root_any gT g n c M A K t l w1 (H.keep hb)).mono fun e w2 h => ⟨h.1, by rw [h.2]; exact Below.refl _ _⟩, fun w1 hb => node_none gT g n c M A K t l w1 (H.keep hb), nodeOk_of H (by have := H.num; omega) H.rp, by rw [H.it]; exact H.srt, by have := bal_le H.bal (by rw [H.it]; omega); omega⟩
theorem TH.nil {p : Value} {w : World} (h : NilA w p) : TH p w .nil :=
  ⟨fun w1 hb => (root_nil p w1 (h.keep hb)).mono fun e w2 h => ⟨h.1, h.2⟩, fun w1 hb => (node_nil p (-1) w1 (h.keep hb)).mono fun e w2 h => ⟨h.1, h.2⟩, trivial, List.Pairwise.nil, by simp [PT.height]⟩
end Go.Proofs.YtonfjjmgjgmanaaGreat
namespace Go.Proofs.YtonfjjmgjgmanaaGreat
set_option maxRecDepth 8000
open Go.RowKit Corr
set_option linter.unusedVariables false
set_option linter.unusedSimpArgs false
/-- A closure that looks at a knot: whether it fits, and which side is next. -/
def LookP (fe ge : Nat) (fit : It → Bool) (lf : Bool) (w : World) : Prop :=
  ge < w.heap.size ∧ (∀ args w, (callFunc fe args).run Tryz.prog w = .ok (.enter fe args) w) ∧ ∀ w1, w1.heap[ge]? = w.heap[ge]? → ∀ (y : It) (i j h t : Int), Calls Tryz.prog fe #[knotV y i j h t, .pointer (some ⟨ge, 0, none⟩)] w1 fun e w2 => e = .returned (.tuple #[.bool (fit y), .int .i64 (if fit y == lf then i else j)]) ∧ Below w1.heap.size w1 w2
theorem LookP.later {fe ge : Nat} {fit : It → Bool} {lf : Bool} {w w' : World} (h : LookP fe ge fit lf w) (hb : Below w.heap.size w w') : LookP fe ge fit lf w' :=
  ⟨Nat.lt_of_lt_of_le h.1 hb.size, h.2.1, fun w1 h1 => h.2.2 w1 (h1.trans (hb.block _ h.1))⟩
set_option maxHeartbeats 2000000 in
theorem lastLook_any (ge : Nat) (day i j h t : Int) (y : It) (w : World) (B : Blk w ge #[.int .i64 day]) : Calls Tryz.prog 50 #[knotV y i j h t, .pointer (some ⟨ge, 0, none⟩)] w fun e w2 => e = .returned (.tuple #[.bool (decide (y.1 ≤ day)), .int .i64 (if decide (y.1 ≤ day) == false then i else j)]) ∧ Below w.heap.size w w2 := by
  obtain ⟨y1, y2, y3⟩ := y
  have hB := (Below.refl w.heap.size w).alloc (Nat.le_refl _) (.cells #[.int .i64 y1, .int .i64 y2, .int .i64 y3, .int .i64 i, .int .i64 j, .int .i64 h, .int .i64 t] 103)
  have HB := Lib.hid hB
  have HX := Blk.new w #[.int .i64 y1, .int .i64 y2, .int .i64 y3, .int .i64 i, .int .i64 j, .int .i64 h, .int .i64 t] 103
  have d0 := (B.keep hB).get 0 rfl
  have x0 := HX.get 0 rfl
  have x3 := HX.get 3 rfl
  have x4 := HX.get 4 rfl
  clear B HX hB
  by_cases hy : y1 ≤ day
  · have e1 : decide (y1 ≤ day) = true := decide_eq_true hy
    have HE : (if decide (y1 ≤ day) == false then i else j) = j := by rw [e1]; rfl
    dsimp only
    rw [HE, e1]
    clear HE hy
    go_enter Tryz.func50, Tryz.ntmps50
    go_upto_region 2 with fail
    go_quiet (fail)
    go_wp2_with fail
    go_ret2
    exact ⟨rfl, HB.out.trans (Joins.below_draws _ _ _)⟩
  · have e1 : decide (y1 ≤ day) = false := decide_eq_false hy
    have HE : (if decide (y1 ≤ day) == false then i else j) = i := by rw [e1]; rfl
    dsimp only
    rw [HE, e1]
    clear HE hy
    go_enter Tryz.func50, Tryz.ntmps50
    go_upto_region 3 with fail
    go_quiet (fail)
    go_wp2_with fail
    go_ret2
    exact ⟨rfl, HB.out.trans (Joins.below_draws _ _ _)⟩
theorem blk_of_eq {w w1 : World} {g : Nat} {vs : Array Value} (B : Blk w g vs) (h : w1.heap[g]? = w.heap[g]?) : Blk w1 g vs := by
  obtain ⟨T, hT⟩ := B.blk
  exact ⟨T, h.trans hT⟩
theorem lastLook (ge : Nat) (day : Int) (w : World) (B : Blk w ge #[.int .i64 day]) : LookP 50 ge (fun y => decide (y.1 ≤ day)) false w :=
  ⟨B.sz, enters_of Tryz.func50 (by kernel_rfl) rfl, fun w1 h1 y i j h t => lastLook_any ge day i j h t y w1 (blk_of_eq B h1)⟩
end Go.Proofs.YtonfjjmgjgmanaaGreat
namespace Corr
set_option maxRecDepth 8000
open Go Go.RowKit
def isN : PT → Bool
  | .nil => false
  | .node _ _ _ _ => true
/-- What a place tells of a tree. -/
def KnS (s : PT) (y : It) (i j h t : Int) : Prop := match s with
  | .nil => y = (0, 0, 0) ∧ i = 0 ∧ j = 0 ∧ h = 0 ∧ t = 0
  | .node a q z b => y = z ∧ i = a.root ∧ j = b.root ∧ t = topL (PT.node a q z b).items
/-- What down has made: its answer's block, what it has found, the knot. -/
structure DnM (w wr : World) (hr hf hk : Nat) (f : It) (y : It) (i j h t : Int) : Prop where
  br : Blk wr hr #[.int .i64 0, .int .i64 0, .int .i64 0]
  bf : Blk wr hf #[.int .i64 f.1, .int .i64 f.2.1, .int .i64 f.2.2]
  bk : Blk wr hk #[.int .i64 y.1, .int .i64 y.2.1, .int .i64 y.2.2, .int .i64 i, .int .i64 j, .int .i64 h, .int .i64 t]
  bb : Below w.heap.size w wr
  lo : w.heap.size ≤ hr ∧ w.heap.size ≤ hf ∧ w.heap.size ≤ hk
  ne : hr ≠ hf ∧ hr ≠ hk ∧ hf ≠ hk
theorem DnM.keep {w wr w' : World} {hr hf hk : Nat} {f y : It} {i j h t : Int} (H : DnM w wr hr hf hk f y i j h t) (hb : Below wr.heap.size wr w') : DnM w w' hr hf hk f y i j h t := ⟨H.br.keep hb, H.bf.keep hb, H.bk.keep hb, H.bb.trans (hb.mono H.bb.size), H.lo, H.ne⟩
theorem below_set {B : Nat} {w wr : World} (h : Below B w wr) {g : Nat} (hg : B ≤ g) (k : Nat) (v : Value) : Below B w (wr.setCell ⟨g, k, none⟩ v) := h.setCell (p := ⟨g, k, none⟩) hg v
theorem DnM.found {w wr : World} {hr hf hk : Nat} {f y : It} {i j h t : Int} (H : DnM w wr hr hf hk f y i j h t) (z : It) : DnM w (((wr.setCell ⟨hf, 0, none⟩ (.int .i64 z.1)).setCell ⟨hf, 1, none⟩ (.int .i64 z.2.1)).setCell ⟨hf, 2, none⟩ (.int .i64 z.2.2)) hr hf hk z y i j h t :=
  ⟨(((H.br.far H.ne.1 0 (.int .i64 z.1)).far H.ne.1 1 (.int .i64 z.2.1)).far H.ne.1 2 (.int .i64 z.2.2)), (((H.bf.set 0 (.int .i64 z.1)).set 1 (.int .i64 z.2.1)).set 2 (.int .i64 z.2.2)), (((H.bk.far (Ne.symm H.ne.2.2) 0 (.int .i64 z.1)).far (Ne.symm H.ne.2.2) 1 (.int .i64 z.2.1)).far (Ne.symm H.ne.2.2) 2 (.int .i64 z.2.2)), (below_set (below_set (below_set H.bb H.lo.2.1 0 (.int .i64 z.1)) H.lo.2.1 1 (.int .i64 z.2.1)) H.lo.2.1 2 (.int .i64 z.2.2)), H.lo, H.ne⟩
theorem DnM.knot {w wr : World} {hr hf hk : Nat} {f y : It} {i j h t : Int} (H : DnM w wr hr hf hk f y i j h t) (z : It) (i' j' h' t' : Int) : DnM w (((((((wr.setCell ⟨hk, 0, none⟩ (.int .i64 z.1)).setCell ⟨hk, 1, none⟩ (.int .i64 z.2.1)).setCell ⟨hk, 2, none⟩ (.int .i64 z.2.2)).setCell ⟨hk, 3, none⟩ (.int .i64 i')).setCell ⟨hk, 4, none⟩ (.int .i64 j')).setCell ⟨hk, 5, none⟩ (.int .i64 h')).setCell ⟨hk, 6, none⟩ (.int .i64 t')) hr hf hk f z i' j' h' t' :=
  ⟨(((((((H.br.far H.ne.2.1 0 (.int .i64 z.1)).far H.ne.2.1 1 (.int .i64 z.2.1)).far H.ne.2.1 2 (.int .i64 z.2.2)).far H.ne.2.1 3 (.int .i64 i')).far H.ne.2.1 4 (.int .i64 j')).far H.ne.2.1 5 (.int .i64 h')).far H.ne.2.1 6 (.int .i64 t')), (((((((H.bf.far H.ne.2.2 0 (.int .i64 z.1)).far H.ne.2.2 1 (.int .i64 z.2.1)).far H.ne.2.2 2 (.int .i64 z.2.2)).far H.ne.2.2 3 (.int .i64 i')).far H.ne.2.2 4 (.int .i64 j')).far H.ne.2.2 5 (.int .i64 h')).far H.ne.2.2 6 (.int .i64 t')), (by have := (((((((H.bk.set 0 (.int .i64 z.1)).set 1 (.int .i64 z.2.1)).set 2 (.int .i64 z.2.2)).set 3 (.int .i64 i')).set 4 (.int .i64 j')).set 5 (.int .i64 h')).set 6 (.int .i64 t')); simp only [List.setIfInBounds_toArray, List.set_cons_zero, List.set_cons_succ] at this; exact this), (below_set (below_set (below_set (below_set (below_set (below_set (below_set H.bb H.lo.2.2 0 (.int .i64 z.1)) H.lo.2.2 1 (.int .i64 z.2.1)) H.lo.2.2 2 (.int .i64 z.2.2)) H.lo.2.2 3 (.int .i64 i')) H.lo.2.2 4 (.int .i64 j')) H.lo.2.2 5 (.int .i64 h')) H.lo.2.2 6 (.int .i64 t')), H.lo, H.ne⟩
end Corr
namespace Go.Proofs.YtonfjjmgjgmanaaGreat
set_option maxRecDepth 8000
open Go.RowKit Corr
set_option linter.unusedVariables false
set_option linter.unusedSimpArgs false
theorem knot_any {p : Value} {w w1 : World} {t s : PT} (T : TH p w t) (h : NodeOk p w s) (hb : Below w.heap.size w w1) : ∃ (y : It) (i j h t' : Int), KnS s y i j h t' ∧ Calls Tryz.prog 59 #[p, .int .i64 s.root] w1 fun e w2 => e = .returned (.tuple #[knotV y i j h t', .bool (isN s)]) ∧ Below w1.heap.size w1 w2 := by
  cases s with
  | nil => exact ⟨(0, 0, 0), 0, 0, 0, 0, ⟨rfl, rfl, rfl, rfl, rfl⟩, T.out w1 hb⟩
  | node a q y b => exact ⟨y, _, _, _, _, ⟨rfl, rfl, rfl, rfl⟩, h.1 w1 hb⟩
set_option maxHeartbeats 4000000 in
theorem down_any (p : Value) (fe ge : Nat) (fit : It → Bool) (lf : Bool) (t : PT) (w : World) (T : TH p w t) (L : LookP fe ge fit lf w) : Calls Tryz.prog 49 #[p, .func (.func fe) #[] #[.pointer (some ⟨ge, 0, none⟩)]] w fun e w' => e = .returned (oneI (dnI fit lf t none)) ∧ Below w.heap.size w w' := by
  obtain ⟨res, hres⟩ : ∃ r, dnI fit lf t none = r := ⟨_, rfl⟩
  rw [hres]
  have HRES := Lib.hid hres
  have HT := Lib.hid T
  have HL := Lib.hid L
  have hcf := L.2.1
  have HR := (Blk.new w #[.int .i64 0, .int .i64 0, .int .i64 0] 87).alloc (.cells #[.int .i64 0, .int .i64 0, .int .i64 0] 87)
  have HF := Blk.new (w.alloc (.cells #[.int .i64 0, .int .i64 0, .int .i64 0] 87)) #[.int .i64 0, .int .i64 0, .int .i64 0] 87
  simp only [size_alloc] at HF
  have HR := Lib.hid HR
  have HF := Lib.hid HF
  have HB := Lib.hid (Joins.below_alloc2 w (.cells #[.int .i64 0, .int .i64 0, .int .i64 0] 87) (.cells #[.int .i64 0, .int .i64 0, .int .i64 0] 87))
  clear T L hres
  go_enter Tryz.func49, Tryz.ntmps49
  go_upto_region 3 with fail
  have HNE := Lib.hid (show w.heap.size ≠ w.heap.size + 1 by omega)
  have HLR := Lib.hid (show w.heap.size ≤ w.heap.size + 1 by omega)
  generalize hwq : (w.alloc (.cells #[.int .i64 0, .int .i64 0, .int .i64 0] 87)).alloc (.cells #[.int .i64 0, .int .i64 0, .int .i64 0] 87) = wq at *
  generalize w.heap.size + 1 = hf at *
  generalize hhr : w.heap.size = hr at HR HNE ⊢
  have HLO := Lib.hid (Nat.le_of_eq hhr)
  clear hwq hhr
  go_wp2_with fail
  refine (HT.out.root _ HB.out).mono ?_
  rintro e w1 ⟨rfl, b1⟩
  have HB1 := Lib.hid (HB.out.trans (b1.mono HB.out.size))
  have HR1 := Lib.hid (HR.out.keep b1)
  have HF1 := Lib.hid (HF.out.keep b1)
  clear b1 HR HF HB
  go_wp2_with fail
  obtain ⟨y, i, j, h, t', hk, hc⟩ := knot_any HT.out HT.out.node HB1.out
  refine hc.mono ?_
  clear hc
  rintro e w2 ⟨rfl, b2⟩
  obtain ⟨y1, y2, y3⟩ := y
  have HM := Lib.hid (show DnM w (w2.alloc (.cells #[.int .i64 y1, .int .i64 y2, .int .i64 y3, .int .i64 i, .int .i64 j, .int .i64 h, .int .i64 t'] 103)) hr hf w2.heap.size (0, 0, 0) (y1, y2, y3) i j h t' from by
    have h1 := HR1.out.keep b2
    have h2 := HF1.out.keep b2
    have h3 := HB1.out.trans (b2.mono HB1.out.size)
    have q1 := h1.sz
    have q2 := h2.sz
    exact ⟨h1.alloc _, h2.alloc _, Blk.new _ _ _, h3.alloc h3.size _, ⟨HLO.out, HLR.out, h3.size⟩, ⟨HNE.out, by omega, by omega⟩⟩)
  have HK := Lib.hid hk
  clear hk b2 HR1 HF1 HB1 HNE HLO HLR
  go_wp2_with fail
  generalize w2.alloc (.cells #[.int .i64 y1, .int .i64 y2, .int .i64 y3, .int .i64 i, .int .i64 j, .int .i64 h, .int .i64 t'] 103) = w3 at *
  generalize w2.heap.size = hk at *
  go_loopg [7, 9] t.height (fun k v z wr => ∃ (s : PT) (f : Option It) (y : It) (i j h t' : Int), v = .bool f.isSome ∧ z = .bool (isN s) ∧ Hid (k = s.height) ∧ Hid (dnI fit lf s f = res) ∧ Hid (NodeOk p w s) ∧ Hid (KnS s y i j h t') ∧ Hid (DnM w wr hr hf hk (f.getD (0, 0, 0)) y i j h t'))
  case atStart => exact ⟨t, none, (y1, y2, y3), i, j, h, t', rfl, rfl, Lib.hid rfl, HRES, Lib.hid HT.out.node, HK, HM⟩
  case round =>
    clear HRES HM HK
    obtain ⟨s, f, ⟨y1, y2, y3⟩, i, j, h, t', rfl, rfl, HKK, HRES, HNO, HK, HM⟩ := hrel
    cases s with
    | nil =>
      have HE := Lib.hid (show f = res from HRES.out)
      obtain ⟨⟨f1, f2, f3⟩, hf'⟩ : ∃ g : It, f.getD (0, 0, 0) = g := ⟨_, rfl⟩
      rw [hf'] at HM
      have HFF := Lib.hid hf'
      clear hf' HRES
      have x0 : wr.cell? ⟨hf, 0, none⟩ = some (.int .i64 f1) := HM.out.bf.get 0 rfl
      have x1 : wr.cell? ⟨hf, 1, none⟩ = some (.int .i64 f2) := HM.out.bf.get 1 rfl
      have x2 : wr.cell? ⟨hf, 2, none⟩ = some (.int .i64 f3) := HM.out.bf.get 2 rfl
      have c0 := HM.out.br.get 0 rfl
      have c1 := HM.out.br.get 1 rfl
      have c2 := HM.out.br.get 2 rfl
      have z0 := HM.out.br.f 0
      have z1 := HM.out.br.f 1
      have z2 := HM.out.br.f 2
      have HR2 := Lib.hid (((HM.out.br.set 0 (.int .i64 f1)).set 1 (.int .i64 f2)).set 2 (.int .i64 f3))
      have HB2 := Lib.hid (below_set (below_set (below_set HM.out.bb HM.out.lo.1 0 (.int .i64 f1)) HM.out.lo.1 1 (.int .i64 f2)) HM.out.lo.1 2 (.int .i64 f3))
      obtain ⟨sm, hsm⟩ : ∃ b, f.isSome = b := ⟨_, rfl⟩
      have HSM := Lib.hid hsm
      clear hsm
      have e1 : isN PT.nil = false := rfl
      rw [e1, HSM.out]
      go_wp2_with fail
      have r0 := HR2.out.get 0 (v := .int .i64 f1) rfl
      have r1 := HR2.out.get 1 (v := .int .i64 f2) rfl
      have r2 := HR2.out.get 2 (v := .int .i64 f3) rfl
      refine bodyPost_ret (v := .tuple #[.agg #[.int .i64 f1, .int .i64 f2, .int .i64 f3], .bool sm]) (by simp [results, Tryz.results49, go_sem, r0, r1, r2]) rfl ⟨by rw [← HE.out, ← HSM.out]; unfold oneI; rw [HFF.out], HB2.out⟩
    | node a q z b =>
      obtain ⟨rfl, rfl, rfl, rfl⟩ := HK.out
      obtain ⟨tp, htp⟩ : ∃ tp, topL (PT.node a q (y1, y2, y3) b).items = tp := ⟨_, rfl⟩
      rw [htp] at HM
      clear htp HK
      have HMA := Lib.hid (HM.out.bb.block _ HL.out.1)
      obtain ⟨s', hs'⟩ : ∃ s', (if fit (y1, y2, y3) == lf then a else b) = s' := ⟨_, rfl⟩
      have HLK := Lib.hid (fun w1 h1 => HL.out.2.2 w1 h1 (y1, y2, y3) a.root b.root h tp)
      rw [show (if fit (y1, y2, y3) == lf then a.root else b.root) = s'.root by rw [← hs']; split <;> rfl] at HLK
      have HS' := Lib.hid (show s'.height < (PT.node a q (y1, y2, y3) b).height ∧ NodeOk p w s' by
        rw [← hs']
        simp only [PT.height]
        split
        · exact ⟨by omega, HNO.out.2.1⟩
        · exact ⟨by omega, HNO.out.2.2⟩)
      have HDN := Lib.hid (show dnI fit lf s' (if fit (y1, y2, y3) then some (y1, y2, y3) else f) = res by
        rw [← HRES.out, ← hs']
        show _ = (if fit (y1, y2, y3) == lf then dnI fit lf a (if fit (y1, y2, y3) then some (y1, y2, y3) else f) else dnI fit lf b (if fit (y1, y2, y3) then some (y1, y2, y3) else f))
        split <;> rfl)
      clear hs' HRES
      have x0 : wr.cell? ⟨hk, 0, none⟩ = some (.int .i64 y1) := HM.out.bk.get 0 rfl
      have x1 : wr.cell? ⟨hk, 1, none⟩ = some (.int .i64 y2) := HM.out.bk.get 1 rfl
      have x2 : wr.cell? ⟨hk, 2, none⟩ = some (.int .i64 y3) := HM.out.bk.get 2 rfl
      have x3 : wr.cell? ⟨hk, 3, none⟩ = some (.int .i64 a.root) := HM.out.bk.get 3 rfl
      have x4 : wr.cell? ⟨hk, 4, none⟩ = some (.int .i64 b.root) := HM.out.bk.get 4 rfl
      have x5 : wr.cell? ⟨hk, 5, none⟩ = some (.int .i64 h) := HM.out.bk.get 5 rfl
      have x6 : wr.cell? ⟨hk, 6, none⟩ = some (.int .i64 tp) := HM.out.bk.get 6 rfl
      have e1 : isN (PT.node a q (y1, y2, y3) b) = true := rfl
      rw [e1]
      obtain ⟨sm, hsm⟩ : ∃ b, f.isSome = b := ⟨_, rfl⟩
      have HSM := Lib.hid hsm
      rw [hsm]
      clear hsm
      cases hfy : fit (y1, y2, y3) with
      | true =>
        rw [hfy] at HLK HDN
        clear hfy
        go_wp2_with fail
        refine (HLK.out _ HMA.out).mono ?_
        rintro e wa ⟨rfl, ba⟩
        have HMa := Lib.hid (HM.out.keep ba)
        clear x0 x1 x2 x3 x4 x5 x6 ba HM HLK HMA e1
        have x0 : wa.cell? ⟨hk, 0, none⟩ = some (.int .i64 y1) := HMa.out.bk.get 0 rfl
        have x1 : wa.cell? ⟨hk, 1, none⟩ = some (.int .i64 y2) := HMa.out.bk.get 1 rfl
        have x2 : wa.cell? ⟨hk, 2, none⟩ = some (.int .i64 y3) := HMa.out.bk.get 2 rfl
        have c0 := HMa.out.bf.get 0 rfl
        have c1 := HMa.out.bf.get 1 rfl
        have c2 := HMa.out.bf.get 2 rfl
        have z0 := HMa.out.bf.f 0
        have z1 := HMa.out.bf.f 1
        have z2 := HMa.out.bf.f 2
        have HMb := Lib.hid (HMa.out.found (y1, y2, y3))
        clear HMa
        dsimp only at HMb
        go_wp2_with fail
        generalize ((wa.setCell ⟨hf, 0, none⟩ (.int .i64 y1)).setCell ⟨hf, 1, none⟩ (.int .i64 y2)).setCell ⟨hf, 2, none⟩ (.int .i64 y3) = wb at *
        clear x0 x1 x2 c0 c1 c2 z0 z1 z2
        obtain ⟨⟨n1, n2, n3⟩, i', j', h', t'', hk', hc⟩ := knot_any HT.out HS'.out.2 HMb.out.bb
        refine hc.mono ?_
        clear hc
        rintro e wc ⟨rfl, bc⟩
        have HMc := Lib.hid (HMb.out.keep bc)
        have HK' := Lib.hid hk'
        clear HMb bc hk'
        have k0 := HMc.out.bk.get 0 rfl
        have k1 := HMc.out.bk.get 1 rfl
        have k2 := HMc.out.bk.get 2 rfl
        have k3 := HMc.out.bk.get 3 rfl
        have k4 := HMc.out.bk.get 4 rfl
        have k5 := HMc.out.bk.get 5 rfl
        have k6 := HMc.out.bk.get 6 rfl
        have z0 := HMc.out.bk.f 0
        have z1 := HMc.out.bk.f 1
        have z2 := HMc.out.bk.f 2
        have z3 := HMc.out.bk.f 3
        have z4 := HMc.out.bk.f 4
        have z5 := HMc.out.bk.f 5
        have z6 := HMc.out.bk.f 6
        have HMd := Lib.hid (HMc.out.knot (n1, n2, n3) i' j' h' t'')
        dsimp only at HMd k0 k1 k2
        clear HMc
        go_wp2_with fail
        go_roundg s'.height
        case measure => rw [HKK.out]; exact HS'.out.1
        case rel => exact ⟨s', (some (y1, y2, y3)), (n1, n2, n3), i', j', h', t'', rfl, rfl, Lib.hid rfl, HDN, Lib.hid HS'.out.2, HK', HMd⟩
      | false =>
        rw [hfy] at HLK HDN
        clear hfy
        go_wp2_with fail
        refine (HLK.out _ HMA.out).mono ?_
        rintro e wa ⟨rfl, ba⟩
        have HMa := Lib.hid (HM.out.keep ba)
        clear x0 x1 x2 x3 x4 x5 x6 ba HM HLK HMA e1
        have HMb := HMa
        clear HMa
        obtain ⟨wb, hwb⟩ : ∃ wb, wa = wb := ⟨_, rfl⟩
        rw [hwb] at HMb ⊢
        clear hwb
        go_wp2_with fail
        obtain ⟨⟨n1, n2, n3⟩, i', j', h', t'', hk', hc⟩ := knot_any HT.out HS'.out.2 HMb.out.bb
        refine hc.mono ?_
        clear hc
        rintro e wc ⟨rfl, bc⟩
        have HMc := Lib.hid (HMb.out.keep bc)
        have HK' := Lib.hid hk'
        clear HMb bc hk'
        have k0 := HMc.out.bk.get 0 rfl
        have k1 := HMc.out.bk.get 1 rfl
        have k2 := HMc.out.bk.get 2 rfl
        have k3 := HMc.out.bk.get 3 rfl
        have k4 := HMc.out.bk.get 4 rfl
        have k5 := HMc.out.bk.get 5 rfl
        have k6 := HMc.out.bk.get 6 rfl
        have z0 := HMc.out.bk.f 0
        have z1 := HMc.out.bk.f 1
        have z2 := HMc.out.bk.f 2
        have z3 := HMc.out.bk.f 3
        have z4 := HMc.out.bk.f 4
        have z5 := HMc.out.bk.f 5
        have z6 := HMc.out.bk.f 6
        have HMd := Lib.hid (HMc.out.knot (n1, n2, n3) i' j' h' t'')
        dsimp only at HMd k0 k1 k2
        clear HMc
        go_wp2_with fail
        go_roundg s'.height
        case measure => rw [HKK.out]; exact HS'.out.1
        case rel => exact ⟨s', f, (n1, n2, n3), i', j', h', t'', by rw [HSM.out], rfl, Lib.hid rfl, HDN, Lib.hid HS'.out.2, HK', HMd⟩
end Go.Proofs.YtonfjjmgjgmanaaGreat
namespace Go.Proofs.YtonfjjmgjgmanaaGreat
set_option maxRecDepth 8000
open Go.RowKit Corr
set_option linter.unusedVariables false
set_option linter.unusedSimpArgs false
set_option maxHeartbeats 2000000 in
theorem ilast_any (p : Value) (day : Int) (t : PT) (w : World) (T : TH p w t) : Calls Tryz.prog 36 #[p, .int .i64 day] w fun e w' => e = .returned (oneI (t.items.reverse.find? (fun y => decide (y.1 ≤ day)))) ∧ Below w.heap.size w w' := by
  have hD := (Blk.new w #[.int .i64 day] 3).alloc (.cells #[.int .i64 0, .int .i64 0, .int .i64 0] 87)
  have hR := Blk.new (w.alloc (.cells #[.int .i64 day] 3)) #[.int .i64 0, .int .i64 0, .int .i64 0] 87
  simp only [size_alloc] at hR
  have hB := Joins.below_alloc2 w (.cells #[.int .i64 day] 3) (.cells #[.int .i64 0, .int .i64 0, .int .i64 0] 87)
  have HC := Lib.hid (down_any p 50 w.heap.size (fun y => decide (y.1 ≤ day)) false t _ (T.later hB) (lastLook _ day _ hD))
  rw [idn_last T.up, Option.or_none] at HC
  obtain ⟨o, ho⟩ : ∃ o, t.items.reverse.find? (fun y => decide (y.1 ≤ day)) = o := ⟨_, rfl⟩
  rw [ho] at HC ⊢
  have HR := Lib.hid hR
  have HB := Lib.hid hB
  clear hD hR hB ho T
  obtain ⟨⟨y1, y2, y3⟩, hy⟩ : ∃ y, o.getD (0, 0, 0) = y := ⟨_, rfl⟩
  obtain ⟨sm, hsm⟩ : ∃ b, o.isSome = b := ⟨_, rfl⟩
  unfold oneI at HC ⊢
  rw [hy, hsm] at HC ⊢
  clear hy hsm
  have HLO := Lib.hid (show w.heap.size ≤ w.heap.size + 1 by omega)
  go_enter Tryz.func36, Tryz.ntmps36
  go_wp2_with fail
  generalize (w.alloc (.cells #[.int .i64 day] 3)).alloc (.cells #[.int .i64 0, .int .i64 0, .int .i64 0] 87) = wq at *
  refine HC.out.mono ?_
  rintro e w1 ⟨rfl, b1⟩
  have HR1 := Lib.hid (HR.out.keep b1)
  have HB1 := Lib.hid (HB.out.trans (b1.mono HB.out.size))
  clear HR HB b1 HC
  generalize w.heap.size + 1 = hr at *
  have c0 := HR1.out.get 0 rfl
  have c1 := HR1.out.get 1 rfl
  have c2 := HR1.out.get 2 rfl
  have z0 := HR1.out.f 0
  have z1 := HR1.out.f 1
  have z2 := HR1.out.f 2
  have HR2 := Lib.hid (((HR1.out.set 0 (.int .i64 y1)).set 1 (.int .i64 y2)).set 2 (.int .i64 y3))
  have HB2 := Lib.hid (below_set (below_set (below_set HB1.out HLO.out 0 (.int .i64 y1)) HLO.out 1 (.int .i64 y2)) HLO.out 2 (.int .i64 y3))
  go_wp2_with fail
  have r0 := HR2.out.get 0 (v := .int .i64 y1) rfl
  have r1 := HR2.out.get 1 (v := .int .i64 y2) rfl
  have r2 := HR2.out.get 2 (v := .int .i64 y3) rfl
  refine bodyPost_ret (v := .tuple #[.agg #[.int .i64 y1, .int .i64 y2, .int .i64 y3], .bool sm]) (by simp [results, Tryz.results36, go_sem, r0, r1, r2]) rfl ⟨rfl, HB2.out⟩
end Go.Proofs.YtonfjjmgjgmanaaGreat
namespace Corr
set_option maxRecDepth 8000
open Go Go.RowKit
def plN : PT → Nat
  | .nil => 0
  | .node _ q _ _ => q
theorem PlM.c28 {w : World} {g : Nat} {l : List Nat} (h : PlM w g l) : w.cell? ⟨g, 28, none⟩ = some (.int .i64 (l.length : Int)) := by
  obtain ⟨vs, B, V⟩ := h
  exact B.get 28 V.cnt
/-- What next has made: the item's block, the answer's, the way's. -/
structure NxM (w wr : World) (hx hr hw : Nat) (x : It) (l : List Nat) : Prop where
  bx : Blk wr hx #[.int .i64 x.1, .int .i64 x.2.1, .int .i64 x.2.2]
  br : Blk wr hr #[.int .i64 0, .int .i64 0, .int .i64 0]
  bw : PlM wr hw l
  bb : Below w.heap.size w wr
  lo : w.heap.size ≤ hx ∧ w.heap.size ≤ hr ∧ w.heap.size ≤ hw
  ne : hx ≠ hw ∧ hr ≠ hw
theorem NxM.keep {w wr w' : World} {hx hr hw : Nat} {x : It} {l : List Nat} (h : NxM w wr hx hr hw x l) (hb : Below wr.heap.size wr w') : NxM w w' hx hr hw x l := ⟨h.bx.keep hb, h.br.keep hb, h.bw.keep hb, h.bb.trans (hb.mono h.bb.size), h.lo, h.ne⟩
theorem NxM.way {w wr w' : World} {hx hr hw : Nat} {x : It} {l l' : List Nat} (h : NxM w wr hx hr hw x l) (hw' : PlM w' hw l') (ho : Off (· = hw) wr w') : NxM w w' hx hr hw x l' := ⟨ho.blk h.bx h.ne.1, ho.blk h.br h.ne.2, hw', h.bb.trans (ho.below h.bb.size (fun k e => by rw [e]; exact h.lo.2.2)), h.lo, h.ne⟩
end Corr
namespace Go.Proofs.YtonfjjmgjgmanaaGreat
set_option maxRecDepth 8000
open Go.RowKit Corr
set_option linter.unusedVariables false
set_option linter.unusedSimpArgs false
/-- A closure that tells whether a day is early. -/
def EarlyP (fe ge : Nat) (E : Int → Bool) (w : World) : Prop :=
  ge < w.heap.size ∧ (∀ args w, (callFunc fe args).run Tryz.prog w = .ok (.enter fe args) w) ∧ ∀ w1, w1.heap[ge]? = w.heap[ge]? → ∀ d : Int, Calls Tryz.prog fe #[.int .i64 d, .pointer (some ⟨ge, 0, none⟩)] w1 fun e w2 => e = .returned (.bool (E d)) ∧ Below w1.heap.size w1 w2
theorem EarlyP.later {fe ge : Nat} {E : Int → Bool} {w w' : World} (h : EarlyP fe ge E w) (hb : w'.heap[ge]? = w.heap[ge]?) (hs : w.heap.size ≤ w'.heap.size) : EarlyP fe ge E w' :=
  ⟨Nat.lt_of_lt_of_le h.1 hs, h.2.1, fun w1 h1 => h.2.2 w1 (h1.trans hb)⟩
set_option maxHeartbeats 8000000 in
theorem next_any (p : Value) (x : It) (low : Int) (fe ge : Nat) (E : Int → Bool) (hE : ∀ i j, i ≤ j → E j = true → E i = true) (t : PT) (w : World) (T : TH p w t) (L : EarlyP fe ge E w) : Calls Tryz.prog 67 #[p, itV x, .int .i64 low, .func (.func fe) #[] #[.pointer (some ⟨ge, 0, none⟩)]] w fun e w' => e = .returned (oneI (nextI x low E t.items)) ∧ Below w.heap.size w w' := by
  obtain ⟨res, hres⟩ : ∃ r, nextI x low E t.items = r := ⟨_, rfl⟩
  rw [hres]
  have HN0 := Lib.hid (NxI.start (x := x) (low := low) (E := E) T.up)
  rw [hres] at HN0
  have HOR := Lib.hid (fun (y : It) (w : World) => iorder_any x y w)
  have HOS := Lib.hid (fun (y : It) => (ordI_neg (x := x) (y := y)))
  have HE := Lib.hid hE
  have HT := Lib.hid T
  have HL := Lib.hid L
  have hcf := L.2.1
  clear T L hres hE
  obtain ⟨x1, x2, x3⟩ := x
  have HX := ((Blk.new w #[.int .i64 x1, .int .i64 x2, .int .i64 x3] 87).alloc (.cells #[.int .i64 0, .int .i64 0, .int .i64 0] 87)).alloc (.cells zeroPl 157)
  have HR := (Blk.new (w.alloc (.cells #[.int .i64 x1, .int .i64 x2, .int .i64 x3] 87)) #[.int .i64 0, .int .i64 0, .int .i64 0] 87).alloc (.cells zeroPl 157)
  have HW := Blk.new ((w.alloc (.cells #[.int .i64 x1, .int .i64 x2, .int .i64 x3] 87)).alloc (.cells #[.int .i64 0, .int .i64 0, .int .i64 0] 87)) zeroPl 157
  have HB := Joins.below_alloc3 w (.cells #[.int .i64 x1, .int .i64 x2, .int .i64 x3] 87) (.cells #[.int .i64 0, .int .i64 0, .int .i64 0] 87) (.cells zeroPl 157)
  simp only [size_alloc] at HX HR HW
  have HM := Lib.hid (show NxM w _ w.heap.size (w.heap.size + 1) (w.heap.size + 1 + 1) (x1, x2, x3) [] from ⟨HX, HR, ⟨_, HW, PlV.zero⟩, HB, ⟨by omega, by omega, by omega⟩, ⟨by omega, by omega⟩⟩)
  clear HX HR HW HB
  go_enter Tryz.func67, Tryz.ntmps67
  go_upto_region 2 with fail
  change Code.wp Tryz.prog _ _ _ (((w.alloc (.cells #[.int .i64 x1, .int .i64 x2, .int .i64 x3] 87)).alloc (.cells #[.int .i64 0, .int .i64 0, .int .i64 0] 87)).alloc (.cells zeroPl 157))
  generalize ((w.alloc (.cells #[.int .i64 x1, .int .i64 x2, .int .i64 x3] 87)).alloc (.cells #[.int .i64 0, .int .i64 0, .int .i64 0] 87)).alloc (.cells zeroPl 157) = wq at *
  generalize w.heap.size + 1 + 1 = hw at *
  generalize w.heap.size + 1 = hr at *
  generalize hhx : w.heap.size = hx at HM ⊢
  clear hhx
  go_wp2_with fail
  refine (HT.out.root _ HM.out.bb).mono ?_
  rintro e w1 ⟨rfl, b1⟩
  have HM1 := Lib.hid (HM.out.keep b1)
  clear b1 HM
  go_wp2_with fail
  go_loopg [11] (msI t []) (fun k z wr => ∃ (s : PT) (st : List PT), z = .int .i64 s.root ∧ Hid (k = msI s st) ∧ Hid (NxI (x1, x2, x3) low E t.height s st res) ∧ Hid (NodeOk p w s) ∧ Hid (∀ u ∈ st, NodeOk p w u) ∧ Hid (NxM w wr hx hr hw (x1, x2, x3) (st.map plN).reverse))
  case atStart => exact ⟨t, [], rfl, Lib.hid rfl, HN0, Lib.hid HT.out.node, Lib.hid (fun _ h => absurd h List.not_mem_nil), HM1⟩
  case round =>
    clear HN0 HM1
    obtain ⟨s, st, rfl, HKK, HN, HNO, HST, HM⟩ := hrel
    obtain ⟨⟨y1, y2, y3⟩, i, j, h, tp, hk, hc⟩ := knot_any HT.out HNO.out HM.out.bb
    go_wp2_with fail
    refine hc.mono ?_
    clear hc
    rintro e w2 ⟨rfl, b2⟩
    have HM2 := Lib.hid (HM.out.keep (b2.trans ((Below.refl w2.heap.size w2).alloc (Nat.le_refl _) (.cells #[.int .i64 y1, .int .i64 y2, .int .i64 y3, .int .i64 i, .int .i64 j, .int .i64 h, .int .i64 tp] 103) |>.mono b2.size)))
    have hB := Blk.new w2 #[.int .i64 y1, .int .i64 y2, .int .i64 y3, .int .i64 i, .int .i64 j, .int .i64 h, .int .i64 tp] 103
    have HKB := Lib.hid hB
    have HKW := Lib.hid (show ¬ w2.heap.size = hw from by have := (HM.out.keep b2).bw.sz; omega)
    have k0 := hB.get 0 rfl
    have k1 := hB.get 1 rfl
    have k2 := hB.get 2 rfl
    have k3 := hB.get 3 rfl
    have k4 := hB.get 4 rfl
    have k6 := hB.get 6 rfl
    clear hB b2 HM
    go_upto_region 4 with fail
    generalize w2.alloc (.cells #[.int .i64 y1, .int .i64 y2, .int .i64 y3, .int .i64 i, .int .i64 j, .int .i64 h, .int .i64 tp] 103) = w3 at *
    generalize w2.heap.size = hk' at *
    cases s with
    | nil =>
      have e1 : isN PT.nil = false := rfl
      rw [e1]
      clear e1
      have HSL := Lib.hid (show ∀ y ∈ PT.nil.items, y.2.1 ≤ low from fun _ h => absurd h List.not_mem_nil)
      clear k0 k1 k2 k3 k4 HKB
      cases st with
      | nil =>
        have HRN := Lib.hid (HN.out.over HSL.out)
        have n0 : w3.cell? ⟨hw, 28, none⟩ = some (.int .i64 0) := HM2.out.bw.c28
        have c0 := HM2.out.br.get 0 rfl
        have c1 := HM2.out.br.get 1 rfl
        have c2 := HM2.out.br.get 2 rfl
        have z0 := HM2.out.br.f 0
        have z1 := HM2.out.br.f 1
        have z2 := HM2.out.br.f 2
        have HR2 := Lib.hid (((HM2.out.br.set 0 (.int .i64 0)).set 1 (.int .i64 0)).set 2 (.int .i64 0))
        have HB2 := Lib.hid (below_set (below_set (below_set HM2.out.bb HM2.out.lo.2.1 0 (.int .i64 0)) HM2.out.lo.2.1 1 (.int .i64 0)) HM2.out.lo.2.1 2 (.int .i64 0))
        go_wp2_with fail
        have r0 := HR2.out.get 0 (v := .int .i64 0) rfl
        have r1 := HR2.out.get 1 (v := .int .i64 0) rfl
        have r2 := HR2.out.get 2 (v := .int .i64 0) rfl
        refine bodyPost_ret (v := .tuple #[.agg #[.int .i64 0, .int .i64 0, .int .i64 0], .bool false]) (by simp [results, Tryz.results67, go_sem, r0, r1, r2]) rfl ⟨by rw [HRN.out]; rfl, HB2.out⟩
      | cons u st' =>
        obtain ⟨a', q', ⟨v1, v2, v3⟩, b', rfl, _⟩ := HN.out.gt u List.mem_cons_self
        have HNU := Lib.hid (HST.out (PT.node a' q' (v1, v2, v3) b') List.mem_cons_self)
        obtain ⟨zc, hzc⟩ : ∃ z : Int, (((((PT.node a' q' (v1, v2, v3) b') :: st').map plN).reverse.length : Nat) : Int) = z := ⟨_, rfl⟩
        have n0 := HM2.out.bw.c28
        rw [hzc] at n0
        have e2 : (zc == 0) = false := by rw [← hzc]; simp; omega
        clear hzc
        have hpop := ipop_any hw (st'.map plN).reverse q' w3 (by have := HM2.out.bw; simpa [plN] using this)
        go_wp2_with fail
        refine hpop.mono ?_
        clear hpop
        rintro e w4 ⟨rfl, hpl, hof⟩
        have HM4 := Lib.hid (HM2.out.way hpl hof)
        clear hpl hof n0 HM2 k6
        go_wp2_with fail
        obtain ⟨tq, htq⟩ : ∃ z, topL (PT.node a' q' (v1, v2, v3) b').items = z := ⟨_, rfl⟩
        obtain ⟨hq, hhq⟩ : ∃ z, ((PT.node a' q' (v1, v2, v3) b').height : Int) = z := ⟨_, rfl⟩
        have HCN := Lib.hid (HNU.out.1 w4 HM4.out.bb)
        rw [htq, hhq] at HCN
        clear htq hhq
        refine HCN.out.mono ?_
        clear HCN
        rintro e w5 ⟨rfl, b5⟩
        have HM6 := Lib.hid (HM4.out.keep (b5.trans ((Below.refl w5.heap.size w5).alloc (Nat.le_refl _) (.cells #[.int .i64 v1, .int .i64 v2, .int .i64 v3, .int .i64 a'.root, .int .i64 b'.root, .int .i64 hq, .int .i64 tq] 103) |>.mono b5.size)))
        have hB := Blk.new w5 #[.int .i64 v1, .int .i64 v2, .int .i64 v3, .int .i64 a'.root, .int .i64 b'.root, .int .i64 hq, .int .i64 tq] 103
        have HQB := Lib.hid hB
        have k0 := hB.get 0 rfl
        clear hB b5 HM4
        have HCE := Lib.hid (HL.out.2.2 _ (HM6.out.bb.block _ HL.out.1) v1)
        cases hev : E v1 with
        | false =>
          have HRN := Lib.hid (HN.out.late HSL.out HE.out hev)
          rw [hev] at HCE
          clear hev
          go_wp2_with fail
          refine HCE.out.mono ?_
          clear HCE
          rintro e w7 ⟨rfl, b7⟩
          have HM7 := Lib.hid (HM6.out.keep b7)
          clear b7 HM6 k0
          have c0 := HM7.out.br.get 0 rfl
          have c1 := HM7.out.br.get 1 rfl
          have c2 := HM7.out.br.get 2 rfl
          have z0 := HM7.out.br.f 0
          have z1 := HM7.out.br.f 1
          have z2 := HM7.out.br.f 2
          have HR2 := Lib.hid (((HM7.out.br.set 0 (.int .i64 0)).set 1 (.int .i64 0)).set 2 (.int .i64 0))
          have HB2 := Lib.hid (below_set (below_set (below_set HM7.out.bb HM7.out.lo.2.1 0 (.int .i64 0)) HM7.out.lo.2.1 1 (.int .i64 0)) HM7.out.lo.2.1 2 (.int .i64 0))
          go_wp2_with fail
          have r0 := HR2.out.get 0 (v := .int .i64 0) rfl
          have r1 := HR2.out.get 1 (v := .int .i64 0) rfl
          have r2 := HR2.out.get 2 (v := .int .i64 0) rfl
          refine bodyPost_ret (v := .tuple #[.agg #[.int .i64 0, .int .i64 0, .int .i64 0], .bool false]) (by simp [results, Tryz.results67, go_sem, r0, r1, r2]) rfl ⟨by rw [HRN.out]; rfl, HB2.out⟩
        | true =>
          have HEV := Lib.hid hev
          rw [hev] at HCE
          clear hev
          go_wp2_with fail
          refine HCE.out.mono ?_
          clear HCE
          rintro e w7 ⟨rfl, b7⟩
          have HM7 := Lib.hid (HM6.out.keep b7)
          have hQ := HQB.out.keep b7
          clear b7 HM6 k0 HQB
          have k0 := hQ.get 0 rfl
          have k1 := hQ.get 1 rfl
          have k2 := hQ.get 2 rfl
          have k4 := hQ.get 4 rfl
          clear hQ
          by_cases hto : low < v2
          · have d2 : decide (v2 > low) = true := decide_eq_true hto
            have HRN := Lib.hid (HN.out.here HSL.out HEV.out hto)
            clear hto
            have c0 := HM7.out.br.get 0 rfl
            have c1 := HM7.out.br.get 1 rfl
            have c2 := HM7.out.br.get 2 rfl
            have z0 := HM7.out.br.f 0
            have z1 := HM7.out.br.f 1
            have z2 := HM7.out.br.f 2
            have HR2 := Lib.hid (((HM7.out.br.set 0 (.int .i64 v1)).set 1 (.int .i64 v2)).set 2 (.int .i64 v3))
            have HB2 := Lib.hid (below_set (below_set (below_set HM7.out.bb HM7.out.lo.2.1 0 (.int .i64 v1)) HM7.out.lo.2.1 1 (.int .i64 v2)) HM7.out.lo.2.1 2 (.int .i64 v3))
            go_wp2_with fail
            have r0 := HR2.out.get 0 (v := .int .i64 v1) rfl
            have r1 := HR2.out.get 1 (v := .int .i64 v2) rfl
            have r2 := HR2.out.get 2 (v := .int .i64 v3) rfl
            refine bodyPost_ret (v := .tuple #[.agg #[.int .i64 v1, .int .i64 v2, .int .i64 v3], .bool true]) (by simp [results, Tryz.results67, go_sem, r0, r1, r2]) rfl ⟨by rw [HRN.out]; rfl, HB2.out⟩
          · have d2 : decide (v2 > low) = false := decide_eq_false hto
            have HNP := Lib.hid (HN.out.pop HSL.out (by show v2 ≤ low; omega))
            clear hto
            go_wp2_with fail
            go_roundg (msI b' st')
            case measure => rw [HKK.out]; exact ms_pop
            case rel => exact ⟨b', st', rfl, Lib.hid rfl, HNP, Lib.hid HNU.out.2.2, Lib.hid (fun u hu => HST.out u (List.mem_cons_of_mem _ hu)), HM7⟩
    | node a q z b =>
      obtain ⟨rfl, rfl, rfl, htp⟩ := hk
      have e1 : isN (PT.node a q (y1, y2, y3) b) = true := rfl
      rw [e1]
      clear e1
      by_cases hlt : low < tp
      · have d1 : decide (tp > low) = true := decide_eq_true hlt
        clear hlt htp
        have x0 := HM2.out.bx.get 0 rfl
        have x1' := HM2.out.bx.get 1 rfl
        have x2' := HM2.out.bx.get 2 rfl
        obtain ⟨o, ho⟩ : ∃ o, ordI (x1, x2, x3) (y1, y2, y3) = o := ⟨_, rfl⟩
        have HOC := Lib.hid (HOR.out (y1, y2, y3) w3)
        have HOZ := Lib.hid (HOS.out (y1, y2, y3))
        rw [ho] at HOC HOZ
        clear ho
        go_wp2_with fail
        refine HOC.out.mono ?_
        clear HOC
        rintro e w4 ⟨rfl, b4⟩
        have HM4 := Lib.hid (HM2.out.keep b4)
        have hK := HKB.out.keep b4
        clear k0 k1 k2 k3 k4 k6 x0 x1' x2' b4 HM2 HKB
        have HKB := Lib.hid hK
        by_cases hneg : o < 0
        · have d2 : decide (o < 0) = true := decide_eq_true hneg
          have HX := Lib.hid (HOZ.out.1 hneg)
          clear hneg hK
          have hpush := ipush_any hw (st.map plN).reverse q w4 HM4.out.bw (by have := HN.out.room HT.out.deep; simpa using this)
          go_wp2_with fail
          refine hpush.mono ?_
          clear hpush
          rintro e w5 ⟨rfl, hpl, hof⟩
          have HM5 := Lib.hid (HM4.out.way hpl hof)
          have k3 := (hof.blk HKB.out HKW.out).get 3 rfl
          go_wp2_with fail
          go_roundg (msI a (PT.node a q (y1, y2, y3) b :: st))
          case measure => rw [HKK.out]; exact ms_push
          case rel => exact ⟨a, PT.node a q (y1, y2, y3) b :: st, rfl, Lib.hid rfl, Lib.hid (HN.out.push HX.out), Lib.hid HNO.out.2.1, Lib.hid (fun u hu => by
            rcases List.mem_cons.1 hu with rfl | hu
            · exact HNO.out
            · exact HST.out u hu), by simpa [plN] using HM5⟩
        · have d2 : decide (o < 0) = false := decide_eq_false hneg
          have HX := Lib.hid (show lessB (x1, x2, x3) (y1, y2, y3) = false by
            cases e : lessB (x1, x2, x3) (y1, y2, y3) with
            | false => rfl
            | true => exact absurd (HOZ.out.2 e) hneg)
          clear hneg
          have k4 := hK.get 4 rfl
          clear hK
          go_wp2_with fail
          go_roundg (msI b st)
          case measure => rw [HKK.out]; exact ms_right
          case rel => exact ⟨b, st, rfl, Lib.hid rfl, Lib.hid (HN.out.right HX.out), Lib.hid HNO.out.2.2, HST, HM4⟩
      · have d1 : decide (tp > low) = false := decide_eq_false hlt
        have HTP := Lib.hid (show topL (PT.node a q (y1, y2, y3) b).items ≤ low by rw [← htp]; omega)
        clear hlt htp
        have HSL := Lib.hid (show ∀ y ∈ (PT.node a q (y1, y2, y3) b).items, y.2.1 ≤ low from fun y hy => Int.le_trans (topL_le hy) HTP.out)
        clear k0 k1 k2 k3 k4 HKB
        cases st with
        | nil =>
          have HRN := Lib.hid (HN.out.over HSL.out)
          have n0 : w3.cell? ⟨hw, 28, none⟩ = some (.int .i64 0) := HM2.out.bw.c28
          have c0 := HM2.out.br.get 0 rfl
          have c1 := HM2.out.br.get 1 rfl
          have c2 := HM2.out.br.get 2 rfl
          have z0 := HM2.out.br.f 0
          have z1 := HM2.out.br.f 1
          have z2 := HM2.out.br.f 2
          have HR2 := Lib.hid (((HM2.out.br.set 0 (.int .i64 0)).set 1 (.int .i64 0)).set 2 (.int .i64 0))
          have HB2 := Lib.hid (below_set (below_set (below_set HM2.out.bb HM2.out.lo.2.1 0 (.int .i64 0)) HM2.out.lo.2.1 1 (.int .i64 0)) HM2.out.lo.2.1 2 (.int .i64 0))
          go_wp2_with fail
          have r0 := HR2.out.get 0 (v := .int .i64 0) rfl
          have r1 := HR2.out.get 1 (v := .int .i64 0) rfl
          have r2 := HR2.out.get 2 (v := .int .i64 0) rfl
          refine bodyPost_ret (v := .tuple #[.agg #[.int .i64 0, .int .i64 0, .int .i64 0], .bool false]) (by simp [results, Tryz.results67, go_sem, r0, r1, r2]) rfl ⟨by rw [HRN.out]; rfl, HB2.out⟩
        | cons u st' =>
          obtain ⟨a', q', ⟨v1, v2, v3⟩, b', rfl, _⟩ := HN.out.gt u List.mem_cons_self
          have HNU := Lib.hid (HST.out (PT.node a' q' (v1, v2, v3) b') List.mem_cons_self)
          obtain ⟨zc, hzc⟩ : ∃ z : Int, (((((PT.node a' q' (v1, v2, v3) b') :: st').map plN).reverse.length : Nat) : Int) = z := ⟨_, rfl⟩
          have n0 := HM2.out.bw.c28
          rw [hzc] at n0
          have e2 : (zc == 0) = false := by rw [← hzc]; simp; omega
          clear hzc
          have hpop := ipop_any hw (st'.map plN).reverse q' w3 (by have := HM2.out.bw; simpa [plN] using this)
          go_wp2_with fail
          refine hpop.mono ?_
          clear hpop
          rintro e w4 ⟨rfl, hpl, hof⟩
          have HM4 := Lib.hid (HM2.out.way hpl hof)
          clear hpl hof n0 HM2 k6
          go_wp2_with fail
          obtain ⟨tq, htq⟩ : ∃ z, topL (PT.node a' q' (v1, v2, v3) b').items = z := ⟨_, rfl⟩
          obtain ⟨hq, hhq⟩ : ∃ z, ((PT.node a' q' (v1, v2, v3) b').height : Int) = z := ⟨_, rfl⟩
          have HCN := Lib.hid (HNU.out.1 w4 HM4.out.bb)
          rw [htq, hhq] at HCN
          clear htq hhq
          refine HCN.out.mono ?_
          clear HCN
          rintro e w5 ⟨rfl, b5⟩
          have HM6 := Lib.hid (HM4.out.keep (b5.trans ((Below.refl w5.heap.size w5).alloc (Nat.le_refl _) (.cells #[.int .i64 v1, .int .i64 v2, .int .i64 v3, .int .i64 a'.root, .int .i64 b'.root, .int .i64 hq, .int .i64 tq] 103) |>.mono b5.size)))
          have hB := Blk.new w5 #[.int .i64 v1, .int .i64 v2, .int .i64 v3, .int .i64 a'.root, .int .i64 b'.root, .int .i64 hq, .int .i64 tq] 103
          have HQB := Lib.hid hB
          have k0 := hB.get 0 rfl
          clear hB b5 HM4
          have HCE := Lib.hid (HL.out.2.2 _ (HM6.out.bb.block _ HL.out.1) v1)
          cases hev : E v1 with
          | false =>
            have HRN := Lib.hid (HN.out.late HSL.out HE.out hev)
            rw [hev] at HCE
            clear hev
            go_wp2_with fail
            refine HCE.out.mono ?_
            clear HCE
            rintro e w7 ⟨rfl, b7⟩
            have HM7 := Lib.hid (HM6.out.keep b7)
            clear b7 HM6 k0
            have c0 := HM7.out.br.get 0 rfl
            have c1 := HM7.out.br.get 1 rfl
            have c2 := HM7.out.br.get 2 rfl
            have z0 := HM7.out.br.f 0
            have z1 := HM7.out.br.f 1
            have z2 := HM7.out.br.f 2
            have HR2 := Lib.hid (((HM7.out.br.set 0 (.int .i64 0)).set 1 (.int .i64 0)).set 2 (.int .i64 0))
            have HB2 := Lib.hid (below_set (below_set (below_set HM7.out.bb HM7.out.lo.2.1 0 (.int .i64 0)) HM7.out.lo.2.1 1 (.int .i64 0)) HM7.out.lo.2.1 2 (.int .i64 0))
            go_wp2_with fail
            have r0 := HR2.out.get 0 (v := .int .i64 0) rfl
            have r1 := HR2.out.get 1 (v := .int .i64 0) rfl
            have r2 := HR2.out.get 2 (v := .int .i64 0) rfl
            refine bodyPost_ret (v := .tuple #[.agg #[.int .i64 0, .int .i64 0, .int .i64 0], .bool false]) (by simp [results, Tryz.results67, go_sem, r0, r1, r2]) rfl ⟨by rw [HRN.out]; rfl, HB2.out⟩
          | true =>
            have HEV := Lib.hid hev
            rw [hev] at HCE
            clear hev
            go_wp2_with fail
            refine HCE.out.mono ?_
            clear HCE
            rintro e w7 ⟨rfl, b7⟩
            have HM7 := Lib.hid (HM6.out.keep b7)
            have hQ := HQB.out.keep b7
            clear b7 HM6 k0 HQB
            have k0 := hQ.get 0 rfl
            have k1 := hQ.get 1 rfl
            have k2 := hQ.get 2 rfl
            have k4 := hQ.get 4 rfl
            clear hQ
            by_cases hto : low < v2
            · have d2 : decide (v2 > low) = true := decide_eq_true hto
              have HRN := Lib.hid (HN.out.here HSL.out HEV.out hto)
              clear hto
              have c0 := HM7.out.br.get 0 rfl
              have c1 := HM7.out.br.get 1 rfl
              have c2 := HM7.out.br.get 2 rfl
              have z0 := HM7.out.br.f 0
              have z1 := HM7.out.br.f 1
              have z2 := HM7.out.br.f 2
              have HR2 := Lib.hid (((HM7.out.br.set 0 (.int .i64 v1)).set 1 (.int .i64 v2)).set 2 (.int .i64 v3))
              have HB2 := Lib.hid (below_set (below_set (below_set HM7.out.bb HM7.out.lo.2.1 0 (.int .i64 v1)) HM7.out.lo.2.1 1 (.int .i64 v2)) HM7.out.lo.2.1 2 (.int .i64 v3))
              go_wp2_with fail
              have r0 := HR2.out.get 0 (v := .int .i64 v1) rfl
              have r1 := HR2.out.get 1 (v := .int .i64 v2) rfl
              have r2 := HR2.out.get 2 (v := .int .i64 v3) rfl
              refine bodyPost_ret (v := .tuple #[.agg #[.int .i64 v1, .int .i64 v2, .int .i64 v3], .bool true]) (by simp [results, Tryz.results67, go_sem, r0, r1, r2]) rfl ⟨by rw [HRN.out]; rfl, HB2.out⟩
            · have d2 : decide (v2 > low) = false := decide_eq_false hto
              have HNP := Lib.hid (HN.out.pop HSL.out (by show v2 ≤ low; omega))
              clear hto
              go_wp2_with fail
              go_roundg (msI b' st')
              case measure => rw [HKK.out]; exact ms_pop
              case rel => exact ⟨b', st', rfl, Lib.hid rfl, HNP, Lib.hid HNU.out.2.2, Lib.hid (fun u hu => HST.out u (List.mem_cons_of_mem _ hu)), HM7⟩
end Go.Proofs.YtonfjjmgjgmanaaGreat

/- A tree as package itree asks it: its root, its knots, by their contracts. -/
import Derived.Test.YtolmkagedlcjiaaAk17
import Derived.Test.YtolmkagedlcjiaaItWay
namespace Go.Proofs.Ytolmkagedlcjiaa
set_option maxRecDepth 8000
open Go.RowKit Corr
set_option linter.unusedVariables false
set_option linter.unusedSimpArgs false
abbrev knot0 : Value := .agg #[.int .i64 0, .int .i64 0, .int .i64 0, .int .i64 0, .int .i64 0, .int .i64 0, .int .i64 0]
set_option maxHeartbeats 4000000 in
theorem node_none (gT g n c : Nat) (M : Int) (A : Option Addr) (K : KnL) (t : PT) (l : ItL) (w : World) (H : TreeR 59 w gT g n c M A K t l) : Calls Try.prog 34 #[.pointer (some ⟨gT, 0, none⟩), .int .i64 (-1)] w fun e w' => e = .returned (.tuple #[knot0, .bool false]) ∧ Below w.heap.size w w' := by
  have HX := Lib.hid (Blk.new w #[.int .i64 0, .int .i64 0, .int .i64 0, .int .i64 0, .int .i64 0, .int .i64 0, .int .i64 0] 59)
  have HB := Lib.hid (show Ext w _ from (Below.refl _ w).alloc (Nat.le_refl _) (.cells #[.int .i64 0, .int .i64 0, .int .i64 0, .int .i64 0, .int .i64 0, .int .i64 0, .int .i64 0] 59))
  have HT := Lib.hid (H.keep HB.out)
  have HN := Lib.hid (nodes_any gT g _ HT.out.tp)
  clear H
  go_enter Try.func34, Try.ntmps34
  go_wp2_with fail
  generalize w.alloc (.cells #[.int .i64 0, .int .i64 0, .int .i64 0, .int .i64 0, .int .i64 0, .int .i64 0, .int .i64 0] 59) = wq at *
  generalize hhx : w.heap.size = hx at HX ⊢
  have HLO := Lib.hid (Nat.le_of_eq hhx)
  clear hhx
  refine HN.out.mono ?_
  rintro e w1 ⟨rfl, rfl⟩
  have a2 := HT.out.ar.b.get 2 rfl
  have x0 := HX.out.get 0 rfl
  have x1 := HX.out.get 1 rfl
  have x2 := HX.out.get 2 rfl
  have x3 := HX.out.get 3 rfl
  have x4 := HX.out.get 4 rfl
  have x5 := HX.out.get 5 rfl
  have x6 := HX.out.get 6 rfl
  have f0 := HX.out.f 0
  have f1 := HX.out.f 1
  have f2 := HX.out.f 2
  have f3 := HX.out.f 3
  have f4 := HX.out.f 4
  have f5 := HX.out.f 5
  have f6 := HX.out.f 6
  have HF := Lib.hid ((((((((Off.of (F := fun _ => False) HB.out).put ⟨hx, 0, none⟩ (.inr HLO.out) (.int .i64 0)).put ⟨hx, 1, none⟩ (.inr HLO.out) (.int .i64 0)).put ⟨hx, 2, none⟩ (.inr HLO.out) (.int .i64 0)).put ⟨hx, 3, none⟩ (.inr HLO.out) (.int .i64 0)).put ⟨hx, 4, none⟩ (.inr HLO.out) (.int .i64 0)).put ⟨hx, 5, none⟩ (.inr HLO.out) (.int .i64 0)).put ⟨hx, 6, none⟩ (.inr HLO.out) (.int .i64 0))
  have HX2 := Lib.hid (((((((HX.out.set 0 (.int .i64 0)).set 1 (.int .i64 0)).set 2 (.int .i64 0)).set 3 (.int .i64 0)).set 4 (.int .i64 0)).set 5 (.int .i64 0)).set 6 (.int .i64 0))
  go_wp2_with fail
  have r0 := HX2.out.get 0 (v := .int .i64 0) rfl
  have r1 := HX2.out.get 1 (v := .int .i64 0) rfl
  have r2 := HX2.out.get 2 (v := .int .i64 0) rfl
  have r3 := HX2.out.get 3 (v := .int .i64 0) rfl
  have r4 := HX2.out.get 4 (v := .int .i64 0) rfl
  have r5 := HX2.out.get 5 (v := .int .i64 0) rfl
  have r6 := HX2.out.get 6 (v := .int .i64 0) rfl
  refine bodyPost_ret (v := .tuple #[knot0, .bool false]) (by simp [results, Try.results34, go_sem, r0, r1, r2, r3, r4, r5, r6]) rfl ⟨rfl, HF.out.below (Nat.le_refl _) (fun k e => e.elim)⟩
/-- What is told of each node of a tree. -/
def NodeOk (p : Value) (w : World) : PT → Prop
  | .nil => True
  | .node a q y b => (∀ w1, Below w.heap.size w w1 → Calls Try.prog 34 #[p, .int .i64 (q : Int)] w1 fun e w2 => e = .returned (.tuple #[knotV y a.root b.root ((PT.node a q y b).height : Int) (topL (PT.node a q y b).items), .bool true]) ∧ Below w1.heap.size w1 w2) ∧ NodeOk p w a ∧ NodeOk p w b
theorem NodeOk.later {p : Value} {w w' : World} (hb : Below w.heap.size w w') : ∀ {t : PT}, NodeOk p w t → NodeOk p w' t
  | .nil, _ => trivial
  | .node a q y b, ⟨h1, h2, h3⟩ => ⟨fun w1 h => h1 w1 (hb.trans (h.mono hb.size)), h2.later hb, h3.later hb⟩
/-- A tree, as it is asked. -/
structure TH (p : Value) (w : World) (t : PT) : Prop where
  root : ∀ w1, Below w.heap.size w w1 → Calls Try.prog 35 #[p] w1 fun e w2 => e = .returned (.int .i64 t.root) ∧ Below w1.heap.size w1 w2
  out : ∀ w1, Below w.heap.size w w1 → Calls Try.prog 34 #[p, .int .i64 (-1)] w1 fun e w2 => e = .returned (.tuple #[knot0, .bool false]) ∧ Below w1.heap.size w1 w2
  node : NodeOk p w t
  up : srt t.items
  deep : t.height ≤ 28
theorem TH.later {p : Value} {w w' : World} {t : PT} (h : TH p w t) (hb : Below w.heap.size w w') : TH p w' t :=
  ⟨fun w1 h1 => h.root w1 (hb.trans (h1.mono hb.size)), fun w1 h1 => h.out w1 (hb.trans (h1.mono hb.size)), h.node.later hb, h.up, h.deep⟩
theorem nodeOk_of {gT g n c : Nat} {M : Int} {A : Option Addr} {K : KnL} {t : PT} {l : ItL} {w : World} (H : TreeR 59 w gT g n c M A K t l) (hn : n ≤ 2000) : ∀ {s : PT}, Rp K s → NodeOk (.pointer (some ⟨gT, 0, none⟩)) w s
  | .nil, _ => trivial
  | .node a q y b, ⟨h1, h2, h3⟩ => ⟨fun w1 hb => node_at gT g n c q M A K t l y _ _ _ _ w1 (H.keep hb) h1 hn, nodeOk_of H hn h2, nodeOk_of H hn h3⟩
theorem TH.of {gT g n c : Nat} {M : Int} {A : Option Addr} {K : KnL} {t : PT} {l : ItL} {w : World} (H : TreeR 59 w gT g n c M A K t l) (hl : l.length ≤ 1000) : TH (.pointer (some ⟨gT, 0, none⟩)) w t :=
  ⟨fun w1 hb => (root_any gT g n c M A K t l w1 (H.keep hb)).mono fun e w2 h => ⟨h.1, by rw [h.2]; exact Below.refl _ _⟩, fun w1 hb => node_none gT g n c M A K t l w1 (H.keep hb), nodeOk_of H (by have := H.num; omega) H.rp, by rw [H.it]; exact H.srt, by have := bal_le H.bal (by rw [H.it]; omega); omega⟩
theorem TH.nil {p : Value} {w : World} (h : NilA w p) : TH p w .nil :=
  ⟨fun w1 hb => (root_nil p w1 (h.keep hb)).mono fun e w2 h => ⟨h.1, h.2⟩, fun w1 hb => (node_nil p (-1) w1 (h.keep hb)).mono fun e w2 h => ⟨h.1, h.2⟩, trivial, List.Pairwise.nil, by simp [PT.height]⟩
end Go.Proofs.Ytolmkagedlcjiaa

/- One tree alone: what its calls leave; corrodylaw08.known. -/
import Derived.Test.YtmllikffflebmaaAvK
namespace Corr
set_option maxRecDepth 8000
open Go Go.RowKit
set_option linter.unusedVariables false
/-- A tree of a call's own, and blocks beside it. -/
def Solo (Rep : RepT) (w0 : World) (p : Value) (M : Int) (l : ItL) (os : List (Nat × Array Value)) (w : World) : Prop := ∃ F, Rep w p F M l ∧ (∀ k, F k → w0.heap.size ≤ k) ∧ Below w0.heap.size w0 w ∧ ∀ q ∈ os, Blk w q.1 q.2 ∧ ¬ F q.1
section
variable {Rep : RepT} {w0 w w' : World} {p : Value} {M : Int} {l l' : ItL} {os : List (Nat × Array Value)}
theorem Solo.bl (h : Solo Rep w0 p M l os w) : Below w0.heap.size w0 w := by obtain ⟨_, _, _, h, _⟩ := h; exact h
theorem Solo.b (h : Solo Rep w0 p M l os w) (i : Nat) {k : Nat} {vs : Array Value} (hi : os[i]? = some (k, vs)) : Blk w k vs := by
  obtain ⟨_, _, _, _, h⟩ := h; exact (h _ (List.mem_of_getElem? hi)).1
theorem Solo.keep (R : RepOk Rep) (h : Solo Rep w0 p M l os w) (hb : Below w.heap.size w w') : Solo Rep w0 p M l os w' := by
  obtain ⟨F, h1, h2, h3, h4⟩ := h
  exact ⟨F, R.keep h1 (Off.of (F := fun _ => False) hb) (fun _ _ e => e), h2, h3.trans (hb.mono h3.size), fun q hq => ⟨(h4 q hq).1.keep hb, (h4 q hq).2⟩⟩
theorem Solo.turn {F F' : Nat → Prop} (h2 : ∀ k, F k → w0.heap.size ≤ k) (h3 : Below w0.heap.size w0 w) (h4 : ∀ q ∈ os, Blk w q.1 q.2 ∧ ¬ F q.1) (hr : Rep w' p F' M l') (ho : Off F w w') (hF : ∀ k, F' k → F k ∨ w.heap.size ≤ k) : Solo Rep w0 p M l' os w' :=
  ⟨F', hr, fun k hk => by
    rcases hF k hk with h | h
    · exact h2 k h
    · exact Nat.le_trans h3.size h, h3.trans (ho.below h3.size h2), fun q hq => ⟨ho.blk (h4 q hq).1 (h4 q hq).2, fun e => by
    rcases hF _ e with h | h
    · exact (h4 q hq).2 h
    · have := (h4 q hq).1.sz; omega⟩⟩
theorem Solo.push (R : RepOk Rep) (h : Solo Rep w0 p M l os w) (vs : Array Value) (U : TypeId) : Solo Rep w0 p M l (os ++ [(w.heap.size, vs)]) (w.alloc (.cells vs U)) := by
  have hb := (Below.refl w.heap.size w).alloc (Nat.le_refl _) (.cells vs U)
  obtain ⟨F, h1, h2, h3, h4⟩ := h
  refine ⟨F, R.keep h1 (Off.of (F := fun _ => False) hb) (fun _ _ e => e), h2, h3.trans (hb.mono h3.size), fun q hq => ?_⟩
  rcases List.mem_append.1 hq with hq | hq
  · exact ⟨(h4 q hq).1.keep hb, (h4 q hq).2⟩
  · rcases List.mem_singleton.1 hq with rfl
    exact ⟨Blk.new w vs U, fun e => by have h5 := R.lt h1 _ e; exact absurd h5 (Nat.lt_irrefl _)⟩
theorem Solo.less (h : Solo Rep w0 p M l os w) {os' : List (Nat × Array Value)} (hs : ∀ q ∈ os', q ∈ os) : Solo Rep w0 p M l os' w := by
  obtain ⟨F, h1, h2, h3, h4⟩ := h
  exact ⟨F, h1, h2, h3, fun q hq => h4 q (hs q hq)⟩
end
end Corr
namespace Go.Proofs.Ytmllikffflebmaa
set_option maxRecDepth 8000
open Go.RowKit Corr
set_option linter.unusedVariables false
set_option linter.unusedSimpArgs false
theorem solo_make {Rep : RepT} (K : AvlK0 Rep) {w0 w : World} (hb : Below w0.heap.size w0 w) (M : Int) (h1 : 1 ≤ M) (h2 : M ≤ 1000000) : Calls Try.prog 7 #[.int .i64 M] w fun e w' => ∃ q : Addr, e = .returned (.tuple #[.pointer (some q), .int .i64 0]) ∧ Solo Rep w0 (.pointer (some q)) M [] [] w' := by
  refine (K.make M w h1 h2).mono fun e w' h => ?_
  obtain ⟨q, F, he, hr, b, hF⟩ := h
  exact ⟨q, he, F, hr, fun k hk => Nat.le_trans hb.size (hF k hk), hb.trans (b.mono hb.size), fun _ h => by cases h⟩
theorem solo_ins {Rep : RepT} (K : AvlK0 Rep) {w0 w : World} {p : Value} {M : Int} {l : ItL} {os : List (Nat × Array Value)} (h : Solo Rep w0 p M l os w) (hl : l.length ≤ 1000) (x : It) {r : Int} {l' : ItL} (hr : insR M x l = r) (hl' : insL M x l = l') : Calls Try.prog 8 #[p, itV x] w fun e w' => e = .returned (.int .i64 r) ∧ Solo Rep w0 p M l' os w' := by
  obtain ⟨F, h1, h2, h3, h4⟩ := h
  refine (K.insert w p F M l x h1 hl).mono fun e w' h => ?_
  obtain ⟨F', he, hr', ho, hF⟩ := h
  rw [hr] at he
  rw [hl'] at hr'
  exact ⟨he, Solo.turn h2 h3 h4 hr' ho hF⟩
theorem solo_del {Rep : RepT} (K : AvlK Rep) {w0 w : World} {p : Value} {M : Int} {l : ItL} {os : List (Nat × Array Value)} (h : Solo Rep w0 p M l os w) (hl : l.length ≤ 1000) (x : It) {r : Int} {l' : ItL} (hr : delR x l = r) (hl' : delL x l = l') : Calls Try.prog 10 #[p, itV x] w fun e w' => e = .returned (.int .i64 r) ∧ Solo Rep w0 p M l' os w' := by
  obtain ⟨F, h1, h2, h3, h4⟩ := h
  refine (K.delete w p F M l x h1 hl).mono fun e w' h => ?_
  obtain ⟨F', he, hr', ho, hF⟩ := h
  rw [hr] at he
  rw [hl'] at hr'
  exact ⟨he, Solo.turn h2 h3 h4 hr' ho hF⟩
theorem solo_len {Rep : RepT} (K : AvlK Rep) {w0 w : World} {p : Value} {M : Int} {l : ItL} {os : List (Nat × Array Value)} (h : Solo Rep w0 p M l os w) (hl : l.length ≤ 1000) {n : Int} (hn : (l.length : Int) = n) : Calls Try.prog 16 #[p] w fun e w' => e = .returned (.int .i64 n) ∧ Below w.heap.size w w' := by
  obtain ⟨F, h1, h2, h3, h4⟩ := h
  have := K.len w p F M l h1 hl
  rwa [hn] at this
/-- The node above all others. -/
theorem solo_root {Rep : RepT} (K : AvlK Rep) {w0 w : World} {p : Value} {M : Int} {l : ItL} {os : List (Nat × Array Value)} (h : Solo Rep w0 p M l os w) (hl : l.length ≤ 1000) {x : It} {r : ItL} (hx : l = x :: r) : ∃ (a : AT) (y : It) (b : AT) (z i j : Int), (AT.node a y b).items = l ∧ (AT.node a y b).bal ∧
    (Calls Try.prog 19 #[p] w fun e w' => e = .returned (.int .i64 z) ∧ Below w.heap.size w w') ∧
    ∀ w1, Below w.heap.size w w1 → Calls Try.prog 18 #[p, .int .i64 z] w1 fun e w' => e = .returned (.tuple #[knotV y i j ((AT.node a y b).height : Int) (topL l), .bool true]) ∧ Below w1.heap.size w1 w' := by
  obtain ⟨F, h1, h2, h3, h4⟩ := h
  exact K.root w p F M l h1 hl x r hx
set_option maxHeartbeats 4000000 in
theorem avknown_any {Rep : RepT} (K : AvlK Rep) (w : World) : Calls Try.prog 6 #[] w fun e w' => e = .returned (.bool true) ∧ Below w.heap.size w w' := by
  have HK := Lib.hid K
  clear K
  go_enter Try.func6, Try.ntmps6
  go_wp2_with fail
  refine (solo_make HK.out.toAvlK0 (Below.refl w.heap.size w) 3 (by decide) (by decide)).mono ?_
  rintro e w1 ⟨q, rfl, s1⟩
  have s1 := Lib.hid s1
  go_wp2_with fail
  refine (solo_ins HK.out.toAvlK0 s1.out (by decide) (1, 2, 0) (r := 0) (l' := [(1, 2, 0)]) (by decide) (by decide)).mono ?_
  rintro e w2 ⟨rfl, s2⟩
  have s2 := Lib.hid s2
  go_wp2_with fail
  refine (solo_ins HK.out.toAvlK0 s2.out (by decide) (2, 9, 0) (r := 0) (l' := [(1, 2, 0), (2, 9, 0)]) (by decide) (by decide)).mono ?_
  rintro e w3 ⟨rfl, s3⟩
  have s3 := Lib.hid s3
  go_wp2_with fail
  refine (solo_ins HK.out.toAvlK0 s3.out (by decide) (3, 4, 0) (r := 0) (l' := [(1, 2, 0), (2, 9, 0), (3, 4, 0)]) (by decide) (by decide)).mono ?_
  rintro e w4 ⟨rfl, s4⟩
  have s4 := Lib.hid s4
  go_wp2_with fail
  refine (solo_ins HK.out.toAvlK0 s4.out (by decide) (5, 6, 0) (r := 7) (l' := [(1, 2, 0), (2, 9, 0), (3, 4, 0)]) (by decide) (by decide)).mono ?_
  rintro e w5 ⟨rfl, s5⟩
  have s5 := Lib.hid s5
  go_wp2_with fail
  refine (solo_ins HK.out.toAvlK0 s5.out (by decide) (3, 4, 0) (r := 6) (l' := [(1, 2, 0), (2, 9, 0), (3, 4, 0)]) (by decide) (by decide)).mono ?_
  rintro e w6 ⟨rfl, s6⟩
  obtain ⟨a, y, b, z, i, j, ht, hbal, hroot, hnode⟩ := solo_root HK.out s6 (by decide) rfl
  obtain ⟨hh, x1, x2, x3, hs⟩ := AT.three (t := .node a y b) (by rw [ht]; rfl) hbal
  have hy : y = (2, 9, 0) := by
    have e := ht
    rw [hs] at e
    injection hs with e1 e2 e3
    simp [AT.items] at e
    rw [e2]; exact e.2.1
  rw [hh, hy, show topL [(1, 2, 0), (2, 9, 0), (3, 4, 0)] = 9 by decide] at hnode
  have HR := Lib.hid hroot
  have HN := Lib.hid hnode
  have s6 := Lib.hid s6
  clear s1 s2 s3 s4 s5 ht hbal hroot hnode hh hs hy
  go_wp2_with fail
  refine HR.out.mono ?_
  rintro e w7 ⟨rfl, b7⟩
  have HN7 := Lib.hid (HN.out w7 b7)
  have s7 := Lib.hid (s6.out.keep HK.out.toRepOk b7)
  clear b7 HN HR s6
  go_wp2_with fail
  refine HN7.out.mono ?_
  rintro e w8 ⟨rfl, b8⟩
  have s8 := Lib.hid (s7.out.keep HK.out.toRepOk b8)
  have s9 := Lib.hid (s8.out.push HK.out.toRepOk #[.int .i64 2, .int .i64 9, .int .i64 0, .int .i64 i, .int .i64 j, .int .i64 2, .int .i64 9] 48)
  clear b8 HN7 s7 s8
  go_wp2_with fail
  refine (solo_del HK.out s9.out (by decide) (2, 9, 0) (r := 0) (l' := [(1, 2, 0), (3, 4, 0)]) (by decide) (by decide)).mono ?_
  rintro e w10 ⟨rfl, s10⟩
  obtain ⟨a', y', b', z', i', j', ht, hbal, hroot, hnode⟩ := solo_root HK.out s10 (by decide) rfl
  have hh := AT.two (t := .node a' y' b') (by rw [ht]; rfl)
  rw [hh, show topL [(1, 2, 0), (3, 4, 0)] = 4 by decide] at hnode
  have HR := Lib.hid hroot
  have HN := Lib.hid hnode
  have s10 := Lib.hid s10
  obtain ⟨y1, y2, y3⟩ := y'
  clear s9 ht hbal hroot hnode hh
  go_wp2_with fail
  refine HR.out.mono ?_
  rintro e w11 ⟨rfl, b11⟩
  have HN11 := Lib.hid (HN.out w11 b11)
  have s11 := Lib.hid (s10.out.keep HK.out.toRepOk b11)
  clear b11 HN HR s10
  go_wp2_with fail
  refine HN11.out.mono ?_
  rintro e w12 ⟨rfl, b12⟩
  have s12 := Lib.hid ((s11.out.keep HK.out.toRepOk b12).push HK.out.toRepOk #[.int .i64 y1, .int .i64 y2, .int .i64 y3, .int .i64 i', .int .i64 j', .int .i64 2, .int .i64 4] 48)
  have B0 := s12.out.b 0 rfl
  have B1 := s12.out.b 1 rfl
  have x0 := B0.get 1 rfl; have x5 := B0.get 5 rfl; have x6 := B0.get 6 rfl
  have z5 := B1.get 5 rfl; have z6 := B1.get 6 rfl
  clear b12 HN11 s11 B0 B1
  go_wp2_with fail
  refine (solo_len HK.out s12.out (by decide) (n := 2) rfl).mono ?_
  rintro e w13 ⟨rfl, b13⟩
  have HB := Lib.hid ((s12.out.keep HK.out.toRepOk b13).bl)
  clear x0 x5 x6 z5 z6 b13 s12
  go_wp2_with fail
  go_ret
  exact ⟨rfl, HB.out⟩
end Go.Proofs.Ytmllikffflebmaa

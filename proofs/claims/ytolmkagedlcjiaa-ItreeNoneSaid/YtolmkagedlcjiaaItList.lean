/- A row of the caller's own that grows while an iterator is gone over. Contract of package itree: list. -/
import Derived.Test.YtolmkagedlcjiaaSeqOwn
import Derived.Test.YtolmkagedlcjiaaApp2
import Derived.Test.YtolmkagedlcjiaaItMath
namespace Corr
open Go Go.RowKit
set_option linter.unusedVariables false
theorem wpListIn_app2 {F : Fence} {nn : Nat} {P : Program} {ops : Array Oper} {rest : List Oper} {o : Oper} {a : Act} {w : World} {Q : Exit → Act → World → Prop} (hgd : o.guard = none) (s x : Operand) (t : TypeId)
    (ho : o.op = .call { callee := .builtin .append, args := #[s, x], argTypes := #[t, t] })
    {base n m c size bytes : Nat} {e : TypeId} {z v : Value} {xs : List Value} (ys : List Value) {ad : Addr} (E : Elem P t e z size bytes) (hs : a.eval s = v) (hown : w.ownsRow base e size v n xs)
    (hx : a.eval x = .slice (some ad) m c) (hl : ys.length = m * size) (hc : ∀ (j : Nat) (u : Value), ys[j]? = some u → w.cell? (ad.add j) = some u) (h1 : ∀ u ∈ ys, u.oneCell' = true)
    (hn : (n + m) * bytes ≤ 140737488355328) (hm : n + m ≤ maxLen) (hb : base ≤ w.heap.size)
    (h : ∀ v' w', w'.ownsRow base e size v' (n + m) (xs ++ ys) → w.grownBy w' v.ownBlock → (∀ k, v'.ownBlock = some k → v.ownBlock = some k ∨ w.heap.size ≤ k) → wpListIn F nn P ops Q rest (a.put o.dst v') w') : wpListIn F nn P ops Q (o :: rest) a w := by
  refine wpListIn_plain hgd fun K hK => ?_
  obtain ⟨v', w', hr, h2, h3, h4⟩ := run_app2 (ty := o.type) (c := c) E hown hl hc h1 hn hm hb
  unfold Oper.wpIn
  refine ⟨by simp [Oper.about, ho, resolve, Target.leads, Sem.run_pure], ?_⟩
  rw [Oper.semAt_plain F _ _ (by rw [ho]; intro c hc'; cases hc')]
  simp [execOp, ho, resolve, invoke, builtin, hs, hx, hr, Result.andThen]
  exact hK _ _ (h v' w' h2 h3 h4)
/-- A box that holds a row of its own, off the iterator's blocks. -/
def OwnI (tB tE : TypeId) (size g : Nat) (G : Nat → Prop) (n : Nat) (xs : List Value) (W : World) : Prop := ∃ v, Boxed W g tB v ∧ W.ownsRow g tE size v n xs ∧ ∀ k, v.ownBlock = some k → ¬ G k
/-- The iterator's blocks lie behind the box. -/
def SideI (w0 : World) (g : Nat) (G : Nat → Prop) (W : World) : Prop := Below g w0 W ∧ ∀ k, G k → g < k ∧ k < W.heap.size
section
variable {tB tE : TypeId} {size g n m : Nat} {G : Nat → Prop} {xs ys : List Value} {w0 W W' w1 : World} {v v' : Value} {tmp : Obj}
theorem SideI.grow (h : SideI w0 g G W) (hg : g < W.heap.size) (ho : Off G W W') : SideI w0 g (madeG G W W') W' :=
  ⟨h.1.trans (ho.below (Nat.le_of_lt hg) fun k hk => Nat.le_of_lt (h.2 k hk).1), fun k hk => by
    rcases hk with hk | hk
    · exact ⟨(h.2 k hk).1, Nat.lt_of_lt_of_le (h.2 k hk).2 ho.size⟩
    · exact ⟨by omega, hk.2⟩⟩
theorem OwnI.lt (h : OwnI tB tE size g G n xs W) : g < W.heap.size := by obtain ⟨v, h, _⟩ := h; exact h.lt
theorem OwnI.grow (h : OwnI tB tE size g G n xs W) (hG : ∀ k, G k → g < k) (ho : Off G W W') : OwnI tB tE size g (madeG G W W') n xs W' := by
  obtain ⟨v, h1, h2, h3⟩ := h
  refine ⟨v, ?_, ho.own h2 h3, fun k hk e => ?_⟩
  · exact (ho.block g h1.lt fun e => by have := hG g e; omega).trans h1
  · rcases e with e | e
    · exact h3 k hk e
    · have := own_lt h2 hk; omega
theorem ownI_obj {β : Type} (B : Nat) (n : β → Nat) (f : β → List Value) : AbObj B (fun s W => OwnI tB tE size g G (n s) (f s) W) := fun s W l o o' h _ _ hl hc =>
  (holdsRow_own g g tB tE size n f (fun _ v => ∀ k, v.ownBlock = some k → ¬ G k)) s W _ (some l) h (grownBy_putObj' W l o') fun r e => by cases e; exact ⟨o, hl, hc⟩
theorem sideI_obj {β : Type} (B : Nat) (hB : g ≤ B) : AbObj B (fun (_ : β) W => SideI w0 g G W) := fun s W l o o' h hl _ ho _ =>
  ⟨h.1.trans (below_putObj o' (by omega) ho), fun k hk => by rw [World.putObj_size]; exact h.2 k hk⟩
theorem OwnI.appended (hv : Boxed W g tB v) (hte : tB ≠ tE) (hr : W.ownsRow g tE size v n xs) (hG : ∀ k, v.ownBlock = some k → ¬ G k) (hS : ∀ k, G k → g < k ∧ k < W.heap.size)
    (hown : w1.ownsRow g tE size v' m ys) (hgrow : (W.alloc tmp).grownBy w1 v.ownBlock) (hnew : ∀ k, v'.ownBlock = some k → v.ownBlock = some k ∨ (W.alloc tmp).heap.size ≤ k) :
    Boxed w1 g tB v ∧ OwnI tB tE size g G m ys (w1.setCell ⟨g, 0, none⟩ v') ∧ KeepsOthers W (w1.setCell ⟨g, 0, none⟩ v') ∧ Below g W (w1.setCell ⟨g, 0, none⟩ v') ∧ (∀ k, G k → (w1.setCell ⟨g, 0, none⟩ v').heap[k]? = W.heap[k]?) ∧ (∀ k, G k → g < k ∧ k < (w1.setCell ⟨g, 0, none⟩ v').heap.size) := by
  obtain ⟨h1, h2, h3, h4, h5⟩ := hv.appended hte hr (Nat.le_of_lt hv.lt) (Nat.le_refl _) hown hgrow
  refine ⟨h1, ⟨v', h2, h3, fun k hk e => ?_⟩, h4, h5, fun k hk => ?_, fun k hk => ⟨(hS k hk).1, Nat.lt_of_lt_of_le (hS k hk).2 h5.size⟩⟩
  · rcases hnew k hk with h | h
    · exact hG k h e
    · have := (hS k e).2
      rw [size_alloc] at h; omega
  · have hlt := (hS k hk).2
    have hgk := (hS k hk).1
    refine (Below.heap_setCell _ _ _ k (by show k ≠ g; omega)).trans ((hgrow.block k (by rw [size_alloc]; omega) fun e => ?_).trans (Below.heap_alloc W tmp k hlt))
    exact hG k e.symm hk
end
end Corr
namespace Go.Proofs.Ytolmkagedlcjiaa
open Go.RowKit Corr
set_option linter.unusedVariables false
set_option linter.unusedSimpArgs false
attribute [local go_sem] Oper.semAt_some
set_option maxHeartbeats 4000000 in
theorem list_any (gf : Nat) (lb : Array Value) (L : ItL) (n₀ : Nat) (w : World) (hL : L.length ≤ 100000) (hn : n₀ ≤ w.heap.size) (enters : ∀ args w, (callFunc gf args).run Try.prog w = .ok (.enter gf args) w)
    (hseq : SeqOwn Try.prog gf lb (fun x : It => #[itV x]) n₀ (fun ys => ys = L) (fun pre => pre <+: L) L.length w) : Calls Try.prog 25 #[.func (.func gf) #[] lb] w (RetItm 30 w L) := by
  have hq := hseq.later ((Below.refl w.heap.size w).alloc (Nat.le_refl _) (.cells #[.slice none 0 0] 22))
  have HQ := Lib.hid hq
  clear hseq hq
  refine calls_of_wp_marks Try.func25 rfl ?_
  simp only [Try.ntmps25, List.size_toArray, List.length_cons, List.length_nil, Nat.reduceAdd, Nat.reduceSub, Array.replicate_succ, Array.replicate_zero, List.push_toArray, List.append_toArray, List.nil_append, List.cons_append]
  go_wp2_with fail
  obtain ⟨g, hg⟩ : ∃ g, w.heap.size = g := ⟨_, rfl⟩
  have hs9 : (w.alloc (.cells #[.slice none 0 0] 22)).heap.size = g + 1 := by simp [hg]
  refine wp_range_mid (fun D W => g + 1 ≤ D ∧ W.heap[D]? = some (.deferred (some [])) ∧ OwnI 22 30 3 g (fun _ => False) L.length (cells3 L) W ∧ Below g w W) ?loop ?rest
  case loop =>
    refine wp_rangeFunc_seq (gf := gf) (lb := lb) rfl enters (by rw [hs9]; omega) HQ.out (fun _ => rfl)
      (fun G pre W => OwnI 22 30 3 g G pre.length (cells3 pre) W ∧ SideI w g G W) (fun _ _ _ => False)
      (fun G pre W W' h ho => ⟨h.1.grow (fun k hk => (h.2.2 k hk).1) ho, h.2.grow h.1.lt ho⟩)
      (fun G s W l o o' h h1 h2 h3 h4 => ⟨ownI_obj _ (fun (pre : ItL) => pre.length) (fun pre => cells3 pre) s W l o o' h.1 h1 h2 h3 h4, sideI_obj (β := ItL) _ (by rw [hs9]; omega) s W l o o' h.2 h1 h2 h3 h4⟩)
      (fun _ _ _ _ _ _ h _ _ _ _ => h)
      ?start (fun x a' W => ∃ Bx : Nat, g < Bx ∧ Blk W Bx #[.int .i64 x.1, .int .i64 x.2.1, .int .i64 x.2.2] ∧ a' = { tmps := #[.func (.func gf) #[] lb, undef, .slice none 0 0, .pointer (some ⟨g, 0, none⟩), .pointer (some ⟨Bx, 0, none⟩), .func (.func gf) #[] lb, itV x, undef, undef, undef, undef, undef], defers := [] }) ?ax ?assign ?body ?done ?stop
    case start =>
      intro W hb
      rw [hs9] at hb
      have h0 : Boxed (w.alloc (.cells #[.slice none 0 0] 22)) g 22 (.slice none 0 0) := by rw [← hg]; exact Boxed.new w _ _
      refine ⟨⟨_, (hb.block g (by omega)).trans h0, World.ownsRow_nil _ _ _ _, fun k hk => by cases hk⟩, ?_, fun k hk => hk.elim⟩
      have h1 : Below g w (w.alloc (.cells #[.slice none 0 0] 22)) := by rw [← hg]; exact (Below.refl _ w).alloc (Nat.le_refl _) _
      exact h1.trans (hb.mono (by omega))
    case ax =>
      rintro x a' _ W l o o' ⟨Bx, h1, ⟨T, h2⟩, h3⟩ _ _ ho hc
      refine ⟨Bx, h1, ⟨T, (World.putObj_heap_other fun e => ?_).trans h2⟩, h3⟩
      subst e
      rw [h2] at ho; cases ho; cases hc
    case assign =>
      intro l' G pre y W K hsz hi hK
      obtain ⟨y1, y2, y3⟩ := y
      subst hg
      gi_wp2
      have hlt := hi.1.lt
      have ha : Below W.heap.size W (W.alloc (.cells #[.int .i64 y1, .int .i64 y2, .int .i64 y3] 30)) := (Below.refl _ W).alloc (Nat.le_refl _) _
      refine hK _ _ ((KeepsOthers.alloc _ _).from _) ⟨ha.mono (by omega), fun k hk => ha.block k (hi.2.2 k hk).2⟩ ⟨?_, hi.2.1.trans (ha.mono (by omega)), fun k hk => ⟨(hi.2.2 k hk).1, Nat.lt_of_lt_of_le (hi.2.2 k hk).2 ha.size⟩⟩ ⟨W.heap.size, hlt, Blk.new W _ _, rfl⟩
      obtain ⟨v, h1, h2, h3⟩ := hi.1
      exact ⟨v, h1.alloc _, h2.alloc _, h3⟩
    case body =>
      rintro l' G pre ⟨y1, y2, y3⟩ a' W hl hsz ⟨⟨v, hv, hr, hG⟩, hS⟩ ⟨Bx, hBx, hX, rfl⟩ hpn
      have hc := hv.cell
      have hf := hv.frozen
      have hlt := hv.lt
      have t0 := hX.c30; have t1 := hX.c31; have t2 := hX.c32
      obtain ⟨A', c', rfl, hlies⟩ := Lies.of_own hr hr.1
      gi_wp2_with (gi_at_builtin; refine wpListIn_app2 rfl _ _ 22 rfl [.int .i64 y1, .int .i64 y2, .int .i64 y3] (ad := ⟨W.heap.size, 0, none⟩) (m := 1) (c := 1) elem_item rfl (hr.alloc _) rfl rfl (new_cells W [.int .i64 y1, .int .i64 y2, .int .i64 y3] _) (by simp [Value.oneCell']) (by omega) (by unfold maxLen; omega) (by simp; omega) ?_; intro v' w1 hown' hgrow hnew; obtain ⟨g', cap', rfl⟩ := ownsRow_succ hown'; obtain ⟨hv1, ho2, hk2, hb2, hg2, hs2⟩ := OwnI.appended hv (by decide) hr hG hS.2 hown' hgrow hnew; have hc1 := hv1.cell; have hf1 := hv1.frozen)
      exact ⟨hk2.from _, ⟨hb2.mono (by omega), hg2⟩, by simpa [cells3_append, cells3] using ho2, hS.1.trans hb2, hs2⟩
    case done =>
      rintro D G xs W hD rfl ⟨⟨v, h1, h2, h3⟩, hS⟩ hK
      exact ⟨.inl rfl, D, rfl, by omega, hK, ⟨v, h1, h2, fun _ _ h => h⟩, hS.1⟩
    case stop => exact fun _ _ _ _ _ _ h _ => h.elim
  case rest =>
    rintro D W ⟨hD, hK, ⟨v, hv, hr, _⟩, hb⟩
    obtain ⟨A', c', rfl, hlies⟩ := Lies.of_own hr hr.1
    have hc := hv.cell
    dsimp only
    subst hg
    have hr2 := ownsRow_putObj hr (.deferred none) hK rfl
    have hb2 : Below w.heap.size w (W.putObj D (.deferred none)) := hb.trans (below_putObj _ (by omega) hK)
    go_wp2_with fail
    refine ⟨by simp, .inl ⟨_, _, rfl, run_takeDeferred hK, ?_⟩⟩
    exact ⟨_, results_tmp rfl _ _ _, A', L.length, c', rfl, hr2, hb2⟩
end Go.Proofs.Ytolmkagedlcjiaa

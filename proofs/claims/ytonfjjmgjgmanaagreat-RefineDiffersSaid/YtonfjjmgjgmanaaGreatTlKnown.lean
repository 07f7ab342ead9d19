/- What the laws of package timeline ask of it, said of the values of days; what the calls leave of things that lie apart. The document's timeline as a new thing; a put beside a list of puts. corrodylaw11.known answers true. -/
import Derived.Test.YtonfjjmgjgmanaaGreatTl4
import Derived.Test.YtonfjjmgjgmanaaGreatSep
import Derived.Test.YtonfjjmgjgmanaaGreatRowRel
import Derived.BigQuiet
namespace Corr
open Go Go.RowKit
set_option linter.unusedVariables false
/-- Days of a span that are changed. -/
def updF (f : Int → Int) (a b v : Int) : Int → Int := fun d => if a ≤ d ∧ d < b then v else f d
/-- A put: what it tells, and what it leaves. -/
def putR (a b : Int) : Int := if mayB a b = true then 0 else 15
def putF (f : Int → Int) (a b v : Int) : Int → Int := if mayB a b = true then updF f a b v else f
def putL (l : ItL) (a b v : Int) : ItL := if mayB a b = true then l ++ [(a, b, v)] else l
theorem putL_len (l : ItL) (a b v : Int) : (putL l a b v).length ≤ l.length + 1 := by unfold putL; split <;> simp
theorem atL_snoc (l : ItL) (x : It) : atL (l ++ [x]) = updF (atL l) x.1 x.2.1 x.2.2 := by
  funext d
  unfold atL updF
  rw [List.reverse_append]
  simp only [List.reverse_cons, List.reverse_nil, List.nil_append, List.cons_append, List.find?_cons]
  cases h : onB d x with
  | true =>
    unfold onB at h
    rw [Bool.and_eq_true, decide_eq_true_eq, decide_eq_true_eq] at h
    rw [if_pos h]
  | false =>
    rw [if_neg]
    intro e
    unfold onB at h
    rw [decide_eq_true e.1, decide_eq_true e.2] at h
    cases h
theorem atL_put (l : ItL) (a b v : Int) : atL (putL l a b v) = putF (atL l) a b v := by
  unfold putL putF
  split
  · exact atL_snoc l (a, b, v)
  · rfl
/-- No value on what is no day. -/
def offF (f : Int → Int) : Prop := ∀ d, d < 1 ∨ 3652059 < d → f d = 0
theorem offF_put {f : Int → Int} (h : offF f) (a b v : Int) : offF (putF f a b v) := by
  intro d hd
  unfold putF
  split
  · rename_i hm
    obtain ⟨h1, h2, h3⟩ := mayB_iff.1 hm
    unfold updF
    rw [if_neg (by omega)]
    exact h d hd
  · exact h d hd
/-- What Segs tells, by the values of days. -/
def segF (f : Int → Int) (a b : Int) (out : ItL) : Prop := if mayB a b = true then covP f a b out else out = []
theorem segF_one {f : Int → Int} {a b : Int} {p q : ItL} (h : segF f a b p) (k : segF f a b q) : p = q := by
  unfold segF at h k
  split at h
  · rename_i hm; rw [if_pos hm] at k; exact cov_one h k
  · rename_i hm; rw [if_neg hm] at k; rw [h, k]
theorem segF_len {f : Int → Int} {a b : Int} {p : ItL} (h : segF f a b p) : p.length ≤ 3652060 := by
  unfold segF at h
  split at h
  · rename_i hm
    have := covP_le h
    have := mayB_iff.1 hm
    omega
  · rw [h]; simp
/-- How a timeline lies: in which world, where, in which blocks, behind how many puts at most, with what value on each day. -/
abbrev RepL := World → Value → (Nat → Prop) → Nat → (Int → Int) → Prop
structure TlOk (Rep : RepL) : Prop where
  lt : ∀ {w p F N f}, Rep w p F N f → ∀ k, F k → k < w.heap.size
  keep : ∀ {w w' p F G N f}, Rep w p F N f → Off G w w' → (∀ k, F k → ¬ G k) → Rep w' p F N f
def tlT {Rep : RepL} (R : TlOk Rep) (p : Value) (N : Nat) (f : Int → Int) : Thing where
  P w F := Rep w p F N f
  lt := R.lt
  keep := R.keep
/-- The document's timeline as a thing. -/
def docT (T : TypeId) (g : Nat) (l : ItL) : Thing where
  P w F := ∃ A n c, RTlW T w g A n c l ∧ (∀ k, F k ↔ k = g ∨ rowK A n c k)
  lt := fun h k hk => by
    obtain ⟨A, n, c, h1, h2⟩ := h
    rcases (h2 k).1 hk with h | h
    · subst h; exact h1.sz
    · exact own_lt h1.o h
  keep := fun h ho hn => by
    obtain ⟨A, n, c, h1, h2⟩ := h
    exact ⟨A, n, c, ⟨ho.blk h1.b (hn g ((h2 g).2 (.inl rfl))), ho.own h1.o fun k hk => hn k ((h2 k).2 (.inr hk))⟩, h2⟩
/-- An answer that is segments, a row of the call's own. -/
def RetSegF (T : TypeId) (w : World) (f : Int → Int) (a b : Int) (e : Ending) (w' : World) : Prop := ∃ out A n c, e = .returned (.slice A n c) ∧ segF f a b out ∧ w'.ownsRow w.heap.size T 3 (.slice A n c) n (cells3 out) ∧ Below w.heap.size w w'
end Corr
namespace Go.Proofs.YtonfjjmgjgmanaaGreat
open Go.RowKit Corr
set_option linter.unusedVariables false
set_option linter.unusedSimpArgs false
/-- What package timeline does with whole numbers: 'Rep w p F N f' says that in w the timeline at p lies in the blocks F, and has behind N puts at most the value f d on each day d. -/
structure TlK0 (Rep : RepL) : Prop extends TlOk Rep where
  make : ∀ (w : World), Calls Tryz.prog 18 #[] w fun e w' => ∃ (q : Addr) (F : Nat → Prop), e = .returned (.pointer (some q)) ∧ Rep w' (.pointer (some q)) F 0 (fun _ => 0) ∧ Below w.heap.size w w' ∧ ∀ k, F k → w.heap.size ≤ k
  put : ∀ (w : World) (p : Value) (F : Nat → Prop) (N : Nat) (f : Int → Int) (a b v : Int), Rep w p F N f → N ≤ 300 → Calls Tryz.prog 19 #[p, .agg #[.int .i64 a, .int .i64 b], .int .i64 v] w fun e w' => ∃ F' : Nat → Prop, e = .returned (.int .i64 (putR a b)) ∧ Rep w' p F' (N + 1) (putF f a b v) ∧ Off F w w' ∧ ∀ k, F' k → F k ∨ w.heap.size ≤ k
  at_ : ∀ (w : World) (p : Value) (F : Nat → Prop) (N : Nat) (f : Int → Int) (d : Int), Rep w p F N f → N ≤ 300 → Calls Tryz.prog 17 #[p, .int .i64 d] w fun e w' => e = .returned (.int .i64 (f d)) ∧ Below w.heap.size w w'
  segs : ∀ (w : World) (p : Value) (F : Nat → Prop) (N : Nat) (f : Int → Int) (a b : Int), Rep w p F N f → N ≤ 300 → Calls Tryz.prog 12 #[p, .agg #[.int .i64 a, .int .i64 b]] w (RetSegF 45 w f a b)
section
variable {Rep : RepL} {w0 w : World} {ts : List Thing} {p : Value} {N i : Nat} {f : Int → Int}
theorem sep0_tmake (K : TlK0 Rep) (h : Sep w0 ts w) : Calls Tryz.prog 18 #[] w fun e w' => ∃ q : Addr, e = .returned (.pointer (some q)) ∧ Sep w0 (ts ++ [tlT K.toTlOk (.pointer (some q)) 0 (fun _ => 0)]) w' := by
  refine (K.make w).mono fun e w' hq => ?_
  obtain ⟨q, F, he, hr, hb, hF⟩ := hq
  exact ⟨q, he, h.add hb (t := tlT K.toTlOk (.pointer (some q)) 0 (fun _ => 0)) hr hF⟩
theorem sep0_tput (K : TlK0 Rep) (h : Sep w0 ts w) (hi : ts[i]? = some (tlT K.toTlOk p N f)) (hN : N ≤ 300) (a b v : Int) : Calls Tryz.prog 19 #[p, .agg #[.int .i64 a, .int .i64 b], .int .i64 v] w fun e w' => e = .returned (.int .i64 (putR a b)) ∧ Sep w0 (ts.set i (tlT K.toTlOk p (N + 1) (putF f a b v))) w' := by
  obtain ⟨F, hp, _, hu⟩ := h.get hi
  refine (K.put w p F N f a b v hp hN).mono fun e w' hq => ?_
  obtain ⟨F', he, hr, ho, hF⟩ := hq
  exact ⟨he, hu w' F' (tlT K.toTlOk p (N + 1) (putF f a b v)) ho hr hF⟩
theorem sep0_tsegs (K : TlK0 Rep) (h : Sep w0 ts w) (hi : ts[i]? = some (tlT K.toTlOk p N f)) (hN : N ≤ 300) (a b : Int) : Calls Tryz.prog 12 #[p, .agg #[.int .i64 a, .int .i64 b]] w (RetSegF 45 w f a b) := by
  obtain ⟨F, hp, _⟩ := h.get hi
  exact K.segs w p F N f a b hp hN
/-- The document's timeline. -/
abbrev dT (g : Nat) (l : ItL) : Thing := docT 46 g l
theorem sep_dput {g : Nat} {l : ItL} (h : Sep w0 ts w) (hi : ts[i]? = some (dT g l)) (hl : l.length ≤ 300) (a b v : Int) : Calls Tryz.prog 20 #[.pointer (some ⟨g, 0, none⟩), .agg #[.int .i64 a, .int .i64 b], .int .i64 v] w fun e w' => e = .returned (.int .i64 (putR a b)) ∧ Sep w0 (ts.set i (dT g (putL l a b v))) w' := by
  obtain ⟨F, ⟨A, n, c, hr, hF⟩, _, hu⟩ := h.get hi
  by_cases hm : mayB a b = true
  · refine (put_yes g n c A l a b v w hr (by rw [← hr.len]; omega) hm).mono fun e w' hq => ?_
    obtain ⟨A', n', c', w1, rfl, hb, ho, rfl⟩ := hq
    have hg := hr.sz
    have hge := own_ge ho
    refine ⟨by unfold putR; rw [if_pos hm], ?_⟩
    have hoff : Off F w (w1.setCell ⟨g, 0, none⟩ (.slice A' n' c')) := ((Off.of hb).trans (Off.set (F := (· = g)) (a := ⟨g, 0, none⟩) rfl _)).mono fun k _ hk => (hF k).2 (.inl hk)
    have hrow : RTlW 46 (w1.setCell ⟨g, 0, none⟩ (.slice A' n' c')) g A' n' c' (l ++ [(a, b, v)]) := by
      refine ⟨by have := (hr.b.keep hb).set 0 (.slice A' n' c'); simpa using this, ?_⟩
      refine (Off.set (F := (· = g)) (a := ⟨g, 0, none⟩) rfl _).own (own_low ho (Nat.zero_le _)) fun k hk e => ?_
      have := hge k hk
      omega
    have := hu _ (fun k => k = g ∨ rowK A' n' c' k) (dT g (l ++ [(a, b, v)])) hoff ⟨A', n', c', hrow, fun _ => Iff.rfl⟩ (fun k hk => by
      rcases hk with hk | hk
      · exact .inl ((hF k).2 (.inl hk))
      · exact .inr (hge k hk))
    rw [show putL l a b v = l ++ [(a, b, v)] by unfold putL; rw [if_pos hm]]
    exact this
  · have hm' : mayB a b = false := by simpa using hm
    refine (put_no _ a b v w hm').mono fun e w' hq => ?_
    obtain ⟨rfl, hb⟩ := hq
    refine ⟨by unfold putR; rw [if_neg hm], ?_⟩
    rw [show putL l a b v = l by unfold putL; rw [if_neg hm]]
    have := hu w' F (dT g l) ((Off.of (F := F) hb)) ((dT g l).keep ⟨A, n, c, hr, hF⟩ (Off.of (F := fun _ => False) hb) (fun _ _ e => e)) (fun k hk => .inl hk)
    exact this
theorem sep_dsegs {g : Nat} {l : ItL} (h : Sep w0 ts w) (hi : ts[i]? = some (dT g l)) (hl : l.length ≤ 300) (a b : Int) : Calls Tryz.prog 14 #[.pointer (some ⟨g, 0, none⟩), .agg #[.int .i64 a, .int .i64 b]] w (RetSegF 46 w (atL l) a b) := by
  obtain ⟨F, ⟨A, n, c, hp, _⟩, _⟩ := h.get hi
  exact segs_any g n c A l a b w hp.r (by rw [← hp.len]; omega)
end
end Go.Proofs.YtonfjjmgjgmanaaGreat
namespace Corr
open Go Go.RowKit
set_option linter.unusedVariables false
theorem Sep.addDoc {w0 w : World} {ts : List Thing} (h : Sep w0 ts w) (T U : TypeId) : Sep w0 (ts ++ [docT T w.heap.size []]) (w.alloc (.cells #[.slice none 0 0] U)) :=
  h.add ((Below.refl _ _).alloc (Nat.le_refl _) _) (t := docT T w.heap.size []) (F := (· = w.heap.size)) ⟨none, 0, 0, ⟨Blk.new w _ U, World.ownsRow_nil _ _ _ _⟩, fun k => by simp [rowK, Value.ownBlock]⟩ (fun k hk => by omega)
end Corr
namespace Go.Proofs.YtonfjjmgjgmanaaGreat
open Go.RowKit Corr
set_option linter.unusedVariables false
theorem sep0_tputL {Rep : RepL} {w0 w : World} {ts : List Thing} {p : Value} {N i : Nat} {l : ItL} (K : TlK0 Rep) (h : Sep w0 ts w) (hi : ts[i]? = some (tlT K.toTlOk p N (atL l))) (hN : N ≤ 300) (a b v : Int) : Calls Tryz.prog 19 #[p, .agg #[.int .i64 a, .int .i64 b], .int .i64 v] w fun e w' => e = .returned (.int .i64 (putR a b)) ∧ Sep w0 (ts.set i (tlT K.toTlOk p (N + 1) (atL (putL l a b v)))) w' := by
  have := sep0_tput K h hi hN a b v
  rwa [← atL_put] at this
end Go.Proofs.YtonfjjmgjgmanaaGreat
namespace Corr
open Go Go.RowKit
end Corr
namespace Go.Proofs.YtonfjjmgjgmanaaGreat
open Go.RowKit Corr
set_option linter.unusedVariables false
set_option linter.unusedSimpArgs false
end Go.Proofs.YtonfjjmgjgmanaaGreat

/- What the laws of package timeline ask of it, said of the values of days; what the calls leave of things that lie apart. The document's timeline as a new thing; a put beside a list of puts. corrodylaw11.known answers true. -/
import Derived.Test.YtockjcainkoifaaTl4
import Derived.Test.YtockjcainkoifaaSep
import Derived.Test.YtockjcainkoifaaRowRel
import Derived.BigQuiet
namespace Corr
set_option maxRecDepth 8000
open Go Go.RowKit
set_option linter.unusedVariables false
/-- Days of a span that are changed. -/
def updF (f : Int → Int) (a b v : Int) : Int → Int := fun d => if a ≤ d ∧ d < b then v else f d
/-- A put: what it tells, and what it leaves. -/
def putR (a b : Int) : Int := if mayB a b = true then 0 else 15
def putF (f : Int → Int) (a b v : Int) : Int → Int := if mayB a b = true then updF f a b v else f
def putL (l : ItL) (a b v : Int) : ItL := if mayB a b = true then l ++ [(a, b, v)] else l
theorem putL_len (l : ItL) (a b v : Int) : (putL l a b v).length ≤ l.length + 1 := by unfold putL; split <;> simp
theorem atL_snoc (l : ItL) (x : It) : atL (l ++ [x]) = updF (atL l) x.1 x.2.1 x.2.2 := by
  funext d
  unfold atL updF
  rw [List.reverse_append]
  simp only [List.reverse_cons, List.reverse_nil, List.nil_append, List.cons_append, List.find?_cons]
  cases h : onB d x with
  | true =>
    unfold onB at h
    rw [Bool.and_eq_true, decide_eq_true_eq, decide_eq_true_eq] at h
    rw [if_pos h]
  | false =>
    rw [if_neg]
    intro e
    unfold onB at h
    rw [decide_eq_true e.1, decide_eq_true e.2] at h
    cases h
theorem atL_put (l : ItL) (a b v : Int) : atL (putL l a b v) = putF (atL l) a b v := by
  unfold putL putF
  split
  · exact atL_snoc l (a, b, v)
  · rfl
/-- No value on what is no day. -/
def offF (f : Int → Int) : Prop := ∀ d, d < 1 ∨ 3652059 < d → f d = 0
theorem offF_put {f : Int → Int} (h : offF f) (a b v : Int) : offF (putF f a b v) := by
  intro d hd
  unfold putF
  split
  · rename_i hm
    obtain ⟨h1, h2, h3⟩ := mayB_iff.1 hm
    unfold updF
    rw [if_neg (by omega)]
    exact h d hd
  · exact h d hd
/-- What Segs tells, by the values of days. -/
def segF (f : Int → Int) (a b : Int) (out : ItL) : Prop := if mayB a b = true then covP f a b out else out = []
theorem segF_one {f : Int → Int} {a b : Int} {p q : ItL} (h : segF f a b p) (k : segF f a b q) : p = q := by
  unfold segF at h k
  split at h
  · rename_i hm; rw [if_pos hm] at k; exact cov_one h k
  · rename_i hm; rw [if_neg hm] at k; rw [h, k]
theorem segF_len {f : Int → Int} {a b : Int} {p : ItL} (h : segF f a b p) : p.length ≤ 3652060 := by
  unfold segF at h
  split at h
  · rename_i hm
    have := covP_le h
    have := mayB_iff.1 hm
    omega
  · rw [h]; simp
/-- Where the value is another one than ahead. -/
def endsL (out : ItL) : List Int := out.tail.map (·.1)
theorem endsL_len (out : ItL) : (endsL out).length = out.length - 1 := by unfold endsL; simp
/-- How a timeline lies: in which world, where, in which blocks, behind how many puts at most, with what value on each day. -/
abbrev RepL := World → Value → (Nat → Prop) → Nat → (Int → Int) → Prop
structure TlOk (Rep : RepL) : Prop where
  lt : ∀ {w p F N f}, Rep w p F N f → ∀ k, F k → k < w.heap.size
  keep : ∀ {w w' p F G N f}, Rep w p F N f → Off G w w' → (∀ k, F k → ¬ G k) → Rep w' p F N f
def tlT {Rep : RepL} (R : TlOk Rep) (p : Value) (N : Nat) (f : Int → Int) : Thing where
  P w F := Rep w p F N f
  lt := R.lt
  keep := R.keep
/-- The document's timeline as a thing. -/
def docT (T : TypeId) (g : Nat) (l : ItL) : Thing where
  P w F := ∃ A n c, RTlW T w g A n c l ∧ (∀ k, F k ↔ k = g ∨ rowK A n c k)
  lt := fun h k hk => by
    obtain ⟨A, n, c, h1, h2⟩ := h
    rcases (h2 k).1 hk with h | h
    · subst h; exact h1.sz
    · exact own_lt h1.o h
  keep := fun h ho hn => by
    obtain ⟨A, n, c, h1, h2⟩ := h
    exact ⟨A, n, c, ⟨ho.blk h1.b (hn g ((h2 g).2 (.inl rfl))), ho.own h1.o fun k hk => hn k ((h2 k).2 (.inr hk))⟩, h2⟩
/-- An answer that is segments, a row of the call's own. -/
def RetSegF (T : TypeId) (w : World) (f : Int → Int) (a b : Int) (e : Ending) (w' : World) : Prop := ∃ out A n c, e = .returned (.slice A n c) ∧ segF f a b out ∧ w'.ownsRow w.heap.size T 3 (.slice A n c) n (cells3 out) ∧ Below w.heap.size w w'
def RetEnds (T : TypeId) (w : World) (f : Int → Int) (a b : Int) (e : Ending) (w' : World) : Prop := ∃ out A n c, e = .returned (.slice A n c) ∧ segF f a b out ∧ w'.ownsRow w.heap.size T 1 (.slice A n c) n (ints (endsL out)) ∧ Below w.heap.size w w'
def RetPieces (w : World) (f : Int → Int) (e : Ending) (w' : World) : Prop := ∃ out, segF f 1 3652060 out ∧ e = .returned (.int .i64 (cntV out : Int)) ∧ Below w.heap.size w w'
def RetSameF (w : World) (f g : Int → Int) (e : Ending) (w' : World) : Prop := ∃ l k, segF f 1 3652060 l ∧ segF g 1 3652060 k ∧ e = .returned (.bool (decide (l = k))) ∧ Below w.heap.size w w'
end Corr
namespace Go.Proofs.Ytockjcainkoifaa
set_option maxRecDepth 8000
open Go.RowKit Corr
set_option linter.unusedVariables false
set_option linter.unusedSimpArgs false
/-- What package timeline does with whole numbers: 'Rep w p F N f' says that in w the timeline at p lies in the blocks F, and has behind N puts at most the value f d on each day d. -/
structure TlK0 (Rep : RepL) : Prop extends TlOk Rep where
  make : ∀ (w : World), Calls Try.prog 9 #[] w fun e w' => ∃ (q : Addr) (F : Nat → Prop), e = .returned (.pointer (some q)) ∧ Rep w' (.pointer (some q)) F 0 (fun _ => 0) ∧ Below w.heap.size w w' ∧ ∀ k, F k → w.heap.size ≤ k
  put : ∀ (w : World) (p : Value) (F : Nat → Prop) (N : Nat) (f : Int → Int) (a b v : Int), Rep w p F N f → N ≤ 300 → Calls Try.prog 10 #[p, .agg #[.int .i64 a, .int .i64 b], .int .i64 v] w fun e w' => ∃ F' : Nat → Prop, e = .returned (.int .i64 (putR a b)) ∧ Rep w' p F' (N + 1) (putF f a b v) ∧ Off F w w' ∧ ∀ k, F' k → F k ∨ w.heap.size ≤ k
  at_ : ∀ (w : World) (p : Value) (F : Nat → Prop) (N : Nat) (f : Int → Int) (d : Int), Rep w p F N f → N ≤ 300 → Calls Try.prog 16 #[p, .int .i64 d] w fun e w' => e = .returned (.int .i64 (f d)) ∧ Below w.heap.size w w'
  segs : ∀ (w : World) (p : Value) (F : Nat → Prop) (N : Nat) (f : Int → Int) (a b : Int), Rep w p F N f → N ≤ 300 → Calls Try.prog 12 #[p, .agg #[.int .i64 a, .int .i64 b]] w (RetSegF 46 w f a b)
/-- .. and all that it does. -/
structure TlK (Rep : RepL) : Prop extends TlK0 Rep where
  ends : ∀ (w : World) (p : Value) (F : Nat → Prop) (N : Nat) (f : Int → Int) (a b : Int), Rep w p F N f → N ≤ 300 → Calls Try.prog 14 #[p, .agg #[.int .i64 a, .int .i64 b]] w (RetEnds 3 w f a b)
  pieces : ∀ (w : World) (p : Value) (F : Nat → Prop) (N : Nat) (f : Int → Int), Rep w p F N f → N ≤ 300 → Calls Try.prog 18 #[p] w (RetPieces w f)
  copy : ∀ (w : World) (p : Value) (F : Nat → Prop) (N : Nat) (f : Int → Int), Rep w p F N f → N ≤ 300 → Calls Try.prog 20 #[p] w fun e w' => ∃ (q : Addr) (F' : Nat → Prop), e = .returned (.pointer (some q)) ∧ Rep w' (.pointer (some q)) F' N f ∧ Below w.heap.size w w' ∧ ∀ k, F' k → w.heap.size ≤ k
  same : ∀ (w : World) (p q : Value) (F G : Nat → Prop) (N M : Nat) (f g : Int → Int), Rep w p F N f → Rep w q G M g → N ≤ 300 → M ≤ 300 → Calls Try.prog 21 #[p, q] w (RetSameF w f g)
section
variable {Rep : RepL} {w0 w : World} {ts : List Thing} {p : Value} {N i : Nat} {f : Int → Int}
theorem sep_tmake (K : TlK Rep) (h : Sep w0 ts w) : Calls Try.prog 9 #[] w fun e w' => ∃ q : Addr, e = .returned (.pointer (some q)) ∧ Sep w0 (ts ++ [tlT K.toTlOk (.pointer (some q)) 0 (fun _ => 0)]) w' := by
  refine (K.make w).mono fun e w' hq => ?_
  obtain ⟨q, F, he, hr, hb, hF⟩ := hq
  exact ⟨q, he, h.add hb (t := tlT K.toTlOk (.pointer (some q)) 0 (fun _ => 0)) hr hF⟩
theorem sep_tput (K : TlK Rep) (h : Sep w0 ts w) (hi : ts[i]? = some (tlT K.toTlOk p N f)) (hN : N ≤ 300) (a b v : Int) : Calls Try.prog 10 #[p, .agg #[.int .i64 a, .int .i64 b], .int .i64 v] w fun e w' => e = .returned (.int .i64 (putR a b)) ∧ Sep w0 (ts.set i (tlT K.toTlOk p (N + 1) (putF f a b v))) w' := by
  obtain ⟨F, hp, _, hu⟩ := h.get hi
  refine (K.put w p F N f a b v hp hN).mono fun e w' hq => ?_
  obtain ⟨F', he, hr, ho, hF⟩ := hq
  exact ⟨he, hu w' F' (tlT K.toTlOk p (N + 1) (putF f a b v)) ho hr hF⟩
theorem sep_tat (K : TlK Rep) (h : Sep w0 ts w) (hi : ts[i]? = some (tlT K.toTlOk p N f)) (hN : N ≤ 300) (d : Int) {r : Int} (hr : f d = r) : Calls Try.prog 16 #[p, .int .i64 d] w fun e w' => e = .returned (.int .i64 r) ∧ Below w.heap.size w w' := by
  obtain ⟨F, hp, _⟩ := h.get hi
  rw [← hr]; exact K.at_ w p F N f d hp hN
theorem sep_tsegs (K : TlK Rep) (h : Sep w0 ts w) (hi : ts[i]? = some (tlT K.toTlOk p N f)) (hN : N ≤ 300) (a b : Int) : Calls Try.prog 12 #[p, .agg #[.int .i64 a, .int .i64 b]] w (RetSegF 46 w f a b) := by
  obtain ⟨F, hp, _⟩ := h.get hi
  exact K.segs w p F N f a b hp hN
theorem sep_tends (K : TlK Rep) (h : Sep w0 ts w) (hi : ts[i]? = some (tlT K.toTlOk p N f)) (hN : N ≤ 300) (a b : Int) : Calls Try.prog 14 #[p, .agg #[.int .i64 a, .int .i64 b]] w (RetEnds 3 w f a b) := by
  obtain ⟨F, hp, _⟩ := h.get hi
  exact K.ends w p F N f a b hp hN
theorem sep_tpieces (K : TlK Rep) (h : Sep w0 ts w) (hi : ts[i]? = some (tlT K.toTlOk p N f)) (hN : N ≤ 300) {out : ItL} (ho : segF f 1 3652060 out) : Calls Try.prog 18 #[p] w fun e w' => e = .returned (.int .i64 (cntV out : Int)) ∧ Below w.heap.size w w' := by
  obtain ⟨F, hp, _⟩ := h.get hi
  refine (K.pieces w p F N f hp hN).mono fun e w' hq => ?_
  obtain ⟨o, h1, he, hb⟩ := hq
  rw [segF_one h1 ho] at he
  exact ⟨he, hb⟩
theorem sep_tcopy (K : TlK Rep) (h : Sep w0 ts w) (hi : ts[i]? = some (tlT K.toTlOk p N f)) (hN : N ≤ 300) : Calls Try.prog 20 #[p] w fun e w' => ∃ q : Addr, e = .returned (.pointer (some q)) ∧ Sep w0 (ts ++ [tlT K.toTlOk (.pointer (some q)) N f]) w' := by
  obtain ⟨F, hp, _⟩ := h.get hi
  refine (K.copy w p F N f hp hN).mono fun e w' hq => ?_
  obtain ⟨q, F', he, hr, hb, hF⟩ := hq
  exact ⟨q, he, h.add hb (t := tlT K.toTlOk (.pointer (some q)) N f) hr hF⟩
theorem sep_tsame (K : TlK Rep) (h : Sep w0 ts w) (hi : ts[i]? = some (tlT K.toTlOk p N f)) {j : Nat} {q : Value} {M : Nat} {g : Int → Int} (hj : ts[j]? = some (tlT K.toTlOk q M g)) (hN : N ≤ 300) (hM : M ≤ 300) : Calls Try.prog 21 #[p, q] w (RetSameF w f g) := by
  obtain ⟨F, hp, _⟩ := h.get hi
  obtain ⟨G, hq, _⟩ := h.get hj
  exact K.same w p q F G N M f g hp hq hN hM
/-- The document's timeline. -/
abbrev dT (g : Nat) (l : ItL) : Thing := docT 45 g l
theorem sep_dput {g : Nat} {l : ItL} (h : Sep w0 ts w) (hi : ts[i]? = some (dT g l)) (hl : l.length ≤ 300) (a b v : Int) : Calls Try.prog 11 #[.pointer (some ⟨g, 0, none⟩), .agg #[.int .i64 a, .int .i64 b], .int .i64 v] w fun e w' => e = .returned (.int .i64 (putR a b)) ∧ Sep w0 (ts.set i (dT g (putL l a b v))) w' := by
  obtain ⟨F, ⟨A, n, c, hr, hF⟩, _, hu⟩ := h.get hi
  by_cases hm : mayB a b = true
  · refine (put_yes g n c A l a b v w hr (by rw [← hr.len]; omega) hm).mono fun e w' hq => ?_
    obtain ⟨A', n', c', w1, rfl, hb, ho, rfl⟩ := hq
    have hg := hr.sz
    have hge := own_ge ho
    refine ⟨by unfold putR; rw [if_pos hm], ?_⟩
    have hoff : Off F w (w1.setCell ⟨g, 0, none⟩ (.slice A' n' c')) := ((Off.of hb).trans (Off.set (F := (· = g)) (a := ⟨g, 0, none⟩) rfl _)).mono fun k _ hk => (hF k).2 (.inl hk)
    have hrow : RTlW 45 (w1.setCell ⟨g, 0, none⟩ (.slice A' n' c')) g A' n' c' (l ++ [(a, b, v)]) := by
      refine ⟨by have := (hr.b.keep hb).set 0 (.slice A' n' c'); simpa using this, ?_⟩
      refine (Off.set (F := (· = g)) (a := ⟨g, 0, none⟩) rfl _).own (own_low ho (Nat.zero_le _)) fun k hk e => ?_
      have := hge k hk
      omega
    have := hu _ (fun k => k = g ∨ rowK A' n' c' k) (dT g (l ++ [(a, b, v)])) hoff ⟨A', n', c', hrow, fun _ => Iff.rfl⟩ (fun k hk => by
      rcases hk with hk | hk
      · exact .inl ((hF k).2 (.inl hk))
      · exact .inr (hge k hk))
    rw [show putL l a b v = l ++ [(a, b, v)] by unfold putL; rw [if_pos hm]]
    exact this
  · have hm' : mayB a b = false := by simpa using hm
    refine (put_no _ a b v w hm').mono fun e w' hq => ?_
    obtain ⟨rfl, hb⟩ := hq
    refine ⟨by unfold putR; rw [if_neg hm], ?_⟩
    rw [show putL l a b v = l by unfold putL; rw [if_neg hm]]
    have := hu w' F (dT g l) ((Off.of (F := F) hb)) ((dT g l).keep ⟨A, n, c, hr, hF⟩ (Off.of (F := fun _ => False) hb) (fun _ _ e => e)) (fun k hk => .inl hk)
    exact this
theorem sep_dat {g : Nat} {l : ItL} (h : Sep w0 ts w) (hi : ts[i]? = some (dT g l)) (hl : l.length ≤ 300) (d : Int) {r : Int} (hr : atL l d = r) : Calls Try.prog 17 #[.pointer (some ⟨g, 0, none⟩), .int .i64 d] w fun e w' => e = .returned (.int .i64 r) ∧ Below w.heap.size w w' := by
  obtain ⟨F, ⟨A, n, c, hp, _⟩, _⟩ := h.get hi
  refine (at11_any g n c A l d w hp.r (by rw [← hp.len]; omega)).mono ?_
  rintro e w' ⟨rfl, rfl⟩
  exact ⟨by rw [hr], Below.refl _ _⟩
theorem sep_dsegs {g : Nat} {l : ItL} (h : Sep w0 ts w) (hi : ts[i]? = some (dT g l)) (hl : l.length ≤ 300) (a b : Int) : Calls Try.prog 13 #[.pointer (some ⟨g, 0, none⟩), .agg #[.int .i64 a, .int .i64 b]] w (RetSegF 45 w (atL l) a b) := by
  obtain ⟨F, ⟨A, n, c, hp, _⟩, _⟩ := h.get hi
  exact segs_any g n c A l a b w hp.r (by rw [← hp.len]; omega)
theorem sep_dpieces {g : Nat} {l : ItL} (h : Sep w0 ts w) (hi : ts[i]? = some (dT g l)) (hl : l.length ≤ 300) {out : ItL} (ho : segF (atL l) 1 3652060 out) : Calls Try.prog 19 #[.pointer (some ⟨g, 0, none⟩)] w fun e w' => e = .returned (.int .i64 (cntV out : Int)) ∧ Below w.heap.size w w' := by
  obtain ⟨F, ⟨A, n, c, hp, _⟩, _⟩ := h.get hi
  refine (pieces_any g n c A l w hp.r (by rw [← hp.len]; omega)).mono fun e w' hq => ?_
  obtain ⟨o, h1, he, hb⟩ := hq
  rw [segF_one h1 ho] at he
  exact ⟨he, hb⟩
theorem sep_dsame {g h : Nat} {l m : ItL} (S : Sep w0 ts w) (hi : ts[i]? = some (dT g l)) {j : Nat} (hj : ts[j]? = some (dT h m)) (hl : l.length ≤ 300) (hm : m.length ≤ 300) : Calls Try.prog 22 #[.pointer (some ⟨g, 0, none⟩), .pointer (some ⟨h, 0, none⟩)] w (RetSameF w (atL l) (atL m)) := by
  obtain ⟨F, ⟨A, n, c, hp, _⟩, _⟩ := S.get hi
  obtain ⟨G, ⟨B, k, d, hq, _⟩, _⟩ := S.get hj
  exact same11_any g n c h k d A B l m w hp.r hq.r (by rw [← hp.len]; omega) (by rw [← hq.len]; omega)
end
/-- The same segments are the same. -/
theorem tsame_yes {A B : Option Addr} {n c m d : Nat} {l : ItL} {w : World} (R : Itm w A n c l) (S : Itm w B m d l) (hl : l.length ≤ 4000000) : Calls Try.prog 15 #[.slice A n c, .slice B m d] w fun e w' => e = .returned (.bool true) ∧ Below w.heap.size w w' := by
  have hn := Itm.count R
  have hm := Itm.count S
  obtain rfl : n = m := hn.symm.trans hm
  have HR := Lib.hid R
  have HS := Lib.hid S
  have hn4 : n ≤ 4000000 := by omega
  clear R S hm
  go_enter Try.func15, Try.ntmps15
  go_wp2_with fail
  go_loopw [13] (fun u wr => ∃ i : Nat, u = .int .i64 (i : Int) ∧ i ≤ n ∧ Below w.heap.size w wr) (fun u _ => (n - intOf u).toNat)
  case atStart => exact ⟨0, rfl, by omega, Below.refl _ _⟩
  case round =>
    obtain ⟨i, rfl, hi, hb⟩ := hrel
    have HB := Lib.hid hb
    clear hb
    by_cases hlt : i < n
    · obtain ⟨g5, off, s, rfl, hs, hg, c0, c1, c2⟩ := Itm.get (HR.out.keep HB.out) hlt
      obtain ⟨g6, off2, t, rfl, ht, hg2, d0, d1, d2⟩ := Itm.get (HS.out.keep HB.out) hlt
      rw [hs] at ht
      obtain rfl := Option.some.inj ht
      obtain ⟨s1, s2, s3⟩ := s
      clear hs ht
      go_wp2_with fail
      go_quiet (fail)
      go_wp2_with fail
      go_roundw
      case rel => exact ⟨i + 1, by go_num, by omega, by first | exact HB.out | exact HB.out.drewN _ | exact HB.out.trans (Joins.below_draws _ _ _)⟩
      case measure => simp [intOf]; omega
    · go_wp2_with fail
      go_ret
      exact ⟨rfl, HB.out⟩
end Go.Proofs.Ytockjcainkoifaa
namespace Corr
set_option maxRecDepth 8000
open Go Go.RowKit
set_option linter.unusedVariables false
theorem Sep.addDoc {w0 w : World} {ts : List Thing} (h : Sep w0 ts w) (T U : TypeId) : Sep w0 (ts ++ [docT T w.heap.size []]) (w.alloc (.cells #[.slice none 0 0] U)) :=
  h.add ((Below.refl _ _).alloc (Nat.le_refl _) _) (t := docT T w.heap.size []) (F := (· = w.heap.size)) ⟨none, 0, 0, ⟨Blk.new w _ U, World.ownsRow_nil _ _ _ _⟩, fun k => by simp [rowK, Value.ownBlock]⟩ (fun k hk => by omega)
/-- There is such a list. -/
theorem cov_ex (f : Int → Int) (a : Int) : ∀ n : Nat, ∃ out, covP f a (a + (n : Int)) out
  | 0 => ⟨[], by show a = a + ((0 : Nat) : Int); omega⟩
  | n + 1 => by
    obtain ⟨out, h⟩ := cov_ex f a n
    have e : a + ((n + 1 : Nat) : Int) = a + (n : Int) + 1 := by omega
    rw [e]
    have hf : ∀ d, a + (n : Int) ≤ d → d < a + (n : Int) + 1 → f d = f (a + (n : Int)) := fun d h1 h2 => by rw [show d = a + (n : Int) by omega]
    by_cases hl : ∃ s, out.getLast? = some s ∧ s.2.2 = f (a + (n : Int))
    · obtain ⟨⟨x, y, v⟩, hs, hv⟩ := hl
      have ho : out = out.dropLast ++ [(x, y, v)] := by
        have hne : out ≠ [] := by intro e; rw [e] at hs; cases hs
        have := List.dropLast_concat_getLast hne
        rw [List.getLast?_eq_some_getLast hne] at hs
        rw [Option.some.inj hs] at this
        exact this.symm
      rw [ho] at h
      obtain rfl := cov_last h
      have hv : v = f (a + (n : Int)) := hv
      exact ⟨_, covP_ext (by omega) (fun d h1 h2 => by rw [hv]; exact hf d h1 h2) h⟩
    · exact ⟨_, covP_snoc (by omega) hf h (fun s hs e => hl ⟨s, hs, e⟩)⟩
theorem seg_ex (f : Int → Int) (a b : Int) : ∃ out, segF f a b out := by
  unfold segF
  by_cases hm : mayB a b = true
  · have := (mayB_iff.1 hm).2.1
    obtain ⟨out, h⟩ := cov_ex f a (b - a).toNat
    rw [show a + ((b - a).toNat : Int) = b by omega] at h
    exact ⟨out, by rw [if_pos hm]; exact h⟩
  · exact ⟨[], by rw [if_neg hm]⟩
end Corr
namespace Go.Proofs.Ytockjcainkoifaa
set_option maxRecDepth 8000
open Go.RowKit Corr
set_option linter.unusedVariables false
end Go.Proofs.Ytockjcainkoifaa
namespace Corr
set_option maxRecDepth 8000
open Go Go.RowKit
def kf1 : Int → Int := putF (fun _ => 0) 3 7 5
def kf2 : Int → Int := putF kf1 5 9 5
def kf3 : Int → Int := putF kf2 4 6 0
def kf4 : Int → Int := putF kf3 0 6 1
theorem kf2_eq (d : Int) : kf2 d = if 5 ≤ d ∧ d < 9 then 5 else if 3 ≤ d ∧ d < 7 then 5 else 0 := by
  unfold kf2 kf1 putF updF
  rw [if_pos (show mayB 5 9 = true by decide), if_pos (show mayB 3 7 = true by decide)]
theorem kf4_eq (d : Int) : kf4 d = if 4 ≤ d ∧ d < 6 then 0 else if 5 ≤ d ∧ d < 9 then 5 else if 3 ≤ d ∧ d < 7 then 5 else 0 := by
  unfold kf4 putF
  rw [if_neg (show ¬ mayB 0 6 = true by decide)]
  unfold kf3 putF updF
  rw [if_pos (show mayB 4 6 = true by decide)]
  show (if 4 ≤ d ∧ d < 6 then 0 else kf2 d) = _
  rw [kf2_eq]
theorem kseg2 : segF kf2 1 3652060 [(1, 3, 0), (3, 9, 5), (9, 3652060, 0)] := by
  unfold segF
  rw [if_pos (by decide)]
  refine ⟨rfl, by decide, fun d h1 h2 => ?_, fun t ht => ?_, rfl, by decide, fun d h1 h2 => ?_, fun t ht => ?_, rfl, by decide, fun d h1 h2 => ?_, fun t ht => ?_, rfl⟩
  all_goals first
  | (rw [kf2_eq]; simp only at h1 h2 ⊢; (repeat' split) <;> omega)
  | (simp at ht; subst ht; decide)
  | (simp at ht; done)
  | (simp at ht; subst ht; simp)
theorem kseg4 (b : Int) (hb : 9 < b) (hb2 : b ≤ 3652060) : segF kf4 1 b [(1, 3, 0), (3, 4, 5), (4, 6, 0), (6, 9, 5), (9, b, 0)] := by
  unfold segF
  rw [if_pos (mayB_iff.2 ⟨by decide, by omega, hb2⟩)]
  refine ⟨rfl, by decide, fun d h1 h2 => ?_, fun t ht => ?_, rfl, by decide, fun d h1 h2 => ?_, fun t ht => ?_, rfl, by decide, fun d h1 h2 => ?_, fun t ht => ?_, rfl, by decide, fun d h1 h2 => ?_, fun t ht => ?_, rfl, hb, fun d h1 h2 => ?_, fun t ht => ?_, rfl⟩
  all_goals first
  | (rw [kf4_eq]; simp only at h1 h2 ⊢; (repeat' split) <;> omega)
  | (simp at ht; subst ht; decide)
  | (simp at ht; done)
  | (simp at ht; subst ht; simp)
theorem new_itm3 (w : World) (l : ItL) (T : TypeId) (n c : Nat) (hn : l.length = n) (hc : n ≤ c) : Itm (w.alloc (.cells (cells3 l).toArray T)) (some ⟨w.heap.size, 0, none⟩) n c l :=
  ⟨by rw [cells3_len, hn], hc, fun _ => ⟨w.heap.size, 0, rfl, by simp, fun i v hx => by
    have := new_cells w (cells3 l) T i v hx
    rwa [show (⟨w.heap.size, 0, none⟩ : Addr).add i = ⟨w.heap.size, 0 + i, none⟩ by unfold Addr.add; simp; intro h; omega] at this⟩⟩
end Corr
namespace Go.Proofs.Ytockjcainkoifaa
set_option maxRecDepth 8000
open Go.RowKit Corr
set_option linter.unusedVariables false
set_option linter.unusedSimpArgs false
set_option maxHeartbeats 4000000 in
theorem tlknown_any {Rep : RepL} (K : TlK Rep) (w : World) : Calls Try.prog 8 #[] w fun e w' => e = .returned (.bool true) ∧ Below w.heap.size w w' := by
  have HK := Lib.hid K
  clear K
  go_enter Try.func8, Try.ntmps8
  go_wp2_with fail
  refine (sep_tmake HK.out (Sep.nil w)).mono ?_
  rintro e w1 ⟨q, rfl, s1⟩
  have HS1 := Lib.hid (show Sep w [tlT HK.out.toTlOk (.pointer (some q)) 0 (fun _ => 0)] w1 from s1)
  clear s1
  go_wp2_with fail
  refine (sep_tput HK.out HS1.out (i := 0) rfl (by decide) 3 7 5).mono ?_
  rintro e w2 ⟨rfl, s2⟩
  have HS2 := Lib.hid (show Sep w [tlT HK.out.toTlOk (.pointer (some q)) 1 kf1] w2 from s2)
  clear s2 HS1
  rw [show putR 3 7 = 0 by decide]
  go_wp2_with fail
  refine (sep_tput HK.out HS2.out (i := 0) rfl (by decide) 5 9 5).mono ?_
  rintro e w3 ⟨rfl, s3⟩
  have HS3 := Lib.hid (show Sep w [tlT HK.out.toTlOk (.pointer (some q)) 2 kf2] w3 from s3)
  clear s3 HS2
  rw [show putR 5 9 = 0 by decide]
  go_wp2_with fail
  refine (sep_tpieces HK.out HS3.out (i := 0) rfl (by decide) kseg2).mono ?_
  rintro e w4 ⟨rfl, b4⟩
  have HS4 := Lib.hid (HS3.out.keep b4)
  clear b4 HS3
  rw [show ((cntV [(1, 3, 0), (3, 9, 5), (9, 3652060, 0)] : Nat) : Int) = 1 by decide]
  go_wp2_with fail
  refine (sep_tput HK.out HS4.out (i := 0) rfl (by decide) 4 6 0).mono ?_
  rintro e w5 ⟨rfl, s5⟩
  have HS5 := Lib.hid (show Sep w [tlT HK.out.toTlOk (.pointer (some q)) 3 kf3] w5 from s5)
  clear s5 HS4
  rw [show putR 4 6 = 0 by decide]
  go_wp2_with fail
  refine (sep_tput HK.out HS5.out (i := 0) rfl (by decide) 0 6 1).mono ?_
  rintro e w6 ⟨rfl, s6⟩
  have HS6 := Lib.hid (show Sep w [tlT HK.out.toTlOk (.pointer (some q)) 4 kf4] w6 from s6)
  clear s6 HS5
  rw [show putR 0 6 = 15 by decide]
  go_wp2_with fail
  refine (sep_tpieces HK.out HS6.out (i := 0) rfl (by decide) (kseg4 3652060 (by decide) (by decide))).mono ?_
  rintro e w7 ⟨rfl, b7⟩
  have HS7 := Lib.hid (HS6.out.keep b7)
  clear b7 HS6
  rw [show ((cntV [(1, 3, 0), (3, 4, 5), (4, 6, 0), (6, 9, 5), (9, 3652060, 0)] : Nat) : Int) = 2 by decide]
  go_wp2_with fail
  refine (sep_tsegs HK.out HS7.out (i := 0) rfl (by decide) 1 10).mono ?_
  rintro e w8 ⟨out, A8, n8, c8, rfl, hsg, o8, b8⟩
  obtain rfl := segF_one hsg (kseg4 10 (by decide) (by decide))
  have HI := Lib.hid (new_itm3 w8 [(1, 3, 0), (3, 4, 5), (4, 6, 0), (6, 9, 5), (9, 10, 0)] 45 5 5 rfl (Nat.le_refl _))
  have hba := (Below.refl w8.heap.size w8).alloc (Nat.le_refl _) (.cells (cells3 [(1, 3, 0), (3, 4, 5), (4, 6, 0), (6, 9, 5), (9, 10, 0)]).toArray 45)
  have HO := Lib.hid ((own_lies o8).keep hba)
  have HB8 := Lib.hid (((HS7.out.keep b8).keep hba).bl)
  clear hsg o8 b8 hba HS7
  go_wp2_with fail
  refine (tsame_yes HO.out HI.out (by decide)).mono ?_
  rintro e w9 ⟨rfl, b9⟩
  have HB9 := Lib.hid (HB8.out.trans (b9.mono HB8.out.size))
  clear b9
  go_wp2_with fail
  go_ret
  exact ⟨rfl, HB9.out⟩
end Go.Proofs.Ytockjcainkoifaa

/- Contract of corrodyref08: Insert. (Written by wip/gen/genav3.py.) Contracts of corrodyref08: Delete, Same. (Written by wip/gen/genav4.py.) Contract of corrodyref08: Same. (Written by wip/gen/genav5.py.) -/
import Derived.Test.YtolmkagedlcjiaaAv2
import Derived.Deep.RegionLaw
import Derived.Deep.CutRange
import Derived.Deep.AppendLies
import Derived.Laws.IdiomStrings
import Derived.Deep.DeepCutAuto
import Derived.Deep.CutBlock
import Derived.Deep.RegionHeld3
namespace Corr
set_option maxRecDepth 8000
open Go Go.RowKit
/-- An item at its place. -/
def insI (x : It) (l : ItL) : ItL := l.take (cntI x l) ++ x :: l.drop (cntI x l)
theorem cntI_le (x : It) (l : ItL) : cntI x l ≤ l.length := by unfold cntI; exact (List.takeWhile_sublist _).length_le
/-- The document's tree in a block that may be written; its items in a row of someone's own. -/
structure RTreeW (T : TypeId) (w : World) (g : Nat) (M : Int) (A : Option Addr) (n c : Nat) (l : ItL) : Prop where
  b : Blk w g #[.int .i64 M, .slice A n c]
  o : w.ownsRow 0 T 3 (.slice A n c) n (cells3 l)
section
variable {T : TypeId} {w w' : World} {g n c : Nat} {M : Int} {A : Option Addr} {l : ItL}
theorem RTreeW.r (h : RTreeW T w g M A n c l) : RTree w g A n c l := ⟨h.b.get 1 rfl, own_lies h.o⟩
theorem RTreeW.keep (h : RTreeW T w g M A n c l) (hb : Below w.heap.size w w') : RTreeW T w' g M A n c l := ⟨h.b.keep hb, own_keep h.o hb⟩
theorem RTreeW.sz (h : RTreeW T w g M A n c l) : g < w.heap.size := h.b.sz
theorem RTreeW.len (h : RTreeW T w g M A n c l) : l.length = n := Itm.count h.r.i
end
/-- What a call leaves that changed the tree at g: a new row, named by its cell. -/
def RetTree (T : TypeId) (g : Nat) (w : World) (l : ItL) (e : Ending) (w' : World) : Prop :=
  ∃ A n c w1, e = .returned (.int .i64 0) ∧ Below w.heap.size w w1 ∧ w1.ownsRow w.heap.size T 3 (.slice A n c) n (cells3 l) ∧ w' = w1.setCell ⟨g, 1, none⟩ (.slice A n c)
end Corr
namespace Go.Proofs.Ytolmkagedlcjiaa
set_option maxRecDepth 8000
open Go.RowKit Corr
set_option linter.unusedVariables false
set_option linter.unusedSimpArgs false
theorem elem_item : Elem Try.prog 22 30 (.agg #[.int .i64 0, .int .i64 0, .int .i64 0]) 3 24 := by
  obtain ⟨i, h0, h1, h2, h3⟩ := info_parts (show (Try.prog.info? 30).map (fun i => (i.zero, i.size, i.bytes)) = some (some (.agg #[.int .i64 0, .int .i64 0, .int .i64 0]), 3, 24) by kernel_rfl)
  exact ⟨Try.underlying22, ⟨i, h0, h1, h2, h3⟩, rfl, by decide⟩
end Go.Proofs.Ytolmkagedlcjiaa
namespace Corr
set_option maxRecDepth 8000
open Go Go.RowKit
/-- Without the item at its place. -/
def delI (x : It) (l : ItL) : ItL := l.take (cntI x l) ++ l.drop (cntI x l + 1)
theorem it_eq {l m : ItL} (hl : l.length = m.length) (h : ∀ (k : Nat) s t, l[k]? = some s → m[k]? = some t → s = t) : l = m := by
  apply List.ext_getElem?
  intro k
  by_cases hk : k < l.length
  · have h1 : l[k]? = some l[k] := List.getElem?_eq_getElem hk
    have h2 : m[k]? = some (m[k]'(by omega)) := List.getElem?_eq_getElem (by omega)
    rw [h1, h2, h k _ _ h1 h2]
  · rw [List.getElem?_eq_none (by omega), List.getElem?_eq_none (by omega)]
end Corr
namespace Go.Proofs.Ytolmkagedlcjiaa
set_option maxRecDepth 8000
open Go.RowKit Corr
set_option linter.unusedVariables false
set_option linter.unusedSimpArgs false
end Go.Proofs.Ytolmkagedlcjiaa
namespace Go.Proofs.Ytolmkagedlcjiaa
set_option maxRecDepth 8000
open Go.RowKit Corr
set_option linter.unusedVariables false
set_option linter.unusedSimpArgs false
set_option maxHeartbeats 4000000 in
theorem isame_any (A B : Option Addr) (n c m d : Nat) (l k : ItL) (w : World) (R : Itm w A n c l) (S : Itm w B m d k) (hn : n ≤ 1000000) (hm : m ≤ 1000000) : Calls Try.prog 13 #[.slice A n c, .slice B m d] w fun e w' => e = .returned (.bool (decide (l = k))) ∧ Below w.heap.size w w' := by
  have HR := Lib.hid R
  have HS := Lib.hid S
  have C1 := Lib.hid (Itm.count R)
  have C2 := Lib.hid (Itm.count S)
  clear R S
  by_cases hnm : n = m
  · subst hnm
    obtain ⟨D, hD⟩ : ∃ D, decide (l = k) = D := ⟨_, rfl⟩
    have HD := Lib.hid hD
    rw [hD]
    clear hD
    go_enter Try.func13, Try.ntmps13
    go_wp2_with fail
    go_loopw [5] (fun t wr => ∃ i : Nat, t = .int .i64 (i : Int) ∧ i ≤ n ∧ Hid (∀ j, j < i → ∀ s t, l[j]? = some s → k[j]? = some t → s = t) ∧ Below w.heap.size w wr) (fun t _ => (n - intOf t).toNat)
    case atStart => exact ⟨0, rfl, by omega, Lib.hid (fun j h => absurd h (by omega)), Below.refl _ _⟩
    case round =>
      obtain ⟨i, rfl, hi, HE, hb⟩ := hrel
      have HB := Lib.hid hb
      clear hb
      by_cases hlt : i < n
      · obtain ⟨g, off, s, rfl, hs, hg, c0, c1, c2⟩ := Itm.get (HR.out.keep HB.out) hlt
        obtain ⟨g2, off2, t, rfl, ht, hg2, d0, d1, d2⟩ := Itm.get (HS.out.keep HB.out) hlt
        obtain ⟨s1, s2, s3⟩ := s
        obtain ⟨t1, t2, t3⟩ := t
        have H1 := Lib.hid hs
        have H2 := Lib.hid ht
        clear hs ht
        have hi1 : (0 : Int) ≤ (i : Int) := by omega
        have hi2 : (i : Int) < (n : Int) := by omega
        by_cases p1 : s1 = t1
        · by_cases p2 : s2 = t2
          · by_cases p3 : s3 = t3
            · have HE2 : Hid (∀ j, j < i + 1 → ∀ s t, l[j]? = some s → k[j]? = some t → s = t) := Lib.hid (fun j hj s t h1 h2 => by
                by_cases e : j = i
                · subst e
                  rw [H1.out] at h1; rw [H2.out] at h2
                  rw [← Option.some.inj h1, ← Option.some.inj h2, p1, p2, p3]
                · exact HE.out j (by omega) s t h1 h2)
              have q1 : (s1 == t1) = true := by simpa using p1
              have q2 : (s2 == t2) = true := by simpa using p2
              have q3 : (s3 == t3) = true := by simpa using p3
              clear p1 p2 p3
              go_upto_region 6 with fail
              go_quiet (fail)
              have HB2 := Lib.hid (HB.out.trans (Joins.below_draws _ wr nq))
              go_wp2_with fail
              go_roundw
              case rel => exact ⟨i + 1, by go_num, by omega, HE2, HB2.out⟩
              case measure => simp [intOf]; omega
            · have q1 : (s1 == t1) = true := by simpa using p1
              have q2 : (s2 == t2) = true := by simpa using p2
              have HF := Lib.hid (show false = D by
                rw [← HD.out, eq_comm, decide_eq_false_iff_not]
                intro e
                have h1 := H1.out; have h2 := H2.out
                rw [e, h2] at h1
                have h3 := Option.some.inj h1
                exact p3 (by rw [Prod.mk.injEq, Prod.mk.injEq] at h3; exact h3.2.2.symm))
              have q3 : (s3 == t3) = false := by simpa using p3
              go_upto_region 6 with fail
              go_quiet (fail)
              have HB2 := Lib.hid (HB.out.trans (Joins.below_draws _ wr nq))
              go_wp2_with fail
              go_ret
              exact ⟨congrArg (fun b => Ending.returned (.bool b)) HF.out, HB2.out⟩
          · have q1 : (s1 == t1) = true := by simpa using p1
            have HF := Lib.hid (show false = D by
              rw [← HD.out, eq_comm, decide_eq_false_iff_not]
              intro e
              have h1 := H1.out; have h2 := H2.out
              rw [e, h2] at h1
              have h3 := Option.some.inj h1
              exact p2 (by rw [Prod.mk.injEq, Prod.mk.injEq] at h3; exact h3.2.1.symm))
            have q2 : (s2 == t2) = false := by simpa using p2
            go_upto_region 6 with fail
            go_quiet (fail)
            have HB2 := Lib.hid (HB.out.trans (Joins.below_draws _ wr nq))
            go_wp2_with fail
            go_ret
            exact ⟨congrArg (fun b => Ending.returned (.bool b)) HF.out, HB2.out⟩
        · have HF := Lib.hid (show false = D by
            rw [← HD.out, eq_comm, decide_eq_false_iff_not]
            intro e
            have h1 := H1.out; have h2 := H2.out
            rw [e, h2] at h1
            have h3 := Option.some.inj h1
            exact p1 (by rw [Prod.mk.injEq, Prod.mk.injEq] at h3; exact h3.1.symm))
          have q1 : (s1 == t1) = false := by simpa using p1
          go_upto_region 6 with fail
          go_quiet (fail)
          have HB2 := Lib.hid (HB.out.trans (Joins.below_draws _ wr nq))
          go_wp2_with fail
          go_ret
          exact ⟨congrArg (fun b => Ending.returned (.bool b)) HF.out, HB2.out⟩
      · have hin : i = n := by omega
        subst hin
        have HF := Lib.hid (show true = D by
          rw [← HD.out, eq_comm, decide_eq_true_iff]
          refine it_eq (by rw [C1.out, C2.out]) fun j s t h1 h2 => HE.out j ?_ s t h1 h2
          have := (List.getElem?_eq_some_iff.1 h1).1
          have := C1.out
          omega)
        go_wp2_with fail
        go_ret
        exact ⟨congrArg (fun b => Ending.returned (.bool b)) HF.out, HB.out⟩
  · have HF := Lib.hid (show decide (l = k) = false by
      rw [decide_eq_false_iff_not]
      intro e
      have := C1.out; have := C2.out; rw [← e] at this; omega)
    rw [HF.out]
    have q : ((n : Int) == (m : Int)) = false := by rw [beq_eq_false_iff_ne]; omega
    go_enter Try.func13, Try.ntmps13
    go_wp2_with fail
    go_ret
    exact ⟨rfl, Below.refl _ _⟩
end Go.Proofs.Ytolmkagedlcjiaa

/- Contracts of corrodyref07: Same, May, Days, Wide. -/
import Derived.Test.YtmolbckndkhhlaaSp6
namespace Corr
set_option maxRecDepth 8000
open Go Go.RowKit
def sumDays : SpL → Int
  | [] => 0
  | s :: r => (s.2 - s.1) + sumDays r
theorem sumDays_append (a b : SpL) : sumDays (a ++ b) = sumDays a + sumDays b := by
  induction a with
  | nil => simp [sumDays]
  | cons s r ih => simp [sumDays, ih]; omega
theorem sumDays_more {l : SpL} {k : Nat} {s : Int × Int} (h : l[k]? = some s) : sumDays (l.take (k + 1)) = sumDays (l.take k) + (s.2 - s.1) := by
  rw [List.take_add_one, h, sumDays_append]; simp [sumDays]
/-- Each later end put off by k. -/
def widenL (k : Int) (l : SpL) : SpL := l.map fun s => (s.1, s.2 + k)
theorem spn_eq {l m : SpL} (hl : l.length = m.length) (h : ∀ (k : Nat) s t, l[k]? = some s → m[k]? = some t → s = t) : l = m := by
  apply List.ext_getElem?
  intro k
  by_cases hk : k < l.length
  · have h1 : l[k]? = some l[k] := List.getElem?_eq_getElem hk
    have h2 : m[k]? = some (m[k]'(by omega)) := List.getElem?_eq_getElem (by omega)
    rw [h1, h2, h k _ _ h1 h2]
  · rw [List.getElem?_eq_none (by omega), List.getElem?_eq_none (by omega)]
end Corr
namespace Go.Proofs.Ytmolbckndkhhlaa
set_option maxRecDepth 8000
open Go.RowKit Corr
set_option linter.unusedVariables false
set_option linter.unusedSimpArgs false
set_option maxHeartbeats 2000000 in
theorem same_any (A B : Option Addr) (n c m d : Nat) (l k : SpL) (w : World) (R : Spn w A n c l) (S : Spn w B m d k) (hn : n ≤ 1000000) (hm : m ≤ 1000000) : Calls Try.prog 11 #[.slice A n c, .slice B m d] w fun e w' => e = .returned (.bool (decide (l = k))) ∧ Below w.heap.size w w' := by
  have HR := Lib.hid R
  have HS := Lib.hid S
  have C1 := Lib.hid R.count
  have C2 := Lib.hid S.count
  clear R S
  by_cases hnm : n = m
  · subst hnm
    obtain ⟨D, hD⟩ : ∃ D, decide (l = k) = D := ⟨_, rfl⟩
    have HD := Lib.hid hD
    rw [hD]
    clear hD
    go_enter Try.func11, Try.ntmps11
    go_wp2_with fail
    go_loopw [5] (fun t wr => ∃ i : Nat, t = .int .i64 (i : Int) ∧ i ≤ n ∧ Hid (∀ j, j < i → ∀ s t, l[j]? = some s → k[j]? = some t → s = t) ∧ Below w.heap.size w wr) (fun t _ => (n - intOf t).toNat)
    case atStart => exact ⟨0, rfl, by omega, Lib.hid (fun j h => absurd h (by omega)), Below.refl _ _⟩
    case round =>
      obtain ⟨i, rfl, hi, HE, hb⟩ := hrel
      have HB := Lib.hid hb
      clear hb
      by_cases hlt : i < n
      · obtain ⟨g, off, s, rfl, hs, hg, c0, c1⟩ := Spn.get (HR.out.keep HB.out) hlt
        obtain ⟨g2, off2, t, rfl, ht, hg2, c2, c3⟩ := Spn.get (HS.out.keep HB.out) hlt
        obtain ⟨s1, s2⟩ := s
        obtain ⟨t1, t2⟩ := t
        have H1 := Lib.hid hs
        have H2 := Lib.hid ht
        clear hs ht
        have hi1 : (0 : Int) ≤ (i : Int) := by omega
        have hi2 : (i : Int) < (n : Int) := by omega
        by_cases p1 : s1 = t1
        · by_cases p2 : s2 = t2
          · subst p1 p2
            have HE2 : Hid (∀ j, j < i + 1 → ∀ s t, l[j]? = some s → k[j]? = some t → s = t) := Lib.hid (fun j hj s t h1 h2 => by
              by_cases e : j = i
              · subst e
                rw [H1.out] at h1; rw [H2.out] at h2
                exact (Option.some.inj h1).symm.trans (Option.some.inj h2)
              · exact HE.out j (by omega) s t h1 h2)
            go_upto_region 6 with fail
            go_quiet (fail)
            have HB2 := Lib.hid (HB.out.trans (Joins.below_draws _ wr nq))
            go_wp2_with fail
            go_roundw
            case rel => exact ⟨i + 1, by go_num, by omega, HE2, HB2.out⟩
            case measure => simp [intOf]; omega
          · subst p1
            have HF := Lib.hid (show false = D by
              rw [← HD.out, eq_comm, decide_eq_false_iff_not]
              intro e
              have h1 := H1.out; have h2 := H2.out
              rw [e, h2] at h1
              exact p2 (congrArg Prod.snd (Option.some.inj h1)).symm)
            have q2 : (s2 == t2) = false := by simpa using p2
            go_upto_region 6 with fail
            go_quiet (fail)
            have HB2 := Lib.hid (HB.out.trans (Joins.below_draws _ wr nq))
            go_wp2_with fail
            go_ret
            exact ⟨congrArg (fun b => Ending.returned (.bool b)) HF.out, HB2.out⟩
        · have HF := Lib.hid (show false = D by
            rw [← HD.out, eq_comm, decide_eq_false_iff_not]
            intro e
            have h1 := H1.out; have h2 := H2.out
            rw [e, h2] at h1
            exact p1 (congrArg Prod.fst (Option.some.inj h1)).symm)
          have q1 : (s1 == t1) = false := by simpa using p1
          go_upto_region 6 with fail
          go_quiet (fail)
          have HB2 := Lib.hid (HB.out.trans (Joins.below_draws _ wr nq))
          go_wp2_with fail
          go_ret
          exact ⟨congrArg (fun b => Ending.returned (.bool b)) HF.out, HB2.out⟩
      · have hin : i = n := by omega
        subst hin
        have HF := Lib.hid (show true = D by
          rw [← HD.out, eq_comm, decide_eq_true_iff]
          refine spn_eq (by rw [C1.out, C2.out]) fun j s t h1 h2 => HE.out j ?_ s t h1 h2
          have := (List.getElem?_eq_some_iff.1 h1).1
          have := C1.out
          omega)
        go_wp2_with fail
        go_ret
        exact ⟨congrArg (fun b => Ending.returned (.bool b)) HF.out, HB.out⟩
  · have HF := Lib.hid (show decide (l = k) = false by
      rw [decide_eq_false_iff_not]
      intro e
      have := C1.out; have := C2.out; rw [← e] at this; omega)
    rw [HF.out]
    have q : ((n : Int) == (m : Int)) = false := by rw [beq_eq_false_iff_ne]; omega
    go_enter Try.func11, Try.ntmps11
    go_wp2_with fail
    go_ret
    exact ⟨rfl, Below.refl _ _⟩
end Go.Proofs.Ytmolbckndkhhlaa

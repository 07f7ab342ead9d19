/- The contract of corrodyref14.Same. (Written by wip/gen/genlx5.py.) -/
import Derived.Test.YtfceoehfellpgaaGreatDoorLx4
import Derived.BigQuiet
namespace Corr
set_option maxRecDepth 8000
open Go Go.RowKit
theorem cellsT_at : ∀ {l : List Tk} {i : Nat} {s : Tk}, l[i]? = some s → (cellsT l)[i * 5]? = some (.int .u8 s.1) ∧ (cellsT l)[i * 5 + 1]? = some (.string s.2.1) ∧ (cellsT l)[i * 5 + 2]? = some (.int .i64 s.2.2.1) ∧ (cellsT l)[i * 5 + 3]? = some (.int .i64 s.2.2.2.1) ∧ (cellsT l)[i * 5 + 4]? = some (.int .i64 s.2.2.2.2)
  | [], _, _, h => by simp at h
  | x :: r, 0, s, h => by simp at h; subst h; exact ⟨rfl, rfl, rfl, rfl, rfl⟩
  | x :: r, i + 1, s, h => by
    have := cellsT_at (l := r) (i := i) (by simpa using h)
    rw [show (i + 1) * 5 = i * 5 + 1 + 1 + 1 + 1 + 1 by omega, show i * 5 + 1 + 1 + 1 + 1 + 1 + 1 = (i * 5 + 1) + 1 + 1 + 1 + 1 + 1 by omega, show i * 5 + 1 + 1 + 1 + 1 + 1 + 2 = (i * 5 + 2) + 1 + 1 + 1 + 1 + 1 by omega, show i * 5 + 1 + 1 + 1 + 1 + 1 + 3 = (i * 5 + 3) + 1 + 1 + 1 + 1 + 1 by omega, show i * 5 + 1 + 1 + 1 + 1 + 1 + 4 = (i * 5 + 4) + 1 + 1 + 1 + 1 + 1 by omega]
    simpa [cellsT] using this
abbrev Tks (w : World) (A : Option Addr) (n c : Nat) (l : List Tk) : Prop := Lies w 5 A n c (cellsT l)
theorem Tks.count {w : World} {A : Option Addr} {n c : Nat} {l : List Tk} (h : Tks w A n c l) : l.length = n := by
  have := h.len; rw [cellsT_len] at this; omega
theorem Tks.get {w : World} {A : Option Addr} {n c : Nat} {l : List Tk} (h : Tks w A n c l) {k : Nat} (hk : k < n) :
    ∃ g off s, A = some ⟨g, off, none⟩ ∧ l[k]? = some s ∧ g < w.heap.size ∧ w.cell? ⟨g, off + k * 5, none⟩ = some (.int .u8 s.1) ∧ w.cell? ⟨g, off + k * 5 + 1, none⟩ = some (.string s.2.1) ∧ w.cell? ⟨g, off + k * 5 + 2, none⟩ = some (.int .i64 s.2.2.1) ∧ w.cell? ⟨g, off + k * 5 + 3, none⟩ = some (.int .i64 s.2.2.2.1) ∧ w.cell? ⟨g, off + k * 5 + 4, none⟩ = some (.int .i64 s.2.2.2.2) := by
  obtain ⟨g, off, hA, hg, hc⟩ := h.at_ (by omega)
  have hl := h.count
  have hs : l[k]? = some (l[k]'(by omega)) := List.getElem?_eq_getElem (by omega)
  have h3 := cellsT_at hs
  refine ⟨g, off, _, hA, hs, hg, hc _ _ h3.1, ?_, ?_, ?_, ?_⟩
  · have := hc _ _ h3.2.1; rw [← Nat.add_assoc] at this; exact this
  · have := hc _ _ h3.2.2.1; rw [← Nat.add_assoc] at this; exact this
  · have := hc _ _ h3.2.2.2.1; rw [← Nat.add_assoc] at this; exact this
  · have := hc _ _ h3.2.2.2.2; rw [← Nat.add_assoc] at this; exact this
theorem tok_eq {l m : List Tk} (hl : l.length = m.length) (h : ∀ (k : Nat) s t, l[k]? = some s → m[k]? = some t → s = t) : l = m := by
  apply List.ext_getElem?
  intro k
  by_cases hk : k < l.length
  · have h1 : l[k]? = some l[k] := List.getElem?_eq_getElem hk
    have h2 : m[k]? = some (m[k]'(by omega)) := List.getElem?_eq_getElem (by omega)
    rw [h1, h2, h k _ _ h1 h2]
  · rw [List.getElem?_eq_none (by omega), List.getElem?_eq_none (by omega)]
theorem ba_same {a b : ByteArray} : a.toList = b.toList ↔ a = b := by
  rw [Lib.toList_data, Lib.toList_data]
  constructor
  · intro h; exact ByteArray.ext (Array.toList_inj.1 h)
  · intro h; rw [h]
end Corr
namespace Go.Proofs.YtfceoehfellpgaaGreatDoor
set_option maxRecDepth 8000
open Go.RowKit Corr
set_option linter.unusedVariables false
set_option linter.unusedSimpArgs false
set_option maxHeartbeats 4000000 in
theorem same14_any (A B : Option Addr) (q c q' d : Nat) (l k : List Tk) (w : World) (T : Tks w A q c l) (U : Tks w B q' d k) (hn : q ≤ 100000) (hm : q' ≤ 100000) : Calls Tryz.prog 7 #[.slice A q c, .slice B q' d] w fun e w' => e = .returned (.bool (decide (l = k))) ∧ Below w.heap.size w w' := by
  have C1 := Lib.hid T.count
  have C2 := Lib.hid U.count
  have HR := Lib.hid T
  have HS := Lib.hid U
  clear T U
  by_cases hqr : q = q'
  · subst hqr
    have dn : ((q : Int) != (q : Int)) = false := by simp
    go_enter Tryz.func7, Tryz.ntmps7
    go_wp2_with fail
    go_loopw [5] (fun t wr => ∃ i : Nat, t = .int .i64 (i : Int) ∧ i ≤ q ∧ Hid (∀ j, j < i → ∀ s t, l[j]? = some s → k[j]? = some t → s = t) ∧ Below w.heap.size w wr) (fun t _ => (q - intOf t).toNat)
    case atStart => exact ⟨0, rfl, by omega, Lib.hid (fun j h => absurd h (by omega)), Below.refl _ _⟩
    case round =>
      obtain ⟨i, rfl, hi, HE, hb⟩ := hrel
      have HB := Lib.hid hb
      clear hb
      by_cases hlt : i < q
      · obtain ⟨g5, off, s, rfl, hs, hg, c0, c1, c2, c3, c4⟩ := Tks.get (HR.out.keep HB.out) hlt
        obtain ⟨g6, off2, t, rfl, ht, hg2, d0, d1, d2, d3, d4⟩ := Tks.get (HS.out.keep HB.out) hlt
        obtain ⟨s1, s2, s3, s4, s5⟩ := s
        obtain ⟨t1, t2, t3, t4, t5⟩ := t
        have H1 := Lib.hid hs
        have H2 := Lib.hid ht
        clear hs ht
        simp only [] at c0 c1 c2 c3 c4 d0 d1 d2 d3 d4
        have hi1 : (0 : Int) ≤ (i : Int) := by omega
        have hi2 : (i : Int) < (q : Int) := by omega
        by_cases p1 : s1 = t1
        · by_cases p2 : s2 = t2
          · by_cases p3 : s3 = t3
            · by_cases p4 : s4 = t4
              · by_cases p5 : s5 = t5
                · have HE2 : Hid (∀ j, j < i + 1 → ∀ s t, l[j]? = some s → k[j]? = some t → s = t) := Lib.hid (fun j hj s t h1 h2 => by
                    by_cases e : j = i
                    · subst e
                      rw [H1.out] at h1; rw [H2.out] at h2
                      rw [← Option.some.inj h1, ← Option.some.inj h2, p1, p2, p3, p4, p5]
                    · exact HE.out j (by omega) s t h1 h2)
                  have q1 : (s1 == t1) = true := by simpa using p1
                  have q2 : (s2.toList == t2.toList) = true := by rw [p2]; simp
                  have q3 : (s3 == t3) = true := by simpa using p3
                  have q4 : (s4 == t4) = true := by simpa using p4
                  have q5 : (s5 == t5) = true := by simpa using p5
                  clear p1 p2 p3 p4 p5
                  go_upto_region 6 with fail
                  go_quiet (fail)
                  have HB2 := Lib.hid (HB.out.trans (Joins.below_draws _ wr nq))
                  go_wp2_with fail
                  go_roundw
                  case rel => exact ⟨i + 1, by go_num, by omega, HE2, HB2.out⟩
                  case measure => simp [intOf]; omega
                · have HF := Lib.hid (show false = decide (l = k) by
                    rw [eq_comm, decide_eq_false_iff_not]
                    intro e
                    have h1 := H1.out; have h2 := H2.out
                    rw [e, h2] at h1
                    have h3 := Option.some.inj h1
                    exact p5 (by rw [Prod.mk.injEq, Prod.mk.injEq, Prod.mk.injEq, Prod.mk.injEq] at h3; exact h3.2.2.2.2.symm))
                  have q1 : (s1 == t1) = true := by simpa using p1
                  have q2 : (s2.toList == t2.toList) = true := by rw [p2]; simp
                  have q3 : (s3 == t3) = true := by simpa using p3
                  have q4 : (s4 == t4) = true := by simpa using p4
                  have q5 : (s5 == t5) = false := by simpa using p5
                  clear p1 p2 p3 p4 p5
                  go_upto_region 6 with fail
                  go_quiet (fail)
                  have HB2 := Lib.hid (HB.out.trans (Joins.below_draws _ wr nq))
                  go_wp2_with fail
                  go_ret
                  exact ⟨congrArg (fun b => Ending.returned (.bool b)) HF.out, HB2.out⟩
              · have HF := Lib.hid (show false = decide (l = k) by
                  rw [eq_comm, decide_eq_false_iff_not]
                  intro e
                  have h1 := H1.out; have h2 := H2.out
                  rw [e, h2] at h1
                  have h3 := Option.some.inj h1
                  exact p4 (by rw [Prod.mk.injEq, Prod.mk.injEq, Prod.mk.injEq, Prod.mk.injEq] at h3; exact h3.2.2.2.1.symm))
                have q1 : (s1 == t1) = true := by simpa using p1
                have q2 : (s2.toList == t2.toList) = true := by rw [p2]; simp
                have q3 : (s3 == t3) = true := by simpa using p3
                have q4 : (s4 == t4) = false := by simpa using p4
                clear p1 p2 p3 p4
                go_upto_region 6 with fail
                go_quiet (fail)
                have HB2 := Lib.hid (HB.out.trans (Joins.below_draws _ wr nq))
                go_wp2_with fail
                go_ret
                exact ⟨congrArg (fun b => Ending.returned (.bool b)) HF.out, HB2.out⟩
            · have HF := Lib.hid (show false = decide (l = k) by
                rw [eq_comm, decide_eq_false_iff_not]
                intro e
                have h1 := H1.out; have h2 := H2.out
                rw [e, h2] at h1
                have h3 := Option.some.inj h1
                exact p3 (by rw [Prod.mk.injEq, Prod.mk.injEq, Prod.mk.injEq, Prod.mk.injEq] at h3; exact h3.2.2.1.symm))
              have q1 : (s1 == t1) = true := by simpa using p1
              have q2 : (s2.toList == t2.toList) = true := by rw [p2]; simp
              have q3 : (s3 == t3) = false := by simpa using p3
              clear p1 p2 p3
              go_upto_region 6 with fail
              go_quiet (fail)
              have HB2 := Lib.hid (HB.out.trans (Joins.below_draws _ wr nq))
              go_wp2_with fail
              go_ret
              exact ⟨congrArg (fun b => Ending.returned (.bool b)) HF.out, HB2.out⟩
          · have HF := Lib.hid (show false = decide (l = k) by
              rw [eq_comm, decide_eq_false_iff_not]
              intro e
              have h1 := H1.out; have h2 := H2.out
              rw [e, h2] at h1
              have h3 := Option.some.inj h1
              exact p2 (by rw [Prod.mk.injEq, Prod.mk.injEq, Prod.mk.injEq, Prod.mk.injEq] at h3; exact h3.2.1.symm))
            have q1 : (s1 == t1) = true := by simpa using p1
            have q2 : (s2.toList == t2.toList) = false := by rw [Bool.eq_false_iff]; intro e; exact p2 (ba_same.1 (by simpa using e))
            clear p1 p2
            go_upto_region 6 with fail
            go_quiet (fail)
            have HB2 := Lib.hid (HB.out.trans (Joins.below_draws _ wr nq))
            go_wp2_with fail
            go_ret
            exact ⟨congrArg (fun b => Ending.returned (.bool b)) HF.out, HB2.out⟩
        · have HF := Lib.hid (show false = decide (l = k) by
            rw [eq_comm, decide_eq_false_iff_not]
            intro e
            have h1 := H1.out; have h2 := H2.out
            rw [e, h2] at h1
            have h3 := Option.some.inj h1
            exact p1 (by rw [Prod.mk.injEq, Prod.mk.injEq, Prod.mk.injEq, Prod.mk.injEq] at h3; exact h3.1.symm))
          have q1 : (s1 == t1) = false := by simpa using p1
          clear p1
          go_upto_region 6 with fail
          go_quiet (fail)
          have HB2 := Lib.hid (HB.out.trans (Joins.below_draws _ wr nq))
          go_wp2_with fail
          go_ret
          exact ⟨congrArg (fun b => Ending.returned (.bool b)) HF.out, HB2.out⟩
      · have hin : i = q := by omega
        have HF := Lib.hid (show true = decide (l = k) by
          rw [eq_comm, decide_eq_true_iff]
          refine tok_eq (by rw [C1.out, C2.out]) fun j s t h1 h2 => HE.out j ?_ s t h1 h2
          have := (List.getElem?_eq_some_iff.1 h1).1; have := C1.out; omega)
        have din : decide ((i : Int) < (q : Int)) = false := decide_eq_false (by omega)
        clear hin
        go_wp2_with fail
        go_ret
        exact ⟨congrArg (fun b => Ending.returned (.bool b)) HF.out, HB.out⟩
  · have HF := Lib.hid (show false = decide (l = k) by
      rw [eq_comm, decide_eq_false_iff_not]
      intro e
      apply hqr
      rw [← C1.out, ← C2.out, e])
    have dn : ((q : Int) != (q' : Int)) = true := by simp; omega
    clear hqr
    go_enter Tryz.func7, Tryz.ntmps7
    go_wp2_with fail
    go_ret
    exact ⟨congrArg (fun b => Ending.returned (.bool b)) HF.out, Below.refl _ _⟩
end Go.Proofs.YtfceoehfellpgaaGreatDoor

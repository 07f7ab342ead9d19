/- Contract of package avl: balance. (Written by wip/gen/genak8.py.) -/
import Derived.Test.YtolmkagedlcjiaaAkBal
import Derived.Test.YtolmkagedlcjiaaRelSet
import Derived.Shelf.Abstract
import Derived.Deep.RegionWith
namespace Go.Proofs.Ytolmkagedlcjiaa
set_option maxRecDepth 8000
open Go.RowKit Corr
set_option linter.unusedVariables false
set_option linter.unusedSimpArgs false
/-- What balance leaves. -/
def RetBal (g n c gK : Nat) (M r : Int) (K : KnL) (a b : PT) (p : Nat) (x : It) (w : World) (e : Ending) (w' : World) : Prop := ∃ K' t', e = .returned (.int .i64 t'.root) ∧ Ar 59 w' g M r (some ⟨gK, 0, none⟩) n c K' ∧ BalR K K' a b p x t' ∧ Off (inAr g (some ⟨gK, 0, none⟩) n c) w w'
set_option maxHeartbeats 8000000 in
theorem bal_ok0 (g n c gK : Nat) (M r : Int) (K : KnL) (p : Nat) (k : Kn) (a b : PT) (w : World) (H : Ar 59 w g M r (some ⟨gK, 0, none⟩) n c K) (hk : K[p]? = some k) (hl : k.l = a.root) (hr : k.r = b.root) (ra : Rp K a) (rb : Rp K b) (nd : (PT.node a p k.it b).places.Nodup) (ba : a.bal) (bb : b.bal) (h1 : a.height ≤ 800) (h2 : b.height ≤ 800) (hn : n ≤ 2000) (hc : (b.height : Int) ≤ a.height ∧ (a.height : Int) ≤ b.height + 1) :
    Calls Try.prog 51 #[.pointer (some ⟨g, 0, none⟩), .int .i64 (p : Int)] w (RetBal g n c gK M r K a b p k.it w) := by
  have HA := Lib.hid H
  have HK := Lib.hid hk
  have HND := Lib.hid nd
  have HEL := Lib.hid hl
  have HER := Lib.hid hr
  have HRA := Lib.hid ra
  have HRB := Lib.hid rb
  have HBA := Lib.hid ba
  have HBB := Lib.hid bb
  obtain ⟨ha, hha⟩ : ∃ h : Int, (a.height : Int) = h := ⟨_, rfl⟩
  obtain ⟨hb, hhb⟩ : ∃ h : Int, (b.height : Int) = h := ⟨_, rfl⟩
  have HHA := Lib.hid hha
  have HHB := Lib.hid hhb
  have HHL := Lib.hid (fun (w' : World) (hb : Below w.heap.size w w') => show Calls Try.prog 53 #[.pointer (some ⟨g, 0, none⟩), .agg #[.int .i64 (p : Int), .int .i64 0]] w' (fun e w2 => e = .returned (.int .i64 ha) ∧ Below w'.heap.size w' w2) from height_any g n c gK M r K p false k ha w' (H.keep hb) hk (by rw [← hha]; show hAt K k.l _; rw [hl]; exact ra.hAt) hn)
  have HHR := Lib.hid (fun (w' : World) (hbb : Below w.heap.size w w') => show Calls Try.prog 53 #[.pointer (some ⟨g, 0, none⟩), .agg #[.int .i64 (p : Int), .int .i64 1]] w' (fun e w2 => e = .returned (.int .i64 hb) ∧ Below w'.heap.size w' w2) from height_any g n c gK M r K p true k hb w' (H.keep hbb) hk (by rw [← hhb]; show hAt K k.r _; rw [hr]; exact rb.hAt) hn)
  have bz1 : 0 ≤ ha ∧ ha ≤ 800 := by omega
  have bz2 : 0 ≤ hb ∧ hb ≤ 800 := by omega
  have HC := Lib.hid hc
  have d0 : decide (ha < hb) = false := decide_eq_false (by omega)
  obtain ⟨d, hd⟩ : ∃ d : Int, ha - hb = d := ⟨_, rfl⟩
  have hw1 : IntKind.i64.wrap (ha - hb) = d := by rw [IntWalk.i64_in _ (by omega)]; exact hd
  have d1 : decide (d ≤ 1) = true := decide_eq_true (by omega)
  have hw2 : IntKind.i64.wrap (1 - 0) = 1 := by decide
  have HB0 := Lib.hid (Below.refl w.heap.size w)
  clear nd hl hr ra rb ba bb hha hhb hc hd H hk
  go_enter Try.func51, Try.ntmps51
  go_wp2_with fail
  refine (HHL.out w HB0.out).mono ?_
  rintro e w1 ⟨rfl, hb1⟩
  have HB1 := Lib.hid (HB0.out.trans (hb1.mono HB0.out.size))
  clear hb1
  go_wp2_with fail
  refine (HHR.out w1 HB1.out).mono ?_
  rintro e w2 ⟨rfl, hb2⟩
  have HB2 := Lib.hid (HB1.out.trans (hb2.mono HB1.out.size))
  clear hb2
  go_wp2_with fail
  refine (HHL.out w2 HB2.out).mono ?_
  rintro e w3 ⟨rfl, hb3⟩
  have HB3 := Lib.hid (HB2.out.trans (hb3.mono HB2.out.size))
  clear hb3
  go_wp2_with fail
  refine (HHR.out w3 HB3.out).mono ?_
  rintro e w4 ⟨rfl, hb4⟩
  have HB4 := Lib.hid (HB3.out.trans (hb4.mono HB3.out.size))
  clear hb4
  clear HHL HHR
  go_wp2_with fail
  have HNP := HND.out
  simp only [PT.places, List.nodup_append, List.nodup_cons, List.mem_cons] at HNP
  have HPA : p ∉ a.places := fun e => HNP.2.2 p e p (.inl rfl) rfl
  have HPB : p ∉ b.places := HNP.2.1.1
  clear HNP
  have hca := HRA.out.chld HPA (by omega)
  have hcb := HRB.out.chld HPB (by omega)
  rw [← HEL.out] at hca
  rw [← HER.out] at hcb
  refine (settle_any g n c gK M r K p k a.ht b.ht w4 (HA.out.keep HB4.out) HK.out hca hcb hn).mono ?_
  rintro e w5 ⟨rfl, hA5, hF5⟩
  have HA5 := Lib.hid hA5
  have HF5 := Lib.hid ((Off.of HB4.out).trans hF5)
  have hrp : Rp (K.set p (k.settled a.ht b.ht)) (.node a p k.it b) := ⟨by
    rw [get_set HK.out, show k = Kn.mk k.it a.root b.root k.h k.t by rw [← HEL.out, ← HER.out], settled_tree], HRA.out.set HPA _, HRB.out.set HPB _⟩
  have HRP := Lib.hid hrp
  clear hca hcb hA5 hF5 hrp HPA HPB
  go_wp2_with fail
  go_ret
  exact ⟨_, _, rfl, HA5.out, BalR.none HRP.out (fun j hj => List.getElem?_set_ne (Ne.symm hj)) HBA.out HBB.out (by have := HC.out; omega) (by have := HC.out; omega), HF5.out⟩
set_option maxHeartbeats 8000000 in
theorem bal_ok1 (g n c gK : Nat) (M r : Int) (K : KnL) (p : Nat) (k : Kn) (a b : PT) (w : World) (H : Ar 59 w g M r (some ⟨gK, 0, none⟩) n c K) (hk : K[p]? = some k) (hl : k.l = a.root) (hr : k.r = b.root) (ra : Rp K a) (rb : Rp K b) (nd : (PT.node a p k.it b).places.Nodup) (ba : a.bal) (bb : b.bal) (h1 : a.height ≤ 800) (h2 : b.height ≤ 800) (hn : n ≤ 2000) (hc : (a.height : Int) < b.height ∧ (b.height : Int) ≤ a.height + 1) :
    Calls Try.prog 51 #[.pointer (some ⟨g, 0, none⟩), .int .i64 (p : Int)] w (RetBal g n c gK M r K a b p k.it w) := by
  have HA := Lib.hid H
  have HK := Lib.hid hk
  have HND := Lib.hid nd
  have HEL := Lib.hid hl
  have HER := Lib.hid hr
  have HRA := Lib.hid ra
  have HRB := Lib.hid rb
  have HBA := Lib.hid ba
  have HBB := Lib.hid bb
  obtain ⟨ha, hha⟩ : ∃ h : Int, (a.height : Int) = h := ⟨_, rfl⟩
  obtain ⟨hb, hhb⟩ : ∃ h : Int, (b.height : Int) = h := ⟨_, rfl⟩
  have HHA := Lib.hid hha
  have HHB := Lib.hid hhb
  have HHL := Lib.hid (fun (w' : World) (hb : Below w.heap.size w w') => show Calls Try.prog 53 #[.pointer (some ⟨g, 0, none⟩), .agg #[.int .i64 (p : Int), .int .i64 0]] w' (fun e w2 => e = .returned (.int .i64 ha) ∧ Below w'.heap.size w' w2) from height_any g n c gK M r K p false k ha w' (H.keep hb) hk (by rw [← hha]; show hAt K k.l _; rw [hl]; exact ra.hAt) hn)
  have HHR := Lib.hid (fun (w' : World) (hbb : Below w.heap.size w w') => show Calls Try.prog 53 #[.pointer (some ⟨g, 0, none⟩), .agg #[.int .i64 (p : Int), .int .i64 1]] w' (fun e w2 => e = .returned (.int .i64 hb) ∧ Below w'.heap.size w' w2) from height_any g n c gK M r K p true k hb w' (H.keep hbb) hk (by rw [← hhb]; show hAt K k.r _; rw [hr]; exact rb.hAt) hn)
  have bz1 : 0 ≤ ha ∧ ha ≤ 800 := by omega
  have bz2 : 0 ≤ hb ∧ hb ≤ 800 := by omega
  have HC := Lib.hid hc
  have d0 : decide (ha < hb) = true := decide_eq_true (by omega)
  obtain ⟨d, hd⟩ : ∃ d : Int, hb - ha = d := ⟨_, rfl⟩
  have hw1 : IntKind.i64.wrap (hb - ha) = d := by rw [IntWalk.i64_in _ (by omega)]; exact hd
  have d1 : decide (d ≤ 1) = true := decide_eq_true (by omega)
  have hw2 : IntKind.i64.wrap (1 - 1) = 0 := by decide
  have HB0 := Lib.hid (Below.refl w.heap.size w)
  clear nd hl hr ra rb ba bb hha hhb hc hd H hk
  go_enter Try.func51, Try.ntmps51
  go_wp2_with fail
  refine (HHL.out w HB0.out).mono ?_
  rintro e w1 ⟨rfl, hb1⟩
  have HB1 := Lib.hid (HB0.out.trans (hb1.mono HB0.out.size))
  clear hb1
  go_wp2_with fail
  refine (HHR.out w1 HB1.out).mono ?_
  rintro e w2 ⟨rfl, hb2⟩
  have HB2 := Lib.hid (HB1.out.trans (hb2.mono HB1.out.size))
  clear hb2
  go_wp2_with fail
  refine (HHR.out w2 HB2.out).mono ?_
  rintro e w3 ⟨rfl, hb3⟩
  have HB3 := Lib.hid (HB2.out.trans (hb3.mono HB2.out.size))
  clear hb3
  go_wp2_with fail
  refine (HHL.out w3 HB3.out).mono ?_
  rintro e w4 ⟨rfl, hb4⟩
  have HB4 := Lib.hid (HB3.out.trans (hb4.mono HB3.out.size))
  clear hb4
  clear HHL HHR
  go_wp2_with fail
  have HNP := HND.out
  simp only [PT.places, List.nodup_append, List.nodup_cons, List.mem_cons] at HNP
  have HPA : p ∉ a.places := fun e => HNP.2.2 p e p (.inl rfl) rfl
  have HPB : p ∉ b.places := HNP.2.1.1
  clear HNP
  have hca := HRA.out.chld HPA (by omega)
  have hcb := HRB.out.chld HPB (by omega)
  rw [← HEL.out] at hca
  rw [← HER.out] at hcb
  refine (settle_any g n c gK M r K p k a.ht b.ht w4 (HA.out.keep HB4.out) HK.out hca hcb hn).mono ?_
  rintro e w5 ⟨rfl, hA5, hF5⟩
  have HA5 := Lib.hid hA5
  have HF5 := Lib.hid ((Off.of HB4.out).trans hF5)
  have hrp : Rp (K.set p (k.settled a.ht b.ht)) (.node a p k.it b) := ⟨by
    rw [get_set HK.out, show k = Kn.mk k.it a.root b.root k.h k.t by rw [← HEL.out, ← HER.out], settled_tree], HRA.out.set HPA _, HRB.out.set HPB _⟩
  have HRP := Lib.hid hrp
  clear hca hcb hA5 hF5 hrp HPA HPB
  go_wp2_with fail
  go_ret
  exact ⟨_, _, rfl, HA5.out, BalR.none HRP.out (fun j hj => List.getElem?_set_ne (Ne.symm hj)) HBA.out HBB.out (by have := HC.out; omega) (by have := HC.out; omega), HF5.out⟩
end Go.Proofs.Ytolmkagedlcjiaa

/- The law SpansLaws. -/
import Derived.Test.YtmolbckndkhhlaaSpSets
namespace Go.Proofs.Ytmolbckndkhhlaa
set_option maxRecDepth 8000
open Go.RowKit Corr
set_option linter.unusedVariables false
set_option linter.unusedSimpArgs false
theorem splaws_one (K : SpK) (A B : Option Addr) (n c m d : Nat) (a b : SpL) (w : World) (Sa : Spn w A n c a) (Sb : Spn w B m d b) (k n' : Int) (hn : ¬ n ≤ 60) : Calls Try.prog 5 #[.slice A n c, .slice B m d, .int .i64 k, .int .i64 n'] w fun e w' => e = .returned (.bool true) ∧ Below w.heap.size w w' := by
  have HK := Lib.hid K
  have HA := Lib.hid Sa.count
  have HB0 := Lib.hid Sb.count
  have Ra := Lib.hid Sa
  have Rb := Lib.hid Sb
  clear Sa Sb
  have HB := Lib.hid (Below.refl w.heap.size w)
  have bl := (Below.refl w.heap.size w).alloc (Nat.le_refl _) (.cells #[.slice A n c, .slice B m d] 22)
  have tc := two_cells w (.slice A n c) (.slice B m d) 22
  have Na := Lib.hid (Ra.out.keep bl)
  have Nb := Lib.hid (Rb.out.keep bl)
  clear Ra Rb
  have Ra := Na
  have Rb := Nb
  clear Na Nb
  have NB := Lib.hid (HB.out.trans ((bl).mono HB.out.size))
  clear HB
  have HB := NB
  clear NB
  clear bl
  go_enter Try.func5, Try.ntmps5
  go_wp2_with fail
  refine (great_one A B n c m d _ _ tc.1 hn).mono ?_
  rintro e w1 ⟨rfl, b1⟩
  have Na := Lib.hid (Ra.out.keep b1)
  have Nb := Lib.hid (Rb.out.keep b1)
  clear Ra Rb
  have Ra := Na
  have Rb := Nb
  clear Na Nb
  have NB := Lib.hid (HB.out.trans ((b1).mono HB.out.size))
  clear HB
  have HB := NB
  clear NB
  clear b1
  clear tc
  clear hn
  go_wp2_with fail
  refine (spknown_any HK.out _).mono ?_
  rintro e w2 ⟨rfl, b2⟩
  have Na := Lib.hid (Ra.out.keep b2)
  have Nb := Lib.hid (Rb.out.keep b2)
  clear Ra Rb
  have Ra := Na
  have Rb := Nb
  clear Na Nb
  have NB := Lib.hid (HB.out.trans ((b2).mono HB.out.size))
  clear HB
  have HB := NB
  clear NB
  clear b2
  go_wp2_with fail
  go_ret
  exact ⟨rfl, HB.out⟩
theorem splaws_other (K : SpK) (A B : Option Addr) (n c m d : Nat) (a b : SpL) (w : World) (Sa : Spn w A n c a) (Sb : Spn w B m d b) (k n' : Int) (hn : n ≤ 60) (hm : ¬ m ≤ 60) : Calls Try.prog 5 #[.slice A n c, .slice B m d, .int .i64 k, .int .i64 n'] w fun e w' => e = .returned (.bool true) ∧ Below w.heap.size w w' := by
  have HK := Lib.hid K
  have HA := Lib.hid Sa.count
  have HB0 := Lib.hid Sb.count
  have Ra := Lib.hid Sa
  have Rb := Lib.hid Sb
  clear Sa Sb
  have HB := Lib.hid (Below.refl w.heap.size w)
  have bl := (Below.refl w.heap.size w).alloc (Nat.le_refl _) (.cells #[.slice A n c, .slice B m d] 22)
  have tc := two_cells w (.slice A n c) (.slice B m d) 22
  have Na := Lib.hid (Ra.out.keep bl)
  have Nb := Lib.hid (Rb.out.keep bl)
  clear Ra Rb
  have Ra := Na
  have Rb := Nb
  clear Na Nb
  have NB := Lib.hid (HB.out.trans ((bl).mono HB.out.size))
  clear HB
  have HB := NB
  clear NB
  clear bl
  go_enter Try.func5, Try.ntmps5
  go_wp2_with fail
  refine (great_other _ _ _ _ _ _ _ _ tc.1 tc.2 hn hm).mono ?_
  rintro e w1 ⟨rfl, b1⟩
  have Na := Lib.hid (Ra.out.keep b1)
  have Nb := Lib.hid (Rb.out.keep b1)
  clear Ra Rb
  have Ra := Na
  have Rb := Nb
  clear Na Nb
  have NB := Lib.hid (HB.out.trans ((b1).mono HB.out.size))
  clear HB
  have HB := NB
  clear NB
  clear b1
  clear tc
  clear hn hm
  go_wp2_with fail
  refine (spknown_any HK.out _).mono ?_
  rintro e w2 ⟨rfl, b2⟩
  have Na := Lib.hid (Ra.out.keep b2)
  have Nb := Lib.hid (Rb.out.keep b2)
  clear Ra Rb
  have Ra := Na
  have Rb := Nb
  clear Na Nb
  have NB := Lib.hid (HB.out.trans ((b2).mono HB.out.size))
  clear HB
  have HB := NB
  clear NB
  clear b2
  go_wp2_with fail
  go_ret
  exact ⟨rfl, HB.out⟩
theorem splaws_odd0 (K : SpK) (A B : Option Addr) (n c m d : Nat) (a b : SpL) (w : World) (Sa : Spn w A n c a) (Sb : Spn w B m d b) (k n' : Int) (hn : n ≤ 60) (hm : m ≤ 60) (h0 : k < 0) : Calls Try.prog 5 #[.slice A n c, .slice B m d, .int .i64 k, .int .i64 n'] w fun e w' => e = .returned (.bool true) ∧ Below w.heap.size w w' := by
  have f0 : decide (k < 0) = true := decide_eq_true (by omega)
  clear h0
  have HK := Lib.hid K
  have HA := Lib.hid Sa.count
  have HB0 := Lib.hid Sb.count
  have Ra := Lib.hid Sa
  have Rb := Lib.hid Sb
  clear Sa Sb
  have HB := Lib.hid (Below.refl w.heap.size w)
  have bl := (Below.refl w.heap.size w).alloc (Nat.le_refl _) (.cells #[.slice A n c, .slice B m d] 22)
  have tc := two_cells w (.slice A n c) (.slice B m d) 22
  have Na := Lib.hid (Ra.out.keep bl)
  have Nb := Lib.hid (Rb.out.keep bl)
  clear Ra Rb
  have Ra := Na
  have Rb := Nb
  clear Na Nb
  have NB := Lib.hid (HB.out.trans ((bl).mono HB.out.size))
  clear HB
  have HB := NB
  clear NB
  clear bl
  go_enter Try.func5, Try.ntmps5
  go_wp2_with fail
  refine (great_two _ _ _ _ _ _ _ _ tc.1 tc.2 hn hm).mono ?_
  rintro e w1 ⟨rfl, b1⟩
  have Na := Lib.hid (Ra.out.keep b1)
  have Nb := Lib.hid (Rb.out.keep b1)
  clear Ra Rb
  have Ra := Na
  have Rb := Nb
  clear Na Nb
  have NB := Lib.hid (HB.out.trans ((b1).mono HB.out.size))
  clear HB
  have HB := NB
  clear NB
  clear b1
  clear tc
  clear hn hm
  go_wp2_with fail
  refine (spknown_any HK.out _).mono ?_
  rintro e w2 ⟨rfl, b2⟩
  have Na := Lib.hid (Ra.out.keep b2)
  have Nb := Lib.hid (Rb.out.keep b2)
  clear Ra Rb
  have Ra := Na
  have Rb := Nb
  clear Na Nb
  have NB := Lib.hid (HB.out.trans ((b2).mono HB.out.size))
  clear HB
  have HB := NB
  clear NB
  clear b2
  go_wp2_with fail
  go_ret
  exact ⟨rfl, HB.out⟩
theorem splaws_odd1 (K : SpK) (A B : Option Addr) (n c m d : Nat) (a b : SpL) (w : World) (Sa : Spn w A n c a) (Sb : Spn w B m d b) (k n' : Int) (hn : n ≤ 60) (hm : m ≤ 60) (h0 : ¬ (k < 0)) (h1 : k > 10000000) : Calls Try.prog 5 #[.slice A n c, .slice B m d, .int .i64 k, .int .i64 n'] w fun e w' => e = .returned (.bool true) ∧ Below w.heap.size w w' := by
  have f0 : decide (k < 0) = false := decide_eq_false (by omega)
  have f1 : decide (k > 10000000) = true := decide_eq_true (by omega)
  clear h0 h1
  have HK := Lib.hid K
  have HA := Lib.hid Sa.count
  have HB0 := Lib.hid Sb.count
  have Ra := Lib.hid Sa
  have Rb := Lib.hid Sb
  clear Sa Sb
  have HB := Lib.hid (Below.refl w.heap.size w)
  have bl := (Below.refl w.heap.size w).alloc (Nat.le_refl _) (.cells #[.slice A n c, .slice B m d] 22)
  have tc := two_cells w (.slice A n c) (.slice B m d) 22
  have Na := Lib.hid (Ra.out.keep bl)
  have Nb := Lib.hid (Rb.out.keep bl)
  clear Ra Rb
  have Ra := Na
  have Rb := Nb
  clear Na Nb
  have NB := Lib.hid (HB.out.trans ((bl).mono HB.out.size))
  clear HB
  have HB := NB
  clear NB
  clear bl
  go_enter Try.func5, Try.ntmps5
  go_wp2_with fail
  refine (great_two _ _ _ _ _ _ _ _ tc.1 tc.2 hn hm).mono ?_
  rintro e w1 ⟨rfl, b1⟩
  have Na := Lib.hid (Ra.out.keep b1)
  have Nb := Lib.hid (Rb.out.keep b1)
  clear Ra Rb
  have Ra := Na
  have Rb := Nb
  clear Na Nb
  have NB := Lib.hid (HB.out.trans ((b1).mono HB.out.size))
  clear HB
  have HB := NB
  clear NB
  clear b1
  clear tc
  clear hn hm
  go_wp2_with fail
  refine (spknown_any HK.out _).mono ?_
  rintro e w2 ⟨rfl, b2⟩
  have Na := Lib.hid (Ra.out.keep b2)
  have Nb := Lib.hid (Rb.out.keep b2)
  clear Ra Rb
  have Ra := Na
  have Rb := Nb
  clear Na Nb
  have NB := Lib.hid (HB.out.trans ((b2).mono HB.out.size))
  clear HB
  have HB := NB
  clear NB
  clear b2
  go_wp2_with fail
  go_ret
  exact ⟨rfl, HB.out⟩
theorem splaws_odd2 (K : SpK) (A B : Option Addr) (n c m d : Nat) (a b : SpL) (w : World) (Sa : Spn w A n c a) (Sb : Spn w B m d b) (k n' : Int) (hn : n ≤ 60) (hm : m ≤ 60) (h0 : ¬ (k < 0)) (h1 : ¬ (k > 10000000)) (h2 : n' < 0) : Calls Try.prog 5 #[.slice A n c, .slice B m d, .int .i64 k, .int .i64 n'] w fun e w' => e = .returned (.bool true) ∧ Below w.heap.size w w' := by
  have f0 : decide (k < 0) = false := decide_eq_false (by omega)
  have f1 : decide (k > 10000000) = false := decide_eq_false (by omega)
  have f2 : decide (n' < 0) = true := decide_eq_true (by omega)
  clear h0 h1 h2
  have HK := Lib.hid K
  have HA := Lib.hid Sa.count
  have HB0 := Lib.hid Sb.count
  have Ra := Lib.hid Sa
  have Rb := Lib.hid Sb
  clear Sa Sb
  have HB := Lib.hid (Below.refl w.heap.size w)
  have bl := (Below.refl w.heap.size w).alloc (Nat.le_refl _) (.cells #[.slice A n c, .slice B m d] 22)
  have tc := two_cells w (.slice A n c) (.slice B m d) 22
  have Na := Lib.hid (Ra.out.keep bl)
  have Nb := Lib.hid (Rb.out.keep bl)
  clear Ra Rb
  have Ra := Na
  have Rb := Nb
  clear Na Nb
  have NB := Lib.hid (HB.out.trans ((bl).mono HB.out.size))
  clear HB
  have HB := NB
  clear NB
  clear bl
  go_enter Try.func5, Try.ntmps5
  go_wp2_with fail
  refine (great_two _ _ _ _ _ _ _ _ tc.1 tc.2 hn hm).mono ?_
  rintro e w1 ⟨rfl, b1⟩
  have Na := Lib.hid (Ra.out.keep b1)
  have Nb := Lib.hid (Rb.out.keep b1)
  clear Ra Rb
  have Ra := Na
  have Rb := Nb
  clear Na Nb
  have NB := Lib.hid (HB.out.trans ((b1).mono HB.out.size))
  clear HB
  have HB := NB
  clear NB
  clear b1
  clear tc
  clear hn hm
  go_wp2_with fail
  refine (spknown_any HK.out _).mono ?_
  rintro e w2 ⟨rfl, b2⟩
  have Na := Lib.hid (Ra.out.keep b2)
  have Nb := Lib.hid (Rb.out.keep b2)
  clear Ra Rb
  have Ra := Na
  have Rb := Nb
  clear Na Nb
  have NB := Lib.hid (HB.out.trans ((b2).mono HB.out.size))
  clear HB
  have HB := NB
  clear NB
  clear b2
  go_wp2_with fail
  go_ret
  exact ⟨rfl, HB.out⟩
theorem splaws_odd3 (K : SpK) (A B : Option Addr) (n c m d : Nat) (a b : SpL) (w : World) (Sa : Spn w A n c a) (Sb : Spn w B m d b) (k n' : Int) (hn : n ≤ 60) (hm : m ≤ 60) (h0 : ¬ (k < 0)) (h1 : ¬ (k > 10000000)) (h2 : ¬ (n' < 0)) (h3 : n' > 10000000) : Calls Try.prog 5 #[.slice A n c, .slice B m d, .int .i64 k, .int .i64 n'] w fun e w' => e = .returned (.bool true) ∧ Below w.heap.size w w' := by
  have f0 : decide (k < 0) = false := decide_eq_false (by omega)
  have f1 : decide (k > 10000000) = false := decide_eq_false (by omega)
  have f2 : decide (n' < 0) = false := decide_eq_false (by omega)
  have f3 : decide (n' > 10000000) = true := decide_eq_true (by omega)
  clear h0 h1 h2 h3
  have HK := Lib.hid K
  have HA := Lib.hid Sa.count
  have HB0 := Lib.hid Sb.count
  have Ra := Lib.hid Sa
  have Rb := Lib.hid Sb
  clear Sa Sb
  have HB := Lib.hid (Below.refl w.heap.size w)
  have bl := (Below.refl w.heap.size w).alloc (Nat.le_refl _) (.cells #[.slice A n c, .slice B m d] 22)
  have tc := two_cells w (.slice A n c) (.slice B m d) 22
  have Na := Lib.hid (Ra.out.keep bl)
  have Nb := Lib.hid (Rb.out.keep bl)
  clear Ra Rb
  have Ra := Na
  have Rb := Nb
  clear Na Nb
  have NB := Lib.hid (HB.out.trans ((bl).mono HB.out.size))
  clear HB
  have HB := NB
  clear NB
  clear bl
  go_enter Try.func5, Try.ntmps5
  go_wp2_with fail
  refine (great_two _ _ _ _ _ _ _ _ tc.1 tc.2 hn hm).mono ?_
  rintro e w1 ⟨rfl, b1⟩
  have Na := Lib.hid (Ra.out.keep b1)
  have Nb := Lib.hid (Rb.out.keep b1)
  clear Ra Rb
  have Ra := Na
  have Rb := Nb
  clear Na Nb
  have NB := Lib.hid (HB.out.trans ((b1).mono HB.out.size))
  clear HB
  have HB := NB
  clear NB
  clear b1
  clear tc
  clear hn hm
  go_wp2_with fail
  refine (spknown_any HK.out _).mono ?_
  rintro e w2 ⟨rfl, b2⟩
  have Na := Lib.hid (Ra.out.keep b2)
  have Nb := Lib.hid (Rb.out.keep b2)
  clear Ra Rb
  have Ra := Na
  have Rb := Nb
  clear Na Nb
  have NB := Lib.hid (HB.out.trans ((b2).mono HB.out.size))
  clear HB
  have HB := NB
  clear NB
  clear b2
  go_wp2_with fail
  go_ret
  exact ⟨rfl, HB.out⟩
set_option maxHeartbeats 4000000 in
theorem splaws_few (K : SpK) (A B : Option Addr) (n c m d : Nat) (a b : SpL) (w : World) (Sa : Spn w A n c a) (Sb : Spn w B m d b) (k n' : Int) (hn : n ≤ 60) (hm : m ≤ 60) (h0 : ¬ (k < 0)) (h1 : ¬ (k > 10000000)) (h2 : ¬ (n' < 0)) (h3 : ¬ (n' > 10000000)) : Calls Try.prog 5 #[.slice A n c, .slice B m d, .int .i64 k, .int .i64 n'] w fun e w' => e = .returned (.bool true) ∧ Below w.heap.size w w' := by
  have f0 : decide (k < 0) = false := decide_eq_false (by omega)
  have f1 : decide (k > 10000000) = false := decide_eq_false (by omega)
  have f2 : decide (n' < 0) = false := decide_eq_false (by omega)
  have f3 : decide (n' > 10000000) = false := decide_eq_false (by omega)
  have hs : IntKind.i64.wrap (k + n') = k + n' := IntWalk.i64_in _ (by omega)
  have HW := Lib.hid (wide_wide (k := k) (n := n') (by omega) (by omega) a)
  obtain ⟨s, hs2⟩ : ∃ s, IntKind.i64.wrap (k + n') = s := ⟨_, rfl⟩
  rw [← hs, hs2] at HW
  clear hs
  have hU := sum_union a b
  obtain ⟨D1, hD1⟩ : ∃ D, sumDays (twoL 0 (twoL 0 a b) []) = D := ⟨_, rfl⟩
  obtain ⟨D2, hD2⟩ : ∃ D, sumDays (twoL 0 (twoL 1 a b) []) = D := ⟨_, rfl⟩
  obtain ⟨D3, hD3⟩ : ∃ D, sumDays (twoL 0 a []) = D := ⟨_, rfl⟩
  obtain ⟨D4, hD4⟩ : ∃ D, sumDays (twoL 0 b []) = D := ⟨_, rfl⟩
  rw [hD1, hD2, hD3, hD4] at hU
  obtain ⟨S, s1⟩ : ∃ S, IntKind.i64.wrap (D1 + D2) = S := ⟨_, rfl⟩
  have s2 : IntKind.i64.wrap (D3 + D4) = S := by rw [← hU]; exact s1
  have s3 : (S != S) = false := by simp
  have HD1 := Lib.hid hD1
  have HD2 := Lib.hid hD2
  have HD3 := Lib.hid hD3
  have HD4 := Lib.hid hD4
  clear hD1 hD2 hD3 hD4 hU h0 h1 h2 h3
  have HK := Lib.hid K
  have HA := Lib.hid Sa.count
  have HB0 := Lib.hid Sb.count
  have Ra := Lib.hid Sa
  have Rb := Lib.hid Sb
  clear Sa Sb
  have HB := Lib.hid (Below.refl w.heap.size w)
  have bl := (Below.refl w.heap.size w).alloc (Nat.le_refl _) (.cells #[.slice A n c, .slice B m d] 22)
  have tc := two_cells w (.slice A n c) (.slice B m d) 22
  have Na := Lib.hid (Ra.out.keep bl)
  have Nb := Lib.hid (Rb.out.keep bl)
  clear Ra Rb
  have Ra := Na
  have Rb := Nb
  clear Na Nb
  have NB := Lib.hid (HB.out.trans ((bl).mono HB.out.size))
  clear HB
  have HB := NB
  clear NB
  clear bl
  go_enter Try.func5, Try.ntmps5
  go_wp2_with fail
  refine (great_two _ _ _ _ _ _ _ _ tc.1 tc.2 hn hm).mono ?_
  rintro e w1 ⟨rfl, b1⟩
  have Na := Lib.hid (Ra.out.keep b1)
  have Nb := Lib.hid (Rb.out.keep b1)
  clear Ra Rb
  have Ra := Na
  have Rb := Nb
  clear Na Nb
  have NB := Lib.hid (HB.out.trans ((b1).mono HB.out.size))
  clear HB
  have HB := NB
  clear NB
  clear b1
  clear tc
  have HN := Lib.hid hn
  have HM := Lib.hid hm
  clear hn hm
  go_wp2_with fail
  refine (HK.out.union _ _ _ _ _ _ _ _ _ Ra.out Rb.out (by have := HA.out; have := HN.out; omega) (by have := HB0.out; have := HM.out; omega)).mono ?_
  rintro e w2 ⟨Au, nu, cu, rfl, r2, b2⟩
  have Na := Lib.hid (Ra.out.keep b2)
  have Nb := Lib.hid (Rb.out.keep b2)
  clear Ra Rb
  have Ra := Na
  have Rb := Nb
  clear Na Nb
  have NB := Lib.hid (HB.out.trans ((b2).mono HB.out.size))
  clear HB
  have HB := NB
  clear NB
  have Ru := Lib.hid r2
  clear r2
  clear b2
  go_wp2_with fail
  refine (HK.out.meet _ _ _ _ _ _ _ _ _ Ra.out Rb.out (by have := HA.out; have := HN.out; omega) (by have := HB0.out; have := HM.out; omega)).mono ?_
  rintro e w3 ⟨Av, nv, cv, rfl, r3, b3⟩
  have Na := Lib.hid (Ra.out.keep b3)
  have Nb := Lib.hid (Rb.out.keep b3)
  have Nu := Lib.hid (Ru.out.keep b3)
  clear Ra Rb Ru
  have Ra := Na
  have Rb := Nb
  have Ru := Nu
  clear Na Nb Nu
  have NB := Lib.hid (HB.out.trans ((b3).mono HB.out.size))
  clear HB
  have HB := NB
  clear NB
  have Rv := Lib.hid r3
  clear r3
  clear b3
  go_wp2_with fail
  refine (HK.out.less _ _ _ _ _ _ _ _ _ Ra.out Rb.out (by have := HA.out; have := HN.out; omega) (by have := HB0.out; have := HM.out; omega)).mono ?_
  rintro e w4 ⟨Al, nl, cl, rfl, r4, b4⟩
  have Na := Lib.hid (Ra.out.keep b4)
  have Nb := Lib.hid (Rb.out.keep b4)
  have Nu := Lib.hid (Ru.out.keep b4)
  have Nv := Lib.hid (Rv.out.keep b4)
  clear Ra Rb Ru Rv
  have Ra := Na
  have Rb := Nb
  have Ru := Nu
  have Rv := Nv
  clear Na Nb Nu Nv
  have NB := Lib.hid (HB.out.trans ((b4).mono HB.out.size))
  clear HB
  have HB := NB
  clear NB
  have Rl := Lib.hid r4
  clear r4
  clear b4
  go_wp2_with fail
  refine (HK.out.union _ _ _ _ _ _ _ _ _ Rb.out Ra.out (by have := HB0.out; have := HM.out; omega) (by have := HA.out; have := HN.out; omega)).mono ?_
  rintro e w5 ⟨Ax, nx, cx, rfl, r5, b5⟩
  have Na := Lib.hid (Ra.out.keep b5)
  have Nb := Lib.hid (Rb.out.keep b5)
  have Nu := Lib.hid (Ru.out.keep b5)
  have Nv := Lib.hid (Rv.out.keep b5)
  have Nl := Lib.hid (Rl.out.keep b5)
  clear Ra Rb Ru Rv Rl
  have Ra := Na
  have Rb := Nb
  have Ru := Nu
  have Rv := Nv
  have Rl := Nl
  clear Na Nb Nu Nv Nl
  have NB := Lib.hid (HB.out.trans ((b5).mono HB.out.size))
  clear HB
  have HB := NB
  clear NB
  have Rx := Lib.hid r5
  clear r5
  clear b5
  go_wp2_with fail
  refine (same_yes Ru.out Rx.out (union_comm a b) (by have := HA.out; have := HN.out; have := HB0.out; have := HM.out; have := two_len 0 a b; omega)).mono ?_
  rintro e w6 ⟨rfl, b6⟩
  have Na := Lib.hid (Ra.out.keep b6)
  have Nb := Lib.hid (Rb.out.keep b6)
  have Nu := Lib.hid (Ru.out.keep b6)
  have Nv := Lib.hid (Rv.out.keep b6)
  have Nl := Lib.hid (Rl.out.keep b6)
  have Nx := Lib.hid (Rx.out.keep b6)
  clear Ra Rb Ru Rv Rl Rx
  have Ra := Na
  have Rb := Nb
  have Ru := Nu
  have Rv := Nv
  have Rl := Nl
  have Rx := Nx
  clear Na Nb Nu Nv Nl Nx
  have NB := Lib.hid (HB.out.trans ((b6).mono HB.out.size))
  clear HB
  have HB := NB
  clear NB
  clear b6
  clear Rx
  go_wp2_with fail
  refine (HK.out.meet _ _ _ _ _ _ _ _ _ Rb.out Ra.out (by have := HB0.out; have := HM.out; omega) (by have := HA.out; have := HN.out; omega)).mono ?_
  rintro e w7 ⟨Ax, nx, cx, rfl, r7, b7⟩
  have Na := Lib.hid (Ra.out.keep b7)
  have Nb := Lib.hid (Rb.out.keep b7)
  have Nu := Lib.hid (Ru.out.keep b7)
  have Nv := Lib.hid (Rv.out.keep b7)
  have Nl := Lib.hid (Rl.out.keep b7)
  clear Ra Rb Ru Rv Rl
  have Ra := Na
  have Rb := Nb
  have Ru := Nu
  have Rv := Nv
  have Rl := Nl
  clear Na Nb Nu Nv Nl
  have NB := Lib.hid (HB.out.trans ((b7).mono HB.out.size))
  clear HB
  have HB := NB
  clear NB
  have Rx := Lib.hid r7
  clear r7
  clear b7
  go_wp2_with fail
  refine (same_yes Rv.out Rx.out (meet_comm a b) (by have := HA.out; have := HN.out; have := HB0.out; have := HM.out; have := two_len 1 a b; omega)).mono ?_
  rintro e w8 ⟨rfl, b8⟩
  have Na := Lib.hid (Ra.out.keep b8)
  have Nb := Lib.hid (Rb.out.keep b8)
  have Nu := Lib.hid (Ru.out.keep b8)
  have Nv := Lib.hid (Rv.out.keep b8)
  have Nl := Lib.hid (Rl.out.keep b8)
  have Nx := Lib.hid (Rx.out.keep b8)
  clear Ra Rb Ru Rv Rl Rx
  have Ra := Na
  have Rb := Nb
  have Ru := Nu
  have Rv := Nv
  have Rl := Nl
  have Rx := Nx
  clear Na Nb Nu Nv Nl Nx
  have NB := Lib.hid (HB.out.trans ((b8).mono HB.out.size))
  clear HB
  have HB := NB
  clear NB
  clear b8
  clear Rx
  go_wp2_with fail
  refine (HK.out.union _ _ _ _ _ _ _ _ _ Rl.out Rb.out (by have := HA.out; have := HN.out; have := HB0.out; have := HM.out; have := two_len 2 a b; omega) (by have := HB0.out; have := HM.out; omega)).mono ?_
  rintro e w9 ⟨Ax, nx, cx, rfl, r9, b9⟩
  have Na := Lib.hid (Ra.out.keep b9)
  have Nb := Lib.hid (Rb.out.keep b9)
  have Nu := Lib.hid (Ru.out.keep b9)
  have Nv := Lib.hid (Rv.out.keep b9)
  have Nl := Lib.hid (Rl.out.keep b9)
  clear Ra Rb Ru Rv Rl
  have Ra := Na
  have Rb := Nb
  have Ru := Nu
  have Rv := Nv
  have Rl := Nl
  clear Na Nb Nu Nv Nl
  have NB := Lib.hid (HB.out.trans ((b9).mono HB.out.size))
  clear HB
  have HB := NB
  clear NB
  have Rx := Lib.hid r9
  clear r9
  clear b9
  go_wp2_with fail
  refine (same_yes Rx.out Ru.out (less_back a b) (by have := HA.out; have := HN.out; have := HB0.out; have := HM.out; have := two_len 2 a b; have := two_len 0 (twoL 2 a b) b; omega)).mono ?_
  rintro e w10 ⟨rfl, b10⟩
  have Na := Lib.hid (Ra.out.keep b10)
  have Nb := Lib.hid (Rb.out.keep b10)
  have Nu := Lib.hid (Ru.out.keep b10)
  have Nv := Lib.hid (Rv.out.keep b10)
  have Nl := Lib.hid (Rl.out.keep b10)
  have Nx := Lib.hid (Rx.out.keep b10)
  clear Ra Rb Ru Rv Rl Rx
  have Ra := Na
  have Rb := Nb
  have Ru := Nu
  have Rv := Nv
  have Rl := Nl
  have Rx := Nx
  clear Na Nb Nu Nv Nl Nx
  have NB := Lib.hid (HB.out.trans ((b10).mono HB.out.size))
  clear HB
  have HB := NB
  clear NB
  clear b10
  clear Rx
  go_wp2_with fail
  refine (HK.out.union _ _ _ _ _ _ _ _ _ Rl.out Rv.out (by have := HA.out; have := HN.out; have := HB0.out; have := HM.out; have := two_len 2 a b; omega) (by have := HA.out; have := HN.out; have := HB0.out; have := HM.out; have := two_len 1 a b; omega)).mono ?_
  rintro e w11 ⟨Ax, nx, cx, rfl, r11, b11⟩
  have Na := Lib.hid (Ra.out.keep b11)
  have Nb := Lib.hid (Rb.out.keep b11)
  have Nu := Lib.hid (Ru.out.keep b11)
  have Nv := Lib.hid (Rv.out.keep b11)
  have Nl := Lib.hid (Rl.out.keep b11)
  clear Ra Rb Ru Rv Rl
  have Ra := Na
  have Rb := Nb
  have Ru := Nu
  have Rv := Nv
  have Rl := Nl
  clear Na Nb Nu Nv Nl
  have NB := Lib.hid (HB.out.trans ((b11).mono HB.out.size))
  clear HB
  have HB := NB
  clear NB
  have Rx := Lib.hid r11
  clear r11
  clear b11
  go_wp2_with fail
  refine (HK.out.of _ _ _ _ _ Ra.out (by have := HA.out; have := HN.out; omega)).mono ?_
  rintro e w12 ⟨Ay, ny, cy, rfl, r12, b12⟩
  have Na := Lib.hid (Ra.out.keep b12)
  have Nb := Lib.hid (Rb.out.keep b12)
  have Nu := Lib.hid (Ru.out.keep b12)
  have Nv := Lib.hid (Rv.out.keep b12)
  have Nl := Lib.hid (Rl.out.keep b12)
  have Nx := Lib.hid (Rx.out.keep b12)
  clear Ra Rb Ru Rv Rl Rx
  have Ra := Na
  have Rb := Nb
  have Ru := Nu
  have Rv := Nv
  have Rl := Nl
  have Rx := Nx
  clear Na Nb Nu Nv Nl Nx
  have NB := Lib.hid (HB.out.trans ((b12).mono HB.out.size))
  clear HB
  have HB := NB
  clear NB
  have Ry := Lib.hid r12
  clear r12
  clear b12
  go_wp2_with fail
  refine (same_yes Rx.out Ry.out (less_meet a b) (by have := HA.out; have := HN.out; have := HB0.out; have := HM.out; have := two_len 1 a b; have := two_len 2 a b; have := two_len 0 (twoL 2 a b) (twoL 1 a b); omega)).mono ?_
  rintro e w13 ⟨rfl, b13⟩
  have Na := Lib.hid (Ra.out.keep b13)
  have Nb := Lib.hid (Rb.out.keep b13)
  have Nu := Lib.hid (Ru.out.keep b13)
  have Nv := Lib.hid (Rv.out.keep b13)
  have Nl := Lib.hid (Rl.out.keep b13)
  have Nx := Lib.hid (Rx.out.keep b13)
  have Ny := Lib.hid (Ry.out.keep b13)
  clear Ra Rb Ru Rv Rl Rx Ry
  have Ra := Na
  have Rb := Nb
  have Ru := Nu
  have Rv := Nv
  have Rl := Nl
  have Rx := Nx
  have Ry := Ny
  clear Na Nb Nu Nv Nl Nx Ny
  have NB := Lib.hid (HB.out.trans ((b13).mono HB.out.size))
  clear HB
  have HB := NB
  clear NB
  clear b13
  clear Rx
  clear Ry
  go_wp2_with fail
  refine (HK.out.meet _ _ _ _ _ _ _ _ _ Rl.out Rb.out (by have := HA.out; have := HN.out; have := HB0.out; have := HM.out; have := two_len 2 a b; omega) (by have := HB0.out; have := HM.out; omega)).mono ?_
  rintro e w14 ⟨Ax, nx, cx, rfl, r14, b14⟩
  have Na := Lib.hid (Ra.out.keep b14)
  have Nb := Lib.hid (Rb.out.keep b14)
  have Nu := Lib.hid (Ru.out.keep b14)
  have Nv := Lib.hid (Rv.out.keep b14)
  have Nl := Lib.hid (Rl.out.keep b14)
  clear Ra Rb Ru Rv Rl
  have Ra := Na
  have Rb := Nb
  have Ru := Nu
  have Rv := Nv
  have Rl := Nl
  clear Na Nb Nu Nv Nl
  have NB := Lib.hid (HB.out.trans ((b14).mono HB.out.size))
  clear HB
  have HB := NB
  clear NB
  have Rx := Lib.hid r14
  clear r14
  clear b14
  have z0 : ((nx : Int) != 0) = false := by
    have h := Rx.out.count
    rw [less_none] at h
    simp only [List.length_nil] at h
    subst h; rfl
  clear Rx
  go_wp2_with fail
  refine (((HD1.out ▸ HK.out.days _ _ _ _ _ Ru.out (by have := HA.out; have := HN.out; have := HB0.out; have := HM.out; have := two_len 0 a b; omega) : Calls _ _ _ _ fun e w' => e = .returned (.int .i64 D1) ∧ Below _ _ w'))).mono ?_
  rintro e w15 ⟨rfl, b15⟩
  have Na := Lib.hid (Ra.out.keep b15)
  have Nb := Lib.hid (Rb.out.keep b15)
  have Nu := Lib.hid (Ru.out.keep b15)
  have Nv := Lib.hid (Rv.out.keep b15)
  have Nl := Lib.hid (Rl.out.keep b15)
  clear Ra Rb Ru Rv Rl
  have Ra := Na
  have Rb := Nb
  have Ru := Nu
  have Rv := Nv
  have Rl := Nl
  clear Na Nb Nu Nv Nl
  have NB := Lib.hid (HB.out.trans ((b15).mono HB.out.size))
  clear HB
  have HB := NB
  clear NB
  clear b15
  go_wp2_with fail
  refine (((HD2.out ▸ HK.out.days _ _ _ _ _ Rv.out (by have := HA.out; have := HN.out; have := HB0.out; have := HM.out; have := two_len 1 a b; omega) : Calls _ _ _ _ fun e w' => e = .returned (.int .i64 D2) ∧ Below _ _ w'))).mono ?_
  rintro e w16 ⟨rfl, b16⟩
  have Na := Lib.hid (Ra.out.keep b16)
  have Nb := Lib.hid (Rb.out.keep b16)
  have Nu := Lib.hid (Ru.out.keep b16)
  have Nv := Lib.hid (Rv.out.keep b16)
  have Nl := Lib.hid (Rl.out.keep b16)
  clear Ra Rb Ru Rv Rl
  have Ra := Na
  have Rb := Nb
  have Ru := Nu
  have Rv := Nv
  have Rl := Nl
  clear Na Nb Nu Nv Nl
  have NB := Lib.hid (HB.out.trans ((b16).mono HB.out.size))
  clear HB
  have HB := NB
  clear NB
  clear b16
  go_wp2_with fail
  refine (((HD3.out ▸ HK.out.days _ _ _ _ _ Ra.out (by have := HA.out; have := HN.out; omega) : Calls _ _ _ _ fun e w' => e = .returned (.int .i64 D3) ∧ Below _ _ w'))).mono ?_
  rintro e w17 ⟨rfl, b17⟩
  have Na := Lib.hid (Ra.out.keep b17)
  have Nb := Lib.hid (Rb.out.keep b17)
  have Nu := Lib.hid (Ru.out.keep b17)
  have Nv := Lib.hid (Rv.out.keep b17)
  have Nl := Lib.hid (Rl.out.keep b17)
  clear Ra Rb Ru Rv Rl
  have Ra := Na
  have Rb := Nb
  have Ru := Nu
  have Rv := Nv
  have Rl := Nl
  clear Na Nb Nu Nv Nl
  have NB := Lib.hid (HB.out.trans ((b17).mono HB.out.size))
  clear HB
  have HB := NB
  clear NB
  clear b17
  go_wp2_with fail
  refine (((HD4.out ▸ HK.out.days _ _ _ _ _ Rb.out (by have := HB0.out; have := HM.out; omega) : Calls _ _ _ _ fun e w' => e = .returned (.int .i64 D4) ∧ Below _ _ w'))).mono ?_
  rintro e w18 ⟨rfl, b18⟩
  have Na := Lib.hid (Ra.out.keep b18)
  have Nb := Lib.hid (Rb.out.keep b18)
  have Nu := Lib.hid (Ru.out.keep b18)
  have Nv := Lib.hid (Rv.out.keep b18)
  have Nl := Lib.hid (Rl.out.keep b18)
  clear Ra Rb Ru Rv Rl
  have Ra := Na
  have Rb := Nb
  have Ru := Nu
  have Rv := Nv
  have Rl := Nl
  clear Na Nb Nu Nv Nl
  have NB := Lib.hid (HB.out.trans ((b18).mono HB.out.size))
  clear HB
  have HB := NB
  clear NB
  clear b18
  clear z0
  go_wp2_with fail
  refine (HK.out.wide _ _ _ _ k _ Ra.out (by have := HA.out; have := HN.out; omega)).mono ?_
  rintro e w19 ⟨Ax, nx, cx, rfl, r19, b19⟩
  have Na := Lib.hid (Ra.out.keep b19)
  have Nb := Lib.hid (Rb.out.keep b19)
  have Nu := Lib.hid (Ru.out.keep b19)
  have Nv := Lib.hid (Rv.out.keep b19)
  have Nl := Lib.hid (Rl.out.keep b19)
  clear Ra Rb Ru Rv Rl
  have Ra := Na
  have Rb := Nb
  have Ru := Nu
  have Rv := Nv
  have Rl := Nl
  clear Na Nb Nu Nv Nl
  have NB := Lib.hid (HB.out.trans ((b19).mono HB.out.size))
  clear HB
  have HB := NB
  clear NB
  have Rx := Lib.hid r19
  clear r19
  clear b19
  go_wp2_with fail
  refine (HK.out.wide _ _ _ _ n' _ Rx.out (by have := HA.out; have := HN.out; have := HB0.out; have := HM.out; have := wide_len k a; omega)).mono ?_
  rintro e w20 ⟨Ay, ny, cy, rfl, r20, b20⟩
  have Na := Lib.hid (Ra.out.keep b20)
  have Nb := Lib.hid (Rb.out.keep b20)
  have Nu := Lib.hid (Ru.out.keep b20)
  have Nv := Lib.hid (Rv.out.keep b20)
  have Nl := Lib.hid (Rl.out.keep b20)
  have Nx := Lib.hid (Rx.out.keep b20)
  clear Ra Rb Ru Rv Rl Rx
  have Ra := Na
  have Rb := Nb
  have Ru := Nu
  have Rv := Nv
  have Rl := Nl
  have Rx := Nx
  clear Na Nb Nu Nv Nl Nx
  have NB := Lib.hid (HB.out.trans ((b20).mono HB.out.size))
  clear HB
  have HB := NB
  clear NB
  have Ry := Lib.hid r20
  clear r20
  clear b20
  go_wp2_with fail
  refine (HK.out.wide _ _ _ _ s _ Ra.out (by have := HA.out; have := HN.out; omega)).mono ?_
  rintro e w21 ⟨Az, nz, cz, rfl, r21, b21⟩
  have Na := Lib.hid (Ra.out.keep b21)
  have Nb := Lib.hid (Rb.out.keep b21)
  have Nu := Lib.hid (Ru.out.keep b21)
  have Nv := Lib.hid (Rv.out.keep b21)
  have Nl := Lib.hid (Rl.out.keep b21)
  have Nx := Lib.hid (Rx.out.keep b21)
  have Ny := Lib.hid (Ry.out.keep b21)
  clear Ra Rb Ru Rv Rl Rx Ry
  have Ra := Na
  have Rb := Nb
  have Ru := Nu
  have Rv := Nv
  have Rl := Nl
  have Rx := Nx
  have Ry := Ny
  clear Na Nb Nu Nv Nl Nx Ny
  have NB := Lib.hid (HB.out.trans ((b21).mono HB.out.size))
  clear HB
  have HB := NB
  clear NB
  have Rz := Lib.hid r21
  clear r21
  clear b21
  go_wp2_with fail
  refine (same_yes Ry.out Rz.out HW.out (by have := HA.out; have := HN.out; have := HB0.out; have := HM.out; have := wide_len k a; have := wide_len n' (wideL k a); omega)).mono ?_
  rintro e w22 ⟨rfl, b22⟩
  have Na := Lib.hid (Ra.out.keep b22)
  have Nb := Lib.hid (Rb.out.keep b22)
  have Nu := Lib.hid (Ru.out.keep b22)
  have Nv := Lib.hid (Rv.out.keep b22)
  have Nl := Lib.hid (Rl.out.keep b22)
  have Nx := Lib.hid (Rx.out.keep b22)
  have Ny := Lib.hid (Ry.out.keep b22)
  have Nz := Lib.hid (Rz.out.keep b22)
  clear Ra Rb Ru Rv Rl Rx Ry Rz
  have Ra := Na
  have Rb := Nb
  have Ru := Nu
  have Rv := Nv
  have Rl := Nl
  have Rx := Nx
  have Ry := Ny
  have Rz := Nz
  clear Na Nb Nu Nv Nl Nx Ny Nz
  have NB := Lib.hid (HB.out.trans ((b22).mono HB.out.size))
  clear HB
  have HB := NB
  clear NB
  clear b22
  clear Rx
  clear Ry
  clear Rz
  go_wp2_with fail
  refine (HK.out.all _).mono ?_
  rintro e w23 ⟨Ax, nx, cx, rfl, r23, b23⟩
  have Na := Lib.hid (Ra.out.keep b23)
  have Nb := Lib.hid (Rb.out.keep b23)
  have Nu := Lib.hid (Ru.out.keep b23)
  have Nv := Lib.hid (Rv.out.keep b23)
  have Nl := Lib.hid (Rl.out.keep b23)
  clear Ra Rb Ru Rv Rl
  have Ra := Na
  have Rb := Nb
  have Ru := Nu
  have Rv := Nv
  have Rl := Nl
  clear Na Nb Nu Nv Nl
  have NB := Lib.hid (HB.out.trans ((b23).mono HB.out.size))
  clear HB
  have HB := NB
  clear NB
  have Rx := Lib.hid r23
  clear r23
  clear b23
  go_wp2_with fail
  refine (HK.out.all _).mono ?_
  rintro e w24 ⟨Ay, ny, cy, rfl, r24, b24⟩
  have Na := Lib.hid (Ra.out.keep b24)
  have Nb := Lib.hid (Rb.out.keep b24)
  have Nu := Lib.hid (Ru.out.keep b24)
  have Nv := Lib.hid (Rv.out.keep b24)
  have Nl := Lib.hid (Rl.out.keep b24)
  have Nx := Lib.hid (Rx.out.keep b24)
  clear Ra Rb Ru Rv Rl Rx
  have Ra := Na
  have Rb := Nb
  have Ru := Nu
  have Rv := Nv
  have Rl := Nl
  have Rx := Nx
  clear Na Nb Nu Nv Nl Nx
  have NB := Lib.hid (HB.out.trans ((b24).mono HB.out.size))
  clear HB
  have HB := NB
  clear NB
  have Ry := Lib.hid r24
  clear r24
  clear b24
  go_wp2_with fail
  refine (HK.out.less _ _ _ _ _ _ _ _ _ Ry.out Ra.out (by decide) (by have := HA.out; have := HN.out; omega)).mono ?_
  rintro e w25 ⟨Az, nz, cz, rfl, r25, b25⟩
  have Na := Lib.hid (Ra.out.keep b25)
  have Nb := Lib.hid (Rb.out.keep b25)
  have Nu := Lib.hid (Ru.out.keep b25)
  have Nv := Lib.hid (Rv.out.keep b25)
  have Nl := Lib.hid (Rl.out.keep b25)
  have Nx := Lib.hid (Rx.out.keep b25)
  have Ny := Lib.hid (Ry.out.keep b25)
  clear Ra Rb Ru Rv Rl Rx Ry
  have Ra := Na
  have Rb := Nb
  have Ru := Nu
  have Rv := Nv
  have Rl := Nl
  have Rx := Nx
  have Ry := Ny
  clear Na Nb Nu Nv Nl Nx Ny
  have NB := Lib.hid (HB.out.trans ((b25).mono HB.out.size))
  clear HB
  have HB := NB
  clear NB
  have Rz := Lib.hid r25
  clear r25
  clear b25
  go_wp2_with fail
  refine (HK.out.less _ _ _ _ _ _ _ _ _ Rx.out Rz.out (by decide) (by have := HA.out; have := HN.out; have := HB0.out; have := HM.out; have := two_len 2 allL a; have := (show allL.length = 1 from rfl); omega)).mono ?_
  rintro e w26 ⟨Aq, nq, cq, rfl, r26, b26⟩
  have Na := Lib.hid (Ra.out.keep b26)
  have Nb := Lib.hid (Rb.out.keep b26)
  have Nu := Lib.hid (Ru.out.keep b26)
  have Nv := Lib.hid (Rv.out.keep b26)
  have Nl := Lib.hid (Rl.out.keep b26)
  have Nx := Lib.hid (Rx.out.keep b26)
  have Ny := Lib.hid (Ry.out.keep b26)
  have Nz := Lib.hid (Rz.out.keep b26)
  clear Ra Rb Ru Rv Rl Rx Ry Rz
  have Ra := Na
  have Rb := Nb
  have Ru := Nu
  have Rv := Nv
  have Rl := Nl
  have Rx := Nx
  have Ry := Ny
  have Rz := Nz
  clear Na Nb Nu Nv Nl Nx Ny Nz
  have NB := Lib.hid (HB.out.trans ((b26).mono HB.out.size))
  clear HB
  have HB := NB
  clear NB
  have Rq := Lib.hid r26
  clear r26
  clear b26
  go_wp2_with fail
  refine (HK.out.of _ _ _ _ _ Ra.out (by have := HA.out; have := HN.out; omega)).mono ?_
  rintro e w27 ⟨Ap, np, cp, rfl, r27, b27⟩
  have Na := Lib.hid (Ra.out.keep b27)
  have Nb := Lib.hid (Rb.out.keep b27)
  have Nu := Lib.hid (Ru.out.keep b27)
  have Nv := Lib.hid (Rv.out.keep b27)
  have Nl := Lib.hid (Rl.out.keep b27)
  have Nx := Lib.hid (Rx.out.keep b27)
  have Ny := Lib.hid (Ry.out.keep b27)
  have Nz := Lib.hid (Rz.out.keep b27)
  have Nq := Lib.hid (Rq.out.keep b27)
  clear Ra Rb Ru Rv Rl Rx Ry Rz Rq
  have Ra := Na
  have Rb := Nb
  have Ru := Nu
  have Rv := Nv
  have Rl := Nl
  have Rx := Nx
  have Ry := Ny
  have Rz := Nz
  have Rq := Nq
  clear Na Nb Nu Nv Nl Nx Ny Nz Nq
  have NB := Lib.hid (HB.out.trans ((b27).mono HB.out.size))
  clear HB
  have HB := NB
  clear NB
  have Rp := Lib.hid r27
  clear r27
  clear b27
  go_wp2_with fail
  refine (same_yes Rq.out Rp.out (less_twice a) (by have := HA.out; have := HN.out; have := HB0.out; have := HM.out; have := two_len 2 allL a; have := two_len 2 allL (twoL 2 allL a); have := (show allL.length = 1 from rfl); omega)).mono ?_
  rintro e w28 ⟨rfl, b28⟩
  have Na := Lib.hid (Ra.out.keep b28)
  have Nb := Lib.hid (Rb.out.keep b28)
  have Nu := Lib.hid (Ru.out.keep b28)
  have Nv := Lib.hid (Rv.out.keep b28)
  have Nl := Lib.hid (Rl.out.keep b28)
  have Nx := Lib.hid (Rx.out.keep b28)
  have Ny := Lib.hid (Ry.out.keep b28)
  have Nz := Lib.hid (Rz.out.keep b28)
  have Nq := Lib.hid (Rq.out.keep b28)
  have Np := Lib.hid (Rp.out.keep b28)
  clear Ra Rb Ru Rv Rl Rx Ry Rz Rq Rp
  have Ra := Na
  have Rb := Nb
  have Ru := Nu
  have Rv := Nv
  have Rl := Nl
  have Rx := Nx
  have Ry := Ny
  have Rz := Nz
  have Rq := Nq
  have Rp := Np
  clear Na Nb Nu Nv Nl Nx Ny Nz Nq Np
  have NB := Lib.hid (HB.out.trans ((b28).mono HB.out.size))
  clear HB
  have HB := NB
  clear NB
  clear b28
  clear Rx
  clear Ry
  clear Rz
  clear Rq
  clear Rp
  go_wp2_with fail
  refine (spknown_any HK.out _).mono ?_
  rintro e w29 ⟨rfl, b29⟩
  have Na := Lib.hid (Ra.out.keep b29)
  have Nb := Lib.hid (Rb.out.keep b29)
  have Nu := Lib.hid (Ru.out.keep b29)
  have Nv := Lib.hid (Rv.out.keep b29)
  have Nl := Lib.hid (Rl.out.keep b29)
  clear Ra Rb Ru Rv Rl
  have Ra := Na
  have Rb := Nb
  have Ru := Nu
  have Rv := Nv
  have Rl := Nl
  clear Na Nb Nu Nv Nl
  have NB := Lib.hid (HB.out.trans ((b29).mono HB.out.size))
  clear HB
  have HB := NB
  clear NB
  clear b29
  go_wp2_with fail
  go_ret
  exact ⟨rfl, HB.out⟩
theorem splaws_any (K : SpK) (A B : Option Addr) (n c m d : Nat) (a b : SpL) (w : World) (Sa : Spn w A n c a) (Sb : Spn w B m d b) (k n' : Int) : Calls Try.prog 5 #[.slice A n c, .slice B m d, .int .i64 k, .int .i64 n'] w fun e w' => e = .returned (.bool true) ∧ Below w.heap.size w w' := by
  by_cases hn : n ≤ 60
  · by_cases hm : m ≤ 60
    · by_cases h0 : k < 0
      · exact splaws_odd0 K A B n c m d a b w Sa Sb k n' hn hm h0
      · by_cases h1 : k > 10000000
        · exact splaws_odd1 K A B n c m d a b w Sa Sb k n' hn hm h0 h1
        · by_cases h2 : n' < 0
          · exact splaws_odd2 K A B n c m d a b w Sa Sb k n' hn hm h0 h1 h2
          · by_cases h3 : n' > 10000000
            · exact splaws_odd3 K A B n c m d a b w Sa Sb k n' hn hm h0 h1 h2 h3
            · exact splaws_few K A B n c m d a b w Sa Sb k n' hn hm h0 h1 h2 h3
    · exact splaws_other K A B n c m d a b w Sa Sb k n' hn hm
  · exact splaws_one K A B n c m d a b w Sa Sb k n' hn
end Go.Proofs.Ytmolbckndkhhlaa

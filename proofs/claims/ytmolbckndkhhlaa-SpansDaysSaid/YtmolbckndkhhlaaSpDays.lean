/- The law SpansDays. -/
import Derived.Test.YtmolbckndkhhlaaSpSets
namespace Go.Proofs.Ytmolbckndkhhlaa
set_option maxRecDepth 8000
open Go.RowKit Corr
set_option linter.unusedVariables false
set_option linter.unusedSimpArgs false
theorem spdays_one (K : SpK) (A B : Option Addr) (n c m d : Nat) (a b : SpL) (w : World) (Sa : Spn w A n c a) (Sb : Spn w B m d b) (k day : Int) (hn : ¬ n ≤ 60) : Calls Try.prog 4 #[.slice A n c, .slice B m d, .int .i64 k, .int .i64 day] w fun e w' => e = .returned (.bool true) ∧ Below w.heap.size w w' := by
  have HK := Lib.hid K
  have HA := Lib.hid Sa.count
  have HB0 := Lib.hid Sb.count
  have Ra := Lib.hid Sa
  have Rb := Lib.hid Sb
  clear Sa Sb
  have HB := Lib.hid (Below.refl w.heap.size w)
  have bl := (Below.refl w.heap.size w).alloc (Nat.le_refl _) (.cells #[.slice A n c, .slice B m d] 22)
  have tc := two_cells w (.slice A n c) (.slice B m d) 22
  have Na := Lib.hid (Ra.out.keep bl)
  have Nb := Lib.hid (Rb.out.keep bl)
  clear Ra Rb
  have Ra := Na
  have Rb := Nb
  clear Na Nb
  have NB := Lib.hid (HB.out.trans ((bl).mono HB.out.size))
  clear HB
  have HB := NB
  clear NB
  clear bl
  go_enter Try.func4, Try.ntmps4
  go_wp2_with fail
  refine (great_one A B n c m d _ _ tc.1 hn).mono ?_
  rintro e w1 ⟨rfl, b1⟩
  have Na := Lib.hid (Ra.out.keep b1)
  have Nb := Lib.hid (Rb.out.keep b1)
  clear Ra Rb
  have Ra := Na
  have Rb := Nb
  clear Na Nb
  have NB := Lib.hid (HB.out.trans ((b1).mono HB.out.size))
  clear HB
  have HB := NB
  clear NB
  clear b1
  clear tc
  clear hn
  go_wp2_with fail
  refine (spknown_any HK.out _).mono ?_
  rintro e w2 ⟨rfl, b2⟩
  have Na := Lib.hid (Ra.out.keep b2)
  have Nb := Lib.hid (Rb.out.keep b2)
  clear Ra Rb
  have Ra := Na
  have Rb := Nb
  clear Na Nb
  have NB := Lib.hid (HB.out.trans ((b2).mono HB.out.size))
  clear HB
  have HB := NB
  clear NB
  clear b2
  go_wp2_with fail
  go_ret
  exact ⟨rfl, HB.out⟩
theorem spdays_other (K : SpK) (A B : Option Addr) (n c m d : Nat) (a b : SpL) (w : World) (Sa : Spn w A n c a) (Sb : Spn w B m d b) (k day : Int) (hn : n ≤ 60) (hm : ¬ m ≤ 60) : Calls Try.prog 4 #[.slice A n c, .slice B m d, .int .i64 k, .int .i64 day] w fun e w' => e = .returned (.bool true) ∧ Below w.heap.size w w' := by
  have HK := Lib.hid K
  have HA := Lib.hid Sa.count
  have HB0 := Lib.hid Sb.count
  have Ra := Lib.hid Sa
  have Rb := Lib.hid Sb
  clear Sa Sb
  have HB := Lib.hid (Below.refl w.heap.size w)
  have bl := (Below.refl w.heap.size w).alloc (Nat.le_refl _) (.cells #[.slice A n c, .slice B m d] 22)
  have tc := two_cells w (.slice A n c) (.slice B m d) 22
  have Na := Lib.hid (Ra.out.keep bl)
  have Nb := Lib.hid (Rb.out.keep bl)
  clear Ra Rb
  have Ra := Na
  have Rb := Nb
  clear Na Nb
  have NB := Lib.hid (HB.out.trans ((bl).mono HB.out.size))
  clear HB
  have HB := NB
  clear NB
  clear bl
  go_enter Try.func4, Try.ntmps4
  go_wp2_with fail
  refine (great_other _ _ _ _ _ _ _ _ tc.1 tc.2 hn hm).mono ?_
  rintro e w1 ⟨rfl, b1⟩
  have Na := Lib.hid (Ra.out.keep b1)
  have Nb := Lib.hid (Rb.out.keep b1)
  clear Ra Rb
  have Ra := Na
  have Rb := Nb
  clear Na Nb
  have NB := Lib.hid (HB.out.trans ((b1).mono HB.out.size))
  clear HB
  have HB := NB
  clear NB
  clear b1
  clear tc
  clear hn hm
  go_wp2_with fail
  refine (spknown_any HK.out _).mono ?_
  rintro e w2 ⟨rfl, b2⟩
  have Na := Lib.hid (Ra.out.keep b2)
  have Nb := Lib.hid (Rb.out.keep b2)
  clear Ra Rb
  have Ra := Na
  have Rb := Nb
  clear Na Nb
  have NB := Lib.hid (HB.out.trans ((b2).mono HB.out.size))
  clear HB
  have HB := NB
  clear NB
  clear b2
  go_wp2_with fail
  go_ret
  exact ⟨rfl, HB.out⟩
theorem spdays_odd0 (K : SpK) (A B : Option Addr) (n c m d : Nat) (a b : SpL) (w : World) (Sa : Spn w A n c a) (Sb : Spn w B m d b) (k day : Int) (hn : n ≤ 60) (hm : m ≤ 60) (h0 : k < 0) : Calls Try.prog 4 #[.slice A n c, .slice B m d, .int .i64 k, .int .i64 day] w fun e w' => e = .returned (.bool true) ∧ Below w.heap.size w w' := by
  have f0 : decide (k < 0) = true := decide_eq_true (by omega)
  clear h0
  have HK := Lib.hid K
  have HA := Lib.hid Sa.count
  have HB0 := Lib.hid Sb.count
  have Ra := Lib.hid Sa
  have Rb := Lib.hid Sb
  clear Sa Sb
  have HB := Lib.hid (Below.refl w.heap.size w)
  have bl := (Below.refl w.heap.size w).alloc (Nat.le_refl _) (.cells #[.slice A n c, .slice B m d] 22)
  have tc := two_cells w (.slice A n c) (.slice B m d) 22
  have Na := Lib.hid (Ra.out.keep bl)
  have Nb := Lib.hid (Rb.out.keep bl)
  clear Ra Rb
  have Ra := Na
  have Rb := Nb
  clear Na Nb
  have NB := Lib.hid (HB.out.trans ((bl).mono HB.out.size))
  clear HB
  have HB := NB
  clear NB
  clear bl
  go_enter Try.func4, Try.ntmps4
  go_wp2_with fail
  refine (great_two _ _ _ _ _ _ _ _ tc.1 tc.2 hn hm).mono ?_
  rintro e w1 ⟨rfl, b1⟩
  have Na := Lib.hid (Ra.out.keep b1)
  have Nb := Lib.hid (Rb.out.keep b1)
  clear Ra Rb
  have Ra := Na
  have Rb := Nb
  clear Na Nb
  have NB := Lib.hid (HB.out.trans ((b1).mono HB.out.size))
  clear HB
  have HB := NB
  clear NB
  clear b1
  clear tc
  clear hn hm
  go_wp2_with fail
  refine (spknown_any HK.out _).mono ?_
  rintro e w2 ⟨rfl, b2⟩
  have Na := Lib.hid (Ra.out.keep b2)
  have Nb := Lib.hid (Rb.out.keep b2)
  clear Ra Rb
  have Ra := Na
  have Rb := Nb
  clear Na Nb
  have NB := Lib.hid (HB.out.trans ((b2).mono HB.out.size))
  clear HB
  have HB := NB
  clear NB
  clear b2
  go_wp2_with fail
  go_ret
  exact ⟨rfl, HB.out⟩
theorem spdays_odd1 (K : SpK) (A B : Option Addr) (n c m d : Nat) (a b : SpL) (w : World) (Sa : Spn w A n c a) (Sb : Spn w B m d b) (k day : Int) (hn : n ≤ 60) (hm : m ≤ 60) (h0 : ¬ (k < 0)) (h1 : k > 50) : Calls Try.prog 4 #[.slice A n c, .slice B m d, .int .i64 k, .int .i64 day] w fun e w' => e = .returned (.bool true) ∧ Below w.heap.size w w' := by
  have f0 : decide (k < 0) = false := decide_eq_false (by omega)
  have f1 : decide (k > 50) = true := decide_eq_true (by omega)
  clear h0 h1
  have HK := Lib.hid K
  have HA := Lib.hid Sa.count
  have HB0 := Lib.hid Sb.count
  have Ra := Lib.hid Sa
  have Rb := Lib.hid Sb
  clear Sa Sb
  have HB := Lib.hid (Below.refl w.heap.size w)
  have bl := (Below.refl w.heap.size w).alloc (Nat.le_refl _) (.cells #[.slice A n c, .slice B m d] 22)
  have tc := two_cells w (.slice A n c) (.slice B m d) 22
  have Na := Lib.hid (Ra.out.keep bl)
  have Nb := Lib.hid (Rb.out.keep bl)
  clear Ra Rb
  have Ra := Na
  have Rb := Nb
  clear Na Nb
  have NB := Lib.hid (HB.out.trans ((bl).mono HB.out.size))
  clear HB
  have HB := NB
  clear NB
  clear bl
  go_enter Try.func4, Try.ntmps4
  go_wp2_with fail
  refine (great_two _ _ _ _ _ _ _ _ tc.1 tc.2 hn hm).mono ?_
  rintro e w1 ⟨rfl, b1⟩
  have Na := Lib.hid (Ra.out.keep b1)
  have Nb := Lib.hid (Rb.out.keep b1)
  clear Ra Rb
  have Ra := Na
  have Rb := Nb
  clear Na Nb
  have NB := Lib.hid (HB.out.trans ((b1).mono HB.out.size))
  clear HB
  have HB := NB
  clear NB
  clear b1
  clear tc
  clear hn hm
  go_wp2_with fail
  refine (spknown_any HK.out _).mono ?_
  rintro e w2 ⟨rfl, b2⟩
  have Na := Lib.hid (Ra.out.keep b2)
  have Nb := Lib.hid (Rb.out.keep b2)
  clear Ra Rb
  have Ra := Na
  have Rb := Nb
  clear Na Nb
  have NB := Lib.hid (HB.out.trans ((b2).mono HB.out.size))
  clear HB
  have HB := NB
  clear NB
  clear b2
  go_wp2_with fail
  go_ret
  exact ⟨rfl, HB.out⟩
theorem spdays_odd2 (K : SpK) (A B : Option Addr) (n c m d : Nat) (a b : SpL) (w : World) (Sa : Spn w A n c a) (Sb : Spn w B m d b) (k day : Int) (hn : n ≤ 60) (hm : m ≤ 60) (h0 : ¬ (k < 0)) (h1 : ¬ (k > 50)) (h2 : day < 1) : Calls Try.prog 4 #[.slice A n c, .slice B m d, .int .i64 k, .int .i64 day] w fun e w' => e = .returned (.bool true) ∧ Below w.heap.size w w' := by
  have f0 : decide (k < 0) = false := decide_eq_false (by omega)
  have f1 : decide (k > 50) = false := decide_eq_false (by omega)
  have f2 : decide (day < 1) = true := decide_eq_true (by omega)
  clear h0 h1 h2
  have HK := Lib.hid K
  have HA := Lib.hid Sa.count
  have HB0 := Lib.hid Sb.count
  have Ra := Lib.hid Sa
  have Rb := Lib.hid Sb
  clear Sa Sb
  have HB := Lib.hid (Below.refl w.heap.size w)
  have bl := (Below.refl w.heap.size w).alloc (Nat.le_refl _) (.cells #[.slice A n c, .slice B m d] 22)
  have tc := two_cells w (.slice A n c) (.slice B m d) 22
  have Na := Lib.hid (Ra.out.keep bl)
  have Nb := Lib.hid (Rb.out.keep bl)
  clear Ra Rb
  have Ra := Na
  have Rb := Nb
  clear Na Nb
  have NB := Lib.hid (HB.out.trans ((bl).mono HB.out.size))
  clear HB
  have HB := NB
  clear NB
  clear bl
  go_enter Try.func4, Try.ntmps4
  go_wp2_with fail
  refine (great_two _ _ _ _ _ _ _ _ tc.1 tc.2 hn hm).mono ?_
  rintro e w1 ⟨rfl, b1⟩
  have Na := Lib.hid (Ra.out.keep b1)
  have Nb := Lib.hid (Rb.out.keep b1)
  clear Ra Rb
  have Ra := Na
  have Rb := Nb
  clear Na Nb
  have NB := Lib.hid (HB.out.trans ((b1).mono HB.out.size))
  clear HB
  have HB := NB
  clear NB
  clear b1
  clear tc
  clear hn hm
  go_wp2_with fail
  refine (spknown_any HK.out _).mono ?_
  rintro e w2 ⟨rfl, b2⟩
  have Na := Lib.hid (Ra.out.keep b2)
  have Nb := Lib.hid (Rb.out.keep b2)
  clear Ra Rb
  have Ra := Na
  have Rb := Nb
  clear Na Nb
  have NB := Lib.hid (HB.out.trans ((b2).mono HB.out.size))
  clear HB
  have HB := NB
  clear NB
  clear b2
  go_wp2_with fail
  go_ret
  exact ⟨rfl, HB.out⟩
theorem spdays_odd3 (K : SpK) (A B : Option Addr) (n c m d : Nat) (a b : SpL) (w : World) (Sa : Spn w A n c a) (Sb : Spn w B m d b) (k day : Int) (hn : n ≤ 60) (hm : m ≤ 60) (h0 : ¬ (k < 0)) (h1 : ¬ (k > 50)) (h2 : ¬ (day < 1)) (h3 : day > 3652059) : Calls Try.prog 4 #[.slice A n c, .slice B m d, .int .i64 k, .int .i64 day] w fun e w' => e = .returned (.bool true) ∧ Below w.heap.size w w' := by
  have f0 : decide (k < 0) = false := decide_eq_false (by omega)
  have f1 : decide (k > 50) = false := decide_eq_false (by omega)
  have f2 : decide (day < 1) = false := decide_eq_false (by omega)
  have f3 : decide (day > 3652059) = true := decide_eq_true (by omega)
  clear h0 h1 h2 h3
  have HK := Lib.hid K
  have HA := Lib.hid Sa.count
  have HB0 := Lib.hid Sb.count
  have Ra := Lib.hid Sa
  have Rb := Lib.hid Sb
  clear Sa Sb
  have HB := Lib.hid (Below.refl w.heap.size w)
  have bl := (Below.refl w.heap.size w).alloc (Nat.le_refl _) (.cells #[.slice A n c, .slice B m d] 22)
  have tc := two_cells w (.slice A n c) (.slice B m d) 22
  have Na := Lib.hid (Ra.out.keep bl)
  have Nb := Lib.hid (Rb.out.keep bl)
  clear Ra Rb
  have Ra := Na
  have Rb := Nb
  clear Na Nb
  have NB := Lib.hid (HB.out.trans ((bl).mono HB.out.size))
  clear HB
  have HB := NB
  clear NB
  clear bl
  go_enter Try.func4, Try.ntmps4
  go_wp2_with fail
  refine (great_two _ _ _ _ _ _ _ _ tc.1 tc.2 hn hm).mono ?_
  rintro e w1 ⟨rfl, b1⟩
  have Na := Lib.hid (Ra.out.keep b1)
  have Nb := Lib.hid (Rb.out.keep b1)
  clear Ra Rb
  have Ra := Na
  have Rb := Nb
  clear Na Nb
  have NB := Lib.hid (HB.out.trans ((b1).mono HB.out.size))
  clear HB
  have HB := NB
  clear NB
  clear b1
  clear tc
  clear hn hm
  go_wp2_with fail
  refine (spknown_any HK.out _).mono ?_
  rintro e w2 ⟨rfl, b2⟩
  have Na := Lib.hid (Ra.out.keep b2)
  have Nb := Lib.hid (Rb.out.keep b2)
  clear Ra Rb
  have Ra := Na
  have Rb := Nb
  clear Na Nb
  have NB := Lib.hid (HB.out.trans ((b2).mono HB.out.size))
  clear HB
  have HB := NB
  clear NB
  clear b2
  go_wp2_with fail
  go_ret
  exact ⟨rfl, HB.out⟩
set_option maxHeartbeats 4000000 in
theorem spdays_low (K : SpK) (A B : Option Addr) (n c m d : Nat) (a b : SpL) (w : World) (Sa : Spn w A n c a) (Sb : Spn w B m d b) (k day : Int) (hn : n ≤ 60) (hm : m ≤ 60) (h0 : ¬ (k < 0)) (h1 : ¬ (k > 50)) (h2 : ¬ (day < 1)) (h3 : ¬ (day > 3652059)) (hy : day - k < 1) : Calls Try.prog 4 #[.slice A n c, .slice B m d, .int .i64 k, .int .i64 day] w fun e w' => e = .returned (.bool true) ∧ Below w.heap.size w w' := by
  have f0 : decide (k < 0) = false := decide_eq_false (by omega)
  have f1 : decide (k > 50) = false := decide_eq_false (by omega)
  have f2 : decide (day < 1) = false := decide_eq_false (by omega)
  have f3 : decide (day > 3652059) = false := decide_eq_false (by omega)
  have hs : IntKind.i64.wrap (day - k) = day - k := IntWalk.i64_in _ (by omega)
  obtain ⟨q, hq⟩ : ∃ q, IntKind.i64.wrap (day - k) = q := ⟨_, rfl⟩
  rw [hq] at hs
  have HNR := Lib.hid (fun (j : Nat) (hj : (j : Int) = day - 1 + 1) => near_wide a (k := k) (lo := 1) (d := day) (by omega) (by omega) (by omega) (by omega) hj)
  have hk : q < 1 := by omega
  have hq2 : q ≤ day := by omega
  clear hs hy
  obtain ⟨P, hP⟩ : ∃ Q, hasB a day = Q := ⟨_, rfl⟩
  obtain ⟨Q, hQ⟩ : ∃ Q, hasB b day = Q := ⟨_, rfl⟩
  have HP := Lib.hid hP
  have HQ := Lib.hid hQ
  have E0 := Lib.hid (show hasB (twoL 0 a b) day = (P || Q) by rw [two_has _ _ _ (by omega) (by omega), takeB_0, hP, hQ])
  have E1 := Lib.hid (show hasB (twoL 1 a b) day = (P && Q) by rw [two_has _ _ _ (by omega) (by omega), takeB_1, hP, hQ])
  have E2 := Lib.hid (show hasB (twoL 2 a b) day = (P && !Q) by rw [two_has _ _ _ (by omega) (by omega), takeB_2, hP, hQ])
  have E4 := Lib.hid (has_all (d := day) (by omega) (by omega))
  clear hP hQ
  have HK := Lib.hid K
  have HA := Lib.hid Sa.count
  have HB0 := Lib.hid Sb.count
  have Ra := Lib.hid Sa
  have Rb := Lib.hid Sb
  clear Sa Sb
  have HB := Lib.hid (Below.refl w.heap.size w)
  have bl := (Below.refl w.heap.size w).alloc (Nat.le_refl _) (.cells #[.slice A n c, .slice B m d] 22)
  have tc := two_cells w (.slice A n c) (.slice B m d) 22
  have Na := Lib.hid (Ra.out.keep bl)
  have Nb := Lib.hid (Rb.out.keep bl)
  clear Ra Rb
  have Ra := Na
  have Rb := Nb
  clear Na Nb
  have NB := Lib.hid (HB.out.trans ((bl).mono HB.out.size))
  clear HB
  have HB := NB
  clear NB
  clear bl
  go_enter Try.func4, Try.ntmps4
  go_wp2_with fail
  refine (great_two _ _ _ _ _ _ _ _ tc.1 tc.2 hn hm).mono ?_
  rintro e w1 ⟨rfl, b1⟩
  have Na := Lib.hid (Ra.out.keep b1)
  have Nb := Lib.hid (Rb.out.keep b1)
  clear Ra Rb
  have Ra := Na
  have Rb := Nb
  clear Na Nb
  have NB := Lib.hid (HB.out.trans ((b1).mono HB.out.size))
  clear HB
  have HB := NB
  clear NB
  clear b1
  clear tc
  have HN := Lib.hid hn
  have HM := Lib.hid hm
  clear hn hm
  go_wp2_with fail
  refine (HK.out.union _ _ _ _ _ _ _ _ _ Ra.out Rb.out (by have := HA.out; have := HN.out; omega) (by have := HB0.out; have := HM.out; omega)).mono ?_
  rintro e w2 ⟨Au, nu, cu, rfl, r2, b2⟩
  have Na := Lib.hid (Ra.out.keep b2)
  have Nb := Lib.hid (Rb.out.keep b2)
  clear Ra Rb
  have Ra := Na
  have Rb := Nb
  clear Na Nb
  have NB := Lib.hid (HB.out.trans ((b2).mono HB.out.size))
  clear HB
  have HB := NB
  clear NB
  have Ru := Lib.hid r2
  clear r2
  clear b2
  go_wp2_with fail
  refine (HK.out.meet _ _ _ _ _ _ _ _ _ Ra.out Rb.out (by have := HA.out; have := HN.out; omega) (by have := HB0.out; have := HM.out; omega)).mono ?_
  rintro e w3 ⟨Av, nv, cv, rfl, r3, b3⟩
  have Na := Lib.hid (Ra.out.keep b3)
  have Nb := Lib.hid (Rb.out.keep b3)
  have Nu := Lib.hid (Ru.out.keep b3)
  clear Ra Rb Ru
  have Ra := Na
  have Rb := Nb
  have Ru := Nu
  clear Na Nb Nu
  have NB := Lib.hid (HB.out.trans ((b3).mono HB.out.size))
  clear HB
  have HB := NB
  clear NB
  have Rv := Lib.hid r3
  clear r3
  clear b3
  go_wp2_with fail
  refine (HK.out.less _ _ _ _ _ _ _ _ _ Ra.out Rb.out (by have := HA.out; have := HN.out; omega) (by have := HB0.out; have := HM.out; omega)).mono ?_
  rintro e w4 ⟨Al, nl, cl, rfl, r4, b4⟩
  have Na := Lib.hid (Ra.out.keep b4)
  have Nb := Lib.hid (Rb.out.keep b4)
  have Nu := Lib.hid (Ru.out.keep b4)
  have Nv := Lib.hid (Rv.out.keep b4)
  clear Ra Rb Ru Rv
  have Ra := Na
  have Rb := Nb
  have Ru := Nu
  have Rv := Nv
  clear Na Nb Nu Nv
  have NB := Lib.hid (HB.out.trans ((b4).mono HB.out.size))
  clear HB
  have HB := NB
  clear NB
  have Rl := Lib.hid r4
  clear r4
  clear b4
  go_wp2_with fail
  refine (HK.out.wide _ _ _ _ k _ Ra.out (by have := HA.out; have := HN.out; omega)).mono ?_
  rintro e w5 ⟨Az, nz, cz, rfl, r5, b5⟩
  have Na := Lib.hid (Ra.out.keep b5)
  have Nb := Lib.hid (Rb.out.keep b5)
  have Nu := Lib.hid (Ru.out.keep b5)
  have Nv := Lib.hid (Rv.out.keep b5)
  have Nl := Lib.hid (Rl.out.keep b5)
  clear Ra Rb Ru Rv Rl
  have Ra := Na
  have Rb := Nb
  have Ru := Nu
  have Rv := Nv
  have Rl := Nl
  clear Na Nb Nu Nv Nl
  have NB := Lib.hid (HB.out.trans ((b5).mono HB.out.size))
  clear HB
  have HB := NB
  clear NB
  have Rz := Lib.hid r5
  clear r5
  clear b5
  go_wp2_with fail
  refine (((HP.out ▸ HK.out.has _ _ _ _ day _ Ra.out (by have := HA.out; have := HN.out; omega) : Calls _ _ _ _ fun e w' => e = .returned (.bool P) ∧ Below _ _ w'))).mono ?_
  rintro e w6 ⟨rfl, b6⟩
  have Na := Lib.hid (Ra.out.keep b6)
  have Nb := Lib.hid (Rb.out.keep b6)
  have Nu := Lib.hid (Ru.out.keep b6)
  have Nv := Lib.hid (Rv.out.keep b6)
  have Nl := Lib.hid (Rl.out.keep b6)
  have Nz := Lib.hid (Rz.out.keep b6)
  clear Ra Rb Ru Rv Rl Rz
  have Ra := Na
  have Rb := Nb
  have Ru := Nu
  have Rv := Nv
  have Rl := Nl
  have Rz := Nz
  clear Na Nb Nu Nv Nl Nz
  have NB := Lib.hid (HB.out.trans ((b6).mono HB.out.size))
  clear HB
  have HB := NB
  clear NB
  clear b6
  go_wp2_with fail
  refine (((HQ.out ▸ HK.out.has _ _ _ _ day _ Rb.out (by have := HB0.out; have := HM.out; omega) : Calls _ _ _ _ fun e w' => e = .returned (.bool Q) ∧ Below _ _ w'))).mono ?_
  rintro e w7 ⟨rfl, b7⟩
  have Na := Lib.hid (Ra.out.keep b7)
  have Nb := Lib.hid (Rb.out.keep b7)
  have Nu := Lib.hid (Ru.out.keep b7)
  have Nv := Lib.hid (Rv.out.keep b7)
  have Nl := Lib.hid (Rl.out.keep b7)
  have Nz := Lib.hid (Rz.out.keep b7)
  clear Ra Rb Ru Rv Rl Rz
  have Ra := Na
  have Rb := Nb
  have Ru := Nu
  have Rv := Nv
  have Rl := Nl
  have Rz := Nz
  clear Na Nb Nu Nv Nl Nz
  have NB := Lib.hid (HB.out.trans ((b7).mono HB.out.size))
  clear HB
  have HB := NB
  clear NB
  clear b7
  go_wp2_with fail
  go_loopw [15, 16] (fun v t wr => ∃ (j : Nat) (z : Bool) (x : Int), v = .bool z ∧ t = .int .i64 x ∧ Hid (z = nearB a (1) j) ∧ Hid (x = 1 + (j : Int)) ∧ 1 ≤ x ∧ x ≤ day + 1 ∧ Below w7.heap.size w7 wr) (fun _ t _ => (day + 1 - intOf t).toNat)
  case atStart => exact ⟨0, false, _, rfl, rfl, Lib.hid rfl, Lib.hid (by simp), by omega, by omega, Below.refl _ _⟩
  case round =>
    obtain ⟨j, z, x, rfl, rfl, HZ, HX, x1, x2, br⟩ := hrel
    have Na := Lib.hid (Ra.out.keep br)
    have Nb := Lib.hid (Rb.out.keep br)
    have Nu := Lib.hid (Ru.out.keep br)
    have Nv := Lib.hid (Rv.out.keep br)
    have Nl := Lib.hid (Rl.out.keep br)
    have Nz := Lib.hid (Rz.out.keep br)
    clear Ra Rb Ru Rv Rl Rz
    have Ra := Na
    have Rb := Nb
    have Ru := Nu
    have Rv := Nv
    have Rl := Nl
    have Rz := Nz
    clear Na Nb Nu Nv Nl Nz
    have NB := Lib.hid (HB.out.trans ((br).mono HB.out.size))
    clear HB
    have HB := NB
    clear NB
    clear hk
    have HR := Lib.hid br
    clear br
    by_cases hx : x ≤ day
    · have hwx : IntKind.i64.wrap (x + 1) = x + 1 := IntWalk.i64_in _ (by omega)
      cases z with
      | true =>
        have HZ2 := Lib.hid (show true = nearB a (1) (j + 1) by rw [nearB_more, ← HZ.out]; rfl)
        have HX2 := Lib.hid (show x + 1 = 1 + ((j + 1 : Nat) : Int) by have := HX.out; omega)
        go_wp2_with fail
        go_roundw
        case rel => exact ⟨j + 1, true, x + 1, rfl, rfl, HZ2, HX2, by omega, by omega, HR.out⟩
        case measure => simp [intOf]; omega
      | false =>
        obtain ⟨Y, hY⟩ : ∃ Y, hasB a x = Y := ⟨_, rfl⟩
        have HY := Lib.hid hY
        clear hY
        have HZ2 := Lib.hid (show Y = nearB a (1) (j + 1) by rw [nearB_more, ← HZ.out, ← HX.out, HY.out]; rfl)
        have HX2 := Lib.hid (show x + 1 = 1 + ((j + 1 : Nat) : Int) by have := HX.out; omega)
        go_wp2_with fail
        refine ((HY.out ▸ HK.out.has _ _ _ _ x _ Ra.out (by have := HA.out; have := HN.out; omega) : Calls _ _ _ _ fun e w' => e = .returned (.bool Y) ∧ Below _ _ w')).mono ?_
        rintro e ws ⟨rfl, bs⟩
        have HR2 := Lib.hid (HR.out.trans (bs.mono HR.out.size))
        clear bs
        go_wp2_with fail
        go_roundw
        case rel => exact ⟨j + 1, Y, x + 1, rfl, rfl, HZ2, HX2, by omega, by omega, HR2.out⟩
        case measure => simp [intOf]; omega
    · have hxe : x = day + 1 := by omega
      have E3 := Lib.hid (show hasB (wideL k a) day = z by rw [HZ.out]; exact (HNR.out j (by have := HX.out; omega)).symm)
      clear HZ HX HNR HR
      cases P <;> cases Q <;> cases z
      all_goals
        go_wp2_with fail
        refine (((E0.out ▸ HK.out.has _ _ _ _ day _ Ru.out (by have := HA.out; have := HN.out; have := HB0.out; have := HM.out; have := two_len 0 a b; omega) : Calls _ _ _ _ fun e w' => e = .returned (.bool _) ∧ Below _ _ w'))).mono ?_
        rintro e w8 ⟨rfl, b8⟩
        have Na := Lib.hid (Ra.out.keep b8)
        have Nb := Lib.hid (Rb.out.keep b8)
        have Nu := Lib.hid (Ru.out.keep b8)
        have Nv := Lib.hid (Rv.out.keep b8)
        have Nl := Lib.hid (Rl.out.keep b8)
        have Nz := Lib.hid (Rz.out.keep b8)
        clear Ra Rb Ru Rv Rl Rz
        have Ra := Na
        have Rb := Nb
        have Ru := Nu
        have Rv := Nv
        have Rl := Nl
        have Rz := Nz
        clear Na Nb Nu Nv Nl Nz
        have NB := Lib.hid (HB.out.trans ((b8).mono HB.out.size))
        clear HB
        have HB := NB
        clear NB
        clear b8
        go_wp2_with fail
        refine (((E1.out ▸ HK.out.has _ _ _ _ day _ Rv.out (by have := HA.out; have := HN.out; have := HB0.out; have := HM.out; have := two_len 1 a b; omega) : Calls _ _ _ _ fun e w' => e = .returned (.bool _) ∧ Below _ _ w'))).mono ?_
        rintro e w9 ⟨rfl, b9⟩
        have Na := Lib.hid (Ra.out.keep b9)
        have Nb := Lib.hid (Rb.out.keep b9)
        have Nu := Lib.hid (Ru.out.keep b9)
        have Nv := Lib.hid (Rv.out.keep b9)
        have Nl := Lib.hid (Rl.out.keep b9)
        have Nz := Lib.hid (Rz.out.keep b9)
        clear Ra Rb Ru Rv Rl Rz
        have Ra := Na
        have Rb := Nb
        have Ru := Nu
        have Rv := Nv
        have Rl := Nl
        have Rz := Nz
        clear Na Nb Nu Nv Nl Nz
        have NB := Lib.hid (HB.out.trans ((b9).mono HB.out.size))
        clear HB
        have HB := NB
        clear NB
        clear b9
        go_wp2_with fail
        refine (((E2.out ▸ HK.out.has _ _ _ _ day _ Rl.out (by have := HA.out; have := HN.out; have := HB0.out; have := HM.out; have := two_len 2 a b; omega) : Calls _ _ _ _ fun e w' => e = .returned (.bool _) ∧ Below _ _ w'))).mono ?_
        rintro e w10 ⟨rfl, b10⟩
        have Na := Lib.hid (Ra.out.keep b10)
        have Nb := Lib.hid (Rb.out.keep b10)
        have Nu := Lib.hid (Ru.out.keep b10)
        have Nv := Lib.hid (Rv.out.keep b10)
        have Nl := Lib.hid (Rl.out.keep b10)
        have Nz := Lib.hid (Rz.out.keep b10)
        clear Ra Rb Ru Rv Rl Rz
        have Ra := Na
        have Rb := Nb
        have Ru := Nu
        have Rv := Nv
        have Rl := Nl
        have Rz := Nz
        clear Na Nb Nu Nv Nl Nz
        have NB := Lib.hid (HB.out.trans ((b10).mono HB.out.size))
        clear HB
        have HB := NB
        clear NB
        clear b10
        go_wp2_with fail
        refine (((E3.out ▸ HK.out.has _ _ _ _ day _ Rz.out (by have := HA.out; have := HN.out; have := HB0.out; have := HM.out; have := wide_len k a; omega) : Calls _ _ _ _ fun e w' => e = .returned (.bool _) ∧ Below _ _ w'))).mono ?_
        rintro e w11 ⟨rfl, b11⟩
        have Na := Lib.hid (Ra.out.keep b11)
        have Nb := Lib.hid (Rb.out.keep b11)
        have Nu := Lib.hid (Ru.out.keep b11)
        have Nv := Lib.hid (Rv.out.keep b11)
        have Nl := Lib.hid (Rl.out.keep b11)
        have Nz := Lib.hid (Rz.out.keep b11)
        clear Ra Rb Ru Rv Rl Rz
        have Ra := Na
        have Rb := Nb
        have Ru := Nu
        have Rv := Nv
        have Rl := Nl
        have Rz := Nz
        clear Na Nb Nu Nv Nl Nz
        have NB := Lib.hid (HB.out.trans ((b11).mono HB.out.size))
        clear HB
        have HB := NB
        clear NB
        clear b11
        go_wp2_with fail
        refine (((may_right (two_right 0 a b) ▸ HK.out.may _ _ _ _ _ Ru.out (by have := HA.out; have := HN.out; have := HB0.out; have := HM.out; have := two_len 0 a b; omega) : Calls _ _ _ _ fun e w' => e = .returned (.bool true) ∧ Below _ _ w'))).mono ?_
        rintro e w12 ⟨rfl, b12⟩
        have Na := Lib.hid (Ra.out.keep b12)
        have Nb := Lib.hid (Rb.out.keep b12)
        have Nu := Lib.hid (Ru.out.keep b12)
        have Nv := Lib.hid (Rv.out.keep b12)
        have Nl := Lib.hid (Rl.out.keep b12)
        have Nz := Lib.hid (Rz.out.keep b12)
        clear Ra Rb Ru Rv Rl Rz
        have Ra := Na
        have Rb := Nb
        have Ru := Nu
        have Rv := Nv
        have Rl := Nl
        have Rz := Nz
        clear Na Nb Nu Nv Nl Nz
        have NB := Lib.hid (HB.out.trans ((b12).mono HB.out.size))
        clear HB
        have HB := NB
        clear NB
        clear b12
        go_wp2_with fail
        refine (((may_right (two_right 1 a b) ▸ HK.out.may _ _ _ _ _ Rv.out (by have := HA.out; have := HN.out; have := HB0.out; have := HM.out; have := two_len 1 a b; omega) : Calls _ _ _ _ fun e w' => e = .returned (.bool true) ∧ Below _ _ w'))).mono ?_
        rintro e w13 ⟨rfl, b13⟩
        have Na := Lib.hid (Ra.out.keep b13)
        have Nb := Lib.hid (Rb.out.keep b13)
        have Nu := Lib.hid (Ru.out.keep b13)
        have Nv := Lib.hid (Rv.out.keep b13)
        have Nl := Lib.hid (Rl.out.keep b13)
        have Nz := Lib.hid (Rz.out.keep b13)
        clear Ra Rb Ru Rv Rl Rz
        have Ra := Na
        have Rb := Nb
        have Ru := Nu
        have Rv := Nv
        have Rl := Nl
        have Rz := Nz
        clear Na Nb Nu Nv Nl Nz
        have NB := Lib.hid (HB.out.trans ((b13).mono HB.out.size))
        clear HB
        have HB := NB
        clear NB
        clear b13
        go_wp2_with fail
        refine (((may_right (two_right 2 a b) ▸ HK.out.may _ _ _ _ _ Rl.out (by have := HA.out; have := HN.out; have := HB0.out; have := HM.out; have := two_len 2 a b; omega) : Calls _ _ _ _ fun e w' => e = .returned (.bool true) ∧ Below _ _ w'))).mono ?_
        rintro e w14 ⟨rfl, b14⟩
        have Na := Lib.hid (Ra.out.keep b14)
        have Nb := Lib.hid (Rb.out.keep b14)
        have Nu := Lib.hid (Ru.out.keep b14)
        have Nv := Lib.hid (Rv.out.keep b14)
        have Nl := Lib.hid (Rl.out.keep b14)
        have Nz := Lib.hid (Rz.out.keep b14)
        clear Ra Rb Ru Rv Rl Rz
        have Ra := Na
        have Rb := Nb
        have Ru := Nu
        have Rv := Nv
        have Rl := Nl
        have Rz := Nz
        clear Na Nb Nu Nv Nl Nz
        have NB := Lib.hid (HB.out.trans ((b14).mono HB.out.size))
        clear HB
        have HB := NB
        clear NB
        clear b14
        go_wp2_with fail
        refine (((may_right (wide_right k a) ▸ HK.out.may _ _ _ _ _ Rz.out (by have := HA.out; have := HN.out; have := HB0.out; have := HM.out; have := wide_len k a; omega) : Calls _ _ _ _ fun e w' => e = .returned (.bool true) ∧ Below _ _ w'))).mono ?_
        rintro e w15 ⟨rfl, b15⟩
        have Na := Lib.hid (Ra.out.keep b15)
        have Nb := Lib.hid (Rb.out.keep b15)
        have Nu := Lib.hid (Ru.out.keep b15)
        have Nv := Lib.hid (Rv.out.keep b15)
        have Nl := Lib.hid (Rl.out.keep b15)
        have Nz := Lib.hid (Rz.out.keep b15)
        clear Ra Rb Ru Rv Rl Rz
        have Ra := Na
        have Rb := Nb
        have Ru := Nu
        have Rv := Nv
        have Rl := Nl
        have Rz := Nz
        clear Na Nb Nu Nv Nl Nz
        have NB := Lib.hid (HB.out.trans ((b15).mono HB.out.size))
        clear HB
        have HB := NB
        clear NB
        clear b15
        go_wp2_with fail
        refine (HK.out.all _).mono ?_
        rintro e w16 ⟨Ax, nx, cx, rfl, r16, b16⟩
        have Na := Lib.hid (Ra.out.keep b16)
        have Nb := Lib.hid (Rb.out.keep b16)
        have Nu := Lib.hid (Ru.out.keep b16)
        have Nv := Lib.hid (Rv.out.keep b16)
        have Nl := Lib.hid (Rl.out.keep b16)
        have Nz := Lib.hid (Rz.out.keep b16)
        clear Ra Rb Ru Rv Rl Rz
        have Ra := Na
        have Rb := Nb
        have Ru := Nu
        have Rv := Nv
        have Rl := Nl
        have Rz := Nz
        clear Na Nb Nu Nv Nl Nz
        have NB := Lib.hid (HB.out.trans ((b16).mono HB.out.size))
        clear HB
        have HB := NB
        clear NB
        have Rx := Lib.hid r16
        clear r16
        clear b16
        go_wp2_with fail
        refine (((E4.out ▸ HK.out.has _ _ _ _ day _ Rx.out (by decide) : Calls _ _ _ _ fun e w' => e = .returned (.bool true) ∧ Below _ _ w'))).mono ?_
        rintro e w17 ⟨rfl, b17⟩
        have Na := Lib.hid (Ra.out.keep b17)
        have Nb := Lib.hid (Rb.out.keep b17)
        have Nu := Lib.hid (Ru.out.keep b17)
        have Nv := Lib.hid (Rv.out.keep b17)
        have Nl := Lib.hid (Rl.out.keep b17)
        have Nz := Lib.hid (Rz.out.keep b17)
        have Nx := Lib.hid (Rx.out.keep b17)
        clear Ra Rb Ru Rv Rl Rz Rx
        have Ra := Na
        have Rb := Nb
        have Ru := Nu
        have Rv := Nv
        have Rl := Nl
        have Rz := Nz
        have Rx := Nx
        clear Na Nb Nu Nv Nl Nz Nx
        have NB := Lib.hid (HB.out.trans ((b17).mono HB.out.size))
        clear HB
        have HB := NB
        clear NB
        clear b17
        go_wp2_with fail
        refine (spknown_any HK.out _).mono ?_
        rintro e w18 ⟨rfl, b18⟩
        have Na := Lib.hid (Ra.out.keep b18)
        have Nb := Lib.hid (Rb.out.keep b18)
        have Nu := Lib.hid (Ru.out.keep b18)
        have Nv := Lib.hid (Rv.out.keep b18)
        have Nl := Lib.hid (Rl.out.keep b18)
        have Nz := Lib.hid (Rz.out.keep b18)
        have Nx := Lib.hid (Rx.out.keep b18)
        clear Ra Rb Ru Rv Rl Rz Rx
        have Ra := Na
        have Rb := Nb
        have Ru := Nu
        have Rv := Nv
        have Rl := Nl
        have Rz := Nz
        have Rx := Nx
        clear Na Nb Nu Nv Nl Nz Nx
        have NB := Lib.hid (HB.out.trans ((b18).mono HB.out.size))
        clear HB
        have HB := NB
        clear NB
        clear b18
        go_wp2_with fail
        go_ret
        exact ⟨rfl, HB.out⟩
set_option maxHeartbeats 4000000 in
theorem spdays_high (K : SpK) (A B : Option Addr) (n c m d : Nat) (a b : SpL) (w : World) (Sa : Spn w A n c a) (Sb : Spn w B m d b) (k day : Int) (hn : n ≤ 60) (hm : m ≤ 60) (h0 : ¬ (k < 0)) (h1 : ¬ (k > 50)) (h2 : ¬ (day < 1)) (h3 : ¬ (day > 3652059)) (hy : 1 ≤ day - k) : Calls Try.prog 4 #[.slice A n c, .slice B m d, .int .i64 k, .int .i64 day] w fun e w' => e = .returned (.bool true) ∧ Below w.heap.size w w' := by
  have f0 : decide (k < 0) = false := decide_eq_false (by omega)
  have f1 : decide (k > 50) = false := decide_eq_false (by omega)
  have f2 : decide (day < 1) = false := decide_eq_false (by omega)
  have f3 : decide (day > 3652059) = false := decide_eq_false (by omega)
  have hs : IntKind.i64.wrap (day - k) = day - k := IntWalk.i64_in _ (by omega)
  obtain ⟨q, hq⟩ : ∃ q, IntKind.i64.wrap (day - k) = q := ⟨_, rfl⟩
  rw [hq] at hs
  have HNR := Lib.hid (fun (j : Nat) (hj : (j : Int) = day - q + 1) => near_wide a (k := k) (lo := q) (d := day) (by omega) (by omega) (by omega) (by omega) hj)
  have hk : 1 ≤ q := by omega
  have hq2 : q ≤ day := by omega
  clear hs hy
  obtain ⟨P, hP⟩ : ∃ Q, hasB a day = Q := ⟨_, rfl⟩
  obtain ⟨Q, hQ⟩ : ∃ Q, hasB b day = Q := ⟨_, rfl⟩
  have HP := Lib.hid hP
  have HQ := Lib.hid hQ
  have E0 := Lib.hid (show hasB (twoL 0 a b) day = (P || Q) by rw [two_has _ _ _ (by omega) (by omega), takeB_0, hP, hQ])
  have E1 := Lib.hid (show hasB (twoL 1 a b) day = (P && Q) by rw [two_has _ _ _ (by omega) (by omega), takeB_1, hP, hQ])
  have E2 := Lib.hid (show hasB (twoL 2 a b) day = (P && !Q) by rw [two_has _ _ _ (by omega) (by omega), takeB_2, hP, hQ])
  have E4 := Lib.hid (has_all (d := day) (by omega) (by omega))
  clear hP hQ
  have HK := Lib.hid K
  have HA := Lib.hid Sa.count
  have HB0 := Lib.hid Sb.count
  have Ra := Lib.hid Sa
  have Rb := Lib.hid Sb
  clear Sa Sb
  have HB := Lib.hid (Below.refl w.heap.size w)
  have bl := (Below.refl w.heap.size w).alloc (Nat.le_refl _) (.cells #[.slice A n c, .slice B m d] 22)
  have tc := two_cells w (.slice A n c) (.slice B m d) 22
  have Na := Lib.hid (Ra.out.keep bl)
  have Nb := Lib.hid (Rb.out.keep bl)
  clear Ra Rb
  have Ra := Na
  have Rb := Nb
  clear Na Nb
  have NB := Lib.hid (HB.out.trans ((bl).mono HB.out.size))
  clear HB
  have HB := NB
  clear NB
  clear bl
  go_enter Try.func4, Try.ntmps4
  go_wp2_with fail
  refine (great_two _ _ _ _ _ _ _ _ tc.1 tc.2 hn hm).mono ?_
  rintro e w1 ⟨rfl, b1⟩
  have Na := Lib.hid (Ra.out.keep b1)
  have Nb := Lib.hid (Rb.out.keep b1)
  clear Ra Rb
  have Ra := Na
  have Rb := Nb
  clear Na Nb
  have NB := Lib.hid (HB.out.trans ((b1).mono HB.out.size))
  clear HB
  have HB := NB
  clear NB
  clear b1
  clear tc
  have HN := Lib.hid hn
  have HM := Lib.hid hm
  clear hn hm
  go_wp2_with fail
  refine (HK.out.union _ _ _ _ _ _ _ _ _ Ra.out Rb.out (by have := HA.out; have := HN.out; omega) (by have := HB0.out; have := HM.out; omega)).mono ?_
  rintro e w2 ⟨Au, nu, cu, rfl, r2, b2⟩
  have Na := Lib.hid (Ra.out.keep b2)
  have Nb := Lib.hid (Rb.out.keep b2)
  clear Ra Rb
  have Ra := Na
  have Rb := Nb
  clear Na Nb
  have NB := Lib.hid (HB.out.trans ((b2).mono HB.out.size))
  clear HB
  have HB := NB
  clear NB
  have Ru := Lib.hid r2
  clear r2
  clear b2
  go_wp2_with fail
  refine (HK.out.meet _ _ _ _ _ _ _ _ _ Ra.out Rb.out (by have := HA.out; have := HN.out; omega) (by have := HB0.out; have := HM.out; omega)).mono ?_
  rintro e w3 ⟨Av, nv, cv, rfl, r3, b3⟩
  have Na := Lib.hid (Ra.out.keep b3)
  have Nb := Lib.hid (Rb.out.keep b3)
  have Nu := Lib.hid (Ru.out.keep b3)
  clear Ra Rb Ru
  have Ra := Na
  have Rb := Nb
  have Ru := Nu
  clear Na Nb Nu
  have NB := Lib.hid (HB.out.trans ((b3).mono HB.out.size))
  clear HB
  have HB := NB
  clear NB
  have Rv := Lib.hid r3
  clear r3
  clear b3
  go_wp2_with fail
  refine (HK.out.less _ _ _ _ _ _ _ _ _ Ra.out Rb.out (by have := HA.out; have := HN.out; omega) (by have := HB0.out; have := HM.out; omega)).mono ?_
  rintro e w4 ⟨Al, nl, cl, rfl, r4, b4⟩
  have Na := Lib.hid (Ra.out.keep b4)
  have Nb := Lib.hid (Rb.out.keep b4)
  have Nu := Lib.hid (Ru.out.keep b4)
  have Nv := Lib.hid (Rv.out.keep b4)
  clear Ra Rb Ru Rv
  have Ra := Na
  have Rb := Nb
  have Ru := Nu
  have Rv := Nv
  clear Na Nb Nu Nv
  have NB := Lib.hid (HB.out.trans ((b4).mono HB.out.size))
  clear HB
  have HB := NB
  clear NB
  have Rl := Lib.hid r4
  clear r4
  clear b4
  go_wp2_with fail
  refine (HK.out.wide _ _ _ _ k _ Ra.out (by have := HA.out; have := HN.out; omega)).mono ?_
  rintro e w5 ⟨Az, nz, cz, rfl, r5, b5⟩
  have Na := Lib.hid (Ra.out.keep b5)
  have Nb := Lib.hid (Rb.out.keep b5)
  have Nu := Lib.hid (Ru.out.keep b5)
  have Nv := Lib.hid (Rv.out.keep b5)
  have Nl := Lib.hid (Rl.out.keep b5)
  clear Ra Rb Ru Rv Rl
  have Ra := Na
  have Rb := Nb
  have Ru := Nu
  have Rv := Nv
  have Rl := Nl
  clear Na Nb Nu Nv Nl
  have NB := Lib.hid (HB.out.trans ((b5).mono HB.out.size))
  clear HB
  have HB := NB
  clear NB
  have Rz := Lib.hid r5
  clear r5
  clear b5
  go_wp2_with fail
  refine (((HP.out ▸ HK.out.has _ _ _ _ day _ Ra.out (by have := HA.out; have := HN.out; omega) : Calls _ _ _ _ fun e w' => e = .returned (.bool P) ∧ Below _ _ w'))).mono ?_
  rintro e w6 ⟨rfl, b6⟩
  have Na := Lib.hid (Ra.out.keep b6)
  have Nb := Lib.hid (Rb.out.keep b6)
  have Nu := Lib.hid (Ru.out.keep b6)
  have Nv := Lib.hid (Rv.out.keep b6)
  have Nl := Lib.hid (Rl.out.keep b6)
  have Nz := Lib.hid (Rz.out.keep b6)
  clear Ra Rb Ru Rv Rl Rz
  have Ra := Na
  have Rb := Nb
  have Ru := Nu
  have Rv := Nv
  have Rl := Nl
  have Rz := Nz
  clear Na Nb Nu Nv Nl Nz
  have NB := Lib.hid (HB.out.trans ((b6).mono HB.out.size))
  clear HB
  have HB := NB
  clear NB
  clear b6
  go_wp2_with fail
  refine (((HQ.out ▸ HK.out.has _ _ _ _ day _ Rb.out (by have := HB0.out; have := HM.out; omega) : Calls _ _ _ _ fun e w' => e = .returned (.bool Q) ∧ Below _ _ w'))).mono ?_
  rintro e w7 ⟨rfl, b7⟩
  have Na := Lib.hid (Ra.out.keep b7)
  have Nb := Lib.hid (Rb.out.keep b7)
  have Nu := Lib.hid (Ru.out.keep b7)
  have Nv := Lib.hid (Rv.out.keep b7)
  have Nl := Lib.hid (Rl.out.keep b7)
  have Nz := Lib.hid (Rz.out.keep b7)
  clear Ra Rb Ru Rv Rl Rz
  have Ra := Na
  have Rb := Nb
  have Ru := Nu
  have Rv := Nv
  have Rl := Nl
  have Rz := Nz
  clear Na Nb Nu Nv Nl Nz
  have NB := Lib.hid (HB.out.trans ((b7).mono HB.out.size))
  clear HB
  have HB := NB
  clear NB
  clear b7
  go_wp2_with fail
  go_loopw [15, 16] (fun v t wr => ∃ (j : Nat) (z : Bool) (x : Int), v = .bool z ∧ t = .int .i64 x ∧ Hid (z = nearB a (q) j) ∧ Hid (x = q + (j : Int)) ∧ 1 ≤ x ∧ x ≤ day + 1 ∧ Below w7.heap.size w7 wr) (fun _ t _ => (day + 1 - intOf t).toNat)
  case atStart => exact ⟨0, false, _, rfl, rfl, Lib.hid rfl, Lib.hid (by simp), by omega, by omega, Below.refl _ _⟩
  case round =>
    obtain ⟨j, z, x, rfl, rfl, HZ, HX, x1, x2, br⟩ := hrel
    have Na := Lib.hid (Ra.out.keep br)
    have Nb := Lib.hid (Rb.out.keep br)
    have Nu := Lib.hid (Ru.out.keep br)
    have Nv := Lib.hid (Rv.out.keep br)
    have Nl := Lib.hid (Rl.out.keep br)
    have Nz := Lib.hid (Rz.out.keep br)
    clear Ra Rb Ru Rv Rl Rz
    have Ra := Na
    have Rb := Nb
    have Ru := Nu
    have Rv := Nv
    have Rl := Nl
    have Rz := Nz
    clear Na Nb Nu Nv Nl Nz
    have NB := Lib.hid (HB.out.trans ((br).mono HB.out.size))
    clear HB
    have HB := NB
    clear NB
    clear hk
    have HR := Lib.hid br
    clear br
    by_cases hx : x ≤ day
    · have hwx : IntKind.i64.wrap (x + 1) = x + 1 := IntWalk.i64_in _ (by omega)
      cases z with
      | true =>
        have HZ2 := Lib.hid (show true = nearB a (q) (j + 1) by rw [nearB_more, ← HZ.out]; rfl)
        have HX2 := Lib.hid (show x + 1 = q + ((j + 1 : Nat) : Int) by have := HX.out; omega)
        go_wp2_with fail
        go_roundw
        case rel => exact ⟨j + 1, true, x + 1, rfl, rfl, HZ2, HX2, by omega, by omega, HR.out⟩
        case measure => simp [intOf]; omega
      | false =>
        obtain ⟨Y, hY⟩ : ∃ Y, hasB a x = Y := ⟨_, rfl⟩
        have HY := Lib.hid hY
        clear hY
        have HZ2 := Lib.hid (show Y = nearB a (q) (j + 1) by rw [nearB_more, ← HZ.out, ← HX.out, HY.out]; rfl)
        have HX2 := Lib.hid (show x + 1 = q + ((j + 1 : Nat) : Int) by have := HX.out; omega)
        go_wp2_with fail
        refine ((HY.out ▸ HK.out.has _ _ _ _ x _ Ra.out (by have := HA.out; have := HN.out; omega) : Calls _ _ _ _ fun e w' => e = .returned (.bool Y) ∧ Below _ _ w')).mono ?_
        rintro e ws ⟨rfl, bs⟩
        have HR2 := Lib.hid (HR.out.trans (bs.mono HR.out.size))
        clear bs
        go_wp2_with fail
        go_roundw
        case rel => exact ⟨j + 1, Y, x + 1, rfl, rfl, HZ2, HX2, by omega, by omega, HR2.out⟩
        case measure => simp [intOf]; omega
    · have hxe : x = day + 1 := by omega
      have E3 := Lib.hid (show hasB (wideL k a) day = z by rw [HZ.out]; exact (HNR.out j (by have := HX.out; omega)).symm)
      clear HZ HX HNR HR
      cases P <;> cases Q <;> cases z
      all_goals
        go_wp2_with fail
        refine (((E0.out ▸ HK.out.has _ _ _ _ day _ Ru.out (by have := HA.out; have := HN.out; have := HB0.out; have := HM.out; have := two_len 0 a b; omega) : Calls _ _ _ _ fun e w' => e = .returned (.bool _) ∧ Below _ _ w'))).mono ?_
        rintro e w8 ⟨rfl, b8⟩
        have Na := Lib.hid (Ra.out.keep b8)
        have Nb := Lib.hid (Rb.out.keep b8)
        have Nu := Lib.hid (Ru.out.keep b8)
        have Nv := Lib.hid (Rv.out.keep b8)
        have Nl := Lib.hid (Rl.out.keep b8)
        have Nz := Lib.hid (Rz.out.keep b8)
        clear Ra Rb Ru Rv Rl Rz
        have Ra := Na
        have Rb := Nb
        have Ru := Nu
        have Rv := Nv
        have Rl := Nl
        have Rz := Nz
        clear Na Nb Nu Nv Nl Nz
        have NB := Lib.hid (HB.out.trans ((b8).mono HB.out.size))
        clear HB
        have HB := NB
        clear NB
        clear b8
        go_wp2_with fail
        refine (((E1.out ▸ HK.out.has _ _ _ _ day _ Rv.out (by have := HA.out; have := HN.out; have := HB0.out; have := HM.out; have := two_len 1 a b; omega) : Calls _ _ _ _ fun e w' => e = .returned (.bool _) ∧ Below _ _ w'))).mono ?_
        rintro e w9 ⟨rfl, b9⟩
        have Na := Lib.hid (Ra.out.keep b9)
        have Nb := Lib.hid (Rb.out.keep b9)
        have Nu := Lib.hid (Ru.out.keep b9)
        have Nv := Lib.hid (Rv.out.keep b9)
        have Nl := Lib.hid (Rl.out.keep b9)
        have Nz := Lib.hid (Rz.out.keep b9)
        clear Ra Rb Ru Rv Rl Rz
        have Ra := Na
        have Rb := Nb
        have Ru := Nu
        have Rv := Nv
        have Rl := Nl
        have Rz := Nz
        clear Na Nb Nu Nv Nl Nz
        have NB := Lib.hid (HB.out.trans ((b9).mono HB.out.size))
        clear HB
        have HB := NB
        clear NB
        clear b9
        go_wp2_with fail
        refine (((E2.out ▸ HK.out.has _ _ _ _ day _ Rl.out (by have := HA.out; have := HN.out; have := HB0.out; have := HM.out; have := two_len 2 a b; omega) : Calls _ _ _ _ fun e w' => e = .returned (.bool _) ∧ Below _ _ w'))).mono ?_
        rintro e w10 ⟨rfl, b10⟩
        have Na := Lib.hid (Ra.out.keep b10)
        have Nb := Lib.hid (Rb.out.keep b10)
        have Nu := Lib.hid (Ru.out.keep b10)
        have Nv := Lib.hid (Rv.out.keep b10)
        have Nl := Lib.hid (Rl.out.keep b10)
        have Nz := Lib.hid (Rz.out.keep b10)
        clear Ra Rb Ru Rv Rl Rz
        have Ra := Na
        have Rb := Nb
        have Ru := Nu
        have Rv := Nv
        have Rl := Nl
        have Rz := Nz
        clear Na Nb Nu Nv Nl Nz
        have NB := Lib.hid (HB.out.trans ((b10).mono HB.out.size))
        clear HB
        have HB := NB
        clear NB
        clear b10
        go_wp2_with fail
        refine (((E3.out ▸ HK.out.has _ _ _ _ day _ Rz.out (by have := HA.out; have := HN.out; have := HB0.out; have := HM.out; have := wide_len k a; omega) : Calls _ _ _ _ fun e w' => e = .returned (.bool _) ∧ Below _ _ w'))).mono ?_
        rintro e w11 ⟨rfl, b11⟩
        have Na := Lib.hid (Ra.out.keep b11)
        have Nb := Lib.hid (Rb.out.keep b11)
        have Nu := Lib.hid (Ru.out.keep b11)
        have Nv := Lib.hid (Rv.out.keep b11)
        have Nl := Lib.hid (Rl.out.keep b11)
        have Nz := Lib.hid (Rz.out.keep b11)
        clear Ra Rb Ru Rv Rl Rz
        have Ra := Na
        have Rb := Nb
        have Ru := Nu
        have Rv := Nv
        have Rl := Nl
        have Rz := Nz
        clear Na Nb Nu Nv Nl Nz
        have NB := Lib.hid (HB.out.trans ((b11).mono HB.out.size))
        clear HB
        have HB := NB
        clear NB
        clear b11
        go_wp2_with fail
        refine (((may_right (two_right 0 a b) ▸ HK.out.may _ _ _ _ _ Ru.out (by have := HA.out; have := HN.out; have := HB0.out; have := HM.out; have := two_len 0 a b; omega) : Calls _ _ _ _ fun e w' => e = .returned (.bool true) ∧ Below _ _ w'))).mono ?_
        rintro e w12 ⟨rfl, b12⟩
        have Na := Lib.hid (Ra.out.keep b12)
        have Nb := Lib.hid (Rb.out.keep b12)
        have Nu := Lib.hid (Ru.out.keep b12)
        have Nv := Lib.hid (Rv.out.keep b12)
        have Nl := Lib.hid (Rl.out.keep b12)
        have Nz := Lib.hid (Rz.out.keep b12)
        clear Ra Rb Ru Rv Rl Rz
        have Ra := Na
        have Rb := Nb
        have Ru := Nu
        have Rv := Nv
        have Rl := Nl
        have Rz := Nz
        clear Na Nb Nu Nv Nl Nz
        have NB := Lib.hid (HB.out.trans ((b12).mono HB.out.size))
        clear HB
        have HB := NB
        clear NB
        clear b12
        go_wp2_with fail
        refine (((may_right (two_right 1 a b) ▸ HK.out.may _ _ _ _ _ Rv.out (by have := HA.out; have := HN.out; have := HB0.out; have := HM.out; have := two_len 1 a b; omega) : Calls _ _ _ _ fun e w' => e = .returned (.bool true) ∧ Below _ _ w'))).mono ?_
        rintro e w13 ⟨rfl, b13⟩
        have Na := Lib.hid (Ra.out.keep b13)
        have Nb := Lib.hid (Rb.out.keep b13)
        have Nu := Lib.hid (Ru.out.keep b13)
        have Nv := Lib.hid (Rv.out.keep b13)
        have Nl := Lib.hid (Rl.out.keep b13)
        have Nz := Lib.hid (Rz.out.keep b13)
        clear Ra Rb Ru Rv Rl Rz
        have Ra := Na
        have Rb := Nb
        have Ru := Nu
        have Rv := Nv
        have Rl := Nl
        have Rz := Nz
        clear Na Nb Nu Nv Nl Nz
        have NB := Lib.hid (HB.out.trans ((b13).mono HB.out.size))
        clear HB
        have HB := NB
        clear NB
        clear b13
        go_wp2_with fail
        refine (((may_right (two_right 2 a b) ▸ HK.out.may _ _ _ _ _ Rl.out (by have := HA.out; have := HN.out; have := HB0.out; have := HM.out; have := two_len 2 a b; omega) : Calls _ _ _ _ fun e w' => e = .returned (.bool true) ∧ Below _ _ w'))).mono ?_
        rintro e w14 ⟨rfl, b14⟩
        have Na := Lib.hid (Ra.out.keep b14)
        have Nb := Lib.hid (Rb.out.keep b14)
        have Nu := Lib.hid (Ru.out.keep b14)
        have Nv := Lib.hid (Rv.out.keep b14)
        have Nl := Lib.hid (Rl.out.keep b14)
        have Nz := Lib.hid (Rz.out.keep b14)
        clear Ra Rb Ru Rv Rl Rz
        have Ra := Na
        have Rb := Nb
        have Ru := Nu
        have Rv := Nv
        have Rl := Nl
        have Rz := Nz
        clear Na Nb Nu Nv Nl Nz
        have NB := Lib.hid (HB.out.trans ((b14).mono HB.out.size))
        clear HB
        have HB := NB
        clear NB
        clear b14
        go_wp2_with fail
        refine (((may_right (wide_right k a) ▸ HK.out.may _ _ _ _ _ Rz.out (by have := HA.out; have := HN.out; have := HB0.out; have := HM.out; have := wide_len k a; omega) : Calls _ _ _ _ fun e w' => e = .returned (.bool true) ∧ Below _ _ w'))).mono ?_
        rintro e w15 ⟨rfl, b15⟩
        have Na := Lib.hid (Ra.out.keep b15)
        have Nb := Lib.hid (Rb.out.keep b15)
        have Nu := Lib.hid (Ru.out.keep b15)
        have Nv := Lib.hid (Rv.out.keep b15)
        have Nl := Lib.hid (Rl.out.keep b15)
        have Nz := Lib.hid (Rz.out.keep b15)
        clear Ra Rb Ru Rv Rl Rz
        have Ra := Na
        have Rb := Nb
        have Ru := Nu
        have Rv := Nv
        have Rl := Nl
        have Rz := Nz
        clear Na Nb Nu Nv Nl Nz
        have NB := Lib.hid (HB.out.trans ((b15).mono HB.out.size))
        clear HB
        have HB := NB
        clear NB
        clear b15
        go_wp2_with fail
        refine (HK.out.all _).mono ?_
        rintro e w16 ⟨Ax, nx, cx, rfl, r16, b16⟩
        have Na := Lib.hid (Ra.out.keep b16)
        have Nb := Lib.hid (Rb.out.keep b16)
        have Nu := Lib.hid (Ru.out.keep b16)
        have Nv := Lib.hid (Rv.out.keep b16)
        have Nl := Lib.hid (Rl.out.keep b16)
        have Nz := Lib.hid (Rz.out.keep b16)
        clear Ra Rb Ru Rv Rl Rz
        have Ra := Na
        have Rb := Nb
        have Ru := Nu
        have Rv := Nv
        have Rl := Nl
        have Rz := Nz
        clear Na Nb Nu Nv Nl Nz
        have NB := Lib.hid (HB.out.trans ((b16).mono HB.out.size))
        clear HB
        have HB := NB
        clear NB
        have Rx := Lib.hid r16
        clear r16
        clear b16
        go_wp2_with fail
        refine (((E4.out ▸ HK.out.has _ _ _ _ day _ Rx.out (by decide) : Calls _ _ _ _ fun e w' => e = .returned (.bool true) ∧ Below _ _ w'))).mono ?_
        rintro e w17 ⟨rfl, b17⟩
        have Na := Lib.hid (Ra.out.keep b17)
        have Nb := Lib.hid (Rb.out.keep b17)
        have Nu := Lib.hid (Ru.out.keep b17)
        have Nv := Lib.hid (Rv.out.keep b17)
        have Nl := Lib.hid (Rl.out.keep b17)
        have Nz := Lib.hid (Rz.out.keep b17)
        have Nx := Lib.hid (Rx.out.keep b17)
        clear Ra Rb Ru Rv Rl Rz Rx
        have Ra := Na
        have Rb := Nb
        have Ru := Nu
        have Rv := Nv
        have Rl := Nl
        have Rz := Nz
        have Rx := Nx
        clear Na Nb Nu Nv Nl Nz Nx
        have NB := Lib.hid (HB.out.trans ((b17).mono HB.out.size))
        clear HB
        have HB := NB
        clear NB
        clear b17
        go_wp2_with fail
        refine (spknown_any HK.out _).mono ?_
        rintro e w18 ⟨rfl, b18⟩
        have Na := Lib.hid (Ra.out.keep b18)
        have Nb := Lib.hid (Rb.out.keep b18)
        have Nu := Lib.hid (Ru.out.keep b18)
        have Nv := Lib.hid (Rv.out.keep b18)
        have Nl := Lib.hid (Rl.out.keep b18)
        have Nz := Lib.hid (Rz.out.keep b18)
        have Nx := Lib.hid (Rx.out.keep b18)
        clear Ra Rb Ru Rv Rl Rz Rx
        have Ra := Na
        have Rb := Nb
        have Ru := Nu
        have Rv := Nv
        have Rl := Nl
        have Rz := Nz
        have Rx := Nx
        clear Na Nb Nu Nv Nl Nz Nx
        have NB := Lib.hid (HB.out.trans ((b18).mono HB.out.size))
        clear HB
        have HB := NB
        clear NB
        clear b18
        go_wp2_with fail
        go_ret
        exact ⟨rfl, HB.out⟩
theorem spdays_few (K : SpK) (A B : Option Addr) (n c m d : Nat) (a b : SpL) (w : World) (Sa : Spn w A n c a) (Sb : Spn w B m d b) (k day : Int) (hn : n ≤ 60) (hm : m ≤ 60) (h0 : ¬ (k < 0)) (h1 : ¬ (k > 50)) (h2 : ¬ (day < 1)) (h3 : ¬ (day > 3652059)) : Calls Try.prog 4 #[.slice A n c, .slice B m d, .int .i64 k, .int .i64 day] w fun e w' => e = .returned (.bool true) ∧ Below w.heap.size w w' := by
  by_cases hy : day - k < 1
  · exact spdays_low K A B n c m d a b w Sa Sb k day hn hm h0 h1 h2 h3 hy
  · exact spdays_high K A B n c m d a b w Sa Sb k day hn hm h0 h1 h2 h3 (by omega)
theorem spdays_any (K : SpK) (A B : Option Addr) (n c m d : Nat) (a b : SpL) (w : World) (Sa : Spn w A n c a) (Sb : Spn w B m d b) (k day : Int) : Calls Try.prog 4 #[.slice A n c, .slice B m d, .int .i64 k, .int .i64 day] w fun e w' => e = .returned (.bool true) ∧ Below w.heap.size w w' := by
  by_cases hn : n ≤ 60
  · by_cases hm : m ≤ 60
    · by_cases h0 : k < 0
      · exact spdays_odd0 K A B n c m d a b w Sa Sb k day hn hm h0
      · by_cases h1 : k > 50
        · exact spdays_odd1 K A B n c m d a b w Sa Sb k day hn hm h0 h1
        · by_cases h2 : day < 1
          · exact spdays_odd2 K A B n c m d a b w Sa Sb k day hn hm h0 h1 h2
          · by_cases h3 : day > 3652059
            · exact spdays_odd3 K A B n c m d a b w Sa Sb k day hn hm h0 h1 h2 h3
            · exact spdays_few K A B n c m d a b w Sa Sb k day hn hm h0 h1 h2 h3
    · exact spdays_other K A B n c m d a b w Sa Sb k day hn hm
  · exact spdays_one K A B n c m d a b w Sa Sb k day hn
end Go.Proofs.Ytmolbckndkhhlaa

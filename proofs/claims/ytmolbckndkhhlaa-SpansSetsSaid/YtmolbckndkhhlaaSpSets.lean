/- The law SpansSets. -/
import Derived.Test.YtmolbckndkhhlaaSpKnown
namespace Go.Proofs.Ytmolbckndkhhlaa
set_option maxRecDepth 8000
open Go.RowKit Corr
set_option linter.unusedVariables false
set_option linter.unusedSimpArgs false
theorem two_cells (w : World) (u v : Value) (T : TypeId) : (w.alloc (.cells #[u, v] T)).cell? ⟨w.heap.size, 0, none⟩ = some u ∧ (w.alloc (.cells #[u, v] T)).cell? ⟨w.heap.size, 1, none⟩ = some v := by
  exact ⟨by simp, by simp⟩
theorem has_b {A : Option Addr} {n c : Nat} {l : SpL} {w : World} (R : Spn w A n c l) (day : Int) (hn : n ≤ 1000000) : Calls Try.prog 21 #[.slice A n c, .int .i64 day] w fun e w' => e = .returned (.bool (hasB l day)) ∧ Below w.heap.size w w' := by
  refine (has_any A n c l day w R hn).mono ?_
  rintro e w' ⟨rfl, rfl⟩
  exact ⟨rfl, Below.refl _ _⟩
theorem spsets_one (K : SpK) (A B : Option Addr) (n c m d : Nat) (a b : SpL) (w : World) (Sa : Spn w A n c a) (Sb : Spn w B m d b) (k day : Int) (hn : ¬ n ≤ 60) : Calls Try.prog 3 #[.slice A n c, .slice B m d, .int .i64 k, .int .i64 day] w fun e w' => e = .returned (.bool true) ∧ Below w.heap.size w w' := by
  have HK := Lib.hid K
  have HA := Lib.hid Sa.count
  have HB0 := Lib.hid Sb.count
  have Ra := Lib.hid Sa
  have Rb := Lib.hid Sb
  clear Sa Sb
  have HB := Lib.hid (Below.refl w.heap.size w)
  have bl := (Below.refl w.heap.size w).alloc (Nat.le_refl _) (.cells #[.slice A n c, .slice B m d] 22)
  have tc := two_cells w (.slice A n c) (.slice B m d) 22
  have Na := Lib.hid (Ra.out.keep bl)
  have Nb := Lib.hid (Rb.out.keep bl)
  clear Ra Rb
  have Ra := Na
  have Rb := Nb
  clear Na Nb
  have NB := Lib.hid (HB.out.trans ((bl).mono HB.out.size))
  clear HB
  have HB := NB
  clear NB
  clear bl
  go_enter Try.func3, Try.ntmps3
  go_wp2_with fail
  refine (great_one A B n c m d _ _ tc.1 hn).mono ?_
  rintro e w1 ⟨rfl, b1⟩
  have Na := Lib.hid (Ra.out.keep b1)
  have Nb := Lib.hid (Rb.out.keep b1)
  clear Ra Rb
  have Ra := Na
  have Rb := Nb
  clear Na Nb
  have NB := Lib.hid (HB.out.trans ((b1).mono HB.out.size))
  clear HB
  have HB := NB
  clear NB
  clear b1
  clear tc
  clear hn
  go_wp2_with fail
  refine (spknown_any HK.out _).mono ?_
  rintro e w2 ⟨rfl, b2⟩
  have Na := Lib.hid (Ra.out.keep b2)
  have Nb := Lib.hid (Rb.out.keep b2)
  clear Ra Rb
  have Ra := Na
  have Rb := Nb
  clear Na Nb
  have NB := Lib.hid (HB.out.trans ((b2).mono HB.out.size))
  clear HB
  have HB := NB
  clear NB
  clear b2
  go_wp2_with fail
  go_ret
  exact ⟨rfl, HB.out⟩
theorem spsets_other (K : SpK) (A B : Option Addr) (n c m d : Nat) (a b : SpL) (w : World) (Sa : Spn w A n c a) (Sb : Spn w B m d b) (k day : Int) (hn : n ≤ 60) (hm : ¬ m ≤ 60) : Calls Try.prog 3 #[.slice A n c, .slice B m d, .int .i64 k, .int .i64 day] w fun e w' => e = .returned (.bool true) ∧ Below w.heap.size w w' := by
  have HK := Lib.hid K
  have HA := Lib.hid Sa.count
  have HB0 := Lib.hid Sb.count
  have Ra := Lib.hid Sa
  have Rb := Lib.hid Sb
  clear Sa Sb
  have HB := Lib.hid (Below.refl w.heap.size w)
  have bl := (Below.refl w.heap.size w).alloc (Nat.le_refl _) (.cells #[.slice A n c, .slice B m d] 22)
  have tc := two_cells w (.slice A n c) (.slice B m d) 22
  have Na := Lib.hid (Ra.out.keep bl)
  have Nb := Lib.hid (Rb.out.keep bl)
  clear Ra Rb
  have Ra := Na
  have Rb := Nb
  clear Na Nb
  have NB := Lib.hid (HB.out.trans ((bl).mono HB.out.size))
  clear HB
  have HB := NB
  clear NB
  clear bl
  go_enter Try.func3, Try.ntmps3
  go_wp2_with fail
  refine (great_other _ _ _ _ _ _ _ _ tc.1 tc.2 hn hm).mono ?_
  rintro e w1 ⟨rfl, b1⟩
  have Na := Lib.hid (Ra.out.keep b1)
  have Nb := Lib.hid (Rb.out.keep b1)
  clear Ra Rb
  have Ra := Na
  have Rb := Nb
  clear Na Nb
  have NB := Lib.hid (HB.out.trans ((b1).mono HB.out.size))
  clear HB
  have HB := NB
  clear NB
  clear b1
  clear tc
  clear hn hm
  go_wp2_with fail
  refine (spknown_any HK.out _).mono ?_
  rintro e w2 ⟨rfl, b2⟩
  have Na := Lib.hid (Ra.out.keep b2)
  have Nb := Lib.hid (Rb.out.keep b2)
  clear Ra Rb
  have Ra := Na
  have Rb := Nb
  clear Na Nb
  have NB := Lib.hid (HB.out.trans ((b2).mono HB.out.size))
  clear HB
  have HB := NB
  clear NB
  clear b2
  go_wp2_with fail
  go_ret
  exact ⟨rfl, HB.out⟩
set_option maxHeartbeats 4000000 in
theorem spsets_few (K : SpK) (A B : Option Addr) (n c m d : Nat) (a b : SpL) (w : World) (Sa : Spn w A n c a) (Sb : Spn w B m d b) (k day : Int) (hn : n ≤ 60) (hm : m ≤ 60) : Calls Try.prog 3 #[.slice A n c, .slice B m d, .int .i64 k, .int .i64 day] w fun e w' => e = .returned (.bool true) ∧ Below w.heap.size w w' := by
  have HK := Lib.hid K
  have HA := Lib.hid Sa.count
  have HB0 := Lib.hid Sb.count
  have Ra := Lib.hid Sa
  have Rb := Lib.hid Sb
  clear Sa Sb
  have HB := Lib.hid (Below.refl w.heap.size w)
  have bl := (Below.refl w.heap.size w).alloc (Nat.le_refl _) (.cells #[.slice A n c, .slice B m d] 22)
  have tc := two_cells w (.slice A n c) (.slice B m d) 22
  have Na := Lib.hid (Ra.out.keep bl)
  have Nb := Lib.hid (Rb.out.keep bl)
  clear Ra Rb
  have Ra := Na
  have Rb := Nb
  clear Na Nb
  have NB := Lib.hid (HB.out.trans ((bl).mono HB.out.size))
  clear HB
  have HB := NB
  clear NB
  clear bl
  go_enter Try.func3, Try.ntmps3
  go_wp2_with fail
  refine (great_two _ _ _ _ _ _ _ _ tc.1 tc.2 hn hm).mono ?_
  rintro e w1 ⟨rfl, b1⟩
  have Na := Lib.hid (Ra.out.keep b1)
  have Nb := Lib.hid (Rb.out.keep b1)
  clear Ra Rb
  have Ra := Na
  have Rb := Nb
  clear Na Nb
  have NB := Lib.hid (HB.out.trans ((b1).mono HB.out.size))
  clear HB
  have HB := NB
  clear NB
  clear b1
  clear tc
  have HN := Lib.hid hn
  have HM := Lib.hid hm
  clear hn hm
  obtain ⟨Q, hQ⟩ : ∃ Q, decide (a = twoL 0 a []) = Q := ⟨_, rfl⟩
  have q0 : (Q != Q) = false := by simp
  have HQ := Lib.hid hQ
  clear hQ
  obtain ⟨P, hP⟩ : ∃ P, hasB a day = P := ⟨_, rfl⟩
  have p0 : (P != P) = false := by simp
  have HP := Lib.hid hP
  clear hP
  obtain ⟨D, hD⟩ : ∃ D, sumDays (twoL 0 a []) = D := ⟨_, rfl⟩
  have d0 : (D != D) = false := by simp
  have HD := Lib.hid hD
  clear hD
  go_wp2_with fail
  refine (own_any _ _ _ _ _ Ra.out (by have := HN.out; omega)).mono ?_
  rintro e w2 ⟨Ax, nx, cx, rfl, r2, b2⟩
  have Na := Lib.hid (Ra.out.keep b2)
  have Nb := Lib.hid (Rb.out.keep b2)
  clear Ra Rb
  have Ra := Na
  have Rb := Nb
  clear Na Nb
  have NB := Lib.hid (HB.out.trans ((b2).mono HB.out.size))
  clear HB
  have HB := NB
  clear NB
  have Rx := Lib.hid r2
  clear r2
  clear b2
  go_wp2_with fail
  refine (own_any _ _ _ _ _ Rb.out (by have := HM.out; omega)).mono ?_
  rintro e w3 ⟨Ay, ny, cy, rfl, r3, b3⟩
  have Na := Lib.hid (Ra.out.keep b3)
  have Nb := Lib.hid (Rb.out.keep b3)
  have Nx := Lib.hid (Rx.out.keep b3)
  clear Ra Rb Rx
  have Ra := Na
  have Rb := Nb
  have Rx := Nx
  clear Na Nb Nx
  have NB := Lib.hid (HB.out.trans ((b3).mono HB.out.size))
  clear HB
  have HB := NB
  clear NB
  have Ry := Lib.hid r3
  clear r3
  clear b3
  go_wp2_with fail
  refine (((HQ.out ▸ HK.out.may _ _ _ _ _ Rx.out (by have := HA.out; have := HN.out; omega) : Calls _ _ _ _ fun e w' => e = .returned (.bool Q) ∧ Below _ _ w'))).mono ?_
  rintro e w4 ⟨rfl, b4⟩
  have Na := Lib.hid (Ra.out.keep b4)
  have Nb := Lib.hid (Rb.out.keep b4)
  have Nx := Lib.hid (Rx.out.keep b4)
  have Ny := Lib.hid (Ry.out.keep b4)
  clear Ra Rb Rx Ry
  have Ra := Na
  have Rb := Nb
  have Rx := Nx
  have Ry := Ny
  clear Na Nb Nx Ny
  have NB := Lib.hid (HB.out.trans ((b4).mono HB.out.size))
  clear HB
  have HB := NB
  clear NB
  clear b4
  go_wp2_with fail
  refine (((HQ.out ▸ may_any _ _ _ _ _ Ra.out (by have := HN.out; omega) : Calls _ _ _ _ fun e w' => e = .returned (.bool Q) ∧ Below _ _ w'))).mono ?_
  rintro e w5 ⟨rfl, b5⟩
  have Na := Lib.hid (Ra.out.keep b5)
  have Nb := Lib.hid (Rb.out.keep b5)
  have Nx := Lib.hid (Rx.out.keep b5)
  have Ny := Lib.hid (Ry.out.keep b5)
  clear Ra Rb Rx Ry
  have Ra := Na
  have Rb := Nb
  have Rx := Nx
  have Ry := Ny
  clear Na Nb Nx Ny
  have NB := Lib.hid (HB.out.trans ((b5).mono HB.out.size))
  clear HB
  have HB := NB
  clear NB
  clear b5
  go_wp2_with fail
  refine (HK.out.of _ _ _ _ _ Rx.out (by have := HA.out; have := HN.out; omega)).mono ?_
  rintro e w6 ⟨Au, nu, cu, rfl, r6, b6⟩
  have Na := Lib.hid (Ra.out.keep b6)
  have Nb := Lib.hid (Rb.out.keep b6)
  have Nx := Lib.hid (Rx.out.keep b6)
  have Ny := Lib.hid (Ry.out.keep b6)
  clear Ra Rb Rx Ry
  have Ra := Na
  have Rb := Nb
  have Rx := Nx
  have Ry := Ny
  clear Na Nb Nx Ny
  have NB := Lib.hid (HB.out.trans ((b6).mono HB.out.size))
  clear HB
  have HB := NB
  clear NB
  have Ru := Lib.hid r6
  clear r6
  clear b6
  go_wp2_with fail
  refine ((of_any _ _ _ _ _ Ra.out (by have := HN.out; omega)).mono (fun _ _ h => RetSp.of h)).mono ?_
  rintro e w7 ⟨Av, nv, cv, rfl, r7, b7⟩
  have Na := Lib.hid (Ra.out.keep b7)
  have Nb := Lib.hid (Rb.out.keep b7)
  have Nx := Lib.hid (Rx.out.keep b7)
  have Ny := Lib.hid (Ry.out.keep b7)
  have Nu := Lib.hid (Ru.out.keep b7)
  clear Ra Rb Rx Ry Ru
  have Ra := Na
  have Rb := Nb
  have Rx := Nx
  have Ry := Ny
  have Ru := Nu
  clear Na Nb Nx Ny Nu
  have NB := Lib.hid (HB.out.trans ((b7).mono HB.out.size))
  clear HB
  have HB := NB
  clear NB
  have Rv := Lib.hid r7
  clear r7
  clear b7
  go_wp2_with fail
  refine (same_yes Ru.out Rv.out rfl (by have := HA.out; have := HN.out; have := HB0.out; have := HM.out; have := two_len 0 a []; simp only [List.length_nil] at *; omega)).mono ?_
  rintro e w8 ⟨rfl, b8⟩
  have Na := Lib.hid (Ra.out.keep b8)
  have Nb := Lib.hid (Rb.out.keep b8)
  have Nx := Lib.hid (Rx.out.keep b8)
  have Ny := Lib.hid (Ry.out.keep b8)
  have Nu := Lib.hid (Ru.out.keep b8)
  have Nv := Lib.hid (Rv.out.keep b8)
  clear Ra Rb Rx Ry Ru Rv
  have Ra := Na
  have Rb := Nb
  have Rx := Nx
  have Ry := Ny
  have Ru := Nu
  have Rv := Nv
  clear Na Nb Nx Ny Nu Nv
  have NB := Lib.hid (HB.out.trans ((b8).mono HB.out.size))
  clear HB
  have HB := NB
  clear NB
  clear b8
  clear Ru
  clear Rv
  go_wp2_with fail
  refine (HK.out.union _ _ _ _ _ _ _ _ _ Rx.out Ry.out (by have := HA.out; have := HN.out; omega) (by have := HB0.out; have := HM.out; omega)).mono ?_
  rintro e w9 ⟨Au, nu, cu, rfl, r9, b9⟩
  have Na := Lib.hid (Ra.out.keep b9)
  have Nb := Lib.hid (Rb.out.keep b9)
  have Nx := Lib.hid (Rx.out.keep b9)
  have Ny := Lib.hid (Ry.out.keep b9)
  clear Ra Rb Rx Ry
  have Ra := Na
  have Rb := Nb
  have Rx := Nx
  have Ry := Ny
  clear Na Nb Nx Ny
  have NB := Lib.hid (HB.out.trans ((b9).mono HB.out.size))
  clear HB
  have HB := NB
  clear NB
  have Ru := Lib.hid r9
  clear r9
  clear b9
  go_wp2_with fail
  refine ((two_any _ _ _ _ _ _ _ _ 0 _ Ra.out Rb.out (by have := HN.out; omega) (by have := HM.out; omega)).mono (fun _ _ h => RetSp.of h)).mono ?_
  rintro e w10 ⟨Av, nv, cv, rfl, r10, b10⟩
  have Na := Lib.hid (Ra.out.keep b10)
  have Nb := Lib.hid (Rb.out.keep b10)
  have Nx := Lib.hid (Rx.out.keep b10)
  have Ny := Lib.hid (Ry.out.keep b10)
  have Nu := Lib.hid (Ru.out.keep b10)
  clear Ra Rb Rx Ry Ru
  have Ra := Na
  have Rb := Nb
  have Rx := Nx
  have Ry := Ny
  have Ru := Nu
  clear Na Nb Nx Ny Nu
  have NB := Lib.hid (HB.out.trans ((b10).mono HB.out.size))
  clear HB
  have HB := NB
  clear NB
  have Rv := Lib.hid r10
  clear r10
  clear b10
  go_wp2_with fail
  refine (same_yes Ru.out Rv.out rfl (by have := HA.out; have := HN.out; have := HB0.out; have := HM.out; have := two_len 0 a b; omega)).mono ?_
  rintro e w11 ⟨rfl, b11⟩
  have Na := Lib.hid (Ra.out.keep b11)
  have Nb := Lib.hid (Rb.out.keep b11)
  have Nx := Lib.hid (Rx.out.keep b11)
  have Ny := Lib.hid (Ry.out.keep b11)
  have Nu := Lib.hid (Ru.out.keep b11)
  have Nv := Lib.hid (Rv.out.keep b11)
  clear Ra Rb Rx Ry Ru Rv
  have Ra := Na
  have Rb := Nb
  have Rx := Nx
  have Ry := Ny
  have Ru := Nu
  have Rv := Nv
  clear Na Nb Nx Ny Nu Nv
  have NB := Lib.hid (HB.out.trans ((b11).mono HB.out.size))
  clear HB
  have HB := NB
  clear NB
  clear b11
  clear Ru
  clear Rv
  go_wp2_with fail
  refine (HK.out.meet _ _ _ _ _ _ _ _ _ Rx.out Ry.out (by have := HA.out; have := HN.out; omega) (by have := HB0.out; have := HM.out; omega)).mono ?_
  rintro e w12 ⟨Au, nu, cu, rfl, r12, b12⟩
  have Na := Lib.hid (Ra.out.keep b12)
  have Nb := Lib.hid (Rb.out.keep b12)
  have Nx := Lib.hid (Rx.out.keep b12)
  have Ny := Lib.hid (Ry.out.keep b12)
  clear Ra Rb Rx Ry
  have Ra := Na
  have Rb := Nb
  have Rx := Nx
  have Ry := Ny
  clear Na Nb Nx Ny
  have NB := Lib.hid (HB.out.trans ((b12).mono HB.out.size))
  clear HB
  have HB := NB
  clear NB
  have Ru := Lib.hid r12
  clear r12
  clear b12
  go_wp2_with fail
  refine ((two_any _ _ _ _ _ _ _ _ 1 _ Ra.out Rb.out (by have := HN.out; omega) (by have := HM.out; omega)).mono (fun _ _ h => RetSp.of h)).mono ?_
  rintro e w13 ⟨Av, nv, cv, rfl, r13, b13⟩
  have Na := Lib.hid (Ra.out.keep b13)
  have Nb := Lib.hid (Rb.out.keep b13)
  have Nx := Lib.hid (Rx.out.keep b13)
  have Ny := Lib.hid (Ry.out.keep b13)
  have Nu := Lib.hid (Ru.out.keep b13)
  clear Ra Rb Rx Ry Ru
  have Ra := Na
  have Rb := Nb
  have Rx := Nx
  have Ry := Ny
  have Ru := Nu
  clear Na Nb Nx Ny Nu
  have NB := Lib.hid (HB.out.trans ((b13).mono HB.out.size))
  clear HB
  have HB := NB
  clear NB
  have Rv := Lib.hid r13
  clear r13
  clear b13
  go_wp2_with fail
  refine (same_yes Ru.out Rv.out rfl (by have := HA.out; have := HN.out; have := HB0.out; have := HM.out; have := two_len 1 a b; omega)).mono ?_
  rintro e w14 ⟨rfl, b14⟩
  have Na := Lib.hid (Ra.out.keep b14)
  have Nb := Lib.hid (Rb.out.keep b14)
  have Nx := Lib.hid (Rx.out.keep b14)
  have Ny := Lib.hid (Ry.out.keep b14)
  have Nu := Lib.hid (Ru.out.keep b14)
  have Nv := Lib.hid (Rv.out.keep b14)
  clear Ra Rb Rx Ry Ru Rv
  have Ra := Na
  have Rb := Nb
  have Rx := Nx
  have Ry := Ny
  have Ru := Nu
  have Rv := Nv
  clear Na Nb Nx Ny Nu Nv
  have NB := Lib.hid (HB.out.trans ((b14).mono HB.out.size))
  clear HB
  have HB := NB
  clear NB
  clear b14
  clear Ru
  clear Rv
  go_wp2_with fail
  refine (HK.out.less _ _ _ _ _ _ _ _ _ Rx.out Ry.out (by have := HA.out; have := HN.out; omega) (by have := HB0.out; have := HM.out; omega)).mono ?_
  rintro e w15 ⟨Au, nu, cu, rfl, r15, b15⟩
  have Na := Lib.hid (Ra.out.keep b15)
  have Nb := Lib.hid (Rb.out.keep b15)
  have Nx := Lib.hid (Rx.out.keep b15)
  have Ny := Lib.hid (Ry.out.keep b15)
  clear Ra Rb Rx Ry
  have Ra := Na
  have Rb := Nb
  have Rx := Nx
  have Ry := Ny
  clear Na Nb Nx Ny
  have NB := Lib.hid (HB.out.trans ((b15).mono HB.out.size))
  clear HB
  have HB := NB
  clear NB
  have Ru := Lib.hid r15
  clear r15
  clear b15
  go_wp2_with fail
  refine ((two_any _ _ _ _ _ _ _ _ 2 _ Ra.out Rb.out (by have := HN.out; omega) (by have := HM.out; omega)).mono (fun _ _ h => RetSp.of h)).mono ?_
  rintro e w16 ⟨Av, nv, cv, rfl, r16, b16⟩
  have Na := Lib.hid (Ra.out.keep b16)
  have Nb := Lib.hid (Rb.out.keep b16)
  have Nx := Lib.hid (Rx.out.keep b16)
  have Ny := Lib.hid (Ry.out.keep b16)
  have Nu := Lib.hid (Ru.out.keep b16)
  clear Ra Rb Rx Ry Ru
  have Ra := Na
  have Rb := Nb
  have Rx := Nx
  have Ry := Ny
  have Ru := Nu
  clear Na Nb Nx Ny Nu
  have NB := Lib.hid (HB.out.trans ((b16).mono HB.out.size))
  clear HB
  have HB := NB
  clear NB
  have Rv := Lib.hid r16
  clear r16
  clear b16
  go_wp2_with fail
  refine (same_yes Ru.out Rv.out rfl (by have := HA.out; have := HN.out; have := HB0.out; have := HM.out; have := two_len 2 a b; omega)).mono ?_
  rintro e w17 ⟨rfl, b17⟩
  have Na := Lib.hid (Ra.out.keep b17)
  have Nb := Lib.hid (Rb.out.keep b17)
  have Nx := Lib.hid (Rx.out.keep b17)
  have Ny := Lib.hid (Ry.out.keep b17)
  have Nu := Lib.hid (Ru.out.keep b17)
  have Nv := Lib.hid (Rv.out.keep b17)
  clear Ra Rb Rx Ry Ru Rv
  have Ra := Na
  have Rb := Nb
  have Rx := Nx
  have Ry := Ny
  have Ru := Nu
  have Rv := Nv
  clear Na Nb Nx Ny Nu Nv
  have NB := Lib.hid (HB.out.trans ((b17).mono HB.out.size))
  clear HB
  have HB := NB
  clear NB
  clear b17
  clear Ru
  clear Rv
  go_wp2_with fail
  refine (HK.out.wide _ _ _ _ k _ Rx.out (by have := HA.out; have := HN.out; omega)).mono ?_
  rintro e w18 ⟨Au, nu, cu, rfl, r18, b18⟩
  have Na := Lib.hid (Ra.out.keep b18)
  have Nb := Lib.hid (Rb.out.keep b18)
  have Nx := Lib.hid (Rx.out.keep b18)
  have Ny := Lib.hid (Ry.out.keep b18)
  clear Ra Rb Rx Ry
  have Ra := Na
  have Rb := Nb
  have Rx := Nx
  have Ry := Ny
  clear Na Nb Nx Ny
  have NB := Lib.hid (HB.out.trans ((b18).mono HB.out.size))
  clear HB
  have HB := NB
  clear NB
  have Ru := Lib.hid r18
  clear r18
  clear b18
  go_wp2_with fail
  refine ((wide_any _ _ _ _ k _ Ra.out HN.out).mono (fun _ _ h => RetSp.of h)).mono ?_
  rintro e w19 ⟨Av, nv, cv, rfl, r19, b19⟩
  have Na := Lib.hid (Ra.out.keep b19)
  have Nb := Lib.hid (Rb.out.keep b19)
  have Nx := Lib.hid (Rx.out.keep b19)
  have Ny := Lib.hid (Ry.out.keep b19)
  have Nu := Lib.hid (Ru.out.keep b19)
  clear Ra Rb Rx Ry Ru
  have Ra := Na
  have Rb := Nb
  have Rx := Nx
  have Ry := Ny
  have Ru := Nu
  clear Na Nb Nx Ny Nu
  have NB := Lib.hid (HB.out.trans ((b19).mono HB.out.size))
  clear HB
  have HB := NB
  clear NB
  have Rv := Lib.hid r19
  clear r19
  clear b19
  go_wp2_with fail
  refine (same_yes Ru.out Rv.out rfl (by have := HA.out; have := HN.out; have := HB0.out; have := HM.out; have := wide_len k a; omega)).mono ?_
  rintro e w20 ⟨rfl, b20⟩
  have Na := Lib.hid (Ra.out.keep b20)
  have Nb := Lib.hid (Rb.out.keep b20)
  have Nx := Lib.hid (Rx.out.keep b20)
  have Ny := Lib.hid (Ry.out.keep b20)
  have Nu := Lib.hid (Ru.out.keep b20)
  have Nv := Lib.hid (Rv.out.keep b20)
  clear Ra Rb Rx Ry Ru Rv
  have Ra := Na
  have Rb := Nb
  have Rx := Nx
  have Ry := Ny
  have Ru := Nu
  have Rv := Nv
  clear Na Nb Nx Ny Nu Nv
  have NB := Lib.hid (HB.out.trans ((b20).mono HB.out.size))
  clear HB
  have HB := NB
  clear NB
  clear b20
  clear Ru
  clear Rv
  go_wp2_with fail
  refine (((HP.out ▸ HK.out.has _ _ _ _ day _ Rx.out (by have := HA.out; have := HN.out; omega) : Calls _ _ _ _ fun e w' => e = .returned (.bool P) ∧ Below _ _ w'))).mono ?_
  rintro e w21 ⟨rfl, b21⟩
  have Na := Lib.hid (Ra.out.keep b21)
  have Nb := Lib.hid (Rb.out.keep b21)
  have Nx := Lib.hid (Rx.out.keep b21)
  have Ny := Lib.hid (Ry.out.keep b21)
  clear Ra Rb Rx Ry
  have Ra := Na
  have Rb := Nb
  have Rx := Nx
  have Ry := Ny
  clear Na Nb Nx Ny
  have NB := Lib.hid (HB.out.trans ((b21).mono HB.out.size))
  clear HB
  have HB := NB
  clear NB
  clear b21
  go_wp2_with fail
  refine (((HP.out ▸ has_b Ra.out day (by have := HN.out; omega) : Calls _ _ _ _ fun e w' => e = .returned (.bool P) ∧ Below _ _ w'))).mono ?_
  rintro e w22 ⟨rfl, b22⟩
  have Na := Lib.hid (Ra.out.keep b22)
  have Nb := Lib.hid (Rb.out.keep b22)
  have Nx := Lib.hid (Rx.out.keep b22)
  have Ny := Lib.hid (Ry.out.keep b22)
  clear Ra Rb Rx Ry
  have Ra := Na
  have Rb := Nb
  have Rx := Nx
  have Ry := Ny
  clear Na Nb Nx Ny
  have NB := Lib.hid (HB.out.trans ((b22).mono HB.out.size))
  clear HB
  have HB := NB
  clear NB
  clear b22
  go_wp2_with fail
  refine (((HD.out ▸ HK.out.days _ _ _ _ _ Rx.out (by have := HA.out; have := HN.out; omega) : Calls _ _ _ _ fun e w' => e = .returned (.int .i64 D) ∧ Below _ _ w'))).mono ?_
  rintro e w23 ⟨rfl, b23⟩
  have Na := Lib.hid (Ra.out.keep b23)
  have Nb := Lib.hid (Rb.out.keep b23)
  have Nx := Lib.hid (Rx.out.keep b23)
  have Ny := Lib.hid (Ry.out.keep b23)
  clear Ra Rb Rx Ry
  have Ra := Na
  have Rb := Nb
  have Rx := Nx
  have Ry := Ny
  clear Na Nb Nx Ny
  have NB := Lib.hid (HB.out.trans ((b23).mono HB.out.size))
  clear HB
  have HB := NB
  clear NB
  clear b23
  go_wp2_with fail
  refine (((HD.out ▸ days_of _ _ _ _ _ Ra.out (by have := HN.out; omega) : Calls _ _ _ _ fun e w' => e = .returned (.int .i64 D) ∧ Below _ _ w'))).mono ?_
  rintro e w24 ⟨rfl, b24⟩
  have Na := Lib.hid (Ra.out.keep b24)
  have Nb := Lib.hid (Rb.out.keep b24)
  have Nx := Lib.hid (Rx.out.keep b24)
  have Ny := Lib.hid (Ry.out.keep b24)
  clear Ra Rb Rx Ry
  have Ra := Na
  have Rb := Nb
  have Rx := Nx
  have Ry := Ny
  clear Na Nb Nx Ny
  have NB := Lib.hid (HB.out.trans ((b24).mono HB.out.size))
  clear HB
  have HB := NB
  clear NB
  clear b24
  go_wp2_with fail
  refine (same_yes Rx.out Ra.out rfl (by have := HA.out; have := HN.out; omega)).mono ?_
  rintro e w25 ⟨rfl, b25⟩
  have Na := Lib.hid (Ra.out.keep b25)
  have Nb := Lib.hid (Rb.out.keep b25)
  have Nx := Lib.hid (Rx.out.keep b25)
  have Ny := Lib.hid (Ry.out.keep b25)
  clear Ra Rb Rx Ry
  have Ra := Na
  have Rb := Nb
  have Rx := Nx
  have Ry := Ny
  clear Na Nb Nx Ny
  have NB := Lib.hid (HB.out.trans ((b25).mono HB.out.size))
  clear HB
  have HB := NB
  clear NB
  clear b25
  go_wp2_with fail
  refine (same_yes Ry.out Rb.out rfl (by have := HB0.out; have := HM.out; omega)).mono ?_
  rintro e w26 ⟨rfl, b26⟩
  have Na := Lib.hid (Ra.out.keep b26)
  have Nb := Lib.hid (Rb.out.keep b26)
  have Nx := Lib.hid (Rx.out.keep b26)
  have Ny := Lib.hid (Ry.out.keep b26)
  clear Ra Rb Rx Ry
  have Ra := Na
  have Rb := Nb
  have Rx := Nx
  have Ry := Ny
  clear Na Nb Nx Ny
  have NB := Lib.hid (HB.out.trans ((b26).mono HB.out.size))
  clear HB
  have HB := NB
  clear NB
  clear b26
  go_wp2_with fail
  refine (spknown_any HK.out _).mono ?_
  rintro e w27 ⟨rfl, b27⟩
  have Na := Lib.hid (Ra.out.keep b27)
  have Nb := Lib.hid (Rb.out.keep b27)
  have Nx := Lib.hid (Rx.out.keep b27)
  have Ny := Lib.hid (Ry.out.keep b27)
  clear Ra Rb Rx Ry
  have Ra := Na
  have Rb := Nb
  have Rx := Nx
  have Ry := Ny
  clear Na Nb Nx Ny
  have NB := Lib.hid (HB.out.trans ((b27).mono HB.out.size))
  clear HB
  have HB := NB
  clear NB
  clear b27
  go_wp2_with fail
  go_ret
  exact ⟨rfl, HB.out⟩
theorem spsets_any (K : SpK) (A B : Option Addr) (n c m d : Nat) (a b : SpL) (w : World) (Sa : Spn w A n c a) (Sb : Spn w B m d b) (k day : Int) : Calls Try.prog 3 #[.slice A n c, .slice B m d, .int .i64 k, .int .i64 day] w fun e w' => e = .returned (.bool true) ∧ Below w.heap.size w w' := by
  by_cases hn : n ≤ 60
  · by_cases hm : m ≤ 60
    · exact spsets_few K A B n c m d a b w Sa Sb k day hn hm
    · exact spsets_other K A B n c m d a b w Sa Sb k day hn hm
  · exact spsets_one K A B n c m d a b w Sa Sb k day hn
end Go.Proofs.Ytmolbckndkhhlaa

/- What the laws of package spans say of some sets: known answers true. -/
import Derived.Test.YtmolbckndkhhlaaSpKit
namespace Go.Proofs.Ytmolbckndkhhlaa
set_option maxRecDepth 8000
open Go.RowKit Corr
set_option linter.unusedVariables false
set_option linter.unusedSimpArgs false
theorem great_one (A B : Option Addr) (n c m d g : Nat) (w : World) (x0 : w.cell? ⟨g, 0, none⟩ = some (.slice A n c)) (hn : ¬ n ≤ 60) : Calls Try.prog 6 #[.slice (some ⟨g, 0, none⟩) 2 2] w fun e w' => e = .returned (.bool true) ∧ Below w.heap.size w w' := by
  have q1 : decide ((n : Int) > 60) = true := decide_eq_true (by omega)
  go_enter Try.func6, Try.ntmps6
  go_wp2_with fail
  refine wp_loop_rounds 1 ?_
  rw [rounds_succ]
  go_wp2_with fail
  go_ret
  exact ⟨rfl, Below.refl _ _⟩
theorem great_other (A B : Option Addr) (n c m d g : Nat) (w : World) (x0 : w.cell? ⟨g, 0, none⟩ = some (.slice A n c)) (x1 : w.cell? ⟨g, 1, none⟩ = some (.slice B m d)) (hn : n ≤ 60) (hm : ¬ m ≤ 60) : Calls Try.prog 6 #[.slice (some ⟨g, 0, none⟩) 2 2] w fun e w' => e = .returned (.bool true) ∧ Below w.heap.size w w' := by
  have q1 : decide ((n : Int) > 60) = false := decide_eq_false (by omega)
  have q2 : decide ((m : Int) > 60) = true := decide_eq_true (by omega)
  go_enter Try.func6, Try.ntmps6
  go_wp2_with fail
  refine wp_loop_rounds 2 ?_
  rw [rounds_succ]
  go_wp2_with fail
  rw [rounds_succ]
  go_wp2_with fail
  go_ret
  exact ⟨rfl, Below.refl _ _⟩
theorem same_yes {A B : Option Addr} {n c m d : Nat} {l k : SpL} {w : World} (R : Spn w A n c l) (S : Spn w B m d k) (h : l = k) (hl : l.length ≤ 1000000) : Calls Try.prog 11 #[.slice A n c, .slice B m d] w fun e w' => e = .returned (.bool true) ∧ Below w.heap.size w w' := by
  subst h
  have := same_any A B n c m d l l w R S (by rw [← R.count]; exact hl) (by rw [← S.count]; exact hl)
  rwa [decide_eq_true rfl] at this
set_option maxHeartbeats 2000000 in
theorem spknown_any (K : SpK) (w : World) : Calls Try.prog 7 #[] w fun e w' => e = .returned (.bool true) ∧ Below w.heap.size w w' := by
  have HK := Lib.hid K
  have HB := Lib.hid (Below.refl w.heap.size w)
  go_enter Try.func7, Try.ntmps7
  go_wp2_with fail
  have bl := (Below.refl w.heap.size w).alloc (Nat.le_refl _) (.cells #[.int .i64 5, .int .i64 7, .int .i64 1, .int .i64 3, .int .i64 7, .int .i64 9] 37)
  have rl : Spn _ _ 3 3 [(5, 7), (1, 3), (7, 9)] := new_spn w [(5, 7), (1, 3), (7, 9)] 37 3 3 rfl (Nat.le_refl _)
  have NB := Lib.hid (HB.out.trans ((bl).mono HB.out.size))
  clear HB
  have HB := NB
  clear NB
  have Ra := Lib.hid rl
  clear rl bl
  refine (HK.out.of _ _ _ _ _ Ra.out (by decide)).mono ?_
  rintro e w1 ⟨Ax, nx, cx, rfl, r1, b1⟩
  have Na := Lib.hid (Ra.out.keep b1)
  clear Ra
  have Ra := Na
  clear Na
  have NB := Lib.hid (HB.out.trans ((b1).mono HB.out.size))
  clear HB
  have HB := NB
  clear NB
  have Rx := Lib.hid r1
  clear r1
  clear b1
  clear Ra
  go_wp2_with fail
  have bl := (Below.refl w1.heap.size w1).alloc (Nat.le_refl _) (.cells #[.int .i64 1, .int .i64 9] 37)
  have rl : Spn _ _ 1 1 [(1, 9)] := new_spn w1 [(1, 9)] 37 1 1 rfl (Nat.le_refl _)
  have Nx := Lib.hid (Rx.out.keep bl)
  clear Rx
  have Rx := Nx
  clear Nx
  have NB := Lib.hid (HB.out.trans ((bl).mono HB.out.size))
  clear HB
  have HB := NB
  clear NB
  have Ra := Lib.hid rl
  clear rl bl
  have bl := (Below.refl (w1.alloc (.cells #[.int .i64 1, .int .i64 9] 37)).heap.size (w1.alloc (.cells #[.int .i64 1, .int .i64 9] 37))).alloc (Nat.le_refl _) (.cells #[.int .i64 3, .int .i64 5] 37)
  have rl : Spn _ _ 1 1 [(3, 5)] := new_spn (w1.alloc (.cells #[.int .i64 1, .int .i64 9] 37)) [(3, 5)] 37 1 1 rfl (Nat.le_refl _)
  simp only [size_alloc] at rl
  have Nx := Lib.hid (Rx.out.keep bl)
  have Na := Lib.hid (Ra.out.keep bl)
  clear Rx Ra
  have Rx := Nx
  have Ra := Na
  clear Nx Na
  have NB := Lib.hid (HB.out.trans ((bl).mono HB.out.size))
  clear HB
  have HB := NB
  clear NB
  have Rb := Lib.hid rl
  clear rl bl
  refine (HK.out.less _ _ _ _ _ _ _ _ _ Ra.out Rb.out (by decide) (by decide)).mono ?_
  rintro e w2 ⟨Ay, ny, cy, rfl, r2, b2⟩
  have Nx := Lib.hid (Rx.out.keep b2)
  have Na := Lib.hid (Ra.out.keep b2)
  have Nb := Lib.hid (Rb.out.keep b2)
  clear Rx Ra Rb
  have Rx := Nx
  have Ra := Na
  have Rb := Nb
  clear Nx Na Nb
  have NB := Lib.hid (HB.out.trans ((b2).mono HB.out.size))
  clear HB
  have HB := NB
  clear NB
  have Ry := Lib.hid r2
  clear r2
  clear b2
  clear Ra
  clear Rb
  go_wp2_with fail
  have bl := (Below.refl w2.heap.size w2).alloc (Nat.le_refl _) (.cells #[.int .i64 1, .int .i64 3] 37)
  have rl : Spn _ _ 1 1 [(1, 3)] := new_spn w2 [(1, 3)] 37 1 1 rfl (Nat.le_refl _)
  have Nx := Lib.hid (Rx.out.keep bl)
  have Ny := Lib.hid (Ry.out.keep bl)
  clear Rx Ry
  have Rx := Nx
  have Ry := Ny
  clear Nx Ny
  have NB := Lib.hid (HB.out.trans ((bl).mono HB.out.size))
  clear HB
  have HB := NB
  clear NB
  have Ra := Lib.hid rl
  clear rl bl
  refine (HK.out.wide _ _ _ _ 4 _ Ra.out (by decide)).mono ?_
  rintro e w3 ⟨Az, nz, cz, rfl, r3, b3⟩
  have Nx := Lib.hid (Rx.out.keep b3)
  have Ny := Lib.hid (Ry.out.keep b3)
  have Na := Lib.hid (Ra.out.keep b3)
  clear Rx Ry Ra
  have Rx := Nx
  have Ry := Ny
  have Ra := Na
  clear Nx Ny Na
  have NB := Lib.hid (HB.out.trans ((b3).mono HB.out.size))
  clear HB
  have HB := NB
  clear NB
  have Rz := Lib.hid r3
  clear r3
  clear b3
  clear Ra
  go_wp2_with fail
  have bl := (Below.refl w3.heap.size w3).alloc (Nat.le_refl _) (.cells #[.int .i64 1, .int .i64 3, .int .i64 5, .int .i64 9] 37)
  have rl : Spn _ _ 2 2 [(1, 3), (5, 9)] := new_spn w3 [(1, 3), (5, 9)] 37 2 2 rfl (Nat.le_refl _)
  have Nx := Lib.hid (Rx.out.keep bl)
  have Ny := Lib.hid (Ry.out.keep bl)
  have Nz := Lib.hid (Rz.out.keep bl)
  clear Rx Ry Rz
  have Rx := Nx
  have Ry := Ny
  have Rz := Nz
  clear Nx Ny Nz
  have NB := Lib.hid (HB.out.trans ((bl).mono HB.out.size))
  clear HB
  have HB := NB
  clear NB
  have Ra := Lib.hid rl
  clear rl bl
  refine (same_yes Rx.out Ra.out (by decide +kernel) (by decide +kernel)).mono ?_
  rintro e w4 ⟨rfl, b4⟩
  have Nx := Lib.hid (Rx.out.keep b4)
  have Ny := Lib.hid (Ry.out.keep b4)
  have Nz := Lib.hid (Rz.out.keep b4)
  have Na := Lib.hid (Ra.out.keep b4)
  clear Rx Ry Rz Ra
  have Rx := Nx
  have Ry := Ny
  have Rz := Nz
  have Ra := Na
  clear Nx Ny Nz Na
  have NB := Lib.hid (HB.out.trans ((b4).mono HB.out.size))
  clear HB
  have HB := NB
  clear NB
  clear b4
  clear Ra
  go_wp2_with fail
  refine (same_yes Ry.out Rx.out (by decide +kernel) (by decide +kernel)).mono ?_
  rintro e w5 ⟨rfl, b5⟩
  have Nx := Lib.hid (Rx.out.keep b5)
  have Ny := Lib.hid (Ry.out.keep b5)
  have Nz := Lib.hid (Rz.out.keep b5)
  clear Rx Ry Rz
  have Rx := Nx
  have Ry := Ny
  have Rz := Nz
  clear Nx Ny Nz
  have NB := Lib.hid (HB.out.trans ((b5).mono HB.out.size))
  clear HB
  have HB := NB
  clear NB
  clear b5
  clear Rx
  clear Ry
  go_wp2_with fail
  have bl := (Below.refl w5.heap.size w5).alloc (Nat.le_refl _) (.cells #[.int .i64 1, .int .i64 7] 37)
  have rl : Spn _ _ 1 1 [(1, 7)] := new_spn w5 [(1, 7)] 37 1 1 rfl (Nat.le_refl _)
  have Nz := Lib.hid (Rz.out.keep bl)
  clear Rz
  have Rz := Nz
  clear Nz
  have NB := Lib.hid (HB.out.trans ((bl).mono HB.out.size))
  clear HB
  have HB := NB
  clear NB
  have Ra := Lib.hid rl
  clear rl bl
  refine (same_yes Rz.out Ra.out (by decide +kernel) (by decide +kernel)).mono ?_
  rintro e w6 ⟨rfl, b6⟩
  have Nz := Lib.hid (Rz.out.keep b6)
  have Na := Lib.hid (Ra.out.keep b6)
  clear Rz Ra
  have Rz := Nz
  have Ra := Na
  clear Nz Na
  have NB := Lib.hid (HB.out.trans ((b6).mono HB.out.size))
  clear HB
  have HB := NB
  clear NB
  clear b6
  clear Ra
  clear Rz
  go_wp2_with fail
  refine (HK.out.all _).mono ?_
  rintro e w7 ⟨Ax, nx, cx, rfl, r7, b7⟩
  have NB := Lib.hid (HB.out.trans ((b7).mono HB.out.size))
  clear HB
  have HB := NB
  clear NB
  have Rx := Lib.hid r7
  clear r7
  clear b7
  go_wp2_with fail
  have bl := (Below.refl w7.heap.size w7).alloc (Nat.le_refl _) (.cells #[.int .i64 1, .int .i64 3652060] 37)
  have rl : Spn _ _ 1 1 [(1, 3652060)] := new_spn w7 [(1, 3652060)] 37 1 1 rfl (Nat.le_refl _)
  have Nx := Lib.hid (Rx.out.keep bl)
  clear Rx
  have Rx := Nx
  clear Nx
  have NB := Lib.hid (HB.out.trans ((bl).mono HB.out.size))
  clear HB
  have HB := NB
  clear NB
  have Ra := Lib.hid rl
  clear rl bl
  refine (same_yes Rx.out Ra.out rfl (by decide)).mono ?_
  rintro e w8 ⟨rfl, b8⟩
  have Nx := Lib.hid (Rx.out.keep b8)
  have Na := Lib.hid (Ra.out.keep b8)
  clear Rx Ra
  have Rx := Nx
  have Ra := Na
  clear Nx Na
  have NB := Lib.hid (HB.out.trans ((b8).mono HB.out.size))
  clear HB
  have HB := NB
  clear NB
  clear b8
  go_wp2_with fail
  go_ret
  exact ⟨rfl, HB.out⟩
end Go.Proofs.Ytmolbckndkhhlaa

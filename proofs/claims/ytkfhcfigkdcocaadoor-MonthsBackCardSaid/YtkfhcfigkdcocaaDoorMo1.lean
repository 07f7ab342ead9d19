/- Package months: the closure over a date. -/
import Derived.Test.YtkfhcfigkdcocaaDoorMoMath
import Derived.Test.YtkfhcfigkdcocaaDoorCv2
import Derived.Test.YtkfhcfigkdcocaaDoorMem
import Derived.WalkSmall
namespace Go.Proofs.YtkfhcfigkdcocaaDoor
set_option maxRecDepth 8000
open Go.RowKit Corr
set_option linter.unusedVariables false
theorem cdate_at (n y m d : Int) (w : World) (g : LV w) (h : dateOf n y m d) : Calls Tryd.prog 24 #[.int .i64 n] w fun e w' => e = .returned (.tuple #[.int .i64 y, .int .i64 m, .int .i64 d, .int .i64 0]) ∧ w = w' := by
  refine (cdate_ok n w g (date_in h).1 (date_in h).2).mono ?_
  rintro e w' ⟨y', m', d', rfl, h', rfl⟩
  obtain ⟨rfl, rfl, rfl⟩ := date_one h h'
  exact ⟨rfl, rfl⟩
theorem cday_at (y m d n : Int) (w : World) (g : LV w) (h : dateOf n y m d) : Calls Tryd.prog 26 #[.int .i64 y, .int .i64 m, .int .i64 d] w fun e w' => e = .returned (.tuple #[.int .i64 n, .int .i64 0]) ∧ w = w' := by
  have := cday_ok y m d w g h.1 h.2.1
  rw [h.2.2] at this
  exact this
/-- The closure, and what it captured. -/
abbrev putF (a : Nat) : Value := .func (.func 25) #[] #[.pointer (some ⟨a, 0, none⟩)]
set_option maxHeartbeats 2000000 in
theorem over_no (n : Int) (w : World) (h : n < 1 ∨ 3652059 < n) :
    Calls Tryd.prog 20 #[.int .i64 n] w fun e w' => e = .returned (.tuple #[.agg #[.int .i64 0, .int .i64 0], .nilFunc, .int .i64 15]) ∧ Below w.heap.size w w' := by
  have HD := Lib.hid (fun w => cdate_no n w h)
  have S0 := (Mem.start w).push #[.int .i64 0, .int .i64 0] 36
  clear h
  go_enter Tryd.func20, Tryd.ntmps20
  go_wp2_with fail
  refine (HD.out _).mono ?_
  rintro e w1 ⟨rfl, rfl⟩
  go_wp2_with fail
  refine bodyPost_ret (v := .tuple #[.agg #[.int .i64 0, .int .i64 0], .nilFunc, .int .i64 15]) (by simp [results, Tryd.results20, go_sem]) rfl ⟨rfl, ?_⟩
  exact S0.bl
set_option maxHeartbeats 4000000 in
theorem over_ok (n y m d : Int) (w : World) (g : LV w) (h : dateOf n y m d) (M : Int) (hM : 12 * y + (m - 1) = M + 12) :
    Calls Tryd.prog 20 #[.int .i64 n] w fun e w' => e = .returned (.tuple #[.agg #[.int .i64 M, .int .i64 d], putF w.heap.size, .int .i64 0]) ∧ Mem w w' [(w.heap.size, #[.int .i64 M, .int .i64 d])] [] := by
  have HD := Lib.hid (fun w g => cdate_at n y m d w g h)
  obtain ⟨y1, y2, m1, m2⟩ := lenI_pos (show 1 ≤ lenI y m by have := h.1; have := h.2.1; omega)
  have S0 := (Mem.start w).push #[.int .i64 0, .int .i64 0] 36
  have G := Lib.hid (g.keep S0.bl)
  have hE : (y - 1) * 12 + m - 1 = M := by omega
  have HE := Lib.hid hE
  have hmf : ∀ (fn : Fn) (first cap : Array Value) (w : World), (Instr.makeFunc fn first cap).run Tryd.prog w = .ok (.func fn first cap) w := fun _ _ _ _ => rfl
  clear h hM g hE
  go_enter Tryd.func20, Tryd.ntmps20
  go_wp2_with fail
  refine (HD.out _ G.out).mono ?_
  rintro e w1 ⟨rfl, rfl⟩
  go_wp2_with fail
  rw [HE.out]
  refine bodyPost_ret (v := .tuple #[.agg #[.int .i64 M, .int .i64 d], putF w.heap.size, .int .i64 0]) (by simp [results, Tryd.results20, go_sem]) rfl ⟨rfl, ?_⟩
  exact (Mem.start w).push #[.int .i64 M, .int .i64 d] 36

set_option maxHeartbeats 2000000 in
theorem put_out (a : Nat) (M d n k : Int) (w : World) (B : Blk w a #[.int .i64 M, .int .i64 d]) (h1 : 0 ≤ M) (h2 : M ≤ 119987) (h : n < -M ∨ 119988 - M ≤ n) :
    Calls Tryd.prog 25 #[.int .i64 n, .int .i64 k, .pointer (some ⟨a, 0, none⟩)] w fun e w' => e = .returned (.tuple #[.int .i64 0, .int .i64 15]) ∧ w = w' := by
  have c0 := B.get 0 rfl
  by_cases hn : n < -M
  · clear h
    go_enter Tryd.func25, Tryd.ntmps25
    go_wp2_with fail
    go_ret2
    exact ⟨rfl, rfl⟩
  · have t1 : decide (n < -M) = false := decide_eq_false hn
    have t2 : decide (n ≥ 119988 - M) = true := decide_eq_true (by omega)
    clear h hn
    go_enter Tryd.func25, Tryd.ntmps25
    go_wp2_with fail
    go_ret2
    exact ⟨rfl, rfl⟩
set_option maxHeartbeats 4000000 in
theorem put_in (a : Nat) (M d n k : Int) (w : World) (g : LV w) (B : Blk w a #[.int .i64 M, .int .i64 d]) (h1 : 0 ≤ M) (h2 : M ≤ 119987) (n1 : -M ≤ n) (n2 : n < 119988 - M) (k1 : 1 ≤ k) (k2 : k ≤ 31) :
    Calls Tryd.prog 25 #[.int .i64 n, .int .i64 k, .pointer (some ⟨a, 0, none⟩)] w fun e w' => e = .returned (.tuple #[.int .i64 (monV (M + 12 + n) k).1, .int .i64 0]) ∧ Below w.heap.size w w' := by
  have c0 := B.get 0 rfl
  have G := Lib.hid g
  have t1 : decide (n < -M) = false := decide_eq_false (by omega)
  have t2 : decide (n ≥ 119988 - M) = false := decide_eq_false (by omega)
  have hT : (M + 12 + n) / 12 = (M + n) / 12 + 1 := by omega
  have hR : (M + 12 + n) % 12 = (M + n) % 12 := by omega
  have hV := monV_in (T := M + 12 + n) (d := k) (by omega) (by omega)
  have hD := monV_date hV k1
  rw [hT, hR] at hD
  have hb := lenI_bd ((M + n) / 12 + 1) ((M + n) % 12 + 1)
  have HL := Lib.hid (fun w g => clength_any ((M + n) / 12 + 1) ((M + n) % 12 + 1) w g)
  obtain ⟨L, hL⟩ : ∃ L, lenI ((M + n) / 12 + 1) ((M + n) % 12 + 1) = L := ⟨_, rfl⟩
  obtain ⟨x, hx⟩ : ∃ x, (monV (M + 12 + n) k).1 = x := ⟨_, rfl⟩
  obtain ⟨l, hl⟩ : ∃ l, (if L < k then L else k) = l := ⟨_, rfl⟩
  rw [hL] at HL hD hb
  rw [hx, hl] at hD
  rw [hx]
  have HC := Lib.hid (fun l' (h : (if L < k then L else k) = l') w g => cday_at ((M + n) / 12 + 1) ((M + n) % 12 + 1) l' x w g (by rw [← h, hl]; exact hD))
  clear g hD hT hR hV hL hx hl
  go_enter Tryd.func25, Tryd.ntmps25
  go_upto_region 3 with fail
  go_quiet (fail)
  have hbel : Below w.heap.size w (w.drewN nq) := Go.below_drewN (Below.refl _ _) nq
  go_wp2_with fail
  refine (HL.out _ (G.out.keep hbel)).mono ?_
  rintro e w1 ⟨rfl, rfl⟩
  go_wp2_with fail
  · refine (HC.out L (if_pos (by assumption)) _ (G.out.keep hbel)).mono ?_
    rintro e w1 ⟨rfl, rfl⟩
    go_wp2_with fail
    go_ret2
    exact ⟨rfl, hbel⟩
  · refine (HC.out k (if_neg (by omega)) _ (G.out.keep hbel)).mono ?_
    rintro e w1 ⟨rfl, rfl⟩
    go_wp2_with fail
    go_ret2
    exact ⟨rfl, hbel⟩
/-- The error beside an answer. -/
abbrev erV (ok : Bool) : Int := if ok = true then 0 else 15
theorem put_any (a : Nat) (M d n k : Int) (r : Int) (ok : Bool) (w : World) (g : LV w) (B : Blk w a #[.int .i64 M, .int .i64 d]) (h1 : 0 ≤ M) (h2 : M ≤ 119987) (k1 : 1 ≤ k) (k2 : k ≤ 31) (h : monV (M + 12 + n) k = (r, ok)) :
    Calls Tryd.prog 25 #[.int .i64 n, .int .i64 k, .pointer (some ⟨a, 0, none⟩)] w fun e w' => e = .returned (.tuple #[.int .i64 r, .int .i64 (erV ok)]) ∧ Below w.heap.size w w' := by
  by_cases hn : -M ≤ n ∧ n < 119988 - M
  · have h3 := monV_in (T := M + 12 + n) (d := k) (by omega) (by omega)
    have := put_in a M d n k w g B h1 h2 hn.1 hn.2 k1 k2
    rw [h] at this h3
    simp only at this h3
    rw [h3]
    exact this
  · rw [monV_out (by omega)] at h
    obtain ⟨rfl, rfl⟩ := Prod.mk.inj h
    refine (put_out a M d n k w B h1 h2 (by omega)).mono ?_
    rintro e w' ⟨rfl, rfl⟩
    exact ⟨rfl, Below.refl _ _⟩
end Go.Proofs.YtkfhcfigkdcocaaDoor

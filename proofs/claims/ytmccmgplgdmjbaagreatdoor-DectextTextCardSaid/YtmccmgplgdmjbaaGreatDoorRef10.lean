/- Contracts of corrodyref01: Of. -/
import Derived.Test.YtmccmgplgdmjbaaGreatDoorRef9
namespace Corr
set_option maxRecDepth 8000
open Go Go.RowKit
/-- A row that is worth enough has no nought at its end. -/
theorem last_of_worth {o : List Nat} (hd : ∀ x ∈ o, x < 1000) (hw : 0 < o.length → 1000 ^ (o.length - 1) ≤ dv o) : ∀ x, o.getLast? = some x → x ≠ 0 := by
  intro x hx h0
  subst h0
  obtain ⟨t, ht⟩ : ∃ t, o = t ++ [0] := by
    refine ⟨o.dropLast, ?_⟩
    have hne : o ≠ [] := by intro h; rw [h] at hx; cases hx
    have h1 := List.dropLast_concat_getLast hne
    have h2 : o.getLast hne = 0 := by rw [List.getLast?_eq_some_getLast hne] at hx; simpa using hx
    rw [h2] at h1
    exact h1.symm
  subst ht
  have h1 := hw (by simp)
  rw [dv_snoc] at h1
  have h2 : dv t < 1000 ^ t.length := dv_lt (fun y hy => hd y (List.mem_append_left _ hy))
  simp at h1
  omega
/-- What plus tells of two numbers' rows is the sum's row. -/
theorem plus_digs {o : List Nat} {a b n m : Nat} (h1 : dv o = dv (digs a) + dv (digs b)) (hd : ∀ x ∈ o, x < 1000) (hn : (digs a).length = n) (hm : (digs b).length = m) (hl : o.length ≤ max n m ∨ o.getLast? = some 1) : o = digs (a + b) := by
  rw [dv_digs, dv_digs] at h1
  rw [← h1]
  refine digs_dv o hd ?_
  rcases hl with hl | hl
  · refine last_of_worth hd (fun hp => ?_)
    rcases Nat.lt_or_ge n m with h | h
    · have hb : 0 < b := by
        rcases Nat.eq_zero_or_pos b with e | e
        · subst e; rw [digs_zero] at hm; simp at hm; omega
        · exact e
      have h2 := digs_low b hb
      rw [hm] at h2
      have h3 : 1000 ^ (o.length - 1) ≤ 1000 ^ (m - 1) := Nat.pow_le_pow_right (by omega) (by omega)
      omega
    · have ha : 0 < a := by
        rcases Nat.eq_zero_or_pos a with e | e
        · subst e; rw [digs_zero] at hn; simp at hn; omega
        · exact e
      have h2 := digs_low a ha
      rw [hn] at h2
      have h3 : 1000 ^ (o.length - 1) ≤ 1000 ^ (n - 1) := Nat.pow_le_pow_right (by omega) (by omega)
      omega
  · intro x hx
    rw [hl] at hx
    have : 1 = x := by simpa using hx
    omega
/-- A row of one place, newly laid. -/
theorem row_one (w : World) (x : Nat) (z : Int) (hz : z = x) (T : TypeId) : Row (w.alloc (.cells #[.int .i64 z] T)) (some ⟨w.heap.size, 0, none⟩) 1 1 [x] := by
  subst hz
  refine ⟨rfl, Nat.le_refl _, fun _ => ⟨w.heap.size, 0, rfl, by simp, fun i y hy => ?_⟩⟩
  match i, hy with
  | 0, hy =>
    have : x = y := by simpa using hy
    subst this
    rw [Joins.cell_of_block (heapNew w _)]; rfl
  | i + 1, hy => simp at hy
theorem digs_one : digs 1 = [1] := by rw [digs_pos (by omega)]; rw [show 1 / 1000 = 0 from rfl, digs_zero]
end Corr
namespace Go.Proofs.YtmccmgplgdmjbaaGreatDoor
set_option maxRecDepth 8000
open Go.RowKit Corr
set_option linter.unusedVariables false
theorem word_i (z : Int) (w : World) (h0 : 0 ≤ z) (h1 : z ≤ 9223372036854775807) : Calls Tryz.prog 15 #[.int .u64 z] w (RetN w false (digs z.natAbs)) := by
  obtain ⟨n, rfl⟩ := Int.eq_ofNat_of_zero_le h0
  rw [Int.natAbs_natCast]
  exact word_any n w (by unfold B64; omega)

set_option maxHeartbeats 1000000 in
theorem nof_any (z : Int) (w : World) (h1 : -9223372036854775808 ≤ z) (h2 : z ≤ 9223372036854775807) :
    Calls Tryz.prog 13 #[.int .i64 z] w (RetN w (negB z) (digs z.natAbs)) := by
  have Z0 := Box2.new w (.bool false) (.slice none 0 0) 35
  have BW : Below w.heap.size w (w.alloc (.cells #[.bool false, .slice none 0 0] 35)) := (Below.refl _ _).alloc (Nat.le_refl _) _
  by_cases h : 0 ≤ z
  · have HN := Lib.hid (show negB z = false by simp [negB]; omega)
    rw [HN.out]
    go_enter Tryz.func13, Tryz.ntmps13
    go_wp2_with fail
    refine (word_i _ _ h h2).mono ?_
    rintro e w1 ⟨A, k, c, rfl, R, hb⟩
    have Z1 := Z0.keep hb
    have B1 : Below w.heap.size w w1 := BW.trans (hb.mono (by simp))
    have HR := Lib.hid (R.far (Z1.ne_row (by intro k z h; cases h) R) (.bool false) (.slice A k c))
    have z0 := Z1.c0; have z1 := Z1.c1; have z2 := Z1.f 0; have z3 := Z1.f 1
    clear R hb
    go_wp2_with fail
    refine bodyPost_ret (v := .agg #[.bool false, .slice A k c]) (by simp [results, Tryz.results13, go_sem, z0, z1]) rfl ⟨A, k, c, rfl, HR.out, ?_⟩
    exact (B1.setCell (by simp) _).setCell (by simp) _
  · have HN := Lib.hid (show negB z = true by simp [negB]; omega)
    rw [HN.out]
    have u0 : 0 ≤ -(z + 1) := by omega
    have u1 : -(z + 1) ≤ 9223372036854775807 := by omega
    have hlt : z < 0 := by omega
    clear h
    go_enter Tryz.func13, Tryz.ntmps13
    go_wp2_with fail
    refine (word_i _ _ u0 u1).mono ?_
    rintro e w1 ⟨A, k, c, rfl, R, hb⟩
    have Z1 := Z0.keep hb
    have B1 : Below w.heap.size w w1 := BW.trans (hb.mono (by simp))
    have hk : k ≤ 7 := by rw [← R.len]; exact digs_len 7 _ (by omega)
    clear hb
    have hfd : ∀ (x y : Value) (w : World), (Instr.field 35 (.agg #[x, y]) 1).run Tryz.prog w = .ok y w := fun _ _ _ => by kernel_rfl
    go_wp2_with fail
    have R1 := R.alloc (.cells #[.int .i64 1] 3)
    have RO := row_one w1 1 1 rfl 3
    rw [← digs_one] at RO
    have Z2 := Z1.alloc (.cells #[.int .i64 1] 3)
    have B2 : Below w.heap.size w (w1.alloc (.cells #[.int .i64 1] 3)) := B1.alloc B1.size _
    refine (plus_any _ _ _ _ _ _ _ _ _ R1 RO (digs_lt _) (digs_lt _) (by omega) (by omega)).mono ?_
    rintro e w3 ⟨A1, k1, c1, o, rfl, RP, ⟨o1, o2, o3, o4⟩, hb⟩
    have HO : o = digs z.natAbs := by
      have := plus_digs o1 o2 R1.len RO.len o4
      rw [this]; congr 1; omega
    subst HO
    have Z3 := Z2.keep hb
    have B3 : Below w.heap.size w w3 := B2.trans (hb.mono B2.size)
    have HR := Lib.hid (RP.far (Z3.ne_row (by intro k z h; cases h) RP) (.bool true) (.slice A1 k1 c1))
    have z0 := Z3.c0; have z1 := Z3.c1; have z2 := Z3.f 0; have z3 := Z3.f 1
    clear RP hb R1 RO R Z2 B2 o1 o2 o3 o4
    go_wp2_with fail
    refine bodyPost_ret (v := .agg #[.bool true, .slice A1 k1 c1]) (by simp [results, Tryz.results13, go_sem, z0, z1]) rfl ⟨A1, k1, c1, rfl, HR.out, ?_⟩
    exact (B3.setCell (by simp) _).setCell (by simp) _
end Go.Proofs.YtmccmgplgdmjbaaGreatDoor

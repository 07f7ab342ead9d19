/- The contract of corrodyref03.Text. (Written by wip/gen/gentx8.py.) -/
import Derived.Test.YtgojfonnikgboaaGreatDoorTxPut
import Derived.Test.YtgojfonnikgboaaGreatDoorTxBytes
import Derived.Test.YtgojfonnikgboaaGreatDoorDec4
import Derived.Test.YtgojfonnikgboaaGreatDoorNat
import Derived.Laws.IdiomStrings
import Derived.Deep.DeepCutAuto
import Derived.Deep.CutBlock
namespace Corr
set_option maxRecDepth 8000
set_option linter.unusedSimpArgs false
/-- What stands there behind i digits of N. -/
def accT (t N i : Nat) : List UInt8 := if i ≤ t then fixd i N else fixd (i - t) (N / 10 ^ t) ++ (if t = 0 then [] else 46 :: fixd t N)
theorem accT_zero (t N : Nat) : accT t N 0 = [] := by unfold accT; rw [if_pos (by omega)]; rfl
theorem fixd_front (i N : Nat) : fixd (i + 1) N = dg (N / 10 ^ i) :: fixd i N := by
  have := fixd_add 1 i N
  rw [Nat.add_comm 1 i] at this
  rw [this]; rfl
theorem accT_le {t N i : Nat} (h : i ≤ t) : accT t N i = fixd i N := by unfold accT; rw [if_pos h]
theorem accT_gt {t N i : Nat} (h : t < i) : accT t N i = fixd (i - t) (N / 10 ^ t) ++ (if t = 0 then [] else 46 :: fixd t N) := by unfold accT; rw [if_neg (by omega)]
theorem accT_low {t N i : Nat} (h : i < t) : accT t N (i + 1) = dg (N / 10 ^ i) :: accT t N i := by
  rw [accT_le (show i + 1 ≤ t by omega), accT_le (show i ≤ t by omega), fixd_front]
theorem accT_at {t N : Nat} (h : 0 < t) : accT t N (t + 1) = dg (N / 10 ^ t) :: 46 :: accT t N t := by
  rw [accT_gt (show t < t + 1 by omega), accT_le (Nat.le_refl t), show t + 1 - t = 0 + 1 by omega, fixd_front, if_neg (show ¬ t = 0 by omega)]
  simp [fixd]
theorem accT_at0 (N : Nat) : accT 0 N (0 + 1) = dg (N / 10 ^ 0) :: accT 0 N 0 := by
  rw [accT_gt (show 0 < 0 + 1 by omega), accT_le (Nat.le_refl 0), if_pos rfl]; simp [fixd]
theorem accT_high {t N i : Nat} (h : t < i) : accT t N (i + 1) = dg (N / 10 ^ i) :: accT t N i := by
  rw [accT_gt (show t < i + 1 by omega), accT_gt h, show i + 1 - t = (i - t) + 1 by omega, fixd_front, Nat.div_div_eq_div_mul, ← Nat.pow_add, show t + (i - t) = i by omega]
  rfl
theorem accT_at' {t N j : Nat} (h : 0 < t) (hj : j = t) : accT t N (j + 1) = dg (N / 10 ^ j) :: 46 :: accT t N j := by subst hj; exact accT_at h
theorem accT_at0' {t N j : Nat} (h : t = 0) (hj : j = 0) : accT t N (j + 1) = dg (N / 10 ^ j) :: accT t N j := by subst hj; subst h; exact accT_at0 N
/-- The end: no digit is left. -/
theorem accT_end {t N i : Nat} {c : Int} (hc : c.natAbs = N) (h1 : t < i) (h2 : N / 10 ^ i = 0) (h3 : i ≤ t + 1 ∨ 0 < N / 10 ^ (i - 1)) : sgnT (decide (c < 0)) ++ accT t N i = txt c t := by
  unfold txt accT
  rw [hc, if_neg (by omega)]
  have hp : 0 < 10 ^ t := Nat.pow_pos (by omega)
  have hlt : N / 10 ^ t < 10 ^ (i - t) := by
    have h4 : N / 10 ^ t / 10 ^ (i - t) = 0 := by rw [Nat.div_div_eq_div_mul, ← Nat.pow_add, show t + (i - t) = i by omega]; exact h2
    rcases Nat.div_eq_zero_iff.1 h4 with h5 | h5
    · have : 0 < 10 ^ (i - t) := Nat.pow_pos (by omega); omega
    · exact h5
  rw [whole_is (by omega) hlt]
  rcases h3 with h3 | h3
  · exact Or.inl (by omega)
  · by_cases h4 : i = t + 1
    · exact Or.inl (by omega)
    · right
      have h5 : N / 10 ^ (i - 1) = N / 10 ^ t / 10 ^ (i - t - 1) := by rw [Nat.div_div_eq_div_mul, ← Nat.pow_add, show t + (i - t - 1) = i - 1 by omega]
      rw [h5] at h3
      have h6 : 0 < 10 ^ (i - t - 1) := Nat.pow_pos (by omega)
      have := (Nat.le_div_iff_mul_le h6).1 (show 1 ≤ _ from h3)
      omega
theorem accT_len {t N i : Nat} (_h1 : t ≤ 9) (h2 : i ≤ 21) : (accT t N i).length ≤ 40 := by
  unfold accT
  split
  · rw [fixd_len]; omega
  · rw [List.length_append, fixd_len]
    split
    · simp; omega
    · simp [fixd_len]; omega
end Corr
namespace Go.Proofs.YtgojfonnikgboaaGreatDoor
set_option maxRecDepth 8000
open Go.RowKit Go.PlainAid Corr
set_option linter.unusedVariables false
set_option linter.unusedSimpArgs false
/-- One byte as a string. -/
theorem conv1 (w : World) (z : Int) (b : UInt8) (hz : (b.toNat : Int) = z) : (convert 58 9 (.slice (some ⟨w.heap.size, 0, none⟩) 1 1)).run Tryz.prog (w.alloc (.cells #[.int .u8 z] 5)) = .ok (.string ⟨#[b]⟩) (w.alloc (.cells #[.int .u8 z] 5)) := by
  have h := run_convert_bytes_back (P := Tryz.prog) (w.alloc (.cells #[.int .u8 z] 5)) 58 9 5 ⟨w.heap.size, 0, none⟩ 1 [b] Tryz.underlying58 Tryz.underlying5 Tryz.underlying9 (fun j hj => by
    have hj0 : j = 0 := by simpa using hj
    subst hj0
    have e : (⟨w.heap.size, 0, none⟩ : Addr).add 0 = ⟨w.heap.size, 0, none⟩ := by unfold Addr.add; simp
    rw [e, Joins.cell_of_block (heapNew w _)]
    simp [hz])
  exact h
set_option maxHeartbeats 8000000 in
theorem rtext_any (C : Int) (S : Nat) (w : World) (hC1 : -9223372036854775808 ≤ C) (hC2 : C ≤ 9223372036854775807) (hS : S ≤ 9) :
    Calls Tryz.prog 21 #[.agg #[.int .i64 C, .int .i64 (S : Int)]] w fun e w' => e = .returned (.string ⟨(txt (mC (nine C S) 9) (mS (nine C S) 9)).toArray⟩) ∧ Below w.heap.size w w' := by
  have HIS := Lib.hid (fun w => nis_yes C (S : Int) w (by omega) (by omega))
  have HI := Lib.hid (fun w => nput_any C S _ _ w hC1 hC2 hS rfl (ev_nine hS))
  obtain ⟨c, t, hc, ht, he, c1, c2, t9, hcn⟩ := put_fit hC1 hC2 hS
  rw [hc, ht, he] at HI
  rw [hc, ht]
  clear hc ht he
  obtain ⟨M, hM⟩ : ∃ M, c.natAbs = M := ⟨_, rfl⟩
  have HM := Lib.hid hM
  obtain ⟨nb, hnb⟩ : ∃ nb, negB c = nb := ⟨_, rfl⟩
  have HNB := Lib.hid hnb
  have HOF := Lib.hid (fun w => nof_any c w c1 c2)
  rw [hnb, hM] at HOF
  have HM64 := Lib.hid (show M ≤ 9223372036854775808 by omega)
  clear hM hnb
  have S0 := ((Mem.start w).push #[.int .i64 C, .int .i64 (S : Int)] 23)
  have za := S0.c 0 0 rfl rfl; have zb := S0.c 0 1 rfl rfl
  go_enter Tryz.func21, Tryz.ntmps21
  go_wp2_with fail
  refine (HIS.out _).mono ?_
  rintro e w1 ⟨rfl, hb⟩
  have S1 := S0.keep hb
  clear S0 hb za zb
  have za := S1.c 0 0 rfl rfl; have zb := S1.c 0 1 rfl rfl
  go_wp2_with fail
  refine (HI.out _).mono ?_
  rintro e w2 ⟨rfl, hb⟩
  have S2 := S1.keep hb
  clear S1 hb za zb
  have za := S2.c 0 0 rfl rfl; have zb := S2.c 0 1 rfl rfl; have zc := S2.f 0 0 rfl; have zd := S2.f 0 1 rfl
  have S3 := Lib.hid (S2.put20 0 rfl (.int .i64 c) (.int .i64 (t : Int)))
  clear S2
  go_wp2_with fail
  refine (HOF.out _).mono ?_
  rintro e w3 ⟨A0, n0, c0, rfl, R0, hb⟩
  have S4 := (((S3.out.keep hb).add R0).push #[.bool nb, .slice A0 n0 c0] 52).push #[.bool false, .slice A0 n0 c0] 52
  simp only [size_alloc] at S4
  clear S3 hb R0 za zb zc zd
  obtain ⟨G1, hG1⟩ : ∃ G, w3.heap.size = G := ⟨_, rfl⟩
  rw [hG1] at S4
  obtain ⟨G2, hG2⟩ : ∃ G, G1 + 1 = G := ⟨_, rfl⟩
  rw [hG2] at S4
  go_wp2_with fail
  go_loopw [4, 6] (fun u v wr => ∃ (j n k : Nat) (A : Option Addr) (Q : ByteArray), u = .string Q ∧ v = .int .i64 (j : Int) ∧ j ≤ 20 ∧ Hid (Q.data.toList = accT t M j) ∧ Hid (j ≤ t + 1 ∨ 0 < M / 10 ^ (j - 1)) ∧ Mem w wr [(w.heap.size, #[.int .i64 c, .int .i64 (t : Int)]), (G1, #[.bool nb, .slice A0 n0 c0]), (G2, #[.bool false, .slice A n k])] [(A, n, k, digs (M / 10 ^ j))]) (fun _ v _ => 21 - (intOf v).toNat)
  case atStart => exact ⟨0, n0, c0, A0, ⟨#[]⟩, rfl, rfl, by omega, Lib.hid (by rw [accT_zero]), Lib.hid (Or.inl (by omega)), by rw [Nat.pow_zero, Nat.div_one]; exact S4⟩
  case round =>
    obtain ⟨j, n, k, A, Q, rfl, rfl, hj20, HQ, HB, S⟩ := hrel
    clear S4
    have hlen : (digs (M / 10 ^ j)).length = n := (S.r 0 rfl).len
    have HN := Lib.hid hlen
    have hn7 : n ≤ 7 := by
      have h1 : M / 10 ^ j ≤ M := Nat.div_le_self _ _
      have h2 := HM64.out
      have := digs_len 7 (M / 10 ^ j) (Nat.lt_of_le_of_lt (Nat.le_trans h1 h2) (by decide))
      omega
    have hQ40 : Q.size ≤ 40 := by rw [← size_len, HQ.out]; exact accT_len t9 (by omega)
    clear hlen
    have y0 := S.c 0 0 rfl rfl; have y1 := S.c 0 1 rfl rfl; have y2 := S.c 2 0 rfl rfl; have y3 := S.c 2 1 rfl rfl
    by_cases hjt : j ≤ t
    · have hjt' : (j : Int) ≤ (t : Int) := by omega
      by_cases hlt : j < t
      · have hne : ((j : Int) == (t : Int)) = false := by rw [beq_eq_false_iff_ne]; omega
        go_upto_region 10 with fail
        refine wp_region_rel 8 (MemAt w wr.heap.size [(w.heap.size, #[.int .i64 c, .int .i64 (t : Int)]), (G1, #[.bool nb, .slice A0 n0 c0]), (G2, #[.bool false, .slice A n k])] [(A, n, k, digs (M / 10 ^ j))])
          (fun i => List.getD [VE (.agg #[.bool false, .slice A n k]), VN (false) (10), VNN (false) (M / 10 ^ j / 10) (false) (M / 10 ^ j % 10), VNN (false) (M / 10 ^ j / 10) (false) (M / 10 ^ j % 10), VN (false) (M / 10 ^ j / 10), VN (false) (M / 10 ^ j % 10), VA (wr.heap.size) #[.bool false, .slice none 0 0], VA (wr.heap.size) #[.bool false, .slice none 0 0]] i (fun _ _ => False)) [6, 7] [3, 4, 5] (by kernel_rfl) (by kernel_rfl) S.at (fun _ _ h hb => h.grow hb)
          (stays_all (stays_cons (stays_VE _) (stays_cons (stays_VN _ _) (stays_cons (stays_VNN _ _ _ _) (stays_cons (stays_VNN _ _ _ _) (stays_cons (stays_VN _ _) (stays_cons (stays_VN _ _) (stays_cons (stays_VA _ _) (stays_cons (stays_VA _ _) stays_nil))))))))) ⟨?_, ?_, ?_, ?_, ?_, ?_, ?_, ?_, trivial⟩ ?_
        · intro ev wv hE hw hd
          refine ifw rfl (ifn rfl ?_)
          have v5 : ev (.tmp 5) = .pointer (some ⟨G2, 0, none⟩) := hE.tmp 5 rfl
          have kx := hw.m.c 2 0 rfl rfl
          have ky := hw.m.c 2 1 rfl rfl
          refine rel_val (u := .agg #[.bool false, .slice A n k]) (w' := wv) ?_ (Below.refl _ _) ⟨rfl, fun h => by cases h⟩
          have e1 := hE.const; clear hE hd hw
          go_simp
        · intro ev wv hE hw hd
          refine ifw rfl (ifn rfl ?_)
          refine rel_call (f := 31) (args := #[.int .u64 10]) ?_ (word_ten _) ?_
          · have e0 := hE.func; have e1 := hE.const; clear hE hd hw
            go_simp
          · rintro e w' ⟨A, k, c, rfl, R, hb⟩
            exact ⟨_, rfl, hb, ⟨A, k, c, rfl, R⟩, fun h => by cases h⟩
        · intro ev wv hE hw hd
          refine ifw rfl (ifn rfl ?_)
          have v37 : ev (.tmp 37) = .agg #[.bool false, .slice A n k] := hd 0 (by decide)
          obtain ⟨yA1, yk1, yc1, v38, yR1⟩ : VN (false) (10) (ev (.tmp 38)) wv := hd 1 (by decide)
          refine rel_call (f := 30) (args := #[.agg #[.bool false, .slice A n k], .agg #[.bool (false), .slice yA1 yk1 yc1]]) ?_ (ndown_nat _ _ _ _ _ _ (M / 10 ^ j) 10 _ (hw.m.r 0 rfl) yR1 (by omega) (by have := row_le (k := 1) yR1 (by decide); omega) (by decide)) ?_
          · have e0 := hE.func; have e1 := hE.const; clear hE hd hw
            go_simp
          · rintro e w' ⟨A, k, c, A', k', c', rfl, R, R', hb⟩
            exact ⟨_, rfl, hb, ⟨A, k, c, A', k', c', rfl, R, R'⟩, fun h => by cases h⟩
        · intro ev wv hE hw hd
          refine ifw rfl (ifw rfl ?_)
          refine ⟨ev (.tmp 39), fun w => ?_, hd 2 (by decide)⟩
          clear hE hd hw
          go_simp
        · intro ev wv hE hw hd
          refine ifw rfl (ifw rfl ?_)
          obtain ⟨yA3, yk3, yc3, yA'3, yk'3, yc'3, v36, yR3, yR'3⟩ : VNN (false) (M / 10 ^ j / 10) (false) (M / 10 ^ j % 10) (ev (.tmp 36)) wv := hd 3 (by decide)
          refine ⟨.agg #[.bool (false), .slice yA3 yk3 yc3], fun w => ?_, ⟨yA3, yk3, yc3, rfl, yR3⟩⟩
          have e1 := hE.const; clear hE hd hw
          go_simp
        · intro ev wv hE hw hd
          refine ifw rfl (ifw rfl ?_)
          obtain ⟨yA3, yk3, yc3, yA'3, yk'3, yc'3, v36, yR3, yR'3⟩ : VNN (false) (M / 10 ^ j / 10) (false) (M / 10 ^ j % 10) (ev (.tmp 36)) wv := hd 3 (by decide)
          refine ⟨.agg #[.bool (false), .slice yA'3 yk'3 yc'3], fun w => ?_, ⟨yA'3, yk'3, yc'3, rfl, yR'3⟩⟩
          have e1 := hE.const; clear hE hd hw
          go_simp
        · intro ev wv hE hw hd
          refine ifw rfl (ifn rfl ?_)
          refine rel_val (u := .pointer (some ⟨wv.heap.size, 0, none⟩)) (w' := wv.alloc (.cells #[.bool false, .slice none 0 0] 52)) ?_ ((Below.refl _ _).alloc (Nat.le_refl _) _) ⟨⟨_, rfl, Blk.new _ _ _, hw.h⟩, fun _ => ⟨_, rfl, Nat.le_refl _, by simp⟩⟩
          clear hE hd hw
          go_simp
        · intro ev wv hE hw hd
          refine ifw rfl (ifn rfl ?_)
          refine rel_val (u := .pointer (some ⟨wv.heap.size, 0, none⟩)) (w' := wv.alloc (.cells #[.bool false, .slice none 0 0] 52)) ?_ ((Below.refl _ _).alloc (Nat.le_refl _) _) ⟨⟨_, rfl, Blk.new _ _ _, hw.h⟩, fun _ => ⟨_, rfl, Nat.le_refl _, by simp⟩⟩
          clear hE hd hw
          go_simp
        · intro w3 M3
          intro v0 h0 _ v1 h1 _ v2 h2 _ v3 h3 _ v4 h4 _ v5 h5 _ v6 h6 n6 v7 h7 n7
          simp only [Act.put, List.setIfInBounds_toArray, List.set_cons_zero, List.set_cons_succ, List.drop_succ_cons, List.drop_zero]
          obtain rfl : v0 = _ := h0
          obtain ⟨yA1, yk1, yc1, rfl, yR1⟩ : VN (false) (10) v1 w3 := h1
          clear h2
          clear h3
          obtain ⟨yA4, yk4, yc4, rfl, yR4⟩ : VN (false) (M / 10 ^ j / 10) v4 w3 := h4
          obtain ⟨yA5, yk5, yc5, rfl, yR5⟩ : VN (false) (M / 10 ^ j % 10) v5 w3 := h5
          obtain ⟨yg6, rfl, yB6, yl6⟩ : VA (wr.heap.size) #[.bool false, .slice none 0 0] v6 w3 := h6
          obtain ⟨yg7, rfl, yB7, yl7⟩ : VA (wr.heap.size) #[.bool false, .slice none 0 0] v7 w3 := h7
          change wpList Tryz.prog _ _ _ _ w3
          have n67 := ne_ptr (n7 rfl _ (List.mem_cons_self))
          have SF := (((M3.m.add yR4).add yR5).join2 S yB6 yB7 yl6 yl7 n67)
          have f0 := SF.c 3 0 rfl rfl; have f1 := SF.c 3 1 rfl rfl; have f2 := SF.f 3 0 rfl; have f3 := SF.f 3 1 rfl
          have f4 := SF.c 4 0 rfl rfl; have f5 := SF.c 4 1 rfl rfl; have f6 := SF.f 4 0 rfl; have f7 := SF.f 4 1 rfl
          have M4 := (SF.put2 3 rfl rfl (.bool false) (.slice yA4 yk4 yc4) rfl).put2 4 rfl rfl (.bool false) (.slice yA5 yk5 yc5) rfl
          have HKO := Lib.hid yR5.len
          clear SF yR1 yR4 yR5 M3 n6 n7 yB6 yB7 S y0 y1 y2 y3
          go_wp2_with fail
          refine calm_normal ?_
          generalize (((w3.setCell ⟨yg6, 0, none⟩ (.bool false)).setCell ⟨yg6, 1, none⟩ (.slice yA4 yk4 yc4)).setCell ⟨yg7, 0, none⟩ (.bool false)).setCell ⟨yg7, 1, none⟩ (.slice yA5 yk5 yc5) = w4 at *
          clear f0 f1 f2 f3 f4 f5 f6 f7
          have y1 := M4.c 0 1 rfl rfl
          have y4 := M4.c 4 0 rfl rfl; have y5 := M4.c 4 1 rfl rfl
          by_cases he : M / 10 ^ j % 10 = 0
          · have hk0 : yk5 = 0 := by have h1 := HKO.out; rw [he, digs_zero] at h1; exact h1.symm
            subst hk0
            obtain ⟨b, hb⟩ : ∃ b, dg (M / 10 ^ j) = b := ⟨_, rfl⟩
            have hcv := conv1 w4 (48) b (by rw [← hb, dg_toNat, he]; rfl)
            have HACC := Lib.hid (show ((⟨#[b]⟩ ++ Q) : ByteArray).data.toList = accT t M (j + 1) by
              rw [accT_low hlt]
              simp only [ba_append, HQ.out, hb]
              rfl)
            have HB2 := Lib.hid (show j + 1 ≤ t + 1 ∨ 0 < M / 10 ^ (j + 1 - 1) by rw [Nat.add_sub_cancel]; exact Or.inl (by omega))
            have M5 := M4.alloc (.cells #[.int .u8 (48)] 5)
            have z6 := M5.c 3 0 rfl rfl; have z7 := M5.c 3 1 rfl rfl
            have z10 := M5.f 2 0 rfl; have z11 := M5.f 2 1 rfl; have z8 := M5.c 2 0 rfl rfl; have z9 := M5.c 2 1 rfl rfl
            have M6 := M5.put2 2 rfl rfl (.bool false) (.slice yA4 yk4 yc4) rfl
            have HM7 := Lib.hid (((M6.take 3).only).add (M6.r 1 rfl))
            have HE10 := Lib.hid (show M / 10 ^ (j + 1) = M / 10 ^ j / 10 by rw [Nat.pow_succ, ← Nat.div_div_eq_div_mul])
            clear M4 M5 M6 hb he HKO
            go_wp2_with fail
            exact ⟨⟨j + 1, _, _, _, (⟨#[b]⟩ ++ Q), rfl, val_int (by omega), by omega, HACC, HB2, by rw [HE10.out]; exact HM7.out⟩, by simp [intOf]; omega⟩
          · skip
            obtain ⟨ee, hee⟩ : ∃ ee, M / 10 ^ j % 10 = ee := ⟨_, rfl⟩
            have he9 : ee ≤ 9 := by omega
            have hdg : digs ee = [ee] := by rw [digs_pos (by omega), Nat.mod_eq_of_lt (by omega), show ee / 1000 = 0 by omega, digs_zero]
            have hR5 := M4.r 2 rfl
            have hk1 : yk5 = 1 := by have h1 := HKO.out; rw [hee, hdg] at h1; exact h1.symm
            subst hk1
            obtain ⟨ga, oa, x, hA, hxk, _, hxc⟩ := hR5.get (digs_lt _) (k := 0) (by omega)
            have hxe : x = ee := by rw [hee, hdg] at hxk; simpa using hxk.symm
            subst hA
            rw [hxe] at hxc
            have y12 : w4.cell? ⟨ga, oa, none⟩ = some (.int .i64 (ee : Int)) := by have := hxc _ (Below.refl _ _); simpa using this
            have hw8 : IntKind.u8.wrap (ee : Int) = (ee : Int) := by rw [IntKind.wrap_u8]; omega
            have hw9 : IntKind.u8.wrap (48 + (ee : Int)) = 48 + (ee : Int) := by rw [IntKind.wrap_u8]; omega
            clear hxk hxc hR5
            obtain ⟨b, hb⟩ : ∃ b, dg (M / 10 ^ j) = b := ⟨_, rfl⟩
            have hcv := conv1 w4 (48 + (ee : Int)) b (by rw [← hb, dg_toNat, hee]; omega)
            have HACC := Lib.hid (show ((⟨#[b]⟩ ++ Q) : ByteArray).data.toList = accT t M (j + 1) by
              rw [accT_low hlt]
              simp only [ba_append, HQ.out, hb]
              rfl)
            have HB2 := Lib.hid (show j + 1 ≤ t + 1 ∨ 0 < M / 10 ^ (j + 1 - 1) by rw [Nat.add_sub_cancel]; exact Or.inl (by omega))
            have M5 := M4.alloc (.cells #[.int .u8 (48 + (ee : Int))] 5)
            have z6 := M5.c 3 0 rfl rfl; have z7 := M5.c 3 1 rfl rfl
            have z10 := M5.f 2 0 rfl; have z11 := M5.f 2 1 rfl; have z8 := M5.c 2 0 rfl rfl; have z9 := M5.c 2 1 rfl rfl
            have M6 := M5.put2 2 rfl rfl (.bool false) (.slice yA4 yk4 yc4) rfl
            have HM7 := Lib.hid (((M6.take 3).only).add (M6.r 1 rfl))
            have HE10 := Lib.hid (show M / 10 ^ (j + 1) = M / 10 ^ j / 10 by rw [Nat.pow_succ, ← Nat.div_div_eq_div_mul])
            clear M4 M5 M6 hb he HKO
            go_wp2_with fail
            exact ⟨⟨j + 1, _, _, _, (⟨#[b]⟩ ++ Q), rfl, val_int (by omega), by omega, HACC, HB2, by rw [HE10.out]; exact HM7.out⟩, by simp [intOf]; omega⟩
      · by_cases ht0 : 0 < t
        · have hne : ((j : Int) == (t : Int)) = true := by rw [beq_iff_eq]; omega
          have hj0 : (0 : Int) < (j : Int) := by omega
          have hj19 : j ≤ 19 := by omega
          have hjt2 := Lib.hid (show j = t by omega)
          have ht0H := Lib.hid ht0
          clear hlt hjt ht0
          go_upto_region 10 with fail
          refine wp_region_rel 8 (MemAt w wr.heap.size [(w.heap.size, #[.int .i64 c, .int .i64 (t : Int)]), (G1, #[.bool nb, .slice A0 n0 c0]), (G2, #[.bool false, .slice A n k])] [(A, n, k, digs (M / 10 ^ j))])
            (fun i => List.getD [VE (.agg #[.bool false, .slice A n k]), VN (false) (10), VNN (false) (M / 10 ^ j / 10) (false) (M / 10 ^ j % 10), VNN (false) (M / 10 ^ j / 10) (false) (M / 10 ^ j % 10), VN (false) (M / 10 ^ j / 10), VN (false) (M / 10 ^ j % 10), VA (wr.heap.size) #[.bool false, .slice none 0 0], VA (wr.heap.size) #[.bool false, .slice none 0 0]] i (fun _ _ => False)) [6, 7] [3, 4, 5] (by kernel_rfl) (by kernel_rfl) S.at (fun _ _ h hb => h.grow hb)
            (stays_all (stays_cons (stays_VE _) (stays_cons (stays_VN _ _) (stays_cons (stays_VNN _ _ _ _) (stays_cons (stays_VNN _ _ _ _) (stays_cons (stays_VN _ _) (stays_cons (stays_VN _ _) (stays_cons (stays_VA _ _) (stays_cons (stays_VA _ _) stays_nil))))))))) ⟨?_, ?_, ?_, ?_, ?_, ?_, ?_, ?_, trivial⟩ ?_
          · intro ev wv hE hw hd
            refine ifw rfl (ifn rfl ?_)
            have v5 : ev (.tmp 5) = .pointer (some ⟨G2, 0, none⟩) := hE.tmp 5 rfl
            have kx := hw.m.c 2 0 rfl rfl
            have ky := hw.m.c 2 1 rfl rfl
            refine rel_val (u := .agg #[.bool false, .slice A n k]) (w' := wv) ?_ (Below.refl _ _) ⟨rfl, fun h => by cases h⟩
            have e1 := hE.const; clear hE hd hw
            go_simp
          · intro ev wv hE hw hd
            refine ifw rfl (ifn rfl ?_)
            refine rel_call (f := 31) (args := #[.int .u64 10]) ?_ (word_ten _) ?_
            · have e0 := hE.func; have e1 := hE.const; clear hE hd hw
              go_simp
            · rintro e w' ⟨A, k, c, rfl, R, hb⟩
              exact ⟨_, rfl, hb, ⟨A, k, c, rfl, R⟩, fun h => by cases h⟩
          · intro ev wv hE hw hd
            refine ifw rfl (ifn rfl ?_)
            have v37 : ev (.tmp 37) = .agg #[.bool false, .slice A n k] := hd 0 (by decide)
            obtain ⟨yA1, yk1, yc1, v38, yR1⟩ : VN (false) (10) (ev (.tmp 38)) wv := hd 1 (by decide)
            refine rel_call (f := 30) (args := #[.agg #[.bool false, .slice A n k], .agg #[.bool (false), .slice yA1 yk1 yc1]]) ?_ (ndown_nat _ _ _ _ _ _ (M / 10 ^ j) 10 _ (hw.m.r 0 rfl) yR1 (by omega) (by have := row_le (k := 1) yR1 (by decide); omega) (by decide)) ?_
            · have e0 := hE.func; have e1 := hE.const; clear hE hd hw
              go_simp
            · rintro e w' ⟨A, k, c, A', k', c', rfl, R, R', hb⟩
              exact ⟨_, rfl, hb, ⟨A, k, c, A', k', c', rfl, R, R'⟩, fun h => by cases h⟩
          · intro ev wv hE hw hd
            refine ifw rfl (ifw rfl ?_)
            refine ⟨ev (.tmp 39), fun w => ?_, hd 2 (by decide)⟩
            clear hE hd hw
            go_simp
          · intro ev wv hE hw hd
            refine ifw rfl (ifw rfl ?_)
            obtain ⟨yA3, yk3, yc3, yA'3, yk'3, yc'3, v36, yR3, yR'3⟩ : VNN (false) (M / 10 ^ j / 10) (false) (M / 10 ^ j % 10) (ev (.tmp 36)) wv := hd 3 (by decide)
            refine ⟨.agg #[.bool (false), .slice yA3 yk3 yc3], fun w => ?_, ⟨yA3, yk3, yc3, rfl, yR3⟩⟩
            have e1 := hE.const; clear hE hd hw
            go_simp
          · intro ev wv hE hw hd
            refine ifw rfl (ifw rfl ?_)
            obtain ⟨yA3, yk3, yc3, yA'3, yk'3, yc'3, v36, yR3, yR'3⟩ : VNN (false) (M / 10 ^ j / 10) (false) (M / 10 ^ j % 10) (ev (.tmp 36)) wv := hd 3 (by decide)
            refine ⟨.agg #[.bool (false), .slice yA'3 yk'3 yc'3], fun w => ?_, ⟨yA'3, yk'3, yc'3, rfl, yR'3⟩⟩
            have e1 := hE.const; clear hE hd hw
            go_simp
          · intro ev wv hE hw hd
            refine ifw rfl (ifn rfl ?_)
            refine rel_val (u := .pointer (some ⟨wv.heap.size, 0, none⟩)) (w' := wv.alloc (.cells #[.bool false, .slice none 0 0] 52)) ?_ ((Below.refl _ _).alloc (Nat.le_refl _) _) ⟨⟨_, rfl, Blk.new _ _ _, hw.h⟩, fun _ => ⟨_, rfl, Nat.le_refl _, by simp⟩⟩
            clear hE hd hw
            go_simp
          · intro ev wv hE hw hd
            refine ifw rfl (ifn rfl ?_)
            refine rel_val (u := .pointer (some ⟨wv.heap.size, 0, none⟩)) (w' := wv.alloc (.cells #[.bool false, .slice none 0 0] 52)) ?_ ((Below.refl _ _).alloc (Nat.le_refl _) _) ⟨⟨_, rfl, Blk.new _ _ _, hw.h⟩, fun _ => ⟨_, rfl, Nat.le_refl _, by simp⟩⟩
            clear hE hd hw
            go_simp
          · intro w3 M3
            intro v0 h0 _ v1 h1 _ v2 h2 _ v3 h3 _ v4 h4 _ v5 h5 _ v6 h6 n6 v7 h7 n7
            simp only [Act.put, List.setIfInBounds_toArray, List.set_cons_zero, List.set_cons_succ, List.drop_succ_cons, List.drop_zero]
            obtain rfl : v0 = _ := h0
            obtain ⟨yA1, yk1, yc1, rfl, yR1⟩ : VN (false) (10) v1 w3 := h1
            clear h2
            clear h3
            obtain ⟨yA4, yk4, yc4, rfl, yR4⟩ : VN (false) (M / 10 ^ j / 10) v4 w3 := h4
            obtain ⟨yA5, yk5, yc5, rfl, yR5⟩ : VN (false) (M / 10 ^ j % 10) v5 w3 := h5
            obtain ⟨yg6, rfl, yB6, yl6⟩ : VA (wr.heap.size) #[.bool false, .slice none 0 0] v6 w3 := h6
            obtain ⟨yg7, rfl, yB7, yl7⟩ : VA (wr.heap.size) #[.bool false, .slice none 0 0] v7 w3 := h7
            change wpList Tryz.prog _ _ _ _ w3
            have n67 := ne_ptr (n7 rfl _ (List.mem_cons_self))
            have SF := (((M3.m.add yR4).add yR5).join2 S yB6 yB7 yl6 yl7 n67)
            have f0 := SF.c 3 0 rfl rfl; have f1 := SF.c 3 1 rfl rfl; have f2 := SF.f 3 0 rfl; have f3 := SF.f 3 1 rfl
            have f4 := SF.c 4 0 rfl rfl; have f5 := SF.c 4 1 rfl rfl; have f6 := SF.f 4 0 rfl; have f7 := SF.f 4 1 rfl
            have M4 := (SF.put2 3 rfl rfl (.bool false) (.slice yA4 yk4 yc4) rfl).put2 4 rfl rfl (.bool false) (.slice yA5 yk5 yc5) rfl
            have HKO := Lib.hid yR5.len
            clear SF yR1 yR4 yR5 M3 n6 n7 yB6 yB7 S y0 y1 y2 y3
            go_wp2_with fail
            refine calm_normal ?_
            generalize (((w3.setCell ⟨yg6, 0, none⟩ (.bool false)).setCell ⟨yg6, 1, none⟩ (.slice yA4 yk4 yc4)).setCell ⟨yg7, 0, none⟩ (.bool false)).setCell ⟨yg7, 1, none⟩ (.slice yA5 yk5 yc5) = w4 at *
            clear f0 f1 f2 f3 f4 f5 f6 f7
            have y1 := M4.c 0 1 rfl rfl
            have y4 := M4.c 4 0 rfl rfl; have y5 := M4.c 4 1 rfl rfl
            by_cases he : M / 10 ^ j % 10 = 0
            · have hk0 : yk5 = 0 := by have h1 := HKO.out; rw [he, digs_zero] at h1; exact h1.symm
              subst hk0
              obtain ⟨b, hb⟩ : ∃ b, dg (M / 10 ^ j) = b := ⟨_, rfl⟩
              have hcv := conv1 w4 (48) b (by rw [← hb, dg_toNat, he]; rfl)
              have HACC := Lib.hid (show ((⟨#[b]⟩ ++ (⟨#[46]⟩ ++ Q)) : ByteArray).data.toList = accT t M (j + 1) by
                rw [accT_at' ht0H.out hjt2.out]
                simp only [ba_append, HQ.out, hb]
                rfl)
              have HB2 := Lib.hid (show j + 1 ≤ t + 1 ∨ 0 < M / 10 ^ (j + 1 - 1) by rw [Nat.add_sub_cancel]; exact Or.inl (by have := hjt2.out; omega))
              have M5 := M4.alloc (.cells #[.int .u8 (48)] 5)
              have z6 := M5.c 3 0 rfl rfl; have z7 := M5.c 3 1 rfl rfl
              have z10 := M5.f 2 0 rfl; have z11 := M5.f 2 1 rfl; have z8 := M5.c 2 0 rfl rfl; have z9 := M5.c 2 1 rfl rfl
              have M6 := M5.put2 2 rfl rfl (.bool false) (.slice yA4 yk4 yc4) rfl
              have HM7 := Lib.hid (((M6.take 3).only).add (M6.r 1 rfl))
              have HE10 := Lib.hid (show M / 10 ^ (j + 1) = M / 10 ^ j / 10 by rw [Nat.pow_succ, ← Nat.div_div_eq_div_mul])
              clear M4 M5 M6 hb he HKO
              go_wp2_with fail
              exact ⟨⟨j + 1, _, _, _, (⟨#[b]⟩ ++ (⟨#[46]⟩ ++ Q)), rfl, val_int (by omega), by omega, HACC, HB2, by rw [HE10.out]; exact HM7.out⟩, by simp [intOf]; omega⟩
            · skip
              obtain ⟨ee, hee⟩ : ∃ ee, M / 10 ^ j % 10 = ee := ⟨_, rfl⟩
              have he9 : ee ≤ 9 := by omega
              have hdg : digs ee = [ee] := by rw [digs_pos (by omega), Nat.mod_eq_of_lt (by omega), show ee / 1000 = 0 by omega, digs_zero]
              have hR5 := M4.r 2 rfl
              have hk1 : yk5 = 1 := by have h1 := HKO.out; rw [hee, hdg] at h1; exact h1.symm
              subst hk1
              obtain ⟨ga, oa, x, hA, hxk, _, hxc⟩ := hR5.get (digs_lt _) (k := 0) (by omega)
              have hxe : x = ee := by rw [hee, hdg] at hxk; simpa using hxk.symm
              subst hA
              rw [hxe] at hxc
              have y12 : w4.cell? ⟨ga, oa, none⟩ = some (.int .i64 (ee : Int)) := by have := hxc _ (Below.refl _ _); simpa using this
              have hw8 : IntKind.u8.wrap (ee : Int) = (ee : Int) := by rw [IntKind.wrap_u8]; omega
              have hw9 : IntKind.u8.wrap (48 + (ee : Int)) = 48 + (ee : Int) := by rw [IntKind.wrap_u8]; omega
              clear hxk hxc hR5
              obtain ⟨b, hb⟩ : ∃ b, dg (M / 10 ^ j) = b := ⟨_, rfl⟩
              have hcv := conv1 w4 (48 + (ee : Int)) b (by rw [← hb, dg_toNat, hee]; omega)
              have HACC := Lib.hid (show ((⟨#[b]⟩ ++ (⟨#[46]⟩ ++ Q)) : ByteArray).data.toList = accT t M (j + 1) by
                rw [accT_at' ht0H.out hjt2.out]
                simp only [ba_append, HQ.out, hb]
                rfl)
              have HB2 := Lib.hid (show j + 1 ≤ t + 1 ∨ 0 < M / 10 ^ (j + 1 - 1) by rw [Nat.add_sub_cancel]; exact Or.inl (by have := hjt2.out; omega))
              have M5 := M4.alloc (.cells #[.int .u8 (48 + (ee : Int))] 5)
              have z6 := M5.c 3 0 rfl rfl; have z7 := M5.c 3 1 rfl rfl
              have z10 := M5.f 2 0 rfl; have z11 := M5.f 2 1 rfl; have z8 := M5.c 2 0 rfl rfl; have z9 := M5.c 2 1 rfl rfl
              have M6 := M5.put2 2 rfl rfl (.bool false) (.slice yA4 yk4 yc4) rfl
              have HM7 := Lib.hid (((M6.take 3).only).add (M6.r 1 rfl))
              have HE10 := Lib.hid (show M / 10 ^ (j + 1) = M / 10 ^ j / 10 by rw [Nat.pow_succ, ← Nat.div_div_eq_div_mul])
              clear M4 M5 M6 hb he HKO
              go_wp2_with fail
              exact ⟨⟨j + 1, _, _, _, (⟨#[b]⟩ ++ (⟨#[46]⟩ ++ Q)), rfl, val_int (by omega), by omega, HACC, HB2, by rw [HE10.out]; exact HM7.out⟩, by simp [intOf]; omega⟩
        · have hne : ((j : Int) == (t : Int)) = true := by rw [beq_iff_eq]; omega
          have hj0 : ¬ (0 : Int) < (j : Int) := by omega
          have hj19 : j ≤ 19 := by omega
          have hjt2 := Lib.hid (show j = 0 by omega)
          have htt := Lib.hid (show t = 0 by omega)
          clear hlt hjt ht0
          go_upto_region 10 with fail
          refine wp_region_rel 8 (MemAt w wr.heap.size [(w.heap.size, #[.int .i64 c, .int .i64 (t : Int)]), (G1, #[.bool nb, .slice A0 n0 c0]), (G2, #[.bool false, .slice A n k])] [(A, n, k, digs (M / 10 ^ j))])
            (fun i => List.getD [VE (.agg #[.bool false, .slice A n k]), VN (false) (10), VNN (false) (M / 10 ^ j / 10) (false) (M / 10 ^ j % 10), VNN (false) (M / 10 ^ j / 10) (false) (M / 10 ^ j % 10), VN (false) (M / 10 ^ j / 10), VN (false) (M / 10 ^ j % 10), VA (wr.heap.size) #[.bool false, .slice none 0 0], VA (wr.heap.size) #[.bool false, .slice none 0 0]] i (fun _ _ => False)) [6, 7] [3, 4, 5] (by kernel_rfl) (by kernel_rfl) S.at (fun _ _ h hb => h.grow hb)
            (stays_all (stays_cons (stays_VE _) (stays_cons (stays_VN _ _) (stays_cons (stays_VNN _ _ _ _) (stays_cons (stays_VNN _ _ _ _) (stays_cons (stays_VN _ _) (stays_cons (stays_VN _ _) (stays_cons (stays_VA _ _) (stays_cons (stays_VA _ _) stays_nil))))))))) ⟨?_, ?_, ?_, ?_, ?_, ?_, ?_, ?_, trivial⟩ ?_
          · intro ev wv hE hw hd
            refine ifw rfl (ifn rfl ?_)
            have v5 : ev (.tmp 5) = .pointer (some ⟨G2, 0, none⟩) := hE.tmp 5 rfl
            have kx := hw.m.c 2 0 rfl rfl
            have ky := hw.m.c 2 1 rfl rfl
            refine rel_val (u := .agg #[.bool false, .slice A n k]) (w' := wv) ?_ (Below.refl _ _) ⟨rfl, fun h => by cases h⟩
            have e1 := hE.const; clear hE hd hw
            go_simp
          · intro ev wv hE hw hd
            refine ifw rfl (ifn rfl ?_)
            refine rel_call (f := 31) (args := #[.int .u64 10]) ?_ (word_ten _) ?_
            · have e0 := hE.func; have e1 := hE.const; clear hE hd hw
              go_simp
            · rintro e w' ⟨A, k, c, rfl, R, hb⟩
              exact ⟨_, rfl, hb, ⟨A, k, c, rfl, R⟩, fun h => by cases h⟩
          · intro ev wv hE hw hd
            refine ifw rfl (ifn rfl ?_)
            have v37 : ev (.tmp 37) = .agg #[.bool false, .slice A n k] := hd 0 (by decide)
            obtain ⟨yA1, yk1, yc1, v38, yR1⟩ : VN (false) (10) (ev (.tmp 38)) wv := hd 1 (by decide)
            refine rel_call (f := 30) (args := #[.agg #[.bool false, .slice A n k], .agg #[.bool (false), .slice yA1 yk1 yc1]]) ?_ (ndown_nat _ _ _ _ _ _ (M / 10 ^ j) 10 _ (hw.m.r 0 rfl) yR1 (by omega) (by have := row_le (k := 1) yR1 (by decide); omega) (by decide)) ?_
            · have e0 := hE.func; have e1 := hE.const; clear hE hd hw
              go_simp
            · rintro e w' ⟨A, k, c, A', k', c', rfl, R, R', hb⟩
              exact ⟨_, rfl, hb, ⟨A, k, c, A', k', c', rfl, R, R'⟩, fun h => by cases h⟩
          · intro ev wv hE hw hd
            refine ifw rfl (ifw rfl ?_)
            refine ⟨ev (.tmp 39), fun w => ?_, hd 2 (by decide)⟩
            clear hE hd hw
            go_simp
          · intro ev wv hE hw hd
            refine ifw rfl (ifw rfl ?_)
            obtain ⟨yA3, yk3, yc3, yA'3, yk'3, yc'3, v36, yR3, yR'3⟩ : VNN (false) (M / 10 ^ j / 10) (false) (M / 10 ^ j % 10) (ev (.tmp 36)) wv := hd 3 (by decide)
            refine ⟨.agg #[.bool (false), .slice yA3 yk3 yc3], fun w => ?_, ⟨yA3, yk3, yc3, rfl, yR3⟩⟩
            have e1 := hE.const; clear hE hd hw
            go_simp
          · intro ev wv hE hw hd
            refine ifw rfl (ifw rfl ?_)
            obtain ⟨yA3, yk3, yc3, yA'3, yk'3, yc'3, v36, yR3, yR'3⟩ : VNN (false) (M / 10 ^ j / 10) (false) (M / 10 ^ j % 10) (ev (.tmp 36)) wv := hd 3 (by decide)
            refine ⟨.agg #[.bool (false), .slice yA'3 yk'3 yc'3], fun w => ?_, ⟨yA'3, yk'3, yc'3, rfl, yR'3⟩⟩
            have e1 := hE.const; clear hE hd hw
            go_simp
          · intro ev wv hE hw hd
            refine ifw rfl (ifn rfl ?_)
            refine rel_val (u := .pointer (some ⟨wv.heap.size, 0, none⟩)) (w' := wv.alloc (.cells #[.bool false, .slice none 0 0] 52)) ?_ ((Below.refl _ _).alloc (Nat.le_refl _) _) ⟨⟨_, rfl, Blk.new _ _ _, hw.h⟩, fun _ => ⟨_, rfl, Nat.le_refl _, by simp⟩⟩
            clear hE hd hw
            go_simp
          · intro ev wv hE hw hd
            refine ifw rfl (ifn rfl ?_)
            refine rel_val (u := .pointer (some ⟨wv.heap.size, 0, none⟩)) (w' := wv.alloc (.cells #[.bool false, .slice none 0 0] 52)) ?_ ((Below.refl _ _).alloc (Nat.le_refl _) _) ⟨⟨_, rfl, Blk.new _ _ _, hw.h⟩, fun _ => ⟨_, rfl, Nat.le_refl _, by simp⟩⟩
            clear hE hd hw
            go_simp
          · intro w3 M3
            intro v0 h0 _ v1 h1 _ v2 h2 _ v3 h3 _ v4 h4 _ v5 h5 _ v6 h6 n6 v7 h7 n7
            simp only [Act.put, List.setIfInBounds_toArray, List.set_cons_zero, List.set_cons_succ, List.drop_succ_cons, List.drop_zero]
            obtain rfl : v0 = _ := h0
            obtain ⟨yA1, yk1, yc1, rfl, yR1⟩ : VN (false) (10) v1 w3 := h1
            clear h2
            clear h3
            obtain ⟨yA4, yk4, yc4, rfl, yR4⟩ : VN (false) (M / 10 ^ j / 10) v4 w3 := h4
            obtain ⟨yA5, yk5, yc5, rfl, yR5⟩ : VN (false) (M / 10 ^ j % 10) v5 w3 := h5
            obtain ⟨yg6, rfl, yB6, yl6⟩ : VA (wr.heap.size) #[.bool false, .slice none 0 0] v6 w3 := h6
            obtain ⟨yg7, rfl, yB7, yl7⟩ : VA (wr.heap.size) #[.bool false, .slice none 0 0] v7 w3 := h7
            change wpList Tryz.prog _ _ _ _ w3
            have n67 := ne_ptr (n7 rfl _ (List.mem_cons_self))
            have SF := (((M3.m.add yR4).add yR5).join2 S yB6 yB7 yl6 yl7 n67)
            have f0 := SF.c 3 0 rfl rfl; have f1 := SF.c 3 1 rfl rfl; have f2 := SF.f 3 0 rfl; have f3 := SF.f 3 1 rfl
            have f4 := SF.c 4 0 rfl rfl; have f5 := SF.c 4 1 rfl rfl; have f6 := SF.f 4 0 rfl; have f7 := SF.f 4 1 rfl
            have M4 := (SF.put2 3 rfl rfl (.bool false) (.slice yA4 yk4 yc4) rfl).put2 4 rfl rfl (.bool false) (.slice yA5 yk5 yc5) rfl
            have HKO := Lib.hid yR5.len
            clear SF yR1 yR4 yR5 M3 n6 n7 yB6 yB7 S y0 y1 y2 y3
            go_wp2_with fail
            refine calm_normal ?_
            generalize (((w3.setCell ⟨yg6, 0, none⟩ (.bool false)).setCell ⟨yg6, 1, none⟩ (.slice yA4 yk4 yc4)).setCell ⟨yg7, 0, none⟩ (.bool false)).setCell ⟨yg7, 1, none⟩ (.slice yA5 yk5 yc5) = w4 at *
            clear f0 f1 f2 f3 f4 f5 f6 f7
            have y1 := M4.c 0 1 rfl rfl
            have y4 := M4.c 4 0 rfl rfl; have y5 := M4.c 4 1 rfl rfl
            by_cases he : M / 10 ^ j % 10 = 0
            · have hk0 : yk5 = 0 := by have h1 := HKO.out; rw [he, digs_zero] at h1; exact h1.symm
              subst hk0
              obtain ⟨b, hb⟩ : ∃ b, dg (M / 10 ^ j) = b := ⟨_, rfl⟩
              have hcv := conv1 w4 (48) b (by rw [← hb, dg_toNat, he]; rfl)
              have HACC := Lib.hid (show ((⟨#[b]⟩ ++ Q) : ByteArray).data.toList = accT t M (j + 1) by
                rw [accT_at0' htt.out hjt2.out]
                simp only [ba_append, HQ.out, hb]
                rfl)
              have HB2 := Lib.hid (show j + 1 ≤ t + 1 ∨ 0 < M / 10 ^ (j + 1 - 1) by rw [Nat.add_sub_cancel]; exact Or.inl (by have := hjt2.out; omega))
              have M5 := M4.alloc (.cells #[.int .u8 (48)] 5)
              have z6 := M5.c 3 0 rfl rfl; have z7 := M5.c 3 1 rfl rfl
              have z10 := M5.f 2 0 rfl; have z11 := M5.f 2 1 rfl; have z8 := M5.c 2 0 rfl rfl; have z9 := M5.c 2 1 rfl rfl
              have M6 := M5.put2 2 rfl rfl (.bool false) (.slice yA4 yk4 yc4) rfl
              have HM7 := Lib.hid (((M6.take 3).only).add (M6.r 1 rfl))
              have HE10 := Lib.hid (show M / 10 ^ (j + 1) = M / 10 ^ j / 10 by rw [Nat.pow_succ, ← Nat.div_div_eq_div_mul])
              clear M4 M5 M6 hb he HKO
              go_wp2_with fail
              exact ⟨⟨j + 1, _, _, _, (⟨#[b]⟩ ++ Q), rfl, val_int (by omega), by omega, HACC, HB2, by rw [HE10.out]; exact HM7.out⟩, by simp [intOf]; omega⟩
            · skip
              obtain ⟨ee, hee⟩ : ∃ ee, M / 10 ^ j % 10 = ee := ⟨_, rfl⟩
              have he9 : ee ≤ 9 := by omega
              have hdg : digs ee = [ee] := by rw [digs_pos (by omega), Nat.mod_eq_of_lt (by omega), show ee / 1000 = 0 by omega, digs_zero]
              have hR5 := M4.r 2 rfl
              have hk1 : yk5 = 1 := by have h1 := HKO.out; rw [hee, hdg] at h1; exact h1.symm
              subst hk1
              obtain ⟨ga, oa, x, hA, hxk, _, hxc⟩ := hR5.get (digs_lt _) (k := 0) (by omega)
              have hxe : x = ee := by rw [hee, hdg] at hxk; simpa using hxk.symm
              subst hA
              rw [hxe] at hxc
              have y12 : w4.cell? ⟨ga, oa, none⟩ = some (.int .i64 (ee : Int)) := by have := hxc _ (Below.refl _ _); simpa using this
              have hw8 : IntKind.u8.wrap (ee : Int) = (ee : Int) := by rw [IntKind.wrap_u8]; omega
              have hw9 : IntKind.u8.wrap (48 + (ee : Int)) = 48 + (ee : Int) := by rw [IntKind.wrap_u8]; omega
              clear hxk hxc hR5
              obtain ⟨b, hb⟩ : ∃ b, dg (M / 10 ^ j) = b := ⟨_, rfl⟩
              have hcv := conv1 w4 (48 + (ee : Int)) b (by rw [← hb, dg_toNat, hee]; omega)
              have HACC := Lib.hid (show ((⟨#[b]⟩ ++ Q) : ByteArray).data.toList = accT t M (j + 1) by
                rw [accT_at0' htt.out hjt2.out]
                simp only [ba_append, HQ.out, hb]
                rfl)
              have HB2 := Lib.hid (show j + 1 ≤ t + 1 ∨ 0 < M / 10 ^ (j + 1 - 1) by rw [Nat.add_sub_cancel]; exact Or.inl (by have := hjt2.out; omega))
              have M5 := M4.alloc (.cells #[.int .u8 (48 + (ee : Int))] 5)
              have z6 := M5.c 3 0 rfl rfl; have z7 := M5.c 3 1 rfl rfl
              have z10 := M5.f 2 0 rfl; have z11 := M5.f 2 1 rfl; have z8 := M5.c 2 0 rfl rfl; have z9 := M5.c 2 1 rfl rfl
              have M6 := M5.put2 2 rfl rfl (.bool false) (.slice yA4 yk4 yc4) rfl
              have HM7 := Lib.hid (((M6.take 3).only).add (M6.r 1 rfl))
              have HE10 := Lib.hid (show M / 10 ^ (j + 1) = M / 10 ^ j / 10 by rw [Nat.pow_succ, ← Nat.div_div_eq_div_mul])
              clear M4 M5 M6 hb he HKO
              go_wp2_with fail
              exact ⟨⟨j + 1, _, _, _, (⟨#[b]⟩ ++ Q), rfl, val_int (by omega), by omega, HACC, HB2, by rw [HE10.out]; exact HM7.out⟩, by simp [intOf]; omega⟩
    · have hjt' : ¬ (j : Int) ≤ (t : Int) := by omega
      by_cases hn0 : 0 < n
      · have hne : ((j : Int) == (t : Int)) = false := by rw [beq_eq_false_iff_ne]; omega
        have hn0' : (0 : Int) < (n : Int) := by omega
        have HPOS := Lib.hid (show 0 < M / 10 ^ j from Nat.pos_of_ne_zero fun e => by have := HN.out; rw [e, digs_zero] at this; simp at this; omega)
        have hj19 : j ≤ 19 := Nat.le_of_not_lt fun hh => by
          have h1 := HPOS.out
          have h2 := HM64.out
          have h3 : 10 ^ 19 ≤ 10 ^ j := Nat.pow_le_pow_right (by omega) (by omega)
          rw [Nat.div_eq_of_lt (Nat.lt_of_lt_of_le (show M < 10 ^ 19 by omega) h3)] at h1
          omega
        go_upto_region 10 with fail
        refine wp_region_rel 8 (MemAt w wr.heap.size [(w.heap.size, #[.int .i64 c, .int .i64 (t : Int)]), (G1, #[.bool nb, .slice A0 n0 c0]), (G2, #[.bool false, .slice A n k])] [(A, n, k, digs (M / 10 ^ j))])
          (fun i => List.getD [VE (.agg #[.bool false, .slice A n k]), VN (false) (10), VNN (false) (M / 10 ^ j / 10) (false) (M / 10 ^ j % 10), VNN (false) (M / 10 ^ j / 10) (false) (M / 10 ^ j % 10), VN (false) (M / 10 ^ j / 10), VN (false) (M / 10 ^ j % 10), VA (wr.heap.size) #[.bool false, .slice none 0 0], VA (wr.heap.size) #[.bool false, .slice none 0 0]] i (fun _ _ => False)) [6, 7] [3, 4, 5] (by kernel_rfl) (by kernel_rfl) S.at (fun _ _ h hb => h.grow hb)
          (stays_all (stays_cons (stays_VE _) (stays_cons (stays_VN _ _) (stays_cons (stays_VNN _ _ _ _) (stays_cons (stays_VNN _ _ _ _) (stays_cons (stays_VN _ _) (stays_cons (stays_VN _ _) (stays_cons (stays_VA _ _) (stays_cons (stays_VA _ _) stays_nil))))))))) ⟨?_, ?_, ?_, ?_, ?_, ?_, ?_, ?_, trivial⟩ ?_
        · intro ev wv hE hw hd
          refine ifw rfl (ifn rfl ?_)
          have v5 : ev (.tmp 5) = .pointer (some ⟨G2, 0, none⟩) := hE.tmp 5 rfl
          have kx := hw.m.c 2 0 rfl rfl
          have ky := hw.m.c 2 1 rfl rfl
          refine rel_val (u := .agg #[.bool false, .slice A n k]) (w' := wv) ?_ (Below.refl _ _) ⟨rfl, fun h => by cases h⟩
          have e1 := hE.const; clear hE hd hw
          go_simp
        · intro ev wv hE hw hd
          refine ifw rfl (ifn rfl ?_)
          refine rel_call (f := 31) (args := #[.int .u64 10]) ?_ (word_ten _) ?_
          · have e0 := hE.func; have e1 := hE.const; clear hE hd hw
            go_simp
          · rintro e w' ⟨A, k, c, rfl, R, hb⟩
            exact ⟨_, rfl, hb, ⟨A, k, c, rfl, R⟩, fun h => by cases h⟩
        · intro ev wv hE hw hd
          refine ifw rfl (ifn rfl ?_)
          have v37 : ev (.tmp 37) = .agg #[.bool false, .slice A n k] := hd 0 (by decide)
          obtain ⟨yA1, yk1, yc1, v38, yR1⟩ : VN (false) (10) (ev (.tmp 38)) wv := hd 1 (by decide)
          refine rel_call (f := 30) (args := #[.agg #[.bool false, .slice A n k], .agg #[.bool (false), .slice yA1 yk1 yc1]]) ?_ (ndown_nat _ _ _ _ _ _ (M / 10 ^ j) 10 _ (hw.m.r 0 rfl) yR1 (by omega) (by have := row_le (k := 1) yR1 (by decide); omega) (by decide)) ?_
          · have e0 := hE.func; have e1 := hE.const; clear hE hd hw
            go_simp
          · rintro e w' ⟨A, k, c, A', k', c', rfl, R, R', hb⟩
            exact ⟨_, rfl, hb, ⟨A, k, c, A', k', c', rfl, R, R'⟩, fun h => by cases h⟩
        · intro ev wv hE hw hd
          refine ifw rfl (ifw rfl ?_)
          refine ⟨ev (.tmp 39), fun w => ?_, hd 2 (by decide)⟩
          clear hE hd hw
          go_simp
        · intro ev wv hE hw hd
          refine ifw rfl (ifw rfl ?_)
          obtain ⟨yA3, yk3, yc3, yA'3, yk'3, yc'3, v36, yR3, yR'3⟩ : VNN (false) (M / 10 ^ j / 10) (false) (M / 10 ^ j % 10) (ev (.tmp 36)) wv := hd 3 (by decide)
          refine ⟨.agg #[.bool (false), .slice yA3 yk3 yc3], fun w => ?_, ⟨yA3, yk3, yc3, rfl, yR3⟩⟩
          have e1 := hE.const; clear hE hd hw
          go_simp
        · intro ev wv hE hw hd
          refine ifw rfl (ifw rfl ?_)
          obtain ⟨yA3, yk3, yc3, yA'3, yk'3, yc'3, v36, yR3, yR'3⟩ : VNN (false) (M / 10 ^ j / 10) (false) (M / 10 ^ j % 10) (ev (.tmp 36)) wv := hd 3 (by decide)
          refine ⟨.agg #[.bool (false), .slice yA'3 yk'3 yc'3], fun w => ?_, ⟨yA'3, yk'3, yc'3, rfl, yR'3⟩⟩
          have e1 := hE.const; clear hE hd hw
          go_simp
        · intro ev wv hE hw hd
          refine ifw rfl (ifn rfl ?_)
          refine rel_val (u := .pointer (some ⟨wv.heap.size, 0, none⟩)) (w' := wv.alloc (.cells #[.bool false, .slice none 0 0] 52)) ?_ ((Below.refl _ _).alloc (Nat.le_refl _) _) ⟨⟨_, rfl, Blk.new _ _ _, hw.h⟩, fun _ => ⟨_, rfl, Nat.le_refl _, by simp⟩⟩
          clear hE hd hw
          go_simp
        · intro ev wv hE hw hd
          refine ifw rfl (ifn rfl ?_)
          refine rel_val (u := .pointer (some ⟨wv.heap.size, 0, none⟩)) (w' := wv.alloc (.cells #[.bool false, .slice none 0 0] 52)) ?_ ((Below.refl _ _).alloc (Nat.le_refl _) _) ⟨⟨_, rfl, Blk.new _ _ _, hw.h⟩, fun _ => ⟨_, rfl, Nat.le_refl _, by simp⟩⟩
          clear hE hd hw
          go_simp
        · intro w3 M3
          intro v0 h0 _ v1 h1 _ v2 h2 _ v3 h3 _ v4 h4 _ v5 h5 _ v6 h6 n6 v7 h7 n7
          simp only [Act.put, List.setIfInBounds_toArray, List.set_cons_zero, List.set_cons_succ, List.drop_succ_cons, List.drop_zero]
          obtain rfl : v0 = _ := h0
          obtain ⟨yA1, yk1, yc1, rfl, yR1⟩ : VN (false) (10) v1 w3 := h1
          clear h2
          clear h3
          obtain ⟨yA4, yk4, yc4, rfl, yR4⟩ : VN (false) (M / 10 ^ j / 10) v4 w3 := h4
          obtain ⟨yA5, yk5, yc5, rfl, yR5⟩ : VN (false) (M / 10 ^ j % 10) v5 w3 := h5
          obtain ⟨yg6, rfl, yB6, yl6⟩ : VA (wr.heap.size) #[.bool false, .slice none 0 0] v6 w3 := h6
          obtain ⟨yg7, rfl, yB7, yl7⟩ : VA (wr.heap.size) #[.bool false, .slice none 0 0] v7 w3 := h7
          change wpList Tryz.prog _ _ _ _ w3
          have n67 := ne_ptr (n7 rfl _ (List.mem_cons_self))
          have SF := (((M3.m.add yR4).add yR5).join2 S yB6 yB7 yl6 yl7 n67)
          have f0 := SF.c 3 0 rfl rfl; have f1 := SF.c 3 1 rfl rfl; have f2 := SF.f 3 0 rfl; have f3 := SF.f 3 1 rfl
          have f4 := SF.c 4 0 rfl rfl; have f5 := SF.c 4 1 rfl rfl; have f6 := SF.f 4 0 rfl; have f7 := SF.f 4 1 rfl
          have M4 := (SF.put2 3 rfl rfl (.bool false) (.slice yA4 yk4 yc4) rfl).put2 4 rfl rfl (.bool false) (.slice yA5 yk5 yc5) rfl
          have HKO := Lib.hid yR5.len
          clear SF yR1 yR4 yR5 M3 n6 n7 yB6 yB7 S y0 y1 y2 y3
          go_wp2_with fail
          refine calm_normal ?_
          generalize (((w3.setCell ⟨yg6, 0, none⟩ (.bool false)).setCell ⟨yg6, 1, none⟩ (.slice yA4 yk4 yc4)).setCell ⟨yg7, 0, none⟩ (.bool false)).setCell ⟨yg7, 1, none⟩ (.slice yA5 yk5 yc5) = w4 at *
          clear f0 f1 f2 f3 f4 f5 f6 f7
          have y1 := M4.c 0 1 rfl rfl
          have y4 := M4.c 4 0 rfl rfl; have y5 := M4.c 4 1 rfl rfl
          by_cases he : M / 10 ^ j % 10 = 0
          · have hk0 : yk5 = 0 := by have h1 := HKO.out; rw [he, digs_zero] at h1; exact h1.symm
            subst hk0
            obtain ⟨b, hb⟩ : ∃ b, dg (M / 10 ^ j) = b := ⟨_, rfl⟩
            have hcv := conv1 w4 (48) b (by rw [← hb, dg_toNat, he]; rfl)
            have HACC := Lib.hid (show ((⟨#[b]⟩ ++ Q) : ByteArray).data.toList = accT t M (j + 1) by
              rw [accT_high (show t < j by omega)]
              simp only [ba_append, HQ.out, hb]
              rfl)
            have HB2 := Lib.hid (show j + 1 ≤ t + 1 ∨ 0 < M / 10 ^ (j + 1 - 1) by rw [Nat.add_sub_cancel]; exact Or.inr HPOS.out)
            have M5 := M4.alloc (.cells #[.int .u8 (48)] 5)
            have z6 := M5.c 3 0 rfl rfl; have z7 := M5.c 3 1 rfl rfl
            have z10 := M5.f 2 0 rfl; have z11 := M5.f 2 1 rfl; have z8 := M5.c 2 0 rfl rfl; have z9 := M5.c 2 1 rfl rfl
            have M6 := M5.put2 2 rfl rfl (.bool false) (.slice yA4 yk4 yc4) rfl
            have HM7 := Lib.hid (((M6.take 3).only).add (M6.r 1 rfl))
            have HE10 := Lib.hid (show M / 10 ^ (j + 1) = M / 10 ^ j / 10 by rw [Nat.pow_succ, ← Nat.div_div_eq_div_mul])
            clear M4 M5 M6 hb he HKO
            go_wp2_with fail
            exact ⟨⟨j + 1, _, _, _, (⟨#[b]⟩ ++ Q), rfl, val_int (by omega), by omega, HACC, HB2, by rw [HE10.out]; exact HM7.out⟩, by simp [intOf]; omega⟩
          · skip
            obtain ⟨ee, hee⟩ : ∃ ee, M / 10 ^ j % 10 = ee := ⟨_, rfl⟩
            have he9 : ee ≤ 9 := by omega
            have hdg : digs ee = [ee] := by rw [digs_pos (by omega), Nat.mod_eq_of_lt (by omega), show ee / 1000 = 0 by omega, digs_zero]
            have hR5 := M4.r 2 rfl
            have hk1 : yk5 = 1 := by have h1 := HKO.out; rw [hee, hdg] at h1; exact h1.symm
            subst hk1
            obtain ⟨ga, oa, x, hA, hxk, _, hxc⟩ := hR5.get (digs_lt _) (k := 0) (by omega)
            have hxe : x = ee := by rw [hee, hdg] at hxk; simpa using hxk.symm
            subst hA
            rw [hxe] at hxc
            have y12 : w4.cell? ⟨ga, oa, none⟩ = some (.int .i64 (ee : Int)) := by have := hxc _ (Below.refl _ _); simpa using this
            have hw8 : IntKind.u8.wrap (ee : Int) = (ee : Int) := by rw [IntKind.wrap_u8]; omega
            have hw9 : IntKind.u8.wrap (48 + (ee : Int)) = 48 + (ee : Int) := by rw [IntKind.wrap_u8]; omega
            clear hxk hxc hR5
            obtain ⟨b, hb⟩ : ∃ b, dg (M / 10 ^ j) = b := ⟨_, rfl⟩
            have hcv := conv1 w4 (48 + (ee : Int)) b (by rw [← hb, dg_toNat, hee]; omega)
            have HACC := Lib.hid (show ((⟨#[b]⟩ ++ Q) : ByteArray).data.toList = accT t M (j + 1) by
              rw [accT_high (show t < j by omega)]
              simp only [ba_append, HQ.out, hb]
              rfl)
            have HB2 := Lib.hid (show j + 1 ≤ t + 1 ∨ 0 < M / 10 ^ (j + 1 - 1) by rw [Nat.add_sub_cancel]; exact Or.inr HPOS.out)
            have M5 := M4.alloc (.cells #[.int .u8 (48 + (ee : Int))] 5)
            have z6 := M5.c 3 0 rfl rfl; have z7 := M5.c 3 1 rfl rfl
            have z10 := M5.f 2 0 rfl; have z11 := M5.f 2 1 rfl; have z8 := M5.c 2 0 rfl rfl; have z9 := M5.c 2 1 rfl rfl
            have M6 := M5.put2 2 rfl rfl (.bool false) (.slice yA4 yk4 yc4) rfl
            have HM7 := Lib.hid (((M6.take 3).only).add (M6.r 1 rfl))
            have HE10 := Lib.hid (show M / 10 ^ (j + 1) = M / 10 ^ j / 10 by rw [Nat.pow_succ, ← Nat.div_div_eq_div_mul])
            clear M4 M5 M6 hb he HKO
            go_wp2_with fail
            exact ⟨⟨j + 1, _, _, _, (⟨#[b]⟩ ++ Q), rfl, val_int (by omega), by omega, HACC, HB2, by rw [HE10.out]; exact HM7.out⟩, by simp [intOf]; omega⟩
      · have hn00 : n = 0 := by omega
        have HZ := Lib.hid (show M / 10 ^ j = 0 from Nat.eq_zero_of_not_pos fun e => by have := HN.out; rw [digs_pos e] at this; simp at this; omega)
        have HE := Lib.hid (accT_end HM.out (show t < j by omega) HZ.out HB.out)
        subst hn00
        have y6 := S.c 1 0 rfl rfl
        have HS := Lib.hid S.bl
        cases nb with
        | true =>
          have hc0 := Lib.hid (show decide (c < 0) = true from HNB.out)
          have HR := Lib.hid (show (⟨#[45]⟩ ++ Q : ByteArray) = ⟨(txt c t).toArray⟩ by
            refine ba_eq ?_
            rw [ba_append, HQ.out, ← HE.out, hc0.out]; rfl)
          clear S
          go_wp2_with fail
          go_ret
          exact ⟨congrArg (fun x => Ending.returned (.string x)) HR.out, HS.out⟩
        | false =>
          have hc0 := Lib.hid (show decide (c < 0) = false from HNB.out)
          have HR := Lib.hid (show Q = ⟨(txt c t).toArray⟩ by
            refine ba_eq ?_
            rw [HQ.out, ← HE.out, hc0.out]; rfl)
          clear S
          go_wp2_with fail
          go_ret
          exact ⟨congrArg (fun x => Ending.returned (.string x)) HR.out, HS.out⟩
end Go.Proofs.YtgojfonnikgboaaGreatDoor

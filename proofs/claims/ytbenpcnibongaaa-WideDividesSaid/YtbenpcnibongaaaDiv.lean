/- WideDivides, where the divisor is above 0. (Written by wip/gen/gendiv.py.) -/
import Derived.Test.YtbenpcnibongaaaRef16
import Derived.Test.YtbenpcnibongaaaTen
namespace Go.Proofs.Ytbenpcnibongaaa
open Go.RowKit Corr
set_option linter.unusedVariables false
/-- Floor is the quotient towards below. -/
theorem floor_is (s : Bool) (n d : Nat) (h0 : 0 < d) : val s (floorN s n d) = val s n / (d : Int) := by
  obtain ⟨h1, h2⟩ := floor_facts s n d h0
  have h3 := Int.emod_nonneg (val s n) (show (d : Int) ≠ 0 by omega)
  have h4 := Int.emod_lt_of_pos (val s n) (show (0 : Int) < d by omega)
  have h5 := Int.mul_ediv_add_emod (val s n) d
  generalize val s n / (d : Int) = q at *
  generalize val s n % (d : Int) = r at *
  generalize val s (floorN s n d) = f at *
  have h6 : (d : Int) * (f - q) < d := by rw [Int.mul_sub, Int.mul_comm (d : Int) f]; omega
  have h7 : -(d : Int) < (d : Int) * (f - q) := by rw [Int.mul_sub, Int.mul_comm (d : Int) f]; omega
  have h8 : f - q < 1 := by
    rcases Int.lt_or_le (f - q) 1 with h | h
    · exact h
    · have : (d : Int) * 1 ≤ (d : Int) * (f - q) := Int.mul_le_mul_of_nonneg_left h (by omega)
      omega
  have h9 : -1 < f - q := by
    rcases Int.lt_or_le (-1) (f - q) with h | h
    · exact h
    · have : (d : Int) * (f - q) ≤ (d : Int) * (-1) := Int.mul_le_mul_of_nonneg_left h (by omega)
      omega
  omega
theorem neg_div (m d r : Nat) (h0 : 0 < r) (hr : r < d) : (-((m * d + r : Nat) : Int)) / (d : Int) = -(m : Int) - 1 ∧ (-((m * d + r : Nat) : Int)) % (d : Int) = (d : Int) - r := by
  exact down_neg1 (a := m * d + r) (q := m) (b := d) (r := r) rfl hr h0
/-- Even is the nearest one. -/
theorem even_is (s : Bool) (n d r : Nat) (Q : Int) (h0 : 0 < d) (hQ : val s n / (d : Int) = Q) (hr : val s n % (d : Int) = r) :
    val s (evenN n d) = if d < r + r ∨ (r + r = d ∧ Q % 2 = 1) then Q + 1 else Q := by
  have hq := quo_rem n d
  have hlt : remN n d < d := rem_lt h0
  unfold evenN
  generalize hm : quoN n d = m at *
  generalize hk : remN n d = k at *
  have hup : (upE m k d = true) ↔ (d < k + k ∨ (k + k = d ∧ m % 2 = 1)) := by
    simp only [upE, Bool.or_eq_true, Bool.and_eq_true, decide_eq_true_eq]
    omega
  cases s
  · have e1 : Q = (m : Int) := by
      rw [← hQ]; exact (down_pos (a := n) (q := m) (b := d) (r := k) hq.symm hlt).1
    have e2 : (r : Int) = (k : Int) := by
      rw [← hr]; exact (down_pos (a := n) (q := m) (b := d) (r := k) hq.symm hlt).2
    have e2 : r = k := by omega
    subst e2 e1
    by_cases h : upE m r d = true
    · rw [if_pos h, if_pos (by have := hup.1 h; omega)]; simp [val]
    · rw [if_neg h, if_neg (fun h' => h (hup.2 (by omega)))]; simp [val]
  · by_cases hk0 : k = 0
    · subst hk0
      have hq' : n = m * d := by omega
      have e1 : Q = -(m : Int) := by rw [← hQ]; exact (down_neg0 (a := n) (q := m) (b := d) hq' h0).1
      have e2 : (r : Int) = 0 := by rw [← hr]; exact (down_neg0 (a := n) (q := m) (b := d) hq' h0).2
      have e2 : r = 0 := by omega
      subst e2 e1
      rw [if_neg (fun h => by have := hup.1 h; omega), if_neg (by omega)]; simp [val]
    · have e1 : Q = -(m : Int) - 1 := by rw [← hQ]; exact (down_neg1 (a := n) (q := m) (b := d) (r := k) hq.symm hlt (by omega)).1
      have e2 : (r : Int) = (d : Int) - k := by rw [← hr]; exact (down_neg1 (a := n) (q := m) (b := d) (r := k) hq.symm hlt (by omega)).2
      subst e1
      by_cases h : upE m k d = true
      · rw [if_pos h, if_neg (by have := hup.1 h; omega)]; simp [val]; omega
      · rw [if_neg h, if_pos (by
          have h' : ¬ (d < k + k ∨ (k + k = d ∧ m % 2 = 1)) := fun h' => h (hup.2 h')
          omega)]; simp [val]
theorem neven_w (s bu b2 : Bool) (A B : Option Addr) (n m ca cb au N d : Nat) (z2 : Int) (w : World) (hx : Row w A n ca (digs au)) (hy : Row w B m cb (digs d)) (hn : n ≤ 1000) (hm : m ≤ 1000) (h0 : 0 < d) (hu : val bu au = val s N) (hz : val s (evenN N d) = z2) (hb : negB z2 = b2) :
    Calls Try.prog 30 #[.agg #[.bool bu, .slice A n ca], .agg #[.bool false, .slice B m cb]] w (RetN w b2 (digs z2.natAbs)) := by
  obtain ⟨r, hr⟩ : ∃ r : Nat, val bu au % (d : Int) = r := ⟨(val bu au % (d : Int)).toNat, by have := Int.emod_nonneg (val bu au) (show (d : Int) ≠ 0 by omega); omega⟩
  have he := even_is s N d r (val bu au / (d : Int)) h0 (by rw [hu]) (by rw [← hu]; exact hr)
  rw [hz] at he
  subst hb
  by_cases h : d < r + r ∨ (r + r = d ∧ (val bu au / (d : Int)) % 2 = 1)
  · rw [if_pos h] at he
    rw [he]
    exact neven_up bu A B n m ca cb au d w hx hy hn hm h0 _ r rfl hr h
  · rw [if_neg h] at he
    rw [he]
    exact neven_no bu A B n m ca cb au d w hx hy hn hm h0 _ r rfl hr h
theorem div_w (s b1 : Bool) (h l d r h1 l1 : Nat) (z : Int) (w : World) (hh : h < B64) (hl : l < B64) (hd : d < B64) (h0 : 0 < d) (hz : val s (quoN (nat2 h l) d) = z) (hr : remN (nat2 h l) d = r) (e1 : negB z = b1) (e2 : hiW z.natAbs = h1) (e3 : loW z.natAbs = l1) :
    Calls Try.prog 24 #[WV s h l, .int .u64 d] w fun e w' => e = .returned (.tuple #[WV b1 h1 l1, .int .u64 r, .int .i64 0]) ∧ Below w.heap.size w w' := by
  subst e1 e2 e3; exact div_z s h l d r z w hh hl hd h0 hz hr
theorem even_w (s b1 : Bool) (h l d h1 l1 : Nat) (z : Int) (w : World) (hh : h < B64) (hl : l < B64) (hd : d < B64) (h0 : 0 < d) (hz : val s (evenN (nat2 h l) d) = z) (e1 : negB z = b1) (e2 : hiW z.natAbs = h1) (e3 : loW z.natAbs = l1) :
    Calls Try.prog 25 #[WV s h l, .int .u64 d] w fun e w' => e = .returned (.tuple #[WV b1 h1 l1, .int .i64 0]) ∧ Below w.heap.size w w' := by
  subst e1 e2 e3; exact even_z s h l d z w hh hl hd h0 hz
theorem floor_w (s b1 : Bool) (h l d h1 l1 : Nat) (z : Int) (w : World) (hh : h < B64) (hl : l < B64) (hd : d < B64) (h0 : 0 < d) (hz : val s (floorN s (nat2 h l) d) = z) (e1 : negB z = b1) (e2 : hiW z.natAbs = h1) (e3 : loW z.natAbs = l1) :
    Calls Try.prog 26 #[WV s h l, .int .u64 d] w fun e w' => e = .returned (.tuple #[WV b1 h1 l1, .int .i64 0]) ∧ Below w.heap.size w w' := by
  subst e1 e2 e3; exact floor_z s h l d z w hh hl hd h0 hz

/-- 10 to the power n, 0 outside of 0 to 19. -/
def tenB (n : Int) : Bool := decide (0 ≤ n ∧ n ≤ 19)
def tenN (n : Int) : Nat := if 0 ≤ n ∧ n ≤ 19 then 10 ^ n.toNat else 0

theorem wten_any (nn : Int) (w : World) : Calls Try.prog 28 #[.int .i64 nn] w fun e w' => e = .returned (.int .u64 (tenN nn : Int)) ∧ w = w' := by
  unfold tenN
  by_cases h : 0 ≤ nn ∧ nn ≤ 19
  · rw [if_pos h]
    obtain ⟨k, rfl⟩ : ∃ k : Nat, nn = (k : Int) := ⟨nn.toNat, by omega⟩
    exact ten_ok k w (by omega)
  · rw [if_neg h]
    exact ten_no nn w (by omega)

set_option maxRecDepth 100000 in
set_option maxHeartbeats 8000000 in
theorem divides_pos (s b1 b2 b3 : Bool) (h l d r h1 l1 h2 l2 h3 l3 : Nat) (nn z1 z2 z3 : Int) (w : World) (hh : h < B64) (hl : l < B64) (hd : d < B64) (h0 : 0 < d)
    (n0 : -9223372036854775808 ≤ nn) (n1 : nn ≤ 9223372036854775807)
    (hz1 : val s (quoN (nat2 h l) d) = z1) (hr : remN (nat2 h l) d = r) (ea : negB z1 = b1) (eb : hiW z1.natAbs = h1) (ec : loW z1.natAbs = l1)
    (hz2 : val s (evenN (nat2 h l) d) = z2) (ed : negB z2 = b2) (ee : hiW z2.natAbs = h2) (ef : loW z2.natAbs = l2)
    (hz3 : val s (floorN s (nat2 h l) d) = z3) (eg : negB z3 = b3) (eh : hiW z3.natAbs = h3) (ei : loW z3.natAbs = l3) :
    Calls Try.prog 4 #[WV s h l, .int .u64 d, .int .i64 nn] w fun e w' => e = .returned (.bool true) ∧ Below w.heap.size w w' := by
  have HD1 := Lib.hid (fun w => div_w s b1 h l d r h1 l1 z1 w hh hl hd h0 hz1 hr ea eb ec)
  have HD2 := Lib.hid (fun w => even_w s b2 h l d h2 l2 z2 w hh hl hd h0 hz2 ed ee ef)
  have HD3 := Lib.hid (fun w => floor_w s b3 h l d h3 l3 z3 w hh hl hd h0 hz3 eg eh ei)
  have HT1 := Lib.hid (And.intro hz1 (And.intro ea (And.intro eb (And.intro ec hr))))
  have HT2 := Lib.hid (And.intro hz2 (And.intro ed (And.intro ee ef)))
  have HT3 := Lib.hid (And.intro hz3 (And.intro eg (And.intro eh ei)))
  clear hz1 hr ea eb ec hz2 ed ee ef hz3 eg eh ei
  have S0 := (Mem.start w).push #[.bool s, .int .u64 (h : Int), .int .u64 (l : Int)] 24
  have d0 : ((d : Int) == 0) = false := by rw [beq_eq_false_iff_ne]; omega
  go_enter Try.func4, Try.ntmps4
  go_wp2_with fail
  refine (HD1.out _).mono ?_
  rintro e w1 ⟨rfl, hb⟩
  have S1 := (S0.keep hb).push #[.bool b1, .int .u64 (h1 : Int), .int .u64 (l1 : Int)] 24
  clear S0 hb
  have x0 := S1.c 0 0 rfl rfl; have x1 := S1.c 0 1 rfl rfl; have x2 := S1.c 0 2 rfl rfl
  go_wp2_with fail
  refine (HD2.out _).mono ?_
  rintro e w2 ⟨rfl, hb⟩
  have S2 := (S1.keep hb).push #[.bool b2, .int .u64 (h2 : Int), .int .u64 (l2 : Int)] 24
  clear S1 hb x0 x1 x2
  have x0 := S2.c 0 0 rfl rfl; have x1 := S2.c 0 1 rfl rfl; have x2 := S2.c 0 2 rfl rfl
  go_wp2_with fail
  refine (HD3.out _).mono ?_
  rintro e w3 ⟨rfl, hb⟩
  have S3 := (S2.keep hb).push #[.bool b3, .int .u64 (h3 : Int), .int .u64 (l3 : Int)] 24
  clear S2 hb x0 x1 x2
  go_upto_region 5 with fail
  go_cut [48] (fun t wx => t = .bool (tenB nn) ∧ Mem w wx [(w.heap.size, #[.bool s, .int .u64 (h : Int), .int .u64 (l : Int)]), (w1.heap.size, #[.bool b1, .int .u64 (h1 : Int), .int .u64 (l1 : Int)]), (w2.heap.size, #[.bool b2, .int .u64 (h2 : Int), .int .u64 (l2 : Int)]), (w3.heap.size, #[.bool b3, .int .u64 (h3 : Int), .int .u64 (l3 : Int)])] [])
  case first =>
    by_cases g0 : 0 ≤ nn
    · by_cases g1 : nn ≤ 19
      · have HT := Lib.hid (show tenB nn = true by simp [tenB, g0, g1])
        go_wp2_with fail
        go_meet
        case rel => exact ⟨by rw [HT.out], S3⟩
      · have HT := Lib.hid (show tenB nn = false by simp [tenB, g1])
        go_wp2_with fail
        go_meet
        case rel => exact ⟨by rw [HT.out], S3⟩
    · have HT := Lib.hid (show tenB nn = false by simp [tenB, g0])
      have g2 : nn < 0 := by omega
      go_wp2_with fail
      go_meet
      case rel => exact ⟨by rw [HT.out], S3⟩
  case rest =>
  obtain ⟨rfl, S4⟩ := hcut
  clear S3
  generalize hbt : tenB nn = bt
  have HBT := Lib.hid hbt
  clear hbt
  go_upto_if 48 with fail
  go_cut [14] (fun t wx => t = .int .u64 (tenN nn : Int) ∧ Mem w wx [(w.heap.size, #[.bool s, .int .u64 (h : Int), .int .u64 (l : Int)]), (w1.heap.size, #[.bool b1, .int .u64 (h1 : Int), .int .u64 (l1 : Int)]), (w2.heap.size, #[.bool b2, .int .u64 (h2 : Int), .int .u64 (l2 : Int)]), (w3.heap.size, #[.bool b3, .int .u64 (h3 : Int), .int .u64 (l3 : Int)])] [])
  case first =>
    cases bt with
    | true =>
      have HN := Lib.hid (show 0 ≤ nn ∧ nn ≤ 19 by have := HBT.out; simpa [tenB] using this)
      obtain ⟨k, rfl⟩ : ∃ k : Nat, nn = (k : Int) := ⟨nn.toNat, by have := HN.out.1; omega⟩
      have hk : k ≤ 19 := by have := HN.out.2; omega
      have HT := Lib.hid (show tenN (k : Int) = 10 ^ k by unfold tenN; rw [if_pos HN.out]; simp)
      have HP := Lib.hid (show 10 ^ k < B64 from Nat.lt_of_le_of_lt (Nat.pow_le_pow_right (by omega) hk) (by decide))
      have HH := Lib.hid (hiW_small HP.out)
      have HL := Lib.hid (loW_small HP.out)
      clear n0 n1
      go_wp2_with fail
      refine (nten_any _ _ (by omega)).mono ?_
      rintro e w4 ⟨A4, k4, c4, rfl, R4, hb4⟩
      have S5 := (S4.keep hb4).add R4
      have HK := Lib.hid (row_le (k := 7) R4 (Nat.lt_trans HP.out (by decide)))
      clear S4 hb4 R4
      go_wp2_with fail
      refine (nas_any _ _ _ _ _ _ (S5.r 0 rfl) (by have := HK.out; omega)).mono ?_
      rintro e w5 ⟨⟨_, rfl⟩ | ⟨hno, _⟩, hb5⟩
      · rw [HH.out, HL.out]
        have S6 := (S5.keep hb5).push #[.bool false, .int .u64 (0 : Nat), .int .u64 ((10 ^ k : Nat) : Int)] 24
        have S7 := (S6.take 4).only
        have x2 := S6.c 4 2 rfl rfl
        clear S5 hb5 S6
        go_wp2_with fail
        go_meet
        case rel => exact ⟨by rw [HT.out]; exact val_int (by simp), S7⟩
      · exact absurd (Nat.lt_trans HP.out (by decide)) hno
    | false =>
      have HT := Lib.hid (show tenN nn = 0 by
        unfold tenN
        rw [if_neg (by have := HBT.out; simpa [tenB] using this)])
      go_wp2_with fail
      go_meet
      case rel => exact ⟨by rw [HT.out]; rfl, S4⟩
  case rest =>
    obtain ⟨rfl, S5⟩ := hcut
    clear S4 HBT
    obtain ⟨zx, hzx⟩ : ∃ zx, val s (nat2 h l) = zx := ⟨_, rfl⟩
    obtain ⟨N, hN⟩ : ∃ N, nat2 h l = N := ⟨_, rfl⟩
    have hNB : N < B128 := by rw [← hN]; exact nat2_lt hh hl
    have HNB := Lib.hid hNB
    obtain ⟨bu, hbu⟩ : ∃ bu, negB zx = bu := ⟨_, rfl⟩
    obtain ⟨au, hau⟩ : ∃ au, zx.natAbs = au := ⟨_, rfl⟩
    have HU := Lib.hid (show val bu au = val s N by rw [← hbu, ← hau, val_neg, ← hzx, hN])
    have HUA := Lib.hid (show au < B128 by rw [← hau, ← hzx, hN, natAbs_val]; exact hNB)
    have HW1 := Lib.hid (fun w => nwide_any s h l zx w hh hl hzx)
    rw [hbu, hau] at HW1
    have HW2 := Lib.hid (fun w => nwide_any false h l (N : Int) w hh hl (by rw [hN]; rfl))
    rw [negB_nat, Int.natAbs_natCast] at HW2
    rw [hN] at HT1 HT2 HT3
    have HZ1 := Lib.hid (show z1.natAbs = N / d by rw [← HT1.out.1, natAbs_val]; rfl)
    have HQ1 := Lib.hid (show z1.natAbs < B128 ∧ hiW z1.natAbs = h1 ∧ loW z1.natAbs = l1 from ⟨by rw [HZ1.out]; exact Nat.lt_of_le_of_lt (Nat.div_le_self _ _) hNB, HT1.out.2.2.1, HT1.out.2.2.2.1⟩)
    have HQ2 := Lib.hid (show z2.natAbs < B128 ∧ hiW z2.natAbs = h2 ∧ loW z2.natAbs = l2 from ⟨by rw [← HT2.out.1]; exact even_fit s hNB h0, HT2.out.2.2.1, HT2.out.2.2.2⟩)
    have HQ3 := Lib.hid (show z3.natAbs < B128 ∧ hiW z3.natAbs = h3 ∧ loW z3.natAbs = l3 from ⟨by rw [← HT3.out.1]; exact floor_fit s hNB h0, HT3.out.2.2.1, HT3.out.2.2.2⟩)
    have HZ2 := Lib.hid (And.intro HT2.out.1 HT2.out.2.1)
    have HZB3 := Lib.hid (show b3 = negB z3 from HT3.out.2.1.symm)
    have HZ3 := Lib.hid (show val bu au / (d : Int) = z3 by rw [HU.out, ← floor_is s N d h0]; exact HT3.out.1)
    have HR := Lib.hid (show N % d = r from HT1.out.2.2.2.2)
    have HRB := Lib.hid (show r < B64 from Nat.lt_trans (by rw [← HR.out]; exact Nat.mod_lt _ h0) hd)
    have HN1 := Lib.hid (show bu = true → b1 = negB (-((N / d : Nat) : Int)) ∧ -((N / d : Nat) : Int) = z1 by
      intro h
      have hs : s = true := by
        cases s
        · rw [← hbu, ← hzx, hN] at h; rw [show val false N = (N : Int) from rfl, negB_nat] at h; cases h
        · rfl
      have h2 : -((N / d : Nat) : Int) = z1 := by rw [← HT1.out.1, hs]; rfl
      exact ⟨by rw [h2]; exact HT1.out.2.1.symm, h2⟩)
    have HN2 := Lib.hid (show bu = false → b1 = false by
      intro h
      rw [← HT1.out.2.1, ← HT1.out.1]
      cases s
      · exact negB_nat _
      · have h3 : N = 0 := by
          rw [← hbu, ← hzx, hN] at h
          rw [negB_val] at h
          simpa using h
        rw [h3]
        show negB (val true (0 / d)) = false
        rw [Nat.zero_div]; rfl)
    clear hzx hN hbu hau hNB HT1 HT2 HT3 HD1 HD2 HD3
    have x0 := S5.c 0 0 rfl rfl; have x1 := S5.c 0 1 rfl rfl; have x2 := S5.c 0 2 rfl rfl
    go_wp2_with fail
    refine (wten_any _ _).mono ?_
    rintro e w5 ⟨rfl, rfl⟩
    go_wp2_with fail
    refine (HW1.out _).mono ?_
    rintro e w5 ⟨Au, ku, cu, rfl, Ru, hb⟩
    have S6 := (S5.keep hb).add Ru
    have hku := row_le (k := 14) Ru (Nat.lt_trans HUA.out (by decide))
    clear S5 hb Ru x0 x1 x2
    go_wp2_with fail
    refine (word_any d _ hd).mono ?_
    rintro e w6 ⟨Av, kv, cv, rfl, Rv, hb⟩
    have S7 := (((S6.keep hb).add Rv).push #[.bool bu, .slice Au ku cu] 27).push #[.bool false, .slice Av kv cv] 27
    simp only [size_alloc] at S7
    have hkv := row_le (k := 7) Rv (Nat.lt_trans hd (by decide))
    clear S6 hb Rv
    have x1 := S7.c 0 1 rfl rfl; have x2 := S7.c 0 2 rfl rfl
    go_wp2_with fail
    refine (HW2.out _).mono ?_
    rintro e w7 ⟨As, ks, cs, rfl, Rs, hb⟩
    have S8 := ((S7.keep hb).add Rs).push #[.bool false, .slice As ks cs] 27
    have hks := row_le (k := 14) Rs (Nat.lt_trans HNB.out (by decide))
    clear S7 hb Rs x1 x2
    have y0 := S8.c 6 0 rfl rfl; have y1 := S8.c 6 1 rfl rfl; have v0 := S8.c 5 0 rfl rfl; have v1 := S8.c 5 1 rfl rfl
    go_wp2_with fail
    refine (ndown_nat _ _ _ _ _ _ _ _ _ (S8.r 2 rfl) (S8.r 1 rfl) (by omega) (by omega) h0).mono ?_
    rintro e w8 ⟨Ad, kd, cd, Al, kl, cl, rfl, Rd, Rl, hb⟩
    rw [HR.out] at Rl
    have S9 := ((((S8.keep hb).add Rd).add Rl).push #[.bool false, .slice Ad kd cd] 27).push #[.bool false, .slice Al kl cl] 27
    simp only [size_alloc] at S9
    have hkd := row_le (k := 14) Rd (by rw [← HZ1.out]; exact Nat.lt_trans HQ1.out.1 (by decide))
    have hkl := row_le (k := 7) Rl (Nat.lt_trans HRB.out (by decide))
    clear S8 hb Rd Rl y0 y1 v0 v1
    have u0 := S9.c 4 0 rfl rfl
    go_upto_if 114 with fail
    go_cut [] (fun wx => ∃ (Ad : Option Addr) (kd cd : Nat), kd ≤ 14 ∧ Mem w wx [(w.heap.size, #[.bool s, .int .u64 (h : Int), .int .u64 (l : Int)]), (w1.heap.size, #[.bool b1, .int .u64 (h1 : Int), .int .u64 (l1 : Int)]), (w2.heap.size, #[.bool b2, .int .u64 (h2 : Int), .int .u64 (l2 : Int)]), (w3.heap.size, #[.bool b3, .int .u64 (h3 : Int), .int .u64 (l3 : Int)]), (w6.heap.size, #[.bool bu, .slice Au ku cu]), (w6.heap.size + 1, #[.bool false, .slice Av kv cv]), (w7.heap.size, #[.bool false, .slice As ks cs]), (w8.heap.size, #[.bool b1, .slice Ad kd cd]), (w8.heap.size + 1, #[.bool false, .slice Al kl cl])] [(Au, ku, cu, digs au), (Av, kv, cv, digs d), (As, ks, cs, digs N), (Ad, kd, cd, digs z1.natAbs), (Al, kl, cl, digs r)])
    case first =>
      cases bu with
      | true =>
        have HNA := Lib.hid (HN1.out rfl)
        have y0 := S9.c 7 0 rfl rfl; have y1 := S9.c 7 1 rfl rfl
        go_wp2_with fail
        refine (nneg_any _ _ _ _ _ ((N / d : Nat) : Int) _ (S9.r 3 rfl) (by omega) rfl).mono ?_
        rintro e w9 ⟨Ae, ke, ce, rfl, Re, hb⟩
        rw [← HNA.out.1]
        rw [HNA.out.2] at Re
        have S10 := (((S9.keep hb).rtake 3).add Re).add ((S9.keep hb).r 4 rfl)
        have hke := row_le (k := 14) Re (Nat.lt_trans HQ1.out.1 (by decide))
        have z0 := S10.c 7 0 rfl rfl; have z1 := S10.c 7 1 rfl rfl; have z2 := S10.f 7 0 rfl; have z3 := S10.f 7 1 rfl
        have HF := Lib.hid (S10.put2 7 rfl rfl (.bool b1) (.slice Ae ke ce) rfl)
        clear S9 S10 hb Re y0 y1 u0
        go_wp2_with fail
        go_meet
        case rel => exact ⟨Ae, ke, ce, hke, HF.out⟩
      | false =>
        have h1 := HN2.out rfl
        subst h1
        have h2 := HZ1.out
        rw [← h2] at S9
        clear h2
        go_wp2_with fail
        go_meet
        case rel => exact ⟨Ad, kd, cd, hkd, S9⟩
    case rest =>
    clear S9 u0 hkd
    obtain ⟨Ad, kd, cd, hkd, S10⟩ := hcut
    have u0 := S10.c 4 0 rfl rfl; have u1 := S10.c 4 1 rfl rfl; have v0 := S10.c 5 0 rfl rfl; have v1 := S10.c 5 1 rfl rfl
    go_wp2_with fail
    refine (ndown_any _ _ _ _ _ _ _ _ _ _ (S10.r 0 rfl) (S10.r 1 rfl) (by omega) (by omega) h0).mono ?_
    rintro e w10 ⟨Ao, ko, co, Ap, kp, cp, rfl, Ro, Rp, hb⟩
    rw [HZ3.out] at Ro ⊢
    rw [← HZB3.out]
    generalize negB (val bu au % (d : Int)) = bp
    have S11 := (((S10.keep hb).add Ro).push #[.bool b3, .slice Ao ko co] 27).push #[.bool bp, .slice Ap kp cp] 27
    simp only [size_alloc] at S11
    have hko := row_le (k := 14) Ro (Nat.lt_trans HQ3.out.1 (by decide))
    clear S10 hb Ro Rp u0 u1 v0 v1
    go_upto_region 18 with fail
    generalize (w10.alloc (.cells #[.bool b3, .slice Ao ko co] 27)).alloc (.cells #[.bool bp, .slice Ap kp cp] 27) = w11 at *
    refine wp_region_rel 33 (MemAt w w11.heap.size [(w.heap.size, #[.bool s, .int .u64 (h : Int), .int .u64 (l : Int)]), (w1.heap.size, #[.bool b1, .int .u64 (h1 : Int), .int .u64 (l1 : Int)]), (w2.heap.size, #[.bool b2, .int .u64 (h2 : Int), .int .u64 (l2 : Int)]), (w3.heap.size, #[.bool b3, .int .u64 (h3 : Int), .int .u64 (l3 : Int)]), (w6.heap.size, #[.bool bu, .slice Au ku cu]), (w6.heap.size + 1, #[.bool false, .slice Av kv cv]), (w7.heap.size, #[.bool false, .slice As ks cs]), (w8.heap.size, #[.bool b1, .slice Ad kd cd]), (w8.heap.size + 1, #[.bool false, .slice Al kl cl]), (w10.heap.size, #[.bool b3, .slice Ao ko co]), (w10.heap.size + 1, #[.bool bp, .slice Ap kp cp])] [(Au, ku, cu, digs au), (Av, kv, cv, digs d), (As, ks, cs, digs N), (Ad, kd, cd, digs z1.natAbs), (Al, kl, cl, digs r), (Ao, ko, co, digs z3.natAbs)])
      (fun i => List.getD [VE (.int .i64 0), VE (.bool true), VE (.bool true), VE (.agg #[.bool b1, .int .u64 (h1 : Int), .int .u64 (l1 : Int)]), VE (.int .i64 0), VE (.agg #[.bool b1, .slice Ad kd cd]), VE (.bool true), VE (.bool true), VE (.bool true), VE (.int .u64 (r : Int)), VN (false) (r), VE (.agg #[.bool false, .slice Al kl cl]), VE (.int .i64 0), VE (.bool true), VE (.bool true), VE (.bool true), VE (.agg #[.bool b2, .int .u64 (h2 : Int), .int .u64 (l2 : Int)]), VE (.int .i64 0), VE (.agg #[.bool bu, .slice Au ku cu]), VE (.agg #[.bool false, .slice Av kv cv]), VN (b2) (z2.natAbs), VE (.bool true), VE (.bool true), VE (.bool true), VE (.agg #[.bool b3, .int .u64 (h3 : Int), .int .u64 (l3 : Int)]), VE (.int .i64 0), VE (.agg #[.bool b3, .slice Ao ko co]), VE (.bool true), VE (.bool true), VE (.bool true), VE (.bool true), VE (.bool true), VE (.bool true)] i (fun _ _ => False)) [] [0, 1, 2, 4, 7, 8, 9, 13, 14, 15, 17, 22, 23, 25, 28, 29, 31, 32] (by kernel_rfl) (by kernel_rfl) S11.at (fun _ _ h hb => h.grow hb)
      (stays_all (stays_cons (stays_VE _) (stays_cons (stays_VE _) (stays_cons (stays_VE _) (stays_cons (stays_VE _) (stays_cons (stays_VE _) (stays_cons (stays_VE _) (stays_cons (stays_VE _) (stays_cons (stays_VE _) (stays_cons (stays_VE _) (stays_cons (stays_VE _) (stays_cons (stays_VN _ _) (stays_cons (stays_VE _) (stays_cons (stays_VE _) (stays_cons (stays_VE _) (stays_cons (stays_VE _) (stays_cons (stays_VE _) (stays_cons (stays_VE _) (stays_cons (stays_VE _) (stays_cons (stays_VE _) (stays_cons (stays_VE _) (stays_cons (stays_VN _ _) (stays_cons (stays_VE _) (stays_cons (stays_VE _) (stays_cons (stays_VE _) (stays_cons (stays_VE _) (stays_cons (stays_VE _) (stays_cons (stays_VE _) (stays_cons (stays_VE _) (stays_cons (stays_VE _) (stays_cons (stays_VE _) (stays_cons (stays_VE _) (stays_cons (stays_VE _) (stays_cons (stays_VE _) stays_nil)))))))))))))))))))))))))))))))))) ⟨?_, ?_, ?_, ?_, ?_, ?_, ?_, ?_, ?_, ?_, ?_, ?_, ?_, ?_, ?_, ?_, ?_, ?_, ?_, ?_, ?_, ?_, ?_, ?_, ?_, ?_, ?_, ?_, ?_, ?_, ?_, ?_, ?_, trivial⟩ ?_
    · intro ev wv hE hw hd
      refine ifw rfl (ifw rfl ?_)
      have v9 : ev (.tmp 9) = .int .i64 0 := hE.tmp 9 rfl
      refine ⟨.int .i64 0, fun w => ?_, rfl⟩
      have e1 := hE.const; have e2 := hE.func; clear hE hd hw
      go_simp
    · intro ev wv hE hw hd
      refine ifw rfl (ifw rfl ?_)
      have v123 : ev (.tmp 123) = .int .i64 0 := hd 0 (by decide)
      refine ⟨.bool true, fun w => ?_, rfl⟩
      have e1 := hE.const; have e2 := hE.func; clear hE hd hw
      go_simp
    · intro ev wv hE hw hd
      refine ifw rfl (ifw rfl ?_)
      have v124 : ev (.tmp 124) = .bool true := hd 1 (by decide)
      refine ⟨.bool true, fun w => ?_, rfl⟩
      have e1 := hE.const; have e2 := hE.func; clear hE hd hw
      go_simp
    · intro ev wv hE hw hd
      have vg : ev (.tmp 125) = .bool true := hd 2 (by decide)
      refine ifw (by show (yv (ev (.tmp 125)) == some true) = true; rw [vg]; rfl) (ifn rfl ?_)
      clear vg
      have v7 : ev (.tmp 7) = .pointer (some ⟨w1.heap.size, 0, none⟩) := hE.tmp 7 rfl
      have kx := hw.m.c 1 0 rfl rfl
      have ky := hw.m.c 1 1 rfl rfl
      have kz := hw.m.c 1 2 rfl rfl
      refine rel_val (u := .agg #[.bool b1, .int .u64 (h1 : Int), .int .u64 (l1 : Int)]) (w' := wv) ?_ (Below.refl _ _) ⟨rfl, fun h => by cases h⟩
      have e1 := hE.const; clear hE hd hw
      go_simp
    · intro ev wv hE hw hd
      have vg : ev (.tmp 125) = .bool true := hd 2 (by decide)
      refine ifw (by show (yv (ev (.tmp 125)) == some true) = true; rw [vg]; rfl) (ifw rfl ?_)
      clear vg
      have v9 : ev (.tmp 9) = .int .i64 0 := hE.tmp 9 rfl
      refine ⟨.int .i64 0, fun w => ?_, rfl⟩
      have e1 := hE.const; have e2 := hE.func; clear hE hd hw
      go_simp
    · intro ev wv hE hw hd
      have vg : ev (.tmp 125) = .bool true := hd 2 (by decide)
      refine ifw (by show (yv (ev (.tmp 125)) == some true) = true; rw [vg]; rfl) (ifn rfl ?_)
      clear vg
      have v20 : ev (.tmp 20) = .pointer (some ⟨w8.heap.size, 0, none⟩) := hE.tmp 20 rfl
      have kx := hw.m.c 7 0 rfl rfl
      have ky := hw.m.c 7 1 rfl rfl
      refine rel_val (u := .agg #[.bool b1, .slice Ad kd cd]) (w' := wv) ?_ (Below.refl _ _) ⟨rfl, fun h => by cases h⟩
      have e1 := hE.const; clear hE hd hw
      go_simp
    · intro ev wv hE hw hd
      have vg : ev (.tmp 125) = .bool true := hd 2 (by decide)
      refine ifw (by show (yv (ev (.tmp 125)) == some true) = true; rw [vg]; rfl) (ifn rfl ?_)
      clear vg
      have v126 : ev (.tmp 126) = .agg #[.bool b1, .int .u64 (h1 : Int), .int .u64 (l1 : Int)] := hd 3 (by decide)
      have v127 : ev (.tmp 127) = .int .i64 0 := hd 4 (by decide)
      have v128 : ev (.tmp 128) = .agg #[.bool b1, .slice Ad kd cd] := hd 5 (by decide)
      refine rel_call (f := 13) (args := #[.agg #[.bool b1, .int .u64 (h1 : Int), .int .u64 (l1 : Int)], .int .i64 0, .agg #[.bool b1, .slice Ad kd cd]]) ?_ (told_ok b1 _ _ _ z1.natAbs h1 l1 _ (hw.m.r 3 rfl) (by omega) HQ1.out.1 HQ1.out.2.1 HQ1.out.2.2) ?_
      · have e0 := hE.func; have e1 := hE.const; clear hE hd hw
        go_simp
      · rintro e w' ⟨rfl, hb⟩
        exact ⟨_, rfl, hb, rfl, fun h => by cases h⟩
    · intro ev wv hE hw hd
      refine ifw rfl (ifw rfl ?_)
      have v125 : ev (.tmp 125) = .bool true := hd 2 (by decide)
      have v129 : ev (.tmp 129) = .bool true := hd 6 (by decide)
      refine ⟨.bool true, fun w => ?_, rfl⟩
      have e1 := hE.const; have e2 := hE.func; clear hE hd hw
      go_simp
    · intro ev wv hE hw hd
      refine ifw rfl (ifw rfl ?_)
      have v130 : ev (.tmp 130) = .bool true := hd 7 (by decide)
      refine ⟨.bool true, fun w => ?_, rfl⟩
      have e1 := hE.const; have e2 := hE.func; clear hE hd hw
      go_simp
    · intro ev wv hE hw hd
      have vg : ev (.tmp 131) = .bool true := hd 8 (by decide)
      refine ifw (by show (yv (ev (.tmp 131)) == some true) = true; rw [vg]; rfl) (ifw rfl ?_)
      clear vg
      have v8 : ev (.tmp 8) = .int .u64 (r : Int) := hE.tmp 8 rfl
      refine ⟨.int .u64 (r : Int), fun w => ?_, rfl⟩
      have e1 := hE.const; have e2 := hE.func; clear hE hd hw
      go_simp
    · intro ev wv hE hw hd
      have vg : ev (.tmp 131) = .bool true := hd 8 (by decide)
      refine ifw (by show (yv (ev (.tmp 131)) == some true) = true; rw [vg]; rfl) (ifn rfl ?_)
      clear vg
      have v132 : ev (.tmp 132) = .int .u64 (r : Int) := hd 9 (by decide)
      refine rel_call (f := 14) (args := #[.int .u64 (r : Int)]) ?_ (word_any r _ HRB.out) ?_
      · have e0 := hE.func; have e1 := hE.const; clear hE hd hw
        go_simp
      · rintro e w' ⟨A, k, c, rfl, R, hb⟩
        exact ⟨_, rfl, hb, ⟨A, k, c, rfl, R⟩, fun h => by cases h⟩
    · intro ev wv hE hw hd
      have vg : ev (.tmp 131) = .bool true := hd 8 (by decide)
      refine ifw (by show (yv (ev (.tmp 131)) == some true) = true; rw [vg]; rfl) (ifn rfl ?_)
      clear vg
      have v21 : ev (.tmp 21) = .pointer (some ⟨w8.heap.size + 1, 0, none⟩) := hE.tmp 21 rfl
      have kx := hw.m.c 8 0 rfl rfl
      have ky := hw.m.c 8 1 rfl rfl
      refine rel_val (u := .agg #[.bool false, .slice Al kl cl]) (w' := wv) ?_ (Below.refl _ _) ⟨rfl, fun h => by cases h⟩
      have e1 := hE.const; clear hE hd hw
      go_simp
    · intro ev wv hE hw hd
      have vg : ev (.tmp 131) = .bool true := hd 8 (by decide)
      refine ifw (by show (yv (ev (.tmp 131)) == some true) = true; rw [vg]; rfl) (ifn rfl ?_)
      clear vg
      obtain ⟨xA10, xk10, xc10, v133, xR10⟩ : VN (false) (r) (ev (.tmp 133)) wv := hd 10 (by decide)
      have v134 : ev (.tmp 134) = .agg #[.bool false, .slice Al kl cl] := hd 11 (by decide)
      refine rel_call (f := 20) (args := #[.agg #[.bool (false), .slice xA10 xk10 xc10], .agg #[.bool false, .slice Al kl cl]]) ?_ (ncmp_nat _ _ _ _ _ _ r r _ xR10 (hw.m.r 4 rfl) (by have := row_le (k := 7) xR10 (Nat.lt_trans HRB.out (by decide)); omega) (by omega)) ?_
      · have e0 := hE.func; have e1 := hE.const; clear hE hd hw
        go_simp
      · rintro e w' ⟨rfl, hb⟩
        exact ⟨_, rfl, hb, (by rw [cmpI_eq rfl]; rfl), fun h => by cases h⟩
    · intro ev wv hE hw hd
      have vg : ev (.tmp 131) = .bool true := hd 8 (by decide)
      refine ifw (by show (yv (ev (.tmp 131)) == some true) = true; rw [vg]; rfl) (ifw rfl ?_)
      clear vg
      have v135 : ev (.tmp 135) = .int .i64 0 := hd 12 (by decide)
      refine ⟨.bool true, fun w => ?_, rfl⟩
      have e1 := hE.const; have e2 := hE.func; clear hE hd hw
      go_simp
    · intro ev wv hE hw hd
      refine ifw rfl (ifw rfl ?_)
      have v131 : ev (.tmp 131) = .bool true := hd 8 (by decide)
      have v136 : ev (.tmp 136) = .bool true := hd 13 (by decide)
      refine ⟨.bool true, fun w => ?_, rfl⟩
      have e1 := hE.const; have e2 := hE.func; clear hE hd hw
      go_simp
    · intro ev wv hE hw hd
      refine ifw rfl (ifw rfl ?_)
      have v137 : ev (.tmp 137) = .bool true := hd 14 (by decide)
      refine ⟨.bool true, fun w => ?_, rfl⟩
      have e1 := hE.const; have e2 := hE.func; clear hE hd hw
      go_simp
    · intro ev wv hE hw hd
      have vg : ev (.tmp 138) = .bool true := hd 15 (by decide)
      refine ifw (by show (yv (ev (.tmp 138)) == some true) = true; rw [vg]; rfl) (ifn rfl ?_)
      clear vg
      have v10 : ev (.tmp 10) = .pointer (some ⟨w2.heap.size, 0, none⟩) := hE.tmp 10 rfl
      have kx := hw.m.c 2 0 rfl rfl
      have ky := hw.m.c 2 1 rfl rfl
      have kz := hw.m.c 2 2 rfl rfl
      refine rel_val (u := .agg #[.bool b2, .int .u64 (h2 : Int), .int .u64 (l2 : Int)]) (w' := wv) ?_ (Below.refl _ _) ⟨rfl, fun h => by cases h⟩
      have e1 := hE.const; clear hE hd hw
      go_simp
    · intro ev wv hE hw hd
      have vg : ev (.tmp 138) = .bool true := hd 15 (by decide)
      refine ifw (by show (yv (ev (.tmp 138)) == some true) = true; rw [vg]; rfl) (ifw rfl ?_)
      clear vg
      have v11 : ev (.tmp 11) = .int .i64 0 := hE.tmp 11 rfl
      refine ⟨.int .i64 0, fun w => ?_, rfl⟩
      have e1 := hE.const; have e2 := hE.func; clear hE hd hw
      go_simp
    · intro ev wv hE hw hd
      have vg : ev (.tmp 138) = .bool true := hd 15 (by decide)
      refine ifw (by show (yv (ev (.tmp 138)) == some true) = true; rw [vg]; rfl) (ifn rfl ?_)
      clear vg
      have v17 : ev (.tmp 17) = .pointer (some ⟨w6.heap.size, 0, none⟩) := hE.tmp 17 rfl
      have kx := hw.m.c 4 0 rfl rfl
      have ky := hw.m.c 4 1 rfl rfl
      refine rel_val (u := .agg #[.bool bu, .slice Au ku cu]) (w' := wv) ?_ (Below.refl _ _) ⟨rfl, fun h => by cases h⟩
      have e1 := hE.const; clear hE hd hw
      go_simp
    · intro ev wv hE hw hd
      have vg : ev (.tmp 138) = .bool true := hd 15 (by decide)
      refine ifw (by show (yv (ev (.tmp 138)) == some true) = true; rw [vg]; rfl) (ifn rfl ?_)
      clear vg
      have v18 : ev (.tmp 18) = .pointer (some ⟨w6.heap.size + 1, 0, none⟩) := hE.tmp 18 rfl
      have kx := hw.m.c 5 0 rfl rfl
      have ky := hw.m.c 5 1 rfl rfl
      refine rel_val (u := .agg #[.bool false, .slice Av kv cv]) (w' := wv) ?_ (Below.refl _ _) ⟨rfl, fun h => by cases h⟩
      have e1 := hE.const; clear hE hd hw
      go_simp
    · intro ev wv hE hw hd
      have vg : ev (.tmp 138) = .bool true := hd 15 (by decide)
      refine ifw (by show (yv (ev (.tmp 138)) == some true) = true; rw [vg]; rfl) (ifn rfl ?_)
      clear vg
      have v141 : ev (.tmp 141) = .agg #[.bool bu, .slice Au ku cu] := hd 18 (by decide)
      have v142 : ev (.tmp 142) = .agg #[.bool false, .slice Av kv cv] := hd 19 (by decide)
      refine rel_call (f := 30) (args := #[.agg #[.bool bu, .slice Au ku cu], .agg #[.bool false, .slice Av kv cv]]) ?_ (neven_w s bu b2 _ _ _ _ _ _ au N d z2 _ (hw.m.r 0 rfl) (hw.m.r 1 rfl) (by omega) (by omega) h0 HU.out HZ2.out.1 HZ2.out.2) ?_
      · have e0 := hE.func; have e1 := hE.const; clear hE hd hw
        go_simp
      · rintro e w' ⟨A, k, c, rfl, R, hb⟩
        exact ⟨_, rfl, hb, ⟨A, k, c, rfl, R⟩, fun h => by cases h⟩
    · intro ev wv hE hw hd
      have vg : ev (.tmp 138) = .bool true := hd 15 (by decide)
      refine ifw (by show (yv (ev (.tmp 138)) == some true) = true; rw [vg]; rfl) (ifn rfl ?_)
      clear vg
      have v139 : ev (.tmp 139) = .agg #[.bool b2, .int .u64 (h2 : Int), .int .u64 (l2 : Int)] := hd 16 (by decide)
      have v140 : ev (.tmp 140) = .int .i64 0 := hd 17 (by decide)
      obtain ⟨xA20, xk20, xc20, v143, xR20⟩ : VN (b2) (z2.natAbs) (ev (.tmp 143)) wv := hd 20 (by decide)
      refine rel_call (f := 13) (args := #[.agg #[.bool b2, .int .u64 (h2 : Int), .int .u64 (l2 : Int)], .int .i64 0, .agg #[.bool (b2), .slice xA20 xk20 xc20]]) ?_ (told_ok b2 _ _ _ z2.natAbs h2 l2 _ xR20 (by have := row_le (k := 14) xR20 (Nat.lt_trans HQ2.out.1 (by decide)); omega) HQ2.out.1 HQ2.out.2.1 HQ2.out.2.2) ?_
      · have e0 := hE.func; have e1 := hE.const; clear hE hd hw
        go_simp
      · rintro e w' ⟨rfl, hb⟩
        exact ⟨_, rfl, hb, rfl, fun h => by cases h⟩
    · intro ev wv hE hw hd
      refine ifw rfl (ifw rfl ?_)
      have v138 : ev (.tmp 138) = .bool true := hd 15 (by decide)
      have v144 : ev (.tmp 144) = .bool true := hd 21 (by decide)
      refine ⟨.bool true, fun w => ?_, rfl⟩
      have e1 := hE.const; have e2 := hE.func; clear hE hd hw
      go_simp
    · intro ev wv hE hw hd
      refine ifw rfl (ifw rfl ?_)
      have v145 : ev (.tmp 145) = .bool true := hd 22 (by decide)
      refine ⟨.bool true, fun w => ?_, rfl⟩
      have e1 := hE.const; have e2 := hE.func; clear hE hd hw
      go_simp
    · intro ev wv hE hw hd
      have vg : ev (.tmp 146) = .bool true := hd 23 (by decide)
      refine ifw (by show (yv (ev (.tmp 146)) == some true) = true; rw [vg]; rfl) (ifn rfl ?_)
      clear vg
      have v12 : ev (.tmp 12) = .pointer (some ⟨w3.heap.size, 0, none⟩) := hE.tmp 12 rfl
      have kx := hw.m.c 3 0 rfl rfl
      have ky := hw.m.c 3 1 rfl rfl
      have kz := hw.m.c 3 2 rfl rfl
      refine rel_val (u := .agg #[.bool b3, .int .u64 (h3 : Int), .int .u64 (l3 : Int)]) (w' := wv) ?_ (Below.refl _ _) ⟨rfl, fun h => by cases h⟩
      have e1 := hE.const; clear hE hd hw
      go_simp
    · intro ev wv hE hw hd
      have vg : ev (.tmp 146) = .bool true := hd 23 (by decide)
      refine ifw (by show (yv (ev (.tmp 146)) == some true) = true; rw [vg]; rfl) (ifw rfl ?_)
      clear vg
      have v13 : ev (.tmp 13) = .int .i64 0 := hE.tmp 13 rfl
      refine ⟨.int .i64 0, fun w => ?_, rfl⟩
      have e1 := hE.const; have e2 := hE.func; clear hE hd hw
      go_simp
    · intro ev wv hE hw hd
      have vg : ev (.tmp 146) = .bool true := hd 23 (by decide)
      refine ifw (by show (yv (ev (.tmp 146)) == some true) = true; rw [vg]; rfl) (ifn rfl ?_)
      clear vg
      have v22 : ev (.tmp 22) = .pointer (some ⟨w10.heap.size, 0, none⟩) := hE.tmp 22 rfl
      have kx := hw.m.c 9 0 rfl rfl
      have ky := hw.m.c 9 1 rfl rfl
      refine rel_val (u := .agg #[.bool b3, .slice Ao ko co]) (w' := wv) ?_ (Below.refl _ _) ⟨rfl, fun h => by cases h⟩
      have e1 := hE.const; clear hE hd hw
      go_simp
    · intro ev wv hE hw hd
      have vg : ev (.tmp 146) = .bool true := hd 23 (by decide)
      refine ifw (by show (yv (ev (.tmp 146)) == some true) = true; rw [vg]; rfl) (ifn rfl ?_)
      clear vg
      have v147 : ev (.tmp 147) = .agg #[.bool b3, .int .u64 (h3 : Int), .int .u64 (l3 : Int)] := hd 24 (by decide)
      have v148 : ev (.tmp 148) = .int .i64 0 := hd 25 (by decide)
      have v149 : ev (.tmp 149) = .agg #[.bool b3, .slice Ao ko co] := hd 26 (by decide)
      refine rel_call (f := 13) (args := #[.agg #[.bool b3, .int .u64 (h3 : Int), .int .u64 (l3 : Int)], .int .i64 0, .agg #[.bool b3, .slice Ao ko co]]) ?_ (told_ok b3 _ _ _ z3.natAbs h3 l3 _ (hw.m.r 5 rfl) (by omega) HQ3.out.1 HQ3.out.2.1 HQ3.out.2.2) ?_
      · have e0 := hE.func; have e1 := hE.const; clear hE hd hw
        go_simp
      · rintro e w' ⟨rfl, hb⟩
        exact ⟨_, rfl, hb, rfl, fun h => by cases h⟩
    · intro ev wv hE hw hd
      refine ifw rfl (ifw rfl ?_)
      have v146 : ev (.tmp 146) = .bool true := hd 23 (by decide)
      have v150 : ev (.tmp 150) = .bool true := hd 27 (by decide)
      refine ⟨.bool true, fun w => ?_, rfl⟩
      have e1 := hE.const; have e2 := hE.func; clear hE hd hw
      go_simp
    · intro ev wv hE hw hd
      refine ifw rfl (ifw rfl ?_)
      have v151 : ev (.tmp 151) = .bool true := hd 28 (by decide)
      refine ⟨.bool true, fun w => ?_, rfl⟩
      have e1 := hE.const; have e2 := hE.func; clear hE hd hw
      go_simp
    · intro ev wv hE hw hd
      have vg : ev (.tmp 152) = .bool true := hd 29 (by decide)
      refine ifw (by show (yv (ev (.tmp 152)) == some true) = true; rw [vg]; rfl) (ifn rfl ?_)
      clear vg
      refine rel_call (f := 23) (args := #[]) ?_ (known_any _) ?_
      · have e0 := hE.func; have e1 := hE.const; clear hE hd hw
        go_simp
      · rintro e w' ⟨rfl, hb⟩
        exact ⟨_, rfl, hb, rfl, fun h => by cases h⟩
    · intro ev wv hE hw hd
      refine ifw rfl (ifw rfl ?_)
      have v152 : ev (.tmp 152) = .bool true := hd 29 (by decide)
      have v153 : ev (.tmp 153) = .bool true := hd 30 (by decide)
      refine ⟨.bool true, fun w => ?_, rfl⟩
      have e1 := hE.const; have e2 := hE.func; clear hE hd hw
      go_simp
    · intro ev wv hE hw hd
      refine ifw rfl (ifw rfl ?_)
      have v154 : ev (.tmp 154) = .bool true := hd 31 (by decide)
      refine ⟨.bool true, fun w => ?_, rfl⟩
      have e1 := hE.const; have e2 := hE.func; clear hE hd hw
      go_simp
    · intro w12 M12
      intro v0 h0 _ v1 h1 _ v2 h2 _ v3 h3 _ v4 h4 _ v5 h5 _ v6 h6 _ v7 h7 _ v8 h8 _ v9 h9 _ v10 h10 _ v11 h11 _ v12 h12 _ v13 h13 _ v14 h14 _ v15 h15 _ v16 h16 _ v17 h17 _ v18 h18 _ v19 h19 _ v20 h20 _ v21 h21 _ v22 h22 _ v23 h23 _ v24 h24 _ v25 h25 _ v26 h26 _ v27 h27 _ v28 h28 _ v29 h29 _ v30 h30 _ v31 h31 _ v32 h32 _
      simp only [Act.put, List.setIfInBounds_toArray, List.set_cons_zero, List.set_cons_succ, List.drop_succ_cons, List.drop_zero]
      obtain rfl : v0 = _ := h0
      obtain rfl : v1 = _ := h1
      obtain rfl : v2 = _ := h2
      obtain rfl : v3 = _ := h3
      obtain rfl : v4 = _ := h4
      obtain rfl : v5 = _ := h5
      obtain rfl : v6 = _ := h6
      obtain rfl : v7 = _ := h7
      obtain rfl : v8 = _ := h8
      obtain rfl : v9 = _ := h9
      obtain ⟨xA10, xk10, xc10, rfl, xR10⟩ : VN (false) (r) v10 w12 := h10
      obtain rfl : v11 = _ := h11
      obtain rfl : v12 = _ := h12
      obtain rfl : v13 = _ := h13
      obtain rfl : v14 = _ := h14
      obtain rfl : v15 = _ := h15
      obtain rfl : v16 = _ := h16
      obtain rfl : v17 = _ := h17
      obtain rfl : v18 = _ := h18
      obtain rfl : v19 = _ := h19
      obtain ⟨xA20, xk20, xc20, rfl, xR20⟩ : VN (b2) (z2.natAbs) v20 w12 := h20
      obtain rfl : v21 = _ := h21
      obtain rfl : v22 = _ := h22
      obtain rfl : v23 = _ := h23
      obtain rfl : v24 = _ := h24
      obtain rfl : v25 = _ := h25
      obtain rfl : v26 = _ := h26
      obtain rfl : v27 = _ := h27
      obtain rfl : v28 = _ := h28
      obtain rfl : v29 = _ := h29
      obtain rfl : v30 = _ := h30
      obtain rfl : v31 = _ := h31
      obtain rfl : v32 = _ := h32
      change wpList Try.prog _ _ _ _ w12
      refine calm_normal ?_
      have HB := Lib.hid M12.m.bl
      clear M12 S11
      go_wp2_with fail
      go_ret
      exact ⟨rfl, HB.out⟩
end Go.Proofs.Ytbenpcnibongaaa

/- Contracts of package wide: Div, and the two roundings. -/
import Derived.Test.YtgkogjlcecbfjaaWide4
namespace Go.Proofs.Ytgkogjlcecbfjaa
open Go.RowKit Corr
set_option linter.unusedVariables false

theorem div_parts (h l d : Nat) (hd : 0 < d) : nat2 h l / d = h / d * B64 + nat2 (h % d) l / d ∧ nat2 h l % d = nat2 (h % d) l % d := by
  have e : nat2 h l = h / d * B64 * d + nat2 (h % d) l := by
    have h1 := Nat.div_add_mod h d
    unfold nat2
    have h2 : h * B64 = (d * (h / d) + h % d) * B64 := by rw [h1]
    rw [Nat.add_mul] at h2
    have h3 : d * (h / d) * B64 = h / d * B64 * d := by rw [Nat.mul_comm d, Nat.mul_right_comm]
    omega
  rw [e]
  constructor
  · rw [Nat.mul_comm _ d, Nat.mul_add_div hd]
  · rw [Nat.mul_comm _ d, Nat.mul_add_mod]
theorem quo_lt {h l d : Nat} (hl : l < B64) (hlt : h < d) : nat2 h l / d < B64 := by
  refine (Nat.div_lt_iff_lt_mul (by omega)).2 ?_
  unfold nat2
  have h1 : (h + 1) * B64 ≤ d * B64 := Nat.mul_le_mul_right _ hlt
  rw [Nat.add_mul, Nat.one_mul] at h1
  rw [Nat.mul_comm B64]
  omega

/-- Quotient and rest, behind names. -/
def quoN (n d : Nat) : Nat := n / d
def remN (n d : Nat) : Nat := n % d

theorem div64_mod (h lo d : Nat) (w : World) (hl : lo < B64) (hd : d < B64) (h0 : 0 < d) :
    Calls Try.prog 68 #[.int .u64 ((h : Int) % (d : Int)), .int .u64 lo, .int .u64 d] w fun e w' => e = .returned (.tuple #[.int .u64 (quoN (nat2 (h % d) lo) d), .int .u64 (remN (nat2 (h % d) lo) d)]) ∧ ∃ n, w' = w.drewN n :=
  div64_any (h % d) lo d w hl hd (Nat.mod_lt _ h0)

theorem div_zero (s : Bool) (h l : Nat) (w : World) :
    Calls Try.prog 27 #[WV s h l, .int .u64 0] w fun e w' => e = .returned (.tuple #[W0, .int .u64 0, .int .i64 12]) ∧ Below w.heap.size w w' := by
  go_enter Try.func27, Try.ntmps27
  go_wp2_with fail
  refine bodyPost_ret (v := .tuple #[W0, .int .u64 0, .int .i64 12]) (by simp [results, Try.results27, go_sem]) rfl ⟨rfl, ?_⟩
  exact ((Below.refl _ _).alloc (Nat.le_refl _) _).alloc (by simp) _

/-- A Wide of a sign and a size, canonical. -/
abbrev ZV (s : Bool) (m : Nat) : Value := WV (negB (val s m)) (hiW m) (loW m)
theorem ZW_ZV (s : Bool) (m : Nat) : ZW (val s m) = ZV s m := by unfold ZW ZV; rw [natAbs_val]

theorem div_ok (s : Bool) (h l d : Nat) (w : World) (hh : h < B64) (hl : l < B64) (hd : d < B64) (h0 : 0 < d) :
    Calls Try.prog 27 #[WV s h l, .int .u64 d] w fun e w' => e = .returned (.tuple #[ZV s (quoN (nat2 h l) d), .int .u64 (remN (nat2 h l) d), .int .i64 0]) ∧ Below w.heap.size w w' := by
  have HP := Lib.hid (div_parts h l d h0)
  have q1 : quoN h d < B64 := Nat.lt_of_le_of_lt (Nat.div_le_self _ _) hh
  have q2 : quoN (nat2 (h % d) l) d < B64 := quo_lt hl (Nat.mod_lt h h0)
  have HV := Lib.hid (show val s (nat2 (quoN h d) (quoN (nat2 (h % d) l) d)) = val s (quoN (nat2 h l) d) by
    unfold quoN; rw [HP.out.1]; rfl)
  have HR := Lib.hid (show remN (nat2 (h % d) l) d = remN (nat2 h l) d from HP.out.2.symm)
  go_enter Try.func27, Try.ntmps27
  go_upto_region 4 with fail
  simp only [show IntKind.u64.wrap ((h : Int) / (d : Int)) = ((quoN h d : Nat) : Int) from guess_q h d hh]
  go_quiet ((go_at_call 68; exact Calls.quiet_of (div64_mod _ _ _ _ hl hd h0)))
  rw [HR.out]
  go_wp2_with fail
  refine (canonical_z _ _ _ _ _ q1 q2 HV.out).mono ?_
  rintro e w1 ⟨rfl, hb⟩
  rw [ZW_ZV]
  obtain ⟨hc, hf⟩ := bcell hb
  go_wp2_with fail
  refine bodyPost_ret (v := .tuple #[ZV s (quoN (nat2 h l) d), .int .u64 (remN (nat2 h l) d), .int .i64 0]) (by simp [results, Try.results27, go_sem, hc]) rfl ⟨rfl, ?_⟩
  exact (((((((Below.refl _ _).alloc (Nat.le_refl _) _).alloc (by simp) _).trans (Joins.below_draws _ _ _)).trans (hb.mono (by simp; omega))).setCell (by simp) _).setCell (by simp) _).setCell (by simp) _

/-- A block of three cells that may be written. -/
structure Box3 (w : World) (k : Nat) (a b c : Value) : Prop where
  c0 : w.cell? ⟨k, 0, none⟩ = some a
  c1 : w.cell? ⟨k, 1, none⟩ = some b
  c2 : w.cell? ⟨k, 2, none⟩ = some c
  f0 : w.frozen? ⟨k, 0, none⟩ = false
  f1 : w.frozen? ⟨k, 1, none⟩ = false
  f2 : w.frozen? ⟨k, 2, none⟩ = false
  sz : k < w.heap.size
theorem Box3.keep {W w1 : World} {k : Nat} {a b c : Value} (h : Box3 W k a b c) (hb : Below W.heap.size W w1) : Box3 w1 k a b c := by
  have hk := h.sz
  have e1 : ∀ o, w1.cell? ⟨k, o, none⟩ = W.cell? ⟨k, o, none⟩ := fun o => hb.cell hk
  have e2 : ∀ o, w1.frozen? ⟨k, o, none⟩ = W.frozen? ⟨k, o, none⟩ := fun o => hb.frozen hk
  exact ⟨(e1 _).trans h.c0, (e1 _).trans h.c1, (e1 _).trans h.c2, (e2 _).trans h.f0, (e2 _).trans h.f1, (e2 _).trans h.f2, Nat.lt_of_lt_of_le hk hb.size⟩
theorem Box3.new (w : World) (a b c : Value) (T : TypeId) : Box3 (w.alloc (.cells #[a, b, c] T)) w.heap.size a b c := by
  obtain ⟨⟨a0, a1, a2⟩, b0, b1, b2⟩ := cells3 (Below.refl _ _) (heap_alloc_new w (.cells #[a, b, c] T))
  exact ⟨a0, a1, a2, b0, b1, b2, by simp⟩
theorem Box3.alloc {w : World} {k : Nat} {a b c : Value} (h : Box3 w k a b c) (o : Obj) : Box3 (w.alloc o) k a b c :=
  h.keep ((Below.refl _ _).alloc (Nat.le_refl _) _)

/-- Does a quotient m with r left of d grow, rounded half-even? -/
def upE (m r d : Nat) : Bool := decide (d - r < r) || (decide (r = d - r) && decide (m % 2 = 1))
/-- .. rounded towards below? -/
def upF (s : Bool) (r : Nat) : Bool := s && decide (r ≠ 0)
theorem upE_1 {m r d : Nat} (h : d - r < r) : upE m r d = true := by simp [upE, h]
theorem upE_2 {m r d : Nat} (h : ¬ d - r < r) (h2 : r = d - r) (h3 : m % 2 = 1) : upE m r d = true := by unfold upE; rw [decide_eq_true h2, decide_eq_true h3]; simp
theorem upE_3 {m r d : Nat} (h : ¬ d - r < r) (h3 : ¬ m % 2 = 1) : upE m r d = false := by simp [upE, h, h3]
theorem upE_4 {m r d : Nat} (h : ¬ d - r < r) (h2 : ¬ r = d - r) : upE m r d = false := by unfold upE; rw [decide_eq_false h, decide_eq_false h2]; rfl
theorem lo_mod2 (m : Nat) : loW m % 2 = m % 2 := by unfold loW B64; omega

theorem even1_int (s : Bool) (hq : Nat) (L R D : Int) (kb : Nat) (b : Bool) (w : World) (r0 : 0 ≤ R) (hr : R < D) (hd : D < 18446744073709551616) (l0 : 0 ≤ L) (hk : w.cell? ⟨kb, 0, none⟩ = some (.int .u64 D)) (hkb : kb < w.heap.size)
    (hb : (decide (D - R < R) || (R == D - R) && (L % 2 == 1)) = b) :
    Calls Try.prog 70 #[.agg #[.bool s, .int .u64 (hq : Int), .int .u64 L], .int .u64 R, .pointer (some ⟨kb, 0, none⟩)] w fun e w' => e = .returned (.bool b) ∧ Below w.heap.size w w' := by
  have n1 : ¬ w.heap.size = kb := by omega
  have n2 : ¬ kb = w.heap.size := by omega
  by_cases t1 : D - R < R
  · rw [decide_eq_true t1, Bool.true_or] at hb
    subst hb
    go_enter Try.func70, Try.ntmps70
    go_wp2_with fail
    go_ret
    exact ⟨rfl, (Below.refl _ _).alloc (Nat.le_refl _) _⟩
  · rw [decide_eq_false t1, Bool.false_or] at hb
    cases t2 : (R == D - R) with
    | true =>
      rw [t2, Bool.true_and] at hb
      cases t3 : (L % 2 == 1) with
      | true =>
        rw [t3] at hb
        subst hb
        go_enter Try.func70, Try.ntmps70
        go_wp2_with fail
        go_ret
        exact ⟨rfl, (Below.refl _ _).alloc (Nat.le_refl _) _⟩
      | false =>
        rw [t3] at hb
        subst hb
        go_enter Try.func70, Try.ntmps70
        go_wp2_with fail
        go_ret
        exact ⟨rfl, (Below.refl _ _).alloc (Nat.le_refl _) _⟩
    | false =>
      rw [t2, Bool.false_and] at hb
      subst hb
      go_enter Try.func70, Try.ntmps70
      go_wp2_with fail
      go_ret
      exact ⟨rfl, (Below.refl _ _).alloc (Nat.le_refl _) _⟩

theorem even1_any (s : Bool) (hq m r d kb : Nat) (w : World) (hr : r < d) (hd : d < B64) (hk : w.cell? ⟨kb, 0, none⟩ = some (.int .u64 (d : Int))) (hkb : kb < w.heap.size) :
    Calls Try.prog 70 #[WV s hq (loW m), .int .u64 r, .pointer (some ⟨kb, 0, none⟩)] w fun e w' => e = .returned (.bool (upE m r d)) ∧ Below w.heap.size w w' :=
  even1_int s hq (loW m) r d kb _ w (by omega) (by omega) (by unfold B64 at hd; omega) (by omega) hk hkb (by
    have h2 := lo_mod2 m
    unfold upE
    rw [Bool.eq_iff_iff]
    simp only [Bool.or_eq_true, Bool.and_eq_true, decide_eq_true_eq, beq_iff_eq]
    omega)

theorem floor1_any (s sq : Bool) (h l hq lq r kb : Nat) (w : World) (hr : r < B64) (hk : Box3 w kb (.bool s) (.int .u64 (h : Int)) (.int .u64 (l : Int))) :
    Calls Try.prog 71 #[WV sq hq lq, .int .u64 r, .pointer (some ⟨kb, 0, none⟩)] w fun e w' => e = .returned (.bool (upF s r)) ∧ Below w.heap.size w w' := by
  have n1 : ¬ w.heap.size = kb := by have := hk.sz; omega
  have n2 : ¬ kb = w.heap.size := by have := hk.sz; omega
  have k0 := hk.c0
  have hkb := hk.sz
  clear hk
  cases s
  · rw [show upF false r = false from rfl]
    go_enter Try.func71, Try.ntmps71
    go_wp2_with fail
    go_ret
    exact ⟨rfl, (Below.refl _ _).alloc (Nat.le_refl _) _⟩
  · by_cases t : r = 0
    · have g : ((r : Int) != 0) = false := by simp [t]
      rw [show upF true r = false by simp [upF, t]]
      have HT := Lib.hid t
      clear t
      go_enter Try.func71, Try.ntmps71
      go_wp2_with fail
      go_ret
      exact ⟨rfl, (Below.refl _ _).alloc (Nat.le_refl _) _⟩
    · have g : ((r : Int) != 0) = true := by rw [bne_iff_ne]; omega
      rw [show upF true r = true by simp [upF, t]]
      clear t
      go_enter Try.func71, Try.ntmps71
      go_wp2_with fail
      go_ret
      exact ⟨rfl, (Below.refl _ _).alloc (Nat.le_refl _) _⟩

/-- The quotient, rounded. -/
def evenN (n d : Nat) : Nat := if upE (quoN n d) (remN n d) d = true then quoN n d + 1 else quoN n d
def floorN (s : Bool) (n d : Nat) : Nat := if upF s (remN n d) = true then quoN n d + 1 else quoN n d
theorem grow_hi (m : Nat) : hiW m + hiW (loW m + 1) = hiW (m + 1) := by unfold hiW loW B64; omega
theorem grow_lo (m : Nat) : loW (loW m + 1) = loW (m + 1) := by unfold loW B64; omega

theorem add64_run1 (x : Nat) (w : World) :
    (callFunc 57 #[.int .u64 (x : Int), .int .u64 1, .int .u64 0]).run Try.prog w = .ok (.value (.tuple #[.int .u64 (loW (x + 1)), .int .u64 (hiW (x + 1))])) w :=
  add64_run x 1 0 (by omega) w
theorem grow_sum (m : Nat) (hm : m + 1 < B128) : IntKind.u64.wrap ((hiW m : Int) + (hiW (loW m + 1) : Int)) = (hiW (m + 1) : Int) := by
  rw [show ((hiW m : Int) + (hiW (loW m + 1) : Int)) = ((hiW (m + 1) : Nat) : Int) by rw [← grow_hi m]; exact (Int.natCast_add _ _).symm]
  exact wrapN _ (hiW_lt hm)

set_option maxHeartbeats 400000 in
theorem rounded_even_up (s : Bool) (h l d : Nat) (p : Addr) (w : World) (hh : h < B64) (hl : l < B64) (hd : d < B64) (h0 : 0 < d)
    (hup : ∀ W, Below w.heap.size w W → Calls Try.prog 70 #[ZV s (quoN (nat2 h l) d), .int .u64 (remN (nat2 h l) d), .pointer (some p)] W fun e W' => e = .returned (.bool true) ∧ Below W.heap.size W W') (hfit : quoN (nat2 h l) d + 1 < B128) :
    Calls Try.prog 69 #[WV s h l, .int .u64 d, .func (.func 70) #[] #[.pointer (some p)]] w fun e w' => e = .returned (.tuple #[ZW (val s (quoN (nat2 h l) d + 1)), .int .i64 0]) ∧ Below w.heap.size w w' := by
  have HU := Lib.hid hup
  clear hup
  have a1 := add64_run1 (loW (quoN (nat2 h l) d))
  have HG := Lib.hid (grow_sum _ hfit)
  have g1 := hiW_lt hfit
  have g2 := loW_lt (quoN (nat2 h l) d + 1)
  have HL := Lib.hid (grow_lo (quoN (nat2 h l) d))
  have HV := Lib.hid (show val s (nat2 (hiW (quoN (nat2 h l) d + 1)) (loW (quoN (nat2 h l) d + 1))) = val s (quoN (nat2 h l) d + 1) by rw [nat2_hilo])
  clear hfit
  go_enter Try.func69, Try.ntmps69
  go_wp2_with fail
  refine (div_ok _ _ _ _ _ hh hl hd h0).mono ?_
  rintro e w1 ⟨rfl, hb⟩
  have X := ((Box3.new w (.bool s) (.int .u64 (h : Int)) (.int .u64 (l : Int)) 24).alloc (.cells #[.bool false, .int .u64 0, .int .u64 0] 24)).keep hb
  have R := (Box3.new (w.alloc (.cells #[.bool s, .int .u64 (h : Int), .int .u64 (l : Int)] 24)) (.bool false) (.int .u64 0) (.int .u64 0) 24).keep hb
  rw [size_alloc] at R
  have B1 : Below w.heap.size w w1 := (((Below.refl _ _).alloc (Nat.le_refl _) _).alloc (by simp) _).trans (hb.mono (by simp; omega))
  clear hb
  go_wp2_with fail
  refine (HU.out _ (B1.alloc (by have := X.sz; omega) _)).mono ?_
  rintro e w2 ⟨rfl, hb2⟩
  have Q2 := (Box3.new w1 (.bool (negB (val s (quoN (nat2 h l) d)))) (.int .u64 (hiW (quoN (nat2 h l) d))) (.int .u64 (loW (quoN (nat2 h l) d))) 24).keep hb2
  have X2 := (X.alloc (.cells #[.bool (negB (val s (quoN (nat2 h l) d))), .int .u64 (hiW (quoN (nat2 h l) d)), .int .u64 (loW (quoN (nat2 h l) d))] 24)).keep hb2
  have R2 := (R.alloc (.cells #[.bool (negB (val s (quoN (nat2 h l) d))), .int .u64 (hiW (quoN (nat2 h l) d)), .int .u64 (loW (quoN (nat2 h l) d))] 24)).keep hb2
  have B2 : Below w.heap.size w w2 := (B1.alloc (by have := X.sz; omega) _).trans (hb2.mono (by have := X.sz; simp; omega))
  clear hb2
  have q0 := Q2.c0; have q1 := Q2.c1; have q2 := Q2.c2
  have x0 := X2.c0
  have r0 := R2.c0; have r1 := R2.c1; have r2 := R2.c2; have r3 := R2.f0; have r4 := R2.f1; have r5 := R2.f2
  have z1 := X.sz
  have z2 := R.sz
  have z3 := Q2.sz
  go_wp2_with fail
  rw [HG.out, HL.out]
  refine (canonical_z _ _ _ _ _ g1 g2 HV.out).mono ?_
  rintro e w3 ⟨rfl, hb3⟩
  have R3 := R2.keep hb3
  have B3 : Below w.heap.size w w3 := B2.trans (hb3.mono (by omega))
  clear hb3 r0 r1 r2 r3 r4 r5
  have r0 := R3.c0; have r1 := R3.c1; have r2 := R3.c2; have r3 := R3.f0; have r4 := R3.f1; have r5 := R3.f2
  go_wp2_with fail
  refine bodyPost_ret (v := .tuple #[ZW (val s (quoN (nat2 h l) d + 1)), .int .i64 0]) (by simp [results, Try.results69, go_sem, r0, r1, r2]) rfl ⟨rfl, ?_⟩
  exact ((B3.setCell (by simp) _).setCell (by simp) _).setCell (by simp) _

set_option maxHeartbeats 400000 in
theorem rounded_even_no (s : Bool) (h l d : Nat) (p : Addr) (w : World) (hh : h < B64) (hl : l < B64) (hd : d < B64) (h0 : 0 < d)
    (hup : ∀ W, Below w.heap.size w W → Calls Try.prog 70 #[ZV s (quoN (nat2 h l) d), .int .u64 (remN (nat2 h l) d), .pointer (some p)] W fun e W' => e = .returned (.bool false) ∧ Below W.heap.size W W') :
    Calls Try.prog 69 #[WV s h l, .int .u64 d, .func (.func 70) #[] #[.pointer (some p)]] w fun e w' => e = .returned (.tuple #[ZV s (quoN (nat2 h l) d), .int .i64 0]) ∧ Below w.heap.size w w' := by
  have HU := Lib.hid hup
  clear hup
  go_enter Try.func69, Try.ntmps69
  go_wp2_with fail
  refine (div_ok _ _ _ _ _ hh hl hd h0).mono ?_
  rintro e w1 ⟨rfl, hb⟩
  have X := ((Box3.new w (.bool s) (.int .u64 (h : Int)) (.int .u64 (l : Int)) 24).alloc (.cells #[.bool false, .int .u64 0, .int .u64 0] 24)).keep hb
  have R := (Box3.new (w.alloc (.cells #[.bool s, .int .u64 (h : Int), .int .u64 (l : Int)] 24)) (.bool false) (.int .u64 0) (.int .u64 0) 24).keep hb
  rw [size_alloc] at R
  have B1 : Below w.heap.size w w1 := (((Below.refl _ _).alloc (Nat.le_refl _) _).alloc (by simp) _).trans (hb.mono (by simp; omega))
  clear hb
  go_wp2_with fail
  refine (HU.out _ (B1.alloc (by have := X.sz; omega) _)).mono ?_
  rintro e w2 ⟨rfl, hb2⟩
  have Q2 := (Box3.new w1 (.bool (negB (val s (quoN (nat2 h l) d)))) (.int .u64 (hiW (quoN (nat2 h l) d))) (.int .u64 (loW (quoN (nat2 h l) d))) 24).keep hb2
  have X2 := (X.alloc (.cells #[.bool (negB (val s (quoN (nat2 h l) d))), .int .u64 (hiW (quoN (nat2 h l) d)), .int .u64 (loW (quoN (nat2 h l) d))] 24)).keep hb2
  have R2 := (R.alloc (.cells #[.bool (negB (val s (quoN (nat2 h l) d))), .int .u64 (hiW (quoN (nat2 h l) d)), .int .u64 (loW (quoN (nat2 h l) d))] 24)).keep hb2
  have B2 : Below w.heap.size w w2 := (B1.alloc (by have := X.sz; omega) _).trans (hb2.mono (by have := X.sz; simp; omega))
  clear hb2
  have q0 := Q2.c0; have q1 := Q2.c1; have q2 := Q2.c2
  have x0 := X2.c0
  have r0 := R2.c0; have r1 := R2.c1; have r2 := R2.c2; have r3 := R2.f0; have r4 := R2.f1; have r5 := R2.f2
  have z1 := X.sz
  have z2 := R.sz
  have z3 := Q2.sz
  go_wp2_with fail
  refine bodyPost_ret (v := .tuple #[ZV s (quoN (nat2 h l) d), .int .i64 0]) (by simp [results, Try.results69, go_sem, r0, r1, r2]) rfl ⟨rfl, ?_⟩
  exact ((B2.setCell (by simp) _).setCell (by simp) _).setCell (by simp) _

set_option maxHeartbeats 400000 in
theorem rounded_floor_up (s : Bool) (h l d : Nat) (p : Addr) (w : World) (hh : h < B64) (hl : l < B64) (hd : d < B64) (h0 : 0 < d)
    (hup : ∀ W, Below w.heap.size w W → Calls Try.prog 71 #[ZV s (quoN (nat2 h l) d), .int .u64 (remN (nat2 h l) d), .pointer (some p)] W fun e W' => e = .returned (.bool true) ∧ Below W.heap.size W W') (hfit : quoN (nat2 h l) d + 1 < B128) :
    Calls Try.prog 69 #[WV s h l, .int .u64 d, .func (.func 71) #[] #[.pointer (some p)]] w fun e w' => e = .returned (.tuple #[ZW (val s (quoN (nat2 h l) d + 1)), .int .i64 0]) ∧ Below w.heap.size w w' := by
  have HU := Lib.hid hup
  clear hup
  have a1 := add64_run1 (loW (quoN (nat2 h l) d))
  have HG := Lib.hid (grow_sum _ hfit)
  have g1 := hiW_lt hfit
  have g2 := loW_lt (quoN (nat2 h l) d + 1)
  have HL := Lib.hid (grow_lo (quoN (nat2 h l) d))
  have HV := Lib.hid (show val s (nat2 (hiW (quoN (nat2 h l) d + 1)) (loW (quoN (nat2 h l) d + 1))) = val s (quoN (nat2 h l) d + 1) by rw [nat2_hilo])
  clear hfit
  go_enter Try.func69, Try.ntmps69
  go_wp2_with fail
  refine (div_ok _ _ _ _ _ hh hl hd h0).mono ?_
  rintro e w1 ⟨rfl, hb⟩
  have X := ((Box3.new w (.bool s) (.int .u64 (h : Int)) (.int .u64 (l : Int)) 24).alloc (.cells #[.bool false, .int .u64 0, .int .u64 0] 24)).keep hb
  have R := (Box3.new (w.alloc (.cells #[.bool s, .int .u64 (h : Int), .int .u64 (l : Int)] 24)) (.bool false) (.int .u64 0) (.int .u64 0) 24).keep hb
  rw [size_alloc] at R
  have B1 : Below w.heap.size w w1 := (((Below.refl _ _).alloc (Nat.le_refl _) _).alloc (by simp) _).trans (hb.mono (by simp; omega))
  clear hb
  go_wp2_with fail
  refine (HU.out _ (B1.alloc (by have := X.sz; omega) _)).mono ?_
  rintro e w2 ⟨rfl, hb2⟩
  have Q2 := (Box3.new w1 (.bool (negB (val s (quoN (nat2 h l) d)))) (.int .u64 (hiW (quoN (nat2 h l) d))) (.int .u64 (loW (quoN (nat2 h l) d))) 24).keep hb2
  have X2 := (X.alloc (.cells #[.bool (negB (val s (quoN (nat2 h l) d))), .int .u64 (hiW (quoN (nat2 h l) d)), .int .u64 (loW (quoN (nat2 h l) d))] 24)).keep hb2
  have R2 := (R.alloc (.cells #[.bool (negB (val s (quoN (nat2 h l) d))), .int .u64 (hiW (quoN (nat2 h l) d)), .int .u64 (loW (quoN (nat2 h l) d))] 24)).keep hb2
  have B2 : Below w.heap.size w w2 := (B1.alloc (by have := X.sz; omega) _).trans (hb2.mono (by have := X.sz; simp; omega))
  clear hb2
  have q0 := Q2.c0; have q1 := Q2.c1; have q2 := Q2.c2
  have x0 := X2.c0
  have r0 := R2.c0; have r1 := R2.c1; have r2 := R2.c2; have r3 := R2.f0; have r4 := R2.f1; have r5 := R2.f2
  have z1 := X.sz
  have z2 := R.sz
  have z3 := Q2.sz
  go_wp2_with fail
  rw [HG.out, HL.out]
  refine (canonical_z _ _ _ _ _ g1 g2 HV.out).mono ?_
  rintro e w3 ⟨rfl, hb3⟩
  have R3 := R2.keep hb3
  have B3 : Below w.heap.size w w3 := B2.trans (hb3.mono (by omega))
  clear hb3 r0 r1 r2 r3 r4 r5
  have r0 := R3.c0; have r1 := R3.c1; have r2 := R3.c2; have r3 := R3.f0; have r4 := R3.f1; have r5 := R3.f2
  go_wp2_with fail
  refine bodyPost_ret (v := .tuple #[ZW (val s (quoN (nat2 h l) d + 1)), .int .i64 0]) (by simp [results, Try.results69, go_sem, r0, r1, r2]) rfl ⟨rfl, ?_⟩
  exact ((B3.setCell (by simp) _).setCell (by simp) _).setCell (by simp) _

set_option maxHeartbeats 400000 in
theorem rounded_floor_no (s : Bool) (h l d : Nat) (p : Addr) (w : World) (hh : h < B64) (hl : l < B64) (hd : d < B64) (h0 : 0 < d)
    (hup : ∀ W, Below w.heap.size w W → Calls Try.prog 71 #[ZV s (quoN (nat2 h l) d), .int .u64 (remN (nat2 h l) d), .pointer (some p)] W fun e W' => e = .returned (.bool false) ∧ Below W.heap.size W W') :
    Calls Try.prog 69 #[WV s h l, .int .u64 d, .func (.func 71) #[] #[.pointer (some p)]] w fun e w' => e = .returned (.tuple #[ZV s (quoN (nat2 h l) d), .int .i64 0]) ∧ Below w.heap.size w w' := by
  have HU := Lib.hid hup
  clear hup
  go_enter Try.func69, Try.ntmps69
  go_wp2_with fail
  refine (div_ok _ _ _ _ _ hh hl hd h0).mono ?_
  rintro e w1 ⟨rfl, hb⟩
  have X := ((Box3.new w (.bool s) (.int .u64 (h : Int)) (.int .u64 (l : Int)) 24).alloc (.cells #[.bool false, .int .u64 0, .int .u64 0] 24)).keep hb
  have R := (Box3.new (w.alloc (.cells #[.bool s, .int .u64 (h : Int), .int .u64 (l : Int)] 24)) (.bool false) (.int .u64 0) (.int .u64 0) 24).keep hb
  rw [size_alloc] at R
  have B1 : Below w.heap.size w w1 := (((Below.refl _ _).alloc (Nat.le_refl _) _).alloc (by simp) _).trans (hb.mono (by simp; omega))
  clear hb
  go_wp2_with fail
  refine (HU.out _ (B1.alloc (by have := X.sz; omega) _)).mono ?_
  rintro e w2 ⟨rfl, hb2⟩
  have Q2 := (Box3.new w1 (.bool (negB (val s (quoN (nat2 h l) d)))) (.int .u64 (hiW (quoN (nat2 h l) d))) (.int .u64 (loW (quoN (nat2 h l) d))) 24).keep hb2
  have X2 := (X.alloc (.cells #[.bool (negB (val s (quoN (nat2 h l) d))), .int .u64 (hiW (quoN (nat2 h l) d)), .int .u64 (loW (quoN (nat2 h l) d))] 24)).keep hb2
  have R2 := (R.alloc (.cells #[.bool (negB (val s (quoN (nat2 h l) d))), .int .u64 (hiW (quoN (nat2 h l) d)), .int .u64 (loW (quoN (nat2 h l) d))] 24)).keep hb2
  have B2 : Below w.heap.size w w2 := (B1.alloc (by have := X.sz; omega) _).trans (hb2.mono (by have := X.sz; simp; omega))
  clear hb2
  have q0 := Q2.c0; have q1 := Q2.c1; have q2 := Q2.c2
  have x0 := X2.c0
  have r0 := R2.c0; have r1 := R2.c1; have r2 := R2.c2; have r3 := R2.f0; have r4 := R2.f1; have r5 := R2.f2
  have z1 := X.sz
  have z2 := R.sz
  have z3 := Q2.sz
  go_wp2_with fail
  refine bodyPost_ret (v := .tuple #[ZV s (quoN (nat2 h l) d), .int .i64 0]) (by simp [results, Try.results69, go_sem, r0, r1, r2]) rfl ⟨rfl, ?_⟩
  exact ((B2.setCell (by simp) _).setCell (by simp) _).setCell (by simp) _

end Go.Proofs.Ytgkogjlcecbfjaa

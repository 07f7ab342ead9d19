/- Contracts of package wide: Div, and the two roundings. Contracts of package wide: Even, Floor, Small, Ten. -/
import Derived.Test.YtgojfonnikgboaaGreatDoorWide4
namespace Go.Proofs.YtgojfonnikgboaaGreatDoor
set_option maxRecDepth 8000
open Go.RowKit Corr
set_option linter.unusedVariables false

theorem div_parts (h l d : Nat) (hd : 0 < d) : nat2 h l / d = h / d * B64 + nat2 (h % d) l / d ∧ nat2 h l % d = nat2 (h % d) l % d := by
  have e : nat2 h l = h / d * B64 * d + nat2 (h % d) l := by
    have h1 := Nat.div_add_mod h d
    unfold nat2
    have h2 : h * B64 = (d * (h / d) + h % d) * B64 := by rw [h1]
    rw [Nat.add_mul] at h2
    have h3 : d * (h / d) * B64 = h / d * B64 * d := by rw [Nat.mul_comm d, Nat.mul_right_comm]
    omega
  rw [e]
  constructor
  · rw [Nat.mul_comm _ d, Nat.mul_add_div hd]
  · rw [Nat.mul_comm _ d, Nat.mul_add_mod]
theorem quo_lt {h l d : Nat} (hl : l < B64) (hlt : h < d) : nat2 h l / d < B64 := by
  refine (Nat.div_lt_iff_lt_mul (by omega)).2 ?_
  unfold nat2
  have h1 : (h + 1) * B64 ≤ d * B64 := Nat.mul_le_mul_right _ hlt
  rw [Nat.add_mul, Nat.one_mul] at h1
  rw [Nat.mul_comm B64]
  omega

/-- Quotient and rest, behind names. -/
def quoN (n d : Nat) : Nat := n / d
def remN (n d : Nat) : Nat := n % d

theorem div64_mod (h lo d : Nat) (w : World) (hl : lo < B64) (hd : d < B64) (h0 : 0 < d) :
    Calls Tryz.prog 89 #[.int .u64 ((h : Int) % (d : Int)), .int .u64 lo, .int .u64 d] w fun e w' => e = .returned (.tuple #[.int .u64 (quoN (nat2 (h % d) lo) d), .int .u64 (remN (nat2 (h % d) lo) d)]) ∧ ∃ n, w' = w.drewN n :=
  div64_any (h % d) lo d w hl hd (Nat.mod_lt _ h0)

/-- A Wide of a sign and a size, canonical. -/
abbrev ZV (s : Bool) (m : Nat) : Value := WV (negB (val s m)) (hiW m) (loW m)
theorem ZW_ZV (s : Bool) (m : Nat) : ZW (val s m) = ZV s m := by unfold ZW ZV; rw [natAbs_val]

theorem div_ok (s : Bool) (h l d : Nat) (w : World) (hh : h < B64) (hl : l < B64) (hd : d < B64) (h0 : 0 < d) :
    Calls Tryz.prog 67 #[WV s h l, .int .u64 d] w fun e w' => e = .returned (.tuple #[ZV s (quoN (nat2 h l) d), .int .u64 (remN (nat2 h l) d), .int .i64 0]) ∧ Below w.heap.size w w' := by
  have HP := Lib.hid (div_parts h l d h0)
  have q1 : quoN h d < B64 := Nat.lt_of_le_of_lt (Nat.div_le_self _ _) hh
  have q2 : quoN (nat2 (h % d) l) d < B64 := quo_lt hl (Nat.mod_lt h h0)
  have HV := Lib.hid (show val s (nat2 (quoN h d) (quoN (nat2 (h % d) l) d)) = val s (quoN (nat2 h l) d) by
    unfold quoN; rw [HP.out.1]; rfl)
  have HR := Lib.hid (show remN (nat2 (h % d) l) d = remN (nat2 h l) d from HP.out.2.symm)
  go_enter Tryz.func67, Tryz.ntmps67
  go_upto_region 4 with fail
  simp only [show IntKind.u64.wrap ((h : Int) / (d : Int)) = ((quoN h d : Nat) : Int) from guess_q h d hh]
  go_quiet ((go_at_call 89; exact Calls.quiet_of (div64_mod _ _ _ _ hl hd h0)))
  rw [HR.out]
  go_wp2_with fail
  refine (canonical_z _ _ _ _ _ q1 q2 HV.out).mono ?_
  rintro e w1 ⟨rfl, hb⟩
  rw [ZW_ZV]
  obtain ⟨hc, hf⟩ := bcell hb
  go_wp2_with fail
  refine bodyPost_ret (v := .tuple #[ZV s (quoN (nat2 h l) d), .int .u64 (remN (nat2 h l) d), .int .i64 0]) (by simp [results, Tryz.results67, go_sem, hc]) rfl ⟨rfl, ?_⟩
  exact (((((((Below.refl _ _).alloc (Nat.le_refl _) _).alloc (by simp) _).trans (Joins.below_draws _ _ _)).trans (hb.mono (by simp; omega))).setCell (by simp) _).setCell (by simp) _).setCell (by simp) _

/-- A block of three cells that may be written. -/
structure Box3 (w : World) (k : Nat) (a b c : Value) : Prop where
  c0 : w.cell? ⟨k, 0, none⟩ = some a
  c1 : w.cell? ⟨k, 1, none⟩ = some b
  c2 : w.cell? ⟨k, 2, none⟩ = some c
  f0 : w.frozen? ⟨k, 0, none⟩ = false
  f1 : w.frozen? ⟨k, 1, none⟩ = false
  f2 : w.frozen? ⟨k, 2, none⟩ = false
  sz : k < w.heap.size
theorem Box3.keep {W w1 : World} {k : Nat} {a b c : Value} (h : Box3 W k a b c) (hb : Below W.heap.size W w1) : Box3 w1 k a b c := by
  have hk := h.sz
  have e1 : ∀ o, w1.cell? ⟨k, o, none⟩ = W.cell? ⟨k, o, none⟩ := fun o => hb.cell hk
  have e2 : ∀ o, w1.frozen? ⟨k, o, none⟩ = W.frozen? ⟨k, o, none⟩ := fun o => hb.frozen hk
  exact ⟨(e1 _).trans h.c0, (e1 _).trans h.c1, (e1 _).trans h.c2, (e2 _).trans h.f0, (e2 _).trans h.f1, (e2 _).trans h.f2, Nat.lt_of_lt_of_le hk hb.size⟩
theorem Box3.new (w : World) (a b c : Value) (T : TypeId) : Box3 (w.alloc (.cells #[a, b, c] T)) w.heap.size a b c := by
  obtain ⟨⟨a0, a1, a2⟩, b0, b1, b2⟩ := cells3 (Below.refl _ _) (heap_alloc_new w (.cells #[a, b, c] T))
  exact ⟨a0, a1, a2, b0, b1, b2, by simp⟩
theorem Box3.alloc {w : World} {k : Nat} {a b c : Value} (h : Box3 w k a b c) (o : Obj) : Box3 (w.alloc o) k a b c :=
  h.keep ((Below.refl _ _).alloc (Nat.le_refl _) _)

end Go.Proofs.YtgojfonnikgboaaGreatDoor
namespace Go.Proofs.YtgojfonnikgboaaGreatDoor
set_option maxRecDepth 8000
open Go.RowKit Corr
set_option linter.unusedVariables false

end Go.Proofs.YtgojfonnikgboaaGreatDoor

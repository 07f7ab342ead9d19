/- Contracts of package wide: Even, Floor, Small, Ten. -/
import Derived.Test.YtgkogjlcecbfjaaWide5
namespace Go.Proofs.Ytgkogjlcecbfjaa
open Go.RowKit Corr
set_option linter.unusedVariables false

theorem quo_grow {n d r : Nat} (hn : n < B128) (hd : 2 ≤ d) : quoN n d + 1 < B128 := by
  unfold quoN
  have h1 : n / d ≤ n / 2 := Nat.div_le_div_left hd (by omega)
  unfold B128 B64 at *
  omega
theorem upE_fit {n d : Nat} (hn : n < B128) (h0 : 0 < d) (h : upE (quoN n d) (remN n d) d = true) : quoN n d + 1 < B128 := by
  refine quo_grow (r := 0) hn ?_
  rcases Nat.lt_or_ge 1 d with h1 | h1
  · exact h1
  · have e : d = 1 := by omega
    subst e
    rw [show remN n 1 = 0 from Nat.mod_one n] at h
    simp [upE] at h
theorem upF_fit {s : Bool} {n d : Nat} (hn : n < B128) (h0 : 0 < d) (h : upF s (remN n d) = true) : quoN n d + 1 < B128 := by
  refine quo_grow (r := 0) hn ?_
  rcases Nat.lt_or_ge 1 d with h1 | h1
  · exact h1
  · have e : d = 1 := by omega
    subst e
    rw [show remN n 1 = 0 from Nat.mod_one n] at h
    simp [upF] at h

theorem rem_lt {n d : Nat} (h0 : 0 < d) : remN n d < d := Nat.mod_lt _ h0
theorem rounded_even (s : Bool) (h l d kb : Nat) (w : World) (hh : h < B64) (hl : l < B64) (hd : d < B64) (h0 : 0 < d) (hk : w.cell? ⟨kb, 0, none⟩ = some (.int .u64 (d : Int))) (hkb : kb < w.heap.size) :
    Calls Try.prog 69 #[WV s h l, .int .u64 d, .func (.func 70) #[] #[.pointer (some ⟨kb, 0, none⟩)]] w fun e w' => e = .returned (.tuple #[ZW (val s (evenN (nat2 h l) d)), .int .i64 0]) ∧ Below w.heap.size w w' := by
  have hup : ∀ W, Below w.heap.size w W → Calls Try.prog 70 #[ZV s (quoN (nat2 h l) d), .int .u64 (remN (nat2 h l) d), .pointer (some ⟨kb, 0, none⟩)] W fun e W' => e = .returned (.bool (upE (quoN (nat2 h l) d) (remN (nat2 h l) d) d)) ∧ Below W.heap.size W W' :=
    fun W hW => even1_any _ _ _ _ _ kb W (rem_lt h0) hd (by rw [hW.cell hkb]; exact hk) (Nat.lt_of_lt_of_le hkb hW.size)
  unfold evenN
  cases hb : upE (quoN (nat2 h l) d) (remN (nat2 h l) d) d with
  | true =>
    rw [hb] at hup
    rw [if_pos rfl]
    exact rounded_even_up s h l d ⟨kb, 0, none⟩ w hh hl hd h0 hup (upE_fit (nat2_lt hh hl) h0 hb)
  | false =>
    rw [hb] at hup
    rw [if_neg (by decide), ZW_ZV]
    exact rounded_even_no s h l d ⟨kb, 0, none⟩ w hh hl hd h0 hup
theorem rounded_floor (s : Bool) (h l d kb : Nat) (w : World) (hh : h < B64) (hl : l < B64) (hd : d < B64) (h0 : 0 < d) (hk : Box3 w kb (.bool s) (.int .u64 (h : Int)) (.int .u64 (l : Int))) :
    Calls Try.prog 69 #[WV s h l, .int .u64 d, .func (.func 71) #[] #[.pointer (some ⟨kb, 0, none⟩)]] w fun e w' => e = .returned (.tuple #[ZW (val s (floorN s (nat2 h l) d)), .int .i64 0]) ∧ Below w.heap.size w w' := by
  have hup : ∀ W, Below w.heap.size w W → Calls Try.prog 71 #[ZV s (quoN (nat2 h l) d), .int .u64 (remN (nat2 h l) d), .pointer (some ⟨kb, 0, none⟩)] W fun e W' => e = .returned (.bool (upF s (remN (nat2 h l) d))) ∧ Below W.heap.size W W' :=
    fun W hW => floor1_any _ _ h l _ _ _ kb W (Nat.lt_trans (rem_lt h0) hd) (hk.keep hW)
  unfold floorN
  cases hb : upF s (remN (nat2 h l) d) with
  | true =>
    rw [hb] at hup
    rw [if_pos rfl]
    exact rounded_floor_up s h l d ⟨kb, 0, none⟩ w hh hl hd h0 hup (upF_fit (nat2_lt hh hl) h0 hb)
  | false =>
    rw [hb] at hup
    rw [if_neg (by decide), ZW_ZV]
    exact rounded_floor_no s h l d ⟨kb, 0, none⟩ w hh hl hd h0 hup

theorem cell_new1 (w : World) (v : Value) (T : TypeId) : (w.alloc (.cells #[v] T)).cell? ⟨w.heap.size, 0, none⟩ = some v := by
  rw [Joins.cell_of_block (heap_alloc_new w (.cells #[v] T))]; rfl

theorem even_ok (s : Bool) (h l d : Nat) (w : World) (hh : h < B64) (hl : l < B64) (hd : d < B64) (h0 : 0 < d) :
    Calls Try.prog 28 #[WV s h l, .int .u64 d] w fun e w' => e = .returned (.tuple #[ZW (val s (evenN (nat2 h l) d)), .int .i64 0]) ∧ Below w.heap.size w w' := by
  go_enter Try.func28, Try.ntmps28
  go_wp2_with fail
  refine (rounded_even _ _ _ _ _ _ hh hl hd h0 (by
    rw [((Below.refl _ _).alloc (Nat.le_refl _) _ : Below (World.heap (World.alloc (World.alloc w _) _)).size _ _).cell (by simp)]
    rw [← size_alloc w]; exact cell_new1 _ _ _) (by simp)).mono ?_
  rintro e w1 ⟨rfl, hb⟩
  obtain ⟨hc, hf⟩ := bcell hb
  go_wp2_with fail
  refine bodyPost_ret (v := .tuple #[ZW (val s (evenN (nat2 h l) d)), .int .i64 0]) (by simp [results, Try.results28, go_sem, hc]) rfl ⟨rfl, ?_⟩
  exact (((((((Below.refl _ _).alloc (Nat.le_refl _) _).alloc (by simp) _).alloc (by simp; omega) _).trans (hb.mono (by simp; omega))).setCell (by simp; omega) _).setCell (by simp; omega) _).setCell (by simp; omega) _

theorem floor_ok (s : Bool) (h l d : Nat) (w : World) (hh : h < B64) (hl : l < B64) (hd : d < B64) (h0 : 0 < d) :
    Calls Try.prog 29 #[WV s h l, .int .u64 d] w fun e w' => e = .returned (.tuple #[ZW (val s (floorN s (nat2 h l) d)), .int .i64 0]) ∧ Below w.heap.size w w' := by
  go_enter Try.func29, Try.ntmps29
  go_wp2_with fail
  refine (rounded_floor _ _ _ _ _ _ hh hl hd h0 ((Box3.new w _ _ _ _).alloc _)).mono ?_
  rintro e w1 ⟨rfl, hb⟩
  obtain ⟨hc, hf⟩ := bcell hb
  go_wp2_with fail
  refine bodyPost_ret (v := .tuple #[ZW (val s (floorN s (nat2 h l) d)), .int .i64 0]) (by simp [results, Try.results29, go_sem, hc]) rfl ⟨rfl, ?_⟩
  exact ((((((Below.refl _ _).alloc (Nat.le_refl _) _).alloc (by simp) _).trans (hb.mono (by simp; omega))).setCell (by simp) _).setCell (by simp) _).setCell (by simp) _
end Go.Proofs.Ytgkogjlcecbfjaa

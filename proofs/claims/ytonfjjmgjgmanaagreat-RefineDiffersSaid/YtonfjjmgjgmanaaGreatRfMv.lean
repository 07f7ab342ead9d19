/- Contracts of package refine: Moved, Map. (Written by wip/gen/genrfmv.py.) -/
import Derived.Test.YtonfjjmgjgmanaaGreatRfQ
import Derived.Test.YtonfjjmgjgmanaaGreatTlP
import Derived.BigQuiet
namespace Corr
set_option maxRecDepth 8000
open Go Go.RowKit
set_option linter.unusedVariables false
/-- What pieces that do not meet have on a day. -/
theorem at_of {L : ItL} {d v : Int} (h1 : ∀ y ∈ L, onB d y = true → y.2.2 = v) (h2 : ∃ y ∈ L, onB d y = true) : atL L d = v := by
  unfold atL
  cases h : L.reverse.find? (onB d) with
  | none =>
    obtain ⟨y, hy, ho⟩ := h2
    exact absurd ho (List.find?_eq_none.1 h y (List.mem_reverse.2 hy))
  | some y => exact h1 y (List.mem_reverse.1 (List.mem_of_find?_eq_some h)) (List.find?_some h)
theorem cov_in {f : Int → Int} : ∀ {l : ItL} {a b : Int}, covP f a b l → ∀ y ∈ l, a ≤ y.1 ∧ y.1 < y.2.1 ∧ y.2.1 ≤ b ∧ ∀ d, y.1 ≤ d → d < y.2.1 → f d = y.2.2
  | [], _, _, _, y, hy => by cases hy
  | s :: r, a, b, h, y, hy => by
    obtain ⟨h1, h2, h3, h4, h5⟩ := h
    have hl := covP_le h5
    rcases List.mem_cons.1 hy with rfl | hy
    · exact ⟨by omega, h2, by omega, h3⟩
    · obtain ⟨k1, k2, k3, k4⟩ := cov_in h5 y hy
      exact ⟨by omega, k2, k3, k4⟩
theorem cov_has {f : Int → Int} : ∀ {l : ItL} {a b d : Int}, covP f a b l → a ≤ d → d < b → ∃ y ∈ l, onB d y = true
  | [], a, b, d, h, h1, h2 => by have : a = b := h; omega
  | s :: r, a, b, d, h, h1, h2 => by
    obtain ⟨g1, g2, g3, g4, g5⟩ := h
    by_cases hd : d < s.2.1
    · exact ⟨s, List.mem_cons_self, by unfold onB; simp; omega⟩
    · obtain ⟨y, hy, ho⟩ := cov_has g5 (by omega) h2
      exact ⟨y, List.mem_cons_of_mem _ hy, ho⟩
theorem cov_good {f : Int → Int} {l : ItL} (h : covP f 1 3652060 l) : goodL l := fun y hy => by
  obtain ⟨h1, h2, h3, _⟩ := cov_in h y hy
  exact mayB_iff.2 ⟨h1, h2, h3⟩
theorem cov_atL {f : Int → Int} {l : ItL} (h : covP f 1 3652060 l) (ho : offF f) : atL l = f := by
  funext d
  by_cases hd : 1 ≤ d ∧ d < 3652060
  · refine at_of (fun y hy hb => ?_) (cov_has h hd.1 hd.2)
    obtain ⟨_, _, _, k⟩ := cov_in h y hy
    have := onB_iff.1 hb
    exact (k d this.1 this.2).symm
  · rw [ho d (by omega)]
    exact atL_off (cov_good h) d (by omega)
/-- Days are not many. -/
def clampK (k : Int) : Int := min (max k (-3652060)) 3652060
theorem mvF_clamp {f : Int → Int} (h : offF f) (k : Int) : mvF f (clampK k) = mvF f k := by
  funext d
  unfold mvF clampK
  by_cases hd : 1 ≤ d ∧ d < 3652060
  · rw [if_pos hd, if_pos hd]
    by_cases hk : -3652060 ≤ k ∧ k ≤ 3652060
    · congr 1; omega
    · rw [h (d - k) (by omega), h _ (by omega)]
  · rw [if_neg hd, if_neg hd]
theorem put_moved {k : Int} {l : ItL} {j : Nat} {y : It} (h : l[j]? = some y) : putF (atL (movedL k (l.take j))) (max (y.1 + k) 1) (min (y.2.1 + k) 3652060) y.2.2 = atL (movedL k (l.take (j + 1))) := by
  rw [movedL_more h, ← atL_put]
  have e1 : max (y.1 + k) 1 = max 1 (y.1 + k) := by omega
  have e2 : min (y.2.1 + k) 3652060 = min 3652060 (y.2.1 + k) := by omega
  rw [e1, e2]; rfl
end Corr
namespace Go.Proofs.YtonfjjmgjgmanaaGreat
set_option maxRecDepth 8000
open Go.RowKit Corr
set_option linter.unusedVariables false
set_option linter.unusedSimpArgs false
/-- A new timeline of the call's own, behind some puts. -/
def RetNew (Rep : RepL) (w : World) (n : Nat) (f : Int → Int) (e : Ending) (w' : World) : Prop := ∃ (q : Addr) (F : Nat → Prop) (m : Nat), e = .returned (.pointer (some q)) ∧ m ≤ n ∧ Rep w' (.pointer (some q)) F m f ∧ Below w.heap.size w w' ∧ ∀ k, F k → w.heap.size ≤ k
set_option maxHeartbeats 4000000 in
theorem rfmoved_any {Rep : RepL} (K : TlK0 Rep) (p : Value) (f : Int → Int) (n : Nat) (k : Int) (w : World) (HS : ∀ w', Below w.heap.size w w' → Calls Tryz.prog 23 #[p, .agg #[.int .i64 1, .int .i64 3652060]] w' (RetSegF 45 w' f 1 3652060)) (hl : ∀ l, segF f 1 3652060 l → l.length ≤ n) (hn : n ≤ 300) (ho : offF f) (hk1 : -9223372036854775808 ≤ k) (hk2 : k ≤ 9223372036854775807) :
    Calls Tryz.prog 10 #[p, .int .i64 k] w (RetNew Rep w n (mvF f k)) := by
  have HK := Lib.hid K
  have HSG := Lib.hid HS
  have HLN := Lib.hid hl
  have HOF := Lib.hid ho
  have hmx := fun t ty x y w => run_max2 (P := Tryz.prog) t ty x y w
  have hmn := fun t ty x y w => run_min2 (P := Tryz.prog) t ty x y w
  clear K HS hl ho
  go_enter Tryz.func10, Tryz.ntmps10
  go_wp2_with fail
  refine (HK.out.make w).mono ?_
  rintro e w1 ⟨q, F, rfl, hr, hb, hF⟩
  have HS1 := Lib.hid (show Sep w [tlT HK.out.toTlOk (.pointer (some q)) 0 (fun _ => 0)] w1 from (Sep.nil w).add hb (t := tlT HK.out.toTlOk (.pointer (some q)) 0 (fun _ => 0)) hr hF)
  clear hr hb hF
  obtain ⟨kc, hkc⟩ : ∃ kc, min (max k (-3652060)) 3652060 = kc := ⟨_, rfl⟩
  have HKC := Lib.hid (show clampK k = kc from hkc)
  have hc1 : -3652060 ≤ kc := by omega
  have hc2 : kc ≤ 3652060 := by omega
  rw [hkc]
  clear hkc
  go_wp2_with fail
  refine (rfall_any _).mono ?_
  rintro e w2 ⟨rfl, b2⟩
  have HS2 := Lib.hid (HS1.out.keep b2)
  clear b2
  go_wp2_with fail
  refine (HSG.out w2 HS2.out.bl).mono ?_
  rintro e w3 ⟨l, A, N, c, rfl, hsg, hown, b3⟩
  have HCV := Lib.hid (show covP f 1 3652060 l by unfold segF at hsg; rw [if_pos (by decide)] at hsg; exact hsg)
  have hln := HLN.out l hsg
  have HS3 := Lib.hid (show Sep w [tlT HK.out.toTlOk (.pointer (some q)) 0 (atL (movedL kc (l.take 0))), rowT w2.heap.size 45 3 A N c (cells3 l)] w3 from HS2.out.addRow hown (own_ge hown) b3)
  have HLL := Lib.hid (show l.length = N from Itm.count (own_lies hown))
  have hNn : N ≤ n := by rw [← HLL.out]; exact hln
  clear hsg hown b3 HS1 HS2
  go_upto_region 4 with fail
  go_loopw [16] (fun u wr => ∃ j : Nat, u = .int .i64 (j : Int) ∧ j ≤ N ∧ Hid (Sep w [tlT HK.out.toTlOk (.pointer (some q)) j (atL (movedL kc (l.take j))), rowT w2.heap.size 45 3 A N c (cells3 l)] wr)) (fun u _ => (N - intOf u).toNat)
  case atStart => exact ⟨0, rfl, by omega, HS3⟩
  case round =>
    obtain ⟨j, rfl, hj, HS⟩ := hrel
    clear HS3
    by_cases hlt : j < N
    · obtain ⟨ga, off, y, rfl, hy, hga, c0, c1, c2⟩ := Itm.get (own_lies (HS.out.row 1 rfl)) hlt
      have HY := Lib.hid (put_moved (k := kc) hy)
      have HYB := Lib.hid (cov_in HCV.out y (List.mem_of_getElem? hy))
      obtain ⟨y1, y2, y3⟩ := y
      simp only [] at c0 c1 c2
      have hy1 := HYB.out.1
      have hy2 := HYB.out.2.1
      have hy3 := HYB.out.2.2.1
      simp only [] at hy1 hy2 hy3
      have d0 : decide ((j : Int) < (N : Int)) = true := decide_eq_true (by omega)
      have d1 : (0 : Int) ≤ (j : Int) := by omega
      have d2 : (j : Int) < (N : Int) := by omega
      have d3 : ((j : Int)).toNat = j := by omega
      have d4 : decide ((j : Int) < 0) = false := decide_eq_false (by omega)
      clear hy
      go_upto_region 6 with fail
      have HP := Lib.hid (HS.out.push #[.int .i64 y1, .int .i64 y2, .int .i64 y3] 45)
      obtain ⟨hp, hhp⟩ : ∃ z, wr.heap.size = z := ⟨_, rfl⟩
      rw [hhp] at HP ⊢
      clear hhp c0 c1 c2 hga
      generalize wr.alloc (.cells #[.int .i64 y1, .int .i64 y2, .int .i64 y3] 45) = wp at *
      have hb := Sep.b HP.out 2 (k := hp) (vs := #[.int .i64 y1, .int .i64 y2, .int .i64 y3]) rfl
      have z0 := hb.get 0 rfl
      have z1 := hb.get 1 rfl
      have z2 := hb.get 2 rfl
      clear hb
      go_wp2_with fail
      refine (sep0_tput HK.out HP.out (i := 0) (p := .pointer (some q)) (N := j) rfl (by omega) (max (y1 + kc) 1) (min (y2 + kc) 3652060) y3).mono ?_
      rintro e w5 ⟨rfl, h5⟩
      have HS5 := Lib.hid (show Sep w [tlT HK.out.toTlOk (.pointer (some q)) (j + 1) (atL (movedL kc (l.take (j + 1)))), rowT w2.heap.size 45 3 (some ⟨ga, off, none⟩) N c (cells3 l)] w5 from by
        have h6 := h5.take 2
        rw [HY.out] at h6
        exact h6)
      clear h5 z0 z1 z2
      go_wp2_with fail
      go_roundw
      case rel => exact ⟨j + 1, by go_num, by omega, HS5⟩
      case measure => simp [intOf]; omega
    · have d0 : decide ((j : Int) < (N : Int)) = false := decide_eq_false (by omega)
      have HTK := Lib.hid (show l.take j = l from List.take_of_length_le (by rw [HLL.out]; omega))
      have HFF := Lib.hid (show atL (movedL kc l) = mvF f k by rw [moved_F (cov_good HCV.out), cov_atL HCV.out HOF.out, ← HKC.out, mvF_clamp HOF.out])
      go_wp2_with fail
      refine bodyPost_ret (results_tmp rfl _ _ _) rfl ?_
      obtain ⟨F, h1, h2, _⟩ := HS.out.get (i := 0) (t := tlT HK.out.toTlOk (.pointer (some q)) j (atL (movedL kc (l.take j)))) rfl
      exact ⟨q, F, j, rfl, by omega, (by rw [HTK.out, HFF.out] at h1; exact h1), HS.out.bl, h2⟩
end Go.Proofs.YtonfjjmgjgmanaaGreat

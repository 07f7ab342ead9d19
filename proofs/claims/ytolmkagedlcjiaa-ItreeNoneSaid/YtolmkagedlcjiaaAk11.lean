/- Contracts of package avl: balance, rise. (Written by wip/gen/genak11.py.) -/
import Derived.Test.YtolmkagedlcjiaaAk9
import Derived.Test.YtolmkagedlcjiaaAk10
import Derived.Test.YtolmkagedlcjiaaAk2
import Derived.Test.YtolmkagedlcjiaaAkRise
import Derived.Deep.LoopGhost
namespace Go.Proofs.Ytolmkagedlcjiaa
set_option maxRecDepth 8000
open Go.RowKit Corr
set_option linter.unusedVariables false
set_option linter.unusedSimpArgs false
theorem balance_any (g n c gK : Nat) (M r : Int) (K : KnL) (p : Nat) (k : Kn) (a b : PT) (w : World) (H : Ar 59 w g M r (some ⟨gK, 0, none⟩) n c K) (hk : K[p]? = some k) (hl : k.l = a.root) (hr : k.r = b.root) (ra : Rp K a) (rb : Rp K b) (nd : (PT.node a p k.it b).places.Nodup) (ba : a.bal) (bb : b.bal) (h1 : a.height ≤ 800) (h2 : b.height ≤ 800) (hn : n ≤ 2000) (hd : a.height ≤ b.height + 2 ∧ b.height ≤ a.height + 2) :
    Calls Try.prog 51 #[.pointer (some ⟨g, 0, none⟩), .int .i64 (p : Int)] w (RetBal g n c gK M r K a b p k.it w) := by
  by_cases h3 : a.height = b.height + 2
  · cases a with
    | nil => simp [PT.height] at h3
    | node a1 q y a2 =>
      by_cases h4 : a2.height ≤ a1.height
      · exact bal_r1 g n c gK M r K p k a1 a2 b q y w H hk hl hr ra rb nd ba bb h1 h2 hn h3 h4
      · cases a2 with
        | nil => simp [PT.height] at h4
        | node c1 s z c2 => exact bal_r2 g n c gK M r K p k a1 c1 c2 b q s y z w H hk hl hr ra rb nd ba bb h1 h2 hn h3 (by omega)
  · by_cases h5 : b.height = a.height + 2
    · cases b with
      | nil => simp [PT.height] at h5
      | node b1 q y b2 =>
        by_cases h4 : b1.height ≤ b2.height
        · exact bal_l1 g n c gK M r K p k a b1 b2 q y w H hk hl hr ra rb nd ba bb h1 h2 hn h5 h4
        · cases b1 with
          | nil => simp [PT.height] at h4
          | node c1 s z c2 => exact bal_l2 g n c gK M r K p k a c1 c2 b2 q s y z w H hk hl hr ra rb nd ba bb h1 h2 hn h5 (by omega)
    · by_cases h6 : (a.height : Int) < b.height
      · exact bal_ok1 g n c gK M r K p k a b w H hk hl hr ra rb nd ba bb h1 h2 hn ⟨h6, by omega⟩
      · exact bal_ok0 g n c gK M r K p k a b w H hk hl hr ra rb nd ba bb h1 h2 hn ⟨by omega, by omega⟩
theorem stF (p : Nat) (b : Bool) (w : World) : (Instr.field 65 (.agg #[.int .i64 (p : Int), .int .i64 (sdI b)]) 0).run Try.prog w = .ok (.int .i64 (p : Int)) w := by kernel_rfl
/-- What rise leaves. -/
def RetRise (g gW n c gK : Nat) (M : Int) (K0 : KnL) (L : ItL) (P : List Nat) (w0 : World) (e : Ending) (w' : World) : Prop := ∃ t' K' h0, e = .returned (.tuple #[]) ∧ Ar 59 w' g M t'.root (some ⟨gK, 0, none⟩) n c K' ∧ RiseP K0 L P .top t' K' t'.root t'.root h0 ∧ Off (fun k => inAr g (some ⟨gK, 0, none⟩) n c k ∨ k = gW) w0 w'
set_option maxHeartbeats 8000000 in
theorem rise_any (g gW n c gK : Nat) (M r : Int) (K0 K : KnL) (L : ItL) (P : List Nat) (cx : Cx) (t : PT) (h0 : Nat) (w : World) (H : Ar 59 w g M r (some ⟨gK, 0, none⟩) n c K) (W : WayM w gW cx.way) (hne : ¬ inAr g (some ⟨gK, 0, none⟩) n c gW) (R : RiseP K0 L P cx t K r t.root h0) (hL : L.length ≤ 1500) (hn : n ≤ 2000) :
    Calls Try.prog 44 #[.pointer (some ⟨g, 0, none⟩), .pointer (some ⟨gW, 0, none⟩)] w (RetRise g gW n c gK M K0 L P w) := by
  have HA0 := Lib.hid H
  have HW0 := Lib.hid W
  have HR0 := Lib.hid R
  have HNE := Lib.hid hne
  have HF0 := Lib.hid (Off.refl (fun k => inAr g (some ⟨gK, 0, none⟩) n c k ∨ k = gW) w)
  clear H W R hne
  go_enter Try.func44, Try.ntmps44
  go_wp2_with fail
  go_loopg [4] cx.way.length (fun k v wr => ∃ (cx : Cx) (t : PT) (K : KnL) (r : Int) (h0 : Nat), Hid (k = cx.way.length) ∧ Hid (Ar 59 wr g M r (some ⟨gK, 0, none⟩) n c K) ∧ Hid (WayM wr gW cx.way) ∧ Hid (RiseP K0 L P cx t K r t.root h0) ∧ Hid (Off (fun k => inAr g (some ⟨gK, 0, none⟩) n c k ∨ k = gW) w wr))
  case atStart => exact ⟨cx, t, K, r, h0, Lib.hid rfl, HA0, HW0, HR0, HF0⟩
  case round =>
    clear HA0 HW0 HR0 HF0
    clear h0 t K r cx
    obtain ⟨cx, t, K, r, h0, HK, HA, HW, HR, HF⟩ := hrel
    obtain ⟨vs, B, V⟩ := HW.out
    have c56 := B.get 56 V.cnt
    clear B V
    cases hlast : cx.last with
    | none =>
      have hcx : cx = .top := by cases cx <;> simp [Cx.last] at hlast ⊢
      subst hcx
      have c56 : wr.cell? ⟨gW, 56, none⟩ = some (.int .i64 0) := c56
      clear hlast
      go_wp2_with fail
      go_end0
      exact ⟨t, K, h0, rfl, by rw [← HR.out.rc]; exact HA.out, HR.out.top, HF.out⟩
    | some pb =>
      obtain ⟨p, b⟩ := pb
      obtain ⟨c', a, d, k, hway, ST⟩ := HR.out.step hlast
      have HST := Lib.hid ST
      have HWY := Lib.hid hway
      have HW' := Lib.hid (show WayM wr gW (c'.way ++ [(p, b)]) by rw [← hway]; exact HW.out)
      have HKC := Lib.hid (show gk = c'.way.length + 1 by rw [HK.out, hway]; simp)
      rw [hway] at c56
      have c56 : wr.cell? ⟨gW, 56, none⟩ = some (.int .i64 ((c'.way.length : Int) + 1)) := by rw [c56]; simp
      obtain ⟨m, hm⟩ : ∃ m, c'.way.length = m := ⟨_, rfl⟩
      rw [hm] at c56
      have d0 : decide ((m : Int) + 1 > 0) = true := decide_eq_true (by omega)
      have HM := Lib.hid hm
      clear hm hway ST hlast HK
      go_wp2_with fail
      refine (pop_any gW c'.way p b wr HW'.out).mono ?_
      rintro e w1 ⟨rfl, hW1, hF1⟩
      have HA1 := Lib.hid (HA.out.off hF1 (fun e => HNE.out (.inl e.symm)) (fun k hk e => HNE.out (.inr (by rw [← e]; exact hk))))
      have HW1 := Lib.hid hW1
      have HF1 := Lib.hid (HF.out.trans (hF1.mono fun k _ e => .inr e))
      have hfd := stF p b
      clear hW1 hF1 c56
      go_wp2_with fail
      refine (balance_any g n c gK M r K p k a d w1 HA1.out HST.out.kp HST.out.kl HST.out.kr HST.out.ra HST.out.rd HST.out.nd HST.out.ba HST.out.bd (by have := bal_le HST.out.ba (Nat.le_trans HST.out.la hL); omega) (by have := bal_le HST.out.bd (Nat.le_trans HST.out.ld hL); omega) hn HST.out.h).mono ?_
      rintro e w2 ⟨K', t', rfl, hA2, hB2, hF2⟩
      obtain ⟨h1, hR2⟩ := HST.out.on K' t' hB2
      have HA2 := Lib.hid hA2
      have HR2 := Lib.hid hR2
      have HF2 := Lib.hid (HF1.out.trans (hF2.mono fun k _ e => .inl e))
      have HW2 := Lib.hid (HW1.out.off hF2 HNE.out)
      clear hA2 hR2 hF2 hB2 hfd
      go_wp2_with fail
      cases hl2 : c'.last with
      | none =>
        have hcx : c' = .top := by cases c' <;> simp [Cx.last] at hl2 ⊢
        subst hcx
        clear hl2
        refine (hang_top g gW n c _ M r t'.root K' w2 HA2.out HW2.out).mono ?_
        rintro e w3 ⟨rfl, hA3, hF3⟩
        have HA3 := Lib.hid hA3
        have HF3 := Lib.hid (HF2.out.trans (hF3.mono fun k _ e => .inl e))
        have HW3 := Lib.hid (HW2.out.off hF3 HNE.out)
        clear hA3 hF3
        go_wp2_with fail
        go_roundg 0
        case measure => rw [HKC.out]; omega
        case rel => exact ⟨.top, t', K', _, _, Lib.hid rfl, HA3, HW3, Lib.hid HR2.out.top, HF3⟩
      | some pb2 =>
        obtain ⟨p2, b2⟩ := pb2
        obtain ⟨k2, hk2, hR3⟩ := HR2.out.hang hl2 t'.root
        have HR3 := Lib.hid hR3
        have HWL := Lib.hid (Cx.way_last hl2)
        refine (hang_any g gW n c gK M r t'.root K' c'.up p2 b2 k2 w2 HA2.out (by rw [← HWL.out]; exact HW2.out) hk2 hn).mono ?_
        rintro e w3 ⟨rfl, hA3, hF3⟩
        have HA3 := Lib.hid hA3
        have HF3 := Lib.hid (HF2.out.trans (hF3.mono fun k _ e => .inl e))
        have HW3 := Lib.hid (HW2.out.off hF3 HNE.out)
        clear hA3 hF3 hR3 hk2 hl2
        go_wp2_with fail
        go_roundg c'.way.length
        case measure => rw [HKC.out]; omega
        case rel => exact ⟨c', t', _, _, _, Lib.hid rfl, HA3, HW3, HR3, HF3⟩
end Go.Proofs.Ytolmkagedlcjiaa

/- Contract of through of package spans: two right lists gone through side by side, by a function of two truths. -/
import Derived.Test.YtmolbckndkhhlaaSpOf
import Derived.Test.YtmolbckndkhhlaaSpAhead
import Derived.Shelf.Abstract
import Derived.Deep.RegionWith
namespace Go.Proofs.Ytmolbckndkhhlaa
set_option maxRecDepth 8000
open Go.RowKit Corr
set_option linter.unusedVariables false
set_option linter.unusedSimpArgs false
set_option maxHeartbeats 8000000 in
theorem through_any (HSC : SortC) (kind : Int) (f : FuncId) (eg : ∀ args w, (callFunc f args).run Try.prog w = .ok (.enter f args) w) (hf : ∀ (p q : Bool) (w : World), Calls Try.prog f #[.bool p, .bool q] w fun e w' => e = .returned (.bool (takeB kind p q)) ∧ w' = w)
    (A B : Option Addr) (n c m d : Nat) (a b : SpL) (w : World) (Sa : Spn w A n c a) (Sb : Spn w B m d b) (hn : n ≤ 1000000) (hm : m ≤ 1000000) : Calls Try.prog 30 #[.slice A n c, .slice B m d, .func (.func f) #[] #[]] w (RetSpn 37 w (twoL kind a b)) := by
  have HF := Lib.hid hf
  have KA := Lib.hid (of_max HSC A n c a w Sa hn)
  have KB := Lib.hid (fun (w1 : World) (h : Below w.heap.size w w1) => of_max HSC B m d b w1 (Sb.keep h) hm)
  clear Sa Sb HSC hf hn hm
  go_enter Try.func30, Try.ntmps30
  go_wp2_with (first | (go_at_call 12; refine KA.out.mono ?_; rintro e w1 ⟨A1, n1, c1, rfl, o1, hb1⟩; have O1 := Lib.hid (own_lies o1); have HB1 := Lib.hid hb1; clear o1 hb1 KA) | (go_at_call 12; refine (KB.out _ HB1.out).mono ?_; rintro e w2 ⟨B1, m1, d1, rfl, o2, hb2⟩; have O2 := Lib.hid (own_lies o2); have OA := Lib.hid (O1.out.keep hb2); have HB2 := Lib.hid (HB1.out.trans (hb2.mono HB1.out.size)); clear o2 hb2 KB O1 HB1))
  obtain ⟨E, hE⟩ : ∃ E : Int, E = 3652060 := ⟨_, rfl⟩
  go_loopw [0, 1, 7, 8] (fun va vb vl vd wr => ∃ (A1 : Option Addr) (n1 c1 : Nat) (B1 : Option Addr) (m1 d1 : Nat) (a1 b1 L : SpL) (p : Nat) (day : Int), va = .slice A1 n1 c1 ∧ vb = .slice B1 m1 d1 ∧ vd = .int .i64 day ∧ Hid (Spn w2 A1 n1 c1 a1) ∧ Hid (Spn w2 B1 m1 d1 b1) ∧ Hid (Thr kind a b a1 b1 day L) ∧ Hid (L.length = p) ∧ wr.ownsRow w2.heap.size 37 2 vl p (cells2 L) ∧ Below w2.heap.size w2 wr) (fun _ _ _ t _ => (E - intOf t).toNat)
  case atStart => exact ⟨A1, n1, c1, B1, m1, d1, _, _, [], 0, 1, rfl, rfl, rfl, OA, O2, Lib.hid (Thr.start kind a b), Lib.hid rfl, World.ownsRow_nil _ _ _ _, Below.refl _ _⟩
  case round =>
    clear OA O2
    obtain ⟨A3, n3, c3, B3, m3, d3, a1, b1, L, p, day, rfl, rfl, rfl, R1, R2, HT, HL, hown, hb⟩ := hrel
    have HB := Lib.hid hb
    have hsz := hb.size
    clear hb
    by_cases hlt : day < 3652060
    · obtain ⟨A9, c9, rfl, _⟩ := Lies.of_own hown hown.1
      have hp : p ≤ 4000000 := by have h1 := HT.out.len; have h2 := HT.out.hi; have h3 := HL.out; omega
      have hd0 : decide (day < 3652060) = true := decide_eq_true hlt
      obtain ⟨nx, hnx⟩ : ∃ nx, min (stretchN (aheadL a1 day) day) (stretchN (aheadL b1 day) day) = nx := ⟨_, rfl⟩
      have HS := Lib.hid (HT.out.step hlt hnx)
      have hnext := HT.out.next hlt
      rw [hnx] at hnext
      have QA := Lib.hid (fun (A : Option Addr) (n c : Nat) (w' : World) (R : Spn w' A n c (aheadL a1 day)) => stretch_any A n c (aheadL a1 day) day w' R)
      have QB := Lib.hid (fun (A : Option Addr) (n c : Nat) (w' : World) (R : Spn w' A n c (aheadL b1 day)) => stretch_any A n c (aheadL b1 day) day w' R)
      have HM := Lib.hid hnx
      clear hnx
      obtain ⟨na, hna⟩ : ∃ na, stretchN (aheadL a1 day) day = na := ⟨_, rfl⟩
      obtain ⟨nb, hnb⟩ : ∃ nb, stretchN (aheadL b1 day) day = nb := ⟨_, rfl⟩
      obtain ⟨pa, hpa⟩ : ∃ pa, stretchB (aheadL a1 day) day = pa := ⟨_, rfl⟩
      obtain ⟨pb, hpb⟩ : ∃ pb, stretchB (aheadL b1 day) day = pb := ⟨_, rfl⟩
      rw [hna, hnb] at HM
      rw [hpa, hpb] at HS
      simp only [hna, hpa] at QA
      simp only [hnb, hpb] at QB
      clear hna hnb hpa hpb
      have KP := Lib.hid (fun (W : World) (h : W.ownsRow w2.heap.size 37 2 (.slice A9 p c9) p (cells2 L)) (hW : w2.heap.size ≤ W.heap.size) => put_any w2.heap.size A9 p c9 L day nx W h hW hp)
      have HLL := Lib.hid (putL_len L (day, nx))
      have HFF := Lib.hid (HF.out pa pb)
      obtain ⟨tk, htk⟩ : ∃ tk, takeB kind pa pb = tk := ⟨_, rfl⟩
      rw [htk] at HS HFF
      obtain ⟨hx1, hx2⟩ := hnext
      have hx3 : nx ≤ E := by omega
      clear htk hp hx2 hlt hE
      by_cases hle : na ≤ nb
      · obtain rfl : na = nx := by rw [← HM.out]; omega
        cases tk with
        | false =>
          have HS2 := Lib.hid (show Thr kind a b (aheadL a1 day) (aheadL b1 day) na L from by have := HS.out; rwa [if_neg (by decide)] at this)
          clear HS
          go_wp2_with (first | (go_at_call_of 41 A3; refine (ahead_any A3 n3 c3 a1 day w2 wr R1.out HB.out).mono ?_; rintro e w5 ⟨A5, n5, c5, rfl, r5, hb5⟩; have R5 := Lib.hid r5; have W5 := Lib.hid hb5; have B5 := Lib.hid (HB.out.trans (hb5.mono HB.out.size)); clear r5 hb5) | (go_at_call_of 41 B3; refine (ahead_any B3 m3 d3 b1 day w2 w5 R2.out B5.out).mono ?_; rintro e w6 ⟨A6, n6, c6, rfl, r6, hb6⟩; have R6 := Lib.hid r6; have W6 := Lib.hid (W5.out.trans (hb6.mono W5.out.size)); have B6 := Lib.hid (B5.out.trans (hb6.mono B5.out.size)); clear r6 hb6) | (go_at_call_of 42 A5; refine (QA.out A5 n5 c5 w6 (R5.out.keep B6.out)).mono ?_; rintro e w7 ⟨rfl, hb7⟩; have W7 := Lib.hid (W6.out.trans (hb7.mono W6.out.size)); have B7 := Lib.hid (B6.out.trans (hb7.mono B6.out.size)); clear hb7) | (go_at_call_of 42 A6; refine (QB.out A6 n6 c6 w7 (R6.out.keep B7.out)).mono ?_; rintro e w8 ⟨rfl, hb8⟩; have W8 := Lib.hid (W7.out.trans (hb8.mono W7.out.size)); have B8 := Lib.hid (B7.out.trans (hb8.mono B7.out.size)); clear hb8) | (go_at_fn f; refine (HFF.out w8).mono ?_; rintro e w9 ⟨rfl, rfl⟩))
          go_roundw
          case rel => exact ⟨A5, n5, c5, A6, n6, c6, _, _, _, p, _, rfl, rfl, rfl, R5, R6, HS2, HL, own_keep hown W8.out, B8.out⟩
          case measure => simp [intOf]; omega
        | true =>
          have HS2 := Lib.hid (show Thr kind a b (aheadL a1 day) (aheadL b1 day) na (putL L (day, na)) from by have := HS.out; rwa [if_pos rfl] at this)
          clear HS
          go_wp2_with (first | (go_at_call_of 41 A3; refine (ahead_any A3 n3 c3 a1 day w2 wr R1.out HB.out).mono ?_; rintro e w5 ⟨A5, n5, c5, rfl, r5, hb5⟩; have R5 := Lib.hid r5; have W5 := Lib.hid hb5; have B5 := Lib.hid (HB.out.trans (hb5.mono HB.out.size)); clear r5 hb5) | (go_at_call_of 41 B3; refine (ahead_any B3 m3 d3 b1 day w2 w5 R2.out B5.out).mono ?_; rintro e w6 ⟨A6, n6, c6, rfl, r6, hb6⟩; have R6 := Lib.hid r6; have W6 := Lib.hid (W5.out.trans (hb6.mono W5.out.size)); have B6 := Lib.hid (B5.out.trans (hb6.mono B5.out.size)); clear r6 hb6) | (go_at_call_of 42 A5; refine (QA.out A5 n5 c5 w6 (R5.out.keep B6.out)).mono ?_; rintro e w7 ⟨rfl, hb7⟩; have W7 := Lib.hid (W6.out.trans (hb7.mono W6.out.size)); have B7 := Lib.hid (B6.out.trans (hb7.mono B6.out.size)); clear hb7) | (go_at_call_of 42 A6; refine (QB.out A6 n6 c6 w7 (R6.out.keep B7.out)).mono ?_; rintro e w8 ⟨rfl, hb8⟩; have W8 := Lib.hid (W7.out.trans (hb8.mono W7.out.size)); have B8 := Lib.hid (B7.out.trans (hb8.mono B7.out.size)); clear hb8) | (go_at_fn f; refine (HFF.out w8).mono ?_; rintro e w9 ⟨rfl, rfl⟩) | (go_at_call 29; refine (KP.out w9 (own_keep hown W8.out) B8.out.size).mono ?_; rintro e w10 ⟨A10, n10, c10, rfl, hown10, hb10⟩; have O10 := Lib.hid hown10; have B10 := Lib.hid (B8.out.trans hb10); have HL10 := Lib.hid (Spn.count (own_lies hown10)); clear hown10 hb10))
          go_roundw
          case rel => exact ⟨A5, n5, c5, A6, n6, c6, _, _, _, n10, _, rfl, rfl, rfl, R5, R6, HS2, HL10, O10.out, B10.out⟩
          case measure => simp [intOf]; omega
      · obtain rfl : nb = nx := by rw [← HM.out]; omega
        cases tk with
        | false =>
          have HS2 := Lib.hid (show Thr kind a b (aheadL a1 day) (aheadL b1 day) nb L from by have := HS.out; rwa [if_neg (by decide)] at this)
          clear HS
          go_wp2_with (first | (go_at_call_of 41 A3; refine (ahead_any A3 n3 c3 a1 day w2 wr R1.out HB.out).mono ?_; rintro e w5 ⟨A5, n5, c5, rfl, r5, hb5⟩; have R5 := Lib.hid r5; have W5 := Lib.hid hb5; have B5 := Lib.hid (HB.out.trans (hb5.mono HB.out.size)); clear r5 hb5) | (go_at_call_of 41 B3; refine (ahead_any B3 m3 d3 b1 day w2 w5 R2.out B5.out).mono ?_; rintro e w6 ⟨A6, n6, c6, rfl, r6, hb6⟩; have R6 := Lib.hid r6; have W6 := Lib.hid (W5.out.trans (hb6.mono W5.out.size)); have B6 := Lib.hid (B5.out.trans (hb6.mono B5.out.size)); clear r6 hb6) | (go_at_call_of 42 A5; refine (QA.out A5 n5 c5 w6 (R5.out.keep B6.out)).mono ?_; rintro e w7 ⟨rfl, hb7⟩; have W7 := Lib.hid (W6.out.trans (hb7.mono W6.out.size)); have B7 := Lib.hid (B6.out.trans (hb7.mono B6.out.size)); clear hb7) | (go_at_call_of 42 A6; refine (QB.out A6 n6 c6 w7 (R6.out.keep B7.out)).mono ?_; rintro e w8 ⟨rfl, hb8⟩; have W8 := Lib.hid (W7.out.trans (hb8.mono W7.out.size)); have B8 := Lib.hid (B7.out.trans (hb8.mono B7.out.size)); clear hb8) | (go_at_fn f; refine (HFF.out w8).mono ?_; rintro e w9 ⟨rfl, rfl⟩))
          go_roundw
          case rel => exact ⟨A5, n5, c5, A6, n6, c6, _, _, _, p, _, rfl, rfl, rfl, R5, R6, HS2, HL, own_keep hown W8.out, B8.out⟩
          case measure => simp [intOf]; omega
        | true =>
          have HS2 := Lib.hid (show Thr kind a b (aheadL a1 day) (aheadL b1 day) nb (putL L (day, nb)) from by have := HS.out; rwa [if_pos rfl] at this)
          clear HS
          go_wp2_with (first | (go_at_call_of 41 A3; refine (ahead_any A3 n3 c3 a1 day w2 wr R1.out HB.out).mono ?_; rintro e w5 ⟨A5, n5, c5, rfl, r5, hb5⟩; have R5 := Lib.hid r5; have W5 := Lib.hid hb5; have B5 := Lib.hid (HB.out.trans (hb5.mono HB.out.size)); clear r5 hb5) | (go_at_call_of 41 B3; refine (ahead_any B3 m3 d3 b1 day w2 w5 R2.out B5.out).mono ?_; rintro e w6 ⟨A6, n6, c6, rfl, r6, hb6⟩; have R6 := Lib.hid r6; have W6 := Lib.hid (W5.out.trans (hb6.mono W5.out.size)); have B6 := Lib.hid (B5.out.trans (hb6.mono B5.out.size)); clear r6 hb6) | (go_at_call_of 42 A5; refine (QA.out A5 n5 c5 w6 (R5.out.keep B6.out)).mono ?_; rintro e w7 ⟨rfl, hb7⟩; have W7 := Lib.hid (W6.out.trans (hb7.mono W6.out.size)); have B7 := Lib.hid (B6.out.trans (hb7.mono B6.out.size)); clear hb7) | (go_at_call_of 42 A6; refine (QB.out A6 n6 c6 w7 (R6.out.keep B7.out)).mono ?_; rintro e w8 ⟨rfl, hb8⟩; have W8 := Lib.hid (W7.out.trans (hb8.mono W7.out.size)); have B8 := Lib.hid (B7.out.trans (hb8.mono B7.out.size)); clear hb8) | (go_at_fn f; refine (HFF.out w8).mono ?_; rintro e w9 ⟨rfl, rfl⟩) | (go_at_call 29; refine (KP.out w9 (own_keep hown W8.out) B8.out.size).mono ?_; rintro e w10 ⟨A10, n10, c10, rfl, hown10, hb10⟩; have O10 := Lib.hid hown10; have B10 := Lib.hid (B8.out.trans hb10); have HL10 := Lib.hid (Spn.count (own_lies hown10)); clear hown10 hb10))
          go_roundw
          case rel => exact ⟨A5, n5, c5, A6, n6, c6, _, _, _, n10, _, rfl, rfl, rfl, R5, R6, HS2, HL10, O10.out, B10.out⟩
          case measure => simp [intOf]; omega
    · have hd : day = 3652060 := by have := HT.out.hi; omega
      have HE := Lib.hid (show L = twoL kind a b by subst hd; exact HT.out.stop)
      have hd0 : decide (day < 3652060) = false := decide_eq_false hlt
      have HB4 := Lib.hid (HB2.out.trans (HB.out.mono HB2.out.size))
      have HO4 := Lib.hid (own_low hown HB2.out.size)
      obtain ⟨A3, c3, rfl, _⟩ := Lies.of_own hown hown.1
      clear hd hlt hE
      go_wp2_with fail
      go_ret
      exact ⟨A3, p, c3, rfl, by rw [← HE.out]; exact HO4.out, HB4.out⟩
end Go.Proofs.Ytmolbckndkhhlaa

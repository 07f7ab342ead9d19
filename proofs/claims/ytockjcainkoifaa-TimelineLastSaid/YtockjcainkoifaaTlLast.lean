/- The law TimelineLast. -/
import Derived.Test.YtockjcainkoifaaTlKnown
namespace Corr
set_option maxRecDepth 8000
open Go
theorem putF_in {f : Int → Int} {a b v d : Int} (hm : mayB a b = true) (h : a ≤ d ∧ d < b) : putF f a b v d = v := by
  unfold putF updF; rw [if_pos hm, if_pos h]
theorem putF_out {f : Int → Int} {a b v d : Int} (h : ¬ (mayB a b = true ∧ a ≤ d ∧ d < b)) : putF f a b v d = f d := by
  unfold putF updF
  split
  · rename_i hm
    exact if_neg (fun e => h ⟨hm, e⟩)
  · rfl
end Corr
namespace Go.Proofs.Ytockjcainkoifaa
set_option maxRecDepth 8000
open Go.RowKit Corr
set_option linter.unusedVariables false
set_option linter.unusedSimpArgs false
theorem tllast_long {Rep : RepL} (K : TlK Rep) (A : Option Addr) (N c : Nat) (a b v day : Int) (w : World) (hN : ¬ N ≤ 60) :
    Calls Try.prog 6 #[.slice A N c, .agg #[.int .i64 a, .int .i64 b, .int .i64 v], .int .i64 day] w fun e w' => e = .returned (.bool true) ∧ Below w.heap.size w w' := by
  have d0 : decide ((N : Int) > 60) = true := decide_eq_true (by omega)
  have HK := Lib.hid K
  have HB := Lib.hid ((Below.refl w.heap.size w).alloc (Nat.le_refl _) (.cells #[.int .i64 a, .int .i64 b, .int .i64 v] 33))
  clear K hN
  go_enter Try.func6, Try.ntmps6
  go_wp2_with fail
  refine (tlknown_any HK.out _).mono ?_
  rintro e w1 ⟨rfl, b1⟩
  have HB1 := Lib.hid (HB.out.trans (b1.mono HB.out.size))
  clear b1
  go_wp2_with fail
  go_ret
  exact ⟨rfl, HB1.out⟩
set_option maxHeartbeats 4000000 in
theorem tllast_main {Rep : RepL} (K : TlK Rep) (A : Option Addr) (N c : Nat) (l : ItL) (a b v day : Int) (w : World) (Rl : Itm w A N c l) (hN : N ≤ 60) :
    Calls Try.prog 6 #[.slice A N c, .agg #[.int .i64 a, .int .i64 b, .int .i64 v], .int .i64 day] w fun e w' => e = .returned (.bool true) ∧ Below w.heap.size w w' := by
  have d0 : decide ((N : Int) > 60) = false := decide_eq_false (by omega)
  have HK := Lib.hid K
  have HR := Lib.hid Rl
  have HN := Lib.hid hN
  have HS0 := Lib.hid ((Sep.nil w).push #[.int .i64 a, .int .i64 b, .int .i64 v] 33)
  clear K Rl
  go_enter Try.func6, Try.ntmps6
  go_wp2_with fail
  refine (sep_tmake HK.out HS0.out).mono ?_
  rintro e w1 ⟨q, rfl, s1⟩
  have HS1 := Lib.hid (show Sep w [blkT w.heap.size #[.int .i64 a, .int .i64 b, .int .i64 v], tlT HK.out.toTlOk (.pointer (some q)) 0 (fun _ => 0)] w1 from s1)
  clear s1
  go_wp2_with fail
  go_loopw [21] (fun u wr => ∃ (k : Nat) (f : Int → Int), u = .int .i64 (k : Int) ∧ k ≤ N ∧ Hid (offF f) ∧ Hid (Sep w [blkT w.heap.size #[.int .i64 a, .int .i64 b, .int .i64 v], tlT HK.out.toTlOk (.pointer (some q)) k f] wr)) (fun u _ => (N - intOf u).toNat)
  case atStart => exact ⟨0, _, rfl, by omega, Lib.hid (fun _ _ => rfl), HS1⟩
  case round =>
    obtain ⟨k, f, rfl, hk, HF, HS⟩ := hrel
    by_cases hlt : k < N
    · obtain ⟨ga, off, s, rfl, hs, hga, c0, c1, c2⟩ := Itm.get (HR.out.keep HS.out.bl) hlt
      obtain ⟨x1, x2, x3⟩ := s
      have HP := Lib.hid (HS.out.push #[.int .i64 x1, .int .i64 x2, .int .i64 x3] 33)
      have B9 := Blk.new wr #[.int .i64 x1, .int .i64 x2, .int .i64 x3] 33
      have y0 := B9.get 0 rfl; have y1 := B9.get 1 rfl; have y2 := B9.get 2 rfl
      clear hs B9
      go_wp2_with fail
      refine (sep_tput HK.out HP.out (i := 1) rfl (by have := HN.out; omega) x1 x2 x3).mono ?_
      rintro e w5 ⟨rfl, s5⟩
      have HS5 := Lib.hid (show Sep w [blkT w.heap.size #[.int .i64 a, .int .i64 b, .int .i64 v], tlT HK.out.toTlOk (.pointer (some q)) (k + 1) (putF f x1 x2 x3)] w5 from s5.take 2)
      clear s5
      go_wp2_with fail
      go_roundw
      case rel => exact ⟨k + 1, _, by go_num, by omega, Lib.hid (offF_put HF.out x1 x2 x3), HS5⟩
      case measure => simp [intOf]; omega
    · have hk60 : k ≤ 900 := by omega
      obtain ⟨z, hz⟩ : ∃ z, f day = z := ⟨_, rfl⟩
      go_wp2_with fail
      refine (sep_tat HK.out HS.out (i := 1) rfl (by omega) day hz).mono ?_
      rintro e w6 ⟨rfl, b6⟩
      have HS6 := Lib.hid (HS.out.keep b6)
      have B0 := HS6.out.b 0 rfl
      have y0 := B0.get 0 rfl; have y1 := B0.get 1 rfl; have y2 := B0.get 2 rfl
      clear b6 B0
      go_wp2_with fail
      refine (sep_tput HK.out HS6.out (i := 1) rfl (by omega) a b v).mono ?_
      rintro e w7 ⟨rfl, s7⟩
      have HS7 := Lib.hid (show Sep w [blkT w.heap.size #[.int .i64 a, .int .i64 b, .int .i64 v], tlT HK.out.toTlOk (.pointer (some q)) (k + 1) (putF f a b v)] w7 from s7)
      have HO := Lib.hid (offF_put HF.out a b v)
      have B0 := s7.b 0 rfl
      have y0 := B0.get 0 rfl; have y1 := B0.get 1 rfl; have y2 := B0.get 2 rfl
      clear s7 B0
      obtain ⟨x, hx⟩ : ∃ x, putF f a b v day = x := ⟨_, rfl⟩
      have HX := Lib.hid hx
      have HZ := Lib.hid (show (day < 1 ∨ 3652059 < day) → x = 0 from fun h => by rw [← hx]; exact HO.out day h)
      have HI := Lib.hid (show mayB a b = true ∧ a ≤ day ∧ day < b → x = v from fun h => by rw [← hx]; exact putF_in h.1 h.2)
      have HU := Lib.hid (show ¬ (mayB a b = true ∧ a ≤ day ∧ day < b) → x = z from fun h => by rw [← hx, ← hz]; exact putF_out h)
      clear hx hz
      by_cases hm : mayB a b = true
      · rw [show putR a b = 0 by unfold putR; rw [if_pos hm]]
        by_cases h1 : a ≤ day
        · have e1 : decide (day ≥ a) = true := decide_eq_true h1
          by_cases h2 : day < b
          · have e2 : decide (day < b) = true := decide_eq_true h2
            obtain rfl : x = v := HI.out ⟨hm, h1, h2⟩
            go_wp2_with fail
            refine (sep_tat HK.out HS7.out (i := 1) rfl (by omega) day HX.out).mono ?_
            rintro e w8 ⟨rfl, b8⟩
            have HB8 := Lib.hid ((HS7.out.keep b8).bl)
            clear b8
            by_cases g1 : 1 ≤ day
            · have e3 : decide (day ≥ 1) = true := decide_eq_true g1
              by_cases g2 : day ≤ 3652059
              · have e4 : decide (day ≤ 3652059) = true := decide_eq_true g2
                go_wp2_with fail
                refine (tlknown_any HK.out _).mono ?_
                rintro e w9 ⟨rfl, b9⟩
                have HB9 := Lib.hid (HB8.out.trans (b9.mono HB8.out.size))
                clear b9
                go_wp2_with fail
                go_ret
                exact ⟨rfl, HB9.out⟩
              · have e4 : decide (day ≤ 3652059) = false := decide_eq_false g2
                have e5 := HZ.out (.inr (by omega))
                subst e5
                go_wp2_with fail
                refine (tlknown_any HK.out _).mono ?_
                rintro e w9 ⟨rfl, b9⟩
                have HB9 := Lib.hid (HB8.out.trans (b9.mono HB8.out.size))
                clear b9
                go_wp2_with fail
                go_ret
                exact ⟨rfl, HB9.out⟩
            · have e3 : decide (day ≥ 1) = false := decide_eq_false g1
              have e5 := HZ.out (.inl (by omega))
              subst e5
              go_wp2_with fail
              refine (tlknown_any HK.out _).mono ?_
              rintro e w9 ⟨rfl, b9⟩
              have HB9 := Lib.hid (HB8.out.trans (b9.mono HB8.out.size))
              clear b9
              go_wp2_with fail
              go_ret
              exact ⟨rfl, HB9.out⟩
          · have e2 : decide (day < b) = false := decide_eq_false h2
            obtain rfl : x = z := HU.out (fun e => h2 e.2.2)
            go_wp2_with fail
            refine (sep_tat HK.out HS7.out (i := 1) rfl (by omega) day HX.out).mono ?_
            rintro e w8 ⟨rfl, b8⟩
            have HB8 := Lib.hid ((HS7.out.keep b8).bl)
            clear b8
            by_cases g1 : 1 ≤ day
            · have e3 : decide (day ≥ 1) = true := decide_eq_true g1
              by_cases g2 : day ≤ 3652059
              · have e4 : decide (day ≤ 3652059) = true := decide_eq_true g2
                go_wp2_with fail
                refine (tlknown_any HK.out _).mono ?_
                rintro e w9 ⟨rfl, b9⟩
                have HB9 := Lib.hid (HB8.out.trans (b9.mono HB8.out.size))
                clear b9
                go_wp2_with fail
                go_ret
                exact ⟨rfl, HB9.out⟩
              · have e4 : decide (day ≤ 3652059) = false := decide_eq_false g2
                have e5 := HZ.out (.inr (by omega))
                subst e5
                go_wp2_with fail
                refine (tlknown_any HK.out _).mono ?_
                rintro e w9 ⟨rfl, b9⟩
                have HB9 := Lib.hid (HB8.out.trans (b9.mono HB8.out.size))
                clear b9
                go_wp2_with fail
                go_ret
                exact ⟨rfl, HB9.out⟩
            · have e3 : decide (day ≥ 1) = false := decide_eq_false g1
              have e5 := HZ.out (.inl (by omega))
              subst e5
              go_wp2_with fail
              refine (tlknown_any HK.out _).mono ?_
              rintro e w9 ⟨rfl, b9⟩
              have HB9 := Lib.hid (HB8.out.trans (b9.mono HB8.out.size))
              clear b9
              go_wp2_with fail
              go_ret
              exact ⟨rfl, HB9.out⟩
        · have e1 : decide (day ≥ a) = false := decide_eq_false h1
          obtain rfl : x = z := HU.out (fun e => h1 e.2.1)
          go_wp2_with fail
          refine (sep_tat HK.out HS7.out (i := 1) rfl (by omega) day HX.out).mono ?_
          rintro e w8 ⟨rfl, b8⟩
          have HB8 := Lib.hid ((HS7.out.keep b8).bl)
          clear b8
          by_cases g1 : 1 ≤ day
          · have e3 : decide (day ≥ 1) = true := decide_eq_true g1
            by_cases g2 : day ≤ 3652059
            · have e4 : decide (day ≤ 3652059) = true := decide_eq_true g2
              go_wp2_with fail
              refine (tlknown_any HK.out _).mono ?_
              rintro e w9 ⟨rfl, b9⟩
              have HB9 := Lib.hid (HB8.out.trans (b9.mono HB8.out.size))
              clear b9
              go_wp2_with fail
              go_ret
              exact ⟨rfl, HB9.out⟩
            · have e4 : decide (day ≤ 3652059) = false := decide_eq_false g2
              have e5 := HZ.out (.inr (by omega))
              subst e5
              go_wp2_with fail
              refine (tlknown_any HK.out _).mono ?_
              rintro e w9 ⟨rfl, b9⟩
              have HB9 := Lib.hid (HB8.out.trans (b9.mono HB8.out.size))
              clear b9
              go_wp2_with fail
              go_ret
              exact ⟨rfl, HB9.out⟩
          · have e3 : decide (day ≥ 1) = false := decide_eq_false g1
            have e5 := HZ.out (.inl (by omega))
            subst e5
            go_wp2_with fail
            refine (tlknown_any HK.out _).mono ?_
            rintro e w9 ⟨rfl, b9⟩
            have HB9 := Lib.hid (HB8.out.trans (b9.mono HB8.out.size))
            clear b9
            go_wp2_with fail
            go_ret
            exact ⟨rfl, HB9.out⟩
      · rw [show putR a b = 15 by unfold putR; rw [if_neg hm]]
        obtain rfl : x = z := HU.out (fun e => hm e.1)
        go_wp2_with fail
        refine (sep_tat HK.out HS7.out (i := 1) rfl (by omega) day HX.out).mono ?_
        rintro e w8 ⟨rfl, b8⟩
        have HB8 := Lib.hid ((HS7.out.keep b8).bl)
        clear b8
        by_cases g1 : 1 ≤ day
        · have e3 : decide (day ≥ 1) = true := decide_eq_true g1
          by_cases g2 : day ≤ 3652059
          · have e4 : decide (day ≤ 3652059) = true := decide_eq_true g2
            go_wp2_with fail
            refine (tlknown_any HK.out _).mono ?_
            rintro e w9 ⟨rfl, b9⟩
            have HB9 := Lib.hid (HB8.out.trans (b9.mono HB8.out.size))
            clear b9
            go_wp2_with fail
            go_ret
            exact ⟨rfl, HB9.out⟩
          · have e4 : decide (day ≤ 3652059) = false := decide_eq_false g2
            have e5 := HZ.out (.inr (by omega))
            subst e5
            go_wp2_with fail
            refine (tlknown_any HK.out _).mono ?_
            rintro e w9 ⟨rfl, b9⟩
            have HB9 := Lib.hid (HB8.out.trans (b9.mono HB8.out.size))
            clear b9
            go_wp2_with fail
            go_ret
            exact ⟨rfl, HB9.out⟩
        · have e3 : decide (day ≥ 1) = false := decide_eq_false g1
          have e5 := HZ.out (.inl (by omega))
          subst e5
          go_wp2_with fail
          refine (tlknown_any HK.out _).mono ?_
          rintro e w9 ⟨rfl, b9⟩
          have HB9 := Lib.hid (HB8.out.trans (b9.mono HB8.out.size))
          clear b9
          go_wp2_with fail
          go_ret
          exact ⟨rfl, HB9.out⟩
theorem tllast_any {Rep : RepL} (K : TlK Rep) (A : Option Addr) (N c : Nat) (l : ItL) (a b v day : Int) (w : World) (Rl : Itm w A N c l) :
    Calls Try.prog 6 #[.slice A N c, .agg #[.int .i64 a, .int .i64 b, .int .i64 v], .int .i64 day] w fun e w' => e = .returned (.bool true) ∧ Below w.heap.size w w' := by
  by_cases hN : N ≤ 60
  · exact tllast_main K A N c l a b v day w Rl hN
  · exact tllast_long K A N c a b v day w hN
end Go.Proofs.Ytockjcainkoifaa

/- The law RefineMaps. -/
import Derived.Test.YtonfjjmgjgmanaaRfDiffers
import Derived.Shelf.Abstract
namespace Corr
set_option maxRecDepth 8000
open Go Go.RowKit
set_option linter.unusedVariables false
/-- v*v - n, as the machine has it. -/
def sqF (n v : Int) : Int := IntKind.i64.wrap (IntKind.i64.wrap (v * v) - n)
def incF (v : Int) : Int := IntKind.i64.wrap (v + 1)
theorem back_at {f : Int → Int} (hf : offF f) {k d : Int} (hk : 0 ≤ k) (hd : d ≤ 3652059 - k) : mvF (mvF f k) (-k) d = f d := by
  unfold mvF
  by_cases h : 1 ≤ d
  · rw [if_pos (by omega), if_pos (by omega), show d - -k - k = d by omega]
  · rw [if_neg (by omega), hf d (by omega)]
theorem sls_one {w : World} {k n c : Nat} {A : Option Addr} {l : ItL} (H : Blk w k #[.slice A n c]) (R : Itm w A n c l) : SlsR w (some ⟨k, 0, none⟩) 1 1 [l] :=
  ⟨[.slice A n c], ⟨rfl, Nat.le_refl _, fun _ => ⟨k, 0, rfl, H.sz, fun i v hi => by simpa using H.get i (v := v) hi⟩⟩, rfl, fun i v x h1 h2 => by
    match i, h1, h2 with
    | 0, h1, h2 =>
      have e1 := Option.some.inj h1; have e2 := Option.some.inj h2
      subst e1 e2
      exact ⟨_, _, _, rfl, R⟩
    | i + 1, h1, h2 => simp at h1⟩
end Corr
namespace Go.Proofs.Ytonfjjmgjgmanaa
set_option maxRecDepth 8000
open Go.RowKit Corr
set_option linter.unusedVariables false
set_option linter.unusedSimpArgs false
theorem sqMap_any (g : Nat) (n v : Int) (w : World) (B : Blk w g #[.int .i64 n]) : Calls Try.prog 17 #[.int .i64 v, .pointer (some ⟨g, 0, none⟩)] w fun e w2 => e = .returned (.int .i64 (sqF n v)) ∧ Below w.heap.size w w2 := by
  have c0 := B.get 0 rfl
  clear B
  unfold sqF
  obtain ⟨p1, h1⟩ : ∃ p, IntKind.i64.wrap (v * v) = p := ⟨_, rfl⟩
  rw [h1]
  obtain ⟨p2, h2⟩ : ∃ p, IntKind.i64.wrap (p1 - n) = p := ⟨_, rfl⟩
  rw [h2]
  go_enter Try.func17, Try.ntmps17
  go_wp2_with fail
  refine bodyPost_ret (results_tmp rfl _ _ _) rfl ⟨?_, Below.refl _ _⟩
  first | rfl | (simp only [List.getD]; rfl)
theorem incMap_any (v : Int) (w : World) : Calls Try.prog 19 #[.int .i64 v] w fun e w2 => e = .returned (.int .i64 (incF v)) ∧ Below w.heap.size w w2 := by
  unfold incF
  obtain ⟨p1, h1⟩ : ∃ p, IntKind.i64.wrap (v + 1) = p := ⟨_, rfl⟩
  rw [h1]
  go_enter Try.func19, Try.ntmps19
  go_wp2_with fail
  refine bodyPost_ret (results_tmp rfl _ _ _) rfl ⟨?_, Below.refl _ _⟩
  first | rfl | (simp only [List.getD]; rfl)
theorem sqMap_p (g : Nat) (n : Int) (w : World) (B : Blk w g #[.int .i64 n]) : MapP 17 #[.pointer (some ⟨g, 0, none⟩)] (sqF n) w :=
  ⟨enters_of Try.func17 (by kernel_rfl) rfl, fun w1 hb v => sqMap_any g n v w1 (B.keep hb)⟩
theorem incMap_p (w : World) : MapP 19 #[] incF w :=
  ⟨enters_of Try.func19 (by kernel_rfl) rfl, fun w1 _ v => incMap_any v w1⟩
theorem sep_map {Rep : RepL} {w0 w : World} {ts : List Thing} {p : Value} {N i : Nat} {f : Int → Int} (K : RfK Rep) (S : Sep w0 ts w) (hi : ts[i]? = some (tlT K.toTlOk p N f)) (hN : N ≤ 149) {fe : Nat} {lb : Array Value} {E : Int → Int} (M : MapP fe lb E w) : Calls Try.prog 16 #[p, .func (.func fe) #[] lb] w fun e w' => ∃ q : Addr, e = .returned (.pointer (some q)) ∧ Sep w0 (ts ++ [tlT K.toTlOk (.pointer (some q)) (2 * N + 2) (mapF f E)]) w' := by
  obtain ⟨F, hp, _⟩ := S.get hi
  refine (K.map_ w p F N f fe lb E hp hN M).mono fun e w' hq => ?_
  obtain ⟨q, F', he, hr, hb, hF⟩ := hq
  exact ⟨q, he, S.add hb (t := tlT K.toTlOk (.pointer (some q)) (2 * N + 2) (mapF f E)) hr hF⟩
theorem sep_mapNone {Rep : RepL} {w0 w : World} {ts : List Thing} (K : RfK Rep) (S : Sep w0 ts w) {fe : Nat} {lb : Array Value} {E : Int → Int} (M : MapP fe lb E w) : Calls Try.prog 16 #[.pointer none, .func (.func fe) #[] lb] w fun e w' => ∃ q : Addr, e = .returned (.pointer (some q)) ∧ Sep w0 (ts ++ [tlT K.toTlOk (.pointer (some q)) 2 (mapF (fun _ => 0) E)]) w' := by
  refine (K.mapNone w fe lb E M).mono fun e w' hq => ?_
  obtain ⟨q, F', he, hr, hb, hF⟩ := hq
  exact ⟨q, he, S.add hb (t := tlT K.toTlOk (.pointer (some q)) 2 (mapF (fun _ => 0) E)) hr hF⟩
set_option maxHeartbeats 4000000 in
theorem rfmaps_long {Rep : RepL} (K : RfK Rep) (A : Option Addr) (n c : Nat) (l : ItL) (nn day k : Int) (w : World) (Rl : Itm w A n c l) (hg : grB [l] = true ∨ k < 0 ∨ 100 < k) : Calls Try.prog 5 #[.slice A n c, .int .i64 nn, .int .i64 day, .int .i64 k] w fun e w' => e = .returned (.bool true) ∧ Below w.heap.size w w' := by
  have HK := Lib.hid K
  have hs := ((Sep.nil w).push #[.int .i64 nn] 3).push #[.slice A n c] 30
  simp only [size_alloc] at hs
  have HS := Lib.hid hs
  have HG := great_any (some ⟨w.heap.size + 1, 0, none⟩) 1 1 [l] _ (sls_one (hs.b 1 rfl) (Rl.keep hs.bl)) (by decide)
  have HOR := Lib.hid hg
  obtain ⟨gb, hgb⟩ : ∃ b, grB [l] = b := ⟨_, rfl⟩
  rw [hgb] at HG HOR
  have HGG := Lib.hid HG
  clear K Rl hg hs HG hgb
  cases gb with
  | true =>
    go_enter Try.func5, Try.ntmps5
    go_wp2_with fail
    refine HGG.out.mono ?_
    rintro e w1 ⟨rfl, b1⟩
    have HS1 := Lib.hid (HS.out.keep b1)
    clear b1 HS HGG
    go_wp2_with fail
    refine (rfknown_any HK.out _).mono ?_
    rintro e w2 ⟨rfl, b2⟩
    have HB := Lib.hid (HS1.out.keep b2).bl
    clear b2
    go_wp2_with fail
    go_ret
    exact ⟨rfl, HB.out⟩
  | false =>
    by_cases h0 : k < 0
    · have d0 : decide (k < 0) = true := decide_eq_true h0
      clear h0
      go_enter Try.func5, Try.ntmps5
      go_wp2_with fail
      refine HGG.out.mono ?_
      rintro e w1 ⟨rfl, b1⟩
      have HS1 := Lib.hid (HS.out.keep b1)
      clear b1 HS HGG
      go_wp2_with fail
      refine (rfknown_any HK.out _).mono ?_
      rintro e w2 ⟨rfl, b2⟩
      have HB := Lib.hid (HS1.out.keep b2).bl
      clear b2
      go_wp2_with fail
      go_ret
      exact ⟨rfl, HB.out⟩
    · have d0 : decide (k < 0) = false := decide_eq_false h0
      have d1 : decide (k > 100) = true := decide_eq_true (by
        rcases HOR.out with h | h | h
        · cases h
        · exact absurd h h0
        · omega)
      clear h0
      go_enter Try.func5, Try.ntmps5
      go_wp2_with fail
      refine HGG.out.mono ?_
      rintro e w1 ⟨rfl, b1⟩
      have HS1 := Lib.hid (HS.out.keep b1)
      clear b1 HS HGG
      go_wp2_with fail
      refine (rfknown_any HK.out _).mono ?_
      rintro e w2 ⟨rfl, b2⟩
      have HB := Lib.hid (HS1.out.keep b2).bl
      clear b2
      go_wp2_with fail
      go_ret
      exact ⟨rfl, HB.out⟩
set_option maxHeartbeats 8000000 in
theorem rfmaps_main {Rep : RepL} (K : RfK Rep) (A : Option Addr) (n c : Nat) (l : ItL) (nn day k : Int) (w : World) (Rl : Itm w A n c l) (hg : grB [l] = false) (hk : 0 ≤ k ∧ k ≤ 100) : Calls Try.prog 5 #[.slice A n c, .int .i64 nn, .int .i64 day, .int .i64 k] w fun e w' => e = .returned (.bool true) ∧ Below w.heap.size w w' := by
  have HK := Lib.hid K
  have HRl := Lib.hid Rl
  have hs := ((Sep.nil w).push #[.int .i64 nn] 3).push #[.slice A n c] 30
  simp only [size_alloc] at hs
  have HS := Lib.hid hs
  have HG := great_any (some ⟨w.heap.size + 1, 0, none⟩) 1 1 [l] _ (sls_one (hs.b 1 rfl) (Rl.keep hs.bl)) (by decide)
  rw [hg] at HG
  have HGG := Lib.hid HG
  have HNN := Lib.hid (show n ≤ 30 from by
    have h1 := Itm.count Rl
    unfold grB at hg
    simp at hg
    omega)
  have d0 : decide (k < 0) = false := decide_eq_false (by omega)
  have d1 : decide (k > 100) = false := decide_eq_false (by omega)
  have wn : IntKind.i64.wrap (-k) = -k := IntWalk.i64_in _ (by omega)
  have ws : IntKind.i64.wrap (3652059 - k) = 3652059 - k := IntWalk.i64_in _ (by omega)
  have HKB := Lib.hid hk
  clear K Rl hg hs HG hk
  go_enter Try.func5, Try.ntmps5
  go_wp2_with fail
  refine HGG.out.mono ?_
  rintro e w1 ⟨rfl, b1⟩
  have HS1 := Lib.hid (HS.out.keep b1)
  clear b1 HS HGG
  go_wp2_with fail
  refine (made12_any HK.out.toTlK0 HS1.out A n c l (fun us wx h => HRl.out.keep h.bl) (by have := HNN.out; omega)).mono ?_
  rintro e w2 ⟨qa, ga, rfl, s2⟩
  have HGD := Lib.hid (atL_off (goodL_putAll l))
  have HS2 := Lib.hid (show Sep w [blkT w.heap.size #[.int .i64 nn], blkT (w.heap.size + 1) #[.slice A n c], tlT HK.out.toTlOk (.pointer (some qa)) n (atL (putAll l)), dT ga (putAll l)] w2 from s2)
  clear s2 HS1
  generalize putAll l = pl at *
  obtain ⟨f, hf⟩ : ∃ f, atL pl = f := ⟨_, rfl⟩
  rw [hf] at HS2 HGD
  clear hf
  go_wp2_with fail
  refine (sep_map HK.out HS2.out (i := 2) rfl (by have := HNN.out; omega) (sqMap_p w.heap.size nn _ (HS2.out.b 0 rfl))).mono ?_
  rintro e w3 ⟨qm, rfl, s3⟩
  have HS3 := Lib.hid s3
  clear s3 HS2
  go_wp2_with fail
  obtain ⟨v, hv⟩ : ∃ v, f day = v := ⟨_, rfl⟩
  refine (sep0_tat HK.out.toTlK0 HS3.out (i := 2) rfl (by have := HNN.out; omega) day hv).mono ?_
  rintro e w4 ⟨rfl, b4⟩
  have HS4 := Lib.hid (HS3.out.keep b4)
  have x0 := (HS4.out.b 0 rfl).get 0 rfl
  clear b4 HS3
  obtain ⟨p1, hp1⟩ : ∃ p, IntKind.i64.wrap (v * v) = p := ⟨_, rfl⟩
  obtain ⟨p2, hp2⟩ : ∃ p, IntKind.i64.wrap (p1 - nn) = p := ⟨_, rfl⟩
  have HW := Lib.hid (show sqF nn v = p2 by unfold sqF; rw [hp1, hp2])
  have HV := Lib.hid hv
  clear hv
  go_upto_region 7 with fail
  have hmap : ∃ z, (if 1 ≤ day ∧ day < 3652060 then p2 else 0) = z := ⟨_, rfl⟩
  obtain ⟨z, hz⟩ := hmap
  have HMZ := Lib.hid (show mapF f (sqF nn) day = z by unfold mapF; rw [HV.out, HW.out, hz])
  by_cases hd1 : day < 1
  · have e1 : decide (day < 1) = true := decide_eq_true hd1
    have hz0 : z = 0 := by rw [← hz, if_neg (by omega)]
    clear hd1 hz
    subst hz0
    go_wp2_with fail
    refine (sep_moved HK.out HS4.out (i := 2) rfl (by have := HNN.out; omega) k (by have := HKB.out; omega) (by have := HKB.out; omega)).mono ?_
    rintro e w5 ⟨q1, rfl, s5⟩
    have HS5 := Lib.hid s5
    clear s5 HS4 x0
    go_wp2_with fail
    refine (sep_moved HK.out HS5.out (i := 5) (N := 2 * n + 1) (f := mvF f k) rfl (by have := HNN.out; omega) (-k) (by have := HKB.out; omega) (by have := HKB.out; omega)).mono ?_
    rintro e w6 ⟨q2, rfl, s6⟩
    have HS6 := Lib.hid s6
    clear s6 HS5
    by_cases hfar : day > 3652059 - k
    · have e3 : decide (day > 3652059 - k) = true := decide_eq_true hfar
      clear hfar
      have HT := HS6
      clear HS6
      go_wp2_with fail
      refine (sep0_tat HK.out.toTlK0 HT.out (i := 4) rfl (by have := HNN.out; omega) day HMZ.out).mono ?_
      rintro e w8 ⟨rfl, b8⟩
      have HS8 := Lib.hid (HT.out.keep b8)
      clear b8 HT
      go_wp2_with fail
      refine (sep_mapNone HK.out HS8.out (incMap_p _)).mono ?_
      rintro e w9 ⟨q3, rfl, s9⟩
      have HS9 := Lib.hid s9
      clear s9 HS8
      go_wp2_with fail
      refine (sep0_tat HK.out.toTlK0 HS9.out (i := 7) (N := 2) (f := mapF (fun _ => 0) incF) rfl (by decide) 5 (r := 1) rfl).mono ?_
      rintro e w10 ⟨rfl, b10⟩
      have HS10 := Lib.hid (HS9.out.keep b10)
      clear b10 HS9
      go_wp2_with fail
      refine (rfknown_any HK.out _).mono ?_
      rintro e w11 ⟨rfl, b11⟩
      have HB := Lib.hid (HS10.out.keep b11).bl
      clear b11
      go_wp2_with fail
      go_ret
      exact ⟨rfl, HB.out⟩
    · have e3 : decide (day > 3652059 - k) = false := decide_eq_false hfar
      have hba : mvF (mvF f k) (-k) day = v := by rw [← HV.out]; exact back_at HGD.out HKB.out.1 (by omega)
      clear hfar
      go_wp2_with fail
      refine (sep0_tat HK.out.toTlK0 HS6.out (i := 6) (N := 2 * (2 * n + 1) + 1) (f := mvF (mvF f k) (-k)) rfl (by have := HNN.out; omega) day hba).mono ?_
      rintro e w7 ⟨rfl, b7⟩
      have HT := Lib.hid (HS6.out.keep b7)
      clear b7 HS6 hba
      go_wp2_with fail
      refine (sep0_tat HK.out.toTlK0 HT.out (i := 4) rfl (by have := HNN.out; omega) day HMZ.out).mono ?_
      rintro e w8 ⟨rfl, b8⟩
      have HS8 := Lib.hid (HT.out.keep b8)
      clear b8 HT
      go_wp2_with fail
      refine (sep_mapNone HK.out HS8.out (incMap_p _)).mono ?_
      rintro e w9 ⟨q3, rfl, s9⟩
      have HS9 := Lib.hid s9
      clear s9 HS8
      go_wp2_with fail
      refine (sep0_tat HK.out.toTlK0 HS9.out (i := 7) (N := 2) (f := mapF (fun _ => 0) incF) rfl (by decide) 5 (r := 1) rfl).mono ?_
      rintro e w10 ⟨rfl, b10⟩
      have HS10 := Lib.hid (HS9.out.keep b10)
      clear b10 HS9
      go_wp2_with fail
      refine (rfknown_any HK.out _).mono ?_
      rintro e w11 ⟨rfl, b11⟩
      have HB := Lib.hid (HS10.out.keep b11).bl
      clear b11
      go_wp2_with fail
      go_ret
      exact ⟨rfl, HB.out⟩
  · have e1 : decide (day < 1) = false := decide_eq_false hd1
    by_cases hd2 : day > 3652059
    · have e2 : decide (day > 3652059) = true := decide_eq_true hd2
      have hz0 : z = 0 := by rw [← hz, if_neg (by omega)]
      clear hd1 hd2 hz
      subst hz0
      go_wp2_with fail
      refine (sep_moved HK.out HS4.out (i := 2) rfl (by have := HNN.out; omega) k (by have := HKB.out; omega) (by have := HKB.out; omega)).mono ?_
      rintro e w5 ⟨q1, rfl, s5⟩
      have HS5 := Lib.hid s5
      clear s5 HS4 x0
      go_wp2_with fail
      refine (sep_moved HK.out HS5.out (i := 5) (N := 2 * n + 1) (f := mvF f k) rfl (by have := HNN.out; omega) (-k) (by have := HKB.out; omega) (by have := HKB.out; omega)).mono ?_
      rintro e w6 ⟨q2, rfl, s6⟩
      have HS6 := Lib.hid s6
      clear s6 HS5
      by_cases hfar : day > 3652059 - k
      · have e3 : decide (day > 3652059 - k) = true := decide_eq_true hfar
        clear hfar
        have HT := HS6
        clear HS6
        go_wp2_with fail
        refine (sep0_tat HK.out.toTlK0 HT.out (i := 4) rfl (by have := HNN.out; omega) day HMZ.out).mono ?_
        rintro e w8 ⟨rfl, b8⟩
        have HS8 := Lib.hid (HT.out.keep b8)
        clear b8 HT
        go_wp2_with fail
        refine (sep_mapNone HK.out HS8.out (incMap_p _)).mono ?_
        rintro e w9 ⟨q3, rfl, s9⟩
        have HS9 := Lib.hid s9
        clear s9 HS8
        go_wp2_with fail
        refine (sep0_tat HK.out.toTlK0 HS9.out (i := 7) (N := 2) (f := mapF (fun _ => 0) incF) rfl (by decide) 5 (r := 1) rfl).mono ?_
        rintro e w10 ⟨rfl, b10⟩
        have HS10 := Lib.hid (HS9.out.keep b10)
        clear b10 HS9
        go_wp2_with fail
        refine (rfknown_any HK.out _).mono ?_
        rintro e w11 ⟨rfl, b11⟩
        have HB := Lib.hid (HS10.out.keep b11).bl
        clear b11
        go_wp2_with fail
        go_ret
        exact ⟨rfl, HB.out⟩
      · have e3 : decide (day > 3652059 - k) = false := decide_eq_false hfar
        have hba : mvF (mvF f k) (-k) day = v := by rw [← HV.out]; exact back_at HGD.out HKB.out.1 (by omega)
        clear hfar
        go_wp2_with fail
        refine (sep0_tat HK.out.toTlK0 HS6.out (i := 6) (N := 2 * (2 * n + 1) + 1) (f := mvF (mvF f k) (-k)) rfl (by have := HNN.out; omega) day hba).mono ?_
        rintro e w7 ⟨rfl, b7⟩
        have HT := Lib.hid (HS6.out.keep b7)
        clear b7 HS6 hba
        go_wp2_with fail
        refine (sep0_tat HK.out.toTlK0 HT.out (i := 4) rfl (by have := HNN.out; omega) day HMZ.out).mono ?_
        rintro e w8 ⟨rfl, b8⟩
        have HS8 := Lib.hid (HT.out.keep b8)
        clear b8 HT
        go_wp2_with fail
        refine (sep_mapNone HK.out HS8.out (incMap_p _)).mono ?_
        rintro e w9 ⟨q3, rfl, s9⟩
        have HS9 := Lib.hid s9
        clear s9 HS8
        go_wp2_with fail
        refine (sep0_tat HK.out.toTlK0 HS9.out (i := 7) (N := 2) (f := mapF (fun _ => 0) incF) rfl (by decide) 5 (r := 1) rfl).mono ?_
        rintro e w10 ⟨rfl, b10⟩
        have HS10 := Lib.hid (HS9.out.keep b10)
        clear b10 HS9
        go_wp2_with fail
        refine (rfknown_any HK.out _).mono ?_
        rintro e w11 ⟨rfl, b11⟩
        have HB := Lib.hid (HS10.out.keep b11).bl
        clear b11
        go_wp2_with fail
        go_ret
        exact ⟨rfl, HB.out⟩
    · have e2 : decide (day > 3652059) = false := decide_eq_false hd2
      have hz0 : p2 = z := by rw [← hz, if_pos (by omega)]
      clear hd1 hd2 hz
      subst hz0
      go_wp2_with fail
      refine (sep_moved HK.out HS4.out (i := 2) rfl (by have := HNN.out; omega) k (by have := HKB.out; omega) (by have := HKB.out; omega)).mono ?_
      rintro e w5 ⟨q1, rfl, s5⟩
      have HS5 := Lib.hid s5
      clear s5 HS4 x0
      go_wp2_with fail
      refine (sep_moved HK.out HS5.out (i := 5) (N := 2 * n + 1) (f := mvF f k) rfl (by have := HNN.out; omega) (-k) (by have := HKB.out; omega) (by have := HKB.out; omega)).mono ?_
      rintro e w6 ⟨q2, rfl, s6⟩
      have HS6 := Lib.hid s6
      clear s6 HS5
      by_cases hfar : day > 3652059 - k
      · have e3 : decide (day > 3652059 - k) = true := decide_eq_true hfar
        clear hfar
        have HT := HS6
        clear HS6
        go_wp2_with fail
        refine (sep0_tat HK.out.toTlK0 HT.out (i := 4) rfl (by have := HNN.out; omega) day HMZ.out).mono ?_
        rintro e w8 ⟨rfl, b8⟩
        have HS8 := Lib.hid (HT.out.keep b8)
        clear b8 HT
        go_wp2_with fail
        refine (sep_mapNone HK.out HS8.out (incMap_p _)).mono ?_
        rintro e w9 ⟨q3, rfl, s9⟩
        have HS9 := Lib.hid s9
        clear s9 HS8
        go_wp2_with fail
        refine (sep0_tat HK.out.toTlK0 HS9.out (i := 7) (N := 2) (f := mapF (fun _ => 0) incF) rfl (by decide) 5 (r := 1) rfl).mono ?_
        rintro e w10 ⟨rfl, b10⟩
        have HS10 := Lib.hid (HS9.out.keep b10)
        clear b10 HS9
        go_wp2_with fail
        refine (rfknown_any HK.out _).mono ?_
        rintro e w11 ⟨rfl, b11⟩
        have HB := Lib.hid (HS10.out.keep b11).bl
        clear b11
        go_wp2_with fail
        go_ret
        exact ⟨rfl, HB.out⟩
      · have e3 : decide (day > 3652059 - k) = false := decide_eq_false hfar
        have hba : mvF (mvF f k) (-k) day = v := by rw [← HV.out]; exact back_at HGD.out HKB.out.1 (by omega)
        clear hfar
        go_wp2_with fail
        refine (sep0_tat HK.out.toTlK0 HS6.out (i := 6) (N := 2 * (2 * n + 1) + 1) (f := mvF (mvF f k) (-k)) rfl (by have := HNN.out; omega) day hba).mono ?_
        rintro e w7 ⟨rfl, b7⟩
        have HT := Lib.hid (HS6.out.keep b7)
        clear b7 HS6 hba
        go_wp2_with fail
        refine (sep0_tat HK.out.toTlK0 HT.out (i := 4) rfl (by have := HNN.out; omega) day HMZ.out).mono ?_
        rintro e w8 ⟨rfl, b8⟩
        have HS8 := Lib.hid (HT.out.keep b8)
        clear b8 HT
        go_wp2_with fail
        refine (sep_mapNone HK.out HS8.out (incMap_p _)).mono ?_
        rintro e w9 ⟨q3, rfl, s9⟩
        have HS9 := Lib.hid s9
        clear s9 HS8
        go_wp2_with fail
        refine (sep0_tat HK.out.toTlK0 HS9.out (i := 7) (N := 2) (f := mapF (fun _ => 0) incF) rfl (by decide) 5 (r := 1) rfl).mono ?_
        rintro e w10 ⟨rfl, b10⟩
        have HS10 := Lib.hid (HS9.out.keep b10)
        clear b10 HS9
        go_wp2_with fail
        refine (rfknown_any HK.out _).mono ?_
        rintro e w11 ⟨rfl, b11⟩
        have HB := Lib.hid (HS10.out.keep b11).bl
        clear b11
        go_wp2_with fail
        go_ret
        exact ⟨rfl, HB.out⟩
theorem rfmaps_any {Rep : RepL} (K : RfK Rep) (A : Option Addr) (n c : Nat) (l : ItL) (nn day k : Int) (w : World) (Rl : Itm w A n c l) : Calls Try.prog 5 #[.slice A n c, .int .i64 nn, .int .i64 day, .int .i64 k] w fun e w' => e = .returned (.bool true) ∧ Below w.heap.size w w' := by
  cases hg : grB [l] with
  | true => exact rfmaps_long K A n c l nn day k w Rl (.inl hg)
  | false =>
    by_cases hk : 0 ≤ k ∧ k ≤ 100
    · exact rfmaps_main K A n c l nn day k w Rl hg hk
    · exact rfmaps_long K A n c l nn day k w Rl (.inr (by omega))
end Go.Proofs.Ytonfjjmgjgmanaa

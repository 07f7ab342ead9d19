/- Contracts of package timeline: Pieces, Ends; of maps.Copy into a map without entries. Contract of package timeline: New. (Written by wip/gen/gentpnew.py.) Contract of package timeline: Copy. (Written by wip/gen/gentpcopy.py.) -/
import Derived.Test.YtockjcainkoifaaTpSegs
import Derived.Test.YtockjcainkoifaaTpLay2
import Derived.Test.YtockjcainkoifaaRelVal
namespace Corr
set_option maxRecDepth 8000
open Go Go.RowKit
set_option linter.unusedVariables false
theorem seg_all {f : Int → Int} {l : Nat → ItL} {m : Int → Option Int} (h : TrOk (pcI f) l) (hm : MpOk (pcI f) m) (ho : offF f) : ∃ out, segF f 1 3652060 out := by
  obtain ⟨r1, r2⟩ := pcs_all h hm ⟨f, fun _ h => h⟩ 1 3652060
  refine ⟨segO 1 3652060 (pcsK m 1 3652060 l 4), ?_⟩
  unfold segF
  rw [if_pos (by decide)]
  exact seg_cov ho (by decide) r1 fun x => by
    rw [r2 x]
    constructor
    · rintro ⟨p, _, p2, p3⟩; exact ⟨p, p3, p2⟩
    · rintro ⟨p, p3, p2⟩; exact ⟨p, by decide, p2, p3⟩
theorem cntK_le (l : Nat → ItL) (n : Nat) (h : ∀ i, i < 4 → (l i).length ≤ n) : ∀ k, k ≤ 4 → cntK l k ≤ k * n
  | 0, _ => by simp [cntK]
  | k + 1, hk => by
    have h1 := cntK_le l n h k (by omega)
    have h2 := h k (by omega)
    show cntK l k + (l k).length ≤ _
    rw [Nat.add_mul]; omega
/-- Where segments begin, but the first. -/
def endsK (a : Int) (out : ItL) : List Int := (out.filter fun x => decide (x.1 > a)).map (·.1)
theorem endsK_all {f : Int → Int} {a b : Int} {out : ItL} (h : segF f a b out) : endsK a out = endsL out := by
  unfold endsK endsL
  unfold segF at h
  split at h
  · rename_i hm
    cases out with
    | nil => rfl
    | cons s r =>
      have hs := h.1
      have hr := cov_rise h
      rw [List.filter_cons, if_neg (by simp; omega)]
      rw [List.filter_eq_self.2 fun x hx => ?_, List.tail_cons]
      have := (List.pairwise_cons.1 hr).1 x hx
      exact decide_eq_true (by omega)
  · subst h; rfl
theorem endsK_more {a : Int} {out : ItL} {k : Nat} {x : It} (hx : out[k]? = some x) : endsK a (out.take (k + 1)) = if x.1 > a then endsK a (out.take k) ++ [x.1] else endsK a (out.take k) := by
  unfold endsK
  rw [List.take_add_one, hx, List.filter_append, List.map_append]
  by_cases h : x.1 > a
  · rw [if_pos h]
    have : (Option.some x).toList.filter (fun x => decide (x.1 > a)) = [x] := by simp [h]
    rw [this]; rfl
  · rw [if_neg h]
    have : (Option.some x).toList.filter (fun x => decide (x.1 > a)) = [] := by simp [h]
    rw [this]; simp
end Corr
namespace Go.Proofs.Ytockjcainkoifaa
set_option maxRecDepth 8000
open Go.RowKit Corr
set_option linter.unusedVariables false
set_option linter.unusedSimpArgs false
theorem elem_intT : Elem Try.prog 39 3 (.int .i64 0) 1 8 := by
  obtain ⟨i, h0, h1, h2, h3⟩ := info_parts (show (Try.prog.info? 3).map (fun i => (i.zero, i.size, i.bytes)) = some (some (.int .i64 0), 1, 8) by kernel_rfl)
  exact ⟨Try.underlying39, ⟨i, h0, h1, h2, h3⟩, rfl, by decide⟩
set_option maxHeartbeats 2000000 in
theorem tpcount_any {Rep : RepT} (K : TrK Rep) (gT gM : Nat) (q : Nat → Value) (Fs : Nat → Nat → Prop) (l : Nat → ItL) (m : Int → Option Int) (w : World) (H : Tp Rep w gT gM q Fs l m) (hl : ∀ i, i < 4 → (l i).length ≤ 1000) : Calls Try.prog 18 #[.pointer (some ⟨gT, 0, none⟩)] w fun e w' => e = .returned (.int .i64 (cntK l 4 : Int)) ∧ Below w.heap.size w w' := by
  have HK := Lib.hid K
  have HT := Lib.hid H
  have HL := Lib.hid hl
  have t0 : w.cell? ⟨gT, 0, none⟩ = some (q 0) := H.b.get 0 rfl
  have t1 : w.cell? ⟨gT, 1, none⟩ = some (q 1) := H.b.get 1 rfl
  have t2 : w.cell? ⟨gT, 2, none⟩ = some (q 2) := H.b.get 2 rfl
  have t3 : w.cell? ⟨gT, 3, none⟩ = some (q 3) := H.b.get 3 rfl
  clear K H hl
  go_enter Try.func18, Try.ntmps18
  go_wp2_with fail
  refine (tpmade_yes gT gM _ HT.out.map_cell).mono ?_
  rintro e w1 ⟨rfl, rfl⟩
  go_wp2_with fail
  go_loopw [3, 13] (fun u v wr => ∃ i c : Nat, u = .int .i64 (c : Int) ∧ v = .int .i64 (i : Int) ∧ i ≤ 4 ∧ Hid (c = cntK l i) ∧ Hid (Below w1.heap.size w1 wr)) (fun _ v _ => (4 - intOf v).toNat)
  case atStart => exact ⟨0, 0, rfl, rfl, by omega, Lib.hid rfl, Lib.hid (Below.refl _ _)⟩
  case round =>
    obtain ⟨i, c, rfl, rfl, hi, HC, HB⟩ := hrel
    clear t0 t1 t2 t3
    rcases Nat.lt_or_ge i 4 with h4 | h4
    · have hix := fun w => idx4 q w h4
      have hT := HT.out.keep HK.out.toRepOk HB.out
      have HLN := Lib.hid (HK.out.len wr (q i) (Fs i) 1000000 (l i) (hT.tr i h4) (HL.out i h4))
      have hc4 : c ≤ 4000 := by have := cntK_le l 1000 HL.out i hi; have := HC.out; omega
      have hl4 := HL.out i h4
      obtain ⟨N, hN⟩ : ∃ N : Nat, (l i).length = N := ⟨_, rfl⟩
      rw [hN] at HLN hl4
      have HNN := Lib.hid hN
      clear hT hN
      go_wp2_with fail
      refine HLN.out.mono ?_
      rintro e w2 ⟨rfl, b2⟩
      have HB2 := Lib.hid (HB.out.trans (b2.mono HB.out.size))
      clear b2 HLN
      go_wp2_with fail
      go_roundw
      case rel => exact ⟨i + 1, c + N, by go_num, by go_num, by omega, Lib.hid (by rw [HC.out, ← HNN.out]; rfl), HB2⟩
      case measure => simp [intOf]; omega
    · obtain rfl : i = 4 := by omega
      have HF := Lib.hid HC.out
      have d0 : decide (((4 : Nat) : Int) < 4) = false := decide_eq_false (by omega)
      go_wp2_with fail
      go_ret
      exact ⟨by rw [← HF.out]; rfl, HB.out⟩
set_option maxHeartbeats 2000000 in
theorem tpends_of (p : Value) (f : Int → Int) (a b : Int) (w : World) (hsegs : ∀ w', Below w.heap.size w w' → Calls Try.prog 12 #[p, .agg #[.int .i64 a, .int .i64 b]] w' (RetSegF 46 w' f a b)) : Calls Try.prog 14 #[p, .agg #[.int .i64 a, .int .i64 b]] w (RetEnds 3 w f a b) := by
  have hs0 := (SepF.nil w).push #[.int .i64 a, .int .i64 b] 24
  have HS0 := Lib.hid (show SepF (fun _ => False) w [blkT w.heap.size #[.int .i64 a, .int .i64 b]] _ from hs0)
  have x0 := (HS0.out.b 0 rfl).get 0 rfl
  have x1 := (HS0.out.b 0 rfl).get 1 rfl
  have HSG := Lib.hid (hsegs _ HS0.out.bl)
  clear hs0 hsegs
  go_enter Try.func14, Try.ntmps14
  go_wp2_with fail
  refine HSG.out.mono ?_
  rintro e w1 ⟨out, A, n, c, rfl, s1, s2, s3⟩
  have HSF := Lib.hid s1
  have hol := segF_len s1
  have HLN := Lib.hid (own_len s2)
  have hn4 : n ≤ 4000000 := by have := own_len s2; omega
  have hs1 := HS0.out.addRow s2 (own_ge s2) s3
  generalize hB1 : (w.alloc (.cells #[.int .i64 a, .int .i64 b] 24)).heap.size = B1 at hs1
  have HS1 := Lib.hid (show SepF (fun _ => False) w [blkT w.heap.size #[.int .i64 a, .int .i64 b], rowT B1 46 3 A n c (cells3 out)] w1 from hs1)
  have HSZ := Lib.hid hs1.bl.size
  clear s1 s2 s3 hs1 hB1 HSG x0 x1
  go_wp2_with fail
  go_loopw [5, 12] (fun u v wr => ∃ (k N C : Nat) (E : Option Addr), u = .slice E N C ∧ v = .int .i64 (k : Int) ∧ k ≤ n ∧ N ≤ k ∧ wr.ownsRow w1.heap.size 3 1 (.slice E N C) N (ints (endsK a (out.take k))) ∧ Hid (Below w1.heap.size w1 wr)) (fun _ v _ => (n - intOf v).toNat)
  case atStart => exact ⟨0, 0, 0, none, rfl, rfl, by omega, by omega, World.ownsRow_nil _ _ _ _, Lib.hid (Below.refl _ _)⟩
  case round =>
    obtain ⟨k, N, C, E, rfl, rfl, hk, hNk, hown, HB⟩ := hrel
    have HO := Lib.hid hown
    have hs2 := HS1.out.keep HB.out
    have x0 := (hs2.b 0 rfl).get 0 rfl
    by_cases hlt : k < n
    · obtain ⟨g, ⟨y1, y2, y3⟩, rfl, hx, c0, c1, c2⟩ := own_get (hs2.row 1 rfl) hlt
      have HX := Lib.hid hx
      have hbx := (Below.refl wr.heap.size wr).alloc (Nat.le_refl _) (.cells #[.int .i64 y1, .int .i64 y2, .int .i64 y3] 46)
      have HBX := Lib.hid (HB.out.trans (hbx.mono HB.out.size))
      have HOX := Lib.hid (own_keep hown hbx)
      have hbn := Blk.new wr #[.int .i64 y1, .int .i64 y2, .int .i64 y3] 46
      have z0 := hbn.get 0 rfl
      have u0 := ((hs2.keep hbx).b 0 rfl).get 0 rfl
      clear hs2 hx hbx hbn hown
      by_cases hgt : y1 > a
      · have HE := Lib.hid (show endsK a (out.take (k + 1)) = endsK a (out.take k) ++ [y1] by rw [endsK_more HX.out, if_pos hgt])
        have d0 : decide (y1 > a) = true := decide_eq_true hgt
        go_upto_region 6 with fail
        generalize wr.alloc (.cells #[.int .i64 y1, .int .i64 y2, .int .i64 y3] 46) = wx at *
        go_wp2_with (at_builtin; refine wpList_app2 rfl _ _ 39 rfl (ints [y1]) elem_intT rfl (HOX.out.alloc (.cells (ints [y1]).toArray 3)) rfl rfl (new_cells wx (ints [y1]) 3) (ints_one _) (by omega) (by unfold maxLen; omega) (by have := HBX.out.size; simp; omega) ?_)
        intro v4 w4 hown4 hg4 hb4
        obtain ⟨A4, d4, rfl, _⟩ := Lies.of_own hown4 (by have := hown4.1; exact this)
        have HO4 := Lib.hid hown4
        have HB4 := Lib.hid ((HBX.out.alloc HBX.out.size (.cells (ints [y1]).toArray 3)).grown hg4 (by have := HBX.out.size; simp; omega) (fun j hj => own_ge HOX.out j hj))
        clear hown4 hg4 hb4 z0 u0 x0 c0 c1 c2
        go_wp2_with fail
        go_roundw
        case rel => exact ⟨k + 1, N + 1, d4, A4, rfl, by go_num, by omega, by omega, by rw [HE.out, ints_append]; exact HO4.out, HB4⟩
        case measure => simp [intOf]; omega
      · have HE := Lib.hid (show endsK a (out.take (k + 1)) = endsK a (out.take k) by rw [endsK_more HX.out, if_neg hgt])
        have d0 : decide (y1 > a) = false := decide_eq_false hgt
        go_wp2_with fail
        go_roundw
        case rel => exact ⟨k + 1, N, C, E, rfl, by go_num, by omega, by omega, by rw [HE.out]; exact HOX.out, HBX⟩
        case measure => simp [intOf]; omega
    · have HE := Lib.hid (show endsK a (out.take k) = endsL out by rw [List.take_of_length_le (by rw [HLN.out]; omega)]; exact endsK_all HSF.out)
      clear hs2
      go_wp2_with fail
      go_ret
      refine ⟨out, E, N, C, rfl, HSF.out, ?_, HS1.out.bl.trans (HB.out.mono HSZ.out)⟩
      rw [← HE.out]
      exact own_low HO.out HSZ.out
set_option maxHeartbeats 2000000 in
theorem mcopy_any (gD gS : Nat) (m : Int → Option Int) (w : World) (hd : MapI w gD (fun _ => none)) (hs : MapI w gS m) (hne : gD ≠ gS) : Calls Try.prog 38 #[.map (some gD), .map (some gS)] w fun e w' => e = .returned (.tuple #[]) ∧ MapI w' gD m ∧ Off (· = gD) w w' := by
  obtain ⟨T, c, hT, hm⟩ := hs
  have HD := Lib.hid hd
  have HT := Lib.hid hT
  have HM := Lib.hid hm
  have hlt := hd.lt
  clear hd hm
  go_enter Try.func38, Try.ntmps38
  go_wp2_with (first
    | (at_range; refine wpl_maprange rfl _ rfl rfl hT ?_; intro hrg)
    | go_in)
  go_frame
  have HR0 := Lib.hid hrg
  have hb0 := (Below.refl w.heap.size w).alloc (Nat.le_refl _) (.mapIter (some gS) c #[] c)
  have HM0 := Lib.hid (HD.out.of_eq (hb0.block _ hlt))
  have HB0 := Lib.hid hb0
  clear hrg hb0
  go_loopw [8] (fun _ wr => ∃ (seen : Array Nat) (md : Int → Option Int), Hid (RngI wr gS w.heap.size T c seen) ∧ Hid (MapI wr gD md) ∧ Hid (∀ a v, md a = some v ↔ ∃ n, (a, v, n) ∈ T ∧ seen.contains n = true) ∧ Hid (Off (· = gD) w wr)) (fun _ wr => wr.rangeLeft gS w.heap.size)
  case atStart => exact ⟨#[], fun _ => none, HR0, HM0, Lib.hid (fun a v => ⟨fun h => (by cases h), fun ⟨n, _, h⟩ => by simp at h⟩), Lib.hid (Off.of HB0.out)⟩
  case round =>
    obtain ⟨seen, md, HR, HMD, HE, HO⟩ := hrel
    have hr := HR.out
    have hm := HMD.out
    clear HR0 HM0 HB0
    go_wp2_with (first
      | (at_next; refine wpl_mapnext rfl _ rfl rfl hr ?_ ?_)
      | go_in)
    · intro hall
      have HEQ := Lib.hid (show md = m from by
        funext a
        cases h : m a with
        | none =>
          cases h2 : md a with
          | none => rfl
          | some v =>
            obtain ⟨n, hn, _⟩ := (HE.out a v).1 h2
            rw [(HM.out a v).2 ⟨n, hn⟩] at h
            cases h
        | some v =>
          obtain ⟨n, hn⟩ := (HM.out a v).1 h
          exact (HE.out a v).2 ⟨n, hn, by simpa using hall _ _ _ hn⟩)
      clear hall hr hm
      go_wp2_with fail
      go_end0
      exact ⟨rfl, by rw [← HEQ.out]; exact HMD.out, HO.out⟩
    · intro x v n w2 hin hns hr2 hlft ho2 hsz2 hent
      have hb3 := (Below.refl w2.heap.size w2).alloc (Nat.le_refl _) (.cells #[.int .i64 v] 78)
      have hlr : w.heap.size < w2.heap.size := (Array.getElem?_eq_some_iff.1 hr2.it).1
      have hrs : gS < w2.heap.size := (Array.getElem?_eq_some_iff.1 hr2.mp.at_).1
      have hmz : md x = none := by
        cases h : md x with
        | none => rfl
        | some v' =>
          obtain ⟨n', hn', hs'⟩ := (HE.out x v').1 h
          have e := nodup_eq hr2.mp.keys hin hn' rfl
          injection e with _ e
          injection e with _ e
          subst e
          exact absurd (by simpa using hs') hns
      have hm2 : MapI w2 gD md := HMD.out.off ho2 (by omega)
      obtain ⟨o, hupd, hm3, ho3⟩ := upd_int (w := w2.alloc (.cells #[.int .i64 v] 78)) x v (hm2.of_eq (hb3.block gD (by have := hm2.lt; omega))) hmz
      have h3r : (ChangeMaps.setBlock (w2.alloc (.cells #[.int .i64 v] 78)) gD o).heap[w.heap.size]? = w2.heap[w.heap.size]? := (ho3.block _ (by simp; omega) (by omega)).trans (hb3.block _ hlr)
      have h3s : (ChangeMaps.setBlock (w2.alloc (.cells #[.int .i64 v] 78)) gD o).heap[gS]? = w2.heap[gS]? := (ho3.block _ (by simp; omega) (fun e => hne e.symm)).trans (hb3.block _ hrs)
      have HR3 := Lib.hid (show RngI (ChangeMaps.setBlock (w2.alloc (.cells #[.int .i64 v] 78)) gD o) gS w.heap.size T c (seen.push n) from ⟨⟨h3s.trans hr2.mp.at_, hr2.mp.keys, hr2.mp.born, hr2.mp.low⟩, h3r.trans hr2.it⟩)
      have HM3 := Lib.hid hm3
      have HE3 := Lib.hid (show ∀ a v', updM md x (some v) a = some v' ↔ ∃ n', (a, v', n') ∈ T ∧ (seen.push n).contains n' = true from by
        intro a v'
        unfold updM
        split
        · rename_i e
          subst e
          constructor
          · intro h
            obtain rfl := Option.some.inj h
            exact ⟨n, hin, by simp⟩
          · rintro ⟨n', hn', _⟩
            have e := nodup_eq hr2.mp.keys hin hn' rfl
            injection e with _ e
            injection e with e _
            rw [e]
        · rename_i e
          rw [HE.out a v']
          constructor
          · rintro ⟨n', hn', hs'⟩
            exact ⟨n', hn', by simp at hs' ⊢; exact .inl hs'⟩
          · rintro ⟨n', hn', hs'⟩
            refine ⟨n', hn', ?_⟩
            simp at hs' ⊢
            rcases hs' with hs' | hs'
            · exact hs'
            · subst hs'
              have h1 := hr2.mp.born
              exfalso
              exact e (born_one h1 hn' hin))
      have HO3 := Lib.hid ((off_turn HO.out ho2 (fun k e => .inr (Nat.le_of_eq e.symm))).trans ((Off.of (F := (· = gD)) hb3).trans ho3))
      have HLF := Lib.hid (show (ChangeMaps.setBlock (w2.alloc (.cells #[.int .i64 v] 78)) gD o).rangeLeft gS w.heap.size < wr.rangeLeft gS w.heap.size from by
        unfold World.rangeLeft at hlft ⊢
        rw [h3r, h3s]; exact hlft)
      clear hr hm hm2 hm3 ho3 h3r h3s hb3 hmz hns hin hr2 ho2 hlft
      go_wp2_with fail
      go_roundw
      case rel => exact ⟨seen.push n, updM md x (some v), HR3, HM3, HE3, HO3⟩
      case measure => exact HLF.out
end Go.Proofs.Ytockjcainkoifaa
namespace Corr
set_option maxRecDepth 8000
open Go Go.RowKit
set_option linter.unusedVariables false
/-- A timeline that is being made: i of its trees are there. -/
structure NwI (Rep : RepT) (w : World) (gT gM i : Nat) (c : Nat → Value) (Fs : Nat → Nat → Prop) (wr : World) : Prop where
  b : Blk wr gT #[c 0, c 1, c 2, c 3, .map (some gM)]
  mp : MapI wr gM (fun _ => none)
  tr : ∀ j, j < i → Rep wr (c j) (Fs j) 1000000 []
  ptr : ∀ j, j < i → ∃ a, c j = .pointer (some a)
  lo : gM = w.heap.size ∧ gT = w.heap.size + 1
  fT : ∀ j, j < i → ∀ k, Fs j k → gT < k
  ff : ∀ j k, j < i → k < i → j ≠ k → ∀ x, Fs j x → ¬ Fs k x
  bl : Below w.heap.size w wr
def updC (c : Nat → Value) (i : Nat) (v : Value) : Nat → Value := fun j => if j = i then v else c j
theorem cells_upd (c : Nat → Value) (m : Value) : ∀ {i : Nat} (v : Value), i < 4 → (#[c 0, c 1, c 2, c 3, m]).setIfInBounds i v = #[updC c i v 0, updC c i v 1, updC c i v 2, updC c i v 3, m]
  | 0, v, _ => by simp [updC]
  | 1, v, _ => by simp [updC]
  | 2, v, _ => by simp [updC]
  | 3, v, _ => by simp [updC]
/-- What is known while a round makes a tree. -/
def NewD (Rep : RepT) (wr : World) (b : Bool) (v : Value) (wx : World) : Prop := Below wr.heap.size wr wx ∧ (b = true → ∃ q F, v = .tuple #[.pointer (some q), .int .i64 0] ∧ Rep wx (.pointer (some q)) F 1000000 [] ∧ ∀ k, F k → wr.heap.size ≤ k)
section
variable {Rep : RepT} {w wr wz : World} {gT gM i : Nat} {c : Nat → Value} {Fs : Nat → Nat → Prop}
theorem NwI.step (R : RepOk Rep) (h : NwI Rep w gT gM i c Fs wr) (hi : i < 4) {q : Addr} (hD : NewD Rep wr true (.tuple #[.pointer (some q), .int .i64 0]) wz) : ∃ Fs', NwI Rep w gT gM (i + 1) (updC c i (.pointer (some q))) Fs' (wz.setCell ⟨gT, i, none⟩ (.pointer (some q))) := by
  obtain ⟨hb, h2⟩ := hD
  obtain ⟨q', F, e, hr, hF⟩ := h2 rfl
  have e1 : q' = q := by
    injection e with e
    injection e with e
    injection e with e _
    injection e with e
    injection e with e
    exact e.symm
  subst e1
  obtain ⟨l1, l2⟩ := h.lo
  have hT := h.b.sz
  have hM := h.mp.lt
  have hs := hb.size
  have ho : Off (· = gT) wz (wz.setCell ⟨gT, i, none⟩ (.pointer (some q'))) := Off.set (F := (· = gT)) (a := ⟨gT, i, none⟩) rfl _
  have hoff : ∀ {p F' l}, Rep wz p F' 1000000 l → (∀ k, F' k → gT < k) → Rep (wz.setCell ⟨gT, i, none⟩ (.pointer (some q'))) p F' 1000000 l := fun h1 h2 => R.keep h1 ho fun k hk e => by have := h2 k hk; omega
  refine ⟨updB Fs i F, ?_, ?_, fun j hj => ?_, fun j hj => ?_, ⟨l1, l2⟩, fun j hj => ?_, fun j k hj hk hne x => ?_, ?_⟩
  · rw [← cells_upd c _ _ hi]
    exact (h.b.keep hb).set i _
  · exact (h.mp.of_eq (hb.block _ hM)).off ho (by omega)
  · unfold updC updB
    by_cases e : j = i
    · rw [if_pos e, if_pos e]; exact hoff hr fun k hk => by have := hF k hk; omega
    · rw [if_neg e, if_neg e]
      exact hoff (R.keep (h.tr j (by omega)) (Off.of (F := fun _ => False) hb) (fun _ _ e => e)) (h.fT j (by omega))
  · unfold updC
    split
    · exact ⟨_, rfl⟩
    · exact h.ptr j (by omega)
  · unfold updB
    split
    · intro k hk; have := hF k hk; omega
    · exact h.fT j (by omega)
  · have new : ∀ k, k < i → F x → ¬ Fs k x := fun k hk h1 h2 => by have := hF x h1; have := R.lt (h.tr k hk) x h2; omega
    unfold updB
    by_cases ej : j = i
    · rw [if_pos ej, if_neg (fun e => hne (ej.trans e.symm))]
      exact new k (by omega)
    · by_cases ek : k = i
      · rw [if_neg ej, if_pos ek]
        exact fun h1 h2 => new j (by omega) h2 h1
      · rw [if_neg ej, if_neg ek]
        exact h.ff j k (by omega) (by omega) hne x
  · exact (h.bl.trans (hb.mono h.bl.size)).setCell (p := ⟨gT, i, none⟩) (by show w.heap.size ≤ gT; omega) _
theorem NwI.done (h : NwI Rep w gT gM 4 c Fs wr) : Tp Rep wr gT gM c Fs (fun _ => []) (fun _ => none) ∧ Below w.heap.size w wr ∧ ∀ k, TpF gT gM Fs k → w.heap.size ≤ k := by
  obtain ⟨l1, l2⟩ := h.lo
  refine ⟨⟨h.b, h.mp, h.tr, h.ptr, by omega, fun i hi e => ?_, fun i hi e => ?_, h.ff⟩, h.bl, ?_⟩
  · have := h.fT i hi _ e; omega
  · have := h.fT i hi _ e; omega
  · rintro k (rfl | rfl | ⟨i, hi, hk⟩)
    · omega
    · omega
    · have := h.fT i hi k hk; omega
end
end Corr
namespace Go.Proofs.Ytockjcainkoifaa
set_option maxRecDepth 8000
open Go.RowKit Corr
set_option linter.unusedVariables false
set_option linter.unusedSimpArgs false
set_option maxHeartbeats 4000000 in
theorem tpnew_any {Rep : RepT} (K : TrK Rep) (w : World) : Calls Try.prog 9 #[] w fun e w' => ∃ gT gM c Fs, e = .returned (.pointer (some ⟨gT, 0, none⟩)) ∧ Tp Rep w' gT gM c Fs (fun _ => []) (fun _ => none) ∧ Below w.heap.size w w' ∧ ∀ k, TpF gT gM Fs k → w.heap.size ≤ k := by
  have HK := Lib.hid K
  have HM := Lib.hid (show NwI Rep w (w.heap.size + 1) w.heap.size 0 (fun _ => .pointer none) (fun _ _ => False) ((w.alloc (.map #[] 0)).alloc (.cells #[.pointer none, .pointer none, .pointer none, .pointer none, .map (some w.heap.size)] 58)) from by
    refine ⟨?_, ?_, fun j hj => by omega, fun j hj => by omega, ⟨rfl, rfl⟩, fun j hj => by omega, fun j k hj => by omega, ?_⟩
    · have := Blk.new (w.alloc (.map #[] 0)) #[.pointer none, .pointer none, .pointer none, .pointer none, .map (some w.heap.size)] 58
      simpa using this
    · exact (MapI.made w).of_eq (Below.heap_alloc _ _ _ (by simp))
    · exact Joins.below_alloc2 w _ _)
  have hmm : ∀ (t : TypeId) (w : World), (Instr.makeMap t none).run Try.prog w = .ok (.map (some w.heap.size)) (w.alloc (.map #[] 0)) := fun _ _ => rfl
  clear K
  go_enter Try.func9, Try.ntmps9
  go_wp2_with fail
  generalize (w.alloc (.map #[] 0)).alloc (.cells #[.pointer none, .pointer none, .pointer none, .pointer none, .map (some w.heap.size)] 58) = wq at *
  obtain ⟨gT, hgT⟩ : ∃ k, w.heap.size + 1 = k := ⟨_, rfl⟩
  obtain ⟨gM, hgM⟩ : ∃ k, w.heap.size = k := ⟨_, rfl⟩
  rw [hgT] at HM ⊢
  have HM := Lib.hid (show NwI Rep w gT gM 0 (fun _ => .pointer none) (fun _ _ => False) wq from hgM ▸ HM.out)
  clear hgT hgM
  go_loopw [6] (fun u wr => ∃ (i : Nat) (c : Nat → Value) (Fs : Nat → Nat → Prop), u = .int .i64 (i : Int) ∧ i ≤ 4 ∧ NwI Rep w gT gM i c Fs wr) (fun u _ => (4 - intOf u).toNat)
  case atStart => exact ⟨0, _, _, rfl, by omega, HM.out⟩
  case round =>
    clear HM
    obtain ⟨i, c, Fs, rfl, hi, hN⟩ := hrel
    have HN := Lib.hid hN
    clear hN
    rcases Nat.lt_or_ge i 4 with h4' | h4'
    · have i1 : (0 : Int) ≤ (i : Int) := by omega
      have i2 : (i : Int) < 4 := by omega
      have i3 : ((i : Int)).toNat = i := by omega
      go_upto_region 5 with fail
      refine wp_region_val 9 (fun S val wx => VVs 9 [(fun vv => vv = .pointer (some ⟨gT, 0, none⟩)), (fun vv => vv = .int .i64 (i : Int)), (fun vv => ∃ qa, vv = .tuple #[.pointer (some qa), .int .i64 0]), (fun vv => ∃ qb, vv = .tuple #[.pointer (some qb), .int .i64 0]), (fun vv => ∃ qc, vv = .pointer (some qc)), (fun vv => vv = .int .i64 0), (fun vv => vv = .pointer (some ⟨gT, 0, none⟩)), (fun vv => vv = .pointer (some ⟨gT, 0, none⟩)), (fun vv => vv = .pointer (some ⟨gT, i, none⟩))] S val ∧ Clo [[], [], [], [2], [3], [3], [0], [6], [7, 1]] S ∧ (NewD Rep wr (S 2) (val 2) wx ∧ (S 3 = true → val 3 = val 2) ∧ (S 4 = true → ∃ qd, val 3 = .tuple #[.pointer (some qd), .int .i64 0] ∧ val 4 = .pointer (some qd)))) [0, 1, 3, 4, 5, 6, 7, 8] (by kernel_rfl) (by kernel_rfl) ⟨VVs.start, Clo.start, ⟨⟨(Below.refl _ wr).drew, fun h => by cases h⟩, (fun h => by cases h), fun h => by cases h⟩⟩ ⟨?_, ?_, ?_, ?_, ?_, ?_, ?_, ?_, ?_, trivial⟩ ?_
      · rintro ev wv S val hE ⟨hV, hK, hw⟩ hS hd
        have hcl := Clo.add hK (i := 0) ((fun _ h => by cases h))
        have v1 : ev (.tmp 1) = .pointer (some ⟨gT, 0, none⟩) := hE.tmp 1 rfl
        refine ifw rfl (ifw rfl ⟨.pointer (some ⟨gT, 0, none⟩), fun w9 => ?_, VVs.add hV rfl, hcl, hw⟩)
        have e1 := hE.const; have e2 := hE.func; clear hE hd hw hS hV hK hcl
        show _ = Result.ok (Next.value (.pointer (some ⟨gT, 0, none⟩))) w9
        go_simp
      · rintro ev wv S val hE ⟨hV, hK, hw⟩ hS hd
        have hcl := Clo.add hK (i := 1) ((fun _ h => by cases h))
        have v2 : ev (.tmp 2) = .int .i64 (i : Int) := hE.tmp 2 rfl
        refine ifw rfl (ifw rfl ⟨.int .i64 (i : Int), fun w9 => ?_, VVs.add hV rfl, hcl, hw⟩)
        have e1 := hE.const; have e2 := hE.func; clear hE hd hw hS hV hK hcl
        show _ = Result.ok (Next.value (.int .i64 (i : Int))) w9
        go_simp
      · rintro ev wv S val hE ⟨hV, hK, hw⟩ hS hd
        have hcl := Clo.add hK (i := 2) ((fun _ h => by cases h))
        refine ifw rfl (ifn rfl ?_)
        refine set_call (f := 24) (args := #[.int .i64 1000000]) ?_ (HK.out.make 1000000 wv (by decide) (by decide)) ?_
        · have e0 := hE.func; have e1 := hE.const; clear hE hd hw hS hV hK hcl
          go_simp
        · rintro e w' ⟨qn, Fn, rfl, hr, hb', hFn⟩
          exact ⟨_, rfl, VVs.add hV (⟨qn, rfl⟩), hcl, ⟨⟨hw.1.1.trans (hb'.mono hw.1.1.size), fun _ => ⟨qn, Fn, rfl, hr, fun k hk => Nat.le_trans hw.1.1.size (hFn k hk)⟩⟩, (fun h => absurd (hK 3 h 2 (by decide)) (by rw [hS]; decide)), (fun h => absurd (hK 3 (hK 4 h 3 (by decide)) 2 (by decide)) (by rw [hS]; decide))⟩⟩
      · rintro ev wv S val hE ⟨hV, hK, hw⟩ hS hd
        have hcl := Clo.add hK (i := 3) (List.forall_mem_cons.2 ⟨(hd 2 (by decide)).1, (fun _ h => by cases h)⟩)
        obtain ⟨qa2, g2⟩ := hV 2 (by decide) (hd 2 (by decide)).1
        have v12 : ev (.tmp 12) = .tuple #[.pointer (some qa2), .int .i64 0] := (hd 2 (by decide)).2.trans g2
        refine ifw rfl (ifw rfl ⟨.tuple #[.pointer (some qa2), .int .i64 0], fun w9 => ?_, VVs.add hV ⟨qa2, rfl⟩, hcl, ⟨hw.1, (fun _ => g2.symm), (fun h => absurd (hK 4 h 3 (by decide)) (by rw [hS]; decide))⟩⟩)
        have e1 := hE.const; have e2 := hE.func; clear hE hd hw hS hV hK hcl
        show _ = Result.ok (Next.value (.tuple #[.pointer (some qa2), .int .i64 0])) w9
        go_simp
      · rintro ev wv S val hE ⟨hV, hK, hw⟩ hS hd
        have hcl := Clo.add hK (i := 4) (List.forall_mem_cons.2 ⟨(hd 3 (by decide)).1, (fun _ h => by cases h)⟩)
        obtain ⟨qb3, g3⟩ := hV 3 (by decide) (hd 3 (by decide)).1
        have v9 : ev (.tmp 9) = .tuple #[.pointer (some qb3), .int .i64 0] := (hd 3 (by decide)).2.trans g3
        refine ifw rfl (ifw rfl ⟨.pointer (some qb3), fun w9 => ?_, VVs.add hV ⟨qb3, rfl⟩, hcl, ⟨hw.1, hw.2.1, (fun _ => ⟨qb3, g3, rfl⟩)⟩⟩)
        have e1 := hE.const; have e2 := hE.func; clear hE hd hw hS hV hK hcl
        show _ = Result.ok (Next.value (.pointer (some qb3))) w9
        go_simp
      · rintro ev wv S val hE ⟨hV, hK, hw⟩ hS hd
        have hcl := Clo.add hK (i := 5) (List.forall_mem_cons.2 ⟨(hd 3 (by decide)).1, (fun _ h => by cases h)⟩)
        obtain ⟨qb3, g3⟩ := hV 3 (by decide) (hd 3 (by decide)).1
        have v9 : ev (.tmp 9) = .tuple #[.pointer (some qb3), .int .i64 0] := (hd 3 (by decide)).2.trans g3
        refine ifw rfl (ifw rfl ⟨.int .i64 0, fun w9 => ?_, VVs.add hV rfl, hcl, hw⟩)
        have e1 := hE.const; have e2 := hE.func; clear hE hd hw hS hV hK hcl
        show _ = Result.ok (Next.value (.int .i64 0)) w9
        go_simp
      · rintro ev wv S val hE ⟨hV, hK, hw⟩ hS hd
        have hcl := Clo.add hK (i := 6) (List.forall_mem_cons.2 ⟨(hd 0 (by decide)).1, (fun _ h => by cases h)⟩)
        have v10 : ev (.tmp 10) = .pointer (some ⟨gT, 0, none⟩) := (hd 0 (by decide)).2.trans (hV 0 (by decide) (hd 0 (by decide)).1)
        refine ifw rfl (ifw rfl ⟨.pointer (some ⟨gT, 0, none⟩), fun w9 => ?_, VVs.add hV rfl, hcl, hw⟩)
        have e1 := hE.const; have e2 := hE.func; clear hE hd hw hS hV hK hcl
        show _ = Result.ok (Next.value (.pointer (some ⟨gT, 0, none⟩))) w9
        go_simp
      · rintro ev wv S val hE ⟨hV, hK, hw⟩ hS hd
        have hcl := Clo.add hK (i := 7) (List.forall_mem_cons.2 ⟨(hd 6 (by decide)).1, (fun _ h => by cases h)⟩)
        have v15 : ev (.tmp 15) = .pointer (some ⟨gT, 0, none⟩) := (hd 6 (by decide)).2.trans (hV 6 (by decide) (hd 6 (by decide)).1)
        refine ifw rfl (ifw rfl ⟨.pointer (some ⟨gT, 0, none⟩), fun w9 => ?_, VVs.add hV rfl, hcl, hw⟩)
        have e1 := hE.const; have e2 := hE.func; clear hE hd hw hS hV hK hcl
        show _ = Result.ok (Next.value (.pointer (some ⟨gT, 0, none⟩))) w9
        go_simp
      · rintro ev wv S val hE ⟨hV, hK, hw⟩ hS hd
        have hcl := Clo.add hK (i := 8) (List.forall_mem_cons.2 ⟨(hd 7 (by decide)).1, List.forall_mem_cons.2 ⟨(hd 1 (by decide)).1, (fun _ h => by cases h)⟩⟩)
        have v16 : ev (.tmp 16) = .pointer (some ⟨gT, 0, none⟩) := (hd 7 (by decide)).2.trans (hV 7 (by decide) (hd 7 (by decide)).1)
        have v11 : ev (.tmp 11) = .int .i64 (i : Int) := (hd 1 (by decide)).2.trans (hV 1 (by decide) (hd 1 (by decide)).1)
        refine ifw rfl (ifw rfl ⟨.pointer (some ⟨gT, i, none⟩), fun w9 => ?_, VVs.add hV rfl, hcl, hw⟩)
        have e1 := hE.const; have e2 := hE.func; clear hE hd hw hS hV hK hcl
        show _ = Result.ok (Next.value (.pointer (some ⟨gT, i, none⟩))) w9
        go_simp
      · rintro S val wz hS ⟨hV, hK, hw⟩
        have e0 : val 0 = .pointer (some ⟨gT, 0, none⟩) := hV 0 (by decide) (hS 0 (by decide))
        have e1 : val 1 = .int .i64 (i : Int) := hV 1 (by decide) (hS 1 (by decide))
        obtain ⟨qa2, e2⟩ := hV 2 (by decide) (hS 2 (by decide))
        obtain ⟨qb3, e3⟩ := hV 3 (by decide) (hS 3 (by decide))
        obtain ⟨qc4, e4⟩ := hV 4 (by decide) (hS 4 (by decide))
        have e5 : val 5 = .int .i64 0 := hV 5 (by decide) (hS 5 (by decide))
        have e6 : val 6 = .pointer (some ⟨gT, 0, none⟩) := hV 6 (by decide) (hS 6 (by decide))
        have e7 : val 7 = .pointer (some ⟨gT, 0, none⟩) := hV 7 (by decide) (hS 7 (by decide))
        have e8 : val 8 = .pointer (some ⟨gT, i, none⟩) := hV 8 (by decide) (hS 8 (by decide))
        intro v0 h0 u0 v1 h1 u1 v2 h2 u2 v3 h3 u3 v4 h4 u4 v5 h5 u5 v6 h6 u6 v7 h7 u7 v8 h8 u8
        simp only [Act.put, List.setIfInBounds_toArray, List.set_cons_zero, List.set_cons_succ, List.drop_succ_cons, List.drop_zero]
        simp only [h0.trans e0, h1.trans e1, h2.trans e2, h3.trans e3, h4.trans e4, h5.trans e5, h6.trans e6, h7.trans e7, h8.trans e8]
        clear hV h0 e0 u0 v0 h1 e1 u1 v1 h2 u2 v2 h3 u3 v3 h4 u4 v4 h5 e5 u5 v5 h6 e6 u6 v6 h7 e7 u7 v7 h8 e8 u8 v8
        change wpList Try.prog _ _ _ _ wz
        obtain ⟨hD, h32, h4⟩ := hw
        obtain ⟨qd, k3, k4⟩ := h4 (hS 4 (by decide))
        have k2 := h32 (hS 3 (by decide))
        rw [hS 2 (by decide), ← k2, k3] at hD
        obtain rfl : qc4 = qd := by
          rw [e4] at k4
          injection k4 with k4
          injection k4
        obtain ⟨Fs', hN'⟩ := HN.out.step HK.out.toRepOk h4' hD
        have HN' := Lib.hid hN'
        have hbz := HN.out.b.keep hD.1
        have hfz := hbz.f i
        obtain ⟨v0, hv0⟩ : ∃ v0, wz.cell? ⟨gT, i, none⟩ = some v0 := by
          match i, h4' with
          | 0, _ => exact ⟨_, hbz.get 0 rfl⟩
          | 1, _ => exact ⟨_, hbz.get 1 rfl⟩
          | 2, _ => exact ⟨_, hbz.get 2 rfl⟩
          | 3, _ => exact ⟨_, hbz.get 3 rfl⟩
        clear hN' hbz hD h32 h4 k2 k3 k4 e4 e3 e2 hS hK val S
        go_wp2_with fail
        refine calm_normal ?_
        go_wp2_with fail
        go_roundw
        case rel => exact ⟨i + 1, _, Fs', by go_num, by omega, HN'.out⟩
        case measure => simp [intOf]; omega
    · obtain rfl : i = 4 := by omega
      go_wp2_with fail
      go_ret
      exact ⟨gT, gM, c, Fs, rfl, HN.out.done⟩
end Go.Proofs.Ytockjcainkoifaa
namespace Corr
set_option maxRecDepth 8000
open Go Go.RowKit
set_option linter.unusedVariables false
/-- A timeline's trees and map, as a thing. -/
def tpR {Rep : RepT} (R : RepOk Rep) (gT gM : Nat) (q : Nat → Value) (l : Nat → ItL) (m : Int → Option Int) : Thing where
  P w F := ∃ Fs, Tp Rep w gT gM q Fs l m ∧ F = TpF gT gM Fs
  lt := fun ⟨Fs, h, hF⟩ k hk => by subst hF; exact h.lt R k hk
  keep := fun ⟨Fs, h, hF⟩ ho hn => ⟨Fs, h.off R ho (by subst hF; exact hn), hF⟩
/-- The trees while a copy is made: those ahead of i whole, k items of i. -/
def cpL (l : Nat → ItL) (i k : Nat) : Nat → ItL := fun j => if j < i then l j else if j = i then (l i).take k else []
theorem cpL_zero (l : Nat → ItL) : cpL l 0 0 = fun _ => [] := by
  funext j
  unfold cpL
  rw [if_neg (by omega)]
  split <;> simp
theorem cpL_at (l : Nat → ItL) (i k : Nat) : cpL l i k i = (l i).take k := by unfold cpL; rw [if_neg (by omega), if_pos rfl]
theorem cpL_step {l : Nat → ItL} {i k : Nat} {x : It} (hs : srt (l i)) (ho : ∀ x ∈ l i, okI x) (hx : (l i)[k]? = some x) (hl : (l i).length ≤ 1000) : updL (cpL l i k) i (insL 1000000 x (cpL l i k i)) = cpL l i (k + 1) := by
  rw [cpL_at, ins_take hs ho hx (by omega)]
  funext j
  unfold updL cpL
  by_cases e : j = i
  · subst e; rw [if_pos rfl, if_neg (by omega), if_pos rfl]
  · rw [if_neg e]
    by_cases h : j < i
    · rw [if_pos h, if_pos h]
    · rw [if_neg h, if_neg h, if_neg e, if_neg e]
theorem cpL_next {l : Nat → ItL} {i k : Nat} (hk : (l i).length ≤ k) : cpL l i k = cpL l (i + 1) 0 := by
  funext j
  unfold cpL
  by_cases h : j < i
  · rw [if_pos h, if_pos (by omega)]
  · by_cases e : j = i
    · subst e; rw [if_neg (by omega), if_pos rfl, if_pos (by omega), List.take_of_length_le hk]
    · rw [if_neg h, if_neg e, if_neg (by omega)]
      split
      · rw [List.take_zero]
      · rfl
theorem Tp.congr {Rep : RepT} {w : World} {gT gM : Nat} {q : Nat → Value} {Fs : Nat → Nat → Prop} {l l' : Nat → ItL} {m : Int → Option Int} (h : Tp Rep w gT gM q Fs l m) (e : ∀ i, i < 4 → l i = l' i) : Tp Rep w gT gM q Fs l' m :=
  ⟨h.b, h.mp, fun i hi => by rw [← e i hi]; exact h.tr i hi, h.ptr, h.ne, h.fT, h.fM, h.ff⟩
theorem cpL_all (l : Nat → ItL) : ∀ i, i < 4 → cpL l 4 0 i = l i := fun i hi => by unfold cpL; rw [if_pos hi]
/-- While an item is put: ahead of it, behind it. -/
def InsD (F0 : Nat → Prop) (w0 : World) (ts ts' : List Thing) (b : Bool) (wx : World) : Prop := (b = false → SepF F0 w0 ts wx) ∧ (b = true → SepF F0 w0 ts' wx)
end Corr
namespace Go.Proofs.Ytockjcainkoifaa
set_option maxRecDepth 8000
open Go.RowKit Corr
set_option linter.unusedVariables false
set_option linter.unusedSimpArgs false
theorem sepf_insert {Rep : RepT} (K : TrK Rep) {F0 : Nat → Prop} {w0 w : World} {ts : List Thing} (h : SepF F0 w0 ts w) {j gT gM i : Nat} {q : Nat → Value} {l : Nat → ItL} {m : Int → Option Int} (hj : ts[j]? = some (tpR K.toRepOk gT gM q l m)) (hi : i < 4) (hl : (l i).length ≤ 1000) (x : It) :
    Calls Try.prog 37 #[q i, .agg #[.int .i64 x.1, .int .i64 x.2.1, .int .i64 x.2.2]] w fun e w' => e = .returned (.int .i64 (insR 1000000 x (l i))) ∧ SepF F0 w0 (ts.set j (tpR K.toRepOk gT gM q (updL l i (insL 1000000 x (l i))) m)) w' := by
  obtain ⟨F, ⟨Fs, hp, rfl⟩, _, hu⟩ := h.get hj
  refine (K.insert w (q i) (Fs i) 1000000 (l i) x (hp.tr i hi) hl).mono fun e w' hq => ?_
  obtain ⟨F', he, h1, h2, h3⟩ := hq
  exact ⟨he, hu w' _ _ (h2.mono fun k _ hk => TpF.sub hi hk) ⟨_, hp.tree K.toRepOk hi h1 h2 h3, rfl⟩ (TpF.upd hi h3)⟩
theorem sepf_mcopy {Rep : RepT} (K : TrK Rep) {w0 w : World} {ts : List Thing} (h : SepF (fun _ => False) w0 ts w) {j gT gM gS : Nat} {q : Nat → Value} {l : Nat → ItL} {m : Int → Option Int} (hj : ts[j]? = some (tpR K.toRepOk gT gM q l (fun _ => none))) (hs : MapI w gS m) (hg : gS < w0.heap.size) :
    Calls Try.prog 38 #[.map (some gM), .map (some gS)] w fun e w' => e = .returned (.tuple #[]) ∧ SepF (fun _ => False) w0 (ts.set j (tpR K.toRepOk gT gM q l m)) w' := by
  obtain ⟨F, ⟨Fs, hp, rfl⟩, hF, hu⟩ := h.get hj
  have hge : w0.heap.size ≤ gM := (hF gM (.inr (.inl rfl))).resolve_left fun e => e
  refine (mcopy_any gM gS m w hp.mp hs (by omega)).mono fun e w' hq => ?_
  obtain ⟨he, h1, h2⟩ := hq
  exact ⟨he, hu w' _ _ (h2.mono fun k _ hk => .inr (.inl hk)) ⟨_, hp.map_ K.toRepOk h1 h2, rfl⟩ fun k hk => .inl hk⟩
theorem sepf_tp {Rep : RepT} {R : RepOk Rep} {F0 : Nat → Prop} {w0 w : World} {ts : List Thing} (h : SepF F0 w0 ts w) {j gT gM : Nat} {q : Nat → Value} {l : Nat → ItL} {m : Int → Option Int} (hj : ts[j]? = some (tpR R gT gM q l m)) : ∃ Fs, Tp Rep w gT gM q Fs l m := by
  obtain ⟨F, ⟨Fs, hp, _⟩, _⟩ := h.get hj; exact ⟨Fs, hp⟩
set_option maxRecDepth 100000 in
set_option maxHeartbeats 8000000 in
theorem tpcopy_any {Rep : RepT} (K : TrK Rep) (gT gM : Nat) (q : Nat → Value) (Fs : Nat → Nat → Prop) (l : Nat → ItL) (m : Int → Option Int) (w : World) (H : Tp Rep w gT gM q Fs l m) (hl : ∀ i, i < 4 → (l i).length ≤ 1000) (hs : ∀ i, i < 4 → srt (l i)) (ho : ∀ i, i < 4 → ∀ x ∈ l i, okI x) :
    Calls Try.prog 20 #[.pointer (some ⟨gT, 0, none⟩)] w fun e w' => ∃ gT' gM' q' Fs', e = .returned (.pointer (some ⟨gT', 0, none⟩)) ∧ Tp Rep w' gT' gM' q' Fs' l m ∧ Below w.heap.size w w' ∧ ∀ k, TpF gT' gM' Fs' k → w.heap.size ≤ k := by
  have HK := Lib.hid K
  have HT := Lib.hid H
  have HL := Lib.hid hl
  have HS := Lib.hid hs
  have HOK := Lib.hid ho
  have HLT := Lib.hid (H.lt K.toRepOk)
  clear K H hl hs ho
  go_enter Try.func20, Try.ntmps20
  go_wp2_with fail
  refine (tpnew_any HK.out w).mono ?_
  rintro e w1 ⟨gT', gM', q', Fs', rfl, h1, b1, h2⟩
  have hsp := (SepF.nil w).add (t := tpR HK.out.toRepOk gT' gM' q' (fun _ => []) (fun _ => none)) b1 ⟨Fs', h1, rfl⟩ h2
  have HSP := Lib.hid (show SepF (fun _ => False) w [tpR HK.out.toRepOk gT' gM' q' (cpL l 0 0) (fun _ => none)] w1 by rw [cpL_zero]; exact hsp)
  have HT1 := Lib.hid (HT.out.keep HK.out.toRepOk b1)
  clear h1 b1 h2 hsp
  go_wp2_with fail
  refine (tpmade_yes gT gM _ HT1.out.map_cell).mono ?_
  rintro e w2 ⟨rfl, hw2⟩
  subst w2
  have t0 : w1.cell? ⟨gT, 0, none⟩ = some (q 0) := HT1.out.b.get 0 rfl
  have t1 : w1.cell? ⟨gT, 1, none⟩ = some (q 1) := HT1.out.b.get 1 rfl
  have t2 : w1.cell? ⟨gT, 2, none⟩ = some (q 2) := HT1.out.b.get 2 rfl
  have t3 : w1.cell? ⟨gT, 3, none⟩ = some (q 3) := HT1.out.b.get 3 rfl
  go_wp2_with fail
  clear t0 t1 t2 t3
  go_loopw [17] (fun u wr => ∃ i : Nat, u = .int .i64 (i : Int) ∧ i ≤ 4 ∧ Hid (SepF (fun _ => False) w [tpR HK.out.toRepOk gT' gM' q' (cpL l i 0) (fun _ => none)] wr)) (fun u _ => (4 - intOf u).toNat)
  case atStart => exact ⟨0, rfl, by omega, HSP⟩
  case round =>
    obtain ⟨i, rfl, hi, HSI⟩ := hrel
    clear HSP HT1
    rcases Nat.lt_or_ge i 4 with h4 | h4
    · have hix := fun w => idx4 q w h4
      have d0 : decide ((i : Int) < 4) = true := decide_eq_true (by omega)
      have H4 := Lib.hid h4
      have HIT := Lib.hid (HK.out.items wr (q i) (Fs i) 1000000 (l i) ((HT.out.keep HK.out.toRepOk HSI.out.bl).tr i h4) (HL.out i h4))
      go_wp2_with fail
      refine HIT.out.mono ?_
      rintro e w3 ⟨A, n, c, rfl, o3, b3⟩
      have HLN := Lib.hid (own_len o3)
      have hn : n ≤ 1000 := by have h1 := own_len o3; have h2 := HL.out i h4; omega
      have hs3 := HSI.out.addRow o3 (own_ge o3) b3
      generalize hB3 : wr.heap.size = B3 at hs3
      have HS3 := Lib.hid (show SepF (fun _ => False) w [tpR HK.out.toRepOk gT' gM' q' (cpL l i 0) (fun _ => none), rowT B3 74 3 A n c (cells3 (l i))] w3 from hs3)
      clear o3 b3 hs3 hB3 HIT
      go_wp2_with fail
      go_loopw [24] (fun u wr => ∃ k : Nat, u = .int .i64 (k : Int) ∧ k ≤ n ∧ Hid (SepF (fun _ => False) w [tpR HK.out.toRepOk gT' gM' q' (cpL l i k) (fun _ => none), rowT B3 74 3 A n c (cells3 (l i))] wr)) (fun u _ => (n - intOf u).toNat)
      case atStart => exact ⟨0, rfl, by omega, HS3⟩
      case round =>
        obtain ⟨k, rfl, hk, HSK⟩ := hrel
        clear HS3
        by_cases hlt : k < n
        · obtain ⟨g, ⟨y1, y2, y3⟩, rfl, hx, c0, c1, c2⟩ := own_get (HSK.out.row 1 rfl) hlt
          have HEQ := Lib.hid (cpL_step (HS.out i h4) (HOK.out i h4) hx (HL.out i h4))
          have HS5 := Lib.hid (HSK.out.push #[.int .i64 y1, .int .i64 y2, .int .i64 y3] 74)
          have hcl : (cpL l i k i).length ≤ 1000 := by rw [cpL_at, List.length_take]; have := HL.out i h4; omega
          have HCL := Lib.hid hcl
          obtain ⟨Fs5, hp5⟩ := sepf_tp HS5.out (j := 0) rfl
          obtain ⟨qa, hqa, hqc⟩ := hp5.cells h4
          have i1 : (0 : Int) ≤ (i : Int) := by omega
          have i2 : (i : Int) < 4 := by omega
          have i3 : ((i : Int)).toNat = i := by omega
          obtain ⟨r, hr⟩ : ∃ r, insR 1000000 (y1, y2, y3) (cpL l i k i) = r := ⟨_, rfl⟩
          have HRR := Lib.hid hr
          have HQA := Lib.hid hqa
          clear hx hcl hp5 hqa hqc hr
          go_upto_region 10 with fail
          obtain ⟨gx, hgx⟩ : ∃ k, wr.heap.size = k := ⟨_, rfl⟩
          rw [hgx] at HS5 ⊢
          clear hgx c0 c1 c2
          generalize wr.alloc (.cells #[.int .i64 y1, .int .i64 y2, .int .i64 y3] 74) = wk at *
          refine wp_region_val 8 (fun S val wx => VVs 8 [(fun vv => vv = .pointer (some ⟨gT', 0, none⟩)), (fun vv => vv = .int .i64 (i : Int)), (fun vv => vv = .pointer (some ⟨gT', 0, none⟩)), (fun vv => vv = .pointer (some ⟨gT', 0, none⟩)), (fun vv => vv = .pointer (some ⟨gT', i, none⟩)), (fun vv => vv = q' i), (fun vv => vv = .agg #[.int .i64 y1, .int .i64 y2, .int .i64 y3]), (fun vv => vv = .int .i64 r)] S val ∧ Clo [[], [], [0], [2], [3, 1], [4], [], [5, 6]] S ∧ InsD (fun _ => False) w [tpR HK.out.toRepOk gT' gM' q' (cpL l i k) (fun _ => none), rowT B3 74 3 (some ⟨g, 0, none⟩) n c (cells3 (l i)), blkT gx #[.int .i64 y1, .int .i64 y2, .int .i64 y3]] [tpR HK.out.toRepOk gT' gM' q' (cpL l i (k + 1)) (fun _ => none), rowT B3 74 3 (some ⟨g, 0, none⟩) n c (cells3 (l i)), blkT gx #[.int .i64 y1, .int .i64 y2, .int .i64 y3]] (S 7) wx) [0, 1, 2, 3, 4] (by kernel_rfl) (by kernel_rfl) ⟨VVs.start, Clo.start, ⟨(fun _ => HS5.out.keep (Below.refl _ _).drew), (fun h => by cases h)⟩⟩ ⟨?_, ?_, ?_, ?_, ?_, ?_, ?_, ?_, trivial⟩ ?_
          · rintro ev wv S val hE ⟨hV, hK, hw⟩ hS hd
            have hcl := Clo.add hK (i := 0) ((fun _ h => by cases h))
            have v3 : ev (.tmp 3) = .pointer (some ⟨gT', 0, none⟩) := hE.tmp 3 rfl
            refine ifw rfl (ifw rfl ⟨.pointer (some ⟨gT', 0, none⟩), fun w9 => ?_, VVs.add hV rfl, hcl, hw⟩)
            have e1 := hE.const; have e2 := hE.func; clear hE hd hw hS hV hK hcl
            show _ = Result.ok (Next.value (.pointer (some ⟨gT', 0, none⟩))) w9
            go_simp
          · rintro ev wv S val hE ⟨hV, hK, hw⟩ hS hd
            have hcl := Clo.add hK (i := 1) ((fun _ h => by cases h))
            have v4 : ev (.tmp 4) = .int .i64 (i : Int) := hE.tmp 4 rfl
            refine ifw rfl (ifw rfl ⟨.int .i64 (i : Int), fun w9 => ?_, VVs.add hV rfl, hcl, hw⟩)
            have e1 := hE.const; have e2 := hE.func; clear hE hd hw hS hV hK hcl
            show _ = Result.ok (Next.value (.int .i64 (i : Int))) w9
            go_simp
          · rintro ev wv S val hE ⟨hV, hK, hw⟩ hS hd
            have hcl := Clo.add hK (i := 2) (List.forall_mem_cons.2 ⟨(hd 0 (by decide)).1, (fun _ h => by cases h)⟩)
            have v28 : ev (.tmp 28) = .pointer (some ⟨gT', 0, none⟩) := (hd 0 (by decide)).2.trans (hV 0 (by decide) (hd 0 (by decide)).1)
            refine ifw rfl (ifw rfl ⟨.pointer (some ⟨gT', 0, none⟩), fun w9 => ?_, VVs.add hV rfl, hcl, hw⟩)
            have e1 := hE.const; have e2 := hE.func; clear hE hd hw hS hV hK hcl
            show _ = Result.ok (Next.value (.pointer (some ⟨gT', 0, none⟩))) w9
            go_simp
          · rintro ev wv S val hE ⟨hV, hK, hw⟩ hS hd
            have hcl := Clo.add hK (i := 3) (List.forall_mem_cons.2 ⟨(hd 2 (by decide)).1, (fun _ h => by cases h)⟩)
            have v30 : ev (.tmp 30) = .pointer (some ⟨gT', 0, none⟩) := (hd 2 (by decide)).2.trans (hV 2 (by decide) (hd 2 (by decide)).1)
            refine ifw rfl (ifw rfl ⟨.pointer (some ⟨gT', 0, none⟩), fun w9 => ?_, VVs.add hV rfl, hcl, hw⟩)
            have e1 := hE.const; have e2 := hE.func; clear hE hd hw hS hV hK hcl
            show _ = Result.ok (Next.value (.pointer (some ⟨gT', 0, none⟩))) w9
            go_simp
          · rintro ev wv S val hE ⟨hV, hK, hw⟩ hS hd
            have hcl := Clo.add hK (i := 4) (List.forall_mem_cons.2 ⟨(hd 3 (by decide)).1, List.forall_mem_cons.2 ⟨(hd 1 (by decide)).1, (fun _ h => by cases h)⟩⟩)
            have v31 : ev (.tmp 31) = .pointer (some ⟨gT', 0, none⟩) := (hd 3 (by decide)).2.trans (hV 3 (by decide) (hd 3 (by decide)).1)
            have v29 : ev (.tmp 29) = .int .i64 (i : Int) := (hd 1 (by decide)).2.trans (hV 1 (by decide) (hd 1 (by decide)).1)
            refine ifw rfl (ifw rfl ⟨.pointer (some ⟨gT', i, none⟩), fun w9 => ?_, VVs.add hV rfl, hcl, hw⟩)
            have e1 := hE.const; have e2 := hE.func; clear hE hd hw hS hV hK hcl
            show _ = Result.ok (Next.value (.pointer (some ⟨gT', i, none⟩))) w9
            go_simp
          · rintro ev wv S val hE ⟨hV, hK, hw⟩ hS hd
            have hcl := Clo.add hK (i := 5) (List.forall_mem_cons.2 ⟨(hd 4 (by decide)).1, (fun _ h => by cases h)⟩)
            have v32 : ev (.tmp 32) = .pointer (some ⟨gT', i, none⟩) := (hd 4 (by decide)).2.trans (hV 4 (by decide) (hd 4 (by decide)).1)
            have s7 : S 7 = false := by
              cases h0 : S 7 with
              | false => rfl
              | true =>
                have q5 := hK 7 h0 5 (by decide)
                exact absurd q5 (by rw [hS]; decide)
            obtain ⟨Fs9, hp9⟩ := sepf_tp (hw.1 s7) (j := 0) rfl
            have kx := hp9.cell H4.out
            refine ifw rfl (ifn rfl ?_)
            refine set_val (u := q' i) (w' := wv) ?_ ⟨VVs.add hV rfl, hcl, hw⟩
            have e1 := hE.const; clear hE hd hw hS hV hK hcl
            go_simp
          · rintro ev wv S val hE ⟨hV, hK, hw⟩ hS hd
            have hcl := Clo.add hK (i := 6) ((fun _ h => by cases h))
            have v7 : ev (.tmp 7) = .pointer (some ⟨gx, 0, none⟩) := hE.tmp 7 rfl
            have s7 : S 7 = false := by
              cases h0 : S 7 with
              | false => rfl
              | true =>
                have q6 := hK 7 h0 6 (by decide)
                exact absurd q6 (by rw [hS]; decide)
            have hbx := (hw.1 s7).b 2 rfl
            have ka := hbx.get 0 rfl; have kb := hbx.get 1 rfl; have kc := hbx.get 2 rfl
            refine ifw rfl (ifn rfl ?_)
            refine set_val (u := .agg #[.int .i64 y1, .int .i64 y2, .int .i64 y3]) (w' := wv) ?_ ⟨VVs.add hV rfl, hcl, hw⟩
            have e1 := hE.const; clear hE hd hw hS hV hK hcl
            go_simp
          · rintro ev wv S val hE ⟨hV, hK, hw⟩ hS hd
            have hcl := Clo.add hK (i := 7) (List.forall_mem_cons.2 ⟨(hd 5 (by decide)).1, List.forall_mem_cons.2 ⟨(hd 6 (by decide)).1, (fun _ h => by cases h)⟩⟩)
            have v33 : ev (.tmp 33) = q' i := (hd 5 (by decide)).2.trans (hV 5 (by decide) (hd 5 (by decide)).1)
            have v34 : ev (.tmp 34) = .agg #[.int .i64 y1, .int .i64 y2, .int .i64 y3] := (hd 6 (by decide)).2.trans (hV 6 (by decide) (hd 6 (by decide)).1)
            refine ifw rfl (ifn rfl ?_)
            refine set_call (f := 37) (args := #[q' i, .agg #[.int .i64 y1, .int .i64 y2, .int .i64 y3]]) ?_ (sepf_insert HK.out (hw.1 hS) (j := 0) rfl H4.out HCL.out (y1, y2, y3)) ?_
            · have e0 := hE.func; have e1 := hE.const; clear hE hd hw hS hV hK hcl
              go_simp
            · rintro e w' ⟨rfl, hs'⟩
              exact ⟨_, rfl, VVs.add hV (by rw [HRR.out]; rfl), hcl, ⟨(fun h => by simp [addS] at h), (fun _ => by rw [HEQ.out] at hs'; exact hs')⟩⟩
          · rintro S val wz hS ⟨hV, hK, hw⟩
            have e0 : val 0 = .pointer (some ⟨gT', 0, none⟩) := hV 0 (by decide) (hS 0 (by decide))
            have e1 : val 1 = .int .i64 (i : Int) := hV 1 (by decide) (hS 1 (by decide))
            have e2 : val 2 = .pointer (some ⟨gT', 0, none⟩) := hV 2 (by decide) (hS 2 (by decide))
            have e3 : val 3 = .pointer (some ⟨gT', 0, none⟩) := hV 3 (by decide) (hS 3 (by decide))
            have e4 : val 4 = .pointer (some ⟨gT', i, none⟩) := hV 4 (by decide) (hS 4 (by decide))
            have e5 : val 5 = q' i := hV 5 (by decide) (hS 5 (by decide))
            have e6 : val 6 = .agg #[.int .i64 y1, .int .i64 y2, .int .i64 y3] := hV 6 (by decide) (hS 6 (by decide))
            have e7 : val 7 = .int .i64 r := hV 7 (by decide) (hS 7 (by decide))
            intro v0 h0 u0 v1 h1 u1 v2 h2 u2 v3 h3 u3 v4 h4 u4 v5 h5 u5 v6 h6 u6 v7 h7 u7
            simp only [Act.put, List.setIfInBounds_toArray, List.set_cons_zero, List.set_cons_succ, List.drop_succ_cons, List.drop_zero]
            simp only [h0.trans e0, h1.trans e1, h2.trans e2, h3.trans e3, h4.trans e4, h5.trans e5, h6.trans e6, h7.trans e7]
            clear hV h0 e0 u0 v0 h1 e1 u1 v1 h2 e2 u2 v2 h3 e3 u3 v3 h4 e4 u4 v4 h5 e5 u5 v5 h6 e6 u6 v6 h7 e7 u7 v7
            change wpList Try.prog _ _ _ _ wz
            have HS6 := Lib.hid ((hw.2 (hS 7 (by decide))).take 2)
            clear hw hS hK val S
            refine calm_normal ?_
            go_wp2_with fail
            go_roundw
            case rel => exact ⟨k + 1, by go_num, by omega, HS6⟩
            case measure => simp [intOf]; omega
        · obtain rfl : k = n := by omega
          have HEQ := Lib.hid (cpL_next (l := l) (i := i) (k := k) (Nat.le_of_eq HLN.out))
          go_wp2_with fail
          go_roundw
          case rel => exact ⟨i + 1, by go_num, by omega, Lib.hid (by rw [← HEQ.out]; exact HSK.out.take 1)⟩
          case measure => simp [intOf]; omega
    · obtain rfl : i = 4 := by omega
      have d0 : decide (((4 : Nat) : Int) < 4) = false := decide_eq_false (by omega)
      go_upto_region 13 with fail
      refine wp_region_val 9 (fun S val wx => VVs 9 [(fun vv => vv = .pointer (some ⟨gT', 0, none⟩)), (fun vv => vv = .pointer (some ⟨gT', 0, none⟩)), (fun vv => vv = .pointer (some ⟨gT', 4, none⟩)), (fun vv => vv = .map (some gM')), (fun vv => vv = .pointer (some ⟨gT, 0, none⟩)), (fun vv => vv = .pointer (some ⟨gT, 0, none⟩)), (fun vv => vv = .pointer (some ⟨gT, 4, none⟩)), (fun vv => vv = .map (some gM)), (fun vv => vv = .tuple #[])] S val ∧ Clo [[], [0], [1], [2], [], [4], [5], [6], [3, 7]] S ∧ InsD (fun _ => False) w [tpR HK.out.toRepOk gT' gM' q' (cpL l 4 0) (fun _ => none)] [tpR HK.out.toRepOk gT' gM' q' (cpL l 4 0) m] (S 8) wx) [0, 1, 2, 4, 5, 6] (by kernel_rfl) (by kernel_rfl) ⟨VVs.start, Clo.start, ⟨(fun _ => HSI.out.keep (Below.refl _ _).drew), (fun h => by cases h)⟩⟩ ⟨?_, ?_, ?_, ?_, ?_, ?_, ?_, ?_, ?_, trivial⟩ ?_
      · rintro ev wv S val hE ⟨hV, hK, hw⟩ hS hd
        have hcl := Clo.add hK (i := 0) ((fun _ h => by cases h))
        have v3 : ev (.tmp 3) = .pointer (some ⟨gT', 0, none⟩) := hE.tmp 3 rfl
        refine ifw rfl (ifw rfl ⟨.pointer (some ⟨gT', 0, none⟩), fun w9 => ?_, VVs.add hV rfl, hcl, hw⟩)
        have e1 := hE.const; have e2 := hE.func; clear hE hd hw hS hV hK hcl
        show _ = Result.ok (Next.value (.pointer (some ⟨gT', 0, none⟩))) w9
        go_simp
      · rintro ev wv S val hE ⟨hV, hK, hw⟩ hS hd
        have hcl := Clo.add hK (i := 1) (List.forall_mem_cons.2 ⟨(hd 0 (by decide)).1, (fun _ h => by cases h)⟩)
        have v38 : ev (.tmp 38) = .pointer (some ⟨gT', 0, none⟩) := (hd 0 (by decide)).2.trans (hV 0 (by decide) (hd 0 (by decide)).1)
        refine ifw rfl (ifw rfl ⟨.pointer (some ⟨gT', 0, none⟩), fun w9 => ?_, VVs.add hV rfl, hcl, hw⟩)
        have e1 := hE.const; have e2 := hE.func; clear hE hd hw hS hV hK hcl
        show _ = Result.ok (Next.value (.pointer (some ⟨gT', 0, none⟩))) w9
        go_simp
      · rintro ev wv S val hE ⟨hV, hK, hw⟩ hS hd
        have hcl := Clo.add hK (i := 2) (List.forall_mem_cons.2 ⟨(hd 1 (by decide)).1, (fun _ h => by cases h)⟩)
        have v39 : ev (.tmp 39) = .pointer (some ⟨gT', 0, none⟩) := (hd 1 (by decide)).2.trans (hV 1 (by decide) (hd 1 (by decide)).1)
        refine ifw rfl (ifw rfl ⟨.pointer (some ⟨gT', 4, none⟩), fun w9 => ?_, VVs.add hV rfl, hcl, hw⟩)
        have e1 := hE.const; have e2 := hE.func; clear hE hd hw hS hV hK hcl
        show _ = Result.ok (Next.value (.pointer (some ⟨gT', 4, none⟩))) w9
        go_simp
      · rintro ev wv S val hE ⟨hV, hK, hw⟩ hS hd
        have hcl := Clo.add hK (i := 3) (List.forall_mem_cons.2 ⟨(hd 2 (by decide)).1, (fun _ h => by cases h)⟩)
        have v40 : ev (.tmp 40) = .pointer (some ⟨gT', 4, none⟩) := (hd 2 (by decide)).2.trans (hV 2 (by decide) (hd 2 (by decide)).1)
        have s8 : S 8 = false := by
          cases h0 : S 8 with
          | false => rfl
          | true =>
            have q3 := hK 8 h0 3 (by decide)
            exact absurd q3 (by rw [hS]; decide)
        obtain ⟨Fs9, hp9⟩ := sepf_tp (hw.1 s8) (j := 0) rfl
        have kx := hp9.map_cell
        refine ifw rfl (ifn rfl ?_)
        refine set_val (u := .map (some gM')) (w' := wv) ?_ ⟨VVs.add hV rfl, hcl, hw⟩
        have e1 := hE.const; clear hE hd hw hS hV hK hcl
        go_simp
      · rintro ev wv S val hE ⟨hV, hK, hw⟩ hS hd
        have hcl := Clo.add hK (i := 4) ((fun _ h => by cases h))
        have v0 : ev (.tmp 0) = .pointer (some ⟨gT, 0, none⟩) := hE.tmp 0 rfl
        refine ifw rfl (ifw rfl ⟨.pointer (some ⟨gT, 0, none⟩), fun w9 => ?_, VVs.add hV rfl, hcl, hw⟩)
        have e1 := hE.const; have e2 := hE.func; clear hE hd hw hS hV hK hcl
        show _ = Result.ok (Next.value (.pointer (some ⟨gT, 0, none⟩))) w9
        go_simp
      · rintro ev wv S val hE ⟨hV, hK, hw⟩ hS hd
        have hcl := Clo.add hK (i := 5) (List.forall_mem_cons.2 ⟨(hd 4 (by decide)).1, (fun _ h => by cases h)⟩)
        have v42 : ev (.tmp 42) = .pointer (some ⟨gT, 0, none⟩) := (hd 4 (by decide)).2.trans (hV 4 (by decide) (hd 4 (by decide)).1)
        refine ifw rfl (ifw rfl ⟨.pointer (some ⟨gT, 0, none⟩), fun w9 => ?_, VVs.add hV rfl, hcl, hw⟩)
        have e1 := hE.const; have e2 := hE.func; clear hE hd hw hS hV hK hcl
        show _ = Result.ok (Next.value (.pointer (some ⟨gT, 0, none⟩))) w9
        go_simp
      · rintro ev wv S val hE ⟨hV, hK, hw⟩ hS hd
        have hcl := Clo.add hK (i := 6) (List.forall_mem_cons.2 ⟨(hd 5 (by decide)).1, (fun _ h => by cases h)⟩)
        have v43 : ev (.tmp 43) = .pointer (some ⟨gT, 0, none⟩) := (hd 5 (by decide)).2.trans (hV 5 (by decide) (hd 5 (by decide)).1)
        refine ifw rfl (ifw rfl ⟨.pointer (some ⟨gT, 4, none⟩), fun w9 => ?_, VVs.add hV rfl, hcl, hw⟩)
        have e1 := hE.const; have e2 := hE.func; clear hE hd hw hS hV hK hcl
        show _ = Result.ok (Next.value (.pointer (some ⟨gT, 4, none⟩))) w9
        go_simp
      · rintro ev wv S val hE ⟨hV, hK, hw⟩ hS hd
        have hcl := Clo.add hK (i := 7) (List.forall_mem_cons.2 ⟨(hd 6 (by decide)).1, (fun _ h => by cases h)⟩)
        have v44 : ev (.tmp 44) = .pointer (some ⟨gT, 4, none⟩) := (hd 6 (by decide)).2.trans (hV 6 (by decide) (hd 6 (by decide)).1)
        have s8 : S 8 = false := by
          cases h0 : S 8 with
          | false => rfl
          | true =>
            have q7 := hK 8 h0 7 (by decide)
            exact absurd q7 (by rw [hS]; decide)
        have kx := (HT.out.keep HK.out.toRepOk (hw.1 s8).bl).map_cell
        refine ifw rfl (ifn rfl ?_)
        refine set_val (u := .map (some gM)) (w' := wv) ?_ ⟨VVs.add hV rfl, hcl, hw⟩
        have e1 := hE.const; clear hE hd hw hS hV hK hcl
        go_simp
      · rintro ev wv S val hE ⟨hV, hK, hw⟩ hS hd
        have hcl := Clo.add hK (i := 8) (List.forall_mem_cons.2 ⟨(hd 3 (by decide)).1, List.forall_mem_cons.2 ⟨(hd 7 (by decide)).1, (fun _ h => by cases h)⟩⟩)
        have v41 : ev (.tmp 41) = .map (some gM') := (hd 3 (by decide)).2.trans (hV 3 (by decide) (hd 3 (by decide)).1)
        have v45 : ev (.tmp 45) = .map (some gM) := (hd 7 (by decide)).2.trans (hV 7 (by decide) (hd 7 (by decide)).1)
        refine ifw rfl (ifn rfl ?_)
        refine set_call (f := 38) (args := #[.map (some gM'), .map (some gM)]) ?_ (sepf_mcopy HK.out (hw.1 hS) (j := 0) rfl (HT.out.keep HK.out.toRepOk (hw.1 hS).bl).mp (HLT.out gM (.inr (.inl rfl)))) ?_
        · have e0 := hE.func; have e1 := hE.const; clear hE hd hw hS hV hK hcl
          go_simp
        · rintro e w' ⟨rfl, hs'⟩
          exact ⟨_, rfl, VVs.add hV (rfl), hcl, ⟨(fun h => by simp [addS] at h), (fun _ => hs')⟩⟩
      · rintro S val wz hS ⟨hV, hK, hw⟩
        have e0 : val 0 = .pointer (some ⟨gT', 0, none⟩) := hV 0 (by decide) (hS 0 (by decide))
        have e1 : val 1 = .pointer (some ⟨gT', 0, none⟩) := hV 1 (by decide) (hS 1 (by decide))
        have e2 : val 2 = .pointer (some ⟨gT', 4, none⟩) := hV 2 (by decide) (hS 2 (by decide))
        have e3 : val 3 = .map (some gM') := hV 3 (by decide) (hS 3 (by decide))
        have e4 : val 4 = .pointer (some ⟨gT, 0, none⟩) := hV 4 (by decide) (hS 4 (by decide))
        have e5 : val 5 = .pointer (some ⟨gT, 0, none⟩) := hV 5 (by decide) (hS 5 (by decide))
        have e6 : val 6 = .pointer (some ⟨gT, 4, none⟩) := hV 6 (by decide) (hS 6 (by decide))
        have e7 : val 7 = .map (some gM) := hV 7 (by decide) (hS 7 (by decide))
        have e8 : val 8 = .tuple #[] := hV 8 (by decide) (hS 8 (by decide))
        intro v0 h0 u0 v1 h1 u1 v2 h2 u2 v3 h3 u3 v4 h4 u4 v5 h5 u5 v6 h6 u6 v7 h7 u7 v8 h8 u8
        simp only [Act.put, List.setIfInBounds_toArray, List.set_cons_zero, List.set_cons_succ, List.drop_succ_cons, List.drop_zero]
        simp only [h0.trans e0, h1.trans e1, h2.trans e2, h3.trans e3, h4.trans e4, h5.trans e5, h6.trans e6, h7.trans e7, h8.trans e8]
        clear hV h0 e0 u0 v0 h1 e1 u1 v1 h2 e2 u2 v2 h3 e3 u3 v3 h4 e4 u4 v4 h5 e5 u5 v5 h6 e6 u6 v6 h7 e7 u7 v7 h8 e8 u8 v8
        change wpList Try.prog _ _ _ _ wz
        have HS6 := Lib.hid (hw.2 (hS 8 (by decide)))
        clear hw hS hK val S
        refine calm_normal ?_
        go_wp2_with fail
        go_ret
        obtain ⟨F9, ⟨Fs9, hp9, hF9⟩, h2, h3⟩ := HS6.out.fst
        subst hF9
        exact ⟨gT', gM', q', Fs9, rfl, hp9.congr (cpL_all l), HS6.out.bl, fun k hk => (h2 k hk).resolve_left fun e => e⟩
end Go.Proofs.Ytockjcainkoifaa

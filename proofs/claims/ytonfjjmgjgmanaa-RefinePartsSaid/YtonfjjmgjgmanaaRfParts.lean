/- The law RefineParts. (Written by wip/gen/genrfp.py.) -/
import Derived.Test.YtonfjjmgjgmanaaRfPairs
import Derived.Test.YtonfjjmgjgmanaaRowRel
namespace Corr
set_option maxRecDepth 8000
open Go Go.RowKit
theorem grB_not {ls : List ItL} (h : grB ls = false) : ls.length ≤ 5 ∧ ∀ l ∈ ls, l.length ≤ 30 := by
  unfold grB at h
  rw [Bool.or_eq_false_iff] at h
  refine ⟨by have := h.2; simp at this; omega, fun l hl => ?_⟩
  have := List.any_eq_false.1 h.1 l hl
  simp at this; omega
end Corr
namespace Go.Proofs.Ytonfjjmgjgmanaa
set_option maxRecDepth 8000
open Go.RowKit Corr
set_option linter.unusedVariables false
set_option linter.unusedSimpArgs false
theorem rfparts_long {Rep : RepL} (K : RfK Rep) (E D : Option Addr) (N c m d : Nat) (ls : List ItL) (es : List Int) (a b : Int) (w : World) (Rl : SlsR w E N c ls) (hN : N ≤ 9223372036854775807) (hg : grB ls = true ∨ 60 < m) : Calls Try.prog 3 #[.slice E N c, .agg #[.int .i64 a, .int .i64 b], .slice D m d] w fun e w' => e = .returned (.bool true) ∧ Below w.heap.size w w' := by
  have HK := Lib.hid K
  have hs := (Sep.nil w).push #[.int .i64 a, .int .i64 b] 24
  have HS := Lib.hid hs
  have HG := great_any E N c ls _ (Rl.keep hs.bl) hN
  have HOR := Lib.hid hg
  obtain ⟨gb, hgb⟩ : ∃ b, grB ls = b := ⟨_, rfl⟩
  rw [hgb] at HG HOR
  have HGG := Lib.hid HG
  clear K Rl hg hs HG hgb hN
  cases gb with
  | true =>
    go_enter Try.func3, Try.ntmps3
    go_wp2_with fail
    refine HGG.out.mono ?_
    rintro e w1 ⟨rfl, b1⟩
    have HS1 := Lib.hid (HS.out.keep b1)
    clear b1 HS HGG
    go_wp2_with fail
    refine (rfknown_any HK.out _).mono ?_
    rintro e w2 ⟨rfl, b2⟩
    have HB := Lib.hid (HS1.out.keep b2).bl
    clear b2
    go_wp2_with fail
    go_ret
    exact ⟨rfl, HB.out⟩
  | false =>
    have d1 : decide ((m : Int) > 60) = true := decide_eq_true (by
      rcases HOR.out with h | h
      · cases h
      · omega)
    go_enter Try.func3, Try.ntmps3
    go_wp2_with fail
    refine HGG.out.mono ?_
    rintro e w1 ⟨rfl, b1⟩
    have HS1 := Lib.hid (HS.out.keep b1)
    clear b1 HS HGG
    go_wp2_with fail
    refine (rfknown_any HK.out _).mono ?_
    rintro e w2 ⟨rfl, b2⟩
    have HB := Lib.hid (HS1.out.keep b2).bl
    clear b2
    go_wp2_with fail
    go_ret
    exact ⟨rfl, HB.out⟩
set_option maxHeartbeats 16000000 in
theorem rfparts_main {Rep : RepL} (K : RfK Rep) (E D : Option Addr) (N c m d : Nat) (ls : List ItL) (es : List Int) (a b : Int) (w : World) (Rl : SlsR w E N c ls) (Re : Nums w D m d es) (hg : grB ls = false) (hm : m ≤ 60) : Calls Try.prog 3 #[.slice E N c, .agg #[.int .i64 a, .int .i64 b], .slice D m d] w fun e w' => e = .returned (.bool true) ∧ Below w.heap.size w w' := by
  have HK := Lib.hid K
  have HRl := Lib.hid Rl
  have HRe := Lib.hid Re
  have hs := (Sep.nil w).push #[.int .i64 a, .int .i64 b] 24
  have HS := Lib.hid hs
  have HGN := Lib.hid (grB_not hg)
  have HNN := Lib.hid Rl.num
  have HEN := Lib.hid Re.count
  have HG := great_any E N c ls _ (Rl.keep hs.bl) (by have h1 := HGN.out.1; have h2 := HNN.out; omega)
  rw [hg] at HG
  have HGG := Lib.hid HG
  have hN : N ≤ 5 := by have h1 := HGN.out.1; have h2 := HNN.out; omega
  have d1 : decide ((m : Int) > 60) = false := decide_eq_false (by omega)
  clear K Rl Re hg hs HG
  go_enter Try.func3, Try.ntmps3
  go_wp2_with fail
  refine HGG.out.mono ?_
  rintro e w1 ⟨rfl, b1⟩
  have HS1 := Lib.hid (HS.out.keep b1)
  clear b1 HS HGG
  go_wp2_with fail
  obtain ⟨bs, hbs⟩ : ∃ bs, w.heap.size = bs := ⟨_, rfl⟩
  have HSI := Lib.hid (show Sep w (sideS HK.out.toTlOk bs a b none 0 none 0 [] [] []) w1 from by
    have h1 := HS1.out
    rw [hbs] at h1
    have h2 := h1.addRow (base := 0) (e := 31) (sz := 1) (A := none) (n := 0) (c := 0) (xs := []) (World.ownsRow_nil _ _ _ _) (fun k hk => by cases hk) (Below.refl _ _)
    exact h2.addRow (base := 0) (e := 32) (sz := 1) (A := none) (n := 0) (c := 0) (xs := []) (World.ownsRow_nil _ _ _ _) (fun k hk => by cases hk) (Below.refl _ _))
  have HBS := Lib.hid hbs
  clear HS1
  try rw [hbs]
  clear hbs
  go_loopw [7, 8, 25] (fun va vb u wr => ∃ (k cA cB : Nat) (A B : Option Addr) (al : List Addr) (gs : List Nat), va = .slice A k cA ∧ vb = .slice B k cB ∧ u = .int .i64 (k : Int) ∧ k ≤ N ∧ Hid (al.length = k) ∧ Hid (gs.length = k) ∧ Hid (Sep w (sideS HK.out.toTlOk bs a b A cA B cB al gs (ls.take k)) wr)) (fun _ _ u _ => (N - intOf u).toNat)
  case atStart => exact ⟨0, 0, 0, none, none, [], [], rfl, rfl, rfl, by omega, Lib.hid rfl, Lib.hid rfl, by rw [List.take_zero]; exact HSI⟩
  case round =>
    clear HSI
    obtain ⟨k, cA, cB, A, B, al, gs, rfl, rfl, rfl, hk, HA, HB, HS⟩ := hrel
    by_cases hlt : k < N
    · obtain ⟨gl, ol, l, Ai, mi, di, rfl, hl, hIt, hgl, c0⟩ := SlsR.get (HRl.out.keep HS.out.bl) hlt
      have HX := Lib.hid hl
      obtain ⟨_, _, l', Ai', mi', di', he, hl', hIt', _, c0'⟩ := SlsR.get HRl.out hlt
      injection he with he
      injection he with e1 e2 _
      subst e1 e2
      have hcc : Value.slice Ai mi di = .slice Ai' mi' di' := by
        have h1 := (Below.cell (p := ⟨gl, ol + k, none⟩) HS.out.bl (by assumption)).trans c0'
        rw [c0] at h1
        exact Option.some.inj h1
      injection hcc with e1 e2 e3
      subst e1 e2 e3
      rw [hl] at hl'
      obtain rfl := Option.some.inj hl'
      have HIT := Lib.hid hIt'
      have HLM := Lib.hid (show l.length = mi ∧ mi ≤ 30 from ⟨Itm.count hIt', by have h1 := Itm.count hIt'; have h2 := HGN.out.2 l (List.mem_of_getElem? hl); omega⟩)
      have HTK := Lib.hid (show (ls.take k).length = k from by rw [List.length_take, HNN.out]; omega)
      clear hl hIt hIt' c0'
      go_wp2_with fail
      refine (made12_any HK.out.toTlK0 HS.out Ai mi di l (fun us wx h => HIT.out.keep h.bl) (by have := HLM.out; omega)).mono ?_
      rintro e w2 ⟨q, g, rfl, s2⟩
      have h2 : Sep w ((blkT bs #[.int .i64 a, .int .i64 b] :: rowT 0 31 1 A k cA (al.map fun a => .pointer (some a)) :: rowT 0 32 1 B k cB (gs.map fun g => .pointer (some ⟨g, 0, none⟩)) :: (pairsT HK.out.toTlOk 70 al gs (ls.take k) ++ [tlT HK.out.toTlOk (.pointer (some q)) mi (atL (putAll l)), dT g (putAll l)])) ++ [blkT w2.heap.size #[.pointer (some q)]]) (w2.alloc (.cells #[.pointer (some q)] 31)) := by
        have h := s2.push #[.pointer (some q)] 31
        unfold sideS sideT at h
        rw [HTK.out] at h
        exact h
      have HS2 := Lib.hid h2
      have hrA := h2.row 1 rfl
      have hszA : (w2.alloc (.cells #[.pointer (some q)] 31)).heap.size = w2.heap.size + 1 := by simp
      clear s2 h2 c0
      go_wp2_with (at_builtin; refine wpList_app2 rfl _ _ 28 rfl [.pointer (some q)] elem_tl rfl hrA rfl rfl (new_cells w2 [.pointer (some q)] 31) (ptr_one _) (by omega) (by unfold maxLen; omega) (Nat.zero_le _) ?_)
      intro v3 w3 hown3 hg3 hat3
      obtain ⟨A3, c3, rfl, _⟩ := Lies.of_own hown3 hown3.1
      have h3 := Sep.last (show Sep w ((blkT bs #[.int .i64 a, .int .i64 b] :: rowT 0 31 1 A3 (k + 1) c3 (al.map (fun a => .pointer (some a)) ++ [.pointer (some q)]) :: rowT 0 32 1 B k cB (gs.map fun g => .pointer (some ⟨g, 0, none⟩)) :: (pairsT HK.out.toTlOk 70 al gs (ls.take k) ++ [tlT HK.out.toTlOk (.pointer (some q)) mi (atL (putAll l)), dT g (putAll l)])) ++ [blkT w2.heap.size #[.pointer (some q)]]) w3 from HS2.out.grew 1 rfl hown3 hg3 (fun j hj => by rw [size_alloc]; exact hat3 j hj))
      have h4 := h3.push #[.pointer (some ⟨g, 0, none⟩)] 32
      have HS4 := Lib.hid h4
      have hrB := h4.row 2 rfl
      clear h3 h4 hown3 hg3 hat3 hrA hszA HS2
      go_wp2_with (at_builtin; refine wpList_app2 rfl _ _ 29 rfl [.pointer (some ⟨g, 0, none⟩)] elem_dl rfl hrB rfl rfl (new_cells w3 [.pointer (some ⟨g, 0, none⟩)] 32) (ptr_one _) (by omega) (by unfold maxLen; omega) (Nat.zero_le _) ?_)
      intro v5 w5 hown5 hg5 hat5
      obtain ⟨B5, c5, rfl, _⟩ := Lies.of_own hown5 hown5.1
      have h5 := Sep.last (show Sep w ((blkT bs #[.int .i64 a, .int .i64 b] :: rowT 0 31 1 A3 (k + 1) c3 (al.map (fun a => .pointer (some a)) ++ [.pointer (some q)]) :: rowT 0 32 1 B5 (k + 1) c5 (gs.map (fun g => .pointer (some ⟨g, 0, none⟩)) ++ [.pointer (some ⟨g, 0, none⟩)]) :: (pairsT HK.out.toTlOk 70 al gs (ls.take k) ++ [tlT HK.out.toTlOk (.pointer (some q)) mi (atL (putAll l)), dT g (putAll l)])) ++ [blkT w3.heap.size #[.pointer (some ⟨g, 0, none⟩)]]) w5 from HS4.out.grew 2 rfl hown5 hg5 (fun j hj => by rw [size_alloc]; exact hat5 j hj))
      have HS5 := Lib.hid (show Sep w (sideS HK.out.toTlOk bs a b A3 c3 B5 c5 (al ++ [q]) (gs ++ [g]) (ls.take (k + 1))) w5 from by
        have hTK : ls.take (k + 1) = ls.take k ++ [l] := by rw [List.take_add_one, HX.out]; rfl
        unfold sideS sideT
        rw [hTK, List.length_append, HTK.out, List.map_append, List.map_append, pairsT_snoc (by rw [HTK.out]; exact HA.out) (by rw [HTK.out]; exact HB.out), HLM.out.1]
        exact h5)
      clear h5 hown5 hg5 hat5 hrB HS4
      go_wp2_with fail
      go_roundw
      case rel => exact ⟨k + 1, c3, c5, A3, B5, al ++ [q], gs ++ [g], rfl, rfl, by go_num, by omega, Lib.hid (by rw [List.length_append, HA.out]; rfl), Lib.hid (by rw [List.length_append, HB.out]; rfl), HS5⟩
      case measure => simp [intOf]; omega
    · have hkN : k = N := by omega
      subst hkN
      have hTK : ls.take k = ls := List.take_of_length_le (by rw [HNN.out]; exact Nat.le_refl _)
      rw [hTK] at HS
      have HS9 := HS
      have x0 := (HS9.out.b 0 rfl).get 0 rfl
      have x1 := (HS9.out.b 0 rfl).get 1 rfl
      have xl := (HS9.out.b 0 rfl).sz
      have HAL := Lib.hid (show al.length = ls.length ∧ gs.length = ls.length from by rw [HNN.out]; exact ⟨HA.out, HB.out⟩)
      clear HS hTK x0 x1
      go_wp2_with (at_builtin; refine wpList_app rfl _ _ 25 rfl (ints es) elem_int12 rfl (own_empty wr 3 1 0 (Nat.zero_le _)) rfl (by rw [ints_len, HEN.out]; omega) (fun h => (((HRe.out.keep HS9.out.bl).keep ((Below.refl wr.heap.size wr).alloc (Nat.le_refl _) (.cells #[] 3))).src h)) (ints_one _) (by omega) (by unfold maxLen; omega) (Nat.zero_le _) ?_)
      intro v6 w6 hown6 hg6
      obtain ⟨A6, c6, rfl, hl6⟩ := Lies.of_own hown6 hown6.1
      have hb6 := ((Below.refl wr.heap.size wr).alloc (Nat.le_refl _) (.cells #[] 3)).grown hg6 (by simp) (new_ge wr 0 0)
      have HS6 := Lib.hid (HS9.out.keep hb6)
      have HIN := Lib.hid (show Nums w6 A6 (0 + m) c6 es from by simpa using hl6)
      have x0 := (HS6.out.b 0 rfl).get 0 rfl
      have x1 := (HS6.out.b 0 rfl).get 1 rfl
      have xl := (HS6.out.b 0 rfl).sz
      clear hown6 hg6 hl6 hb6 HS9
      rw [Nat.zero_add] at HIN
      try rw [Nat.zero_add]
      obtain ⟨fs, hfs⟩ : ∃ fs, (ls.map fun l => atL (putAll l)) = fs := ⟨_, rfl⟩
      have HFL := Lib.hid (show fs.length ≤ 5 from by rw [← hfs, List.length_map]; exact HGN.out.1)
      have HPA := Lib.hid (fun wv (hw : Ext w6 wv) => by
        have h := side_parts HK.out (HS6.out.keep hw) HAL.out.1 HAL.out.2 HGN.out.1 HGN.out.2 a b
        rw [hfs, HNN.out] at h; exact h)
      have HPB := Lib.hid (fun wv (hw : Ext w6 wv) => by
        have h := side_dparts (HS6.out.keep hw) HAL.out.1 HAL.out.2 HGN.out.1 HGN.out.2 a b
        rw [hfs, HNN.out] at h; exact h)
      clear hfs
      go_upto_region 12 with fail
      refine wp_region_rel 18 (Ext w6)
        (fun i => List.getD [VE (.agg #[.int .i64 a, .int .i64 b]), VE (.slice A k cA), VPf fs a b, VE (.agg #[.int .i64 a, .int .i64 b]), VE (.slice B k cB), VPf fs a b, VE (.bool true), VE (.bool false), VE (.bool false), VE (.agg #[.int .i64 a, .int .i64 b]), VE (.slice A6 m c6), VCu es a b, VE (.agg #[.int .i64 a, .int .i64 b]), VE (.slice D m d), VCu es a b, VE (.bool true), VE (.bool false), VE (.bool false)] i (fun _ _ => False)) [] [1, 4, 7, 8, 10, 13, 16, 17] (by kernel_rfl) (by kernel_rfl) (Ext.start w6) (fun _ _ h hb => h.grow hb)
        (stays_all (stays_cons (stays_VE _) (stays_cons (stays_VE _) (stays_cons (stays_VPf _ _ _) (stays_cons (stays_VE _) (stays_cons (stays_VE _) (stays_cons (stays_VPf _ _ _) (stays_cons (stays_VE _) (stays_cons (stays_VE _) (stays_cons (stays_VE _) (stays_cons (stays_VE _) (stays_cons (stays_VE _) (stays_cons (stays_VCu _ _ _) (stays_cons (stays_VE _) (stays_cons (stays_VE _) (stays_cons (stays_VCu _ _ _) (stays_cons (stays_VE _) (stays_cons (stays_VE _) (stays_cons (stays_VE _) stays_nil))))))))))))))))))) ⟨?_, ?_, ?_, ?_, ?_, ?_, ?_, ?_, ?_, ?_, ?_, ?_, ?_, ?_, ?_, ?_, ?_, ?_, trivial⟩ ?_
      · intro ev wv hE hw hd
        refine ifw rfl (ifn rfl ?_)
        have v4 : ev (.tmp 4) = .pointer (some ⟨bs, 0, none⟩) := hE.tmp 4 rfl
        have kx := (Below.cell (p := ⟨bs, 0, none⟩) hw xl).trans x0
        have ky := (Below.cell (p := ⟨bs, 1, none⟩) hw xl).trans x1
        refine rel_val (u := .agg #[.int .i64 a, .int .i64 b]) (w' := wv) ?_ (Below.refl _ _) ⟨rfl, fun h => by cases h⟩
        have e1 := hE.const; clear hE hd hw
        go_simp
      · intro ev wv hE hw hd
        refine ifw rfl (ifw rfl ?_)
        have v7 : ev (.tmp 7) = .slice A k cA := hE.tmp 7 rfl
        refine ⟨.slice A k cA, fun w => ?_, rfl⟩
        have e1 := hE.const; have e2 := hE.func; clear hE hd hw
        go_simp
      · intro ev wv hE hw hd
        refine ifw rfl (ifn rfl ?_)
        have v46 : ev (.tmp 46) = .agg #[.int .i64 a, .int .i64 b] := hd 0 (by decide)
        have v47 : ev (.tmp 47) = .slice A k cA := hd 1 (by decide)
        refine rel_call (f := 10) (args := #[.agg #[.int .i64 a, .int .i64 b], .slice A k cA]) ?_ (HPA.out _ hw) ?_
        · have e0 := hE.func; have e1 := hE.const; clear hE hd hw
          go_simp
        · rintro e w' ⟨qs', ps', A', n', c', rfl, hp', ho', hi', hb⟩
          exact ⟨_, rfl, hb, ⟨ps', A', n', c', rfl, hp', qs', own_lies ho', hi'⟩, fun h => by cases h⟩
      · intro ev wv hE hw hd
        refine ifw rfl (ifn rfl ?_)
        have v4 : ev (.tmp 4) = .pointer (some ⟨bs, 0, none⟩) := hE.tmp 4 rfl
        have kx := (Below.cell (p := ⟨bs, 0, none⟩) hw xl).trans x0
        have ky := (Below.cell (p := ⟨bs, 1, none⟩) hw xl).trans x1
        refine rel_val (u := .agg #[.int .i64 a, .int .i64 b]) (w' := wv) ?_ (Below.refl _ _) ⟨rfl, fun h => by cases h⟩
        have e1 := hE.const; clear hE hd hw
        go_simp
      · intro ev wv hE hw hd
        refine ifw rfl (ifw rfl ?_)
        have v8 : ev (.tmp 8) = .slice B k cB := hE.tmp 8 rfl
        refine ⟨.slice B k cB, fun w => ?_, rfl⟩
        have e1 := hE.const; have e2 := hE.func; clear hE hd hw
        go_simp
      · intro ev wv hE hw hd
        refine ifw rfl (ifn rfl ?_)
        have v49 : ev (.tmp 49) = .agg #[.int .i64 a, .int .i64 b] := hd 3 (by decide)
        have v50 : ev (.tmp 50) = .slice B k cB := hd 4 (by decide)
        refine rel_call (f := 11) (args := #[.agg #[.int .i64 a, .int .i64 b], .slice B k cB]) ?_ (HPB.out _ hw) ?_
        · have e0 := hE.func; have e1 := hE.const; clear hE hd hw
          go_simp
        · rintro e w' ⟨qs', ps', A', n', c', rfl, hp', ho', hi', hb⟩
          exact ⟨_, rfl, hb, ⟨ps', A', n', c', rfl, hp', qs', own_lies ho', hi'⟩, fun h => by cases h⟩
      · intro ev wv hE hw hd
        refine ifw rfl (ifn rfl ?_)
        obtain ⟨xP2, xA2, xk2, xc2, v48, xF2, xR2⟩ : VPf fs a b (ev (.tmp 48)) wv := hd 2 (by decide)
        obtain ⟨xP5, xA5, xk5, xc5, v51, xF5, xR5⟩ : VPf fs a b (ev (.tmp 51)) wv := hd 5 (by decide)
        refine rel_call (f := 9) (args := #[.slice xA2 xk2 xc2, .slice xA5 xk5 xc5]) ?_ (same12_yes xR2 (by rw [partsF_one xF2 xF5]; exact xR5) (by have := partsF_len xF2; omega) (fun p hp => by have h1 := partsF_vals xF2 p hp; have h2 := HFL.out; omega)) ?_
        · have e0 := hE.func; have e1 := hE.const; clear hE hd hw
          go_simp
        · rintro e w' ⟨rfl, hb⟩
          exact ⟨_, rfl, hb, rfl, fun h => by cases h⟩
      · intro ev wv hE hw hd
        refine ifw rfl (ifw rfl ?_)
        have v52 : ev (.tmp 52) = .bool true := hd 6 (by decide)
        refine ⟨.bool false, fun w => ?_, rfl⟩
        have e1 := hE.const; have e2 := hE.func; clear hE hd hw
        go_simp
      · intro ev wv hE hw hd
        refine ifw rfl (ifw rfl ?_)
        have v53 : ev (.tmp 53) = .bool false := hd 7 (by decide)
        refine ⟨.bool false, fun w => ?_, rfl⟩
        have e1 := hE.const; have e2 := hE.func; clear hE hd hw
        go_simp
      · intro ev wv hE hw hd
        have vg : ev (.tmp 54) = .bool false := hd 8 (by decide)
        refine ifw (by show (yv (ev (.tmp 54)) == some false) = true; rw [vg]; rfl) (ifn rfl ?_)
        clear vg
        have v4 : ev (.tmp 4) = .pointer (some ⟨bs, 0, none⟩) := hE.tmp 4 rfl
        have kx := (Below.cell (p := ⟨bs, 0, none⟩) hw xl).trans x0
        have ky := (Below.cell (p := ⟨bs, 1, none⟩) hw xl).trans x1
        refine rel_val (u := .agg #[.int .i64 a, .int .i64 b]) (w' := wv) ?_ (Below.refl _ _) ⟨rfl, fun h => by cases h⟩
        have e1 := hE.const; clear hE hd hw
        go_simp
      · intro ev wv hE hw hd
        have vg : ev (.tmp 54) = .bool false := hd 8 (by decide)
        refine ifw (by show (yv (ev (.tmp 54)) == some false) = true; rw [vg]; rfl) (ifw rfl ?_)
        clear vg
        have v13 : ev (.tmp 13) = .slice A6 m c6 := hE.tmp 13 rfl
        refine ⟨.slice A6 m c6, fun w => ?_, rfl⟩
        have e1 := hE.const; have e2 := hE.func; clear hE hd hw
        go_simp
      · intro ev wv hE hw hd
        have vg : ev (.tmp 54) = .bool false := hd 8 (by decide)
        refine ifw (by show (yv (ev (.tmp 54)) == some false) = true; rw [vg]; rfl) (ifn rfl ?_)
        clear vg
        have v55 : ev (.tmp 55) = .agg #[.int .i64 a, .int .i64 b] := hd 9 (by decide)
        have v56 : ev (.tmp 56) = .slice A6 m c6 := hd 10 (by decide)
        refine rel_call (f := 13) (args := #[.agg #[.int .i64 a, .int .i64 b], .slice A6 m c6]) ?_ (HK.out.cut _ _ _ _ es a b (HIN.out.keep hw) (by omega)) ?_
        · have e0 := hE.func; have e1 := hE.const; clear hE hd hw
          go_simp
        · rintro e w' ⟨o', A', n', c', rfl, hc', ho', hb⟩
          exact ⟨_, rfl, hb, ⟨o', A', n', c', rfl, hc', own_lies ho'⟩, fun h => by cases h⟩
      · intro ev wv hE hw hd
        have vg : ev (.tmp 54) = .bool false := hd 8 (by decide)
        refine ifw (by show (yv (ev (.tmp 54)) == some false) = true; rw [vg]; rfl) (ifn rfl ?_)
        clear vg
        have v4 : ev (.tmp 4) = .pointer (some ⟨bs, 0, none⟩) := hE.tmp 4 rfl
        have kx := (Below.cell (p := ⟨bs, 0, none⟩) hw xl).trans x0
        have ky := (Below.cell (p := ⟨bs, 1, none⟩) hw xl).trans x1
        refine rel_val (u := .agg #[.int .i64 a, .int .i64 b]) (w' := wv) ?_ (Below.refl _ _) ⟨rfl, fun h => by cases h⟩
        have e1 := hE.const; clear hE hd hw
        go_simp
      · intro ev wv hE hw hd
        have vg : ev (.tmp 54) = .bool false := hd 8 (by decide)
        refine ifw (by show (yv (ev (.tmp 54)) == some false) = true; rw [vg]; rfl) (ifw rfl ?_)
        clear vg
        have v2 : ev (.tmp 2) = .slice D m d := hE.tmp 2 rfl
        refine ⟨.slice D m d, fun w => ?_, rfl⟩
        have e1 := hE.const; have e2 := hE.func; clear hE hd hw
        go_simp
      · intro ev wv hE hw hd
        have vg : ev (.tmp 54) = .bool false := hd 8 (by decide)
        refine ifw (by show (yv (ev (.tmp 54)) == some false) = true; rw [vg]; rfl) (ifn rfl ?_)
        clear vg
        have v58 : ev (.tmp 58) = .agg #[.int .i64 a, .int .i64 b] := hd 12 (by decide)
        have v59 : ev (.tmp 59) = .slice D m d := hd 13 (by decide)
        refine rel_call (f := 14) (args := #[.agg #[.int .i64 a, .int .i64 b], .slice D m d]) ?_ (cut_any _ _ _ es a b _ ((HRe.out.keep HS6.out.bl).keep hw) (by omega)) ?_
        · have e0 := hE.func; have e1 := hE.const; clear hE hd hw
          go_simp
        · rintro e w' ⟨o', A', n', c', rfl, hc', ho', hb⟩
          exact ⟨_, rfl, hb, ⟨o', A', n', c', rfl, hc', own_lies ho'⟩, fun h => by cases h⟩
      · intro ev wv hE hw hd
        have vg : ev (.tmp 54) = .bool false := hd 8 (by decide)
        refine ifw (by show (yv (ev (.tmp 54)) == some false) = true; rw [vg]; rfl) (ifn rfl ?_)
        clear vg
        obtain ⟨xP11, xA11, xk11, xc11, v57, xF11, xR11⟩ : VCu es a b (ev (.tmp 57)) wv := hd 11 (by decide)
        obtain ⟨xP14, xA14, xk14, xc14, v60, xF14, xR14⟩ : VCu es a b (ev (.tmp 60)) wv := hd 14 (by decide)
        refine rel_call (f := 12) (args := #[.slice xA11 xk11 xc11, .slice xA14 xk14 xc14]) ?_ (spans12_yes xR11 (by rw [cutS_one xF11 xF14]; exact xR14) (by have := cutS_len xF11; omega)) ?_
        · have e0 := hE.func; have e1 := hE.const; clear hE hd hw
          go_simp
        · rintro e w' ⟨rfl, hb⟩
          exact ⟨_, rfl, hb, rfl, fun h => by cases h⟩
      · intro ev wv hE hw hd
        have vg : ev (.tmp 54) = .bool false := hd 8 (by decide)
        refine ifw (by show (yv (ev (.tmp 54)) == some false) = true; rw [vg]; rfl) (ifw rfl ?_)
        clear vg
        have v61 : ev (.tmp 61) = .bool true := hd 15 (by decide)
        refine ⟨.bool false, fun w => ?_, rfl⟩
        have e1 := hE.const; have e2 := hE.func; clear hE hd hw
        go_simp
      · intro ev wv hE hw hd
        refine ifw rfl (ifw rfl ?_)
        have v54 : ev (.tmp 54) = .bool false := hd 8 (by decide)
        have v62 : ev (.tmp 62) = .bool false := hd 16 (by decide)
        refine ⟨.bool false, fun w => ?_, rfl⟩
        have e1 := hE.const; have e2 := hE.func; clear hE hd hw
        go_simp
      · intro wz hw
        intro v0 h0 _ v1 h1 _ v2 h2 _ v3 h3 _ v4 h4 _ v5 h5 _ v6 h6 _ v7 h7 _ v8 h8 _ v9 h9 _ v10 h10 _ v11 h11 _ v12 h12 _ v13 h13 _ v14 h14 _ v15 h15 _ v16 h16 _ v17 h17 _
        simp only [Act.put, List.setIfInBounds_toArray, List.set_cons_zero, List.set_cons_succ, List.drop_succ_cons, List.drop_zero]
        obtain rfl : v0 = _ := h0
        obtain rfl : v1 = _ := h1
        obtain ⟨xP2, xA2, xk2, xc2, rfl, xF2, xR2⟩ : VPf fs a b v2 wz := h2
        obtain rfl : v3 = _ := h3
        obtain rfl : v4 = _ := h4
        obtain ⟨xP5, xA5, xk5, xc5, rfl, xF5, xR5⟩ : VPf fs a b v5 wz := h5
        obtain rfl : v6 = _ := h6
        obtain rfl : v7 = _ := h7
        obtain rfl : v8 = _ := h8
        obtain rfl : v9 = _ := h9
        obtain rfl : v10 = _ := h10
        obtain ⟨xP11, xA11, xk11, xc11, rfl, xF11, xR11⟩ : VCu es a b v11 wz := h11
        obtain rfl : v12 = _ := h12
        obtain rfl : v13 = _ := h13
        obtain ⟨xP14, xA14, xk14, xc14, rfl, xF14, xR14⟩ : VCu es a b v14 wz := h14
        obtain rfl : v15 = _ := h15
        obtain rfl : v16 = _ := h16
        obtain rfl : v17 = _ := h17
        change wpList Try.prog _ _ _ _ wz
        have HSZ := Lib.hid (HS6.out.keep hw)
        have HIZ := Lib.hid (HIN.out.keep hw)
        clear x0 x1 xl hw HS6 HIN
        go_wp2_with fail
        refine calm_normal ?_
        go_wp2_with fail
        go_loopw [66] (fun u wx => ∃ i : Nat, u = .int .i64 (i : Int) ∧ i ≤ m ∧ Hid (Below wz.heap.size wz wx)) (fun u _ => (m - intOf u).toNat)
        case atStart => exact ⟨0, rfl, by omega, Lib.hid (Below.refl _ _)⟩
        case round =>
          obtain ⟨i, rfl, hi, HX⟩ := hrel
          by_cases hlt2 : i < m
          · obtain ⟨g5, o5, z5, rfl, hz5, hg5, v5⟩ := Nums.get (HIZ.out.keep HX.out) hlt2
            obtain ⟨g6, o6, z6, rfl, hz6, hg6, v6⟩ := Nums.get (HRe.out.keep (HSZ.out.keep HX.out).bl) hlt2
            rw [hz5] at hz6
            obtain rfl := Option.some.inj hz6
            have l1 : (0 : Int) ≤ (i : Int) := by omega
            have l2 : (i : Int) < (m : Int) := by omega
            have l3 : ((i : Int)).toNat = i := by omega
            clear hz5 hz6
            go_upto_region 17 with fail
            go_quiet (fail)
            go_wp2_with fail
            go_roundw
            case rel => exact ⟨i + 1, by go_num, by omega, Lib.hid (HX.out.trans ((Joins.below_draws _ _ _).mono HX.out.size))⟩
            case measure => simp [intOf]; omega
          · have HT5 := Lib.hid (HSZ.out.keep HX.out)
            go_wp2_with fail
            refine (rfknown_any HK.out _).mono ?_
            rintro e u6 ⟨rfl, q6⟩
            have HB := Lib.hid (HT5.out.keep q6).bl
            clear q6
            go_wp2_with fail
            go_ret
            exact ⟨rfl, HB.out⟩
theorem rfparts_any {Rep : RepL} (K : RfK Rep) (E D : Option Addr) (N c m d : Nat) (ls : List ItL) (es : List Int) (a b : Int) (w : World) (Rl : SlsR w E N c ls) (Re : Nums w D m d es) (hN : N ≤ 9223372036854775807) : Calls Try.prog 3 #[.slice E N c, .agg #[.int .i64 a, .int .i64 b], .slice D m d] w fun e w' => e = .returned (.bool true) ∧ Below w.heap.size w w' := by
  cases hg : grB ls with
  | true => exact rfparts_long K E D N c m d ls es a b w Rl hN (.inl hg)
  | false =>
    by_cases hm : m ≤ 60
    · exact rfparts_main K E D N c m d ls es a b w Rl Re hg hm
    · exact rfparts_long K E D N c m d ls es a b w Rl hN (.inr (by omega))
end Go.Proofs.Ytonfjjmgjgmanaa

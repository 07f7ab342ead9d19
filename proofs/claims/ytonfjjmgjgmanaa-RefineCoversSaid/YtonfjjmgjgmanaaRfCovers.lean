/- The law RefineCovers. (Written by wip/gen/genrfc.py.) -/
import Derived.Test.YtonfjjmgjgmanaaRfParts
namespace Corr
set_option maxRecDepth 8000
open Go Go.RowKit
set_option linter.unusedVariables false
/-- What lies beside the pairs: a span, one row. -/
def side1T {Rep : RepL} (R : TlOk Rep) (T Ta : TypeId) (b : Nat) (x y : Int) (A : Option Addr) (cA : Nat) (al : List Addr) (gs : List Nat) (ls : List ItL) : List Thing :=
  blkT b #[.int .i64 x, .int .i64 y] :: rowT 0 Ta 1 A ls.length cA (al.map fun a => .pointer (some a)) :: pairsT R T al gs ls
theorem covG_ne {α : Type} {f : Int → α} : ∀ {l : List (Int × Int × α)} {a b : Int} {i : Nat} {p q : Int × Int × α}, covG f a b l → l[i]? = some p → l[i + 1]? = some q → ¬ q.2.2 = p.2.2
  | [], _, _, _, _, _, _, h, _ => by simp at h
  | s :: r, a, b, 0, p, q, h, hp, hq => by
    obtain rfl : s = p := by simpa using hp
    refine h.2.2.2.1 q ?_
    rw [List.head?_eq_getElem?]; simpa using hq
  | s :: r, a, b, i + 1, p, q, h, hp, hq => covG_ne h.2.2.2.2 (by simpa using hp) (by simpa using hq)
/-- Unlike, as far as it was looked at. -/
def ulB (i : Nat) (u v : List Int) (k : Nat) : Bool := decide (i = 0) || decide (u.take k ≠ v.take k)
theorem ulB_zero {i : Nat} {u v : List Int} : ulB i u v 0 = decide (i = 0) := by simp [ulB]
theorem ulB_more {i k : Nat} {u v : List Int} {x y : Int} (hu : u[k]? = some x) (hv : v[k]? = some y) : ulB i u v (k + 1) = (ulB i u v k || decide (x ≠ y)) := by
  have hk1 := (List.getElem?_eq_some_iff.1 hu).1
  have hk2 := (List.getElem?_eq_some_iff.1 hv).1
  unfold ulB
  rw [List.take_add_one, List.take_add_one, hu, hv, Bool.or_assoc]
  congr 1
  by_cases h1 : u.take k = v.take k
  · by_cases h2 : x = y
    · subst h2
      simp [h1]
    · rw [decide_eq_false (p := u.take k ≠ v.take k) (by simpa using h1), decide_eq_true (p := x ≠ y) h2, Bool.false_or]
      refine decide_eq_true fun e => h2 ?_
      have := (List.append_inj' e rfl).2
      simpa using this
  · rw [decide_eq_true (p := u.take k ≠ v.take k) h1, Bool.true_or]
    refine decide_eq_true fun e => h1 ?_
    exact (List.append_inj e (by simp [List.length_take]; omega)).1
theorem ulB_all {i : Nat} {u v : List Int} {n : Nat} (hu : u.length = n) (hv : v.length = n) (h : i = 0 ∨ u ≠ v) : ulB i u v n = true := by
  unfold ulB
  rw [List.take_of_length_le (by omega), List.take_of_length_le (by omega)]
  rcases h with h | h
  · rw [decide_eq_true h]; rfl
  · rw [decide_eq_true h, Bool.or_true]
end Corr
namespace Go.Proofs.Ytonfjjmgjgmanaa
set_option maxRecDepth 8000
open Go.RowKit Corr
set_option linter.unusedVariables false
set_option linter.unusedSimpArgs false
abbrev side1S {Rep : RepL} (R : TlOk Rep) := side1T R 70 31
section
variable {Rep : RepL} {w0 w : World} {b : Nat} {x y : Int} {A : Option Addr} {cA : Nat} {al : List Addr} {gs : List Nat} {ls : List ItL}
theorem side1_parts (K : RfK Rep) (S : Sep w0 (side1S K.toTlOk b x y A cA al gs ls) w) (ha : al.length = ls.length) (hg : gs.length = ls.length) (hl : ls.length ≤ 5) (hs : ∀ l ∈ ls, l.length ≤ 30) (p q : Int) : Calls Try.prog 10 #[.agg #[.int .i64 p, .int .i64 q], .slice A ls.length cA] w (RetPartsF 45 w (ls.map fun l => atL (putAll l)) p q) := by
  have hr := own_lies (S.row 1 rfl)
  have := K.parts w A ls.length cA ((al.zip ls).map fun z => (.pointer (some z.1), z.2.length, atL (putAll z.2))) p q (by
      rw [List.map_map]
      have : (al.zip ls).map ((fun x : Value × Nat × (Int → Int) => x.1) ∘ fun z => (Value.pointer (some z.1), z.2.length, atL (putAll z.2))) = al.map fun a => Value.pointer (some a) := by
        rw [show ((fun x : Value × Nat × (Int → Int) => x.1) ∘ fun z : Addr × ItL => (Value.pointer (some z.1), z.2.length, atL (putAll z.2))) = (fun a => Value.pointer (some a)) ∘ Prod.fst from rfl, ← List.map_map, List.map_fst_zip (by omega)]
      rw [this]; exact hr) (fun z hz => by
      obtain ⟨u, hu, rfl⟩ := List.mem_map.1 hz
      obtain ⟨i, hi⟩ := List.getElem?_of_mem hu
      rw [List.getElem?_zip_eq_some] at hi
      have hgi : gs[i]? = some (gs[i]'(by have := (List.getElem?_eq_some_iff.1 hi.2).1; omega)) := List.getElem?_eq_getElem _
      have hp := (pairsT_get (R := K.toTlOk) (T := 70) hi.1 hgi hi.2).1
      obtain ⟨F, h, _⟩ := S.get (i := 2 + 2 * i) (by rw [Nat.add_comm]; exact hp)
      exact ⟨F, h, by have := hs u.2 (List.mem_of_getElem? hi.2); show u.2.length ≤ 300; omega⟩) (by omega)
  rw [List.map_map] at this
  have e : (al.zip ls).map ((fun x : Value × Nat × (Int → Int) => x.2.2) ∘ fun z => (Value.pointer (some z.1), z.2.length, atL (putAll z.2))) = ls.map (fun l => atL (putAll l)) := by
    rw [show ((fun x : Value × Nat × (Int → Int) => x.2.2) ∘ fun z : Addr × ItL => (Value.pointer (some z.1), z.2.length, atL (putAll z.2))) = (fun l => atL (putAll l)) ∘ Prod.snd from rfl, ← List.map_map, List.map_snd_zip (by omega)]
  rw [e] at this
  exact this
theorem side1_at (K : RfK Rep) (S : Sep w0 (side1S K.toTlOk b x y A cA al gs ls) w) (hg : gs.length = ls.length) (hs : ∀ l ∈ ls, l.length ≤ 30) {i : Nat} {z : Addr} {l : ItL} (hz : al[i]? = some z) (hl : ls[i]? = some l) (d : Int) : Calls Try.prog 15 #[.pointer (some z), .int .i64 d] w fun e w' => e = .returned (.int .i64 (atL (putAll l) d)) ∧ Below w.heap.size w w' := by
  have hgi : gs[i]? = some (gs[i]'(by have := (List.getElem?_eq_some_iff.1 hl).1; omega)) := List.getElem?_eq_getElem _
  have hp := (pairsT_get (R := K.toTlOk) (T := 70) hz hgi hl).1
  obtain ⟨F, h, _⟩ := S.get (i := 2 + 2 * i) (by rw [Nat.add_comm]; exact hp)
  exact K.at_ w _ F _ _ d h (by have := hs l (List.mem_of_getElem? hl); show l.length ≤ 300; omega)
end
theorem rfcovers_long {Rep : RepL} (K : RfK Rep) (E : Option Addr) (N c : Nat) (ls : List ItL) (a b : Int) (w : World) (Rl : SlsR w E N c ls) (hN : N ≤ 9223372036854775807) (hg : grB ls = true) : Calls Try.prog 4 #[.slice E N c, .agg #[.int .i64 a, .int .i64 b]] w fun e w' => e = .returned (.bool true) ∧ Below w.heap.size w w' := by
  have HK := Lib.hid K
  have hs := (Sep.nil w).push #[.int .i64 a, .int .i64 b] 24
  have HS := Lib.hid hs
  have HG := great_any E N c ls _ (Rl.keep hs.bl) hN
  rw [hg] at HG
  have HGG := Lib.hid HG
  clear K Rl hg hs HG hN
  go_enter Try.func4, Try.ntmps4
  go_wp2_with fail
  refine HGG.out.mono ?_
  rintro e w1 ⟨rfl, b1⟩
  have HS1 := Lib.hid (HS.out.keep b1)
  clear b1 HS HGG
  go_wp2_with fail
  refine (rfknown_any HK.out _).mono ?_
  rintro e w2 ⟨rfl, b2⟩
  have HB := Lib.hid (HS1.out.keep b2).bl
  clear b2
  go_wp2_with fail
  go_ret
  exact ⟨rfl, HB.out⟩
set_option maxHeartbeats 16000000 in
theorem rfcovers_main {Rep : RepL} (K : RfK Rep) (E : Option Addr) (N c : Nat) (ls : List ItL) (a b : Int) (w : World) (Rl : SlsR w E N c ls) (hg : grB ls = false) : Calls Try.prog 4 #[.slice E N c, .agg #[.int .i64 a, .int .i64 b]] w fun e w' => e = .returned (.bool true) ∧ Below w.heap.size w w' := by
  have HK := Lib.hid K
  have HRl := Lib.hid Rl
  have hs := (Sep.nil w).push #[.int .i64 a, .int .i64 b] 24
  have HS := Lib.hid hs
  have HGN := Lib.hid (grB_not hg)
  have HNN := Lib.hid Rl.num
  have HG := great_any E N c ls _ (Rl.keep hs.bl) (by have h1 := HGN.out.1; have h2 := HNN.out; omega)
  rw [hg] at HG
  have HGG := Lib.hid HG
  have hN : N ≤ 5 := by have h1 := HGN.out.1; have h2 := HNN.out; omega
  clear K Rl hg hs HG
  go_enter Try.func4, Try.ntmps4
  go_wp2_with fail
  refine HGG.out.mono ?_
  rintro e w1 ⟨rfl, b1⟩
  have HS1 := Lib.hid (HS.out.keep b1)
  clear b1 HS HGG
  go_wp2_with fail
  obtain ⟨bs, hbs⟩ : ∃ bs, w.heap.size = bs := ⟨_, rfl⟩
  have HSI := Lib.hid (show Sep w (side1S HK.out.toTlOk bs a b none 0 [] [] []) w1 from by
    have h1 := HS1.out
    rw [hbs] at h1
    exact h1.addRow (base := 0) (e := 31) (sz := 1) (A := none) (n := 0) (c := 0) (xs := []) (World.ownsRow_nil _ _ _ _) (fun k hk => by cases hk) (Below.refl _ _))
  clear HS1
  try rw [hbs]
  clear hbs
  go_loopw [5, 21] (fun va u wr => ∃ (k cA : Nat) (A : Option Addr) (al : List Addr) (gs : List Nat), va = .slice A k cA ∧ u = .int .i64 (k : Int) ∧ k ≤ N ∧ Hid (al.length = k) ∧ Hid (gs.length = k) ∧ Hid (Sep w (side1S HK.out.toTlOk bs a b A cA al gs (ls.take k)) wr)) (fun _ u _ => (N - intOf u).toNat)
  case atStart => exact ⟨0, 0, none, [], [], rfl, rfl, by omega, Lib.hid rfl, Lib.hid rfl, by rw [List.take_zero]; exact HSI⟩
  case round =>
    clear HSI
    obtain ⟨k, cA, A, al, gs, rfl, rfl, hk, HA, HB, HS⟩ := hrel
    by_cases hlt : k < N
    · obtain ⟨gl, ol, l, Ai, mi, di, rfl, hl, hIt, hgl, c0⟩ := SlsR.get (HRl.out.keep HS.out.bl) hlt
      have HX := Lib.hid hl
      obtain ⟨_, _, l', Ai', mi', di', he, hl', hIt', _, c0'⟩ := SlsR.get HRl.out hlt
      injection he with he
      injection he with e1 e2 _
      subst e1 e2
      have hcc : Value.slice Ai mi di = .slice Ai' mi' di' := by
        have h1 := (Below.cell (p := ⟨gl, ol + k, none⟩) HS.out.bl (by assumption)).trans c0'
        rw [c0] at h1
        exact Option.some.inj h1
      injection hcc with e1 e2 e3
      subst e1 e2 e3
      rw [hl] at hl'
      obtain rfl := Option.some.inj hl'
      have HIT := Lib.hid hIt'
      have HLM := Lib.hid (show l.length = mi ∧ mi ≤ 30 from ⟨Itm.count hIt', by have h1 := Itm.count hIt'; have h2 := HGN.out.2 l (List.mem_of_getElem? hl); omega⟩)
      have HTK := Lib.hid (show (ls.take k).length = k from by rw [List.length_take, HNN.out]; omega)
      clear hl hIt hIt' c0'
      go_wp2_with fail
      refine (made12_any HK.out.toTlK0 HS.out Ai mi di l (fun us wx h => HIT.out.keep h.bl) (by have := HLM.out; omega)).mono ?_
      rintro e w2 ⟨q, g, rfl, s2⟩
      have h2 : Sep w ((blkT bs #[.int .i64 a, .int .i64 b] :: rowT 0 31 1 A k cA (al.map fun a => .pointer (some a)) :: (pairsT HK.out.toTlOk 70 al gs (ls.take k) ++ [tlT HK.out.toTlOk (.pointer (some q)) mi (atL (putAll l)), dT g (putAll l)])) ++ [blkT w2.heap.size #[.pointer (some q)]]) (w2.alloc (.cells #[.pointer (some q)] 31)) := by
        have h := s2.push #[.pointer (some q)] 31
        unfold side1S side1T at h
        rw [HTK.out] at h
        exact h
      have HS2 := Lib.hid h2
      have hrA := h2.row 1 rfl
      clear s2 h2 c0
      go_wp2_with (at_builtin; refine wpList_app2 rfl _ _ 28 rfl [.pointer (some q)] elem_tl rfl hrA rfl rfl (new_cells w2 [.pointer (some q)] 31) (ptr_one _) (by omega) (by unfold maxLen; omega) (Nat.zero_le _) ?_)
      intro v3 w3 hown3 hg3 hat3
      obtain ⟨A3, c3, rfl, _⟩ := Lies.of_own hown3 hown3.1
      have h3 := Sep.last (show Sep w ((blkT bs #[.int .i64 a, .int .i64 b] :: rowT 0 31 1 A3 (k + 1) c3 (al.map (fun a => .pointer (some a)) ++ [.pointer (some q)]) :: (pairsT HK.out.toTlOk 70 al gs (ls.take k) ++ [tlT HK.out.toTlOk (.pointer (some q)) mi (atL (putAll l)), dT g (putAll l)])) ++ [blkT w2.heap.size #[.pointer (some q)]]) w3 from HS2.out.grew 1 rfl hown3 hg3 (fun j hj => by rw [size_alloc]; exact hat3 j hj))
      have HS5 := Lib.hid (show Sep w (side1S HK.out.toTlOk bs a b A3 c3 (al ++ [q]) (gs ++ [g]) (ls.take (k + 1))) w3 from by
        have hTK : ls.take (k + 1) = ls.take k ++ [l] := by rw [List.take_add_one, HX.out]; rfl
        unfold side1S side1T
        rw [hTK, List.length_append, HTK.out, List.map_append, pairsT_snoc (by rw [HTK.out]; exact HA.out) (by rw [HTK.out]; exact HB.out), HLM.out.1]
        exact h3)
      clear h3 hown3 hg3 hat3 hrA HS2
      go_wp2_with fail
      go_roundw
      case rel => exact ⟨k + 1, c3, A3, al ++ [q], gs ++ [g], rfl, by go_num, by omega, Lib.hid (by rw [List.length_append, HA.out]; rfl), Lib.hid (by rw [List.length_append, HB.out]; rfl), HS5⟩
      case measure => simp [intOf]; omega
    · have hkN : k = N := by omega
      subst hkN
      have hTK : ls.take k = ls := List.take_of_length_le (by rw [HNN.out]; exact Nat.le_refl _)
      rw [hTK] at HS
      have x0 := (HS.out.b 0 rfl).get 0 rfl
      have x1 := (HS.out.b 0 rfl).get 1 rfl
      have HAL := Lib.hid (show al.length = ls.length ∧ gs.length = ls.length from by rw [HNN.out]; exact ⟨HA.out, HB.out⟩)
      obtain ⟨fs, hfs⟩ : ∃ fs, (ls.map fun l => atL (putAll l)) = fs := ⟨_, rfl⟩
      have hpa := side1_parts HK.out HS.out HAL.out.1 HAL.out.2 HGN.out.1 HGN.out.2 a b
      rw [hfs, HNN.out] at hpa
      have HFS := Lib.hid hfs
      have HFL := Lib.hid (show fs.length = k from by rw [← hfs, List.length_map, HNN.out])
      have HPA := Lib.hid hpa
      clear hTK hfs hpa
      go_wp2_with fail
      refine HPA.out.mono ?_
      clear HPA
      rintro e w5 ⟨qs, ps, P, nP, cP, rfl, hp, ho, hin, hb⟩
      have HS5 := Lib.hid (HS.out.keep hb)
      have HPT := Lib.hid (show PtR w5 P nP cP ps from ⟨qs, own_lies ho, hin⟩)
      have HPF := Lib.hid hp
      have HPL := Lib.hid (partsF_len hp)
      have HPN := Lib.hid (HPT.out.num)
      have HPV := Lib.hid (partsF_vals hp)
      have HRA := Lib.hid (show Lies w5 1 A k cA (al.map fun a => .pointer (some a)) from by
        have := own_lies (HS5.out.row 1 rfl)
        rwa [HNN.out] at this)
      clear x0 x1 hp ho hin hb HS
      have x0 := (HS5.out.b 0 rfl).get 0 rfl
      have x1 := (HS5.out.b 0 rfl).get 1 rfl
      have xl := (HS5.out.b 0 rfl).sz
      by_cases hm : mayB a b = true
      · have HMM := Lib.hid (mayB_iff.1 hm)
        have HCV := Lib.hid (show covG (fun d => fs.map (· d)) a b ps from by have := HPF.out; unfold partsF at this; rwa [if_pos hm] at this)
        have e1 : decide (a < 1) = false := decide_eq_false (by have := HMM.out; omega)
        have e2 : decide (a ≥ b) = false := decide_eq_false (by have := HMM.out; omega)
        have e3 : decide (b > 3652060) = false := decide_eq_false (by have := HMM.out; omega)
        clear hm
        go_wp2_with fail
        go_loopw [11, 63] (fun vat u wr => ∃ (i : Nat) (mm : Int), vat = .int .i64 mm ∧ u = .int .i64 (i : Int) ∧ i ≤ nP ∧ Hid (covG (fun d => fs.map (· d)) mm b (ps.drop i)) ∧ Hid (Below w5.heap.size w5 wr)) (fun _ u _ => (nP - intOf u).toNat)
        case atStart => exact ⟨0, a, rfl, rfl, Nat.zero_le _, by rw [List.drop_zero]; exact HCV, Lib.hid (Below.refl _ _)⟩
        case round =>
          obtain ⟨i, mm, rfl, rfl, hi, HC, HBW⟩ := hrel
          have hnP : nP ≤ 3652060 := by have h1 := HPL.out; have h2 := HPN.out; omega
          by_cases hlt : i < nP
          · obtain ⟨g5, o5, p, E5, n5, c5, rfl, hp, hN5, hg5, c0, c1, c2⟩ := PtR.get (HPT.out.keep HBW.out) hlt
            obtain ⟨q1, q2, qv⟩ := p
            have hcov := HC.out
            rw [drop_at hp] at hcov
            obtain ⟨k1, k2, k3, _, k5⟩ := hcov
            have k1 : q1 = mm := k1
            subst k1
            have HK2 := Lib.hid (show q1 < q2 from k2)
            have HK3 := Lib.hid (show ∀ d, q1 ≤ d → d < q2 → fs.map (· d) = qv from k3)
            have HK5 := Lib.hid (show covG (fun d => fs.map (· d)) q2 b (ps.drop (i + 1)) from k5)
            have hql : qv.length = k := by have := HPV.out (q1, q2, qv) (List.mem_of_getElem? hp); rw [HFL.out] at this; exact this
            have hn5 : n5 = k := by have h : qv.length = n5 := Nums.count hN5
                                    omega
            subst hn5
            have HQL := Lib.hid hql
            have HPV2 := Lib.hid (show ∃ pv : List Int, pv.length = n5 ∧ (i = 0 ∨ (∃ e f, ps[i - 1]? = some (e, f, pv)) ∧ pv ≠ qv) from by
              by_cases h0 : i = 0
              · exact ⟨qv, hql, .inl h0⟩
              · have hpp : ps[i - 1]? = some (ps[i - 1]'(by have := HPN.out; omega)) := List.getElem?_eq_getElem _
                refine ⟨_, by have := HPV.out _ (List.mem_of_getElem? hpp); rw [HFL.out] at this; exact this, .inr ⟨⟨_, _, hpp⟩, fun e => ?_⟩⟩
                exact covG_ne HCV.out hpp (by rw [show i - 1 + 1 = i by omega]; exact hp) e.symm)
            obtain ⟨pv, hpl, hpo⟩ := HPV2.out
            have HPO := Lib.hid hpo
            have HPQ := Lib.hid hpl
            have HN5 := Lib.hid hN5
            have d0 : decide (q2 ≤ q1) = false := decide_eq_false (by have := HK2.out; omega)
            have wq2 : IntKind.i64.wrap (q2 - 1) = q2 - 1 := IntWalk.i64_in _ (by
              have h1 := covG_in HCV.out (q1, q2, qv) (List.mem_of_getElem? hp)
              have h2 := HMM.out
              dsimp only at h1
              omega)
            obtain ⟨u0, hu0⟩ : ∃ u, ((i : Int) == 0) = u := ⟨_, rfl⟩
            have HU0 := Lib.hid (show u0 = decide (i = 0) from by
              rw [← hu0]
              by_cases h0 : i = 0
              · subst h0; rfl
              · rw [decide_eq_false h0]; simp; omega)
            have hY := Blk.new wr #[.int .i64 q1, .int .i64 q2, .slice E5 n5 c5] 45
            have HY := Lib.hid hY
            have y0 := hY.get 0 rfl
            have y1 := hY.get 1 rfl
            have y2 := hY.get 2 rfl
            have HBA := Lib.hid (HBW.out.alloc HBW.out.size (.cells #[.int .i64 q1, .int .i64 q2, .slice E5 n5 c5] 45))
            have HNA := Lib.hid (hN5.keep ((Below.refl wr.heap.size wr).alloc (Nat.le_refl _) (.cells #[.int .i64 q1, .int .i64 q2, .slice E5 n5 c5] 45)))
            have HPP := Lib.hid hp
            dsimp only at c0 c1
            clear k2 k3 k5 hql hpl hpo hN5 hp hY HC HPV2
            go_upto_region 20 with fail
            generalize wr.alloc (.cells #[.int .i64 q1, .int .i64 q2, .slice E5 n5 c5] 45) = wa at *
            generalize wr.heap.size = hp at *
            clear c0 c1 c2 hg5
            go_wp2_with fail
            clear y0 y1 y2
            go_loopw [14, 91] (fun vu u wx => ∃ (j : Nat) (ub : Bool), vu = .bool ub ∧ u = .int .i64 (j : Int) ∧ j ≤ n5 ∧ Hid (ub = ulB i pv qv j) ∧ Hid (Below wa.heap.size wa wx)) (fun _ u _ => (n5 - intOf u).toNat)
            case atStart => exact ⟨0, u0, rfl, rfl, Nat.zero_le _, Lib.hid (by rw [ulB_zero]; exact HU0.out), Lib.hid (Below.refl _ _)⟩
            case round =>
              obtain ⟨j, ub, rfl, rfl, hj, HUB, HX⟩ := hrel
              have HYX := Lib.hid (HY.out.keep HX.out)
              by_cases hjt : j < n5
              · have hSX := HS5.out.keep (HBA.out.trans (HX.out.mono HBA.out.size))
                obtain ⟨z, hz⟩ : ∃ z, al[j]? = some z := ⟨_, List.getElem?_eq_getElem (by rw [HA.out]; exact hjt)⟩
                obtain ⟨l, hl⟩ : ∃ l, ls[j]? = some l := ⟨_, List.getElem?_eq_getElem (by rw [HNN.out]; exact hjt)⟩
                obtain ⟨x, hx⟩ : ∃ x, qv[j]? = some x := ⟨_, List.getElem?_eq_getElem (by rw [HQL.out]; exact hjt)⟩
                have hval : ∀ d, q1 ≤ d → d < q2 → atL (putAll l) d = x := fun d h1 h2 => by
                  have h3 := HK3.out d h1 h2
                  rw [← h3, ← HFS.out, List.getElem?_map, List.getElem?_map, hl] at hx
                  simpa using hx
                have HT1 := Lib.hid (fun wv (hw : Ext wr wv) => by
                  have h := side1_at HK.out (hSX.keep hw) HAL.out.2 HGN.out.2 hz hl q1
                  rw [hval q1 (Int.le_refl _) HK2.out] at h; exact h)
                have HT2 := Lib.hid (fun wv (hw : Ext wr wv) => by
                  have h := side1_at HK.out (hSX.keep hw) HAL.out.2 HGN.out.2 hz hl (q2 - 1)
                  rw [hval (q2 - 1) (by have := HK2.out; omega) (by omega)] at h; exact h)
                have hra := HRA.out.keep (HBA.out.trans (HX.out.mono HBA.out.size))
                obtain ⟨ga, oa, rfl, hga, hca⟩ := hra.at_ (by omega)
                have m0 := hca j (.pointer (some z)) (by rw [List.getElem?_map, hz]; rfl)
                obtain ⟨gv, ov, x', rfl, hx', hgv, m1⟩ := Nums.get (HNA.out.keep HX.out) hjt
                rw [hx] at hx'
                obtain rfl := Option.some.inj hx'
                have y0 := HYX.out.get 0 rfl
                have y1 := HYX.out.get 1 rfl
                have y2 := HYX.out.get 2 rfl
                have yl := HYX.out.sz
                have HXX := Lib.hid hx
                have l0 : decide ((j : Int) < 0) = false := decide_eq_false (by omega)
                have l1 : (0 : Int) ≤ (j : Int) := by omega
                have l2 : (j : Int) < (n5 : Int) := by omega
                have l3 : ((j : Int)).toNat = j := by omega
                clear hz hl hx hval hSX hra hca
                go_upto_region 23 with fail
                refine wp_region_rel 29 (Ext wr)
                  (fun i => List.getD [VE (.slice (some ⟨ga, oa, none⟩) n5 cA), VE (.int .i64 (j : Int)), VE (.pointer (some ⟨ga, oa + j, none⟩)), VE (.pointer (some z)), VE (.pointer (some ⟨hp, 0, none⟩)), VE (.int .i64 q1), VE (.int .i64 x), VE (.pointer (some ⟨hp, 2, none⟩)), VE (.slice (some ⟨gv, ov, none⟩) n5 c5), VE (.int .i64 (j : Int)), VE (.pointer (some ⟨gv, ov + j, none⟩)), VE (.int .i64 x), VE (.bool false), VE (.bool false), VE (.slice (some ⟨ga, oa, none⟩) n5 cA), VE (.int .i64 (j : Int)), VE (.pointer (some ⟨ga, oa + j, none⟩)), VE (.pointer (some z)), VE (.pointer (some ⟨hp, 1, none⟩)), VE (.int .i64 q2), VE (.int .i64 (q2 - 1)), VE (.int .i64 x), VE (.pointer (some ⟨hp, 2, none⟩)), VE (.slice (some ⟨gv, ov, none⟩) n5 c5), VE (.int .i64 (j : Int)), VE (.pointer (some ⟨gv, ov + j, none⟩)), VE (.int .i64 x), VE (.bool false), VE (.bool false)] i (fun _ _ => False)) [] [0, 1, 2, 4, 7, 9, 10, 12, 13, 14, 15, 16, 18, 20, 22, 24, 25, 27, 28] (by kernel_rfl) (by kernel_rfl) (Ext.start wr) (fun _ _ h hb => h.grow hb)
                  (stays_all (stays_cons (stays_VE _) (stays_cons (stays_VE _) (stays_cons (stays_VE _) (stays_cons (stays_VE _) (stays_cons (stays_VE _) (stays_cons (stays_VE _) (stays_cons (stays_VE _) (stays_cons (stays_VE _) (stays_cons (stays_VE _) (stays_cons (stays_VE _) (stays_cons (stays_VE _) (stays_cons (stays_VE _) (stays_cons (stays_VE _) (stays_cons (stays_VE _) (stays_cons (stays_VE _) (stays_cons (stays_VE _) (stays_cons (stays_VE _) (stays_cons (stays_VE _) (stays_cons (stays_VE _) (stays_cons (stays_VE _) (stays_cons (stays_VE _) (stays_cons (stays_VE _) (stays_cons (stays_VE _) (stays_cons (stays_VE _) (stays_cons (stays_VE _) (stays_cons (stays_VE _) (stays_cons (stays_VE _) (stays_cons (stays_VE _) (stays_cons (stays_VE _) stays_nil)))))))))))))))))))))))))))))) ⟨?_, ?_, ?_, ?_, ?_, ?_, ?_, ?_, ?_, ?_, ?_, ?_, ?_, ?_, ?_, ?_, ?_, ?_, ?_, ?_, ?_, ?_, ?_, ?_, ?_, ?_, ?_, ?_, ?_, trivial⟩ ?_
                · intro ev wv hE hw hd
                  refine ifw rfl (ifw rfl ?_)
                  have v5 : ev (.tmp 5) = .slice (some ⟨ga, oa, none⟩) n5 cA := hE.tmp 5 rfl
                  refine ⟨.slice (some ⟨ga, oa, none⟩) n5 cA, fun w => ?_, rfl⟩
                  have e1 := hE.const; have e2 := hE.func; clear hE hd hw
                  go_simp
                · intro ev wv hE hw hd
                  refine ifw rfl (ifw rfl ?_)
                  have v15 : ev (.tmp 15) = .int .i64 (j : Int) := hE.tmp 15 rfl
                  refine ⟨.int .i64 (j : Int), fun w => ?_, rfl⟩
                  have e1 := hE.const; have e2 := hE.func; clear hE hd hw
                  go_simp
                · intro ev wv hE hw hd
                  refine ifw rfl (ifw rfl ?_)
                  have v94 : ev (.tmp 94) = .slice (some ⟨ga, oa, none⟩) n5 cA := hd 0 (by decide)
                  have v95 : ev (.tmp 95) = .int .i64 (j : Int) := hd 1 (by decide)
                  refine ⟨.pointer (some ⟨ga, oa + j, none⟩), fun w => ?_, rfl⟩
                  have e1 := hE.const; have e2 := hE.func; clear hE hd hw
                  go_simp
                · intro ev wv hE hw hd
                  refine ifw rfl (ifn rfl ?_)
                  have v96 : ev (.tmp 96) = .pointer (some ⟨ga, oa + j, none⟩) := hd 2 (by decide)
                  have kx := (Below.cell (p := ⟨ga, oa + j, none⟩) hw hga).trans m0
                  refine rel_val (u := .pointer (some z)) (w' := wv) ?_ (Below.refl _ _) ⟨rfl, fun h => by cases h⟩
                  have e1 := hE.const; clear hE hd hw
                  go_simp
                · intro ev wv hE hw hd
                  refine ifw rfl (ifw rfl ?_)
                  have v13 : ev (.tmp 13) = .pointer (some ⟨hp, 0, none⟩) := hE.tmp 13 rfl
                  refine ⟨.pointer (some ⟨hp, 0, none⟩), fun w => ?_, rfl⟩
                  have e1 := hE.const; have e2 := hE.func; clear hE hd hw
                  go_simp
                · intro ev wv hE hw hd
                  refine ifw rfl (ifn rfl ?_)
                  have v98 : ev (.tmp 98) = .pointer (some ⟨hp, 0, none⟩) := hd 4 (by decide)
                  have kx := (Below.cell (p := ⟨hp, 0, none⟩) hw yl).trans y0
                  refine rel_val (u := .int .i64 q1) (w' := wv) ?_ (Below.refl _ _) ⟨rfl, fun h => by cases h⟩
                  have e1 := hE.const; clear hE hd hw
                  go_simp
                · intro ev wv hE hw hd
                  refine ifw rfl (ifn rfl ?_)
                  have v97 : ev (.tmp 97) = .pointer (some z) := hd 3 (by decide)
                  have v99 : ev (.tmp 99) = .int .i64 q1 := hd 5 (by decide)
                  refine rel_call (f := 15) (args := #[.pointer (some z), .int .i64 q1]) ?_ (HT1.out _ hw) ?_
                  · have e0 := hE.func; have e1 := hE.const; clear hE hd hw
                    go_simp
                  · rintro e w' ⟨rfl, hb⟩
                    exact ⟨_, rfl, hb, rfl, fun h => by cases h⟩
                · intro ev wv hE hw hd
                  refine ifw rfl (ifw rfl ?_)
                  have v13 : ev (.tmp 13) = .pointer (some ⟨hp, 0, none⟩) := hE.tmp 13 rfl
                  refine ⟨.pointer (some ⟨hp, 2, none⟩), fun w => ?_, rfl⟩
                  have e1 := hE.const; have e2 := hE.func; clear hE hd hw
                  go_simp
                · intro ev wv hE hw hd
                  refine ifw rfl (ifn rfl ?_)
                  have v101 : ev (.tmp 101) = .pointer (some ⟨hp, 2, none⟩) := hd 7 (by decide)
                  have kx := (Below.cell (p := ⟨hp, 2, none⟩) hw yl).trans y2
                  refine rel_val (u := .slice (some ⟨gv, ov, none⟩) n5 c5) (w' := wv) ?_ (Below.refl _ _) ⟨rfl, fun h => by cases h⟩
                  have e1 := hE.const; clear hE hd hw
                  go_simp
                · intro ev wv hE hw hd
                  refine ifw rfl (ifw rfl ?_)
                  have v15 : ev (.tmp 15) = .int .i64 (j : Int) := hE.tmp 15 rfl
                  refine ⟨.int .i64 (j : Int), fun w => ?_, rfl⟩
                  have e1 := hE.const; have e2 := hE.func; clear hE hd hw
                  go_simp
                · intro ev wv hE hw hd
                  refine ifw rfl (ifw rfl ?_)
                  have v102 : ev (.tmp 102) = .slice (some ⟨gv, ov, none⟩) n5 c5 := hd 8 (by decide)
                  have v103 : ev (.tmp 103) = .int .i64 (j : Int) := hd 9 (by decide)
                  refine ⟨.pointer (some ⟨gv, ov + j, none⟩), fun w => ?_, rfl⟩
                  have e1 := hE.const; have e2 := hE.func; clear hE hd hw
                  go_simp
                · intro ev wv hE hw hd
                  refine ifw rfl (ifn rfl ?_)
                  have v104 : ev (.tmp 104) = .pointer (some ⟨gv, ov + j, none⟩) := hd 10 (by decide)
                  have kx := (Below.cell (p := ⟨gv, ov + j, none⟩) hw hgv).trans m1
                  refine rel_val (u := .int .i64 x) (w' := wv) ?_ (Below.refl _ _) ⟨rfl, fun h => by cases h⟩
                  have e1 := hE.const; clear hE hd hw
                  go_simp
                · intro ev wv hE hw hd
                  refine ifw rfl (ifw rfl ?_)
                  have v100 : ev (.tmp 100) = .int .i64 x := hd 6 (by decide)
                  have v105 : ev (.tmp 105) = .int .i64 x := hd 11 (by decide)
                  refine ⟨.bool false, fun w => ?_, rfl⟩
                  have e1 := hE.const; have e2 := hE.func; clear hE hd hw
                  go_simp
                · intro ev wv hE hw hd
                  refine ifw rfl (ifw rfl ?_)
                  have v106 : ev (.tmp 106) = .bool false := hd 12 (by decide)
                  refine ⟨.bool false, fun w => ?_, rfl⟩
                  have e1 := hE.const; have e2 := hE.func; clear hE hd hw
                  go_simp
                · intro ev wv hE hw hd
                  have vg : ev (.tmp 107) = .bool false := hd 13 (by decide)
                  refine ifw (by show (yv (ev (.tmp 107)) == some false) = true; rw [vg]; rfl) (ifw rfl ?_)
                  clear vg
                  have v5 : ev (.tmp 5) = .slice (some ⟨ga, oa, none⟩) n5 cA := hE.tmp 5 rfl
                  refine ⟨.slice (some ⟨ga, oa, none⟩) n5 cA, fun w => ?_, rfl⟩
                  have e1 := hE.const; have e2 := hE.func; clear hE hd hw
                  go_simp
                · intro ev wv hE hw hd
                  have vg : ev (.tmp 107) = .bool false := hd 13 (by decide)
                  refine ifw (by show (yv (ev (.tmp 107)) == some false) = true; rw [vg]; rfl) (ifw rfl ?_)
                  clear vg
                  have v15 : ev (.tmp 15) = .int .i64 (j : Int) := hE.tmp 15 rfl
                  refine ⟨.int .i64 (j : Int), fun w => ?_, rfl⟩
                  have e1 := hE.const; have e2 := hE.func; clear hE hd hw
                  go_simp
                · intro ev wv hE hw hd
                  have vg : ev (.tmp 107) = .bool false := hd 13 (by decide)
                  refine ifw (by show (yv (ev (.tmp 107)) == some false) = true; rw [vg]; rfl) (ifw rfl ?_)
                  clear vg
                  have v108 : ev (.tmp 108) = .slice (some ⟨ga, oa, none⟩) n5 cA := hd 14 (by decide)
                  have v109 : ev (.tmp 109) = .int .i64 (j : Int) := hd 15 (by decide)
                  refine ⟨.pointer (some ⟨ga, oa + j, none⟩), fun w => ?_, rfl⟩
                  have e1 := hE.const; have e2 := hE.func; clear hE hd hw
                  go_simp
                · intro ev wv hE hw hd
                  have vg : ev (.tmp 107) = .bool false := hd 13 (by decide)
                  refine ifw (by show (yv (ev (.tmp 107)) == some false) = true; rw [vg]; rfl) (ifn rfl ?_)
                  clear vg
                  have v110 : ev (.tmp 110) = .pointer (some ⟨ga, oa + j, none⟩) := hd 16 (by decide)
                  have kx := (Below.cell (p := ⟨ga, oa + j, none⟩) hw hga).trans m0
                  refine rel_val (u := .pointer (some z)) (w' := wv) ?_ (Below.refl _ _) ⟨rfl, fun h => by cases h⟩
                  have e1 := hE.const; clear hE hd hw
                  go_simp
                · intro ev wv hE hw hd
                  have vg : ev (.tmp 107) = .bool false := hd 13 (by decide)
                  refine ifw (by show (yv (ev (.tmp 107)) == some false) = true; rw [vg]; rfl) (ifw rfl ?_)
                  clear vg
                  have v13 : ev (.tmp 13) = .pointer (some ⟨hp, 0, none⟩) := hE.tmp 13 rfl
                  refine ⟨.pointer (some ⟨hp, 1, none⟩), fun w => ?_, rfl⟩
                  have e1 := hE.const; have e2 := hE.func; clear hE hd hw
                  go_simp
                · intro ev wv hE hw hd
                  have vg : ev (.tmp 107) = .bool false := hd 13 (by decide)
                  refine ifw (by show (yv (ev (.tmp 107)) == some false) = true; rw [vg]; rfl) (ifn rfl ?_)
                  clear vg
                  have v112 : ev (.tmp 112) = .pointer (some ⟨hp, 1, none⟩) := hd 18 (by decide)
                  have kx := (Below.cell (p := ⟨hp, 1, none⟩) hw yl).trans y1
                  refine rel_val (u := .int .i64 q2) (w' := wv) ?_ (Below.refl _ _) ⟨rfl, fun h => by cases h⟩
                  have e1 := hE.const; clear hE hd hw
                  go_simp
                · intro ev wv hE hw hd
                  have vg : ev (.tmp 107) = .bool false := hd 13 (by decide)
                  refine ifw (by show (yv (ev (.tmp 107)) == some false) = true; rw [vg]; rfl) (ifw rfl ?_)
                  clear vg
                  have v113 : ev (.tmp 113) = .int .i64 q2 := hd 19 (by decide)
                  refine ⟨.int .i64 (q2 - 1), fun w => ?_, rfl⟩
                  have e1 := hE.const; have e2 := hE.func; clear hE hd hw
                  go_simp
                · intro ev wv hE hw hd
                  have vg : ev (.tmp 107) = .bool false := hd 13 (by decide)
                  refine ifw (by show (yv (ev (.tmp 107)) == some false) = true; rw [vg]; rfl) (ifn rfl ?_)
                  clear vg
                  have v111 : ev (.tmp 111) = .pointer (some z) := hd 17 (by decide)
                  have v114 : ev (.tmp 114) = .int .i64 (q2 - 1) := hd 20 (by decide)
                  refine rel_call (f := 15) (args := #[.pointer (some z), .int .i64 (q2 - 1)]) ?_ (HT2.out _ hw) ?_
                  · have e0 := hE.func; have e1 := hE.const; clear hE hd hw
                    go_simp
                  · rintro e w' ⟨rfl, hb⟩
                    exact ⟨_, rfl, hb, rfl, fun h => by cases h⟩
                · intro ev wv hE hw hd
                  have vg : ev (.tmp 107) = .bool false := hd 13 (by decide)
                  refine ifw (by show (yv (ev (.tmp 107)) == some false) = true; rw [vg]; rfl) (ifw rfl ?_)
                  clear vg
                  have v13 : ev (.tmp 13) = .pointer (some ⟨hp, 0, none⟩) := hE.tmp 13 rfl
                  refine ⟨.pointer (some ⟨hp, 2, none⟩), fun w => ?_, rfl⟩
                  have e1 := hE.const; have e2 := hE.func; clear hE hd hw
                  go_simp
                · intro ev wv hE hw hd
                  have vg : ev (.tmp 107) = .bool false := hd 13 (by decide)
                  refine ifw (by show (yv (ev (.tmp 107)) == some false) = true; rw [vg]; rfl) (ifn rfl ?_)
                  clear vg
                  have v116 : ev (.tmp 116) = .pointer (some ⟨hp, 2, none⟩) := hd 22 (by decide)
                  have kx := (Below.cell (p := ⟨hp, 2, none⟩) hw yl).trans y2
                  refine rel_val (u := .slice (some ⟨gv, ov, none⟩) n5 c5) (w' := wv) ?_ (Below.refl _ _) ⟨rfl, fun h => by cases h⟩
                  have e1 := hE.const; clear hE hd hw
                  go_simp
                · intro ev wv hE hw hd
                  have vg : ev (.tmp 107) = .bool false := hd 13 (by decide)
                  refine ifw (by show (yv (ev (.tmp 107)) == some false) = true; rw [vg]; rfl) (ifw rfl ?_)
                  clear vg
                  have v15 : ev (.tmp 15) = .int .i64 (j : Int) := hE.tmp 15 rfl
                  refine ⟨.int .i64 (j : Int), fun w => ?_, rfl⟩
                  have e1 := hE.const; have e2 := hE.func; clear hE hd hw
                  go_simp
                · intro ev wv hE hw hd
                  have vg : ev (.tmp 107) = .bool false := hd 13 (by decide)
                  refine ifw (by show (yv (ev (.tmp 107)) == some false) = true; rw [vg]; rfl) (ifw rfl ?_)
                  clear vg
                  have v117 : ev (.tmp 117) = .slice (some ⟨gv, ov, none⟩) n5 c5 := hd 23 (by decide)
                  have v118 : ev (.tmp 118) = .int .i64 (j : Int) := hd 24 (by decide)
                  refine ⟨.pointer (some ⟨gv, ov + j, none⟩), fun w => ?_, rfl⟩
                  have e1 := hE.const; have e2 := hE.func; clear hE hd hw
                  go_simp
                · intro ev wv hE hw hd
                  have vg : ev (.tmp 107) = .bool false := hd 13 (by decide)
                  refine ifw (by show (yv (ev (.tmp 107)) == some false) = true; rw [vg]; rfl) (ifn rfl ?_)
                  clear vg
                  have v119 : ev (.tmp 119) = .pointer (some ⟨gv, ov + j, none⟩) := hd 25 (by decide)
                  have kx := (Below.cell (p := ⟨gv, ov + j, none⟩) hw hgv).trans m1
                  refine rel_val (u := .int .i64 x) (w' := wv) ?_ (Below.refl _ _) ⟨rfl, fun h => by cases h⟩
                  have e1 := hE.const; clear hE hd hw
                  go_simp
                · intro ev wv hE hw hd
                  have vg : ev (.tmp 107) = .bool false := hd 13 (by decide)
                  refine ifw (by show (yv (ev (.tmp 107)) == some false) = true; rw [vg]; rfl) (ifw rfl ?_)
                  clear vg
                  have v115 : ev (.tmp 115) = .int .i64 x := hd 21 (by decide)
                  have v120 : ev (.tmp 120) = .int .i64 x := hd 26 (by decide)
                  refine ⟨.bool false, fun w => ?_, rfl⟩
                  have e1 := hE.const; have e2 := hE.func; clear hE hd hw
                  go_simp
                · intro ev wv hE hw hd
                  refine ifw rfl (ifw rfl ?_)
                  have v107 : ev (.tmp 107) = .bool false := hd 13 (by decide)
                  have v121 : ev (.tmp 121) = .bool false := hd 27 (by decide)
                  refine ⟨.bool false, fun w => ?_, rfl⟩
                  have e1 := hE.const; have e2 := hE.func; clear hE hd hw
                  go_simp
                · intro wz hw
                  intro v0 h0 _ v1 h1 _ v2 h2 _ v3 h3 _ v4 h4 _ v5 h5 _ v6 h6 _ v7 h7 _ v8 h8 _ v9 h9 _ v10 h10 _ v11 h11 _ v12 h12 _ v13 h13 _ v14 h14 _ v15 h15 _ v16 h16 _ v17 h17 _ v18 h18 _ v19 h19 _ v20 h20 _ v21 h21 _ v22 h22 _ v23 h23 _ v24 h24 _ v25 h25 _ v26 h26 _ v27 h27 _ v28 h28 _
                  simp only [Act.put, List.setIfInBounds_toArray, List.set_cons_zero, List.set_cons_succ, List.drop_succ_cons, List.drop_zero]
                  obtain rfl : v0 = _ := h0
                  obtain rfl : v1 = _ := h1
                  obtain rfl : v2 = _ := h2
                  obtain rfl : v3 = _ := h3
                  obtain rfl : v4 = _ := h4
                  obtain rfl : v5 = _ := h5
                  obtain rfl : v6 = _ := h6
                  obtain rfl : v7 = _ := h7
                  obtain rfl : v8 = _ := h8
                  obtain rfl : v9 = _ := h9
                  obtain rfl : v10 = _ := h10
                  obtain rfl : v11 = _ := h11
                  obtain rfl : v12 = _ := h12
                  obtain rfl : v13 = _ := h13
                  obtain rfl : v14 = _ := h14
                  obtain rfl : v15 = _ := h15
                  obtain rfl : v16 = _ := h16
                  obtain rfl : v17 = _ := h17
                  obtain rfl : v18 = _ := h18
                  obtain rfl : v19 = _ := h19
                  obtain rfl : v20 = _ := h20
                  obtain rfl : v21 = _ := h21
                  obtain rfl : v22 = _ := h22
                  obtain rfl : v23 = _ := h23
                  obtain rfl : v24 = _ := h24
                  obtain rfl : v25 = _ := h25
                  obtain rfl : v26 = _ := h26
                  obtain rfl : v27 = _ := h27
                  obtain rfl : v28 = _ := h28
                  change wpList Try.prog _ _ _ _ wz
                  have HXZ := Lib.hid (HX.out.trans (hw.mono HX.out.size))
                  have HYZ := Lib.hid (HYX.out.keep hw)
                  have n0 := (Below.cell (p := ⟨gv, ov + j, none⟩) hw hgv).trans m1
                  clear y0 y1 y2 yl m0 m1 HT1 HT2 HX HYX
                  go_wp2_with fail
                  refine calm_normal ?_
                  cases ub with
                  | true =>
                    have HU2 := Lib.hid (show true = ulB i pv qv (j + 1) by
                      obtain ⟨y, hy⟩ : ∃ y, pv[j]? = some y := ⟨_, List.getElem?_eq_getElem (by rw [HPQ.out]; exact hjt)⟩
                      rw [ulB_more hy HXX.out, ← HUB.out]; rfl)
                    clear n0 hw
                    go_upto_region 25 with fail
                    go_quiet (fail)
                    go_wp2_with fail
                    go_roundw
                    case rel => exact ⟨j + 1, true, rfl, by go_num, by omega, HU2, Lib.hid (HXZ.out.trans ((Joins.below_draws _ wz _).mono HXZ.out.size))⟩
                    case measure => simp [intOf]; omega
                  | false =>
                    have hi0 : ¬ i = 0 := fun e => by
                      have h1 := HUB.out
                      unfold ulB at h1
                      rw [decide_eq_true e, Bool.true_or] at h1
                      cases h1
                    obtain ⟨i', hi'⟩ : ∃ i', i = i' + 1 := ⟨i - 1, by omega⟩
                    subst hi'
                    obtain ⟨⟨f1, f2, hpp⟩, _⟩ := HPO.out.resolve_left hi0
                    rw [Nat.add_sub_cancel] at hpp
                    obtain ⟨g6, o6, p6, E6, n6, c6, he6, hp6, hN6, hg6, _, _, r2⟩ := PtR.get (HPT.out.keep (HBA.out.trans (HXZ.out.mono HBA.out.size))) (i := i') (by omega)
                    injection he6 with he6
                    injection he6 with e1 e2 _
                    subst e1 e2
                    rw [hpp] at hp6
                    obtain rfl := Option.some.inj hp6
                    have hn6 : n6 = n5 := by have h1 := Nums.count hN6; have h2 := HPQ.out; dsimp only at h1; omega
                    subst hn6
                    obtain ⟨g7, o7, y, rfl, hy, hg7, r3⟩ := Nums.get hN6 hjt
                    have yy2 := HYZ.out.get 2 rfl
                    have wi : IntKind.i64.wrap (i' : Int) = (i' : Int) := IntWalk.i64_in _ (by omega)
                    have wi0 : decide ((i' : Int) < 0) = false := decide_eq_false (by omega)
                    have wi1 : (0 : Int) ≤ (i' : Int) := by omega
                    have wi2 : (i' : Int) < (nP : Int) := by omega
                    have wi3 : ((i' : Int)).toNat = i' := by omega
                    obtain ⟨bx, hbx⟩ : ∃ bx, (y != x) = bx := ⟨_, rfl⟩
                    have HU2 := Lib.hid (show bx = ulB (i' + 1) pv qv (j + 1) by
                      rw [ulB_more hy HXX.out, ← HUB.out, ← hbx, Bool.false_or]
                      by_cases h : y = x
                      · subst h; simp
                      · rw [decide_eq_true (p := y ≠ x) h]; simpa using h)
                    clear hi0 hpp hN6 hy hw
                    go_upto_region 25 with fail
                    go_quiet (fail)
                    go_wp2_with fail
                    go_roundw
                    case rel => exact ⟨j + 1, bx, rfl, by go_num, by omega, HU2, Lib.hid (HXZ.out.trans ((Joins.below_draws _ wz _).mono HXZ.out.size))⟩
                    case measure => simp [intOf]; omega
              · have hjk : j = n5 := by omega
                subst hjk
                have hub : ub = true := by
                  rw [HUB.out]
                  exact ulB_all HPQ.out HQL.out (HPO.out.imp_right And.right)
                subst hub
                have y1 := HYX.out.get 1 rfl
                have HBZ := Lib.hid (HBA.out.trans (HX.out.mono HBA.out.size))
                go_wp2_with fail
                go_roundw
                case rel => exact ⟨i + 1, q2, rfl, by go_num, by omega, HK5, HBZ⟩
                case measure => simp [intOf]; omega
          · have hin : i = nP := by omega
            have hmb : mm = b := by
              have h1 := HC.out
              rw [List.drop_eq_nil_of_le (by rw [HPN.out]; omega)] at h1
              exact h1
            subst hmb
            have HS9 := Lib.hid (HS5.out.keep HBW.out)
            have z1 := (HS9.out.b 0 rfl).get 1 rfl
            go_wp2_with fail
            refine (rfknown_any HK.out _).mono ?_
            rintro e w6 ⟨rfl, b6⟩
            have HB6 := Lib.hid (HS9.out.keep b6).bl
            clear b6
            go_wp2_with fail
            go_ret
            exact ⟨rfl, HB6.out⟩
      · have hps : ps = [] := by have := HPF.out; unfold partsF at this; rwa [if_neg hm] at this
        have hn0 : nP = 0 := by rw [← HPN.out, hps]; rfl
        subst hn0
        have HM := Lib.hid (show ¬ (1 ≤ a ∧ a < b ∧ b ≤ 3652060) from fun e => hm (mayB_iff.2 e))
        clear hps hm
        by_cases h1 : a < 1
        · have e1 : decide (a < 1) = true := decide_eq_true h1
          clear h1
          go_wp2_with fail
          refine (rfknown_any HK.out _).mono ?_
          rintro e w6 ⟨rfl, b6⟩
          have HB6 := Lib.hid (HS5.out.keep b6).bl
          clear b6
          go_wp2_with fail
          go_ret
          exact ⟨rfl, HB6.out⟩
        · have e1 : decide (a < 1) = false := decide_eq_false h1
          by_cases h2 : a ≥ b
          · have e2 : decide (a ≥ b) = true := decide_eq_true h2
            clear h1 h2
            go_wp2_with fail
            refine (rfknown_any HK.out _).mono ?_
            rintro e w6 ⟨rfl, b6⟩
            have HB6 := Lib.hid (HS5.out.keep b6).bl
            clear b6
            go_wp2_with fail
            go_ret
            exact ⟨rfl, HB6.out⟩
          · have e2 : decide (a ≥ b) = false := decide_eq_false h2
            have e3 : decide (b > 3652060) = true := decide_eq_true (by have := HM.out; omega)
            clear h1 h2
            go_wp2_with fail
            refine (rfknown_any HK.out _).mono ?_
            rintro e w6 ⟨rfl, b6⟩
            have HB6 := Lib.hid (HS5.out.keep b6).bl
            clear b6
            go_wp2_with fail
            go_ret
            exact ⟨rfl, HB6.out⟩
theorem rfcovers_any {Rep : RepL} (K : RfK Rep) (E : Option Addr) (N c : Nat) (ls : List ItL) (a b : Int) (w : World) (Rl : SlsR w E N c ls) (hN : N ≤ 9223372036854775807) : Calls Try.prog 4 #[.slice E N c, .agg #[.int .i64 a, .int .i64 b]] w fun e w' => e = .returned (.bool true) ∧ Below w.heap.size w w' := by
  cases hg : grB ls with
  | true => exact rfcovers_long K E N c ls a b w Rl hN hg
  | false => exact rfcovers_main K E N c ls a b w Rl hg
end Go.Proofs.Ytonfjjmgjgmanaa

/- corrodylaw14: LexerBack. (Written by wip/gen/genlxt.py.) -/
import Derived.Test.YtfceoehfellpgaaDoorLxTrim
import Derived.Test.YtfceoehfellpgaaDoorLxWords
namespace Corr
set_option maxRecDepth 8000
open Go Go.RowKit Go.PlainAid
/-- The words' texts as cells. -/
def wordsC : List Tk → List Value
  | [] => []
  | x :: r => .string x.2.1 :: wordsC r
theorem wordsC_append : ∀ a b : List Tk, wordsC (a ++ b) = wordsC a ++ wordsC b
  | [], b => rfl
  | x :: r, b => by rw [List.cons_append, wordsC, wordsC_append r b]; rfl
theorem wordsC_at : ∀ {l : List Tk} {j : Nat} {x : ByteArray}, (l.map (·.2.1))[j]? = some x → (wordsC l)[j]? = some (.string x)
  | [], _, _, h => by simp at h
  | y :: r, 0, x, h => by simp at h; subst h; rfl
  | y :: r, j + 1, x, h => by
    have := wordsC_at (l := r) (j := j) (by simpa using h)
    simpa [wordsC] using this
/-- Behind i words: where the next one stands. -/
theorem posT_step {s : ByteArray} {a i : Nat} {toks : List Tk} (h : PosT s a (toks.drop i)) {x : Tk} (hx : toks[i]? = some x) :
    ∃ b : Nat, x.2.2.2.2 = (b : Int) ∧ a ≤ b ∧ b + x.2.1.size ≤ s.size ∧ s.extract b (b + x.2.1.size) = x.2.1 ∧ 0 < x.2.1.size ∧ (∀ k, a ≤ k → k < b → bt s k = 32) ∧ PosT s (b + x.2.1.size) (toks.drop (i + 1)) := by
  have hi := (List.getElem?_eq_some_iff.1 hx).1
  have e : toks.drop i = x :: toks.drop (i + 1) := by
    rw [List.drop_eq_getElem_cons hi]
    rw [List.getElem?_eq_getElem hi] at hx
    rw [Option.some.inj hx]
  rw [e] at h
  exact h
theorem posT_end {s : ByteArray} {a i : Nat} {toks : List Tk} (h : PosT s a (toks.drop i)) (hi : toks.length ≤ i) : ∀ k, a ≤ k → k < s.size → bt s k = 32 := by
  rw [List.drop_eq_nil_of_le hi] at h
  exact h
theorem SameL.at_ : ∀ {l k : List Tk}, SameL l k → ∀ {i : Nat} {x y : Tk}, l[i]? = some x → k[i]? = some y → sameT x y
  | _, _, .nil, i, x, y, h, _ => by simp at h
  | _, _, .cons h hs, 0, x, y, h1, h2 => by
    simp at h1 h2; subst h1 h2; exact h
  | _, _, .cons h hs, i + 1, x, y, h1, h2 => hs.at_ (i := i) (by simpa using h1) (by simpa using h2)
theorem SameL.len : ∀ {l k : List Tk}, SameL l k → l.length = k.length
  | _, _, .nil => rfl
  | _, _, .cons _ hs => by rw [List.length_cons, List.length_cons, hs.len]
/-- Blanks alone. -/
theorem ext_blank {s : ByteArray} {a b : Nat} (hb : b ≤ s.size) (h : ∀ k, a ≤ k → k < b → bt s k = 32) : ∀ k, k < (s.extract a b).size → bt (s.extract a b) k = 32 := by
  intro k hk
  rw [size_ext hb] at hk
  rw [bt_ext (by omega) hb]
  exact h _ (by omega) (by omega)
end Corr
namespace Go.Proofs.YtfceoehfellpgaaDoor
set_option maxRecDepth 8000
open Go.RowKit Go.PlainAid Corr
set_option linter.unusedVariables false
set_option linter.unusedSimpArgs false
theorem elem_str : Elem Tryd.prog 27 9 (.string ⟨#[]⟩) 1 16 := by
  obtain ⟨i, h0, h1, h2, h3⟩ := info_parts (show (Tryd.prog.info? 9).map (fun i => (i.zero, i.size, i.bytes)) = some (some (.string ⟨#[]⟩), 1, 16) by kernel_rfl)
  exact ⟨Tryd.underlying27, ⟨i, h0, h1, h2, h3⟩, rfl, by decide⟩
theorem join_words {toks : List Tk} {J : ByteArray} (hJ : J = ⟨(Lib.join (toks.map (·.2.1.data.toList)) [32]).toArray⟩) (hl : (Lib.join (toks.map (·.2.1.data.toList)) [32]).length ≤ 400) {w : World} {B n c : Nat} {A : Option Addr} (h : w.ownsRow B 9 1 (.slice A n c) n (wordsC toks)) (hn : n ≤ 200) (hc : toks.length = n) : Calls Tryd.prog 7 #[.slice A n c, .string ⟨#[32]⟩] w fun e w' => e = .returned (.string J) ∧ Below w.heap.size w w' := by
  rcases Joins.ownsRow_forms h with ⟨e, h0⟩ | ⟨g, cap, e⟩
  · injection e with e1 e2 e3
    subst e1 e2 e3
    obtain rfl : toks = [] := List.length_eq_zero_iff.1 hc
    rw [hJ]
    exact join_none _ w
  · injection e with e1 _ e3
    subst e1 e3
    have L := own_lies h
    have hlt : 0 < n → g < w.heap.size := fun h0 => by
      obtain ⟨g', o', hA, hg, _⟩ := L.at_ h0
      injection hA with hA; injection hA with hA1 _; subst hA1; exact hg
    subst hc
    have hb : g < w.heap.size := by
      obtain ⟨_, h' | ⟨g', cap', cur, hv, _, hh, _⟩⟩ := h
      · cases h'.1
      · injection hv with e1 _ _
        injection e1 with e1
        injection e1 with e1 _ _
        subst e1
        exact (Array.getElem?_eq_some_iff.1 hh).1
    have hj := Tryd.strings_Join g 0 c (toks.map (·.2.1)) ⟨#[32]⟩ w (fun j x hx => by
      have hjl := (List.getElem?_eq_some_iff.1 hx).1
      rw [List.length_map] at hjl
      obtain ⟨g', o', hA, _, hc⟩ := L.at_ (by omega)
      injection hA with hA; injection hA with hA1 hA2 _; subst hA1 hA2
      exact hc j _ (wordsC_at hx)) hb (by rw [List.length_map]; omega) (by rw [List.length_map]; exact L.cap) (by
        rw [List.map_map]; exact Nat.le_trans hl (by omega))
    rw [List.length_map, List.map_map] at hj
    rw [hJ]
    exact hj
set_option maxRecDepth 100000 in
set_option maxHeartbeats 8000000 in
theorem lxback_any {G : World → Prop} (K : LxK G) (s : ByteArray) (w : World) (g : G w) : Calls Tryd.prog 3 #[.string s] w fun e w' => e = .returned (.bool true) ∧ Below w.heap.size w w' := by
  have HK := Lib.hid K
  have HG := Lib.hid g
  clear K g
  by_cases h1 : 200 < s.size
  · have d1 : decide ((s.size : Int) > 200) = true := decide_eq_true (by omega)
    clear h1
    go_enter Tryd.func3, Tryd.ntmps3
    go_wp2_with fail
    refine (lxknown_any HK.out _ HG.out).mono ?_
    rintro e w9 ⟨rfl, b9⟩
    have HB9 := Lib.hid (b9)
    clear b9
    go_wp2_with fail
    go_ret
    exact ⟨rfl, HB9.out⟩
  have d1 : decide ((s.size : Int) > 200) = false := decide_eq_false (by omega)
  have hs : s.size ≤ 200 := by omega
  have HL1 := Lib.hid (fun w g => HK.out.lex s w (by omega) g)
  rcases lexL_form s with ⟨toks, hf⟩ | ⟨p, x, hx, hf⟩
  · have HBK := Lib.hid (fun J hJ => back_lex (J := J) hf hs hJ)
    have HCN := Lib.hid (show toks.length ≤ 200 from by have := lexL_len s; rw [hf] at this; exact Nat.le_trans this hs)
    rw [hf] at HL1
    clear h1 hf
    go_enter Tryd.func3, Tryd.ntmps3
    go_wp2_with fail
    refine (HL1.out _ HG.out).mono ?_
    rintro e w1 ⟨A, n, c, rfl, ho, b1⟩
    have HT := Lib.hid (show Tks w1 A n c toks from own_lies ho)
    have HB1 := Lib.hid b1
    have HG1 := Lib.hid (HK.out.keep HG.out b1)
    have HC := Lib.hid (Tks.count HT.out)
    have hn : n ≤ 200 := by have := HC.out; have := HCN.out; omega
    obtain ⟨J, hJ⟩ : ∃ J : ByteArray, J = ⟨(Lib.join (toks.map (·.2.1.data.toList)) [32]).toArray⟩ := ⟨_, rfl⟩
    have HJ := Lib.hid hJ
    obtain ⟨hp0, hJs, toks', hf', hsame⟩ := HBK.out J (by rw [hJ])
    have HP0 := Lib.hid hp0
    have HL2 := Lib.hid (fun w g => HK.out.lex J w (by omega) g)
    have HSM := Lib.hid hsame
    rw [hf'] at HL2
    have hJlen : (Lib.join (toks.map (·.2.1.data.toList)) [32]).length ≤ 400 := by rw [hJ] at hJs; exact hJs
    have HJL := Lib.hid hJlen
    clear ho b1 HBK hJ hp0 hJs hf' hsame hJlen
    go_wp2_with fail
    go_loopw [34, 6, 7] (fun u v x wr => ∃ (i a c' : Nat) (A' : Option Addr), u = .int .i64 (i : Int) ∧ v = .slice A' i c' ∧ x = .int .i64 (a : Int) ∧ i ≤ n ∧ a ≤ s.size ∧ Hid (PosT s a (toks.drop i)) ∧ Hid (wr.ownsRow w1.heap.size 9 1 (.slice A' i c') i (wordsC (toks.take i))) ∧ Hid (Below w1.heap.size w1 wr)) (fun u _ _ _ => (n - intOf u).toNat)
    case atStart => exact ⟨0, 0, 0, none, rfl, rfl, rfl, by omega, by omega, HP0, Lib.hid (World.ownsRow_nil _ _ _ _), Lib.hid (Below.refl _ _)⟩
    case round =>
      obtain ⟨i, a, c', A', rfl, rfl, rfl, hi, has, HP, HO, HB⟩ := hrel
      clear HP0
      by_cases hit : i < n
      · obtain ⟨gT, oT, x, rfl, hx, hgT, u0, u1, u2, u3, u4⟩ := Tks.get (HT.out.keep HB.out) hit
        obtain ⟨b, e1, hab, hbs, hxe, hx0, hbl, hP2⟩ := posT_step HP.out hx
        obtain ⟨t0, t1, t2, t3, t4⟩ := x
        simp only [] at u0 u1 u2 u3 u4 e1 hbs hxe hx0 hP2
        subst e1
        have HX := Lib.hid hx
        have HP2 := Lib.hid hP2
        have hsz := HB.out.size
        have HBA := Lib.hid (HB.out.alloc hsz (.cells #[.int .u8 t0, .string t1, .int .i64 t2, .int .i64 t3, .int .i64 (b : Int)] 31))
        have B9 := Blk.new wr #[.int .u8 t0, .string t1, .int .i64 t2, .int .i64 t3, .int .i64 (b : Int)] 31
        have y0 := B9.get 0 rfl; have y1 := B9.get 1 rfl; have y4 := B9.get 4 rfl
        have hlt1 : wr.heap.size < (wr.alloc (.cells #[.int .u8 t0, .string t1, .int .i64 t2, .int .i64 t3, .int .i64 (b : Int)] 31)).heap.size := by simp
        have hii : (i : Int) < (n : Int) := by omega
        have d2 : decide ((b : Int) < (a : Int)) = false := decide_eq_false (by omega)
        have d3 : decide ((b : Int) + (t1.size : Int) > (s.size : Int)) = false := decide_eq_false (by omega)
        have hwr : IntKind.i64.wrap ((b : Int) + (t1.size : Int)) = (b : Int) + (t1.size : Int) := IntWalk.i64_in _ (by omega)
        have d4 : (t1.toList == ([] : List UInt8)) = false := by
          rw [Bool.eq_false_iff]; intro e
          have e2 : t1.toList = [] := by simpa using e
          rw [Lib.toList_data] at e2
          have := size_len t1; rw [e2] at this; simp at this; omega
        have hrun := fun w => run_slice_string (P := Tryd.prog) w 9 s .i64 .i64 (b : Int) ((b : Int) + (t1.size : Int)) Tryd.underlying9 (by omega) (by omega) (by omega)
        have kt1 : ((b : Int)).toNat = b := by omega
        have kt2 : ((b : Int) + (t1.size : Int)).toNat = b + t1.size := by omega
        simp only [kt1, kt2, hxe] at hrun
        obtain ⟨M, hM⟩ : ∃ M, s.extract a b = M := ⟨_, rfl⟩
        have hrun2 := fun w => run_slice_string (P := Tryd.prog) w 9 s .i64 .i64 (a : Int) (b : Int) Tryd.underlying9 (by omega) (by omega) (by omega)
        have kt3 : ((a : Int)).toNat = a := by omega
        simp only [kt1, kt3, hM] at hrun2
        have HTRIM := Lib.hid (fun w => trim_blank M w (by rw [← hM, size_ext (by omega)]; omega) (by rw [← hM]; exact ext_blank (by omega) hbl))
        clear hx hP2 B9 hM hbl hxe kt1 kt2 kt3
        go_upto_region 11 with fail
        refine wp_region_rel 44 (Ext (wr.alloc (.cells #[.int .u8 t0, .string t1, .int .i64 t2, .int .i64 t3, .int .i64 (b : Int)] 31)))
          (fun iV => List.getD (VE (.pointer (some ⟨wr.heap.size, 4, none⟩)) :: VE (.int .i64 (b : Int)) :: VE (.int .i64 (a : Int)) :: VE (.bool false) :: VE (.bool false) :: VE (.pointer (some ⟨wr.heap.size, 4, none⟩)) :: VE (.int .i64 (b : Int)) :: VE (.pointer (some ⟨wr.heap.size, 1, none⟩)) :: VE (.string t1) :: VE (.int .i64 (t1.size : Int)) :: VE (.int .i64 ((b : Int) + (t1.size : Int))) :: VE (.string s) :: VE (.int .i64 (s.size : Int)) :: VE (.bool false) :: VE (.bool false) :: VE (.bool false) :: VE (.string s) :: VE (.pointer (some ⟨wr.heap.size, 4, none⟩)) :: VE (.int .i64 (b : Int)) :: VE (.pointer (some ⟨wr.heap.size, 4, none⟩)) :: VE (.int .i64 (b : Int)) :: VE (.pointer (some ⟨wr.heap.size, 1, none⟩)) :: VE (.string t1) :: VE (.int .i64 (t1.size : Int)) :: VE (.int .i64 ((b : Int) + (t1.size : Int))) :: VE (.string t1) :: VE (.pointer (some ⟨wr.heap.size, 1, none⟩)) :: VE (.string t1) :: VE (.bool false) :: VE (.bool false) :: VE (.bool false) :: VE (.string s) :: VE (.int .i64 (a : Int)) :: VE (.pointer (some ⟨wr.heap.size, 4, none⟩)) :: VE (.int .i64 (b : Int)) :: VE (.string M) :: VE (.string ⟨#[]⟩) :: VE (.bool false) :: VE (.bool false) :: VE (.bool false) :: VE (.pointer (some ⟨wr.heap.size, 1, none⟩)) :: VE (.string t1) :: VE (.bool false) :: VE (.bool false) :: []) iV (fun _ _ => False)) [] [0, 2, 3, 4, 5, 7, 9, 10, 11, 12, 13, 14, 15, 16, 17, 19, 21, 23, 24, 25, 26, 28, 29, 30, 31, 32, 33, 35, 37, 38, 39, 40, 42, 43] (by kernel_rfl) (by kernel_rfl) (Ext.start _) (fun _ _ h hb => h.grow hb)
          (stays_get (Vs := (VE (.pointer (some ⟨wr.heap.size, 4, none⟩)) :: VE (.int .i64 (b : Int)) :: VE (.int .i64 (a : Int)) :: VE (.bool false) :: VE (.bool false) :: VE (.pointer (some ⟨wr.heap.size, 4, none⟩)) :: VE (.int .i64 (b : Int)) :: VE (.pointer (some ⟨wr.heap.size, 1, none⟩)) :: VE (.string t1) :: VE (.int .i64 (t1.size : Int)) :: VE (.int .i64 ((b : Int) + (t1.size : Int))) :: VE (.string s) :: VE (.int .i64 (s.size : Int)) :: VE (.bool false) :: VE (.bool false) :: VE (.bool false) :: VE (.string s) :: VE (.pointer (some ⟨wr.heap.size, 4, none⟩)) :: VE (.int .i64 (b : Int)) :: VE (.pointer (some ⟨wr.heap.size, 4, none⟩)) :: VE (.int .i64 (b : Int)) :: VE (.pointer (some ⟨wr.heap.size, 1, none⟩)) :: VE (.string t1) :: VE (.int .i64 (t1.size : Int)) :: VE (.int .i64 ((b : Int) + (t1.size : Int))) :: VE (.string t1) :: VE (.pointer (some ⟨wr.heap.size, 1, none⟩)) :: VE (.string t1) :: VE (.bool false) :: VE (.bool false) :: VE (.bool false) :: VE (.string s) :: VE (.int .i64 (a : Int)) :: VE (.pointer (some ⟨wr.heap.size, 4, none⟩)) :: VE (.int .i64 (b : Int)) :: VE (.string M) :: VE (.string ⟨#[]⟩) :: VE (.bool false) :: VE (.bool false) :: VE (.bool false) :: VE (.pointer (some ⟨wr.heap.size, 1, none⟩)) :: VE (.string t1) :: VE (.bool false) :: VE (.bool false) :: [])) (stays_cons (stays_VE _) (stays_cons (stays_VE _) (stays_cons (stays_VE _) (stays_cons (stays_VE _) (stays_cons (stays_VE _) (stays_cons (stays_VE _) (stays_cons (stays_VE _) (stays_cons (stays_VE _) (stays_cons (stays_VE _) (stays_cons (stays_VE _) (stays_cons (stays_VE _) (stays_cons (stays_VE _) (stays_cons (stays_VE _) (stays_cons (stays_VE _) (stays_cons (stays_VE _) (stays_cons (stays_VE _) (stays_cons (stays_VE _) (stays_cons (stays_VE _) (stays_cons (stays_VE _) (stays_cons (stays_VE _) (stays_cons (stays_VE _) (stays_cons (stays_VE _) (stays_cons (stays_VE _) (stays_cons (stays_VE _) (stays_cons (stays_VE _) (stays_cons (stays_VE _) (stays_cons (stays_VE _) (stays_cons (stays_VE _) (stays_cons (stays_VE _) (stays_cons (stays_VE _) (stays_cons (stays_VE _) (stays_cons (stays_VE _) (stays_cons (stays_VE _) (stays_cons (stays_VE _) (stays_cons (stays_VE _) (stays_cons (stays_VE _) (stays_cons (stays_VE _) (stays_cons (stays_VE _) (stays_cons (stays_VE _) (stays_cons (stays_VE _) (stays_cons (stays_VE _) (stays_cons (stays_VE _) (stays_cons (stays_VE _) (stays_cons (stays_VE _) stays_nil)))))))))))))))))))))))))))))))))))))))))))) rfl) ⟨?_, ?_, ?_, ?_, ?_, ?_, ?_, ?_, ?_, ?_, ?_, ?_, ?_, ?_, ?_, ?_, ?_, ?_, ?_, ?_, ?_, ?_, ?_, ?_, ?_, ?_, ?_, ?_, ?_, ?_, ?_, ?_, ?_, ?_, ?_, ?_, ?_, ?_, ?_, ?_, ?_, ?_, ?_, ?_, trivial⟩ ?_
        · intro ev wv hE hw hd
          refine ifw rfl (ifw rfl ?_)
          have v9 : ev (.tmp 9) = .pointer (some ⟨wr.heap.size, 0, none⟩) := hE.tmp 9 rfl
          refine ⟨.pointer (some ⟨wr.heap.size, 4, none⟩), fun w => ?_, rfl⟩
          have e1 := hE.const; have e2 := hE.func; clear hE hd hw
          go_simp
        · intro ev wv hE hw hd
          refine ifw rfl (ifn rfl ?_)
          have v38 : ev (.tmp 38) = .pointer (some ⟨wr.heap.size, 4, none⟩) := hd 0 (by decide)
          have kx := (Below.cell (p := ⟨wr.heap.size, 4, none⟩) hw hlt1).trans y4
          refine rel_val (u := .int .i64 (b : Int)) (w' := wv) ?_ (Below.refl _ _) ⟨rfl, fun h => by cases h⟩
          have e1 := hE.const; clear hE hd hw
          go_simp
        · intro ev wv hE hw hd
          refine ifw rfl (ifw rfl ?_)
          have v7 : ev (.tmp 7) = .int .i64 (a : Int) := hE.tmp 7 rfl
          refine ⟨.int .i64 (a : Int), fun w => ?_, rfl⟩
          have e1 := hE.const; have e2 := hE.func; clear hE hd hw
          go_simp
        · intro ev wv hE hw hd
          refine ifw rfl (ifw rfl ?_)
          have v39 : ev (.tmp 39) = .int .i64 (b : Int) := hd 1 (by decide)
          have v40 : ev (.tmp 40) = .int .i64 (a : Int) := hd 2 (by decide)
          refine ⟨.bool false, fun w => ?_, rfl⟩
          have e1 := hE.const; have e2 := hE.func; clear hE hd hw
          go_simp
        · intro ev wv hE hw hd
          refine ifw rfl (ifw rfl ?_)
          have v41 : ev (.tmp 41) = .bool false := hd 3 (by decide)
          refine ⟨.bool false, fun w => ?_, rfl⟩
          have e1 := hE.const; have e2 := hE.func; clear hE hd hw
          go_simp
        · intro ev wv hE hw hd
          have vg : ev (.tmp 42) = .bool false := hd 4 (by decide)
          refine ifw (by show (yv (ev (.tmp 42)) == some false) = true; rw [vg]; rfl) (ifw rfl ?_)
          clear vg
          have v9 : ev (.tmp 9) = .pointer (some ⟨wr.heap.size, 0, none⟩) := hE.tmp 9 rfl
          refine ⟨.pointer (some ⟨wr.heap.size, 4, none⟩), fun w => ?_, rfl⟩
          have e1 := hE.const; have e2 := hE.func; clear hE hd hw
          go_simp
        · intro ev wv hE hw hd
          have vg : ev (.tmp 42) = .bool false := hd 4 (by decide)
          refine ifw (by show (yv (ev (.tmp 42)) == some false) = true; rw [vg]; rfl) (ifn rfl ?_)
          clear vg
          have v43 : ev (.tmp 43) = .pointer (some ⟨wr.heap.size, 4, none⟩) := hd 5 (by decide)
          have kx := (Below.cell (p := ⟨wr.heap.size, 4, none⟩) hw hlt1).trans y4
          refine rel_val (u := .int .i64 (b : Int)) (w' := wv) ?_ (Below.refl _ _) ⟨rfl, fun h => by cases h⟩
          have e1 := hE.const; clear hE hd hw
          go_simp
        · intro ev wv hE hw hd
          have vg : ev (.tmp 42) = .bool false := hd 4 (by decide)
          refine ifw (by show (yv (ev (.tmp 42)) == some false) = true; rw [vg]; rfl) (ifw rfl ?_)
          clear vg
          have v9 : ev (.tmp 9) = .pointer (some ⟨wr.heap.size, 0, none⟩) := hE.tmp 9 rfl
          refine ⟨.pointer (some ⟨wr.heap.size, 1, none⟩), fun w => ?_, rfl⟩
          have e1 := hE.const; have e2 := hE.func; clear hE hd hw
          go_simp
        · intro ev wv hE hw hd
          have vg : ev (.tmp 42) = .bool false := hd 4 (by decide)
          refine ifw (by show (yv (ev (.tmp 42)) == some false) = true; rw [vg]; rfl) (ifn rfl ?_)
          clear vg
          have v45 : ev (.tmp 45) = .pointer (some ⟨wr.heap.size, 1, none⟩) := hd 7 (by decide)
          have kx := (Below.cell (p := ⟨wr.heap.size, 1, none⟩) hw hlt1).trans y1
          refine rel_val (u := .string t1) (w' := wv) ?_ (Below.refl _ _) ⟨rfl, fun h => by cases h⟩
          have e1 := hE.const; clear hE hd hw
          go_simp
        · intro ev wv hE hw hd
          have vg : ev (.tmp 42) = .bool false := hd 4 (by decide)
          refine ifw (by show (yv (ev (.tmp 42)) == some false) = true; rw [vg]; rfl) (ifw rfl ?_)
          clear vg
          have v46 : ev (.tmp 46) = .string t1 := hd 8 (by decide)
          refine ⟨.int .i64 (t1.size : Int), fun w => ?_, rfl⟩
          have e1 := hE.const; have e2 := hE.func; clear hE hd hw
          go_simp
        · intro ev wv hE hw hd
          have vg : ev (.tmp 42) = .bool false := hd 4 (by decide)
          refine ifw (by show (yv (ev (.tmp 42)) == some false) = true; rw [vg]; rfl) (ifw rfl ?_)
          clear vg
          have v44 : ev (.tmp 44) = .int .i64 (b : Int) := hd 6 (by decide)
          have v47 : ev (.tmp 47) = .int .i64 (t1.size : Int) := hd 9 (by decide)
          refine ⟨.int .i64 ((b : Int) + (t1.size : Int)), fun w => ?_, rfl⟩
          have e1 := hE.const; have e2 := hE.func; clear hE hd hw
          go_simp
        · intro ev wv hE hw hd
          have vg : ev (.tmp 42) = .bool false := hd 4 (by decide)
          refine ifw (by show (yv (ev (.tmp 42)) == some false) = true; rw [vg]; rfl) (ifw rfl ?_)
          clear vg
          have v0 : ev (.tmp 0) = .string s := hE.tmp 0 rfl
          refine ⟨.string s, fun w => ?_, rfl⟩
          have e1 := hE.const; have e2 := hE.func; clear hE hd hw
          go_simp
        · intro ev wv hE hw hd
          have vg : ev (.tmp 42) = .bool false := hd 4 (by decide)
          refine ifw (by show (yv (ev (.tmp 42)) == some false) = true; rw [vg]; rfl) (ifw rfl ?_)
          clear vg
          have v49 : ev (.tmp 49) = .string s := hd 11 (by decide)
          refine ⟨.int .i64 (s.size : Int), fun w => ?_, rfl⟩
          have e1 := hE.const; have e2 := hE.func; clear hE hd hw
          go_simp
        · intro ev wv hE hw hd
          have vg : ev (.tmp 42) = .bool false := hd 4 (by decide)
          refine ifw (by show (yv (ev (.tmp 42)) == some false) = true; rw [vg]; rfl) (ifw rfl ?_)
          clear vg
          have v48 : ev (.tmp 48) = .int .i64 ((b : Int) + (t1.size : Int)) := hd 10 (by decide)
          have v50 : ev (.tmp 50) = .int .i64 (s.size : Int) := hd 12 (by decide)
          refine ⟨.bool false, fun w => ?_, rfl⟩
          have e1 := hE.const; have e2 := hE.func; clear hE hd hw
          go_simp
        · intro ev wv hE hw hd
          refine ifw rfl (ifw rfl ?_)
          have v42 : ev (.tmp 42) = .bool false := hd 4 (by decide)
          have v51 : ev (.tmp 51) = .bool false := hd 13 (by decide)
          refine ⟨.bool false, fun w => ?_, rfl⟩
          have e1 := hE.const; have e2 := hE.func; clear hE hd hw
          go_simp
        · intro ev wv hE hw hd
          refine ifw rfl (ifw rfl ?_)
          have v52 : ev (.tmp 52) = .bool false := hd 14 (by decide)
          refine ⟨.bool false, fun w => ?_, rfl⟩
          have e1 := hE.const; have e2 := hE.func; clear hE hd hw
          go_simp
        · intro ev wv hE hw hd
          have vg : ev (.tmp 53) = .bool false := hd 15 (by decide)
          refine ifw (by show (yv (ev (.tmp 53)) == some false) = true; rw [vg]; rfl) (ifw rfl ?_)
          clear vg
          have v0 : ev (.tmp 0) = .string s := hE.tmp 0 rfl
          refine ⟨.string s, fun w => ?_, rfl⟩
          have e1 := hE.const; have e2 := hE.func; clear hE hd hw
          go_simp
        · intro ev wv hE hw hd
          have vg : ev (.tmp 53) = .bool false := hd 15 (by decide)
          refine ifw (by show (yv (ev (.tmp 53)) == some false) = true; rw [vg]; rfl) (ifw rfl ?_)
          clear vg
          have v9 : ev (.tmp 9) = .pointer (some ⟨wr.heap.size, 0, none⟩) := hE.tmp 9 rfl
          refine ⟨.pointer (some ⟨wr.heap.size, 4, none⟩), fun w => ?_, rfl⟩
          have e1 := hE.const; have e2 := hE.func; clear hE hd hw
          go_simp
        · intro ev wv hE hw hd
          have vg : ev (.tmp 53) = .bool false := hd 15 (by decide)
          refine ifw (by show (yv (ev (.tmp 53)) == some false) = true; rw [vg]; rfl) (ifn rfl ?_)
          clear vg
          have v55 : ev (.tmp 55) = .pointer (some ⟨wr.heap.size, 4, none⟩) := hd 17 (by decide)
          have kx := (Below.cell (p := ⟨wr.heap.size, 4, none⟩) hw hlt1).trans y4
          refine rel_val (u := .int .i64 (b : Int)) (w' := wv) ?_ (Below.refl _ _) ⟨rfl, fun h => by cases h⟩
          have e1 := hE.const; clear hE hd hw
          go_simp
        · intro ev wv hE hw hd
          have vg : ev (.tmp 53) = .bool false := hd 15 (by decide)
          refine ifw (by show (yv (ev (.tmp 53)) == some false) = true; rw [vg]; rfl) (ifw rfl ?_)
          clear vg
          have v9 : ev (.tmp 9) = .pointer (some ⟨wr.heap.size, 0, none⟩) := hE.tmp 9 rfl
          refine ⟨.pointer (some ⟨wr.heap.size, 4, none⟩), fun w => ?_, rfl⟩
          have e1 := hE.const; have e2 := hE.func; clear hE hd hw
          go_simp
        · intro ev wv hE hw hd
          have vg : ev (.tmp 53) = .bool false := hd 15 (by decide)
          refine ifw (by show (yv (ev (.tmp 53)) == some false) = true; rw [vg]; rfl) (ifn rfl ?_)
          clear vg
          have v57 : ev (.tmp 57) = .pointer (some ⟨wr.heap.size, 4, none⟩) := hd 19 (by decide)
          have kx := (Below.cell (p := ⟨wr.heap.size, 4, none⟩) hw hlt1).trans y4
          refine rel_val (u := .int .i64 (b : Int)) (w' := wv) ?_ (Below.refl _ _) ⟨rfl, fun h => by cases h⟩
          have e1 := hE.const; clear hE hd hw
          go_simp
        · intro ev wv hE hw hd
          have vg : ev (.tmp 53) = .bool false := hd 15 (by decide)
          refine ifw (by show (yv (ev (.tmp 53)) == some false) = true; rw [vg]; rfl) (ifw rfl ?_)
          clear vg
          have v9 : ev (.tmp 9) = .pointer (some ⟨wr.heap.size, 0, none⟩) := hE.tmp 9 rfl
          refine ⟨.pointer (some ⟨wr.heap.size, 1, none⟩), fun w => ?_, rfl⟩
          have e1 := hE.const; have e2 := hE.func; clear hE hd hw
          go_simp
        · intro ev wv hE hw hd
          have vg : ev (.tmp 53) = .bool false := hd 15 (by decide)
          refine ifw (by show (yv (ev (.tmp 53)) == some false) = true; rw [vg]; rfl) (ifn rfl ?_)
          clear vg
          have v59 : ev (.tmp 59) = .pointer (some ⟨wr.heap.size, 1, none⟩) := hd 21 (by decide)
          have kx := (Below.cell (p := ⟨wr.heap.size, 1, none⟩) hw hlt1).trans y1
          refine rel_val (u := .string t1) (w' := wv) ?_ (Below.refl _ _) ⟨rfl, fun h => by cases h⟩
          have e1 := hE.const; clear hE hd hw
          go_simp
        · intro ev wv hE hw hd
          have vg : ev (.tmp 53) = .bool false := hd 15 (by decide)
          refine ifw (by show (yv (ev (.tmp 53)) == some false) = true; rw [vg]; rfl) (ifw rfl ?_)
          clear vg
          have v60 : ev (.tmp 60) = .string t1 := hd 22 (by decide)
          refine ⟨.int .i64 (t1.size : Int), fun w => ?_, rfl⟩
          have e1 := hE.const; have e2 := hE.func; clear hE hd hw
          go_simp
        · intro ev wv hE hw hd
          have vg : ev (.tmp 53) = .bool false := hd 15 (by decide)
          refine ifw (by show (yv (ev (.tmp 53)) == some false) = true; rw [vg]; rfl) (ifw rfl ?_)
          clear vg
          have v58 : ev (.tmp 58) = .int .i64 (b : Int) := hd 20 (by decide)
          have v61 : ev (.tmp 61) = .int .i64 (t1.size : Int) := hd 23 (by decide)
          refine ⟨.int .i64 ((b : Int) + (t1.size : Int)), fun w => ?_, rfl⟩
          have e1 := hE.const; have e2 := hE.func; clear hE hd hw
          go_simp
        · intro ev wv hE hw hd
          have vg : ev (.tmp 53) = .bool false := hd 15 (by decide)
          refine ifw (by show (yv (ev (.tmp 53)) == some false) = true; rw [vg]; rfl) (ifw rfl ?_)
          clear vg
          have v54 : ev (.tmp 54) = .string s := hd 16 (by decide)
          have v56 : ev (.tmp 56) = .int .i64 (b : Int) := hd 18 (by decide)
          have v62 : ev (.tmp 62) = .int .i64 ((b : Int) + (t1.size : Int)) := hd 24 (by decide)
          refine ⟨.string t1, fun w => ?_, rfl⟩
          have e1 := hE.const; have e2 := hE.func; clear hE hd hw
          go_simp
        · intro ev wv hE hw hd
          have vg : ev (.tmp 53) = .bool false := hd 15 (by decide)
          refine ifw (by show (yv (ev (.tmp 53)) == some false) = true; rw [vg]; rfl) (ifw rfl ?_)
          clear vg
          have v9 : ev (.tmp 9) = .pointer (some ⟨wr.heap.size, 0, none⟩) := hE.tmp 9 rfl
          refine ⟨.pointer (some ⟨wr.heap.size, 1, none⟩), fun w => ?_, rfl⟩
          have e1 := hE.const; have e2 := hE.func; clear hE hd hw
          go_simp
        · intro ev wv hE hw hd
          have vg : ev (.tmp 53) = .bool false := hd 15 (by decide)
          refine ifw (by show (yv (ev (.tmp 53)) == some false) = true; rw [vg]; rfl) (ifn rfl ?_)
          clear vg
          have v64 : ev (.tmp 64) = .pointer (some ⟨wr.heap.size, 1, none⟩) := hd 26 (by decide)
          have kx := (Below.cell (p := ⟨wr.heap.size, 1, none⟩) hw hlt1).trans y1
          refine rel_val (u := .string t1) (w' := wv) ?_ (Below.refl _ _) ⟨rfl, fun h => by cases h⟩
          have e1 := hE.const; clear hE hd hw
          go_simp
        · intro ev wv hE hw hd
          have vg : ev (.tmp 53) = .bool false := hd 15 (by decide)
          refine ifw (by show (yv (ev (.tmp 53)) == some false) = true; rw [vg]; rfl) (ifw rfl ?_)
          clear vg
          have v63 : ev (.tmp 63) = .string t1 := hd 25 (by decide)
          have v65 : ev (.tmp 65) = .string t1 := hd 27 (by decide)
          refine ⟨.bool false, fun w => ?_, rfl⟩
          have e1 := hE.const; have e2 := hE.func; clear hE hd hw
          go_simp
        · intro ev wv hE hw hd
          refine ifw rfl (ifw rfl ?_)
          have v53 : ev (.tmp 53) = .bool false := hd 15 (by decide)
          have v66 : ev (.tmp 66) = .bool false := hd 28 (by decide)
          refine ⟨.bool false, fun w => ?_, rfl⟩
          have e1 := hE.const; have e2 := hE.func; clear hE hd hw
          go_simp
        · intro ev wv hE hw hd
          refine ifw rfl (ifw rfl ?_)
          have v67 : ev (.tmp 67) = .bool false := hd 29 (by decide)
          refine ⟨.bool false, fun w => ?_, rfl⟩
          have e1 := hE.const; have e2 := hE.func; clear hE hd hw
          go_simp
        · intro ev wv hE hw hd
          have vg : ev (.tmp 68) = .bool false := hd 30 (by decide)
          refine ifw (by show (yv (ev (.tmp 68)) == some false) = true; rw [vg]; rfl) (ifw rfl ?_)
          clear vg
          have v0 : ev (.tmp 0) = .string s := hE.tmp 0 rfl
          refine ⟨.string s, fun w => ?_, rfl⟩
          have e1 := hE.const; have e2 := hE.func; clear hE hd hw
          go_simp
        · intro ev wv hE hw hd
          have vg : ev (.tmp 68) = .bool false := hd 30 (by decide)
          refine ifw (by show (yv (ev (.tmp 68)) == some false) = true; rw [vg]; rfl) (ifw rfl ?_)
          clear vg
          have v7 : ev (.tmp 7) = .int .i64 (a : Int) := hE.tmp 7 rfl
          refine ⟨.int .i64 (a : Int), fun w => ?_, rfl⟩
          have e1 := hE.const; have e2 := hE.func; clear hE hd hw
          go_simp
        · intro ev wv hE hw hd
          have vg : ev (.tmp 68) = .bool false := hd 30 (by decide)
          refine ifw (by show (yv (ev (.tmp 68)) == some false) = true; rw [vg]; rfl) (ifw rfl ?_)
          clear vg
          have v9 : ev (.tmp 9) = .pointer (some ⟨wr.heap.size, 0, none⟩) := hE.tmp 9 rfl
          refine ⟨.pointer (some ⟨wr.heap.size, 4, none⟩), fun w => ?_, rfl⟩
          have e1 := hE.const; have e2 := hE.func; clear hE hd hw
          go_simp
        · intro ev wv hE hw hd
          have vg : ev (.tmp 68) = .bool false := hd 30 (by decide)
          refine ifw (by show (yv (ev (.tmp 68)) == some false) = true; rw [vg]; rfl) (ifn rfl ?_)
          clear vg
          have v71 : ev (.tmp 71) = .pointer (some ⟨wr.heap.size, 4, none⟩) := hd 33 (by decide)
          have kx := (Below.cell (p := ⟨wr.heap.size, 4, none⟩) hw hlt1).trans y4
          refine rel_val (u := .int .i64 (b : Int)) (w' := wv) ?_ (Below.refl _ _) ⟨rfl, fun h => by cases h⟩
          have e1 := hE.const; clear hE hd hw
          go_simp
        · intro ev wv hE hw hd
          have vg : ev (.tmp 68) = .bool false := hd 30 (by decide)
          refine ifw (by show (yv (ev (.tmp 68)) == some false) = true; rw [vg]; rfl) (ifw rfl ?_)
          clear vg
          have v69 : ev (.tmp 69) = .string s := hd 31 (by decide)
          have v70 : ev (.tmp 70) = .int .i64 (a : Int) := hd 32 (by decide)
          have v72 : ev (.tmp 72) = .int .i64 (b : Int) := hd 34 (by decide)
          refine ⟨.string M, fun w => ?_, rfl⟩
          have e1 := hE.const; have e2 := hE.func; clear hE hd hw
          go_simp
        · intro ev wv hE hw hd
          have vg : ev (.tmp 68) = .bool false := hd 30 (by decide)
          refine ifw (by show (yv (ev (.tmp 68)) == some false) = true; rw [vg]; rfl) (ifn rfl ?_)
          clear vg
          have v73 : ev (.tmp 73) = .string M := hd 35 (by decide)
          refine rel_call (f := 6) (args := #[.string M, .string ⟨#[32]⟩]) ?_ (HTRIM.out _) ?_
          · have e0 := hE.func; have e1 := hE.const; clear hE hd hw
            go_simp
          · rintro e w' ⟨rfl, hb⟩
            exact ⟨_, rfl, hb, rfl, fun h => by cases h⟩
        · intro ev wv hE hw hd
          have vg : ev (.tmp 68) = .bool false := hd 30 (by decide)
          refine ifw (by show (yv (ev (.tmp 68)) == some false) = true; rw [vg]; rfl) (ifw rfl ?_)
          clear vg
          have v74 : ev (.tmp 74) = .string ⟨#[]⟩ := hd 36 (by decide)
          refine ⟨.bool false, fun w => ?_, rfl⟩
          have e1 := hE.const; have e2 := hE.func; clear hE hd hw
          go_simp
        · intro ev wv hE hw hd
          refine ifw rfl (ifw rfl ?_)
          have v68 : ev (.tmp 68) = .bool false := hd 30 (by decide)
          have v75 : ev (.tmp 75) = .bool false := hd 37 (by decide)
          refine ⟨.bool false, fun w => ?_, rfl⟩
          have e1 := hE.const; have e2 := hE.func; clear hE hd hw
          go_simp
        · intro ev wv hE hw hd
          refine ifw rfl (ifw rfl ?_)
          have v76 : ev (.tmp 76) = .bool false := hd 38 (by decide)
          refine ⟨.bool false, fun w => ?_, rfl⟩
          have e1 := hE.const; have e2 := hE.func; clear hE hd hw
          go_simp
        · intro ev wv hE hw hd
          have vg : ev (.tmp 77) = .bool false := hd 39 (by decide)
          refine ifw (by show (yv (ev (.tmp 77)) == some false) = true; rw [vg]; rfl) (ifw rfl ?_)
          clear vg
          have v9 : ev (.tmp 9) = .pointer (some ⟨wr.heap.size, 0, none⟩) := hE.tmp 9 rfl
          refine ⟨.pointer (some ⟨wr.heap.size, 1, none⟩), fun w => ?_, rfl⟩
          have e1 := hE.const; have e2 := hE.func; clear hE hd hw
          go_simp
        · intro ev wv hE hw hd
          have vg : ev (.tmp 77) = .bool false := hd 39 (by decide)
          refine ifw (by show (yv (ev (.tmp 77)) == some false) = true; rw [vg]; rfl) (ifn rfl ?_)
          clear vg
          have v78 : ev (.tmp 78) = .pointer (some ⟨wr.heap.size, 1, none⟩) := hd 40 (by decide)
          have kx := (Below.cell (p := ⟨wr.heap.size, 1, none⟩) hw hlt1).trans y1
          refine rel_val (u := .string t1) (w' := wv) ?_ (Below.refl _ _) ⟨rfl, fun h => by cases h⟩
          have e1 := hE.const; clear hE hd hw
          go_simp
        · intro ev wv hE hw hd
          have vg : ev (.tmp 77) = .bool false := hd 39 (by decide)
          refine ifw (by show (yv (ev (.tmp 77)) == some false) = true; rw [vg]; rfl) (ifw rfl ?_)
          clear vg
          have v79 : ev (.tmp 79) = .string t1 := hd 41 (by decide)
          refine ⟨.bool false, fun w => ?_, rfl⟩
          have e1 := hE.const; have e2 := hE.func; clear hE hd hw
          go_simp
        · intro ev wv hE hw hd
          refine ifw rfl (ifw rfl ?_)
          have v77 : ev (.tmp 77) = .bool false := hd 39 (by decide)
          have v80 : ev (.tmp 80) = .bool false := hd 42 (by decide)
          refine ⟨.bool false, fun w => ?_, rfl⟩
          have e1 := hE.const; have e2 := hE.func; clear hE hd hw
          go_simp
        · intro wz hw
          intro v0 h0 _ v1 h1 _ v2 h2 _ v3 h3 _ v4 h4 _ v5 h5 _ v6 h6 _ v7 h7 _ v8 h8 _ v9 h9 _ v10 h10 _ v11 h11 _ v12 h12 _ v13 h13 _ v14 h14 _ v15 h15 _ v16 h16 _ v17 h17 _ v18 h18 _ v19 h19 _ v20 h20 _ v21 h21 _ v22 h22 _ v23 h23 _ v24 h24 _ v25 h25 _ v26 h26 _ v27 h27 _ v28 h28 _ v29 h29 _ v30 h30 _ v31 h31 _ v32 h32 _ v33 h33 _ v34 h34 _ v35 h35 _ v36 h36 _ v37 h37 _ v38 h38 _ v39 h39 _ v40 h40 _ v41 h41 _ v42 h42 _ v43 h43 _
          simp only [Act.put, List.setIfInBounds_toArray, List.set_cons_zero, List.set_cons_succ, List.drop_succ_cons, List.drop_zero]
          obtain rfl : v0 = _ := h0
          obtain rfl : v1 = _ := h1
          obtain rfl : v2 = _ := h2
          obtain rfl : v3 = _ := h3
          obtain rfl : v4 = _ := h4
          obtain rfl : v5 = _ := h5
          obtain rfl : v6 = _ := h6
          obtain rfl : v7 = _ := h7
          obtain rfl : v8 = _ := h8
          obtain rfl : v9 = _ := h9
          obtain rfl : v10 = _ := h10
          obtain rfl : v11 = _ := h11
          obtain rfl : v12 = _ := h12
          obtain rfl : v13 = _ := h13
          obtain rfl : v14 = _ := h14
          obtain rfl : v15 = _ := h15
          obtain rfl : v16 = _ := h16
          obtain rfl : v17 = _ := h17
          obtain rfl : v18 = _ := h18
          obtain rfl : v19 = _ := h19
          obtain rfl : v20 = _ := h20
          obtain rfl : v21 = _ := h21
          obtain rfl : v22 = _ := h22
          obtain rfl : v23 = _ := h23
          obtain rfl : v24 = _ := h24
          obtain rfl : v25 = _ := h25
          obtain rfl : v26 = _ := h26
          obtain rfl : v27 = _ := h27
          obtain rfl : v28 = _ := h28
          obtain rfl : v29 = _ := h29
          obtain rfl : v30 = _ := h30
          obtain rfl : v31 = _ := h31
          obtain rfl : v32 = _ := h32
          obtain rfl : v33 = _ := h33
          obtain rfl : v34 = _ := h34
          obtain rfl : v35 = _ := h35
          obtain rfl : v36 = _ := h36
          obtain rfl : v37 = _ := h37
          obtain rfl : v38 = _ := h38
          obtain rfl : v39 = _ := h39
          obtain rfl : v40 = _ := h40
          obtain rfl : v41 = _ := h41
          obtain rfl : v42 = _ := h42
          obtain rfl : v43 = _ := h43
          change wpList Tryd.prog _ _ _ _ wz
          have HBZ := Lib.hid (show Below (wr.alloc (.cells #[.int .u8 t0, .string t1, .int .i64 t2, .int .i64 t3, .int .i64 (b : Int)] 31)).heap.size (wr.alloc (.cells #[.int .u8 t0, .string t1, .int .i64 t2, .int .i64 t3, .int .i64 (b : Int)] 31)) wz from hw)
          clear hw
          go_wp2_with fail
          refine calm_normal ?_
          have z1 := (Below.cell (p := ⟨wr.heap.size, 1, none⟩) HBZ.out hlt1).trans y1
          have z4 := (Below.cell (p := ⟨wr.heap.size, 4, none⟩) HBZ.out hlt1).trans y4
          have hwz : wr.heap.size < wz.heap.size := Nat.lt_of_lt_of_le hlt1 HBZ.out.size
          have HNE0 : some wr.heap.size ≠ (Value.slice A' i c').ownBlock := fun h => Nat.lt_irrefl _ (own_lt HO.out h.symm)
          have HOZ := Lib.hid (own_keep (HO.out.alloc (.cells #[.int .u8 t0, .string t1, .int .i64 t2, .int .i64 t3, .int .i64 (b : Int)] 31)) HBZ.out)
          have HBW := Lib.hid (HBA.out.trans (HBZ.out.mono HBA.out.size))
          have HSZ := Lib.hid HBW.out.size
          clear y0 y1 y4 HTRIM hrun hrun2 d2 d3 d4 HO HBA
          go_upto_region 13 with fail
          have HOB := Lib.hid (own_ge HOZ.out)
          have HOA := Lib.hid ((HOZ.out.alloc (.cells #[.string t1] 9)).drew)
          have HBB := Lib.hid ((HBW.out.alloc HSZ.out (.cells #[.string t1] 9)).drew)
          clear HOZ
          have HNE := Lib.hid HNE0
          have y1d := (Below.cell (p := ⟨wr.heap.size, 1, none⟩) (((Below.refl _ wz).alloc (Nat.le_refl _) (.cells #[.string t1] 9)).drew) hwz).trans z1
          have y4d := (Below.cell (p := ⟨wr.heap.size, 4, none⟩) (((Below.refl _ wz).alloc (Nat.le_refl _) (.cells #[.string t1] 9)).drew) hwz).trans z4
          have hwd : wr.heap.size < ((wz.alloc (.cells #[.string t1] 9)).drew).heap.size := by simp; omega
          go_region_law (first
            | (refine step_app (by rfl) _ _ 27 (by rfl) [.string t1] elem_str (by rfl) HOA.out (by rfl) (by rfl) (fun _ => ⟨_, rfl, new_cells wz [.string t1] 9⟩) (fun u hu => by cases List.mem_singleton.1 hu; rfl) (by omega) (by unfold maxLen; omega) (by have := HSZ.out; simp; omega) ?_; intro v1 w2 hown1 hgrow1; have x1 := (World.grownBy.cell_far hgrow1 ⟨wr.heap.size, 1, none⟩ hwd HNE.out).trans y1d; have x4 := (World.grownBy.cell_far hgrow1 ⟨wr.heap.size, 4, none⟩ hwd HNE.out).trans y4d))
          all_goals
            have HB2 := Lib.hid (HBB.out.grown hgrow1 (by have := HSZ.out; simp; omega) HOB.out)
            obtain ⟨A9, d9, rfl, _⟩ := Lies.of_own hown1 (by have := hown1.1; exact this)
            have HO9 := Lib.hid (show w2.ownsRow w1.heap.size 9 1 (.slice A9 (i + 1) d9) (i + 1) (wordsC (toks.take (i + 1))) by rw [List.take_add_one, HX.out]; show World.ownsRow _ _ _ _ _ _ (wordsC (toks.take i ++ [(t0, t1, t2, t3, (b : Int))])); rw [wordsC_append]; exact hown1)
            clear hown1 hgrow1 HOA HBB
            go_wp2_with fail
            go_roundw
            case rel => exact ⟨i + 1, b + t1.size, d9, A9, by go_num, rfl, by go_num, by omega, by omega, HP2, HO9, HB2⟩
            case measure => simp [intOf]; omega
      · skip
        obtain rfl : i = n := by omega
        have hit2 : ¬ ((i : Int) < (i : Int)) := by omega
        have HEND := Lib.hid (posT_end HP.out (by rw [HC.out]; exact Nat.le_refl _))
        have HO2 : wr.ownsRow w1.heap.size 9 1 (.slice A' i c') i (wordsC toks) := by have h := HO.out; rwa [List.take_of_length_le (by rw [HC.out]; exact Nat.le_refl _)] at h
        have HJW := Lib.hid (join_words HJ.out HJL.out HO2 hn HC.out)
        clear HO HP HO2 hit
        go_wp2_with fail
        refine HJW.out.mono ?_
        rintro e w2 ⟨rfl, b2⟩
        have HB2 := Lib.hid (HB.out.trans (b2.mono HB.out.size))
        have HG2 := Lib.hid (HK.out.keep HG1.out HB2.out)
        clear b2 HJW
        go_wp2_with fail
        refine (HL2.out _ HG2.out).mono ?_
        rintro e w3 ⟨A3, n3, c3, rfl, ho3, b3⟩
        have HU := Lib.hid (show Tks w3 A3 n3 c3 toks' from own_lies ho3)
        have HB3 := Lib.hid (HB2.out.trans (b3.mono HB2.out.size))
        have HG3 := Lib.hid (HK.out.keep HG2.out b3)
        obtain rfl : n3 = i := by rw [← Tks.count HU.out, ← HC.out, HSM.out.len]
        clear ho3 b3
        have hrun3 := fun w => run_slice_string_l (P := Tryd.prog) w 9 s Tryd.underlying9 .i64 (a : Int) (by omega) (by omega)
        have kt3 : ((a : Int)).toNat = a := by omega
        obtain ⟨M, hM⟩ : ∃ M, s.extract a s.size = M := ⟨_, rfl⟩
        simp only [kt3, hM] at hrun3
        have HTRIM := Lib.hid (fun w => trim_blank M w (by rw [← hM, size_ext (Nat.le_refl _)]; omega) (by rw [← hM]; exact ext_blank (Nat.le_refl _) HEND.out))
        clear hM kt3
        go_wp2_with fail
        refine (HTRIM.out _).mono ?_
        rintro e w4 ⟨rfl, b4⟩
        have HB4 := Lib.hid (HB3.out.trans (b4.mono HB3.out.size))
        have HG4 := Lib.hid (HK.out.keep HG3.out b4)
        have HU4 := Lib.hid (HU.out.keep b4)
        have HT4 := Lib.hid (HT.out.keep HB4.out)
        clear b4 HTRIM hrun3
        go_wp2_with fail
        go_loopw [119] (fun u wr => ∃ j : Nat, u = .int .i64 (j : Int) ∧ j ≤ n3 ∧ Hid (Below w4.heap.size w4 wr)) (fun u _ => (n3 - intOf u).toNat)
        case atStart => exact ⟨0, rfl, by omega, Lib.hid (Below.refl _ _)⟩
        case round =>
          obtain ⟨j, rfl, hj, HB5⟩ := hrel
          by_cases hjt : j < n3
          · obtain ⟨g5, o5, x, rfl, hx, hg5, u0, u1, u2, u3, u4⟩ := Tks.get (HT4.out.keep HB5.out) hjt
            obtain ⟨g6, o6, y, rfl, hy, hg6, y0, y1, y2, y3, y4⟩ := Tks.get (HU4.out.keep HB5.out) hjt
            obtain ⟨q1, q2, q3, q4⟩ := HSM.out.at_ hx hy
            obtain ⟨x0, x1, x2, x3, x4⟩ := x
            obtain ⟨z0, z1, z2, z3, z4⟩ := y
            simp only [] at u0 u1 u2 u3 u4 y0 y1 y2 y3 y4 q1 q2 q3 q4
            subst q1 q2 q3 q4
            clear hx hy
            have hj1 : (0 : Int) ≤ (j : Int) := by omega
            have hj2 : (j : Int) < (n3 : Int) := by omega
            go_upto_region 21 with fail
            go_quiet (fail)
            have HB6 := Lib.hid (HB5.out.trans (Joins.below_draws _ wr nq |>.mono HB5.out.size))
            go_wp2_with fail
            go_roundw
            case rel => exact ⟨j + 1, by go_num, by omega, HB6⟩
            case measure => simp [intOf]; omega
          · have hin : ¬ ((j : Int) < (n3 : Int)) := by omega
            have din : decide ((j : Int) < (n3 : Int)) = false := decide_eq_false hin
            have HG5 := Lib.hid (HK.out.keep HG4.out HB5.out)
            have HBF := Lib.hid (HB1.out.trans ((HB4.out.trans (HB5.out.mono HB4.out.size)).mono HB1.out.size))
            clear hin
            go_wp2_with fail
            refine (lxknown_any HK.out _ HG5.out).mono ?_
            rintro e w9 ⟨rfl, b9⟩
            have HB9 := Lib.hid (HBF.out.trans (b9.mono HBF.out.size))
            clear b9
            go_wp2_with fail
            go_ret
            exact ⟨rfl, HB9.out⟩
  · skip
    rw [hf] at HL1
    have dx : (x != 0) = true := by simpa using hx
    clear h1 hf hx
    go_enter Tryd.func3, Tryd.ntmps3
    go_wp2_with fail
    refine (HL1.out _ HG.out).mono ?_
    rintro e w1 ⟨A, n, c, rfl, ho, b1⟩
    obtain rfl : 0 = n := Tks.count (own_lies ho : Tks w1 A n c [])
    have HB1 := Lib.hid b1
    have HG1 := Lib.hid (HK.out.keep HG.out b1)
    clear ho b1
    go_wp2_with fail
    refine (lxknown_any HK.out _ HG1.out).mono ?_
    rintro e w9 ⟨rfl, b9⟩
    have HB9 := Lib.hid (HB1.out.trans (b9.mono HB1.out.size))
    clear b9
    go_wp2_with fail
    go_ret
    exact ⟨rfl, HB9.out⟩
end Go.Proofs.YtfceoehfellpgaaDoor

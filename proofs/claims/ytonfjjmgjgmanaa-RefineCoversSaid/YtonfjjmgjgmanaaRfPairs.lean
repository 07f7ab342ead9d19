/- Timelines and the document's, pair by pair, beside two rows that hold them. -/
import Derived.Test.YtonfjjmgjgmanaaRfMaps
import Derived.Test.YtonfjjmgjgmanaaSep
namespace Corr
open Go Go.RowKit
set_option linter.unusedVariables false
/-- A row of theirs has grown. -/
theorem Sep.grew {w0 w w1 : World} {ts : List Thing} (h : Sep w0 ts w) (i : Nat) {base : Nat} {e : TypeId} {sz : Nat} {A : Option Addr} {n c : Nat} {xs : List Value} (hi : ts[i]? = some (rowT base e sz A n c xs)) {A' : Option Addr} {n' c' : Nat} {ys : List Value} (o : w1.ownsRow base e sz (.slice A' n' c') n' ys) (hg : w.grownBy w1 (Value.slice A n c).ownBlock) (hat : ∀ k, (Value.slice A' n' c').ownBlock = some k → (Value.slice A n c).ownBlock = some k ∨ w.heap.size ≤ k) : Sep w0 (ts.set i (rowT base e sz A' n' c' ys)) w1 := by
  obtain ⟨F, hp, _, hu⟩ := h.get hi
  exact hu w1 (fun k => (Value.slice A' n' c').ownBlock = some k) (rowT base e sz A' n' c' ys) ((Off.grown (v := .slice A n c) hg).mono fun k _ hk => (hp.2 k).2 hk) ⟨o, fun _ => Iff.rfl⟩ fun k hk => (hat k hk).imp_left (hp.2 k).2
theorem Sep.last {w0 w : World} {ts : List Thing} {x : Thing} (h : Sep w0 (ts ++ [x]) w) : Sep w0 ts w := by
  have := h.take ts.length
  rwa [List.take_left'] at this
  rfl
theorem ptr_one (p : Option Addr) : ∀ u ∈ [Value.pointer p], u.oneCell' = true := fun u hu => by rw [List.mem_singleton.1 hu]; rfl
/-- Pairs of things. -/
def pairsT {Rep : RepL} (R : TlOk Rep) (T : TypeId) : List Addr → List Nat → List ItL → List Thing
  | a :: al, g :: gs, l :: ls => tlT R (.pointer (some a)) l.length (atL (putAll l)) :: docT T g (putAll l) :: pairsT R T al gs ls
  | _, _, _ => []
section
variable {Rep : RepL} {R : TlOk Rep} {T : TypeId}
theorem pairsT_snoc {a : Addr} {g : Nat} {l : ItL} : ∀ {al : List Addr} {gs : List Nat} {ls : List ItL}, al.length = ls.length → gs.length = ls.length → pairsT R T (al ++ [a]) (gs ++ [g]) (ls ++ [l]) = pairsT R T al gs ls ++ [tlT R (.pointer (some a)) l.length (atL (putAll l)), docT T g (putAll l)]
  | [], [], [], _, _ => rfl
  | b :: al, h :: gs, m :: ls, h1, h2 => by
    simp only [List.cons_append, pairsT]
    rw [pairsT_snoc (by simpa using h1) (by simpa using h2)]
  | [], _ :: _, [], _, h => by simp at h
  | _ :: _, _, [], h, _ => by simp at h
  | [], _, _ :: _, h, _ => by simp at h
  | _ :: _, [], _ :: _, _, h => by simp at h
theorem pairsT_get : ∀ {al : List Addr} {gs : List Nat} {ls : List ItL} {i : Nat} {a : Addr} {g : Nat} {l : ItL}, al[i]? = some a → gs[i]? = some g → ls[i]? = some l → (pairsT R T al gs ls)[2 * i]? = some (tlT R (.pointer (some a)) l.length (atL (putAll l))) ∧ (pairsT R T al gs ls)[2 * i + 1]? = some (docT T g (putAll l))
  | [], _, _, _, _, _, _, h, _, _ => by simp at h
  | _ :: _, [], _, _, _, _, _, _, h, _ => by simp at h
  | _ :: _, _ :: _, [], _, _, _, _, _, _, h => by simp at h
  | b :: al, h :: gs, m :: ls, 0, a, g, l, h1, h2, h3 => by
    have h1 : b = a := by simpa using h1
    have h2 : h = g := by simpa using h2
    have h3 : m = l := by simpa using h3
    subst h1 h2 h3
    exact ⟨rfl, rfl⟩
  | b :: al, h :: gs, m :: ls, i + 1, a, g, l, h1, h2, h3 => by
    have := pairsT_get (al := al) (gs := gs) (ls := ls) (i := i) (a := a) (g := g) (l := l) (by simpa using h1) (by simpa using h2) (by simpa using h3)
    rw [show 2 * (i + 1) = 2 * i + 1 + 1 by omega]
    exact this
end
/-- What lies beside the pairs: a span, the two rows. -/
def sideT {Rep : RepL} (R : TlOk Rep) (T Ta Tb : TypeId) (b : Nat) (x y : Int) (A : Option Addr) (cA : Nat) (B : Option Addr) (cB : Nat) (al : List Addr) (gs : List Nat) (ls : List ItL) : List Thing :=
  blkT b #[.int .i64 x, .int .i64 y] :: rowT 0 Ta 1 A ls.length cA (al.map fun a => .pointer (some a)) :: rowT 0 Tb 1 B ls.length cB (gs.map fun g => .pointer (some ⟨g, 0, none⟩)) :: pairsT R T al gs ls
def VPf (fs : List (Int → Int)) (a b : Int) (v : Value) (w : World) : Prop := ∃ ps A n c, v = .slice A n c ∧ partsF fs a b ps ∧ PtR w A n c ps
theorem stays_VPf (fs : List (Int → Int)) (a b : Int) : stays (VPf fs a b) := fun _ _ _ h hb => by
  obtain ⟨ps, A, n, c, h1, h2, h3⟩ := h; exact ⟨ps, A, n, c, h1, h2, h3.keep hb⟩
def VCu (es : List Int) (a b : Int) (v : Value) (w : World) : Prop := ∃ out A n c, v = .slice A n c ∧ cutS es a b out ∧ Spn w A n c out
theorem stays_VCu (es : List Int) (a b : Int) : stays (VCu es a b) := fun _ _ _ h hb => by
  obtain ⟨out, A, n, c, h1, h2, h3⟩ := h; exact ⟨out, A, n, c, h1, h2, h3.keep hb⟩
theorem cutS_len {es : List Int} {a b : Int} {out : SpL} (h : cutS es a b out) : out.length ≤ 3652060 := by
  unfold cutS at h
  split at h
  · rename_i hm
    have h1 := (cutP_len h).1
    have h2 := mayB_iff.1 hm
    omega
  · rw [h]; simp
theorem partsF_vals {fs : List (Int → Int)} {a b : Int} {ps : PtL} (h : partsF fs a b ps) : ∀ p ∈ ps, p.2.2.length = fs.length := by
  have key : ∀ {ps : PtL} {a b : Int}, covG (fun d => fs.map (· d)) a b ps → ∀ p ∈ ps, p.2.2.length = fs.length := by
    intro ps
    induction ps with
    | nil => intro a b _ p hp; cases hp
    | cons s r ih =>
      intro a b h p hp
      obtain ⟨h1, h2, h3, h4, h5⟩ := h
      rcases List.mem_cons.1 hp with rfl | hp
      · rw [← h3 _ (Int.le_refl _) h2, List.length_map]
      · exact ih h5 p hp
  unfold partsF at h
  split at h
  · exact key h
  · rw [h]; intro p hp; cases hp
end Corr
namespace Go.Proofs.Ytonfjjmgjgmanaa
open Go.RowKit Corr
set_option linter.unusedVariables false
set_option linter.unusedSimpArgs false
theorem elem_tl : Elem Try.prog 28 31 (.pointer none) 1 8 := by
  obtain ⟨i, h0, h1, h2, h3⟩ := info_parts (show (Try.prog.info? 31).map (fun i => (i.zero, i.size, i.bytes)) = some (some (.pointer none), 1, 8) by kernel_rfl)
  exact ⟨Try.underlying28, ⟨i, h0, h1, h2, h3⟩, rfl, by decide⟩
theorem elem_dl : Elem Try.prog 29 32 (.pointer none) 1 8 := by
  obtain ⟨i, h0, h1, h2, h3⟩ := info_parts (show (Try.prog.info? 32).map (fun i => (i.zero, i.size, i.bytes)) = some (some (.pointer none), 1, 8) by kernel_rfl)
  exact ⟨Try.underlying29, ⟨i, h0, h1, h2, h3⟩, rfl, by decide⟩
abbrev sideS {Rep : RepL} (R : TlOk Rep) := sideT R 70 31 32
section
variable {Rep : RepL} {w0 w : World} {b : Nat} {x y : Int} {A B : Option Addr} {cA cB : Nat} {al : List Addr} {gs : List Nat} {ls : List ItL}
theorem side_parts (K : RfK Rep) (S : Sep w0 (sideS K.toTlOk b x y A cA B cB al gs ls) w) (ha : al.length = ls.length) (hg : gs.length = ls.length) (hl : ls.length ≤ 5) (hs : ∀ l ∈ ls, l.length ≤ 30) (p q : Int) : Calls Try.prog 10 #[.agg #[.int .i64 p, .int .i64 q], .slice A ls.length cA] w (RetPartsF 45 w (ls.map fun l => atL (putAll l)) p q) := by
  have hr := own_lies (S.row 1 rfl)
  have := K.parts w A ls.length cA ((al.zip ls).map fun z => (.pointer (some z.1), z.2.length, atL (putAll z.2))) p q (by
      rw [List.map_map]
      have : (al.zip ls).map ((fun x : Value × Nat × (Int → Int) => x.1) ∘ fun z => (Value.pointer (some z.1), z.2.length, atL (putAll z.2))) = al.map fun a => Value.pointer (some a) := by
        rw [show ((fun x : Value × Nat × (Int → Int) => x.1) ∘ fun z : Addr × ItL => (Value.pointer (some z.1), z.2.length, atL (putAll z.2))) = (fun a => Value.pointer (some a)) ∘ Prod.fst from rfl, ← List.map_map, List.map_fst_zip (by omega)]
      rw [this]; exact hr) (fun z hz => by
      obtain ⟨u, hu, rfl⟩ := List.mem_map.1 hz
      obtain ⟨i, hi⟩ := List.getElem?_of_mem hu
      rw [List.getElem?_zip_eq_some] at hi
      have hgi : gs[i]? = some (gs[i]'(by have := (List.getElem?_eq_some_iff.1 hi.2).1; omega)) := List.getElem?_eq_getElem _
      have hp := (pairsT_get (R := K.toTlOk) (T := 70) hi.1 hgi hi.2).1
      obtain ⟨F, h, _⟩ := S.get (i := 3 + 2 * i) (by rw [Nat.add_comm]; exact hp)
      exact ⟨F, h, by have := hs u.2 (List.mem_of_getElem? hi.2); show u.2.length ≤ 300; omega⟩) (by omega)
  rw [List.map_map] at this
  rw [show (fun l => atL (putAll l)) = ((fun x : Value × Nat × (Int → Int) => x.2.2) ∘ fun z : Addr × ItL => (Value.pointer (some z.1), z.2.length, atL (putAll z.2))) ∘ (fun l => ((⟨0, 0, none⟩ : Addr), l)) from rfl]
  have e : (al.zip ls).map ((fun x : Value × Nat × (Int → Int) => x.2.2) ∘ fun z => (Value.pointer (some z.1), z.2.length, atL (putAll z.2))) = ls.map (fun l => atL (putAll l)) := by
    rw [show ((fun x : Value × Nat × (Int → Int) => x.2.2) ∘ fun z : Addr × ItL => (Value.pointer (some z.1), z.2.length, atL (putAll z.2))) = (fun l => atL (putAll l)) ∘ Prod.snd from rfl, ← List.map_map, List.map_snd_zip (by omega)]
  rw [e] at this
  exact this
theorem side_dparts {R : TlOk Rep} (S : Sep w0 (sideS R b x y A cA B cB al gs ls) w) (ha : al.length = ls.length) (hg : gs.length = ls.length) (hl : ls.length ≤ 5) (hs : ∀ l ∈ ls, l.length ≤ 30) (p q : Int) : Calls Try.prog 11 #[.agg #[.int .i64 p, .int .i64 q], .slice B ls.length cB] w (RetPartsF 53 w (ls.map fun l => atL (putAll l)) p q) := by
  have hr := own_lies (S.row 2 rfl)
  refine (parts_any B ls.length cB gs (ls.map putAll) p q w ⟨hr, by rw [List.length_map]; exact hg, fun i g l h1 h2 => ?_⟩ (by omega)).mono fun e w' h => ?_
  · rw [List.getElem?_map] at h2
    obtain ⟨m, hm, rfl⟩ := Option.map_eq_some_iff.1 h2
    have hai : al[i]? = some (al[i]'(by have := (List.getElem?_eq_some_iff.1 hm).1; omega)) := List.getElem?_eq_getElem _
    have hp := (pairsT_get (R := R) (T := 70) hai h1 hm).2
    obtain ⟨F, ⟨A', n', c', hd, _⟩, _⟩ := S.get (i := 3 + (2 * i + 1)) (by rw [Nat.add_comm]; exact hp)
    exact ⟨A', n', c', hd.r, by have h3 := hd.len; have h4 := putAll_length m; have h5 := hs m (List.mem_of_getElem? hm); omega⟩
  · obtain ⟨qs, ps, A', n', c', he, h1, h2, h3, h4⟩ := h
    refine ⟨qs, ps, A', n', c', he, ?_, h2, h3, h4⟩
    have := partsS_F.1 h1
    rwa [List.map_map] at this
end
end Go.Proofs.Ytonfjjmgjgmanaa

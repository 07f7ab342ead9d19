/- Worlds that differ off some blocks alone: what a call does that changes a structure of its own. No program's function in this text. -/
import Derived.Test.YtolmkagedlcjiaaRow3
import Derived.Test.YtolmkagedlcjiaaMem
namespace Corr
open Go Go.RowKit
/-- But for the blocks of F, what was there is as it was. -/
structure Off (F : Nat → Prop) (w w' : World) : Prop where
  os : w'.os = w.os
  tape : w'.tape = w.tape
  output : w'.output = w.output
  size : w.heap.size ≤ w'.heap.size
  block : ∀ k, k < w.heap.size → ¬ F k → w'.heap[k]? = w.heap[k]?
section
variable {F F' : Nat → Prop} {w w' w'' : World}
theorem Off.refl (F : Nat → Prop) (w : World) : Off F w w := ⟨rfl, rfl, rfl, Nat.le_refl _, fun _ _ _ => rfl⟩
theorem Off.of (h : Below w.heap.size w w') : Off F w w' := ⟨h.os, h.tape, h.output, h.size, fun k hk _ => h.block k hk⟩
theorem Off.mono (h : Off F w w') (hF : ∀ k, k < w.heap.size → F k → F' k) : Off F' w w' := ⟨h.os, h.tape, h.output, h.size, fun k hk hn => h.block k hk fun e => hn (hF k hk e)⟩
theorem Off.trans (h : Off F w w') (h' : Off F w' w'') : Off F w w'' :=
  ⟨h'.os.trans h.os, h'.tape.trans h.tape, h'.output.trans h.output, Nat.le_trans h.size h'.size, fun k hk hn => (h'.block k (Nat.lt_of_lt_of_le hk h.size) hn).trans (h.block k hk hn)⟩
theorem Off.below {B : Nat} (h : Off F w w') (hB : B ≤ w.heap.size) (hF : ∀ k, F k → B ≤ k) : Below B w w' :=
  ⟨h.os, h.tape, h.output, h.size, fun k hk => h.block k (by omega) fun e => by have := hF k e; omega⟩
theorem Off.set {a : Addr} (hF : F a.block) (u : Value) : Off F w (w.setCell a u) :=
  ⟨rfl, rfl, rfl, by simp [World.setCell], fun k hk hn => Below.heap_setCell _ _ _ _ fun e => hn (e ▸ hF)⟩
theorem Off.cell (h : Off F w w') {p : Addr} (hp : p.block < w.heap.size) (hn : ¬ F p.block) : w'.cell? p = w.cell? p := by
  unfold World.cell?; rw [h.block _ hp hn]
theorem Off.blk (h : Off F w w') {k : Nat} {vs : Array Value} (B : Blk w k vs) (hn : ¬ F k) : Blk w' k vs := by
  have hk := B.sz
  obtain ⟨T, hb⟩ := B.blk
  exact ⟨T, (h.block k hk hn).trans hb⟩
/-- The block in which a row lies. -/
def rowIn (A : Option Addr) (n : Nat) (P : Nat → Prop) : Prop := 0 < n → ∀ a, A = some a → P a.block
theorem Off.lies (h : Off F w w') {sz n c : Nat} {A : Option Addr} {xs : List Value} (L : Lies w sz A n c xs) (hn : rowIn A n fun k => ¬ F k) : Lies w' sz A n c xs :=
  ⟨L.len, L.cap, fun h0 => by
    obtain ⟨g, off, hA, hg, hc⟩ := L.at_ h0
    exact ⟨g, off, hA, Nat.lt_of_lt_of_le hg h.size, fun i v hv => (h.cell (p := ⟨g, off + i, none⟩) hg (hn h0 ⟨g, off, none⟩ hA)).trans (hc i v hv)⟩⟩
/-- What is owned stays so where its block is off. -/
theorem Off.own (h : Off F w w') {B e size n : Nat} {v : Value} {xs : List Value} (O : w.ownsRow B e size v n xs) (hn : ∀ k, v.ownBlock = some k → ¬ F k) : w'.ownsRow B e size v n xs := by
  obtain ⟨hl, h' | ⟨g, cap, cur, rfl, hg, hh, hc⟩⟩ := O
  · exact ⟨hl, .inl h'⟩
  · exact ⟨hl, .inr ⟨g, cap, cur, rfl, hg, by rw [h.block g (Array.getElem?_eq_some_iff.1 hh).1 (hn g (by simp [Value.ownBlock]))]; exact hh, hc⟩⟩
theorem own_lt {w : World} {B e size n : Nat} {v : Value} {xs : List Value} (O : w.ownsRow B e size v n xs) {k : Nat} (hk : v.ownBlock = some k) : k < w.heap.size := by
  obtain ⟨_, h' | ⟨g, cap, cur, rfl, hg, hh, hc⟩⟩ := O
  · rw [h'.1] at hk; cases hk
  · have : g = k := by simpa [Value.ownBlock] using hk
    subst this
    exact (Array.getElem?_eq_some_iff.1 hh).1
end
theorem Off.later {F : Nat → Prop} {w w' w'' : World} (h : Off F w w') (hb : Below w'.heap.size w' w'') : Off F w w'' := h.trans (Off.of hb)
theorem Off.drew {F : Nat → Prop} {w w' : World} (h : Off F w w') : Off F w w'.drew := h.later ((Below.refl _ _).drew)
/-- What is new may turn as it likes. -/
theorem Off.less {F G : Nat → Prop} {w w' : World} (h : Off F w w') (hF : ∀ k, F k → G k ∨ w.heap.size ≤ k) : Off G w w' := h.mono fun k hk hf => (hF k hf).resolve_right (by omega)
/-- A store into what may turn, or what is new. -/
theorem Off.put {F : Nat → Prop} {w w' : World} (h : Off F w w') (a : Addr) (ha : F a.block ∨ w.heap.size ≤ a.block) (u : Value) : Off F w (w'.setCell a u) :=
  ⟨h.os, h.tape, h.output, by simpa [World.setCell] using h.size, fun k hk hn => (Below.heap_setCell _ _ _ _ fun e => by
    rcases ha with ha | ha
    · exact hn (e ▸ ha)
    · omega).trans (h.block k hk hn)⟩
end Corr

/- Things that lie apart, some of which were there ahead of a call -/
import Derived.Test.YthagdonmijhpdaaGreatTlKnown
import Derived.Test.YthagdonmijhpdaaGreatTpMap
import Derived.Test.YthagdonmijhpdaaGreatAvKnown
import Derived.Test.YthagdonmijhpdaaGreatSeqOff
import Derived.Test.YthagdonmijhpdaaGreatChecked
import Derived.Test.YthagdonmijhpdaaGreatRelVal
import Derived.Deep.AppendLies
import Derived.Laws.EntriesVeiled
import Derived.Tactics2
import Derived.Defers
import Derived.Recover
import Derived.Laws.Pointers
open Go.Lib (hid)
set_option linter.unusedSimpArgs false
set_option linter.unusedVariables false
set_option maxHeartbeats 4000000
set_option maxRecDepth 8000
namespace Corr
open Go Go.RowKit
def SepF (F0:Nat→Prop)(w0:World)(ts:List Thing)(w:World):Prop:=∃Fs:Nat→Nat→Prop,(∀(i:Nat) (t:Thing),ts[i]? =some t→t.P w (Fs i))∧(∀i j,i<ts.length→j<ts.length→i≠j→∀k,Fs i k→¬Fs j k)∧(∀i,i<ts.length→∀k,Fs i k→F0 k∨w0.heap.size≤k)∧Off F0 w0 w
section
variable {F0:Nat→Prop} {w0 w w':World} {ts:List Thing}
theorem SepF.start {t:Thing}(h:t.P w F0):SepF F0 w [t] w:=
 ⟨fun _=>F0,fun i u hi=>by
  have hil:=ζh hi
  have:i=0:=by simpa using hil
  subst this
  obtain rfl:t=u:=by simpa using hi
  exact h,fun i j hi hj hne=>by simp at hi hj;omega,fun _ _ k hk=> .inl hk,Off.refl _ _⟩
theorem SepF.nil (w:World):SepF (fun _=>False) w [] w:=⟨fun _ _=>False,fun _ _ h=>by simp at h,fun _ _ h=>by simp at h,fun _ h=>by simp at h,Off.refl _ _⟩
theorem SepF.of (hb:Below w0.heap.size w0 w):SepF (fun _=>False) w0 [] w:=⟨fun _ _=>False,fun _ _ h=>by simp at h,fun _ _ h=>by simp at h,fun _ h=>by simp at h,Off.of hb⟩
theorem SepF.off (h:SepF F0 w0 ts w):Off F0 w0 w:=by obtain⟨_,_,_,_,h⟩:=h;exact h
theorem SepF.bl (h:SepF (fun _=>False) w0 ts w):Below w0.heap.size w0 w:=h.off.below (Nat.le_refl _) fun _ e=>e.elim
theorem off_turn {F:Nat→Prop}(h4:Off F0 w0 w)(ho:Off F w w')(hF: ∀k,F k→F0 k∨w0.heap.size≤k):Off F0 w0 w':=
 ⟨ho.os.trans h4.os,ho.tape.trans h4.tape,ho.output.trans h4.output,Nat.le_trans h4.size ho.size,fun k hk hn=>(ho.block k (Nat.lt_of_lt_of_le hk h4.size) fun e=>by
  rcases hF k e with e | e
  ·exact hn e
  ·omega).trans (h4.block k hk hn)⟩
theorem SepF.get (h:SepF F0 w0 ts w) {i:Nat} {t:Thing}(hi:ts[i]? =some t): ∃F,t.P w F∧(∀k,F k→F0 k∨w0.heap.size≤k)∧
  ∀(w':World) (F':Nat→Prop) (t':Thing),Off F w w'→t'.P w' F'→(∀k,F' k→F k∨w.heap.size≤k)→SepF F0 w0 (ts.set i t') w':=by
 obtain⟨Fs,h1,h2,h3,h4⟩:=h
 have hil:=ζh hi
 refine⟨Fs i,h1 i t hi,h3 i hil,fun w' F' t' ho hp hF=> ?_⟩
 refine⟨fun j=>if j=i then F' else Fs j,fun j u hj=> ?_,fun j k hj hk hjk b=> ?_,fun j hj k=> ?_,off_turn h4 ho (h3 i hil)⟩
 ·by_cases e:j=i
  ·subst e
   rw [List.getElem?_set_self hil]at hj
   obtain rfl:=Option.some.inj hj
   simpa using hp
  ·rw [List.getElem?_set_ne (fun e'=>e e'.symm)]at hj
   have:=u.keep (h1 j u hj) ho (h2 j i (ζh hj) hil e)
   simpa [e]using this
 ·rw [List.length_set]at hj hk
  have hd: ∀j,j<ts.length→j≠i→∀b,F' b→¬Fs j b:=by
   intro j hj hji b hb hfj
   rcases hF b hb with h | h
   ·exact h2 i j hil hj (fun e=>hji e.symm) b h hfj
   ·have:=(ts[j]).lt (h1 j _ (List.getElem?_eq_getElem hj)) b hfj
    omega
  by_cases ej:j=i
  ·have ek:k≠i:=fun e=>hjk (ej.trans e.symm)
   simp only [ej,ek,if_true,if_false]
   exact hd k hk ek b
  ·by_cases ek:k=i
   ·simp only [ej,ek,if_true,if_false]
    exact fun h1 h2=>hd j hj ej b h2 h1
   ·simp only [ej,ek,if_false]
    exact h2 j k hj hk hjk b
 ·rw [List.length_set]at hj
  by_cases ej:j=i
  ·simp only [ej,if_true]
   intro h
   rcases hF k h with h | h
   ·exact h3 i hil k h
   ·exact .inr (Nat.le_trans h4.size h)
  ·simp only [ej,if_false]
   exact h3 j hj k
theorem SepF.keep (h:SepF F0 w0 ts w)(hb:Below w.heap.size w w'):SepF F0 w0 ts w':=by
 obtain⟨Fs,h1,h2,h3,h4⟩:=h
 exact⟨Fs,fun i t hi=>t.keep (h1 i t hi) (Off.of (F:=fun _=>False) hb) (fun _ _ e=>e),h2,h3,h4.later hb⟩
theorem SepF.add (h:SepF F0 w0 ts w)(hb:Below w.heap.size w w') {t:Thing} {F:Nat→Prop}(hp:t.P w' F)(hF: ∀k,F k→w.heap.size≤k):SepF F0 w0 (ts++ [t]) w':=by
 obtain⟨Fs0,g1,h2,h3,g4⟩:=h
 have hlt: ∀i,i<ts.length→∀k,Fs0 i k→k<w.heap.size:=fun i hi k hk=>(ts[i]).lt (g1 i _ (List.getElem?_eq_getElem hi)) k hk
 refine⟨fun j=>if j=ts.length then F else Fs0 j,fun j u hj=> ?_,fun j k hj hk hjk b=> ?_,fun j hj k=> ?_,g4.later hb⟩
 ·by_cases e:j=ts.length
  ·subst e
   rw [List.getElem?_append_right (Nat.le_refl _)]at hj
   obtain rfl:t=u:=by simpa using hj
   simpa using hp
  ·have hjl:j<ts.length:=by have:=ζh hj;simp at this;omega
   rw [List.getElem?_append_left hjl]at hj
   have:=u.keep (g1 j u hj) (Off.of (F:=fun _=>False) hb) (fun _ _ e=>e)
   simpa [e]using this
 ·rw [List.length_append,List.length_singleton]at hj hk
  by_cases ej:j=ts.length
  ·have ek:k≠ts.length:=fun e=>hjk (ej.trans e.symm)
   simp only [ej,ek,if_true,if_false]
   intro a c
   have:=hF b a;have:=hlt k (by omega) b c;omega
  ·by_cases ek:k=ts.length
   ·simp only [ej,ek,if_true,if_false]
    intro a c
    have:=hF b c;have:=hlt j (by omega) b a;omega
   ·simp only [ej,ek,if_false]
    exact h2 j k (by omega) (by omega) hjk b
 ·rw [List.length_append,List.length_singleton]at hj
  by_cases ej:j=ts.length
  ·simp only [ej,if_true]
   intro h;exact .inr (Nat.le_trans g4.size (hF k h))
  ·simp only [ej,if_false]
   exact h3 j (by omega) k
theorem SepF.take (h:SepF F0 w0 ts w)(n:Nat):SepF F0 w0 (ts.take n) w:=by
 obtain⟨Fs,h1,h2,h3,h4⟩:=h
 have hl:(ts.take n).length≤ts.length:=by rw [List.length_take];omega
 refine⟨Fs,fun i t hi=>h1 i t ?_,fun i j hi hj=>h2 i j (by omega) (by omega),fun i hi=>h3 i (by omega),h4⟩
 rw [List.getElem?_take]at hi
 split at hi
 ·exact hi
 ·cases hi
theorem SepF.b (h:SepF F0 w0 ts w)(i:Nat) {k:Nat} {vs:Array Value}(hi:ts[i]? =some (blkT k vs)):Blk w k vs:=by
 obtain⟨F,hp,_⟩:=h.get hi;exact hp.1
theorem SepF.push (h:SepF F0 w0 ts w)(vs:Array Value)(U:TypeId):SepF F0 w0 (ts++ [blkT w.heap.size vs]) (w.alloc (.cells vs U)):=
 h.add ((Below.refl _ _).alloc (Nat.le_refl _) _) (t:=blkT w.heap.size vs) (F:=(· =w.heap.size)) ⟨Blk.new w vs U,fun _=>Iff.rfl⟩ (fun k hk=>by omega)
theorem SepF.set (h:SepF F0 w0 ts w)(i:Nat) {k:Nat} {vs:Array Value}(hi:ts[i]? =some (blkT k vs))(j:Nat)(v:Value):SepF F0 w0 (ts.set i (blkT k (vs.setIfInBounds j v))) (w.setCell ⟨k,j,none⟩ v):=by
 obtain⟨F,hp,_,hu⟩:=h.get hi
 exact hu _ F (blkT k (vs.setIfInBounds j v)) (Off.set (a:=⟨k,j,none⟩) ((hp.2 k).2 rfl) v) ⟨hp.1.set j v,hp.2⟩ (fun k hk=> .inl hk)
theorem SepF.row (h:SepF F0 w0 ts w)(i:Nat) {base:Nat} {e:TypeId} {sz:Nat} {A:Option Addr} {n c:Nat} {xs:List Value}(hi:ts[i]? =some (rowT base e sz A n c xs)):w.ownsRow base e sz (.slice A n c) n xs:=by
 obtain⟨F,hp,_⟩:=h.get hi;exact hp.1
theorem SepF.addRow (h:SepF F0 w0 ts w) {base:Nat} {e:TypeId} {sz:Nat} {A:Option Addr} {n c:Nat} {xs:List Value}(o:w'.ownsRow base e sz (.slice A n c) n xs)(hge: ∀k,(Value.slice A n c).ownBlock=some k→w.heap.size≤k)(hb:Below w.heap.size w w'):SepF F0 w0 (ts++ [rowT base e sz A n c xs]) w':=
 h.add hb (t:=rowT base e sz A n c xs) (F:=fun k=>(Value.slice A n c).ownBlock=some k) ⟨o,fun _=>Iff.rfl⟩ hge
theorem SepF.as (h:SepF F0 w0 ts w) {i:Nat} {t:Thing}(hi:ts[i]? =some t)(t':Thing)(ht: ∀F,t.P w F→∃F':Nat→Prop,t'.P w F'∧∀k,F' k→F k):SepF F0 w0 (ts.set i t') w:=by
 obtain⟨F,hp,_,hu⟩:=h.get hi
 obtain⟨F',h1,h2⟩:=ht F hp
 exact hu w F' t' (Off.refl _ _) h1 fun k hk=> .inl (h2 k hk)
theorem SepF.fst {t:Thing}(h:SepF F0 w0 (t :: ts) w): ∃F,t.P w F∧(∀k,F k→F0 k∨w0.heap.size≤k)∧Off F0 w0 w:=by
 obtain⟨F,h1,h2,_⟩:=h.get (i:=0) (t:=t) rfl
 exact⟨F,h1,h2,h.off⟩
end
structure Tp (Rep:RepT)(w:World)(gT gM:Nat)(q:Nat→Value)(Fs:Nat→Nat→Prop)(l:Nat→ItL)(m:Int→Option Int):Prop where
 b:Blk w gT #[q 0,q 1,q 2,q 3,.map (some gM)]
 mp:MapI w gM m
 tr: ∀i,i<4→Rep w (q i) (Fs i) 1000000 (l i)
 ptr: ∀i,i<4→∃a,q i= .pointer (some a)
 ne:gT≠gM
 fT: ∀i,i<4→¬Fs i gT
 fM: ∀i,i<4→¬Fs i gM
 ff: ∀i j,i<4→j<4→i≠j→∀k,Fs i k→¬Fs j k
def TpF (gT gM:Nat)(Fs:Nat→Nat→Prop)(k:Nat):Prop:=k=gT∨k=gM∨∃i,i<4∧Fs i k
def updB (Fs:Nat→Nat→Prop)(i:Nat)(F:Nat→Prop):Nat→Nat→Prop:=fun j=>if j=i then F else Fs j
section
variable {Rep:RepT} {w w':World} {gT gM:Nat} {q:Nat→Value} {Fs:Nat→Nat→Prop} {l:Nat→ItL} {m:Int→Option Int} {G:Nat→Prop}
theorem Tp.lt (R:RepOk Rep)(h:Tp Rep w gT gM q Fs l m): ∀k,TpF gT gM Fs k→k<w.heap.size:=by
 rintro k (rfl | rfl | ⟨i,hi,hk⟩)
 ·exact h.b.sz
 ·exact h.mp.lt
 ·exact R.lt (h.tr i hi) k hk
theorem Tp.off (R:RepOk Rep)(h:Tp Rep w gT gM q Fs l m)(o:Off G w w')(hn: ∀k,TpF gT gM Fs k→¬G k):Tp Rep w' gT gM q Fs l m:=
 ⟨o.blk h.b (hn _ (.inl rfl)),h.mp.off o (hn _ (.inr (.inl rfl))),fun i hi=>R.keep (h.tr i hi) o fun k hk=>hn k (.inr (.inr ⟨i,hi,hk⟩)),h.ptr,h.ne,h.fT,h.fM,h.ff⟩
theorem Tp.keep (R:RepOk Rep)(h:Tp Rep w gT gM q Fs l m)(hb:Below w.heap.size w w'):Tp Rep w' gT gM q Fs l m:=h.off R (Off.of (F:=fun _=>False) hb) fun _ _ e=>e
theorem Tp.tree (R:RepOk Rep)(h:Tp Rep w gT gM q Fs l m) {i:Nat}(hi:i<4) {F':Nat→Prop} {z:ItL}(hr:Rep w' (q i) F' 1000000 z)(o:Off (Fs i) w w')(hF: ∀k,F' k→Fs i k∨w.heap.size≤k):Tp Rep w' gT gM q (updB Fs i F') (updL l i z) m:=by
 have hT:=h.b.sz
 have hM:=h.mp.lt
 refine⟨o.blk h.b (h.fT i hi),h.mp.off o (h.fM i hi),fun j hj=> ?_,h.ptr,h.ne,fun j hj=> ?_,fun j hj=> ?_,fun j k hj hk hne b=> ?_⟩
 ·unfold updB updL
  by_cases e:j=i
  ·subst e;rw [if_pos rfl,if_pos rfl];exact hr
  ·rw [if_neg e,if_neg e];exact R.keep (h.tr j hj) o fun k hk=>h.ff j i hj hi e k hk
 ·unfold updB
  split
  ·intro e
   rcases hF _ e with e | e
   ·exact h.fT i hi e
   ·omega
  ·exact h.fT j hj
 ·unfold updB
  split
  ·intro e
   rcases hF _ e with e | e
   ·exact h.fM i hi e
   ·omega
  ·exact h.fM j hj
 ·have new: ∀k,k<4→k≠i→∀b,F' b→¬Fs k b:=fun k hk hki b hb hfk=>by
   rcases hF b hb with e | e
   ·exact h.ff i k hi hk (fun e=>hki e.symm) b e hfk
   ·have:=R.lt (h.tr k hk) b hfk;omega
  unfold updB
  by_cases ej:j=i
  ·have ek:k≠i:=fun e=>hne (ej.trans e.symm)
   rw [if_pos ej,if_neg ek]
   exact new k hk ek b
  ·by_cases ek:k=i
   ·rw [if_neg ej,if_pos ek]
    exact fun h1 h2=>new j hj ej b h2 h1
   ·rw [if_neg ej,if_neg ek]
    exact h.ff j k hj hk hne b
theorem TpF.upd {i:Nat}(hi:i<4) {F':Nat→Prop} {n:Nat}(hF: ∀k,F' k→Fs i k∨n≤k): ∀k,TpF gT gM (updB Fs i F') k→TpF gT gM Fs k∨n≤k:=by
 rintro k (rfl | rfl | ⟨j,hj,hk⟩)
 ·exact .inl (.inl rfl)
 ·exact .inl (.inr (.inl rfl))
 ·unfold updB at hk
  split at hk
  ·exact(hF k hk).imp_left fun h=> .inr (.inr ⟨i,hi,h⟩)
  ·exact .inl (.inr (.inr ⟨j,hj,hk⟩))
theorem TpF.sub {i:Nat}(hi:i<4) {k:Nat}(h:Fs i k):TpF gT gM Fs k:= .inr (.inr ⟨i,hi,h⟩)
theorem Tp.map_ (R:RepOk Rep)(h:Tp Rep w gT gM q Fs l m) {m':Int→Option Int}(hm:MapI w' gM m')(o:Off (· =gM) w w'):Tp Rep w' gT gM q Fs l m':=
 ⟨o.blk h.b h.ne,hm,fun i hi=>R.keep (h.tr i hi) o fun k hk e=>h.fM i hi (e▸hk),h.ptr,h.ne,h.fT,h.fM,h.ff⟩
theorem Tp.cell {i:Nat}(h:Tp Rep w gT gM q Fs l m)(hi:i<4):w.cell? ⟨gT,i,none⟩=some (q i):=by
 match i,hi with
 | 0,_=>exact h.b.get 0 rfl
 | 1,_=>exact h.b.get 1 rfl
 | 2,_=>exact h.b.get 2 rfl
 | 3,_=>exact h.b.get 3 rfl
theorem Tp.cells {i:Nat}(h:Tp Rep w gT gM q Fs l m)(hi:i<4): ∃a,q i= .pointer (some a)∧w.cell? ⟨gT,i,none⟩=some (.pointer (some a)):=by
 obtain⟨a,ha⟩:=h.ptr i hi
 exact⟨a,ha,by rw [h.cell hi,ha]⟩
theorem Tp.map_cell (h:Tp Rep w gT gM q Fs l m):w.cell? ⟨gT,4,none⟩=some (.map (some gM)):=h.b.get 4 rfl
end
def TpQ (Rep:RepT)(w:World)(p:Value)(F:Nat→Prop)(n:Nat)(Q:It→Prop):Prop:=∃gT gM q Fs l m,p= .pointer (some ⟨gT,0,none⟩)∧Tp Rep w gT gM q Fs l m∧F=TpF gT gM Fs∧TrOk Q l∧MpOk Q m∧∀i,i<4→(l i).length≤n
def RepTp (Rep:RepT):RepL:=fun w p F N f=>TpQ Rep w p F (3*N) (pcI f)∧offF f
end Corr
namespace Go.Proofs.YthagdonmijhpdaaGreat
open Go.RowKit Corr
structure TrK (Rep:RepT):Prop extends AvlK0 Rep where
 delete: ∀(w:World) (p:Value) (F:Nat→Prop) (M:Int) (l:ItL) (x:It),Rep w p F M l→l.length≤1000→Calls Tryz.prog 99 #[p,itV x] w fun e w'=>∃F':Nat→Prop,e= .returned (.int .i64 (delR x l))∧Rep w' p F' M (delL x l)∧Off F w w'∧∀k,F' k→F k∨w.heap.size≤k
 len: ∀(w:World) (p:Value) (F:Nat→Prop) (M:Int) (l:ItL),Rep w p F M l→l.length≤1000→Calls Tryz.prog 131 #[p] w fun e w'=>e= .returned (.int .i64 (l.length:Int))∧Below w.heap.size w w'
 all: ∀(w:World) (p:Value) (F:Nat→Prop) (M:Int) (l:ItL) (a b:Int),Rep w p F M l→l.length≤1000→(∀y∈l,-9223372036854775808≤y.1∧y.1<y.2.1)→Calls Tryz.prog 74 #[p,.agg #[.int .i64 a,.int .i64 b]] w fun e w'=>∃(gf:Nat) (lb:Array Value),
  e= .returned (.func (.func gf) #[] lb)∧Below w.heap.size w w'∧(∀args w,(callFunc gf args).run Tryz.prog w= .ok (.enter gf args) w)∧
  ∀Z:Nat→Prop,(∀k,w'.heap.size≤k→Z k)→(∀k,F k→¬Z k)→(∀k,w.heap.size≤k→k<w'.heap.size→¬Z k)→SeqOff Tryz.prog gf lb (fun x:It=> #[itV x]) Z (fun ys=>ys=l.filter (overB a b)) (fun pre=>pre <+: l.filter (overB a b)) (l.filter (overB a b)).length w'
end Go.Proofs.YthagdonmijhpdaaGreat
namespace Corr
open Go Go.RowKit
def tpT {Rep:RepT}(R:RepOk Rep)(p:Value)(n:Nat)(Q:It→Prop):Thing where
 P w F:=TpQ Rep w p F n Q
 lt:=fun⟨gT,gM,q,Fs,l,m,_,h,hF,_⟩ k hk=>by subst hF;exact h.lt R k hk
 keep:=fun⟨gT,gM,q,Fs,l,m,hp,h,hF,h1,h2,h3⟩ ho hn=>⟨gT,gM,q,Fs,l,m,hp,h.off R ho (by subst hF;exact hn),hF,h1,h2,h3⟩
def layT (T:TypeId)(gB gL:Nat)(L:ItL):Thing where
 P w F:=Blk w gB #[.pointer (some ⟨gL,0,none⟩)]∧gB≠gL∧∃A n c,Blk w gL #[.slice A n c]∧w.ownsRow 0 T 3 (.slice A n c) n (ζ5 L)∧¬rowK A n c gB∧¬rowK A n c gL∧∀k,F k↔k=gB∨k=gL∨rowK A n c k
 lt:=fun⟨h1,_,A,n,c,h2,h3,_,_,hF⟩ k hk=>by
  rcases(hF k).1 hk with rfl | rfl | h
  ·exact h1.sz
  ·exact h2.sz
  ·exact ζk h3 h
 keep:=fun⟨h1,hne,A,n,c,h2,h3,h4,h5,hF⟩ ho hn=>⟨ho.blk h1 (hn _ ((hF _).2 (.inl rfl))),hne,A,n,c,ho.blk h2 (hn _ ((hF _).2 (.inr (.inl rfl)))),ho.own h3 fun k hk=>hn k ((hF k).2 (.inr (.inr hk))),h4,h5,hF⟩
def AppD (T:TypeId)(A:Option Addr)(n c B:Nat)(xs ys:List Value)(sz:Nat)(wr:World)(bB bA:Bool)(vB vA:Value)(wx:World):Prop:=
 Off (fun k=>rowK A n c k) wr wx∧(bA=false→wx.ownsRow B T sz (.slice A n c) n xs)∧
 (bB=true→∃kb,vB= .slice (some ⟨kb,0,none⟩) 1 1∧Blk wx kb ys.toArray∧wr.heap.size≤kb)∧
 (bA=true→∃A' c',vA= .slice A' (n+1) c'∧wx.ownsRow B T sz (.slice A' (n+1) c') (n+1) (xs++ys)∧∀k,rowK A' (n+1) c' k→rowK A n c k∨wr.heap.size≤k)
section
variable {T:TypeId} {A:Option Addr} {n c B sz:Nat} {xs ys:List Value} {wr wx:World} {bB bA:Bool} {vB vA:Value}
theorem AppD.start (h:wr.ownsRow B T sz (.slice A n c) n xs):AppD T A n c B xs ys sz wr false false undef undef wr.drew:=
 ⟨(Off.refl _ wr).drew,fun _=>h.drew,fun h=>(by cases h),fun h=>(by cases h)⟩
theorem AppD.build (h:AppD T A n c B xs ys sz wr bB bA vB vA wx)(U:TypeId):AppD T A n c B xs ys sz wr true bA (.slice (some ⟨wx.heap.size,0,none⟩) 1 1) vA (wx.alloc (.cells ys.toArray U)):=
 ⟨h.1.later ((Below.refl _ wx).alloc (Nat.le_refl _) _),fun e=>(h.2.1 e).alloc _,fun _=>⟨_,rfl,Blk.new wx _ _,h.1.size⟩,fun e=>by
  obtain⟨A',c',g1,g2,g3⟩:=h.2.2.2 e;exact⟨A',c',g1,g2.alloc _,g3⟩⟩
theorem AppD.run {P:Program} {t ty:TypeId} {z:Value} {bytes kb:Nat}(E:Elem P t T z sz bytes)(h:AppD T A n c B xs ys sz wr true false (.slice (some ⟨kb,0,none⟩) 1 1) vA wx)(hlt: ∀k,rowK A n c k→k<wr.heap.size)
  (hl:ys.length=sz) (h1: ∀u∈ys,u.oneCell'=true) (hn:(n+1)*bytes≤140737488355328) (hm:n+1≤maxLen) (hb:B≤wr.heap.size):
  ∃A' c' w',(Builtin.append_ #[t,t] ty #[.slice A n c,.slice (some ⟨kb,0,none⟩) 1 1]).run P wx= .ok (.slice A' (n+1) c') w'∧AppD T A n c B xs ys sz wr true true (.slice (some ⟨kb,0,none⟩) 1 1) (.slice A' (n+1) c') w':=by
 obtain⟨kb',hk1,hk2,hk3⟩:=h.2.2.1 rfl
 obtain rfl:kb=kb':=by
  injection hk1 with hk1 _ _
  injection hk1 with hk1
  injection hk1
 obtain⟨TB,hTB⟩:=hk2.blk
 have hwz:=h.1.size
 obtain⟨v9,w9,hr9,ho9,hg9,ha9⟩:=run_app2 (P:=P) (ty:=ty) (t:=t) (c:=1) (m:=1) (ad:=⟨kb,0,none⟩) E (h.2.1 rfl) (ys:=ys) (by rw [hl,Nat.one_mul]) (ζ3n (ys:=ys) hTB) h1 hn hm (by omega)
 obtain⟨A9,c9,rfl,_⟩:=Lies.of_own ho9 (by have:=ho9.1;exact this)
 refine⟨A9,c9,w9,hr9,h.1.trans (Off.grown (v:= .slice A n c) hg9),fun h=>(by cases h),fun _=>⟨kb,rfl,(Off.grown (v:= .slice A n c) hg9).blk hk2 (fun e=>by have:=hlt kb e;omega),hk3⟩,fun _=>⟨A9,c9,rfl,ho9,fun q hq=>(ha9 q hq).imp_right (fun h=>Nat.le_trans hwz h)⟩⟩
theorem AppD.done {A':Option Addr} {c':Nat}(h:AppD T A n c B xs ys sz wr bB true vB (.slice A' (n+1) c') wx):Off (fun k=>rowK A n c k) wr wx∧wx.ownsRow B T sz (.slice A' (n+1) c') (n+1) (xs++ys)∧∀k,rowK A' (n+1) c' k→rowK A n c k∨wr.heap.size≤k:=by
 obtain⟨A9,c9,g1,g2,g3⟩:=h.2.2.2 rfl
 injection g1 with g1 _ g4
 subst g1 g4
 exact⟨h.1,g2,g3⟩
end
section
variable {T:TypeId} {gB gL n c:Nat} {A A':Option Addr} {L:ItL} {w w1 wz:World} {F:Nat→Prop}
theorem lay_same (H:(layT T gB gL L).P w F)(hb:Below w.heap.size w w1):(layT T gB gL L).P w1 F∧Off F w w1∧∀k,F k→F k∨w.heap.size≤k:=
 ⟨(layT T gB gL L).keep H (Off.of (F:=fun _=>False) hb) (fun _ _ e=>e),Off.of hb,fun _ h=> .inl h⟩
theorem lay_done {x:It} {c':Nat} {vB:Value} {bB:Bool}(hB:Blk w gB #[.pointer (some ⟨gL,0,none⟩)])(hne:gB≠gL)(hX:Blk w gL #[.slice A n c])(h4: ¬rowK A n c gB)(h5: ¬rowK A n c gL)(hF: ∀k,F k↔k=gB∨k=gL∨rowK A n c k)
  (hb:Below w.heap.size w w1) (hD:AppD T A n c 0 (ζ5 L) (ζ5 [x]) 3 w1 bB true vB (.slice A' (n+1) c') wz): ∃F',(layT T gB gL (L++ [x])).P (wz.setCell ⟨gL,0,none⟩ (.slice A' (n+1) c')) F'∧Off F w (wz.setCell ⟨gL,0,none⟩ (.slice A' (n+1) c'))∧∀k,F' k→F k∨w.heap.size≤k:=by
 obtain⟨ho,g2,g3⟩:=hD.done
 have hB1:=hB.keep hb
 have hX1:=hX.keep hb
 have hs:=hb.size
 have n4: ¬rowK A' (n+1) c' gB:=fun e=>by
  rcases g3 _ e with e | e
  ·exact h4 e
  ·have:=hB1.sz;have:=hB.sz;omega
 have n5: ¬rowK A' (n+1) c' gL:=fun e=>by
  rcases g3 _ e with e | e
  ·exact h5 e
  ·have:=hX1.sz;have:=hX.sz;omega
 have hoff:Off (· =gL) wz (wz.setCell ⟨gL,0,none⟩ (.slice A' (n+1) c')):=Off.set (F:=(· =gL)) (a:=⟨gL,0,none⟩) rfl _
 refine⟨fun k=>k=gB∨k=gL∨rowK A' (n+1) c' k,⟨hoff.blk (ho.blk hB1 h4) hne,hne,A',n+1,c',?_,?_,n4,n5,fun _=>Iff.rfl⟩,?_,?_⟩
 ·have:=(ho.blk hX1 h5).set 0 (.slice A' (n+1) c')
  simpa using this
 ·rw [ζp]
  exact hoff.own g2 fun k hk e=>by subst e;exact n5 hk
 ·refine(Off.of (F:=F) hb).trans ((ho.mono fun k _ hk=>(hF k).2 (.inr (.inr hk))).trans (hoff.mono fun k _ hk=>(hF k).2 (.inr (.inl hk))))
 ·rintro k (hk | hk | hk)
  ·exact .inl ((hF k).2 (.inl hk))
  ·exact .inl ((hF k).2 (.inr (.inl hk)))
  ·rcases g3 k hk with h | h
   ·exact .inl ((hF k).2 (.inr (.inr h)))
   ·exact .inr (by omega)
theorem lay_ext {g j:Nat} {z1 z2 z3 b:Int} {c:Nat}(hB:Blk w gB #[.pointer (some ⟨gL,0,none⟩)])(hne:gB≠gL)(hX:Blk w gL #[.slice (some ⟨g,0,none⟩) (j+1) c])(hown:w.ownsRow 0 T 3 (.slice (some ⟨g,0,none⟩) (j+1) c) (j+1) (ζ5 L))(h4: ¬rowK (some ⟨g,0,none⟩) (j+1) c gB)(h5: ¬rowK (some ⟨g,0,none⟩) (j+1) c gL)
  (hF: ∀k,F k↔k=gB∨k=gL∨rowK (some ⟨g,0,none⟩) (j+1) c k) (hb:Below w.heap.size w w1) (hlen:L.length=j+1) (hz:L[j]? =some (z1,z2,z3)):
  ∃F',(layT T gB gL (L.dropLast++ [(z1,b,z3)])).P (w1.setCell ⟨g,j*3+1,none⟩ (.int .i64 b)) F'∧Off F w (w1.setCell ⟨g,j*3+1,none⟩ (.int .i64 b))∧∀k,F' k→F k∨w.heap.size≤k:=by
 have hk:rowK (some ⟨g,0,none⟩) (j+1) c g:=by simp [rowK,Value.ownBlock]
 have hoff:Off (fun k=>rowK (some ⟨g,0,none⟩) (j+1) c k) w1 (w1.setCell ⟨g,j*3+1,none⟩ (.int .i64 b)):=Off.set (a:=⟨g,j*3+1,none⟩) hk _
 have hst:=(ζg hown hb).stored (j*3+1) (.int .i64 b)
 refine⟨F,⟨hoff.blk (hB.keep hb) h4,hne,_,j+1,c,hoff.blk (hX.keep hb) h5,?_,h4,h5,hF⟩,(Off.of (F:=F) hb).trans (hoff.mono fun k _ hk=>(hF k).2 (.inr (.inr hk))),fun k hk=> .inl hk⟩
 rw [show L.dropLast=L.take j by rw [List.dropLast_eq_take,hlen,Nat.add_sub_cancel],←cells3_set hlen hz]
 exact hst.1
end
theorem layL_nil {a b v:Int}(h:a<b):layL [] a b v= [(a,b,v)]:=by unfold layL;rw [if_neg (by omega)];rfl
theorem layL_new {L:ItL} {a b v:Int} {y:It}(h:a<b)(hy:L.getLast? =some y)(hv: ¬y.2.2=v):layL L a b v=L++ [(a,b,v)]:=by
 unfold layL;rw [if_neg (by omega),hy];dsimp only;rw [if_neg hv]
theorem layL_ext {L:ItL} {a b v:Int} {y:It}(h:a<b)(hy:L.getLast? =some y)(hv:y.2.2=v):layL L a b v=L.dropLast++ [(y.1,b,y.2.2)]:=by
 unfold layL;rw [if_neg (by omega),hy];dsimp only;rw [if_pos hv,hv]
end Corr
namespace Go.Proofs.YthagdonmijhpdaaGreat
open Go.RowKit Corr
set_option maxRecDepth 100000 in
theorem map_some_ne (gM:Nat)(w:World):(binOp BinOp.neq 116 (.map (some gM)) (.map none)).run Tryz.prog w= .ok (.bool true) w:=by
 first
 | rfl
 | kernel_rfl
theorem ζ28 (g gM:Nat)(w:World)(h:w.cell? ⟨g,4,none⟩=some (.map (some gM))):Calls Tryz.prog 43 #[.pointer (some ⟨g,0,none⟩)] w fun e w'=>e= .returned (.bool true)∧w'=w:=by
 have hq:=map_some_ne gM w
 go_enter Tryz.func43,Tryz.ntmps43
 go_wp2_with fail
 go_ret
 exact⟨rfl,rfl⟩
theorem ζ1u (a b:Int)(w:World):Calls Tryz.prog 44 #[.agg #[.int .i64 a,.int .i64 b]] w fun e w'=>e= .returned (.bool (mayB a b))∧Below w.heap.size w w':=by
 have HB:=hid ((Below.refl w.heap.size w).alloc (Nat.le_refl _) (.cells #[.int .i64 a,.int .i64 b] 24))
 by_cases p0:1≤a
 ·have d0:decide (1≤a)=true:=decide_eq_true p0
  by_cases p1:a<b
  ·have HF:=hid (show decide (b≤3652060)=mayB a b by unfold mayB;rw [decide_eq_true p0,decide_eq_true p1];rfl)
   clear p0
   go_enter Tryz.func44,Tryz.ntmps44
   go_wp2_with fail
   go_ret
   exact⟨ret_b HF.out,HB.out⟩
  ·have HF:=hid (show false=mayB a b by unfold mayB;rw [decide_eq_false p1];simp)
   have d1:decide (a<b)=false:=decide_eq_false p1
   clear p0 p1
   go_enter Tryz.func44,Tryz.ntmps44
   go_wp2_with fail
   go_ret
   exact⟨ret_b HF.out,HB.out⟩
 ·have HF:=hid (show false=mayB a b by unfold mayB;rw [decide_eq_false p0];rfl)
  have d0:decide (1≤a)=false:=decide_eq_false p0
  clear p0
  go_enter Tryz.func44,Tryz.ntmps44
  go_wp2_with fail
  go_ret
  exact⟨ret_b HF.out,HB.out⟩
theorem catch_idle (p:Addr)(w:World):CallsD Tryz.prog 86 #[.pointer (some p)] .returning w fun e u' w'=>e= .returned (.tuple #[])∧u'= .returning∧w'=w:=by
 refine callsD_of_wpS Tryz.func86 rfl fun c₀ cs hu=> ?_
 apply wpS_seq
 apply wpS_region
 simp [wpOpsS,go_sem,recoverD,hu,Tryz.ntmps86,Exit.thenS]
 refine wpS_cond (t:=false) (by simp [Act.eval,Array.replicate]) ?_
 simp only [Bool.false_eq_true,if_false]
 refine wpS_of_wp (wp_skip ?_)
 cases c₀
 simp_all [bodyPostS,results,Tryz.results86]
theorem ζ42 (a b:Int)(w:World):Calls Tryz.prog 58 #[.int .i64 a,.int .i64 b] w fun e w'=>e= .returned (.bool (a == b))∧Below w.heap.size w w':=by
 have hmf: ∀(fn:Fn) (first cap:Array Value) (w:World),(Instr.makeFunc fn first cap).run Tryz.prog w= .ok (.func fn first cap) w:=fun _ _ _ _=>rfl
 have HB:=hid (((Below.refl w.heap.size w).alloc (Nat.le_refl _) (.cells #[.bool (a == b)] 4)))
 go_enter_defers Tryz.func58,Tryz.ntmps58
 go_wp2
 refine leaves_cons (f:=86) (args:= #[.pointer (some ⟨w.heap.size,0,none⟩)]) (by simp) (by simp [go_sem]) ?_
 refine(catch_idle ⟨w.heap.size,0,none⟩ _).mono ?_
 rintro e u' w'' ⟨rfl,rfl,rfl⟩
 simp [Leaves,settle,results,Tryz.results58,go_sem]
 exact HB.out
theorem elem_sgi:Elem Tryz.prog 38 89 (.agg #[.int .i64 0,.int .i64 0,.int .i64 0]) 3 24:=by
 obtain⟨i,h0,h1,h2,h3⟩:=info_parts (show (Tryz.prog.info? 89).map (fun i=>(i.zero,i.size,i.bytes))=some (some (.agg #[.int .i64 0,.int .i64 0,.int .i64 0]),3,24) by kernel_rfl)
 exact⟨Tryz.underlying38,⟨i,h0,h1,h2,h3⟩,rfl,by decide⟩
theorem layto_any (a:Addr)(w:World):Calls Tryz.prog 45 #[.pointer (some a)] w fun e w'=>e= .returned (.func (.func 76) #[] #[.pointer (some ⟨w.heap.size,0,none⟩)])∧w'=w.alloc (.cells #[.pointer (some a)] 97):=by
 have hmf: ∀(fn:Fn) (first cap:Array Value) (w:World),(Instr.makeFunc fn first cap).run Tryz.prog w= .ok (.func fn first cap) w:=fun _ _ _ _=>rfl
 go_enter Tryz.func45,Tryz.ntmps45
 go_wp2_with fail
 go_ret
 exact⟨rfl,rfl⟩
def LayP (gB gL:Nat)(L:ItL)(w:World)(F:Nat→Prop)(e:Ending)(w':World):Prop:=∃F':Nat→Prop,e= .returned (.tuple #[])∧(layT 89 gB gL L).P w' F'∧Off F w w'∧∀k,F' k→F k∨w.heap.size≤k
theorem lay_any (gB gL:Nat)(L:ItL)(a b v:Int)(w:World)(F:Nat→Prop)(H:(layT 89 gB gL L).P w F)(hL:L.length≤100000):Calls Tryz.prog 76 #[.int .i64 a,.int .i64 b,.int .i64 v,.pointer (some ⟨gB,0,none⟩)] w (LayP gB gL (layL L a b v) w F):=by
 have HH:=hid H
 obtain⟨hB,hne,A,n,c,hX,hown,h4,h5,hF⟩:=H
 have HB:=hid hB;have HNE:=hid hne;have HX:=hid hX;have HO:=hid hown;have H4:=hid h4;have H5:=hid h5;have HF:=hid hF
 have HLT:=hid (fun k (hk:rowK A n c k)=>ζk hown hk)
 have HLN:=hid (show L.length=n by have:=hown.1;rw [ζq]at this;omega)
 have b0:=hB.get 0 rfl
 have x0:=hX.get 0 rfl
 have hn:n≤100000:=by have:=HLN.out;omega
 clear hB hne hX hown h4 h5 hF hL
 by_cases hab:b≤a
 ·have HQ:=hid (show layL L a b v=L from ζ4y hab)
  have d0:decide (a≥b)=true:=decide_eq_true hab
  clear hab
  go_enter Tryz.func76,Tryz.ntmps76
  go_wp2_with fail
  refine bodyPost_ret (results_none rfl _ _ _) rfl ?_
  have h:=lay_same HH.out (Below.refl _ w)
  rw [HQ.out]
  exact⟨F,rfl,h⟩
 ·have hlt:a<b:=by omega
  have d0:decide (a≥b)=false:=decide_eq_false hab
  rcases Nat.eq_zero_or_pos n with hn0 | hn0
  ·subst hn0
   have HE:=hid (show L= []from List.length_eq_zero_iff.1 HLN.out)
   have HQ:=hid (show layL L a b v=L++ [(a,b,v)] by rw [HE.out];exact layL_nil hlt)
   clear hlt hab
   go_enter Tryz.func76,Tryz.ntmps76
   go_upto_region 1 with fail
   refine ζ3 11 (fun S val wx=>VVs 11 [(· = .pointer (some ⟨gL,0,none⟩)),(· = .pointer (some ⟨gL,0,none⟩)),(· = .pointer (some ⟨gL,0,none⟩)),(· = .slice A 0 c),(· = .int .i64 a),(· = .int .i64 b),(· = .int .i64 v),(· = .agg #[.int .i64 a,.int .i64 b,.int .i64 v]),(fun vv=>∃kb,vv= .slice (some ⟨kb,0,none⟩) 1 1),(fun vv=>∃Av cv,vv= .slice Av (0+1) cv),(· = .pointer (some ⟨gL,0,none⟩))] S val∧Clo [[],[],[1],[2],[],[],[],[4,5,6],[7],[3,8],[0]] S∧AppD 89 A 0 c 0 (ζ5 L) (ζ5 [(a,b,v)]) 3 w (S 8) (S 9) (val 8) (val 9) wx) [2,4,5,6,7,10] (by kernel_rfl) (by kernel_rfl) ⟨VVs.start,Clo.start,AppD.start (HO.out)⟩ ⟨?_,?_,?_,?_,?_,?_,?_,?_,?_,?_,?_,trivial⟩ ?_
   ·exact qL [3] fun hw=>(hw.1.blk (HB.out) H4.out).get 0 rfl
   ·exact qL [3] fun hw=>(hw.1.blk (HB.out) H4.out).get 0 rfl
   ·exact qU []
   ·exact qL [] fun hw=>(hw.1.blk (HX.out) H5.out).get 0 rfl
   ·exact qU [0]
   ·exact qU [1]
   ·exact qU [2]
   ·exact qU []
   ·rintro ev wv S val hE ⟨hV,hK,hw⟩ hS hd
    have v20:ev (.tmp 20)= .agg #[.int .i64 a,.int .i64 b,.int .i64 v]:=vd (hd 7 (by decide)) (hV 7 (by decide))
    refine ifw rfl (ifn rfl ?_)
    refine ζn (u:= .slice (some ⟨wv.heap.size,0,none⟩) 1 1) (w':=wv.alloc (.cells (ζ5 [(a,b,v)]).toArray 89)) ?_ ⟨VVs.add hV ⟨_,rfl⟩,ζi hK rfl hd,(show AppD _ _ _ _ _ _ _ _ _ (addS S 8 8) (addS S 8 9) (addV val 8 _ 8) (addV val 8 _ 9) _ from by simpa [addS,addV]using hw.build 89)⟩
    have e1:=hE.const;clear hE hd hw hS hV hK
    go_simp;rfl
   ·rintro ev wv S val hE ⟨hV,hK,hw⟩ hS hd
    have v16:ev (.tmp 16)= .slice A 0 c:=vd (hd 3 (by decide)) (hV 3 (by decide))
    obtain⟨kb8,g8⟩:=hV 8 (by decide) (hd 8 (by decide)).1
    have v21:ev (.tmp 21)= .slice (some ⟨kb8,0,none⟩) 1 1:=(hd 8 (by decide)).2.trans g8
    have hwA:=hw
    rw [(hd 8 (by decide)).1,hS,g8]at hwA
    obtain⟨A9,c9,w9,hr9,hD9⟩:=AppD.run (P:=Tryz.prog) (t:=38) (ty:=38) elem_sgi hwA HLT.out (by rfl) (ζo _) (by omega) (by unfold maxLen;omega) (Nat.zero_le _)
    refine ifw rfl (ifn rfl ?_)
    refine ζn (u:= .slice A9 (0+1) c9) (w':=w9) ?_ ⟨VVs.add hV ⟨A9,c9,rfl⟩,ζi hK rfl hd,(by simpa [addS,addV,(hd 8 (by decide)).1,g8]using hD9)⟩
    have e1:=hE.const;clear hE hd hw hS hV hK
    unfold execOp
    simp only [resolve,invoke,builtin,Sem.run_bind,Sem.run_pure,Result.andThen_ok,List.map_toArray,List.map_cons,List.map_nil,v16,v21,hr9]
   ·exact qU []
   ·rintro S val wz hS ⟨hV,hK,hw⟩
    have e1:val 1= .pointer (some ⟨gL,0,none⟩):=hV 1 (by decide) (hS 1 (by decide))
    have e2:val 2= .pointer (some ⟨gL,0,none⟩):=hV 2 (by decide) (hS 2 (by decide))
    have e3:val 3= .slice A 0 c:=hV 3 (by decide) (hS 3 (by decide))
    obtain⟨kb8,e8⟩:=hV 8 (by decide) (hS 8 (by decide))
    obtain⟨Av9,cv9,e9⟩:=hV 9 (by decide) (hS 9 (by decide))
    refine finL hV hS ?_
    rintro _ ⟨-,rfl⟩-v1 ⟨h1,-⟩-v2 ⟨h2,-⟩-v3 ⟨h3,-⟩-
    iterate 4 rintro _ ⟨-,rfl⟩-
    rintro v8 ⟨h8,-⟩-v9 ⟨h9,-⟩-_ ⟨-,rfl⟩-
    simp only [zA]
    simp only [h1.trans e1,h2.trans e2,h3.trans e3,h8.trans e8,h9.trans e9]
    clear hV h1 e1 v1 h2 e2 v2 h3 e3 v3 h8 v8 h9 v9
    change wpList Tryz.prog _ _ _ _ wz
    rw [hS 8 (by decide),hS 9 (by decide),e8,e9]at hw
    have HD:=hid hw
    have hxz:=(hw.1.blk (HX.out) H5.out)
    have y0:=hxz.get 0 rfl
    have z0:=hxz.f 0
    clear hw hxz hS hK e8 e9 val S
    go_wp2_with fail
    refine ζ2 ?_
    go_wp2_with fail
    refine bodyPost_ret (results_none rfl _ _ _) rfl ?_
    rw [HQ.out]
    obtain⟨F',h1,h2,h3⟩:=lay_done HB.out HNE.out HX.out H4.out H5.out HF.out (Below.refl _ w) HD.out
    exact⟨F',rfl,h1,h2,h3⟩
  ·obtain⟨j,rfl⟩: ∃j,n=j+1:=⟨n-1,by omega⟩
   rcases Joins.ownsRow_forms HO.out with⟨_,h0⟩ | ⟨g3,d3,hv3⟩
   ·cases h0
   ·injection hv3 with e1 _ e3
    subst e1 e3
    obtain⟨s,hs0,hs1,hs2⟩:=lastI HLN.out
    obtain⟨z1,z2,z3⟩:=s
    have k0:w.cell? ⟨g3,j*3+2,none⟩=some (.int .i64 z3):=by rw [HO.out.cellAt _ (by omega)];exact(ζ22 hs0).2.2
    have HZ:=hid hs0
    by_cases p1:z3=v
    ·have HQ:=hid (layL_ext hlt hs1 p1)
     have d1:(z3 == v)=true:=by simpa using p1
     clear hs0 hs1 hs2 p1 hlt hab
     go_enter Tryz.func76,Tryz.ntmps76
     go_wp2_with fail
     refine(ζ42 z3 v w).mono ?_
     rintro e w1 ⟨rfl,hb1⟩
     rw [d1]
     have HB1:=hid hb1
     have b1:=(HB.out.keep hb1).get 0 rfl
     have x1:=(HX.out.keep hb1).get 0 rfl
     have k1:w1.cell? ⟨g3,j*3+1,none⟩=some (.int .i64 z2):=by rw [(ζg HO.out hb1).cellAt _ (by omega)];exact(ζ22 HZ.out).2.1
     have f1:w1.frozen? ⟨g3,j*3+1,none⟩=false:=(ζg HO.out hb1).frozenAt _
     clear hb1 b0 x0 k0
     go_wp2_with fail
     refine bodyPost_ret (results_none rfl _ _ _) rfl ?_
     have h:=lay_ext (b:=b) HB.out HNE.out HX.out HO.out H4.out H5.out HF.out HB1.out HLN.out HZ.out
     rw [HQ.out]
     obtain⟨F',h1,h2,h3⟩:=h
     exact⟨F',rfl,h1,h2,h3⟩
    ·have HQ:=hid (layL_new hlt hs1 p1)
     have d1:(z3 == v)=false:=by simpa using p1
     clear hs0 hs1 hs2 p1 hlt hab
     go_enter Tryz.func76,Tryz.ntmps76
     go_wp2_with fail
     refine(ζ42 z3 v w).mono ?_
     rintro e w1 ⟨rfl,hb1⟩
     rw [d1]
     have HB1:=hid hb1
     clear hb1 b0 x0 k0
     go_upto_region 1 with fail
     refine ζ3 11 (fun S val wx=>VVs 11 [(· = .pointer (some ⟨gL,0,none⟩)),(· = .pointer (some ⟨gL,0,none⟩)),(· = .pointer (some ⟨gL,0,none⟩)),(· = .slice (some ⟨g3,0,none⟩) (j+1) c),(· = .int .i64 a),(· = .int .i64 b),(· = .int .i64 v),(· = .agg #[.int .i64 a,.int .i64 b,.int .i64 v]),(fun vv=>∃kb,vv= .slice (some ⟨kb,0,none⟩) 1 1),(fun vv=>∃Av cv,vv= .slice Av ((j+1)+1) cv),(· = .pointer (some ⟨gL,0,none⟩))] S val∧Clo [[],[],[1],[2],[],[],[],[4,5,6],[7],[3,8],[0]] S∧AppD 89 (some ⟨g3,0,none⟩) (j+1) c 0 (ζ5 L) (ζ5 [(a,b,v)]) 3 w1 (S 8) (S 9) (val 8) (val 9) wx) [2,4,5,6,7,10] (by kernel_rfl) (by kernel_rfl) ⟨VVs.start,Clo.start,AppD.start (ζg HO.out HB1.out)⟩ ⟨?_,?_,?_,?_,?_,?_,?_,?_,?_,?_,?_,trivial⟩ ?_
     ·exact qL [3] fun hw=>(hw.1.blk (HB.out.keep HB1.out) H4.out).get 0 rfl
     ·exact qL [3] fun hw=>(hw.1.blk (HB.out.keep HB1.out) H4.out).get 0 rfl
     ·exact qU []
     ·exact qL [] fun hw=>(hw.1.blk (HX.out.keep HB1.out) H5.out).get 0 rfl
     ·exact qU [0]
     ·exact qU [1]
     ·exact qU [2]
     ·exact qU []
     ·rintro ev wv S val hE ⟨hV,hK,hw⟩ hS hd
      have v20:ev (.tmp 20)= .agg #[.int .i64 a,.int .i64 b,.int .i64 v]:=vd (hd 7 (by decide)) (hV 7 (by decide))
      refine ifw rfl (ifn rfl ?_)
      refine ζn (u:= .slice (some ⟨wv.heap.size,0,none⟩) 1 1) (w':=wv.alloc (.cells (ζ5 [(a,b,v)]).toArray 89)) ?_ ⟨VVs.add hV ⟨_,rfl⟩,ζi hK rfl hd,(show AppD _ _ _ _ _ _ _ _ _ (addS S 8 8) (addS S 8 9) (addV val 8 _ 8) (addV val 8 _ 9) _ from by simpa [addS,addV]using hw.build 89)⟩
      have e1:=hE.const;clear hE hd hw hS hV hK
      go_simp;rfl
     ·rintro ev wv S val hE ⟨hV,hK,hw⟩ hS hd
      have v16:ev (.tmp 16)= .slice (some ⟨g3,0,none⟩) (j+1) c:=vd (hd 3 (by decide)) (hV 3 (by decide))
      obtain⟨kb8,g8⟩:=hV 8 (by decide) (hd 8 (by decide)).1
      have v21:ev (.tmp 21)= .slice (some ⟨kb8,0,none⟩) 1 1:=(hd 8 (by decide)).2.trans g8
      have hwA:=hw
      rw [(hd 8 (by decide)).1,hS,g8]at hwA
      obtain⟨A9,c9,w9,hr9,hD9⟩:=AppD.run (P:=Tryz.prog) (t:=38) (ty:=38) elem_sgi hwA (fun k hk=>Nat.lt_of_lt_of_le (HLT.out k hk) HB1.out.size) (by rfl) (ζo _) (by omega) (by unfold maxLen;omega) (Nat.zero_le _)
      refine ifw rfl (ifn rfl ?_)
      refine ζn (u:= .slice A9 ((j+1)+1) c9) (w':=w9) ?_ ⟨VVs.add hV ⟨A9,c9,rfl⟩,ζi hK rfl hd,(by simpa [addS,addV,(hd 8 (by decide)).1,g8]using hD9)⟩
      have e1:=hE.const;clear hE hd hw hS hV hK
      unfold execOp
      simp only [resolve,invoke,builtin,Sem.run_bind,Sem.run_pure,Result.andThen_ok,List.map_toArray,List.map_cons,List.map_nil,v16,v21,hr9]
     ·exact qU []
     ·rintro S val wz hS ⟨hV,hK,hw⟩
      have e1:val 1= .pointer (some ⟨gL,0,none⟩):=hV 1 (by decide) (hS 1 (by decide))
      have e2:val 2= .pointer (some ⟨gL,0,none⟩):=hV 2 (by decide) (hS 2 (by decide))
      have e3:val 3= .slice (some ⟨g3,0,none⟩) (j+1) c:=hV 3 (by decide) (hS 3 (by decide))
      obtain⟨kb8,e8⟩:=hV 8 (by decide) (hS 8 (by decide))
      obtain⟨Av9,cv9,e9⟩:=hV 9 (by decide) (hS 9 (by decide))
      refine finL hV hS ?_
      rintro _ ⟨-,rfl⟩-v1 ⟨h1,-⟩-v2 ⟨h2,-⟩-v3 ⟨h3,-⟩-
      iterate 4 rintro _ ⟨-,rfl⟩-
      rintro v8 ⟨h8,-⟩-v9 ⟨h9,-⟩-_ ⟨-,rfl⟩-
      simp only [zA]
      simp only [h1.trans e1,h2.trans e2,h3.trans e3,h8.trans e8,h9.trans e9]
      clear hV h1 e1 v1 h2 e2 v2 h3 e3 v3 h8 v8 h9 v9
      change wpList Tryz.prog _ _ _ _ wz
      rw [hS 8 (by decide),hS 9 (by decide),e8,e9]at hw
      have HD:=hid hw
      have hxz:=(hw.1.blk (HX.out.keep HB1.out) H5.out)
      have y0:=hxz.get 0 rfl
      have z0:=hxz.f 0
      clear hw hxz hS hK e8 e9 val S
      go_wp2_with fail
      refine ζ2 ?_
      go_wp2_with fail
      refine bodyPost_ret (results_none rfl _ _ _) rfl ?_
      rw [HQ.out]
      obtain⟨F',h1,h2,h3⟩:=lay_done HB.out HNE.out HX.out H4.out H5.out HF.out HB1.out HD.out
      exact⟨F',rfl,h1,h2,h3⟩
end Go.Proofs.YthagdonmijhpdaaGreat

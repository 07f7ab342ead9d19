/- The arena of package avl in memory -/
import Derived.Test.YthagdonmijhpdaaGreatAvKnown
import Derived.BigQuiet
import Derived.Test.YthagdonmijhpdaaGreatRowRel
open Go.Lib (hid)
set_option linter.unusedSimpArgs false
set_option linter.unusedVariables false
set_option maxHeartbeats 4000000
set_option maxRecDepth 8000
namespace Corr
open Go Go.RowKit
structure Kn where
 it:It
 l:Int
 r:Int
 h:Int
 t:Int
abbrev KnL:=List Kn
def ζj:KnL→List Value
 | []=> []
 | k :: r=> .int .i64 k.it.1 :: .int .i64 k.it.2.1 :: .int .i64 k.it.2.2 :: .int .i64 k.l :: .int .i64 k.r :: .int .i64 k.h :: .int .i64 k.t :: ζj r
theorem ζy: ∀l:KnL,(ζj l).length=l.length*7
 | []=>rfl
 | s :: r=>by simp only [ζj,List.length_cons,ζy r];omega
theorem ζ1e (a b:KnL):ζj (a++b)=ζj a++ζj b:=by
 induction a with
 | nil=>rfl
 | cons s r ih=>simp [ζj,ih]
theorem ζ51: ∀(l:KnL) (k:Nat),ζj (l.take k)=(ζj l).take (k*7)
 | _,0=>by simp [ζj]
 | [],k+1=>by simp [ζj]
 | s :: r,k+1=>by
  rw [List.take_succ_cons,ζj,ζ51 r k,show (k+1)*7=k*7+1+1+1+1+1+1+1 by omega];rfl
theorem cells7_one: ∀(l:KnL),∀u∈ζj l,u.oneCell'=true
 | [],u,hu=>by cases hu
 | s :: r,u,hu=>by
  simp only [ζj,List.mem_cons]at hu
  rcases hu with rfl | rfl | rfl | rfl | rfl | rfl | rfl | hu
  ·rfl
  ·rfl
  ·rfl
  ·rfl
  ·rfl
  ·rfl
  ·rfl
  ·exact cells7_one r u hu
theorem ζ4j {l:KnL} {i:Nat} {k:Kn}(h:l[i]? =some k): ∃a b,l=a++k :: b∧a.length=i:=by
 have hi:=(List.getElem?_eq_some_iff.1 h).1
 refine⟨l.take i,l.drop (i+1),?_,by rw [List.length_take];omega⟩
 have e:=(List.getElem?_eq_some_iff.1 h).2
 rw [←e]
 simp
theorem cells7_mid (a b:KnL)(k:Kn)(j:Nat)(hj:j<7):(ζj (a++k :: b))[a.length*7+j]? =(ζj [k])[j]? :=by
 rw [ζ1e,List.getElem?_append_right (by rw [ζy];omega),ζy,Nat.add_sub_cancel_left,show ζj (k :: b)=ζj [k]++ζj b from rfl,List.getElem?_append_left (by rw [ζy];simpa using hj)]
theorem cells7_at {l:KnL} {i:Nat} {k:Kn}(h:l[i]? =some k)(j:Nat)(hj:j<7):(ζj l)[i*7+j]? =(ζj [k])[j]? :=by
 obtain⟨a,b,rfl,rfl⟩:=ζ4j h
 exact cells7_mid a b k j hj
theorem set_mid {α:Type}(a b:List α)(x y:α):(a++x :: b).set a.length y=a++y :: b:=by
 rw [List.set_append_right _ _ (Nat.le_refl _),Nat.sub_self];rfl
theorem cells7_set {l:KnL} {i:Nat} {k k':Kn}(h:l[i]? =some k)(j:Nat)(v:Value)(hj:j<7)(e:(ζj [k]).set j v=ζj [k']):(ζj l).set (i*7+j) v=ζj (l.set i k'):=by
 obtain⟨a,b,rfl,rfl⟩:=ζ4j h
 rw [set_mid,ζ1e,ζ1e,List.set_append_right _ _ (by rw [ζy];omega),ζy,Nat.add_sub_cancel_left,show ζj (k :: b)=ζj [k]++ζj b from rfl,show ζj (k' :: b)=ζj [k']++ζj b from rfl,List.set_append_left _ _ (by rw [ζy];simpa using hj),e]
abbrev inAr (g:Nat)(A:Option Addr)(n c k:Nat):Prop:=k=g∨inRow A n c k
structure Ar (T:TypeId)(w:World)(g:Nat)(M r:Int)(A:Option Addr)(n c:Nat)(K:KnL):Prop where
 b:Blk w g #[.int .i64 M,.int .i64 r,.slice A n c]
 o:w.ownsRow 0 T 7 (.slice A n c) n (ζj K)
 ne: ¬inRow A n c g
section
variable {T:TypeId} {w w':World} {g n c gK i:Nat} {M r:Int} {A:Option Addr} {K:KnL} {G:Nat→Prop} {k:Kn}
theorem Ar.len (h:Ar T w g M r A n c K):K.length=n:=by
 have:=h.o.1;rw [ζy]at this;omega
theorem Ar.sz (h:Ar T w g M r A n c K):g<w.heap.size:=h.b.sz
theorem Ar.keep (h:Ar T w g M r A n c K)(hb:Below w.heap.size w w'):Ar T w' g M r A n c K:=⟨h.b.keep hb,ζg h.o hb,h.ne⟩
theorem Ar.off (h:Ar T w g M r A n c K)(ho:Off G w w')(hg: ¬G g)(ha: ∀k,inRow A n c k→¬G k):Ar T w' g M r A n c K:=⟨ho.blk h.b hg,ho.own h.o ha,h.ne⟩
theorem Ar.addr (h:Ar T w g M r A n c K)(hn:0<n): ∃gK,A=some ⟨gK,0,none⟩∧gK≠g∧gK<w.heap.size:=by
 obtain⟨gK,cap,e⟩:=Joins.ownsRow_form h.o hn
 injection e with e1 _ e3
 subst e1 e3
 exact⟨gK,rfl,fun e=>h.ne (by subst e;rfl),ζk h.o rfl⟩
theorem Ar.at0 (h:Ar T w g M r A n c K)(hk:K[i]? =some k): ∃gK,A=some ⟨gK,0,none⟩∧gK≠g∧gK<w.heap.size∧i<n:=by
 have hi:=(List.getElem?_eq_some_iff.1 hk).1
 rw [h.len]at hi
 obtain⟨gK,h1,h2,h3⟩:=h.addr (by omega)
 exact⟨gK,h1,h2,h3,hi⟩
theorem Ar.lt (h:Ar T w g M r A n c K)(hk:K[i]? =some k):i<n:=by
 have hi:=(List.getElem?_eq_some_iff.1 hk).1
 rw [h.len]at hi;exact hi
theorem Ar.cap (h:Ar T w g M r A n c K):n≤c∧c≤maxLen:=by
 rcases h.o.2 with⟨e,rfl⟩ | ⟨_,_,_,e,_,_,h1,h2,_⟩
 ·injection e with _ _ e3
  exact⟨Nat.zero_le _,by subst e3;exact Nat.zero_le _⟩
 ·injection e with _ _ e3
  exact⟨by omega,by omega⟩
theorem Ar.ce (h:Ar T w g M r (some ⟨gK,0,none⟩) n c K)(hk:K[i]? =some k)(j:Nat)(hj:j<7):w.cell? ⟨gK,i*7+j,none⟩=(ζj [k])[j]? :=by
 have hi:=(List.getElem?_eq_some_iff.1 hk).1
 rw [h.len]at hi
 rw [h.o.cellAt _ (by omega)];exact cells7_at hk j hj
theorem Ar.c0 (h:Ar T w g M r (some ⟨gK,0,none⟩) n c K)(hk:K[i]? =some k):w.cell? ⟨gK,i*7,none⟩=some (.int .i64 k.it.1):=h.ce hk 0 (by omega)
theorem Ar.c1 (h:Ar T w g M r (some ⟨gK,0,none⟩) n c K)(hk:K[i]? =some k):w.cell? ⟨gK,i*7+1,none⟩=some (.int .i64 k.it.2.1):=h.ce hk 1 (by omega)
theorem Ar.c2 (h:Ar T w g M r (some ⟨gK,0,none⟩) n c K)(hk:K[i]? =some k):w.cell? ⟨gK,i*7+2,none⟩=some (.int .i64 k.it.2.2):=h.ce hk 2 (by omega)
theorem Ar.c3 (h:Ar T w g M r (some ⟨gK,0,none⟩) n c K)(hk:K[i]? =some k):w.cell? ⟨gK,i*7+3,none⟩=some (.int .i64 k.l):=h.ce hk 3 (by omega)
theorem Ar.c4 (h:Ar T w g M r (some ⟨gK,0,none⟩) n c K)(hk:K[i]? =some k):w.cell? ⟨gK,i*7+4,none⟩=some (.int .i64 k.r):=h.ce hk 4 (by omega)
theorem Ar.c5 (h:Ar T w g M r (some ⟨gK,0,none⟩) n c K)(hk:K[i]? =some k):w.cell? ⟨gK,i*7+5,none⟩=some (.int .i64 k.h):=h.ce hk 5 (by omega)
theorem Ar.c6 (h:Ar T w g M r (some ⟨gK,0,none⟩) n c K)(hk:K[i]? =some k):w.cell? ⟨gK,i*7+6,none⟩=some (.int .i64 k.t):=h.ce hk 6 (by omega)
theorem Ar.fz (h:Ar T w g M r (some ⟨gK,0,none⟩) n c K)(j:Nat):w.frozen? ⟨gK,j,none⟩=false:=h.o.frozenAt j
theorem Ar.put (h:Ar T w g M r (some ⟨gK,0,none⟩) n c K)(hk:K[i]? =some k)(j:Nat)(hj:j<7)(v:Value) {k':Kn}(e:(ζj [k]).set j v=ζj [k']):Ar T (w.setCell ⟨gK,i*7+j,none⟩ v) g M r (some ⟨gK,0,none⟩) n c (K.set i k'):=by
 refine⟨h.b.far (fun e=>h.ne (by subst e;rfl)) _ _,?_,h.ne⟩
 rw [←cells7_set hk j v hj e]
 exact(h.o.stored _ v).1
theorem Ar.putl (h:Ar T w g M r (some ⟨gK,0,none⟩) n c K)(hk:K[i]? =some k)(z:Int):Ar T (w.setCell ⟨gK,i*7+3,none⟩ (.int .i64 z)) g M r (some ⟨gK,0,none⟩) n c (K.set i { k with l:=z }):=h.put hk 3 (by omega) _ rfl
theorem Ar.putr (h:Ar T w g M r (some ⟨gK,0,none⟩) n c K)(hk:K[i]? =some k)(z:Int):Ar T (w.setCell ⟨gK,i*7+4,none⟩ (.int .i64 z)) g M r (some ⟨gK,0,none⟩) n c (K.set i { k with r:=z }):=h.put hk 4 (by omega) _ rfl
theorem Ar.puth (h:Ar T w g M r (some ⟨gK,0,none⟩) n c K)(hk:K[i]? =some k)(z:Int):Ar T (w.setCell ⟨gK,i*7+5,none⟩ (.int .i64 z)) g M r (some ⟨gK,0,none⟩) n c (K.set i { k with h:=z }):=h.put hk 5 (by omega) _ rfl
theorem Ar.putt (h:Ar T w g M r (some ⟨gK,0,none⟩) n c K)(hk:K[i]? =some k)(z:Int):Ar T (w.setCell ⟨gK,i*7+6,none⟩ (.int .i64 z)) g M r (some ⟨gK,0,none⟩) n c (K.set i { k with t:=z }):=h.put hk 6 (by omega) _ rfl
theorem ζ6 {K:KnL} {i:Nat} {k:Kn}(h:K[i]? =some k)(k':Kn):(K.set i k')[i]? =some k':=List.getElem?_set_self (List.getElem?_eq_some_iff.1 h).1
theorem Ar.puti (h:Ar T w g M r (some ⟨gK,0,none⟩) n c K)(hk:K[i]? =some k)(x:It):Ar T (((w.setCell ⟨gK,i*7,none⟩ (.int .i64 x.1)).setCell ⟨gK,i*7+1,none⟩ (.int .i64 x.2.1)).setCell ⟨gK,i*7+2,none⟩ (.int .i64 x.2.2)) g M r (some ⟨gK,0,none⟩) n c (K.set i { k with it:=x }):=by
 have h0:=h.put hk 0 (by omega) (.int .i64 x.1) (k':= { k with it:=(x.1,k.it.2) }) rfl
 have h1:=h0.put (ζ6 hk _) 1 (by omega) (.int .i64 x.2.1) (k':= { k with it:=(x.1,x.2.1,k.it.2.2) }) rfl
 have h2:=h1.put (ζ6 (ζ6 hk _) _) 2 (by omega) (.int .i64 x.2.2) (k':= { k with it:=x }) rfl
 rw [List.set_set,List.set_set]at h2
 exact h2
theorem Ar.putk (h:Ar T w g M r (some ⟨gK,0,none⟩) n c K)(hk:K[i]? =some k)(q:Kn):Ar T (((((((w.setCell ⟨gK,i*7,none⟩ (.int .i64 q.it.1)).setCell ⟨gK,i*7+1,none⟩ (.int .i64 q.it.2.1)).setCell ⟨gK,i*7+2,none⟩ (.int .i64 q.it.2.2)).setCell ⟨gK,i*7+3,none⟩ (.int .i64 q.l)).setCell ⟨gK,i*7+4,none⟩ (.int .i64 q.r)).setCell ⟨gK,i*7+5,none⟩ (.int .i64 q.h)).setCell ⟨gK,i*7+6,none⟩ (.int .i64 q.t)) g M r (some ⟨gK,0,none⟩) n c (K.set i q):=by
 have h0:=h.puti hk q.it
 have h1:=h0.putl (ζ6 hk _) q.l
 have h2:=h1.putr (ζ6 (ζ6 hk _) _) q.r
 have h3:=h2.puth (ζ6 (ζ6 (ζ6 hk _) _) _) q.h
 have h4:=h3.putt (ζ6 (ζ6 (ζ6 (ζ6 hk _) _) _) _) q.t
 simp only [List.set_set]at h4
 exact h4
theorem Ar.root (h:Ar T w g M r A n c K)(z:Int):Ar T (w.setCell ⟨g,1,none⟩ (.int .i64 z)) g M z A n c K:=by
 refine⟨h.b.set 1 _,?_,h.ne⟩
 exact(Off.set (F:=(· =g)) (a:=⟨g,1,none⟩) rfl _).own h.o fun k hk e=>h.ne (e▸hk)
theorem Ar.cut (h:Ar T w g M r (some ⟨gK,0,none⟩) n c K) {m:Nat}(hm:m≤n):Ar T (w.setCell ⟨g,2,none⟩ (.slice (some ⟨gK,0,none⟩) m c)) g M r (some ⟨gK,0,none⟩) m c (K.take m):=by
 refine⟨h.b.set 2 _,?_,h.ne⟩
 have ho:w.ownsRow 0 T 7 (.slice (some ⟨gK,0,none⟩) m c) m (ζj (K.take m)):=by
  rcases h.o.2 with⟨e,_⟩ | ⟨g',cap',cur,e,h1,h2,h3,h4,h5,h6⟩
  ·cases e
  ·injection e with e1 _ e3
   injection e1 with e1
   injection e1 with e1 _ _
   subst e1 e3
   refine⟨by rw [ζy,List.length_take,h.len];rw [Nat.min_eq_left hm],.inr ⟨gK,c,cur,rfl,h1,h2,by omega,h4,h5,?_⟩⟩
   rw [ζ51,←h6,List.take_take,Nat.min_eq_left (Nat.mul_le_mul_right _ hm)]
 exact(Off.set (F:=(· =g)) (a:=⟨g,2,none⟩) rfl _).own ho fun k hk e=>h.ne (e▸hk)
end
def sdI (b:Bool):Int:=if b then 1 else 0
abbrev WyL:=List (Nat × Bool)
structure WayV (vs:Array Value)(l:WyL):Prop where
 sz:vs.size=57
 one:vs.all (·.oneCell')=true
 cnt:vs.toList[56]? =some (.int .i64 (l.length:Int))
 le:l.length≤28
 at_: ∀i p b,l[i]? =some (p,b)→vs.toList[i*2]? =some (.int .i64 (p:Int))∧vs.toList[i*2+1]? =some (.int .i64 (sdI b))
theorem all_set {vs:Array Value}(h:vs.all (·.oneCell')=true)(i:Nat)(v:Value)(hv:v.oneCell'=true):(vs.setIfInBounds i v).all (·.oneCell')=true:=by
 rw [Array.all_eq_true_iff_forall_mem]at h ⊢
 intro x hx
 have hx:=Array.mem_toList_iff.2 hx
 rw [Array.toList_setIfInBounds]at hx
 rcases List.mem_or_eq_of_mem_set hx with hx | rfl
 ·exact h x (Array.mem_toList_iff.1 hx)
 ·exact hv
def ζc:Array Value:=(List.replicate 57 (Value.int .i64 0)).toArray
theorem WayV.zero:WayV ζc []:=⟨rfl,by unfold ζc;rw [Array.all_eq_true_iff_forall_mem];intro x hx;have:=List.eq_of_mem_replicate (List.mem_toArray.1 hx);rw [this];rfl,rfl,by simp,fun i p b h=>by simp at h⟩
theorem WayV.lt {vs:Array Value} {l:WyL}(h:WayV vs l) {i p:Nat} {b:Bool}(hi:l[i]? =some (p,b)):i<28:=by
 have:=(List.getElem?_eq_some_iff.1 hi).1
 have:=h.le;omega
theorem WayV.push {vs:Array Value} {l:WyL}(h:WayV vs l)(hl:l.length<28)(p:Nat)(b:Bool):WayV (((vs.setIfInBounds (l.length*2) (.int .i64 (p:Int))).setIfInBounds (l.length*2+1) (.int .i64 (sdI b))).setIfInBounds 56 (.int .i64 ((l.length:Int)+1))) (l++ [(p,b)]):=by
 refine⟨by simpa using h.sz,all_set (all_set (all_set h.one _ _ rfl) _ _ rfl) _ _ rfl,?_,by simp;omega,?_⟩
 ·simp only [Array.toList_setIfInBounds]
  rw [List.getElem?_set_self (by simp [h.sz])]
  simp
 ·intro i q d hi
  have hs:vs.toList.length=57:=by simpa using h.sz
  simp only [Array.toList_setIfInBounds]
  rcases Nat.lt_or_ge i l.length with h1 | h1
  ·rw [List.getElem?_append_left h1]at hi
   have:=h.at_ i q d hi
   rw [List.getElem?_set_ne (by omega),List.getElem?_set_ne (by omega),List.getElem?_set_ne (by omega),List.getElem?_set_ne (by omega),List.getElem?_set_ne (by omega),List.getElem?_set_ne (by omega)]
   exact this
  ·have e:i=l.length:=by
    have:=(List.getElem?_eq_some_iff.1 hi).1
    simp at this;omega
   subst e
   rw [List.getElem?_append_right (Nat.le_refl _),Nat.sub_self]at hi
   have e:(p,b)=(q,d):=by simpa using hi
   injection e with e1 e2
   subst e1 e2
   rw [List.getElem?_set_ne (by omega),List.getElem?_set_ne (by omega),List.getElem?_set_self (by omega),List.getElem?_set_ne (by omega),List.getElem?_set_self (by rw [List.length_set];omega)]
   exact⟨rfl,rfl⟩
theorem WayV.pop {vs:Array Value} {l:WyL} {x:Nat × Bool}(h:WayV vs (l++ [x])):WayV (vs.setIfInBounds 56 (.int .i64 (l.length:Int))) l:=by
 have hle:=h.le
 simp at hle
 refine⟨by simpa using h.sz,all_set h.one _ _ rfl,?_,by omega,?_⟩
 ·simp only [Array.toList_setIfInBounds]
  rw [List.getElem?_set_self (by simp [h.sz])]
 ·intro i q d hi
  have hi':=(List.getElem?_eq_some_iff.1 hi).1
  have:=h.at_ i q d (by rw [List.getElem?_append_left hi'];exact hi)
  simp only [Array.toList_setIfInBounds]
  rw [List.getElem?_set_ne (by omega),List.getElem?_set_ne (by omega)]
  exact this
def WayM (w:World)(g:Nat)(l:WyL):Prop:=∃vs,Blk w g vs∧WayV vs l
section
variable {w w':World} {g:Nat} {l:WyL} {G:Nat→Prop}
theorem WayM.sz (h:WayM w g l):g<w.heap.size:=by obtain⟨_,h,_⟩:=h;exact h.sz
theorem WayM.keep (h:WayM w g l)(hb:Below w.heap.size w w'):WayM w' g l:=by obtain⟨vs,h1,h2⟩:=h;exact⟨vs,h1.keep hb,h2⟩
theorem WayM.off (h:WayM w g l)(ho:Off G w w')(hg: ¬G g):WayM w' g l:=by obtain⟨vs,h1,h2⟩:=h;exact⟨vs,ho.blk h1 hg,h2⟩
end
abbrev stV (p:Nat)(b:Bool):Value:= .agg #[.int .i64 (p:Int),.int .i64 (sdI b)]
end Corr
namespace Go.Proofs.YthagdonmijhpdaaGreat
open Go.RowKit Corr
theorem push_any (g:Nat)(l:WyL)(p:Nat)(b:Bool)(w:World)(W:WayM w g l)(hl:l.length<28):Calls Tryz.prog 150 #[.pointer (some ⟨g,0,none⟩),stV p b] w fun e w'=>e= .returned (.tuple #[])∧WayM w' g (l++ [(p,b)])∧Off (· =g) w w':=by
 obtain⟨vs,B,V⟩:=W
 have HV:=hid V
 have hg:=B.sz
 obtain⟨s,hs⟩: ∃s,sdI b=s:=⟨_,rfl⟩
 obtain⟨k,hk⟩: ∃k,l.length=k:=⟨_,rfl⟩
 have HK:=hid hk
 have HBX:=hid (Blk.new w #[.int .i64 (p:Int),.int .i64 s] 200)
 have hB1:=B.keep ((Below.refl _ w).alloc (Nat.le_refl _) (.cells #[.int .i64 (p:Int),.int .i64 s] 200))
 have c56:=hB1.get 56 (by have:=V.cnt;rw [hk]at this;exact this)
 have HB1:=hid hB1
 have f0:=hB1.f (k*2)
 have f1:=hB1.f (k*2+1)
 have f2:=hB1.f 56
 have x0:=HBX.out.get 0 rfl
 have x1:=HBX.out.get 1 rfl
 have hk1:k<28:=by omega
 have j0:decide ((k:Int)<0)=false:=decide_eq_false (by omega)
 have j1:(0:Int)≤(k:Int):=by omega
 have j2:(k:Int)<28:=by omega
 have j3:((k:Int)).toNat=k:=by omega
 obtain⟨v0,hv0⟩: ∃v,vs.toList[k*2]? =some v:=⟨_,List.getElem?_eq_getElem (by rw [Array.length_toList,V.sz];omega)⟩
 obtain⟨v1,hv1⟩: ∃v,vs.toList[k*2+1]? =some v:=⟨_,List.getElem?_eq_getElem (by rw [Array.length_toList,V.sz];omega)⟩
 have y0:=hB1.get _ hv0
 have y1:=hB1.get _ hv1
 have HS:=hid hs
 unfold stV
 rw [hs]
 clear hv0 hv1 V B hB1 hk hs
 go_enter Tryz.func150,Tryz.ntmps150
 go_upto_region 1 with fail
 have HOW:=hid (Off.of (F:=(· =g)) ((Below.refl _ w).alloc (Nat.le_refl _) (.cells #[.int .i64 (p:Int),.int .i64 s] 200)))
 have hgn:g≠w.heap.size:=by omega
 generalize w.heap.size=hw at*
 generalize w.alloc (.cells #[.int .i64 (p:Int),.int .i64 s] 200)=wq at*
 go_region
 have HB2:=hid ((HB1.out.set (k*2) (.int .i64 (p:Int))).set (k*2+1) (.int .i64 s)).drew
 have HO2:=hid ((HOW.out.trans (Off.set (F:=(· =g)) (a:=⟨g,k*2,none⟩) rfl (.int .i64 (p:Int)))).trans (Off.set (F:=(· =g)) (a:=⟨g,k*2+1,none⟩) rfl (.int .i64 s))).drew
 have z56:(((wq.setCell ⟨g,k*2,none⟩ (.int .i64 (p:Int))).setCell ⟨g,k*2+1,none⟩ (.int .i64 s)).drew).cell? ⟨g,56,none⟩=some (.int .i64 (k:Int)):=HB2.out.get 56 (by
  simp only [Array.toList_setIfInBounds]
  rw [List.getElem?_set_ne (by omega),List.getElem?_set_ne (by omega)]
  have:=HV.out.cnt;rw [HK.out]at this;exact this)
 have f3:=HB2.out.f 56
 generalize ((wq.setCell ⟨g,k*2,none⟩ (.int .i64 (p:Int))).setCell ⟨g,k*2+1,none⟩ (.int .i64 s)).drew=wr at*
 clear c56 f0 f1 f2 y0 y1 x0 x1
 go_wp2_with fail
 go_end0
 refine⟨rfl,⟨_,HB2.out.set 56 _,?_⟩,HO2.out.trans (Off.set (F:=(· =g)) (a:=⟨g,56,none⟩) rfl _)⟩
 have:=HV.out.push (by rw [HK.out];omega) p b
 rw [HK.out,HS.out]at this
 exact this
theorem pop_any (g:Nat)(l:WyL)(p:Nat)(b:Bool)(w:World)(W:WayM w g (l++ [(p,b)])):Calls Tryz.prog 160 #[.pointer (some ⟨g,0,none⟩)] w fun e w'=>e= .returned (stV p b)∧WayM w' g l∧Off (· =g) w w':=by
 obtain⟨vs,B,V⟩:=W
 have HV:=hid V
 have hg:=B.sz
 unfold stV
 obtain⟨s,hs⟩: ∃s,sdI b=s:=⟨_,rfl⟩
 obtain⟨k,hk⟩: ∃k,l.length=k:=⟨_,rfl⟩
 have HK:=hid hk
 have hk1:k<28:=by have:=V.le;simp at this;omega
 have hat:=V.at_ k p b (by rw [List.getElem?_append_right (by omega),hk,Nat.sub_self];rfl)
 rw [hs]at hat
 have hcn:vs.toList[56]? =some (.int .i64 ((k:Int)+1)):=by have:=V.cnt;rw [List.length_append,hk]at this;exact this
 have hB1:=B.keep ((Below.refl _ w).alloc (Nat.le_refl _) (.cells #[.int .i64 0,.int .i64 0] 200))
 have HOW:=hid (Off.of (F:=(· =g)) ((Below.refl _ w).alloc (Nat.le_refl _) (.cells #[.int .i64 0,.int .i64 0] 200)))
 have HR:=hid (Blk.new w #[.int .i64 0,.int .i64 0] 200)
 have c56:=hB1.get 56 hcn
 have HB1:=hid hB1
 have f56:=hB1.f 56
 have j0:decide ((k:Int)<0)=false:=decide_eq_false (by omega)
 have j1:(0:Int)≤(k:Int):=by omega
 have j2:(k:Int)<28:=by omega
 have j3:((k:Int)).toNat=k:=by omega
 have HA:=hid hat
 rw [hs]
 clear V B hB1 hk hs hcn hat
 go_enter Tryz.func160,Tryz.ntmps160
 go_upto_region 1 with fail
 have hgn:g≠w.heap.size:=by omega
 generalize hhw:w.heap.size=hw at*
 have HHW:=hid (Nat.le_of_eq hhw)
 clear hhw
 generalize w.alloc (.cells #[.int .i64 0,.int .i64 0] 200)=wq at*
 go_upto_region 2 with fail
 have HB2:=hid (HB1.out.set 56 (.int .i64 (k:Int)))
 have HO2:=hid (HOW.out.trans (Off.set (F:=(· =g)) (a:=⟨g,56,none⟩) rfl (.int .i64 (k:Int))))
 have HR2:=hid (HR.out.far (Ne.symm hgn) 56 (.int .i64 (k:Int)))
 have z56:=HB2.out.get 56 (v:= .int .i64 (k:Int)) (by rw [Array.toList_setIfInBounds,List.getElem?_set_self (by rw [Array.length_toList,HV.out.sz];omega)])
 have y0:=HB2.out.get (k*2) (v:= .int .i64 (p:Int)) (by rw [Array.toList_setIfInBounds,List.getElem?_set_ne (by omega)];exact HA.out.1)
 have y1:=HB2.out.get (k*2+1) (v:= .int .i64 s) (by rw [Array.toList_setIfInBounds,List.getElem?_set_ne (by omega)];exact HA.out.2)
 have x0:=HR2.out.get 0 rfl
 have x1:=HR2.out.get 1 rfl
 have f0:=HR2.out.f 0
 have f1:=HR2.out.f 1
 generalize wq.setCell ⟨g,56,none⟩ (.int .i64 (k:Int))=wr at*
 clear c56 f56 HB1
 go_region
 have HB3:=hid ((HB2.out.far hgn 0 (.int .i64 (p:Int))).far hgn 1 (.int .i64 s)).drew
 have HR3:=hid ((HR2.out.set 0 (.int .i64 (p:Int))).set 1 (.int .i64 s)).drew
 have r0:=HR3.out.get 0 rfl
 have r1:=HR3.out.get 1 rfl
 have HO3:=hid ((HO2.out.put ⟨hw,0,none⟩ (.inr HHW.out) (.int .i64 (p:Int))).put ⟨hw,1,none⟩ (.inr HHW.out) (.int .i64 s)).drew
 go_wp2_with fail
 exact bodyPost_ret (v:= .agg #[.int .i64 (p:Int),.int .i64 s]) (by simp [results,Tryz.results160,go_sem,r0,r1]) rfl ⟨rfl,⟨_,HB3.out,by have:=HV.out.pop;rw [HK.out]at this;exact this⟩,HO3.out⟩
end Go.Proofs.YthagdonmijhpdaaGreat
namespace Corr
open Go Go.RowKit
def sdO (b:Bool):Nat:=if b then 4 else 3
def Kn.sd (k:Kn)(b:Bool):Int:=if b then k.r else k.l
def hAt (K:KnL)(z h:Int):Prop:=(z= -1∧h=0)∨∃q k,z=((q:Nat):Int)∧K[q]? =some k∧h=k.h
end Corr
namespace Go.Proofs.YthagdonmijhpdaaGreat
open Go.RowKit Corr
theorem ζ47 (g n c gK:Nat)(M r:Int)(K:KnL)(p:Nat)(k:Kn)(w:World)(H:Ar 221 w g M r (some ⟨gK,0,none⟩) n c K)(hk:K[p]? =some k)(hn:n≤2000):Calls Tryz.prog 151 #[.pointer (some ⟨g,0,none⟩),.agg #[.int .i64 (p:Int),.int .i64 0]] w fun e w'=>e= .returned (.pointer (some ⟨gK,p*7+3,none⟩))∧Below w.heap.size w w':=by
 have hp:=H.lt hk
 have HA:=hid (H.keep ((Below.refl _ w).alloc (Nat.le_refl _) (.cells #[.int .i64 (p:Int),.int .i64 0] 200)))
 have HBW:=hid (show Ext w _ from(Below.refl w.heap.size w).alloc (Nat.le_refl _) (.cells #[.int .i64 (p:Int),.int .i64 0] 200))
 have HBX:=hid (Blk.new w #[.int .i64 (p:Int),.int .i64 0] 200)
 have a2:=HA.out.b.get 2 rfl
 have j0:decide ((p:Int)<0)=false:=decide_eq_false (by omega)
 have j1:(0:Int)≤(p:Int):=by omega
 have j2:(p:Int)<(n:Int):=by omega
 have j3:((p:Int)).toNat=p:=by omega
 have x0:=HBX.out.get 0 rfl
 have x1:=HBX.out.get 1 rfl
 clear H hk
 go_enter Tryz.func151,Tryz.ntmps151
 go_upto_region 2 with fail
 generalize w.heap.size=hw at*
 generalize w.alloc (.cells #[.int .i64 (p:Int),.int .i64 0] 200)=wq at*
 go_quiet (fail)
 have HB2:=hid (HBW.out.grow (Joins.below_draws _ wq nq))
 go_wp2_with fail
 go_ret
 exact⟨rfl,HB2.out⟩
theorem side_true (g n c gK:Nat)(M r:Int)(K:KnL)(p:Nat)(k:Kn)(w:World)(H:Ar 221 w g M r (some ⟨gK,0,none⟩) n c K)(hk:K[p]? =some k)(hn:n≤2000):Calls Tryz.prog 151 #[.pointer (some ⟨g,0,none⟩),.agg #[.int .i64 (p:Int),.int .i64 1]] w fun e w'=>e= .returned (.pointer (some ⟨gK,p*7+4,none⟩))∧Below w.heap.size w w':=by
 have hp:=H.lt hk
 have HA:=hid (H.keep ((Below.refl _ w).alloc (Nat.le_refl _) (.cells #[.int .i64 (p:Int),.int .i64 1] 200)))
 have HBW:=hid (show Ext w _ from(Below.refl w.heap.size w).alloc (Nat.le_refl _) (.cells #[.int .i64 (p:Int),.int .i64 1] 200))
 have HBX:=hid (Blk.new w #[.int .i64 (p:Int),.int .i64 1] 200)
 have a2:=HA.out.b.get 2 rfl
 have j0:decide ((p:Int)<0)=false:=decide_eq_false (by omega)
 have j1:(0:Int)≤(p:Int):=by omega
 have j2:(p:Int)<(n:Int):=by omega
 have j3:((p:Int)).toNat=p:=by omega
 have x0:=HBX.out.get 0 rfl
 have x1:=HBX.out.get 1 rfl
 clear H hk
 go_enter Tryz.func151,Tryz.ntmps151
 go_upto_region 3 with fail
 generalize w.heap.size=hw at*
 generalize w.alloc (.cells #[.int .i64 (p:Int),.int .i64 1] 200)=wq at*
 go_quiet (fail)
 have HB2:=hid (HBW.out.grow (Joins.below_draws _ wq nq))
 go_wp2_with fail
 go_ret
 exact⟨rfl,HB2.out⟩
theorem side_any (g n c gK:Nat)(M r:Int)(K:KnL)(p:Nat)(b:Bool)(k:Kn)(w:World)(H:Ar 221 w g M r (some ⟨gK,0,none⟩) n c K)(hk:K[p]? =some k)(hn:n≤2000):Calls Tryz.prog 151 #[.pointer (some ⟨g,0,none⟩),stV p b] w fun e w'=>e= .returned (.pointer (some ⟨gK,p*7+sdO b,none⟩))∧Below w.heap.size w w':=by
 cases b with
 | false=>exact ζ47 g n c gK M r K p k w H hk hn
 | true=>exact side_true g n c gK M r K p k w H hk hn
theorem ζ9 (g n c gK:Nat)(M r:Int)(K:KnL)(p:Nat)(b:Bool)(k:Kn)(h:Int)(w:World)(H:Ar 221 w g M r (some ⟨gK,0,none⟩) n c K)(hk:K[p]? =some k)(hh:hAt K (k.sd b) h)(hn:n≤2000):Calls Tryz.prog 171 #[.pointer (some ⟨g,0,none⟩),stV p b] w fun e w'=>e= .returned (.int .i64 h)∧Below w.heap.size w w':=by
 unfold stV
 obtain⟨s,hs⟩: ∃s,sdI b=s:=⟨_,rfl⟩
 have HSD:=hid (fun(w':World) (H:Ar 221 w' g M r (some ⟨gK,0,none⟩) n c K)=>by have:=side_any g n c gK M r K p b k w' H hk hn;unfold stV at this;rw [hs]at this;exact this)
 have HA:=hid (H.keep ((Below.refl _ w).alloc (Nat.le_refl _) (.cells #[.int .i64 (p:Int),.int .i64 s] 200)))
 have HBW:=hid (show Ext w _ from(Below.refl w.heap.size w).alloc (Nat.le_refl _) (.cells #[.int .i64 (p:Int),.int .i64 s] 200))
 have HBX:=hid (Blk.new w #[.int .i64 (p:Int),.int .i64 s] 200)
 have x0:=HBX.out.get 0 rfl
 have x1:=HBX.out.get 1 rfl
 rw [hs]
 obtain⟨z,hz⟩: ∃z,k.sd b=z:=⟨_,rfl⟩
 have HCE:=hid (fun(w':World) (H:Ar 221 w' g M r (some ⟨gK,0,none⟩) n c K)=>show w'.cell? ⟨gK,p*7+sdO b,none⟩=some (.int .i64 z) by
  rw [←hz]
  cases b with
  | false=>exact H.c3 hk
  | true=>exact H.c4 hk)
 rw [hz]at hh
 obtain⟨o,ho⟩: ∃o,p*7+sdO b=o:=⟨_,rfl⟩
 rw [ho]at HCE HSD
 clear hz hs ho hk H
 go_enter Tryz.func171,Tryz.ntmps171
 go_wp2_with fail
 generalize w.heap.size=hw at*
 generalize w.alloc (.cells #[.int .i64 (p:Int),.int .i64 s] 200)=wq at*
 refine(HSD.out wq HA.out).mono ?_
 rintro e w1 ⟨rfl,hb⟩
 have HB1:=hid (HBW.out.grow hb)
 have HA1:=hid (HA.out.keep hb)
 have cz:=HCE.out w1 HA1.out
 clear hb x0 x1 HSD HCE
 rcases hh with⟨rfl,rfl⟩ | ⟨q,k',rfl,hq,rfl⟩
 ·go_wp2_with fail
  go_ret
  exact⟨rfl,HB1.out⟩
 ·have a2:=HA1.out.b.get 2 rfl
  have hq1:=HA1.out.lt hq
  have c5:=HA1.out.c5 hq
  have j0:decide ((q:Int)<0)=false:=decide_eq_false (by omega)
  have j1:(0:Int)≤(q:Int):=by omega
  have j2:(q:Int)<(n:Int):=by omega
  have j3:((q:Int)).toNat=q:=by omega
  have j4:((q:Int) == -1)=false:=by simp
  go_wp2_with fail
  go_ret
  exact⟨rfl,HB1.out⟩
end Go.Proofs.YthagdonmijhpdaaGreat
namespace Corr
open Go Go.RowKit
def cmpZ (a b:Int):Int:=if a<b then -1 else if b<a then 1 else 0
def orI (a b c:Int):Int:=if a=0 then(if b=0 then c else b)else a
def ordI (x y:It):Int:=orI (cmpZ x.1 y.1) (cmpZ x.2.1 y.2.1) (cmpZ x.2.2 y.2.2)
end Corr
namespace Go.Proofs.YthagdonmijhpdaaGreat
open Go.RowKit Corr
theorem isNaN_any (a:Int)(w:World):Calls Tryz.prog 80 #[.int .i64 a] w fun e w'=>e= .returned (.bool false)∧w'=w:=by
 go_enter Tryz.func80,Tryz.ntmps80
 go_wp2_with fail
 go_ret
 exact⟨rfl,rfl⟩
theorem ζ17 (a b:Int)(w:World):Calls Tryz.prog 51 #[.int .i64 a,.int .i64 b] w fun e w'=>e= .returned (.int .i64 (cmpZ a b))∧Below w.heap.size w w':=by
 have HN:=hid (fun z=>isNaN_any z w)
 obtain⟨z,hz⟩: ∃z,cmpZ a b=z:=⟨_,rfl⟩
 rw [hz]
 have HZ:=hid hz
 clear hz
 by_cases h1:a<b
 ·have d1:decide (a<b)=true:=decide_eq_true h1
  have HE:=hid (show z= -1 by rw [←HZ.out];unfold cmpZ;rw [if_pos h1])
  clear h1
  go_enter Tryz.func51,Tryz.ntmps51
  go_wp2_with (first | (go_at_call_of 80 a;refine(HN.out a).mono ?_;rintro e w1 ⟨rfl,rfl⟩) | (go_at_call_of 80 b;refine(HN.out b).mono ?_;rintro e w1 ⟨rfl,rfl⟩))
  go_ret
  exact⟨by rw [HE.out];rfl,Below.refl _ _⟩
 ·have d1:decide (a<b)=false:=decide_eq_false h1
  by_cases h2:b<a
  ·have d2:decide (a > b)=true:=decide_eq_true h2
   have HE:=hid (show z=1 by rw [←HZ.out];unfold cmpZ;rw [if_neg h1,if_pos h2])
   clear h1 h2
   go_enter Tryz.func51,Tryz.ntmps51
   go_wp2_with (first | (go_at_call_of 80 a;refine(HN.out a).mono ?_;rintro e w1 ⟨rfl,rfl⟩) | (go_at_call_of 80 b;refine(HN.out b).mono ?_;rintro e w1 ⟨rfl,rfl⟩))
   go_ret
   exact⟨by rw [HE.out];rfl,Below.refl _ _⟩
  ·have d2:decide (a > b)=false:=decide_eq_false h2
   have HE:=hid (show z=0 by rw [←HZ.out];unfold cmpZ;rw [if_neg h1,if_neg h2])
   clear h1 h2
   go_enter Tryz.func51,Tryz.ntmps51
   go_wp2_with (first | (go_at_call_of 80 a;refine(HN.out a).mono ?_;rintro e w1 ⟨rfl,rfl⟩) | (go_at_call_of 80 b;refine(HN.out b).mono ?_;rintro e w1 ⟨rfl,rfl⟩))
   go_ret
   exact⟨by rw [HE.out];rfl,Below.refl _ _⟩
theorem or_any (g:Nat)(a b c:Int)(w:World)(B:Blk w g #[.int .i64 a,.int .i64 b,.int .i64 c]):Calls Tryz.prog 61 #[.slice (some ⟨g,0,none⟩) 3 3] w fun e w'=>e= .returned (.int .i64 (orI a b c))∧w'=w:=by
 have c0:=B.get 0 rfl
 have c1:=B.get 1 rfl
 have c2:=B.get 2 rfl
 clear B
 by_cases h1:a=0
 ·subst h1
  by_cases h2:b=0
  ·subst h2
   by_cases h3:c=0
   ·subst h3
    go_enter Tryz.func61,Tryz.ntmps61
    go_wp2_with fail
    refine wp_loop_rounds 4 ?_
    rw [rounds_succ]
    go_wp2_with fail
    rw [rounds_succ]
    go_wp2_with fail
    rw [rounds_succ]
    go_wp2_with fail
    rw [rounds_succ]
    go_wp2_with fail
    go_ret
    exact⟨rfl,rfl⟩
   ·have d3:(c == 0)=false:=by simpa using h3
    have HE:=hid (show orI 0 0 c=c from rfl)
    go_enter Tryz.func61,Tryz.ntmps61
    go_wp2_with fail
    refine wp_loop_rounds 3 ?_
    rw [rounds_succ]
    go_wp2_with fail
    rw [rounds_succ]
    go_wp2_with fail
    rw [rounds_succ]
    go_wp2_with fail
    go_ret
    exact⟨by rw [HE.out];rfl,rfl⟩
  ·have d2:(b == 0)=false:=by simpa using h2
   have HE:=hid (show orI 0 b c=b by unfold orI;rw [if_pos rfl,if_neg h2])
   go_enter Tryz.func61,Tryz.ntmps61
   go_wp2_with fail
   refine wp_loop_rounds 2 ?_
   rw [rounds_succ]
   go_wp2_with fail
   rw [rounds_succ]
   go_wp2_with fail
   go_ret
   exact⟨by rw [HE.out];rfl,rfl⟩
 ·have d1:(a == 0)=false:=by simpa using h1
  have HE:=hid (show orI a b c=a by unfold orI;rw [if_neg h1])
  go_enter Tryz.func61,Tryz.ntmps61
  go_wp2_with fail
  refine wp_loop_rounds 1 ?_
  rw [rounds_succ]
  go_wp2_with fail
  go_ret
  exact⟨by rw [HE.out];rfl,rfl⟩
theorem order_any (x y:It)(w:World):Calls Tryz.prog 149 #[itV x,itV y] w fun e w'=>e= .returned (.int .i64 (ordI x y))∧Below w.heap.size w w':=by
 obtain⟨x1,x2,x3⟩:=x
 obtain⟨y1,y2,y3⟩:=y
 have S0:=((Mem.start w).push #[.int .i64 x1,.int .i64 x2,.int .i64 x3] 141).push #[.int .i64 y1,.int .i64 y2,.int .i64 y3] 141
 simp only [ζd]at S0
 have HS:=hid S0
 have HE:=hid (show ordI (x1,x2,x3) (y1,y2,y3)=orI (cmpZ x1 y1) (cmpZ x2 y2) (cmpZ x3 y3)from rfl)
 rw [HE.out]
 obtain⟨p1,hp1⟩: ∃p,cmpZ x1 y1=p:=⟨_,rfl⟩
 obtain⟨p2,hp2⟩: ∃p,cmpZ x2 y2=p:=⟨_,rfl⟩
 obtain⟨p3,hp3⟩: ∃p,cmpZ x3 y3=p:=⟨_,rfl⟩
 have HC1:=hid (fun w=>by have:=ζ17 x1 y1 w;rw [hp1]at this;exact this)
 have HC2:=hid (fun w=>by have:=ζ17 x2 y2 w;rw [hp2]at this;exact this)
 have HC3:=hid (fun w=>by have:=ζ17 x3 y3 w;rw [hp3]at this;exact this)
 rw [hp1,hp2,hp3]
 clear hp1 hp2 hp3 HE S0
 go_enter Tryz.func149,Tryz.ntmps149
 go_upto_region 1 with fail
 have hne:w.heap.size≠w.heap.size+1:=by omega
 generalize w.heap.size=hx at*
 generalize hx+1=hy at*
 generalize hwq:(w.alloc (.cells #[.int .i64 x1,.int .i64 x2,.int .i64 x3] 141)).alloc (.cells #[.int .i64 y1,.int .i64 y2,.int .i64 y3] 141)=wq at*
 clear hwq
 refine ζ4 15 (MemAt w wq.heap.size [(hx,#[.int .i64 x1,.int .i64 x2,.int .i64 x3]),(hy,#[.int .i64 y1,.int .i64 y2,.int .i64 y3])] [])
  (fun i=>List.getD [VE (.pointer (some ⟨hx,0,none⟩)),VE (.int .i64 x1),VE (.pointer (some ⟨hy,0,none⟩)),VE (.int .i64 y1),VE (.int .i64 p1),VE (.pointer (some ⟨hx,1,none⟩)),VE (.int .i64 x2),VE (.pointer (some ⟨hy,1,none⟩)),VE (.int .i64 y2),VE (.int .i64 p2),VE (.pointer (some ⟨hx,2,none⟩)),VE (.int .i64 x3),VE (.pointer (some ⟨hy,2,none⟩)),VE (.int .i64 y3),VE (.int .i64 p3)] i (fun _ _=>False)) [] [0,2,5,7,10,12] (by kernel_rfl) (by kernel_rfl) HS.out.at (fun _ _ h hb=>h.grow hb)
  stA ⟨?_,?_,?_,?_,?_,?_,?_,?_,?_,?_,?_,?_,?_,?_,?_,trivial⟩ ?_
 ·exact rU [2]
 ·exact rL [] fun hw=>hw.m.c 0 0 rfl rfl
 ·exact rU [3]
 ·exact rL [] fun hw=>hw.m.c 1 0 rfl rfl
 ·intro ev wv hE hw hd
  refine rC (f:=51) (args:= #[.int .i64 x1,.int .i64 y1]) [] hE hd (HC1.out _) ?_
  rintro e w' ⟨rfl,hb⟩
  exact⟨_,rfl,hb,rfl,fun h=>by cases h⟩
 ·exact rU [2]
 ·exact rL [] fun hw=>hw.m.c 0 1 rfl rfl
 ·exact rU [3]
 ·exact rL [] fun hw=>hw.m.c 1 1 rfl rfl
 ·intro ev wv hE hw hd
  refine rC (f:=51) (args:= #[.int .i64 x2,.int .i64 y2]) [] hE hd (HC2.out _) ?_
  rintro e w' ⟨rfl,hb⟩
  exact⟨_,rfl,hb,rfl,fun h=>by cases h⟩
 ·exact rU [2]
 ·exact rL [] fun hw=>hw.m.c 0 2 rfl rfl
 ·exact rU [3]
 ·exact rL [] fun hw=>hw.m.c 1 2 rfl rfl
 ·intro ev wv hE hw hd
  refine rC (f:=51) (args:= #[.int .i64 x3,.int .i64 y3]) [] hE hd (HC3.out _) ?_
  rintro e w' ⟨rfl,hb⟩
  exact⟨_,rfl,hb,rfl,fun h=>by cases h⟩
 ·intro w1 hw
  iterate 15 rintro _ rfl _
  simp only [zA]
  change wpList Tryz.prog _ _ _ _ w1
  have HM:=hid (hw.m.push #[.int .i64 p1,.int .i64 p2,.int .i64 p3] 3)
  clear hw
  go_wp2_with fail
  refine(or_any _ p1 p2 p3 _ (HM.out.b 2 rfl)).mono ?_
  rintro e w2 ⟨rfl,rfl⟩
  have HF:=hid HM.out.bl
  clear HM
  go_wp2_with fail
  refine ζ2 ?_
  go_wp2_with fail
  go_ret
  exact⟨rfl,HF.out⟩
end Go.Proofs.YthagdonmijhpdaaGreat

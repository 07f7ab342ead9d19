/- Contract of package avl -/
import Derived.Test.YthagdonmijhpdaaGreatAk3
import Derived.Test.YthagdonmijhpdaaGreatRowRel
import Derived.Test.YthagdonmijhpdaaGreatAk6
import Derived.Test.YthagdonmijhpdaaGreatAvDuo
open Go.Lib (hid)
set_option linter.unusedSimpArgs false
set_option linter.unusedVariables false
set_option maxHeartbeats 4000000
set_option maxRecDepth 8000
namespace Corr
open Go Go.RowKit
def Kn.put (k:Kn)(b:Bool)(z:Int):Kn:=if b then { k with r:=z } else { k with l:=z }
section
variable {T:TypeId} {w:World} {g n c gK i:Nat} {M r:Int} {K:KnL} {k:Kn}
theorem Ar.cs (h:Ar T w g M r (some ⟨gK,0,none⟩) n c K)(hk:K[i]? =some k)(b:Bool):w.cell? ⟨gK,i*7+sdO b,none⟩=some (.int .i64 (k.sd b)):=by
 cases b with
 | false=>exact h.c3 hk
 | true=>exact h.c4 hk
theorem Ar.puts (h:Ar T w g M r (some ⟨gK,0,none⟩) n c K)(hk:K[i]? =some k)(b:Bool)(z:Int):Ar T (w.setCell ⟨gK,i*7+sdO b,none⟩ (.int .i64 z)) g M r (some ⟨gK,0,none⟩) n c (K.set i (k.put b z)):=by
 cases b with
 | false=>exact h.putl hk z
 | true=>exact h.putr hk z
end
end Corr
namespace Go.Proofs.YthagdonmijhpdaaGreat
open Go.RowKit Corr
theorem ζ3g (g gW n c:Nat)(A:Option Addr)(M r z:Int)(K:KnL)(w:World)(H:Ar 221 w g M r A n c K)(W:WayM w gW []):
  Calls Tryz.prog 152 #[.pointer (some ⟨g,0,none⟩),.pointer (some ⟨gW,0,none⟩),.int .i64 z] w fun e w'=>e= .returned (.tuple #[])∧Ar 221 w' g M z A n c K∧Off (inAr g A n c) w w':=by
 obtain⟨vs,B,V⟩:=W
 have HA:=hid H
 have c56:=B.get 56 (v:= .int .i64 0) V.cnt
 have c1:=H.b.get 1 rfl
 have f1:=H.b.f 1
 clear H B V
 go_enter Tryz.func152,Tryz.ntmps152
 go_wp2_with fail
 refine bodyPost_ret (results_none rfl _ _ _) rfl ?_
 exact⟨rfl,HA.out.root z,(Off.refl _ w).put ⟨g,1,none⟩ (.inl (.inl rfl)) _⟩
theorem ζ3h (g gW n c gK:Nat)(M r z:Int)(K:KnL)(l:WyL)(p:Nat)(b:Bool)(kn:Kn)(w:World)(H:Ar 221 w g M r (some ⟨gK,0,none⟩) n c K)(W:WayM w gW (l++ [(p,b)]))(hk:K[p]? =some kn)(hn:n≤2000):
  Calls Tryz.prog 152 #[.pointer (some ⟨g,0,none⟩),.pointer (some ⟨gW,0,none⟩),.int .i64 z] w fun e w'=>e= .returned (.tuple #[])∧Ar 221 w' g M r (some ⟨gK,0,none⟩) n c (K.set p (kn.put b z))∧Off (inAr g (some ⟨gK,0,none⟩) n c) w w':=by
 obtain⟨vs,B,V⟩:=W
 obtain⟨s,hs⟩: ∃s,sdI b=s:=⟨_,rfl⟩
 obtain⟨k,hk1⟩: ∃k,l.length=k:=⟨_,rfl⟩
 have hk2:k<28:=by have:=V.le;simp at this;omega
 have hat:=V.at_ k p b (by rw [List.getElem?_append_right (by omega),hk1,Nat.sub_self];rfl)
 rw [hs]at hat
 have c56:w.cell? ⟨gW,56,none⟩=some (.int .i64 ((k:Int)+1)):=by have:=B.get 56 V.cnt;rw [List.length_append,hk1]at this;exact this
 have y0:=B.get _ hat.1
 have y1:=B.get _ hat.2
 have hgW:=B.sz
 have HA:=hid H
 have HKN:=hid hk
 have HSD:=hid (fun(w':World) (hb:Below w.heap.size w w')=>by have:=side_any g n c gK M r K p b kn w' (H.keep hb) hk hn;unfold stV at this;rw [hs]at this;exact this)
 have HCE:=hid (fun(w':World) (hb:Below w.heap.size w w')=>(H.keep hb).cs hk b)
 have HFZ:=hid (fun(w':World) (hb:Below w.heap.size w w')=>(H.keep hb).fz (p*7+sdO b))
 have HST:=hid (fun(w':World) (hb:Below w.heap.size w w')=>(H.keep hb).puts hk b z)
 obtain⟨o,ho⟩: ∃o,p*7+sdO b=o:=⟨_,rfl⟩
 rw [ho]at HSD HCE HFZ HST
 have j0:decide ((k:Int)<0)=false:=decide_eq_false (by omega)
 have j1:(0:Int)≤(k:Int):=by omega
 have j2:(k:Int)<28:=by omega
 have j3:((k:Int)).toNat=k:=by omega
 have j4:((k:Int)+1 == 0)=false:=by simp;omega
 clear B V hat hs hk1 ho H hk
 go_enter Tryz.func152,Tryz.ntmps152
 go_upto_region 2 with fail
 refine ζ4 14 (Ext w)
  (fun i=>List.getD [VE (.pointer (some ⟨g,0,none⟩)),VE (.pointer (some ⟨gW,0,none⟩)),VE (.pointer (some ⟨gW,0,none⟩)),VE (.pointer (some ⟨gW,0,none⟩)),VE (.pointer (some ⟨gW,56,none⟩)),VE (.int .i64 ((k:Int)+1)),VE (.int .i64 (k:Int)),VE (.pointer (some ⟨gW,0,none⟩)),VE (.pointer (some ⟨gW,0,none⟩)),VE (.pointer (some ⟨gW,k*2,none⟩)),VE (.agg #[.int .i64 (p:Int),.int .i64 s]),VE (.pointer (some ⟨gK,o,none⟩)),VE (.int .i64 z),VE (.pointer (some ⟨gK,o,none⟩))] i (fun _ _=>False)) [] [0,1,2,3,4,6,7,8,9,12,13] (by kernel_rfl) (by kernel_rfl) (Ext.start w) (fun _ _ h hb=>h.grow hb)
  stA ⟨?_,?_,?_,?_,?_,?_,?_,?_,?_,?_,?_,?_,?_,?_,trivial⟩ ?_
 ·exact rU [0]
 ·exact rU [1]
 ·exact rU [1]
 ·exact rU []
 ·exact rU []
 ·exact rL [] fun hw=>(Below.cell hw hgW).trans c56
 ·intro ev wv hE hw hd
  refine ifw rfl (ifw rfl ?_)
  have v20:ev (.tmp 20)= .int .i64 ((k:Int)+1):=hd 5 (by decide)
  refine⟨.int .i64 (k:Int),fun w=> ?_,rfl⟩
  obtain⟨e1,-,e2,-⟩:=hE;clear hd hw
  have hwr:IntKind.i64.wrap (k:Int)=(k:Int):=IntWalk.i64_in _ (by omega)
  go_simp
 ·exact rU []
 ·exact rU []
 ·exact rU []
 ·exact rL [] fun hw=>And.intro ((Below.cell hw hgW).trans y0) ((Below.cell hw hgW).trans y1)
 ·intro ev wv hE hw hd
  refine rC (f:=151) (args:= #[.pointer (some ⟨g,0,none⟩),.agg #[.int .i64 (p:Int),.int .i64 s]]) [] hE hd (HSD.out _ hw) ?_
  rintro e w' ⟨rfl,hb⟩
  exact⟨_,rfl,hb,rfl,fun h=>by cases h⟩
 ·exact rU [2]
 ·exact rU []
 ·intro w1 hw
  iterate 14 rintro _ rfl _
  simp only [zA]
  change wpList Tryz.prog _ _ _ _ w1
  have HB1:=hid hw
  have ce:=HCE.out w1 HB1.out
  have fe:=HFZ.out w1 HB1.out
  clear hw c56 y0 y1
  go_wp2_with fail
  refine ζ2 ?_
  go_wp2_with fail
  go_end0
  exact⟨rfl,HST.out w1 HB1.out,(Off.of HB1.out).put ⟨gK,o,none⟩ (.inl (.inr rfl)) _⟩
end Go.Proofs.YthagdonmijhpdaaGreat
namespace Corr
open Go Go.RowKit
inductive PT
 | nil
 | node (l:PT) (p:Nat) (x:It) (r:PT)
def PT.root:PT→Int
 | .nil=>-1
 | .node _ p _ _=>(p:Int)
def PT.items:PT→ItL
 | .nil=> []
 | .node l _ x r=>l.items++x :: r.items
def PT.places:PT→List Nat
 | .nil=> []
 | .node l p _ r=>l.places++p :: r.places
def PT.height:PT→Nat
 | .nil=>0
 | .node l _ _ r=>max l.height r.height+1
def PT.bal:PT→Prop
 | .nil=>True
 | .node l _ _ r=>l.bal∧r.bal∧l.height≤r.height+1∧r.height≤l.height+1
def PT.ht:PT→Option (Int × Int)
 | .nil=>none
 | .node l p x r=>some (((PT.node l p x r).height:Int),topL (PT.node l p x r).items)
def Rp (K:KnL):PT→Prop
 | .nil=>True
 | .node l p x r=>K[p]? =some ⟨x,l.root,r.root,((PT.node l p x r).height:Int),topL (PT.node l p x r).items⟩∧Rp K l∧Rp K r
theorem Rp.same {K K':KnL} : ∀ {t:PT},Rp K t→(∀p∈t.places,K'[p]? =K[p]?)→Rp K' t
 | .nil,_,_=>trivial
 | .node l p x r,h,hs=>by
  obtain⟨h1,h2,h3⟩:=h
  refine⟨by rw [hs p (by simp [PT.places])];exact h1,h2.same fun q hq=>hs q (by simp [PT.places,hq]),h3.same fun q hq=>hs q (by simp [PT.places,hq])⟩
theorem Rp.set {K:KnL} {t:PT} {p:Nat}(h:Rp K t)(hp:p∉t.places)(k:Kn):Rp (K.set p k) t:=
 h.same fun q hq=>List.getElem?_set_ne fun e:p=q=>hp (by rw [e];exact hq)
theorem PT.len (t:PT):t.items.length=t.places.length:=by
 induction t with
 | nil=>rfl
 | node l p x r hl hr=>simp [PT.items,PT.places,hl,hr]
theorem ζ2h (x:It) {l:ItL}(h:l≠ []):topL (x :: l)=max x.2.1 (topL l):=by
 cases l with
 | nil=>exact absurd rfl h
 | cons y r=>rfl
theorem topL_app {a b:ItL}(ha:a≠ [])(hb:b≠ []):topL (a++b)=max (topL a) (topL b):=by
 induction a with
 | nil=>exact absurd rfl ha
 | cons x r ih=>
  by_cases hr:r= []
  ·subst hr
   rw [List.singleton_append,ζ2h x hb];rfl
  ·rw [List.cons_append,ζ2h x (by simp [hr]),ih hr,ζ2h x hr];omega
theorem topL_one (x:It):topL [x]=x.2.1:=rfl
theorem PT.items_ne {l:PT} {p:Nat} {x:It} {r:PT} :(PT.node l p x r).items≠ []:=by simp [PT.items]
theorem ζ11 (a b:PT)(p:Nat)(x:It)(h t:Int):(Kn.mk x a.root b.root h t).settled a.ht b.ht=⟨x,a.root,b.root,((PT.node a p x b).height:Int),topL (PT.node a p x b).items⟩:=by
 have e1:mxH (mxH 1 a.ht) b.ht=((PT.node a p x b).height:Int):=by
  cases a with
  | nil=>
   cases b with
   | nil=>rfl
   | node l q y r=>simp only [mxH,PT.ht,PT.height];omega
  | node l q y r=>
   cases b with
   | nil=>simp only [mxH,PT.ht,PT.height];omega
   | node l' q' y' r'=>simp only [mxH,PT.ht,PT.height];omega
 have e2:mxT (mxT x.2.1 a.ht) b.ht=topL (PT.node a p x b).items:=by
  cases a with
  | nil=>
   cases b with
   | nil=>rfl
   | node l q y r=>
    show max x.2.1 (topL (PT.node l q y r).items)=topL (x :: (PT.node l q y r).items)
    rw [ζ2h x PT.items_ne]
  | node l q y r=>
   cases b with
   | nil=>
    show max x.2.1 (topL (PT.node l q y r).items)=topL ((PT.node l q y r).items++ [x])
    rw [topL_app PT.items_ne (by simp),topL_one];omega
   | node l' q' y' r'=>
    show max (max x.2.1 (topL (PT.node l q y r).items)) (topL (PT.node l' q' y' r').items)=topL ((PT.node l q y r).items++x :: (PT.node l' q' y' r').items)
    rw [topL_app PT.items_ne (by simp),ζ2h x PT.items_ne];omega
 unfold Kn.settled
 rw [e1,e2]
theorem Rp.chld {K:KnL} {t:PT} {p:Nat}(h:Rp K t)(hp:p∉t.places)(hh:t.height≤1000):chld K p t.root t.ht:=by
 cases t with
 | nil=>exact .inl ⟨rfl,rfl⟩
 | node l q x r=>exact .inr ⟨q,_,rfl,fun e=>hp (by subst e;simp [PT.places]),h.1,rfl,by show -1000000≤(((PT.node l q x r).height:Nat):Int);omega,by show (((PT.node l q x r).height:Nat):Int)≤1000000;omega⟩
theorem Rp.chl2 {K:KnL} {t:PT} {p q:Nat}(h:Rp K t)(hp:p∉t.places)(hq:q∉t.places)(hh:t.height≤1000):chl2 K p q t.root t.ht:=by
 cases t with
 | nil=>exact .inl ⟨rfl,rfl⟩
 | node l j x r=>exact .inr ⟨j,_,rfl,fun e=>hp (by subst e;simp [PT.places]),fun e=>hq (by subst e;simp [PT.places]),h.1,rfl,by show -1000000≤(((PT.node l j x r).height:Nat):Int);omega,by show (((PT.node l j x r).height:Nat):Int)≤1000000;omega⟩
theorem Rp.hAt {K:KnL} {t:PT}(h:Rp K t):hAt K t.root (t.height:Int):=by
 cases t with
 | nil=>exact .inl ⟨rfl,rfl⟩
 | node l j x r=>exact .inr ⟨j,_,rfl,h.1,rfl⟩
end Corr
namespace Go.Proofs.YthagdonmijhpdaaGreat
open Go.RowKit Corr
theorem ζ1t (g n c gK:Nat)(M r:Int)(K:KnL)(p q:Nat)(k k':Kn)(a1 a2 b:PT)(w:World)(H:Ar 221 w g M r (some ⟨gK,0,none⟩) n c K)(hk:K[p]? =some k)(hq:K[q]? =some k')(hl:k.l=(q:Int))(hr:k.r=b.root)(hl':k'.l=a1.root)(hr':k'.r=a2.root)
  (ra1:Rp K a1) (ra2:Rp K a2) (rb:Rp K b) (nd:(q :: p :: (a1.places++(a2.places++b.places))).Nodup) (h1:a1.height≤900) (h2:a2.height≤900) (h3:b.height≤900) (hn:n≤2000):
  Calls Tryz.prog 172 #[.pointer (some ⟨g,0,none⟩),.int .i64 (p:Int)] w fun e w'=>∃K',e= .returned (.int .i64 (q:Int))∧Ar 221 w' g M r (some ⟨gK,0,none⟩) n c K'∧Rp K' (.node a1 q k'.it (.node a2 p k.it b))∧(∀j,j≠p→j≠q→K'[j]? =K[j]?)∧Off (inAr g (some ⟨gK,0,none⟩) n c) w w':=by
 simp only [List.nodup_cons,List.mem_cons,List.mem_append,not_or]at nd
 obtain⟨⟨qp,q1,q2,q3⟩,⟨p1,p2,p3⟩,nd⟩:=nd
 have ekp:=ζ11 a2 b p k.it k.h k.t
 have ekq:=ζ11 a1 (.node a2 p k.it b) q k'.it k'.h k'.t
 have hht:(PT.node a2 p k.it b).ht=some ((Kn.settled { k with l:=k'.r } a2.ht b.ht).h,(Kn.settled { k with l:=k'.r } a2.ht b.ht).t):=by
  rw [hr',show ({ k with l:=a2.root } :Kn)=Kn.mk k.it a2.root b.root k.h k.t by rw [←hr],ekp];rfl
 refine(turnRight_any g n c gK M r K p q k k' _ _ a2.ht b.ht a1.ht w H hk hq (fun e=>qp e.symm) hl (by rw [hr'];exact ra2.chl2 p2 q2 (by omega)) (by rw [hr];exact rb.chl2 p3 q3 (by omega)) (by rw [hl'];exact ra1.chl2 p1 q1 (by omega)) rfl rfl ?_ hn).mono ?_
 ·rw [hr',show ({ k with l:=a2.root } :Kn)=Kn.mk k.it a2.root b.root k.h k.t by rw [←hr],ekp]
  simp only [PT.height];omega
 ·rintro e w' ⟨rfl,hA,hF⟩
  refine⟨_,rfl,hA,⟨?_,?_,?_,?_,?_⟩,fun j jp jq=>by rw [List.getElem?_set_ne (Ne.symm jq),List.getElem?_set_ne (Ne.symm jp)],hF⟩
  ·rw [ζ6 (k:=k') (by rw [List.getElem?_set_ne (fun e=>qp e.symm)];exact hq),←hht,show ({ k' with r:=(p:Int) } :Kn)=Kn.mk k'.it a1.root (PT.node a2 p k.it b).root k'.h k'.t by rw [←hl'];rfl,ekq]
  ·exact(ra1.set p1 _).set q1 _
  ·rw [List.getElem?_set_ne qp,ζ6 hk,hr',show ({ k with l:=a2.root } :Kn)=Kn.mk k.it a2.root b.root k.h k.t by rw [←hr],ekp]
  ·exact(ra2.set p2 _).set q2 _
  ·exact(rb.set p3 _).set q3 _
theorem ζ27 (g n c gK:Nat)(M r:Int)(K:KnL)(p q:Nat)(k k':Kn)(a b1 b2:PT)(w:World)(H:Ar 221 w g M r (some ⟨gK,0,none⟩) n c K)(hk:K[p]? =some k)(hq:K[q]? =some k')(hl:k.l=a.root)(hr:k.r=(q:Int))(hl':k'.l=b1.root)(hr':k'.r=b2.root)
  (ra:Rp K a) (rb1:Rp K b1) (rb2:Rp K b2) (nd:(q :: p :: (a.places++(b1.places++b2.places))).Nodup) (h1:a.height≤900) (h2:b1.height≤900) (h3:b2.height≤900) (hn:n≤2000):
  Calls Tryz.prog 173 #[.pointer (some ⟨g,0,none⟩),.int .i64 (p:Int)] w fun e w'=>∃K',e= .returned (.int .i64 (q:Int))∧Ar 221 w' g M r (some ⟨gK,0,none⟩) n c K'∧Rp K' (.node (.node a p k.it b1) q k'.it b2)∧(∀j,j≠p→j≠q→K'[j]? =K[j]?)∧Off (inAr g (some ⟨gK,0,none⟩) n c) w w':=by
 simp only [List.nodup_cons,List.mem_cons,List.mem_append,not_or]at nd
 obtain⟨⟨qp,q1,q2,q3⟩,⟨p1,p2,p3⟩,nd⟩:=nd
 have ekp:=ζ11 a b1 p k.it k.h k.t
 have ekq:=ζ11 (.node a p k.it b1) b2 q k'.it k'.h k'.t
 have ek:({ k with r:=k'.l } :Kn)=Kn.mk k.it a.root b1.root k.h k.t:=by rw [←hl,hl']
 have hht:(PT.node a p k.it b1).ht=some ((Kn.settled { k with r:=k'.l } a.ht b1.ht).h,(Kn.settled { k with r:=k'.l } a.ht b1.ht).t):=by
  rw [ek,ekp];rfl
 refine(turnLeft_any g n c gK M r K p q k k' _ _ b1.ht a.ht b2.ht w H hk hq (fun e=>qp e.symm) hr (by rw [hl'];exact rb1.chl2 p2 q2 (by omega)) (by rw [hl];exact ra.chl2 p1 q1 (by omega)) (by rw [hr'];exact rb2.chl2 p3 q3 (by omega)) rfl rfl ?_ hn).mono ?_
 ·rw [ek,ekp]
  simp only [PT.height];omega
 ·rintro e w' ⟨rfl,hA,hF⟩
  refine⟨_,rfl,hA,⟨?_,⟨?_,?_,?_⟩,?_⟩,fun j jp jq=>by rw [List.getElem?_set_ne (Ne.symm jq),List.getElem?_set_ne (Ne.symm jp)],hF⟩
  ·rw [ζ6 (k:=k') (by rw [List.getElem?_set_ne (fun e=>qp e.symm)];exact hq),←hht,show ({ k' with l:=(p:Int) } :Kn)=Kn.mk k'.it (PT.node a p k.it b1).root b2.root k'.h k'.t by rw [←hr'];rfl,ekq]
  ·rw [List.getElem?_set_ne qp,ζ6 hk,ek,ekp]
  ·exact(ra.set p1 _).set q1 _
  ·exact(rb1.set p2 _).set q2 _
  ·exact(rb2.set p3 _).set q3 _
end Go.Proofs.YthagdonmijhpdaaGreat
namespace Corr
open Go Go.RowKit
theorem PT.nd {a:PT} {p:Nat} {x:It} {b:PT}(h:(PT.node a p x b).places.Nodup):p∉a.places∧p∉b.places∧a.places.Nodup∧b.places.Nodup∧∀j,j∈a.places→j∉b.places:=by
 simp only [PT.places,List.nodup_append,List.nodup_cons,List.mem_cons]at h
 exact⟨fun e=>h.2.2 p e p (.inl rfl) rfl,h.2.1.1,h.1,h.2.1.2,fun j ja jb=>h.2.2 j ja j (.inr jb) rfl⟩
def MidB (T:TypeId)(g n c gK:Nat)(M r:Int)(hT:Nat)(vs:Array Value)(p:Nat)(k:Kn)(K:KnL)(P:KnL→Prop)(F:Nat→Prop)(w:World)(t:Bool)(wx:World):Prop:=
 Blk wx hT vs∧Off F w wx∧∃K1,Ar T wx g M r (some ⟨gK,0,none⟩) n c K1∧K1[p]? =some k∧(t=true→P K1)∧(t=false→K1=K)
theorem MidB.drew {T:TypeId} {g n c gK:Nat} {M r:Int} {hT:Nat} {vs:Array Value} {p:Nat} {k:Kn} {K:KnL} {P:KnL→Prop} {F:Nat→Prop} {w wx:World} {t:Bool}(h:MidB T g n c gK M r hT vs p k K P F w t wx):MidB T g n c gK M r hT vs p k K P F w t wx.drew:=by
 obtain⟨h1,h2,K1,h3,h4⟩:=h
 exact⟨h1.drew,h2.drew,K1,h3.keep ((Below.refl _ _).drew),h4⟩
structure BalR (K K':KnL)(a b:PT)(p:Nat)(x:It)(t':PT):Prop where
 rp:Rp K' t'
 items:t'.items=a.items++x :: b.items
 bal:t'.bal
 perm:t'.places.Perm (PT.node a p x b).places
 off: ∀j,j∉(PT.node a p x b).places→K'[j]? =K[j]?
 h1:a.height≤b.height+1→b.height≤a.height+1→t'.height=max a.height b.height+1
 h2:max a.height b.height≤t'.height∧t'.height≤max a.height b.height+1
 pos:1≤t'.height
theorem BalR.none {K K':KnL} {a b:PT} {p:Nat} {x:It}(h:Rp K' (.node a p x b))(ho: ∀j,j≠p→K'[j]? =K[j]?)(ba:a.bal)(bb:b.bal)(h1:a.height≤b.height+1)(h2:b.height≤a.height+1):BalR K K' a b p x (.node a p x b):=
 ⟨h,rfl,⟨ba,bb,h1,h2⟩,List.Perm.refl _,fun j hj=>ho j fun e=>hj (by subst e;simp [PT.places]),fun _ _=>rfl,by simp only [PT.height];omega,by simp only [PT.height];omega⟩
theorem BalR.right1 {K K':KnL} {a1 a2 b:PT} {p q:Nat} {x y:It}(h:Rp K' (.node a1 q y (.node a2 p x b)))(ho: ∀j,j≠p→j≠q→K'[j]? =K[j]?)(ba:(PT.node a1 q y a2).bal)(bb:b.bal)(h1:(PT.node a1 q y a2).height=b.height+2)(h2:a2.height≤a1.height):BalR K K' (.node a1 q y a2) b p x (.node a1 q y (.node a2 p x b)):=by
 obtain⟨b1,b2,b3,b4⟩:=ba
 simp only [PT.height]at h1
 refine⟨h,?_,⟨b1,⟨b2,bb,?_,?_⟩,?_,?_⟩,?_,fun j hj=>ho j (fun e=>hj (by subst e;simp [PT.places])) (fun e=>hj (by subst e;simp [PT.places])),?_,?_,?_⟩
 ·simp [PT.items]
 ·omega
 ·omega
 ·simp only [PT.height];omega
 ·simp only [PT.height];omega
 ·simp [PT.places]
 ·intro h;simp only [PT.height]at h ⊢;omega
 ·simp only [PT.height];omega
 ·simp only [PT.height];omega
theorem BalR.right2 {K K':KnL} {a1 c1 c2 b:PT} {p q s:Nat} {x y z:It}(h:Rp K' (.node (.node a1 q y c1) s z (.node c2 p x b)))(ho: ∀j,j≠p→j≠q→j≠s→K'[j]? =K[j]?)(ba:(PT.node a1 q y (.node c1 s z c2)).bal)(bb:b.bal)(h1:(PT.node a1 q y (.node c1 s z c2)).height=b.height+2)(h2:a1.height<(PT.node c1 s z c2).height):BalR K K' (.node a1 q y (.node c1 s z c2)) b p x (.node (.node a1 q y c1) s z (.node c2 p x b)):=by
 obtain⟨b1,⟨b5,b6,b7,b8⟩,b3,b4⟩:=ba
 simp only [PT.height]at h1 h2 b3 b4
 refine⟨h,?_,⟨⟨b1,b5,?_,?_⟩,⟨b6,bb,?_,?_⟩,?_,?_⟩,?_,fun j hj=>ho j (fun e=>hj (by subst e;simp [PT.places])) (fun e=>hj (by subst e;simp [PT.places])) (fun e=>hj (by subst e;simp [PT.places])),?_,?_,?_⟩
 ·simp [PT.items]
 ·omega
 ·omega
 ·omega
 ·omega
 ·simp only [PT.height];omega
 ·simp only [PT.height];omega
 ·simp [PT.places]
 ·intro h;simp only [PT.height]at h ⊢;omega
 ·simp only [PT.height];omega
 ·simp only [PT.height];omega
theorem BalR.left1 {K K':KnL} {a b1 b2:PT} {p q:Nat} {x y:It}(h:Rp K' (.node (.node a p x b1) q y b2))(ho: ∀j,j≠p→j≠q→K'[j]? =K[j]?)(ba:a.bal)(bb:(PT.node b1 q y b2).bal)(h1:(PT.node b1 q y b2).height=a.height+2)(h2:b1.height≤b2.height):BalR K K' a (.node b1 q y b2) p x (.node (.node a p x b1) q y b2):=by
 obtain⟨b3,b4,b5,b6⟩:=bb
 simp only [PT.height]at h1
 refine⟨h,?_,⟨⟨ba,b3,?_,?_⟩,b4,?_,?_⟩,?_,fun j hj=>ho j (fun e=>hj (by subst e;simp [PT.places])) (fun e=>hj (by subst e;simp [PT.places])),?_,?_,?_⟩
 ·simp [PT.items]
 ·omega
 ·omega
 ·simp only [PT.height];omega
 ·simp only [PT.height];omega
 ·simp [PT.places]
 ·intro h h';simp only [PT.height]at h h' ⊢;omega
 ·simp only [PT.height];omega
 ·simp only [PT.height];omega
theorem BalR.left2 {K K':KnL} {a c1 c2 b2:PT} {p q s:Nat} {x y z:It}(h:Rp K' (.node (.node a p x c1) s z (.node c2 q y b2)))(ho: ∀j,j≠p→j≠q→j≠s→K'[j]? =K[j]?)(ba:a.bal)(bb:(PT.node (.node c1 s z c2) q y b2).bal)(h1:(PT.node (.node c1 s z c2) q y b2).height=a.height+2)(h2:b2.height<(PT.node c1 s z c2).height):BalR K K' a (.node (.node c1 s z c2) q y b2) p x (.node (.node a p x c1) s z (.node c2 q y b2)):=by
 obtain⟨⟨b5,b6,b7,b8⟩,b1,b3,b4⟩:=bb
 simp only [PT.height]at h1 h2 b3 b4
 refine⟨h,?_,⟨⟨ba,b5,?_,?_⟩,⟨b6,b1,?_,?_⟩,?_,?_⟩,?_,fun j hj=>ho j (fun e=>hj (by subst e;simp [PT.places])) (fun e=>hj (by subst e;simp [PT.places])) (fun e=>hj (by subst e;simp [PT.places])),?_,?_,?_⟩
 ·simp [PT.items]
 ·omega
 ·omega
 ·omega
 ·omega
 ·simp only [PT.height];omega
 ·simp only [PT.height];omega
 ·simp [PT.places]
 ·intro h h';simp only [PT.height]at h h' ⊢;omega
 ·simp only [PT.height];omega
 ·simp only [PT.height];omega
inductive Cx
 | top
 | L (c:Cx) (p:Nat) (x:It) (r:PT)
 | R (c:Cx) (l:PT) (p:Nat) (x:It)
def Cx.plug:Cx→PT→PT
 | .top,t=>t
 | .L c p x r,t=>c.plug (.node t p x r)
 | .R c l p x,t=>c.plug (.node l p x t)
def Cx.way:Cx→WyL
 | .top=> []
 | .L c p _ _=>c.way++ [(p,false)]
 | .R c _ p _=>c.way++ [(p,true)]
def Cx.places:Cx→List Nat
 | .top=> []
 | .L c p _ r=>p :: (r.places++c.places)
 | .R c l p _=>p :: (l.places++c.places)
def Cx.bef:Cx→ItL
 | .top=> []
 | .L c _ _ _=>c.bef
 | .R c l _ x=>c.bef++(l.items++ [x])
def Cx.aft:Cx→ItL
 | .top=> []
 | .L c _ x r=>x :: (r.items++c.aft)
 | .R c _ _ _=>c.aft
def RpC (K:KnL)(r:Int):Cx→Int→Prop
 | .top,h=>r=h
 | .L c p x t,h=>(∃k,K[p]? =some k∧k.it=x∧k.l=h∧k.r=t.root)∧Rp K t∧RpC K r c (p:Int)
 | .R c t p x,h=>(∃k,K[p]? =some k∧k.it=x∧k.l=t.root∧k.r=h)∧Rp K t∧RpC K r c (p:Int)
def okC:Cx→Nat→Prop
 | .top,_=>True
 | .L c _ _ t,h=>t.bal∧h≤t.height+1∧t.height≤h+1∧okC c (max h t.height+1)
 | .R c t _ _,h=>t.bal∧h≤t.height+1∧t.height≤h+1∧okC c (max t.height h+1)
theorem Cx.items (c:Cx): ∀t:PT,(c.plug t).items=c.bef++(t.items++c.aft):=by
 induction c with
 | top=>intro t;simp [Cx.plug,Cx.bef,Cx.aft]
 | L c p x r ih=>intro t;rw [Cx.plug,ih];simp [PT.items,Cx.bef,Cx.aft]
 | R c l p x ih=>intro t;rw [Cx.plug,ih];simp [PT.items,Cx.bef,Cx.aft]
theorem Cx.perm (c:Cx): ∀t:PT,(c.plug t).places.Perm (t.places++c.places):=by
 induction c with
 | top=>intro t;simp [Cx.plug,Cx.places]
 | L c p x r ih=>
  intro t
  refine(ih _).trans (List.perm_iff_count.2 fun j=> ?_)
  simp only [PT.places,Cx.places,List.count_append,List.count_cons];ac_rfl
 | R c l p x ih=>
  intro t
  refine(ih _).trans (List.perm_iff_count.2 fun j=> ?_)
  simp only [PT.places,Cx.places,List.count_append,List.count_cons];ac_rfl
theorem RpC.same {K K':KnL} {r:Int} : ∀ {c:Cx} {h:Int},RpC K r c h→(∀q∈c.places,K'[q]? =K[q]?)→RpC K' r c h
 | .top,_,h,_=>h
 | .L c p x t,_,h,hs=>by
  obtain⟨⟨k,h1,h2⟩,h3,h4⟩:=h
  exact⟨⟨k,by rw [hs p (by simp [Cx.places])];exact h1,h2⟩,h3.same fun q hq=>hs q (by simp [Cx.places,hq]),h4.same fun q hq=>hs q (by simp [Cx.places,hq])⟩
 | .R c t p x,_,h,hs=>by
  obtain⟨⟨k,h1,h2⟩,h3,h4⟩:=h
  exact⟨⟨k,by rw [hs p (by simp [Cx.places])];exact h1,h2⟩,h3.same fun q hq=>hs q (by simp [Cx.places,hq]),h4.same fun q hq=>hs q (by simp [Cx.places,hq])⟩
theorem RpC.of {K:KnL}(c:Cx): ∀t:PT,Rp K (c.plug t)→Rp K t∧RpC K (c.plug t).root c t.root:=by
 induction c with
 | top=>intro t h;exact⟨h,rfl⟩
 | L c p x r ih=>
  intro t h
  obtain⟨h1,h2⟩:=ih _ h
  exact⟨h1.2.1,⟨_,h1.1,rfl,rfl,rfl⟩,h1.2.2,h2⟩
 | R c l p x ih=>
  intro t h
  obtain⟨h1,h2⟩:=ih _ h
  exact⟨h1.2.2,⟨_,h1.1,rfl,rfl,rfl⟩,h1.2.1,h2⟩
theorem okC.of (c:Cx): ∀t:PT,(c.plug t).bal→t.bal∧okC c t.height:=by
 induction c with
 | top=>intro t h;exact⟨h,trivial⟩
 | L c p x r ih=>
  intro t h
  obtain⟨⟨h1,h2,h3,h4⟩,h5⟩:=ih _ h
  exact⟨h1,h2,h3,h4,h5⟩
 | R c l p x ih=>
  intro t h
  obtain⟨⟨h1,h2,h3,h4⟩,h5⟩:=ih _ h
  exact⟨h2,h1,h4,h3,h5⟩
theorem bal_low: ∀ {t:PT},t.bal→2 ^ (t.height / 2)≤t.items.length+1
 | .nil,_=>by simp [PT.height,PT.items]
 | .node l p x r,h=>by
  obtain⟨h1,h2,h3,h4⟩:=h
  have i1:=bal_low h1
  have i2:=bal_low h2
  have e:(PT.node l p x r).height=max l.height r.height+1:=rfl
  have key: ∀a:Nat,2 ^ ((a+1) / 2)≤2*2 ^ (a / 2)∧2 ^ ((a+2) / 2)=2*2 ^ (a / 2):=fun a=>by
   constructor
   ·rw [←Nat.pow_succ']
    exact Nat.pow_le_pow_right (by omega) (by omega)
   ·rw [←Nat.pow_succ']
    congr 1;omega
  simp only [PT.items,List.length_append,List.length_cons]
  rw [e]
  rcases Nat.lt_trichotomy l.height r.height with h | h | h
  ·have:r.height=l.height+1:=by omega
   rw [show max l.height r.height+1=l.height+2 by omega,(key _).2]
   have:=(key l.height).1
   have h6:2 ^ (l.height / 2)≤2 ^ (r.height / 2):=Nat.pow_le_pow_right (by omega) (by omega)
   omega
  ·rw [show max l.height r.height+1=l.height+1 by omega]
   have:=(key l.height).1
   rw [←h]at i2
   omega
  ·have:l.height=r.height+1:=by omega
   rw [show max l.height r.height+1=r.height+2 by omega,(key _).2]
   have h6:2 ^ (r.height / 2)≤2 ^ (l.height / 2):=Nat.pow_le_pow_right (by omega) (by omega)
   omega
theorem bal_le {t:PT}(h:t.bal)(hl:t.items.length≤1500):t.height≤21:=by
 have h1:=bal_low h
 rcases Nat.lt_or_ge t.height 22 with h2 | h2
 ·omega
 ·have:2 ^ 11≤2 ^ (t.height / 2):=Nat.pow_le_pow_right (by omega) (by omega)
  omega
theorem Cx.deep (c:Cx): ∀t:PT,c.way.length+t.height≤(c.plug t).height:=by
 induction c with
 | top=>intro t;simp [Cx.way,Cx.plug]
 | L c p x r ih=>
  intro t
  have:=ih (.node t p x r)
  simp only [Cx.way,Cx.plug,List.length_append,List.length_cons,List.length_nil,PT.height]at this ⊢
  omega
 | R c l p x ih=>
  intro t
  have:=ih (.node l p x t)
  simp only [Cx.way,Cx.plug,List.length_append,List.length_cons,List.length_nil,PT.height]at this ⊢
  omega
def Cx.last:Cx→Option (Nat × Bool)
 | .top=>none
 | .L _ p _ _=>some (p,false)
 | .R _ _ p _=>some (p,true)
def Cx.up:Cx→WyL
 | .top=> []
 | .L c _ _ _=>c.way
 | .R c _ _ _=>c.way
theorem Cx.way_last {c:Cx} {p:Nat} {b:Bool}(h:c.last=some (p,b)):c.way=c.up++ [(p,b)]:=by
 cases c with
 | top=>cases h
 | L c q x r=>simp only [Cx.last,Option.some.injEq,Prod.mk.injEq]at h;obtain⟨rfl,rfl⟩:=h;rfl
 | R c l q x=>simp only [Cx.last,Option.some.injEq,Prod.mk.injEq]at h;obtain⟨rfl,rfl⟩:=h;rfl
theorem RpC.hang {K:KnL} {r h z:Int} {c:Cx} {p:Nat} {b:Bool}(H:RpC K r c h)(hl:c.last=some (p,b))(nd:c.places.Nodup): ∃k,K[p]? =some k∧RpC (K.set p (k.put b z)) r c z:=by
 cases c with
 | top=>cases hl
 | L c q x t=>
  simp only [Cx.last,Option.some.injEq,Prod.mk.injEq]at hl
  obtain⟨rfl,rfl⟩:=hl
  obtain⟨⟨k,h1,h2,h3,h4⟩,h5,h6⟩:=H
  simp only [Cx.places,List.nodup_cons,List.mem_append,not_or]at nd
  refine⟨k,h1,⟨_,ζ6 h1 _,h2,rfl,h4⟩,h5.set nd.1.1 _,h6.same fun q' hq=>List.getElem?_set_ne fun e=>nd.1.2 (by rw [e];exact hq)⟩
 | R c t q x=>
  simp only [Cx.last,Option.some.injEq,Prod.mk.injEq]at hl
  obtain⟨rfl,rfl⟩:=hl
  obtain⟨⟨k,h1,h2,h3,h4⟩,h5,h6⟩:=H
  simp only [Cx.places,List.nodup_cons,List.mem_append,not_or]at nd
  refine⟨k,h1,⟨_,ζ6 h1 _,h2,h3,rfl⟩,h5.set nd.1.1 _,h6.same fun q' hq=>List.getElem?_set_ne fun e=>nd.1.2 (by rw [e];exact hq)⟩
theorem Cx.last_mem {c:Cx} {p:Nat} {b:Bool}(h:c.last=some (p,b)):p∈c.places:=by
 cases c with
 | top=>cases h
 | L c q x r=>simp only [Cx.last,Option.some.injEq,Prod.mk.injEq]at h;obtain⟨rfl,_⟩:=h;simp [Cx.places]
 | R c l q x=>simp only [Cx.last,Option.some.injEq,Prod.mk.injEq]at h;obtain⟨rfl,_⟩:=h;simp [Cx.places]
structure RiseP (K0:KnL)(L:ItL)(P:List Nat)(cx:Cx)(t:PT)(K:KnL)(r h:Int)(h0:Nat):Prop where
 rc:RpC K r cx h
 rp:Rp K t
 bal:t.bal
 ok:okC cx h0
 d:t.height≤h0+1∧h0≤t.height+1
 nd:(t.places++cx.places).Nodup
 it:(cx.plug t).items=L
 pm:(t.places++cx.places).Perm P
 off: ∀j,j∉P→K[j]? =K0[j]?
theorem perm_L {t r:PT} {c:Cx} {p:Nat} {x:It} :(t.places++(Cx.L c p x r).places).Perm ((PT.node t p x r).places++c.places):=by
 refine List.perm_iff_count.2 fun j=> ?_
 simp only [PT.places,Cx.places,List.count_append,List.count_cons];ac_rfl
theorem perm_R {t l:PT} {c:Cx} {p:Nat} {x:It} :(t.places++(Cx.R c l p x).places).Perm ((PT.node l p x t).places++c.places):=by
 refine List.perm_iff_count.2 fun j=> ?_
 simp only [PT.places,Cx.places,List.count_append,List.count_cons];ac_rfl
structure StepP (K0:KnL)(L:ItL)(P:List Nat)(K:KnL)(r:Int)(c:Cx)(p:Nat)(a d:PT)(k:Kn):Prop where
 kp:K[p]? =some k
 kl:k.l=a.root
 kr:k.r=d.root
 ra:Rp K a
 rd:Rp K d
 nd:(PT.node a p k.it d).places.Nodup
 ba:a.bal
 bd:d.bal
 h:a.height≤d.height+2∧d.height≤a.height+2
 la:a.items.length≤L.length
 ld:d.items.length≤L.length
 on: ∀K' t',BalR K K' a d p k.it t'→∃h0,RiseP K0 L P c t' K' r (p:Int) h0
theorem RiseP.mk' {K0 K K':KnL} {L:ItL} {P:List Nat} {c:Cx} {r:Int} {a d t':PT} {p:Nat} {x:It} {h0 h1:Nat}(B:BalR K K' a d p x t')(rc:RpC K r c (p:Int))(ok:okC c h1)(hd:t'.height≤h1+1∧h1≤t'.height+1)(nd:((PT.node a p x d).places++c.places).Nodup)(it:(c.plug (.node a p x d)).items=L)(pm:((PT.node a p x d).places++c.places).Perm P)(off: ∀j,j∉P→K[j]? =K0[j]?):RiseP K0 L P c t' K' r (p:Int) h1:=by
 have e:(t'.places++c.places).Perm ((PT.node a p x d).places++c.places):=B.perm.append_right _
 refine⟨rc.same fun q hq=>B.off q fun e=> ?_,B.rp,B.bal,ok,hd,(List.Perm.nodup_iff e).2 nd,?_,e.trans pm,fun j hj=> ?_⟩
 ·exact(List.nodup_append.1 nd).2.2 q e q hq rfl
 ·rw [Cx.items,B.items,←it,Cx.items];rfl
 ·rw [B.off j fun e'=>hj (pm.mem_iff.1 (List.mem_append_left _ e')),off j hj]
theorem RiseP.step {K0 K:KnL} {L:ItL} {P:List Nat} {cx:Cx} {t:PT} {r:Int} {h0:Nat}(h:RiseP K0 L P cx t K r t.root h0) {p:Nat} {b:Bool}(hl:cx.last=some (p,b)): ∃c a d k,cx.way=c.way++ [(p,b)]∧StepP K0 L P K r c p a d k:=by
 obtain⟨rc,rp,bal,ok,hd,nd,it,pm,off⟩:=h
 cases cx with
 | top=>cases hl
 | L c q x rt=>
  simp only [Cx.last,Option.some.injEq,Prod.mk.injEq]at hl
  obtain⟨rfl,rfl⟩:=hl
  obtain⟨⟨k,h1,rfl,h3,h4⟩,h5,h6⟩:=rc
  obtain⟨o1,o2,o3,o4⟩:=ok
  have nd':=(List.Perm.nodup_iff perm_L).1 nd
  refine⟨c,t,rt,k,rfl,⟨h1,h3,h4,rp,h5,(List.nodup_append.1 nd').1,bal,o1,by omega,?_,?_,fun K' t' B=>⟨_,RiseP.mk' (h0:=h0) B h6 o4 ?_ nd' it (perm_L.symm.trans pm) off⟩⟩⟩
  ·rw [←it,Cx.items];simp;omega
  ·rw [←it,Cx.items];simp [Cx.aft];omega
  ·have h7:=B.h1;have h8:=B.h2;omega
 | R c l q x=>
  simp only [Cx.last,Option.some.injEq,Prod.mk.injEq]at hl
  obtain⟨rfl,rfl⟩:=hl
  obtain⟨⟨k,h1,rfl,h3,h4⟩,h5,h6⟩:=rc
  obtain⟨o1,o2,o3,o4⟩:=ok
  have nd':=(List.Perm.nodup_iff perm_R).1 nd
  refine⟨c,l,t,k,rfl,⟨h1,h3,h4,h5,rp,(List.nodup_append.1 nd').1,o1,bal,by omega,?_,?_,fun K' t' B=>⟨_,RiseP.mk' (h0:=h0) B h6 o4 ?_ nd' it (perm_R.symm.trans pm) off⟩⟩⟩
  ·rw [←it,Cx.items];simp [Cx.bef];omega
  ·rw [←it,Cx.items];simp;omega
  ·have h7:=B.h1;have h8:=B.h2;omega
theorem RiseP.top {K0 K:KnL} {L:ItL} {P:List Nat} {t:PT} {r h:Int} {h0:Nat}(H:RiseP K0 L P .top t K r h h0):RiseP K0 L P .top t K t.root t.root h0:=⟨rfl,H.rp,H.bal,H.ok,H.d,H.nd,H.it,H.pm,H.off⟩
theorem RiseP.hang {K0 K:KnL} {L:ItL} {P:List Nat} {cx:Cx} {t:PT} {r h:Int} {h0:Nat}(H:RiseP K0 L P cx t K r h h0) {p:Nat} {b:Bool}(hl:cx.last=some (p,b))(z:Int): ∃k,K[p]? =some k∧RiseP K0 L P cx t (K.set p (k.put b z)) r z h0:=by
 obtain⟨nd1,nd2,nd3⟩:=List.nodup_append.1 H.nd
 obtain⟨k,h1,h2⟩:=H.rc.hang (z:=z) hl nd2
 have hp:=Cx.last_mem hl
 refine⟨k,h1,h2,H.rp.set (fun e=>nd3 p e p hp rfl) _,H.bal,H.ok,H.d,H.nd,H.it,H.pm,fun j hj=> ?_⟩
 rw [List.getElem?_set_ne,H.off j hj]
 intro e
 exact hj (H.pm.mem_iff.1 (List.mem_append_right _ (by rw [←e];exact hp)))
end Corr

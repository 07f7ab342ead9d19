/- Contracts of corrodyref09 -/
import Derived.Test.YthagdonmijhpdaaGreatAvKnown
import Derived.Test.YthagdonmijhpdaaGreatAkVac
import Derived.Test.YthagdonmijhpdaaGreatAk3
open Go.Lib (hid)
set_option linter.unusedSimpArgs false
set_option linter.unusedVariables false
set_option maxHeartbeats 4000000
set_option maxRecDepth 8000
namespace Corr
open Go Go.RowKit
def overB (a b:Int)(y:It):Bool:=decide (a<b) && (decide (y.1<b) && decide (a<y.2.1))
end Corr
namespace Go.Proofs.YthagdonmijhpdaaGreat
open Go.RowKit Corr
end Go.Proofs.YthagdonmijhpdaaGreat
namespace Corr
open Go Go.RowKit
def oneI (o:Option It):Value:= .tuple #[itV (o.getD (0,0,0)),.bool o.isSome]
end Corr
namespace Go.Proofs.YthagdonmijhpdaaGreat
open Go.RowKit Corr
end Go.Proofs.YthagdonmijhpdaaGreat
namespace Corr
open Go Go.RowKit
def lowI:Int:=-9223372036854775808
def okL (l:ItL):Prop:=∀y∈l,lowI≤y.1∧y.1<y.2.1
abbrev hitB (low:Int)(E:Int→Bool)(y:It):Bool:=decide (low<y.2.1) && E y.1
def nextI (x:It)(low:Int)(E:Int→Bool)(l:ItL):Option It:=l.find? (fun y=>lessB x y && hitB low E y)
theorem topL_le: ∀ {l:ItL} {x:It},x∈l→x.2.1≤topL l
 | [],x,h=>absurd h List.not_mem_nil
 | [y],x,h=>by
  obtain rfl:x=y:=by simpa using h
  exact Int.le_refl _
 | y :: z :: r,x,h=>by
  rw [ζ2h y (List.cons_ne_nil z r)]
  rcases List.mem_cons.1 h with rfl | h
  ·omega
  ·have:=topL_le h;omega
theorem less_1 {x y:It}(h:x.1<y.1):lessB x y=true:=by unfold lessB;rw [if_neg (by omega),decide_eq_true h]
theorem less_2 {x y:It}(h:x.1=y.1)(h2:x.2.1<y.2.1):lessB x y=true:=by unfold lessB;rw [if_pos h,if_neg (by omega),decide_eq_true h2]
theorem less_3 {x y:It}(h:x.1=y.1)(h2:x.2.1=y.2.1)(h3:x.2.2<y.2.2):lessB x y=true:=by unfold lessB;rw [if_pos h,if_pos h2,decide_eq_true h3]
theorem lessB_tri {x y:It} :lessB x y=true∨x=y∨lessB y x=true:=by
 rcases Int.lt_trichotomy x.1 y.1 with h | h | h
 ·exact .inl (less_1 h)
 ·rcases Int.lt_trichotomy x.2.1 y.2.1 with h2 | h2 | h2
  ·exact .inl (less_2 h h2)
  ·rcases Int.lt_trichotomy x.2.2 y.2.2 with h3 | h3 | h3
   ·exact .inl (less_3 h h2 h3)
   ·exact .inr (.inl (Prod.ext h (Prod.ext h2 h3)))
   ·exact .inr (.inr (less_3 h.symm h2.symm h3))
  ·exact .inr (.inr (less_2 h.symm h2))
 ·exact .inr (.inr (less_1 h))
theorem ordI_neg {x y:It} :ordI x y<0↔lessB x y=true:=by
 constructor
 ·intro h
  rcases lessB_tri (x:=x) (y:=y)with h1 | h1 | h1
  ·exact h1
  ·have:=ordI_zero.2 h1;omega
  ·have:=ordI_pos.2 h1;omega
 ·intro h
  rcases Int.lt_trichotomy (ordI x y) 0 with h1 | h1 | h1
  ·exact h1
  ·have:=ordI_zero.1 h1;subst this;rw [ζe]at h;cases h
  ·have:=ζm (ordI_pos.1 h1) h;rw [ζe]at this;cases this
theorem not_less {x y z:It}(h:lessB x y=false)(hz:lessB z y=true):lessB x z=false:=by
 cases e:lessB x z with
 | false=>rfl
 | true=>have:=ζm e hz;rw [h]at this;cases this
theorem less_from {x y:It}(h:lessB x y=true):x.1≤y.1:=by
 have:=ordI_neg.2 h
 unfold ordI orI cmpZ at this
 revert this
 split <;> (try split) <;> (try split) <;> intro h <;> omega
def tailI:PT→ItL
 | .nil=> []
 | .node _ _ y b=>y :: b.items
def remI (s:PT)(st:List PT):ItL:=s.items++st.flatMap tailI
def okD (H:Nat):List PT→Prop
 | []=>True
 | u :: r=>u.height+r.length≤H∧okD H r
def msI (s:PT)(st:List PT):Nat:=2*s.items.length+(st.map fun u=>2*(tailI u).length-1).sum
structure NxI (x:It)(low:Int)(E:Int→Bool)(H:Nat)(s:PT)(st:List PT)(r:Option It):Prop where
 up:srt (remI s st)
 nx:nextI x low E (remI s st)=r
 gt: ∀u∈st,∃a q y b,u= .node a q y b∧lessB x y=true
 hs:s.height+st.length≤H
 hd:okD H st
section
variable {x:It} {low:Int} {E:Int→Bool} {H:Nat} {s a b:PT} {q:Nat} {y:It} {st:List PT} {r:Option It}
theorem NxI.start {t:PT}(h:srt t.items):NxI x low E t.height t [] (nextI x low E t.items):=
 ⟨by simpa [remI]using h,by simp [remI],fun _ h=>absurd h List.not_mem_nil,by simp,trivial⟩
theorem rem_push:remI a (.node a q y b :: st)=remI (.node a q y b) st:=by simp [remI,tailI,PT.items]
theorem NxI.push (h:NxI x low E H (.node a q y b) st r)(hx:lessB x y=true):NxI x low E H a (.node a q y b :: st) r:=by
 have hh:=h.hs
 simp only [PT.height]at hh
 refine⟨by rw [rem_push];exact h.up,by rw [rem_push];exact h.nx,fun u hu=> ?_,by simp;omega,⟨by simpa [PT.height]using h.hs,h.hd⟩⟩
 rcases List.mem_cons.1 hu with rfl | hu
 ·exact⟨_,_,_,_,rfl,hx⟩
 ·exact h.gt u hu
theorem srt_right {l r:ItL}(h:srt (l++r)):srt r:=(List.pairwise_append.1 h).2.1
theorem rem_node:remI (.node a q y b) st=(a.items++ [y])++remI b st:=by simp [remI,PT.items]
theorem NxI.right (h:NxI x low E H (.node a q y b) st r)(hx:lessB x y=false):NxI x low E H b st r:=by
 have hh:=h.hs
 simp only [PT.height]at hh
 have hs:=h.up
 refine⟨by rw [rem_node]at hs;exact srt_right hs,?_,h.gt,by omega,h.hd⟩
 have hn:=h.nx
 rw [rem_node]at hn hs
 unfold nextI at hn ⊢
 rw [List.find?_append,List.find?_eq_none.2 ?_]at hn
 ·simpa using hn
 ·intro z hz
  have h1:=(List.pairwise_append.1 (List.pairwise_append.1 hs).1).2.2
  have:lessB x z=false:=by
   rcases List.mem_append.1 hz with hz | hz
   ·exact not_less hx (h1 z hz y (by simp))
   ·obtain rfl:z=y:=by simpa using hz
    exact hx
  rw [this];simp
theorem NxI.skip (h:NxI x low E H s st r)(hs: ∀y∈s.items,y.2.1≤low):nextI x low E (st.flatMap tailI)=r:=by
 have hn:=h.nx
 unfold nextI remI at hn
 rw [List.find?_append,List.find?_eq_none.2 ?_]at hn
 ·exact hn
 ·intro z hz
  have:=hs z hz
  simp only [hitB]
  rw [decide_eq_false (by omega)];simp
theorem NxI.over (h:NxI x low E H s [] r)(hs: ∀y∈s.items,y.2.1≤low):r= .none:=by
 rw [←h.skip hs];rfl
theorem NxI.late (h:NxI x low E H s (.node a q y b :: st) r)(hs: ∀y∈s.items,y.2.1≤low)(hE: ∀i j,i≤j→E j=true→E i=true)(he:E y.1=false):r=none:=by
 rw [←h.skip hs]
 unfold nextI
 rw [List.find?_eq_none]
 intro z hz
 have h1:=srt_right h.up
 have:E z.1=false:=by
  have h2:z=y∨lessB y z=true:=by
   rw [List.flatMap_cons,show tailI (.node a q y b)=y :: b.items from rfl,List.cons_append]at h1 hz
   rcases List.mem_cons.1 hz with hz | hz
   ·exact .inl hz
   ·exact .inr ((List.pairwise_cons.1 h1).1 z hz)
  rcases h2 with rfl | h2
  ·exact he
  ·cases e:E z.1 with
   | false=>rfl
   | true=>have:=hE _ _ (less_from h2) e;rw [he]at this;cases this
 simp [hitB,this]
theorem NxI.here (h:NxI x low E H s (.node a q y b :: st) r)(hs: ∀y∈s.items,y.2.1≤low)(he:E y.1=true)(ht:low<y.2.1):r=some y:=by
 rw [←h.skip hs]
 obtain⟨a',q',y',b',e,hx⟩:=h.gt _ List.mem_cons_self
 injection e with _ _ e _
 subst e
 unfold nextI
 rw [List.flatMap_cons,show tailI (.node a q y b)=y :: b.items from rfl,List.cons_append,List.find?_cons_of_pos]
 simp [hx,hitB,he,ht]
theorem NxI.pop (h:NxI x low E H s (.node a q y b :: st) r)(hs: ∀y∈s.items,y.2.1≤low)(ht:y.2.1≤low):NxI x low E H b st r:=by
 have h1:=srt_right h.up
 have h2:=h.skip hs
 have h3:=h.hd.1
 simp only [PT.height]at h3
 rw [List.flatMap_cons,show tailI (.node a q y b)=y :: b.items from rfl,List.cons_append]at h1 h2
 refine⟨(List.pairwise_cons.1 h1).2,?_,fun u hu=>h.gt u (List.mem_cons_of_mem _ hu),by omega,h.hd.2⟩
 unfold nextI at h2
 rw [List.find?_cons_of_neg]at h2
 ·exact h2
 ·simp only [hitB]
  rw [decide_eq_false (by omega)];simp
theorem NxI.room (h:NxI x low E H (.node a q y b) st r)(hH:H≤28):st.length<28:=by
 have:=h.hs
 simp only [PT.height]at this;omega
theorem ms_push:msI a (.node a q y b :: st)<msI (.node a q y b) st:=by
 simp only [msI,List.map_cons,List.sum_cons,tailI,PT.items,List.length_append,List.length_cons];omega
theorem ms_right:msI b st<msI (.node a q y b) st:=by
 simp only [msI,PT.items,List.length_append,List.length_cons];omega
theorem ms_pop:msI b st<msI s (.node a q y b :: st):=by
 simp only [msI,List.map_cons,List.sum_cons,tailI,List.length_cons];omega
end
theorem next_at {x:It} {low:Int} {E:Int→Bool} {l:ItL}(h:srt l) {k:Nat}(hx:(k=0∧∀y∈l,lessB x y=true)∨(∃j,k=j+1∧(l.filter (hitB low E))[j]? =some x)):nextI x low E l=(l.filter (hitB low E))[k]? :=by
 have e:nextI x low E l=((l.filter (hitB low E)).filter (lessB x)).head? :=by
  unfold nextI
  rw [List.filter_filter,←List.head?_filter]
 rw [e]
 have hs:srt (l.filter (hitB low E)):=List.Pairwise.filter _ h
 generalize hL:l.filter (hitB low E)=L at*
 rcases hx with⟨rfl,hx⟩ | ⟨j,rfl,hj⟩
 ·rw [List.filter_eq_self.2 (fun y hy=>hx y (by rw [←hL]at hy;exact(List.mem_filter.1 hy).1)),List.head?_eq_getElem?]
 ·have hk:=(List.getElem?_eq_some_iff.1 hj).1
  have eL:L=(L.take j++ [x])++L.drop (j+1):=by
   have:L.drop j=x :: L.drop (j+1):=by rw [List.drop_eq_getElem_cons hk,(List.getElem?_eq_some_iff.1 hj).2]
   rw [List.append_assoc,List.singleton_append,←this,List.take_append_drop]
  have h1:L.filter (lessB x)=L.drop (j+1):=by
   rw [eL]at hs
   obtain⟨p1,p2,p3⟩:=List.pairwise_append.1 hs
   have q1:(L.take j++ [x]).filter (lessB x)= []:=by
    rw [List.filter_eq_nil_iff]
    intro z hz hxz
    rcases List.mem_append.1 hz with hz | hz
    ·have h5:=(List.pairwise_append.1 p1).2.2 z hz x (by simp)
     have:=ζm hxz h5
     rw [ζe]at this;cases this
    ·obtain rfl:z=x:=by simpa using hz
     rw [ζe]at hxz;cases hxz
   have q2:(L.drop (j+1)).filter (lessB x)=L.drop (j+1):=by
    rw [List.filter_eq_self]
    intro z hz
    exact p3 x (by simp) z hz
   calc L.filter (lessB x)=((L.take j++ [x])++L.drop (j+1)).filter (lessB x):=by rw [←eL]
    _=L.drop (j+1):=by rw [List.filter_append,q1,q2,List.nil_append]
  rw [h1,List.head?_drop]
theorem low_less {l:ItL}(h:okL l): ∀y∈l,lessB (lowI,lowI,lowI) y=true:=by
 intro y hy
 obtain⟨h1,h2⟩:=h y hy
 rcases Int.lt_or_eq_of_le h1 with e | e
 ·exact less_1 e
 ·exact less_2 e (by show lowI<y.2.1;omega)
structure PlV (vs:Array Value)(l:List Nat):Prop where
 sz:vs.size=29
 cnt:vs.toList[28]? =some (.int .i64 (l.length:Int))
 le:l.length≤28
 at_: ∀(i p:Nat),l[i]? =some p→vs.toList[i]? =some (Value.int .i64 (p:Int))
def zeroPl:Array Value:=(List.replicate 29 (Value.int .i64 0)).toArray
theorem PlV.zero:PlV zeroPl []:=⟨rfl,rfl,by simp,fun i p h=>by simp at h⟩
theorem PlV.push {vs:Array Value} {l:List Nat}(h:PlV vs l)(hl:l.length<28)(p:Nat):PlV ((vs.setIfInBounds l.length (.int .i64 (p:Int))).setIfInBounds 28 (.int .i64 ((l.length:Int)+1))) (l++ [p]):=by
 have hs:vs.toList.length=29:=by simpa using h.sz
 refine⟨by simpa using h.sz,?_,by simp;omega,?_⟩
 ·simp only [Array.toList_setIfInBounds]
  rw [List.getElem?_set_self (by simp [h.sz])]
  simp
 ·intro i q hi
  simp only [Array.toList_setIfInBounds]
  rcases Nat.lt_or_ge i l.length with h1 | h1
  ·rw [List.getElem?_append_left h1]at hi
   rw [List.getElem?_set_ne (by omega),List.getElem?_set_ne (by omega)]
   exact h.at_ i q hi
  ·have e:i=l.length:=by
    have:=(List.getElem?_eq_some_iff.1 hi).1
    simp at this;omega
   subst e
   rw [List.getElem?_append_right (Nat.le_refl _),Nat.sub_self]at hi
   obtain rfl:p=q:=by simpa using hi
   rw [List.getElem?_set_ne (by omega),List.getElem?_set_self (by omega)]
theorem PlV.pop {vs:Array Value} {l:List Nat} {p:Nat}(h:PlV vs (l++ [p])):PlV (vs.setIfInBounds 28 (.int .i64 (l.length:Int))) l:=by
 have hle:=h.le
 simp at hle
 refine⟨by simpa using h.sz,?_,by omega,?_⟩
 ·simp only [Array.toList_setIfInBounds]
  rw [List.getElem?_set_self (by simp [h.sz])]
 ·intro i q hi
  have hi':=(List.getElem?_eq_some_iff.1 hi).1
  have:=h.at_ i q (by rw [List.getElem?_append_left hi'];exact hi)
  simp only [Array.toList_setIfInBounds]
  rw [List.getElem?_set_ne (by omega)]
  exact this
def PlM (w:World)(g:Nat)(l:List Nat):Prop:=∃vs,Blk w g vs∧PlV vs l
section
variable {w w':World} {g:Nat} {l:List Nat}
theorem PlM.sz (h:PlM w g l):g<w.heap.size:=by obtain⟨_,h,_⟩:=h;exact h.sz
theorem PlM.keep (h:PlM w g l)(hb:Below w.heap.size w w'):PlM w' g l:=by obtain⟨vs,h1,h2⟩:=h;exact⟨vs,h1.keep hb,h2⟩
end
end Corr
namespace Go.Proofs.YthagdonmijhpdaaGreat
open Go.RowKit Corr
theorem ipush_any (g:Nat)(l:List Nat)(p:Nat)(w:World)(W:PlM w g l)(hl:l.length<28):Calls Tryz.prog 144 #[.pointer (some ⟨g,0,none⟩),.int .i64 (p:Int)] w fun e w'=>e= .returned (.tuple #[])∧PlM w' g (l++ [p])∧Off (· =g) w w':=by
 obtain⟨vs,B,V⟩:=W
 have HV:=hid V
 have hg:=B.sz
 obtain⟨k,hk⟩: ∃k,l.length=k:=⟨_,rfl⟩
 have HK:=hid hk
 have c28:=B.get 28 (by have:=V.cnt;rw [hk]at this;exact this)
 have HB1:=hid B
 have f0:=B.f k
 have f2:=B.f 28
 have hk1:k<28:=by omega
 have j0:decide ((k:Int)<0)=false:=decide_eq_false (by omega)
 have j1:(0:Int)≤(k:Int):=by omega
 have j2:(k:Int)<28:=by omega
 have j3:((k:Int)).toNat=k:=by omega
 obtain⟨v0,hv0⟩: ∃v,vs.toList[k]? =some v:=⟨_,List.getElem?_eq_getElem (by rw [Array.length_toList,V.sz];omega)⟩
 have y0:=B.get _ hv0
 clear hv0 V B hk
 go_enter Tryz.func144,Tryz.ntmps144
 go_upto_region 0 with fail
 go_region
 have HB2:=hid ((HB1.out.set k (.int .i64 (p:Int))).drew)
 have HO2:=hid ((Off.set (w:=w) (F:=(· =g)) (a:=⟨g,k,none⟩) rfl (.int .i64 (p:Int))).drew)
 have z28:((w.setCell ⟨g,k,none⟩ (.int .i64 (p:Int))).drew).cell? ⟨g,28,none⟩=some (.int .i64 (k:Int)):=HB2.out.get 28 (by
  simp only [Array.toList_setIfInBounds]
  rw [List.getElem?_set_ne (by omega)]
  have:=HV.out.cnt;rw [HK.out]at this;exact this)
 have f3:=HB2.out.f 28
 generalize (w.setCell ⟨g,k,none⟩ (.int .i64 (p:Int))).drew=wr at*
 clear c28 f0 f2 y0
 go_wp2_with fail
 go_end0
 refine⟨rfl,⟨_,HB2.out.set 28 _,?_⟩,HO2.out.trans (Off.set (F:=(· =g)) (a:=⟨g,28,none⟩) rfl _)⟩
 have:=HV.out.push (by rw [HK.out];omega) p
 rw [HK.out]at this
 exact this
theorem ipop_any (g:Nat)(l:List Nat)(p:Nat)(w:World)(W:PlM w g (l++ [p])):Calls Tryz.prog 145 #[.pointer (some ⟨g,0,none⟩)] w fun e w'=>e= .returned (.int .i64 (p:Int))∧PlM w' g l∧Off (· =g) w w':=by
 obtain⟨vs,B,V⟩:=W
 have HV:=hid V
 have hg:=B.sz
 obtain⟨k,hk⟩: ∃k,l.length=k:=⟨_,rfl⟩
 have HK:=hid hk
 have hk1:k<28:=by have:=V.le;simp at this;omega
 have hat:=V.at_ k p (by rw [List.getElem?_append_right (by omega),hk,Nat.sub_self];rfl)
 have hcn:vs.toList[28]? =some (.int .i64 ((k:Int)+1)):=by have:=V.cnt;rw [List.length_append,hk]at this;exact this
 have HB1:=hid B
 have c28:=B.get 28 hcn
 have f28:=B.f 28
 have j0:decide ((k:Int)<0)=false:=decide_eq_false (by omega)
 have j1:(0:Int)≤(k:Int):=by omega
 have j2:(k:Int)<28:=by omega
 have j3:((k:Int)).toNat=k:=by omega
 have HA:=hid hat
 clear V B hk hcn hat
 go_enter Tryz.func145,Tryz.ntmps145
 go_upto_region 2 with fail
 have HB2:=hid (HB1.out.set 28 (.int .i64 (k:Int)))
 have HO2:=hid (Off.set (w:=w) (F:=(· =g)) (a:=⟨g,28,none⟩) rfl (.int .i64 (k:Int)))
 have z28:=HB2.out.get 28 (v:= .int .i64 (k:Int)) (by rw [Array.toList_setIfInBounds,List.getElem?_set_self (by rw [Array.length_toList,HV.out.sz];omega)])
 have y0:=HB2.out.get k (v:= .int .i64 (p:Int)) (by rw [Array.toList_setIfInBounds,List.getElem?_set_ne (by omega)];exact HA.out)
 generalize w.setCell ⟨g,28,none⟩ (.int .i64 (k:Int))=wr at*
 clear c28 f28
 go_region
 have HB3:=hid HB2.out.drew
 go_wp2_with fail
 refine bodyPost_ret (results_tmp rfl _ _ _) rfl ⟨rfl,⟨_,HB3.out,?_⟩,HO2.out.drew⟩
 have:=HV.out.pop
 rw [HK.out]at this
 exact this
theorem iorder_any (x y:It)(w:World):Calls Tryz.prog 143 #[itV x,itV y] w fun e w'=>e= .returned (.int .i64 (ordI x y))∧Below w.heap.size w w':=by
 obtain⟨x1,x2,x3⟩:=x
 obtain⟨y1,y2,y3⟩:=y
 have S0:=((Mem.start w).push #[.int .i64 x1,.int .i64 x2,.int .i64 x3] 141).push #[.int .i64 y1,.int .i64 y2,.int .i64 y3] 141
 simp only [ζd]at S0
 have HS:=hid S0
 have HE:=hid (show ordI (x1,x2,x3) (y1,y2,y3)=orI (cmpZ x1 y1) (cmpZ x2 y2) (cmpZ x3 y3)from rfl)
 rw [HE.out]
 obtain⟨p1,hp1⟩: ∃p,cmpZ x1 y1=p:=⟨_,rfl⟩
 obtain⟨p2,hp2⟩: ∃p,cmpZ x2 y2=p:=⟨_,rfl⟩
 obtain⟨p3,hp3⟩: ∃p,cmpZ x3 y3=p:=⟨_,rfl⟩
 have HC1:=hid (fun w=>by have:=ζ17 x1 y1 w;rw [hp1]at this;exact this)
 have HC2:=hid (fun w=>by have:=ζ17 x2 y2 w;rw [hp2]at this;exact this)
 have HC3:=hid (fun w=>by have:=ζ17 x3 y3 w;rw [hp3]at this;exact this)
 rw [hp1,hp2,hp3]
 clear hp1 hp2 hp3 HE S0
 go_enter Tryz.func143,Tryz.ntmps143
 go_upto_region 1 with fail
 have hne:w.heap.size≠w.heap.size+1:=by omega
 generalize w.heap.size=hx at*
 generalize hx+1=hy at*
 generalize hwq:(w.alloc (.cells #[.int .i64 x1,.int .i64 x2,.int .i64 x3] 141)).alloc (.cells #[.int .i64 y1,.int .i64 y2,.int .i64 y3] 141)=wq at*
 clear hwq
 refine ζ4 15 (MemAt w wq.heap.size [(hx,#[.int .i64 x1,.int .i64 x2,.int .i64 x3]),(hy,#[.int .i64 y1,.int .i64 y2,.int .i64 y3])] [])
  (fun i=>List.getD [VE (.pointer (some ⟨hx,0,none⟩)),VE (.int .i64 x1),VE (.pointer (some ⟨hy,0,none⟩)),VE (.int .i64 y1),VE (.int .i64 p1),VE (.pointer (some ⟨hx,1,none⟩)),VE (.int .i64 x2),VE (.pointer (some ⟨hy,1,none⟩)),VE (.int .i64 y2),VE (.int .i64 p2),VE (.pointer (some ⟨hx,2,none⟩)),VE (.int .i64 x3),VE (.pointer (some ⟨hy,2,none⟩)),VE (.int .i64 y3),VE (.int .i64 p3)] i (fun _ _=>False)) [] [0,2,5,7,10,12] (by kernel_rfl) (by kernel_rfl) HS.out.at (fun _ _ h hb=>h.grow hb)
  stA ⟨?_,?_,?_,?_,?_,?_,?_,?_,?_,?_,?_,?_,?_,?_,?_,trivial⟩ ?_
 ·exact rU [2]
 ·exact rL [] fun hw=>hw.m.c 0 0 rfl rfl
 ·exact rU [3]
 ·exact rL [] fun hw=>hw.m.c 1 0 rfl rfl
 ·intro ev wv hE hw hd
  refine rC (f:=51) (args:= #[.int .i64 x1,.int .i64 y1]) [] hE hd (HC1.out _) ?_
  rintro e w' ⟨rfl,hb⟩
  exact⟨_,rfl,hb,rfl,fun h=>by cases h⟩
 ·exact rU [2]
 ·exact rL [] fun hw=>hw.m.c 0 1 rfl rfl
 ·exact rU [3]
 ·exact rL [] fun hw=>hw.m.c 1 1 rfl rfl
 ·intro ev wv hE hw hd
  refine rC (f:=51) (args:= #[.int .i64 x2,.int .i64 y2]) [] hE hd (HC2.out _) ?_
  rintro e w' ⟨rfl,hb⟩
  exact⟨_,rfl,hb,rfl,fun h=>by cases h⟩
 ·exact rU [2]
 ·exact rL [] fun hw=>hw.m.c 0 2 rfl rfl
 ·exact rU [3]
 ·exact rL [] fun hw=>hw.m.c 1 2 rfl rfl
 ·intro ev wv hE hw hd
  refine rC (f:=51) (args:= #[.int .i64 x3,.int .i64 y3]) [] hE hd (HC3.out _) ?_
  rintro e w' ⟨rfl,hb⟩
  exact⟨_,rfl,hb,rfl,fun h=>by cases h⟩
 ·intro w1 hw
  iterate 15 rintro _ rfl _
  simp only [zA]
  change wpList Tryz.prog _ _ _ _ w1
  have HM:=hid (hw.m.push #[.int .i64 p1,.int .i64 p2,.int .i64 p3] 3)
  clear hw
  go_wp2_with fail
  refine(or_any _ p1 p2 p3 _ (HM.out.b 2 rfl)).mono ?_
  rintro e w2 ⟨rfl,rfl⟩
  have HF:=hid HM.out.bl
  clear HM
  go_wp2_with fail
  refine ζ2 ?_
  go_wp2_with fail
  go_ret
  exact⟨rfl,HF.out⟩
end Go.Proofs.YthagdonmijhpdaaGreat

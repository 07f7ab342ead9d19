/- What find tells of a tree. Plain. The last node goes to an empty place. Plain. -/
import Derived.Test.YthagdonmijhpdaaGreatAk4
import Derived.Test.YthagdonmijhpdaaGreatAkRise
import Derived.Test.YthagdonmijhpdaaGreatAk12
set_option linter.unusedVariables false
namespace Corr
open Go Go.RowKit
theorem ζ34 {a b:Int} :cmpZ a b=0↔a=b:=by unfold cmpZ;constructor <;> intro h <;> split at* <;> (try split at *) <;> omega
theorem cmpZ_pos {a b:Int} :0<cmpZ a b↔b<a:=by unfold cmpZ;constructor <;> intro h <;> split at* <;> (try split at *) <;> omega
theorem ordI_zero {x y:It} :ordI x y=0↔x=y:=by
 obtain⟨x1,x2,x3⟩:=x
 obtain⟨y1,y2,y3⟩:=y
 unfold ordI orI
 simp only [ζ34,Prod.mk.injEq]
 split
 ·split
  ·rw [ζ34];simp_all
  ·rw [ζ34];simp_all
 ·rw [ζ34];simp_all
theorem ordI_pos {x y:It} :0<ordI x y↔lessB y x=true:=by
 obtain⟨x1,x2,x3⟩:=x
 obtain⟨y1,y2,y3⟩:=y
 unfold ordI orI
 rw [lessB_iff]
 simp only [ζ34]
 split
 ·split
  ·rw [cmpZ_pos];omega
  ·rw [cmpZ_pos];omega
 ·rw [cmpZ_pos];omega
def Cx.addL:Cx→Nat→It→PT→Cx
 | .top,p,x,r=> .L .top p x r
 | .L c q y s,p,x,r=> .L (c.addL p x r) q y s
 | .R c s q y,p,x,r=> .R (c.addL p x r) s q y
def Cx.addR:Cx→PT→Nat→It→Cx
 | .top,l,p,x=> .R .top l p x
 | .L c q y s,l,p,x=> .L (c.addR l p x) q y s
 | .R c s q y,l,p,x=> .R (c.addR l p x) s q y
theorem Cx.addL_plug (c:Cx)(p:Nat)(x:It)(r:PT): ∀t,(c.addL p x r).plug t= .node (c.plug t) p x r:=by
 induction c with
 | top=>intro t;rfl
 | L c q y s ih=>intro t;exact ih _
 | R c s q y ih=>intro t;exact ih _
theorem Cx.addR_plug (c:Cx)(p:Nat)(x:It)(l:PT): ∀t,(c.addR l p x).plug t= .node l p x (c.plug t):=by
 induction c with
 | top=>intro t;rfl
 | L c q y s ih=>intro t;exact ih _
 | R c s q y ih=>intro t;exact ih _
theorem Cx.addL_way (c:Cx)(p:Nat)(x:It)(r:PT):(c.addL p x r).way=(p,false) :: c.way:=by
 induction c with
 | top=>rfl
 | L c q y s ih=>simp [Cx.addL,Cx.way,ih]
 | R c s q y ih=>simp [Cx.addL,Cx.way,ih]
theorem Cx.addR_way (c:Cx)(p:Nat)(x:It)(l:PT):(c.addR l p x).way=(p,true) :: c.way:=by
 induction c with
 | top=>rfl
 | L c q y s ih=>simp [Cx.addR,Cx.way,ih]
 | R c s q y ih=>simp [Cx.addR,Cx.way,ih]
theorem Cx.addL_bef (c:Cx)(p:Nat)(x:It)(r:PT):(c.addL p x r).bef=c.bef:=by
 induction c with
 | top=>rfl
 | L c q y s ih=>simp [Cx.addL,Cx.bef,ih]
 | R c s q y ih=>simp [Cx.addL,Cx.bef,ih]
theorem Cx.addL_aft (c:Cx)(p:Nat)(x:It)(r:PT):(c.addL p x r).aft=c.aft++x :: r.items:=by
 induction c with
 | top=>simp [Cx.addL,Cx.aft]
 | L c q y s ih=>simp [Cx.addL,Cx.aft,ih]
 | R c s q y ih=>simp [Cx.addL,Cx.aft,ih]
theorem Cx.addR_bef (c:Cx)(p:Nat)(x:It)(l:PT):(c.addR l p x).bef=l.items++x :: c.bef:=by
 induction c with
 | top=>simp [Cx.addR,Cx.bef]
 | L c q y s ih=>simp [Cx.addR,Cx.bef,ih]
 | R c s q y ih=>simp [Cx.addR,Cx.bef,ih]
theorem Cx.addR_aft (c:Cx)(p:Nat)(x:It)(l:PT):(c.addR l p x).aft=c.aft:=by
 induction c with
 | top=>rfl
 | L c q y s ih=>simp [Cx.addR,Cx.aft,ih]
 | R c s q y ih=>simp [Cx.addR,Cx.aft,ih]
theorem srt_node {l r:ItL} {x:It}(h:srt (l++x :: r)):srt l∧srt r∧(∀y∈l,lessB y x=true)∧(∀y∈r,lessB x y=true):=by
 unfold srt at*
 rw [List.pairwise_append]at h
 obtain⟨h1,h2,h3⟩:=h
 rw [List.pairwise_cons]at h2
 exact⟨h1,h2.2,fun y hy=>h3 y hy x (by simp),h2.1⟩
theorem find_has {K:KnL} {x:It} : ∀ {t:PT},Rp K t→srt t.items→x∈t.items→∃(c:Cx) (l:PT) (p:Nat) (r:PT),c.plug (.node l p x r)=t∧Pth K x t.root c.way (p:Nat)
 | .nil,_,_,h=>by simp [PT.items]at h
 | .node l q y r,h,hs,hx=>by
  obtain⟨h1,h2,h3⟩:=h
  obtain⟨s1,s2,s3,s4⟩:=srt_node hs
  simp only [PT.items,List.mem_append,List.mem_cons]at hx
  by_cases e:x=y
  ·subst e
   exact⟨.top,l,q,r,rfl,.here h1 (ordI_zero.2 rfl)⟩
  ·have hne:ordI x y≠0:=fun e'=>e (ordI_zero.1 e')
   rcases hx with hx | hx | hx
   ·obtain⟨c,l',p,r',e1,e2⟩:=find_has h2 s1 hx
    refine⟨c.addL q y r,l',p,r',by rw [Cx.addL_plug,e1],?_⟩
    rw [Cx.addL_way]
    refine .down false h1 hne ?_ e2
    rw [eq_comm,decide_eq_false_iff_not]
    intro e3
    rw [ordI_pos]at e3
    have:=ζm e3 (s3 x hx)
    rw [ζe]at this;cases this
   ·exact absurd hx e
   ·obtain⟨c,l',p,r',e1,e2⟩:=find_has h3 s2 hx
    refine⟨c.addR l q y,l',p,r',by rw [Cx.addR_plug,e1],?_⟩
    rw [Cx.addR_way]
    refine .down true h1 hne ?_ e2
    rw [eq_comm,decide_eq_true_iff,ordI_pos]
    exact s4 x hx
theorem find_not {K:KnL} {x:It} : ∀ {t:PT},Rp K t→srt t.items→¬x∈t.items→∃c:Cx,c.plug .nil=t∧Pth K x t.root c.way (-1)∧(∀y∈c.bef,lessB y x=true)∧(∀y∈c.aft,lessB x y=true)
 | .nil,_,_,_=>⟨.top,rfl,.none,fun y h=>by simp [Cx.bef]at h,fun y h=>by simp [Cx.aft]at h⟩
 | .node l q y r,h,hs,hx=>by
  obtain⟨h1,h2,h3⟩:=h
  obtain⟨s1,s2,s3,s4⟩:=srt_node hs
  simp only [PT.items,List.mem_append,List.mem_cons,not_or]at hx
  have hne:ordI x y≠0:=fun e'=>hx.2.1 (ordI_zero.1 e')
  by_cases e:lessB y x=true
  ·obtain⟨c,e1,e2,e3,e4⟩:=find_not h3 s2 hx.2.2
   refine⟨c.addR l q y,by rw [Cx.addR_plug,e1],?_,?_,?_⟩
   ·rw [Cx.addR_way]
    refine .down true h1 hne ?_ e2
    rw [eq_comm,decide_eq_true_iff,ordI_pos];exact e
   ·intro z hz
    rw [Cx.addR_bef,List.mem_append,List.mem_cons]at hz
    rcases hz with hz | rfl | hz
    ·exact ζm (s3 z hz) e
    ·exact e
    ·exact e3 z hz
   ·intro z hz
    rw [Cx.addR_aft]at hz
    exact e4 z hz
  ·have e':lessB x y=true:=by
    rcases lessB_or (a:=y) (b:=x) (by simpa using e)with h | h
    ·exact absurd h.symm hx.2.1
    ·exact h
   obtain⟨c,e1,e2,e3,e4⟩:=find_not h2 s1 hx.1
   refine⟨c.addL q y r,by rw [Cx.addL_plug,e1],?_,?_,?_⟩
   ·rw [Cx.addL_way]
    refine .down false h1 hne ?_ e2
    rw [eq_comm,decide_eq_false_iff_not,ordI_pos];exact e
   ·intro z hz
    rw [Cx.addL_bef]at hz
    exact e3 z hz
   ·intro z hz
    rw [Cx.addL_aft,List.mem_append,List.mem_cons]at hz
    rcases hz with hz | rfl | hz
    ·exact e4 z hz
    ·exact e'
    ·exact ζm e' (s4 z hz)
def RpX (K:KnL):Cx→PT→Prop
 | .top,_=>True
 | .L c p x r,t=>K[p]? =some ⟨x,t.root,r.root,((PT.node t p x r).height:Int),topL (PT.node t p x r).items⟩∧Rp K r∧RpX K c (.node t p x r)
 | .R c l p x,t=>K[p]? =some ⟨x,l.root,t.root,((PT.node l p x t).height:Int),topL (PT.node l p x t).items⟩∧Rp K l∧RpX K c (.node l p x t)
theorem RpX.of {K:KnL}(c:Cx): ∀t:PT,Rp K (c.plug t)↔Rp K t∧RpX K c t:=by
 induction c with
 | top=>intro t;exact⟨fun h=>⟨h,trivial⟩,fun h=>h.1⟩
 | L c p x r ih=>
  intro t
  rw [Cx.plug,ih]
  constructor
  ·rintro⟨⟨h1,h2,h3⟩,h4⟩;exact⟨h2,h1,h3,h4⟩
  ·rintro⟨h2,h1,h3,h4⟩;exact⟨⟨h1,h2,h3⟩,h4⟩
 | R c l p x ih=>
  intro t
  rw [Cx.plug,ih]
  constructor
  ·rintro⟨⟨h1,h2,h3⟩,h4⟩;exact⟨h3,h1,h2,h4⟩
  ·rintro⟨h3,h1,h2,h4⟩;exact⟨⟨h1,h2,h3⟩,h4⟩
theorem RpX.same {K K':KnL} : ∀ {c:Cx} {t:PT},RpX K c t→(∀q∈c.places,K'[q]? =K[q]?)→RpX K' c t
 | .top,_,_,_=>trivial
 | .L c p x r,t,h,hs=>⟨by rw [hs p (by simp [Cx.places])];exact h.1,h.2.1.same fun q hq=>hs q (by simp [Cx.places,hq]),h.2.2.same fun q hq=>hs q (by simp [Cx.places,hq])⟩
 | .R c l p x,t,h,hs=>⟨by rw [hs p (by simp [Cx.places])];exact h.1,h.2.1.same fun q hq=>hs q (by simp [Cx.places,hq]),h.2.2.same fun q hq=>hs q (by simp [Cx.places,hq])⟩
theorem RpX.congr {K:KnL} : ∀ {c:Cx} {t t':PT},RpX K c t→t'.root=t.root→t'.height=t.height→t'.items=t.items→RpX K c t'
 | .top,_,_,_,_,_,_=>trivial
 | .L c p x r,t,t',h,h1,h2,h3=>by
  have e1:(PT.node t' p x r).height=(PT.node t p x r).height:=by simp [PT.height,h2]
  have e2:(PT.node t' p x r).items=(PT.node t p x r).items:=by simp [PT.items,h3]
  exact⟨by rw [e1,e2,h1];exact h.1,h.2.1,RpX.congr h.2.2 rfl e1 e2⟩
 | .R c l p x,t,t',h,h1,h2,h3=>by
  have e1:(PT.node l p x t').height=(PT.node l p x t).height:=by simp [PT.height,h2]
  have e2:(PT.node l p x t').items=(PT.node l p x t).items:=by simp [PT.items,h3]
  exact⟨by rw [e1,e2,h1];exact h.1,h.2.1,RpX.congr h.2.2 rfl e1 e2⟩
theorem RpX.hang {K:KnL} {c:Cx} {t t':PT}(h:RpX K c t)(nd:c.places.Nodup)(h2:t'.height=t.height)(h3:t'.items=t.items) {p:Nat} {b:Bool}(hl:c.last=some (p,b)): ∃k,K[p]? =some k∧RpX (K.set p (k.put b t'.root)) c t':=by
 cases c with
 | top=>cases hl
 | L c q x r=>
  simp only [Cx.last,Option.some.injEq,Prod.mk.injEq]at hl
  obtain⟨rfl,rfl⟩:=hl
  simp only [Cx.places,List.nodup_cons,List.mem_append,not_or]at nd
  have e1:(PT.node t' q x r).height=(PT.node t q x r).height:=by simp [PT.height,h2]
  have e2:(PT.node t' q x r).items=(PT.node t q x r).items:=by simp [PT.items,h3]
  refine⟨_,h.1,?_,h.2.1.set nd.1.1 _,RpX.congr (h.2.2.same fun q' hq=>List.getElem?_set_ne fun e=>nd.1.2 (by rw [e];exact hq)) rfl e1 e2⟩
  rw [ζ6 h.1,e1,e2];rfl
 | R c l q x=>
  simp only [Cx.last,Option.some.injEq,Prod.mk.injEq]at hl
  obtain⟨rfl,rfl⟩:=hl
  simp only [Cx.places,List.nodup_cons,List.mem_append,not_or]at nd
  have e1:(PT.node l q x t').height=(PT.node l q x t).height:=by simp [PT.height,h2]
  have e2:(PT.node l q x t').items=(PT.node l q x t).items:=by simp [PT.items,h3]
  refine⟨_,h.1,?_,h.2.1.set nd.1.1 _,RpX.congr (h.2.2.same fun q' hq=>List.getElem?_set_ne fun e=>nd.1.2 (by rw [e];exact hq)) rfl e1 e2⟩
  rw [ζ6 h.1,e1,e2];rfl
theorem Cx.bal_congr (c:Cx): ∀ {t t':PT},(c.plug t).bal→t'.bal→t'.height=t.height→(c.plug t').bal:=by
 induction c with
 | top=>intro t t' _ h _;exact h
 | L c p x r ih=>
  intro t t' h h' e
  have h0:=(okC.of c _ h).1
  refine ih h ⟨h',h0.2.1,by rw [e];exact h0.2.2.1,by rw [e];exact h0.2.2.2⟩ (by simp [PT.height,e])
 | R c l p x ih=>
  intro t t' h h' e
  have h0:=(okC.of c _ h).1
  refine ih h ⟨h0.1,h',by rw [e];exact h0.2.2.1,by rw [e];exact h0.2.2.2⟩ (by simp [PT.height,e])
theorem pigeon: ∀(m:Nat) (l:List Nat),l.Nodup→(∀x∈l,x<m)→l.length≤m
 | 0,l,_,h=>by
  cases l with
  | nil=>simp
  | cons x r=>exact absurd (h x (by simp)) (by omega)
 | m+1,l,nd,h=>by
  by_cases hm:m∈l
  ·have h1:=pigeon m (l.erase m) (nd.erase m) fun x hx=>by
    have h2:=(List.Nodup.mem_erase_iff nd).1 hx
    have:=h x h2.2
    omega
   rw [List.length_erase_of_mem hm]at h1
   omega
  ·have h1:=pigeon m l nd fun x hx=>by
    have:=h x hx
    have:x≠m:=fun e=>hm (e▸hx)
    omega
   omega
theorem all_in {m:Nat} {l:List Nat}(nd:l.Nodup)(h: ∀x∈l,x<m)(hl:l.length=m) {j:Nat}(hj:j<m):j∈l:=by
 by_cases e:j∈l
 ·exact e
 ·have:=pigeon m (j :: l) (List.nodup_cons.2 ⟨e,nd⟩) fun x hx=>by
   rcases List.mem_cons.1 hx with rfl | hx
   ·exact hj
   ·exact h x hx
  simp at this;omega
theorem find_at {K:KnL} {p:Nat} : ∀ {t:PT},Rp K t→srt t.items→p∈t.places→∃(c:Cx) (l:PT) (x:It) (r:PT),c.plug (.node l p x r)=t∧Pth K x t.root c.way (p:Nat)
 | .nil,_,_,h=>by simp [PT.places]at h
 | .node l q y r,h,hs,hp=>by
  obtain⟨h1,h2,h3⟩:=h
  obtain⟨s1,s2,s3,s4⟩:=srt_node hs
  simp only [PT.places,List.mem_append,List.mem_cons]at hp
  by_cases e:p=q
  ·subst e
   exact⟨.top,l,y,r,rfl,.here h1 (ordI_zero.2 rfl)⟩
  ·rcases hp with hp | hp | hp
   ·obtain⟨c,l',x,r',e1,e2⟩:=find_at h2 s1 hp
    have hx:x∈l.items:=by rw [←e1,Cx.items];simp [PT.items]
    refine⟨c.addL q y r,l',x,r',by rw [Cx.addL_plug,e1],?_⟩
    rw [Cx.addL_way]
    refine .down false h1 (fun e3=> ?_) ?_ e2
    ·have e4:x=y:=ordI_zero.1 e3
     have:=s3 x hx
     rw [e4,ζe]at this;cases this
    ·rw [eq_comm,decide_eq_false_iff_not]
     intro e3
     rw [ordI_pos]at e3
     have:=ζm e3 (s3 x hx)
     rw [ζe]at this;cases this
   ·exact absurd hp e
   ·obtain⟨c,l',x,r',e1,e2⟩:=find_at h3 s2 hp
    have hx:x∈r.items:=by rw [←e1,Cx.items];simp [PT.items]
    refine⟨c.addR l q y,l',x,r',by rw [Cx.addR_plug,e1],?_⟩
    rw [Cx.addR_way]
    refine .down true h1 (fun e3=> ?_) ?_ e2
    ·have e4:x=y:=ordI_zero.1 e3
     have:=s4 x hx
     rw [e4,ζe]at this;cases this
    ·rw [eq_comm,decide_eq_true_iff,ordI_pos]
     exact s4 x hx
theorem Cx.root_of {c:Cx} {p:Nat} {b:Bool}(h:c.last=some (p,b)): ∀t t':PT,(c.plug t).root=(c.plug t').root:=by
 have key: ∀(c:Cx) (t t':PT),t.root=t'.root→(c.plug t).root=(c.plug t').root:=by
  intro c
  induction c with
  | top=>intro t t' e;exact e
  | L c q x r ih=>intro t t' e;exact ih _ _ rfl
  | R c l q x ih=>intro t t' e;exact ih _ _ rfl
 intro t t'
 cases c with
 | top=>cases h
 | L c q x r=>exact key c _ _ rfl
 | R c l q x=>exact key c _ _ rfl
theorem vac_pure {K:KnL} {t:PT} {m q:Nat}(hK:K.length=m+1)(h:Rp K t)(nd:(q :: t.places).Nodup)(len:t.places.length=m)(s:srt t.items)(b:t.bal)(hq:q≠m)(hq':q<m+1):
  ∃(c:Cx) (l:PT) (y:It) (r:PT),c.plug (.node l m y r)=t∧Pth K y t.root c.way (m:Nat)∧K[m]? =some ⟨y,l.root,r.root,((PT.node l m y r).height:Int),topL (PT.node l m y r).items⟩∧RpX K c (.node l m y r)∧c.places.Nodup∧q∉c.places∧m∉c.places∧
   ∀K1:KnL,RpX K1 c (.node l q y r)→(∀j,j∉c.places→K1[j]? =K[j]?)→K1.length=m+1→
    Rp ((K1.set q ⟨y,l.root,r.root,((PT.node l m y r).height:Int),topL (PT.node l m y r).items⟩).take m) (c.plug (.node l q y r))∧(c.plug (.node l q y r)).items=t.items∧(c.plug (.node l q y r)).bal∧(c.plug (.node l q y r)).places.Nodup∧(c.plug (.node l q y r)).places.length=m:=by
 have hm:m∈t.places:=by
  have h1:m∈q :: t.places:=all_in (m:=m+1) nd (fun x hx=>by
   rcases List.mem_cons.1 hx with rfl | hx
   ·exact hq'
   ·have:=h.lt x hx;omega) (by simp [len]) (by omega)
  rcases List.mem_cons.1 h1 with e | e
  ·exact absurd e.symm hq
  ·exact e
 obtain⟨c,l,y,r,e1,e2⟩:=find_at h s hm
 subst e1
 obtain⟨h1,h2⟩:=(RpX.of c _).1 h
 obtain⟨ndq,ndt⟩:=List.nodup_cons.1 nd
 have ndp:((PT.node l m y r).places++c.places).Nodup:=(c.perm _).nodup_iff.1 ndt
 obtain⟨n1,n2,n3⟩:=List.nodup_append.1 ndp
 have hqm:q∉(PT.node l m y r).places∧q∉c.places:=⟨fun e=>ndq ((c.perm _).mem_iff.2 (List.mem_append_left _ e)),fun e=>ndq ((c.perm _).mem_iff.2 (List.mem_append_right _ e))⟩
 have hmc:m∉c.places:=fun e=>n3 m (by simp [PT.places]) m e rfl
 have ndn:=PT.nd n1
 have hql:q∉l.places∧q∉r.places:=⟨fun e=>hqm.1 (by simp [PT.places,e]),fun e=>hqm.1 (by simp [PT.places,e])⟩
 refine⟨c,l,y,r,rfl,e2,h1.1,h2,n2,hqm.2,hmc,fun K1 hx hoff hlen=> ?_⟩
 have hpm:(c.plug (.node l q y r)).places.Perm (q :: (l.places++(r.places++c.places))):=(c.perm _).trans (List.perm_iff_count.2 fun j=>by simp only [PT.places,List.count_append,List.count_cons];ac_rfl)
 have hpm0:(c.plug (.node l m y r)).places.Perm (m :: (l.places++(r.places++c.places))):=(c.perm _).trans (List.perm_iff_count.2 fun j=>by simp only [PT.places,List.count_append,List.count_cons];ac_rfl)
 have nd0:=hpm0.nodup_iff.1 ndt
 have hin: ∀j∈(c.plug (.node l q y r)).places,j<m:=fun j hj=>by
  rcases List.mem_cons.1 (hpm.mem_iff.1 hj)with rfl | hj
  ·omega
  ·have h3:j∈(c.plug (.node l m y r)).places:=hpm0.mem_iff.2 (List.mem_cons_of_mem _ hj)
   have h4:=h.lt j h3
   have h5:j≠m:=fun e=>(List.nodup_cons.1 nd0).1 (by rw [←e];exact hj)
   omega
 refine⟨?_,?_,?_,?_,?_⟩
 ·refine Rp.same (K:=K1.set q ⟨y,l.root,r.root,((PT.node l m y r).height:Int),topL (PT.node l m y r).items⟩) ((RpX.of c _).2 ⟨⟨?_,?_,?_⟩,?_⟩) fun j hj=>by rw [List.getElem?_take,if_pos (hin j hj)]
  ·rw [List.getElem?_set_self (by omega)];rfl
  ·exact(h1.2.1.same fun j hj=>hoff j fun e=>n3 j (by simp [PT.places,hj]) j e rfl).set hql.1 _
  ·exact(h1.2.2.same fun j hj=>hoff j fun e=>n3 j (by simp [PT.places,hj]) j e rfl).set hql.2 _
  ·exact hx.same fun j hj=>List.getElem?_set_ne fun e=>hqm.2 (by rw [e];exact hj)
 ·rw [Cx.items,Cx.items];rfl
 ·exact c.bal_congr b (okC.of c _ b).1 rfl
 ·refine hpm.nodup_iff.2 (List.nodup_cons.2 ⟨fun e=>ndq ((hpm0.mem_iff).2 (List.mem_cons_of_mem _ e)),(List.nodup_cons.1 nd0).2⟩)
 ·rw [hpm.length_eq]
  have:=hpm0.length_eq
  simp at this ⊢;omega
end Corr

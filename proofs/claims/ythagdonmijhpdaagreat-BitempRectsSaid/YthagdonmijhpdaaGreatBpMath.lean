/- Package bitemp, plain -/
import Derived.Test.YthagdonmijhpdaaGreatBt1
import Derived.Test.YthagdonmijhpdaaGreatTqMap
set_option linter.unusedVariables false
namespace Corr
open Go Go.RowKit
theorem pigeonI: ∀(l E:List Int),l.Nodup→(∀x∈l,x∈E)→l.length≤E.length
 | [],_,_,_=>Nat.zero_le _
 | x :: r,E,nd,h=>by
  obtain⟨n1,n2⟩:=List.nodup_cons.1 nd
  have hx:=h x List.mem_cons_self
  have h1:=pigeonI r (E.erase x) n2 fun y hy=>(List.mem_erase_of_ne fun e=>n1 (by rw [←e];exact hy)).2 (h y (List.mem_cons_of_mem _ hy))
  have h2:=List.length_erase_of_mem hx
  have h3:=List.length_pos_of_mem hx
  rw [List.length_cons];omega
structure Rn where
 a:Int
 b:Int
 s:Int
 u:Int
 v:Int
 m:Int
def endsS (L:ClL):List Int:=L.flatMap fun c=> [c.2.1,c.2.2.1]
theorem ζ20 (L M:ClL):endsS (L++M)=endsS L++endsS M:=List.flatMap_append
theorem ζ1z (L:ClL):(endsS L).length=2*L.length:=by
 induction L with
 | nil=>rfl
 | cons c r ih=>
  show ([c.2.1,c.2.2.1]++endsS r).length=_
  rw [List.length_append,ih];simp;omega
structure KS (L:ClL)(f:Int→Int)(R:List Rn)(n:Int):Prop where
 off:offF f
 opn: ∀d,¬f d=0→1≤numP (f d)∧numP (f d)≤n∧1≤sinP (f d)∧sinP (f d)≤lastL L∧¬valP (f d)=0∧∀t,sinP (f d)≤t→valS L t d=valP (f d)
 cls: ∀r∈R,(1≤r.a∧r.a<r.b∧r.b≤3652060)∧(1≤r.s∧r.s<r.u∧r.u≤lastL L)∧(¬r.v=0∧1≤r.m∧r.m≤n)∧∀t d,r.a≤d→d<r.b→r.s≤t→t<r.u→valS L t d=r.v
 all: ∀t d,¬valS L t d=0→(¬f d=0∧sinP (f d)≤t)∨∃r∈R,r.a≤d∧d<r.b∧r.s≤t∧t<r.u
 apart:R.Pairwise fun x r=>¬(x.a<r.b∧r.a<x.b∧x.s<r.u∧r.s<x.u)
 ahead: ∀r∈R,∀d,r.a≤d→d<r.b→¬f d=0→r.u≤sinP (f d)
 nums: ∃nv:Int→Int,(∀d,¬f d=0→valP (f d)=nv (numP (f d)))∧∀r∈R,r.v=nv r.m
 endf: ∀d,¬f d=f (d-1)→d∈endsS L
 endr: ∀r∈R,r.a∈endsS L
 up:R.Pairwise fun x r=>x.u≤r.u
 len:R.length≤300*L.length
 cnt:0≤n∧n≤(L.length:Int)
theorem KS.nil:KS [] (fun _=>0) [] 0 where
 off:=fun _ _=>rfl
 opn:=fun _ h=>absurd rfl h
 cls:=fun _ h=>by cases h
 all:=fun t d h=>absurd rfl h
 apart:=List.Pairwise.nil
 ahead:=fun _ h=>by cases h
 nums:=⟨fun _=>0,fun _ h=>absurd rfl h,fun _ h=>by cases h⟩
 endf:=fun _ h=>absurd rfl h
 endr:=fun _ h=>by cases h
 up:=List.Pairwise.nil
 len:=Nat.zero_le _
 cnt:=⟨Int.le_refl _,Int.le_refl _⟩
def fK (f:Int→Int)(a e v z:Int):Int→Int:=fun d=>if a≤d∧d<e∧¬valP (f d)=v then z else f d
theorem fK_zero (f:Int→Int)(a v z:Int):fK f a a v z=f:=by
 funext d;unfold fK;rw [if_neg (by omega)]
theorem fK_yes {f:Int→Int} {a v z:Int} {x:It}(ha:a≤x.1)(hx:x.1<x.2.1)(hf: ∀d,x.1≤d→d<x.2.1→f d=x.2.2)(h: ¬valP x.2.2=v):updF (fK f a x.1 v z) x.1 x.2.1 z=fK f a x.2.1 v z:=by
 funext d
 unfold updF fK
 by_cases h1:x.1≤d∧d<x.2.1
 ·rw [if_pos h1,if_pos ⟨by omega,h1.2,by rw [hf d h1.1 h1.2];exact h⟩]
 ·rw [if_neg h1]
  by_cases h2:a≤d∧d<x.1∧¬valP (f d)=v
  ·rw [if_pos h2,if_pos ⟨h2.1,by omega,h2.2.2⟩]
  ·rw [if_neg h2,if_neg fun h3=>h2 ⟨h3.1,by omega,h3.2.2⟩]
theorem fK_no {f:Int→Int} {a v z:Int} {x:It}(hx:x.1<x.2.1)(hf: ∀d,x.1≤d→d<x.2.1→f d=x.2.2)(h:valP x.2.2=v):fK f a x.1 v z=fK f a x.2.1 v z:=by
 funext d
 unfold fK
 by_cases h1:x.1≤d∧d<x.2.1
 ·rw [if_neg fun h2=>by omega,if_neg fun h2=>h2.2.2 (by rw [hf d h1.1 h1.2];exact h)]
 ·by_cases h2:a≤d∧d<x.1∧¬valP (f d)=v
  ·rw [if_pos h2,if_pos ⟨h2.1,by omega,h2.2.2⟩]
  ·rw [if_neg h2,if_neg fun h3=>h2 ⟨h3.1,by omega,h3.2.2⟩]
theorem fK_off {f:Int→Int} {a b v z:Int}(h:offF f)(ha:1≤a)(hb:b≤3652060) {e:Int}(he:e≤b):offF (fK f a e v z):=by
 intro d hd
 unfold fK
 rw [if_neg (by omega)];exact h d hd
def rectI (x:It)(u:Int):Rn:=⟨x.1,x.2.1,sinP x.2.2,u,valP x.2.2,numP x.2.2⟩
def shutB (t v:Int)(x:It):Bool:=decide (¬valP x.2.2=v) && (decide (0<numP x.2.2) && decide (sinP x.2.2<t))
theorem shutB_iff {t v:Int} {x:It} :shutB t v x=true↔¬valP x.2.2=v∧0<numP x.2.2∧sinP x.2.2<t:=by unfold shutB;simp
def shutL (t v:Int)(out:ItL):List Rn:=(out.filter (shutB t v)).map fun x=>rectI x t
theorem shutL_mem {t v:Int} {out:ItL} {r:Rn} :r∈shutL t v out↔∃x∈out,shutB t v x=true∧r=rectI x t:=by
 unfold shutL
 rw [List.mem_map]
 constructor
 ·rintro⟨x,hx,rfl⟩;exact⟨x,(List.mem_filter.1 hx).1,(List.mem_filter.1 hx).2,rfl⟩
 ·rintro⟨x,h1,h2,rfl⟩;exact⟨x,List.mem_filter.2 ⟨h1,h2⟩,rfl⟩
theorem shutL_yes {t v:Int} {out:ItL} {k:Nat} {x:It}(hx:out[k]? =some x)(h:shutB t v x=true):shutL t v (out.take (k+1))=shutL t v (out.take k)++ [rectI x t]:=by
 unfold shutL;rw [List.take_add_one,hx,List.filter_append,List.map_append];simp [h]
theorem shutL_no {t v:Int} {out:ItL} {k:Nat} {x:It}(hx:out[k]? =some x)(h:shutB t v x=false):shutL t v (out.take (k+1))=shutL t v (out.take k):=by
 unfold shutL;rw [List.take_add_one,hx,List.filter_append,List.map_append];simp [h]
theorem shutL_len (t v:Int)(out:ItL):(shutL t v out).length≤out.length:=by
 unfold shutL;rw [List.length_map];exact List.length_filter_le _ _
theorem cov_cut {f:Int→Int} : ∀ {l:ItL} {a b:Int} {k:Nat} {x:It},covP f a b l→l[k]? =some x→covP f a x.1 (l.take k)
 | [],_,_,_,_,_,h=>by simp at h
 | s :: r,a,b,0,x,hc,h=>by
  simp at h;subst h
  exact hc.1.symm
 | s :: r,a,b,k+1,x,hc,h=>by
  obtain⟨h1,h2,h3,h4,h5⟩:=hc
  rw [List.take_succ_cons]
  refine⟨h1,h2,h3,fun t ht=> ?_,cov_cut h5 (by simpa using h)⟩
  cases r with
  | nil=>simp at ht
  | cons q r=>
   cases k with
   | zero=>simp at ht
   | succ k=>exact h4 t (by simpa using ht)
theorem ζ3m {f:Int→Int} : ∀ {l:ItL} {a e e':Int},covP f a e l→covP f a e' l→e=e'
 | [],_,_,_,h,h'=>Eq.trans (Eq.symm h) h'
 | s :: r,_,_,_,⟨_,_,_,_,h⟩,⟨_,_,_,_,h'⟩=>ζ3m h h'
theorem cov_step {f:Int→Int} : ∀ {l:ItL} {a b:Int} {k:Nat} {x:It},covP f a b l→l[k]? =some x→covP f a x.2.1 (l.take (k+1))
 | [],_,_,_,_,_,h=>by simp at h
 | s :: r,a,b,0,x,hc,h=>by
  simp at h;subst h
  exact⟨hc.1,hc.2.1,hc.2.2.1,fun t ht=>by simp at ht,rfl⟩
 | s :: r,a,b,k+1,x,hc,h=>by
  obtain⟨h1,h2,h3,h4,h5⟩:=hc
  rw [List.take_succ_cons]
  refine⟨h1,h2,h3,fun t ht=> ?_,cov_step h5 (by simpa using h)⟩
  cases r with
  | nil=>simp at ht
  | cons q r=>exact h4 t (by simpa using ht)
theorem cov_few {f:Int→Int} {E:List Int}(hE: ∀d,¬f d=f (d-1)→d∈E) {l:ItL} {a b:Int}(h:covP f a b l):(∀x∈l,x.1∈a :: E)∧l.length≤E.length+1:=by
 have h1: ∀x∈l,x.1∈a :: E:=fun x hx=>by
  obtain⟨i1,i2,i3,i4,i5,i6⟩:=ζ10 h x hx
  rcases i5 with e | e
  ·rw [e];exact List.mem_cons_self
  ·exact List.mem_cons_of_mem _ (hE x.1 fun e'=>e (by rw [←e',i4 x.1 (Int.le_refl _) i2]))
 refine⟨h1,?_⟩
 have h2:=pigeonI (l.map (·.1)) (a :: E) ?_ ?_
 ·rw [List.length_map,List.length_cons]at h2;exact h2
 ·rw [List.nodup_iff_pairwise_ne,List.pairwise_map]
  exact(cov_rise h).imp fun h=>by omega
 ·intro y hy
  obtain⟨x,hx,rfl⟩:=List.mem_map.1 hy
  exact h1 x hx
theorem fK_ends {f:Int→Int} {E:List Int}(hE: ∀d,¬f d=f (d-1)→d∈E) {a e v z:Int}(ha:a∈E)(he:e∈E): ∀d,¬fK f a e v z d=fK f a e v z (d-1)→d∈E:=by
 intro d hd
 by_cases h1:d=a
 ·rw [h1];exact ha
 ·by_cases h2:d=e
  ·rw [h2];exact he
  ·refine hE d fun hh=>hd ?_
   unfold fK
   by_cases h3:a≤d∧d<e
   ·by_cases h4:valP (f d)=v
    ·rw [if_neg fun h=>h.2.2 h4,if_neg fun h=>h.2.2 (by rw [←hh];exact h4),hh]
    ·rw [if_pos ⟨h3.1,by omega,h4⟩,if_pos ⟨by omega,by omega,by rw [←hh];exact h4⟩]
   ·rw [if_neg fun h=>by omega,if_neg fun h=>by omega,hh]
theorem valS_snoc (L:ClL)(t a b v t':Int):valS (L++ [(t,a,b,v)]) t'=if t≤t' then updF (valS L t') a b v else valS L t':=by
 by_cases h:t≤t'
 ·rw [if_pos h]
  unfold valS
  rw [lineL_app]
  have:lineL [(t,a,b,v)] t'= [(a,b,v)]:=by unfold lineL;simp [h]
  rw [this,atL_snoc]
 ·rw [if_neg h]
  unfold valS
  rw [lineL_app]
  have:lineL [(t,a,b,v)] t'= []:=by unfold lineL;simp;omega
  rw [this,List.append_nil]
theorem KS.put {L:ClL} {f:Int→Int} {R:List Rn} {n:Int}(h:KS L f R n)(hl:L.length≤100) {t a b v z n':Int}(ht:lastL L≤t)(ht1:1≤t)(hm:mayB a b=true) {out:ItL}(ho:covP f a b out)
  (hz:(v=0∧z=0∧n'=n)∨(¬v=0∧numP z=n+1∧sinP z=t∧valP z=v∧n'=n+1)):
  KS (L++ [(t,a,b,v)]) (fK f a b v z) (R++shutL t v out) n':=by
 obtain⟨m1,m2,m3⟩:=mayB_iff.1 hm
 have hlast:lastL (L++ [(t,a,b,v)])=t:=ζ2d _ _
 have hn':n≤n':=by rcases hz with⟨_,_,h⟩ | ⟨_,_,_,_,h⟩ <;> omega
 have v0:valP 0=0:=c_zero.2.2
 have hseg: ∀x∈out,a≤x.1∧x.1<x.2.1∧x.2.1≤b∧∀d,x.1≤d→d<x.2.1→f d=x.2.2:=fun x hx=>by
  obtain⟨i1,i2,i3,i4,_⟩:=ζ10 ho x hx
  exact⟨i1,i2,i3,i4⟩
 have nz: ∀x∈out,0<numP x.2.2→¬x.2.2=0:=fun x _ hp e=>by rw [e,c_zero.1]at hp;omega
 have hf: ∀d,(a≤d∧d<b∧¬valP (f d)=v∧fK f a b v z d=z)∨((¬(a≤d∧d<b)∨valP (f d)=v)∧fK f a b v z d=f d):=fun d=>by
  unfold fK
  by_cases hc:a≤d∧d<b∧¬valP (f d)=v
  ·rw [if_pos hc];exact .inl ⟨hc.1,hc.2.1,hc.2.2,rfl⟩
  ·rw [if_neg hc]
   refine .inr ⟨?_,rfl⟩
   by_cases h1:a≤d∧d<b
   ·exact .inr (Decidable.byContradiction fun h2=>hc ⟨h1.1,h1.2,h2⟩)
   ·exact .inl h1
 have hv: ∀t' d,valS (L++ [(t,a,b,v)]) t' d=if t≤t'∧a≤d∧d<b then v else valS L t' d:=fun t' d=>by
  rw [valS_snoc]
  by_cases h1:t≤t'
  ·rw [if_pos h1];unfold updF
   by_cases h2:a≤d∧d<b
   ·rw [if_pos h2,if_pos ⟨h1,h2.1,h2.2⟩]
   ·rw [if_neg h2,if_neg fun h3=>h2 h3.2]
  ·rw [if_neg h1,if_neg fun h3=>h1 h3.1]
 have hin: ∀x:It,a∈endsS (L++ [(t,a,b,v)])∧b∈endsS (L++ [(t,a,b,v)]):=fun _=>by
  rw [ζ20];simp [endsS]
 have hE: ∀d,¬f d=f (d-1)→d∈endsS (L++ [(t,a,b,v)]):=fun d hd=>by
  rw [ζ20];exact List.mem_append_left _ (h.endf d hd)
 have new: ∀r∈shutL t v out,∃x∈out,¬valP x.2.2=v∧0<numP x.2.2∧sinP x.2.2<t∧r=rectI x t:=fun r hr=>by
  obtain⟨x,h1,h2,h3⟩:=shutL_mem.1 hr
  obtain⟨g1,g2,g3⟩:=shutB_iff.1 h2
  exact⟨x,h1,g1,g2,g3,h3⟩
 refine⟨fK_off h.off m1 m3 (Int.le_refl _),?_,?_,?_,?_,?_,?_,fK_ends hE (hin (0,0,0)).1 (hin (0,0,0)).2,?_,?_,?_,?_⟩
 ·
  intro d hd
  rcases hf d with⟨d1,d2,d3,e⟩ | ⟨d1,e⟩
  ·rw [e]at hd ⊢
   rcases hz with⟨_,z0,_⟩ | ⟨hv0,z1,z2,z3,z4⟩
   ·exact absurd z0 hd
   ·have:=h.cnt.1
    refine⟨by omega,by omega,by omega,by omega,by rw [z3];exact hv0,fun t' ht'=> ?_⟩
    rw [hv,if_pos ⟨by omega,d1,d2⟩,z3]
  ·rw [e]at hd ⊢
   obtain⟨g1,g2,g3,g4,g5,g6⟩:=h.opn d hd
   refine⟨g1,by omega,g3,by omega,g5,fun t' ht'=> ?_⟩
   rw [hv]
   by_cases hc:t≤t'∧a≤d∧d<b
   ·rw [if_pos hc]
    rcases d1 with d1 | d1
    ·exact absurd hc.2 d1
    ·exact d1.symm
   ·rw [if_neg hc];exact g6 t' ht'
 ·
  intro r hr
  rcases List.mem_append.1 hr with hr | hr
  ·obtain⟨g1,g2,g3,g4⟩:=h.cls r hr
   refine⟨g1,by omega,⟨g3.1,g3.2.1,by omega⟩,fun t' d k1 k2 k3 k4=> ?_⟩
   rw [hv,if_neg (by omega)]
   exact g4 t' d k1 k2 k3 k4
  ·obtain⟨x,hx,x1,x2,x3,rfl⟩:=new r hr
   obtain⟨i1,i2,i3,i4⟩:=hseg x hx
   have hx0:=nz x hx x2
   have hfx:=i4 x.1 (Int.le_refl _) i2
   obtain⟨g1,g2,g3,g4,g5,g6⟩:=h.opn x.1 (by rw [hfx];exact hx0)
   rw [hfx]at g1 g2 g3 g4 g5
   refine⟨⟨by show 1≤x.1;omega,i2,by show x.2.1≤_;omega⟩,⟨g3,x3,by rw [hlast];exact Int.le_refl _⟩,⟨g5,g1,by show numP x.2.2≤n';omega⟩,fun t' d k1 k2 k3 k4=> ?_⟩
   have k1:x.1≤d:=k1
   have k2:d<x.2.1:=k2
   have k3:sinP x.2.2≤t':=k3
   have k4:t'<t:=k4
   rw [hv,if_neg (by omega)]
   have hfd:=i4 d k1 k2
   have:=(h.opn d (by rw [hfd];exact hx0)).2.2.2.2.2 t' (by rw [hfd];exact k3)
   rw [this,hfd];rfl
 ·
  intro t' d hd
  rw [hv]at hd
  by_cases hc:t≤t'∧a≤d∧d<b
  ·rw [if_pos hc]at hd
   left
   rcases hf d with⟨d1,d2,d3,e⟩ | ⟨d1,e⟩
   ·rw [e]
    rcases hz with⟨h0,_⟩ | ⟨hv0,z1,z2,z3,z4⟩
    ·exact absurd h0 hd
    ·refine⟨fun e0=> ?_,by omega⟩
     rw [e0,c_zero.1]at z1
     have:=h.cnt.1;omega
   ·rw [e]
    have d1:valP (f d)=v:=d1.resolve_left fun hn=>hn hc.2
    have hfd: ¬f d=0:=fun e0=>by rw [e0,v0]at d1;exact hd d1.symm
    exact⟨hfd,by have:=(h.opn d hfd).2.2.2.1;omega⟩
  ·rw [if_neg hc]at hd
   rcases h.all t' d hd with⟨g1,g2⟩ | ⟨r,hr,g⟩
   ·rcases hf d with⟨d1,d2,d3,e⟩ | ⟨d1,e⟩
    ·right
     obtain⟨x,hx,x1,x2⟩:=cov_day ho d1 d2
     obtain⟨i1,i2,i3,i4⟩:=hseg x hx
     have hfd:=i4 d x1 x2
     refine⟨rectI x t,List.mem_append_right _ (shutL_mem.2 ⟨x,hx,shutB_iff.2 ⟨by rw [←hfd];exact d3,?_,?_⟩,rfl⟩),x1,x2,?_,?_⟩
     ·have:=(h.opn d g1).1;rw [hfd]at this;omega
     ·rw [←hfd];omega
     ·show sinP x.2.2≤t';rw [←hfd];exact g2
     ·show t'<t;omega
    ·left;rw [e];exact⟨g1,g2⟩
   ·exact .inr ⟨r,List.mem_append_left _ hr,g⟩
 ·
  refine List.pairwise_append.2 ⟨h.apart,?_,?_⟩
  ·unfold shutL
   rw [List.pairwise_map]
   refine List.Pairwise.filter _ ?_
   have hr:out.Pairwise fun x y=>x.2.1≤y.1:=by
    have key: ∀ {l:ItL} {a b:Int},covP f a b l→l.Pairwise fun x y=>x.2.1≤y.1:=by
     intro l
     induction l with
     | nil=>intro _ _ _;exact List.Pairwise.nil
     | cons s r ih=>
      intro a b hc
      obtain⟨h1,h2,h3,h4,h5⟩:=hc
      exact List.pairwise_cons.2 ⟨fun y hy=>(ζ10 h5 y hy).1,ih h5⟩
    exact key ho
   exact hr.imp fun {x y} hxy hh=>by
    have:(rectI y t).a<(rectI x t).b:=hh.2.1
    have:y.1<x.2.1:=this
    omega
  ·intro x hx r hr hh
   obtain⟨y,hy,y1,y2,y3,rfl⟩:=new r hr
   obtain⟨i1,i2,i3,i4⟩:=hseg y hy
   obtain⟨g1,g2,g3,g4⟩:=h.cls x hx
   have q1:x.a<y.2.1:=hh.1
   have q2:y.1<x.b:=hh.2.1
   have q3:sinP y.2.2<x.u:=hh.2.2.2
   obtain⟨d,hd⟩: ∃d,d=max x.a y.1:=⟨_,rfl⟩
   have hfd:=i4 d (by omega) (by omega)
   have:=h.ahead x hx d (by omega) (by omega) (by rw [hfd];exact nz y hy y2)
   rw [hfd]at this
   omega
 ·
  intro r hr d k1 k2 hd
  rcases hf d with⟨d1,d2,d3,e⟩ | ⟨d1,e⟩
  ·rw [e]at hd ⊢
   rcases hz with⟨_,z0,_⟩ | ⟨hv0,z1,z2,z3,z4⟩
   ·exact absurd z0 hd
   ·rw [z2]
    rcases List.mem_append.1 hr with hr | hr
    ·have:=(h.cls r hr).2.1;omega
    ·obtain⟨x,hx,x1,x2,x3,rfl⟩:=new r hr
     exact Int.le_refl _
  ·rw [e]at hd ⊢
   rcases List.mem_append.1 hr with hr | hr
   ·exact h.ahead r hr d k1 k2 hd
   ·obtain⟨x,hx,x1,x2,x3,rfl⟩:=new r hr
    obtain⟨i1,i2,i3,i4⟩:=hseg x hx
    have k1:x.1≤d:=k1
    have k2:d<x.2.1:=k2
    rcases d1 with d1 | d1
    ·exact absurd ⟨by omega,by omega⟩ d1
    ·rw [i4 d k1 k2]at d1;exact absurd d1 x1
 ·
  obtain⟨nv,g1,g2⟩:=h.nums
  refine⟨fun m=>if m=n+1 then v else nv m,fun d hd=> ?_,fun r hr=> ?_⟩
  ·rcases hf d with⟨d1,d2,d3,e⟩ | ⟨d1,e⟩
   ·rw [e]at hd ⊢
    rcases hz with⟨_,z0,_⟩ | ⟨hv0,z1,z2,z3,z4⟩
    ·exact absurd z0 hd
    ·simp only;rw [if_pos z1,z3]
   ·rw [e]at hd ⊢
    simp only
    rw [if_neg (by have:=(h.opn d hd).2.1;omega)];exact g1 d hd
  ·rcases List.mem_append.1 hr with hr | hr
   ·simp only
    rw [if_neg (by have:=(h.cls r hr).2.2.1.2.2;omega)];exact g2 r hr
   ·obtain⟨x,hx,x1,x2,x3,rfl⟩:=new r hr
    obtain⟨i1,i2,i3,i4⟩:=hseg x hx
    have hfx:=i4 x.1 (Int.le_refl _) i2
    have hx0:=nz x hx x2
    have q:=h.opn x.1 (by rw [hfx];exact hx0)
    have q2:=g1 x.1 (by rw [hfx];exact hx0)
    rw [hfx]at q q2
    show valP x.2.2=if numP x.2.2=n+1 then v else nv (numP x.2.2)
    rw [if_neg (by have:=q.2.1;omega)];exact q2
 ·
  intro r hr
  rcases List.mem_append.1 hr with hr | hr
  ·rw [ζ20];exact List.mem_append_left _ (h.endr r hr)
  ·obtain⟨x,hx,x1,x2,x3,rfl⟩:=new r hr
   rcases List.mem_cons.1 ((cov_few hE ho).1 x hx)with e | e
   ·show x.1∈_;rw [e];exact(hin (0,0,0)).1
   ·exact e
 ·
  refine List.pairwise_append.2 ⟨h.up,?_,fun x hx r hr=> ?_⟩
  ·unfold shutL
   rw [List.pairwise_map]
   exact List.pairwise_of_forall fun _ _=>Int.le_refl _
  ·obtain⟨y,hy,y1,y2,y3,rfl⟩:=new r hr
   have:=(h.cls x hx).2.1
   show x.u≤t;omega
 ·
  have h1:=(cov_few h.endf ho).2
  have h2:=shutL_len t v out
  have h3:=h.len
  rw [ζ1z]at h1
  rw [List.length_append,List.length_append]
  simp
  omega
 ·
  have:=h.cnt
  rw [List.length_append]
  simp
  rcases hz with⟨_,_,e⟩ | ⟨_,_,_,_,e⟩ <;> omega
end Corr

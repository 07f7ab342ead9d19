/- Contract of package avl -/
import Derived.Test.YthagdonmijhpdaaGreatAkVac
import Derived.Deep.WholeRow
open Go.Lib (hid)
set_option linter.unusedSimpArgs false
set_option linter.unusedVariables false
set_option maxHeartbeats 8000000
set_option maxRecDepth 8000
namespace Go.Proofs.YthagdonmijhpdaaGreat
open Go.RowKit Corr
structure Whole (K:KnL)(t:PT)(L:ItL):Prop where
 rp:Rp K t
 bal:t.bal
 nd:t.places.Nodup
 len:t.places.length=K.length
 it:t.items=L
theorem ζ1l (g m c gK q:Nat)(M:Int)(K:KnL)(t:PT)(w:World)(H:Ar 221 w g M t.root (some ⟨gK,0,none⟩) (m+1) c K)(h:Rp K t)(nd:(q :: t.places).Nodup)(len:t.places.length=m)(s:srt t.items)(b:t.bal)(hq:q<m+1)(hn:m≤1500):
  Calls Tryz.prog 154 #[.pointer (some ⟨g,0,none⟩),.int .i64 (q:Int)] w fun e w'=>∃K' t',e= .returned (.tuple #[])∧Ar 221 w' g M t'.root (some ⟨gK,0,none⟩) m c K'∧Whole K' t' t.items∧Off (inAr g (some ⟨gK,0,none⟩) (m+1) c) w w':=by
 have HA:=hid H
 have HLEN:=hid H.len
 have hcap:=H.cap
 have a2:=H.b.get 2 rfl
 have f2:=H.b.f 2
 have j0:decide ((m:Int)<0)=false:=decide_eq_false (by omega)
 have j1:(0:Int)≤(m:Int):=by omega
 have j2:(m:Int)<(m:Int)+1:=by omega
 have j3:((m:Int)).toNat=m:=by omega
 have j4:(m:Int)≤(c:Int):=by omega
 have j5:(m:Int)≤(m:Int)+1:=by omega
 have i0:decide ((q:Int)<0)=false:=decide_eq_false (by omega)
 have i1:(0:Int)≤(q:Int):=by omega
 have i2:(q:Int)<(m:Int)+1:=by omega
 have i3:((q:Int)).toNat=q:=by omega
 by_cases hqm:q=m
 ·subst hqm
  have HW:=hid (show Whole (K.take q) t t.items from⟨h.same fun j hj=>by
   have h1:=h.lt j hj
   have h2:j≠q:=fun e=>(List.nodup_cons.1 nd).1 (by rw [←e];exact hj)
   rw [HLEN.out]at h1
   rw [List.getElem?_take,if_pos (by omega)],b,(List.nodup_cons.1 nd).2,by rw [List.length_take,HLEN.out];omega,rfl⟩)
  clear H h nd len s b hcap
  go_enter Tryz.func154,Tryz.ntmps154
  go_wp2_with fail
  go_end0
  exact⟨_,t,rfl,HA.out.cut (by omega),HW.out,(Off.refl _ w).put ⟨g,2,none⟩ (.inl (.inl rfl)) _⟩
 ·have hbeq:((q:Int) != (m:Int))=true:=by simp;omega
  obtain⟨cx,l,y,r,hplug,hP,hkm,hX,hnd,hqc,hmc,hon⟩:=vac_pure H.len h nd len s b hqm hq
  have HQM:=hid hqm
  have HPL:=hid hplug
  have HP:=hid hP
  have HKM:=hid hkm
  have HX:=hid hX
  have HCN:=hid hnd
  have HQC:=hid hqc
  have HMC:=hid hmc
  have HON:=hid hon
  have HDP:=hid (show cx.way.length≤28 by
   have h1:=cx.deep (.node l m y r)
   rw [hplug]at h1
   have h2:=bal_le b (by rw [PT.len,len];omega)
   omega)
  have hgl:=H.sz
  have hkl:gK<w.heap.size:=ζk H.o rfl
  obtain⟨y1,y2,y3⟩:=y
  have k0:=H.c0 hkm
  have k1:=H.c1 hkm
  have k2:=H.c2 hkm
  simp only []at k0 k1 k2
  have HGK:=hid (show gK≠g from fun e=>H.ne (by subst e;rfl))
  clear H h nd len s b hqm hplug hP hkm hX hnd hqc hmc hon hcap
  go_enter Tryz.func154,Tryz.ntmps154
  go_wp2_with fail
  refine(ζ3j g (m+1) c (some ⟨gK,0,none⟩) M t.root K (y1,y2,y3) cx.way (m:Int) w HA.out HP.out HDP.out (by omega)).mono ?_
  rintro e w1 ⟨vs,rfl,hV,hb1⟩
  have HV:=hid hV
  have HB1:=hid hb1
  have hsz1:=hb1.size
  clear hV hb1 a2 f2 k0 k1 k2
  go_wp2_with (refine wpList_store_row rfl 203 _ _ rfl w1.heap.size vs rfl rfl 203 _ (heap_alloc_new w1 _) (by rw [HV.out.sz];exact ζ14) (by rw [HV.out.sz];rfl) HV.out.one ?_)
  rw [World.setRow_alloc_new]
  have HW2:=hid (show WayM (w1.alloc (.cells vs 203)) w1.heap.size cx.way from⟨vs,Blk.new w1 vs 203,HV.out⟩)
  have HB2:=hid (HB1.out.alloc hsz1 (.cells vs 203))
  have HNE:=hid (show ¬inAr g (some ⟨gK,0,none⟩) (m+1) c w1.heap.size from fun e=>by
   rcases e with e | e
   ·omega
   ·have e:gK=w1.heap.size:=own_is e
    omega)
  have HGW:=hid hsz1
  clear hgl hkl hsz1
  generalize w1.alloc (.cells vs 203)=w2 at*
  generalize w1.heap.size=gW at*
  have HA2:=hid (HA.out.keep HB2.out)
  cases hl2:cx.last with
  | none=>
   have hcx:cx= .top:=by cases cx <;> simp [Cx.last]at hl2 ⊢
   subst hcx
   clear hl2
   refine(ζ3g g gW (m+1) c _ M t.root (q:Int) K w2 HA2.out HW2.out).mono ?_
   rintro e w3 ⟨rfl,hA3,hF3⟩
   have HA3:=hid hA3
   have HF3:=hid (((Off.of HB2.out).trans hF3))
   have HX1:=hid (show RpX K .top (.node l q (y1,y2,y3) r)from trivial)
   clear hA3 hF3
   have HRTQ:=hid (show q=q from rfl)
   have a2:=HA3.out.b.get 2 rfl
   have f2:=HA3.out.b.f 2
   have hkm3:K[m]? =some ⟨(y1,y2,y3),l.root,r.root,((PT.node l m (y1,y2,y3) r).height:Int),topL (PT.node l m (y1,y2,y3) r).items⟩:=HKM.out
   have HKM3:=hid hkm3
   have HLEN1:=hid HA3.out.len
   obtain⟨kq,hkq⟩: ∃k,K[q]? =some k:=⟨_,List.getElem?_eq_getElem (by rw [HLEN1.out];omega)⟩
   have HKQ:=hid hkq
   have k0:=HA3.out.c0 hkm3
   have k1:=HA3.out.c1 hkm3
   have k2:=HA3.out.c2 hkm3
   have k3:=HA3.out.c3 hkm3
   have k4:=HA3.out.c4 hkm3
   have k5:=HA3.out.c5 hkm3
   have k6:=HA3.out.c6 hkm3
   simp only []at k0 k1 k2 k3 k4 k5 k6
   have q0:=HA3.out.c0 hkq
   have q1:=HA3.out.c1 hkq
   have q2:=HA3.out.c2 hkq
   have q3:=HA3.out.c3 hkq
   have q4:=HA3.out.c4 hkq
   have q5:=HA3.out.c5 hkq
   have q6:=HA3.out.c6 hkq
   have g0:=HA3.out.fz (q*7)
   have g1:=HA3.out.fz (q*7+1)
   have g2:=HA3.out.fz (q*7+2)
   have g3:=HA3.out.fz (q*7+3)
   have g4:=HA3.out.fz (q*7+4)
   have g5:=HA3.out.fz (q*7+5)
   have g6:=HA3.out.fz (q*7+6)
   clear hkm3 hkq
   obtain⟨hh,hhh⟩: ∃h:Int,((PT.node l m (y1,y2,y3) r).height:Int)=h:=⟨_,rfl⟩
   obtain⟨tt,htt⟩: ∃h:Int,topL (PT.node l m (y1,y2,y3) r).items=h:=⟨_,rfl⟩
   rw [hhh]at k5 HKM3 HON
   rw [htt]at k6 HKM3 HON
   clear hhh htt
   go_upto_region 4 with fail
   go_region
   have HA4:=hid ((HA3.out.putk HKQ.out ⟨(y1,y2,y3),l.root,r.root,hh,tt⟩).keep ((Below.refl _ _).drew))
   have HF4:=hid (((((((((HF3.out.put ⟨gK,q*7,none⟩ (.inl (.inr rfl)) (.int .i64 y1)).put ⟨gK,q*7+1,none⟩ (.inl (.inr rfl)) (.int .i64 y2)).put ⟨gK,q*7+2,none⟩ (.inl (.inr rfl)) (.int .i64 y3)).put ⟨gK,q*7+3,none⟩ (.inl (.inr rfl)) (.int .i64 l.root)).put ⟨gK,q*7+4,none⟩ (.inl (.inr rfl)) (.int .i64 r.root)).put ⟨gK,q*7+5,none⟩ (.inl (.inr rfl)) (.int .i64 hh)).put ⟨gK,q*7+6,none⟩ (.inl (.inr rfl)) (.int .i64 tt))).drew)
   clear k0 k1 k2 k3 k4 k5 k6 q0 q1 q2 q3 q4 q5 q6 g0 g1 g2 g3 g4 g5 g6 a2 f2
   generalize (((((((w3.setCell ⟨gK,q*7,none⟩ (.int .i64 y1)).setCell ⟨gK,q*7+1,none⟩ (.int .i64 y2)).setCell ⟨gK,q*7+2,none⟩ (.int .i64 y3)).setCell ⟨gK,q*7+3,none⟩ (.int .i64 l.root)).setCell ⟨gK,q*7+4,none⟩ (.int .i64 r.root)).setCell ⟨gK,q*7+5,none⟩ (.int .i64 hh)).setCell ⟨gK,q*7+6,none⟩ (.int .i64 tt)).drew=w4 at*
   have a2:=HA4.out.b.get 2 rfl
   have f2:=HA4.out.b.f 2
   obtain⟨o1,o2,o3,o4,o5⟩:=HON.out K HX1.out (fun _ _=>rfl) HLEN1.out
   have HWH:=hid (show Whole ((K.set q ⟨(y1,y2,y3),l.root,r.root,hh,tt⟩).take m) (Cx.top.plug (.node l q (y1,y2,y3) r)) t.items from⟨o1,o3,o4,by rw [o5,List.length_take,List.length_set,HLEN1.out];omega,o2⟩)
   clear o1 o2 o3 o4 o5
   go_wp2_with fail
   go_end0
   refine⟨_,.node l q (y1,y2,y3) r,rfl,HA4.out.cut (m:=m) (by omega),HWH.out,HF4.out.put ⟨g,2,none⟩ (.inl (.inl rfl)) _⟩
  | some pb=>
   obtain⟨p2,b2⟩:=pb
   obtain⟨k2',hk2,hX1⟩:=HX.out.hang (t':= .node l q (y1,y2,y3) r) HCN.out rfl rfl hl2
   have HL2:=hid hl2
   have HX1:=hid hX1
   have HWL:=hid (Cx.way_last hl2)
   have hp2:=Cx.last_mem hl2
   have HO1:=hid (show ∀j,j∉cx.places→(K.set p2 (k2'.put b2 (PT.node l q (y1,y2,y3) r).root))[j]? =K[j]? from fun j hj=>List.getElem?_set_ne fun e=>hj (by rw [←e];exact hp2))
   refine(ζ3h g gW (m+1) c gK M t.root (q:Int) K cx.up p2 b2 k2' w2 HA2.out (by rw [←HWL.out];exact HW2.out) hk2 (by omega)).mono ?_
   rintro e w3 ⟨rfl,hA3,hF3⟩
   have HA3:=hid (show Ar 221 w3 g M t.root (some ⟨gK,0,none⟩) (m+1) c (K.set p2 (k2'.put b2 (PT.node l q (y1,y2,y3) r).root))from hA3)
   have HF3:=hid (((Off.of HB2.out).trans hF3))
   clear hA3 hF3 hk2 hX1 hl2 hp2
   generalize K.set p2 (k2'.put b2 (PT.node l q (y1,y2,y3) r).root)=K1 at*
   have HRTQ:=hid (show q=q from rfl)
   have a2:=HA3.out.b.get 2 rfl
   have f2:=HA3.out.b.f 2
   have hkm3:K1[m]? =some ⟨(y1,y2,y3),l.root,r.root,((PT.node l m (y1,y2,y3) r).height:Int),topL (PT.node l m (y1,y2,y3) r).items⟩:=by rw [HO1.out m HMC.out];exact HKM.out
   have HKM3:=hid hkm3
   have HLEN1:=hid HA3.out.len
   obtain⟨kq,hkq⟩: ∃k,K1[q]? =some k:=⟨_,List.getElem?_eq_getElem (by rw [HLEN1.out];omega)⟩
   have HKQ:=hid hkq
   have k0:=HA3.out.c0 hkm3
   have k1:=HA3.out.c1 hkm3
   have k2:=HA3.out.c2 hkm3
   have k3:=HA3.out.c3 hkm3
   have k4:=HA3.out.c4 hkm3
   have k5:=HA3.out.c5 hkm3
   have k6:=HA3.out.c6 hkm3
   simp only []at k0 k1 k2 k3 k4 k5 k6
   have q0:=HA3.out.c0 hkq
   have q1:=HA3.out.c1 hkq
   have q2:=HA3.out.c2 hkq
   have q3:=HA3.out.c3 hkq
   have q4:=HA3.out.c4 hkq
   have q5:=HA3.out.c5 hkq
   have q6:=HA3.out.c6 hkq
   have g0:=HA3.out.fz (q*7)
   have g1:=HA3.out.fz (q*7+1)
   have g2:=HA3.out.fz (q*7+2)
   have g3:=HA3.out.fz (q*7+3)
   have g4:=HA3.out.fz (q*7+4)
   have g5:=HA3.out.fz (q*7+5)
   have g6:=HA3.out.fz (q*7+6)
   clear hkm3 hkq
   obtain⟨hh,hhh⟩: ∃h:Int,((PT.node l m (y1,y2,y3) r).height:Int)=h:=⟨_,rfl⟩
   obtain⟨tt,htt⟩: ∃h:Int,topL (PT.node l m (y1,y2,y3) r).items=h:=⟨_,rfl⟩
   rw [hhh]at k5 HKM3 HON
   rw [htt]at k6 HKM3 HON
   clear hhh htt
   go_upto_region 4 with fail
   go_region
   have HA4:=hid ((HA3.out.putk HKQ.out ⟨(y1,y2,y3),l.root,r.root,hh,tt⟩).keep ((Below.refl _ _).drew))
   have HF4:=hid (((((((((HF3.out.put ⟨gK,q*7,none⟩ (.inl (.inr rfl)) (.int .i64 y1)).put ⟨gK,q*7+1,none⟩ (.inl (.inr rfl)) (.int .i64 y2)).put ⟨gK,q*7+2,none⟩ (.inl (.inr rfl)) (.int .i64 y3)).put ⟨gK,q*7+3,none⟩ (.inl (.inr rfl)) (.int .i64 l.root)).put ⟨gK,q*7+4,none⟩ (.inl (.inr rfl)) (.int .i64 r.root)).put ⟨gK,q*7+5,none⟩ (.inl (.inr rfl)) (.int .i64 hh)).put ⟨gK,q*7+6,none⟩ (.inl (.inr rfl)) (.int .i64 tt))).drew)
   clear k0 k1 k2 k3 k4 k5 k6 q0 q1 q2 q3 q4 q5 q6 g0 g1 g2 g3 g4 g5 g6 a2 f2
   generalize (((((((w3.setCell ⟨gK,q*7,none⟩ (.int .i64 y1)).setCell ⟨gK,q*7+1,none⟩ (.int .i64 y2)).setCell ⟨gK,q*7+2,none⟩ (.int .i64 y3)).setCell ⟨gK,q*7+3,none⟩ (.int .i64 l.root)).setCell ⟨gK,q*7+4,none⟩ (.int .i64 r.root)).setCell ⟨gK,q*7+5,none⟩ (.int .i64 hh)).setCell ⟨gK,q*7+6,none⟩ (.int .i64 tt)).drew=w4 at*
   have a2:=HA4.out.b.get 2 rfl
   have f2:=HA4.out.b.f 2
   obtain⟨o1,o2,o3,o4,o5⟩:=HON.out K1 HX1.out HO1.out HLEN1.out
   have HWH:=hid (show Whole ((K1.set q ⟨(y1,y2,y3),l.root,r.root,hh,tt⟩).take m) (cx.plug (.node l q (y1,y2,y3) r)) t.items from⟨o1,o3,o4,by rw [o5,List.length_take,List.length_set,HLEN1.out];omega,o2⟩)
   clear o1 o2 o3 o4 o5
   go_wp2_with fail
   go_end0
   refine⟨_,_,rfl,by rw [Cx.root_of HL2.out _ (.node l m (y1,y2,y3) r),HPL.out];exact HA4.out.cut (m:=m) (by omega),HWH.out,HF4.out.put ⟨g,2,none⟩ (.inl (.inl rfl)) _⟩
end Go.Proofs.YthagdonmijhpdaaGreat
namespace Corr
open Go Go.RowKit
def Cx.dn (b:Cx):List (Nat × It × PT)→Cx
 | []=>b
 |(q,y,r) :: m=> .L (b.dn m) q y r
section
variable {c:Cx} {l:PT} {p:Nat} {x y:It}
theorem ζ3y: ∀m:List (Nat × It × PT),((Cx.R c l p x).dn m).places=((Cx.R c l p y).dn m).places
 | []=>rfl
 |(q,z,r) :: m=>by simp only [Cx.dn,Cx.places,ζ3y m]
theorem dn_way: ∀m:List (Nat × It × PT),((Cx.R c l p x).dn m).way=((Cx.R c l p y).dn m).way
 | []=>rfl
 |(q,z,r) :: m=>by simp only [Cx.dn,Cx.way,dn_way m]
theorem dn_ok: ∀(m:List (Nat × It × PT)) (h:Nat),okC ((Cx.R c l p x).dn m) h→okC ((Cx.R c l p y).dn m) h
 | [],_,h=>h
 |(q,z,r) :: m,_,h=>⟨h.1,h.2.1,h.2.2.1,dn_ok m _ h.2.2.2⟩
theorem dn_bef: ∀m:List (Nat × It × PT),((Cx.R c l p x).dn m).bef=c.bef++(l.items++ [x])
 | []=>rfl
 |(q,z,r) :: m=>by simp only [Cx.dn,Cx.bef,dn_bef m]
theorem dn_aft: ∀m:List (Nat × It × PT),((Cx.R c l p x).dn m).aft=((Cx.R c l p y).dn m).aft
 | []=>rfl
 |(q,z,r) :: m=>by simp only [Cx.dn,Cx.aft,dn_aft m]
theorem dn_in: ∀m:List (Nat × It × PT),p∈((Cx.R c l p x).dn m).places
 | []=>by simp [Cx.dn,Cx.places]
 |(q,z,r) :: m=>by simp [Cx.dn,Cx.places,dn_in m]
theorem dn_last: ∀m:List (Nat × It × PT),∃pb,((Cx.R c l p x).dn m).last=some pb
 | []=>⟨_,rfl⟩
 |(q,z,r) :: m=>⟨_,rfl⟩
theorem dn_it {K:KnL} {r:Int} {kp:Kn}(hk:K[p]? =some kp): ∀(m:List (Nat × It × PT)) (h:Int),RpC K r ((Cx.R c l p x).dn m) h→((Cx.R c l p x).dn m).places.Nodup→RpC (K.set p { kp with it:=y }) r ((Cx.R c l p y).dn m) h
 | [],_,⟨⟨k,h1,h2,h3,h4⟩,h5,h6⟩,nd=>by
  simp only [Cx.dn,Cx.places,List.nodup_cons,List.mem_append,not_or]at nd
  have e:k=kp:=by rw [hk]at h1;exact(Option.some.inj h1).symm
  subst e
  exact⟨⟨_,ζ6 hk _,rfl,h3,h4⟩,h5.set nd.1.1 _,h6.same fun q hq=>List.getElem?_set_ne fun e=>nd.1.2 (by rw [e];exact hq)⟩
 |(q,z,t) :: m,_,⟨⟨k,h1,h2,h3,h4⟩,h5,h6⟩,nd=>by
  have hp:=dn_in (c:=c) (l:=l) (p:=p) (x:=x) m
  simp only [Cx.dn,Cx.places,List.nodup_cons,List.mem_append,not_or]at nd
  have hqp:p≠q:=fun e=>nd.1.2 (by rw [←e];exact hp)
  have hpt:p∉t.places:=fun e=>(List.nodup_append.1 nd.2).2.2 p e p hp rfl
  exact⟨⟨k,by rw [List.getElem?_set_ne hqp];exact h1,h2,h3,h4⟩,h5.set hpt _,dn_it hk m _ h6 (List.nodup_append.1 nd.2).2.1⟩
end
structure Whole0 (K:KnL)(t:PT):Prop where
 rp:Rp K t
 bal:t.bal
 nd:t.places.Nodup
 len:t.places.length=K.length
structure GoneP (K:KnL)(L:ItL)(P:List Nat)(cx:Cx)(s:PT)(r:Int)(q m:Nat)(h0:Nat):Prop where
 rise:RiseP K L P cx s K r (q:Int) h0
 nd:(q :: P).Nodup
 len:P.length=m
 srt:srt L
 low:L.length≤1500
theorem gone_one {K:KnL} {c:Cx} {l rt s:PT} {p m:Nat} {x:It}(hK:K.length=m+1)(hm:m≤1400)(h:Whole0 K (c.plug (.node l p x rt)))(hs:(l= .nil∧s=rt)∨(rt= .nil∧s=l))(hsrt:srt (c.plug (.node l p x rt)).items):GoneP K (c.bef++((l.items++rt.items)++c.aft)) (s.places++c.places) c s (c.plug (.node l p x rt)).root p m (s.height+1):=by
 obtain⟨h1,h2,h3,h4⟩:=h
 obtain⟨r1,r2⟩:=RpC.of c _ h1
 obtain⟨b1,b2⟩:=okC.of c _ h2
 have hp:(c.plug (.node l p x rt)).places.Perm (p :: (s.places++c.places)):=by
  refine(c.perm _).trans ?_
  rcases hs with⟨rfl,rfl⟩ | ⟨rfl,rfl⟩
  ·exact List.Perm.refl _
  ·refine List.perm_iff_count.2 fun j=> ?_
   simp only [PT.places,List.count_append,List.count_cons,List.count_nil];omega
 have hn:=hp.nodup_iff.1 h3
 have hl:=hp.length_eq
 have hit:(c.plug s).items=c.bef++((l.items++rt.items)++c.aft):=by
  rw [Cx.items]
  rcases hs with⟨rfl,rfl⟩ | ⟨rfl,rfl⟩ <;> simp [PT.items]
 have hsub:(c.bef++((l.items++rt.items)++c.aft)).Sublist (c.plug (.node l p x rt)).items:=by
  rw [Cx.items]
  refine(List.Sublist.refl _).append (List.Sublist.append ?_ (List.Sublist.refl _))
  exact(List.Sublist.refl _).append (List.sublist_cons_self _ _)
 have hh:(PT.node l p x rt).height=s.height+1:=by
  rcases hs with⟨rfl,rfl⟩ | ⟨rfl,rfl⟩ <;> simp [PT.height]
 rw [hh]at b2
 have hlen:(c.plug (.node l p x rt)).items.length=m+1:=by rw [PT.len,h4,hK]
 refine⟨⟨r2,?_,?_,b2,by omega,(List.nodup_cons.1 hn).2,hit,List.Perm.refl _,fun _ _=>rfl⟩,hn,?_,hsrt.sublist hsub,?_⟩
 ·rcases hs with⟨rfl,rfl⟩ | ⟨rfl,rfl⟩
  ·exact r1.2.2
  ·exact r1.2.1
 ·rcases hs with⟨rfl,rfl⟩ | ⟨rfl,rfl⟩
  ·exact b1.2.1
  ·exact b1.1
 ·simp only [List.length_cons]at hl
  have:(c.plug (.node l p x rt)).places.length=m+1:=by rw [h4,hK]
  omega
 ·have:=hsub.length_le
  omega
theorem gone_two {K:KnL} {c:Cx} {l rt rq:PT} {p q m:Nat} {x y:It} {kp:Kn} {dm:List (Nat × It × PT)}(hK:K.length=m+1)(hm:m≤1400)(h:Whole0 K (c.plug (.node l p x rt)))(hkp:K[p]? =some kp)(hT:((Cx.R c l p x).dn dm).plug (.node .nil q y rq)=c.plug (.node l p x rt))(hsrt:srt (c.plug (.node l p x rt)).items):
  p≠q∧GoneP (K.set p { kp with it:=y }) (c.bef++((l.items++rt.items)++c.aft)) (rq.places++((Cx.R c l p y).dn dm).places) ((Cx.R c l p y).dn dm) rq (c.plug (.node l p x rt)).root q m (rq.height+1):=by
 obtain⟨h1,h2,h3,h4⟩:=h
 have h1':Rp K (((Cx.R c l p x).dn dm).plug (.node .nil q y rq)):=by rw [hT];exact h1
 have h2':(((Cx.R c l p x).dn dm).plug (.node .nil q y rq)).bal:=by rw [hT];exact h2
 have h3':(((Cx.R c l p x).dn dm).plug (.node .nil q y rq)).places.Nodup:=by rw [hT];exact h3
 obtain⟨r1,r2⟩:=RpC.of _ _ h1'
 obtain⟨b1,b2⟩:=okC.of _ _ h2'
 have hp:=(Cx.perm ((Cx.R c l p x).dn dm) (.node .nil q y rq))
 have hn:(q :: (rq.places++((Cx.R c l p x).dn dm).places)).Nodup:=hp.nodup_iff.1 h3'
 have hl:(c.plug (.node l p x rt)).places.length=(q :: (rq.places++((Cx.R c l p x).dn dm).places)).length:=by rw [←hT];exact hp.length_eq
 have hpin:=dn_in (c:=c) (l:=l) (p:=p) (x:=x) dm
 obtain⟨n1,n2⟩:=List.nodup_cons.1 hn
 obtain⟨n3,n4,n5⟩:=List.nodup_append.1 n2
 have hpq:p≠q:=fun e=>n1 (List.mem_append_right _ (by rw [←e];exact hpin))
 have hprq:p∉rq.places:=fun e=>n5 p e p hpin rfl
 have hit0:c.bef++((l.items++x :: rt.items)++c.aft)=(c.bef++(l.items++ [x]))++((y :: rq.items)++((Cx.R c l p x).dn dm).aft):=by
  have e:=congrArg PT.items hT
  rw [Cx.items,Cx.items,dn_bef]at e
  simpa [PT.items]using e.symm
 have hrt:rt.items++c.aft=y :: (rq.items++((Cx.R c l p x).dn dm).aft):=by simpa using hit0
 have hit:(((Cx.R c l p y).dn dm).plug rq).items=c.bef++((l.items++rt.items)++c.aft):=by
  rw [Cx.items,dn_bef,List.append_assoc (l.items),hrt,dn_aft (x:=y) (y:=x)]
  simp
 have hsub:(c.bef++((l.items++rt.items)++c.aft)).Sublist (c.plug (.node l p x rt)).items:=by
  rw [Cx.items]
  refine(List.Sublist.refl _).append (List.Sublist.append ?_ (List.Sublist.refl _))
  exact(List.Sublist.refl _).append (List.sublist_cons_self _ _)
 have hlen:(c.plug (.node l p x rt)).items.length=m+1:=by rw [PT.len,h4,hK]
 have hh:(PT.node .nil q y rq).height=rq.height+1:=by simp [PT.height]
 rw [hh]at b2
 rw [hT]at r2
 rw [←ζ3y (x:=x) (y:=y) dm]
 refine⟨hpq,⟨⟨dn_it hkp dm _ r2 n4,r1.2.2.set hprq _,b1.2.1,dn_ok dm _ b2,by omega,?_,hit,?_,fun _ _=>rfl⟩,hn,?_,hsrt.sublist hsub,?_⟩⟩
 ·rw [←ζ3y (x:=x) (y:=y) dm];exact n2
 ·rw [←ζ3y (x:=x) (y:=y) dm]
 ·simp only [List.length_cons]at hl
  have:(c.plug (.node l p x rt)).places.length=m+1:=by rw [h4,hK]
  omega
 ·have:=hsub.length_le
  omega
theorem ζ2l {K K':KnL} {L:ItL} {P:List Nat} {t':PT} {q m h0:Nat}(nd:(q :: P).Nodup)(len:P.length=m)(hs:srt L)(R:RiseP K L P .top t' K' t'.root t'.root h0):Rp K' t'∧(q :: t'.places).Nodup∧t'.places.length=m∧srt t'.items∧t'.bal∧t'.items=L:=by
 have pm:t'.places.Perm P:=by have:=R.pm;rwa [Cx.places,List.append_nil]at this
 have it:t'.items=L:=R.it
 exact⟨R.rp,(pm.cons q).nodup_iff.2 nd,by rw [pm.length_eq,len],by rw [it];exact hs,R.bal,it⟩
end Corr
namespace Go.Proofs.YthagdonmijhpdaaGreat
open Go.RowKit Corr
def ζ2s (g gW m c gK:Nat)(M:Int)(L:ItL)(w:World)(e:Ending)(w':World):Prop:=∃K' t',e= .returned (.tuple #[])∧Ar 221 w' g M t'.root (some ⟨gK,0,none⟩) m c K'∧Whole K' t' L∧Off (fun k=>inAr g (some ⟨gK,0,none⟩) (m+1) c k∨k=gW) w w'
theorem take_left0 (g gW m c gK:Nat)(M:Int)(K:KnL)(cx:Cx)(rt:PT)(p:Nat)(x:It)(w:World)(H:Ar 221 w g M (cx.plug (.node .nil p x rt)).root (some ⟨gK,0,none⟩) (m+1) c K)(W:WayM w gW cx.way)(hne: ¬inAr g (some ⟨gK,0,none⟩) (m+1) c gW)(h:Whole0 K (cx.plug (.node .nil p x rt)))(hsrt:srt (cx.plug (.node .nil p x rt)).items)(hm:m≤1400)(L:ItL)(hL:cx.bef++((PT.nil.items++rt.items)++cx.aft)=L):
  Calls Tryz.prog 130 #[.pointer (some ⟨g,0,none⟩),.pointer (some ⟨gW,0,none⟩),.int .i64 (p:Int)] w (ζ2s g gW m c gK M L w):=by
 have HA:=hid H
 have HW:=hid W
 have HNE:=hid hne
 have HWH:=hid h
 have HSR:=hid hsrt
 have HLEN:=hid H.len
 have hrp:=(RpC.of cx _ h.rp).1.1
 have HKP:=hid hrp
 have hpn:=H.lt hrp
 have a2:=H.b.get 2 rfl
 have c3:=H.c3 hrp
 have c4:=H.c4 hrp
 have j0:decide ((p:Int)<0)=false:=decide_eq_false (by omega)
 have j1:(0:Int)≤(p:Int):=by omega
 have j2:(p:Int)<(m:Int)+1:=by omega
 have j3:((p:Int)).toNat=p:=by omega
 simp only []at c3 c4
 have HG:=(gone_one HLEN.out hm h (.inl ⟨rfl,rfl⟩) hsrt)
 rw [hL]at HG
 have HG:=hid HG
 have HF0:=hid (Off.refl (fun k=>inAr g (some ⟨gK,0,none⟩) (m+1) c k∨k=gW) w)
 have d3:w.cell? ⟨gK,p*7+3,none⟩=some (.int .i64 (-1)):=c3
 clear c3
 clear H W hne h hsrt hrp hL
 go_enter Tryz.func130,Tryz.ntmps130
 go_wp2_with fail
 cases hl2:cx.last with
 | none=>
  have hcx:cx= .top:=by revert hl2;cases cx <;> simp [Cx.last]
  clear hl2
  have hw0:WayM w gW []:=by have:=HW.out;rw [hcx]at this;exact this
  refine(ζ3g g gW (m+1) c _ M (cx.plug (.node .nil p x rt)).root rt.root K w HA.out hw0).mono ?_
  rintro e w7 ⟨rfl,hA7,hF7⟩
  have HA7:=hid hA7
  have HF7:=hid (HF0.out.trans (hF7.mono fun k _ e=> .inl e))
  have HW7:=hid (HW.out.off hF7 HNE.out)
  have HR7:=hid (show RiseP K L (rt.places++cx.places) cx rt K rt.root rt.root (rt.height+1)from by have h1:=HG.out.rise;rw [hcx]at h1 ⊢;exact h1.top)
  clear hA7 hF7 hw0
  go_wp2_with fail
  refine(ζ2b g gW (m+1) c gK M rt.root K K L (rt.places++cx.places) cx rt (rt.height+1) w7 HA7.out HW7.out HNE.out HR7.out HG.out.low (by omega)).mono ?_
  rintro e w8 ⟨t',K',h0',rfl,hA8,hR8,hF8⟩
  obtain⟨d1,d2,d3,d4,d5,d6⟩:=ζ2l HG.out.nd HG.out.len HG.out.srt hR8
  have HA8:=hid hA8
  have HF8:=hid (HF7.out.trans hF8)
  have HD:=hid (And.intro d1 (And.intro d2 (And.intro d3 (And.intro d4 (And.intro d5 d6)))))
  clear hA8 hR8 hF8 d1 d2 d3 d4 d5 d6
  go_wp2_with fail
  refine(ζ1l g m c gK p M K' t' w8 HA8.out HD.out.1 HD.out.2.1 HD.out.2.2.1 HD.out.2.2.2.1 HD.out.2.2.2.2.1 (by omega) (by omega)).mono ?_
  rintro e w9 ⟨K9,t9,rfl,hA9,hW9,hF9⟩
  have HF:=hid (show ζ2s g gW m c gK M L w (.returned (.tuple #[])) w9 from⟨K9,t9,rfl,hA9,by rw [←HD.out.2.2.2.2.2];exact hW9,HF8.out.trans (hF9.mono fun k _ e=> .inl e)⟩)
  clear hA9 hW9 hF9
  go_wp2_with fail
  go_end0
  exact HF.out
 | some pb=>
  obtain⟨p2,b2⟩:=pb
  obtain⟨k2,hk2,hR3⟩:=HG.out.rise.hang hl2 rt.root
  have HR7:=hid hR3
  have HWL:=hid (Cx.way_last hl2)
  refine(ζ3h g gW (m+1) c gK M (cx.plug (.node .nil p x rt)).root rt.root K cx.up p2 b2 k2 w HA.out (by rw [←HWL.out];exact HW.out) hk2 (by omega)).mono ?_
  rintro e w7 ⟨rfl,hA7,hF7⟩
  have HA7:=hid hA7
  have HF7:=hid (HF0.out.trans (hF7.mono fun k _ e=> .inl e))
  have HW7:=hid (HW.out.off hF7 HNE.out)
  clear hA7 hF7 hk2 hR3 hl2
  go_wp2_with fail
  refine(ζ2b g gW (m+1) c gK M (cx.plug (.node .nil p x rt)).root K _ L (rt.places++cx.places) cx rt (rt.height+1) w7 HA7.out HW7.out HNE.out HR7.out HG.out.low (by omega)).mono ?_
  rintro e w8 ⟨t',K',h0',rfl,hA8,hR8,hF8⟩
  obtain⟨d1,d2,d3,d4,d5,d6⟩:=ζ2l HG.out.nd HG.out.len HG.out.srt hR8
  have HA8:=hid hA8
  have HF8:=hid (HF7.out.trans hF8)
  have HD:=hid (And.intro d1 (And.intro d2 (And.intro d3 (And.intro d4 (And.intro d5 d6)))))
  clear hA8 hR8 hF8 d1 d2 d3 d4 d5 d6
  go_wp2_with fail
  refine(ζ1l g m c gK p M K' t' w8 HA8.out HD.out.1 HD.out.2.1 HD.out.2.2.1 HD.out.2.2.2.1 HD.out.2.2.2.2.1 (by omega) (by omega)).mono ?_
  rintro e w9 ⟨K9,t9,rfl,hA9,hW9,hF9⟩
  have HF:=hid (show ζ2s g gW m c gK M L w (.returned (.tuple #[])) w9 from⟨K9,t9,rfl,hA9,by rw [←HD.out.2.2.2.2.2];exact hW9,HF8.out.trans (hF9.mono fun k _ e=> .inl e)⟩)
  clear hA9 hW9 hF9
  go_wp2_with fail
  go_end0
  exact HF.out
theorem take_right0 (g gW m c gK:Nat)(M:Int)(K:KnL)(cx:Cx)(a b:PT)(q:Nat)(y:It)(p:Nat)(x:It)(w:World)(H:Ar 221 w g M (cx.plug (.node (.node a q y b) p x .nil)).root (some ⟨gK,0,none⟩) (m+1) c K)(W:WayM w gW cx.way)(hne: ¬inAr g (some ⟨gK,0,none⟩) (m+1) c gW)(h:Whole0 K (cx.plug (.node (.node a q y b) p x .nil)))(hsrt:srt (cx.plug (.node (.node a q y b) p x .nil)).items)(hm:m≤1400)(L:ItL)(hL:cx.bef++(((PT.node a q y b).items++PT.nil.items)++cx.aft)=L):
  Calls Tryz.prog 130 #[.pointer (some ⟨g,0,none⟩),.pointer (some ⟨gW,0,none⟩),.int .i64 (p:Int)] w (ζ2s g gW m c gK M L w):=by
 have HA:=hid H
 have HW:=hid W
 have HNE:=hid hne
 have HWH:=hid h
 have HSR:=hid hsrt
 have HLEN:=hid H.len
 have hrp:=(RpC.of cx _ h.rp).1.1
 have HKP:=hid hrp
 have hpn:=H.lt hrp
 have a2:=H.b.get 2 rfl
 have c3:=H.c3 hrp
 have c4:=H.c4 hrp
 have j0:decide ((p:Int)<0)=false:=decide_eq_false (by omega)
 have j1:(0:Int)≤(p:Int):=by omega
 have j2:(p:Int)<(m:Int)+1:=by omega
 have j3:((p:Int)).toNat=p:=by omega
 simp only []at c3 c4
 have HG:=(gone_one HLEN.out hm h (.inr ⟨rfl,rfl⟩) hsrt)
 rw [hL]at HG
 have HG:=hid HG
 have HF0:=hid (Off.refl (fun k=>inAr g (some ⟨gK,0,none⟩) (m+1) c k∨k=gW) w)
 have d4:w.cell? ⟨gK,p*7+4,none⟩=some (.int .i64 (-1)):=c4
 clear c4
 have e1:((PT.node a q y b).root == -1)=false:=by simp [PT.root]
 clear H W hne h hsrt hrp hL
 go_enter Tryz.func130,Tryz.ntmps130
 go_wp2_with fail
 cases hl2:cx.last with
 | none=>
  have hcx:cx= .top:=by revert hl2;cases cx <;> simp [Cx.last]
  clear hl2
  have hw0:WayM w gW []:=by have:=HW.out;rw [hcx]at this;exact this
  refine(ζ3g g gW (m+1) c _ M (cx.plug (.node (.node a q y b) p x .nil)).root (PT.node a q y b).root K w HA.out hw0).mono ?_
  rintro e w7 ⟨rfl,hA7,hF7⟩
  have HA7:=hid hA7
  have HF7:=hid (HF0.out.trans (hF7.mono fun k _ e=> .inl e))
  have HW7:=hid (HW.out.off hF7 HNE.out)
  have HR7:=hid (show RiseP K L ((PT.node a q y b).places++cx.places) cx (PT.node a q y b) K (PT.node a q y b).root (PT.node a q y b).root ((PT.node a q y b).height+1)from by have h1:=HG.out.rise;rw [hcx]at h1 ⊢;exact h1.top)
  clear hA7 hF7 hw0
  go_wp2_with fail
  refine(ζ2b g gW (m+1) c gK M (PT.node a q y b).root K K L ((PT.node a q y b).places++cx.places) cx (PT.node a q y b) ((PT.node a q y b).height+1) w7 HA7.out HW7.out HNE.out HR7.out HG.out.low (by omega)).mono ?_
  rintro e w8 ⟨t',K',h0',rfl,hA8,hR8,hF8⟩
  obtain⟨d1,d2,d3,d4,d5,d6⟩:=ζ2l HG.out.nd HG.out.len HG.out.srt hR8
  have HA8:=hid hA8
  have HF8:=hid (HF7.out.trans hF8)
  have HD:=hid (And.intro d1 (And.intro d2 (And.intro d3 (And.intro d4 (And.intro d5 d6)))))
  clear hA8 hR8 hF8 d1 d2 d3 d4 d5 d6
  go_wp2_with fail
  refine(ζ1l g m c gK p M K' t' w8 HA8.out HD.out.1 HD.out.2.1 HD.out.2.2.1 HD.out.2.2.2.1 HD.out.2.2.2.2.1 (by omega) (by omega)).mono ?_
  rintro e w9 ⟨K9,t9,rfl,hA9,hW9,hF9⟩
  have HF:=hid (show ζ2s g gW m c gK M L w (.returned (.tuple #[])) w9 from⟨K9,t9,rfl,hA9,by rw [←HD.out.2.2.2.2.2];exact hW9,HF8.out.trans (hF9.mono fun k _ e=> .inl e)⟩)
  clear hA9 hW9 hF9
  go_wp2_with fail
  go_end0
  exact HF.out
 | some pb=>
  obtain⟨p2,b2⟩:=pb
  obtain⟨k2,hk2,hR3⟩:=HG.out.rise.hang hl2 (PT.node a q y b).root
  have HR7:=hid hR3
  have HWL:=hid (Cx.way_last hl2)
  refine(ζ3h g gW (m+1) c gK M (cx.plug (.node (.node a q y b) p x .nil)).root (PT.node a q y b).root K cx.up p2 b2 k2 w HA.out (by rw [←HWL.out];exact HW.out) hk2 (by omega)).mono ?_
  rintro e w7 ⟨rfl,hA7,hF7⟩
  have HA7:=hid hA7
  have HF7:=hid (HF0.out.trans (hF7.mono fun k _ e=> .inl e))
  have HW7:=hid (HW.out.off hF7 HNE.out)
  clear hA7 hF7 hk2 hR3 hl2
  go_wp2_with fail
  refine(ζ2b g gW (m+1) c gK M (cx.plug (.node (.node a q y b) p x .nil)).root K _ L ((PT.node a q y b).places++cx.places) cx (PT.node a q y b) ((PT.node a q y b).height+1) w7 HA7.out HW7.out HNE.out HR7.out HG.out.low (by omega)).mono ?_
  rintro e w8 ⟨t',K',h0',rfl,hA8,hR8,hF8⟩
  obtain⟨d1,d2,d3,d4,d5,d6⟩:=ζ2l HG.out.nd HG.out.len HG.out.srt hR8
  have HA8:=hid hA8
  have HF8:=hid (HF7.out.trans hF8)
  have HD:=hid (And.intro d1 (And.intro d2 (And.intro d3 (And.intro d4 (And.intro d5 d6)))))
  clear hA8 hR8 hF8 d1 d2 d3 d4 d5 d6
  go_wp2_with fail
  refine(ζ1l g m c gK p M K' t' w8 HA8.out HD.out.1 HD.out.2.1 HD.out.2.2.1 HD.out.2.2.2.1 HD.out.2.2.2.2.1 (by omega) (by omega)).mono ?_
  rintro e w9 ⟨K9,t9,rfl,hA9,hW9,hF9⟩
  have HF:=hid (show ζ2s g gW m c gK M L w (.returned (.tuple #[])) w9 from⟨K9,t9,rfl,hA9,by rw [←HD.out.2.2.2.2.2];exact hW9,HF8.out.trans (hF9.mono fun k _ e=> .inl e)⟩)
  clear hA9 hW9 hF9
  go_wp2_with fail
  go_end0
  exact HF.out
theorem take_both (g gW m c gK:Nat)(M:Int)(K:KnL)(cx:Cx)(l1 l2 r1 r2:PT)(lp rp:Nat)(lx rx:It)(p:Nat)(x:It)(w:World)(H:Ar 221 w g M (cx.plug (.node (.node l1 lp lx l2) p x (.node r1 rp rx r2))).root (some ⟨gK,0,none⟩) (m+1) c K)(W:WayM w gW cx.way)(hne: ¬inAr g (some ⟨gK,0,none⟩) (m+1) c gW)(h:Whole0 K (cx.plug (.node (.node l1 lp lx l2) p x (.node r1 rp rx r2))))(hsrt:srt (cx.plug (.node (.node l1 lp lx l2) p x (.node r1 rp rx r2))).items)(hm:m≤1400)(L:ItL)(hL:cx.bef++(((PT.node l1 lp lx l2).items++(PT.node r1 rp rx r2).items)++cx.aft)=L):
  Calls Tryz.prog 130 #[.pointer (some ⟨g,0,none⟩),.pointer (some ⟨gW,0,none⟩),.int .i64 (p:Int)] w (ζ2s g gW m c gK M L w):=by
 have HA:=hid H
 have HW:=hid W
 have HNE:=hid hne
 have HWH:=hid h
 have HSR:=hid hsrt
 have HLEN:=hid H.len
 have hrp:=(RpC.of cx _ h.rp).1.1
 have HKP:=hid hrp
 have hpn:=H.lt hrp
 have a2:=H.b.get 2 rfl
 have c3:=H.c3 hrp
 have c4:=H.c4 hrp
 have j0:decide ((p:Int)<0)=false:=decide_eq_false (by omega)
 have j1:(0:Int)≤(p:Int):=by omega
 have j2:(p:Int)<(m:Int)+1:=by omega
 have j3:((p:Int)).toNat=p:=by omega
 simp only []at c3 c4
 have d3:w.cell? ⟨gK,p*7+3,none⟩=some (.int .i64 (lp:Int)):=c3
 have d4:w.cell? ⟨gK,p*7+4,none⟩=some (.int .i64 (rp:Int)):=c4
 have e1:((lp:Int) == -1)=false:=by simp
 have e2:((rp:Int) == -1)=false:=by simp
 have e3:((lp:Int) != -1)=true:=by simp
 have e4:((rp:Int) != -1)=true:=by simp
 have e5:((lp:Int) != -1 && (rp:Int) != -1)=true:=by simp
 have HLL:=hid hL
 have HDP:=hid (show ∀(c':Cx) (s:PT),c'.plug s=(Cx.plug cx (PT.node (PT.node l1 lp lx l2) p x (PT.node r1 rp rx r2)))→c'.way.length+s.height≤21 from fun c' s e=>by
  have h1:=c'.deep s
  rw [e]at h1
  have h2:=bal_le h.bal (by rw [PT.len,h.len,HLEN.out];omega)
  omega)
 have HF0:=hid (Off.refl (· =gW) w)
 clear c3 c4 H W hne h hsrt hrp hL
 go_enter Tryz.func130,Tryz.ntmps130
 go_wp2_with fail
 refine(push_any gW cx.way p true w HW.out (by have:=HDP.out cx _ rfl;simp only [PT.height]at this;omega)).mono ?_
 rintro e w1 ⟨rfl,hW1,hF1⟩
 have HNG:=hid (show (¬g=gW)∧∀k,inRow (some ⟨gK,0,none⟩) (m+1) c k→¬k=gW from⟨fun e=>HNE.out (.inl e.symm),fun k hk e=>HNE.out (.inr (by rw [←e];exact hk))⟩)
 have HA1:=hid (HA.out.off hF1 HNG.out.1 HNG.out.2)
 have HW1:=hid hW1
 have HF1:=hid hF1
 have r4:w1.cell? ⟨gK,p*7+4,none⟩=some (.int .i64 (rp:Int)):=HA1.out.c4 HKP.out
 clear d3 d4 hW1 hF1 a2
 go_wp2_with fail
 clear r4
 go_loopg [2] (PT.node r1 rp rx r2).height (fun kk v wr=>∃(dm:List (Nat × It × PT)) (lq rq:PT) (q:Nat) (y:It),v= .int .i64 (q:Int)∧Hid (kk=(PT.node lq q y rq).height)∧Hid (Cx.plug ((Cx.R cx (PT.node l1 lp lx l2) p x).dn dm) (PT.node lq q y rq)=(Cx.plug cx (PT.node (PT.node l1 lp lx l2) p x (PT.node r1 rp rx r2))))∧Hid (WayM wr gW (Cx.way (Cx.dn (Cx.R cx (PT.node l1 lp lx l2) p x) dm)))∧Hid (Off (· =gW) w wr))
 case atStart=>exact⟨[],r1,r2,rp,rx,rfl,hid rfl,hid rfl,HW1,HF1⟩
 case round=>
  clear HA1 HW1 HF1 HF0
  obtain⟨dm,lq,rq,q,y,rfl,HK,HT,HWr,HFr⟩:=hrel
  have HAr:=hid (HA.out.off HFr.out HNG.out.1 HNG.out.2)
  have hkq:Rp K (.node lq q y rq):=((RpX.of _ _).1 (by rw [HT.out];exact HWH.out.rp)).1
  have HKQ:=hid hkq.1
  have hqn:=HAr.out.lt hkq.1
  have a2:=HAr.out.b.get 2 rfl
  have c3:=HAr.out.c3 hkq.1
  simp only []at c3
  have i0:decide ((q:Int)<0)=false:=decide_eq_false (by omega)
  have i1:(0:Int)≤(q:Int):=by omega
  have i2:(q:Int)<(m:Int)+1:=by omega
  have i3:((q:Int)).toNat=q:=by omega
  cases lq with
  | node a q2 y2 b=>
   have d3:wr.cell? ⟨gK,q*7+3,none⟩=some (.int .i64 (q2:Int)):=c3
   have e6:((q2:Int) == -1)=false:=by simp
   have e7:((q2:Int) != -1)=true:=by simp
   clear c3 hkq
   go_wp2_with fail
   refine(push_any gW _ q false wr HWr.out (by have:=HDP.out _ _ HT.out;simp only [PT.height]at this;omega)).mono ?_
   rintro e w2 ⟨rfl,hW2,hF2⟩
   have HW2:=hid hW2
   have HF2:=hid (HFr.out.trans hF2)
   have HA2:=hid (HA.out.off HF2.out HNG.out.1 HNG.out.2)
   clear d3 hW2 hF2 a2
   have a2:=HA2.out.b.get 2 rfl
   have d3:w2.cell? ⟨gK,q*7+3,none⟩=some (.int .i64 (q2:Int)):=HA2.out.c3 HKQ.out
   go_wp2_with fail
   go_roundg (PT.node a q2 y2 b).height
   case measure=>rw [HK.out];simp only [PT.height];omega
   case rel=>exact⟨(q,y,rq) :: dm,a,b,q2,y2,rfl,hid rfl,HT,HW2,HF2⟩
  | nil=>
   have d3:wr.cell? ⟨gK,q*7+3,none⟩=some (.int .i64 (-1)):=c3
   have HTW:=hid (gone_two HLEN.out hm HWH.out HKP.out HT.out HSR.out)
   obtain⟨y1,y2,y3⟩:=y
   have HRQ:=hid (show Rp K rq from hkq.2.2)
   have k0:=HAr.out.c0 HKQ.out
   have k1:=HAr.out.c1 HKQ.out
   have k2:=HAr.out.c2 HKQ.out
   have p0:=HAr.out.c0 HKP.out
   have p1:=HAr.out.c1 HKP.out
   have p2:=HAr.out.c2 HKP.out
   have f0:=HAr.out.fz (p*7)
   have f1:=HAr.out.fz (p*7+1)
   have f2:=HAr.out.fz (p*7+2)
   simp only []at k0 k1 k2 p0 p1 p2
   clear c3 hkq
   go_upto_region 8 with fail
   have HA5:=hid (HAr.out.puti HKP.out (y1,y2,y3))
   have HF5:=hid ((((HFr.out.mono (F':=fun k=>inAr g (some ⟨gK,0,none⟩) (m+1) c k∨k=gW) fun k _ e=> .inr e).put ⟨gK,p*7,none⟩ (.inl (.inl (.inr rfl))) (.int .i64 y1)).put ⟨gK,p*7+1,none⟩ (.inl (.inl (.inr rfl))) (.int .i64 y2)).put ⟨gK,p*7+2,none⟩ (.inl (.inl (.inr rfl))) (.int .i64 y3))
   have HWX:=hid (show WayM (((wr.setCell ⟨gK,p*7,none⟩ (.int .i64 y1)).setCell ⟨gK,p*7+1,none⟩ (.int .i64 y2)).setCell ⟨gK,p*7+2,none⟩ (.int .i64 y3)) gW ((Cx.R cx (.node l1 lp lx l2) p (y1,y2,y3)).dn dm).way from by
    rw [dn_way (y:=x)]
    exact HWr.out.off (((Off.refl (inAr g (some ⟨gK,0,none⟩) (m+1) c) wr).put ⟨gK,p*7,none⟩ (.inl (.inr rfl)) (.int .i64 y1)).put ⟨gK,p*7+1,none⟩ (.inl (.inr rfl)) (.int .i64 y2) |>.put ⟨gK,p*7+2,none⟩ (.inl (.inr rfl)) (.int .i64 y3)) HNE.out)
   clear k0 k1 k2 p0 p1 p2 f0 f1 f2 d3 a2
   generalize ((wr.setCell ⟨gK,p*7,none⟩ (.int .i64 y1)).setCell ⟨gK,p*7+1,none⟩ (.int .i64 y2)).setCell ⟨gK,p*7+2,none⟩ (.int .i64 y3)=w5 at*
   obtain⟨hpq,hG⟩:=HTW.out
   rw [HLL.out]at hG
   have HG:=hid hG
   have hkq5:=HKQ.out
   rw [←List.getElem?_set_ne (l:=K) hpq (a:=({ it:=(y1,y2,y3),l:=(PT.node l1 lp lx l2).root,r:=(PT.node r1 rp rx r2).root,h:=((PT.node (PT.node l1 lp lx l2) p x (PT.node r1 rp rx r2)).height:Int),t:=topL (PT.node (PT.node l1 lp lx l2) p x (PT.node r1 rp rx r2)).items } :Kn))]at hkq5
   have a2:=HA5.out.b.get 2 rfl
   have d3:w5.cell? ⟨gK,q*7+3,none⟩=some (.int .i64 (-1)):=HA5.out.c3 hkq5
   have d4:w5.cell? ⟨gK,q*7+4,none⟩=some (.int .i64 rq.root):=HA5.out.c4 hkq5
   have hdl:=dn_last (c:=cx) (l:= .node l1 lp lx l2) (p:=p) (x:=(y1,y2,y3)) dm
   generalize (K.set p ({ it:=(y1,y2,y3),l:=(PT.node l1 lp lx l2).root,r:=(PT.node r1 rp rx r2).root,h:=((PT.node (PT.node l1 lp lx l2) p x (PT.node r1 rp rx r2)).height:Int),t:=topL (PT.node (PT.node l1 lp lx l2) p x (PT.node r1 rp rx r2)).items } :Kn))=K5 at*
   generalize (Cx.R cx (.node l1 lp lx l2) p (y1,y2,y3)).dn dm=c5 at*
   clear hG hkq5 hpq HTW
   go_wp2_with fail
   cases hl2:c5.last with
   | none=>
    have hcx:c5= .top:=by revert hl2;cases c5 <;> simp [Cx.last]
    clear hl2
    have hw0:WayM w5 gW []:=by have:=HWX.out;rw [hcx]at this;exact this
    refine(ζ3g g gW (m+1) c _ M (Cx.plug cx (PT.node (PT.node l1 lp lx l2) p x (PT.node r1 rp rx r2))).root rq.root K5 w5 HA5.out hw0).mono ?_
    rintro e w7 ⟨rfl,hA7,hF7⟩
    have HA7:=hid hA7
    have HF7:=hid (HF5.out.trans (hF7.mono fun k _ e=> .inl e))
    have HW7:=hid (HWX.out.off hF7 HNE.out)
    have HR7:=hid (show RiseP K5 L (rq.places++c5.places) c5 rq K5 rq.root rq.root (rq.height+1)from by have h1:=HG.out.rise;rw [hcx]at h1 ⊢;exact h1.top)
    clear hA7 hF7 hw0
    go_wp2_with fail
    refine(ζ2b g gW (m+1) c gK M rq.root K5 K5 L (rq.places++c5.places) c5 rq (rq.height+1) w7 HA7.out HW7.out HNE.out HR7.out HG.out.low (by omega)).mono ?_
    rintro e w8 ⟨t',K',h0',rfl,hA8,hR8,hF8⟩
    obtain⟨d1,d2,d3,d4,d5,d6⟩:=ζ2l HG.out.nd HG.out.len HG.out.srt hR8
    have HA8:=hid hA8
    have HF8:=hid (HF7.out.trans hF8)
    have HD:=hid (And.intro d1 (And.intro d2 (And.intro d3 (And.intro d4 (And.intro d5 d6)))))
    clear hA8 hR8 hF8 d1 d2 d3 d4 d5 d6
    go_wp2_with fail
    refine(ζ1l g m c gK q M K' t' w8 HA8.out HD.out.1 HD.out.2.1 HD.out.2.2.1 HD.out.2.2.2.1 HD.out.2.2.2.2.1 (by omega) (by omega)).mono ?_
    rintro e w9 ⟨K9,t9,rfl,hA9,hW9,hF9⟩
    have HF:=hid (show ζ2s g gW m c gK M L w (.returned (.tuple #[])) w9 from⟨K9,t9,rfl,hA9,by rw [←HD.out.2.2.2.2.2];exact hW9,HF8.out.trans (hF9.mono fun k _ e=> .inl e)⟩)
    clear hA9 hW9 hF9
    go_wp2_with fail
    go_end0
    exact HF.out
   | some pb=>
    obtain⟨p2,b2⟩:=pb
    obtain⟨k2,hk2,hR3⟩:=HG.out.rise.hang hl2 rq.root
    have HR7:=hid hR3
    have HWL:=hid (Cx.way_last hl2)
    refine(ζ3h g gW (m+1) c gK M (Cx.plug cx (PT.node (PT.node l1 lp lx l2) p x (PT.node r1 rp rx r2))).root rq.root K5 c5.up p2 b2 k2 w5 HA5.out (by rw [←HWL.out];exact HWX.out) hk2 (by omega)).mono ?_
    rintro e w7 ⟨rfl,hA7,hF7⟩
    have HA7:=hid hA7
    have HF7:=hid (HF5.out.trans (hF7.mono fun k _ e=> .inl e))
    have HW7:=hid (HWX.out.off hF7 HNE.out)
    clear hA7 hF7 hk2 hR3 hl2
    go_wp2_with fail
    refine(ζ2b g gW (m+1) c gK M (Cx.plug cx (PT.node (PT.node l1 lp lx l2) p x (PT.node r1 rp rx r2))).root K5 _ L (rq.places++c5.places) c5 rq (rq.height+1) w7 HA7.out HW7.out HNE.out HR7.out HG.out.low (by omega)).mono ?_
    rintro e w8 ⟨t',K',h0',rfl,hA8,hR8,hF8⟩
    obtain⟨d1,d2,d3,d4,d5,d6⟩:=ζ2l HG.out.nd HG.out.len HG.out.srt hR8
    have HA8:=hid hA8
    have HF8:=hid (HF7.out.trans hF8)
    have HD:=hid (And.intro d1 (And.intro d2 (And.intro d3 (And.intro d4 (And.intro d5 d6)))))
    clear hA8 hR8 hF8 d1 d2 d3 d4 d5 d6
    go_wp2_with fail
    refine(ζ1l g m c gK q M K' t' w8 HA8.out HD.out.1 HD.out.2.1 HD.out.2.2.1 HD.out.2.2.2.1 HD.out.2.2.2.2.1 (by omega) (by omega)).mono ?_
    rintro e w9 ⟨K9,t9,rfl,hA9,hW9,hF9⟩
    have HF:=hid (show ζ2s g gW m c gK M L w (.returned (.tuple #[])) w9 from⟨K9,t9,rfl,hA9,by rw [←HD.out.2.2.2.2.2];exact hW9,HF8.out.trans (hF9.mono fun k _ e=> .inl e)⟩)
    clear hA9 hW9 hF9
    go_wp2_with fail
    go_end0
    exact HF.out
theorem take_any (g gW m c gK:Nat)(M:Int)(K:KnL)(cx:Cx)(l rt:PT)(p:Nat)(x:It)(w:World)(H:Ar 221 w g M (cx.plug (.node l p x rt)).root (some ⟨gK,0,none⟩) (m+1) c K)(W:WayM w gW cx.way)(hne: ¬inAr g (some ⟨gK,0,none⟩) (m+1) c gW)(h:Whole0 K (cx.plug (.node l p x rt)))(hsrt:srt (cx.plug (.node l p x rt)).items)(hm:m≤1400):
  Calls Tryz.prog 130 #[.pointer (some ⟨g,0,none⟩),.pointer (some ⟨gW,0,none⟩),.int .i64 (p:Int)] w (ζ2s g gW m c gK M (cx.bef++((l.items++rt.items)++cx.aft)) w):=by
 cases l with
 | nil=>exact take_left0 g gW m c gK M K cx rt p x w H W hne h hsrt hm _ rfl
 | node l1 lp lx l2=>
  cases rt with
  | nil=>exact take_right0 g gW m c gK M K cx l1 l2 lp lx p x w H W hne h hsrt hm _ rfl
  | node r1 rp rx r2=>exact take_both g gW m c gK M K cx l1 l2 r1 r2 lp rp lx rx p x w H W hne h hsrt hm _ rfl
end Go.Proofs.YthagdonmijhpdaaGreat

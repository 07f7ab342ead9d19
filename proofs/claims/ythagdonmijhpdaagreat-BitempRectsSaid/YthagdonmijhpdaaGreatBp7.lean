/- Contract of package bitemp -/
import Derived.Test.YthagdonmijhpdaaGreatBp6
open Go.Lib (hid)
set_option linter.unusedSimpArgs false
set_option linter.unusedVariables false
set_option maxHeartbeats 8000000
set_option maxRecDepth 8000
namespace Corr
open Go Go.RowKit
theorem cks_len: ∀ {cs:List Ck},(∀c∈cs,okCk c)→cs.length≤(cs.flatMap Ck.rs).length
 | [],_=>Nat.le_refl _
 | c :: r,h=>by
  have h1:=cks_len (cs:=r) fun d hd=>h d (List.mem_cons_of_mem _ hd)
  have h2:=List.length_pos_iff.2 (h c List.mem_cons_self).ne
  rw [List.flatMap_cons,List.length_append,List.length_cons];omega
theorem SepF.kp_set {Rep:RepT} {R:RepOk Rep} {T U:TypeId} {F0:Nat→Prop} {w0 w:World} {ts:List Thing}(h:SepF F0 w0 ts w) {i:Nat} {Sk:Kp}(hi:ts[i]? =some (kpT R T U Sk))(m:Int):SepF F0 w0 (ts.set i (kpT R T U { Sk with n:=m })) (w.setCell ⟨Sk.g,1,none⟩ (.int .i64 m))∧SepF F0 w0 (ts.set i (kpT R T U { Sk with la:=m })) (w.setCell ⟨Sk.g,0,none⟩ (.int .i64 m)):=by
 obtain⟨F,⟨s,hp⟩,_,hu⟩:=h.get hi
 constructor
 ·obtain⟨F2,h1,h2,h3⟩:=(hp.2.set 1 rfl 1 (.int .i64 m)).pack
  exact hu _ F2 _ h2 ⟨s,h1⟩ h3
 ·obtain⟨F2,h1,h2,h3⟩:=(hp.2.set 1 rfl 0 (.int .i64 m)).pack
  exact hu _ F2 _ h2 ⟨s,h1⟩ h3
theorem kpT.few {Rep:RepT} {R:RepOk Rep} {T U:TypeId} {Sk:Kp} {w:World} {F:Nat→Prop}(h:(kpT R T U Sk).P w F) {E:List Int}(hE: ∀d,¬Sk.f d=Sk.f (d-1)→d∈E): ∃F',(kpT R T U { Sk with nb:=E.length }).P w F'∧∀k,F' k→F k:=by
 obtain⟨s,hp⟩:=h
 have:=hp.2.as (i:=0) rfl (tpTq R Sk.q E.length (pcI Sk.f)) (fun F' h=>⟨F',TpQq.few h hE,fun _ h=>h⟩)
 obtain⟨F2,h1,h2,h3⟩:=this.pack
 refine⟨F2,⟨s,h1⟩,fun k hk=> ?_⟩
 rcases h3 k hk with h | h
 ·exact h
 ·have:=h1.1 k hk;omega
theorem cov_end_in {f:Int→Int} {E:List Int}(hE: ∀d,¬f d=f (d-1)→d∈E) {l:ItL} {a b:Int}(hb:b∈E)(h:covP f a b l): ∀x∈l,x.2.1∈E:=fun x hx=>by
 obtain⟨i1,i2,i3,i4,i5,i6⟩:=ζ10 h x hx
 rcases i6 with e | e
 ·rw [e];exact hb
 ·exact hE x.2.1 fun e'=>e (by rw [e',i4 (x.2.1-1) (by omega) (by omega)])
structure PutI (L:ClL)(t a v zc:Int)(out:ItL)(S0:Kp)(k:Nat)(S1:Kp):Prop where
 g:S1.g=S0.g
 la:S1.la=t
 n:S1.n=S0.n
 f: ∃e,covP S0.f a e (out.take k)∧S1.f=fK S0.f a e v zc
 rs:S1.cs.flatMap Ck.rs=S0.cs.flatMap Ck.rs++shutL t v (out.take k)
 ck: ∀c∈S1.cs,okCk c
 nb:S1.nb≤2*L.length+2
section
variable {L:ClL} {t a b v zc:Int} {out:ItL} {S0 S1 S2:Kp} {k:Nat} {x:It}
theorem PutI.same (h:PutI L t a v zc out S0 k S1)(ho:covP S0.f a b out)(hx:out[k]? =some x)(hv:valP x.2.2=v):PutI L t a v zc out S0 (k+1) S1:=by
 obtain⟨e,h1,h2⟩:=h.f
 obtain⟨i1,i2,i3,i4,_⟩:=ζ10 ho x (List.mem_of_getElem? hx)
 have he:=ζ3m h1 (cov_cut ho hx)
 refine⟨h.g,h.la,h.n,⟨x.2.1,cov_step ho hx,?_⟩,?_,h.ck,h.nb⟩
 ·rw [h2,he];exact fK_no i2 i4 hv
 ·rw [shutL_no hx (by unfold shutB;simp [hv])];exact h.rs
theorem PutI.shut (h:PutI L t a v zc out S0 k S1)(ho:covP S0.f a b out)(hx:out[k]? =some x)(hv: ¬valP x.2.2=v)
  (hs1:shutC S1.la x.2.2=true→EndS S1 (rectI x S1.la) S2) (hs2:shutC S1.la x.2.2=false→S2=S1):
  S2.g=S0.g∧S2.la=t∧S2.n=S0.n∧S2.f=S1.f∧S2.nb=S1.nb∧(∀c∈S2.cs,okCk c)∧S2.cs.flatMap Ck.rs=S0.cs.flatMap Ck.rs++shutL t v (out.take (k+1)):=by
 have hsh:shutB t v x=shutC t x.2.2:=by unfold shutB shutC;rw [decide_eq_true hv];rfl
 cases hc:shutC S1.la x.2.2 with
 | true=>
  have e:=hs1 hc
  rw [h.la]at hc e
  refine⟨e.g.trans h.g,e.la.trans h.la,e.n.trans h.n,e.f,e.nb,e.ck,?_⟩
  rw [e.rs,h.rs,shutL_yes hx (by rw [hsh];exact hc),List.append_assoc]
 | false=>
  have e:=hs2 hc
  rw [h.la]at hc
  subst e
  refine⟨h.g,h.la,h.n,rfl,rfl,h.ck,?_⟩
  rw [h.rs,shutL_no hx (by rw [hsh];exact hc)]
end
def PutP {Rep:RepT}(R:RepOk Rep)(T U:TypeId)(L:ClL)(g:Nat)(w:World)(F:Nat→Prop)(e:Ending)(w':World):Prop:=∃(F':Nat→Prop) (S':Kp),e= .returned (.tuple #[])∧(kpT R T U S').P w' F'∧S'.g=g∧KsOk L S'∧Off F w w'∧∀k,F' k→F k∨w.heap.size≤k
end Corr
namespace Go.Proofs.YthagdonmijhpdaaGreat
open Go.RowKit Corr
theorem sepf_shut {Rep:RepT}(K:TrK Rep) {F0:Nat→Prop} {w0 w:World} {ts:List Thing}(h:SepF F0 w0 ts w) {i j gb:Nat} {Sk:Kp}(hi:ts[i]? =some (kpT K.toRepOk 86 134 Sk))(hj:ts[j]? =some (blkT gb #[.pointer (some ⟨Sk.g,0,none⟩)]))(x1 x2 z:Int)(hlen:Sk.cs.length≤100000)(hx:x1<x2)(hk: ∀c∈Sk.cs,okCk c):
  Calls Tryz.prog 67 #[.agg #[.int .i64 x1,.int .i64 x2,.int .i64 (numP z),.int .i64 (sinP z),.int .i64 (valP z)],.pointer (some ⟨gb,0,none⟩)] w fun e w'=>e= .returned (.tuple #[])∧∃S2,SepF F0 w0 (ts.set i (kpT K.toRepOk 86 134 S2)) w'∧(shutC Sk.la z=true→EndS Sk (rectI (x1,x2,z) Sk.la) S2)∧(shutC Sk.la z=false→S2=Sk):=by
 obtain⟨F,hp,_,hu⟩:=h.get hi
 refine(shut_any K Sk x1 x2 z gb w F hp (h.b j hj) hlen hx hk).mono fun e w' hq=> ?_
 obtain⟨F',S',he,h1,h2,h3,h4,h5⟩:=hq
 exact⟨he,S',hu w' F' _ h4 h1 h5,h2,h3⟩
theorem sepf_open {Rep:RepT}(K:TrK Rep) {F0:Nat→Prop} {w0 w:World} {ts:List Thing}(h:SepF F0 w0 ts w) {i j l gb gi:Nat} {Sk:Kp} {y:Int}(hi:ts[i]? =some (kpT K.toRepOk 86 134 Sk))(hj:ts[j]? =some (blkT gb #[.pointer (some ⟨Sk.g,0,none⟩)]))(hl:ts[l]? =some (blkT gi #[.int .i64 (numP y),.int .i64 (sinP y),.int .i64 (valP y)]))(x1 x2 z:Int)(ho:offF Sk.f)(hn:Sk.nb≤900)(hm:mayB x1 x2=true) {E:List Int}(hE: ∀d,¬updF Sk.f x1 x2 y d=updF Sk.f x1 x2 y (d-1)→d∈E):
  Calls Tryz.prog 70 #[.agg #[.int .i64 x1,.int .i64 x2,.int .i64 (numP z),.int .i64 (sinP z),.int .i64 (valP z)],.pointer (some ⟨gb,0,none⟩),.pointer (some ⟨gi,0,none⟩)] w fun e w'=>e= .returned (.tuple #[])∧SepF F0 w0 (ts.set i (kpT K.toRepOk 86 134 { Sk with f:=updF Sk.f x1 x2 y,nb:=E.length })) w':=by
 obtain⟨F,hp,_,hu⟩:=h.get hi
 refine(open_any K Sk x1 x2 z y gb gi w F hp (h.b j hj) (h.b l hl) ho hn hm).mono fun e w' hq=> ?_
 obtain⟨F',he,h1,h2,h3⟩:=hq
 obtain⟨F2,g1,g2⟩:=kpT.few h1 hE
 exact⟨he,hu w' F2 _ h2 g1 fun k hk=>h3 k (g2 k hk)⟩
set_option maxRecDepth 100000 in
theorem bkput_any {Rep:RepT}(K:TrK Rep)(Sk:Kp)(L:ClL)(t a b v:Int)(out:ItL)(A:Option Addr)(N c B:Nat)(w:World)(F:Nat→Prop)(H:(kpT K.toRepOk 86 134 Sk).P w F)(hks:KS L Sk.f (Sk.cs.flatMap Ck.rs) Sk.n)(hck: ∀c∈Sk.cs,okCk c)(hnb:Sk.nb≤2*L.length)(hL:L.length≤100)(hla:Sk.la=t)(ht:lastL L≤t)(ht1:1≤t)(hm:mayB a b=true)(ho:covP Sk.f a b out)
  (hrow:w.ownsRow B 128 5 (.slice A N c) N (ζ7 out)) (hdis: ∀k,rowK A N c k→¬F k):Calls Tryz.prog 33 #[.pointer (some ⟨Sk.g,0,none⟩),.slice A N c,.int .i64 v] w (PutP K.toRepOk 86 134 (L++ [(t,a,b,v)]) Sk.g w F):=by
 have hmf: ∀(fn:Fn) (first cap:Array Value) (w:World),(Instr.makeFunc fn first cap).run Tryz.prog w= .ok (.func fn first cap) w:=fun _ _ _ _=>rfl
 have hs0:=(((SepF.start (t:=kpT K.toRepOk 86 134 Sk) H).push #[.pointer (some ⟨Sk.g,0,none⟩)] 64)).push #[.int .i64 0,.int .i64 0,.int .i64 0] 78
 rw [ζd]at hs0
 obtain⟨w1,hw1⟩: ∃w1,(w.alloc (.cells #[.pointer (some ⟨Sk.g,0,none⟩)] 64)).alloc (.cells #[.int .i64 0,.int .i64 0,.int .i64 0] 78)=w1:=⟨_,rfl⟩
 rw [hw1]at hs0
 obtain⟨gi,hgi⟩: ∃k,w.heap.size+1=k:=⟨_,rfl⟩
 obtain⟨gb,hgb⟩: ∃k,w.heap.size=k:=⟨_,rfl⟩
 rw [hgi,hgb]at hs0
 have HS1:=hid (show SepF F w [kpT K.toRepOk 86 134 Sk,blkT gb #[.pointer (some ⟨Sk.g,0,none⟩)],blkT gi #[.int .i64 0,.int .i64 0,.int .i64 0]] w1 from hs0)
 have HGI:=hid hgi
 have HGB:=hid hgb
 have HKS:=hid hks
 have HCK:=hid hck
 have HNB:=hid hnb
 have HL:=hid hL
 have HLA:=hid hla
 have HT:=hid ht
 have HT1:=hid ht1
 have HM:=hid hm
 have HO:=hid ho
 have HROW:=hid hrow
 have HDIS:=hid hdis
 have HLEN:=hid (show out.length=N by have:=hrow.1;rw [ζx]at this;omega)
 have HFEW:=hid (cov_few hks.endf ho)
 have hN:N≤1000:=by have h1:=HFEW.out.2;rw [ζ1z]at h1;have:=HLEN.out;omega
 have hn0:=hks.cnt.1
 have hn1:Sk.n≤100:=by have:=hks.cnt.2;omega
 clear hs0 H hgi hgb hks hck hnb hL hla ht ht1 hm ho hrow hdis
 by_cases hv:v=0
 ·have d0:(v == 0)=true:=by simpa using hv
  have HV:=hid hv
  clear hv
  go_enter Tryz.func33,Tryz.ntmps33
  go_wp2_with fail
  refine(ζ1f v 0 _).mono ?_
  rintro e w2 ⟨rfl,b2⟩
  rw [d0]
  have HSL:=hid (show SepF F w [kpT K.toRepOk 86 134 { Sk with n:=Sk.n },blkT gb #[.pointer (some ⟨Sk.g,0,none⟩)],blkT gi #[.int .i64 (numP 0),.int .i64 (sinP 0),.int .i64 (valP 0)]] w2 by rw [c_zero.1,c_zero.2.1,c_zero.2.2];exact HS1.out.keep b2)
  clear hw1 b2 HS1 d0
  rw [HGI.out,HGB.out]
  go_wp2_with fail
  go_loopw [37] (fun u wr=>∃(k:Nat) (S1:Kp),u= .int .i64 (k:Int)∧k≤N∧Hid (PutI L t a v 0 out { Sk with n:=Sk.n } k S1)∧Hid (SepF F w [kpT K.toRepOk 86 134 S1,blkT gb #[.pointer (some ⟨Sk.g,0,none⟩)],blkT gi #[.int .i64 (numP 0),.int .i64 (sinP 0),.int .i64 (valP 0)]] wr)) (fun u _=>(N-intOf u).toNat)
  case atStart=>exact⟨0, { Sk with n:=Sk.n },rfl,by omega,hid ⟨rfl,HLA.out,rfl,⟨a,(by rw [List.take_zero];rfl),(fK_zero _ _ _ _).symm⟩,by rw [List.take_zero];simp [shutL],HCK.out,by have:=HNB.out;show Sk.nb≤_;omega⟩,HSL⟩
  case round=>
   obtain⟨k,S1,rfl,hk,HI,HS⟩:=hrel
   clear HSL
   have hcl:S1.cs.length≤100000:=by
    have h1:=cks_len HI.out.ck
    rw [HI.out.rs,List.length_append]at h1
    have h2:=shutL_len t v (out.take k)
    rw [List.length_take]at h2
    have h3:=HKS.out.len
    have h4:=HL.out
    have h5:(({ Sk with n:=Sk.n } :Kp).cs.flatMap Ck.rs).length=(Sk.cs.flatMap Ck.rs).length:=rfl
    have h6:=HLEN.out
    omega
   have HCL:=hid hcl
   clear hcl
   by_cases hlt:k<N
   ·obtain⟨g,⟨y1,y2,y3⟩,rfl,hx,k0,k1,k2,k3,k4⟩:=ζ2u (HS.out.off.own HROW.out HDIS.out) hlt
    have HX:=hid hx
    have hmem:=List.mem_of_getElem? hx
    have HSG:=hid (ζ10 HO.out (y1,y2,y3) hmem)
    have hs5:=HS.out.push #[.int .i64 y1,.int .i64 y2,.int .i64 (numP y3),.int .i64 (sinP y3),.int .i64 (valP y3)] 128
    have HS5:=hid hs5
    have z0:=(hs5.b 3 rfl).get 0 rfl
    have z1:=(hs5.b 3 rfl).get 1 rfl
    have z2:=(hs5.b 3 rfl).get 2 rfl
    have z3:=(hs5.b 3 rfl).get 3 rfl
    have z4:=(hs5.b 3 rfl).get 4 rfl
    clear hx hs5
    by_cases hq:valP y3=v
    ·have d1:(valP y3 == v)=true:=by simpa using hq
     have HQ:=hid (HI.out.same HO.out HX.out hq)
     clear hq hmem
     go_wp2_with fail
     refine(ζ1f (valP y3) v _).mono ?_
     rintro e w6 ⟨rfl,b6⟩
     rw [d1]
     have HS6:=hid ((HS5.out.keep b6).take 3)
     clear b6 z0 z1 z2 z3 z4
     go_wp2_with fail
     go_roundw
     case rel=>exact⟨k+1,S1,by go_num,by omega,HQ,HS6⟩
     case measure=>simp [intOf];omega
    ·have d1:(valP y3 == v)=false:=by simpa using hq
     have HQ:=hid hq
     have HEN:=hid (show (∀d,¬Sk.f d=Sk.f (d-1)→d∈endsS (L++ [(t,a,b,v)]))∧a∈endsS (L++ [(t,a,b,v)])∧y2∈endsS (L++ [(t,a,b,v)])from by
      have h1: ∀d,¬Sk.f d=Sk.f (d-1)→d∈endsS (L++ [(t,a,b,v)]):=fun d hd=>by rw [ζ20];exact List.mem_append_left _ (HKS.out.endf d hd)
      have h2:a∈endsS (L++ [(t,a,b,v)])∧b∈endsS (L++ [(t,a,b,v)]):=by rw [ζ20];simp [endsS]
      exact⟨h1,h2.1,cov_end_in h1 h2.2 HO.out _ hmem⟩)
     clear hq hmem
     go_wp2_with fail
     refine(ζ1f (valP y3) v _).mono ?_
     rintro e w6 ⟨rfl,b6⟩
     rw [d1]
     have hs6:=HS5.out.keep b6
     have HS6:=hid hs6
     have z0:=(hs6.b 3 rfl).get 0 rfl
     have z1:=(hs6.b 3 rfl).get 1 rfl
     have z2:=(hs6.b 3 rfl).get 2 rfl
     have z3:=(hs6.b 3 rfl).get 3 rfl
     have z4:=(hs6.b 3 rfl).get 4 rfl
     clear b6 hs6 HS5
     go_wp2_with fail
     refine(sepf_shut K HS6.out (i:=0) (j:=1) rfl (by rw [show S1.g=Sk.g from HI.out.g];rfl) y1 y2 y3 HCL.out HSG.out.2.1 HI.out.ck).mono ?_
     rintro e w7 ⟨rfl,S2,hs7,q1,q2⟩
     have HP:=hid (HI.out.shut HO.out HX.out HQ.out q1 q2)
     have hs7:SepF F w [kpT K.toRepOk 86 134 S2,blkT gb #[.pointer (some ⟨Sk.g,0,none⟩)],blkT gi #[.int .i64 (numP 0),.int .i64 (sinP 0),.int .i64 (valP 0)],blkT wr.heap.size #[.int .i64 y1,.int .i64 y2,.int .i64 (numP y3),.int .i64 (sinP y3),.int .i64 (valP y3)]] w7:=hs7
     have HS7:=hid hs7
     have z0:=(hs7.b 3 rfl).get 0 rfl
     have z1:=(hs7.b 3 rfl).get 1 rfl
     have z2:=(hs7.b 3 rfl).get 2 rfl
     have z3:=(hs7.b 3 rfl).get 3 rfl
     have z4:=(hs7.b 3 rfl).get 4 rfl
     have HF2:=hid (show S2.f=fK Sk.f a y1 v 0 from by
      obtain⟨e,h1,h2⟩:=HI.out.f
      rw [HP.out.2.2.2.1,h2,ζ3m h1 (cov_cut HO.out HX.out)])
     have HU:=hid (show updF S2.f y1 y2 0=fK Sk.f a y2 v 0 from by rw [HF2.out];exact fK_yes (x:=(y1,y2,y3)) HSG.out.1 HSG.out.2.1 HSG.out.2.2.2.1 HQ.out)
     clear hs7 q1 q2 HS6
     go_wp2_with fail
     refine(sepf_open K HS7.out (i:=0) (j:=1) (l:=2) rfl (by rw [show S2.g=Sk.g from HP.out.1];rfl) rfl y1 y2 y3 (by rw [HF2.out];exact fK_off HKS.out.off (mayB_iff.1 HM.out).1 (mayB_iff.1 HM.out).2.2 (by have:=HSG.out.2.1;have:=HSG.out.2.2.1;omega)) (by rw [HP.out.2.2.2.2.1];have:=HI.out.nb;have:=HL.out;omega) (mayB_iff.2 ⟨by have:=(mayB_iff.1 HM.out).1;have:=HSG.out.1;omega,HSG.out.2.1,by have:=(mayB_iff.1 HM.out).2.2;have:=HSG.out.2.2.1;omega⟩) (E:=endsS (L++ [(t,a,b,v)])) (by rw [HU.out];exact fK_ends HEN.out.1 HEN.out.2.1 HEN.out.2.2)).mono ?_
     rintro e w8 ⟨rfl,hs8⟩
     have HS8:=hid (hs8.take 3)
     clear hs8 z0 z1 z2 z3 z4
     go_wp2_with fail
     go_roundw
     case rel=>exact⟨k+1, { S2 with f:=updF S2.f y1 y2 0,nb:=(endsS (L++ [(t,a,b,v)])).length },by go_num,by omega,hid ⟨HP.out.1,HP.out.2.1,HP.out.2.2.1,⟨y2,cov_step HO.out HX.out,HU.out⟩,HP.out.2.2.2.2.2.2,HP.out.2.2.2.2.2.1,by show (endsS (L++ [(t,a,b,v)])).length≤_;rw [ζ1z,List.length_append,List.length_singleton];omega⟩,HS8⟩
     case measure=>simp [intOf];omega
   ·have hkN:k=N:=by omega
    have HTK:=hid (show out.take k=out from List.take_of_length_le (by rw [HLEN.out];omega))
    clear hkN
    go_wp2_with fail
    refine bodyPost_ret (results_none rfl _ _ _) rfl ?_
    obtain⟨F',h1,h2,h3⟩:=HS.out.fst
    obtain⟨e,g1,g2⟩:=HI.out.f
    have g3:=HI.out.rs
    rw [HTK.out]at g1 g3
    have hE:=ζ3m g1 HO.out
    subst hE
    have hks:=HKS.out.put HL.out HT.out HT1.out HM.out HO.out (z:=0) (n':=Sk.n) (.inl ⟨HV.out,rfl,rfl⟩)
    refine⟨F',S1,rfl,h1,HI.out.g,⟨?_,?_,?_,HI.out.ck⟩,h3,h2⟩
    ·rw [g2,g3,HI.out.n];exact hks
    ·rw [HI.out.la];exact(ζ2d L (t,a,e,v)).symm
    ·rw [List.length_append,List.length_singleton];have:=HI.out.nb;omega
 ·have d0:(v == 0)=false:=by simpa using hv
  have HV:=hid hv
  clear hv
  go_enter Tryz.func33,Tryz.ntmps33
  go_wp2_with fail
  refine(ζ1f v 0 _).mono ?_
  rintro e w2 ⟨rfl,b2⟩
  rw [d0]
  have hs2:=HS1.out.keep b2
  have HS2:=hid hs2
  rw [HGI.out,HGB.out]
  obtain⟨F9,hp9,_⟩:=hs2.get (i:=0) rfl
  obtain⟨A9,n9,c9,hk9⟩:=kpT.blk hp9
  have y0:=(hs2.b 1 rfl).get 0 rfl
  have k1:=hk9.get 1 rfl
  have f1:=hk9.f 1
  clear hw1 b2 hs2 HS1 d0 hp9 hk9
  go_upto_region 5 with fail
  have hs3:=(HS2.out.kp_set (i:=0) rfl (Sk.n+1)).1
  generalize w2.setCell ⟨Sk.g,1,none⟩ (.int .i64 (Sk.n+1))=w3 at*
  have hs3:SepF F w [kpT K.toRepOk 86 134 { Sk with n:=Sk.n+1 },blkT gb #[.pointer (some ⟨Sk.g,0,none⟩)],blkT gi #[.int .i64 0,.int .i64 0,.int .i64 0]] w3:=hs3
  have HS3:=hid hs3
  obtain⟨F8,hp8,_⟩:=hs3.get (i:=0) rfl
  obtain⟨A8,n8,c8,hk8⟩:=kpT.blk hp8
  have hk8:Blk w3 Sk.g #[.int .i64 Sk.la,.int .i64 (Sk.n+1),Sk.q,.slice A8 n8 c8]:=hk8
  have y0:=(hs3.b 1 rfl).get 0 rfl
  have k0:=hk8.get 0 rfl
  have k1:=hk8.get 1 rfl
  have i0:=(hs3.b 2 rfl).get 0 rfl
  have i1:=(hs3.b 2 rfl).get 1 rfl
  have i2:=(hs3.b 2 rfl).get 2 rfl
  have j0:=(hs3.b 2 rfl).f 0
  have j1:=(hs3.b 2 rfl).f 1
  have j2:=(hs3.b 2 rfl).f 2
  clear hs3 hp8 hk8 HS2 f1
  go_region
  obtain⟨zc,z1,z2,z3⟩:=c_has (Sk.n+1) Sk.la v
  have hs4:=(((HS3.out.set 2 rfl 0 (.int .i64 (Sk.n+1))).set 2 rfl 1 (.int .i64 Sk.la)).set 2 rfl 2 (.int .i64 v))
  have HS4:=hid hs4
  have HZ:=hid (show numP zc=Sk.n+1∧sinP zc=t∧valP zc=v from⟨z1,z2.trans HLA.out,z3⟩)
  have e4:(#[.int .i64 (Sk.n+1),.int .i64 Sk.la,.int .i64 v]:Array Value)= #[.int .i64 (numP zc),.int .i64 (sinP zc),.int .i64 (valP zc)]:=by rw [z1,z2,z3]
  have hs5:SepF F w [kpT K.toRepOk 86 134 { Sk with n:=Sk.n+1 },blkT gb #[.pointer (some ⟨Sk.g,0,none⟩)],blkT gi #[.int .i64 (Sk.n+1),.int .i64 Sk.la,.int .i64 v]] _:=HS4.out.keep ((Below.refl _ _).drew)
  rw [e4]at hs5
  have HSL:=hid hs5
  clear k0 k1 i0 i1 i2 j0 j1 j2 y0 hs4 hs5 HS3 HS4 e4 z1 z2 z3
  generalize (((w3.setCell ⟨gi,0,none⟩ (.int .i64 (Sk.n+1))).setCell ⟨gi,1,none⟩ (.int .i64 Sk.la)).setCell ⟨gi,2,none⟩ (.int .i64 v)).drew=w5 at*
  go_wp2_with fail
  go_loopw [37] (fun u wr=>∃(k:Nat) (S1:Kp),u= .int .i64 (k:Int)∧k≤N∧Hid (PutI L t a v zc out { Sk with n:=(Sk.n+1) } k S1)∧Hid (SepF F w [kpT K.toRepOk 86 134 S1,blkT gb #[.pointer (some ⟨Sk.g,0,none⟩)],blkT gi #[.int .i64 (numP zc),.int .i64 (sinP zc),.int .i64 (valP zc)]] wr)) (fun u _=>(N-intOf u).toNat)
  case atStart=>exact⟨0, { Sk with n:=(Sk.n+1) },rfl,by omega,hid ⟨rfl,HLA.out,rfl,⟨a,(by rw [List.take_zero];rfl),(fK_zero _ _ _ _).symm⟩,by rw [List.take_zero];simp [shutL],HCK.out,by have:=HNB.out;show Sk.nb≤_;omega⟩,HSL⟩
  case round=>
   obtain⟨k,S1,rfl,hk,HI,HS⟩:=hrel
   clear HSL
   have hcl:S1.cs.length≤100000:=by
    have h1:=cks_len HI.out.ck
    rw [HI.out.rs,List.length_append]at h1
    have h2:=shutL_len t v (out.take k)
    rw [List.length_take]at h2
    have h3:=HKS.out.len
    have h4:=HL.out
    have h5:(({ Sk with n:=(Sk.n+1) } :Kp).cs.flatMap Ck.rs).length=(Sk.cs.flatMap Ck.rs).length:=rfl
    have h6:=HLEN.out
    omega
   have HCL:=hid hcl
   clear hcl
   by_cases hlt:k<N
   ·obtain⟨g,⟨y1,y2,y3⟩,rfl,hx,k0,k1,k2,k3,k4⟩:=ζ2u (HS.out.off.own HROW.out HDIS.out) hlt
    have HX:=hid hx
    have hmem:=List.mem_of_getElem? hx
    have HSG:=hid (ζ10 HO.out (y1,y2,y3) hmem)
    have hs5:=HS.out.push #[.int .i64 y1,.int .i64 y2,.int .i64 (numP y3),.int .i64 (sinP y3),.int .i64 (valP y3)] 128
    have HS5:=hid hs5
    have z0:=(hs5.b 3 rfl).get 0 rfl
    have z1:=(hs5.b 3 rfl).get 1 rfl
    have z2:=(hs5.b 3 rfl).get 2 rfl
    have z3:=(hs5.b 3 rfl).get 3 rfl
    have z4:=(hs5.b 3 rfl).get 4 rfl
    clear hx hs5
    by_cases hq:valP y3=v
    ·have d1:(valP y3 == v)=true:=by simpa using hq
     have HQ:=hid (HI.out.same HO.out HX.out hq)
     clear hq hmem
     go_wp2_with fail
     refine(ζ1f (valP y3) v _).mono ?_
     rintro e w6 ⟨rfl,b6⟩
     rw [d1]
     have HS6:=hid ((HS5.out.keep b6).take 3)
     clear b6 z0 z1 z2 z3 z4
     go_wp2_with fail
     go_roundw
     case rel=>exact⟨k+1,S1,by go_num,by omega,HQ,HS6⟩
     case measure=>simp [intOf];omega
    ·have d1:(valP y3 == v)=false:=by simpa using hq
     have HQ:=hid hq
     have HEN:=hid (show (∀d,¬Sk.f d=Sk.f (d-1)→d∈endsS (L++ [(t,a,b,v)]))∧a∈endsS (L++ [(t,a,b,v)])∧y2∈endsS (L++ [(t,a,b,v)])from by
      have h1: ∀d,¬Sk.f d=Sk.f (d-1)→d∈endsS (L++ [(t,a,b,v)]):=fun d hd=>by rw [ζ20];exact List.mem_append_left _ (HKS.out.endf d hd)
      have h2:a∈endsS (L++ [(t,a,b,v)])∧b∈endsS (L++ [(t,a,b,v)]):=by rw [ζ20];simp [endsS]
      exact⟨h1,h2.1,cov_end_in h1 h2.2 HO.out _ hmem⟩)
     clear hq hmem
     go_wp2_with fail
     refine(ζ1f (valP y3) v _).mono ?_
     rintro e w6 ⟨rfl,b6⟩
     rw [d1]
     have hs6:=HS5.out.keep b6
     have HS6:=hid hs6
     have z0:=(hs6.b 3 rfl).get 0 rfl
     have z1:=(hs6.b 3 rfl).get 1 rfl
     have z2:=(hs6.b 3 rfl).get 2 rfl
     have z3:=(hs6.b 3 rfl).get 3 rfl
     have z4:=(hs6.b 3 rfl).get 4 rfl
     clear b6 hs6 HS5
     go_wp2_with fail
     refine(sepf_shut K HS6.out (i:=0) (j:=1) rfl (by rw [show S1.g=Sk.g from HI.out.g];rfl) y1 y2 y3 HCL.out HSG.out.2.1 HI.out.ck).mono ?_
     rintro e w7 ⟨rfl,S2,hs7,q1,q2⟩
     have HP:=hid (HI.out.shut HO.out HX.out HQ.out q1 q2)
     have hs7:SepF F w [kpT K.toRepOk 86 134 S2,blkT gb #[.pointer (some ⟨Sk.g,0,none⟩)],blkT gi #[.int .i64 (numP zc),.int .i64 (sinP zc),.int .i64 (valP zc)],blkT wr.heap.size #[.int .i64 y1,.int .i64 y2,.int .i64 (numP y3),.int .i64 (sinP y3),.int .i64 (valP y3)]] w7:=hs7
     have HS7:=hid hs7
     have z0:=(hs7.b 3 rfl).get 0 rfl
     have z1:=(hs7.b 3 rfl).get 1 rfl
     have z2:=(hs7.b 3 rfl).get 2 rfl
     have z3:=(hs7.b 3 rfl).get 3 rfl
     have z4:=(hs7.b 3 rfl).get 4 rfl
     have HF2:=hid (show S2.f=fK Sk.f a y1 v zc from by
      obtain⟨e,h1,h2⟩:=HI.out.f
      rw [HP.out.2.2.2.1,h2,ζ3m h1 (cov_cut HO.out HX.out)])
     have HU:=hid (show updF S2.f y1 y2 zc=fK Sk.f a y2 v zc from by rw [HF2.out];exact fK_yes (x:=(y1,y2,y3)) HSG.out.1 HSG.out.2.1 HSG.out.2.2.2.1 HQ.out)
     clear hs7 q1 q2 HS6
     go_wp2_with fail
     refine(sepf_open K HS7.out (i:=0) (j:=1) (l:=2) rfl (by rw [show S2.g=Sk.g from HP.out.1];rfl) rfl y1 y2 y3 (by rw [HF2.out];exact fK_off HKS.out.off (mayB_iff.1 HM.out).1 (mayB_iff.1 HM.out).2.2 (by have:=HSG.out.2.1;have:=HSG.out.2.2.1;omega)) (by rw [HP.out.2.2.2.2.1];have:=HI.out.nb;have:=HL.out;omega) (mayB_iff.2 ⟨by have:=(mayB_iff.1 HM.out).1;have:=HSG.out.1;omega,HSG.out.2.1,by have:=(mayB_iff.1 HM.out).2.2;have:=HSG.out.2.2.1;omega⟩) (E:=endsS (L++ [(t,a,b,v)])) (by rw [HU.out];exact fK_ends HEN.out.1 HEN.out.2.1 HEN.out.2.2)).mono ?_
     rintro e w8 ⟨rfl,hs8⟩
     have HS8:=hid (hs8.take 3)
     clear hs8 z0 z1 z2 z3 z4
     go_wp2_with fail
     go_roundw
     case rel=>exact⟨k+1, { S2 with f:=updF S2.f y1 y2 zc,nb:=(endsS (L++ [(t,a,b,v)])).length },by go_num,by omega,hid ⟨HP.out.1,HP.out.2.1,HP.out.2.2.1,⟨y2,cov_step HO.out HX.out,HU.out⟩,HP.out.2.2.2.2.2.2,HP.out.2.2.2.2.2.1,by show (endsS (L++ [(t,a,b,v)])).length≤_;rw [ζ1z,List.length_append,List.length_singleton];omega⟩,HS8⟩
     case measure=>simp [intOf];omega
   ·have hkN:k=N:=by omega
    have HTK:=hid (show out.take k=out from List.take_of_length_le (by rw [HLEN.out];omega))
    clear hkN
    go_wp2_with fail
    refine bodyPost_ret (results_none rfl _ _ _) rfl ?_
    obtain⟨F',h1,h2,h3⟩:=HS.out.fst
    obtain⟨e,g1,g2⟩:=HI.out.f
    have g3:=HI.out.rs
    rw [HTK.out]at g1 g3
    have hE:=ζ3m g1 HO.out
    subst hE
    have hks:=HKS.out.put HL.out HT.out HT1.out HM.out HO.out (z:=zc) (n':=(Sk.n+1)) (.inr ⟨HV.out,HZ.out.1,HZ.out.2.1,HZ.out.2.2,rfl⟩)
    refine⟨F',S1,rfl,h1,HI.out.g,⟨?_,?_,?_,HI.out.ck⟩,h3,h2⟩
    ·rw [g2,g3,HI.out.n];exact hks
    ·rw [HI.out.la];exact(ζ2d L (t,a,e,v)).symm
    ·rw [List.length_append,List.length_singleton];have:=HI.out.nb;omega
end Go.Proofs.YthagdonmijhpdaaGreat

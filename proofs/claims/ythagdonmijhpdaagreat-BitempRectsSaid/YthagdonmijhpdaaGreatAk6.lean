/- Contract of package avl -/
import Derived.Test.YthagdonmijhpdaaGreatAk3
open Go.Lib (hid)
set_option linter.unusedSimpArgs false
set_option linter.unusedVariables false
set_option maxHeartbeats 8000000
set_option maxRecDepth 8000
namespace Corr
open Go Go.RowKit
def chld (K:KnL)(p:Nat)(z:Int)(o:Option (Int × Int)):Prop:=(z= -1∧o=none)∨∃q k,z=((q:Nat):Int)∧q≠p∧K[q]? =some k∧o=some (k.h,k.t)∧-1000000≤k.h∧k.h≤1000000
def mxH (h:Int):Option (Int × Int)→Int
 | none=>h
 | some c=>max h (c.1+1)
def mxT (t:Int):Option (Int × Int)→Int
 | none=>t
 | some c=>max t c.2
def Kn.settled (k:Kn)(a b:Option (Int × Int)):Kn:= { k with h:=mxH (mxH 1 a) b,t:=mxT (mxT k.it.2.1 a) b }
theorem ζ16 {h:Int} {o:Option (Int × Int)} {K:KnL} {p:Nat} {z:Int}(hc:chld K p z o)(h1:1≤h∧h≤1000001):1≤mxH h o∧mxH h o≤1000001:=by
 rcases hc with⟨_,rfl⟩ | ⟨q,k,_,_,_,rfl,b1,b2⟩
 ·exact h1
 ·simp only [mxH];omega
end Corr
namespace Go.Proofs.YthagdonmijhpdaaGreat
open Go.RowKit Corr
theorem idx0 (x y:Int)(w:World):(Instr.index 240 (.agg #[.int .i64 x,.int .i64 y]) (.int .i64 0)).run Tryz.prog w= .ok (.int .i64 x) w:=by kernel_rfl
theorem idx1 (x y:Int)(w:World):(Instr.index 240 (.agg #[.int .i64 x,.int .i64 y]) (.int .i64 1)).run Tryz.prog w= .ok (.int .i64 y) w:=by kernel_rfl
theorem ζ19 (g n c gK:Nat)(M r:Int)(K:KnL)(p:Nat)(k:Kn)(a b:Option (Int × Int))(w:World)(H:Ar 221 w g M r (some ⟨gK,0,none⟩) n c K)(hk:K[p]? =some k)(ha:chld K p k.l a)(hb:chld K p k.r b)(hn:n≤2000):
  Calls Tryz.prog 156 #[.pointer (some ⟨g,0,none⟩),.int .i64 (p:Int)] w fun e w'=>e= .returned (.tuple #[])∧Ar 221 w' g M r (some ⟨gK,0,none⟩) n c (K.set p (k.settled a b))∧Off (inAr g (some ⟨gK,0,none⟩) n c) w w':=by
 have hp:=H.lt hk
 have HK:=hid hk
 have HCA:=hid ha
 have HCB:=hid hb
 have hla:=ζ16 ha (h:=1) (by omega)
 obtain⟨⟨x1,x2,x3⟩,kl,kr,kh,kt⟩:=k
 have HA:=hid H
 have a2:=H.b.get 2 rfl
 have c1:=H.c1 hk
 have c3:=H.c3 hk
 have c4:=H.c4 hk
 have c5:=H.c5 hk
 have c6:=H.c6 hk
 have f5:=H.fz (p*7+5)
 have f6:=H.fz (p*7+6)
 have j0:decide ((p:Int)<0)=false:=decide_eq_false (by omega)
 have j1:(0:Int)≤(p:Int):=by omega
 have j2:(p:Int)<(n:Int):=by omega
 have j3:((p:Int)).toNat=p:=by omega
 simp only []at c1 c3 c4 c5 c6
 clear hk ha hb H
 go_enter Tryz.func156,Tryz.ntmps156
 go_upto_region 2 with fail
 have HA2:=hid ((HA.out.puth HK.out 1).putt (ζ6 HK.out _) x2)
 have HF2:=hid (((Off.refl (inAr g (some ⟨gK,0,none⟩) n c) w).put ⟨gK,p*7+5,none⟩ (.inl (.inr rfl)) (.int .i64 1)).put ⟨gK,p*7+6,none⟩ (.inl (.inr rfl)) (.int .i64 x2))
 rw [List.set_set]at HA2
 have c3':=HA2.out.c3 (ζ6 HK.out _)
 have c4':=HA2.out.c4 (ζ6 HK.out _)
 simp only []at c3' c4'
 clear a2 c1 c3 c4 c5 c6 f5 f6
 generalize (w.setCell ⟨gK,p*7+5,none⟩ (.int .i64 1)).setCell ⟨gK,p*7+6,none⟩ (.int .i64 x2)=wq at*
 go_quiet (fail)
 have HA3:=hid (HA2.out.keep (Joins.below_draws _ wq nq))
 have HF3:=hid (HF2.out.later (Joins.below_draws _ wq nq))
 generalize wq.drewN nq=wn at*
 clear c3' c4' HA2 HF2
 go_wp2_with fail
 go_loopw [33] (fun i wr=>((i= .int .i64 0∧Hid (Ar 221 wr g M r (some ⟨gK,0,none⟩) n c (K.set p ⟨(x1,x2,x3),kl,kr,1,x2⟩)))∨(i= .int .i64 1∧Hid (Ar 221 wr g M r (some ⟨gK,0,none⟩) n c (K.set p ⟨(x1,x2,x3),kl,kr,mxH 1 a,mxT x2 a⟩)))∨(i= .int .i64 2∧Hid (Ar 221 wr g M r (some ⟨gK,0,none⟩) n c (K.set p ⟨(x1,x2,x3),kl,kr,mxH (mxH 1 a) b,mxT (mxT x2 a) b⟩))))∧Hid (Off (inAr g (some ⟨gK,0,none⟩) n c) w wr)) (fun t _=>(2-intOf t).toNat)
 case atStart=>exact⟨.inl ⟨rfl,HA3⟩,HF3⟩
 case round=>
  clear HA3 HF3
  obtain⟨hrel,HF⟩:=hrel
  rcases hrel with⟨rfl,HR⟩ | ⟨rfl,HR⟩ | ⟨rfl,HR⟩
  ·rcases HCA.out with⟨hz,ho⟩ | ⟨q,k',hz,hqp,hq,ho,hb1,hb2⟩
   ·have hz:kl= -1:=hz
    subst hz
    have HO:=hid ho
    clear ho
    have ix:=idx0 (-1) kr
    go_wp2_with fail
    go_roundw
    case rel=>exact⟨(.inr (.inl ⟨rfl,by rw [HO.out];exact HR⟩)),HF⟩
    case measure=>simp [intOf]
   ·have hz:kl=(q:Int):=hz
    subst hz
    obtain⟨ki,ql,qr,qh,qt⟩:=k'
    have HO:=hid ho
    have hq':(K.set p ⟨(x1,x2,x3),(q:Int),kr,1,x2⟩)[q]? =some ⟨ki,ql,qr,qh,qt⟩:=by rw [List.getElem?_set_ne (by omega)];exact hq
    have HQ:=hid hq
    have hqn:=HR.out.lt hq'
    have i1:(0:Int)≤(q:Int):=by omega
    have i2:(q:Int)<(n:Int):=by omega
    have i0:decide ((q:Int)<0)=false:=decide_eq_false (by omega)
    have i3:((q:Int)).toNat=q:=by omega
    have i4:((q:Int) == -1)=false:=by simp
    have b2:=HR.out.b.get 2 rfl
    have d5:=HR.out.c5 hq'
    have d6:=HR.out.c6 hq'
    have e5:=HR.out.c5 (ζ6 HK.out _)
    have e6:=HR.out.c6 (ζ6 HK.out _)
    have f5:=HR.out.fz (p*7+5)
    have f6:=HR.out.fz (p*7+6)
    have b1: -1000000≤qh:=hb1
    have b3:qh≤1000000:=hb2
    simp only []at d5 d6 e5 e6
    clear ho hq hq' hb1 hb2
    have ix:=idx0 (q:Int) kr
    go_upto_region 6 with fail
    by_cases hmx:1<qh+1
    ·go_region
     have HR2:=hid ((HR.out.puth (ζ6 HK.out _) (qh+1)).keep ((Below.refl _ _).drew))
     have HF2:=hid ((HF.out.put ⟨gK,p*7+5,none⟩ (.inl (.inr rfl)) (.int .i64 (qh+1))).drew)
     rw [List.set_set]at HR2
     have hq':(K.set p ⟨(x1,x2,x3),(q:Int),kr,(qh+1),x2⟩)[q]? =some ⟨ki,ql,qr,qh,qt⟩:=by rw [List.getElem?_set_ne (by omega)];exact HQ.out
     clear b2 d5 d6 e5 e6 f5 f6
     generalize (wr.setCell ⟨gK,p*7+5,none⟩ (.int .i64 (qh+1))).drew=w1 at*
     have b2:=HR2.out.b.get 2 rfl
     have d6:=HR2.out.c6 hq'
     have e6:=HR2.out.c6 (ζ6 HK.out _)
     have f6:=HR2.out.fz (p*7+6)
     simp only []at d6 e6
     clear hq'
     go_upto_region 7 with fail
     by_cases tmx:x2<qt
     ·go_region
      have HR3:=hid ((HR2.out.putt (ζ6 HK.out _) qt).keep ((Below.refl _ _).drew))
      have HF3:=hid ((HF2.out.put ⟨gK,p*7+6,none⟩ (.inl (.inr rfl)) (.int .i64 qt)).drew)
      rw [List.set_set]at HR3
      clear b2 d6 e6 f6
      generalize (w1.setCell ⟨gK,p*7+6,none⟩ (.int .i64 qt)).drew=w2 at*
      go_wp2_with fail
      go_roundw
      case rel=>exact⟨(.inr (.inl ⟨rfl,by rw [HO.out,show mxH 1 (some (qh,qt))=(qh+1)from Int.max_eq_right (by omega),show mxT x2 (some (qh,qt))=qt from Int.max_eq_right (by omega)];exact HR3⟩)),HF3⟩
      case measure=>simp [intOf]
     ·go_region
      have HR3:=hid ((HR2.out.putt (ζ6 HK.out _) x2).keep ((Below.refl _ _).drew))
      have HF3:=hid ((HF2.out.put ⟨gK,p*7+6,none⟩ (.inl (.inr rfl)) (.int .i64 x2)).drew)
      rw [List.set_set]at HR3
      clear b2 d6 e6 f6
      generalize (w1.setCell ⟨gK,p*7+6,none⟩ (.int .i64 x2)).drew=w2 at*
      go_wp2_with fail
      go_roundw
      case rel=>exact⟨(.inr (.inl ⟨rfl,by rw [HO.out,show mxH 1 (some (qh,qt))=(qh+1)from Int.max_eq_right (by omega),show mxT x2 (some (qh,qt))=x2 from Int.max_eq_left (by omega)];exact HR3⟩)),HF3⟩
      case measure=>simp [intOf]
    ·go_region
     have HR2:=hid ((HR.out.puth (ζ6 HK.out _) 1).keep ((Below.refl _ _).drew))
     have HF2:=hid ((HF.out.put ⟨gK,p*7+5,none⟩ (.inl (.inr rfl)) (.int .i64 1)).drew)
     rw [List.set_set]at HR2
     have hq':(K.set p ⟨(x1,x2,x3),(q:Int),kr,1,x2⟩)[q]? =some ⟨ki,ql,qr,qh,qt⟩:=by rw [List.getElem?_set_ne (by omega)];exact HQ.out
     clear b2 d5 d6 e5 e6 f5 f6
     generalize (wr.setCell ⟨gK,p*7+5,none⟩ (.int .i64 1)).drew=w1 at*
     have b2:=HR2.out.b.get 2 rfl
     have d6:=HR2.out.c6 hq'
     have e6:=HR2.out.c6 (ζ6 HK.out _)
     have f6:=HR2.out.fz (p*7+6)
     simp only []at d6 e6
     clear hq'
     go_upto_region 7 with fail
     by_cases tmx:x2<qt
     ·go_region
      have HR3:=hid ((HR2.out.putt (ζ6 HK.out _) qt).keep ((Below.refl _ _).drew))
      have HF3:=hid ((HF2.out.put ⟨gK,p*7+6,none⟩ (.inl (.inr rfl)) (.int .i64 qt)).drew)
      rw [List.set_set]at HR3
      clear b2 d6 e6 f6
      generalize (w1.setCell ⟨gK,p*7+6,none⟩ (.int .i64 qt)).drew=w2 at*
      go_wp2_with fail
      go_roundw
      case rel=>exact⟨(.inr (.inl ⟨rfl,by rw [HO.out,show mxH 1 (some (qh,qt))=1 from Int.max_eq_left (by omega),show mxT x2 (some (qh,qt))=qt from Int.max_eq_right (by omega)];exact HR3⟩)),HF3⟩
      case measure=>simp [intOf]
     ·go_region
      have HR3:=hid ((HR2.out.putt (ζ6 HK.out _) x2).keep ((Below.refl _ _).drew))
      have HF3:=hid ((HF2.out.put ⟨gK,p*7+6,none⟩ (.inl (.inr rfl)) (.int .i64 x2)).drew)
      rw [List.set_set]at HR3
      clear b2 d6 e6 f6
      generalize (w1.setCell ⟨gK,p*7+6,none⟩ (.int .i64 x2)).drew=w2 at*
      go_wp2_with fail
      go_roundw
      case rel=>exact⟨(.inr (.inl ⟨rfl,by rw [HO.out,show mxH 1 (some (qh,qt))=1 from Int.max_eq_left (by omega),show mxT x2 (some (qh,qt))=x2 from Int.max_eq_left (by omega)];exact HR3⟩)),HF3⟩
      case measure=>simp [intOf]
  ·obtain⟨hm,hhm⟩: ∃h,mxH 1 a=h:=⟨_,rfl⟩
   obtain⟨tm,htm⟩: ∃h,mxT x2 a=h:=⟨_,rfl⟩
   rw [hhm,htm]at HR
   rw [hhm]at hla
   have HHM:=hid hhm
   have HTM:=hid htm
   clear hhm htm
   rcases HCB.out with⟨hz,ho⟩ | ⟨q,k',hz,hqp,hq,ho,hb1,hb2⟩
   ·have hz:kr= -1:=hz
    subst hz
    have HO:=hid ho
    clear ho
    have ix:=idx1 kl (-1)
    go_wp2_with fail
    go_roundw
    case rel=>exact⟨(.inr (.inr ⟨rfl,by rw [HO.out,HHM.out,HTM.out];exact HR⟩)),HF⟩
    case measure=>simp [intOf]
   ·have hz:kr=(q:Int):=hz
    subst hz
    obtain⟨ki,ql,qr,qh,qt⟩:=k'
    have HO:=hid ho
    have hq':(K.set p ⟨(x1,x2,x3),kl,(q:Int),hm,tm⟩)[q]? =some ⟨ki,ql,qr,qh,qt⟩:=by rw [List.getElem?_set_ne (by omega)];exact hq
    have HQ:=hid hq
    have hqn:=HR.out.lt hq'
    have i1:(0:Int)≤(q:Int):=by omega
    have i2:(q:Int)<(n:Int):=by omega
    have i0:decide ((q:Int)<0)=false:=decide_eq_false (by omega)
    have i3:((q:Int)).toNat=q:=by omega
    have i4:((q:Int) == -1)=false:=by simp
    have b2:=HR.out.b.get 2 rfl
    have d5:=HR.out.c5 hq'
    have d6:=HR.out.c6 hq'
    have e5:=HR.out.c5 (ζ6 HK.out _)
    have e6:=HR.out.c6 (ζ6 HK.out _)
    have f5:=HR.out.fz (p*7+5)
    have f6:=HR.out.fz (p*7+6)
    have b1: -1000000≤qh:=hb1
    have b3:qh≤1000000:=hb2
    simp only []at d5 d6 e5 e6
    clear ho hq hq' hb1 hb2
    have ix:=idx1 kl (q:Int)
    go_upto_region 6 with fail
    by_cases hmx:hm<qh+1
    ·go_region
     have HR2:=hid ((HR.out.puth (ζ6 HK.out _) (qh+1)).keep ((Below.refl _ _).drew))
     have HF2:=hid ((HF.out.put ⟨gK,p*7+5,none⟩ (.inl (.inr rfl)) (.int .i64 (qh+1))).drew)
     rw [List.set_set]at HR2
     have hq':(K.set p ⟨(x1,x2,x3),kl,(q:Int),(qh+1),tm⟩)[q]? =some ⟨ki,ql,qr,qh,qt⟩:=by rw [List.getElem?_set_ne (by omega)];exact HQ.out
     clear b2 d5 d6 e5 e6 f5 f6
     generalize (wr.setCell ⟨gK,p*7+5,none⟩ (.int .i64 (qh+1))).drew=w1 at*
     have b2:=HR2.out.b.get 2 rfl
     have d6:=HR2.out.c6 hq'
     have e6:=HR2.out.c6 (ζ6 HK.out _)
     have f6:=HR2.out.fz (p*7+6)
     simp only []at d6 e6
     clear hq'
     go_upto_region 7 with fail
     by_cases tmx:tm<qt
     ·go_region
      have HR3:=hid ((HR2.out.putt (ζ6 HK.out _) qt).keep ((Below.refl _ _).drew))
      have HF3:=hid ((HF2.out.put ⟨gK,p*7+6,none⟩ (.inl (.inr rfl)) (.int .i64 qt)).drew)
      rw [List.set_set]at HR3
      clear b2 d6 e6 f6
      generalize (w1.setCell ⟨gK,p*7+6,none⟩ (.int .i64 qt)).drew=w2 at*
      go_wp2_with fail
      go_roundw
      case rel=>exact⟨(.inr (.inr ⟨rfl,by rw [HO.out,HHM.out,HTM.out,show mxH hm (some (qh,qt))=(qh+1)from Int.max_eq_right (by omega),show mxT tm (some (qh,qt))=qt from Int.max_eq_right (by omega)];exact HR3⟩)),HF3⟩
      case measure=>simp [intOf]
     ·go_region
      have HR3:=hid ((HR2.out.putt (ζ6 HK.out _) tm).keep ((Below.refl _ _).drew))
      have HF3:=hid ((HF2.out.put ⟨gK,p*7+6,none⟩ (.inl (.inr rfl)) (.int .i64 tm)).drew)
      rw [List.set_set]at HR3
      clear b2 d6 e6 f6
      generalize (w1.setCell ⟨gK,p*7+6,none⟩ (.int .i64 tm)).drew=w2 at*
      go_wp2_with fail
      go_roundw
      case rel=>exact⟨(.inr (.inr ⟨rfl,by rw [HO.out,HHM.out,HTM.out,show mxH hm (some (qh,qt))=(qh+1)from Int.max_eq_right (by omega),show mxT tm (some (qh,qt))=tm from Int.max_eq_left (by omega)];exact HR3⟩)),HF3⟩
      case measure=>simp [intOf]
    ·go_region
     have HR2:=hid ((HR.out.puth (ζ6 HK.out _) hm).keep ((Below.refl _ _).drew))
     have HF2:=hid ((HF.out.put ⟨gK,p*7+5,none⟩ (.inl (.inr rfl)) (.int .i64 hm)).drew)
     rw [List.set_set]at HR2
     have hq':(K.set p ⟨(x1,x2,x3),kl,(q:Int),hm,tm⟩)[q]? =some ⟨ki,ql,qr,qh,qt⟩:=by rw [List.getElem?_set_ne (by omega)];exact HQ.out
     clear b2 d5 d6 e5 e6 f5 f6
     generalize (wr.setCell ⟨gK,p*7+5,none⟩ (.int .i64 hm)).drew=w1 at*
     have b2:=HR2.out.b.get 2 rfl
     have d6:=HR2.out.c6 hq'
     have e6:=HR2.out.c6 (ζ6 HK.out _)
     have f6:=HR2.out.fz (p*7+6)
     simp only []at d6 e6
     clear hq'
     go_upto_region 7 with fail
     by_cases tmx:tm<qt
     ·go_region
      have HR3:=hid ((HR2.out.putt (ζ6 HK.out _) qt).keep ((Below.refl _ _).drew))
      have HF3:=hid ((HF2.out.put ⟨gK,p*7+6,none⟩ (.inl (.inr rfl)) (.int .i64 qt)).drew)
      rw [List.set_set]at HR3
      clear b2 d6 e6 f6
      generalize (w1.setCell ⟨gK,p*7+6,none⟩ (.int .i64 qt)).drew=w2 at*
      go_wp2_with fail
      go_roundw
      case rel=>exact⟨(.inr (.inr ⟨rfl,by rw [HO.out,HHM.out,HTM.out,show mxH hm (some (qh,qt))=hm from Int.max_eq_left (by omega),show mxT tm (some (qh,qt))=qt from Int.max_eq_right (by omega)];exact HR3⟩)),HF3⟩
      case measure=>simp [intOf]
     ·go_region
      have HR3:=hid ((HR2.out.putt (ζ6 HK.out _) tm).keep ((Below.refl _ _).drew))
      have HF3:=hid ((HF2.out.put ⟨gK,p*7+6,none⟩ (.inl (.inr rfl)) (.int .i64 tm)).drew)
      rw [List.set_set]at HR3
      clear b2 d6 e6 f6
      generalize (w1.setCell ⟨gK,p*7+6,none⟩ (.int .i64 tm)).drew=w2 at*
      go_wp2_with fail
      go_roundw
      case rel=>exact⟨(.inr (.inr ⟨rfl,by rw [HO.out,HHM.out,HTM.out,show mxH hm (some (qh,qt))=hm from Int.max_eq_left (by omega),show mxT tm (some (qh,qt))=tm from Int.max_eq_left (by omega)];exact HR3⟩)),HF3⟩
      case measure=>simp [intOf]
  ·go_wp2_with fail
   go_end0
   exact⟨rfl,HR.out,HF.out⟩
end Go.Proofs.YthagdonmijhpdaaGreat
namespace Corr
open Go Go.RowKit
def chl2 (K:KnL)(p q:Nat)(z:Int)(o:Option (Int × Int)):Prop:=(z= -1∧o=none)∨∃j k,z=((j:Nat):Int)∧j≠p∧j≠q∧K[j]? =some k∧o=some (k.h,k.t)∧-1000000≤k.h∧k.h≤1000000
theorem chl2.set {K:KnL} {p q:Nat} {z:Int} {o:Option (Int × Int)}(h:chl2 K p q z o)(x y:Kn):chld ((K.set p x).set q y) p z o:=by
 rcases h with h | ⟨j,k,h1,h2,h3,h4,h5⟩
 ·exact .inl h
 ·exact .inr ⟨j,k,h1,h2,by rw [List.getElem?_set_ne (Ne.symm h3),List.getElem?_set_ne (Ne.symm h2)];exact h4,h5⟩
theorem chl2.set3 {K:KnL} {p q:Nat} {z:Int} {o:Option (Int × Int)}(h:chl2 K p q z o)(x y u:Kn):chld (((K.set p x).set q y).set p u) q z o:=by
 rcases h with h | ⟨j,k,h1,h2,h3,h4,h5⟩
 ·exact .inl h
 ·exact .inr ⟨j,k,h1,h3,by rw [List.getElem?_set_ne (Ne.symm h2),List.getElem?_set_ne (Ne.symm h3),List.getElem?_set_ne (Ne.symm h2)];exact h4,h5⟩
theorem set4 {K:KnL} {p q:Nat}(h:p≠q)(x y u v:Kn):((((K.set p x).set q y).set p u).set q v)=(K.set p u).set q v:=by
 rw [List.set_comm _ _ h.symm,List.set_set,List.set_set]
end Corr
namespace Go.Proofs.YthagdonmijhpdaaGreat
open Go.RowKit Corr
theorem turnRight_any (g n c gK:Nat)(M r:Int)(K:KnL)(p q:Nat)(k k' kp kq:Kn)(a b d:Option (Int × Int))(w:World)(H:Ar 221 w g M r (some ⟨gK,0,none⟩) n c K)(hk:K[p]? =some k)(hq:K[q]? =some k')(hpq:p≠q)(hl:k.l=(q:Int))
  (ha:chl2 K p q k'.r a) (hb:chl2 K p q k.r b) (hd:chl2 K p q k'.l d) (hkp:kp=Kn.settled { k with l:=k'.r } a b) (hkq:kq=Kn.settled { k' with r:=(p:Int) } d (some (kp.h,kp.t))) (hh:kp.h≤1000000) (hn:n≤2000):
  Calls Tryz.prog 172 #[.pointer (some ⟨g,0,none⟩),.int .i64 (p:Int)] w fun e w'=>e= .returned (.int .i64 (q:Int))∧Ar 221 w' g M r (some ⟨gK,0,none⟩) n c ((K.set p kp).set q kq)∧Off (inAr g (some ⟨gK,0,none⟩) n c) w w':=by
 have hp:=H.lt hk
 have hqn:=H.lt hq
 have HK:=hid hk
 have HQ:=hid hq
 have hb1:1≤kp.h:=by
  rw [hkp]
  have h1:=ζ16 (h:=1) (ha.set k k) (by omega)
  have h2:=ζ16 (h:=1) (hb.set k k) (by omega)
  unfold Kn.settled
  first
   | exact(ζ16 (hb.set k k) h1).1
   | exact(ζ16 (ha.set k k) h2).1
 have HH:=hid (And.intro hb1 hh)
 have HCA:=hid ha
 have HCB:=hid hb
 have HDD:=hid hd
 have HKP:=hid hkp
 have HKQ:=hid hkq
 have HPQ:=hid hpq
 have HA:=hid H
 have a2:=H.b.get 2 rfl
 have cp:=H.c3 hk
 have cq:=H.c4 hq
 have cr:=H.c4 hk
 have fp:=H.fz (p*7+3)
 rw [hl]at cp
 obtain⟨z,hz⟩: ∃z,k'.r=z:=⟨_,rfl⟩
 rw [hz]at cq
 have j0:decide ((p:Int)<0)=false:=decide_eq_false (by omega)
 have j1:(0:Int)≤(p:Int):=by omega
 have j2:(p:Int)<(n:Int):=by omega
 have j3:((p:Int)).toNat=p:=by omega
 have i0:decide ((q:Int)<0)=false:=decide_eq_false (by omega)
 have i1:(0:Int)≤(q:Int):=by omega
 have i2:(q:Int)<(n:Int):=by omega
 have i3:((q:Int)).toNat=q:=by omega
 have HZ:=hid hz
 clear hk hq ha hb hd H hkp hkq hz hb1 hh cr hl
 go_enter Tryz.func172,Tryz.ntmps172
 go_upto_region 2 with fail
 go_region
 have HA1:=hid ((HA.out.putl HK.out z).keep ((Below.refl _ _).drew))
 have HF1:=hid (((Off.refl (inAr g (some ⟨gK,0,none⟩) n c) w).put ⟨gK,p*7+3,none⟩ (.inl (.inr rfl)) (.int .i64 z)).drew)
 have hq1:(K.set p { k with l:=z })[q]? =some k':=by rw [List.getElem?_set_ne hpq];exact HQ.out
 clear a2 cp cq fp
 generalize (w.setCell ⟨gK,p*7+3,none⟩ (.int .i64 z)).drew=w1 at*
 have a2:=HA1.out.b.get 2 rfl
 have fq:=HA1.out.fz (q*7+4)
 have cq:=HA1.out.c4 hq1
 have HQ1:=hid hq1
 clear hq1
 go_upto_region 4 with fail
 have HA2:=hid (HA1.out.putr HQ1.out (p:Int))
 have HF2:=hid (HF1.out.put ⟨gK,q*7+4,none⟩ (.inl (.inr rfl)) (.int .i64 (p:Int)))
 clear a2 cq fq
 generalize w1.setCell ⟨gK,q*7+4,none⟩ (.int .i64 (p:Int))=w2 at*
 have hp2:((K.set p { k with l:=z }).set q { k' with r:=(p:Int) })[p]? =some { k with l:=z }:=by rw [List.getElem?_set_ne (Ne.symm hpq)];exact ζ6 HK.out _
 have HP2:=hid hp2
 clear hp2
 go_wp2_with fail
 refine(ζ19 g n c gK M r _ p _ a b w2 HA2.out HP2.out (by have:=HCA.out.set { k with l:=z } { k' with r:=(p:Int) };rw [HZ.out]at this;exact this) (HCB.out.set _ _) hn).mono ?_
 rintro e w3 ⟨rfl,hA3,hF3⟩
 have HA3:=hid (show Ar 221 w3 g M r (some ⟨gK,0,none⟩) n c (((K.set p { k with l:=z }).set q { k' with r:=(p:Int) }).set p kp) by rw [HKP.out,HZ.out];exact hA3)
 have HF3:=hid (HF2.out.trans hF3)
 clear hA3 hF3
 have hq3:(((K.set p { k with l:=z }).set q { k' with r:=(p:Int) }).set p kp)[q]? =some { k' with r:=(p:Int) }:=by rw [List.getElem?_set_ne hpq];exact ζ6 HQ1.out _
 have HQ3:=hid hq3
 have HP3:=hid (ζ6 HP2.out kp)
 clear hq3
 go_wp2_with fail
 refine(ζ19 g n c gK M r _ q _ d (some (kp.h,kp.t)) w3 HA3.out HQ3.out (HDD.out.set3 _ _ _) (.inr ⟨p,kp,rfl,HPQ.out,HP3.out,rfl,by have:=HH.out.1;omega,HH.out.2⟩) hn).mono ?_
 rintro e w4 ⟨rfl,hA4,hF4⟩
 have HA4:=hid (show Ar 221 w4 g M r (some ⟨gK,0,none⟩) n c ((K.set p kp).set q kq) by rw [set4 HPQ.out]at hA4;rw [HKQ.out];exact hA4)
 have HF4:=hid (HF3.out.trans hF4)
 clear hA4 hF4
 go_wp2_with fail
 go_ret
 exact⟨rfl,HA4.out,HF4.out⟩
theorem turnLeft_any (g n c gK:Nat)(M r:Int)(K:KnL)(p q:Nat)(k k' kp kq:Kn)(a b d:Option (Int × Int))(w:World)(H:Ar 221 w g M r (some ⟨gK,0,none⟩) n c K)(hk:K[p]? =some k)(hq:K[q]? =some k')(hpq:p≠q)(hl:k.r=(q:Int))
  (ha:chl2 K p q k'.l a) (hb:chl2 K p q k.l b) (hd:chl2 K p q k'.r d) (hkp:kp=Kn.settled { k with r:=k'.l } b a) (hkq:kq=Kn.settled { k' with l:=(p:Int) } (some (kp.h,kp.t)) d) (hh:kp.h≤1000000) (hn:n≤2000):
  Calls Tryz.prog 173 #[.pointer (some ⟨g,0,none⟩),.int .i64 (p:Int)] w fun e w'=>e= .returned (.int .i64 (q:Int))∧Ar 221 w' g M r (some ⟨gK,0,none⟩) n c ((K.set p kp).set q kq)∧Off (inAr g (some ⟨gK,0,none⟩) n c) w w':=by
 have hp:=H.lt hk
 have hqn:=H.lt hq
 have HK:=hid hk
 have HQ:=hid hq
 have hb1:1≤kp.h:=by
  rw [hkp]
  have h1:=ζ16 (h:=1) (ha.set k k) (by omega)
  have h2:=ζ16 (h:=1) (hb.set k k) (by omega)
  unfold Kn.settled
  first
   | exact(ζ16 (hb.set k k) h1).1
   | exact(ζ16 (ha.set k k) h2).1
 have HH:=hid (And.intro hb1 hh)
 have HCA:=hid ha
 have HCB:=hid hb
 have HDD:=hid hd
 have HKP:=hid hkp
 have HKQ:=hid hkq
 have HPQ:=hid hpq
 have HA:=hid H
 have a2:=H.b.get 2 rfl
 have cp:=H.c4 hk
 have cq:=H.c3 hq
 have cr:=H.c3 hk
 have fp:=H.fz (p*7+4)
 rw [hl]at cp
 obtain⟨z,hz⟩: ∃z,k'.l=z:=⟨_,rfl⟩
 rw [hz]at cq
 have j0:decide ((p:Int)<0)=false:=decide_eq_false (by omega)
 have j1:(0:Int)≤(p:Int):=by omega
 have j2:(p:Int)<(n:Int):=by omega
 have j3:((p:Int)).toNat=p:=by omega
 have i0:decide ((q:Int)<0)=false:=decide_eq_false (by omega)
 have i1:(0:Int)≤(q:Int):=by omega
 have i2:(q:Int)<(n:Int):=by omega
 have i3:((q:Int)).toNat=q:=by omega
 have HZ:=hid hz
 clear hk hq ha hb hd H hkp hkq hz hb1 hh cr hl
 go_enter Tryz.func173,Tryz.ntmps173
 go_upto_region 2 with fail
 go_region
 have HA1:=hid ((HA.out.putr HK.out z).keep ((Below.refl _ _).drew))
 have HF1:=hid (((Off.refl (inAr g (some ⟨gK,0,none⟩) n c) w).put ⟨gK,p*7+4,none⟩ (.inl (.inr rfl)) (.int .i64 z)).drew)
 have hq1:(K.set p { k with r:=z })[q]? =some k':=by rw [List.getElem?_set_ne hpq];exact HQ.out
 clear a2 cp cq fp
 generalize (w.setCell ⟨gK,p*7+4,none⟩ (.int .i64 z)).drew=w1 at*
 have a2:=HA1.out.b.get 2 rfl
 have fq:=HA1.out.fz (q*7+3)
 have cq:=HA1.out.c3 hq1
 have HQ1:=hid hq1
 clear hq1
 go_upto_region 4 with fail
 have HA2:=hid (HA1.out.putl HQ1.out (p:Int))
 have HF2:=hid (HF1.out.put ⟨gK,q*7+3,none⟩ (.inl (.inr rfl)) (.int .i64 (p:Int)))
 clear a2 cq fq
 generalize w1.setCell ⟨gK,q*7+3,none⟩ (.int .i64 (p:Int))=w2 at*
 have hp2:((K.set p { k with r:=z }).set q { k' with l:=(p:Int) })[p]? =some { k with r:=z }:=by rw [List.getElem?_set_ne (Ne.symm hpq)];exact ζ6 HK.out _
 have HP2:=hid hp2
 clear hp2
 go_wp2_with fail
 refine(ζ19 g n c gK M r _ p _ b a w2 HA2.out HP2.out (HCB.out.set _ _) (by have:=HCA.out.set { k with r:=z } { k' with l:=(p:Int) };rw [HZ.out]at this;exact this) hn).mono ?_
 rintro e w3 ⟨rfl,hA3,hF3⟩
 have HA3:=hid (show Ar 221 w3 g M r (some ⟨gK,0,none⟩) n c (((K.set p { k with r:=z }).set q { k' with l:=(p:Int) }).set p kp) by rw [HKP.out,HZ.out];exact hA3)
 have HF3:=hid (HF2.out.trans hF3)
 clear hA3 hF3
 have hq3:(((K.set p { k with r:=z }).set q { k' with l:=(p:Int) }).set p kp)[q]? =some { k' with l:=(p:Int) }:=by rw [List.getElem?_set_ne hpq];exact ζ6 HQ1.out _
 have HQ3:=hid hq3
 have HP3:=hid (ζ6 HP2.out kp)
 clear hq3
 go_wp2_with fail
 refine(ζ19 g n c gK M r _ q _ (some (kp.h,kp.t)) d w3 HA3.out HQ3.out (.inr ⟨p,kp,rfl,HPQ.out,HP3.out,rfl,by have:=HH.out.1;omega,HH.out.2⟩) (HDD.out.set3 _ _ _) hn).mono ?_
 rintro e w4 ⟨rfl,hA4,hF4⟩
 have HA4:=hid (show Ar 221 w4 g M r (some ⟨gK,0,none⟩) n c ((K.set p kp).set q kq) by rw [set4 HPQ.out]at hA4;rw [HKQ.out];exact hA4)
 have HF4:=hid (HF3.out.trans hF4)
 clear hA4 hF4
 go_wp2_with fail
 go_ret
 exact⟨rfl,HA4.out,HF4.out⟩
end Go.Proofs.YthagdonmijhpdaaGreat

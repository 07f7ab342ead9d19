/- Contracts of package bitemp -/
import Derived.Test.YthagdonmijhpdaaGreatBpF
import Derived.Test.YthagdonmijhpdaaGreatBpT
import Derived.Test.YthagdonmijhpdaaGreatTlKnown
import Derived.Deep.CutBlock
import Derived.Deep.CutRange
import Derived.Deep.DeepCutAuto
import Derived.StillTailTactics
import Derived.Test.YthagdonmijhpdaaGreatBpHd
open Go.Lib (hid)
set_option linter.unusedSimpArgs false
set_option linter.unusedVariables false
set_option maxHeartbeats 2000000
set_option maxRecDepth 8000
namespace Corr
open Go Go.RowKit
def sizeV:Value→Nat
 | .slice _ n _=>n
 | _=>0
def RetLine (RL:RepL)(L:ClL)(t a b:Int)(w:World)(e:Ending)(w':World):Prop:=∃(q:Addr) (F':Nat→Prop) (N:Nat) (f:Int→Int),e= .returned (.pointer (some q))∧RL w' (.pointer (some q)) F' N f∧N≤300∧(mayB a b=true→∀d,a≤d→d<b→f d=valS L t d)∧(∀d,¬f d=0→1≤d∧d<3652060)∧Below w.heap.size w w'∧∀k,F' k→w.heap.size≤k
end Corr
namespace Go.Proofs.YthagdonmijhpdaaGreat
open Go.RowKit Corr
set_option maxRecDepth 100000 in
theorem bline_any {Rep:RepT} {RL:RepL}(K:TrK Rep)(TK:TlK0 RL)(L:ClL)(Sk:Kp)(F:Nat→Prop)(a b t:Int)(w:World)(H:(kpT K.toRepOk 86 134 Sk).P w F)(hk:KsOk L Sk)(hL:L.length≤100)(out:ItL)(hout:segF Sk.f a b out):
  Calls Tryz.prog 39 #[.pointer (some ⟨Sk.g,0,none⟩),.int .i64 t,.agg #[.int .i64 a,.int .i64 b]] w (RetLine RL L t a b w):=by
 have hb0:Below w.heap.size w (w.alloc (.cells #[.int .i64 a,.int .i64 b] 24)):=(Below.refl _ w).alloc (Nat.le_refl _) _
 have HX0:=hid (Blk.new w #[.int .i64 a,.int .i64 b] 24)
 have HK0:=hid (kpT.keepB H hb0)
 have HB0:=hid hb0
 have hlt: ∀k,F k→k<w.heap.size:=fun k h=>(kpT K.toRepOk 86 134 Sk).lt H k h
 have HLT:=hid hlt
 have HWK:=hid (KsOk.walk hk hL)
 have HFEW:=hid (show (allY out Sk.cs a b t t).length≤201 from by have:=allY_few (t:=t) hk hout;omega)
 have HLINE:=hid (fun(M:List Rn) (h1:M.Perm (allY out Sk.cs a b t t)) h2=>(⟨allY_line0 (M:=M) hk hout h1 h2,fun hm=>allY_line (M:=M) hk hout (.inl hm) h1 h2⟩:LineL L t 0 0 M∧(mayB a b=true→LineL L t a b M)))
 have HOUT:=hid hout
 obtain⟨w1,hw1⟩: ∃w1,w.alloc (.cells #[.int .i64 a,.int .i64 b] 24)=w1:=⟨_,rfl⟩
 obtain⟨gz,hgz⟩: ∃k,w.heap.size=k:=⟨_,rfl⟩
 have HS1:=hid (show w1.heap.size=gz+1 by rw [←hw1,←hgz];simp)
 rw [hw1]at HX0 HK0 HB0
 rw [hgz]at HX0 HLT
 have x0:=HX0.out.get 0 rfl;have x1:=HX0.out.get 1 rfl
 have HGZ:=hid hgz
 clear hb0 hlt H hk hout
 go_enter Tryz.func39,Tryz.ntmps39
 go_upto_region 1 with fail
 clear hw1 hgz
 go_wp2_with fail
 refine(ζ4n K Sk F a b t t w1 HK0.out HWK.out out HOUT.out).mono ?_
 rintro e w2 ⟨lb,rfl,b2,hseq⟩
 have HB2:=hid b2
 have HSRT:=hid (ζ55 75 (fun r=>r.a) (enters_of Tryz.func75 (by kernel_rfl) rfl) byfrom_any 72 lb (allY out Sk.cs a b t t) w2 ζ2g (hseq _ (fun k hk=>hk) (fun k hk e=>by have h1:=HLT.out k hk;have h2:=HS1.out;have h3:=HB2.out.size;have e:w2.heap.size≤k:=e;omega) (fun k h1 h2 e=>by have e:w2.heap.size≤k:=e;omega)) (by have:=HFEW.out;omega))
 clear hseq b2
 go_wp2_with fail
 refine HSRT.out.mono ?_
 rintro e w3 ⟨A,n,c,M,rfl,m1,m2,m3,m4⟩
 have HM:=hid (HLINE.out M m1 m2).1
 have HMV:=hid (HLINE.out M m1 m2).2
 have HB12:=hid (HB0.out.trans (HB2.out.mono (by have:=HS1.out;have:=HGZ.out;omega)))
 have HSP:=hid ((Sep.of HB12.out).addRow (ζ1m m3 (Nat.zero_le _)) (fun k hk=>ζ1c m3 k hk) m4)
 have hMn:=ζ1a m3
 clear m1 m2 m3 m4
 go_wp2_with fail
 refine(sep0_tmake TK HSP.out).mono ?_
 rintro e w4 ⟨q,rfl,hs4⟩
 have HS4:=hid (show Sep w [rowT 0 86 6 A n c (ζ8 M),tlT TK.toTlOk (.pointer (some q)) 0 (fun _=>0)] w4 from hs4)
 clear hs4
 have HLL:=hid hL
 have HFIN:=hid (show ∀(w':World) (N:Nat) (f:Int→Int) (e:Ending),e= .returned (.pointer (some q))→N≤M.length→LineK L t M M.length f→Sep w [rowT 0 86 6 A n c (ζ8 M),tlT TK.toTlOk (.pointer (some q)) N f] w'→RetLine RL L t a b w e w' from fun w' N f e he hN hf hs=>by
  obtain⟨F',hp,hF,_⟩:=hs.get (i:=1) rfl
  exact⟨q,F',N,f,he,hp,by have h1:=HM.out.few;have h2:=HLL.out;omega,fun hm=>hf.end_ (HMV.out hm),hf.rng,hs.bl,hF⟩)
 clear hL
 by_cases hn:n=0
 ·subst hn
  have HM0:=hid (show M= []from List.eq_nil_of_length_eq_zero (by omega))
  clear hMn
  go_wp2_with fail
  go_loopw [7] (fun u wr=>u= .slice A 0 c∧wr=w4) (fun _ _=>0)
  case atStart=>exact⟨rfl,rfl⟩
  case round=>
   obtain⟨rfl,rfl⟩:=hrel
   go_wp2_with fail
   go_ret
   refine HFIN.out _ 0 (fun _=>0) _ rfl (Nat.zero_le _) ?_ HS4.out
   rw [HM0.out];exact LineK.nil
 obtain⟨g,x00,rfl,_⟩:=ζ1x (HS4.out.row 0 rfl) (k:=0) (by omega)
 have hcap:n≤c:=by
  obtain⟨A',c',e,hl⟩:=Lies.of_own (HS4.out.row 0 rfl) (HS4.out.row 0 rfl).1
  injection e with _ _ e3
  rw [e3];exact hl.cap
 have HMN:=hid hMn
 have HMB:=hid (show M.length≤201 from by have h1:=HM.out.few;have h2:=HLL.out;omega)
 clear hn hMn
 go_wp2_with fail
 go_loopw [7] (fun u wr=>∃(k N o r cc:Nat) (f:Int→Int),u= .slice (some ⟨g,o,none⟩) r cc∧r≤cc∧Hid ((0<r→o=k*6)∧k+r=M.length∧N≤k)∧Hid (LineK L t M k f)∧Hid (Sep w [rowT 0 86 6 (some ⟨g,0,none⟩) n c (ζ8 M),tlT TK.toTlOk (.pointer (some q)) N f] wr)) (fun u _=>sizeV u)
 case atStart=>exact⟨0,0,0,n,c,fun _=>0,rfl,hcap,hid ⟨fun _=>rfl,by have:=HMN.out;omega,Nat.le_refl _⟩,hid LineK.nil,HS4⟩
 case round=>
  obtain⟨k,N,o,r,cc,f,rfl,hrc,HKR,HK,HS⟩:=hrel
  by_cases hr:r=0
  ·have hr0: ¬0<r:=by omega
   have d0:decide ((r:Int) > 0)=false:=decide_eq_false (by omega)
   subst hr
   go_wp2_with fail
   go_ret
   refine HFIN.out _ N f _ rfl (by have:=HKR.out;omega) ?_ HS.out
   have:=HKR.out.2.1
   rw [Nat.add_zero]at this
   rw [←this];exact HK.out
  ·have d0:decide ((r:Int) > 0)=true:=decide_eq_true (by omega)
   have r0:0<r:=by omega
   go_upto_block 2 with fail
   go_cut [9]from 20 to 53 (fun v wx=>∃(j j1:Nat),v= .int .i64 (j:Int)∧Hid (j=j1+1)∧j≤r∧Hid (ChainL M k j)∧Hid (Sep w [rowT 0 86 6 (some ⟨g,0,none⟩) n c (ζ8 M),tlT TK.toTlOk (.pointer (some q)) N f] wx))
   case first=>
    go_wp2_with fail
    go_loopw [9] (fun v wx=>∃(j j1:Nat),v= .int .i64 (j:Int)∧Hid (j=j1+1)∧j≤r∧Hid (ChainL M k j)∧Hid (Sep w [rowT 0 86 6 (some ⟨g,0,none⟩) n c (ζ8 M),tlT TK.toTlOk (.pointer (some q)) N f] wx)) (fun v _=>(r-intOf v).toNat)
    case atStart=>exact⟨1,0,rfl,hid rfl,by omega,hid ChainL.one,HS⟩
    case round=>
     obtain⟨j,j1,rfl,HJ,hj,HC,HSX⟩:=hrel
     by_cases hjr:j<r
     ·have d1:decide ((j:Int)<(r:Int))=true:=decide_eq_true (by omega)
      have q1:IntKind.i64.wrap ((j:Int)-1)=(j1:Int):=by have:=HJ.out;have:=HKR.out;have:=HMB.out;exact(IntWalk.i64_in _ (by omega)).trans (by omega)
      obtain⟨_,y,e1,hy,y0,_,_,_,_,y5⟩:=ζ1x (HSX.out.row 0 rfl) (k:=k+j) (by have:=HKR.out;have:=HMN.out;omega)
      obtain⟨_,x,e2,hx,_,x1,_,_,_,_⟩:=ζ1x (HSX.out.row 0 rfl) (k:=k+j1) (by have:=HKR.out;have:=HMN.out;have:=HJ.out;omega)
      obtain⟨_,z,e3,hz,_,_,_,_,_,z5⟩:=ζ1x (HSX.out.row 0 rfl) (k:=k) (by have:=HKR.out;have:=HMN.out;omega)
      injection e1 with e1;injection e1 with e1;subst e1
      injection e2 with e2;injection e2 with e2;subst e2
      injection e3 with e3;injection e3 with e3;subst e3
      have o1:(k+j)*6=o+j*6:=by have:=HKR.out.1 r0;omega
      have o2:(k+j1)*6=o+j1*6:=by have:=HKR.out.1 r0;omega
      have o3:k*6=o:=(HKR.out.1 r0).symm
      rw [o1]at y0 y5
      rw [o2]at x1
      rw [o3]at z5
      have HY:=hid hy
      have HX:=hid hx
      have HZ:=hid hz
      have jn:((j1:Int)).toNat=j1:=by omega
      have j0:(0:Int)≤(j1:Int):=by omega
      have jl:(j1:Int)<(r:Int):=by have:=HJ.out;omega
      have rl:(0:Int)<(r:Int):=by omega
      clear o1 o2 o3 hy hx hz
      by_cases c1:y.a=x.b
      ·have d2:(y.a == x.b)=true:=by simpa using c1
       by_cases c2:y.m=z.m
       ·have d3:(y.m == z.m)=true:=by simpa using c2
        have HC2:=hid (HC.out.more (by have:=HJ.out;omega) (by have:=HX.out;have e:=HJ.out;rw [e,Nat.add_sub_cancel];exact this) HY.out HZ.out c1 c2)
        clear c1 c2
        go_upto_region 5 with fail
        go_quiet (fail)
        have HSN:=hid (HSX.out.keep (Joins.below_draws _ _ nq))
        have q2:IntKind.i64.wrap ((j:Int)+1)=((j+1:Nat):Int):=by have:=HKR.out;have:=HMB.out;exact(IntWalk.i64_in _ (by omega)).trans (by omega)
        go_wp2_with fail
        go_roundw
        case rel=>exact⟨j+1,j,rfl,hid rfl,by omega,HC2,HSN⟩
        case measure=>simp [intOf];omega
       ·have d3:(y.m == z.m)=false:=by simpa using c2
        clear c1 c2
        go_upto_region 5 with fail
        go_quiet (fail)
        have HSN:=hid (HSX.out.keep (Joins.below_draws _ _ nq))
        go_wp2_with fail
        go_meet
        exact⟨j,j1,rfl,HJ,hj,HC,HSN⟩
      ·have d2:(y.a == x.b)=false:=by simpa using c1
       clear c1
       go_upto_region 5 with fail
       go_quiet (fail)
       have HSN:=hid (HSX.out.keep (Joins.below_draws _ _ nq))
       go_wp2_with fail
       go_meet
       exact⟨j,j1,rfl,HJ,hj,HC,HSN⟩
     ·have d1:decide ((j:Int)<(r:Int))=false:=decide_eq_false (by omega)
      go_upto_region 5 with fail
      go_quiet (fail)
      have HSN:=hid (HSX.out.keep (Joins.below_draws _ _ nq))
      go_wp2_with fail
      go_meet
      exact⟨j,j1,rfl,HJ,hj,HC,HSN⟩
   case rest=>
    obtain⟨j,j1,rfl,HJ,hj,HC,HSX⟩:=hcut
    have q1:IntKind.i64.wrap ((j:Int)-1)=(j1:Int):=by have:=HJ.out;have:=HKR.out;have:=HMB.out;exact(IntWalk.i64_in _ (by omega)).trans (by omega)
    obtain⟨_,x,e2,hx,_,x1,_,_,_,_⟩:=ζ1x (HSX.out.row 0 rfl) (k:=k+j1) (by have:=HKR.out;have:=HMN.out;have:=HJ.out;omega)
    obtain⟨_,z,e3,hz,z0,_,_,_,z4,_⟩:=ζ1x (HSX.out.row 0 rfl) (k:=k) (by have:=HKR.out;have:=HMN.out;omega)
    injection e2 with e2;injection e2 with e2;subst e2
    injection e3 with e3;injection e3 with e3;subst e3
    have o2:(k+j1)*6=o+j1*6:=by have:=HKR.out.1 r0;omega
    have o3:k*6=o:=(HKR.out.1 r0).symm
    rw [o2]at x1
    rw [o3]at z0 z4
    have HX:=hid hx
    have HZ:=hid hz
    have HC1:=hid (show ChainL M k (j1+1)from by have:=HC.out;rw [HJ.out]at this;exact this)
    have HPUT:=hid (HK.out.put HM.out HZ.out HC1.out HX.out (f':=updF f z.a x.b z.v) (fun d=>rfl))
    have jn:((j1:Int)).toNat=j1:=by omega
    have j0:(0:Int)≤(j1:Int):=by omega
    have jl:(j1:Int)<(r:Int):=by have:=HJ.out;omega
    have rl:(0:Int)<(r:Int):=by omega
    clear o2 o3 hx hz
    go_upto_region 7 with fail
    go_still_tail 19,(by kernel_rfl)
    change wpList _ _ _ _ _ wc.drew
    have HS5:=hid (HSX.out.keep ((Below.refl _ wc).drew))
    have x1':wc.drew.cell? ⟨g,o+j1*6+1,none⟩=some (.int .i64 x.b):=x1
    have z0':wc.drew.cell? ⟨g,o,none⟩=some (.int .i64 z.a):=z0
    have z4':wc.drew.cell? ⟨g,o+4,none⟩=some (.int .i64 z.v):=z4
    clear x1 z0 z4 HSX
    generalize wc.drew=w5 at*
    go_wp2_with fail
    refine(sep0_tput TK HS5.out (i:=1) rfl (by have:=HKR.out;have:=HMB.out;omega) z.a x.b z.v).mono ?_
    rintro e w6 ⟨rfl,hs6⟩
    have HS6:=hid (show Sep w [rowT 0 86 6 (some ⟨g,0,none⟩) n c (ζ8 M),tlT TK.toTlOk (.pointer (some q)) (N+1) (updF f z.a x.b z.v)] w6 from by
     have e:putF f z.a x.b z.v=updF f z.a x.b z.v:=by unfold putF;rw [if_pos HPUT.out.1]
     rw [←e];exact hs6)
    have s0:(0:Int)≤(j:Int):=by omega
    have s1:(j:Int)≤(r:Int):=by omega
    have s2:((j:Int)).toNat=j:=by omega
    clear hs6 x1' z0' z4'
    go_wp2_with fail
    go_roundw
    case rel=>
     refine⟨k+j,N+1,(if cc=j then o else o+j*6),r-j,cc-j,_,?_,by omega,hid ⟨fun h=> ?_,by have:=HKR.out;omega,by have:=HKR.out;have:=HJ.out;omega⟩,hid (by have:=HPUT.out.2;rw [←HJ.out]at this;exact this),HS6⟩
     ·split <;> rfl
     ·have h1:=HKR.out.1 r0
      rw [if_neg (by omega)];omega
    case measure=>simp [sizeV];have:=HJ.out;omega
end Go.Proofs.YthagdonmijhpdaaGreat
namespace Corr
open Go Go.RowKit
theorem segF_on {f g:Int→Int} {a b:Int} {out:ItL}(h:mayB a b=true→∀d,a≤d→d<b→f d=g d)(ho:segF f a b out):segF g a b out:=by
 unfold segF at ho ⊢
 split
 ·rename_i hm
  rw [if_pos hm]at ho
  exact cov_same ho (h hm)
 ·rename_i hm
  rw [if_neg hm]at ho;exact ho
theorem valS_out {L:ClL} {Sk:Kp}(hk:KsOk L Sk)(t:Int) {d:Int}(hd: ¬(1≤d∧d<3652060)):valS L t d=0:=by
 rcases Classical.em (valS L t d=0)with h | h
 ·exact h
 ·rcases hk.ks.all t d h with⟨h1,_⟩ | ⟨r,hr,h1,h2,_⟩
  ·exact absurd (hk.ks.off d (by omega)) h1
  ·have:=(hk.ks.cls r hr).1;omega
end Corr
namespace Go.Proofs.YthagdonmijhpdaaGreat
open Go.RowKit Corr
theorem bsegs13_any {Rep:RepT} {RL:RepL}(K:TrK Rep)(TK:TlK0 RL)(w:World)(p:Value)(F:Nat→Prop)(L:ClL)(t a b:Int)(H:HdB K.toRepOk 86 134 w p F L)(hL:L.length≤100):
  Calls Tryz.prog 17 #[p,.int .i64 t,.agg #[.int .i64 a,.int .i64 b]] w (ζ1r 89 w (valS L t) a b):=by
 have hA:Below w.heap.size w (w.alloc (.cells #[.int .i64 a,.int .i64 b] 24)):=(Below.refl _ w).alloc (Nat.le_refl _) _
 have hX:=Blk.new w #[.int .i64 a,.int .i64 b] 24
 have hH:=H.keepB hA
 obtain⟨w1,hw1⟩: ∃w1,w.alloc (.cells #[.int .i64 a,.int .i64 b] 24)=w1:=⟨_,rfl⟩
 obtain⟨gx,hgx⟩: ∃k,w.heap.size=k:=⟨_,rfl⟩
 rw [hw1]at hA hX hH
 rw [hgx]at hX
 have HGX:=hid hgx
 have HX1:=hid hX
 have HH1:=hid hH
 have HBW:=hid hA
 have HGE:=hid hA.size
 have HL:=hid hL
 have HSL:=hid (fun(f:Int→Int) (o:ItL) (h:mayB a b=true→∀d,a≤d→d<b→f d=valS L t d) (ho:segF f a b o)=>segF_on h ho)
 obtain⟨Q1,hQ1⟩: ∃Q:Value→World→Prop,Q=fun vx wx=>∃(Sk:Kp) (Fk:Nat→Prop),vx= .pointer (some ⟨Sk.g,0,none⟩)∧(kpT K.toRepOk 86 134 Sk).P wx Fk∧KsOk L Sk:=⟨_,rfl⟩
 have HQ1:=hid hQ1
 have HQK1:=hid (show ∀(v:Value) (w w':World),Q1 v w→Below w.heap.size w w'→Q1 v w' from fun v w w' h hb=>by
  rw [hQ1]at h ⊢
  obtain⟨Sk,Fk,h1,h2,h3⟩:=h
  exact⟨Sk,Fk,h1,kpT.keepB h2 hb,h3⟩)
 obtain⟨Q4,hQ4⟩: ∃Q:Value→World→Prop,Q=fun vx wx=>∃(q:Addr) (F':Nat→Prop) (N:Nat) (f:Int→Int),vx= .pointer (some q)∧RL wx (.pointer (some q)) F' N f∧N≤300∧(mayB a b=true→∀d,a≤d→d<b→f d=valS L t d):=⟨_,rfl⟩
 have HQ4:=hid hQ4
 have HQK4:=hid (show ∀(v:Value) (w w':World),Q4 v w→Below w.heap.size w w'→Q4 v w' from fun v w w' h hb=>by
  rw [hQ4]at h ⊢
  obtain⟨q,F',N,f,h1,h2,h3⟩:=h
  exact⟨q,F',N,f,h1,TK.keep h2 (Off.of (F:=fun _=>False) hb) (fun _ _ e=>e),h3⟩)
 obtain⟨Q6,hQ6⟩: ∃Q:Value→World→Prop,Q=fun vx wx=>∃o A n c,vx= .slice A n c∧segF (valS L t) a b o∧wx.ownsRow w.heap.size 89 3 (.slice A n c) n (ζ5 o):=⟨_,rfl⟩
 have HQ6:=hid hQ6
 have HQK6:=hid (show ∀(v:Value) (w w':World),Q6 v w→Below w.heap.size w w'→Q6 v w' from fun v w w' h hb=>by
  rw [hQ6]at h ⊢
  obtain⟨o,A,n,c,h1,h2,h3⟩:=h
  exact⟨o,A,n,c,h1,h2,ζg h3 hb⟩)
 clear hA hX hH H hgx hL hQ1 hQ4 hQ6
 go_enter Tryz.func17,Tryz.ntmps17
 go_upto_region 1 with fail
 rw [HGX.out]
 clear hw1
 refine ζ3 8 (fun S val wx=>VVs 8 [(· =p),(fun vv=>∃gk,vv= .pointer (some ⟨gk,0,none⟩)),(· = .int .i64 t),(· = .agg #[.int .i64 a,.int .i64 b]),(fun vv=>∃q,vv= .pointer (some q)),(· = .agg #[.int .i64 a,.int .i64 b]),(fun vv=>∃Av Nv cv,vv= .slice Av Nv cv),(fun vv=>∃Av Nv cv,vv= .slice Av Nv cv)] S val∧Clo [[],[0],[],[],[1,2,3],[],[4,5],[6]] S∧(Below w1.heap.size w1 wx∧(S 1=true→Q1 (val 1) wx)∧(S 4=true→Q4 (val 4) wx)∧(S 6=true→Q6 (val 6) wx)∧(S 7=true→Q6 (val 7) wx))) [0,2,7] (by kernel_rfl) (by kernel_rfl) ⟨VVs.start,Clo.start,⟨(Below.refl _ _).drew,(fun h=>by cases h),(fun h=>by cases h),(fun h=>by cases h),(fun h=>by cases h)⟩⟩ ⟨?_,?_,?_,?_,?_,?_,?_,?_,trivial⟩ ?_
 ·exact qU [0]
 ·refine qC fun ev wv S val hE hV hK hw hS hd=> ?_
  have hwb:=hw.1
  have s4:=hK.no hS 4 [1]
  have s6:=hK.no hS 6 [4,1]
  have s7:=hK.no hS 7 [6,4,1]
  refine qF (f:=35) (args:= #[p]) [] hE hV hd (ζ37 K wv p F L (HH1.out.keepB hwb)) ?_
  rintro e w' ⟨S9,Fk9,rfl,g1,g2,hb,g3⟩
  exact⟨_,rfl,(⟨_,rfl⟩),⟨Below.trans hw.1 (Below.mono hb hw.1.size),fun _=>(by simpa [addV]using(by rw [HQ1.out];exact⟨S9,Fk9,rfl,g1,g2⟩)),fun h=>absurd h (by simp [addS,s4]),fun h=>absurd h (by simp [addS,s6]),fun h=>absurd h (by simp [addS,s7])⟩⟩
 ·exact qU [1]
 ·exact qL [5] fun hw=>And.intro (((HX1.out).keep (hw.1)).get 0 rfl) (((HX1.out).keep (hw.1)).get 1 rfl)
 ·refine qC fun ev wv S val hE hV hK hw hS hd=> ?_
  obtain⟨gk1,g1⟩:=hV 1 (by decide) (hd 1 (by decide)).1
  have v8:ev (.tmp 8)= .pointer (some ⟨gk1,0,none⟩):=(hd 1 (by decide)).2.trans g1
  have hwb:=hw.1
  have s6:=hK.no hS 6 [4]
  have s7:=hK.no hS 7 [6,4]
  have hl1:=hw.2.1 (hd 1 (by decide)).1
  rw [HQ1.out,g1]at hl1
  obtain⟨S9,Fk9,ee,l1,l2⟩:=hl1
  injection ee with ee;injection ee with ee;injection ee with ee
  subst ee
  obtain⟨out9,ho9⟩:=seg_ex S9.f a b
  refine qF (f:=39) (args:= #[.pointer (some ⟨S9.g,0,none⟩),.int .i64 t,.agg #[.int .i64 a,.int .i64 b]]) [] hE hV hd (bline_any K TK L S9 Fk9 a b t wv l1 l2 HL.out out9 ho9) ?_
  rintro e w' ⟨q9,F9,N9,f9,rfl,g1,g2,g3,g4,hb,g6⟩
  exact⟨_,rfl,(⟨_,rfl⟩),⟨Below.trans hw.1 (Below.mono hb hw.1.size),fun h=>(by simpa [addV]using HQK1.out _ _ _ (hw.2.1 (by simpa [addS]using h)) hb),fun _=>(by simpa [addV]using(by rw [HQ4.out];exact⟨q9,F9,N9,f9,rfl,g1,g2,g3⟩)),fun h=>absurd h (by simp [addS,s6]),fun h=>absurd h (by simp [addS,s7])⟩⟩
 ·exact qL [5] fun hw=>And.intro (((HX1.out).keep (hw.1)).get 0 rfl) (((HX1.out).keep (hw.1)).get 1 rfl)
 ·refine qC fun ev wv S val hE hV hK hw hS hd=> ?_
  obtain⟨q4,g4⟩:=hV 4 (by decide) (hd 4 (by decide)).1
  have v11:ev (.tmp 11)= .pointer (some q4):=(hd 4 (by decide)).2.trans g4
  have hwb:=hw.1
  have s7:=hK.no hS 7 [6]
  have hl4:=hw.2.2.1 (hd 4 (by decide)).1
  rw [HQ4.out,g4]at hl4
  obtain⟨q9,F9,N9,f9,ee,l1,l2,l3⟩:=hl4
  injection ee with ee;injection ee with ee
  subst ee
  refine qF (f:=21) (args:= #[.pointer (some q4),.agg #[.int .i64 a,.int .i64 b]]) [] hE hV hd (TK.segs wv (.pointer (some q4)) F9 N9 f9 a b l1 l2) ?_
  rintro e w' ⟨o9,A9,n9,c9,rfl,g1,g2,hb⟩
  exact⟨_,rfl,(⟨_,_,_,rfl⟩),⟨Below.trans hw.1 (Below.mono hb hw.1.size),fun h=>(by simpa [addV]using HQK1.out _ _ _ (hw.2.1 (by simpa [addS]using h)) hb),fun h=>(by simpa [addV]using HQK4.out _ _ _ (hw.2.2.1 (by simpa [addS]using h)) hb),fun _=>(by simpa [addV]using(by rw [HQ6.out];exact⟨o9,A9,n9,c9,rfl,HSL.out _ _ l3 g1,ζ1m g2 (Nat.le_trans HGE.out hw.1.size)⟩)),fun h=>absurd h (by simp [addS,s7])⟩⟩
 ·rintro ev wv S val hE ⟨hV,hK,hw⟩ hS hd
  obtain⟨Av6,Nv6,cv6,g6⟩:=hV 6 (by decide) (hd 6 (by decide)).1
  have v13:ev (.tmp 13)= .slice Av6 Nv6 cv6:=(hd 6 (by decide)).2.trans g6
  refine ifw rfl (ifw rfl ⟨.slice Av6 Nv6 cv6,fun w9=> ?_,VVs.add hV ⟨_,_,_,rfl⟩,ζi hK rfl hd,⟨hw.1,fun h=>(by simpa [addV]using hw.2.1 (by simpa [addS]using h)),fun h=>(by simpa [addV]using hw.2.2.1 (by simpa [addS]using h)),fun h=>(by simpa [addV]using hw.2.2.2.1 (by simpa [addS]using h)),fun _=>(by have h9:=hw.2.2.2.1 (hd 6 (by decide)).1;rw [g6]at h9;simpa [addV]using h9)⟩⟩)
  obtain⟨e1,-,e2,-⟩:=hE;clear hd hw hS hV hK
  show _=Result.ok (Next.value (.slice Av6 Nv6 cv6)) w9
  go_simp
 ·rintro S val w9 hS ⟨hV,hK,hw⟩
  have e0:val 0=p:=hV 0 (by decide) (hS 0 (by decide))
  obtain⟨gk1,e1⟩:=hV 1 (by decide) (hS 1 (by decide))
  have e2:val 2= .int .i64 t:=hV 2 (by decide) (hS 2 (by decide))
  have e3:val 3= .agg #[.int .i64 a,.int .i64 b]:=hV 3 (by decide) (hS 3 (by decide))
  obtain⟨q4,e4⟩:=hV 4 (by decide) (hS 4 (by decide))
  obtain⟨Av6,Nv6,cv6,e6⟩:=hV 6 (by decide) (hS 6 (by decide))
  obtain⟨Av7,Nv7,cv7,e7⟩:=hV 7 (by decide) (hS 7 (by decide))
  refine finL hV hS ?_
  rintro v0 ⟨h0,-⟩-v1 ⟨h1,-⟩-v2 ⟨h2,-⟩-v3 ⟨h3,-⟩-v4 ⟨h4,-⟩-_ ⟨-,rfl⟩-v6 ⟨h6,-⟩-v7 ⟨h7,-⟩-
  simp only [zA]
  simp only [h0.trans e0,h1.trans e1,h2.trans e2,h3.trans e3,h4.trans e4,h6.trans e6,h7.trans e7]
  clear hV h0 e0 v0 h1 e1 v1 h2 e2 v2 h3 e3 v3 h4 e4 v4 h6 e6 v6 h7 v7
  change wpList Tryz.prog _ _ _ _ w9
  have HBZ:=hid hw.1
  have hq7:=hw.2.2.2.2 (hS 7 (by decide))
  rw [e7]at hq7
  have HQZ:=hid hq7
  clear hq7
  clear hw hS hK e7 val S
  rw [HQ6.out]at HQZ
  obtain⟨o9,A9,n9,c9,ev,s1,s2⟩:=HQZ.out
  injection ev with e1 e2 e3
  subst e1 e2 e3
  have S1:=hid s1
  have S2:=hid s2
  have S3:=hid (HBW.out.trans (HBZ.out.mono HGE.out))
  clear HQZ HBZ s1 s2
  refine ζ2 ?_
  go_wp2_with fail
  go_ret
  exact⟨o9,_,_,_,rfl,S1.out,S2.out,S3.out⟩
end Go.Proofs.YthagdonmijhpdaaGreat

/- The iterator that package bitemp's rects tells. -/
import Derived.Test.YthagdonmijhpdaaGreatBp2
import Derived.Test.YthagdonmijhpdaaGreatBp8
import Derived.Stop.RegionWithIn
import Derived.Test.YthagdonmijhpdaaGreatSqIn
import Derived.Deep.LoopGhost
import Derived.Lib.AtoiErrMem
open Go.Lib (hid)
set_option linter.unusedSimpArgs false
set_option linter.unusedVariables false
set_option maxHeartbeats 8000000
namespace Corr
open Go Go.RowKit
def lenV:Value→Value
 | .slice _ n _=> .int .i64 (n:Int)
 | _=>undef
theorem kpT.row {Rep:RepT} {R:RepOk Rep} {T U:TypeId} {Sk:Kp} {w:World} {F:Nat→Prop}(h:(kpT R T U Sk).P w F): ∃A n cap,Blk w Sk.g #[.int .i64 Sk.la,.int .i64 Sk.n,Sk.q,.slice A n cap]∧w.ownsRow 0 U 1 (.slice A n cap) n (ptrsC Sk.cs):=by
 obtain⟨⟨A,n,cap⟩,hp⟩:=h
 exact⟨A,n,cap,hp.2.b 1 rfl,hp.2.row 2 rfl⟩
abbrev ckTs {Rep:RepT}(R:RepOk Rep)(T:TypeId)(c:Ck)(s:SlA):List Thing:= [blkT c.g #[.slice s.A s.n s.c,c.q,.int .i64 c.s0],rowT 0 T 6 s.A s.n s.c (ζ8 c.rs),trT R c.q 250 c.l]
theorem last_most {rs:List Rn}(h:rs.Pairwise fun x r=>x.u≤r.u) {r:Rn}(hr:rs.getLast? =some r): ∀x∈rs,x.u≤r.u:=by
 intro x hx
 have hne:rs≠ []:=fun e=>by rw [e]at hx;cases hx
 have h1:=List.dropLast_concat_getLast hne
 rw [List.getLast?_eq_some_getLast hne]at hr
 obtain rfl:=Option.some.inj hr
 rw [←h1]at h hx
 rcases List.mem_append.1 hx with hx | hx
 ·exact(List.pairwise_append.1 h).2.2 x hx _ List.mem_cons_self
 ·rw [List.mem_singleton.1 hx];exact Int.le_refl _
theorem told_pre {out:ItL} {cs:List Ck} {a b fq tq:Int} {i:Nat} {c:Ck} {l:ItL}(hc:cs[i]? =some c)(hp:l <+: c.l.filter (overB a b)):(opnY out tq++(cs.take i).flatMap fun c=>ckY c a b fq tq)++l.flatMap (itY c fq tq) <+: allY out cs a b fq tq:=by
 obtain⟨t,ht⟩:=hp
 have h2:cs.drop i=c :: cs.drop (i+1):=by
  obtain⟨hl,he⟩:=List.getElem?_eq_some_iff.1 hc
  rw [List.drop_eq_getElem_cons hl,he]
 have h3:ckY c a b fq tq=l.flatMap (itY c fq tq)++t.flatMap (itY c fq tq):=by unfold ckY;rw [←ht,List.flatMap_append]
 have h4:(cs.flatMap fun c=>ckY c a b fq tq)=(cs.take i).flatMap (fun c=>ckY c a b fq tq)++(ckY c a b fq tq++(cs.drop (i+1)).flatMap fun c=>ckY c a b fq tq):=by
  conv=>lhs;rw [←List.take_append_drop i cs]
  rw [List.flatMap_append,h2,List.flatMap_cons]
 refine⟨t.flatMap (itY c fq tq)++(cs.drop (i+1)).flatMap fun c=>ckY c a b fq tq,?_⟩
 unfold allY
 rw [h4,h3]
 simp only [List.append_assoc]
theorem kp_ck {Rep:RepT} {R:RepOk Rep} {T U:TypeId} {Sk:Kp} {s:SlA} {w:World} {F:Nat→Prop}(h:(packT (kpTs R T U Sk s)).P w F) {i:Nat} {c:Ck}(hi:Sk.cs[i]? =some c): ∃(sc:SlA) (Fc:Nat→Prop),(packT (ckTs R T c sc)).P w Fc∧∀k,Fc k→F k:=by
 obtain⟨Fc,⟨sc,hp⟩,hF,_⟩:=h.2.deep (i:=3) rfl (show (Sk.cs.map (ckT R T))[i]? =some (ckT R T c) by rw [List.getElem?_map,hi];rfl)
 refine⟨sc,Fc,hp,fun k hk=> ?_⟩
 rcases hF k hk with h1 | h1
 ·exact h1
 ·have:=hp.1 k hk;omega
def onN (Q:Exit→Act→World→Prop):Exit→Act→World→Prop
 | .normal,a,w=>Q .normal a w
 | _,_,_=>False
theorem opnY_pre {out:ItL} {tq:Int} {k:Nat} :opnY (out.take k) tq <+: opnY out tq:=by
 unfold opnY
 refine⟨((out.drop k).filter (opnB tq)).map fun x=>rectI x 0,?_⟩
 rw [←List.map_append,←List.filter_append,List.take_append_drop]
theorem opnY_lt {out:ItL} {tq:Int} {k:Nat} {x:It}(hx:out[k]? =some x)(h:opnB tq x=true):(opnY (out.take k) tq).length<(opnY out tq).length:=by
 have h1:=opnY_yes hx h
 have h2:(opnY (out.take (k+1)) tq).length≤(opnY out tq).length:=by
  unfold opnY;rw [List.length_map,List.length_map];exact((List.take_sublist _ _).filter _).length_le
 rw [h1]at h2;simp at h2;omega
theorem onN_inv {Q:Exit→Act→World→Prop} {e:Exit} {a:Act} {w:World}(h:onN Q e a w):e= .normal∧Q .normal a w:=by cases e <;> first | exact⟨rfl,h⟩ | exact h.elim
theorem onN_n {Q:Exit→Act→World→Prop} {a:Act} {w:World}(h:Q .normal a w):onN Q .normal a w:=h
theorem wpIn_onN {F:Fence} {n:Nat} {P:Program} {c:Code} {Q:Exit→Act→World→Prop} {a:Act} {w:World}(h:c.wpIn F n P (onN Q) a w):c.wpIn F n P Q a w:=wpIn_mono h (fun e a w h=>by cases e <;> first | exact h | exact h.elim)
end Corr
namespace Go.Proofs.YthagdonmijhpdaaGreat
open Go.RowKit Corr
attribute [local go_sem] Oper.semAt_some
set_option maxRecDepth 100000 in
theorem rects_off {Rep:RepT}(K:TrK Rep)(Sk:Kp)(F:Nat→Prop)(gk gd gt gf:Nat)(a b tq fq:Int)(Z:Nat→Prop)(w1:World)(H:(kpT K.toRepOk 86 134 Sk).P w1 F)(hck: ∀c∈Sk.cs,okCk c)(hup: ∀c∈Sk.cs,c.rs.Pairwise fun x r=>x.u≤r.u)(hrs: ∀c∈Sk.cs,∀r∈c.rs,1≤r.a∧r.a<r.b)(ho:offF Sk.f)(hnb:Sk.nb≤1000)(hcl:Sk.cs.length≤100000)
  (hF: ∀k,F k→¬Z k) (n1: ¬Z gk) (n2: ¬Z gd) (n3: ¬Z gt) (n4: ¬Z gf) (hn: ∀k,w1.heap.size≤k→Z k)
  (bk:Blk w1 gk #[.pointer (some ⟨Sk.g,0,none⟩)]) (bd:Blk w1 gd #[.int .i64 a,.int .i64 b]) (bt:Blk w1 gt #[.int .i64 tq]) (bf:Blk w1 gf #[.int .i64 fq])
  (out:ItL) (hout:segF Sk.f a b out) (Y:List Rn) (hYY:allY out Sk.cs a b fq tq=Y):
  SeqOff2 Tryz.prog 72 #[.pointer (some ⟨gk,0,none⟩),.pointer (some ⟨gd,0,none⟩),.pointer (some ⟨gt,0,none⟩),.pointer (some ⟨gf,0,none⟩)] (fun r:Rn=> #[rnV r]) Z (fun ys=>ys=Y) (fun pre=>pre <+: Y) Y.length w1:=by
 intro l J Jx W hW hgrow hgrox hY h0
 have HGX:=hid hgrox
 have HW:=hid hW
 have HGR:=hid hgrow
 have HYD:=hid hY
 have H00:=hid h0
 have HKP:=hid H
 have HBK:=hid bk
 have HBD:=hid bd
 have HBT:=hid bt
 have HBF:=hid bf
 have HZ:=hid (show (∀k,F k→¬Z k)∧¬Z gk∧¬Z gd∧¬Z gt∧¬Z gf from⟨hF,n1,n2,n3,n4⟩)
 have HN:=hid hn
 have HCK:=hid hck
 have HUP:=hid hup
 have HRS:=hid hrs
 have HOF:=hid ho
 have HNB:=hid hnb
 have HCL:=hid hcl
 have HOUT:=hid hout
 have HALL:=hid hYY
 have HLY:=hid (show ∀(k:Nat) (x:It),out[k]? =some x→opnB tq x=true→(opnY (out.take k) tq).length<Y.length from fun k x hx h=>by
  rw [←hYY];unfold allY;rw [List.length_append];have h1:=opnY_lt hx h;omega)
 have HLP:=hid (show ∀(k:Nat) (x:It),out[k]? =some x→opnB tq x=true→opnY (out.take k) tq++ [rectI x 0] <+: Y from fun k x hx h=>by
  rw [←opnY_yes hx h,←hYY]
  exact List.IsPrefix.trans opnY_pre (List.prefix_append _ _))
 obtain⟨W1,hW1⟩: ∃W1,W.alloc (.cells #[.func (.yield l) #[] #[]] 133)=W1:=⟨_,rfl⟩
 have hA:=(Below.refl W.heap.size W).alloc (Nat.le_refl _) (.cells #[.func (.yield l) #[] #[]] 133)
 have hB:=Blk.new W #[.func (.yield l) #[] #[]] 133
 rw [hW1]at hA hB
 have HA:=hid hA
 have HBY:=hid hB
 clear hW hgrow hgrox hY h0 H bk bd bt bf hF n1 n2 n3 n4 hn hck hup hrs ho hnb hcl hout hYY hA hB
 refine callsIn_of_wp_marks (F:=Fence.wide) (n:=2) Tryz.func72 rfl trivial ?_ rfl
 simp only [Tryz.ntmps72,List.size_toArray,List.length_cons,List.length_nil,Nat.reduceAdd,Nat.reduceSub,Array.replicate_succ,Array.replicate_zero,List.push_toArray,List.append_toArray,List.nil_append,List.cons_append]
 gi_wp2_with fail
 obtain⟨gy,hgy⟩: ∃k,W.heap.size=k:=⟨_,rfl⟩
 rw [hgy]
 have HBY:=hid (show Blk W1 gy #[.func (.yield l) #[] #[]]from hgy▸HBY.out)
 have HGY:=hid hgy
 have HW1:=hid (HW.out.trans (HA.out.mono HW.out.size))
 have HP1:=hid (kpT.keepB HKP.out HW1.out)
 obtain⟨A,n,cap,hk1⟩:=kpT.blk HP1.out
 have HK1:=hid hk1
 have HBK1:=hid (HBK.out.keep HW1.out)
 have HBD1:=hid (HBD.out.keep HW1.out)
 obtain⟨Ft,ht⟩:=kpT.tq HP1.out
 have HTQ:=hid ht
 clear hgy hk1 ht hW1
 obtain⟨Q1,hQ1⟩: ∃Q1:Value→World→Prop,Q1=fun vx wx=>∃A N c,vx= .slice A N c∧wx.ownsRow W1.heap.size 128 5 (.slice A N c) N (ζ7 out)∧Below W1.heap.size W1 wx:=⟨_,rfl⟩
 have HQ1:=hid hQ1
 clear hQ1
 refine wpIn_wide.2 ?_
 refine ζ3 8 (fun S val wx=>VVs 8 [(· = .pointer (some ⟨Sk.g,0,none⟩)),(· = .pointer (some ⟨Sk.g,0,none⟩)),(· = .pointer (some ⟨Sk.g,2,none⟩)),(· =Sk.q),(· = .agg #[.int .i64 a,.int .i64 b]),(fun vv=>∃Av Nv cv,vv= .slice Av Nv cv),(fun vv=>∃Nl,vv= .int .i64 ((Nl:Nat):Int)),(· = .int .i64 0)] S val∧Clo [[],[0],[1],[2],[],[3,4],[5],[]] S∧((S 5=false→Below W1.heap.size W1 wx)∧(S 5=true→Q1 (val 5) wx)∧(S 6=true→val 6=lenV (val 5)))) [1,2,6,7] (by kernel_rfl) (by kernel_rfl) ⟨VVs.start,Clo.start,⟨fun _=>(Below.refl _ _).drew,(fun h=>by cases h),fun h=>by cases h⟩⟩ ⟨?_,?_,?_,?_,?_,?_,?_,?_,trivial⟩ ?_
 ·refine qM fun ev wv S val hE hV hK hw hS hd=> ?_
  have s5:=hK.no hS 5 [3,2,1,0]
  have hwb:=hw.1 s5
  have kx0:=((HBK1.out).keep hwb).get 0 rfl
  exact qE [1] hE hV hd
 ·exact qU []
 ·exact qU []
 ·refine qM fun ev wv S val hE hV hK hw hS hd=> ?_
  have s5:=hK.no hS 5 [3]
  have hwb:=hw.1 s5
  have kx0:=((HK1.out).keep hwb).get 2 rfl
  exact qE [] hE hV hd
 ·refine qM fun ev wv S val hE hV hK hw hS hd=> ?_
  have s5:=hK.no hS 5 [4]
  have hwb:=hw.1 s5
  have kx0:=((HBD1.out).keep hwb).get 0 rfl
  have kx1:=((HBD1.out).keep hwb).get 1 rfl
  exact qE [2] hE hV hd
 ·refine qC fun ev wv S val hE hV hK hw hS hd=> ?_
  have hwb:=hw.1 hS
  refine qF (f:=32) (args:= #[Sk.q,.agg #[.int .i64 a,.int .i64 b]]) [] hE hV hd (bsegs_any K ((tpTq K.toRepOk Sk.q Sk.nb (pcI Sk.f)).keep HTQ.out (Off.of (F:=fun _=>False) hwb) (fun _ _ e=>e)) HOF.out HNB.out a b) ?_
  rintro e w' ⟨ot,Ar,Nr,cr,rfl,g1,g2,g3⟩
  exact⟨_,rfl,(⟨_,_,_,rfl⟩),⟨fun h=>absurd h (by simp [addS]),fun _=>(by simpa [addV]using(show Q1 (.slice Ar Nr cr) w' from(by rw [HQ1.out];rw [ζ48 g1 HOUT.out]at g2;exact⟨Ar,Nr,cr,rfl,ζ1m g2 hwb.size,Below.trans hwb (Below.mono g3 hwb.size)⟩))),fun h=>absurd (hK 6 (by simpa [addS]using h) 5 (by decide)) (by rw [hS];decide)⟩⟩
 ·rintro ev wv S val hE ⟨hV,hK,hw⟩ hS hd
  obtain⟨Av5,Nv5,cv5,g5⟩:=hV 5 (by decide) (hd 5 (by decide)).1
  have v17:ev (.tmp 17)= .slice Av5 Nv5 cv5:=(hd 5 (by decide)).2.trans g5
  refine ifw rfl (ifw rfl ⟨.int .i64 (Nv5:Int),fun w9=> ?_,VVs.add hV ⟨_,rfl⟩,ζi hK rfl hd,⟨fun h=>absurd h (by simp [addS,(hd 5 (by decide)).1]),fun h=>(by simpa [addV]using hw.2.1 (hd 5 (by decide)).1),fun _=>(by simp [addV,g5,lenV])⟩⟩)
  obtain⟨e1,-,e2,-⟩:=hE;clear hd hw hS hV hK
  show _=Result.ok (Next.value (.int .i64 (Nv5:Int))) w9
  go_simp
 ·exact qU []
 ·rintro S val w2 hS ⟨hV,hK,hw⟩
  have e0:val 0= .pointer (some ⟨Sk.g,0,none⟩):=hV 0 (by decide) (hS 0 (by decide))
  have e1:val 1= .pointer (some ⟨Sk.g,0,none⟩):=hV 1 (by decide) (hS 1 (by decide))
  have e2:val 2= .pointer (some ⟨Sk.g,2,none⟩):=hV 2 (by decide) (hS 2 (by decide))
  have e3:val 3=Sk.q:=hV 3 (by decide) (hS 3 (by decide))
  have e4:val 4= .agg #[.int .i64 a,.int .i64 b]:=hV 4 (by decide) (hS 4 (by decide))
  obtain⟨Av5,Nv5,cv5,e5⟩:=hV 5 (by decide) (hS 5 (by decide))
  obtain⟨Nl6,e6⟩:=hV 6 (by decide) (hS 6 (by decide))
  have e7:val 7= .int .i64 0:=hV 7 (by decide) (hS 7 (by decide))
  refine finL hV hS ?_
  rintro v0 ⟨h0,-⟩-v1 ⟨h1,-⟩-v2 ⟨h2,-⟩-v3 ⟨h3,-⟩-v4 ⟨h4,-⟩-v5 ⟨h5,-⟩-v6 ⟨h6,-⟩-v7 ⟨h7,-⟩-
  simp only [zA]
  simp only [h0.trans e0,h1.trans e1,h2.trans e2,h3.trans e3,h4.trans e4,h5.trans e5,h6.trans e6,h7.trans e7]
  clear hV h0 e0 v0 h1 e1 v1 h2 e2 v2 h3 e3 v3 h4 e4 v4 h5 v5 h6 v6 h7 e7 v7
  change wpList Tryz.prog _ _ _ _ w2
  have hl0:=hw.2.2 (hS 6 (by decide))
  have hq:=hw.2.1 (hS 5 (by decide))
  rw [e5,e6]at hl0
  rw [e5,HQ1.out]at hq
  have hl:Nl6=Nv5:=by
   have h9:(Nl6:Int)=(Nv5:Int):=by simpa [lenV]using hl0
   omega
  clear hl0
  subst hl
  obtain⟨Ax,Nx,cx,ev,s1,s2⟩:=hq
  injection ev with q1 q2 q3
  subst q1 q2 q3
  have HROW:=hid s1
  have HW2:=hid s2
  clear hw hS hK e5 e6 val S s1 s2 HQ1
  refine ζ2 ?_
  have HLEN:=hid (show out.length=Nl6 by have:=HROW.out.1;rw [ζx]at this;omega)
  have hN:Nl6≤4000000:=by
   have h1:=ζ49 HOUT.out
   have h2:=HLEN.out;omega
  obtain⟨ZG,hZG⟩: ∃ZG:Nat→Prop,ZG=fun k=>Z k∧¬(W.heap.size≤k∧k<w2.heap.size):=⟨_,rfl⟩
  have HWW:=hid (HA.out.trans (HW2.out.mono HA.out.size))
  have HZH:=hid (show ∀k,w2.heap.size≤k→ZG k from by subst hZG;exact fun k h=>⟨HN.out k (by have h1:=HW.out.size;have h2:=HWW.out.size;omega),fun e=>by omega⟩)
  have HZG:=hid (show (∀k,¬Z k→¬ZG k)∧(∀k,W.heap.size≤k→k<w2.heap.size→¬ZG k)∧(∀k,ZG k→Z k)∧(∀(wa wb:World) (G:Nat→Prop),Off Z wa wb→(∀k,G k→wb.heap[k]? =wa.heap[k]?)→(∀k,W.heap.size≤k→k<w2.heap.size→G k)→Off ZG wa wb)from by
   subst hZG
   refine⟨fun k h e=>h e.1,fun k h1 h2 e=>e.2 ⟨h1,h2⟩,fun k e=>e.1,fun wa wb G ho hG hr=>⟨ho.os,ho.tape,ho.output,ho.size,fun k hk hn=> ?_⟩⟩
   by_cases hz:Z k
   ·exact hG k (hr k (Decidable.byContradiction fun h1=>hn ⟨hz,fun h=>h1 h.1⟩) (Decidable.byContradiction fun h1=>hn ⟨hz,fun h=>h1 h.2⟩))
   ·exact ho.block k hk hz)
  have HJ0:=hid (HGR.out _ _ _ _ H00.out (Off.of (F:=fun _=>False) HWW.out))
  have HGB:=hid (show W.heap.size≤gy∧gy<w2.heap.size from by have h1:=HGY.out;have h2:=HBY.out.sz;have h3:=HW2.out.size;omega)
  have HBY2:=hid (HBY.out.keep HW2.out)
  have HBT2:=hid ((HBT.out.keep HW1.out).keep HW2.out)
  have hfn: ∀f,Fence.wide.fn f:=fun _=>trivial
  have hdd: ∀k:Nat,(Fence.wide.depth.isSome=true→1≤k):=fun k h=>by cases h
  clear hZG
  gi_wp2_with fail
  gi_loopw [19] (fun u wr=>∃(k:Nat) (G:Nat→Prop),u= .int .i64 (k:Int)∧k≤Nl6∧Hid (ItIn J ZG W.heap.size w2.heap.size w2 G (opnY (out.take k) tq) wr)) (fun u _=>(Nl6-intOf u).toNat)
  case atStart=>exact⟨0,madeG (fun _=>False) W w2,rfl,by omega,hid ⟨(by rw [List.take_zero];exact HJ0.out),fun k h1 h2=> .inr ⟨h1,h2⟩,Off.refl _ _,fun k hk=>hk.elim (fun h=>h.elim) (·.2)⟩⟩
  case round=>
   obtain⟨k,G,rfl,hk,HI⟩:=hrel
   clear HJ0
   by_cases hlt:k<Nl6
   ·obtain⟨g,⟨y1,y2,y3⟩,rfl,hx,k0,k1,k2,k3,k4⟩:=ζ2u (HI.out.o.own HROW.out fun k hk=>HZG.out.2.1 k (by have h1:=ζ1c HROW.out k hk;have h2:=HA.out.size;omega) (ζk HROW.out hk)) hlt
    have HX:=hid hx
    have hal:=(Below.refl wr.heap.size wr).alloc (Nat.le_refl _) (.cells #[.int .i64 y1,.int .i64 y2,.int .i64 (numP y3),.int .i64 (sinP y3),.int .i64 (valP y3)] 128)
    have hbx:=Blk.new wr #[.int .i64 y1,.int .i64 y2,.int .i64 (numP y3),.int .i64 (sinP y3),.int .i64 (valP y3)] 128
    have hby:=(HI.out.o.blk HBY2.out (HZG.out.2.1 _ HGB.out.1 HGB.out.2)).keep hal
    have hbt:=(HI.out.o.blk HBT2.out (HZG.out.1 _ HZ.out.2.2.2.1)).keep hal
    have HI1:=hid (HI.out.grow HGR.out hal)
    have HBYX:=hid hby
    have z0:=hbx.get 0 rfl
    have z1:=hbx.get 1 rfl
    have z2:=hbx.get 2 rfl
    have z3:=hbx.get 3 rfl
    have z4:=hbx.get 4 rfl
    have yy:=hby.get 0 rfl
    have tt:=hbt.get 0 rfl
    obtain⟨gx,hgx⟩: ∃k,wr.heap.size=k:=⟨_,rfl⟩
    rw [hgx]at z0 z1 z2 z3 z4
    have HGX:=hid hgx
    obtain⟨wx,hwx⟩: ∃wx,wr.alloc (.cells #[.int .i64 y1,.int .i64 y2,.int .i64 (numP y3),.int .i64 (sinP y3),.int .i64 (valP y3)] 128)=wx:=⟨_,rfl⟩
    rw [hwx]at z0 z1 z2 z3 z4 yy tt HI1 HBYX
    clear hx hal hbx hby hbt hgx
    by_cases p1:0<numP y3
    ·have d1:decide (numP y3 > 0)=true:=decide_eq_true p1
     by_cases p2:sinP y3≤tq
     ·have d2:decide (sinP y3≤tq)=true:=decide_eq_true p2
      have d1':decide (0<numP y3)=true:=decide_eq_true p1
      have HD:=hid (show opnB tq (y1,y2,y3)=true from by unfold opnB;rw [d1',d2];rfl)
      have HQ:=hid (opnY_yes (tq:=tq) HX.out HD.out)
      clear p1 p2 d1'
      gi_wp2_with fail
      rw [HGX.out]
      clear hwx
      refine wpIn_onN ?_
      gi_region_with (first
       |(gi_at_call 69
         refine((callsIn_wide (n:=1)).2 (rectof_any y1 y2 (numP y3) (sinP y3) (valP y3) 0 _)).mono ?_
         rintro e w4 ⟨rfl,b4⟩
         have HI4:=hid (HI1.out.grow HGR.out (Below.trans (Below.refl _ _).drew b4))
         have yy4:=(HBYX.out.keep (Below.trans (Below.refl _ _).drew b4)).get 0 rfl
         clear b4
         obtain⟨fn,tmps,assign,body,hy,hR⟩:=HYD.out _ _ (rectI (y1,y2,y3) 0) w4 HI4.out.j (HLY.out k _ HX.out (by exact HD.out)) (HLP.out k _ HX.out (by exact HD.out))
         dsimp only [rectI,rnV]at hy)
       |(refine hR.mono ?_
         clear hR hy
         rintro e W3 hE
         obtain⟨bb,rfl,hE2⟩:=hE
         have HE2:=hid hE2
         clear hE2))
      all_goals
       refine onN_n ?_
       cases bb
       ·have HX3:=hid (HE2.out.2.1 rfl)
        clear HE2
        gi_wp2_with fail
        refine⟨_,results_none rfl _ _ _,⟨_,rfl⟩,.inr ⟨_,_,?_,HX3.out⟩⟩
        rw [←HQ.out,←HALL.out]
        exact opnY_pre.trans (List.prefix_append _ _)
       ·have HI5:=hid (show ItIn J ZG W.heap.size w2.heap.size w2 _ _ W3 from by
         exact HI4.out.told HZG.out.2.2.2 (HE2.out.1 rfl) HE2.out.2.2.1 HE2.out.2.2.2)
        clear HE2
        gi_wp2_with fail
        go_roundw
        case rel=>exact⟨k+1,_,rfl,by omega,(by rw [HQ.out];exact HI5)⟩
        case measure=>simp only [intOf];omega
     ·have d2:decide (sinP y3≤tq)=false:=decide_eq_false p2
      have HQ:=hid (opnY_no (tq:=tq) HX.out (by unfold opnB;rw [d2];simp))
      clear p1 p2
      gi_wp2_with fail
      rw [HGX.out]
      clear hwx
      refine wpIn_onN ?_
      first | (gi_region_with (fail)) | fail
      all_goals
       refine onN_n ?_
       gi_wp2_with fail
       go_roundw
       case rel=>exact⟨k+1,madeG (madeG G wr wx) wx wx.drew,rfl,by omega,(by rw [HQ.out];exact hid (HI1.out.grow HGR.out (Below.refl _ _).drew))⟩
       case measure=>simp only [intOf];omega
    ·have d1:decide (numP y3 > 0)=false:=decide_eq_false p1
     have d1':decide (0<numP y3)=false:=decide_eq_false p1
     have HQ:=hid (opnY_no (tq:=tq) HX.out (by unfold opnB;rw [decide_eq_false p1];simp))
     clear p1
     gi_wp2_with fail
     rw [HGX.out]
     clear hwx
     refine wpIn_onN ?_
     first | (gi_region_with (fail)) | fail
     all_goals
      refine onN_n ?_
      gi_wp2_with fail
      go_roundw
      case rel=>exact⟨k+1,madeG (madeG G wr wx) wx wx.drew,rfl,by omega,(by rw [HQ.out];exact hid (HI1.out.grow HGR.out (Below.refl _ _).drew))⟩
      case measure=>simp only [intOf];omega
   ·obtain rfl:k=Nl6:=by omega
    have HI2:=hid (show ItIn J ZG W.heap.size w2.heap.size w2 G (opnY out tq) wr from by have h1:=HI.out;rwa [List.take_of_length_le (by rw [HLEN.out];exact Nat.le_refl _)]at h1)
    obtain⟨⟨A3,n3,cap3⟩,hp3⟩:=kpT.keepB HP1.out HW2.out
    have HP3:=hid hp3
    have HKW:=hid (fun(wv:World) (ho:Off ZG w2 wv)=>show (packT (kpTs K.toRepOk 86 134 Sk ⟨A3,n3,cap3⟩)).P wv F from(packT (kpTs K.toRepOk 86 134 Sk ⟨A3,n3,cap3⟩)).keep HP3.out ho fun k hk=>HZG.out.1 _ (HZ.out.1 k hk))
    have hb3:Blk wr Sk.g #[.int .i64 Sk.la,.int .i64 Sk.n,Sk.q,.slice A3 n3 cap3]:=(HKW.out _ HI2.out.o).2.b 1 rfl
    have q0:=hb3.get 3 rfl
    have q1:=(HI2.out.o.blk (HBK1.out.keep HW2.out) (HZG.out.1 _ HZ.out.2.1)).get 0 rfl
    have HL3:=hid (show Sk.cs.length=n3 from by have h0:wr.ownsRow 0 134 1 (.slice A3 n3 cap3) n3 (ptrsC Sk.cs):=(HKW.out _ HI2.out.o).2.row 2 rfl;have h1:=h0.1;rw [ζ2z]at h1;omega)
    have hN3:n3≤100000:=by rw [←HL3.out];exact HCL.out
    clear hb3 HI hp3
    gi_wp2_with fail
    refine wpIn_wide.2 ?_
    obtain⟨R,hR⟩: ∃R:Act→World→Prop,R=(fun ac wv=>∃(i:Nat) (Ds:List Nat) (G:Nat→Prop) (v9 v48 v49 v50 v51 v52 v53 v54 v55 v56 v57 v58 v59 v60 v61 v62 v63 v64 v65 v66 v67 v68 v96:Value),ac= { tmps:=(.func (.yield l) #[] #[] :: .pointer (some ⟨gk,0,none⟩) :: .pointer (some ⟨gd,0,none⟩) :: .pointer (some ⟨gt,0,none⟩) :: .pointer (some ⟨gf,0,none⟩) :: .pointer (some ⟨gy,0,none⟩) :: undef :: u7 :: undef :: v9 :: undef :: undef :: .pointer (some ⟨Sk.g,0,none⟩) :: .pointer (some ⟨Sk.g,0,none⟩) :: .pointer (some ⟨Sk.g,2,none⟩) :: Sk.q :: .agg #[.int .i64 a,.int .i64 b] :: .slice Av5 k cv5 :: .int .i64 (k:Int) :: .int .i64 (k:Int) :: .bool false :: u21 :: u22 :: u23 :: u24 :: u25 :: u26 :: u27 :: u28 :: u29 :: u30 :: u31 :: u32 :: u33 :: u34 :: u35 :: u36 :: u37 :: u38 :: u39 :: u40 :: u41 :: .pointer (some ⟨Sk.g,0,none⟩) :: .pointer (some ⟨Sk.g,0,none⟩) :: .pointer (some ⟨Sk.g,3,none⟩) :: .slice A3 n3 cap3 :: .int .i64 (n3:Int) :: .int .i64 (i:Int) :: v48 :: v49 :: v50 :: v51 :: v52 :: v53 :: v54 :: v55 :: v56 :: v57 :: v58 :: v59 :: v60 :: v61 :: v62 :: v63 :: v64 :: v65 :: v66 :: v67 :: v68 :: undef :: undef :: undef :: undef :: undef :: undef :: undef :: undef :: undef :: undef :: undef :: undef :: undef :: undef :: undef :: undef :: undef :: undef :: undef :: undef :: undef :: undef :: undef :: undef :: undef :: undef :: undef :: v96 :: []).toArray,defers:=Ds.map markD }∧i≤n3∧ItIn J ZG W.heap.size w2.heap.size w2 G (opnY out tq++(Sk.cs.take i).flatMap fun c=>ckY c a b fq tq) wv∧Marks 0 Ds wv∧∀D∈Ds,G D):=⟨_,rfl⟩
    have HR:=hid hR
    clear hR
    refine wp_loop R (fun ac _=>(n3-intOf (ac.tmps.getD 47 undef)).toNat) ?start ?round
    case start=>
     rw [HR.out]
     refine⟨0,[],G,_,_,_,_,_,_,_,_,_,_,_,_,_,_,_,_,_,_,_,_,_,_,_,rfl,by omega,?_,Marks.nil _ _,fun D h=>absurd h List.not_mem_nil⟩
     rw [List.take_zero,List.flatMap_nil,List.append_nil];exact HI2.out
    case round=>
     intro ac ws hrel
     rw [HR.out]at hrel
     obtain⟨i,Ds,G2,v9,v48,v49,v50,v51,v52,v53,v54,v55,v56,v57,v58,v59,v60,v61,v62,v63,v64,v65,v66,v67,v68,v96,rfl,hi,x1,x2,x3⟩:=hrel
     have HI:=hid x1
     have HM:=hid x2
     have HDG:=hid x3
     clear x1 x2 x3 HI2 q0 q1
     rcases Nat.lt_or_ge i n3 with h4 | h4
     ·obtain⟨c,hc⟩: ∃c,Sk.cs[i]? =some c:=⟨_,List.getElem?_eq_getElem (by rw [HL3.out];exact h4)⟩
      have HC:=hid hc
      have HCM:=hid (List.mem_of_getElem? hc)
      obtain⟨⟨Ac,nc,cc⟩,Fc,hpc,hFc⟩:=kp_ck (HKW.out _ (Off.refl _ _)) hc
      have HCW:=hid (fun(wv:World) (ho:Off ZG w2 wv)=>show (packT (ckTs K.toRepOk 86 c ⟨Ac,nc,cc⟩)).P wv Fc from(packT (ckTs K.toRepOk 86 c ⟨Ac,nc,cc⟩)).keep hpc ho fun k hk=>HZG.out.1 _ (HZ.out.1 k (hFc k hk)))
      have HFC:=hid hFc
      have HTK:=hid (show (Sk.cs.take (i+1)).flatMap (fun c=>ckY c a b fq tq)=(Sk.cs.take i).flatMap (fun c=>ckY c a b fq tq)++ckY c a b fq tq from by
       rw [List.take_add_one,HC.out,List.flatMap_append];simp)
      obtain⟨gp,rfl,kp⟩:=ζ4d (show ws.ownsRow 0 134 1 (.slice A3 n3 cap3) n3 (ptrsC Sk.cs)from(HKW.out _ HI.out.o).2.row 2 rfl) (ptrsC_at hc)
      have d0:decide ((i:Int)<(n3:Int))=true:=decide_eq_true (by omega)
      have hal:=(Below.refl ws.heap.size ws).alloc (Nat.le_refl _) (.cells #[.pointer (some ⟨c.g,0,none⟩)] 134)
      have HI7:=hid (HI.out.grow HGR.out hal)
      have HBX7:=hid (Blk.new ws #[.pointer (some ⟨c.g,0,none⟩)] 134)
      clear hc hpc hFc
      go_wp2_with fail
      obtain⟨bx,hbx⟩: ∃k,ws.heap.size=k:=⟨_,rfl⟩
      rw [hbx]at HBX7
      have HBXL:=hid hbx
      obtain⟨w7,hw7⟩: ∃w7,ws.alloc (.cells #[.pointer (some ⟨c.g,0,none⟩)] 134)=w7:=⟨_,rfl⟩
      rw [hw7]at HBX7 HI7
      rw [hbx,hw7]
      have HAL7:=hid (hw7▸hal)
      clear hw7 hbx hal kp
      have HBC7:=hid (show Blk w7 c.g #[.slice Ac nc cc,c.q,.int .i64 c.s0]from(HCW.out _ HI7.out.o).2.b 0 rfl)
      have HBT7:=hid (HI7.out.o.blk HBT2.out (HZG.out.1 _ HZ.out.2.2.2.1))
      have HBF7:=hid (HI7.out.o.blk ((HBF.out.keep HW1.out).keep HW2.out) (HZG.out.1 _ HZ.out.2.2.2.2))
      have HBD7:=hid (HI7.out.o.blk (HBD1.out.keep HW2.out) (HZG.out.1 _ HZ.out.2.2.1))
      obtain⟨r,hr⟩: ∃r,c.rs.getLast? =some r:=by
       cases h:c.rs.getLast? with
       | none=>exact absurd (List.getLast?_eq_none_iff.1 h) (HCK.out c HCM.out).ne
       | some r=>exact⟨r,rfl⟩
      have HR1:=hid hr
      have HUN:=hid (fun(wv:World) (hw:Ext w7 wv)=>until_any K.toRepOk c wv Fc ⟨⟨Ac,nc,cc⟩,HCW.out _ (HI7.out.o.later hw)⟩ r HR1.out (by have:=(HCK.out c HCM.out).len;omega))
      clear hr
      by_cases p1:tq<c.s0
      ·have d1:decide (c.s0 > tq)=true:=decide_eq_true p1
       have d1':decide (tq<c.s0)=true:=decide_eq_true p1
       have HE:=hid (ckY_skip (HCK.out c HCM.out).tookCk0 (a:=a) (b:=b) (frm:=fq) (tq:=tq) (.inl p1))
       clear p1
       refine ζ4 12 (Ext w7)
        (fun iV=>List.getD [VE (.pointer (some ⟨c.g,0,none⟩)),VE (.pointer (some ⟨c.g,0,none⟩)),VE (.pointer (some ⟨c.g,2,none⟩)),VE (.int .i64 c.s0),VE (.int .i64 tq),VE (.bool true),VE (.bool true),VE (undef),VE (undef),VE (undef),VE (undef),VE (.bool true)] iV (fun _ _=>False)) [] [1,2,5,6,7,8,9,10,11] (by kernel_rfl) (by kernel_rfl) (Ext.start w7) (fun _ _ h hb=>h.grow hb)
        stA ⟨?_,?_,?_,?_,?_,?_,?_,?_,?_,?_,?_,?_,trivial⟩ ?_
       ·exact rL [9] fun hw=>(HBX7.out.keep hw).get 0 rfl
       ·exact rU []
       ·exact rU []
       ·exact rL [] fun hw=>(HBC7.out.keep hw).get 2 rfl
       ·exact rL [3] fun hw=>(HBT7.out.keep hw).get 0 rfl
       ·exact rU []
       ·exact rU []
       ·exact rS
       ·exact rS
       ·exact rS
       ·exact rS
       ·exact rU []
       ·intro wz hw
        iterate 12 rintro _ rfl _
        simp only [zA]
        change wpList Tryz.prog _ _ _ _ wz
        go_wp2_with fail
        refine ζ2 ?_
        go_wp2_with fail
        rw [HR.out]
        refine⟨⟨i+1,Ds,madeG (madeG G2 ws w7) w7 wz,_,_,_,_,_,_,_,_,_,_,_,_,_,_,_,_,_,_,_,_,_,_,_,rfl,by omega,?_,HM.out.later (HAL7.out.trans (hw.mono HAL7.out.size)),fun D hD=>Or.inl (Or.inl (HDG.out D hD))⟩,?_⟩
        ·rw [HTK.out,HE.out,List.append_nil]
         exact HI7.out.grow HGR.out hw
        ·simp only [intOf];simp;omega
      ·have d1:decide (c.s0 > tq)=false:=decide_eq_false p1
       have d1':decide (tq<c.s0)=false:=decide_eq_false p1
       clear p1
       by_cases p2:r.u≤fq
       ·have d2:decide (r.u≤fq)=true:=decide_eq_true p2
        have HE:=hid (ckY_skip (HCK.out c HCM.out).tookCk0 (a:=a) (b:=b) (frm:=fq) (tq:=tq) (.inr fun x hx=>by
         have h1:=last_most (HUP.out c HCM.out) HR1.out x hx
         omega))
        clear p2
        refine ζ4 12 (Ext w7)
         (fun iV=>List.getD [VE (.pointer (some ⟨c.g,0,none⟩)),VE (.pointer (some ⟨c.g,0,none⟩)),VE (.pointer (some ⟨c.g,2,none⟩)),VE (.int .i64 c.s0),VE (.int .i64 tq),VE (.bool false),VE (.bool false),VE (.pointer (some ⟨c.g,0,none⟩)),VE (.int .i64 r.u),VE (.int .i64 fq),VE (.bool true),VE (.bool true)] iV (fun _ _=>False)) [] [1,2,5,6,10,11] (by kernel_rfl) (by kernel_rfl) (Ext.start w7) (fun _ _ h hb=>h.grow hb)
         stA ⟨?_,?_,?_,?_,?_,?_,?_,?_,?_,?_,?_,?_,trivial⟩ ?_
        ·exact rL [9] fun hw=>(HBX7.out.keep hw).get 0 rfl
        ·exact rU []
        ·exact rU []
        ·exact rL [] fun hw=>(HBC7.out.keep hw).get 2 rfl
        ·exact rL [3] fun hw=>(HBT7.out.keep hw).get 0 rfl
        ·exact rU []
        ·exact rU []
        ·intro ev wv hE hw hd
         have kx0:=(HBX7.out.keep hw).get 0 rfl
         exact rM [9] hE hd
        ·intro ev wv hE hw hd
         refine rC (f:=73) (args:= #[.pointer (some ⟨c.g,0,none⟩)]) [] hE hd (HUN.out _ hw) ?_
         rintro e w' ⟨rfl,hb⟩
         exact⟨_,rfl,hb,rfl,fun h=>by cases h⟩
        ·intro ev wv hE hw hd
         have kx0:=(HBF7.out.keep hw).get 0 rfl
         exact rM [4] hE hd
        ·exact rG []
        ·exact rU []
        ·intro wz hw
         iterate 12 rintro _ rfl _
         simp only [zA]
         change wpList Tryz.prog _ _ _ _ wz
         go_wp2_with fail
         refine ζ2 ?_
         go_wp2_with fail
         rw [HR.out]
         refine⟨⟨i+1,Ds,madeG (madeG G2 ws w7) w7 wz,_,_,_,_,_,_,_,_,_,_,_,_,_,_,_,_,_,_,_,_,_,_,_,rfl,by omega,?_,HM.out.later (HAL7.out.trans (hw.mono HAL7.out.size)),fun D hD=>Or.inl (Or.inl (HDG.out D hD))⟩,?_⟩
         ·rw [HTK.out,HE.out,List.append_nil]
          exact HI7.out.grow HGR.out hw
         ·simp only [intOf];simp;omega
       ·have d2:decide (r.u≤fq)=false:=decide_eq_false p2
        clear p2
        refine ζ4 12 (Ext w7)
         (fun iV=>List.getD [VE (.pointer (some ⟨c.g,0,none⟩)),VE (.pointer (some ⟨c.g,0,none⟩)),VE (.pointer (some ⟨c.g,2,none⟩)),VE (.int .i64 c.s0),VE (.int .i64 tq),VE (.bool false),VE (.bool false),VE (.pointer (some ⟨c.g,0,none⟩)),VE (.int .i64 r.u),VE (.int .i64 fq),VE (.bool false),VE (.bool false)] iV (fun _ _=>False)) [] [1,2,5,6,10,11] (by kernel_rfl) (by kernel_rfl) (Ext.start w7) (fun _ _ h hb=>h.grow hb)
         stA ⟨?_,?_,?_,?_,?_,?_,?_,?_,?_,?_,?_,?_,trivial⟩ ?_
        ·exact rL [9] fun hw=>(HBX7.out.keep hw).get 0 rfl
        ·exact rU []
        ·exact rU []
        ·exact rL [] fun hw=>(HBC7.out.keep hw).get 2 rfl
        ·exact rL [3] fun hw=>(HBT7.out.keep hw).get 0 rfl
        ·exact rU []
        ·exact rU []
        ·intro ev wv hE hw hd
         have kx0:=(HBX7.out.keep hw).get 0 rfl
         exact rM [9] hE hd
        ·intro ev wv hE hw hd
         refine rC (f:=73) (args:= #[.pointer (some ⟨c.g,0,none⟩)]) [] hE hd (HUN.out _ hw) ?_
         rintro e w' ⟨rfl,hb⟩
         exact⟨_,rfl,hb,rfl,fun h=>by cases h⟩
        ·intro ev wv hE hw hd
         have kx0:=(HBF7.out.keep hw).get 0 rfl
         exact rM [4] hE hd
        ·exact rG []
        ·exact rU []
        ·intro wz hw
         iterate 12 rintro _ rfl _
         simp only [zA]
         change wpList Tryz.prog _ _ _ _ wz
         go_wp2_with fail
         refine ζ2 ?_
         go_wp2_with fail
         have HI8:=hid (HI7.out.grow HGR.out hw)
         have HBX8:=hid (HBX7.out.keep hw)
         have HBC8:=hid (HBC7.out.keep hw)
         have HBD8:=hid (HBD7.out.keep hw)
         have HGD8:=hid (show ∀D∈Ds,madeG (madeG G2 ws w7) w7 wz D from fun D hD=>Or.inl (Or.inl (HDG.out D hD)))
         have HM8:=hid (HM.out.later (HAL7.out.trans (hw.mono HAL7.out.size)))
         have HGB8:=hid (show madeG (madeG G2 ws w7) w7 wz bx from Or.inl (Or.inr ⟨by rw [HBXL.out];exact Nat.le_refl _,HBX7.out.sz⟩))
         obtain⟨G8,hG8⟩: ∃G8,madeG (madeG G2 ws w7) w7 wz=G8:=⟨_,rfl⟩
         rw [hG8]at HI8 HGD8 HGB8
         obtain⟨Ft,hft,hFt,_⟩:=(HCW.out _ HI8.out.o).2.get (i:=2) rfl
         have HFT:=hid (show (trT K.toRepOk c.q 250 c.l).P wz Ft from hft)
         have HFF:=hid (show ∀k,Ft k→¬Z k from fun k hk=>by
          have h1:=(trT K.toRepOk c.q 250 c.l).lt hft k hk
          exact HZ.out.1 k (HFC.out k ((hFt k hk).elim id fun h=>absurd h1 (by omega))))
         have HOKL:=hid (show c.l.length≤1000∧∀y∈c.l,-9223372036854775808≤y.1∧y.1<y.2.1 from⟨by have h1:=(HCK.out c HCM.out).len;have h2:=(HCK.out c HCM.out).ll;omega,fun y hy=>by
          obtain⟨iy,ry,_,h1,rfl⟩:=(HCK.out c HCM.out).tookCk0.item hy
          have h2:=HRS.out c HCM.out ry (List.mem_of_getElem? h1)
          exact⟨by show -9223372036854775808≤ry.a;omega,h2.2⟩⟩)
         obtain⟨Q2,hQ2⟩: ∃Q2:Value→World→Prop,Q2=fun vx wx=>∃(gg:Nat) (ll:Array Value),vx= .func (.func gg) #[] ll∧Below wz.heap.size wz wx∧(∀args w,(callFunc gg args).run Tryz.prog w= .ok (.enter gg args) w)∧∀Zq:Nat→Prop,(∀k,wx.heap.size≤k→Zq k)→(∀k,Ft k→¬Zq k)→(∀k,wz.heap.size≤k→k<wx.heap.size→¬Zq k)→SeqOff Tryz.prog gg ll (fun x:It=> #[itV x]) Zq (fun ys=>ys=c.l.filter (overB a b)) (fun pre=>pre <+: c.l.filter (overB a b)) (c.l.filter (overB a b)).length wx:=⟨_,rfl⟩
         have HQ2:=hid hQ2
         clear hQ2 hft hFt hG8 hw HUN HR1 d1 d1' d2 d0
         refine ζ3 6 (fun S val wx=>VVs 6 [(· = .pointer (some ⟨c.g,0,none⟩)),(· = .pointer (some ⟨c.g,0,none⟩)),(· = .pointer (some ⟨c.g,1,none⟩)),(· =c.q),(· = .agg #[.int .i64 a,.int .i64 b]),(fun vv=>∃fv lv,vv= .func (.func fv) #[] lv)] S val∧Clo [[],[0],[1],[2],[],[3,4]] S∧((S 5=false→Below wz.heap.size wz wx)∧(S 5=true→Q2 (val 5) wx))) [1,2] (by kernel_rfl) (by kernel_rfl) ⟨VVs.start,Clo.start,⟨fun _=>(Below.refl _ _).drew,fun h=>by cases h⟩⟩ ⟨?_,?_,?_,?_,?_,?_,trivial⟩ ?_
         ·refine qM fun ev wv S val hE hV hK hw hS hd=> ?_
          have s5:=hK.no hS 5 [3,2,1,0]
          have hwb:=hw.1 s5
          have kx0:=((HBX8.out).keep hwb).get 0 rfl
          exact qE [9] hE hV hd
         ·exact qU []
         ·exact qU []
         ·refine qM fun ev wv S val hE hV hK hw hS hd=> ?_
          have s5:=hK.no hS 5 [3]
          have hwb:=hw.1 s5
          have kx0:=((HBC8.out).keep hwb).get 1 rfl
          exact qE [] hE hV hd
         ·refine qM fun ev wv S val hE hV hK hw hS hd=> ?_
          have s5:=hK.no hS 5 [4]
          have hwb:=hw.1 s5
          have kx0:=((HBD8.out).keep hwb).get 0 rfl
          have kx1:=((HBD8.out).keep hwb).get 1 rfl
          exact qE [2] hE hV hd
         ·refine qC fun ev wv S val hE hV hK hw hS hd=> ?_
          have hwb:=hw.1 hS
          refine qF (f:=74) (args:= #[c.q,.agg #[.int .i64 a,.int .i64 b]]) [] hE hV hd (K.all _ c.q Ft 250 c.l a b ((trT K.toRepOk c.q 250 c.l).keep HFT.out (Off.of (F:=fun _=>False) hwb) (fun _ _ e=>e)) HOKL.out.1 HOKL.out.2) ?_
          rintro e w' ⟨gg,ll,rfl,g1,g2,g3⟩
          exact⟨_,rfl,(⟨_,_,rfl⟩),⟨fun h=>absurd h (by simp [addS]),fun _=>(by simpa [addV]using(show Q2 (.func (.func gg) #[] ll) w' from(by rw [HQ2.out];exact⟨gg,ll,rfl,Below.trans hwb (Below.mono g1 hwb.size),g2,fun Zq z1 z2 z3=>g3 Zq z1 z2 (fun k h1 h2=>z3 k (Nat.le_trans hwb.size h1) h2)⟩)))⟩⟩
         ·rintro S val w6 hS ⟨hV,hK,hw⟩
          have e0:val 0= .pointer (some ⟨c.g,0,none⟩):=hV 0 (by decide) (hS 0 (by decide))
          have e1:val 1= .pointer (some ⟨c.g,0,none⟩):=hV 1 (by decide) (hS 1 (by decide))
          have e2:val 2= .pointer (some ⟨c.g,1,none⟩):=hV 2 (by decide) (hS 2 (by decide))
          have e3:val 3=c.q:=hV 3 (by decide) (hS 3 (by decide))
          have e4:val 4= .agg #[.int .i64 a,.int .i64 b]:=hV 4 (by decide) (hS 4 (by decide))
          obtain⟨fv5,lv5,e5⟩:=hV 5 (by decide) (hS 5 (by decide))
          refine finL hV hS ?_
          rintro v0 ⟨h0,-⟩-v1 ⟨h1,-⟩-v2 ⟨h2,-⟩-v3 ⟨h3,-⟩-v4 ⟨h4,-⟩-v5 ⟨h5,-⟩-
          simp only [zA]
          simp only [h0.trans e0,h1.trans e1,h2.trans e2,h3.trans e3,h4.trans e4,h5.trans e5]
          clear hV h0 e0 v0 h1 e1 v1 h2 e2 v2 h3 e3 v3 h4 e4 v4 h5 v5
          change wpList Tryz.prog _ _ _ _ w6
          have hq:=hw.2 (hS 5 (by decide))
          rw [e5,HQ2.out]at hq
          obtain⟨gg,ll,ev,b6,hent,hseq⟩:=hq
          injection ev with q1 q2 q3
          injection q1 with q4
          subst q4 q3
          have HI6:=hid (HI8.out.grow HGR.out b6)
          have HSQ0:=hid hseq
          have HEN:=hid hent
          have HBX6:=hid (HBX8.out.keep b6)
          have HM6:=hid (HM8.out.later b6)
          obtain⟨G6,hG6⟩: ∃G6,madeG G8 wz w6=G6:=⟨_,rfl⟩
          have HG6:=hid (show G6 bx∧(∀D∈Ds,G6 D)∧(∀k,wz.heap.size≤k→k<w6.heap.size→G6 k)from hG6▸⟨Or.inl HGB8.out,fun D hD=>Or.inl (HGD8.out D hD),fun k h1 h2=>Or.inr ⟨h1,h2⟩⟩)
          rw [hG6]at HI6
          have HS6:=hid (show w1.heap.size≤w6.heap.size∧w2.heap.size≤w6.heap.size from by have h1:=HW.out.size;have h2:=HWW.out.size;have h3:=HI6.out.o.size;omega)
          obtain⟨Z6,hZ6⟩: ∃Z6:Nat→Prop,Z6=fun k=>Z k∧¬G6 k:=⟨_,rfl⟩
          have HZ6:=hid (show (∀k,¬Z k→¬Z6 k)∧(∀k,G6 k→¬Z6 k)∧(∀k,w6.heap.size≤k→Z6 k)∧(∀k,w6.heap.size≤k→ZG k)∧(∀(wa wb:World) (G:Nat→Prop),Off Z wa wb→(∀k,G k→wb.heap[k]? =wa.heap[k]?)→(∀k,G6 k→G k)→Off Z6 wa wb)from by
           subst hZ6
           refine⟨fun k h e=>h e.1,fun k h e=>e.2 h,fun k h=>⟨HN.out k (by have:=HS6.out.1;omega),fun e=>by have:=HI6.out.lt k e;omega⟩,fun k h=>HZH.out k (by have:=HS6.out.2;omega),fun wa wb G ho hG hr=>⟨ho.os,ho.tape,ho.output,ho.size,fun k hk hn=> ?_⟩⟩
           by_cases hz:Z k
           ·exact hG k (hr k (Classical.byContradiction fun h1=>hn ⟨hz,h1⟩))
           ·exact ho.block k hk hz)
          have HSQ:=hid (HSQ0.out Z6 HZ6.out.2.2.1 (fun k hk=>HZ6.out.1 k (HFF.out k hk)) (fun k h1 h2=>HZ6.out.2.1 k (HG6.out.2.2 k h1 h2)))
          clear hw hS hK e5 val S hG6 hZ6 hseq hent b6 HSQ0 HQ2
          refine ζ2 ?_
          go_wp2_with fail
          obtain⟨BASE,hBASE⟩: ∃BASE,(opnY out tq++(Sk.cs.take i).flatMap fun c=>ckY c a b fq tq)=BASE:=⟨_,rfl⟩
          have HBASE:=hid hBASE
          rw [hBASE]at HI6
          have HTP:=hid (fun(pl:ItL) (hp:pl <+: c.l.filter (overB a b))=>show BASE++pl.flatMap (itY c fq tq) <+: Y from by
           rw [←HALL.out,←HBASE.out];exact told_pre HC.out hp)
          refine wp_range_mid3 (fun D Wv=>D=w6.heap.size∧Wv.heap[D]? =some (.deferred (some []))∧∃G',InR J ZG Z6 W.heap.size w2.heap.size w2 w6 G6 G' (BASE++ckY c a b fq tq) Wv) (fun D Wv=>D=w6.heap.size∧Wv.heap[D]? =some (.deferred (some []))∧StR Jx Y w6 Ds Wv) ?loop ?rest ?left
          case loop=>
           refine ζ3u (gf:=fv5) (lb:=lv5) rfl HEN.out HZ6.out.2.2.1 HSQ.out (fun _=>rfl)
            (fun G' (pre:ItL) Wv=>InR J ZG Z6 W.heap.size w2.heap.size w2 w6 G6 G' (BASE++pre.flatMap (itY c fq tq)) Wv) (fun cd _ Wv=>cd= .ret∧StR Jx Y w6 Ds Wv)
            (fun G' pre Wa Wb h ho=>h.turn HGR.out HZ6.out.2.2.2.1 HZ6.out.2.2.1 ho fun k _ hk=>Or.inl hk)
            (fun G' s Wv l o o' h h1 h2 h3 h4=>(h.turn HGR.out HZ6.out.2.2.2.1 HZ6.out.2.2.1 (ζl (Z:=fun k=>k=l) o' rfl h3) (fun k _ e=>Or.inr ⟨e▸h1,e▸h2⟩)).sub fun k hk=>Or.inl hk)
            (fun cd s Wv l o o' h h1 h2 h3 h4=>⟨h.1,h.2.turn HGX.out o' h1 h2 h3⟩)
            ?start (fun x a' Wv=>∃Bx:Nat,Wv.heap[Bx]? =some (.cells #[.int .i64 x.1,.int .i64 x.2.1,.int .i64 x.2.2] 141 (0,0))∧a'= { tmps:=(.func (.yield l) #[] #[] :: .pointer (some ⟨gk,0,none⟩) :: .pointer (some ⟨gd,0,none⟩) :: .pointer (some ⟨gt,0,none⟩) :: .pointer (some ⟨gf,0,none⟩) :: .pointer (some ⟨gy,0,none⟩) :: undef :: u7 :: undef :: .pointer (some ⟨bx,0,none⟩) :: .pointer (some ⟨Bx,0,none⟩) :: undef :: .pointer (some ⟨Sk.g,0,none⟩) :: .pointer (some ⟨Sk.g,0,none⟩) :: .pointer (some ⟨Sk.g,2,none⟩) :: Sk.q :: .agg #[.int .i64 a,.int .i64 b] :: .slice Av5 k cv5 :: .int .i64 (k:Int) :: .int .i64 (k:Int) :: .bool false :: u21 :: u22 :: u23 :: u24 :: u25 :: u26 :: u27 :: u28 :: u29 :: u30 :: u31 :: u32 :: u33 :: u34 :: u35 :: u36 :: u37 :: u38 :: u39 :: u40 :: u41 :: .pointer (some ⟨Sk.g,0,none⟩) :: .pointer (some ⟨Sk.g,0,none⟩) :: .pointer (some ⟨Sk.g,3,none⟩) :: .slice (some ⟨gp,0,none⟩) n3 cap3 :: .int .i64 (n3:Int) :: .int .i64 (i:Int) :: .bool true :: .pointer (some ⟨gp,i,none⟩) :: .pointer (some ⟨c.g,0,none⟩) :: .pointer (some ⟨c.g,0,none⟩) :: .pointer (some ⟨c.g,0,none⟩) :: .pointer (some ⟨c.g,2,none⟩) :: .int .i64 c.s0 :: .int .i64 tq :: .bool false :: .bool false :: .pointer (some ⟨c.g,0,none⟩) :: .int .i64 r.u :: .int .i64 fq :: .bool false :: .bool false :: .pointer (some ⟨c.g,0,none⟩) :: .pointer (some ⟨c.g,0,none⟩) :: .pointer (some ⟨c.g,1,none⟩) :: c.q :: .agg #[.int .i64 a,.int .i64 b] :: .func (.func fv5) #[] lv5 :: .agg #[.int .i64 x.1,.int .i64 x.2.1,.int .i64 x.2.2] :: undef :: undef :: undef :: undef :: undef :: undef :: undef :: undef :: undef :: undef :: undef :: undef :: undef :: undef :: undef :: undef :: undef :: undef :: undef :: undef :: undef :: undef :: undef :: undef :: undef :: undef :: v96 :: []).toArray,defers:= [] }) ?ax ?assign ?body ?done ?stop
           case start=>
            intro Wv hb
            exact⟨madeG G6 w6 Wv,(by rw [List.flatMap_nil,List.append_nil];exact HI6.out.grow HGR.out hb),fun k h=>h.elim,fun k hk=>Or.inl hk,fun l h1 h2 h3=>Or.inr ⟨h1,h3⟩,Off.of hb⟩
           case ax=>
            rintro x a' _ Wv l o o' ⟨Bx,h1,h2⟩ _ _ ho hc
            refine⟨Bx,(World.putObj_heap_other fun e=> ?_).trans h1,h2⟩
            subst e
            rw [h1]at ho;cases ho;cases hc
           case assign=>
            intro l' G' pre y Wv Kf hsz hi' hK
            obtain⟨y1,y2,y3⟩:=y
            gi_wp2
            have ha:Below Wv.heap.size Wv (Wv.alloc (.cells #[.int .i64 y1,.int .i64 y2,.int .i64 y3] 141)):=(Below.refl _ Wv).alloc (Nat.le_refl _) _
            exact hK _ _ (Keeps2.of ha.size (ha.block _ (by omega)) (ha.block _ (by omega))) ⟨Off.of ha,fun k hk=>ha.block k (hi'.lt hk)⟩ ((hi'.turn HGR.out HZ6.out.2.2.2.1 HZ6.out.2.2.1 (Off.of (F:=fun _=>False) ha) (fun _ _ h=>h.elim)).sub fun k hk=>Or.inl hk) ⟨Wv.heap.size,ζw Wv _,rfl⟩
           case body=>
            rintro l' G' pre ⟨y1,y2,y3⟩ a' Wv hl' hsz hi' ⟨Bx,hBx,rfl⟩ hpn hpr
            have hmem:(y1,y2,y3)∈c.l:=(List.mem_filter.1 (hpr.subset (by simp))).1
            obtain⟨ix,rr,e1,e2,e3⟩:=(HCK.out c HCM.out).tookCk0.item hmem
            injection e3 with q1 q2
            injection q2 with q2 q3
            subst q1 q2 q3
            have hrw:Wv.ownsRow 0 86 6 (.slice Ac nc cc) nc (ζ8 c.rs):=(HCW.out _ hi'.offs.1).2.row 1 rfl
            have hixn:ix<nc:=by have h1:=ζ1a hrw;have h2:=(List.getElem?_eq_some_iff.1 e2).1;omega
            have hnc:nc≤250:=by have h1:=ζ1a hrw;have h2:=(HCK.out c HCM.out).len;omega
            obtain⟨gr,rx,eA,hx,k0,k1,k2,k3,k4,k5⟩:=ζ1x hrw hixn
            obtain rfl:=Option.some.inj (hx.symm.trans e2)
            subst eA
            have hbc:Blk Wv c.g #[.slice (some ⟨gr,0,none⟩) nc cc,c.q,.int .i64 c.s0]:=(HCW.out _ hi'.offs.1).2.b 0 rfl
            have b0:=(hi'.offs.2.blk HBX6.out (HZ6.out.2.1 _ HG6.out.1)).get 0 rfl
            have c0:=hbc.get 0 rfl
            have hbi:Blk Wv Bx #[.int .i64 rx.a,.int .i64 rx.b,.int .i64 (ix:Int)]:=⟨_,hBx⟩
            have i2:=hbi.get 2 rfl
            have HIW:=hid hi'
            have HBTW:=hid (hi'.offs.1.blk HBT2.out (HZG.out.1 _ HZ.out.2.2.2.1))
            have HBFW:=hid (hi'.offs.1.blk ((HBF.out.keep HW1.out).keep HW2.out) (HZG.out.1 _ HZ.out.2.2.2.2))
            have HBYW:=hid (hi'.offs.1.blk HBY2.out (HZG.out.2.1 _ HGB.out.1 HGB.out.2))
            have HITY:=hid (show itY c fq tq (rx.a,rx.b,(ix:Int))=if inY fq tq rx=true then [rx]else []from itY_at e2)
            have HPR:=hid hpr
            have HSZ:=hid hsz
            clear hbc hbi hx hrw hmem e2 hi' hpr hpn hBx hl' hsz
            gi_wp2_with fail
            refine ζ1g 9 (fun S val wx=>VVs 9 [(· = .pointer (some ⟨c.g,0,none⟩)),(· = .pointer (some ⟨c.g,0,none⟩)),(· = .pointer (some ⟨c.g,0,none⟩)),(· = .slice (some ⟨gr,0,none⟩) nc cc),(· = .pointer (some ⟨Bx,2,none⟩)),(· = .int .i64 (ix:Int)),(· = .pointer (some ⟨gr,ix*6,none⟩)),(· = .agg #[.int .i64 rx.a,.int .i64 rx.b,.int .i64 rx.s,.int .i64 rx.u,.int .i64 rx.v,.int .i64 rx.m]),(· = .pointer (some ⟨Wv.heap.size,0,none⟩))] S val∧Clo [[],[0],[1],[2],[],[4],[3,5],[6],[]] S∧(Below Wv.heap.size Wv wx∧(S 8=false→wx=Wv.drew)∧(S 8=true→wx=Wv.drew.alloc (.cells #[.int .i64 0,.int .i64 0,.int .i64 0,.int .i64 0,.int .i64 0,.int .i64 0] 86)))) [1,2,4,6] (by kernel_rfl) (by kernel_rfl) (by kernel_rfl) ⟨VVs.start,Clo.start,⟨(Below.refl _ _).drew,fun _=>rfl,fun h=>by cases h⟩⟩ ⟨?_,?_,?_,?_,?_,?_,?_,?_,?_,trivial⟩ ?_
            ·exact qL [9] fun hw=>(Below.cell (p:=⟨bx,0,none⟩) hw.1 (Lib.lt_of_cell b0)).trans b0
            ·exact qU []
            ·exact qU []
            ·exact qL [] fun hw=>(Below.cell (p:=⟨c.g,0,none⟩) hw.1 (Lib.lt_of_cell c0)).trans c0
            ·exact qU [10]
            ·exact qL [] fun hw=>(Below.cell (p:=⟨Bx,2,none⟩) hw.1 (Lib.lt_of_cell i2)).trans i2
            ·exact qU []
            ·exact qL [] fun hw=>And.intro ((Below.cell (p:=⟨gr,ix*6,none⟩) hw.1 (Lib.lt_of_cell k0)).trans k0) (And.intro ((Below.cell (p:=⟨gr,ix*6+1,none⟩) hw.1 (Lib.lt_of_cell k1)).trans k1) (And.intro ((Below.cell (p:=⟨gr,ix*6+2,none⟩) hw.1 (Lib.lt_of_cell k2)).trans k2) (And.intro ((Below.cell (p:=⟨gr,ix*6+3,none⟩) hw.1 (Lib.lt_of_cell k3)).trans k3) (And.intro ((Below.cell (p:=⟨gr,ix*6+4,none⟩) hw.1 (Lib.lt_of_cell k4)).trans k4) ((Below.cell (p:=⟨gr,ix*6+5,none⟩) hw.1 (Lib.lt_of_cell k5)).trans k5)))))
            ·rintro ev wv S val hE ⟨hV,hK,hw⟩ hS hd
             have hwz:=hw.2.1 hS
             subst hwz
             refine ifw rfl (ifn rfl ?_)
             refine ζn (u:= .pointer (some ⟨Wv.heap.size,0,none⟩)) (w':=Wv.drew.alloc (.cells #[.int .i64 0,.int .i64 0,.int .i64 0,.int .i64 0,.int .i64 0,.int .i64 0] 86)) ?_ ⟨VVs.add hV rfl,ζi hK rfl hd,⟨(Below.refl Wv.heap.size Wv).drew.alloc (Nat.le_refl _) _,fun h=>absurd h (by simp [addS]),fun _=>rfl⟩⟩
             have e1:=hE.const;clear hE hd hw hS hV hK
             go_simp
            ·rintro S val wy hS ⟨hV,hK,hw⟩
             have e1:val 1= .pointer (some ⟨c.g,0,none⟩):=hV 1 (by decide) (hS 1 (by decide))
             have e2:val 2= .pointer (some ⟨c.g,0,none⟩):=hV 2 (by decide) (hS 2 (by decide))
             refine finL hV hS ?_
             rintro _ ⟨-,rfl⟩-v1 ⟨h1,-⟩-v2 ⟨h2,-⟩-
             iterate 6 rintro _ ⟨-,rfl⟩-
             simp only [zA]
             simp only [h1.trans e1,h2.trans e2]
             clear hV h1 e1 v1 h2 e2 v2
             change wpList Tryz.prog _ _ _ _ wy
             have hz:=hw.2.2 (hS 8 (by decide))
             subst hz
             clear hw hS hK val S
             go_wp2_with fail
             refine ζ3f ?_
             obtain⟨wv,hwv'⟩: ∃wv,(Wv.alloc (.cells #[.int .i64 rx.a,.int .i64 rx.b,.int .i64 rx.s,.int .i64 rx.u,.int .i64 rx.v,.int .i64 rx.m] 86)).drew=wv:=⟨_,rfl⟩
             rw [hwv']
             have hwv:=hwv'.symm
             clear hwv'
             have hb10:Below Wv.heap.size Wv wv:=by rw [hwv];exact((Below.refl Wv.heap.size Wv).alloc (Nat.le_refl _) _).drew
             have hgz:Blk wv Wv.heap.size #[.int .i64 rx.a,.int .i64 rx.b,.int .i64 rx.s,.int .i64 rx.u,.int .i64 rx.v,.int .i64 rx.m]:=by rw [hwv];exact(Blk.new Wv #[.int .i64 rx.a,.int .i64 rx.b,.int .i64 rx.s,.int .i64 rx.u,.int .i64 rx.v,.int .i64 rx.m] 86).keep (Below.refl _ _).drew
             obtain⟨gz,hgzz⟩: ∃k,Wv.heap.size=k:=⟨_,rfl⟩
             rw [hgzz]at hgz
             rw [hgzz]
             have z0:=hgz.get 0 rfl
             have z1:=hgz.get 1 rfl
             have z2:=hgz.get 2 rfl
             have z3:=hgz.get 3 rfl
             have z4:=hgz.get 4 rfl
             have z5:=hgz.get 5 rfl
             have tt:=(HBTW.out.keep hb10).get 0 rfl
             have ff:=(HBFW.out.keep hb10).get 0 rfl
             have yy:=(HBYW.out.keep hb10).get 0 rfl
             have HI10:=hid ((HIW.out.turn HGR.out HZ6.out.2.2.2.1 HZ6.out.2.2.1 (Off.of (F:=fun _=>False) hb10) (fun _ _ h=>h.elim)).sub fun k hk=>Or.inl hk)
             have HB10:=hid hb10
             clear hb10 hgz hwv hgzz b0 c0 i2 k0 k1 k2 k3 k4 k5
             by_cases p1:rx.s≤tq
             ·have d1:decide (rx.s≤tq)=true:=decide_eq_true p1
              by_cases p2:fq<rx.u
              ·have d2:decide (rx.u > fq)=true:=decide_eq_true p2
               have d2':decide (fq<rx.u)=true:=decide_eq_true p2
               have HQ:=hid (show (pre++ [(rx.a,rx.b,(ix:Int))]).flatMap (itY c fq tq)=pre.flatMap (itY c fq tq)++ [rx]from by
                rw [List.flatMap_append];simp only [List.flatMap_cons,List.flatMap_nil,List.append_nil];rw [HITY.out,if_pos (by unfold inY;rw [d1,d2'];rfl)])
               clear p1 p2
               obtain⟨Go,a1,b1,c1,d1x,e1x⟩:=HI10.out
               have HLT:=hid (show (BASE++pre.flatMap (itY c fq tq)).length<Y.length from by
                have h1:=(HTP.out _ HPR.out).length_le
                rw [HQ.out,←List.append_assoc,List.length_append]at h1
                simp at h1 ⊢;omega)
               have HLP2:=hid (show (BASE++pre.flatMap (itY c fq tq))++ [rx] <+: Y from by
                have h1:=HTP.out _ HPR.out
                rw [HQ.out,←List.append_assoc]at h1
                exact h1)
               have HA1:=hid a1
               have HB1:=hid b1
               have HC1:=hid c1
               have HD1:=hid d1x
               have HE1:=hid e1x
               clear a1 b1 c1 d1x e1x
               obtain⟨fn,tmps,assign,body,hy,hR⟩:=HYD.out Go _ rx wv HA1.out.j HLT.out HLP2.out
               dsimp only [rnV]at hy
               have hR2:=roundIn_in (n:=0) hR l'
               clear hR
               gi_wp2_with fail
               refine hR2.mono ?_
               clear hR2 hy
               rintro e W3 ⟨bb,rfl,f1,f2,f3,f4⟩
               have HF3:=hid f3
               have HF4:=hid f4
               have HSD:=hid (show w6.heap.size+2≤wv.heap.size from Nat.le_trans HSZ.out HB10.out.size)
               have HKD:=hid (show ∀k,w6.heap.size≤k→k<w6.heap.size+2→W3.heap[k]? =Wv.heap[k]? from fun k h1 h2=>(HF4.out k (HD1.out k h1 h2 (by have:=HSD.out;omega))).trans (HB10.out.block k (by have:=HSZ.out;omega)))
               have HK2:=hid (Keeps2.of (D:=w6.heap.size) (Nat.le_trans HB10.out.size HF3.out.size) (HKD.out _ (Nat.le_refl _) (by omega)) (HKD.out _ (by omega) (by omega)))
               clear f3 f4
               cases bb
               ·have HX3:=hid (f2 rfl)
                clear f1 f2
                gi_wp2_with fail
                refine⟨HK2.out,rfl,Go,_,HX3.out,?_,fun k h1 h2=>HD1.out k h1 h2 (by have:=HSD.out;omega),fun D hD=>⟨HC1.out D (HG6.out.2.1 D hD),HM6.out.lt hD⟩,HM6.out.keep fun D hD=>(HF4.out D (HC1.out D (HG6.out.2.1 D hD))).trans ((HB10.out.block D (by have h1:=HM6.out.lt hD;have h2:=HSZ.out;omega)).trans (HIW.out.offs.2.block D (HM6.out.lt hD) (HZ6.out.2.1 D (HG6.out.2.1 D hD))))⟩
                have h1:=HTP.out _ HPR.out
                rwa [HQ.out,←List.append_assoc]at h1
               ·have HX3:=hid (f1 rfl)
                clear f1 f2
                gi_wp2_with fail
                refine⟨HK2.out,⟨(Off.of HB10.out).trans (HZ6.out.2.2.2.2 _ _ Go HF3.out HF4.out HC1.out),fun k hk=>(HF4.out k (HB1.out k hk).1).trans (HB10.out.block k (HIW.out.lt hk))⟩,?_⟩
                show InR J ZG Z6 _ _ w2 w6 G6 G' (BASE++(pre++ [(rx.a,rx.b,(ix:Int))]).flatMap (itY c fq tq)) W3
                rw [HQ.out,←List.append_assoc]
                exact⟨Go,⟨HX3.out,HA1.out.g,HA1.out.o.trans (HZG.out.2.2.2 _ _ _ HF3.out HF4.out HA1.out.g),fun k hk=>Nat.lt_of_lt_of_le (HA1.out.lt k hk) HF3.out.size⟩,HB1.out,HC1.out,fun k h1 h2 _=>HD1.out k h1 h2 (by have:=HSD.out;omega),HE1.out.trans (HZ6.out.2.2.2.2 _ _ Go HF3.out HF4.out HC1.out)⟩
              ·have d2:decide (rx.u > fq)=false:=decide_eq_false p2
               have d2':decide (fq<rx.u)=false:=decide_eq_false p2
               have HQ:=hid (show (pre++ [(rx.a,rx.b,(ix:Int))]).flatMap (itY c fq tq)=pre.flatMap (itY c fq tq)from by
                rw [List.flatMap_append];simp only [List.flatMap_cons,List.flatMap_nil,List.append_nil];rw [HITY.out,if_neg (by unfold inY;rw [d1,d2'];simp),List.append_nil])
               clear p1 p2
               gi_wp2_with fail
               refine⟨Keeps2.of HB10.out.size (HB10.out.block _ (by have:=HSZ.out;omega)) (HB10.out.block _ (by have:=HSZ.out;omega)),⟨Off.of HB10.out,fun k hk=>HB10.out.block k (HIW.out.lt hk)⟩,(show InR J ZG Z6 _ _ w2 w6 G6 G' (BASE++(pre++ [(rx.a,rx.b,(ix:Int))]).flatMap (itY c fq tq)) wv from by rw [HQ.out];exact HI10.out)⟩
             ·have d1:decide (rx.s≤tq)=false:=decide_eq_false p1
              have HQ:=hid (show (pre++ [(rx.a,rx.b,(ix:Int))]).flatMap (itY c fq tq)=pre.flatMap (itY c fq tq)from by
               rw [List.flatMap_append];simp only [List.flatMap_cons,List.flatMap_nil,List.append_nil];rw [HITY.out,if_neg (by unfold inY;rw [d1];simp),List.append_nil])
              clear p1
              gi_wp2_with fail
              refine⟨Keeps2.of HB10.out.size (HB10.out.block _ (by have:=HSZ.out;omega)) (HB10.out.block _ (by have:=HSZ.out;omega)),⟨Off.of HB10.out,fun k hk=>HB10.out.block k (HIW.out.lt hk)⟩,(show InR J ZG Z6 _ _ w2 w6 G6 G' (BASE++(pre++ [(rx.a,rx.b,(ix:Int))]).flatMap (itY c fq tq)) wv from by rw [HQ.out];exact HI10.out)⟩
           case done=>
            rintro D G' xs Wv hD rfl hi' hK
            exact⟨D,rfl,Or.inl ⟨rfl,hD.symm,hK,G',hi'⟩⟩
           case stop=>
            rintro D cd pre Wv hD hp ⟨rfl,hs⟩ hK
            refine wp_ret ?_
            exact⟨D,rfl,Or.inr ⟨rfl,hD.symm,hK,hs⟩⟩
          case left=>
           rintro D Wv ⟨rfl,hK,Go,zs,h1,h2,h3,h4,h5⟩
           refine ζ13 (Z:=fun k=>k=w6.heap.size∨k∈Ds) (fun W9 hb=>⟨_,results_none rfl _ _ _,⟨_,rfl⟩,.inr ⟨zs,madeG Go Wv W9,h2,HGX.out _ _ _ _ h1 (hb.sub fun k _ hk=>hk.elim (fun e=>h3 k (by omega) (by omega)) fun hk=>(h4 k hk).1)⟩⟩) (w6.heap.size :: Ds) Wv (h5.cons (Nat.zero_le _) hK fun h=>absurd (h4 _ h).2 (Nat.lt_irrefl _)) (fun D hD=>by
            rcases List.mem_cons.1 hD with h | h
            ·exact Or.inl h
            ·exact Or.inr h) (Off.refl _ _)
          case rest=>
           rintro D Wv ⟨rfl,hK,G',Go,h1,h2,h3,h4,h5⟩
           have HK9:=hid hK
           have H1:=hid h1
           have H3:=hid h3
           have H4:=hid h4
           have H5:=hid h5
           clear hK h1 h2 h3 h4 h5
           go_wp2_with fail
           rw [HR.out]
           refine⟨⟨i+1,w6.heap.size :: Ds,Go,_,_,_,_,_,_,_,_,_,_,_,_,_,_,_,_,_,_,_,_,_,_,_,rfl,by omega,?_,?_,?_⟩,?_⟩
           ·rw [HTK.out,←List.append_assoc,HBASE.out]
            exact H1.out
           ·refine Marks.cons (HM6.out.keep fun D hD=>H5.out.block D (HM6.out.lt hD) (HZ6.out.2.1 D (HG6.out.2.1 D hD))) (Nat.zero_le _) HK9.out fun h=>absurd (HM6.out.lt h) (Nat.lt_irrefl _)
           ·intro D hD
            rcases List.mem_cons.1 hD with rfl | h
            ·exact H4.out _ (Nat.le_refl _) (by omega) (Array.getElem?_eq_some_iff.1 HK9.out).1
            ·exact H3.out D (HG6.out.2.1 D h)
           ·simp only [intOf];simp;omega
     ·obtain rfl:i=n3:=by omega
      have d0:decide ((i:Int)<(i:Int))=false:=decide_eq_false (by omega)
      go_wp2_with fail
      refine ζ13 (Z:=fun k=>k∈Ds) (fun W9 hb=>⟨_,results_none rfl _ _ _,⟨_,rfl⟩,.inl ⟨Y,madeG G2 ws W9,rfl,?_⟩⟩) Ds ws HM.out (fun D hD=>hD) (Off.refl _ _)
      have h1:=HI.out.j
      rw [List.take_of_length_le (by rw [HL3.out];exact Nat.le_refl _)]at h1
      rw [←HALL.out]
      exact HGR.out _ _ _ _ h1 (hb.sub fun k _ hk=>HDG.out k hk)
end Go.Proofs.YthagdonmijhpdaaGreat

/- What package bitemp's rects tells is apart -/
import Derived.Test.YthagdonmijhpdaaGreatBpHd
open Go.Lib (hid)
set_option linter.unusedSimpArgs false
set_option linter.unusedVariables false
set_option maxHeartbeats 4000000
namespace Corr
open Go Go.RowKit
def outD (f:Int→Int)(d z:Int):ItL:=if mayB d z=true then [(d,z,f d)]else []
theorem outD_seg {f:Int→Int} {d z:Int}(h:mayB d z=true→z=d+1):segF f d z (outD f d z):=by
 unfold segF outD
 by_cases hm:mayB d z=true
 ·rw [if_pos hm,if_pos hm]
  have:=h hm
  exact⟨rfl,by show d<z;omega,fun e e1 e2=>by rw [show e=d by have:e<z:=e2;have:d≤e:=e1;omega],fun t ht=>by simp at ht,rfl⟩
 ·rw [if_neg hm,if_neg hm]
theorem at_told {L:ClL} {Sk:Kp}(hk:KsOk L Sk) {t d z:Int}(hz:z=d+1∨(z<d∧3652060<d)):(∀r∈allY (outD Sk.f d z) Sk.cs d z t t,r.v=valS L t d)∧(allY (outD Sk.f d z) Sk.cs d z t t= []→valS L t d=0):=by
 have hT:=ζ38 hk (frm:=t) (tq:=t) (outD_seg (f:=Sk.f) (d:=d) (z:=z) fun hm=>by have:=mayB_iff.1 hm;omega) (by
  by_cases hm:mayB d z=true
  ·exact .inl hm
  ·refine .inr fun e e1 e2=>hk.ks.off e ?_
   have h1: ¬(1≤d∧d<z∧z≤3652060):=fun h=>hm (mayB_iff.2 h)
   omega)
 refine⟨fun r hr=> ?_,fun he=>Classical.byContradiction fun hv=> ?_⟩
 ·obtain⟨⟨h1,h2⟩,⟨h3,h4,h5⟩,⟨h6,h7,h8⟩,h9,h10⟩:=hT.say r hr
  refine(h10 t d ?_ h2 h7 ?_).symm
  ·omega
  ·omega
 ·rcases hz with rfl | ⟨h1,h2⟩
  ·obtain⟨r,hr,_⟩:=hT.all t d hv (Int.le_refl _) (by omega) (Int.le_refl _) (Int.le_refl _)
   rw [he]at hr;cases hr
  ·rcases hk.ks.all t d hv with⟨h3,_⟩ | ⟨r,hr,h3,h4,_⟩
   ·exact h3 (hk.ks.off d (by omega))
   ·have:=(hk.ks.cls r hr).1;omega
theorem wp_range_mid1 {P:Program} {c:Code} {a:Act} {w:World} {id:Nat} {K:Act→World→Prop} {X:Exit→Act→World→Prop}(M MS:Nat→World→Prop)
  (h1:c.wp P (fun e a' W=>∃D,a'= { a with defers:=markD D :: a.defers }∧((e= .normal∧M D W)∨(e= .ret∧MS D W))) a w)
  (h2: ∀D W,M D W→K { a with defers:=markD D :: a.defers } W) (h3: ∀D W,MS D W→X .ret { a with defers:=markD D :: a.defers } W):c.wp P (Exit.inBlock id (Exit.then K X)) a w:=
 wp_mono h1 fun e a' W ⟨D,ha,hm⟩=>by
  subst ha
  rcases hm with⟨rfl,hm⟩ | ⟨rfl,hm⟩
  ·exact h2 D W hm
  ·exact h3 D W hm
end Corr
namespace Go.Proofs.YthagdonmijhpdaaGreat
open Go.RowKit Corr
attribute [local go_sem] Oper.semAt_some
set_option maxRecDepth 100000 in
theorem bat_any {Rep:RepT}(K:TrK Rep)(w:World)(p:Value)(F:Nat→Prop)(L:ClL)(t d:Int)(H:HdB K.toRepOk 86 134 w p F L)(hL:L.length≤100)(hd: -9223372036854775808≤d∧d≤9223372036854775807):
  Calls Tryz.prog 14 #[p,.int .i64 t,.int .i64 d] w fun e w'=>e= .returned (.int .i64 (valS L t d))∧Below w.heap.size w w':=by
 obtain⟨z,hz⟩: ∃z,IntKind.i64.wrap (d+1)=z:=⟨_,rfl⟩
 have HZD:=hid (show z=d+1∨(z<d∧3652060<d)from by
  by_cases h:d<9223372036854775807
  ·left;rw [←hz];exact IntWalk.i64_in _ (by omega)
  ·right
   obtain rfl:d=9223372036854775807:=by omega
   rw [←hz];decide)
 have hb:Below w.heap.size w (w.alloc (.cells #[.int .i64 0] 3)):=(Below.refl _ w).alloc (Nat.le_refl _) _
 have hx:=Blk.new w #[.int .i64 0] 3
 have HLT:=hid H.lt
 have HP1:=hid (H.keepB hb)
 obtain⟨w1,hw1⟩: ∃w1,w.alloc (.cells #[.int .i64 0] 3)=w1:=⟨_,rfl⟩
 have HS1:=hid (show w1.heap.size=w.heap.size+1 by rw [←hw1];simp)
 rw [hw1]at hb hx HP1
 have HB:=hid hb
 have HX:=hid hx
 have HE:=hid (ζ37 K w1 p F L HP1.out)
 have HO:=hid (fun W=>hz▸one_any d W)
 have HL:=hid hL
 clear H hL hd hb hx hz
 refine ζr Tryz.func14 rfl ?_
 simp only [Tryz.ntmps14,List.size_toArray,List.length_cons,List.length_nil,Nat.reduceAdd,Nat.reduceSub,Array.replicate_succ,Array.replicate_zero,List.push_toArray,List.append_toArray,List.nil_append,List.cons_append]
 go_wp2_with fail
 refine HE.out.mono ?_
 rintro e w2 ⟨Sk,Fk,rfl,hkp,hk,hb2,hFk⟩
 have HAT:=hid (at_told hk (t:=t) HZD.out)
 have HSG:=hid (outD_seg (f:=Sk.f) (d:=d) (z:=z) fun hm=>by have h1:=mayB_iff.1 hm;have h2:=HZD.out;omega)
 have HWK:=hid (KsOk.walk hk HL.out)
 have HK1:=hid hkp
 have HB2:=hid hb2
 have HFK:=hid (show ∀k,Fk k→k≠w.heap.size∧k<w2.heap.size from fun k hk=>by
  refine⟨?_,(kpT K.toRepOk 86 134 Sk).lt hkp k hk⟩
  rcases hFk k hk with h | h
  ·have:=HLT.out k h;omega
  ·have:=HS1.out;omega)
 clear hk hkp hb2 hFk
 go_wp2_with fail
 refine(HO.out w2).mono ?_
 rintro e w3 ⟨rfl,b3⟩
 have HR:=hid (ζ4n K Sk Fk d z t t w3 (kpT.keepB HK1.out b3) HWK.out _ HSG.out)
 have HB3:=hid b3
 clear b3
 go_wp2_with fail
 refine HR.out.mono ?_
 rintro e w4 ⟨lb,rfl,b4,hseq⟩
 obtain⟨gz,hgz⟩: ∃k,w.heap.size=k:=⟨_,rfl⟩
 obtain⟨Z,hZ⟩: ∃Z:Nat→Prop,Z=fun k=>k=gz∨w4.heap.size≤k:=⟨_,rfl⟩
 have HSZ:=hid (show gz<w4.heap.size∧w2.heap.size≤w3.heap.size∧w3.heap.size≤w4.heap.size∧w1.heap.size≤w2.heap.size from by have h1:=HB3.out.size;have h2:=b4.size;have h3:=HS1.out;have h4:=HB2.out.size;omega)
 have HZ:=hid (show Z gz∧(∀k,w4.heap.size≤k→Z k)∧∀k,Z k→gz≤k from by
  rw [hZ]
  exact⟨Or.inl rfl,fun k hk=>Or.inr hk,fun k hk=>hk.elim (fun e=>Nat.le_of_eq e.symm) fun h=>by have:=HSZ.out.1;omega⟩)
 have HSQ:=hid (hseq Z HZ.out.2.1 (fun k hk e=>by
  rw [hZ]at e
  have h1:=HFK.out k hk;have h3:=HSZ.out
  rcases e with e | e
  ·omega
  ·omega) (fun k h1 h2 e=>by
  rw [hZ]at e
  have h3:=HSZ.out;have h4:=HS1.out
  rcases e with e | e
  ·omega
  ·omega))
 have HX4:=hid (show Blk w4 gz #[.int .i64 0]from hgz▸((HX.out.keep HB2.out).keep HB3.out).keep b4)
 have HB4:=hid b4
 rw [hgz]
 have HFIN:=hid (fun(D:Nat) (W:World) (tmps:Array Value) (h1:W.heap[D]? =some (.deferred (some []))) (hD:w4.heap.size=D) (h2:Blk W gz #[.int .i64 (valS L t d)]) (h3:Off Z w4 W) (ht:tmps.getD 6 undef= .pointer (some ⟨gz,0,none⟩))=>
  show LeavesInM Fence.wide 9 Tryz.prog Tryz.f14 tmps (fun e w'=>e= .returned (.int .i64 (valS L t d))∧Below w.heap.size w w') [markD D] .returning W from by
  refine ζ13 (Z:=fun k=>k∈ [D]) (fun W9 hb=>⟨.int .i64 (valS L t d),?_,rfl,?_⟩) [D] W ((Marks.nil 0 W).cons (Nat.zero_le _) h1 List.not_mem_nil) (fun D hD=>hD) (Off.refl _ _)
  ·have c0:=(hb.blk h2 (fun e=>by have e1:=List.mem_singleton.1 e;have:=HSZ.out.1;omega)).get 0 rfl
   have ht':tmps[6]?.getD undef= .pointer (some ⟨gz,0,none⟩):=by simpa using ht
   simp [results,Tryz.results14,go_sem,ht',c0]
  ·have h4:Off Z w4 W9:=h3.trans (hb.sub fun k _ hk=>by rw [List.mem_singleton.1 hk];exact HZ.out.2.1 D (by omega))
   have h5:=h4.below (B:=gz) (by have:=HSZ.out.1;omega) HZ.out.2.2
   rw [hgz]
   have h6:=HSZ.out
   have h9:=HB2.out.mono (B':=gz) (by have:=HS1.out;omega)
   have h7:=HB3.out.mono (B':=gz) (by have:=HS1.out;omega)
   have h8:=b4.mono (B':=gz) (by have:=HS1.out;omega)
   exact((((hgz▸HB.out).trans h9).trans h7).trans h8).trans h5)
 clear hZ hseq b4
 obtain⟨Y,hY⟩: ∃Y,allY (outD Sk.f d z) Sk.cs d z t t=Y:=⟨_,rfl⟩
 rw [hY]at HSQ HAT
 clear hY
 go_wp2_with fail
 refine wp_range_mid1 (fun D W=>W.heap[D]? =some (.deferred (some []))∧w4.heap.size=D∧Blk W gz #[.int .i64 0]∧Off Z w4 W∧valS L t d=0) (fun D W=>W.heap[D]? =some (.deferred (some []))∧w4.heap.size=D∧Blk W gz #[.int .i64 (valS L t d)]∧Off Z w4 W) ?loop ?rest ?left
 case loop=>
  refine ζ23 (gf:=72) (lb:=lb) rfl ζ2g HZ.out.2.1 HSQ.out (fun _=>rfl)
   (fun G (pre:List Rn) W=>pre= []∧Blk W gz #[.int .i64 0]∧Off Z w4 W∧∀k,G k→w4.heap.size≤k∧k<W.heap.size)
   (fun c G (pre:List Rn) W=>c= .ret∧(∃x,pre.getLast? =some x∧Blk W gz #[.int .i64 x.v])∧Off Z w4 W∧∀k,G k→w4.heap.size≤k∧k<W.heap.size)
   ?grow ?obj ?objx ?growx ?start (fun _ _ x a' W=>∃Bx:Nat,W.heap[Bx]? =some (.cells #[.int .i64 x.a,.int .i64 x.b,.int .i64 x.s,.int .i64 x.u,.int .i64 x.v,.int .i64 x.m] 86 (0,0))∧a'= { tmps:= #[p,.int .i64 t,.int .i64 d,undef,undef,undef,.pointer (some ⟨gz,0,none⟩),.pointer (some ⟨Bx,0,none⟩),undef,p,.pointer (some ⟨Sk.g,0,none⟩),.int .i64 d,.agg #[.int .i64 d,.int .i64 z],.int .i64 t,.int .i64 t,.func (.func 72) #[] lb,.agg #[.int .i64 x.a,.int .i64 x.b,.int .i64 x.s,.int .i64 x.u,.int .i64 x.v,.int .i64 x.m],undef,undef,undef,undef],defers:= [] }) ?ax ?assign ?body ?done ?stop
  case grow=>
   rintro G pre W W' ⟨h1,h2,h3,h4⟩ ho
   exact⟨h1,ho.blk h2 fun e=>by have:=(h4 _ e).1;have:=HSZ.out.1;omega,h3.trans (ho.sub fun k _ hk=>HZ.out.2.1 k (h4 k hk).1),fun k hk=>hk.elim (fun h=>⟨(h4 k h).1,Nat.lt_of_lt_of_le (h4 k h).2 ho.size⟩) fun h=>⟨Nat.le_trans h3.size h.1,h.2⟩⟩
  case growx=>
   rintro c G pre W W' ⟨h1,⟨x,hx,h2⟩,h3,h4⟩ ho
   exact⟨h1,⟨x,hx,ho.blk h2 fun e=>by have:=(h4 _ e).1;have:=HSZ.out.1;omega⟩,h3.trans (ho.sub fun k _ hk=>HZ.out.2.1 k (h4 k hk).1),fun k hk=>hk.elim (fun h=>⟨(h4 k h).1,Nat.lt_of_lt_of_le (h4 k h).2 ho.size⟩) fun h=>⟨Nat.le_trans h3.size h.1,h.2⟩⟩
  case obj=>
   rintro G s W l o o' ⟨h1,h2,h3,h4⟩ k1 k2 k3 k4
   have ho:=ζl (Z:=fun k=>k=l) o' rfl k3
   exact⟨h1,ho.blk h2 (by have:=HSZ.out.1;omega),h3.trans (ho.sub fun k _ e=>HZ.out.2.1 k (by omega)),fun k hk=>by rw [World.putObj_size];exact h4 k hk⟩
  case objx=>
   rintro c G s W l o o' ⟨h1,⟨x,hx,h2⟩,h3,h4⟩ k1 k2 k3 k4
   have ho:=ζl (Z:=fun k=>k=l) o' rfl k3
   exact⟨h1,⟨x,hx,ho.blk h2 (by have:=HSZ.out.1;omega)⟩,h3.trans (ho.sub fun k _ e=>HZ.out.2.1 k (by omega)),fun k hk=>by rw [World.putObj_size];exact h4 k hk⟩
  case start=>
   intro W hb
   exact⟨rfl,HX4.out.keep hb,Off.of hb,fun k h=>h.elim⟩
  case ax=>
   rintro _ _ x a' _ W l o o' ⟨Bx,h1,h2⟩ _ _ ho hc
   refine⟨Bx,(World.putObj_heap_other fun e=> ?_).trans h1,h2⟩
   subst e
   rw [h1]at ho;cases ho;cases hc
  case assign=>
   rintro l' G pre x W Kf hsz ⟨h1,h2,h3,h4⟩ hK
   gi_wp2
   have ha:Below W.heap.size W (W.alloc (.cells #[.int .i64 x.a,.int .i64 x.b,.int .i64 x.s,.int .i64 x.u,.int .i64 x.v,.int .i64 x.m] 86)):=(Below.refl _ W).alloc (Nat.le_refl _) _
   exact hK _ _ (KeepsFrom.two ((KeepsOthers.alloc _ _).from _)) ⟨Off.of ha,fun k hk=>ha.block k (h4 k hk).2⟩ ⟨h1,h2.keep ha,h3.later ha,fun k hk=>⟨(h4 k hk).1,Nat.lt_of_lt_of_le (h4 k hk).2 ha.size⟩⟩ ⟨W.heap.size,ζw W _,rfl⟩
  case body=>
   rintro l' G pre x a' W hl hsz ⟨rfl,h2,h3,h4⟩ ⟨Bx,hBx,rfl⟩ hpn _
   have hxb:Blk W Bx #[.int .i64 x.a,.int .i64 x.b,.int .i64 x.s,.int .i64 x.u,.int .i64 x.v,.int .i64 x.m]:=⟨_,hBx⟩
   have x4:=hxb.get 4 rfl
   have z0:=h2.get 0 rfl
   have f0:=h2.f 0
   have H2:=hid h2
   have H3:=hid h3
   have H4:=hid h4
   have HW:=hid hsz
   clear h2 h3 h4 hBx hxb hpn hl
   gi_wp2_with fail
   have ho:Off (fun k=>k=gz) W (W.setCell ⟨gz,0,none⟩ (.int .i64 x.v)):=Off.set (F:=fun k=>k=gz) (a:=⟨gz,0,none⟩) rfl _
   exact⟨Keeps2.of ho.size (ho.block _ (by have:=HW.out;omega) (by have:=HSZ.out.1;omega)) (ho.block _ (by have:=HW.out;omega) (by have:=HSZ.out.1;omega)),⟨ho.sub fun k _ e=>e▸HZ.out.1,fun k hk=>ho.block k (H4.out k hk).2 (by have h1:=(H4.out k hk).1;have h2:=HSZ.out.1;omega)⟩,rfl,⟨x,rfl,H2.out.set 0 (.int .i64 x.v)⟩,H3.out.trans (ho.sub fun k _ e=>e▸HZ.out.1),fun k hk=>⟨(H4.out k hk).1,by simpa using(H4.out k hk).2⟩⟩
  case done=>
   rintro D G xs W hD rfl ⟨h1,h2,h3,h4⟩ hK
   exact⟨D,rfl,Or.inl ⟨rfl,hK,hD,h2,h3,HAT.out.2 h1⟩⟩
  case stop=>
   rintro D c G pre W hD hp ⟨rfl,⟨x,hx,h2⟩,h3,h4⟩ hK
   refine wp_ret ?_
   have hv:=HAT.out.1 x (hp.subset (List.mem_of_getLast? hx))
   rw [hv]at h2
   exact⟨D,rfl,Or.inr ⟨rfl,hK,hD,h2,h3⟩⟩
 case rest=>
  rintro D W ⟨hK,hD,h2,h3,hv⟩
  have z0:=h2.get 0 rfl
  have f0:=h2.f 0
  have HK:=hid hK
  have HD:=hid hD
  have H2:=hid h2
  have H3:=hid h3
  have HV:=hid hv
  clear hK hD h2 h3 hv
  go_wp2_with fail
  have ho:Off (fun k=>k=gz) W (W.setCell ⟨gz,0,none⟩ (.int .i64 0)):=Off.set (F:=fun k=>k=gz) (a:=⟨gz,0,none⟩) rfl _
  refine HFIN.out D _ _ ((ho.block D (Array.getElem?_eq_some_iff.1 HK.out).1 (by have h1:=HSZ.out.1;have h2:=HD.out;omega)).trans HK.out) HD.out (by rw [HV.out];exact H2.out.set 0 (.int .i64 0)) (H3.out.trans (ho.sub fun k _ e=>e▸HZ.out.1)) rfl
 case left=>
  rintro D W ⟨hK,hD,h2,h3⟩
  exact HFIN.out D W _ hK hD h2 h3 rfl
end Go.Proofs.YthagdonmijhpdaaGreat
namespace Corr
open Go Go.RowKit
def apR (x r:Rn):Prop:=¬(x.a<r.b∧r.a<x.b∧(r.u=0∨x.s<r.u)∧(x.u=0∨r.s<x.u))
theorem apR_swap {x r:Rn}(h:apR x r):apR r x:=fun⟨h1,h2,h3,h4⟩=>h ⟨h2,h1,h4,h3⟩
theorem cov_beside {f:Int→Int} : ∀ {l:ItL} {a b:Int},covP f a b l→l.Pairwise (fun x y=>x.2.1≤y.1)
 | [],_,_,_=>List.Pairwise.nil
 | s :: r,a,b,h=>by
  obtain⟨_,_,_,_,h5⟩:=h
  exact List.pairwise_cons.2 ⟨fun y hy=>(ζ10 h5 y hy).1,cov_beside h5⟩
theorem opnY_apart {f:Int→Int} {out:ItL} {a b tq:Int}(h:segF f a b out):(opnY out tq).Pairwise apR:=by
 unfold segF at h
 split at h
 ·unfold opnY
  rw [List.pairwise_map]
  refine((cov_beside h).sublist List.filter_sublist).imp ?_
  intro x y hxy hh
  have h1:=hh.2.1
  have h2:(rectI y 0).a<(rectI x 0).b:=h1
  have h3:y.1<x.2.1:=h2
  omega
 ·rw [h];exact List.Pairwise.nil
theorem pair_at {Q:Rn→Rn→Prop}(hs: ∀x y,Q x y→Q y x) {l:List Rn}(h:l.Pairwise Q) {i j:Nat} {x y:Rn}(hi:l[i]? =some x)(hj:l[j]? =some y)(hij: ¬i=j):Q x y:=by
 obtain⟨hi1,hi2⟩:=List.getElem?_eq_some_iff.1 hi
 obtain⟨hj1,hj2⟩:=List.getElem?_eq_some_iff.1 hj
 rw [List.pairwise_iff_getElem]at h
 rcases Nat.lt_or_gt_of_ne hij with e | e
 ·have:=h i j hi1 hj1 e;rw [hi2,hj2]at this;exact this
 ·have:=h j i hj1 hi1 e;rw [hi2,hj2]at this;exact hs _ _ this
theorem ckY_apart {c:Ck}(hc:okCk0 c) {Q:Rn→Rn→Prop}(hs: ∀x y,Q x y→Q y x)(h:c.rs.Pairwise Q) {a b frm tq:Int} :(ckY c a b frm tq).Pairwise Q:=by
 unfold ckY
 have hl:(c.l.filter (overB a b)).Pairwise (fun x y=>¬x=y):=by
  refine List.Pairwise.sublist List.filter_sublist (hc.srt_.imp ?_)
  intro x y hxy e
  subst e
  rw [lessB_iff]at hxy
  omega
 have one: ∀y∈c.l,∀x∈itY c frm tq y,∃i:Nat,c.rs[i]? =some x∧y=(x.a,x.b,(i:Int)):=fun y hy x hx=>by
  obtain⟨i,r,_,h1,rfl⟩:=hc.item hy
  rw [itY_at h1]at hx
  split at hx
  ·obtain rfl:x=r:=by simpa using hx
   exact⟨i,h1,rfl⟩
  ·cases hx
 rw [List.pairwise_flatMap]
 refine⟨fun y hy=> ?_,?_⟩
 ·obtain⟨i,r,_,h1,rfl⟩:=hc.item (List.mem_filter.1 hy).1
  rw [itY_at h1]
  split <;> simp
 ·refine hl.imp_of_mem ?_
  intro y z hy hz hne x hx x' hx'
  obtain⟨i,hi,e1⟩:=one y (List.mem_filter.1 hy).1 x hx
  obtain⟨j,hj,e2⟩:=one z (List.mem_filter.1 hz).1 x' hx'
  refine pair_at hs h hi hj fun e=>hne ?_
  subst e
  rw [hi]at hj
  injection hj with hj
  rw [e1,e2,hj]
theorem ζ39 {L:ClL} {Sk:Kp}(hk:KsOk L Sk) {a b frm tq:Int} {out:ItL}(ho:segF Sk.f a b out):(allY out Sk.cs a b frm tq).Pairwise apR:=by
 unfold allY
 have hcl:(Sk.cs.flatMap Ck.rs).Pairwise apR:=hk.ks.apart.imp_of_mem fun {x y} hx hy h=>fun⟨h1,h2,h3,h4⟩=>by
  have e1:=(hk.ks.cls x hx).2.1
  have e2:=(hk.ks.cls y hy).2.1
  exact h ⟨h1,h2,h3.resolve_left (by omega),h4.resolve_left (by omega)⟩
 refine List.pairwise_append.2 ⟨opnY_apart ho,?_,?_⟩
 ·rw [List.pairwise_flatMap]at hcl ⊢
  refine⟨fun c hc=>ckY_apart (hk.ck c hc).tookCk0 (fun _ _=>apR_swap) (hcl.1 c hc),hcl.2.imp_of_mem ?_⟩
  intro c c' hc hc' h x hx y hy
  exact h x ((ζ3r (hk.ck c hc).tookCk0).1 hx).1 y ((ζ3r (hk.ck c' hc').tookCk0).1 hy).1
 ·intro x hx r hr hh
  obtain⟨y,hy,h1,h2,rfl⟩:=opnY_mem.1 hx
  obtain⟨c,hc,hrc⟩:=List.mem_flatMap.1 hr
  have hr1:=((ζ3r (hk.ck c hc).tookCk0).1 hrc).1
  have hrR:r∈Sk.cs.flatMap Ck.rs:=List.mem_flatMap.2 ⟨c,hc,hr1⟩
  unfold segF at ho
  split at ho
  ·obtain⟨i1,i2,i3,i4,_⟩:=ζ10 ho y hy
   have g1:y.1<r.b:=hh.1
   have g2:r.a<y.2.1:=hh.2.1
   obtain⟨⟨k1,k2,_⟩,⟨k3,k4,_⟩,_⟩:=hk.ks.cls r hrR
   have g3:r.u=0∨sinP y.2.2<r.u:=hh.2.2.1
   have g4:=g3.resolve_left (by omega)
   by_cases hm:y.1≤r.a
   ·have e:=i4 r.a hm g2
    have:=hk.ks.ahead r hrR r.a (Int.le_refl _) k2 (by rw [e];intro e0;rw [e0,c_zero.1]at h1;omega)
    rw [e]at this;omega
   ·have e:=i4 y.1 (Int.le_refl _) i2
    have:=hk.ks.ahead r hrR y.1 (by omega) g1 (by rw [e];intro e0;rw [e0,c_zero.1]at h1;omega)
    rw [e]at this;omega
  ·rw [ho]at hy;cases hy
theorem ζ56 {L:ClL} {Sk:Kp}(hk:KsOk L Sk) {a b frm tq:Int} {out:ItL}(ho:segF Sk.f a b out): ∀r∈allY out Sk.cs a b frm tq,r.a∈a :: endsS L:=fun r hr=>by
 rcases List.mem_append.1 hr with hr | hr
 ·obtain⟨y,hy,h1,h2,rfl⟩:=opnY_mem.1 hr
  unfold segF at ho
  split at ho
  ·exact(cov_few hk.ks.endf ho).1 y hy
  ·rw [ho]at hy;cases hy
 ·obtain⟨c,hc,hrc⟩:=List.mem_flatMap.1 hr
  exact List.mem_cons_of_mem _ (hk.ks.endr r (List.mem_flatMap.2 ⟨c,hc,((ζ3r (hk.ck c hc).tookCk0).1 hrc).1⟩))
theorem allY_nums {L:ClL} {Sk:Kp}(hk:KsOk L Sk) {a b frm tq:Int} {out:ItL}(ho:segF Sk.f a b out): ∃nv:Int→Int,∀r∈allY out Sk.cs a b frm tq,r.v=nv r.m:=by
 obtain⟨nv,n1,n2⟩:=hk.ks.nums
 refine⟨nv,fun r hr=> ?_⟩
 rcases List.mem_append.1 hr with hr | hr
 ·obtain⟨y,hy,h1,h2,rfl⟩:=opnY_mem.1 hr
  unfold segF at ho
  split at ho
  ·obtain⟨i1,i2,i3,i4,_⟩:=ζ10 ho y hy
   have e:=i4 y.1 (Int.le_refl _) i2
   have:=n1 y.1 (by rw [e];intro e0;rw [e0,c_zero.1]at h1;omega)
   rw [e]at this;exact this
  ·rw [ho]at hy;cases hy
 ·obtain⟨c,hc,hrc⟩:=List.mem_flatMap.1 hr
  exact n2 r (List.mem_flatMap.2 ⟨c,hc,((ζ3r (hk.ck c hc).tookCk0).1 hrc).1⟩)
structure LineL (L:ClL)(t lo hi:Int)(M:List Rn):Prop where
 rng: ∀r∈M,1≤r.a∧r.a<r.b∧r.b≤3652060
 val: ∀r∈M,¬r.v=0∧∀d,r.a≤d→d<r.b→valS L t d=r.v
 all: ∀d,lo≤d→d<hi→¬valS L t d=0→∃r∈M,r.a≤d∧d<r.b
 ord:M.Pairwise fun x y=>x.a≤y.a
 nums: ∃nv:Int→Int,∀r∈M,r.v=nv r.m
 few:M.length≤2*L.length+1
theorem allY_few {L:ClL} {Sk:Kp}(hk:KsOk L Sk) {a b t:Int} {out:ItL}(ho:segF Sk.f a b out):(allY out Sk.cs a b t t).length≤2*L.length+1:=by
 have T:=ζ4o (frm:=t) (tq:=t) hk ho
 have h2:=pigeonI ((allY out Sk.cs a b t t).map Rn.a) (a :: endsS L) ?_ ?_
 ·rw [List.length_map,List.length_cons,ζ1z]at h2;exact h2
 ·rw [List.nodup_iff_pairwise_ne,List.pairwise_map]
  refine(ζ39 (frm:=t) (tq:=t) hk ho).imp_of_mem ?_
  intro x y hx hy h e
  obtain⟨_,hx2,hx3,_⟩:=T x hx
  obtain⟨_,hy2,hy3,_⟩:=T y hy
  refine h ⟨by omega,by omega,?_,?_⟩
  ·rcases hy3.2.2 with h | h
   ·exact .inl h
   ·right;omega
  ·rcases hx3.2.2 with h | h
   ·exact .inl h
   ·right;omega
 ·intro y hy
  obtain⟨x,hx,rfl⟩:=List.mem_map.1 hy
  exact ζ56 hk ho x hx
theorem allY_line0 {L:ClL} {Sk:Kp}(hk:KsOk L Sk) {a b t:Int} {out:ItL}(ho:segF Sk.f a b out) {M:List Rn}(hp:M.Perm (allY out Sk.cs a b t t))(hM:M.Pairwise fun x y=>x.a≤y.a):LineL L t 0 0 M:=by
 have T:=ζ4o (frm:=t) (tq:=t) hk ho
 refine⟨fun r hr=>(T r (hp.mem_iff.1 hr)).2.1,fun r hr=> ?_,fun d d1 d2 hv=>by omega,hM,?_,by rw [hp.length_eq];exact allY_few hk ho⟩
 ·obtain⟨_,_,h3,h4,h5⟩:=T r (hp.mem_iff.1 hr)
  exact⟨h4,fun d d1 d2=>h5 t d d1 d2 h3.2.1 (h3.2.2.imp id fun h=>h.1)⟩
 ·obtain⟨nv,h⟩:=allY_nums (frm:=t) (tq:=t) hk ho
  exact⟨nv,fun r hr=>h r (hp.mem_iff.1 hr)⟩
theorem allY_line {L:ClL} {Sk:Kp}(hk:KsOk L Sk) {a b t:Int} {out:ItL}(ho:segF Sk.f a b out)(hab:mayB a b=true∨∀d,a≤d→d<b→Sk.f d=0) {M:List Rn}(hp:M.Perm (allY out Sk.cs a b t t))(hM:M.Pairwise fun x y=>x.a≤y.a):LineL L t a b M:=by
 have T:=ζ38 (frm:=t) (tq:=t) hk ho hab
 obtain⟨h1,h2,_,h4,h5,h6⟩:=allY_line0 hk ho hp hM
 refine⟨h1,h2,fun d d1 d2 hv=> ?_,h4,h5,h6⟩
 obtain⟨r,hr,h1,h2,_⟩:=T.all t d hv d1 d2 (Int.le_refl _) (Int.le_refl _)
 exact⟨r,hp.mem_iff.2 hr,h1,h2⟩
structure LineK (L:ClL)(t:Int)(M:List Rn)(k:Nat)(f:Int→Int):Prop where
 is: ∀d,f d=0∨f d=valS L t d
 on: ∀r∈M.take k,∀d,r.a≤d→d<r.b→f d=valS L t d
 rng: ∀d,¬f d=0→1≤d∧d<3652060
theorem LineK.nil {L:ClL} {t:Int} {M:List Rn} :LineK L t M 0 (fun _=>0):=⟨fun _=> .inl rfl,fun r hr=>by simp at hr,fun _ h=>absurd rfl h⟩
theorem LineK.end_ {L:ClL} {t lo hi:Int} {M:List Rn} {f:Int→Int}(H:LineL L t lo hi M)(h:LineK L t M M.length f): ∀d,lo≤d→d<hi→f d=valS L t d:=fun d d1 d2=>by
 rcases h.is d with e | e
 ·by_cases hv:valS L t d=0
  ·rw [e,hv]
  ·obtain⟨r,hr,h1,h2⟩:=H.all d d1 d2 hv
   exact h.on r (by rw [List.take_length];exact hr) d h1 h2
 ·exact e
def ChainL (M:List Rn)(k n:Nat):Prop:=∀j,0<j→j<n→∀x y,M[k+(j-1)]? =some x→M[k+j]? =some y→y.a=x.b∧∀z,M[k]? =some z→y.m=z.m
theorem ChainL.one {M:List Rn} {k:Nat} :ChainL M k 1:=fun j h1 h2=>by omega
theorem ChainL.more {M:List Rn} {k n:Nat}(h:ChainL M k n) {x y z:Rn}(hn:0<n)(hx:M[k+(n-1)]? =some x)(hy:M[k+n]? =some y)(hz:M[k]? =some z)(h1:y.a=x.b)(h2:y.m=z.m):ChainL M k (n+1):=fun j j1 j2 x' y' hx' hy'=>by
 by_cases e:j=n
 ·subst e
  rw [hx]at hx';rw [hy]at hy'
  injection hx' with hx';injection hy' with hy'
  subst hx';subst hy'
  refine⟨h1,fun z' hz'=> ?_⟩
  rw [hz]at hz';injection hz' with hz';subst hz'
  exact h2
 ·exact h j j1 (by omega) x' y' hx' hy'
theorem ChainL.days {M:List Rn} {k:Nat} {f:Rn}(hf:M[k]? =some f)(hr: ∀r∈M,r.a<r.b): ∀ {n:Nat} {e:Rn},ChainL M k (n+1)→M[k+n]? =some e→f.a≤e.a∧∀d,f.a≤d→d<e.b→∃j r,j≤n∧M[k+j]? =some r∧r.a≤d∧d<r.b∧(r=f∨r.m=f.m)
 | 0,e,h,he=>by
  rw [Nat.add_zero,hf]at he
  injection he with he
  subst he
  exact⟨Int.le_refl _,fun d d1 d2=>⟨0,f,Nat.le_refl _,hf,d1,d2,.inl rfl⟩⟩
 | n+1,e,h,he=>by
  have hl:=(List.getElem?_eq_some_iff.1 he).1
  have hx:M[k+n]? =some (M[k+n]'(by omega)):=List.getElem?_eq_getElem (by omega)
  obtain⟨h1,h2⟩:=ChainL.days hf hr (n:=n) (fun j j1 j2=>h j j1 (by omega)) hx
  obtain⟨h3,h4⟩:=h (n+1) (by omega) (by omega) _ e (by rw [Nat.add_sub_cancel];exact hx) he
  have h5:=hr _ (List.mem_of_getElem? hx)
  refine⟨by omega,fun d d1 d2=> ?_⟩
  by_cases hd:d<e.a
  ·obtain⟨j,r,j1,j2,j3⟩:=h2 d d1 (by omega)
   exact⟨j,r,by omega,j2,j3⟩
  ·exact⟨n+1,e,Nat.le_refl _,he,by omega,d2,.inr (h4 f hf)⟩
theorem ChainL.ends {M:List Rn} {k:Nat}(hr: ∀r∈M,r.a<r.b): ∀ {n:Nat} {e:Rn},ChainL M k (n+1)→M[k+n]? =some e→∀j r,j≤n→M[k+j]? =some r→r.b≤e.b
 | 0,e,h,he,j,r,hj,hx=>by
  obtain rfl:j=0:=by omega
  rw [hx]at he;injection he with he;subst he;exact Int.le_refl _
 | n+1,e,h,he,j,r,hj,hx=>by
  by_cases hjn:j=n+1
  ·subst hjn
   rw [hx]at he;injection he with he;subst he;exact Int.le_refl _
  ·have hl:=(List.getElem?_eq_some_iff.1 he).1
   have hy:M[k+n]? =some (M[k+n]'(by omega)):=List.getElem?_eq_getElem (by omega)
   have h1:=ChainL.ends hr (n:=n) (fun j j1 j2=>h j j1 (by omega)) hy j r (by omega) hx
   obtain⟨h3,_⟩:=h (n+1) (by omega) (by omega) _ e (by rw [Nat.add_sub_cancel];exact hy) he
   have:=hr e (List.mem_of_getElem? he)
   omega
theorem LineK.put {L:ClL} {t lo hi:Int} {M:List Rn} {k n:Nat} {f f':Int→Int} {x e:Rn}(H:LineL L t lo hi M)(h:LineK L t M k f)(hx:M[k]? =some x)(hc:ChainL M k (n+1))(he:M[k+n]? =some e)(hf': ∀d,f' d=if x.a≤d∧d<e.b then x.v else f d):mayB x.a e.b=true∧LineK L t M (k+(n+1)) f':=by
 have hr: ∀r∈M,r.a<r.b:=fun r hr=>(H.rng r hr).2.1
 obtain⟨h1,h2⟩:=hc.days hx hr he
 have h3:=hc.ends hr he
 obtain⟨nv,hn⟩:=H.nums
 have hxm:=List.mem_of_getElem? hx
 have hem:=List.mem_of_getElem? he
 have gx:=H.rng x hxm
 have ge:=H.rng e hem
 have key: ∀d,x.a≤d→d<e.b→x.v=valS L t d:=fun d d1 d2=>by
  obtain⟨j,r,_,hj,r1,r2,r3⟩:=h2 d d1 d2
  have hrm:=List.mem_of_getElem? hj
  have e1:=(H.val r hrm).2 d r1 r2
  rw [e1]
  rcases r3 with r3 | r3
  ·rw [r3]
  ·rw [hn x hxm,hn r hrm,r3]
 refine⟨mayB_iff.2 ⟨by omega,by omega,by omega⟩,⟨fun d=> ?_,fun r hrm d d1 d2=> ?_,fun d hd=> ?_⟩⟩
 ·rw [hf']
  split
  ·rename_i hd;exact .inr (key d hd.1 hd.2)
  ·exact h.is d
 ·rw [hf']
  split
  ·rename_i hd;exact key d hd.1 hd.2
  ·rename_i hd
   obtain⟨i,hi⟩:=List.mem_iff_getElem?.1 hrm
   rw [List.getElem?_take]at hi
   split at hi
   ·by_cases hik:i<k
    ·exact h.on r (List.mem_iff_getElem?.2 ⟨i,by rw [List.getElem?_take,if_pos hik];exact hi⟩) d d1 d2
    ·exfalso
     obtain⟨j,rfl⟩: ∃j,i=k+j:=⟨i-k,by omega⟩
     have g1:=h3 j r (by omega) hi
     have g2:x.a≤r.a:=by
      by_cases hj0:j=0
      ·subst hj0;rw [Nat.add_zero,hx]at hi;injection hi with hi;rw [hi];exact Int.le_refl _
      ·obtain⟨hi1,hi2⟩:=List.getElem?_eq_some_iff.1 hi
       obtain⟨hx1,hx2⟩:=List.getElem?_eq_some_iff.1 hx
       have:=(List.pairwise_iff_getElem.1 H.ord) k (k+j) hx1 hi1 (by omega)
       rw [hx2,hi2]at this;exact this
     exact hd ⟨by omega,by omega⟩
   ·cases hi
 ·rw [hf']at hd
  split at hd
  ·rename_i hh;omega
  ·exact h.rng d hd
end Corr

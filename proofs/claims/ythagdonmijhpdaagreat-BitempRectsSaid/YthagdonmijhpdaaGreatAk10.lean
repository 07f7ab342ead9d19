/- Contract of package avl -/
import Derived.Test.YthagdonmijhpdaaGreatAkRise
import Derived.Test.YthagdonmijhpdaaGreatRelVal
import Derived.Shelf.Abstract
import Derived.Deep.RegionWith
import Derived.Laws.EntriesVeiled
open Go.Lib (hid)
set_option linter.unusedSimpArgs false
set_option linter.unusedVariables false
set_option maxHeartbeats 8000000
set_option maxRecDepth 8000
namespace Go.Proofs.YthagdonmijhpdaaGreat
open Go.RowKit Corr
def ζ4p (g n c gK:Nat)(M r:Int)(K:KnL)(a b:PT)(p:Nat)(x:It)(w:World)(e:Ending)(w':World):Prop:=∃K' t',e= .returned (.int .i64 t'.root)∧Ar 221 w' g M r (some ⟨gK,0,none⟩) n c K'∧BalR K K' a b p x t'∧Off (inAr g (some ⟨gK,0,none⟩) n c) w w'
theorem bal_ok0 (g n c gK:Nat)(M r:Int)(K:KnL)(p:Nat)(k:Kn)(a b:PT)(w:World)(H:Ar 221 w g M r (some ⟨gK,0,none⟩) n c K)(hk:K[p]? =some k)(hl:k.l=a.root)(hr:k.r=b.root)(ra:Rp K a)(rb:Rp K b)(nd:(PT.node a p k.it b).places.Nodup)(ba:a.bal)(bb:b.bal)(h1:a.height≤800)(h2:b.height≤800)(hn:n≤2000)(hc:(b.height:Int)≤a.height∧(a.height:Int)≤b.height+1):
  Calls Tryz.prog 161 #[.pointer (some ⟨g,0,none⟩),.int .i64 (p:Int)] w (ζ4p g n c gK M r K a b p k.it w):=by
 have HA:=hid H
 have HK:=hid hk
 have HND:=hid nd
 have HEL:=hid hl
 have HER:=hid hr
 have HRA:=hid ra
 have HRB:=hid rb
 have HBA:=hid ba
 have HBB:=hid bb
 obtain⟨ha,hha⟩: ∃h:Int,(a.height:Int)=h:=⟨_,rfl⟩
 obtain⟨hb,hhb⟩: ∃h:Int,(b.height:Int)=h:=⟨_,rfl⟩
 have HHA:=hid hha
 have HHB:=hid hhb
 have HHL:=hid (fun(w':World) (hb:Below w.heap.size w w')=>show Calls Tryz.prog 171 #[.pointer (some ⟨g,0,none⟩),.agg #[.int .i64 (p:Int),.int .i64 0]] w' (fun e w2=>e= .returned (.int .i64 ha)∧Below w'.heap.size w' w2)from ζ9 g n c gK M r K p false k ha w' (H.keep hb) hk (by rw [←hha];show hAt K k.l _;rw [hl];exact ra.hAt) hn)
 have HHR:=hid (fun(w':World) (hbb:Below w.heap.size w w')=>show Calls Tryz.prog 171 #[.pointer (some ⟨g,0,none⟩),.agg #[.int .i64 (p:Int),.int .i64 1]] w' (fun e w2=>e= .returned (.int .i64 hb)∧Below w'.heap.size w' w2)from ζ9 g n c gK M r K p true k hb w' (H.keep hbb) hk (by rw [←hhb];show hAt K k.r _;rw [hr];exact rb.hAt) hn)
 have bz1:0≤ha∧ha≤800:=by omega
 have bz2:0≤hb∧hb≤800:=by omega
 have HC:=hid hc
 have d0:decide (ha<hb)=false:=decide_eq_false (by omega)
 obtain⟨d,hd⟩: ∃d:Int,ha-hb=d:=⟨_,rfl⟩
 have hw1:IntKind.i64.wrap (ha-hb)=d:=by rw [IntWalk.i64_in _ (by omega)];exact hd
 have d1:decide (d≤1)=true:=decide_eq_true (by omega)
 have hw2:IntKind.i64.wrap (1-0)=1:=by decide
 have HB0:=hid (Below.refl w.heap.size w)
 clear nd hl hr ra rb ba bb hha hhb hc hd H hk
 go_enter Tryz.func161,Tryz.ntmps161
 go_wp2_with fail
 refine(HHL.out w HB0.out).mono ?_
 rintro e w1 ⟨rfl,hb1⟩
 have HB1:=hid (HB0.out.trans (hb1.mono HB0.out.size))
 clear hb1
 go_wp2_with fail
 refine(HHR.out w1 HB1.out).mono ?_
 rintro e w2 ⟨rfl,hb2⟩
 have HB2:=hid (HB1.out.trans (hb2.mono HB1.out.size))
 clear hb2
 go_wp2_with fail
 refine(HHL.out w2 HB2.out).mono ?_
 rintro e w3 ⟨rfl,hb3⟩
 have HB3:=hid (HB2.out.trans (hb3.mono HB2.out.size))
 clear hb3
 go_wp2_with fail
 refine(HHR.out w3 HB3.out).mono ?_
 rintro e w4 ⟨rfl,hb4⟩
 have HB4:=hid (HB3.out.trans (hb4.mono HB3.out.size))
 clear hb4
 clear HHL HHR
 go_wp2_with fail
 have HNP:=HND.out
 simp only [PT.places,List.nodup_append,List.nodup_cons,List.mem_cons]at HNP
 have HPA:p∉a.places:=fun e=>HNP.2.2 p e p (.inl rfl) rfl
 have HPB:p∉b.places:=HNP.2.1.1
 clear HNP
 have hca:=HRA.out.chld HPA (by omega)
 have hcb:=HRB.out.chld HPB (by omega)
 rw [←HEL.out]at hca
 rw [←HER.out]at hcb
 refine(ζ19 g n c gK M r K p k a.ht b.ht w4 (HA.out.keep HB4.out) HK.out hca hcb hn).mono ?_
 rintro e w5 ⟨rfl,hA5,hF5⟩
 have HA5:=hid hA5
 have HF5:=hid ((Off.of HB4.out).trans hF5)
 have hrp:Rp (K.set p (k.settled a.ht b.ht)) (.node a p k.it b):=⟨by
  rw [ζ6 HK.out,show k=Kn.mk k.it a.root b.root k.h k.t by rw [←HEL.out,←HER.out],ζ11],HRA.out.set HPA _,HRB.out.set HPB _⟩
 have HRP:=hid hrp
 clear hca hcb hA5 hF5 hrp HPA HPB
 go_wp2_with fail
 go_ret
 exact⟨_,_,rfl,HA5.out,BalR.none HRP.out (fun j hj=>List.getElem?_set_ne (Ne.symm hj)) HBA.out HBB.out (by have:=HC.out;omega) (by have:=HC.out;omega),HF5.out⟩
theorem bal_ok1 (g n c gK:Nat)(M r:Int)(K:KnL)(p:Nat)(k:Kn)(a b:PT)(w:World)(H:Ar 221 w g M r (some ⟨gK,0,none⟩) n c K)(hk:K[p]? =some k)(hl:k.l=a.root)(hr:k.r=b.root)(ra:Rp K a)(rb:Rp K b)(nd:(PT.node a p k.it b).places.Nodup)(ba:a.bal)(bb:b.bal)(h1:a.height≤800)(h2:b.height≤800)(hn:n≤2000)(hc:(a.height:Int)<b.height∧(b.height:Int)≤a.height+1):
  Calls Tryz.prog 161 #[.pointer (some ⟨g,0,none⟩),.int .i64 (p:Int)] w (ζ4p g n c gK M r K a b p k.it w):=by
 have HA:=hid H
 have HK:=hid hk
 have HND:=hid nd
 have HEL:=hid hl
 have HER:=hid hr
 have HRA:=hid ra
 have HRB:=hid rb
 have HBA:=hid ba
 have HBB:=hid bb
 obtain⟨ha,hha⟩: ∃h:Int,(a.height:Int)=h:=⟨_,rfl⟩
 obtain⟨hb,hhb⟩: ∃h:Int,(b.height:Int)=h:=⟨_,rfl⟩
 have HHA:=hid hha
 have HHB:=hid hhb
 have HHL:=hid (fun(w':World) (hb:Below w.heap.size w w')=>show Calls Tryz.prog 171 #[.pointer (some ⟨g,0,none⟩),.agg #[.int .i64 (p:Int),.int .i64 0]] w' (fun e w2=>e= .returned (.int .i64 ha)∧Below w'.heap.size w' w2)from ζ9 g n c gK M r K p false k ha w' (H.keep hb) hk (by rw [←hha];show hAt K k.l _;rw [hl];exact ra.hAt) hn)
 have HHR:=hid (fun(w':World) (hbb:Below w.heap.size w w')=>show Calls Tryz.prog 171 #[.pointer (some ⟨g,0,none⟩),.agg #[.int .i64 (p:Int),.int .i64 1]] w' (fun e w2=>e= .returned (.int .i64 hb)∧Below w'.heap.size w' w2)from ζ9 g n c gK M r K p true k hb w' (H.keep hbb) hk (by rw [←hhb];show hAt K k.r _;rw [hr];exact rb.hAt) hn)
 have bz1:0≤ha∧ha≤800:=by omega
 have bz2:0≤hb∧hb≤800:=by omega
 have HC:=hid hc
 have d0:decide (ha<hb)=true:=decide_eq_true (by omega)
 obtain⟨d,hd⟩: ∃d:Int,hb-ha=d:=⟨_,rfl⟩
 have hw1:IntKind.i64.wrap (hb-ha)=d:=by rw [IntWalk.i64_in _ (by omega)];exact hd
 have d1:decide (d≤1)=true:=decide_eq_true (by omega)
 have hw2:IntKind.i64.wrap (1-1)=0:=by decide
 have HB0:=hid (Below.refl w.heap.size w)
 clear nd hl hr ra rb ba bb hha hhb hc hd H hk
 go_enter Tryz.func161,Tryz.ntmps161
 go_wp2_with fail
 refine(HHL.out w HB0.out).mono ?_
 rintro e w1 ⟨rfl,hb1⟩
 have HB1:=hid (HB0.out.trans (hb1.mono HB0.out.size))
 clear hb1
 go_wp2_with fail
 refine(HHR.out w1 HB1.out).mono ?_
 rintro e w2 ⟨rfl,hb2⟩
 have HB2:=hid (HB1.out.trans (hb2.mono HB1.out.size))
 clear hb2
 go_wp2_with fail
 refine(HHR.out w2 HB2.out).mono ?_
 rintro e w3 ⟨rfl,hb3⟩
 have HB3:=hid (HB2.out.trans (hb3.mono HB2.out.size))
 clear hb3
 go_wp2_with fail
 refine(HHL.out w3 HB3.out).mono ?_
 rintro e w4 ⟨rfl,hb4⟩
 have HB4:=hid (HB3.out.trans (hb4.mono HB3.out.size))
 clear hb4
 clear HHL HHR
 go_wp2_with fail
 have HNP:=HND.out
 simp only [PT.places,List.nodup_append,List.nodup_cons,List.mem_cons]at HNP
 have HPA:p∉a.places:=fun e=>HNP.2.2 p e p (.inl rfl) rfl
 have HPB:p∉b.places:=HNP.2.1.1
 clear HNP
 have hca:=HRA.out.chld HPA (by omega)
 have hcb:=HRB.out.chld HPB (by omega)
 rw [←HEL.out]at hca
 rw [←HER.out]at hcb
 refine(ζ19 g n c gK M r K p k a.ht b.ht w4 (HA.out.keep HB4.out) HK.out hca hcb hn).mono ?_
 rintro e w5 ⟨rfl,hA5,hF5⟩
 have HA5:=hid hA5
 have HF5:=hid ((Off.of HB4.out).trans hF5)
 have hrp:Rp (K.set p (k.settled a.ht b.ht)) (.node a p k.it b):=⟨by
  rw [ζ6 HK.out,show k=Kn.mk k.it a.root b.root k.h k.t by rw [←HEL.out,←HER.out],ζ11],HRA.out.set HPA _,HRB.out.set HPB _⟩
 have HRP:=hid hrp
 clear hca hcb hA5 hF5 hrp HPA HPB
 go_wp2_with fail
 go_ret
 exact⟨_,_,rfl,HA5.out,BalR.none HRP.out (fun j hj=>List.getElem?_set_ne (Ne.symm hj)) HBA.out HBB.out (by have:=HC.out;omega) (by have:=HC.out;omega),HF5.out⟩
theorem bal_r1 (g n c gK:Nat)(M r:Int)(K:KnL)(p:Nat)(k:Kn)(a1 a2 b:PT)(q:Nat)(y:It)(w:World)(H:Ar 221 w g M r (some ⟨gK,0,none⟩) n c K)(hk:K[p]? =some k)(hl:k.l=(q:Int))(hr:k.r=b.root)(ra:Rp K (PT.node a1 q y a2))(rb:Rp K b)(nd:(PT.node (PT.node a1 q y a2) p k.it b).places.Nodup)(ba:(PT.node a1 q y a2).bal)(bb:b.bal)(h1:(PT.node a1 q y a2).height≤800)(h2:b.height≤800)(hn:n≤2000)(hc:(PT.node a1 q y a2).height=b.height+2)(hc2:a2.height≤a1.height):
  Calls Tryz.prog 161 #[.pointer (some ⟨g,0,none⟩),.int .i64 (p:Int)] w (ζ4p g n c gK M r K (PT.node a1 q y a2) b p k.it w):=by
 have HA:=hid H
 have HK:=hid hk
 have HND:=hid nd
 have HEL:=hid hl
 have HER:=hid hr
 have HRA:=hid ra
 have HRB:=hid rb
 have HBA:=hid ba
 have HBB:=hid bb
 obtain⟨ha,hha⟩: ∃h:Int,((PT.node a1 q y a2).height:Int)=h:=⟨_,rfl⟩
 obtain⟨hb,hhb⟩: ∃h:Int,(b.height:Int)=h:=⟨_,rfl⟩
 have HHA:=hid hha
 have HHB:=hid hhb
 have HHL:=hid (fun(w':World) (hb:Below w.heap.size w w')=>show Calls Tryz.prog 171 #[.pointer (some ⟨g,0,none⟩),.agg #[.int .i64 (p:Int),.int .i64 0]] w' (fun e w2=>e= .returned (.int .i64 ha)∧Below w'.heap.size w' w2)from ζ9 g n c gK M r K p false k ha w' (H.keep hb) hk (by rw [←hha];show hAt K k.l _;rw [hl];exact ra.hAt) hn)
 have HHR:=hid (fun(w':World) (hbb:Below w.heap.size w w')=>show Calls Tryz.prog 171 #[.pointer (some ⟨g,0,none⟩),.agg #[.int .i64 (p:Int),.int .i64 1]] w' (fun e w2=>e= .returned (.int .i64 hb)∧Below w'.heap.size w' w2)from ζ9 g n c gK M r K p true k hb w' (H.keep hbb) hk (by rw [←hhb];show hAt K k.r _;rw [hr];exact rb.hAt) hn)
 have bz1:0≤ha∧ha≤800:=by omega
 have bz2:0≤hb∧hb≤800:=by omega
 have HC2:=hid hc2
 obtain⟨q1,hq1⟩: ∃h:Int,(a1.height:Int)=h:=⟨_,rfl⟩
 obtain⟨q2,hq2⟩: ∃h:Int,(a2.height:Int)=h:=⟨_,rfl⟩
 have HQH:=hid (fun(w':World) (hb:Below w.heap.size w w')=>show Calls Tryz.prog 171 #[.pointer (some ⟨g,0,none⟩),.agg #[.int .i64 (q:Int),.int .i64 0]] w' (fun e w2=>e= .returned (.int .i64 q1)∧Below w'.heap.size w' w2)from ζ9 g n c gK M r K q false _ q1 w' (HA.out.keep hb) HRA.out.1 (by rw [←hq1];exact HRA.out.2.1.hAt) hn)
 have HQL:=hid (fun(w':World) (hb:Below w.heap.size w w')=>show Calls Tryz.prog 171 #[.pointer (some ⟨g,0,none⟩),.agg #[.int .i64 (q:Int),.int .i64 1]] w' (fun e w2=>e= .returned (.int .i64 q2)∧Below w'.heap.size w' w2)from ζ9 g n c gK M r K q true _ q2 w' (HA.out.keep hb) HRA.out.1 (by rw [←hq2];exact HRA.out.2.2.hAt) hn)
 have d2:decide (q2 > q1)=false:=decide_eq_false (by omega)
 clear hq1 hq2 hc2
 have HC:=hid hc
 have d0:decide (ha<hb)=false:=decide_eq_false (by omega)
 obtain⟨d,hd⟩: ∃d:Int,ha-hb=d:=⟨_,rfl⟩
 have hw1:IntKind.i64.wrap (ha-hb)=d:=by rw [IntWalk.i64_in _ (by omega)];exact hd
 have d1:decide (d≤1)=false:=decide_eq_false (by omega)
 have hw2:IntKind.i64.wrap (1-0)=1:=by decide
 have HB0:=hid (Below.refl w.heap.size w)
 clear nd hl hr ra rb ba bb hha hhb hc hd H hk
 go_enter Tryz.func161,Tryz.ntmps161
 go_wp2_with fail
 refine(HHL.out w HB0.out).mono ?_
 rintro e w1 ⟨rfl,hb1⟩
 have HB1:=hid (HB0.out.trans (hb1.mono HB0.out.size))
 clear hb1
 go_wp2_with fail
 refine(HHR.out w1 HB1.out).mono ?_
 rintro e w2 ⟨rfl,hb2⟩
 have HB2:=hid (HB1.out.trans (hb2.mono HB1.out.size))
 clear hb2
 go_wp2_with fail
 refine(HHL.out w2 HB2.out).mono ?_
 rintro e w3 ⟨rfl,hb3⟩
 have HB3:=hid (HB2.out.trans (hb3.mono HB2.out.size))
 clear hb3
 go_wp2_with fail
 refine(HHR.out w3 HB3.out).mono ?_
 rintro e w4 ⟨rfl,hb4⟩
 have HB4:=hid (HB3.out.trans (hb4.mono HB3.out.size))
 clear hb4
 clear HHL HHR
 go_upto_region 9 with fail
 have HT5:=hid (Blk.new w4 #[.func (.func 172) #[] #[],.func (.func 173) #[] #[]] 248)
 have HB5:=hid (HB4.out.alloc HB4.out.size (.cells #[.func (.func 172) #[] #[],.func (.func 173) #[] #[]] 248))
 have HTW:=hid (show w.heap.size≤w4.heap.size from HB4.out.size)
 generalize w4.alloc (.cells #[.func (.func 172) #[] #[],.func (.func 173) #[] #[]] 248)=w5 at*
 generalize w4.heap.size=hT at*
 go_wp2_with fail
 refine(ζ47 g n c gK M r K p k w5 (HA.out.keep HB5.out) HK.out hn).mono ?_
 rintro e w6 ⟨rfl,hb6⟩
 have HB6:=hid (HB5.out.trans (hb6.mono HB5.out.size))
 have HT6:=hid (HT5.out.keep hb6)
 have c3:w6.cell? ⟨gK,p*7+3,none⟩=some (.int .i64 (q:Int)):=by have:=(HA.out.keep HB6.out).c3 HK.out;rw [HEL.out]at this;exact this
 have hkl:gK<w6.heap.size:=ζk (HA.out.keep HB6.out).o rfl
 clear hb6 HT5 HB5 HB4 HB3 HB2 HB1 HB0
 go_upto_region 10 with fail
 refine ζ4 15 (Ext w6)
  (fun i=>List.getD [VE (.pointer (some ⟨g,0,none⟩)),VE (.pointer (some ⟨gK,p*7+3,none⟩)),VE (.pointer (some ⟨gK,p*7+3,none⟩)),VE (.int .i64 (q:Int)),VE (.int .i64 1),VE (.agg #[.int .i64 (q:Int),.int .i64 1]),VE (.int .i64 q2),VE (.pointer (some ⟨g,0,none⟩)),VE (.pointer (some ⟨gK,p*7+3,none⟩)),VE (.pointer (some ⟨gK,p*7+3,none⟩)),VE (.int .i64 (q:Int)),VE (.int .i64 0),VE (.agg #[.int .i64 (q:Int),.int .i64 0]),VE (.int .i64 q1),VE (.bool false)] i (fun _ _=>False)) [] [0,1,2,4,5,7,8,9,11,12,14] (by kernel_rfl) (by kernel_rfl) (Ext.start w6) (fun _ _ h hb=>h.grow hb)
  stA ⟨?_,?_,?_,?_,?_,?_,?_,?_,?_,?_,?_,?_,?_,?_,?_,trivial⟩ ?_
 ·exact rU [0]
 ·exact rU [8]
 ·exact rU []
 ·exact rL [] fun hw=>(Below.cell hw hkl).trans c3
 ·exact rU [6]
 ·exact rU []
 ·intro ev wv hE hw hd
  refine rC (f:=171) (args:= #[.pointer (some ⟨g,0,none⟩),.agg #[.int .i64 (q:Int),.int .i64 1]]) [] hE hd (HQL.out _ (Below.trans HB6.out (Below.mono hw HB6.out.size))) ?_
  rintro e w' ⟨rfl,hb⟩
  exact⟨_,rfl,hb,rfl,fun h=>by cases h⟩
 ·exact rU [0]
 ·exact rU [8]
 ·exact rU []
 ·exact rL [] fun hw=>(Below.cell hw hkl).trans c3
 ·exact rU [5]
 ·exact rU []
 ·intro ev wv hE hw hd
  refine rC (f:=171) (args:= #[.pointer (some ⟨g,0,none⟩),.agg #[.int .i64 (q:Int),.int .i64 0]]) [] hE hd (HQH.out _ (Below.trans HB6.out (Below.mono hw HB6.out.size))) ?_
  rintro e w' ⟨rfl,hb⟩
  exact⟨_,rfl,hb,rfl,fun h=>by cases h⟩
 ·exact rU []
 ·intro w7 hw
  iterate 15 rintro _ rfl _
  simp only [zA]
  change wpList Tryz.prog _ _ _ _ w7
  have HB7:=hid (Below.trans HB6.out (Below.mono hw HB6.out.size))
  have HT7:=hid (HT6.out.keep hw)
  clear hw c3 hkl HT6 HB6 HQL HQH
  go_wp2_with fail
  refine ζ2 ?_
  have y0:=HT7.out.get 0 rfl
  have y1:=HT7.out.get 1 rfl
  go_wp2_with fail
  refine(ζ1t g n c gK M r K p q k _ a1 a2 b w7 (HA.out.keep HB7.out) HK.out HRA.out.1 HEL.out HER.out rfl rfl HRA.out.2.1 HRA.out.2.2 HRB.out ?nd ?g1 ?g2 ?g3 hn).mono ?_
  case nd=>
   have HNP:=HND.out
   simp only [PT.places]at HNP
   exact(List.Perm.nodup_iff (List.perm_iff_count.2 fun j=>by simp only [List.count_append,List.count_cons];ac_rfl)).1 HNP
  case g1=>have:=h1;simp only [PT.height]at this;omega
  case g2=>have:=h1;simp only [PT.height]at this;omega
  case g3=>omega
  rintro e w8 ⟨K',rfl,hA8,hrp,hoff,hF8⟩
  have HR:=hid (show ζ4p g n c gK M r K (.node a1 q y a2) b p k.it w (.returned (.int .i64 (q:Int))) w8 from⟨K',_,rfl,hA8,BalR.right1 hrp hoff HBA.out HBB.out HC.out HC2.out,(Off.of HB7.out).trans hF8⟩)
  clear y0 y1 hA8 hrp hoff hF8
  go_wp2_with fail
  go_ret
  exact HR.out
theorem bal_r2 (g n c gK:Nat)(M r:Int)(K:KnL)(p:Nat)(k:Kn)(a1 c1 c2 b:PT)(q s:Nat)(y z:It)(w:World)(H:Ar 221 w g M r (some ⟨gK,0,none⟩) n c K)(hk:K[p]? =some k)(hl:k.l=(q:Int))(hr:k.r=b.root)(ra:Rp K (PT.node a1 q y (.node c1 s z c2)))(rb:Rp K b)(nd:(PT.node (PT.node a1 q y (.node c1 s z c2)) p k.it b).places.Nodup)(ba:(PT.node a1 q y (.node c1 s z c2)).bal)(bb:b.bal)(h1:(PT.node a1 q y (.node c1 s z c2)).height≤800)(h2:b.height≤800)(hn:n≤2000)(hc:(PT.node a1 q y (.node c1 s z c2)).height=b.height+2)(hc2:a1.height<(PT.node c1 s z c2).height):
  Calls Tryz.prog 161 #[.pointer (some ⟨g,0,none⟩),.int .i64 (p:Int)] w (ζ4p g n c gK M r K (PT.node a1 q y (.node c1 s z c2)) b p k.it w):=by
 have HA:=hid H
 have HK:=hid hk
 have HND:=hid nd
 have HEL:=hid hl
 have HER:=hid hr
 have HRA:=hid ra
 have HRB:=hid rb
 have HBA:=hid ba
 have HBB:=hid bb
 obtain⟨ha,hha⟩: ∃h:Int,((PT.node a1 q y (.node c1 s z c2)).height:Int)=h:=⟨_,rfl⟩
 obtain⟨hb,hhb⟩: ∃h:Int,(b.height:Int)=h:=⟨_,rfl⟩
 have HHA:=hid hha
 have HHB:=hid hhb
 have HHL:=hid (fun(w':World) (hb:Below w.heap.size w w')=>show Calls Tryz.prog 171 #[.pointer (some ⟨g,0,none⟩),.agg #[.int .i64 (p:Int),.int .i64 0]] w' (fun e w2=>e= .returned (.int .i64 ha)∧Below w'.heap.size w' w2)from ζ9 g n c gK M r K p false k ha w' (H.keep hb) hk (by rw [←hha];show hAt K k.l _;rw [hl];exact ra.hAt) hn)
 have HHR:=hid (fun(w':World) (hbb:Below w.heap.size w w')=>show Calls Tryz.prog 171 #[.pointer (some ⟨g,0,none⟩),.agg #[.int .i64 (p:Int),.int .i64 1]] w' (fun e w2=>e= .returned (.int .i64 hb)∧Below w'.heap.size w' w2)from ζ9 g n c gK M r K p true k hb w' (H.keep hbb) hk (by rw [←hhb];show hAt K k.r _;rw [hr];exact rb.hAt) hn)
 have bz1:0≤ha∧ha≤800:=by omega
 have bz2:0≤hb∧hb≤800:=by omega
 have HC2:=hid hc2
 obtain⟨q1,hq1⟩: ∃h:Int,(a1.height:Int)=h:=⟨_,rfl⟩
 obtain⟨q2,hq2⟩: ∃h:Int,((PT.node c1 s z c2).height:Int)=h:=⟨_,rfl⟩
 have HQH:=hid (fun(w':World) (hb:Below w.heap.size w w')=>show Calls Tryz.prog 171 #[.pointer (some ⟨g,0,none⟩),.agg #[.int .i64 (q:Int),.int .i64 0]] w' (fun e w2=>e= .returned (.int .i64 q1)∧Below w'.heap.size w' w2)from ζ9 g n c gK M r K q false _ q1 w' (HA.out.keep hb) HRA.out.1 (by rw [←hq1];exact HRA.out.2.1.hAt) hn)
 have HQL:=hid (fun(w':World) (hb:Below w.heap.size w w')=>show Calls Tryz.prog 171 #[.pointer (some ⟨g,0,none⟩),.agg #[.int .i64 (q:Int),.int .i64 1]] w' (fun e w2=>e= .returned (.int .i64 q2)∧Below w'.heap.size w' w2)from ζ9 g n c gK M r K q true _ q2 w' (HA.out.keep hb) HRA.out.1 (by rw [←hq2];exact HRA.out.2.2.hAt) hn)
 have d2:decide (q2 > q1)=true:=decide_eq_true (by omega)
 clear hq1 hq2 hc2
 have HC:=hid hc
 have d0:decide (ha<hb)=false:=decide_eq_false (by omega)
 obtain⟨d,hd⟩: ∃d:Int,ha-hb=d:=⟨_,rfl⟩
 have hw1:IntKind.i64.wrap (ha-hb)=d:=by rw [IntWalk.i64_in _ (by omega)];exact hd
 have d1:decide (d≤1)=false:=decide_eq_false (by omega)
 have hw2:IntKind.i64.wrap (1-0)=1:=by decide
 have HB0:=hid (Below.refl w.heap.size w)
 clear nd hl hr ra rb ba bb hha hhb hc hd H hk
 go_enter Tryz.func161,Tryz.ntmps161
 go_wp2_with fail
 refine(HHL.out w HB0.out).mono ?_
 rintro e w1 ⟨rfl,hb1⟩
 have HB1:=hid (HB0.out.trans (hb1.mono HB0.out.size))
 clear hb1
 go_wp2_with fail
 refine(HHR.out w1 HB1.out).mono ?_
 rintro e w2 ⟨rfl,hb2⟩
 have HB2:=hid (HB1.out.trans (hb2.mono HB1.out.size))
 clear hb2
 go_wp2_with fail
 refine(HHL.out w2 HB2.out).mono ?_
 rintro e w3 ⟨rfl,hb3⟩
 have HB3:=hid (HB2.out.trans (hb3.mono HB2.out.size))
 clear hb3
 go_wp2_with fail
 refine(HHR.out w3 HB3.out).mono ?_
 rintro e w4 ⟨rfl,hb4⟩
 have HB4:=hid (HB3.out.trans (hb4.mono HB3.out.size))
 clear hb4
 clear HHL HHR
 go_upto_region 9 with fail
 have HT5:=hid (Blk.new w4 #[.func (.func 172) #[] #[],.func (.func 173) #[] #[]] 248)
 have HB5:=hid (HB4.out.alloc HB4.out.size (.cells #[.func (.func 172) #[] #[],.func (.func 173) #[] #[]] 248))
 have HTW:=hid (show w.heap.size≤w4.heap.size from HB4.out.size)
 generalize w4.alloc (.cells #[.func (.func 172) #[] #[],.func (.func 173) #[] #[]] 248)=w5 at*
 generalize w4.heap.size=hT at*
 go_wp2_with fail
 refine(ζ47 g n c gK M r K p k w5 (HA.out.keep HB5.out) HK.out hn).mono ?_
 rintro e w6 ⟨rfl,hb6⟩
 have HB6:=hid (HB5.out.trans (hb6.mono HB5.out.size))
 have HT6:=hid (HT5.out.keep hb6)
 have c3:w6.cell? ⟨gK,p*7+3,none⟩=some (.int .i64 (q:Int)):=by have:=(HA.out.keep HB6.out).c3 HK.out;rw [HEL.out]at this;exact this
 have hkl:gK<w6.heap.size:=ζk (HA.out.keep HB6.out).o rfl
 clear hb6 HT5 HB5 HB4 HB3 HB2 HB1 HB0
 go_upto_region 10 with fail
 refine ζ4 15 (Ext w6)
  (fun i=>List.getD [VE (.pointer (some ⟨g,0,none⟩)),VE (.pointer (some ⟨gK,p*7+3,none⟩)),VE (.pointer (some ⟨gK,p*7+3,none⟩)),VE (.int .i64 (q:Int)),VE (.int .i64 1),VE (.agg #[.int .i64 (q:Int),.int .i64 1]),VE (.int .i64 q2),VE (.pointer (some ⟨g,0,none⟩)),VE (.pointer (some ⟨gK,p*7+3,none⟩)),VE (.pointer (some ⟨gK,p*7+3,none⟩)),VE (.int .i64 (q:Int)),VE (.int .i64 0),VE (.agg #[.int .i64 (q:Int),.int .i64 0]),VE (.int .i64 q1),VE (.bool true)] i (fun _ _=>False)) [] [0,1,2,4,5,7,8,9,11,12,14] (by kernel_rfl) (by kernel_rfl) (Ext.start w6) (fun _ _ h hb=>h.grow hb)
  stA ⟨?_,?_,?_,?_,?_,?_,?_,?_,?_,?_,?_,?_,?_,?_,?_,trivial⟩ ?_
 ·exact rU [0]
 ·exact rU [8]
 ·exact rU []
 ·exact rL [] fun hw=>(Below.cell hw hkl).trans c3
 ·exact rU [6]
 ·exact rU []
 ·intro ev wv hE hw hd
  refine rC (f:=171) (args:= #[.pointer (some ⟨g,0,none⟩),.agg #[.int .i64 (q:Int),.int .i64 1]]) [] hE hd (HQL.out _ (Below.trans HB6.out (Below.mono hw HB6.out.size))) ?_
  rintro e w' ⟨rfl,hb⟩
  exact⟨_,rfl,hb,rfl,fun h=>by cases h⟩
 ·exact rU [0]
 ·exact rU [8]
 ·exact rU []
 ·exact rL [] fun hw=>(Below.cell hw hkl).trans c3
 ·exact rU [5]
 ·exact rU []
 ·intro ev wv hE hw hd
  refine rC (f:=171) (args:= #[.pointer (some ⟨g,0,none⟩),.agg #[.int .i64 (q:Int),.int .i64 0]]) [] hE hd (HQH.out _ (Below.trans HB6.out (Below.mono hw HB6.out.size))) ?_
  rintro e w' ⟨rfl,hb⟩
  exact⟨_,rfl,hb,rfl,fun h=>by cases h⟩
 ·exact rU []
 ·intro w7 hw
  iterate 15 rintro _ rfl _
  simp only [zA]
  change wpList Tryz.prog _ _ _ _ w7
  have HB7:=hid (Below.trans HB6.out (Below.mono hw HB6.out.size))
  have HT7:=hid (HT6.out.keep hw)
  clear hw c3 hkl HT6 HB6 HQL HQH
  go_wp2_with fail
  refine ζ2 ?_
  have HND1:=PT.nd HND.out
  have HPQ:=hid (show p≠q∧p≠s from⟨fun e=>HND1.1 (by rw [e];simp [PT.places]),fun e=>HND1.1 (by rw [e];simp [PT.places])⟩)
  have HPM:=hid (show p∉(PT.node a1 q y c1).places∧p∉c2.places∧p∉b.places∧q∉b.places∧s∉b.places from⟨fun e=>HND1.1 (by simp only [PT.places,List.mem_append,List.mem_cons]at e ⊢;first | (rcases e with e | e | e <;> simp [e]) | simp [e]),fun e=>HND1.1 (by simp only [PT.places,List.mem_append,List.mem_cons]at e ⊢;first | (rcases e with e | e | e <;> simp [e]) | simp [e]),HND1.2.1,fun e=>HND1.2.2.2.2 q (by simp [PT.places]) e,fun e=>HND1.2.2.2.2 s (by simp [PT.places]) e⟩)
  have HN1:=hid (show (s :: q :: (a1.places++(c1.places++c2.places))).Nodup from(List.Perm.nodup_iff (List.perm_iff_count.2 fun j=>by simp only [PT.places,List.count_append,List.count_cons];ac_rfl)).1 HND1.2.2.1)
  have HN2:=hid (show (s :: p :: ((PT.node a1 q y c1).places++(c2.places++b.places))).Nodup from(List.Perm.nodup_iff (List.perm_iff_count.2 fun j=>by simp only [PT.places,List.count_append,List.count_cons];ac_rfl)).1 HND.out)
  have hgl:=HA.out.sz
  have hkl0:gK<w.heap.size:=ζk HA.out.o rfl
  have HTN:=hid (show ¬inAr g (some ⟨gK,0,none⟩) n c hT from fun e=>by
   have:=HTW.out
   rcases e with e | e
   ·omega
   ·have e:gK=hT:=own_is e
    omega)
  have HTN2:=hid (show hT≠gK by have:=HTW.out;omega)
  clear HND1 hgl hkl0
  go_upto_region 11 with fail
  refine ζ24 10 (fun S wx=>MidB 221 g n c gK M r hT #[.func (.func 172) #[] #[],.func (.func 173) #[] #[]] p k K (fun K1=>Rp K1 (.node (.node a1 q y c1) s z c2)∧∀j,j≠q→j≠s→K1[j]? =K[j]?) (inAr g (some ⟨gK,0,none⟩) n c) w (S 8) wx) (fun i=>List.getD [.pointer (some ⟨gK,p*7+3,none⟩),.int .i64 1,.pointer (some ⟨hT,1,none⟩),.func (.func 173) #[] #[],.pointer (some ⟨g,0,none⟩),.pointer (some ⟨gK,p*7+3,none⟩),.pointer (some ⟨gK,p*7+3,none⟩),.int .i64 (q:Int),.int .i64 (s:Int),.pointer (some ⟨gK,p*7+3,none⟩)] i undef) [0,1,2,4,5,6,9] (by kernel_rfl) (by kernel_rfl) ((show MidB 221 g n c gK M r hT #[.func (.func 172) #[] #[],.func (.func 173) #[] #[]] p k K (fun K1=>Rp K1 (.node (.node a1 q y c1) s z c2)∧∀j,j≠q→j≠s→K1[j]? =K[j]?) (inAr g (some ⟨gK,0,none⟩) n c) w false w7.drew from MidB.drew ⟨HT7.out,Off.of HB7.out,K,HA.out.keep HB7.out,HK.out,(fun h=>by cases h),fun _=>rfl⟩)) ⟨?_,?_,?_,?_,?_,?_,?_,?_,?_,?_,trivial⟩ ?_
  ·intro ev wv S hE hw hS hd
   refine ifw rfl (ifw rfl ⟨fun w=> ?_,hw⟩)
   have v8:ev (.tmp 8)= .pointer (some ⟨gK,p*7+3,none⟩):=hE.tmp 8 rfl
   obtain⟨e1,-,e2,-⟩:=hE;clear hd hw hS
   show _=Result.ok (Next.value (.pointer (some ⟨gK,p*7+3,none⟩))) w
   go_simp
  ·intro ev wv S hE hw hS hd
   refine ifw rfl (ifw rfl ⟨fun w=> ?_,hw⟩)
   have v6:ev (.tmp 6)= .int .i64 1:=hE.tmp 6 rfl
   obtain⟨e1,-,e2,-⟩:=hE;clear hd hw hS
   show _=Result.ok (Next.value (.int .i64 1)) w
   go_simp
  ·intro ev wv S hE hw hS hd
   refine ifw rfl (ifw rfl ⟨fun w=> ?_,hw⟩)
   have v7:ev (.tmp 7)= .pointer (some ⟨hT,0,none⟩):=hE.tmp 7 rfl
   have v58:ev (.tmp 58)= .int .i64 1:=(hd 1 (by decide)).2
   obtain⟨e1,-,e2,-⟩:=hE;clear hd hw hS
   show _=Result.ok (Next.value (.pointer (some ⟨hT,1,none⟩))) w
   go_simp
  ·refine sM fun ev wv S hE hw hS hd=> ?_
   have kx:=hw.1.get 1 rfl
   exact sE [] hE hd
  ·intro ev wv S hE hw hS hd
   refine ifw rfl (ifw rfl ⟨fun w=> ?_,hw⟩)
   have v0:ev (.tmp 0)= .pointer (some ⟨g,0,none⟩):=hE.tmp 0 rfl
   obtain⟨e1,-,e2,-⟩:=hE;clear hd hw hS
   show _=Result.ok (Next.value (.pointer (some ⟨g,0,none⟩))) w
   go_simp
  ·intro ev wv S hE hw hS hd
   refine ifw rfl (ifw rfl ⟨fun w=> ?_,hw⟩)
   have v8:ev (.tmp 8)= .pointer (some ⟨gK,p*7+3,none⟩):=hE.tmp 8 rfl
   obtain⟨e1,-,e2,-⟩:=hE;clear hd hw hS
   show _=Result.ok (Next.value (.pointer (some ⟨gK,p*7+3,none⟩))) w
   go_simp
  ·intro ev wv S hE hw hS hd
   refine ifw rfl (ifw rfl ⟨fun w=> ?_,hw⟩)
   have v62:ev (.tmp 62)= .pointer (some ⟨gK,p*7+3,none⟩):=(hd 5 (by decide)).2
   obtain⟨e1,-,e2,-⟩:=hE;clear hd hw hS
   show _=Result.ok (Next.value (.pointer (some ⟨gK,p*7+3,none⟩))) w
   go_simp
  ·refine sM fun ev wv S hE hw hS hd=> ?_
   have kx:wv.cell? ⟨gK,p*7+3,none⟩=some (.int .i64 (q:Int)):=by obtain⟨_,_,K1,h3,h4,_⟩:=hw;have:=h3.c3 h4;rw [HEL.out]at this;exact this
   exact sE [] hE hd
  ·intro ev wv S hE hw hS hd
   refine ifw rfl (ifn rfl ?_)
   have v60:ev (.tmp 60)= .func (.func 173) #[] #[]:=(hd 3 (by decide)).2
   have v61:ev (.tmp 61)= .pointer (some ⟨g,0,none⟩):=(hd 4 (by decide)).2
   have v64:ev (.tmp 64)= .int .i64 (q:Int):=(hd 7 (by decide)).2
   have hA0:Ar 221 wv g M r (some ⟨gK,0,none⟩) n c K:=by obtain⟨_,_,K1,h3,h4,_,h6⟩:=hw;rw [←h6 hS];exact h3
   have hT0:=hw.1
   have hF0:=hw.2.1
   refine set_call (f:=173) (args:= #[.pointer (some ⟨g,0,none⟩),.int .i64 (q:Int)]) ?_ (ζ27 g n c gK M r K q s _ _ a1 c1 c2 wv hA0 HRA.out.1 HRA.out.2.2.1 rfl rfl rfl rfl HRA.out.2.1 HRA.out.2.2.2.1 HRA.out.2.2.2.2 HN1.out (by have:=h1;simp only [PT.height]at this;omega) (by have:=h1;simp only [PT.height]at this;omega) (by have:=h1;simp only [PT.height]at this;omega) hn) ?_
   ·obtain⟨e1,-,e0,-⟩:=hE;clear hd hw hS
    go_simp
   ·rintro e w' ⟨K1,rfl,hA1,hrp,hoff,hF1⟩
    exact⟨_,rfl,rfl,⟨hF1.blk hT0 HTN.out,hF0.trans hF1,K1,hA1,by rw [hoff p HPQ.out.1 HPQ.out.2];exact HK.out,fun _=>⟨hrp,hoff⟩,(fun h=>by cases h)⟩⟩
  ·intro ev wv S hE hw hS hd
   refine ifw rfl (ifw rfl ⟨fun w=> ?_,hw⟩)
   have v57:ev (.tmp 57)= .pointer (some ⟨gK,p*7+3,none⟩):=(hd 0 (by decide)).2
   obtain⟨e1,-,e2,-⟩:=hE;clear hd hw hS
   show _=Result.ok (Next.value (.pointer (some ⟨gK,p*7+3,none⟩))) w
   go_simp
  ·intro S w8 hS hw
   intro v0 h0 _ v1 h1 _ v2 h2 _ v3 h3 _ v4 h4 _ v5 h5 _ v6 h6 _ v7 h7 _ v8 h8 _ v9 h9 _
   simp only [zA]
   obtain rfl:v0= .pointer (some ⟨gK,p*7+3,none⟩):=h0
   obtain rfl:v1= .int .i64 1:=h1
   obtain rfl:v2= .pointer (some ⟨hT,1,none⟩):=h2
   obtain rfl:v3= .func (.func 173) #[] #[]:=h3
   obtain rfl:v4= .pointer (some ⟨g,0,none⟩):=h4
   obtain rfl:v5= .pointer (some ⟨gK,p*7+3,none⟩):=h5
   obtain rfl:v6= .pointer (some ⟨gK,p*7+3,none⟩):=h6
   obtain rfl:v7= .int .i64 (q:Int):=h7
   obtain rfl:v8= .int .i64 (s:Int):=h8
   obtain rfl:v9= .pointer (some ⟨gK,p*7+3,none⟩):=h9
   change wpList Tryz.prog _ _ _ _ w8
   obtain⟨hT8,hF8,K1,hA8,hk8,hP8,_⟩:=hw
   have HS8:S 8=true:=hS 8 (by decide)
   have hP8:=hP8 HS8
   have HT8:=hid hT8
   have HF8:=hid hF8
   have HA8:=hid hA8
   have HK8:=hid hk8
   have HP8:=hid hP8
   have ce:=hA8.c3 hk8
   have fe:=hA8.fz (p*7+3)
   clear hT8 hF8 hA8 hk8 hP8 HS8
   go_wp2_with fail
   refine ζ2 ?_
   have HA9:=hid (HA8.out.putl HK8.out (s:Int))
   have HF9:=hid (HF8.out.put ⟨gK,p*7+3,none⟩ (.inl (.inr rfl)) (.int .i64 (s:Int)))
   have HT9:=hid (HT8.out.far HTN2.out (p*7+3) (.int .i64 (s:Int)))
   clear ce fe
   generalize w8.setCell ⟨gK,p*7+3,none⟩ (.int .i64 (s:Int))=w9 at*
   have y0:=HT9.out.get 0 rfl
   have y1:=HT9.out.get 1 rfl
   go_wp2_with fail
   have hks:K1[s]? =K1[s]? :=rfl
   refine(ζ1t g n c gK M r _ p s _ _ (.node a1 q y c1) c2 b w9 HA9.out (ζ6 HK8.out _) (by rw [List.getElem?_set_ne HPQ.out.2];exact HP8.out.1.1) rfl HER.out rfl rfl (HP8.out.1.2.1.set HPM.out.1 _) (HP8.out.1.2.2.set HPM.out.2.1 _) ((HRB.out.same fun j hj=>HP8.out.2 j (fun e=>HPM.out.2.2.2.1 (by rw [←e];exact hj)) (fun e=>HPM.out.2.2.2.2 (by rw [←e];exact hj))).set HPM.out.2.2.1 _) HN2.out (by have:=h1;simp only [PT.height]at this ⊢;omega) (by have:=h1;simp only [PT.height]at this;omega) (by omega) hn).mono ?_
   rintro e w10 ⟨K',rfl,hA10,hrp,hoff,hF10⟩
   have HR:=hid (show ζ4p g n c gK M r K (.node a1 q y (.node c1 s z c2)) b p k.it w (.returned (.int .i64 (s:Int))) w10 from⟨K',_,rfl,hA10,BalR.right2 hrp (fun j j1 j2 j3=>by rw [hoff j j1 j3,List.getElem?_set_ne (Ne.symm j1)];exact HP8.out.2 j j2 j3) HBA.out HBB.out HC.out HC2.out,HF9.out.trans hF10⟩)
   clear hA10 hrp hoff hF10
   clear y0 y1
   go_wp2_with fail
   go_ret
   exact HR.out
theorem bal_l1 (g n c gK:Nat)(M r:Int)(K:KnL)(p:Nat)(k:Kn)(a b1 b2:PT)(q:Nat)(y:It)(w:World)(H:Ar 221 w g M r (some ⟨gK,0,none⟩) n c K)(hk:K[p]? =some k)(hl:k.l=a.root)(hr:k.r=(q:Int))(ra:Rp K a)(rb:Rp K (PT.node b1 q y b2))(nd:(PT.node a p k.it (PT.node b1 q y b2)).places.Nodup)(ba:a.bal)(bb:(PT.node b1 q y b2).bal)(h1:a.height≤800)(h2:(PT.node b1 q y b2).height≤800)(hn:n≤2000)(hc:(PT.node b1 q y b2).height=a.height+2)(hc2:b1.height≤b2.height):
  Calls Tryz.prog 161 #[.pointer (some ⟨g,0,none⟩),.int .i64 (p:Int)] w (ζ4p g n c gK M r K a (PT.node b1 q y b2) p k.it w):=by
 have HA:=hid H
 have HK:=hid hk
 have HND:=hid nd
 have HEL:=hid hl
 have HER:=hid hr
 have HRA:=hid ra
 have HRB:=hid rb
 have HBA:=hid ba
 have HBB:=hid bb
 obtain⟨ha,hha⟩: ∃h:Int,(a.height:Int)=h:=⟨_,rfl⟩
 obtain⟨hb,hhb⟩: ∃h:Int,((PT.node b1 q y b2).height:Int)=h:=⟨_,rfl⟩
 have HHA:=hid hha
 have HHB:=hid hhb
 have HHL:=hid (fun(w':World) (hb:Below w.heap.size w w')=>show Calls Tryz.prog 171 #[.pointer (some ⟨g,0,none⟩),.agg #[.int .i64 (p:Int),.int .i64 0]] w' (fun e w2=>e= .returned (.int .i64 ha)∧Below w'.heap.size w' w2)from ζ9 g n c gK M r K p false k ha w' (H.keep hb) hk (by rw [←hha];show hAt K k.l _;rw [hl];exact ra.hAt) hn)
 have HHR:=hid (fun(w':World) (hbb:Below w.heap.size w w')=>show Calls Tryz.prog 171 #[.pointer (some ⟨g,0,none⟩),.agg #[.int .i64 (p:Int),.int .i64 1]] w' (fun e w2=>e= .returned (.int .i64 hb)∧Below w'.heap.size w' w2)from ζ9 g n c gK M r K p true k hb w' (H.keep hbb) hk (by rw [←hhb];show hAt K k.r _;rw [hr];exact rb.hAt) hn)
 have bz1:0≤ha∧ha≤800:=by omega
 have bz2:0≤hb∧hb≤800:=by omega
 have HC2:=hid hc2
 obtain⟨q1,hq1⟩: ∃h:Int,(b2.height:Int)=h:=⟨_,rfl⟩
 obtain⟨q2,hq2⟩: ∃h:Int,(b1.height:Int)=h:=⟨_,rfl⟩
 have HQH:=hid (fun(w':World) (hb:Below w.heap.size w w')=>show Calls Tryz.prog 171 #[.pointer (some ⟨g,0,none⟩),.agg #[.int .i64 (q:Int),.int .i64 1]] w' (fun e w2=>e= .returned (.int .i64 q1)∧Below w'.heap.size w' w2)from ζ9 g n c gK M r K q true _ q1 w' (HA.out.keep hb) HRB.out.1 (by rw [←hq1];exact HRB.out.2.2.hAt) hn)
 have HQL:=hid (fun(w':World) (hb:Below w.heap.size w w')=>show Calls Tryz.prog 171 #[.pointer (some ⟨g,0,none⟩),.agg #[.int .i64 (q:Int),.int .i64 0]] w' (fun e w2=>e= .returned (.int .i64 q2)∧Below w'.heap.size w' w2)from ζ9 g n c gK M r K q false _ q2 w' (HA.out.keep hb) HRB.out.1 (by rw [←hq2];exact HRB.out.2.1.hAt) hn)
 have d2:decide (q2 > q1)=false:=decide_eq_false (by omega)
 clear hq1 hq2 hc2
 have HC:=hid hc
 have d0:decide (ha<hb)=true:=decide_eq_true (by omega)
 obtain⟨d,hd⟩: ∃d:Int,hb-ha=d:=⟨_,rfl⟩
 have hw1:IntKind.i64.wrap (hb-ha)=d:=by rw [IntWalk.i64_in _ (by omega)];exact hd
 have d1:decide (d≤1)=false:=decide_eq_false (by omega)
 have hw2:IntKind.i64.wrap (1-1)=0:=by decide
 have HB0:=hid (Below.refl w.heap.size w)
 clear nd hl hr ra rb ba bb hha hhb hc hd H hk
 go_enter Tryz.func161,Tryz.ntmps161
 go_wp2_with fail
 refine(HHL.out w HB0.out).mono ?_
 rintro e w1 ⟨rfl,hb1⟩
 have HB1:=hid (HB0.out.trans (hb1.mono HB0.out.size))
 clear hb1
 go_wp2_with fail
 refine(HHR.out w1 HB1.out).mono ?_
 rintro e w2 ⟨rfl,hb2⟩
 have HB2:=hid (HB1.out.trans (hb2.mono HB1.out.size))
 clear hb2
 go_wp2_with fail
 refine(HHR.out w2 HB2.out).mono ?_
 rintro e w3 ⟨rfl,hb3⟩
 have HB3:=hid (HB2.out.trans (hb3.mono HB2.out.size))
 clear hb3
 go_wp2_with fail
 refine(HHL.out w3 HB3.out).mono ?_
 rintro e w4 ⟨rfl,hb4⟩
 have HB4:=hid (HB3.out.trans (hb4.mono HB3.out.size))
 clear hb4
 clear HHL HHR
 go_upto_region 9 with fail
 have HT5:=hid (Blk.new w4 #[.func (.func 172) #[] #[],.func (.func 173) #[] #[]] 248)
 have HB5:=hid (HB4.out.alloc HB4.out.size (.cells #[.func (.func 172) #[] #[],.func (.func 173) #[] #[]] 248))
 have HTW:=hid (show w.heap.size≤w4.heap.size from HB4.out.size)
 generalize w4.alloc (.cells #[.func (.func 172) #[] #[],.func (.func 173) #[] #[]] 248)=w5 at*
 generalize w4.heap.size=hT at*
 go_wp2_with fail
 refine(side_true g n c gK M r K p k w5 (HA.out.keep HB5.out) HK.out hn).mono ?_
 rintro e w6 ⟨rfl,hb6⟩
 have HB6:=hid (HB5.out.trans (hb6.mono HB5.out.size))
 have HT6:=hid (HT5.out.keep hb6)
 have c3:w6.cell? ⟨gK,p*7+4,none⟩=some (.int .i64 (q:Int)):=by have:=(HA.out.keep HB6.out).c4 HK.out;rw [HER.out]at this;exact this
 have hkl:gK<w6.heap.size:=ζk (HA.out.keep HB6.out).o rfl
 clear hb6 HT5 HB5 HB4 HB3 HB2 HB1 HB0
 go_upto_region 10 with fail
 refine ζ4 15 (Ext w6)
  (fun i=>List.getD [VE (.pointer (some ⟨g,0,none⟩)),VE (.pointer (some ⟨gK,p*7+4,none⟩)),VE (.pointer (some ⟨gK,p*7+4,none⟩)),VE (.int .i64 (q:Int)),VE (.int .i64 0),VE (.agg #[.int .i64 (q:Int),.int .i64 0]),VE (.int .i64 q2),VE (.pointer (some ⟨g,0,none⟩)),VE (.pointer (some ⟨gK,p*7+4,none⟩)),VE (.pointer (some ⟨gK,p*7+4,none⟩)),VE (.int .i64 (q:Int)),VE (.int .i64 1),VE (.agg #[.int .i64 (q:Int),.int .i64 1]),VE (.int .i64 q1),VE (.bool false)] i (fun _ _=>False)) [] [0,1,2,4,5,7,8,9,11,12,14] (by kernel_rfl) (by kernel_rfl) (Ext.start w6) (fun _ _ h hb=>h.grow hb)
  stA ⟨?_,?_,?_,?_,?_,?_,?_,?_,?_,?_,?_,?_,?_,?_,?_,trivial⟩ ?_
 ·exact rU [0]
 ·exact rU [8]
 ·exact rU []
 ·exact rL [] fun hw=>(Below.cell hw hkl).trans c3
 ·exact rU [6]
 ·exact rU []
 ·intro ev wv hE hw hd
  refine rC (f:=171) (args:= #[.pointer (some ⟨g,0,none⟩),.agg #[.int .i64 (q:Int),.int .i64 0]]) [] hE hd (HQL.out _ (Below.trans HB6.out (Below.mono hw HB6.out.size))) ?_
  rintro e w' ⟨rfl,hb⟩
  exact⟨_,rfl,hb,rfl,fun h=>by cases h⟩
 ·exact rU [0]
 ·exact rU [8]
 ·exact rU []
 ·exact rL [] fun hw=>(Below.cell hw hkl).trans c3
 ·exact rU [5]
 ·exact rU []
 ·intro ev wv hE hw hd
  refine rC (f:=171) (args:= #[.pointer (some ⟨g,0,none⟩),.agg #[.int .i64 (q:Int),.int .i64 1]]) [] hE hd (HQH.out _ (Below.trans HB6.out (Below.mono hw HB6.out.size))) ?_
  rintro e w' ⟨rfl,hb⟩
  exact⟨_,rfl,hb,rfl,fun h=>by cases h⟩
 ·exact rU []
 ·intro w7 hw
  iterate 15 rintro _ rfl _
  simp only [zA]
  change wpList Tryz.prog _ _ _ _ w7
  have HB7:=hid (Below.trans HB6.out (Below.mono hw HB6.out.size))
  have HT7:=hid (HT6.out.keep hw)
  clear hw c3 hkl HT6 HB6 HQL HQH
  go_wp2_with fail
  refine ζ2 ?_
  have y0:=HT7.out.get 0 rfl
  have y1:=HT7.out.get 1 rfl
  go_wp2_with fail
  refine(ζ27 g n c gK M r K p q k _ a b1 b2 w7 (HA.out.keep HB7.out) HK.out HRB.out.1 HEL.out HER.out rfl rfl HRA.out HRB.out.2.1 HRB.out.2.2 ?nd ?g1 ?g2 ?g3 hn).mono ?_
  case nd=>
   have HNP:=HND.out
   simp only [PT.places]at HNP
   exact(List.Perm.nodup_iff (List.perm_iff_count.2 fun j=>by simp only [List.count_append,List.count_cons];ac_rfl)).1 HNP
  case g1=>omega
  case g2=>have:=h2;simp only [PT.height]at this;omega
  case g3=>have:=h2;simp only [PT.height]at this;omega
  rintro e w8 ⟨K',rfl,hA8,hrp,hoff,hF8⟩
  have HR:=hid (show ζ4p g n c gK M r K a (.node b1 q y b2) p k.it w (.returned (.int .i64 (q:Int))) w8 from⟨K',_,rfl,hA8,BalR.left1 hrp hoff HBA.out HBB.out HC.out HC2.out,(Off.of HB7.out).trans hF8⟩)
  clear y0 y1 hA8 hrp hoff hF8
  go_wp2_with fail
  go_ret
  exact HR.out
theorem bal_l2 (g n c gK:Nat)(M r:Int)(K:KnL)(p:Nat)(k:Kn)(a c1 c2 b2:PT)(q s:Nat)(y z:It)(w:World)(H:Ar 221 w g M r (some ⟨gK,0,none⟩) n c K)(hk:K[p]? =some k)(hl:k.l=a.root)(hr:k.r=(q:Int))(ra:Rp K a)(rb:Rp K (PT.node (.node c1 s z c2) q y b2))(nd:(PT.node a p k.it (PT.node (.node c1 s z c2) q y b2)).places.Nodup)(ba:a.bal)(bb:(PT.node (.node c1 s z c2) q y b2).bal)(h1:a.height≤800)(h2:(PT.node (.node c1 s z c2) q y b2).height≤800)(hn:n≤2000)(hc:(PT.node (.node c1 s z c2) q y b2).height=a.height+2)(hc2:b2.height<(PT.node c1 s z c2).height):
  Calls Tryz.prog 161 #[.pointer (some ⟨g,0,none⟩),.int .i64 (p:Int)] w (ζ4p g n c gK M r K a (PT.node (.node c1 s z c2) q y b2) p k.it w):=by
 have HA:=hid H
 have HK:=hid hk
 have HND:=hid nd
 have HEL:=hid hl
 have HER:=hid hr
 have HRA:=hid ra
 have HRB:=hid rb
 have HBA:=hid ba
 have HBB:=hid bb
 obtain⟨ha,hha⟩: ∃h:Int,(a.height:Int)=h:=⟨_,rfl⟩
 obtain⟨hb,hhb⟩: ∃h:Int,((PT.node (.node c1 s z c2) q y b2).height:Int)=h:=⟨_,rfl⟩
 have HHA:=hid hha
 have HHB:=hid hhb
 have HHL:=hid (fun(w':World) (hb:Below w.heap.size w w')=>show Calls Tryz.prog 171 #[.pointer (some ⟨g,0,none⟩),.agg #[.int .i64 (p:Int),.int .i64 0]] w' (fun e w2=>e= .returned (.int .i64 ha)∧Below w'.heap.size w' w2)from ζ9 g n c gK M r K p false k ha w' (H.keep hb) hk (by rw [←hha];show hAt K k.l _;rw [hl];exact ra.hAt) hn)
 have HHR:=hid (fun(w':World) (hbb:Below w.heap.size w w')=>show Calls Tryz.prog 171 #[.pointer (some ⟨g,0,none⟩),.agg #[.int .i64 (p:Int),.int .i64 1]] w' (fun e w2=>e= .returned (.int .i64 hb)∧Below w'.heap.size w' w2)from ζ9 g n c gK M r K p true k hb w' (H.keep hbb) hk (by rw [←hhb];show hAt K k.r _;rw [hr];exact rb.hAt) hn)
 have bz1:0≤ha∧ha≤800:=by omega
 have bz2:0≤hb∧hb≤800:=by omega
 have HC2:=hid hc2
 obtain⟨q1,hq1⟩: ∃h:Int,(b2.height:Int)=h:=⟨_,rfl⟩
 obtain⟨q2,hq2⟩: ∃h:Int,((PT.node c1 s z c2).height:Int)=h:=⟨_,rfl⟩
 have HQH:=hid (fun(w':World) (hb:Below w.heap.size w w')=>show Calls Tryz.prog 171 #[.pointer (some ⟨g,0,none⟩),.agg #[.int .i64 (q:Int),.int .i64 1]] w' (fun e w2=>e= .returned (.int .i64 q1)∧Below w'.heap.size w' w2)from ζ9 g n c gK M r K q true _ q1 w' (HA.out.keep hb) HRB.out.1 (by rw [←hq1];exact HRB.out.2.2.hAt) hn)
 have HQL:=hid (fun(w':World) (hb:Below w.heap.size w w')=>show Calls Tryz.prog 171 #[.pointer (some ⟨g,0,none⟩),.agg #[.int .i64 (q:Int),.int .i64 0]] w' (fun e w2=>e= .returned (.int .i64 q2)∧Below w'.heap.size w' w2)from ζ9 g n c gK M r K q false _ q2 w' (HA.out.keep hb) HRB.out.1 (by rw [←hq2];exact HRB.out.2.1.hAt) hn)
 have d2:decide (q2 > q1)=true:=decide_eq_true (by omega)
 clear hq1 hq2 hc2
 have HC:=hid hc
 have d0:decide (ha<hb)=true:=decide_eq_true (by omega)
 obtain⟨d,hd⟩: ∃d:Int,hb-ha=d:=⟨_,rfl⟩
 have hw1:IntKind.i64.wrap (hb-ha)=d:=by rw [IntWalk.i64_in _ (by omega)];exact hd
 have d1:decide (d≤1)=false:=decide_eq_false (by omega)
 have hw2:IntKind.i64.wrap (1-1)=0:=by decide
 have HB0:=hid (Below.refl w.heap.size w)
 clear nd hl hr ra rb ba bb hha hhb hc hd H hk
 go_enter Tryz.func161,Tryz.ntmps161
 go_wp2_with fail
 refine(HHL.out w HB0.out).mono ?_
 rintro e w1 ⟨rfl,hb1⟩
 have HB1:=hid (HB0.out.trans (hb1.mono HB0.out.size))
 clear hb1
 go_wp2_with fail
 refine(HHR.out w1 HB1.out).mono ?_
 rintro e w2 ⟨rfl,hb2⟩
 have HB2:=hid (HB1.out.trans (hb2.mono HB1.out.size))
 clear hb2
 go_wp2_with fail
 refine(HHR.out w2 HB2.out).mono ?_
 rintro e w3 ⟨rfl,hb3⟩
 have HB3:=hid (HB2.out.trans (hb3.mono HB2.out.size))
 clear hb3
 go_wp2_with fail
 refine(HHL.out w3 HB3.out).mono ?_
 rintro e w4 ⟨rfl,hb4⟩
 have HB4:=hid (HB3.out.trans (hb4.mono HB3.out.size))
 clear hb4
 clear HHL HHR
 go_upto_region 9 with fail
 have HT5:=hid (Blk.new w4 #[.func (.func 172) #[] #[],.func (.func 173) #[] #[]] 248)
 have HB5:=hid (HB4.out.alloc HB4.out.size (.cells #[.func (.func 172) #[] #[],.func (.func 173) #[] #[]] 248))
 have HTW:=hid (show w.heap.size≤w4.heap.size from HB4.out.size)
 generalize w4.alloc (.cells #[.func (.func 172) #[] #[],.func (.func 173) #[] #[]] 248)=w5 at*
 generalize w4.heap.size=hT at*
 go_wp2_with fail
 refine(side_true g n c gK M r K p k w5 (HA.out.keep HB5.out) HK.out hn).mono ?_
 rintro e w6 ⟨rfl,hb6⟩
 have HB6:=hid (HB5.out.trans (hb6.mono HB5.out.size))
 have HT6:=hid (HT5.out.keep hb6)
 have c3:w6.cell? ⟨gK,p*7+4,none⟩=some (.int .i64 (q:Int)):=by have:=(HA.out.keep HB6.out).c4 HK.out;rw [HER.out]at this;exact this
 have hkl:gK<w6.heap.size:=ζk (HA.out.keep HB6.out).o rfl
 clear hb6 HT5 HB5 HB4 HB3 HB2 HB1 HB0
 go_upto_region 10 with fail
 refine ζ4 15 (Ext w6)
  (fun i=>List.getD [VE (.pointer (some ⟨g,0,none⟩)),VE (.pointer (some ⟨gK,p*7+4,none⟩)),VE (.pointer (some ⟨gK,p*7+4,none⟩)),VE (.int .i64 (q:Int)),VE (.int .i64 0),VE (.agg #[.int .i64 (q:Int),.int .i64 0]),VE (.int .i64 q2),VE (.pointer (some ⟨g,0,none⟩)),VE (.pointer (some ⟨gK,p*7+4,none⟩)),VE (.pointer (some ⟨gK,p*7+4,none⟩)),VE (.int .i64 (q:Int)),VE (.int .i64 1),VE (.agg #[.int .i64 (q:Int),.int .i64 1]),VE (.int .i64 q1),VE (.bool true)] i (fun _ _=>False)) [] [0,1,2,4,5,7,8,9,11,12,14] (by kernel_rfl) (by kernel_rfl) (Ext.start w6) (fun _ _ h hb=>h.grow hb)
  stA ⟨?_,?_,?_,?_,?_,?_,?_,?_,?_,?_,?_,?_,?_,?_,?_,trivial⟩ ?_
 ·exact rU [0]
 ·exact rU [8]
 ·exact rU []
 ·exact rL [] fun hw=>(Below.cell hw hkl).trans c3
 ·exact rU [6]
 ·exact rU []
 ·intro ev wv hE hw hd
  refine rC (f:=171) (args:= #[.pointer (some ⟨g,0,none⟩),.agg #[.int .i64 (q:Int),.int .i64 0]]) [] hE hd (HQL.out _ (Below.trans HB6.out (Below.mono hw HB6.out.size))) ?_
  rintro e w' ⟨rfl,hb⟩
  exact⟨_,rfl,hb,rfl,fun h=>by cases h⟩
 ·exact rU [0]
 ·exact rU [8]
 ·exact rU []
 ·exact rL [] fun hw=>(Below.cell hw hkl).trans c3
 ·exact rU [5]
 ·exact rU []
 ·intro ev wv hE hw hd
  refine rC (f:=171) (args:= #[.pointer (some ⟨g,0,none⟩),.agg #[.int .i64 (q:Int),.int .i64 1]]) [] hE hd (HQH.out _ (Below.trans HB6.out (Below.mono hw HB6.out.size))) ?_
  rintro e w' ⟨rfl,hb⟩
  exact⟨_,rfl,hb,rfl,fun h=>by cases h⟩
 ·exact rU []
 ·intro w7 hw
  iterate 15 rintro _ rfl _
  simp only [zA]
  change wpList Tryz.prog _ _ _ _ w7
  have HB7:=hid (Below.trans HB6.out (Below.mono hw HB6.out.size))
  have HT7:=hid (HT6.out.keep hw)
  clear hw c3 hkl HT6 HB6 HQL HQH
  go_wp2_with fail
  refine ζ2 ?_
  have HND1:=PT.nd HND.out
  have HPQ:=hid (show p≠q∧p≠s from⟨fun e=>HND1.2.1 (by rw [e];simp [PT.places]),fun e=>HND1.2.1 (by rw [e];simp [PT.places])⟩)
  have HPM:=hid (show p∉c1.places∧p∉(PT.node c2 q y b2).places∧p∉a.places∧q∉a.places∧s∉a.places from⟨fun e=>HND1.2.1 (by simp only [PT.places,List.mem_append,List.mem_cons]at e ⊢;first | (rcases e with e | e | e <;> simp [e]) | simp [e]),fun e=>HND1.2.1 (by simp only [PT.places,List.mem_append,List.mem_cons]at e ⊢;first | (rcases e with e | e | e <;> simp [e]) | simp [e]),HND1.1,fun e=>HND1.2.2.2.2 q e (by simp [PT.places]),fun e=>HND1.2.2.2.2 s e (by simp [PT.places])⟩)
  have HN1:=hid (show (s :: q :: (c1.places++(c2.places++b2.places))).Nodup from(List.Perm.nodup_iff (List.perm_iff_count.2 fun j=>by simp only [PT.places,List.count_append,List.count_cons];ac_rfl)).1 HND1.2.2.2.1)
  have HN2:=hid (show (s :: p :: (a.places++(c1.places++(PT.node c2 q y b2).places))).Nodup from(List.Perm.nodup_iff (List.perm_iff_count.2 fun j=>by simp only [PT.places,List.count_append,List.count_cons];ac_rfl)).1 HND.out)
  have hgl:=HA.out.sz
  have hkl0:gK<w.heap.size:=ζk HA.out.o rfl
  have HTN:=hid (show ¬inAr g (some ⟨gK,0,none⟩) n c hT from fun e=>by
   have:=HTW.out
   rcases e with e | e
   ·omega
   ·have e:gK=hT:=own_is e
    omega)
  have HTN2:=hid (show hT≠gK by have:=HTW.out;omega)
  clear HND1 hgl hkl0
  go_upto_region 11 with fail
  refine ζ24 10 (fun S wx=>MidB 221 g n c gK M r hT #[.func (.func 172) #[] #[],.func (.func 173) #[] #[]] p k K (fun K1=>Rp K1 (.node c1 s z (.node c2 q y b2))∧∀j,j≠q→j≠s→K1[j]? =K[j]?) (inAr g (some ⟨gK,0,none⟩) n c) w (S 8) wx) (fun i=>List.getD [.pointer (some ⟨gK,p*7+4,none⟩),.int .i64 0,.pointer (some ⟨hT,0,none⟩),.func (.func 172) #[] #[],.pointer (some ⟨g,0,none⟩),.pointer (some ⟨gK,p*7+4,none⟩),.pointer (some ⟨gK,p*7+4,none⟩),.int .i64 (q:Int),.int .i64 (s:Int),.pointer (some ⟨gK,p*7+4,none⟩)] i undef) [0,1,2,4,5,6,9] (by kernel_rfl) (by kernel_rfl) ((show MidB 221 g n c gK M r hT #[.func (.func 172) #[] #[],.func (.func 173) #[] #[]] p k K (fun K1=>Rp K1 (.node c1 s z (.node c2 q y b2))∧∀j,j≠q→j≠s→K1[j]? =K[j]?) (inAr g (some ⟨gK,0,none⟩) n c) w false w7.drew from MidB.drew ⟨HT7.out,Off.of HB7.out,K,HA.out.keep HB7.out,HK.out,(fun h=>by cases h),fun _=>rfl⟩)) ⟨?_,?_,?_,?_,?_,?_,?_,?_,?_,?_,trivial⟩ ?_
  ·intro ev wv S hE hw hS hd
   refine ifw rfl (ifw rfl ⟨fun w=> ?_,hw⟩)
   have v8:ev (.tmp 8)= .pointer (some ⟨gK,p*7+4,none⟩):=hE.tmp 8 rfl
   obtain⟨e1,-,e2,-⟩:=hE;clear hd hw hS
   show _=Result.ok (Next.value (.pointer (some ⟨gK,p*7+4,none⟩))) w
   go_simp
  ·intro ev wv S hE hw hS hd
   refine ifw rfl (ifw rfl ⟨fun w=> ?_,hw⟩)
   have v6:ev (.tmp 6)= .int .i64 0:=hE.tmp 6 rfl
   obtain⟨e1,-,e2,-⟩:=hE;clear hd hw hS
   show _=Result.ok (Next.value (.int .i64 0)) w
   go_simp
  ·intro ev wv S hE hw hS hd
   refine ifw rfl (ifw rfl ⟨fun w=> ?_,hw⟩)
   have v7:ev (.tmp 7)= .pointer (some ⟨hT,0,none⟩):=hE.tmp 7 rfl
   have v58:ev (.tmp 58)= .int .i64 0:=(hd 1 (by decide)).2
   obtain⟨e1,-,e2,-⟩:=hE;clear hd hw hS
   show _=Result.ok (Next.value (.pointer (some ⟨hT,0,none⟩))) w
   go_simp
  ·refine sM fun ev wv S hE hw hS hd=> ?_
   have kx:=hw.1.get 0 rfl
   exact sE [] hE hd
  ·intro ev wv S hE hw hS hd
   refine ifw rfl (ifw rfl ⟨fun w=> ?_,hw⟩)
   have v0:ev (.tmp 0)= .pointer (some ⟨g,0,none⟩):=hE.tmp 0 rfl
   obtain⟨e1,-,e2,-⟩:=hE;clear hd hw hS
   show _=Result.ok (Next.value (.pointer (some ⟨g,0,none⟩))) w
   go_simp
  ·intro ev wv S hE hw hS hd
   refine ifw rfl (ifw rfl ⟨fun w=> ?_,hw⟩)
   have v8:ev (.tmp 8)= .pointer (some ⟨gK,p*7+4,none⟩):=hE.tmp 8 rfl
   obtain⟨e1,-,e2,-⟩:=hE;clear hd hw hS
   show _=Result.ok (Next.value (.pointer (some ⟨gK,p*7+4,none⟩))) w
   go_simp
  ·intro ev wv S hE hw hS hd
   refine ifw rfl (ifw rfl ⟨fun w=> ?_,hw⟩)
   have v62:ev (.tmp 62)= .pointer (some ⟨gK,p*7+4,none⟩):=(hd 5 (by decide)).2
   obtain⟨e1,-,e2,-⟩:=hE;clear hd hw hS
   show _=Result.ok (Next.value (.pointer (some ⟨gK,p*7+4,none⟩))) w
   go_simp
  ·refine sM fun ev wv S hE hw hS hd=> ?_
   have kx:wv.cell? ⟨gK,p*7+4,none⟩=some (.int .i64 (q:Int)):=by obtain⟨_,_,K1,h3,h4,_⟩:=hw;have:=h3.c4 h4;rw [HER.out]at this;exact this
   exact sE [] hE hd
  ·intro ev wv S hE hw hS hd
   refine ifw rfl (ifn rfl ?_)
   have v60:ev (.tmp 60)= .func (.func 172) #[] #[]:=(hd 3 (by decide)).2
   have v61:ev (.tmp 61)= .pointer (some ⟨g,0,none⟩):=(hd 4 (by decide)).2
   have v64:ev (.tmp 64)= .int .i64 (q:Int):=(hd 7 (by decide)).2
   have hA0:Ar 221 wv g M r (some ⟨gK,0,none⟩) n c K:=by obtain⟨_,_,K1,h3,h4,_,h6⟩:=hw;rw [←h6 hS];exact h3
   have hT0:=hw.1
   have hF0:=hw.2.1
   refine set_call (f:=172) (args:= #[.pointer (some ⟨g,0,none⟩),.int .i64 (q:Int)]) ?_ (ζ1t g n c gK M r K q s _ _ c1 c2 b2 wv hA0 HRB.out.1 HRB.out.2.1.1 rfl rfl rfl rfl HRB.out.2.1.2.1 HRB.out.2.1.2.2 HRB.out.2.2 HN1.out (by have:=h2;simp only [PT.height]at this;omega) (by have:=h2;simp only [PT.height]at this;omega) (by have:=h2;simp only [PT.height]at this;omega) hn) ?_
   ·obtain⟨e1,-,e0,-⟩:=hE;clear hd hw hS
    go_simp
   ·rintro e w' ⟨K1,rfl,hA1,hrp,hoff,hF1⟩
    exact⟨_,rfl,rfl,⟨hF1.blk hT0 HTN.out,hF0.trans hF1,K1,hA1,by rw [hoff p HPQ.out.1 HPQ.out.2];exact HK.out,fun _=>⟨hrp,hoff⟩,(fun h=>by cases h)⟩⟩
  ·intro ev wv S hE hw hS hd
   refine ifw rfl (ifw rfl ⟨fun w=> ?_,hw⟩)
   have v57:ev (.tmp 57)= .pointer (some ⟨gK,p*7+4,none⟩):=(hd 0 (by decide)).2
   obtain⟨e1,-,e2,-⟩:=hE;clear hd hw hS
   show _=Result.ok (Next.value (.pointer (some ⟨gK,p*7+4,none⟩))) w
   go_simp
  ·intro S w8 hS hw
   intro v0 h0 _ v1 h1 _ v2 h2 _ v3 h3 _ v4 h4 _ v5 h5 _ v6 h6 _ v7 h7 _ v8 h8 _ v9 h9 _
   simp only [zA]
   obtain rfl:v0= .pointer (some ⟨gK,p*7+4,none⟩):=h0
   obtain rfl:v1= .int .i64 0:=h1
   obtain rfl:v2= .pointer (some ⟨hT,0,none⟩):=h2
   obtain rfl:v3= .func (.func 172) #[] #[]:=h3
   obtain rfl:v4= .pointer (some ⟨g,0,none⟩):=h4
   obtain rfl:v5= .pointer (some ⟨gK,p*7+4,none⟩):=h5
   obtain rfl:v6= .pointer (some ⟨gK,p*7+4,none⟩):=h6
   obtain rfl:v7= .int .i64 (q:Int):=h7
   obtain rfl:v8= .int .i64 (s:Int):=h8
   obtain rfl:v9= .pointer (some ⟨gK,p*7+4,none⟩):=h9
   change wpList Tryz.prog _ _ _ _ w8
   obtain⟨hT8,hF8,K1,hA8,hk8,hP8,_⟩:=hw
   have HS8:S 8=true:=hS 8 (by decide)
   have hP8:=hP8 HS8
   have HT8:=hid hT8
   have HF8:=hid hF8
   have HA8:=hid hA8
   have HK8:=hid hk8
   have HP8:=hid hP8
   have ce:=hA8.c4 hk8
   have fe:=hA8.fz (p*7+4)
   clear hT8 hF8 hA8 hk8 hP8 HS8
   go_wp2_with fail
   refine ζ2 ?_
   have HA9:=hid (HA8.out.putr HK8.out (s:Int))
   have HF9:=hid (HF8.out.put ⟨gK,p*7+4,none⟩ (.inl (.inr rfl)) (.int .i64 (s:Int)))
   have HT9:=hid (HT8.out.far HTN2.out (p*7+4) (.int .i64 (s:Int)))
   clear ce fe
   generalize w8.setCell ⟨gK,p*7+4,none⟩ (.int .i64 (s:Int))=w9 at*
   have y0:=HT9.out.get 0 rfl
   have y1:=HT9.out.get 1 rfl
   go_wp2_with fail
   refine(ζ27 g n c gK M r _ p s _ _ a c1 (.node c2 q y b2) w9 HA9.out (ζ6 HK8.out _) (by rw [List.getElem?_set_ne HPQ.out.2];exact HP8.out.1.1) HEL.out rfl rfl rfl ((HRA.out.same fun j hj=>HP8.out.2 j (fun e=>HPM.out.2.2.2.1 (by rw [←e];exact hj)) (fun e=>HPM.out.2.2.2.2 (by rw [←e];exact hj))).set HPM.out.2.2.1 _) (HP8.out.1.2.1.set HPM.out.1 _) (HP8.out.1.2.2.set HPM.out.2.1 _) HN2.out (by omega) (by have:=h2;simp only [PT.height]at this;omega) (by have:=h2;simp only [PT.height]at this ⊢;omega) hn).mono ?_
   rintro e w10 ⟨K',rfl,hA10,hrp,hoff,hF10⟩
   have HR:=hid (show ζ4p g n c gK M r K a (.node (.node c1 s z c2) q y b2) p k.it w (.returned (.int .i64 (s:Int))) w10 from⟨K',_,rfl,hA10,BalR.left2 hrp (fun j j1 j2 j3=>by rw [hoff j j1 j3,List.getElem?_set_ne (Ne.symm j1)];exact HP8.out.2 j j2 j3) HBA.out HBB.out HC.out HC2.out,HF9.out.trans hF10⟩)
   clear hA10 hrp hoff hF10
   clear y0 y1
   go_wp2_with fail
   go_ret
   exact HR.out
end Go.Proofs.YthagdonmijhpdaaGreat

/- Contract of package bitemp -/
import Derived.Test.YthagdonmijhpdaaGreatBpG
import Derived.Test.YthagdonmijhpdaaGreatBpS5
import Derived.Test.YthagdonmijhpdaaGreatBp6
import Derived.Test.YthagdonmijhpdaaGreatBpHs
import Derived.Test.YthagdonmijhpdaaGreatBpHd
open Go.Lib (hid)
set_option linter.unusedSimpArgs false
set_option linter.unusedVariables false
set_option maxHeartbeats 2000000
set_option maxRecDepth 8000
namespace Corr
open Go Go.RowKit
def orRc (a b:Int):Int:=if a=0 then b else a
def cfRc (x y:Rc):Int:=orRc (Lib.compareInt x.1 y.1) (Lib.compareInt x.2.2.1 y.2.2.1)
theorem cfRc_lt {x y:Rc} :cfRc x y<0↔x.1<y.1∨(x.1=y.1∧x.2.2.1<y.2.2.1):=by
 unfold cfRc orRc Lib.compareInt
 repeat' split
 all_goals omega
end Corr
namespace Go.Proofs.YthagdonmijhpdaaGreat
open Go.RowKit Corr Go.Sort Go.Shelf
theorem swoRc:SWO (ltOf cfRc) where
 irrefl:=fun x=>decide_eq_false fun h=>by have:=cfRc_lt.1 h;omega
 trans:=fun x y z h1 h2=>decide_eq_true (cfRc_lt.2 (by have:=cfRc_lt.1 (of_decide_eq_true h1);have:=cfRc_lt.1 (of_decide_eq_true h2);omega))
 ntrans:=fun x y z h1 h2=>decide_eq_false fun h=>by
  have a:=cfRc_lt.1 h
  have b: ¬_:=fun e=>of_decide_eq_false h1 (cfRc_lt.2 e)
  have c: ¬_:=fun e=>of_decide_eq_false h2 (cfRc_lt.2 e)
  omega
theorem bor_any (g:Nat)(a b:Int)(w:World)(hb:Blk w g #[.int .i64 a,.int .i64 b]):Calls Tryz.prog 61 #[.slice (some ⟨g,0,none⟩) 2 2] w fun e w'=>e= .returned (.int .i64 (orRc a b))∧w'=w:=by
 have x0:=hb.get 0 rfl
 have x1:=hb.get 1 rfl
 clear hb
 obtain⟨r,hr⟩: ∃r,orRc a b=r:=⟨_,rfl⟩
 have HR:=hid hr
 rw [hr]
 clear hr
 go_enter Tryz.func61,Tryz.ntmps61
 go_wp2_with fail
 go_loopw [8] (fun u wr=>wr=w∧∃j:Nat,u= .int .i64 (j:Int)∧j≤2∧Hid ((0<j→a=0)∧(1<j→b=0))) (fun u _=>(2-intOf u).toNat)
 case atStart=>exact⟨rfl,0,rfl,by omega,hid ⟨fun h=>by omega,fun h=>by omega⟩⟩
 case round=>
  obtain⟨rfl,j,rfl,hj,HJ⟩:=hrel
  by_cases h0:j=0
  ·subst h0
   clear HJ
   by_cases ha:a=0
   ·have d0:(a != 0)=false:=by simpa using ha
    have HA:=hid ha
    clear ha
    go_wp2_with fail
    go_roundw
    case rel=>exact⟨(by first | rfl | trivial),1,rfl,by omega,hid ⟨fun _=>HA.out,fun h=>by omega⟩⟩
    case measure=>decide
   ·have d0:(a != 0)=true:=by simpa using ha
    have HE:=hid (show r=a by rw [←HR.out];unfold orRc;rw [if_neg ha])
    clear ha
    go_wp2_with fail
    go_ret
    exact⟨by rw [HE.out];rfl,rfl⟩
  ·by_cases h1:j=1
   ·subst h1
    have ha:=HJ.out.1 (by omega)
    have HE:=hid (show r=b by rw [←HR.out];unfold orRc;rw [if_pos ha])
    have HA:=hid ha
    clear HJ ha
    by_cases hb:b=0
    ·have d0:(b != 0)=false:=by simpa using hb
     have HB:=hid hb
     clear hb
     go_wp2_with fail
     go_roundw
     case rel=>exact⟨(by first | rfl | trivial),2,rfl,by omega,hid ⟨fun _=>HA.out,fun _=>HB.out⟩⟩
     case measure=>decide
    ·have d0:(b != 0)=true:=by simpa using hb
     clear hb
     go_wp2_with fail
     go_ret
     exact⟨by rw [HE.out];rfl,rfl⟩
   ·obtain rfl:j=2:=by omega
    have ha:=HJ.out.1 (by omega)
    have hb:=HJ.out.2 (by omega)
    have HE:=hid (show r=0 by rw [←HR.out];unfold orRc;rw [if_pos ha,hb])
    clear HJ ha hb
    go_wp2_with fail
    go_ret
    exact⟨by rw [HE.out];rfl,rfl⟩
theorem byrc_any (x y:Rc)(W:World):Calls Tryz.prog 60 #[.agg (encC x).toArray,.agg (encC y).toArray] W fun e w'=>e= .returned (.int .i64 (cfRc x y))∧∃q os',w'=grow (W.drewN q) os':=by
 have hcon1:=fun W'=>AnyG.cmp_Compare_int Tryz.laysCmp x.1 y.1 W'
 have hcon2:=fun W'=>AnyG.cmp_Compare_int Tryz.laysCmp x.2.2.1 y.2.2.1 W'
 change ∀W',Calls Tryz.prog 51 _ _ _ at hcon1 hcon2
 obtain⟨cc,hcc⟩: ∃cc,cfRc x y=cc:=⟨_,rfl⟩
 have hor:orRc (Lib.compareInt x.1 y.1) (Lib.compareInt x.2.2.1 y.2.2.1)=cc:=hcc
 rw [hcc]
 generalize Lib.compareInt x.1 y.1=c1 at*
 generalize Lib.compareInt x.2.2.1 y.2.2.1=c2 at*
 have HC1:=hid hcon1
 have HC2:=hid hcon2
 obtain⟨w1,hw1⟩: ∃w1,(W.alloc (.cells (encC x).toArray 62)).alloc (.cells (encC y).toArray 62)=w1:=⟨_,rfl⟩
 obtain⟨gx,hgx⟩: ∃k,W.heap.size=k:=⟨_,rfl⟩
 obtain⟨gy,hgy⟩: ∃k,gx+1=k:=⟨_,rfl⟩
 obtain⟨gr,hgr⟩: ∃k,gy+1=k:=⟨_,rfl⟩
 have s1:(W.alloc (.cells (encC x).toArray 62)).heap.size=gy:=by rw [←hgy,←hgx];simp
 have HX:=hid (show Blk w1 gx (encC x).toArray from by rw [←hw1,←hgx];exact(Blk.new W _ 62).alloc _)
 have HY:=hid (show Blk w1 gy (encC y).toArray from by rw [←hw1,←s1];exact Blk.new _ _ 62)
 have HGR:=hid (show w1.drew.heap.size=gr from by rw [←hw1,←hgr,←s1];show ((W.alloc _).alloc _).heap.size=_;simp)
 have HWB:=hid (show ∀(S:Nat→Bool) (wx:World),((S 10=false→wx=w1.drew)∧(S 10=true→wx=w1.drew.alloc (.cells #[.int .i64 c1,.int .i64 c2] 3)))→Below w1.heap.size w1 wx from fun S wx h=>by
  cases h0:S 10 with
  | false=>rw [h.1 h0];exact(Below.refl _ _).drew
  | true=>rw [h.2 h0];exact((Below.refl _ _).drew).alloc (Nat.le_refl _) _)
 have HOR:=hid (show Calls Tryz.prog 61 #[.slice (some ⟨gr,0,none⟩) 2 2] (w1.drew.alloc (.cells #[.int .i64 c1,.int .i64 c2] 3)) (fun e w'=>e= .returned (.int .i64 cc)∧w'=w1.drew.alloc (.cells #[.int .i64 c1,.int .i64 c2] 3))from by
  have:=bor_any gr c1 c2 (w1.drew.alloc (.cells #[.int .i64 c1,.int .i64 c2] 3)) (by have h:=Blk.new w1.drew #[.int .i64 c1,.int .i64 c2] 3;rw [HGR.out]at h;exact h)
  rw [hor]at this;exact this)
 have HGROW:=hid (show ∃q os',w1.drew.alloc (.cells #[.int .i64 c1,.int .i64 c2] 3)=grow (W.drewN q) os' from⟨1,_,by rw [←hw1];show (((W.drewN 1).alloc _).alloc _).alloc _=_;rw [alloc_eq_grow,alloc_eq_grow,alloc_eq_grow,grow_grow,grow_grow]⟩)
 clear hcon1 hcon2 hor hcc s1
 go_enter Tryz.func60,Tryz.ntmps60
 go_upto_region 1 with fail
 refine ζ3 13 (fun S val wx=>VVs 13 [(· = .pointer (some ⟨gx,0,none⟩)),(· = .int .i64 x.1),(· = .pointer (some ⟨gy,0,none⟩)),(· = .int .i64 y.1),(· = .int .i64 c1),(· = .pointer (some ⟨gx,2,none⟩)),(· = .int .i64 x.2.2.1),(· = .pointer (some ⟨gy,2,none⟩)),(· = .int .i64 y.2.2.1),(· = .int .i64 c2),(· = .slice (some ⟨gr,0,none⟩) 2 2),(· = .int .i64 cc),(· = .int .i64 cc)] S val∧Clo [[],[0],[],[2],[1,3],[],[5],[],[7],[6,8],[4,9],[10],[11]] S∧((S 10=false→wx=w1.drew)∧(S 10=true→wx=w1.drew.alloc (.cells #[.int .i64 c1,.int .i64 c2] 3)))) [0,2,5,7,12] (by kernel_rfl) (by kernel_rfl) ⟨VVs.start,Clo.start,⟨fun _=>rfl,fun h=>by cases h⟩⟩ ⟨?_,?_,?_,?_,?_,?_,?_,?_,?_,?_,?_,?_,?_,trivial⟩ ?_
 ·exact qU [2]
 ·refine qM fun ev wv S val hE hV hK hw hS hd=> ?_
  have hwb:=HWB.out S wv hw
  have kx0:=(HX.out.keep hwb).get 0 rfl
  exact qE [] hE hV hd
 ·exact qU [3]
 ·refine qM fun ev wv S val hE hV hK hw hS hd=> ?_
  have hwb:=HWB.out S wv hw
  have kx0:=(HY.out.keep hwb).get 0 rfl
  exact qE [] hE hV hd
 ·refine qC fun ev wv S val hE hV hK hw hS hd=> ?_
  refine qF (f:=51) (args:= #[.int .i64 x.1,.int .i64 y.1]) [] hE hV hd (HC1.out wv) ?_
  rintro e w' ⟨rfl,rfl⟩
  exact⟨_,rfl,rfl,(by simpa [addS,addV]using hw)⟩
 ·exact qU [2]
 ·refine qM fun ev wv S val hE hV hK hw hS hd=> ?_
  have hwb:=HWB.out S wv hw
  have kx0:=(HX.out.keep hwb).get 2 rfl
  exact qE [] hE hV hd
 ·exact qU [3]
 ·refine qM fun ev wv S val hE hV hK hw hS hd=> ?_
  have hwb:=HWB.out S wv hw
  have kx0:=(HY.out.keep hwb).get 2 rfl
  exact qE [] hE hV hd
 ·refine qC fun ev wv S val hE hV hK hw hS hd=> ?_
  refine qF (f:=51) (args:= #[.int .i64 x.2.2.1,.int .i64 y.2.2.1]) [] hE hV hd (HC2.out wv) ?_
  rintro e w' ⟨rfl,rfl⟩
  exact⟨_,rfl,rfl,(by simpa [addS,addV]using hw)⟩
 ·rintro ev wv S val hE ⟨hV,hK,hw⟩ hS hd
  have v9:ev (.tmp 9)= .int .i64 c1:=vd (hd 4 (by decide)) (hV 4 (by decide))
  have v14:ev (.tmp 14)= .int .i64 c2:=vd (hd 9 (by decide)) (hV 9 (by decide))
  have hwe:=hw.1 hS
  subst hwe
  have hgr:w1.drew.heap.size=gr:=HGR.out
  refine ifw rfl (ifn rfl ?_)
  refine ζn (u:= .slice (some ⟨gr,0,none⟩) 2 2) (w':=w1.drew.alloc (.cells #[.int .i64 c1,.int .i64 c2] 3)) ?_ ⟨VVs.add hV rfl,ζi hK rfl hd,⟨fun h=>absurd h (by simp [addS]),fun _=>rfl⟩⟩
  have e1:=hE.const;clear hE hd hw hS hV hK
  go_simp
 ·refine qC fun ev wv S val hE hV hK hw hS hd=> ?_
  have hwe:=hw.2 (hd 10 (by decide)).1
  subst hwe
  refine qF (f:=61) (args:= #[.slice (some ⟨gr,0,none⟩) 2 2]) [] hE hV hd (HOR.out) ?_
  rintro e w' ⟨rfl,rfl⟩
  exact⟨_,rfl,rfl,(by simpa [addS,addV]using hw)⟩
 ·exact qU []
 ·rintro S val w9 hS ⟨hV,hK,hw⟩
  refine finL hV hS ?_
  iterate 13 rintro _ ⟨-,rfl⟩-
  simp only [zA]
  clear hV
  change wpList Tryz.prog _ _ _ _ w9
  have hwe:=hw.2 (hS 10 (by decide))
  clear hw hS hK val S
  refine ζ2 ?_
  subst hwe
  go_wp2_with fail
  go_ret
  exact⟨rfl,HGROW.out⟩
end Go.Proofs.YthagdonmijhpdaaGreat
namespace Corr
open Go Go.RowKit
theorem cells5_append (a b:List Rc):ζ4q (a++b)=ζ4q a++ζ4q b:=by
 induction a with
 | nil=>rfl
 | cons s r ih=>simp [ζ4q,ih]
theorem cells5_one (x:Rc): ∀u∈ζ4q [x],u.oneCell'=true:=by
 intro u hu
 simp [ζ4q]at hu
 rcases hu with rfl | rfl | rfl | rfl | rfl <;> rfl
end Corr
namespace Go.Proofs.YthagdonmijhpdaaGreat
open Go.RowKit Corr Go.Sort Go.Shelf
theorem elem_rc13:Elem Tryz.prog 59 62 (.agg #[.int .i64 0,.int .i64 0,.int .i64 0,.int .i64 0,.int .i64 0]) 5 40:=by
 obtain⟨i,h0,h1,h2,h3⟩:=info_parts (show (Tryz.prog.info? 62).map (fun i=>(i.zero,i.size,i.bytes))=some (some (.agg #[.int .i64 0,.int .i64 0,.int .i64 0,.int .i64 0,.int .i64 0]),5,40) by kernel_rfl)
 exact⟨Tryz.underlying59,⟨i,h0,h1,h2,h3⟩,rfl,by decide⟩
attribute [local go_sem] Oper.semAt_some
set_option maxRecDepth 100000 in
theorem brects13_any {Rep:RepT}(K:TrK Rep)(w:World)(p:Value)(F:Nat→Prop)(L:ClL)(H:HdB K.toRepOk 86 134 w p F L)(hg:goodS L)(hL:L.length≤100):
  Calls Tryz.prog 28 #[p] w (RetRects 62 w L):=by
 have HH:=hid (ζ37 K w p F L H)
 clear H
 refine ζr Tryz.func28 rfl ?_
 simp only [Tryz.ntmps28,List.size_toArray,List.length_cons,List.length_nil,Nat.reduceAdd,Nat.reduceSub,Array.replicate_succ,Array.replicate_zero,List.push_toArray,List.append_toArray,List.nil_append,List.cons_append]
 go_wp2_with fail
 refine HH.out.mono ?_
 rintro e w0 ⟨Sk,Fk,rfl,hkp0,hk,hb0,_⟩
 obtain⟨out,hout⟩:=seg_ex Sk.f 1 3652060
 have HOUT:=hid hout
 have HWK:=hid (KsOk.walk hk hL)
 have HLEN:=hid (allY_len (frm:=0) (tq:=Sk.la) hk hL hout)
 have HFIN:=hid (show ∀M:List Rc,M.Perm (((allY out Sk.cs 1 3652060 0 Sk.la)).map rcR)→M.Pairwise (fun s t=>ltOf cfRc t s=false)→rectsS L M from fun M h1 h2=>by
  rw [hk.la]at h1
  refine allY_rects hk hg hout h1 (h2.imp fun {s t} h=> ?_)
  have:=of_decide_eq_false h
  rcases Int.lt_or_le t.1 s.1 with e | e
  ·exact absurd (cfRc_lt.2 (.inl e)) this
  ·exact e)
 obtain⟨w5,hw5⟩: ∃w1,w0.alloc (.cells #[.slice none 0 0] 59)=w1:=⟨_,rfl⟩
 obtain⟨gz,hgz⟩: ∃k,w0.heap.size=k:=⟨_,rfl⟩
 have hs1:=(Sep.nil w0).push #[.slice none 0 0] 59
 rw [hw5,hgz]at hs1
 have HS5:=hid (show Sep w0 [blkT gz #[.slice none 0 0],rowT 0 62 5 none 0 0 (ζ4q ([]))] w5 from hs1.addRow (World.ownsRow_nil w5 0 62 5) (fun k hk=>by cases hk) (Below.refl _ _))
 have HB5:=hid hs1.bl
 have HGZ:=hid hgz
 have hkp:=kpT.keepB hkp0 HB5.out
 have HK3:=hid (show (kpT K.toRepOk 86 134 Sk).P w5 Fk from hkp)
 obtain⟨Ak,nk,ck,hkb⟩:=kpT.blk HK3.out
 have HKB:=hid hkb
 have HLT:=hid (show ∀k,Fk k→k<gz from fun k hk=>by
  have:=(kpT K.toRepOk 86 134 Sk).lt hkp0 k hk
  omega)
 have HB0:=hid hb0
 obtain⟨Q6,hQ6⟩: ∃Q:Value→World→Prop,Q=fun vx wx=>∃(lb:Array Value) (m1:Nat),vx= .func (.func 72) #[] lb∧w5.heap.size≤m1∧m1≤wx.heap.size∧∀Z:Nat→Prop,(∀k,wx.heap.size≤k→Z k)→(∀k,Fk k→¬Z k)→(∀k,m1≤k→k<wx.heap.size→¬Z k)→SeqOff2 Tryz.prog 72 lb (fun r:Rn=> #[rnV r]) Z (fun ys=>ys=(allY out Sk.cs 1 3652060 0 Sk.la)) (fun pre=>pre <+: (allY out Sk.cs 1 3652060 0 Sk.la)) ((allY out Sk.cs 1 3652060 0 Sk.la)).length wx:=⟨_,rfl⟩
 have HQ6:=hid hQ6
 clear hk hg hL hout hs1 hkp0 hkp hkb hQ6 hb0
 go_upto_region 3 with fail
 refine ζ3 7 (fun S val wx=>VVs 7 [(· = .pointer (some ⟨Sk.g,0,none⟩)),(· = .agg #[.int .i64 1,.int .i64 3652060]),(· = .pointer (some ⟨Sk.g,0,none⟩)),(· = .pointer (some ⟨Sk.g,0,none⟩)),(· = .pointer (some ⟨Sk.g,0,none⟩)),(· = .int .i64 Sk.la),(fun vv=>∃lb,vv= .func (.func 72) #[] lb)] S val∧Clo [[],[],[],[2],[3],[4],[0,1,5]] S∧(Below w5.heap.size w5 wx∧(S 6=true→Q6 (val 6) wx))) [0,2,3,4] (by kernel_rfl) (by kernel_rfl) ⟨VVs.start,Clo.start,⟨(Below.refl _ _).drew,(fun h=>by cases h)⟩⟩ ⟨?_,?_,?_,?_,?_,?_,?_,trivial⟩ ?_
 ·exact qU [3]
 ·refine qC fun ev wv S val hE hV hK hw hS hd=> ?_
  have hwb:=hw.1
  have s6:=hK.no hS 6 [1]
  refine qF (f:=42) (args:= #[]) [] hE hV hd (ball_any wv) ?_
  rintro e w' ⟨rfl,hb⟩
  exact⟨_,rfl,rfl,⟨Below.trans hw.1 (Below.mono hb hw.1.size),fun h=>absurd h (by simp [addS,s6])⟩⟩
 ·exact qU [3]
 ·exact qU []
 ·exact qU []
 ·exact qL [] fun hw=>((HKB.out).keep (hw.1)).get 0 rfl
 ·refine qC fun ev wv S val hE hV hK hw hS hd=> ?_
  have hwb:=hw.1
  refine qF (f:=36) (args:= #[.pointer (some ⟨Sk.g,0,none⟩),.agg #[.int .i64 1,.int .i64 3652060],.int .i64 0,.int .i64 Sk.la]) [] hE hV hd (ζ4n K Sk Fk 1 3652060 0 Sk.la wv (kpT.keepB HK3.out hwb) HWK.out out HOUT.out) ?_
  rintro e w' ⟨lb9,rfl,hb,hseq⟩
  exact⟨_,rfl,(⟨_,rfl⟩),⟨Below.trans hw.1 (Below.mono hb hw.1.size),fun _=>(by simpa [addV]using(by rw [HQ6.out];exact⟨lb9,wv.heap.size,rfl,hwb.size,hb.size,hseq⟩))⟩⟩
 ·rintro S val w9 hS ⟨hV,hK,hw⟩
  have e1:val 1= .agg #[.int .i64 1,.int .i64 3652060]:=hV 1 (by decide) (hS 1 (by decide))
  have e2:val 2= .pointer (some ⟨Sk.g,0,none⟩):=hV 2 (by decide) (hS 2 (by decide))
  have e3:val 3= .pointer (some ⟨Sk.g,0,none⟩):=hV 3 (by decide) (hS 3 (by decide))
  have e4:val 4= .pointer (some ⟨Sk.g,0,none⟩):=hV 4 (by decide) (hS 4 (by decide))
  obtain⟨lb6,e6⟩:=hV 6 (by decide) (hS 6 (by decide))
  refine finL hV hS ?_
  rintro _ ⟨-,rfl⟩-v1 ⟨h1,-⟩-v2 ⟨h2,-⟩-v3 ⟨h3,-⟩-v4 ⟨h4,-⟩-_ ⟨-,rfl⟩-v6 ⟨h6,-⟩-
  simp only [zA]
  simp only [h1.trans e1,h2.trans e2,h3.trans e3,h4.trans e4,h6.trans e6]
  clear hV h1 e1 v1 h2 e2 v2 h3 e3 v3 h4 e4 v4 h6 v6
  change wpList Tryz.prog _ _ _ _ w9
  have HBZ:=hid hw.1
  have hq6:=hw.2 (hS 6 (by decide))
  rw [e6]at hq6
  have HQZ:=hid hq6
  clear hq6
  clear hw hS hK e6 val S
  rw [HQ6.out]at HQZ
  obtain⟨lb9,m1,ev,s1,s2,s3⟩:=HQZ.out
  injection ev with _ _ ev
  subst ev
  have HS9:=hid (HS5.out.keep HBZ.out)
  have HM1:=hid (show w5.heap.size≤m1∧m1≤w9.heap.size from⟨s1,s2⟩)
  obtain⟨dz,hdz⟩: ∃k,w9.heap.size=k:=⟨_,rfl⟩
  have HDZ:=hid hdz
  obtain⟨Z,hZ⟩: ∃Z:Nat→Prop,Z=fun k=>(gz≤k∧k<m1)∨dz≤k:=⟨_,rfl⟩
  have HZZ:=hid (show ∀k,dz≤k→Z k from fun k hk=>by rw [hZ];exact .inr hk)
  have HZU:=hid (show ∀k,gz≤k→k<w5.heap.size→Z k from fun k h1 h2=>by rw [hZ];exact .inl ⟨h1,by omega⟩)
  have HSQ:=hid (s3 Z (fun k hk=>by rw [hdz]at hk;exact HZZ.out k hk) (fun k hk e=>by
   have h1:=HLT.out k hk
   have h2:=HB5.out.size
   have h3:=HGZ.out
   rw [hZ]at e
   rcases e with e | e
   ·omega
   ·have:=HM1.out;omega) (fun k h1 h2 e=>by
   rw [hZ]at e
   rcases e with e | e
   ·omega
   ·omega))
  have HZG:=hid (show ∀k,Z k→gz≤k from fun k e=>by
   have h2:=HB5.out.size
   have h3:=HGZ.out
   have h4:=HM1.out
   rw [hZ]at e
   rcases e with e | e
   ·exact e.1
   ·omega)
  have HB59:=hid HBZ.out
  clear HQZ HBZ s1 s2 s3 hZ hdz
  refine ζ2 ?_
  obtain⟨Y,hY⟩: ∃Y,(allY out Sk.cs 1 3652060 0 Sk.la)=Y:=⟨_,rfl⟩
  rw [hY]at HSQ HFIN HLEN
  have HYY:=hid hY
  clear hY
  go_wp2_with fail
  refine ζ5h (fun D W=>dz=D∧W.heap[D]? =some (.deferred (some []))∧∃A n c,(∀k,rowK A n c k→dz≤k)∧Pk Z dz [blkT gz #[.slice A n c],rowT 0 62 5 A n c (ζ4q (Y.map rcR))] w9 (fun _=>False) W) ?loop ?rest
  case loop=>
   refine ζ23 (gf:=72) (lb:=lb6) rfl ζ2g (fun k hk=>HZZ.out k (by rw [HDZ.out]at hk;exact hk)) HSQ.out (fun _=>rfl)
    (fun G (pre:List Rn) W=>∃A n c,(∀k,rowK A n c k→dz≤k)∧Pk Z dz [blkT gz #[.slice A n c],rowT 0 62 5 A n c (ζ4q (pre.map rcR))] w9 G W) (fun _ _ _ _=>False)
    (fun G pre W W' h ho=>by
     obtain⟨A,n,c,hR,h2⟩:=h
     exact⟨A,n,c,hR,h2.grow HZZ.out HDZ.out ho⟩)
    (fun G s W l o o' h h1 h2 h3 h4=>by
     obtain⟨A,n,c,hR,k2⟩:=h
     rw [HDZ.out]at h1 h2
     exact⟨A,n,c,hR,k2.obj HZZ.out h1 h2 h3⟩)
    (fun _ _ _ _ _ _ _ h _ _ _ _=>h) (fun _ _ _ _ _ h _=>h.elim)
    ?start (fun G pre x a' W=>∃(A:Option Addr) (n c Bx:Nat),a'= { tmps:= #[p,undef,.slice none 0 0,.pointer (some ⟨Sk.g,0,none⟩),.pointer (some ⟨gz,0,none⟩),.pointer (some ⟨Bx,0,none⟩),p,.pointer (some ⟨Sk.g,0,none⟩),.pointer (some ⟨Sk.g,0,none⟩),.agg #[.int .i64 1,.int .i64 3652060],.pointer (some ⟨Sk.g,0,none⟩),.pointer (some ⟨Sk.g,0,none⟩),.pointer (some ⟨Sk.g,0,none⟩),.int .i64 Sk.la,.func (.func 72) #[] lb6,.agg #[.int .i64 x.a,.int .i64 x.b,.int .i64 x.s,.int .i64 x.u,.int .i64 x.v,.int .i64 x.m],undef,undef,undef,undef,undef,undef,undef,undef],defers:= [] }∧(∀k,rowK A n c k→dz≤k)∧Pk Z dz ([blkT gz #[.slice A n c],rowT 0 62 5 A n c (ζ4q (pre.map rcR))]++ [blkT Bx #[.int .i64 x.a,.int .i64 x.b,.int .i64 x.s,.int .i64 x.u,.int .i64 x.v,.int .i64 x.m]]) w9 G W) ?ax ?assign ?body ?done ?stop
   case start=>
    intro W hb
    exact⟨none,0,0,fun k hk=>(by cases hk),Pk.start HS5.out HB59.out HDZ.out (fun k h1 h2=>HZU.out k (by have:=HGZ.out;omega) h2) W hb⟩
   case ax=>
    rintro G pre x a' _ W l o o' ⟨A,n,c,Bx,h1,hR,h3⟩ k1 k2 k3 k4
    rw [HDZ.out]at k1 k2
    exact⟨A,n,c,Bx,h1,hR,h3.obj HZZ.out k1 k2 k3⟩
   case assign=>
    rintro l' G pre x W Kf hsz ⟨A,n,c,hR,hP⟩ hK
    gi_wp2
    rw [HDZ.out]at hsz
    have ha:Below W.heap.size W (W.alloc (.cells #[.int .i64 x.a,.int .i64 x.b,.int .i64 x.s,.int .i64 x.u,.int .i64 x.v,.int .i64 x.m] 86)):=(Below.refl _ W).alloc (Nat.le_refl _) _
    have hp2:=hP.push HZZ.out hsz #[.int .i64 x.a,.int .i64 x.b,.int .i64 x.s,.int .i64 x.u,.int .i64 x.v,.int .i64 x.m] 86
    refine hK _ _ (by rw [HDZ.out];exact hp2.2.2) hp2.2.1 ⟨A,n,c,hR,(hP.keep hsz ha).1⟩ ⟨A,n,c,W.heap.size,rfl,hR,hp2.1⟩
   case body=>
    rintro l' G pre x a' W hl hsz _ ⟨A2,n2,c2,Bx,rfl,hR,hP⟩ hpn _
    rw [HDZ.out]at hsz
    have hxb:=hP.b 2 rfl
    have x0:=hxb.get 0 rfl
    have x1:=hxb.get 1 rfl
    have x2:=hxb.get 2 rfl
    have x3:=hxb.get 3 rfl
    have x4:=hxb.get 4 rfl
    have l0:=(hP.b 0 rfl).get 0 rfl
    obtain⟨U,hsA,hturn⟩:=hP.turn HZZ.out hsz
    have k2:=hsA.row 1 rfl
    have hn2:n2≤40000:=by
     have h1:=k2.1
     rw [ζ5c,List.length_map]at h1
     have h2:=HLEN.out
     omega
    have hA0:AppD 62 A2 n2 c2 0 (ζ4q (pre.map rcR)) (ζ4q [rcR x]) 5 W false false undef undef W:=⟨Off.refl _ _,fun _=>k2,fun h=>(by cases h),fun h=>(by cases h)⟩
    have hA1:=hA0.build 62
    obtain⟨A9,c9,wA,hr9,hD9,hO9⟩:=AppD.run2 (P:=Tryz.prog) (t:=59) (ty:=59) elem_rc13 hA1 (fun k hk=>ζk k2 hk) (by rfl) (cells5_one _) (by omega) (by unfold maxLen;omega) (Nat.zero_le _)
    have hs2:=hsA.app (i:=1) rfl hD9
    have f0:=(hs2.b 0 rfl).f 0
    have y0:=(hs2.b 0 rfl).get 0 rfl
    have hs3:=hs2.set 0 rfl 0 (.slice A9 (n2+1) c9)
    have HB:=hid (hturn _ _ hs3)
    have HRK:=hid (show ∀k,rowK A9 (n2+1) c9 k→dz≤k from fun k hk=>by
     obtain⟨A',c',e,_,h3⟩:=hD9.2.2.2 rfl
     injection e with e1 _ e2
     subst e1 e2
     rcases h3 k hk with h | h
     ·exact hR k h
     ·omega)
    clear hP hR hxb hsA hturn k2 hn2 hA0 hA1 hD9 hO9 hs2 hs3 hpn hsz
    rw [show (ζ4q [rcR x]).toArray= #[.int .i64 x.a,.int .i64 x.b,.int .i64 x.s,.int .i64 x.u,.int .i64 x.v]from rfl]at hr9
    gi_wp2_with (gi_at_builtin;refine ζ41 rfl _ _ 59 rfl rfl rfl hr9 ?_)
    refine⟨by rw [HDZ.out];exact HB.out.2.2,HB.out.2.1,A9,n2+1,c9,HRK.out,?_⟩
    have:=HB.out.1.take 2
    rw [←cells5_append]at this
    rw [List.map_append]
    exact this
   case done=>
    rintro D G xs W hD rfl ⟨A,n,c,hR,hP⟩ hK
    exact⟨.inl rfl,D,rfl,by rw [←HDZ.out];exact hD,hK,A,n,c,hR,hP.free⟩
   case stop=>exact fun _ _ _ _ _ _ _ h _=>h.elim
  case rest=>
   rintro D W ⟨hD,hK,A,n,c,hR,hP⟩
   have hDW:D<W.heap.size:=(Array.getElem?_eq_some_iff.1 hK).1
   have HDD:=hid (show gz<D∧D<W.heap.size from by
    have h1:=HS5.out.b 0 rfl
    have h1:=h1.sz;have h3:=HB59.out.size;have h4:=HDZ.out
    exact⟨by omega,hDW⟩)
   have HPO:=hid (hP.o.below (B:=gz) (by have h1:=HB5.out.size;have h2:=HGZ.out;have h3:=HB59.out.size;omega) HZG.out)
   have l0:=(hP.b 0 rfl).get 0 rfl
   obtain⟨⟨U,hpU,hzU⟩,_,_⟩:=hP
   have hsU:=hpU.2
   obtain⟨F1,hr1,hF1,_⟩:=hsU.get (i:=1) rfl
   have hrow:W.ownsRow (D+1) 62 5 (.slice A n c) n (ζ4q (Y.map rcR)):=ζ3d hr1.1 fun k hk=>by
    have h1:=hF1 k ((hr1.2 k).2 hk)
    have h2:=hR k hk
    rcases h1 with h | h
    ·have:=(hzU k h).2.2
     omega
    ·omega
   have hln:n≤4000000:=by
    have h1:=hrow.1
    rw [ζ5c,List.length_map]at h1
    have h2:=HLEN.out
    omega
   have HSO:=hid (bsort5_any 60 cfRc swoRc (enters_of Tryz.func60 (by kernel_rfl) rfl) byrc_any (D+1) A n c (Y.map rcR) W hrow hln)
   have HK:=hid hK
   clear hD hK hDW hR hpU hzU hsU hr1 hF1 hrow hln
   go_wp2_with fail
   refine HSO.out.mono ?_
   rintro e wE ⟨rfl,m,m1,m2,m3,m4⟩
   have HM:=hid (HFIN.out m m1 m2)
   have M3:=hid m3
   have M4:=hid m4
   have HKE:=hid ((m4.block D (Nat.lt_succ_self _)).trans HK.out)
   have l1:=(m4.cell (p:=⟨gz,0,none⟩) (by have:=HDD.out;show gz<D+1;omega)).trans l0
   clear m1 m2 m3 m4 l0
   go_wp2_with fail
   refine ζ13 (Z:=fun k=>k∈ [D]) (fun WE hb=>⟨_,results_tmp rfl _ _ _,m,_,_,_,rfl,HM.out,?_,?_⟩) [D] wE ((Marks.nil 0 wE).cons (Nat.zero_le _) HKE.out List.not_mem_nil) (fun D hD=>hD) (Off.refl _ _)
   ·have ho:=hb.own M3.out fun k hk e=>by rw [List.mem_singleton.1 e]at hk;exact ζ4f M3.out HKE.out hk rfl
    exact ζ1m ho (by have h1:=HGZ.out;have:=HDD.out;have:=HB0.out.size;omega)
   ·have hz:=HGZ.out
    have h9:=M4.out.size
    have h8:=HDD.out
    have h7:=HB5.out.size
    exact HB0.out.trans (Below.mono ((((HB5.out.trans (HB59.out.mono h7)).trans (hz▸HPO.out)).trans (M4.out.mono (by omega))).trans (hb.below (by omega) fun k hk=>by rw [List.mem_singleton.1 hk];omega)) HB0.out.size)
end Go.Proofs.YthagdonmijhpdaaGreat

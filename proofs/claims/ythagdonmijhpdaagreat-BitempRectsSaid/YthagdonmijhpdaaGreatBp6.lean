/- Contracts of package bitemp -/
import Derived.Test.YthagdonmijhpdaaGreatBp5
open Go.Lib (hid)
set_option linter.unusedSimpArgs false
set_option linter.unusedVariables false
set_option maxHeartbeats 4000000
set_option maxRecDepth 8000
namespace Corr
open Go Go.RowKit
def shutC (la z:Int):Bool:=decide (0<numP z) && decide (sinP z<la)
def ShutP {Rep:RepT}(R:RepOk Rep)(T U:TypeId)(Sk:Kp)(x:It)(w:World)(F:Nat→Prop)(e:Ending)(w':World):Prop:=∃(F':Nat→Prop) (S':Kp),e= .returned (.tuple #[])∧(kpT R T U S').P w' F'∧(shutC Sk.la x.2.2=true→EndS Sk (rectI x Sk.la) S')∧(shutC Sk.la x.2.2=false→S'=Sk)∧Off F w w'∧∀k,F' k→F k∨w.heap.size≤k
def OpenP {Rep:RepT}(R:RepOk Rep)(T U:TypeId)(Sk:Kp)(x1 x2 z:Int)(w:World)(F:Nat→Prop)(e:Ending)(w':World):Prop:=∃(F':Nat→Prop),e= .returned (.tuple #[])∧(kpT R T U { Sk with f:=updF Sk.f x1 x2 z,nb:=Sk.nb+3 }).P w' F'∧Off F w w'∧∀k,F' k→F k∨w.heap.size≤k
theorem kpT.keepB {Rep:RepT} {R:RepOk Rep} {T U:TypeId} {Sk:Kp} {w w':World} {F:Nat→Prop}(h:(kpT R T U Sk).P w F)(hb:Below w.heap.size w w'):(kpT R T U Sk).P w' F:=(kpT R T U Sk).keep h (Off.of (F:=fun _=>False) hb) (fun _ _ e=>e)
theorem kpT.blk {Rep:RepT} {R:RepOk Rep} {T U:TypeId} {Sk:Kp} {w:World} {F:Nat→Prop}(h:(kpT R T U Sk).P w F): ∃A n cap,Blk w Sk.g #[.int .i64 Sk.la,.int .i64 Sk.n,Sk.q,.slice A n cap]:=by
 obtain⟨⟨A,n,cap⟩,hp⟩:=h
 exact⟨A,n,cap,hp.2.b 1 rfl⟩
end Corr
namespace Go.Proofs.YthagdonmijhpdaaGreat
open Go.RowKit Corr
theorem sepf_tqput {Rep:RepT}(K:TrK Rep) {F0:Nat→Prop} {w0 w:World} {ts:List Thing}(h:SepF F0 w0 ts w) {i n:Nat} {q:Value} {f:Int→Int}(hi:ts[i]? =some (tpTq K.toRepOk q n (pcI f)))(ho:offF f)(hn:n≤900)(a b v:Int)(hm:mayB a b=true):Calls Tryz.prog 71 #[q,.agg #[.int .i64 a,.int .i64 b],.agg #[.int .i64 (numP v),.int .i64 (sinP v),.int .i64 (valP v)]] w fun e w'=>e= .returned (.int .i64 0)∧SepF F0 w0 (ts.set i (tpTq K.toRepOk q (n+3) (pcI (updF f a b v)))) w':=by
 obtain⟨F,hp,_,hu⟩:=h.get hi
 obtain⟨gT,_,_,_,_,_,rfl,_⟩:=id hp
 refine(tpput_yesq K gT F n f a b v w hp ho hn hm).mono fun e w' hq=> ?_
 obtain⟨F',he,h1,h2,h3⟩:=hq
 exact⟨he,hu w' F' _ h2 h1 h3⟩
theorem shut_any {Rep:RepT}(K:TrK Rep)(Sk:Kp)(x1 x2 z:Int)(gb:Nat)(w:World)(F:Nat→Prop)(H:(kpT K.toRepOk 86 134 Sk).P w F)(hb:Blk w gb #[.pointer (some ⟨Sk.g,0,none⟩)])(hlen:Sk.cs.length≤100000)(hx:x1<x2)(hk: ∀c∈Sk.cs,okCk c):
  Calls Tryz.prog 67 #[.agg #[.int .i64 x1,.int .i64 x2,.int .i64 (numP z),.int .i64 (sinP z),.int .i64 (valP z)],.pointer (some ⟨gb,0,none⟩)] w (ShutP K.toRepOk 86 134 Sk (x1,x2,z) w F):=by
 have HA:=hid ((Below.refl w.heap.size w).alloc (Nat.le_refl _) (.cells #[.int .i64 x1,.int .i64 x2,.int .i64 (numP z),.int .i64 (sinP z),.int .i64 (valP z)] 128))
 obtain⟨w1,hw1⟩: ∃w1,w.alloc (.cells #[.int .i64 x1,.int .i64 x2,.int .i64 (numP z),.int .i64 (sinP z),.int .i64 (valP z)] 128)=w1:=⟨_,rfl⟩
 obtain⟨gx,hgx⟩: ∃k,w.heap.size=k:=⟨_,rfl⟩
 have hX:=Blk.new w #[.int .i64 x1,.int .i64 x2,.int .i64 (numP z),.int .i64 (sinP z),.int .i64 (valP z)] 128
 rw [hw1,hgx]at hX
 rw [hw1]at HA
 have HGX:=hid hgx
 have HH:=hid H
 have HH1:=hid (kpT.keepB H HA.out)
 obtain⟨A,n,cap,hk1⟩:=kpT.blk HH1.out
 have HX1:=hid hX
 have HB1:=hid (hb.keep HA.out)
 have HK1:=hid hk1
 have HLEN:=hid hlen
 have HLT:=hid hx
 have HKK:=hid hk
 have x2':=hX.get 2 rfl
 have x3':=hX.get 3 rfl
 have b0:=HB1.out.get 0 rfl
 have k0:=hk1.get 0 rfl
 clear hX hgx H hb hk1 hlen hx hk
 by_cases p1:0<numP z
 ·have d1:decide (numP z > 0)=true:=decide_eq_true p1
  by_cases p2:sinP z<Sk.la
  ·have d2:decide (sinP z<Sk.la)=true:=decide_eq_true p2
   have HC:=hid (show shutC Sk.la z=true by unfold shutC;rw [decide_eq_true p1,d2];rfl)
   clear p1 p2
   go_enter Tryz.func67,Tryz.ntmps67
   go_upto_region 1 with fail
   rw [HGX.out]
   clear hw1
   go_quiet (fail)
   have HW2:=hid (show Below w1.heap.size w1 (w1.drewN nq)from Joins.below_draws _ _ _)
   generalize w1.drewN nq=w2 at*
   have HX2:=hid (HX1.out.keep HW2.out)
   have HB2:=hid (HB1.out.keep HW2.out)
   have HK2:=hid (HK1.out.keep HW2.out)
   have HH2:=hid (kpT.keepB HH1.out HW2.out)
   clear x2' x3' b0 k0
   go_upto_region 2 with fail
   obtain⟨Q1,hQ1⟩: ∃Q1:World→Prop,Q1=fun wx=>∃(F':Nat→Prop) (S':Kp),(kpT K.toRepOk 86 134 S').P wx F'∧EndS Sk (rectI (x1,x2,z) Sk.la) S'∧Off F w2 wx∧∀k,F' k→F k∨w2.heap.size≤k:=⟨_,rfl⟩
   have HQ1:=hid hQ1
   clear hQ1
   refine ζ3 8 (fun S val wx=>VVs 8 [(· = .pointer (some ⟨Sk.g,0,none⟩)),(· = .agg #[.int .i64 x1,.int .i64 x2,.int .i64 (numP z),.int .i64 (sinP z),.int .i64 (valP z)]),(· = .pointer (some ⟨Sk.g,0,none⟩)),(· = .pointer (some ⟨Sk.g,0,none⟩)),(· = .pointer (some ⟨Sk.g,0,none⟩)),(· = .int .i64 Sk.la),(· = .agg #[.int .i64 x1,.int .i64 x2,.int .i64 (sinP z),.int .i64 Sk.la,.int .i64 (valP z),.int .i64 (numP z)]),(· = .tuple #[])] S val∧Clo [[],[],[],[2],[3],[4],[1,5],[0,6]] S∧((S 7=false→Below w2.heap.size w2 wx)∧(S 7=true→Q1 wx))) [3,4] (by kernel_rfl) (by kernel_rfl) ⟨VVs.start,Clo.start,⟨fun _=>(Below.refl _ _).drew,fun h=>by cases h⟩⟩ ⟨?_,?_,?_,?_,?_,?_,?_,?_,trivial⟩ ?_
   ·refine qM fun ev wv S val hE hV hK hw hS hd=> ?_
    have s7:=hK.no hS 7 [0]
    have hwb:=hw.1 s7
    have kx0:=((HB2.out).keep hwb).get 0 rfl
    exact qE [1] hE hV hd
   ·refine qM fun ev wv S val hE hV hK hw hS hd=> ?_
    have s7:=hK.no hS 7 [6,1]
    have hwb:=hw.1 s7
    have kx0:=((HX2.out).keep hwb).get 0 rfl
    have kx1:=((HX2.out).keep hwb).get 1 rfl
    have kx2:=((HX2.out).keep hwb).get 2 rfl
    have kx3:=((HX2.out).keep hwb).get 3 rfl
    have kx4:=((HX2.out).keep hwb).get 4 rfl
    exact qE [2] hE hV hd
   ·refine qM fun ev wv S val hE hV hK hw hS hd=> ?_
    have s7:=hK.no hS 7 [6,5,4,3,2]
    have hwb:=hw.1 s7
    have kx0:=((HB2.out).keep hwb).get 0 rfl
    exact qE [1] hE hV hd
   ·exact qU []
   ·exact qU []
   ·refine qM fun ev wv S val hE hV hK hw hS hd=> ?_
    have s7:=hK.no hS 7 [6,5]
    have hwb:=hw.1 s7
    have kx0:=((HK2.out).keep hwb).get 0 rfl
    exact qE [] hE hV hd
   ·refine qC fun ev wv S val hE hV hK hw hS hd=> ?_
    have s7:=hK.no hS 7 [6]
    have hwb:=hw.1 s7
    refine qF (f:=69) (args:= #[.agg #[.int .i64 x1,.int .i64 x2,.int .i64 (numP z),.int .i64 (sinP z),.int .i64 (valP z)],.int .i64 Sk.la]) [] hE hV hd (rectof_any x1 x2 (numP z) (sinP z) (valP z) Sk.la _) ?_
    rintro e w' ⟨rfl,hb⟩
    exact⟨_,rfl,rfl,⟨fun _=>Below.trans hwb (Below.mono hb hwb.size),fun h=>absurd h (by simp [addS,s7])⟩⟩
   ·refine qC fun ev wv S val hE hV hK hw hS hd=> ?_
    have hwb:=hw.1 hS
    refine qF (f:=68) (args:= #[.pointer (some ⟨Sk.g,0,none⟩),.agg #[.int .i64 x1,.int .i64 x2,.int .i64 (sinP z),.int .i64 Sk.la,.int .i64 (valP z),.int .i64 (numP z)]]) [] hE hV hd (end_any K Sk (rectI (x1,x2,z) Sk.la) _ F (kpT.keepB HH2.out hwb) HLEN.out HLT.out HKK.out) ?_
    rintro e w' ⟨F',S',rfl,g1,g2,g3,g4⟩
    exact⟨_,rfl,rfl,⟨fun h=>absurd h (by simp [addS]),fun _=>(by rw [HQ1.out];exact⟨F',S',g1,g2,(Off.of hwb).trans g3,fun k hk=>(g4 k hk).imp_right fun h=>Nat.le_trans hwb.size h⟩)⟩⟩
   ·rintro S val w9 hS ⟨hV,hK,hw⟩
    have e1:val 1= .agg #[.int .i64 x1,.int .i64 x2,.int .i64 (numP z),.int .i64 (sinP z),.int .i64 (valP z)]:=hV 1 (by decide) (hS 1 (by decide))
    have e2:val 2= .pointer (some ⟨Sk.g,0,none⟩):=hV 2 (by decide) (hS 2 (by decide))
    refine finL hV hS ?_
    rintro _ ⟨-,rfl⟩-v1 ⟨h1,-⟩-v2 ⟨h2,-⟩-
    iterate 5 rintro _ ⟨-,rfl⟩-
    simp only [zA]
    simp only [h1.trans e1,h2.trans e2]
    clear hV h1 e1 v1 h2 e2 v2
    change wpList Tryz.prog _ _ _ _ w9
    have HQZ:=hid (hw.2 (hS 7 (by decide)))
    clear hw hS hK val S
    rw [HQ1.out]at HQZ
    clear HQ1
    refine ζ2 ?_
    go_wp2_with fail
    go_end0
    obtain⟨F',S',g1,g2,g3,g4⟩:=HQZ.out
    exact⟨F',S',rfl,g1,fun _=>g2,fun h=>absurd h (by rw [HC.out];decide),(Off.of HA.out).trans ((Off.of HW2.out).trans g3),fun k hk=>(g4 k hk).imp_right fun h=>by have h1:=HA.out.size;have h2:=HW2.out.size;omega⟩
  ·have d2:decide (sinP z<Sk.la)=false:=decide_eq_false p2
   have HC:=hid (show shutC Sk.la z=false by unfold shutC;rw [d2];simp)
   clear p1 p2
   go_enter Tryz.func67,Tryz.ntmps67
   go_upto_region 1 with fail
   rw [HGX.out]
   clear hw1
   go_quiet (fail)
   have HW2:=hid (show Below w1.heap.size w1 (w1.drewN nq)from Joins.below_draws _ _ _)
   generalize w1.drewN nq=w2 at*
   go_wp2_with fail
   refine bodyPost_ret (results_none rfl _ _ _) rfl ?_
   exact⟨F,Sk,rfl,kpT.keepB HH1.out HW2.out,fun h=>absurd h (by rw [HC.out];decide),fun _=>rfl,(Off.of HA.out).later HW2.out,fun k hk=> .inl hk⟩
 ·have d1:decide (numP z > 0)=false:=decide_eq_false p1
  have HC:=hid (show shutC Sk.la z=false by unfold shutC;rw [decide_eq_false p1];rfl)
  clear p1
  go_enter Tryz.func67,Tryz.ntmps67
  go_upto_region 1 with fail
  rw [HGX.out]
  clear hw1
  go_quiet (fail)
  have HW2:=hid (show Below w1.heap.size w1 (w1.drewN nq)from Joins.below_draws _ _ _)
  generalize w1.drewN nq=w2 at*
  go_wp2_with fail
  refine bodyPost_ret (results_none rfl _ _ _) rfl ?_
  exact⟨F,Sk,rfl,kpT.keepB HH1.out HW2.out,fun h=>absurd h (by rw [HC.out];decide),fun _=>rfl,(Off.of HA.out).later HW2.out,fun k hk=> .inl hk⟩
theorem open_any {Rep:RepT}(K:TrK Rep)(Sk:Kp)(x1 x2 z y:Int)(gb gi:Nat)(w:World)(F:Nat→Prop)(H:(kpT K.toRepOk 86 134 Sk).P w F)(hb:Blk w gb #[.pointer (some ⟨Sk.g,0,none⟩)])(hi:Blk w gi #[.int .i64 (numP y),.int .i64 (sinP y),.int .i64 (valP y)])(ho:offF Sk.f)(hn:Sk.nb≤900)(hm:mayB x1 x2=true):
  Calls Tryz.prog 70 #[.agg #[.int .i64 x1,.int .i64 x2,.int .i64 (numP z),.int .i64 (sinP z),.int .i64 (valP z)],.pointer (some ⟨gb,0,none⟩),.pointer (some ⟨gi,0,none⟩)] w (OpenP K.toRepOk 86 134 Sk x1 x2 y w F):=by
 obtain⟨⟨A,n,cap⟩,hp⟩:=H
 have hs0:SepF F w [tpTq K.toRepOk Sk.q Sk.nb (pcI Sk.f),blkT Sk.g #[.int .i64 Sk.la,.int .i64 Sk.n,Sk.q,.slice A n cap],rowT 0 134 1 A n cap (ptrsC Sk.cs),packT (Sk.cs.map (ckT K.toRepOk 86))] w:=hp.2
 have HA:=hid ((Below.refl w.heap.size w).alloc (Nat.le_refl _) (.cells #[.int .i64 x1,.int .i64 x2,.int .i64 (numP z),.int .i64 (sinP z),.int .i64 (valP z)] 128))
 obtain⟨w1,hw1⟩: ∃w1,w.alloc (.cells #[.int .i64 x1,.int .i64 x2,.int .i64 (numP z),.int .i64 (sinP z),.int .i64 (valP z)] 128)=w1:=⟨_,rfl⟩
 obtain⟨gx,hgx⟩: ∃k,w.heap.size=k:=⟨_,rfl⟩
 have hX:=Blk.new w #[.int .i64 x1,.int .i64 x2,.int .i64 (numP z),.int .i64 (sinP z),.int .i64 (valP z)] 128
 rw [hw1,hgx]at hX
 rw [hw1]at HA
 have HGX:=hid hgx
 have HS1:=hid (hs0.keep HA.out)
 have HX1:=hid hX
 have HB1:=hid (hb.keep HA.out)
 have HI1:=hid (hi.keep HA.out)
 have HK1:=hid (HS1.out.b 1 rfl)
 have HO:=hid ho
 have HM:=hid hm
 have HNB:=hid hn
 clear hX hgx hb hi hp hs0 ho hm hn
 go_enter Tryz.func70,Tryz.ntmps70
 go_upto_region 1 with fail
 rw [HGX.out]
 clear hw1
 obtain⟨Q1,hQ1⟩: ∃Q1:World→Prop,Q1=fun wx=>SepF F w [tpTq K.toRepOk Sk.q (Sk.nb+3) (pcI (updF Sk.f x1 x2 y)),blkT Sk.g #[.int .i64 Sk.la,.int .i64 Sk.n,Sk.q,.slice A n cap],rowT 0 134 1 A n cap (ptrsC Sk.cs),packT (Sk.cs.map (ckT K.toRepOk 86))] wx:=⟨_,rfl⟩
 have HQ1:=hid hQ1
 clear hQ1
 refine ζ3 11 (fun S val wx=>VVs 11 [(· = .pointer (some ⟨Sk.g,0,none⟩)),(· = .pointer (some ⟨Sk.g,0,none⟩)),(· = .pointer (some ⟨Sk.g,2,none⟩)),(· =Sk.q),(· = .pointer (some ⟨gx,0,none⟩)),(· = .int .i64 x1),(· = .pointer (some ⟨gx,1,none⟩)),(· = .int .i64 x2),(· = .agg #[.int .i64 x1,.int .i64 x2]),(· = .agg #[.int .i64 (numP y),.int .i64 (sinP y),.int .i64 (valP y)]),(· = .int .i64 0)] S val∧Clo [[],[0],[1],[2],[],[4],[],[6],[5,7],[],[3,8,9]] S∧((S 10=false→Below w1.heap.size w1 wx)∧(S 10=true→Q1 wx))) [1,2,4,6,8] (by kernel_rfl) (by kernel_rfl) ⟨VVs.start,Clo.start,⟨fun _=>(Below.refl _ _).drew,fun h=>by cases h⟩⟩ ⟨?_,?_,?_,?_,?_,?_,?_,?_,?_,?_,?_,trivial⟩ ?_
 ·refine qM fun ev wv S val hE hV hK hw hS hd=> ?_
  have s10:=hK.no hS 10 [3,2,1,0]
  have hwb:=hw.1 s10
  have kx0:=((HB1.out).keep hwb).get 0 rfl
  exact qE [1] hE hV hd
 ·exact qU []
 ·exact qU []
 ·refine qM fun ev wv S val hE hV hK hw hS hd=> ?_
  have s10:=hK.no hS 10 [3]
  have hwb:=hw.1 s10
  have kx0:=((HK1.out).keep hwb).get 2 rfl
  exact qE [] hE hV hd
 ·exact qU [3]
 ·refine qM fun ev wv S val hE hV hK hw hS hd=> ?_
  have s10:=hK.no hS 10 [8,5]
  have hwb:=hw.1 s10
  have kx0:=((HX1.out).keep hwb).get 0 rfl
  exact qE [] hE hV hd
 ·exact qU [3]
 ·refine qM fun ev wv S val hE hV hK hw hS hd=> ?_
  have s10:=hK.no hS 10 [8,7]
  have hwb:=hw.1 s10
  have kx0:=((HX1.out).keep hwb).get 1 rfl
  exact qE [] hE hV hd
 ·exact qU []
 ·refine qM fun ev wv S val hE hV hK hw hS hd=> ?_
  have s10:=hK.no hS 10 [9]
  have hwb:=hw.1 s10
  have kx0:=((HI1.out).keep hwb).get 0 rfl
  have kx1:=((HI1.out).keep hwb).get 1 rfl
  have kx2:=((HI1.out).keep hwb).get 2 rfl
  exact qE [2] hE hV hd
 ·refine qC fun ev wv S val hE hV hK hw hS hd=> ?_
  have hwb:=hw.1 hS
  refine qF (f:=71) (args:= #[Sk.q,.agg #[.int .i64 x1,.int .i64 x2],.agg #[.int .i64 (numP y),.int .i64 (sinP y),.int .i64 (valP y)]]) [] hE hV hd (sepf_tqput K (HS1.out.keep hwb) (i:=0) rfl HO.out HNB.out x1 x2 y HM.out) ?_
  rintro e w' ⟨rfl,hs3⟩
  exact⟨_,rfl,rfl,⟨fun h=>absurd h (by simp [addS]),fun _=>(by rw [HQ1.out];exact hs3)⟩⟩
 ·rintro S val w9 hS ⟨hV,hK,hw⟩
  have e1:val 1= .pointer (some ⟨Sk.g,0,none⟩):=hV 1 (by decide) (hS 1 (by decide))
  have e2:val 2= .pointer (some ⟨Sk.g,2,none⟩):=hV 2 (by decide) (hS 2 (by decide))
  have e3:val 3=Sk.q:=hV 3 (by decide) (hS 3 (by decide))
  refine finL hV hS ?_
  rintro _ ⟨-,rfl⟩-v1 ⟨h1,-⟩-v2 ⟨h2,-⟩-v3 ⟨h3,-⟩-
  iterate 7 rintro _ ⟨-,rfl⟩-
  simp only [zA]
  simp only [h1.trans e1,h2.trans e2,h3.trans e3]
  clear hV h1 e1 v1 h2 e2 v2 h3 e3 v3
  change wpList Tryz.prog _ _ _ _ w9
  have HQZ:=hid (hw.2 (hS 10 (by decide)))
  clear hw hS hK val S
  rw [HQ1.out]at HQZ
  clear HQ1
  refine ζ2 ?_
  go_wp2_with fail
  go_end0
  obtain⟨F',h1,h2,h3⟩:=HQZ.out.pack
  exact⟨F',rfl,⟨⟨A,n,cap⟩,h1⟩,h2,h3⟩
end Go.Proofs.YthagdonmijhpdaaGreat

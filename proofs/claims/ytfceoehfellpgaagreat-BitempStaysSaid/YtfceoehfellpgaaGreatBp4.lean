/- Contract of package bitemp -/
import Derived.Test.YtfceoehfellpgaaGreatBp3
open Go.Lib (hid)
set_option linter.unusedSimpArgs false
set_option linter.unusedVariables false
set_option maxRecDepth 8000
namespace Corr
open Go Go.RowKit
theorem ζ49 {W:World} {B n c k:Nat} {T:TypeId} {A:Option Addr} {xs:List Value} {v:Value}(h:W.ownsRow B T 1 (.slice A n c) n xs)(hk:xs[k]? =some v): ∃g,A=some ⟨g,0,none⟩∧W.cell? ⟨g,k,none⟩=some v:=by
 have hl:xs.length=n:=by have:=h.1;omega
 have hkn:=(List.getElem?_eq_some_iff.1 hk).1
 rcases Joins.ownsRow_forms h with⟨_,h0⟩ | ⟨g,d,hv⟩
 ·omega
 ·injection hv with e1 _ e3
  subst e1 e3
  exact⟨g,rfl,by rw [h.cellAt _ (by omega)];exact hk⟩
theorem ζ2p (cs:List Ck):(ptrsC cs).length=cs.length:=by unfold ptrsC;rw [List.length_map]
theorem ptrsC_at {cs:List Ck} {k:Nat} {c:Ck}(h:cs[k]? =some c):(ptrsC cs)[k]? =some (.pointer (some ⟨c.g,0,none⟩)):=by unfold ptrsC;rw [List.getElem?_map,h];rfl
theorem ckT_blk {Rep:RepT} {R:RepOk Rep} {T:TypeId} {c:Ck} {w:World} {F:Nat→Prop}(h:(ckT R T c).P w F): ∃A cap,Blk w c.g #[.slice A c.rs.length cap,c.q,.int .i64 c.s0]∧w.ownsRow 0 T 6 (.slice A c.rs.length cap) c.rs.length (ζa c.rs):=by
 obtain⟨⟨A,n,cap⟩,hp⟩:=h
 have hb:Blk w c.g #[.slice A n cap,c.q,.int .i64 c.s0]:=hp.2.b 0 rfl
 have ho:w.ownsRow 0 T 6 (.slice A n cap) n (ζa c.rs):=hp.2.row 1 rfl
 have:=ζ14 ho
 subst this
 exact⟨A,cap,hb,ho⟩
structure EndS (S:Kp)(x:Rn)(S':Kp):Prop where
 g:S'.g=S.g
 la:S'.la=S.la
 n:S'.n=S.n
 q:S'.q=S.q
 nb:S'.nb=S.nb
 f:S'.f=S.f
 rs:S'.cs.flatMap Ck.rs=S.cs.flatMap Ck.rs++ [x]
 ck: ∀c∈S'.cs,okCk c
 len:S'.cs.length≤S.cs.length+1
theorem EndS.old {S:Kp} {x:Rn} {init:List Ck} {c:Ck}(h:S.cs=init++ [c])(hk: ∀c∈S.cs,okCk c)(hc:okCk (addCk c x)):EndS S x { S with cs:=init++ [addCk c x] } where
 g:=rfl
 la:=rfl
 n:=rfl
 q:=rfl
 nb:=rfl
 f:=rfl
 rs:=by
  show (init++ [addCk c x]).flatMap Ck.rs=_
  rw [h,List.flatMap_append,List.flatMap_append,List.append_assoc]
  simp [addCk]
 ck:=fun d hd=>by
  rcases List.mem_append.1 hd with hd | hd
  ·exact hk d (by rw [h];exact List.mem_append_left _ hd)
  ·rw [List.mem_singleton.1 hd];exact hc
 len:=by show (init++ [addCk c x]).length≤_;rw [h];simp
theorem EndS.new {S:Kp} {x:Rn} {c:Ck}(hk: ∀c∈S.cs,okCk c)(he:c.rs= [])(hc:okCk (addCk c x)):EndS S x { S with cs:=S.cs++ [addCk c x] } where
 g:=rfl
 la:=rfl
 n:=rfl
 q:=rfl
 nb:=rfl
 f:=rfl
 rs:=by
  show (S.cs++ [addCk c x]).flatMap Ck.rs=_
  rw [List.flatMap_append]
  simp [addCk,he]
 ck:=fun d hd=>by
  rcases List.mem_append.1 hd with hd | hd
  ·exact hk d hd
  ·rw [List.mem_singleton.1 hd];exact hc
 len:=by show (S.cs++ [addCk c x]).length≤_;simp
def EndP {Rep:RepT}(R:RepOk Rep)(T U:TypeId)(Sk:Kp)(x:Rn)(w:World)(F:Nat→Prop)(e:Ending)(w':World):Prop:=∃(F':Nat→Prop) (S':Kp),e= .returned (.tuple #[])∧(kpT R T U S').P w' F'∧EndS Sk x S'∧Off F w w'∧∀k,F' k→F k∨w.heap.size≤k
end Corr
namespace Go.Proofs.YtfceoehfellpgaaGreat
open Go.RowKit Corr
theorem sepf_add {Rep:RepT}(K:TrK Rep) {F0:Nat→Prop} {w0 w:World} {ts us:List Thing}(h:SepF F0 w0 ts w) {i j:Nat} {c:Ck}(hi:ts[i]? =some (packT us))(hj:us[j]? =some (ckT K.toRepOk 86 c))(hl:c.rs.length<250)(hll:c.l.length≤1000)(x:Rn):
  Calls Tryz.prog 91 #[.pointer (some ⟨c.g,0,none⟩),.agg #[.int .i64 x.a,.int .i64 x.b,.int .i64 x.s,.int .i64 x.u,.int .i64 x.v,.int .i64 x.m]] w fun e w'=>e= .returned (.tuple #[])∧SepF F0 w0 (ts.set i (packT (us.set j (ckT K.toRepOk 86 (addCk c x))))) w':=by
 obtain⟨F,hp,_,hu⟩:=h.deep hi hj
 refine(add_any K c x w F hp hl hll).mono fun e w' hq=> ?_
 obtain⟨F',he,h1,h2,h3⟩:=hq
 exact⟨he,hu w' F' _ h2 h1 h3⟩
set_option maxHeartbeats 4000000 in
theorem end_old {Rep:RepT}(K:TrK Rep)(Sk:Kp)(x:Rn)(w:World)(F:Nat→Prop)(H:(kpT K.toRepOk 86 134 Sk).P w F)(init:List Ck)(c:Ck)(hcs:Sk.cs=init++ [c])(hc:okCk0 c)(hl:c.rs.length<250)(hlen:init.length≤100000)(hx:x.a<x.b)(hk: ∀c∈Sk.cs,okCk c):
  Calls Tryz.prog 68 #[.pointer (some ⟨Sk.g,0,none⟩),.agg #[.int .i64 x.a,.int .i64 x.b,.int .i64 x.s,.int .i64 x.u,.int .i64 x.v,.int .i64 x.m]] w (EndP K.toRepOk 86 134 Sk x w F):=by
 obtain⟨⟨A,n,cap⟩,hp⟩:=H
 have hs0:SepF F w [tpTq K.toRepOk Sk.q Sk.nb (pcI Sk.f),blkT Sk.g #[.int .i64 Sk.la,.int .i64 Sk.n,Sk.q,.slice A n cap],rowT 0 134 1 A n cap (ptrsC Sk.cs),packT (Sk.cs.map (ckT K.toRepOk 86))] w:=hp.2
 have hs1:=hs0.push #[.int .i64 x.a,.int .i64 x.b,.int .i64 x.s,.int .i64 x.u,.int .i64 x.v,.int .i64 x.m] 86
 obtain⟨w1,hw1⟩: ∃w1,w.alloc (.cells #[.int .i64 x.a,.int .i64 x.b,.int .i64 x.s,.int .i64 x.u,.int .i64 x.v,.int .i64 x.m] 86)=w1:=⟨_,rfl⟩
 rw [hw1]at hs1
 obtain⟨gx,hgx⟩: ∃k,w.heap.size=k:=⟨_,rfl⟩
 rw [hgx]at hs1
 obtain⟨j,hj⟩: ∃j,init.length=j:=⟨_,rfl⟩
 have hat:Sk.cs[j]? =some c:=by rw [hcs,←hj];simp
 have hN:Sk.cs.length=j+1:=by rw [hcs,List.length_append,hj];rfl
 have hs1:SepF F w [tpTq K.toRepOk Sk.q Sk.nb (pcI Sk.f),blkT Sk.g #[.int .i64 Sk.la,.int .i64 Sk.n,Sk.q,.slice A n cap],rowT 0 134 1 A n cap (ptrsC Sk.cs),packT (Sk.cs.map (ckT K.toRepOk 86)),blkT gx #[.int .i64 x.a,.int .i64 x.b,.int .i64 x.s,.int .i64 x.u,.int .i64 x.v,.int .i64 x.m]] w1:=hs1
 have hrow:=hs1.row 2 rfl
 have hn:n=j+1:=by have:=hrow.1;rw [ζ2p]at this;omega
 subst hn
 obtain⟨gr,rfl,kr⟩:=ζ49 hrow (ptrsC_at hat)
 have hmap:(Sk.cs.map (ckT K.toRepOk 86))[j]? =some (ckT K.toRepOk 86 c):=by rw [List.getElem?_map,hat];rfl
 obtain⟨Fc,hcp,_,_⟩:=hs1.deep (i:=3) rfl hmap
 obtain⟨A2,cap2,hb2,ho2⟩:=ckT_blk hcp
 obtain⟨m,hm⟩: ∃m,c.rs.length=m:=⟨_,rfl⟩
 rw [hm]at hb2 hl
 have hgr:=ζp hrow (k:=gr) (by simp [rowK,Value.ownBlock])
 have HGR:=hid hgr
 have HKR:=hid kr
 have HS1:=hid hs1
 have HGX:=hid hgx
 have HM:=hid hm
 have HB1:=hid (hs1.b 1 rfl)
 have HX1:=hid (hs1.b 4 rfl)
 have HB2:=hid hb2
 have HCS:=hid hcs
 have HMAP:=hid hmap
 have HC:=hid hc
 have HL:=hid hl
 have HX:=hid hx
 have HKK:=hid hk
 have HJ:=hid hj
 have hj1:j≤100000:=by omega
 have b3:=(hs1.b 1 rfl).get 3 rfl
 have q0:=hb2.get 0 rfl
 have HWJ:=hid (show IntKind.i64.wrap (j:Int)=(j:Int)from IntWalk.i64_in _ (by omega))
 have d0:(((j:Int)+1) == 0)=false:=by simp;omega
 have d1:((m:Int) == 250)=false:=by simp;omega
 clear hp hs0 hs1 hgx hat hN hrow hmap hcp hb2 ho2 hm hgr hcs hc hl hx hk hj hlen
 go_enter Tryz.func68,Tryz.ntmps68
 go_upto_region 5 with fail
 rw [HGX.out]
 clear hw1
 obtain⟨Q1,hQ1⟩: ∃Q1:World→Prop,Q1=fun wx=>SepF F w [tpTq K.toRepOk Sk.q Sk.nb (pcI Sk.f),blkT Sk.g #[.int .i64 Sk.la,.int .i64 Sk.n,Sk.q,.slice (some ⟨gr,0,none⟩) (j+1) cap],rowT 0 134 1 (some ⟨gr,0,none⟩) (j+1) cap (ptrsC Sk.cs),packT ((Sk.cs.map (ckT K.toRepOk 86)).set j (ckT K.toRepOk 86 (addCk c x))),blkT gx #[.int .i64 x.a,.int .i64 x.b,.int .i64 x.s,.int .i64 x.u,.int .i64 x.v,.int .i64 x.m]] wx:=⟨_,rfl⟩
 have HQ1:=hid hQ1
 clear hQ1
 refine ζ4 14 (fun S val wx=>VVs 14 [(fun vv=>vv= .pointer (some ⟨Sk.g,0,none⟩)),(fun vv=>vv= .pointer (some ⟨Sk.g,0,none⟩)),(fun vv=>vv= .pointer (some ⟨Sk.g,3,none⟩)),(fun vv=>vv= .slice (some ⟨gr,0,none⟩) (j+1) cap),(fun vv=>vv= .pointer (some ⟨Sk.g,0,none⟩)),(fun vv=>vv= .pointer (some ⟨Sk.g,0,none⟩)),(fun vv=>vv= .pointer (some ⟨Sk.g,3,none⟩)),(fun vv=>vv= .slice (some ⟨gr,0,none⟩) (j+1) cap),(fun vv=>vv= .int .i64 ((j:Int)+1)),(fun vv=>vv= .int .i64 (j:Int)),(fun vv=>vv= .pointer (some ⟨gr,j,none⟩)),(fun vv=>vv= .pointer (some ⟨c.g,0,none⟩)),(fun vv=>vv= .agg #[.int .i64 x.a,.int .i64 x.b,.int .i64 x.s,.int .i64 x.u,.int .i64 x.v,.int .i64 x.m]),(fun vv=>vv= .tuple #[])] S val∧Clo [[],[0],[1],[2],[],[4],[5],[6],[7],[8],[3,9],[10],[],[11,12]] S∧((S 13=false→Below w1.heap.size w1 wx)∧(S 13=true→Q1 wx))) [0,1,2,4,5,6,8,9,10] (by kernel_rfl) (by kernel_rfl) ⟨VVs.start,Clo.start,⟨fun _=>(Below.refl _ _).drew,fun h=>by cases h⟩⟩ ⟨?_,?_,?_,?_,?_,?_,?_,?_,?_,?_,?_,?_,?_,?_,trivial⟩ ?_
 ·rintro ev wv S val hE ⟨hV,hK,hw⟩ hS hd
  have hcl:=Clo.add hK (i:=0) fz
  have v0:ev (.tmp 0)= .pointer (some ⟨Sk.g,0,none⟩):=hE.tmp 0 rfl
  refine pv (.pointer (some ⟨Sk.g,0,none⟩)) ⟨VVs.add hV rfl,hcl,(by simpa [addS]using hw)⟩ (fun w9=> ?_) rfl rfl
  obtain⟨e1,-,e2,-⟩:=hE;clear hd hw hS hV hK hcl
  go_simp
 ·rintro ev wv S val hE ⟨hV,hK,hw⟩ hS hd
  have hcl:=Clo.add hK (i:=1) (fc (hd 0 (by decide)).1 fz)
  have v48:ev (.tmp 48)= .pointer (some ⟨Sk.g,0,none⟩):=vd (hd 0 (by decide)) (hV 0 (by decide))
  refine pv (.pointer (some ⟨Sk.g,0,none⟩)) ⟨VVs.add hV rfl,hcl,(by simpa [addS]using hw)⟩ (fun w9=> ?_) rfl rfl
  obtain⟨e1,-,e2,-⟩:=hE;clear hd hw hS hV hK hcl
  go_simp
 ·rintro ev wv S val hE ⟨hV,hK,hw⟩ hS hd
  have hcl:=Clo.add hK (i:=2) (fc (hd 1 (by decide)).1 fz)
  have v49:ev (.tmp 49)= .pointer (some ⟨Sk.g,0,none⟩):=vd (hd 1 (by decide)) (hV 1 (by decide))
  refine pv (.pointer (some ⟨Sk.g,3,none⟩)) ⟨VVs.add hV rfl,hcl,(by simpa [addS]using hw)⟩ (fun w9=> ?_) rfl rfl
  obtain⟨e1,-,e2,-⟩:=hE;clear hd hw hS hV hK hcl
  go_simp
 ·rintro ev wv S val hE ⟨hV,hK,hw⟩ hS hd
  have hcl:=Clo.add hK (i:=3) (fc (hd 2 (by decide)).1 fz)
  have v50:ev (.tmp 50)= .pointer (some ⟨Sk.g,3,none⟩):=vd (hd 2 (by decide)) (hV 2 (by decide))
  have s13:S 13=false:=by
   cases h0:S 13 with
   | false=>rfl
   | true=>
    have q11:=hK 13 h0 11 (by decide)
    have q10:=hK 11 q11 10 (by decide)
    have q3:=hK 10 q10 3 (by decide)
    exact absurd q3 (by rw [hS];decide)
  have hwb:=hw.1 s13
  have kx0:=((HB1.out).keep hwb).get 3 rfl
  refine ifw rfl (ifn rfl ?_)
  refine ζ3 (u:= .slice (some ⟨gr,0,none⟩) (j+1) cap) (w':=wv) ?_ ⟨VVs.add hV rfl,hcl,(by simpa [addS]using hw)⟩
  have e1:=hE.const;clear hE hd hw hS hV hK hcl
  go_simp
 ·rintro ev wv S val hE ⟨hV,hK,hw⟩ hS hd
  have hcl:=Clo.add hK (i:=4) fz
  have v0:ev (.tmp 0)= .pointer (some ⟨Sk.g,0,none⟩):=hE.tmp 0 rfl
  refine pv (.pointer (some ⟨Sk.g,0,none⟩)) ⟨VVs.add hV rfl,hcl,(by simpa [addS]using hw)⟩ (fun w9=> ?_) rfl rfl
  obtain⟨e1,-,e2,-⟩:=hE;clear hd hw hS hV hK hcl
  go_simp
 ·rintro ev wv S val hE ⟨hV,hK,hw⟩ hS hd
  have hcl:=Clo.add hK (i:=5) (fc (hd 4 (by decide)).1 fz)
  have v52:ev (.tmp 52)= .pointer (some ⟨Sk.g,0,none⟩):=vd (hd 4 (by decide)) (hV 4 (by decide))
  refine pv (.pointer (some ⟨Sk.g,0,none⟩)) ⟨VVs.add hV rfl,hcl,(by simpa [addS]using hw)⟩ (fun w9=> ?_) rfl rfl
  obtain⟨e1,-,e2,-⟩:=hE;clear hd hw hS hV hK hcl
  go_simp
 ·rintro ev wv S val hE ⟨hV,hK,hw⟩ hS hd
  have hcl:=Clo.add hK (i:=6) (fc (hd 5 (by decide)).1 fz)
  have v53:ev (.tmp 53)= .pointer (some ⟨Sk.g,0,none⟩):=vd (hd 5 (by decide)) (hV 5 (by decide))
  refine pv (.pointer (some ⟨Sk.g,3,none⟩)) ⟨VVs.add hV rfl,hcl,(by simpa [addS]using hw)⟩ (fun w9=> ?_) rfl rfl
  obtain⟨e1,-,e2,-⟩:=hE;clear hd hw hS hV hK hcl
  go_simp
 ·rintro ev wv S val hE ⟨hV,hK,hw⟩ hS hd
  have hcl:=Clo.add hK (i:=7) (fc (hd 6 (by decide)).1 fz)
  have v54:ev (.tmp 54)= .pointer (some ⟨Sk.g,3,none⟩):=vd (hd 6 (by decide)) (hV 6 (by decide))
  have s13:S 13=false:=by
   cases h0:S 13 with
   | false=>rfl
   | true=>
    have q11:=hK 13 h0 11 (by decide)
    have q10:=hK 11 q11 10 (by decide)
    have q9:=hK 10 q10 9 (by decide)
    have q8:=hK 9 q9 8 (by decide)
    have q7:=hK 8 q8 7 (by decide)
    exact absurd q7 (by rw [hS];decide)
  have hwb:=hw.1 s13
  have kx0:=((HB1.out).keep hwb).get 3 rfl
  refine ifw rfl (ifn rfl ?_)
  refine ζ3 (u:= .slice (some ⟨gr,0,none⟩) (j+1) cap) (w':=wv) ?_ ⟨VVs.add hV rfl,hcl,(by simpa [addS]using hw)⟩
  have e1:=hE.const;clear hE hd hw hS hV hK hcl
  go_simp
 ·rintro ev wv S val hE ⟨hV,hK,hw⟩ hS hd
  have hcl:=Clo.add hK (i:=8) (fc (hd 7 (by decide)).1 fz)
  have v55:ev (.tmp 55)= .slice (some ⟨gr,0,none⟩) (j+1) cap:=vd (hd 7 (by decide)) (hV 7 (by decide))
  refine pv (.int .i64 ((j:Int)+1)) ⟨VVs.add hV rfl,hcl,(by simpa [addS]using hw)⟩ (fun w9=> ?_) rfl rfl
  obtain⟨e1,-,e2,-⟩:=hE;clear hd hw hS hV hK hcl
  go_simp
 ·rintro ev wv S val hE ⟨hV,hK,hw⟩ hS hd
  have hcl:=Clo.add hK (i:=9) (fc (hd 8 (by decide)).1 fz)
  have v56:ev (.tmp 56)= .int .i64 ((j:Int)+1):=vd (hd 8 (by decide)) (hV 8 (by decide))
  refine ifw rfl (ifw rfl ⟨.int .i64 (j:Int),fun w9=> ?_,VVs.add hV rfl,hcl,(by simpa [addS]using hw)⟩)
  obtain⟨e1,-,e2,-⟩:=hE;clear hd hw hS hV hK hcl
  have hwj:IntKind.i64.wrap (j:Int)=(j:Int):=HWJ.out
  show _=Result.ok (Next.value (.int .i64 (j:Int))) w9
  go_simp
 ·rintro ev wv S val hE ⟨hV,hK,hw⟩ hS hd
  have hcl:=Clo.add hK (i:=10) (fc (hd 3 (by decide)).1 (fc (hd 9 (by decide)).1 fz))
  have v51:ev (.tmp 51)= .slice (some ⟨gr,0,none⟩) (j+1) cap:=vd (hd 3 (by decide)) (hV 3 (by decide))
  have v57:ev (.tmp 57)= .int .i64 (j:Int):=vd (hd 9 (by decide)) (hV 9 (by decide))
  refine pv (.pointer (some ⟨gr,j,none⟩)) ⟨VVs.add hV rfl,hcl,(by simpa [addS]using hw)⟩ (fun w9=> ?_) rfl rfl
  obtain⟨e1,-,e2,-⟩:=hE;clear hd hw hS hV hK hcl
  go_simp
  intro h9
  omega
 ·rintro ev wv S val hE ⟨hV,hK,hw⟩ hS hd
  have hcl:=Clo.add hK (i:=11) (fc (hd 10 (by decide)).1 fz)
  have v58:ev (.tmp 58)= .pointer (some ⟨gr,j,none⟩):=vd (hd 10 (by decide)) (hV 10 (by decide))
  have s13:S 13=false:=by
   cases h0:S 13 with
   | false=>rfl
   | true=>
    have q11:=hK 13 h0 11 (by decide)
    exact absurd q11 (by rw [hS];decide)
  have hwb:=hw.1 s13
  have kx0:=(Below.cell hwb HGR.out).trans HKR.out
  refine ifw rfl (ifn rfl ?_)
  refine ζ3 (u:= .pointer (some ⟨c.g,0,none⟩)) (w':=wv) ?_ ⟨VVs.add hV rfl,hcl,(by simpa [addS]using hw)⟩
  have e1:=hE.const;clear hE hd hw hS hV hK hcl
  go_simp
 ·rintro ev wv S val hE ⟨hV,hK,hw⟩ hS hd
  have hcl:=Clo.add hK (i:=12) fz
  have v3:ev (.tmp 3)= .pointer (some ⟨gx,0,none⟩):=hE.tmp 3 rfl
  have s13:S 13=false:=by
   cases h0:S 13 with
   | false=>rfl
   | true=>
    have q12:=hK 13 h0 12 (by decide)
    exact absurd q12 (by rw [hS];decide)
  have hwb:=hw.1 s13
  have kx0:=((HX1.out).keep hwb).get 0 rfl
  have kx1:=((HX1.out).keep hwb).get 1 rfl
  have kx2:=((HX1.out).keep hwb).get 2 rfl
  have kx3:=((HX1.out).keep hwb).get 3 rfl
  have kx4:=((HX1.out).keep hwb).get 4 rfl
  have kx5:=((HX1.out).keep hwb).get 5 rfl
  refine ifw rfl (ifn rfl ?_)
  refine ζ3 (u:= .agg #[.int .i64 x.a,.int .i64 x.b,.int .i64 x.s,.int .i64 x.u,.int .i64 x.v,.int .i64 x.m]) (w':=wv) ?_ ⟨VVs.add hV rfl,hcl,(by simpa [addS]using hw)⟩
  have e1:=hE.const;clear hE hd hw hS hV hK hcl
  go_simp
 ·rintro ev wv S val hE ⟨hV,hK,hw⟩ hS hd
  have hcl:=Clo.add hK (i:=13) (fc (hd 11 (by decide)).1 (fc (hd 12 (by decide)).1 fz))
  have v59:ev (.tmp 59)= .pointer (some ⟨c.g,0,none⟩):=vd (hd 11 (by decide)) (hV 11 (by decide))
  have v60:ev (.tmp 60)= .agg #[.int .i64 x.a,.int .i64 x.b,.int .i64 x.s,.int .i64 x.u,.int .i64 x.v,.int .i64 x.m]:=vd (hd 12 (by decide)) (hV 12 (by decide))
  have hwb:=hw.1 hS
  refine ifw rfl (ifn rfl ?_)
  refine ζl (f:=91) (args:= #[.pointer (some ⟨c.g,0,none⟩),.agg #[.int .i64 x.a,.int .i64 x.b,.int .i64 x.s,.int .i64 x.u,.int .i64 x.v,.int .i64 x.m]]) ?_ (sepf_add K (HS1.out.keep hwb) (i:=3) rfl HMAP.out (by have h1:=HM.out;have h2:=HL.out;omega) (by have h1:=HC.out.ll;have h2:=HC.out.len;omega) x) ?_
  ·obtain⟨e1,-,e0,-⟩:=hE;clear hd hw hS hV hK hcl
   go_simp
  ·rintro e w' ⟨rfl,hs3⟩
   exact⟨_,rfl,VVs.add hV (rfl),hcl,⟨fun h=>absurd h (by simp [addS]),fun _=>(by rw [HQ1.out];exact hs3)⟩⟩
 ·rintro S val w9 hS ⟨hV,hK,hw⟩
  have e0:val 0= .pointer (some ⟨Sk.g,0,none⟩):=hV 0 (by decide) (hS 0 (by decide))
  have e1:val 1= .pointer (some ⟨Sk.g,0,none⟩):=hV 1 (by decide) (hS 1 (by decide))
  have e2:val 2= .pointer (some ⟨Sk.g,3,none⟩):=hV 2 (by decide) (hS 2 (by decide))
  have e3:val 3= .slice (some ⟨gr,0,none⟩) (j+1) cap:=hV 3 (by decide) (hS 3 (by decide))
  have e4:val 4= .pointer (some ⟨Sk.g,0,none⟩):=hV 4 (by decide) (hS 4 (by decide))
  have e5:val 5= .pointer (some ⟨Sk.g,0,none⟩):=hV 5 (by decide) (hS 5 (by decide))
  have e6:val 6= .pointer (some ⟨Sk.g,3,none⟩):=hV 6 (by decide) (hS 6 (by decide))
  have e7:val 7= .slice (some ⟨gr,0,none⟩) (j+1) cap:=hV 7 (by decide) (hS 7 (by decide))
  have e8:val 8= .int .i64 ((j:Int)+1):=hV 8 (by decide) (hS 8 (by decide))
  have e9:val 9= .int .i64 (j:Int):=hV 9 (by decide) (hS 9 (by decide))
  have e10:val 10= .pointer (some ⟨gr,j,none⟩):=hV 10 (by decide) (hS 10 (by decide))
  have e11:val 11= .pointer (some ⟨c.g,0,none⟩):=hV 11 (by decide) (hS 11 (by decide))
  have e12:val 12= .agg #[.int .i64 x.a,.int .i64 x.b,.int .i64 x.s,.int .i64 x.u,.int .i64 x.v,.int .i64 x.m]:=hV 12 (by decide) (hS 12 (by decide))
  have e13:val 13= .tuple #[]:=hV 13 (by decide) (hS 13 (by decide))
  intro v0 h0 u0 v1 h1 u1 v2 h2 u2 v3 h3 u3 v4 h4 u4 v5 h5 u5 v6 h6 u6 v7 h7 u7 v8 h8 u8 v9 h9 u9 v10 h10 u10 v11 h11 u11 v12 h12 u12 v13 h13 u13
  simp only [Act.put,List.setIfInBounds_toArray,List.set_cons_zero,List.set_cons_succ,List.drop_succ_cons,List.drop_zero]
  simp only [h0.trans e0,h1.trans e1,h2.trans e2,h3.trans e3,h4.trans e4,h5.trans e5,h6.trans e6,h7.trans e7,h8.trans e8,h9.trans e9,h10.trans e10,h11.trans e11,h12.trans e12,h13.trans e13]
  clear hV h0 e0 u0 v0 h1 e1 u1 v1 h2 e2 u2 v2 h3 e3 u3 v3 h4 e4 u4 v4 h5 e5 u5 v5 h6 e6 u6 v6 h7 e7 u7 v7 h8 e8 u8 v8 h9 e9 u9 v9 h10 e10 u10 v10 h11 e11 u11 v11 h12 e12 u12 v12 h13 e13 u13 v13
  change wpList Tryz.prog _ _ _ _ w9
  have HQZ:=hid (hw.2 (hS 13 (by decide)))
  clear hw hS hK val S
  rw [HQ1.out]at HQZ
  clear HQ1 HB1 HX1 HS1
  refine ζ2 ?_
  go_wp2_with fail
  go_end0
  have hs9:SepF F w [tpTq K.toRepOk Sk.q Sk.nb (pcI Sk.f),blkT Sk.g #[.int .i64 Sk.la,.int .i64 Sk.n,Sk.q,.slice (some ⟨gr,0,none⟩) (j+1) cap],rowT 0 134 1 (some ⟨gr,0,none⟩) (j+1) cap (ptrsC Sk.cs),packT ((Sk.cs.map (ckT K.toRepOk 86)).set j (ckT K.toRepOk 86 (addCk c x))),blkT gx #[.int .i64 x.a,.int .i64 x.b,.int .i64 x.s,.int .i64 x.u,.int .i64 x.v,.int .i64 x.m]] w9:=HQZ.out
  have e1:(Sk.cs.map (ckT K.toRepOk 86)).set j (ckT K.toRepOk 86 (addCk c x))=(init++ [addCk c x]).map (ckT K.toRepOk 86):=by
   rw [HCS.out,List.map_append,List.map_append,←HJ.out];simp
  have e2:ptrsC Sk.cs=ptrsC (init++ [addCk c x]):=by
   rw [HCS.out];unfold ptrsC;rw [List.map_append,List.map_append];rfl
  rw [e1,e2]at hs9
  obtain⟨F',h1,h2,h3⟩:=(hs9.take 4).pack
  exact⟨F', { Sk with cs:=init++ [addCk c x] },rfl,⟨⟨some ⟨gr,0,none⟩,j+1,cap⟩,h1⟩,EndS.old HCS.out HKK.out (HC.out.add (by have h1:=HM.out;have h2:=HL.out;omega) HX.out),h2,h3⟩
end Go.Proofs.YtfceoehfellpgaaGreat

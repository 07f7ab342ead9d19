/- Contracts of package bitemp -/
import Derived.Test.YthagdonmijhpdaaGreatBp7
open Go.Lib (hid)
set_option linter.unusedSimpArgs false
set_option linter.unusedVariables false
set_option maxHeartbeats 4000000
set_option maxRecDepth 8000
namespace Corr
open Go Go.RowKit
theorem boT.blk {Rep:RepT} {R:RepOk Rep} {T U:TypeId} {g:Nat} {Sk:Kp} {w:World} {F:Nat→Prop}(h:(boT R T U g Sk).P w F):Blk w g #[.pointer (some ⟨Sk.g,0,none⟩)]∧∃A n cap,Blk w Sk.g #[.int .i64 Sk.la,.int .i64 Sk.n,Sk.q,.slice A n cap]:=by
 refine⟨h.2.b 0 rfl,?_⟩
 obtain⟨F1,hp,_⟩:=h.2.get (i:=1) rfl
 exact kpT.blk hp
theorem boT.ne {Rep:RepT} {R:RepOk Rep} {T U:TypeId} {g:Nat} {Sk:Kp} {w:World} {F:Nat→Prop}(h:(boT R T U g Sk).P w F):g≠Sk.g:=by
 obtain⟨_,Fs,h1,h2,h3,_⟩:=h
 intro e
 have p0:=h1 0 _ rfl
 obtain⟨s,hp⟩:=h1 1 _ rfl
 obtain⟨Gs,g1,g2,g3,_⟩:=hp.2
 have q:=g1 1 _ rfl
 rcases g3 1 (by simp) Sk.g ((q.2 Sk.g).2 rfl)with h | h
 ·exact h2 0 1 (by simp) (by simp) (by omega) g ((p0.2 g).2 rfl) (by rw [e];exact h)
 ·have:=q.1.sz;omega
theorem boT.keepB {Rep:RepT} {R:RepOk Rep} {T U:TypeId} {g:Nat} {Sk:Kp} {w w':World} {F:Nat→Prop}(h:(boT R T U g Sk).P w F)(hb:Below w.heap.size w w'):(boT R T U g Sk).P w' F:=(boT R T U g Sk).keep h (Off.of (F:=fun _=>False) hb) (fun _ _ e=>e)
theorem kpT.set_la {Rep:RepT} {R:RepOk Rep} {T U:TypeId} {Sk:Kp} {w:World} {F:Nat→Prop}(h:(kpT R T U Sk).P w F)(m:Int): ∃F',(kpT R T U { Sk with la:=m }).P (w.setCell ⟨Sk.g,0,none⟩ (.int .i64 m)) F'∧Off F w (w.setCell ⟨Sk.g,0,none⟩ (.int .i64 m))∧∀k,F' k→F k:=by
 obtain⟨s,hp⟩:=h
 obtain⟨F2,h1,h2,h3⟩:=(hp.2.set 1 rfl 0 (.int .i64 m)).pack
 refine⟨F2,⟨s,h1⟩,h2,fun k hk=> ?_⟩
 rcases h3 k hk with h | h
 ·exact h
 ·have:=h1.1 k hk
  simp at this;omega
theorem kpT.tq {Rep:RepT} {R:RepOk Rep} {T U:TypeId} {Sk:Kp} {w:World} {F:Nat→Prop}(h:(kpT R T U Sk).P w F): ∃F1,TpQq Rep w Sk.q F1 Sk.nb (pcI Sk.f):=by
 obtain⟨s,hp⟩:=h
 obtain⟨F2,h2,_⟩:=hp.2.get (i:=0) rfl
 exact⟨F2,h2⟩
theorem boT.tq {Rep:RepT} {R:RepOk Rep} {T U:TypeId} {g:Nat} {Sk:Kp} {w:World} {F:Nat→Prop}(h:(boT R T U g Sk).P w F): ∃F1,TpQq Rep w Sk.q F1 Sk.nb (pcI Sk.f):=by
 obtain⟨F1,⟨s,hp⟩,_⟩:=h.2.get (i:=1) rfl
 obtain⟨F2,h2,_⟩:=hp.2.get (i:=0) rfl
 exact⟨F2,h2⟩
end Corr
namespace Go.Proofs.YthagdonmijhpdaaGreat
open Go.RowKit Corr
theorem bnew_any {Rep:RepT}(K:TrK Rep)(w:World):Calls Tryz.prog 9 #[] w fun e w'=>∃(q:Addr) (F:Nat→Prop),e= .returned (.pointer (some q))∧RepBt K.toRepOk 86 134 w' (.pointer (some q)) F []∧Below w.heap.size w w'∧∀k,F k→w.heap.size≤k:=by
 go_enter Tryz.func9,Tryz.ntmps9
 go_wp2_with fail
 refine(fresh_any K w).mono ?_
 rintro e w1 ⟨Sk,F1,rfl,h1,h2,h3,h4⟩
 have HH1:=hid h1
 have HH2:=hid h2
 have HH3:=hid h3
 have HH4:=hid h4
 clear h1 h2 h3 h4
 go_wp2_with fail
 go_ret
 obtain⟨w2,hw2⟩: ∃w2,w1.alloc (.cells #[.pointer (some ⟨Sk.g,0,none⟩)] 66)=w2:=⟨_,rfl⟩
 rw [hw2]
 have hs:=((SepF.nil w).add HH3.out (t:=kpT K.toRepOk 86 134 Sk) HH1.out HH4.out).push #[.pointer (some ⟨Sk.g,0,none⟩)] 66
 rw [hw2]at hs
 have hs:SepF (fun _=>False) w [kpT K.toRepOk 86 134 Sk,blkT w1.heap.size #[.pointer (some ⟨Sk.g,0,none⟩)]] w2:=hs
 obtain⟨F,g1,g2,g3⟩:=(hs.swap).pack
 exact⟨_,F,rfl,⟨w1.heap.size,Sk,rfl,g1,HH2.out⟩,g2.below (Nat.le_refl _) (fun k hk=>hk.elim),fun k hk=>(g3 k hk).resolve_left fun h=>h⟩
theorem bsegs_any {Rep:RepT}(K:TrK Rep) {w:World} {q:Value} {F:Nat→Prop} {n:Nat} {f:Int→Int}(H:TpQq Rep w q F n (pcI f))(ho:offF f)(hn:n≤1000)(a b:Int):Calls Tryz.prog 32 #[q,.agg #[.int .i64 a,.int .i64 b]] w (RetSegFq 128 w f a b):=by
 obtain⟨gT,_,_,_,_,_,rfl,_⟩:=id H
 cases hm:mayB a b with
 | true=>exact tpsegs_yesq K gT F n f a b w H ho hn hm
 | false=>
  obtain⟨gM,hc⟩:=TpQq.map_at H
  refine(tpsegs_noq K gT gM a b w hc hm).mono fun e w' hq=> ?_
  exact⟨[],none,0,0,hq.1,by unfold segF;rw [if_neg (by rw [hm];decide)],World.ownsRow_nil _ _ _ _,hq.2⟩
theorem bput_any {Rep:RepT}(K:TrK Rep)(w:World)(p:Value)(F:Nat→Prop)(L:ClL)(t a b v:Int)(H:RepBt K.toRepOk 86 134 w p F L)(hL:L.length≤100):Calls Tryz.prog 10 #[p,.int .i64 t,.agg #[.int .i64 a,.int .i64 b],.int .i64 v] w fun e w'=>∃F':Nat→Prop,e= .returned (.int .i64 (bputR L t a b))∧RepBt K.toRepOk 86 134 w' p F' (bputL L t a b v)∧Off F w w'∧∀k,F' k→F k∨w.heap.size≤k:=by
 obtain⟨g,Sk,rfl,h,hk⟩:=H
 have hA:=(Below.refl w.heap.size w).alloc (Nat.le_refl _) (.cells #[.int .i64 a,.int .i64 b] 24)
 have hX:=Blk.new w #[.int .i64 a,.int .i64 b] 24
 obtain⟨w1,hw1⟩: ∃w1,w.alloc (.cells #[.int .i64 a,.int .i64 b] 24)=w1:=⟨_,rfl⟩
 rw [hw1]at hA hX
 obtain⟨gx,hgx⟩: ∃k,w.heap.size=k:=⟨_,rfl⟩
 rw [hgx]at hX
 have HGX:=hid hgx
 have HX1:=hid hX
 have HA:=hid hA
 have HH:=hid h
 have HH1:=hid (boT.keepB h hA)
 obtain⟨hb1,A,n,cap,hq1⟩:=boT.blk HH1.out
 have HB1:=hid hb1
 have HNE:=hid (boT.ne HH.out)
 have HQ1':=hid hq1
 have HK:=hid hk
 have HL:=hid hL
 obtain⟨Ft,ht⟩:=boT.tq HH1.out
 have HTQ:=hid ht
 have b0:=hb1.get 0 rfl
 clear hA hX hgx h hk hL hb1 hq1 ht
 go_enter Tryz.func10,Tryz.ntmps10
 go_wp2_with fail
 refine(bmade_yes g _ w1 b0).mono ?_
 rintro e w2 ⟨rfl,hw2⟩
 subst hw2
 go_upto_region 3 with fail
 rw [HGX.out]
 clear hw1
 obtain⟨Q1,hQ1⟩: ∃Q1:Value→World→Prop,Q1=fun vx wx=>∃out A N c,vx= .slice A N c∧segF Sk.f a b out∧wx.ownsRow w2.heap.size 128 5 (.slice A N c) N (ζ7 out)∧Below w2.heap.size w2 wx:=⟨_,rfl⟩
 have HQ1:=hid hQ1
 clear hQ1
 refine ζ3 10 (fun S val wx=>VVs 10 [(· = .pointer (some ⟨g,0,none⟩)),(· = .pointer (some ⟨g,0,none⟩)),(· = .pointer (some ⟨g,0,none⟩)),(· = .pointer (some ⟨Sk.g,0,none⟩)),(· = .pointer (some ⟨Sk.g,0,none⟩)),(· = .pointer (some ⟨Sk.g,2,none⟩)),(· =Sk.q),(· = .agg #[.int .i64 a,.int .i64 b]),(fun vv=>∃Av Nv cv,vv= .slice Av Nv cv),(fun vv=>∃Av Nv cv,vv= .slice Av Nv cv)] S val∧Clo [[],[0],[1],[2],[3],[4],[5],[],[6,7],[8]] S∧((S 8=false→Below w2.heap.size w2 wx)∧(S 8=true→Q1 (val 8) wx)∧(S 9=true→Q1 (val 9) wx))) [0,1,2,4,5,9] (by kernel_rfl) (by kernel_rfl) ⟨VVs.start,Clo.start,⟨fun _=>(Below.refl _ _).drew,(fun h=>by cases h),fun h=>by cases h⟩⟩ ⟨?_,?_,?_,?_,?_,?_,?_,?_,?_,?_,trivial⟩ ?_
 ·exact qU [0]
 ·exact qU []
 ·exact qU []
 ·refine qM fun ev wv S val hE hV hK hw hS hd=> ?_
  have s8:=hK.no hS 8 [6,5,4,3]
  have hwb:=hw.1 s8
  have kx0:=((HB1.out).keep hwb).get 0 rfl
  exact qE [] hE hV hd
 ·exact qU []
 ·exact qU []
 ·refine qM fun ev wv S val hE hV hK hw hS hd=> ?_
  have s8:=hK.no hS 8 [6]
  have hwb:=hw.1 s8
  have kx0:=((HQ1'.out).keep hwb).get 2 rfl
  exact qE [] hE hV hd
 ·refine qM fun ev wv S val hE hV hK hw hS hd=> ?_
  have s8:=hK.no hS 8 [7]
  have hwb:=hw.1 s8
  have kx0:=((HX1.out).keep hwb).get 0 rfl
  have kx1:=((HX1.out).keep hwb).get 1 rfl
  exact qE [6] hE hV hd
 ·refine qC fun ev wv S val hE hV hK hw hS hd=> ?_
  have hwb:=hw.1 hS
  refine qF (f:=32) (args:= #[Sk.q,.agg #[.int .i64 a,.int .i64 b]]) [] hE hV hd (bsegs_any K ((tpTq K.toRepOk Sk.q Sk.nb (pcI Sk.f)).keep HTQ.out (Off.of (F:=fun _=>False) hwb) (fun _ _ e=>e)) HK.out.ks.off (by have h1:=HK.out.nb;have h2:=HL.out;omega) a b) ?_
  rintro e w' ⟨out,Ar,Nr,cr,rfl,g1,g2,g3⟩
  exact⟨_,rfl,(⟨_,_,_,rfl⟩),⟨fun h=>absurd h (by simp [addS]),fun _=>(by simpa [addV]using(by rw [HQ1.out];exact⟨out,Ar,Nr,cr,rfl,g1,ζ1m g2 hwb.size,Below.trans hwb (Below.mono g3 hwb.size)⟩)),fun h=>absurd (hK 9 (by simpa [addS]using h) 8 (by decide)) (by rw [hS];decide)⟩⟩
 ·rintro ev wv S val hE ⟨hV,hK,hw⟩ hS hd
  obtain⟨Av8,Nv8,cv8,g8⟩:=hV 8 (by decide) (hd 8 (by decide)).1
  have v21:ev (.tmp 21)= .slice Av8 Nv8 cv8:=(hd 8 (by decide)).2.trans g8
  refine ifw rfl (ifw rfl ⟨.slice Av8 Nv8 cv8,fun w9=> ?_,VVs.add hV ⟨_,_,_,rfl⟩,ζi hK rfl hd,⟨fun h=>absurd h (by simp [addS,(hd 8 (by decide)).1]),fun h=>(by simpa [addV]using hw.2.1 (hd 8 (by decide)).1),fun _=>(by have h9:=hw.2.1 (hd 8 (by decide)).1;rw [g8]at h9;simpa [addV]using h9)⟩⟩)
  obtain⟨e1,-,e2,-⟩:=hE;clear hd hw hS hV hK
  show _=Result.ok (Next.value (.slice Av8 Nv8 cv8)) w9
  go_simp
 ·rintro S val w9 hS ⟨hV,hK,hw⟩
  have e1:val 1= .pointer (some ⟨g,0,none⟩):=hV 1 (by decide) (hS 1 (by decide))
  have e2:val 2= .pointer (some ⟨g,0,none⟩):=hV 2 (by decide) (hS 2 (by decide))
  have e3:val 3= .pointer (some ⟨Sk.g,0,none⟩):=hV 3 (by decide) (hS 3 (by decide))
  have e4:val 4= .pointer (some ⟨Sk.g,0,none⟩):=hV 4 (by decide) (hS 4 (by decide))
  have e5:val 5= .pointer (some ⟨Sk.g,2,none⟩):=hV 5 (by decide) (hS 5 (by decide))
  have e6:val 6=Sk.q:=hV 6 (by decide) (hS 6 (by decide))
  have e7:val 7= .agg #[.int .i64 a,.int .i64 b]:=hV 7 (by decide) (hS 7 (by decide))
  obtain⟨Av8,Nv8,cv8,e8⟩:=hV 8 (by decide) (hS 8 (by decide))
  obtain⟨Av9,Nv9,cv9,e9⟩:=hV 9 (by decide) (hS 9 (by decide))
  refine finL hV hS ?_
  rintro _ ⟨-,rfl⟩-v1 ⟨h1,-⟩-v2 ⟨h2,-⟩-v3 ⟨h3,-⟩-v4 ⟨h4,-⟩-v5 ⟨h5,-⟩-v6 ⟨h6,-⟩-v7 ⟨h7,-⟩-v8 ⟨h8,-⟩-v9 ⟨h9,-⟩-
  simp only [zA]
  simp only [h1.trans e1,h2.trans e2,h3.trans e3,h4.trans e4,h5.trans e5,h6.trans e6,h7.trans e7,h8.trans e8,h9.trans e9]
  clear hV h1 e1 v1 h2 e2 v2 h3 e3 v3 h4 e4 v4 h5 e5 v5 h6 e6 v6 h7 e7 v7 h8 v8 h9 v9
  change wpList Tryz.prog _ _ _ _ w9
  have hq9:=hw.2.2 (hS 9 (by decide))
  rw [e9]at hq9
  have HQZ:=hid hq9
  clear hq9 hw hS hK e8 e9 val S
  rw [HQ1.out]at HQZ
  obtain⟨out,Ar,Nr,cr,ev,s1,s2,s3⟩:=HQZ.out
  injection ev with e1 e2 e3
  subst e1 e2 e3
  have HS1:=hid s1
  have HS2:=hid s2
  have HS3:=hid s3
  have b0:=(HB1.out.keep s3).get 0 rfl
  have hq9:=HQ1'.out.keep s3
  have q0:=hq9.get 0 rfl
  have f0:=hq9.f 0
  have HLA:=hid (show Sk.la=lastL L from HK.out.la)
  have HBW:=hid (HA.out.trans (Below.mono s3 HA.out.size))
  have HLEN:=hid (show out.length=Nv9 by have:=s2.1;rw [ζx]at this;omega)
  have HSAME:=hid (show ∀w',Below w.heap.size w w'→RepBt K.toRepOk 86 134 w' (.pointer (some ⟨g,0,none⟩)) F L from fun w' hb=>⟨g,Sk,rfl,boT.keepB HH.out hb,HK.out⟩)
  clear HQZ HQ1 s1 s2 s3 hq9
  refine ζ2 ?_
  by_cases h1:t<1
  ·have d1:decide (t<1)=true:=decide_eq_true h1
   have HE:=hid (show bputR L t a b=2∧bputL L t a b v=L by unfold bputR bputL;rw [if_pos (.inl h1),if_pos (.inl h1)];exact⟨rfl,rfl⟩)
   clear h1
   go_wp2_with fail
   go_ret
   exact⟨F,by rw [HE.out.1];rfl,by rw [HE.out.2];exact HSAME.out _ HBW.out,Off.of HBW.out,fun k hk=> .inl hk⟩
  ·have d1:decide (t<1)=false:=decide_eq_false h1
   by_cases h2:t<Sk.la
   ·have d2:decide (t<Sk.la)=true:=decide_eq_true h2
    have HE:=hid (show bputR L t a b=2∧bputL L t a b v=L by unfold bputR bputL;rw [←HLA.out,if_pos (.inr h2),if_pos (.inr h2)];exact⟨rfl,rfl⟩)
    clear h1 h2
    go_wp2_with fail
    go_ret
    exact⟨F,by rw [HE.out.1];rfl,by rw [HE.out.2];exact HSAME.out _ HBW.out,Off.of HBW.out,fun k hk=> .inl hk⟩
   ·have d2:decide (t<Sk.la)=false:=decide_eq_false h2
    have H12:=hid (show ¬(t<1∨t<lastL L) by rw [←HLA.out];omega)
    cases hm:mayB a b with
    | false=>
     have HE:=hid (show bputR L t a b=15∧bputL L t a b v=L by unfold bputR bputL;rw [if_neg H12.out,if_neg H12.out,hm];exact⟨rfl,rfl⟩)
     have hN:Nv9=0:=by
      have h3:=HS1.out
      unfold segF at h3
      rw [if_neg (by rw [hm];decide)]at h3
      rw [←HLEN.out,h3];rfl
     subst hN
     clear h1 h2 hm
     go_wp2_with fail
     go_ret
     exact⟨F,by rw [HE.out.1];rfl,by rw [HE.out.2];exact HSAME.out _ HBW.out,Off.of HBW.out,fun k hk=> .inl hk⟩
    | true=>
     have HE:=hid (show bputR L t a b=0∧bputL L t a b v=L++ [(t,a,b,v)] by unfold bputR bputL;rw [if_neg H12.out,if_neg H12.out,hm];exact⟨rfl,rfl⟩)
     have HC:=hid (show covP Sk.f a b out by have h3:=HS1.out;unfold segF at h3;rwa [if_pos hm]at h3)
     have HM:=hid hm
     have d3:((Nv9:Int) == 0)=false:=by
      have h3:=ζ32 HC.out
      have h4:=(mayB_iff.1 hm).2.1
      have h5:=HLEN.out
      have h6: ¬out= []:=fun e=>by have h7:=HC.out;rw [e]at h7;have:a=b:=h7;omega
      have h8:=List.length_pos_iff.2 h6
      simp;omega
     have HT:=hid (show lastL L≤t∧1≤t by have:=H12.out;omega)
     clear h1 h2 hm
     obtain⟨F1,hp1,hF1,hu1⟩:=HH.out.2.get (i:=1) rfl
     have HP1:=hid hp1
     have HU1:=hid hu1
     have HF1:=hid (show ∀k,F1 k→k<w.heap.size from fun k hk=>(kpT K.toRepOk 86 134 Sk).lt hp1 k hk)
     clear hp1 hF1 hu1
     go_upto_region 9 with fail
     obtain⟨F2,hp2,ho2,hF2⟩:=kpT.set_la (kpT.keepB HP1.out HBW.out) t
     have HG:=hid (show Sk.g<w2.heap.size from HQ1'.out.sz)
     have HR2:=hid ((Off.set (F:=(· =Sk.g)) (w:=w9) (a:=⟨Sk.g,0,none⟩) rfl (.int .i64 t)).own HS2.out (fun k hk e=>by have h3:=ζ1c HS2.out k hk;have h4:=HG.out;omega))
     have b0':=((Off.set (F:=(· =Sk.g)) (w:=w9) (a:=⟨Sk.g,0,none⟩) rfl (.int .i64 t)).blk (HB1.out.keep HS3.out) HNE.out).get 0 rfl
     generalize w9.setCell ⟨Sk.g,0,none⟩ (.int .i64 t)=w10 at*
     have HP2:=hid hp2
     have HO2:=hid ho2
     have HF2:=hid hF2
     clear hp2 ho2 hF2 b0 q0 f0
     go_wp2_with fail
     refine(bkput_any K { Sk with la:=t } L t a b v out Av9 Nv9 cv9 w2.heap.size w10 F2 HP2.out HK.out.ks HK.out.ck HK.out.nb HL.out rfl HT.out.1 HT.out.2 HM.out HC.out HR2.out (fun k hk e=>by have h3:=ζ1c HS2.out k hk;have h4:=HF1.out k (HF2.out k e);have h5:=HA.out.size;omega)).mono ?_
     rintro e w11 ⟨F3,S3,rfl,p1,p2,p3,p4,p5⟩
     have G1:=hid p1
     have G2:=hid p2
     have G3:=hid p3
     have G4:=hid p4
     have G5:=hid p5
     clear p1 p2 p3 p4 p5
     go_wp2_with fail
     go_ret
     have hs:=HU1.out w11 F3 (kpT K.toRepOk 86 134 S3) ((Off.of HBW.out).trans (HO2.out.trans (G4.out.mono fun k _ hk=>HF2.out k hk))) G1.out (fun k hk=>by
      rcases G5.out k hk with h | h
      ·exact .inl (HF2.out k h)
      ·exact .inr (by have h3:=HBW.out.size;have h4:=HO2.out.size;omega))
     obtain⟨F4,q1,q2,q3⟩:=hs.pack
     refine⟨F4,by rw [HE.out.1];rfl,?_,q2,q3⟩
     rw [HE.out.2]
     refine⟨g,S3,rfl,?_,G3.out⟩
     unfold boT
     rw [show S3.g=Sk.g from G2.out]
     exact q1
end Go.Proofs.YthagdonmijhpdaaGreat

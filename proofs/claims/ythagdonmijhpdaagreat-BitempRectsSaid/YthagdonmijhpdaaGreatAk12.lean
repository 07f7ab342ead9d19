/- Contracts of package avl -/
import Derived.Test.YthagdonmijhpdaaGreatAk10
import Derived.Test.YthagdonmijhpdaaGreatAk3
import Derived.Test.YthagdonmijhpdaaGreatAkRise
import Derived.Deep.LoopGhost
import Derived.Test.YthagdonmijhpdaaGreatAvDuo
import Derived.Test.YthagdonmijhpdaaGreatTlKnown
import Derived.Deep.RegionLaw
import Derived.Deep.AppendLies
open Go.Lib (hid)
set_option linter.unusedSimpArgs false
set_option linter.unusedVariables false
set_option maxHeartbeats 8000000
set_option maxRecDepth 8000
namespace Go.Proofs.YthagdonmijhpdaaGreat
open Go.RowKit Corr
theorem balance_any (g n c gK:Nat)(M r:Int)(K:KnL)(p:Nat)(k:Kn)(a b:PT)(w:World)(H:Ar 221 w g M r (some ⟨gK,0,none⟩) n c K)(hk:K[p]? =some k)(hl:k.l=a.root)(hr:k.r=b.root)(ra:Rp K a)(rb:Rp K b)(nd:(PT.node a p k.it b).places.Nodup)(ba:a.bal)(bb:b.bal)(h1:a.height≤800)(h2:b.height≤800)(hn:n≤2000)(hd:a.height≤b.height+2∧b.height≤a.height+2):
  Calls Tryz.prog 161 #[.pointer (some ⟨g,0,none⟩),.int .i64 (p:Int)] w (ζ4p g n c gK M r K a b p k.it w):=by
 by_cases h3:a.height=b.height+2
 ·cases a with
  | nil=>simp [PT.height]at h3
  | node a1 q y a2=>
   by_cases h4:a2.height≤a1.height
   ·exact bal_r1 g n c gK M r K p k a1 a2 b q y w H hk hl hr ra rb nd ba bb h1 h2 hn h3 h4
   ·cases a2 with
    | nil=>simp [PT.height]at h4
    | node c1 s z c2=>exact bal_r2 g n c gK M r K p k a1 c1 c2 b q s y z w H hk hl hr ra rb nd ba bb h1 h2 hn h3 (by omega)
 ·by_cases h5:b.height=a.height+2
  ·cases b with
   | nil=>simp [PT.height]at h5
   | node b1 q y b2=>
    by_cases h4:b1.height≤b2.height
    ·exact bal_l1 g n c gK M r K p k a b1 b2 q y w H hk hl hr ra rb nd ba bb h1 h2 hn h5 h4
    ·cases b1 with
     | nil=>simp [PT.height]at h4
     | node c1 s z c2=>exact bal_l2 g n c gK M r K p k a c1 c2 b2 q s y z w H hk hl hr ra rb nd ba bb h1 h2 hn h5 (by omega)
  ·by_cases h6:(a.height:Int)<b.height
   ·exact bal_ok1 g n c gK M r K p k a b w H hk hl hr ra rb nd ba bb h1 h2 hn ⟨h6,by omega⟩
   ·exact bal_ok0 g n c gK M r K p k a b w H hk hl hr ra rb nd ba bb h1 h2 hn ⟨by omega,by omega⟩
theorem stF (p:Nat)(b:Bool)(w:World):(Instr.field 200 (.agg #[.int .i64 (p:Int),.int .i64 (sdI b)]) 0).run Tryz.prog w= .ok (.int .i64 (p:Int)) w:=by kernel_rfl
def RetRise (g gW n c gK:Nat)(M:Int)(K0:KnL)(L:ItL)(P:List Nat)(w0:World)(e:Ending)(w':World):Prop:=∃t' K' h0,e= .returned (.tuple #[])∧Ar 221 w' g M t'.root (some ⟨gK,0,none⟩) n c K'∧RiseP K0 L P .top t' K' t'.root t'.root h0∧Off (fun k=>inAr g (some ⟨gK,0,none⟩) n c k∨k=gW) w0 w'
theorem ζ2b (g gW n c gK:Nat)(M r:Int)(K0 K:KnL)(L:ItL)(P:List Nat)(cx:Cx)(t:PT)(h0:Nat)(w:World)(H:Ar 221 w g M r (some ⟨gK,0,none⟩) n c K)(W:WayM w gW cx.way)(hne: ¬inAr g (some ⟨gK,0,none⟩) n c gW)(R:RiseP K0 L P cx t K r t.root h0)(hL:L.length≤1500)(hn:n≤2000):
  Calls Tryz.prog 153 #[.pointer (some ⟨g,0,none⟩),.pointer (some ⟨gW,0,none⟩)] w (RetRise g gW n c gK M K0 L P w):=by
 have HA0:=hid H
 have HW0:=hid W
 have HR0:=hid R
 have HNE:=hid hne
 have HF0:=hid (Off.refl (fun k=>inAr g (some ⟨gK,0,none⟩) n c k∨k=gW) w)
 clear H W R hne
 go_enter Tryz.func153,Tryz.ntmps153
 go_wp2_with fail
 go_loopg [4] cx.way.length (fun k v wr=>∃(cx:Cx) (t:PT) (K:KnL) (r:Int) (h0:Nat),Hid (k=cx.way.length)∧Hid (Ar 221 wr g M r (some ⟨gK,0,none⟩) n c K)∧Hid (WayM wr gW cx.way)∧Hid (RiseP K0 L P cx t K r t.root h0)∧Hid (Off (fun k=>inAr g (some ⟨gK,0,none⟩) n c k∨k=gW) w wr))
 case atStart=>exact⟨cx,t,K,r,h0,hid rfl,HA0,HW0,HR0,HF0⟩
 case round=>
  clear HA0 HW0 HR0 HF0
  clear h0 t K r cx
  obtain⟨cx,t,K,r,h0,HK,HA,HW,HR,HF⟩:=hrel
  obtain⟨vs,B,V⟩:=HW.out
  have c56:=B.get 56 V.cnt
  clear B V
  cases hlast:cx.last with
  | none=>
   have hcx:cx= .top:=by cases cx <;> simp [Cx.last]at hlast ⊢
   subst hcx
   have c56:wr.cell? ⟨gW,56,none⟩=some (.int .i64 0):=c56
   clear hlast
   go_wp2_with fail
   go_end0
   exact⟨t,K,h0,rfl,by rw [←HR.out.rc];exact HA.out,HR.out.top,HF.out⟩
  | some pb=>
   obtain⟨p,b⟩:=pb
   obtain⟨c',a,d,k,hway,ST⟩:=HR.out.step hlast
   have HST:=hid ST
   have HWY:=hid hway
   have HW':=hid (show WayM wr gW (c'.way++ [(p,b)]) by rw [←hway];exact HW.out)
   have HKC:=hid (show gk=c'.way.length+1 by rw [HK.out,hway];simp)
   rw [hway]at c56
   have c56:wr.cell? ⟨gW,56,none⟩=some (.int .i64 ((c'.way.length:Int)+1)):=by rw [c56];simp
   obtain⟨m,hm⟩: ∃m,c'.way.length=m:=⟨_,rfl⟩
   rw [hm]at c56
   have d0:decide ((m:Int)+1 > 0)=true:=decide_eq_true (by omega)
   have HM:=hid hm
   clear hm hway ST hlast HK
   go_wp2_with fail
   refine(pop_any gW c'.way p b wr HW'.out).mono ?_
   rintro e w1 ⟨rfl,hW1,hF1⟩
   have HA1:=hid (HA.out.off hF1 (fun e=>HNE.out (.inl e.symm)) (fun k hk e=>HNE.out (.inr (by rw [←e];exact hk))))
   have HW1:=hid hW1
   have HF1:=hid (HF.out.trans (hF1.mono fun k _ e=> .inr e))
   have hfd:=stF p b
   clear hW1 hF1 c56
   go_wp2_with fail
   refine(balance_any g n c gK M r K p k a d w1 HA1.out HST.out.kp HST.out.kl HST.out.kr HST.out.ra HST.out.rd HST.out.nd HST.out.ba HST.out.bd (by have:=bal_le HST.out.ba (Nat.le_trans HST.out.la hL);omega) (by have:=bal_le HST.out.bd (Nat.le_trans HST.out.ld hL);omega) hn HST.out.h).mono ?_
   rintro e w2 ⟨K',t',rfl,hA2,hB2,hF2⟩
   obtain⟨h1,hR2⟩:=HST.out.on K' t' hB2
   have HA2:=hid hA2
   have HR2:=hid hR2
   have HF2:=hid (HF1.out.trans (hF2.mono fun k _ e=> .inl e))
   have HW2:=hid (HW1.out.off hF2 HNE.out)
   clear hA2 hR2 hF2 hB2 hfd
   go_wp2_with fail
   cases hl2:c'.last with
   | none=>
    have hcx:c'= .top:=by cases c' <;> simp [Cx.last]at hl2 ⊢
    subst hcx
    clear hl2
    refine(ζ3g g gW n c _ M r t'.root K' w2 HA2.out HW2.out).mono ?_
    rintro e w3 ⟨rfl,hA3,hF3⟩
    have HA3:=hid hA3
    have HF3:=hid (HF2.out.trans (hF3.mono fun k _ e=> .inl e))
    have HW3:=hid (HW2.out.off hF3 HNE.out)
    clear hA3 hF3
    go_wp2_with fail
    go_roundg 0
    case measure=>rw [HKC.out];omega
    case rel=>exact⟨.top,t',K',_,_,hid rfl,HA3,HW3,hid HR2.out.top,HF3⟩
   | some pb2=>
    obtain⟨p2,b2⟩:=pb2
    obtain⟨k2,hk2,hR3⟩:=HR2.out.hang hl2 t'.root
    have HR3:=hid hR3
    have HWL:=hid (Cx.way_last hl2)
    refine(ζ3h g gW n c gK M r t'.root K' c'.up p2 b2 k2 w2 HA2.out (by rw [←HWL.out];exact HW2.out) hk2 hn).mono ?_
    rintro e w3 ⟨rfl,hA3,hF3⟩
    have HA3:=hid hA3
    have HF3:=hid (HF2.out.trans (hF3.mono fun k _ e=> .inl e))
    have HW3:=hid (HW2.out.off hF3 HNE.out)
    clear hA3 hF3 hR3 hk2 hl2
    go_wp2_with fail
    go_roundg c'.way.length
    case measure=>rw [HKC.out];omega
    case rel=>exact⟨c',t',_,_,_,hid rfl,HA3,HW3,HR3,HF3⟩
end Go.Proofs.YthagdonmijhpdaaGreat
namespace Corr
open Go Go.RowKit
theorem Rp.lt {K:KnL} : ∀ {t:PT},Rp K t→∀p∈t.places,p<K.length
 | .nil,_,p,hp=>by simp [PT.places]at hp
 | .node l q x r,h,p,hp=>by
  simp only [PT.places,List.mem_append,List.mem_cons]at hp
  rcases hp with hp | rfl | hp
  ·exact h.2.1.lt p hp
  ·exact(List.getElem?_eq_some_iff.1 h.1).1
  ·exact h.2.2.lt p hp
theorem RpC.lt {K:KnL} {r:Int} : ∀ {c:Cx} {h:Int},RpC K r c h→∀p∈c.places,p<K.length
 | .top,_,_,p,hp=>by simp [Cx.places]at hp
 | .L c q x t,_,h,p,hp=>by
  simp only [Cx.places,List.mem_append,List.mem_cons]at hp
  obtain⟨⟨k,h1,_⟩,h2,h3⟩:=h
  rcases hp with rfl | hp | hp
  ·exact(List.getElem?_eq_some_iff.1 h1).1
  ·exact h2.lt p hp
  ·exact h3.lt p hp
 | .R c t q x,_,h,p,hp=>by
  simp only [Cx.places,List.mem_append,List.mem_cons]at hp
  obtain⟨⟨k,h1,_⟩,h2,h3⟩:=h
  rcases hp with rfl | hp | hp
  ·exact(List.getElem?_eq_some_iff.1 h1).1
  ·exact h2.lt p hp
  ·exact h3.lt p hp
end Corr
namespace Go.Proofs.YthagdonmijhpdaaGreat
open Go.RowKit Corr
theorem elem_knot:Elem Tryz.prog 156 221 (.agg #[.int .i64 0,.int .i64 0,.int .i64 0,.int .i64 0,.int .i64 0,.int .i64 0,.int .i64 0]) 7 56:=by
 obtain⟨i,h0,h1,h2,h3⟩:=info_parts (show (Tryz.prog.info? 221).map (fun i=>(i.zero,i.size,i.bytes))=some (some (.agg #[.int .i64 0,.int .i64 0,.int .i64 0,.int .i64 0,.int .i64 0,.int .i64 0,.int .i64 0]),7,56) by kernel_rfl)
 exact⟨Tryz.underlying156,⟨i,h0,h1,h2,h3⟩,rfl,by decide⟩
theorem put_any (g gW n c:Nat)(A:Option Addr)(M r:Int)(K:KnL)(cx:Cx)(x:It)(w:World)(H:Ar 221 w g M r A n c K)(W:WayM w gW cx.way)(hne: ¬inAr g A n c gW)(rc:RpC K r cx (-1))(nd:cx.places.Nodup)(ok:okC cx 0)(hL:(cx.bef++x :: cx.aft).length≤1500)(hn:n≤1500):
  Calls Tryz.prog 132 #[.pointer (some ⟨g,0,none⟩),.pointer (some ⟨gW,0,none⟩),itV x] w fun e w'=>∃A' c' t' K' h0,e= .returned (.tuple #[])∧Ar 221 w' g M t'.root A' (n+1) c' K'∧RiseP (K++ [⟨x,-1,-1,1,x.2.1⟩]) (cx.bef++x :: cx.aft) (n :: cx.places) .top t' K' t'.root t'.root h0∧Off (fun k=>inAr g A n c k∨k=gW) w w'∧∀k,inRow A' (n+1) c' k→inRow A n c k∨w.heap.size≤k:=by
 obtain⟨x1,x2,x3⟩:=x
 have HRC:=hid rc
 have HND:=hid nd
 have HOK:=hid ok
 have HL:=hid hL
 have HNE:=hid hne
 have HW:=hid W
 have HLEN:=hid H.len
 have HSZ:=hid H.sz
 have HROW:=hid (fun k (hk:inRow A n c k)=>ζk H.o hk)
 have HWSZ:=hid W.sz
 have HX:=hid (Blk.new w #[.int .i64 x1,.int .i64 x2,.int .i64 x3] 141)
 have HB:=hid (show Ext w _ from(Below.refl _ w).alloc (Nat.le_refl _) (.cells #[.int .i64 x1,.int .i64 x2,.int .i64 x3] 141))
 have HA:=hid (H.keep HB.out)
 have HWQ:=hid (W.keep HB.out)
 have HWS:=hid (show w.heap.size≤(w.alloc (.cells #[.int .i64 x1,.int .i64 x2,.int .i64 x3] 141)).heap.size by simp)
 clear H W hne rc nd ok hL
 go_enter Tryz.func132,Tryz.ntmps132
 go_upto_region 1 with fail
 generalize w.heap.size=hx at HX ⊢
 generalize w.alloc (.cells #[.int .i64 x1,.int .i64 x2,.int .i64 x3] 141)=wq at*
 have a2:=HA.out.b.get 2 rfl
 have f2:=HA.out.b.f 2
 have y0:=HX.out.get 0 rfl
 have y1:=HX.out.get 1 rfl
 have y2:=HX.out.get 2 rfl
 have hgl:=HA.out.sz
 have hxl:=HX.out.sz
 have HOA:=hid ((HA.out.o.alloc (.cells (ζj [⟨(x1,x2,x3),-1,-1,0,0⟩]).toArray 221)).drew)
 have hne2:g≠wq.heap.size:=by omega
 go_region_law (refine step_app2 (by rfl) _ _ 156 (by rfl) (ζj [⟨(x1,x2,x3),-1,-1,0,0⟩]) elem_knot (by rfl) HOA.out (by rfl) (by rfl) (ζ2j wq (ζj [⟨(x1,x2,x3),-1,-1,0,0⟩]) 221) (cells7_one _) (by omega) (by unfold maxLen;omega) (by simp) ?_;intro v1 w1 hown1 hgrow1 hat1;obtain⟨A1,d1,rfl,_⟩:=Lies.of_own hown1 (by have:=hown1.1;exact this);have HBK:=hid ((Off.grown (v:= .slice A n c) hgrow1).blk ((HA.out.b.alloc (.cells (ζj [⟨(x1,x2,x3),-1,-1,0,0⟩]).toArray 221)).drew) (fun e=>HA.out.ne e));have b2:=HBK.out.get 2 rfl;have g2:=HBK.out.f 2;have HOW:=hid hown1;have HGR:=hid hgrow1;have HAT:=hid hat1;clear hown1 hgrow1 hat1)
 all_goals
  have HRW:=hid (show ∀k,inRow A1 (n+1) d1 k→inRow A n c k∨w.heap.size≤k from fun k hk=>by
   rcases HAT.out k hk with e | e
   ·exact .inl e
   ·refine .inr (Nat.le_trans HWS.out ?_)
    simp at e;omega)
  have HG1:=hid (show ¬inRow A1 (n+1) d1 g from fun e=>by
   rcases HRW.out g e with e | e
   ·exact HA.out.ne e
   ·have:=HSZ.out;omega)
  have HF2:=hid ((((Off.of HB.out).later ((((Below.refl _ wq).alloc (Nat.le_refl _) (.cells (ζj [⟨(x1,x2,x3),-1,-1,0,0⟩]).toArray 221))).drew)).trans ((Off.grown (v:= .slice A n c) HGR.out).mono (F':=inAr g A n c) fun k _ e=> .inr e)).put ⟨g,2,none⟩ (.inl (.inl rfl)) (.slice A1 (n+1) d1))
  have HA2:=hid (show Ar 221 (w1.setCell ⟨g,2,none⟩ (.slice A1 (n+1) d1)) g M r A1 (n+1) d1 (K++ [⟨(x1,x2,x3),-1,-1,0,0⟩])from⟨HBK.out.set 2 _,(Off.set (F:=(· =g)) (a:=⟨g,2,none⟩) rfl _).own (by rw [ζ1e];exact HOW.out) fun k hk e=>HG1.out (by subst e;exact hk),HG1.out⟩)
  have HW2:=hid (HW.out.off HF2.out HNE.out)
  clear a2 f2 y0 y1 y2 b2 g2 HOW HGR HAT HBK HOA
  generalize w1.setCell ⟨g,2,none⟩ (.slice A1 (n+1) d1)=w2 at*
  obtain⟨gK,rfl,hgK,_⟩:=HA2.out.addr (by omega)
  have HNE2:=hid (show ¬inAr g (some ⟨gK,0,none⟩) (n+1) d1 gW from fun e=>by
   rcases e with e | e
   ·exact HNE.out (.inl e)
   ·rcases HRW.out gW e with e | e
    ·exact HNE.out (.inr e)
    ·have:=HWSZ.out;omega)
  have HUP:=hid (show ∀k,inAr g (some ⟨gK,0,none⟩) (n+1) d1 k→(inAr g A n c k∨k=gW)∨w.heap.size≤k from fun k hk=>by
   rcases hk with e | e
   ·exact .inl (.inl (.inl e))
   ·rcases HRW.out k e with e | e
    ·exact .inl (.inl (.inr e))
    ·exact .inr e)
  have a2:=HA2.out.b.get 2 rfl
  have hlast:(K++ [⟨(x1,x2,x3),-1,-1,0,0⟩])[n]? =some ⟨(x1,x2,x3),-1,-1,0,0⟩:=by rw [List.getElem?_append_right (by rw [HLEN.out];omega),HLEN.out,Nat.sub_self];rfl
  have HLAST:=hid hlast
  clear hlast
  go_wp2_with fail
  refine(ζ19 g (n+1) d1 gK M r _ n _ none none w2 HA2.out HLAST.out (.inl ⟨rfl,rfl⟩) (.inl ⟨rfl,rfl⟩) (by omega)).mono ?_
  rintro e w3 ⟨rfl,hA3,hF3⟩
  have hset:(K++ [(⟨(x1,x2,x3),-1,-1,0,0⟩:Kn)]).set n (Kn.settled ⟨(x1,x2,x3),-1,-1,0,0⟩ none none)=K++ [⟨(x1,x2,x3),-1,-1,1,x2⟩]:=by
   rw [←HLEN.out];exact set_mid K [] _ _
  rw [hset]at hA3
  have HA3:=hid hA3
  have HF3:=hid (Off.trans (F:=fun k=>(inAr g A n c k∨k=gW)∨w.heap.size≤k) (HF2.out.mono fun k _ e=> .inl (.inl e)) (hF3.mono fun k _ e=>HUP.out k e))
  have HW3:=hid (HW2.out.off hF3 HNE2.out)
  have HRP:=hid (show RiseP (K++ [⟨(x1,x2,x3),-1,-1,1,x2⟩]) (cx.bef++(x1,x2,x3) :: cx.aft) (n :: cx.places) cx (.node .nil n (x1,x2,x3) .nil) (K++ [⟨(x1,x2,x3),-1,-1,1,x2⟩]) r (-1) 0 from
   ⟨HRC.out.same fun q hq=>by rw [List.getElem?_append_left (HRC.out.lt q hq)],⟨by rw [←HLEN.out,List.getElem?_append_right (Nat.le_refl _),Nat.sub_self];rfl,trivial,trivial⟩,⟨trivial,trivial,by simp [PT.height],by simp [PT.height]⟩,HOK.out,by simp [PT.height],by
    show (n :: cx.places).Nodup
    exact List.nodup_cons.2 ⟨fun e=>by have:=HRC.out.lt n e;rw [HLEN.out]at this;omega,HND.out⟩,by rw [Cx.items];rfl,List.Perm.refl _,fun _ _=>rfl⟩)
  clear hA3 hF3 hset a2
  go_wp2_with fail
  cases hl2:cx.last with
  | none=>
   have hcx:cx= .top:=by cases cx <;> simp [Cx.last]at hl2 ⊢
   subst hcx
   clear hl2
   refine(ζ3g g gW (n+1) d1 _ M r (n:Int) _ w3 HA3.out HW3.out).mono ?_
   rintro e w4 ⟨rfl,hA4,hF4⟩
   have HA4:=hid hA4
   have HF4:=hid (HF3.out.trans (hF4.mono fun k _ e=>HUP.out k e))
   have HW4:=hid (HW3.out.off hF4 HNE2.out)
   clear hA4 hF4
   go_wp2_with fail
   refine(ζ2b g gW (n+1) d1 gK M (n:Int) _ _ _ _ .top (.node .nil n (x1,x2,x3) .nil) 0 w4 HA4.out HW4.out HNE2.out HRP.out.top HL.out (by omega)).mono ?_
   rintro e w5 ⟨t',K',h0,rfl,hA5,hR5,hF5⟩
   have HA5:=hid hA5
   have HR5:=hid hR5
   have HF5:=hid ((HF4.out.trans (hF5.mono (F':=fun k=>(inAr g A n c k∨k=gW)∨w.heap.size≤k) fun k _ e=>e.elim (HUP.out k) (fun e=> .inl (.inr e)))).less fun k e=>e)
   clear hA5 hR5 hF5
   go_wp2_with fail
   go_end0
   exact⟨_,_,t',K',h0,rfl,HA5.out,HR5.out,HF5.out,HRW.out⟩
  | some pb2=>
   obtain⟨p2,b2⟩:=pb2
   obtain⟨k2,hk2,hR3⟩:=HRP.out.hang hl2 (n:Int)
   have HR3:=hid hR3
   have HWL:=hid (Cx.way_last hl2)
   refine(ζ3h g gW (n+1) d1 gK M r (n:Int) _ cx.up p2 b2 k2 w3 HA3.out (by rw [←HWL.out];exact HW3.out) hk2 (by omega)).mono ?_
   rintro e w4 ⟨rfl,hA4,hF4⟩
   have HA4:=hid hA4
   have HF4:=hid (HF3.out.trans (hF4.mono fun k _ e=>HUP.out k e))
   have HW4:=hid (HW3.out.off hF4 HNE2.out)
   clear hA4 hF4 hk2 hR3 hl2
   go_wp2_with fail
   refine(ζ2b g gW (n+1) d1 gK M r _ _ _ _ cx (.node .nil n (x1,x2,x3) .nil) 0 w4 HA4.out HW4.out HNE2.out HR3.out HL.out (by omega)).mono ?_
   rintro e w5 ⟨t',K',h0,rfl,hA5,hR5,hF5⟩
   have HA5:=hid hA5
   have HR5:=hid hR5
   have HF5:=hid ((HF4.out.trans (hF5.mono (F':=fun k=>(inAr g A n c k∨k=gW)∨w.heap.size≤k) fun k _ e=>e.elim (HUP.out k) (fun e=> .inl (.inr e)))).less fun k e=>e)
   clear hA5 hR5 hF5
   go_wp2_with fail
   go_end0
   exact⟨_,_,t',K',h0,rfl,HA5.out,HR5.out,HF5.out,HRW.out⟩
end Go.Proofs.YthagdonmijhpdaaGreat

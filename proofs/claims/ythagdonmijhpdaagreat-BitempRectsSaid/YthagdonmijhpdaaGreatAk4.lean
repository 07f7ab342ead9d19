/- Contract of package avl: find. (Written by wip/gen/genak4.py.) -/
import Derived.Test.YthagdonmijhpdaaGreatAk3
import Derived.Deep.LoopGhost
open Go.Lib (hid)
set_option linter.unusedSimpArgs false
set_option linter.unusedVariables false
set_option maxHeartbeats 8000000
set_option maxRecDepth 8000
namespace Corr
open Go Go.RowKit
inductive Pth (K:KnL) (x:It):Int→WyL→Int→Prop
 | none:Pth K x (-1) [] (-1)
 | here {q:Nat} {k:Kn} :K[q]? =some k→ordI x k.it=0→Pth K x (q:Int) [] (q:Int)
 | down {q:Nat} {k:Kn} {l:WyL} {res:Int} (b:Bool):K[q]? =some k→ordI x k.it≠0→b=decide (0<ordI x k.it)→Pth K x (k.sd b) l res→Pth K x (q:Int) ((q,b) :: l) res
structure Fnd (w wr:World)(hx hr hw:Nat)(x:It)(l:WyL):Prop where
 bx:Blk wr hx #[.int .i64 x.1,.int .i64 x.2.1,.int .i64 x.2.2]
 br:Blk wr hr ζc
 bw:WayM wr hw l
 bb:Below w.heap.size w wr
 lo:w.heap.size≤hx∧w.heap.size≤hr∧w.heap.size≤hw
 ne:hx≠hw∧hr≠hw
theorem Fnd.keep {w wr w':World} {hx hr hw:Nat} {x:It} {l:WyL}(h:Fnd w wr hx hr hw x l)(hb:Below wr.heap.size wr w'):Fnd w w' hx hr hw x l:=⟨h.bx.keep hb,h.br.keep hb,h.bw.keep hb,h.bb.trans (hb.mono h.bb.size),h.lo,h.ne⟩
theorem Fnd.way {w wr w':World} {hx hr hw:Nat} {x:It} {l l':WyL}(h:Fnd w wr hx hr hw x l)(ho:Off (· =hw) wr w')(hw':WayM w' hw l'):Fnd w w' hx hr hw x l':=⟨ho.blk h.bx h.ne.1,ho.blk h.br h.ne.2,hw',h.bb.trans (ho.below h.bb.size (fun k e=>by rw [e];exact h.lo.2.2)),h.lo,h.ne⟩
theorem ζt {B:Nat} {w wr:World}(h:Below B w wr) {g:Nat}(hg:B≤g)(vs:Array Value):Below B w (wr.setRow g vs):=
 ⟨h.os,h.tape,h.output,by simpa [World.setRow]using h.size,fun k hk=>(setRow_other wr g k vs (by omega)).trans (h.block k hk)⟩
theorem ζ2c {F:Nat→Prop} {w wr:World}(h:Off F w wr) {g:Nat}(hg:F g∨w.heap.size≤g)(vs:Array Value):Off F w (wr.setRow g vs):=
 ⟨h.os,h.tape,h.output,by simpa [World.setRow]using h.size,fun k hk hn=>(setRow_other wr g k vs (fun e=>by
  rcases hg with hg | hg
  ·exact hn (e▸hg)
  ·omega)).trans (h.block k hk hn)⟩
end Corr
namespace Go.Proofs.YthagdonmijhpdaaGreat
open Go.RowKit Corr
theorem ζ14:(Tryz.prog.info? 203).map (·.size)=some 57:=by kernel_rfl
theorem ζ3j (g n c:Nat)(A:Option Addr)(M r:Int)(K:KnL)(x:It)(l:WyL)(res:Int)(w:World)(H:Ar 221 w g M r A n c K)(P:Pth K x r l res)(hl:l.length≤28)(hn:n≤2000):Calls Tryz.prog 129 #[.pointer (some ⟨g,0,none⟩),itV x] w fun e w'=>∃vs,e= .returned (.tuple #[.agg vs,.int .i64 res])∧WayV vs l∧Below w.heap.size w w':=by
 have HOR:=hid (fun(y:It) (w:World)=>order_any x y w)
 obtain⟨x1,x2,x3⟩:=x
 have HP:=hid P
 have HX:=((Blk.new w #[.int .i64 x1,.int .i64 x2,.int .i64 x3] 141).alloc (.cells ζc 203)).alloc (.cells ζc 203)
 have HR:=((Blk.new (w.alloc (.cells #[.int .i64 x1,.int .i64 x2,.int .i64 x3] 141)) ζc 203).alloc (.cells ζc 203))
 have HW:=Blk.new ((w.alloc (.cells #[.int .i64 x1,.int .i64 x2,.int .i64 x3] 141)).alloc (.cells ζc 203)) ζc 203
 have HB:=Joins.below_alloc3 w (.cells #[.int .i64 x1,.int .i64 x2,.int .i64 x3] 141) (.cells ζc 203) (.cells ζc 203)
 simp only [ζd]at HX HR HW
 have HF:=hid (show Fnd w _ w.heap.size (w.heap.size+1) (w.heap.size+1+1) (x1,x2,x3) []from⟨HX,HR,⟨_,HW,WayV.zero⟩,HB,⟨by omega,by omega,by omega⟩,⟨by omega,by omega⟩⟩)
 have HA0:=hid H
 clear P H HX HR HW HB
 go_enter Tryz.func129,Tryz.ntmps129
 go_upto_region 2 with fail
 change Code.wp Tryz.prog _ _ _ (((w.alloc (.cells #[.int .i64 x1,.int .i64 x2,.int .i64 x3] 141)).alloc (.cells ζc 203)).alloc (.cells ζc 203))
 generalize ((w.alloc (.cells #[.int .i64 x1,.int .i64 x2,.int .i64 x3] 141)).alloc (.cells ζc 203)).alloc (.cells ζc 203)=wq at*
 generalize w.heap.size+1+1=hy at*
 generalize w.heap.size+1=hr at*
 generalize hhx:w.heap.size=hx at HF ⊢
 clear hhx
 have c1:=(HA0.out.keep HF.out.bb).b.get 1 rfl
 go_upto_region 3 with fail
 clear c1
 go_loopg [7] l.length (fun k z wr=>∃(l0 l1:WyL) (zi:Int),z= .int .i64 zi∧Hid (Pth K (x1,x2,x3) zi l1 res)∧Hid (l0++l1=l)∧Hid (k=l1.length)∧Hid (Fnd w wr hx hr hy (x1,x2,x3) l0))
 case atStart=>exact⟨[],l,r,rfl,HP,hid rfl,hid rfl,HF⟩
 case round=>
  clear HF HP
  obtain⟨l0,l1,zi,rfl,HP,HL,HK,HF⟩:=hrel
  have HA:=hid (HA0.out.keep HF.out.bb)
  have hP:=HP.out
  cases hP with
  | none=>
   have HE:=hid (show l0=l by have:=HL.out;rwa [List.append_nil]at this)
   have HFX:=HF
   obtain⟨vs,B,V⟩:=HFX.out.bw
   obtain⟨TT,BB⟩:=B.blk
   obtain⟨TR,BR⟩:=HFX.out.br.blk
   have hBB:=hid BB
   have hBR:=hid BR
   have hV:=hid V
   clear B V BB BR
   go_wp2_with (first | (refine wpList_load_row rfl 203 _ rfl hy rfl TT vs _ _ hBB.out Tryz.underlying203 rfl (by rw [hV.out.sz];exact ζ14) ?_) | (refine wpList_store_row rfl 203 _ _ rfl hr vs rfl rfl TR ζc hBR.out (by rw [hV.out.sz];exact ζ14) (by rw [hV.out.sz];rfl) hV.out.one ?_))
   have hld:=run_loadVar_row (P:=Tryz.prog) (wr.setRow hr vs) hr TR 203 vs (0,0) _ (setRow_heap wr hr _ vs TR (0,0) hBR.out) Tryz.underlying203 rfl (by rw [hV.out.sz];exact ζ14)
   refine bodyPost_ret (v:= .tuple #[.agg vs,.int .i64 (-1)]) ?_ rfl ⟨vs,rfl,by rw [←HE.out];exact hV.out,ζt HFX.out.bb HFX.out.lo.2.1 vs⟩
   simp [results,Tryz.results129,asAddr,Result.andThen,hld]
  | @here q k hq h0=>
   obtain⟨gK,rfl,hgK,_,hqn⟩:=HA.out.at0 hq
   obtain⟨⟨y1,y2,y3⟩,kl,kr,kh,kt⟩:=k
   have HQ:=hid hq
   have a2:=HA.out.b.get 2 rfl
   have c0:=HA.out.c0 hq
   have c1:=HA.out.c1 hq
   have c2:=HA.out.c2 hq
   have x0:=HF.out.bx.get 0 rfl
   have x1':=HF.out.bx.get 1 rfl
   have x2':=HF.out.bx.get 2 rfl
   have hxl:=HF.out.bx.sz
   have hgl:=HA.out.sz
   have hkl:gK<wr.heap.size:=ζk HA.out.o rfl
   have j0:decide ((q:Int)<0)=false:=decide_eq_false (by omega)
   have j1:(0:Int)≤(q:Int):=by omega
   have j2:(q:Int)<(n:Int):=by omega
   have j3:((q:Int)).toNat=q:=by omega
   have j4:((q:Int) == -1)=false:=by simp
   have HO1:=hid (HOR.out (y1,y2,y3))
   obtain⟨o,ho⟩: ∃o,ordI (x1,x2,x3) (y1,y2,y3)=o:=⟨_,rfl⟩
   rw [ho]at HO1
   have h0':=h0
   rw [show Kn.it ⟨(y1,y2,y3),kl,kr,kh,kt⟩=(y1,y2,y3)from rfl,ho]at h0'
   go_upto_region 5 with fail
   refine ζ4 10 (Ext wr)
    (fun i=>List.getD [VE (.agg #[.int .i64 x1,.int .i64 x2,.int .i64 x3]),VE (.pointer (some ⟨g,0,none⟩)),VE (.pointer (some ⟨g,0,none⟩)),VE (.pointer (some ⟨g,2,none⟩)),VE (.slice (some ⟨gK,0,none⟩) n c),VE (.int .i64 (q:Int)),VE (.pointer (some ⟨gK,q*7,none⟩)),VE (.pointer (some ⟨gK,q*7,none⟩)),VE (.agg #[.int .i64 y1,.int .i64 y2,.int .i64 y3]),VE (.int .i64 o)] i (fun _ _=>False)) [] [1,2,3,5,6,7] (by kernel_rfl) (by kernel_rfl) (Ext.start wr) (fun _ _ h hb=>h.grow hb)
    stA ⟨?_,?_,?_,?_,?_,?_,?_,?_,?_,?_,trivial⟩ ?_
   ·exact rL [3] fun hw=>And.intro ((Below.cell hw hxl).trans x0) (And.intro ((Below.cell hw hxl).trans x1') ((Below.cell hw hxl).trans x2'))
   ·exact rU [0]
   ·exact rU []
   ·exact rU []
   ·exact rL [] fun hw=>(Below.cell hw hgl).trans a2
   ·exact rU [7]
   ·exact rU []
   ·exact rU []
   ·exact rL [] fun hw=>And.intro ((Below.cell hw hkl).trans c0) (And.intro ((Below.cell hw hkl).trans c1) ((Below.cell hw hkl).trans c2))
   ·intro ev wv hE hw hd
    refine rC (f:=149) (args:= #[.agg #[.int .i64 x1,.int .i64 x2,.int .i64 x3],.agg #[.int .i64 y1,.int .i64 y2,.int .i64 y3]]) [] hE hd (HO1.out _) ?_
    rintro e w' ⟨rfl,hb⟩
    exact⟨_,rfl,hb,rfl,fun h=>by cases h⟩
   ·intro w1 hw
    iterate 10 rintro _ rfl _
    simp only [zA]
    change wpList Tryz.prog _ _ _ _ w1
    subst h0'
    have HE:=hid (show l0=l by have:=HL.out;rwa [List.append_nil]at this)
    have HFX:=hid (HF.out.keep hw)
    clear a2 c0 c1 c2 x0 x1' x2' hw
    go_wp2_with fail
    refine ζ2 ?_
    obtain⟨vs,B,V⟩:=HFX.out.bw
    obtain⟨TT,BB⟩:=B.blk
    obtain⟨TR,BR⟩:=HFX.out.br.blk
    have hBB:=hid BB
    have hBR:=hid BR
    have hV:=hid V
    clear B V BB BR
    go_wp2_with (first | (refine wpList_load_row rfl 203 _ rfl hy rfl TT vs _ _ hBB.out Tryz.underlying203 rfl (by rw [hV.out.sz];exact ζ14) ?_) | (refine wpList_store_row rfl 203 _ _ rfl hr vs rfl rfl TR ζc hBR.out (by rw [hV.out.sz];exact ζ14) (by rw [hV.out.sz];rfl) hV.out.one ?_))
    have hld:=run_loadVar_row (P:=Tryz.prog) (w1.setRow hr vs) hr TR 203 vs (0,0) _ (setRow_heap w1 hr _ vs TR (0,0) hBR.out) Tryz.underlying203 rfl (by rw [hV.out.sz];exact ζ14)
    refine bodyPost_ret (v:= .tuple #[.agg vs,.int .i64 (q:Int)]) ?_ rfl ⟨vs,rfl,by rw [←HE.out];exact hV.out,ζt HFX.out.bb HFX.out.lo.2.1 vs⟩
    simp [results,Tryz.results129,asAddr,Result.andThen,hld]
  | @down q k l2 _ b hq h0 hb hd=>
   obtain⟨gK,rfl,hgK,_,hqn⟩:=HA.out.at0 hq
   obtain⟨⟨y1,y2,y3⟩,kl,kr,kh,kt⟩:=k
   have HQ:=hid hq
   have a2:=HA.out.b.get 2 rfl
   have c0:=HA.out.c0 hq
   have c1:=HA.out.c1 hq
   have c2:=HA.out.c2 hq
   have x0:=HF.out.bx.get 0 rfl
   have x1':=HF.out.bx.get 1 rfl
   have x2':=HF.out.bx.get 2 rfl
   have hxl:=HF.out.bx.sz
   have hgl:=HA.out.sz
   have hkl:gK<wr.heap.size:=ζk HA.out.o rfl
   have j0:decide ((q:Int)<0)=false:=decide_eq_false (by omega)
   have j1:(0:Int)≤(q:Int):=by omega
   have j2:(q:Int)<(n:Int):=by omega
   have j3:((q:Int)).toNat=q:=by omega
   have j4:((q:Int) == -1)=false:=by simp
   have HO1:=hid (HOR.out (y1,y2,y3))
   obtain⟨o,ho⟩: ∃o,ordI (x1,x2,x3) (y1,y2,y3)=o:=⟨_,rfl⟩
   rw [ho]at HO1
   have h0':=h0
   rw [show Kn.it ⟨(y1,y2,y3),kl,kr,kh,kt⟩=(y1,y2,y3)from rfl,ho]at h0'
   go_upto_region 5 with fail
   refine ζ4 10 (Ext wr)
    (fun i=>List.getD [VE (.agg #[.int .i64 x1,.int .i64 x2,.int .i64 x3]),VE (.pointer (some ⟨g,0,none⟩)),VE (.pointer (some ⟨g,0,none⟩)),VE (.pointer (some ⟨g,2,none⟩)),VE (.slice (some ⟨gK,0,none⟩) n c),VE (.int .i64 (q:Int)),VE (.pointer (some ⟨gK,q*7,none⟩)),VE (.pointer (some ⟨gK,q*7,none⟩)),VE (.agg #[.int .i64 y1,.int .i64 y2,.int .i64 y3]),VE (.int .i64 o)] i (fun _ _=>False)) [] [1,2,3,5,6,7] (by kernel_rfl) (by kernel_rfl) (Ext.start wr) (fun _ _ h hb=>h.grow hb)
    stA ⟨?_,?_,?_,?_,?_,?_,?_,?_,?_,?_,trivial⟩ ?_
   ·exact rL [3] fun hw=>And.intro ((Below.cell hw hxl).trans x0) (And.intro ((Below.cell hw hxl).trans x1') ((Below.cell hw hxl).trans x2'))
   ·exact rU [0]
   ·exact rU []
   ·exact rU []
   ·exact rL [] fun hw=>(Below.cell hw hgl).trans a2
   ·exact rU [7]
   ·exact rU []
   ·exact rU []
   ·exact rL [] fun hw=>And.intro ((Below.cell hw hkl).trans c0) (And.intro ((Below.cell hw hkl).trans c1) ((Below.cell hw hkl).trans c2))
   ·intro ev wv hE hw hd
    refine rC (f:=149) (args:= #[.agg #[.int .i64 x1,.int .i64 x2,.int .i64 x3],.agg #[.int .i64 y1,.int .i64 y2,.int .i64 y3]]) [] hE hd (HO1.out _) ?_
    rintro e w' ⟨rfl,hb⟩
    exact⟨_,rfl,hb,rfl,fun h=>by cases h⟩
   ·intro w1 hw
    iterate 10 rintro _ rfl _
    simp only [zA]
    change wpList Tryz.prog _ _ _ _ w1
    have HF1:=hid (HF.out.keep hw)
    have HPD:=hid hd
    have d0:(o == 0)=false:=by simpa using h0'
    have HLL:=hid (show l0.length<28 by have h1:=congrArg List.length HL.out;simp at h1;omega)
    clear a2 c0 c1 c2 x0 x1' x2' hw hd h0 h0'
    have hb':b=decide (o > 0):=by rw [←ho];exact hb
    clear hb
    cases b with
    | false=>
     have d1:decide (o > 0)=false:=hb'.symm
     clear hb' ho
     go_wp2_with fail
     refine ζ2 ?_
     go_wp2_with fail
     have HF2:=hid (HF1.out.keep ((Below.refl _ w1).alloc (Nat.le_refl _) (.cells #[.int .i64 (q:Int),.int .i64 0] 200)))
     have hS:=Blk.new w1 #[.int .i64 (q:Int),.int .i64 0] 200
     have y0:=hS.get 0 rfl
     have y1':=hS.get 1 rfl
     have HS:=hid hS
     clear hS
     have hyl:=HF1.out.bw.sz
     have hne:w1.heap.size≠hy:=by omega
     clear hyl
     generalize w1.heap.size=hs at*
     generalize w1.alloc (.cells #[.int .i64 (q:Int),.int .i64 0] 200)=w2 at*
     go_wp2_with fail
     refine(push_any hy l0 q false w2 HF2.out.bw HLL.out).mono ?_
     rintro e w3 ⟨rfl,hway,ho3⟩
     have HF3:=hid (HF2.out.way ho3 hway)
     have hS3:=ho3.blk HS.out hne
     clear y0 y1' hway ho3 HF1 HF2 HS
     have y0:=hS3.get 0 rfl
     have y1':=hS3.get 1 rfl
     clear hS3
     go_wp2_with fail
     refine(side_any g n c gK M r K q false _ w3 (HA0.out.keep HF3.out.bb) HQ.out hn).mono ?_
     rintro e w4 ⟨rfl,hb4⟩
     have HF4:=hid (HF3.out.keep hb4)
     have c3:w4.cell? ⟨gK,q*7+sdO false,none⟩=some (.int .i64 kl):=(HA0.out.keep HF4.out.bb).c3 HQ.out
     clear y0 y1' hb4 HF3
     go_wp2_with fail
     go_roundg l2.length
     case measure=>rw [HK.out];simp
     case rel=>exact⟨l0++ [(q,false)],l2,_,rfl,HPD,hid (by rw [←HL.out,List.append_assoc];rfl),hid rfl,HF4⟩
    | true=>
     have d1:decide (o > 0)=true:=hb'.symm
     clear hb' ho
     go_wp2_with fail
     refine ζ2 ?_
     go_wp2_with fail
     have HF2:=hid (HF1.out.keep ((Below.refl _ w1).alloc (Nat.le_refl _) (.cells #[.int .i64 (q:Int),.int .i64 1] 200)))
     have hS:=Blk.new w1 #[.int .i64 (q:Int),.int .i64 1] 200
     have y0:=hS.get 0 rfl
     have y1':=hS.get 1 rfl
     have HS:=hid hS
     clear hS
     have hyl:=HF1.out.bw.sz
     have hne:w1.heap.size≠hy:=by omega
     clear hyl
     generalize w1.heap.size=hs at*
     generalize w1.alloc (.cells #[.int .i64 (q:Int),.int .i64 1] 200)=w2 at*
     go_wp2_with fail
     refine(push_any hy l0 q true w2 HF2.out.bw HLL.out).mono ?_
     rintro e w3 ⟨rfl,hway,ho3⟩
     have HF3:=hid (HF2.out.way ho3 hway)
     have hS3:=ho3.blk HS.out hne
     clear y0 y1' hway ho3 HF1 HF2 HS
     have y0:=hS3.get 0 rfl
     have y1':=hS3.get 1 rfl
     clear hS3
     go_wp2_with fail
     refine(side_any g n c gK M r K q true _ w3 (HA0.out.keep HF3.out.bb) HQ.out hn).mono ?_
     rintro e w4 ⟨rfl,hb4⟩
     have HF4:=hid (HF3.out.keep hb4)
     have c3:w4.cell? ⟨gK,q*7+sdO true,none⟩=some (.int .i64 kr):=(HA0.out.keep HF4.out.bb).c4 HQ.out
     clear y0 y1' hb4 HF3
     go_wp2_with fail
     go_roundg l2.length
     case measure=>rw [HK.out];simp
     case rel=>exact⟨l0++ [(q,true)],l2,_,rfl,HPD,hid (by rw [←HL.out,List.append_assoc];rfl),hid rfl,HF4⟩
end Go.Proofs.YthagdonmijhpdaaGreat

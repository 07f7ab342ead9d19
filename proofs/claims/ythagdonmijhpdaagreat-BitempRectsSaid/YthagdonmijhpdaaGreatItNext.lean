/- A tree as package itree asks it -/
import Derived.Test.YthagdonmijhpdaaGreatAk17
import Derived.Test.YthagdonmijhpdaaGreatItWay
import Derived.Deep.LoopGhost
open Go.Lib (hid)
set_option linter.unusedSimpArgs false
set_option linter.unusedVariables false
set_option maxHeartbeats 8000000
set_option maxRecDepth 8000
namespace Go.Proofs.YthagdonmijhpdaaGreat
open Go.RowKit Corr
abbrev knot0:Value:= .agg #[.int .i64 0,.int .i64 0,.int .i64 0,.int .i64 0,.int .i64 0,.int .i64 0,.int .i64 0]
theorem node_none (gT g n c:Nat)(M:Int)(A:Option Addr)(K:KnL)(t:PT)(l:ItL)(w:World)(H:TreeR 221 w gT g n c M A K t l):Calls Tryz.prog 142 #[.pointer (some ⟨gT,0,none⟩),.int .i64 (-1)] w fun e w'=>e= .returned (.tuple #[knot0,.bool false])∧Below w.heap.size w w':=by
 have HX:=hid (Blk.new w #[.int .i64 0,.int .i64 0,.int .i64 0,.int .i64 0,.int .i64 0,.int .i64 0,.int .i64 0] 221)
 have HB:=hid (show Ext w _ from(Below.refl _ w).alloc (Nat.le_refl _) (.cells #[.int .i64 0,.int .i64 0,.int .i64 0,.int .i64 0,.int .i64 0,.int .i64 0,.int .i64 0] 221))
 have HT:=hid (H.keep HB.out)
 have HN:=hid (ζ3w gT g _ HT.out.tp)
 clear H
 go_enter Tryz.func142,Tryz.ntmps142
 go_wp2_with fail
 generalize w.alloc (.cells #[.int .i64 0,.int .i64 0,.int .i64 0,.int .i64 0,.int .i64 0,.int .i64 0,.int .i64 0] 221)=wq at*
 generalize hhx:w.heap.size=hx at HX ⊢
 have HLO:=hid (Nat.le_of_eq hhx)
 clear hhx
 refine HN.out.mono ?_
 rintro e w1 ⟨rfl,rfl⟩
 have a2:=HT.out.ar.b.get 2 rfl
 have x0:=HX.out.get 0 rfl
 have x1:=HX.out.get 1 rfl
 have x2:=HX.out.get 2 rfl
 have x3:=HX.out.get 3 rfl
 have x4:=HX.out.get 4 rfl
 have x5:=HX.out.get 5 rfl
 have x6:=HX.out.get 6 rfl
 have f0:=HX.out.f 0
 have f1:=HX.out.f 1
 have f2:=HX.out.f 2
 have f3:=HX.out.f 3
 have f4:=HX.out.f 4
 have f5:=HX.out.f 5
 have f6:=HX.out.f 6
 have HF:=hid ((((((((Off.of (F:=fun _=>False) HB.out).put ⟨hx,0,none⟩ (.inr HLO.out) (.int .i64 0)).put ⟨hx,1,none⟩ (.inr HLO.out) (.int .i64 0)).put ⟨hx,2,none⟩ (.inr HLO.out) (.int .i64 0)).put ⟨hx,3,none⟩ (.inr HLO.out) (.int .i64 0)).put ⟨hx,4,none⟩ (.inr HLO.out) (.int .i64 0)).put ⟨hx,5,none⟩ (.inr HLO.out) (.int .i64 0)).put ⟨hx,6,none⟩ (.inr HLO.out) (.int .i64 0))
 have HX2:=hid (((((((HX.out.set 0 (.int .i64 0)).set 1 (.int .i64 0)).set 2 (.int .i64 0)).set 3 (.int .i64 0)).set 4 (.int .i64 0)).set 5 (.int .i64 0)).set 6 (.int .i64 0))
 go_wp2_with fail
 have r0:=HX2.out.get 0 (v:= .int .i64 0) rfl
 have r1:=HX2.out.get 1 (v:= .int .i64 0) rfl
 have r2:=HX2.out.get 2 (v:= .int .i64 0) rfl
 have r3:=HX2.out.get 3 (v:= .int .i64 0) rfl
 have r4:=HX2.out.get 4 (v:= .int .i64 0) rfl
 have r5:=HX2.out.get 5 (v:= .int .i64 0) rfl
 have r6:=HX2.out.get 6 (v:= .int .i64 0) rfl
 refine bodyPost_ret (v:= .tuple #[knot0,.bool false]) (by simp [results,Tryz.results142,go_sem,r0,r1,r2,r3,r4,r5,r6]) rfl ⟨rfl,HF.out.below (Nat.le_refl _) (fun k e=>e.elim)⟩
def NodeOk (p:Value)(w:World):PT→Prop
 | .nil=>True
 | .node a q y b=>(∀w1,Below w.heap.size w w1→Calls Tryz.prog 142 #[p,.int .i64 (q:Int)] w1 fun e w2=>e= .returned (.tuple #[knotV y a.root b.root ((PT.node a q y b).height:Int) (topL (PT.node a q y b).items),.bool true])∧Below w1.heap.size w1 w2)∧NodeOk p w a∧NodeOk p w b
theorem NodeOk.later {p:Value} {w w':World}(hb:Below w.heap.size w w'): ∀ {t:PT},NodeOk p w t→NodeOk p w' t
 | .nil,_=>trivial
 | .node a q y b,⟨h1,h2,h3⟩=>⟨fun w1 h=>h1 w1 (hb.trans (h.mono hb.size)),h2.later hb,h3.later hb⟩
structure TH (p:Value)(w:World)(t:PT):Prop where
 root: ∀w1,Below w.heap.size w w1→Calls Tryz.prog 141 #[p] w1 fun e w2=>e= .returned (.int .i64 t.root)∧Below w1.heap.size w1 w2
 out: ∀w1,Below w.heap.size w w1→Calls Tryz.prog 142 #[p,.int .i64 (-1)] w1 fun e w2=>e= .returned (.tuple #[knot0,.bool false])∧Below w1.heap.size w1 w2
 node:NodeOk p w t
 up:srt t.items
 deep:t.height≤28
theorem TH.later {p:Value} {w w':World} {t:PT}(h:TH p w t)(hb:Below w.heap.size w w'):TH p w' t:=
 ⟨fun w1 h1=>h.root w1 (hb.trans (h1.mono hb.size)),fun w1 h1=>h.out w1 (hb.trans (h1.mono hb.size)),h.node.later hb,h.up,h.deep⟩
theorem nodeOk_of {gT g n c:Nat} {M:Int} {A:Option Addr} {K:KnL} {t:PT} {l:ItL} {w:World}(H:TreeR 221 w gT g n c M A K t l)(hn:n≤2000): ∀ {s:PT},Rp K s→NodeOk (.pointer (some ⟨gT,0,none⟩)) w s
 | .nil,_=>trivial
 | .node a q y b,⟨h1,h2,h3⟩=>⟨fun w1 hb=>node_at gT g n c q M A K t l y _ _ _ _ w1 (H.keep hb) h1 hn,nodeOk_of H hn h2,nodeOk_of H hn h3⟩
theorem TH.of {gT g n c:Nat} {M:Int} {A:Option Addr} {K:KnL} {t:PT} {l:ItL} {w:World}(H:TreeR 221 w gT g n c M A K t l)(hl:l.length≤1000):TH (.pointer (some ⟨gT,0,none⟩)) w t:=
 ⟨fun w1 hb=>(root_any gT g n c M A K t l w1 (H.keep hb)).mono fun e w2 h=>⟨h.1,by rw [h.2];exact Below.refl _ _⟩,fun w1 hb=>node_none gT g n c M A K t l w1 (H.keep hb),nodeOk_of H (by have:=H.num;omega) H.rp,by rw [H.it];exact H.srt,by have:=bal_le H.bal (by rw [H.it];omega);omega⟩
theorem TH.nil {p:Value} {w:World}(h:NilA w p):TH p w .nil:=
 ⟨fun w1 hb=>(root_nil p w1 (h.keep hb)).mono fun e w2 h=>⟨h.1,h.2⟩,fun w1 hb=>(node_nil p (-1) w1 (h.keep hb)).mono fun e w2 h=>⟨h.1,h.2⟩,trivial,List.Pairwise.nil,by simp [PT.height]⟩
def LookP (fe ge:Nat)(fit:It→Bool)(lf:Bool)(w:World):Prop:=
 ge<w.heap.size∧(∀args w,(callFunc fe args).run Tryz.prog w= .ok (.enter fe args) w)∧∀w1,w1.heap[ge]? =w.heap[ge]? →∀(y:It) (i j h t:Int),Calls Tryz.prog fe #[knotV y i j h t,.pointer (some ⟨ge,0,none⟩)] w1 fun e w2=>e= .returned (.tuple #[.bool (fit y),.int .i64 (if fit y == lf then i else j)])∧Below w1.heap.size w1 w2
theorem LookP.later {fe ge:Nat} {fit:It→Bool} {lf:Bool} {w w':World}(h:LookP fe ge fit lf w)(hb:Below w.heap.size w w'):LookP fe ge fit lf w':=
 ⟨Nat.lt_of_lt_of_le h.1 hb.size,h.2.1,fun w1 h1=>h.2.2 w1 (h1.trans (hb.block _ h.1))⟩
theorem ζ2r {w w1:World} {g:Nat} {vs:Array Value}(B:Blk w g vs)(h:w1.heap[g]? =w.heap[g]?):Blk w1 g vs:=by
 obtain⟨T,hT⟩:=B.blk
 exact⟨T,h.trans hT⟩
end Go.Proofs.YthagdonmijhpdaaGreat
namespace Corr
open Go Go.RowKit
def isN:PT→Bool
 | .nil=>false
 | .node _ _ _ _=>true
def KnS (s:PT)(y:It)(i j h t:Int):Prop:=match s with
 | .nil=>y=(0,0,0)∧i=0∧j=0∧h=0∧t=0
 | .node a q z b=>y=z∧i=a.root∧j=b.root∧t=topL (PT.node a q z b).items
structure DnM (w wr:World)(hr hf hk:Nat)(f:It)(y:It)(i j h t:Int):Prop where
 br:Blk wr hr #[.int .i64 0,.int .i64 0,.int .i64 0]
 bf:Blk wr hf #[.int .i64 f.1,.int .i64 f.2.1,.int .i64 f.2.2]
 bk:Blk wr hk #[.int .i64 y.1,.int .i64 y.2.1,.int .i64 y.2.2,.int .i64 i,.int .i64 j,.int .i64 h,.int .i64 t]
 bb:Below w.heap.size w wr
 lo:w.heap.size≤hr∧w.heap.size≤hf∧w.heap.size≤hk
 ne:hr≠hf∧hr≠hk∧hf≠hk
theorem DnM.keep {w wr w':World} {hr hf hk:Nat} {f y:It} {i j h t:Int}(H:DnM w wr hr hf hk f y i j h t)(hb:Below wr.heap.size wr w'):DnM w w' hr hf hk f y i j h t:=⟨H.br.keep hb,H.bf.keep hb,H.bk.keep hb,H.bb.trans (hb.mono H.bb.size),H.lo,H.ne⟩
theorem ζf {B:Nat} {w wr:World}(h:Below B w wr) {g:Nat}(hg:B≤g)(k:Nat)(v:Value):Below B w (wr.setCell ⟨g,k,none⟩ v):=h.setCell (p:=⟨g,k,none⟩) hg v
end Corr
namespace Go.Proofs.YthagdonmijhpdaaGreat
open Go.RowKit Corr
theorem knot_any {p:Value} {w w1:World} {t s:PT}(T:TH p w t)(h:NodeOk p w s)(hb:Below w.heap.size w w1): ∃(y:It) (i j h t':Int),KnS s y i j h t'∧Calls Tryz.prog 142 #[p,.int .i64 s.root] w1 fun e w2=>e= .returned (.tuple #[knotV y i j h t',.bool (isN s)])∧Below w1.heap.size w1 w2:=by
 cases s with
 | nil=>exact⟨(0,0,0),0,0,0,0,⟨rfl,rfl,rfl,rfl,rfl⟩,T.out w1 hb⟩
 | node a q y b=>exact⟨y,_,_,_,_,⟨rfl,rfl,rfl,rfl⟩,h.1 w1 hb⟩
end Go.Proofs.YthagdonmijhpdaaGreat
namespace Corr
open Go Go.RowKit
def plN:PT→Nat
 | .nil=>0
 | .node _ q _ _=>q
theorem PlM.c28 {w:World} {g:Nat} {l:List Nat}(h:PlM w g l):w.cell? ⟨g,28,none⟩=some (.int .i64 (l.length:Int)):=by
 obtain⟨vs,B,V⟩:=h
 exact B.get 28 V.cnt
structure NxM (w wr:World)(hx hr hw:Nat)(x:It)(l:List Nat):Prop where
 bx:Blk wr hx #[.int .i64 x.1,.int .i64 x.2.1,.int .i64 x.2.2]
 br:Blk wr hr #[.int .i64 0,.int .i64 0,.int .i64 0]
 bw:PlM wr hw l
 bb:Below w.heap.size w wr
 lo:w.heap.size≤hx∧w.heap.size≤hr∧w.heap.size≤hw
 ne:hx≠hw∧hr≠hw
theorem NxM.keep {w wr w':World} {hx hr hw:Nat} {x:It} {l:List Nat}(h:NxM w wr hx hr hw x l)(hb:Below wr.heap.size wr w'):NxM w w' hx hr hw x l:=⟨h.bx.keep hb,h.br.keep hb,h.bw.keep hb,h.bb.trans (hb.mono h.bb.size),h.lo,h.ne⟩
theorem NxM.way {w wr w':World} {hx hr hw:Nat} {x:It} {l l':List Nat}(h:NxM w wr hx hr hw x l)(hw':PlM w' hw l')(ho:Off (· =hw) wr w'):NxM w w' hx hr hw x l':=⟨ho.blk h.bx h.ne.1,ho.blk h.br h.ne.2,hw',h.bb.trans (ho.below h.bb.size (fun k e=>by rw [e];exact h.lo.2.2)),h.lo,h.ne⟩
end Corr
namespace Go.Proofs.YthagdonmijhpdaaGreat
open Go.RowKit Corr
def EarlyP (fe ge:Nat)(E:Int→Bool)(w:World):Prop:=
 ge<w.heap.size∧(∀args w,(callFunc fe args).run Tryz.prog w= .ok (.enter fe args) w)∧∀w1,w1.heap[ge]? =w.heap[ge]? →∀d:Int,Calls Tryz.prog fe #[.int .i64 d,.pointer (some ⟨ge,0,none⟩)] w1 fun e w2=>e= .returned (.bool (E d))∧Below w1.heap.size w1 w2
theorem EarlyP.later {fe ge:Nat} {E:Int→Bool} {w w':World}(h:EarlyP fe ge E w)(hb:w'.heap[ge]? =w.heap[ge]?)(hs:w.heap.size≤w'.heap.size):EarlyP fe ge E w':=
 ⟨Nat.lt_of_lt_of_le h.1 hs,h.2.1,fun w1 h1=>h.2.2 w1 (h1.trans hb)⟩
theorem next_any (p:Value)(x:It)(low:Int)(fe ge:Nat)(E:Int→Bool)(hE: ∀i j,i≤j→E j=true→E i=true)(t:PT)(w:World)(T:TH p w t)(L:EarlyP fe ge E w):Calls Tryz.prog 119 #[p,itV x,.int .i64 low,.func (.func fe) #[] #[.pointer (some ⟨ge,0,none⟩)]] w fun e w'=>e= .returned (oneI (nextI x low E t.items))∧Below w.heap.size w w':=by
 obtain⟨res,hres⟩: ∃r,nextI x low E t.items=r:=⟨_,rfl⟩
 rw [hres]
 have HN0:=hid (NxI.start (x:=x) (low:=low) (E:=E) T.up)
 rw [hres]at HN0
 have HOR:=hid (fun(y:It) (w:World)=>iorder_any x y w)
 have HOS:=hid (fun(y:It)=>(ordI_neg (x:=x) (y:=y)))
 have HE:=hid hE
 have HT:=hid T
 have HL:=hid L
 have hcf:=L.2.1
 clear T L hres hE
 obtain⟨x1,x2,x3⟩:=x
 have HX:=((Blk.new w #[.int .i64 x1,.int .i64 x2,.int .i64 x3] 141).alloc (.cells #[.int .i64 0,.int .i64 0,.int .i64 0] 141)).alloc (.cells zeroPl 219)
 have HR:=(Blk.new (w.alloc (.cells #[.int .i64 x1,.int .i64 x2,.int .i64 x3] 141)) #[.int .i64 0,.int .i64 0,.int .i64 0] 141).alloc (.cells zeroPl 219)
 have HW:=Blk.new ((w.alloc (.cells #[.int .i64 x1,.int .i64 x2,.int .i64 x3] 141)).alloc (.cells #[.int .i64 0,.int .i64 0,.int .i64 0] 141)) zeroPl 219
 have HB:=Joins.below_alloc3 w (.cells #[.int .i64 x1,.int .i64 x2,.int .i64 x3] 141) (.cells #[.int .i64 0,.int .i64 0,.int .i64 0] 141) (.cells zeroPl 219)
 simp only [ζd]at HX HR HW
 have HM:=hid (show NxM w _ w.heap.size (w.heap.size+1) (w.heap.size+1+1) (x1,x2,x3) []from⟨HX,HR,⟨_,HW,PlV.zero⟩,HB,⟨by omega,by omega,by omega⟩,⟨by omega,by omega⟩⟩)
 clear HX HR HW HB
 go_enter Tryz.func119,Tryz.ntmps119
 go_upto_region 2 with fail
 change Code.wp Tryz.prog _ _ _ (((w.alloc (.cells #[.int .i64 x1,.int .i64 x2,.int .i64 x3] 141)).alloc (.cells #[.int .i64 0,.int .i64 0,.int .i64 0] 141)).alloc (.cells zeroPl 219))
 generalize ((w.alloc (.cells #[.int .i64 x1,.int .i64 x2,.int .i64 x3] 141)).alloc (.cells #[.int .i64 0,.int .i64 0,.int .i64 0] 141)).alloc (.cells zeroPl 219)=wq at*
 generalize w.heap.size+1+1=hw at*
 generalize w.heap.size+1=hr at*
 generalize hhx:w.heap.size=hx at HM ⊢
 clear hhx
 go_wp2_with fail
 refine(HT.out.root _ HM.out.bb).mono ?_
 rintro e w1 ⟨rfl,b1⟩
 have HM1:=hid (HM.out.keep b1)
 clear b1 HM
 go_wp2_with fail
 go_loopg [11] (msI t []) (fun k z wr=>∃(s:PT) (st:List PT),z= .int .i64 s.root∧Hid (k=msI s st)∧Hid (NxI (x1,x2,x3) low E t.height s st res)∧Hid (NodeOk p w s)∧Hid (∀u∈st,NodeOk p w u)∧Hid (NxM w wr hx hr hw (x1,x2,x3) (st.map plN).reverse))
 case atStart=>exact⟨t,[],rfl,hid rfl,HN0,hid HT.out.node,hid (fun _ h=>absurd h List.not_mem_nil),HM1⟩
 case round=>
  clear HN0 HM1
  obtain⟨s,st,rfl,HKK,HN,HNO,HST,HM⟩:=hrel
  obtain⟨⟨y1,y2,y3⟩,i,j,h,tp,hk,hc⟩:=knot_any HT.out HNO.out HM.out.bb
  go_wp2_with fail
  refine hc.mono ?_
  clear hc
  rintro e w2 ⟨rfl,b2⟩
  have HM2:=hid (HM.out.keep (b2.trans ((Below.refl w2.heap.size w2).alloc (Nat.le_refl _) (.cells #[.int .i64 y1,.int .i64 y2,.int .i64 y3,.int .i64 i,.int .i64 j,.int .i64 h,.int .i64 tp] 221) |>.mono b2.size)))
  have hB:=Blk.new w2 #[.int .i64 y1,.int .i64 y2,.int .i64 y3,.int .i64 i,.int .i64 j,.int .i64 h,.int .i64 tp] 221
  have HKB:=hid hB
  have HKW:=hid (show ¬w2.heap.size=hw from by have:=(HM.out.keep b2).bw.sz;omega)
  have k0:=hB.get 0 rfl
  have k1:=hB.get 1 rfl
  have k2:=hB.get 2 rfl
  have k3:=hB.get 3 rfl
  have k4:=hB.get 4 rfl
  have k6:=hB.get 6 rfl
  clear hB b2 HM
  go_upto_region 4 with fail
  generalize w2.alloc (.cells #[.int .i64 y1,.int .i64 y2,.int .i64 y3,.int .i64 i,.int .i64 j,.int .i64 h,.int .i64 tp] 221)=w3 at*
  generalize w2.heap.size=hk' at*
  cases s with
  | nil=>
   have e1:isN PT.nil=false:=rfl
   rw [e1]
   clear e1
   have HSL:=hid (show ∀y∈PT.nil.items,y.2.1≤low from fun _ h=>absurd h List.not_mem_nil)
   clear k0 k1 k2 k3 k4 HKB
   cases st with
   | nil=>
    have HRN:=hid (HN.out.over HSL.out)
    have n0:w3.cell? ⟨hw,28,none⟩=some (.int .i64 0):=HM2.out.bw.c28
    have c0:=HM2.out.br.get 0 rfl
    have c1:=HM2.out.br.get 1 rfl
    have c2:=HM2.out.br.get 2 rfl
    have z0:=HM2.out.br.f 0
    have z1:=HM2.out.br.f 1
    have z2:=HM2.out.br.f 2
    have HR2:=hid (((HM2.out.br.set 0 (.int .i64 0)).set 1 (.int .i64 0)).set 2 (.int .i64 0))
    have HB2:=hid (ζf (ζf (ζf HM2.out.bb HM2.out.lo.2.1 0 (.int .i64 0)) HM2.out.lo.2.1 1 (.int .i64 0)) HM2.out.lo.2.1 2 (.int .i64 0))
    go_wp2_with fail
    have r0:=HR2.out.get 0 (v:= .int .i64 0) rfl
    have r1:=HR2.out.get 1 (v:= .int .i64 0) rfl
    have r2:=HR2.out.get 2 (v:= .int .i64 0) rfl
    refine bodyPost_ret (v:= .tuple #[.agg #[.int .i64 0,.int .i64 0,.int .i64 0],.bool false]) (by simp [results,Tryz.results119,go_sem,r0,r1,r2]) rfl ⟨by rw [HRN.out];rfl,HB2.out⟩
   | cons u st'=>
    obtain⟨a',q',⟨v1,v2,v3⟩,b',rfl,_⟩:=HN.out.gt u List.mem_cons_self
    have HNU:=hid (HST.out (PT.node a' q' (v1,v2,v3) b') List.mem_cons_self)
    obtain⟨zc,hzc⟩: ∃z:Int,(((((PT.node a' q' (v1,v2,v3) b') :: st').map plN).reverse.length:Nat):Int)=z:=⟨_,rfl⟩
    have n0:=HM2.out.bw.c28
    rw [hzc]at n0
    have e2:(zc == 0)=false:=by rw [←hzc];simp;omega
    clear hzc
    have hpop:=ipop_any hw (st'.map plN).reverse q' w3 (by have:=HM2.out.bw;simpa [plN]using this)
    go_wp2_with fail
    refine hpop.mono ?_
    clear hpop
    rintro e w4 ⟨rfl,hpl,hof⟩
    have HM4:=hid (HM2.out.way hpl hof)
    clear hpl hof n0 HM2 k6
    go_wp2_with fail
    obtain⟨tq,htq⟩: ∃z,topL (PT.node a' q' (v1,v2,v3) b').items=z:=⟨_,rfl⟩
    obtain⟨hq,hhq⟩: ∃z,((PT.node a' q' (v1,v2,v3) b').height:Int)=z:=⟨_,rfl⟩
    have HCN:=hid (HNU.out.1 w4 HM4.out.bb)
    rw [htq,hhq]at HCN
    clear htq hhq
    refine HCN.out.mono ?_
    clear HCN
    rintro e w5 ⟨rfl,b5⟩
    have HM6:=hid (HM4.out.keep (b5.trans ((Below.refl w5.heap.size w5).alloc (Nat.le_refl _) (.cells #[.int .i64 v1,.int .i64 v2,.int .i64 v3,.int .i64 a'.root,.int .i64 b'.root,.int .i64 hq,.int .i64 tq] 221) |>.mono b5.size)))
    have hB:=Blk.new w5 #[.int .i64 v1,.int .i64 v2,.int .i64 v3,.int .i64 a'.root,.int .i64 b'.root,.int .i64 hq,.int .i64 tq] 221
    have HQB:=hid hB
    have k0:=hB.get 0 rfl
    clear hB b5 HM4
    have HCE:=hid (HL.out.2.2 _ (HM6.out.bb.block _ HL.out.1) v1)
    cases hev:E v1 with
    | false=>
     have HRN:=hid (HN.out.late HSL.out HE.out hev)
     rw [hev]at HCE
     clear hev
     go_wp2_with fail
     refine HCE.out.mono ?_
     clear HCE
     rintro e w7 ⟨rfl,b7⟩
     have HM7:=hid (HM6.out.keep b7)
     clear b7 HM6 k0
     have c0:=HM7.out.br.get 0 rfl
     have c1:=HM7.out.br.get 1 rfl
     have c2:=HM7.out.br.get 2 rfl
     have z0:=HM7.out.br.f 0
     have z1:=HM7.out.br.f 1
     have z2:=HM7.out.br.f 2
     have HR2:=hid (((HM7.out.br.set 0 (.int .i64 0)).set 1 (.int .i64 0)).set 2 (.int .i64 0))
     have HB2:=hid (ζf (ζf (ζf HM7.out.bb HM7.out.lo.2.1 0 (.int .i64 0)) HM7.out.lo.2.1 1 (.int .i64 0)) HM7.out.lo.2.1 2 (.int .i64 0))
     go_wp2_with fail
     have r0:=HR2.out.get 0 (v:= .int .i64 0) rfl
     have r1:=HR2.out.get 1 (v:= .int .i64 0) rfl
     have r2:=HR2.out.get 2 (v:= .int .i64 0) rfl
     refine bodyPost_ret (v:= .tuple #[.agg #[.int .i64 0,.int .i64 0,.int .i64 0],.bool false]) (by simp [results,Tryz.results119,go_sem,r0,r1,r2]) rfl ⟨by rw [HRN.out];rfl,HB2.out⟩
    | true=>
     have HEV:=hid hev
     rw [hev]at HCE
     clear hev
     go_wp2_with fail
     refine HCE.out.mono ?_
     clear HCE
     rintro e w7 ⟨rfl,b7⟩
     have HM7:=hid (HM6.out.keep b7)
     have hQ:=HQB.out.keep b7
     clear b7 HM6 k0 HQB
     have k0:=hQ.get 0 rfl
     have k1:=hQ.get 1 rfl
     have k2:=hQ.get 2 rfl
     have k4:=hQ.get 4 rfl
     clear hQ
     by_cases hto:low<v2
     ·have d2:decide (v2 > low)=true:=decide_eq_true hto
      have HRN:=hid (HN.out.here HSL.out HEV.out hto)
      clear hto
      have c0:=HM7.out.br.get 0 rfl
      have c1:=HM7.out.br.get 1 rfl
      have c2:=HM7.out.br.get 2 rfl
      have z0:=HM7.out.br.f 0
      have z1:=HM7.out.br.f 1
      have z2:=HM7.out.br.f 2
      have HR2:=hid (((HM7.out.br.set 0 (.int .i64 v1)).set 1 (.int .i64 v2)).set 2 (.int .i64 v3))
      have HB2:=hid (ζf (ζf (ζf HM7.out.bb HM7.out.lo.2.1 0 (.int .i64 v1)) HM7.out.lo.2.1 1 (.int .i64 v2)) HM7.out.lo.2.1 2 (.int .i64 v3))
      go_wp2_with fail
      have r0:=HR2.out.get 0 (v:= .int .i64 v1) rfl
      have r1:=HR2.out.get 1 (v:= .int .i64 v2) rfl
      have r2:=HR2.out.get 2 (v:= .int .i64 v3) rfl
      refine bodyPost_ret (v:= .tuple #[.agg #[.int .i64 v1,.int .i64 v2,.int .i64 v3],.bool true]) (by simp [results,Tryz.results119,go_sem,r0,r1,r2]) rfl ⟨by rw [HRN.out];rfl,HB2.out⟩
     ·have d2:decide (v2 > low)=false:=decide_eq_false hto
      have HNP:=hid (HN.out.pop HSL.out (by show v2≤low;omega))
      clear hto
      go_wp2_with fail
      go_roundg (msI b' st')
      case measure=>rw [HKK.out];exact ms_pop
      case rel=>exact⟨b',st',rfl,hid rfl,HNP,hid HNU.out.2.2,hid (fun u hu=>HST.out u (List.mem_cons_of_mem _ hu)),HM7⟩
  | node a q z b=>
   obtain⟨rfl,rfl,rfl,htp⟩:=hk
   have e1:isN (PT.node a q (y1,y2,y3) b)=true:=rfl
   rw [e1]
   clear e1
   by_cases hlt:low<tp
   ·have d1:decide (tp > low)=true:=decide_eq_true hlt
    clear hlt htp
    have x0:=HM2.out.bx.get 0 rfl
    have x1':=HM2.out.bx.get 1 rfl
    have x2':=HM2.out.bx.get 2 rfl
    obtain⟨o,ho⟩: ∃o,ordI (x1,x2,x3) (y1,y2,y3)=o:=⟨_,rfl⟩
    have HOC:=hid (HOR.out (y1,y2,y3) w3)
    have HOZ:=hid (HOS.out (y1,y2,y3))
    rw [ho]at HOC HOZ
    clear ho
    go_wp2_with fail
    refine HOC.out.mono ?_
    clear HOC
    rintro e w4 ⟨rfl,b4⟩
    have HM4:=hid (HM2.out.keep b4)
    have hK:=HKB.out.keep b4
    clear k0 k1 k2 k3 k4 k6 x0 x1' x2' b4 HM2 HKB
    have HKB:=hid hK
    by_cases hneg:o<0
    ·have d2:decide (o<0)=true:=decide_eq_true hneg
     have HX:=hid (HOZ.out.1 hneg)
     clear hneg hK
     have hpush:=ipush_any hw (st.map plN).reverse q w4 HM4.out.bw (by have:=HN.out.room HT.out.deep;simpa using this)
     go_wp2_with fail
     refine hpush.mono ?_
     clear hpush
     rintro e w5 ⟨rfl,hpl,hof⟩
     have HM5:=hid (HM4.out.way hpl hof)
     have k3:=(hof.blk HKB.out HKW.out).get 3 rfl
     go_wp2_with fail
     go_roundg (msI a (PT.node a q (y1,y2,y3) b :: st))
     case measure=>rw [HKK.out];exact ms_push
     case rel=>exact⟨a,PT.node a q (y1,y2,y3) b :: st,rfl,hid rfl,hid (HN.out.push HX.out),hid HNO.out.2.1,hid (fun u hu=>by
      rcases List.mem_cons.1 hu with rfl | hu
      ·exact HNO.out
      ·exact HST.out u hu),by simpa [plN]using HM5⟩
    ·have d2:decide (o<0)=false:=decide_eq_false hneg
     have HX:=hid (show lessB (x1,x2,x3) (y1,y2,y3)=false by
      cases e:lessB (x1,x2,x3) (y1,y2,y3)with
      | false=>rfl
      | true=>exact absurd (HOZ.out.2 e) hneg)
     clear hneg
     have k4:=hK.get 4 rfl
     clear hK
     go_wp2_with fail
     go_roundg (msI b st)
     case measure=>rw [HKK.out];exact ms_right
     case rel=>exact⟨b,st,rfl,hid rfl,hid (HN.out.right HX.out),hid HNO.out.2.2,HST,HM4⟩
   ·have d1:decide (tp > low)=false:=decide_eq_false hlt
    have HTP:=hid (show topL (PT.node a q (y1,y2,y3) b).items≤low by rw [←htp];omega)
    clear hlt htp
    have HSL:=hid (show ∀y∈(PT.node a q (y1,y2,y3) b).items,y.2.1≤low from fun y hy=>Int.le_trans (topL_le hy) HTP.out)
    clear k0 k1 k2 k3 k4 HKB
    cases st with
    | nil=>
     have HRN:=hid (HN.out.over HSL.out)
     have n0:w3.cell? ⟨hw,28,none⟩=some (.int .i64 0):=HM2.out.bw.c28
     have c0:=HM2.out.br.get 0 rfl
     have c1:=HM2.out.br.get 1 rfl
     have c2:=HM2.out.br.get 2 rfl
     have z0:=HM2.out.br.f 0
     have z1:=HM2.out.br.f 1
     have z2:=HM2.out.br.f 2
     have HR2:=hid (((HM2.out.br.set 0 (.int .i64 0)).set 1 (.int .i64 0)).set 2 (.int .i64 0))
     have HB2:=hid (ζf (ζf (ζf HM2.out.bb HM2.out.lo.2.1 0 (.int .i64 0)) HM2.out.lo.2.1 1 (.int .i64 0)) HM2.out.lo.2.1 2 (.int .i64 0))
     go_wp2_with fail
     have r0:=HR2.out.get 0 (v:= .int .i64 0) rfl
     have r1:=HR2.out.get 1 (v:= .int .i64 0) rfl
     have r2:=HR2.out.get 2 (v:= .int .i64 0) rfl
     refine bodyPost_ret (v:= .tuple #[.agg #[.int .i64 0,.int .i64 0,.int .i64 0],.bool false]) (by simp [results,Tryz.results119,go_sem,r0,r1,r2]) rfl ⟨by rw [HRN.out];rfl,HB2.out⟩
    | cons u st'=>
     obtain⟨a',q',⟨v1,v2,v3⟩,b',rfl,_⟩:=HN.out.gt u List.mem_cons_self
     have HNU:=hid (HST.out (PT.node a' q' (v1,v2,v3) b') List.mem_cons_self)
     obtain⟨zc,hzc⟩: ∃z:Int,(((((PT.node a' q' (v1,v2,v3) b') :: st').map plN).reverse.length:Nat):Int)=z:=⟨_,rfl⟩
     have n0:=HM2.out.bw.c28
     rw [hzc]at n0
     have e2:(zc == 0)=false:=by rw [←hzc];simp;omega
     clear hzc
     have hpop:=ipop_any hw (st'.map plN).reverse q' w3 (by have:=HM2.out.bw;simpa [plN]using this)
     go_wp2_with fail
     refine hpop.mono ?_
     clear hpop
     rintro e w4 ⟨rfl,hpl,hof⟩
     have HM4:=hid (HM2.out.way hpl hof)
     clear hpl hof n0 HM2 k6
     go_wp2_with fail
     obtain⟨tq,htq⟩: ∃z,topL (PT.node a' q' (v1,v2,v3) b').items=z:=⟨_,rfl⟩
     obtain⟨hq,hhq⟩: ∃z,((PT.node a' q' (v1,v2,v3) b').height:Int)=z:=⟨_,rfl⟩
     have HCN:=hid (HNU.out.1 w4 HM4.out.bb)
     rw [htq,hhq]at HCN
     clear htq hhq
     refine HCN.out.mono ?_
     clear HCN
     rintro e w5 ⟨rfl,b5⟩
     have HM6:=hid (HM4.out.keep (b5.trans ((Below.refl w5.heap.size w5).alloc (Nat.le_refl _) (.cells #[.int .i64 v1,.int .i64 v2,.int .i64 v3,.int .i64 a'.root,.int .i64 b'.root,.int .i64 hq,.int .i64 tq] 221) |>.mono b5.size)))
     have hB:=Blk.new w5 #[.int .i64 v1,.int .i64 v2,.int .i64 v3,.int .i64 a'.root,.int .i64 b'.root,.int .i64 hq,.int .i64 tq] 221
     have HQB:=hid hB
     have k0:=hB.get 0 rfl
     clear hB b5 HM4
     have HCE:=hid (HL.out.2.2 _ (HM6.out.bb.block _ HL.out.1) v1)
     cases hev:E v1 with
     | false=>
      have HRN:=hid (HN.out.late HSL.out HE.out hev)
      rw [hev]at HCE
      clear hev
      go_wp2_with fail
      refine HCE.out.mono ?_
      clear HCE
      rintro e w7 ⟨rfl,b7⟩
      have HM7:=hid (HM6.out.keep b7)
      clear b7 HM6 k0
      have c0:=HM7.out.br.get 0 rfl
      have c1:=HM7.out.br.get 1 rfl
      have c2:=HM7.out.br.get 2 rfl
      have z0:=HM7.out.br.f 0
      have z1:=HM7.out.br.f 1
      have z2:=HM7.out.br.f 2
      have HR2:=hid (((HM7.out.br.set 0 (.int .i64 0)).set 1 (.int .i64 0)).set 2 (.int .i64 0))
      have HB2:=hid (ζf (ζf (ζf HM7.out.bb HM7.out.lo.2.1 0 (.int .i64 0)) HM7.out.lo.2.1 1 (.int .i64 0)) HM7.out.lo.2.1 2 (.int .i64 0))
      go_wp2_with fail
      have r0:=HR2.out.get 0 (v:= .int .i64 0) rfl
      have r1:=HR2.out.get 1 (v:= .int .i64 0) rfl
      have r2:=HR2.out.get 2 (v:= .int .i64 0) rfl
      refine bodyPost_ret (v:= .tuple #[.agg #[.int .i64 0,.int .i64 0,.int .i64 0],.bool false]) (by simp [results,Tryz.results119,go_sem,r0,r1,r2]) rfl ⟨by rw [HRN.out];rfl,HB2.out⟩
     | true=>
      have HEV:=hid hev
      rw [hev]at HCE
      clear hev
      go_wp2_with fail
      refine HCE.out.mono ?_
      clear HCE
      rintro e w7 ⟨rfl,b7⟩
      have HM7:=hid (HM6.out.keep b7)
      have hQ:=HQB.out.keep b7
      clear b7 HM6 k0 HQB
      have k0:=hQ.get 0 rfl
      have k1:=hQ.get 1 rfl
      have k2:=hQ.get 2 rfl
      have k4:=hQ.get 4 rfl
      clear hQ
      by_cases hto:low<v2
      ·have d2:decide (v2 > low)=true:=decide_eq_true hto
       have HRN:=hid (HN.out.here HSL.out HEV.out hto)
       clear hto
       have c0:=HM7.out.br.get 0 rfl
       have c1:=HM7.out.br.get 1 rfl
       have c2:=HM7.out.br.get 2 rfl
       have z0:=HM7.out.br.f 0
       have z1:=HM7.out.br.f 1
       have z2:=HM7.out.br.f 2
       have HR2:=hid (((HM7.out.br.set 0 (.int .i64 v1)).set 1 (.int .i64 v2)).set 2 (.int .i64 v3))
       have HB2:=hid (ζf (ζf (ζf HM7.out.bb HM7.out.lo.2.1 0 (.int .i64 v1)) HM7.out.lo.2.1 1 (.int .i64 v2)) HM7.out.lo.2.1 2 (.int .i64 v3))
       go_wp2_with fail
       have r0:=HR2.out.get 0 (v:= .int .i64 v1) rfl
       have r1:=HR2.out.get 1 (v:= .int .i64 v2) rfl
       have r2:=HR2.out.get 2 (v:= .int .i64 v3) rfl
       refine bodyPost_ret (v:= .tuple #[.agg #[.int .i64 v1,.int .i64 v2,.int .i64 v3],.bool true]) (by simp [results,Tryz.results119,go_sem,r0,r1,r2]) rfl ⟨by rw [HRN.out];rfl,HB2.out⟩
      ·have d2:decide (v2 > low)=false:=decide_eq_false hto
       have HNP:=hid (HN.out.pop HSL.out (by show v2≤low;omega))
       clear hto
       go_wp2_with fail
       go_roundg (msI b' st')
       case measure=>rw [HKK.out];exact ms_pop
       case rel=>exact⟨b',st',rfl,hid rfl,HNP,hid HNU.out.2.2,hid (fun u hu=>HST.out u (List.mem_cons_of_mem _ hu)),HM7⟩
end Go.Proofs.YthagdonmijhpdaaGreat

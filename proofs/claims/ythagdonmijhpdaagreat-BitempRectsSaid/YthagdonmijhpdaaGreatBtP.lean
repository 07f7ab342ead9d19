/- What the laws of stage 13 ask of package bitemp is so. -/
import Derived.Test.YthagdonmijhpdaaGreatItNext
import Derived.Test.YthagdonmijhpdaaGreatSeqOff
import Derived.Deep.LoopGhost
import Derived.Lib.AtoiErrMem
import Derived.Test.YthagdonmijhpdaaGreatTpPut
import Derived.Test.YthagdonmijhpdaaGreatTpSegs
import Derived.Test.YthagdonmijhpdaaGreatTqNew
import Derived.Test.YthagdonmijhpdaaGreatTpSame
import Derived.Test.YthagdonmijhpdaaGreatAvP
import Derived.Test.YthagdonmijhpdaaGreatBpF
import Derived.Test.YthagdonmijhpdaaGreatBpSg
import Derived.Test.YthagdonmijhpdaaGreatBpHs
import Derived.Test.YthagdonmijhpdaaGreatBpHd
import Derived.Test.YthagdonmijhpdaaGreatBpS5
import Derived.Test.YthagdonmijhpdaaGreatBpG
import Derived.Test.YthagdonmijhpdaaGreatRf4
import Derived.BigQuiet
import Derived.Test.YthagdonmijhpdaaGreatBpRs
import Derived.Test.YthagdonmijhpdaaGreatFramePuts
open Go.Lib (hid)
set_option linter.unusedSimpArgs false
set_option linter.unusedVariables false
set_option maxHeartbeats 4000000
set_option maxRecDepth 8000
namespace Corr
open Go Go.RowKit
def AtI (L:ItL)(j:Nat)(x:It):Prop:=(j=0∧x=(lowI,lowI,lowI))∨∃i,j=i+1∧L[i]? =some x
end Corr
namespace Go.Proofs.YthagdonmijhpdaaGreat
open Go.RowKit Corr
theorem rising_any (p:Option Addr)(low:Int)(fe ge:Nat)(w:World):Calls Tryz.prog 94 #[.pointer p,.int .i64 low,.func (.func fe) #[] #[.pointer (some ⟨ge,0,none⟩)]] w fun e w'=>
  e= .returned (.func (.func 118) #[] #[.pointer (some ⟨w.heap.size,0,none⟩),.pointer (some ⟨w.heap.size+1,0,none⟩),.pointer (some ⟨w.heap.size+1+1,0,none⟩)])∧Below w.heap.size w w'∧
  Blk w' w.heap.size #[.pointer p]∧Blk w' (w.heap.size+1) #[.int .i64 low]∧Blk w' (w.heap.size+1+1) #[.func (.func fe) #[] #[.pointer (some ⟨ge,0,none⟩)]]:=by
 have h1:=((Blk.new w #[.pointer p] 117).alloc (.cells #[.int .i64 low] 3)).alloc (.cells #[.func (.func fe) #[] #[.pointer (some ⟨ge,0,none⟩)]] 146)
 have h2:=(Blk.new (w.alloc (.cells #[.pointer p] 117)) #[.int .i64 low] 3).alloc (.cells #[.func (.func fe) #[] #[.pointer (some ⟨ge,0,none⟩)]] 146)
 have h3:=Blk.new ((w.alloc (.cells #[.pointer p] 117)).alloc (.cells #[.int .i64 low] 3)) #[.func (.func fe) #[] #[.pointer (some ⟨ge,0,none⟩)]] 146
 have hb:=Joins.below_alloc3 w (.cells #[.pointer p] 117) (.cells #[.int .i64 low] 3) (.cells #[.func (.func fe) #[] #[.pointer (some ⟨ge,0,none⟩)]] 146)
 simp only [ζd]at h1 h2 h3
 have H1:=hid h1
 have H2:=hid h2
 have H3:=hid h3
 have HB:=hid hb
 clear h1 h2 h3 hb
 go_enter Tryz.func94,Tryz.ntmps94
 go_wp2_with fail
 refine bodyPost_ret (results_tmp rfl _ _ _) rfl ⟨rfl,HB.out,H1.out,H2.out,H3.out⟩
theorem rise_off (p:Option Addr)(low:Int)(fe ge:Nat)(E:Int→Bool)(hE: ∀i j,i≤j→E j=true→E i=true)(t:PT)(gt gl gc:Nat)(Z:Nat→Prop)(w1:World)(hok:okL t.items)
  (h1: ¬Z gt) (h2: ¬Z gl) (h3: ¬Z gc) (h4: ¬Z ge) (hn: ∀k,w1.heap.size≤k→Z k)
  (bt:Blk w1 gt #[.pointer p]) (bl:Blk w1 gl #[.int .i64 low]) (bc:Blk w1 gc #[.func (.func fe) #[] #[.pointer (some ⟨ge,0,none⟩)]]) (hL:EarlyP fe ge E w1)
  (hT: ∀w2,Off Z w1 w2→TH (.pointer p) w2 t) (L:ItL) (hLL:t.items.filter (hitB low E)=L):
  SeqOff Tryz.prog 118 #[.pointer (some ⟨gt,0,none⟩),.pointer (some ⟨gl,0,none⟩),.pointer (some ⟨gc,0,none⟩)] (fun x:It=> #[itV x]) Z (fun ys=>ys=L) (fun pre=>pre <+: L) L.length w1:=by
 intro l J Jx W hW hgrow hY h0
 have hW0:=Off.of (F:=Z) hW
 have HT:=hid (fun w2 (hb:Off Z W w2)=>hT w2 (hW0.trans hb))
 have HLL:=hid (fun(x:It) (j:Nat) (hx:AtI L j x)=>show nextI x low E t.items=L[j]? from by
  rw [←hLL]at hx ⊢
  refine next_at (hT w1 (Off.refl _ _)).up ?_
  rcases hx with⟨h,rfl⟩ | h
  ·exact .inl ⟨h,low_less hok⟩
  ·exact .inr h)
 have HE:=hid hE
 have HLE:=hid hL
 have HBT:=hid (bt.keep hW)
 have HBL:=hid (bl.keep hW)
 have HBC:=hid (bc.keep hW)
 have hge:W.heap[ge]? =w1.heap[ge]? :=hW.block _ hL.1
 have HGE:=hid hge
 have HYY:=hid hY
 have HGR:=hid hgrow
 have H00:=hid h0
 have HNW:=hid (show ∀k,W.heap.size≤k→Z k from fun k hk=>hn k (Nat.le_trans hW.size hk))
 have HLW:=hid (show gt<W.heap.size∧gl<W.heap.size∧gc<W.heap.size∧ge<W.heap.size from⟨Nat.lt_of_lt_of_le bt.sz hW.size,Nat.lt_of_lt_of_le bl.sz hW.size,Nat.lt_of_lt_of_le bc.sz hW.size,Nat.lt_of_lt_of_le hL.1 hW.size⟩)
 have HBB:=hid (Blk.new W #[.int .i64 lowI,.int .i64 lowI,.int .i64 lowI] 141)
 have hdd: ∀k:Nat,(Fence.wide.depth.isSome=true→1≤k):=fun k h=>by cases h
 clear hT hLL hE bt bl bc hge hY hgrow h0 hok hL
 unfold lowI at HBB
 refine callsIn_of_wp Tryz.func118 rfl trivial ?_ rfl
 simp only [Tryz.ntmps118,List.size_toArray,List.length_cons,List.length_nil,Nat.reduceAdd,Nat.reduceSub,Array.replicate_succ,Array.replicate_zero,List.push_toArray,List.append_toArray,List.nil_append,List.cons_append]
 gi_wp2
 have hba:=(Below.refl W.heap.size W).alloc (Nat.le_refl _) (.cells #[.int .i64 (-9223372036854775808),.int .i64 (-9223372036854775808),.int .i64 (-9223372036854775808)] 141)
 have HST:=hid (HGR.out _ _ _ _ H00.out (Off.of hba))
 have HBA:=hid (Off.of (F:=Z) hba)
 have HSZ:=hid (show W.heap.size<(W.alloc (.cells #[.int .i64 (-9223372036854775808),.int .i64 (-9223372036854775808),.int .i64 (-9223372036854775808)] 141)).heap.size by simp)
 obtain⟨R,hR⟩: ∃R:Nat→World→Prop,R=fun k wr=>∃(j:Nat) (x:It) (G:Nat→Prop),k=L.length-j∧j≤L.length∧J G (L.take j) wr∧AtI L j x∧Blk wr W.heap.size #[.int .i64 x.1,.int .i64 x.2.1,.int .i64 x.2.2]∧G W.heap.size∧Off Z W wr:=⟨_,rfl⟩
 clear hba
 gi_loopw [7] (fun _ wr=>∃k,R k wr) (fun _ wr=>leastOf fun k=>R k wr)
 case atStart=>exact⟨L.length,by rw [hR];exact⟨0,(lowI,lowI,lowI),_,rfl,by omega,HST.out,.inl ⟨rfl,rfl⟩,HBB.out,.inr ⟨Nat.le_refl _,HSZ.out⟩,HBA.out⟩⟩
 case round=>
  have HLS:=hid (leastOf_spec hrel)
  clear hrel HST HBA HSZ HBB
  obtain⟨k,hk⟩: ∃k,(leastOf fun k=>R k wr)=k:=⟨_,rfl⟩
  have hr:=HLS.out.1
  rw [hk,hR]at hr
  have HKK:=hid hk
  have HRR:=hid hR
  clear hk hR HLS
  obtain⟨j,⟨x1,x2,x3⟩,G,hkj,hjl,hJ,hat,hbx,hG,hbw⟩:=hr
  have HKJ:=hid hkj
  have HJL:=hid hjl
  have HJ:=hid hJ
  have HAT:=hid hat
  have HG:=hid hG
  have HBW:=hid hbw
  have HBX:=hid hbx
  have hN:=(callsIn_wide (n:=1)).2 (next_any (.pointer p) (x1,x2,x3) low fe ge E HE.out t wr (HT.out _ hbw) (HLE.out.later ((hbw.block _ HLW.out.2.2.2 h4).trans HGE.out) (Nat.le_trans hW.size hbw.size)))
  rw [HLL.out _ _ hat]at hN
  have c0:=(ζ2r HBT.out (hbw.block _ HLW.out.1 h1)).get 0 rfl
  have c1:=(ζ2r HBL.out (hbw.block _ HLW.out.2.1 h2)).get 0 rfl
  have c2:=(ζ2r HBC.out (hbw.block _ HLW.out.2.2.1 h3)).get 0 rfl
  have x0:=hbx.get 0 rfl
  have x1':=hbx.get 1 rfl
  have x2':=hbx.get 2 rfl
  clear hkj hjl hJ hat hG hbw hbx
  cases hl:L[j]? with
  | none=>
   rw [hl]at hN
   have HALL:=hid (show L.take j=L from List.take_of_length_le (List.getElem?_eq_none_iff.1 hl))
   clear hl
   gi_wp2_with fail
   refine⟨trivial,hN.mono ?_⟩
   clear hN
   rintro e w2 ⟨rfl,b2⟩
   have HB2:=hid b2
   clear b2
   unfold oneI
   gi_wp2_with fail
   refine⟨fun _ h=>(by cases h),?_⟩
   gi_wp2_with fail
   refine bodyPost_ret (results_none rfl _ _ _) rfl ?_
   refine⟨⟨_,rfl⟩,.inl ⟨L,_,rfl,by rw [←HALL.out];exact HGR.out _ _ _ _ HJ.out (Off.of (HB2.out.alloc HB2.out.size _))⟩⟩
  | some y=>
   obtain⟨y1,y2,y3⟩:=y
   rw [hl]at hN
   have HY1:=hid hl
   clear hl
   gi_wp2_with fail
   refine⟨trivial,hN.mono ?_⟩
   clear hN
   rintro e w2 ⟨rfl,b2⟩
   have hB2:=b2.alloc b2.size (.cells #[.int .i64 y1,.int .i64 y2,.int .i64 y3] 141)
   have HB2:=hid hB2
   have HJ2:=hid (HGR.out _ _ _ _ HJ.out (Off.of hB2))
   have hq:=Blk.new w2 #[.int .i64 y1,.int .i64 y2,.int .i64 y3] 141
   have HQ:=hid hq
   have HQG:=hid (show madeG G wr (w2.alloc (.cells #[.int .i64 y1,.int .i64 y2,.int .i64 y3] 141)) w2.heap.size from .inr ⟨b2.size,by simp⟩)
   have HBG:=hid (show madeG G wr (w2.alloc (.cells #[.int .i64 y1,.int .i64 y2,.int .i64 y3] 141)) W.heap.size from .inl HG.out)
   have HBX2:=hid (HBX.out.keep hB2)
   have q0:=hq.get 0 rfl
   have q1:=hq.get 1 rfl
   have q2:=hq.get 2 rfl
   clear b2 hB2 hq c0 c1 c2 x0 x1' x2'
   obtain⟨fn,tmps,assign,body,hy,hR⟩:=HYY.out _ _ (y1,y2,y3) _ HJ2.out (by
    have:=(List.getElem?_eq_some_iff.1 HY1.out).1
    rw [List.length_take];omega) (by
    rw [show L.take j++ [(y1,y2,y3)]=L.take (j+1) by rw [List.take_add_one,HY1.out];rfl]
    exact List.take_prefix _ _)
   unfold oneI
   gi_wp2_with fail
   refine hR.mono ?_
   clear hR hy
   rintro e W3 (⟨rfl,hJ3,hk3,hG3⟩ | ⟨rfl,hx3⟩)
   ·have HQ3:=ζ2r HQ.out (hG3 _ HQG.out)
    have HX3:=ζ2r HBX2.out (hG3 _ HBG.out)
    have q0':=HQ3.get 0 rfl
    have q1':=HQ3.get 1 rfl
    have q2':=HQ3.get 2 rfl
    have c0:=HX3.get 0 rfl
    have c1:=HX3.get 1 rfl
    have c2:=HX3.get 2 rfl
    have z0:=HX3.f 0
    have z1:=HX3.f 1
    have z2:=HX3.f 2
    have HX4:=hid (((HX3.set 0 (.int .i64 y1)).set 1 (.int .i64 y2)).set 2 (.int .i64 y3))
    have HJ3:=hid hJ3
    have HK3:=hid hk3
    have HJT:=hid (show j<L.length∧L.take j++ [(y1,y2,y3)]=L.take (j+1)from by
     have:=(List.getElem?_eq_some_iff.1 HY1.out).1
     refine⟨this,?_⟩
     rw [List.take_add_one,HY1.out];rfl)
    have HRN:=hid (show R (L.length-(j+1)) (((W3.setCell ⟨W.heap.size,0,none⟩ (.int .i64 y1)).setCell ⟨W.heap.size,1,none⟩ (.int .i64 y2)).setCell ⟨W.heap.size,2,none⟩ (.int .i64 y3))from by
     rw [HRR.out]
     have ho:=((((Off.refl _ W3).put ⟨W.heap.size,0,none⟩ (.inl HBG.out) (.int .i64 y1)).put ⟨W.heap.size,1,none⟩ (.inl HBG.out) (.int .i64 y2)).put ⟨W.heap.size,2,none⟩ (.inl HBG.out) (.int .i64 y3))
     have hj:=HGR.out _ _ _ _ HJ3.out ho
     rw [HJT.out.2]at hj
     exact⟨j+1,(y1,y2,y3),_,rfl,HJT.out.1,hj,.inr ⟨j,rfl,HY1.out⟩,HX4.out,.inl HBG.out,
      (((((HBW.out.trans (Off.of (F:=Z) HB2.out)).trans HK3.out).put ⟨W.heap.size,0,none⟩ (.inl (HNW.out _ (Nat.le_refl _))) (.int .i64 y1)).put ⟨W.heap.size,1,none⟩ (.inl (HNW.out _ (Nat.le_refl _))) (.int .i64 y2)).put ⟨W.heap.size,2,none⟩ (.inl (HNW.out _ (Nat.le_refl _))) (.int .i64 y3))⟩)
    clear q0 q1 q2 hJ3 hk3 hG3 HQ3 HX3 HQ HBX2 HBX
    gi_wp2_with fail
    go_roundw
    case rel=>exact⟨_,HRN.out⟩
    case measure=>
     rw [HKK.out]
     have h1:=(leastOf_spec (p:=fun k=>R k (((W3.setCell ⟨W.heap.size,0,none⟩ (.int .i64 y1)).setCell ⟨W.heap.size,1,none⟩ (.int .i64 y2)).setCell ⟨W.heap.size,2,none⟩ (.int .i64 y3))) ⟨_,HRN.out⟩).2 _ HRN.out
     have h2:=HKJ.out
     have h3:=HJT.out.1
     omega
   ·gi_wp2_with fail
    refine bodyPost_ret (results_none rfl _ _ _) rfl ?_
    refine⟨⟨_,rfl⟩,.inr ⟨L.take j++ [(y1,y2,y3)],?_,hx3⟩⟩
    have:=(List.getElem?_eq_some_iff.1 HY1.out).1
    rw [show L.take j++ [(y1,y2,y3)]=L.take (j+1) by rw [List.take_add_one,HY1.out];rfl]
    exact List.take_prefix _ _
end Go.Proofs.YthagdonmijhpdaaGreat
namespace Corr
open Go Go.RowKit
theorem hit_over (a b:Int)(l:ItL):l.filter (hitB a fun d=>decide (a<b) && decide (d<b))=l.filter (overB a b):=by
 congr 1;funext y
 show (decide (a<y.2.1) && (decide (a<b) && decide (y.1<b)))=(decide (a<b) && (decide (y.1<b) && decide (a<y.2.1)))
 cases decide (a<b) <;> cases decide (y.1<b) <;> cases decide (a<y.2.1) <;> rfl
end Corr
namespace Go.Proofs.YthagdonmijhpdaaGreat
open Go.RowKit Corr
theorem all1_any (ge:Nat)(a b d:Int)(w:World)(B:Blk w ge #[.int .i64 a,.int .i64 b]):Calls Tryz.prog 95 #[.int .i64 d,.pointer (some ⟨ge,0,none⟩)] w fun e w2=>e= .returned (.bool (decide (a<b) && decide (d<b)))∧Below w.heap.size w w2:=by
 have c0:=B.get 0 rfl
 have c1:=B.get 1 rfl
 clear B
 by_cases h:a<b
 ·have h1:decide (a<b)=true:=decide_eq_true h
  rw [h1,Bool.true_and]
  go_enter Tryz.func95,Tryz.ntmps95
  go_wp2_with fail
  go_ret
  exact⟨rfl,Below.refl _ _⟩
 ·have h1:decide (a<b)=false:=decide_eq_false h
  rw [h1,Bool.false_and]
  go_enter Tryz.func95,Tryz.ntmps95
  go_wp2_with fail
  go_ret
  exact⟨rfl,Below.refl _ _⟩
theorem allEarly (ge:Nat)(a b:Int)(w:World)(B:Blk w ge #[.int .i64 a,.int .i64 b]):EarlyP 95 ge (fun d=>decide (a<b) && decide (d<b)) w:=
 ⟨B.sz,enters_of Tryz.func95 (by kernel_rfl) rfl,fun w1 h1 d=>all1_any ge a b d w1 (ζ2r B h1)⟩
theorem all_mono (a b:Int): ∀i j:Int,i≤j→(fun d=>decide (a<b) && decide (d<b)) j=true→(fun d=>decide (a<b) && decide (d<b)) i=true:=by intro i j h;simp;omega
theorem rise_enters: ∀args w,(callFunc 118 args).run Tryz.prog w= .ok (.enter 118 args) w:=enters_of Tryz.func118 (by kernel_rfl) rfl
theorem iall_any (p:Option Addr)(a b:Int)(w:World):Calls Tryz.prog 74 #[.pointer p,.agg #[.int .i64 a,.int .i64 b]] w fun e w'=>
  e= .returned (.func (.func 118) #[] #[.pointer (some ⟨w.heap.size+1,0,none⟩),.pointer (some ⟨w.heap.size+1+1,0,none⟩),.pointer (some ⟨w.heap.size+1+1+1,0,none⟩)])∧Below w.heap.size w w'∧
  Blk w' w.heap.size #[.int .i64 a,.int .i64 b]∧Blk w' (w.heap.size+1) #[.pointer p]∧Blk w' (w.heap.size+1+1) #[.int .i64 a]∧Blk w' (w.heap.size+1+1+1) #[.func (.func 95) #[] #[.pointer (some ⟨w.heap.size,0,none⟩)]]:=by
 have hb:=(Below.refl w.heap.size w).alloc (Nat.le_refl _) (.cells #[.int .i64 a,.int .i64 b] 24)
 have HB:=hid hb
 have hd:=Blk.new w #[.int .i64 a,.int .i64 b] 24
 have HD:=hid hd
 have c0:=hd.get 0 rfl
 clear hb hd
 go_enter Tryz.func74,Tryz.ntmps74
 go_wp2_with fail
 refine(rising_any p a 95 w.heap.size _).mono ?_
 rintro e w1 ⟨rfl,b1,q1,q2,q3⟩
 simp only [ζd]at q1 q2 q3
 have H1:=hid q1
 have H2:=hid q2
 have H3:=hid q3
 have HD1:=hid (HD.out.keep b1)
 have HB1:=hid (HB.out.trans (b1.mono HB.out.size))
 clear q1 q2 q3 b1 c0
 go_wp2_with fail
 go_ret
 exact⟨rfl,HB1.out,HD1.out,H1.out,H2.out,H3.out⟩
theorem all_off (p:Option Addr)(a b:Int)(t:PT)(g:Nat)(Z:Nat→Prop)(w1:World)(hok:okL t.items)(hg: ∀k,g≤k→k<g+4→¬Z k)(hn: ∀k,w1.heap.size≤k→Z k)
  (q0:Blk w1 g #[.int .i64 a,.int .i64 b]) (q1:Blk w1 (g+1) #[.pointer p]) (q2:Blk w1 (g+1+1) #[.int .i64 a]) (q3:Blk w1 (g+1+1+1) #[.func (.func 95) #[] #[.pointer (some ⟨g,0,none⟩)]])
  (hT: ∀w2,Off Z w1 w2→TH (.pointer p) w2 t):
  SeqOff Tryz.prog 118 #[.pointer (some ⟨g+1,0,none⟩),.pointer (some ⟨g+1+1,0,none⟩),.pointer (some ⟨g+1+1+1,0,none⟩)] (fun x:It=> #[itV x]) Z (fun ys=>ys=t.items.filter (overB a b)) (fun pre=>pre <+: t.items.filter (overB a b)) (t.items.filter (overB a b)).length w1:=
 rise_off p a 95 g (fun d=>decide (a<b) && decide (d<b)) (all_mono a b) t _ _ _ Z w1 hok (hg _ (by omega) (by omega)) (hg _ (by omega) (by omega)) (hg _ (by omega) (by omega)) (hg _ (by omega) (by omega)) hn q1 q2 q3 (allEarly _ a b _ q0) hT _ (hit_over a b t.items)
end Go.Proofs.YthagdonmijhpdaaGreat
namespace Corr
open Go Go.RowKit
theorem RepTp.keep {Rep:RepT}(R:RepOk Rep) {w w':World} {p:Value} {F:Nat→Prop} {N:Nat} {f:Int→Int}(h:RepTp Rep w p F N f)(hb:Below w.heap.size w w'):RepTp Rep w' p F N f:=⟨h.1.keep R hb,h.2⟩
theorem tp_ok {Rep:RepT}(R:RepOk Rep):TlOk (RepTp Rep) where
 lt:=fun h=>(tpT R _ _ _).lt h.1
 keep:=fun h ho hn=>⟨(tpT R _ _ _).keep h.1 ho hn,h.2⟩
end Corr
namespace Go.Proofs.YthagdonmijhpdaaGreat
open Go.RowKit Corr
theorem trK:TrK RepP where
 toRepOk:=repA_ok _
 make:=fun M w h1 h2=>new_any M w h1 h2
 insert:=insert_k
 delete:=delete_k
 len:=by
  rintro w p F M l ⟨gT,g,n,c,A,K,t,rfl,T,rfl⟩ hl
  refine(len_any gT g n c M A K t l w T).mono fun e w' h=>⟨?_,by rw [h.2];exact Below.refl _ _⟩
  rw [h.1,T.num]
 all:=by
  rintro w p F M l a b ⟨gT,g,n,c,A,K,t,rfl,T,rfl⟩ hl ho
  refine(iall_any (some ⟨gT,0,none⟩) a b w).mono ?_
  rintro e w' ⟨rfl,hb,q0,q1,q2,q3⟩
  refine⟨_,_,rfl,hb,rise_enters,fun Z z1 z2 z3=> ?_⟩
  have s3:=q3.sz
  have key:=all_off (some ⟨gT,0,none⟩) a b t w.heap.size Z w' (by rw [T.it];exact ho) (fun k h1 h2=>z3 k h1 (by omega)) z1 q0 q1 q2 q3
   (fun w2 h2=>TH.of ((T.keep hb).off h2 z2) hl)
  rwa [T.it]at key
abbrev RepTL:RepL:=RepTp RepP
theorem tlK0:TlK0 RepTL where
 toTlOk:=tp_ok trK.toRepOk
 make:=fun w=>tpnew_rep trK w
 put:=by
  rintro w p F N f a b v ⟨hQ,ho⟩ hN
  obtain⟨gT,rfl⟩:=hQ.ptr
  cases hm:mayB a b with
  | true=>
   refine(tpput_yes trK gT F (3*N) f a b v w hQ ho (by omega) hm).mono fun e w' hq=> ?_
   obtain⟨F',he,h1,h2,h3⟩:=hq
   refine⟨F',by rw [he];unfold putR;rw [if_pos hm],⟨?_,offF_put ho a b v⟩,h2,h3⟩
   have e:putF f a b v=updF f a b v:=by unfold putF;rw [if_pos hm]
   rw [e]
   exact h1.more (by omega)
  | false=>
   obtain⟨gM,hc⟩:=hQ.map_at
   refine(tpput_no gT gM a b v w hc hm).mono fun e w' hq=> ?_
   refine⟨F,by rw [hq.1];unfold putR;rw [if_neg (by rw [hm];decide)],⟨?_,offF_put ho a b v⟩,Off.of hq.2,fun k hk=> .inl hk⟩
   have e:putF f a b v=f:=by unfold putF;rw [if_neg (by rw [hm];decide)]
   rw [e]
   exact(hQ.keep trK.toRepOk hq.2).more (by omega)
 segs:=fun w p F N f a b h hN=>tpsegs_rep trK h hN a b
abbrev RepB13:RepB:=RepBt trK.toRepOk 86 134
theorem btK:BtK RepTL RepB13 where
 toBtOk:=repBt_ok trK.toRepOk _ _
 tl:=tlK0.toTlOk
 make:=fun w=>bnew_any trK w
 put:=fun w p F L t a b v h _ hL _ _=>bput_any trK w p F L t a b v h hL
 last:=fun w p F L h _ _=>blast13_any trK w p F L (.inl h)
 at_:=fun w p F L t d h _ hL _ _ u1 u2=>bat_any trK w p F L t d (.inl h) hL ⟨u1,u2⟩
 segs:=fun w p F L t a b h _ hL _ _=>bsegs13_any trK tlK0 w p F L t a b (.inl h) hL
 hist:=fun w p F L d h hg hL u1 u2=>bhist13_any trK w p F L d (.inl h) hg hL ⟨u1,u2⟩
 rects:=fun w p F L h hg hL=>brects13_any trK w p F L (.inl h) hg hL
theorem btL:TlB RepTL where
 toTlOk:=tlK0.toTlOk
 make:=tlK0.make
 segs:=tlK0.segs
 same:=fun w p q F G N M f g h1 h2 hN hM=>tpsame_of p q f g w (fun w' hb=>tpall_any trK (h1.keep trK.toRepOk hb) hN) (fun w' hb=>tpall_any trK (h2.keep trK.toRepOk hb) hM)
end Go.Proofs.YthagdonmijhpdaaGreat

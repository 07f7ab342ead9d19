/- A region that draws its order, within a round of a range over a function -/
import Derived.Test.YthagdonmijhpdaaGreatRelVal
import Derived.Test.YthagdonmijhpdaaGreatSeqOff
import Derived.OrdersIn
import Derived.Test.YthagdonmijhpdaaGreatTpLay2
open Go.Lib (hid)
set_option linter.unusedSimpArgs false
set_option linter.unusedVariables false
set_option maxHeartbeats 8000000
set_option maxRecDepth 8000
namespace Corr
open Go Go.RowKit
section
variable {P:Program} {lr nn:Nat}
theorem oper_in {o:Oper} {a:Act} {w:World} {K:Act→World→Prop} {Q:Exit→Act→World→Prop}(hd: ∀c,o.op≠ .defer c)(h:o.wp P a w K Q):o.wpIn (Fence.wide.inRound lr) nn P a w K Q:=by
 unfold Oper.wpIn
 refine⟨fun f _=>trivial,?_⟩
 rw [Oper.semAt_plain _ _ _ hd]
 unfold Oper.wp at h
 generalize (execOp a.eval o).run P w=r at*
 cases r with
 | ok x w'=>
  cases x
  case value u=>exact h
  case skip=>exact h
  case defer d=>exact h
  case enter f args=>
   exact⟨fun e=>(by cases e),callsIn_wide.2 h⟩
  case row row args=>
   refine⟨fun e=>(by cases e),fun c cs _=> ?_⟩
   obtain⟨v,w',r,s⟩:=h c cs
   exact⟨v,w',r,stepsIn_wide.2 s⟩
  all_goals exact h.elim
 | halt x w'=>cases x <;> first | exact h | exact h.elim
def kept (Q:Exit→Act→World→Prop)(e:Exit)(a:Act)(w:World):Prop:=e≠ .outgrown∧Q e a w
theorem ζ3f {Q:Exit→Act→World→Prop} {a:Act} {w:World}(h:Q .normal a w):calm (kept Q) .normal a w:=ζ2 ⟨(fun h=>by cases h),h⟩
theorem kept_out {Q:Exit→Act→World→Prop} : ¬LetsOut (calm (kept Q)):=fun⟨_,_,_,h,_⟩=>h rfl
theorem op_in {ops:Array Oper} {Q:Exit→Act→World→Prop}(hq: ¬LetsOut Q)(hd: ∀(i:Nat) (o:Oper),ops[i]? =some o→∀c,o.op≠ .defer c) {i:Nat} {K:Act→World→Prop} {a:Act} {w:World}(h:wpOp P ops Q i K a w):wpOpIn (Fence.wide.inRound lr) nn P ops Q i K a w:=by
 unfold wpOpIn
 unfold wpOp at h
 split
 ·rename_i e;rw [e]at h;exact h
 ·rename_i o e
  rw [e]at h
  dsimp only at h
  split
  ·rename_i hw;rw [if_pos hw]at h;exact oper_in (hd i o e) (h.resolve_right fun h=>hq h.2)
  ·rename_i hw;rw [if_neg hw]at h;exact⟨fun _ _=>trivial,h⟩
theorem any_in {ops:Array Oper} {md:Region.Mode} {Q:Exit→Act→World→Prop}(hq: ¬LetsOut Q)(hd: ∀(i:Nat) (o:Oper),ops[i]? =some o→∀c,o.op≠ .defer c): ∀(fuel:Nat) (listed:Array Bool) (a:Act) (w:World),wpAny P md ops Q fuel listed a w→wpAnyIn (Fence.wide.inRound lr) nn P md ops Q fuel listed a w
 | 0,_,_,_,h=>h
 | fuel+1,listed,a,w,h=>⟨h.1,fun i hi=>wpOpIn_mono (fun a' w' h'=>any_in hq hd fuel _ a' w' h') (op_in hq hd (h.2 i hi))⟩
def noDefer (l:List Oper):Bool:=l.all fun o=>match o.op with | .defer _=>false | _=>true
theorem noDefer_spec {l:List Oper}(h:noDefer l=true): ∀(i:Nat) (o:Oper),l.toArray[i]? =some o→∀c,o.op≠ .defer c:=by
 intro i o ho c e
 have:=List.all_eq_true.1 h o (List.mem_of_getElem? (show l[i]? =some o by simpa using ho))
 rw [e]at this
 cases this
end
section
variable {P:Program} {l:List Oper} {n:Nat} {C:(Nat→Bool)→(Nat→Value)→World→Prop} {eg:List Nat} {a0:Act} {lr nn:Nat}
theorem ζ1g {id:Nat} {Q:Exit→Act→World→Prop} {w:World}(n:Nat)(C:(Nat→Bool)→(Nat→Value)→World→Prop)(eg:List Nat)(hm:P.follows .mixedOrders=true)(hnd:noDefer l=true)
  (hB:relB l n [] eg a0.tmps.size=true) (hC:C (fun _=>false) (fun _=>undef) w.drew)
  (hs:stepsV P l n C eg a0 (l.take n) 0)
  (hf: ∀(S:Nat→Bool) (val:Nat→Value) (w':World),(∀i,i<n→S i=true)→C S val w'→finR (fun i v _=>v=val i) [] w' (fun a'=>wpList P l.toArray (calm (kept Q)) (l.drop n) a' w') (l.take n) 0 a0 []):(Code.region id l.toArray true).wpIn (Fence.wide.inRound lr) nn P Q a0 w:=by
 have F:=form_of hB
 refine wpIn_mono (Q:=calm (kept Q)) ?_ (fun _ _ _ h=>h.2.2)
 refine wpIn_region_any hm (any_in kept_out (noDefer_spec hnd) _ _ _ _ ?_)
 have inv0:HeadInv .any l.toArray n (Array.replicate l.toArray.size false):=
  ⟨by simp,fun j oj _ hl=>(by rw [getD_replicate_false]at hl;cases hl),fun t _ ht=>getD_in (by simpa using ht) (getD_replicate_false _ _)⟩
 have none0: ∀j,(Array.replicate l.toArray.size false).getD j false=true→False:=fun j h=>by rw [getD_replicate_false]at h;cases h
 have I0:WInv l n (fun _=>undef) a0 (Array.replicate l.toArray.size false) a0 w.drew:=
  ⟨trivial,rfl,rfl,fun _ _=>rfl,fun j _ h=>(none0 j h).elim,fun j _ _ h=>(none0 j h).elim,fun i _ _ _ _ _ _ h _=>(none0 i h).elim,inv0⟩
 have hC0:C (behind (Array.replicate l.toArray.size false)) (fun _=>undef) w.drew:=by
  have e:behind (Array.replicate l.toArray.size false)=fun _=>false:=by funext j;unfold behind;exact getD_replicate_false _ _
  rw [e];exact hC
 have hfin:=val_any (P:=P) (Q:=calm (kept Q)) (g:=l.length-n) F (fun c _ _ h=>h.1 c rfl) (stepsV_get hs)
  (fun listed a' w' val I hCl hall=>by
   have hQ:=fin_get F I hall (hf (behind listed) val w' hall hCl)
   have hl:listed=(List.replicate n true++List.replicate (l.length-n) false).toArray:=by
    have hsz2:listed.size=l.length:=by simpa using I.inv.size
    have hle:=F.le
    apply Array.ext
    ·simp [hsz2];omega
    ·intro i h1 h2
     by_cases hi:i<n
     ·have:=hall i hi
      simp [h1]at this
      rw [this]
      simp only [List.getElem_toArray]
      rw [List.getElem_append_left (by simpa using hi)]
      simp
     ·have:=I.inv.tail i (by omega) (by simpa [hsz2]using h1)
      simp [h1]at this
      rw [this]
      simp only [List.getElem_toArray]
      rw [List.getElem_append_right (by simp;omega)]
      simp
   have:=wpAny_of_seq (P:=P) (md:= .any) (ops:=l.toArray) (Q':=calm (kept Q)) (l.drop n) n listed a' w' (fun j=>by simp [List.getElem?_drop]) (by rw [hl];simpa using F.seq) hQ
   simpa using this)
  n (Array.replicate l.toArray.size false) a0 w.drew (fun _=>undef) (by
   have:=List.countP_le_length (p:=fun i=> !(Array.replicate l.toArray.size false).getD i false) (l:=List.range n)
   simpa using this) I0 hC0
 have hle:=F.le
 rw [show n+(l.length-n)=l.toArray.size by simp;omega]at hfin
 exact hfin
end
theorem ζ1y {B:Nat} {w w':World}(h:Below B w w')(hB:B≤w.heap.size):Off (fun k=>B≤k) w w':=⟨h.os,h.tape,h.output,h.size,fun k _ hn=>h.block k (by omega)⟩
theorem row_ne {W:World} {B sz n c k g:Nat} {T U:TypeId} {A:Option Addr} {xs:List Value} {vs:Array Value}(h:W.ownsRow B T sz (.slice A n c) n xs)(hU:U≠T)(hg:W.heap[g]? =some (.cells vs U (0,0)))(hk:rowK A n c k):k≠g:=by
 intro e
 subst e
 have hk:(Value.slice A n c).ownBlock=some k:=hk
 obtain⟨_,h' | ⟨g',cap,cur,hv,_,hh,_⟩⟩:=h
 ·rw [h'.1]at hk;cases hk
 ·rw [hv]at hk
  have:g'=k:=by simpa [rowK,Value.ownBlock]using hk
  subst this
  rw [hg]at hh
  injection hh with hh
  injection hh with _ hh _
  exact hU hh
theorem ζ1w {W:World} {B sz n c k:Nat} {T:TypeId} {A:Option Addr} {xs:List Value} {o:Obj}(h:W.ownsRow B T sz (.slice A n c) n xs)(hk:rowK A n c k)(ho:W.heap[k]? =some o):o.isCells=true:=by
 have hk:(Value.slice A n c).ownBlock=some k:=hk
 obtain⟨_,h' | ⟨g',cap,cur,hv,_,hh,_⟩⟩:=h
 ·rw [h'.1]at hk;cases hk
 ·rw [hv]at hk
  have:g'=k:=by simpa [rowK,Value.ownBlock]using hk
  subst this
  rw [ho]at hh
  injection hh with hh
  subst hh;rfl
theorem ζ3d {W:World} {B sz n c:Nat} {T:TypeId} {A:Option Addr} {xs:List Value}(h:W.ownsRow 0 T sz (.slice A n c) n xs)(hB: ∀k,rowK A n c k→B≤k):W.ownsRow B T sz (.slice A n c) n xs:=by
 obtain⟨h1,h' | ⟨g',cap,cur,hv,_,hh,hr⟩⟩:=h
 ·exact⟨h1,.inl h'⟩
 ·exact⟨h1,.inr ⟨g',cap,cur,hv,hB g' (by show (Value.slice A n c).ownBlock=some g';rw [hv];simp [Value.ownBlock]),hh,hr⟩⟩
theorem blk_cells {W:World} {k:Nat} {vs:Array Value} {o:Obj}(h:Blk W k vs)(ho:W.heap[k]? =some o):o.isCells=true:=by
 obtain⟨T,h⟩:=h.blk
 rw [ho]at h
 injection h with h
 subst h;rfl
theorem keeps_off {B:Nat} {P:Nat→Prop} {W W':World}(h:Off P W W')(hP: ∀k o,P k→W.heap[k]? =some o→o.isCells=true):KeepsFrom B W W':=
 ⟨h.size,fun k o _ hk ho=>(h.block k (Array.getElem?_eq_some_iff.1 hk).1 fun e=>by rw [hP k o e hk]at ho;cases ho).trans hk⟩
def PcI (T:TypeId)(gl:Nat)(Z:Nat→Prop)(w6:World)(G:Nat→Prop)(xs:List Value)(W:World):Prop:=∃A n c,Blk W gl #[.slice A n c]∧W.ownsRow 0 T 3 (.slice A n c) n xs∧(∀k,rowK A n c k→k≠gl∧¬G k∧Z k)∧Off Z w6 W∧∀k,G k→w6.heap.size≤k∧k<W.heap.size
section
variable {T:TypeId} {gl:Nat} {Z G:Nat→Prop} {w6 W W':World} {xs:List Value}
theorem PcI.grow (h:PcI T gl Z w6 G xs W)(hgl:gl<w6.heap.size)(hZ: ∀k,w6.heap.size≤k→Z k)(ho:Off G W W'):PcI T gl Z w6 (madeG G W W') xs W':=by
 obtain⟨A,n,c,h1,h2,h3,h4,h5⟩:=h
 refine⟨A,n,c,ho.blk h1 fun e=>by have:=(h5 _ e).1;omega,ho.own h2 fun k hk=>(h3 k hk).2.1,fun k hk=>⟨(h3 k hk).1,fun e=> ?_,(h3 k hk).2.2⟩,h4.trans (ho.mono fun k _ hk=>hZ k (h5 k hk).1),fun k hk=> ?_⟩
 ·rcases e with e | e
  ·exact(h3 k hk).2.1 e
  ·have:=ζk h2 hk;omega
 ·rcases hk with hk | hk
  ·exact⟨(h5 k hk).1,Nat.lt_of_lt_of_le (h5 k hk).2 ho.size⟩
  ·have:=h4.size;exact⟨by omega,hk.2⟩
theorem PcI.obj (h:PcI T gl Z w6 G xs W)(hgl:gl<w6.heap.size)(hZ: ∀k,w6.heap.size≤k→Z k) {l:Nat} {o o':Obj}(hl:w6.heap.size≤l)(hk:W.heap[l]? =some o)(hc:o.isCells=false):PcI T gl Z w6 G xs (W.putObj l o'):=by
 obtain⟨A,n,c,h1,h2,h3,h4,h5⟩:=h
 have ho:Off (· =l) W (W.putObj l o'):=ζl o' rfl hk
 refine⟨A,n,c,ho.blk h1 (by omega),ho.own h2 fun k hk' e=> ?_,h3,h4.trans (ho.mono fun k _ e=>hZ k (by omega)),fun k hk=>by rw [World.putObj_size];exact h5 k hk⟩
 subst e
 rw [ζ1w h2 hk' hk]at hc;cases hc
theorem PcI.keep (h:PcI T gl Z w6 G xs W)(hb:Below W.heap.size W W'):PcI T gl Z w6 G xs W':=by
 obtain⟨A,n,c,h1,h2,h3,h4,h5⟩:=h
 exact⟨A,n,c,h1.keep hb,ζg h2 hb,h3,h4.later hb,fun k hk=>⟨(h5 k hk).1,Nat.lt_of_lt_of_le (h5 k hk).2 hb.size⟩⟩
theorem PcI.free (h:PcI T gl Z w6 G xs W):PcI T gl Z w6 (fun _=>False) xs W:=by
 obtain⟨A,n,c,h1,h2,h3,h4,h5⟩:=h
 exact⟨A,n,c,h1,h2,fun k hk=>⟨(h3 k hk).1,fun e=>e,(h3 k hk).2.2⟩,h4,fun _ e=>e.elim⟩
theorem PcI.app {A A':Option Addr} {n c c':Nat} {ys:List Value} {vB:Value} {bB:Bool} {wz:World}(hgl:gl<w6.heap.size)(hZl:Z gl)(hZ: ∀k,w6.heap.size≤k→Z k)(h1:Blk W gl #[.slice A n c])(h2:W.ownsRow 0 T 3 (.slice A n c) n xs)(h3: ∀k,rowK A n c k→k≠gl∧¬G k∧Z k)(h4:Off Z w6 W)(h5: ∀k,G k→w6.heap.size≤k∧k<W.heap.size)
  (hD:AppD T A n c 0 xs ys 3 W bB true vB (.slice A' (n+1) c') wz):PcI T gl Z w6 G (xs++ys) (wz.setCell ⟨gl,0,none⟩ (.slice A' (n+1) c'))∧KeepsFrom w6.heap.size W (wz.setCell ⟨gl,0,none⟩ (.slice A' (n+1) c'))∧KpOff Z G W (wz.setCell ⟨gl,0,none⟩ (.slice A' (n+1) c')):=by
 obtain⟨ho,g2,g3⟩:=hD.done
 have hs:=h4.size
 have hgz:gl<W.heap.size:=h1.sz
 have hoff:Off (· =gl) wz (wz.setCell ⟨gl,0,none⟩ (.slice A' (n+1) c')):=Off.set (F:=(· =gl)) (a:=⟨gl,0,none⟩) rfl _
 have n3: ∀k,rowK A' (n+1) c' k→k≠gl∧¬G k∧Z k:=fun k hk=>by
  rcases g3 k hk with h | h
  ·exact h3 k h
  ·exact⟨by omega,fun e=>by have:=(h5 k e).2;omega,hZ k (by omega)⟩
 have hall:Off (fun k=>k=gl∨rowK A n c k) W (wz.setCell ⟨gl,0,none⟩ (.slice A' (n+1) c')):=(ho.mono fun k _ hk=> .inr hk).trans (hoff.mono fun k _ hk=> .inl hk)
 have hZa:Off Z W (wz.setCell ⟨gl,0,none⟩ (.slice A' (n+1) c')):=hall.mono fun k _ hk=>by
  rcases hk with rfl | hk
  ·exact hZl
  ·exact(h3 k hk).2.2
 refine⟨⟨A',n+1,c',?_,hoff.own g2 fun k hk e=>(n3 k hk).1 e,n3,h4.trans hZa,fun k hk=>⟨(h5 k hk).1,Nat.lt_of_lt_of_le (h5 k hk).2 hall.size⟩⟩,keeps_off hall fun k o hk hk'=> ?_,hZa,fun k hk=>hall.block k (h5 k hk).2 fun e=> ?_⟩
 ·have:=(ho.blk h1 fun e=>(h3 _ e).1 rfl).set 0 (.slice A' (n+1) c')
  simpa using this
 ·rcases hk with rfl | hk
  ·exact blk_cells h1 hk'
  ·exact ζ1w h2 hk hk'
 ·rcases e with rfl | e
  ·have:=(h5 _ hk).1;omega
  ·exact(h3 k e).2.1 hk
end
theorem ζ1b {P:Program} {fn:Func} {tmps:Array Value} {R:Ending→World→Prop} {B:Nat} {w0:World} {Z:Nat→Prop}(hbase: ∀W,Off Z w0 W→LeavesIn Fence.wide 9 P fn tmps R [] .returning W):
  ∀(Ds:List Nat) (W:World),Marks B Ds W→(∀D∈Ds,Z D)→Off Z w0 W→LeavesInM Fence.wide 9 P fn tmps R (Ds.map markD) .returning W
 | [],W,_,_,hb=>hbase W hb
 | D :: Ds,W,h,hz,hb=>by
  obtain⟨hB,hD⟩:=h.at_ D List.mem_cons_self
  obtain⟨hn,hnd⟩:=List.nodup_cons.1 h.nd
  refine⟨by simp,.inl ⟨D,_,rfl,run_takeDeferred hD,?_⟩⟩
  refine ζ1b hbase Ds _ ⟨fun E hE=>⟨(h.at_ E (List.mem_cons_of_mem _ hE)).1,?_⟩,hnd⟩ (fun E hE=>hz E (List.mem_cons_of_mem _ hE)) (hb.trans (ζl _ (hz D List.mem_cons_self) hD))
  refine(World.putObj_heap_other (fun e=>hn ?_)).trans ?_
  ·first | exact e▸hE | (rw [e];exact hE) | (rw [←e];exact hE)
  ·exact(h.at_ E (List.mem_cons_of_mem _ hE)).2
theorem exit_both2 {id jd:Nat} {K:Act→World→Prop} {X:Exit→Act→World→Prop} {e:Exit} {a:Act} {w:World}(he:e= .normal∨e= .exit id)(h:K a w):Exit.inBlock id (Exit.inBlock jd (Exit.then K X)) e a w:=by
 rcases he with rfl | rfl
 ·exact h
 ·simpa [Exit.inBlock,Exit.then]using h
theorem ζ3o {P:Program} {c:Code} {a:Act} {w:World} {id jd:Nat} {K:Act→World→Prop} {X:Exit→Act→World→Prop}(M:Nat→World→Prop)
  (h1:c.wp P (fun e a' W=>(e= .normal∨e= .exit id)∧∃D,a'= { a with defers:=markD D :: a.defers }∧M D W) a w)
  (h2: ∀D W,M D W→K { a with defers:=markD D :: a.defers } W):c.wp P (Exit.inBlock id (Exit.inBlock jd (Exit.then K X))) a w:=
 wp_mono h1 fun e a' W ⟨he,D,ha,hm⟩=>exit_both2 he (by rw [ha];exact h2 D W hm)
theorem ζ4f {W:World} {B sz n c k D:Nat} {T:TypeId} {A:Option Addr} {xs:List Value} {o:Option (List Deferred)}(h:W.ownsRow B T sz (.slice A n c) n xs)(hD:W.heap[D]? =some (.deferred o))(hk:rowK A n c k):k≠D:=by
 intro e
 subst e
 have:=ζ1w h hk hD
 cases this
end Corr
namespace Go.Proofs.YthagdonmijhpdaaGreat
open Go.RowKit Corr
theorem idx4 (q:Nat→Value)(w:World): ∀ {i:Nat},i<4→(Instr.index 118 (.agg #[q 0,q 1,q 2,q 3]) (.int .i64 (i:Int))).run Tryz.prog w= .ok (q i) w
 | 0,_=>by kernel_rfl
 | 1,_=>by kernel_rfl
 | 2,_=>by kernel_rfl
 | 3,_=>by kernel_rfl
end Go.Proofs.YthagdonmijhpdaaGreat
namespace Corr
open Go Go.RowKit
def PsI (T:TypeId)(gl:Nat)(wq:World)(xs:List Value)(Ds:List Nat)(wr:World):Prop:=∃A n c,Blk wr gl #[.slice A n c]∧wr.ownsRow 0 T 3 (.slice A n c) n xs∧(∀k,rowK A n c k→gl<k)∧Below gl wq wr∧Marks (gl+1) Ds wr
end Corr
namespace Go.Proofs.YthagdonmijhpdaaGreat
open Go.RowKit Corr
attribute [local go_sem] Oper.semAt_some
set_option maxRecDepth 100000 in
theorem tppieces_any {Rep:RepT}(K:TrK Rep)(gT gM:Nat)(q:Nat→Value)(Fs:Nat→Nat→Prop)(l:Nat→ItL)(m:Int→Option Int)(a b:Int)(w:World)(H:Tp Rep w gT gM q Fs l m)(hl: ∀i,i<4→(l i).length≤1000)(ho: ∀i,i<4→∀y∈l i,-9223372036854775808≤y.1∧y.1<y.2.1):
  Calls Tryz.prog 46 #[.pointer (some ⟨gT,0,none⟩),.agg #[.int .i64 a,.int .i64 b]] w (RetItems 89 w (pcsK m a b l 4)):=by
 have HK:=hid K
 have HLE:=hid hl
 have HOK:=hid ho
 obtain⟨wq,hwq⟩: ∃wq,((w.alloc (.cells #[.pointer (some ⟨gT,0,none⟩)] 44)).alloc (.cells #[.int .i64 a,.int .i64 b] 24)).alloc (.cells #[.slice none 0 0] 38)=wq:=⟨_,rfl⟩
 have h0:=((Blk.new w #[.pointer (some ⟨gT,0,none⟩)] 44).alloc (.cells #[.int .i64 a,.int .i64 b] 24)).alloc (.cells #[.slice none 0 0] 38)
 have h1:=(Blk.new (w.alloc (.cells #[.pointer (some ⟨gT,0,none⟩)] 44)) #[.int .i64 a,.int .i64 b] 24).alloc (.cells #[.slice none 0 0] 38)
 have h2:=Blk.new ((w.alloc (.cells #[.pointer (some ⟨gT,0,none⟩)] 44)).alloc (.cells #[.int .i64 a,.int .i64 b] 24)) #[.slice none 0 0] 38
 have h3:=Joins.below_alloc3 w (.cells #[.pointer (some ⟨gT,0,none⟩)] 44) (.cells #[.int .i64 a,.int .i64 b] 24) (.cells #[.slice none 0 0] 38)
 simp only [ζd]at h1 h2
 rw [hwq]at h0 h1 h2 h3
 have hgs:wq.heap.size=w.heap.size+1+1+1:=by rw [←hwq];simp
 have hlt:=H.lt K.toRepOk
 have hTq:=H.keep K.toRepOk h3
 have HSZ:=hid hgs
 have HT:=hid hTq
 have HLT:=hid hlt
 have HX0:=hid h0
 have HX1:=hid h1
 have HX2:=hid h2
 have HB:=hid h3
 have c0:=h0.get 0 rfl
 have c1:=h1.get 0 rfl
 have c2:=h1.get 1 rfl
 have t0:wq.cell? ⟨gT,0,none⟩=some (q 0):=hTq.b.get 0 rfl
 have t1:wq.cell? ⟨gT,1,none⟩=some (q 1):=hTq.b.get 1 rfl
 have t2:wq.cell? ⟨gT,2,none⟩=some (q 2):=hTq.b.get 2 rfl
 have t3:wq.cell? ⟨gT,3,none⟩=some (q 3):=hTq.b.get 3 rfl
 clear K H hl ho h0 h1 h2 h3 hTq hlt hgs
 refine ζr Tryz.func46 rfl ?_
 simp only [Tryz.ntmps46,List.size_toArray,List.length_cons,List.length_nil,Nat.reduceAdd,Nat.reduceSub,Array.replicate_succ,Array.replicate_zero,List.push_toArray,List.append_toArray,List.nil_append,List.cons_append]
 go_wp2_with fail
 clear hwq
 obtain⟨gt,hgt⟩: ∃k,w.heap.size=k:=⟨_,rfl⟩
 rw [hgt]
 obtain⟨gs,hgs⟩: ∃k,gt+1=k:=⟨_,rfl⟩
 rw [hgs]
 obtain⟨gl,hgl⟩: ∃k,gs+1=k:=⟨_,rfl⟩
 rw [hgl]
 have HN:=hid (show gt=w.heap.size∧gs=w.heap.size+1∧gl=w.heap.size+2∧wq.heap.size=gl+1 from⟨hgt.symm,by omega,by omega,by have:=HSZ.out;omega⟩)
 have HX0:=hid (show Blk wq gt _ from hgt▸HX0.out)
 have HX1:=hid (show Blk wq gs #[.int .i64 a,.int .i64 b] by rw [←hgs,←hgt];exact HX1.out)
 have HX2:=hid (show Blk wq gl #[.slice none 0 0] by rw [←hgl,←hgs,←hgt];exact HX2.out)
 clear hgt hgs hgl c0 c1 c2 t0 t1 t2 t3
 obtain⟨R,hR⟩: ∃R:Act→World→Prop,R=(fun ac wr=>∃(i:Nat) (Ds:List Nat) (v7 v14 v15 v16 v17 v18 v36:Value),ac= { tmps:=(.pointer (some ⟨gT,0,none⟩) :: .agg #[.int .i64 a,.int .i64 b] :: .pointer (some ⟨gt,0,none⟩) :: .pointer (some ⟨gs,0,none⟩) :: .slice none 0 0 :: .pointer (some ⟨gl,0,none⟩) :: undef :: v7 :: undef :: .pointer (some ⟨gT,0,none⟩) :: .pointer (some ⟨gT,0,none⟩) :: .pointer (some ⟨gT,0,none⟩) :: .agg #[q 0,q 1,q 2,q 3] :: .int .i64 (i:Int) :: v14 :: v15 :: v16 :: v17 :: v18 :: undef :: undef :: undef :: undef :: undef :: undef :: undef :: undef :: undef :: undef :: undef :: undef :: undef :: undef :: undef :: undef :: undef :: v36 :: undef :: []).toArray,defers:=Ds.map markD }∧i≤4∧PsI 89 gl wq (ζ5 (pcsK m a b l i)) Ds wr):=⟨_,rfl⟩
 have HR:=hid hR
 clear hR
 refine wp_loop R (fun ac _=>(4-intOf (ac.tmps.getD 13 undef)).toNat) ?start ?round
 case start=>
  rw [HR.out]
  refine⟨0,[],_,_,_,_,_,_,_,rfl,by omega,none,0,0,HX2.out,World.ownsRow_nil _ _ _ _,fun k hk=>(by cases hk),Below.refl _ _,Marks.nil _ _⟩
 case round=>
  intro ac wr hrel
  rw [HR.out]at hrel
  obtain⟨i,Ds,v7,v14,v15,v16,v17,v18,v36,rfl,hi,A,n,c,p1,p2,p3,p4,p5⟩:=hrel
  have HP1:=hid p1
  have HP2:=hid p2
  have HP3:=hid p3
  have HP4:=hid p4
  have HP5:=hid p5
  have HT2:=hid (HT.out.off HK.out.toRepOk (ζ1y p4 (by have:=HN.out;omega)) fun k hk=>by have h1:=HLT.out k hk;have h2:=HN.out;omega)
  have hs4:=p4.size
  clear p1 p2 p3 p5
  rcases Nat.lt_or_ge i 4 with h4 | h4
  ·have hix:=fun w=>idx4 q w h4
   have d0:decide ((i:Int)<4)=true:=decide_eq_true (by omega)
   have HOW:=hid (ζ1y HP4.out (by have:=HN.out;omega))
   have s0:=(HOW.out.blk HX1.out (by have:=HN.out;omega)).get 0 rfl
   have s1:=(HOW.out.blk HX1.out (by have:=HN.out;omega)).get 1 rfl
   have HALL:=hid (HK.out.all wr (q i) (Fs i) 1000000 (l i) a b (HT2.out.tr i h4) (HLE.out i h4) (HOK.out i h4))
   have H4:=hid h4
   clear p4
   go_wp2_with fail
   refine HALL.out.mono ?_
   rintro e w6 ⟨gf,lb,rfl,b6,enters,hall⟩
   obtain⟨Z,hZ⟩: ∃Z:Nat→Prop,Z=fun k=>k=gl∨rowK A n c k∨w6.heap.size≤k:=⟨_,rfl⟩
   have hsw:=HP1.out.sz
   have hs6:=b6.size
   have HZ1:=hid (show Z gl by rw [hZ];exact .inl rfl)
   have HZ2:=hid (show ∀k,w6.heap.size≤k→Z k by rw [hZ];exact fun k hk=> .inr (.inr hk))
   have HZ3:=hid (show ∀k,rowK A n c k→Z k by rw [hZ];exact fun k hk=> .inr (.inl hk))
   have HZ4:=hid (show ∀k,Z k→gl≤k by
    rw [hZ]
    rintro k (h | h | h)
    ·omega
    ·have:=HP3.out k h;omega
    ·omega)
   have HZ5:=hid (show ∀k,wr.heap.size≤k→k<w6.heap.size→¬Z k by
    rw [hZ]
    rintro k h1 h2 (h | h | h)
    ·omega
    ·have:=ζk HP2.out h;omega
    ·omega)
   have HZ6:=hid (show ∀k,Z k→k=gl∨rowK A n c k∨w6.heap.size≤k by rw [hZ];exact fun k hk=>hk)
   clear hZ
   have HSQ:=hid (hall Z HZ2.out (fun k hk e=>by have h1:=HLT.out k (TpF.sub H4.out hk);have h2:=HZ4.out k e;have h3:=HN.out;omega) HZ5.out)
   have HG6:=hid (show gl<w6.heap.size by omega)
   have HB6:=hid b6
   have HP0:=hid (show PcI 89 gl Z w6 (fun _=>False) (ζ5 (pcsK m a b l i)) w6 from⟨A,n,c,HP1.out.keep b6,ζg HP2.out b6,fun k hk=>⟨by have:=HP3.out k hk;omega,fun e=>e,HZ3.out k hk⟩,Off.refl _ _,fun _ e=>e.elim⟩)
   have HTA:=hid (show (∀k,TpF gT gM Fs k→¬Z k)∧¬Z gt from⟨fun k hk e=>by have h1:=HLT.out k hk;have h2:=HZ4.out k e;have h3:=HN.out;omega,fun e=>by have h2:=HZ4.out _ e;have h3:=HN.out;omega⟩)
   have HT6:=hid (HT2.out.keep HK.out.toRepOk b6)
   have HX6:=hid ((HOW.out.blk HX0.out (by have:=HN.out;omega)).keep b6)
   clear hall hsw hs6 s0 s1 b6 hs4
   go_wp2_with fail
   refine ζ3o (fun D W=>w6.heap.size≤D∧W.heap[D]? =some (.deferred (some []))∧PcI 89 gl Z w6 (fun _=>False) (ζ5 (pcsK m a b l (i+1))) W) ?loop ?rest
   case loop=>
    refine ζ25 (gf:=gf) (lb:=lb) rfl enters HZ2.out HSQ.out (fun _=>rfl)
     (fun G (pre:ItL) W=>PcI 89 gl Z w6 G (ζ5 (pcsK m a b l i++pre.map fun y=>(y.1,y.2.1,valM m y.1))) W) (fun _ _ _=>False)
     (fun G pre W W' h ho=>h.grow HG6.out HZ2.out ho)
     (fun G s W l o o' h h1 h2 h3 h4=>h.obj HG6.out HZ2.out h1 h3 h4)
     (fun _ _ _ _ _ _ h _ _ _ _=>h)
     ?start (fun x a' W=>∃Bx:Nat,W.heap[Bx]? =some (.cells #[.int .i64 x.1,.int .i64 x.2.1,.int .i64 x.2.2] 141 (0,0))∧a'= { tmps:=(.pointer (some ⟨gT,0,none⟩) :: .agg #[.int .i64 a,.int .i64 b] :: .pointer (some ⟨gt,0,none⟩) :: .pointer (some ⟨gs,0,none⟩) :: .slice none 0 0 :: .pointer (some ⟨gl,0,none⟩) :: undef :: q i :: .pointer (some ⟨Bx,0,none⟩) :: .pointer (some ⟨gT,0,none⟩) :: .pointer (some ⟨gT,0,none⟩) :: .pointer (some ⟨gT,0,none⟩) :: .agg #[q 0,q 1,q 2,q 3] :: .int .i64 (i:Int) :: .bool true :: q i :: q i :: .agg #[.int .i64 a,.int .i64 b] :: .func (.func gf) #[] lb :: itV x :: undef :: undef :: undef :: undef :: undef :: undef :: undef :: undef :: undef :: undef :: undef :: undef :: undef :: undef :: undef :: undef :: v36 :: undef :: []).toArray,defers:= [] }) ?ax ?assign ?body ?done ?stop
    case start=>
     intro W hb
     rw [List.map_nil,List.append_nil]
     exact HP0.out.keep hb
    case ax=>
     rintro x a' _ W l o o' ⟨Bx,h1,h2⟩ _ _ ho hc
     refine⟨Bx,(World.putObj_heap_other fun e=> ?_).trans h1,h2⟩
     subst e
     rw [h1]at ho;cases ho;cases hc
    case assign=>
     intro l' G pre y W K hsz hi hK
     obtain⟨y1,y2,y3⟩:=y
     gi_wp2
     have ha:Below W.heap.size W (W.alloc (.cells #[.int .i64 y1,.int .i64 y2,.int .i64 y3] 141)):=(Below.refl _ W).alloc (Nat.le_refl _) _
     refine hK _ _ ((KeepsOthers.alloc _ _).from _) ⟨Off.of ha,fun k hk=> ?_⟩ (hi.keep ha) ⟨W.heap.size,ζw W _,rfl⟩
     obtain⟨_,_,_,_,_,_,_,g5⟩:=hi
     exact ha.block k (g5 k hk).2
    case body=>
     rintro l' G pre ⟨y1,y2,y3⟩ a' W hl hsz ⟨A2,n2,c2,k1,k2,k3,k4,k5⟩ ⟨Bx,hBx,rfl⟩ hpn
     have HG:=hid k1
     have HO:=hid k2
     have H3:=hid k3
     have HF4:=hid k4
     have H5:=hid k5
     have HXB:=hid (show Blk W Bx #[.int .i64 y1,.int .i64 y2,.int .i64 y3]from⟨_,hBx⟩)
     have HTW:=hid (HT6.out.off HK.out.toRepOk k4 HTA.out.1)
     have HXW:=hid (k4.blk HX6.out HTA.out.2)
     have HRW:=hid (show ∀k,rowK A2 n2 c2 k→k≠gl∧k≠Bx∧k≠gt∧k≠gT∧k≠gM from fun k hk=>⟨(k3 k hk).1,row_ne k2 (by decide) hBx hk,fun e=>HTA.out.2 (e▸(k3 k hk).2.2),fun e=>HTA.out.1 gT (.inl rfl) (e▸(k3 k hk).2.2),fun e=>HTA.out.1 gM (.inr (.inl rfl)) (e▸(k3 k hk).2.2)⟩)
     have HLR:=hid (fun k (hk:rowK A2 n2 c2 k)=>ζk k2 hk)
     have hn2:n2≤100000:=by
      have h1:=k2.1
      rw [ζq,List.length_append,List.length_map]at h1
      have h2:=ζ4c m a b l 1000 HLE.out i (by omega)
      have h3:=List.length_filter_le (overB a b) (l i)
      have h5:=HLE.out i H4.out
      omega
     have HPN:=hid hpn
     clear k1 k2 k3 k4 k5 hBx hpn
     gi_wp2_with fail
     refine ζ1g 16 (fun S val wx=>VVs 16 [(· = .slice A2 n2 c2),(· = .pointer (some ⟨Bx,0,none⟩)),(· = .int .i64 y1),(· = .pointer (some ⟨Bx,1,none⟩)),(· = .int .i64 y2),(· = .pointer (some ⟨gT,0,none⟩)),(· = .pointer (some ⟨gT,0,none⟩)),(· = .pointer (some ⟨gT,4,none⟩)),(· = .map (some gM)),(· = .pointer (some ⟨Bx,0,none⟩)),(· = .int .i64 y1),(· = .agg #[.int .i64 (valM m y1)]),(· = .int .i64 (valM m y1)),(· = .agg #[.int .i64 y1,.int .i64 y2,.int .i64 (valM m y1)]),(fun vv=>∃kb,vv= .slice (some ⟨kb,0,none⟩) 1 1),(fun vv=>∃Av cv,vv= .slice Av (n2+1) cv)] S val∧Clo [[],[],[1],[],[3],[],[5],[6],[7],[],[9],[8,10],[11],[2,4,12],[13],[0,14]] S∧AppD 89 A2 n2 c2 0 (ζ5 (pcsK m a b l i++List.map (fun y=>(y.1,y.2.1,valM m y.1)) pre)) (ζ5 [(y1,y2,valM m y1)]) 3 W (S 14) (S 15) (val 14) (val 15) wx) [1,3,6,7,9,12,13] (by kernel_rfl) (by kernel_rfl) (by kernel_rfl) ⟨VVs.start,Clo.start,AppD.start HO.out⟩ ⟨?_,?_,?_,?_,?_,?_,?_,?_,?_,?_,?_,?_,?_,?_,?_,?_,trivial⟩ ?_
     ·exact qL [5] fun hw=>(hw.1.blk HG.out (fun e=>(HRW.out _ e).1 rfl)).get 0 rfl
     ·exact qU [8]
     ·exact qL [] fun hw=>(hw.1.blk HXB.out (fun e=>(HRW.out _ e).2.1 rfl)).get 0 rfl
     ·exact qU [8]
     ·exact qL [] fun hw=>(hw.1.blk HXB.out (fun e=>(HRW.out _ e).2.1 rfl)).get 1 rfl
     ·exact qL [2] fun hw=>(hw.1.blk HXW.out (fun e=>(HRW.out _ e).2.2.1 rfl)).get 0 rfl
     ·exact qU []
     ·exact qU []
     ·exact qL [] fun hw=>(hw.1.blk HTW.out.b (fun e=>(HRW.out _ e).2.2.2.1 rfl)).get 4 rfl
     ·exact qU [8]
     ·exact qL [] fun hw=>(hw.1.blk HXB.out (fun e=>(HRW.out _ e).2.1 rfl)).get 0 rfl
     ·exact qL [] fun hw=>look_int y1 (HTW.out.mp.off hw.1 (fun e=>(HRW.out _ e).2.2.2.2 rfl))
     ·rintro ev wv S val hE ⟨hV,hK,hw⟩ hS hd
      have v31:ev (.tmp 31)= .agg #[.int .i64 (valM m y1)]:=vd (hd 11 (by decide)) (hV 11 (by decide))
      refine ifw rfl (ifw rfl ⟨.int .i64 (valM m y1),fun w9=> ?_,VVs.add hV rfl,ζi hK rfl hd,hw⟩)
      obtain⟨e1,-,e2,-⟩:=hE;clear hd hw hS hV hK
      have hfl:(Instr.field 143 (.agg #[.int .i64 (valM m y1)]) 0).run Tryz.prog w9= .ok (.int .i64 (valM m y1)) w9:=by kernel_rfl
      show _=Result.ok (Next.value (.int .i64 (valM m y1))) w9
      go_simp
     ·exact qU []
     ·rintro ev wv S val hE ⟨hV,hK,hw⟩ hS hd
      have v33:ev (.tmp 33)= .agg #[.int .i64 y1,.int .i64 y2,.int .i64 (valM m y1)]:=vd (hd 13 (by decide)) (hV 13 (by decide))
      refine ifw rfl (ifn rfl ?_)
      refine ζn (u:= .slice (some ⟨wv.heap.size,0,none⟩) 1 1) (w':=wv.alloc (.cells (ζ5 [(y1,y2,valM m y1)]).toArray 89)) ?_ ⟨VVs.add hV ⟨_,rfl⟩,ζi hK rfl hd,(show AppD _ _ _ _ _ _ _ _ _ (addS S 14 14) (addS S 14 15) (addV val 14 _ 14) (addV val 14 _ 15) _ from by simpa [addS,addV]using hw.build 89)⟩
      have e1:=hE.const;clear hE hd hw hS hV hK
      go_simp;rfl
     ·rintro ev wv S val hE ⟨hV,hK,hw⟩ hS hd
      have v20:ev (.tmp 20)= .slice A2 n2 c2:=vd (hd 0 (by decide)) (hV 0 (by decide))
      obtain⟨kb14,g14⟩:=hV 14 (by decide) (hd 14 (by decide)).1
      have v34:ev (.tmp 34)= .slice (some ⟨kb14,0,none⟩) 1 1:=(hd 14 (by decide)).2.trans g14
      have hwA:=hw
      rw [(hd 14 (by decide)).1,hS,g14]at hwA
      obtain⟨A9,c9,w9,hr9,hD9⟩:=AppD.run (P:=Tryz.prog) (t:=38) (ty:=38) elem_sgi hwA HLR.out (by rfl) (ζo _) (by omega) (by unfold maxLen;omega) (Nat.zero_le _)
      refine ifw rfl (ifn rfl ?_)
      refine ζn (u:= .slice A9 (n2+1) c9) (w':=w9) ?_ ⟨VVs.add hV ⟨A9,c9,rfl⟩,ζi hK rfl hd,(by simpa [addS,addV,(hd 14 (by decide)).1,g14]using hD9)⟩
      have e1:=hE.const;clear hE hd hw hS hV hK
      unfold execOp
      simp only [resolve,invoke,builtin,Sem.run_bind,Sem.run_pure,Result.andThen_ok,List.map_toArray,List.map_cons,List.map_nil,v20,v34,hr9]
     ·rintro S val wz hS ⟨hV,hK,hw⟩
      obtain⟨kb14,e14⟩:=hV 14 (by decide) (hS 14 (by decide))
      obtain⟨Av15,cv15,e15⟩:=hV 15 (by decide) (hS 15 (by decide))
      refine finL hV hS ?_
      iterate 14 rintro _ ⟨-,rfl⟩-
      rintro v14 ⟨h14,-⟩-v15 ⟨h15,-⟩-
      simp only [zA]
      simp only [h14.trans e14,h15.trans e15]
      clear hV h14 v14 h15 v15
      change wpList Tryz.prog _ _ _ _ wz
      rw [hS 14 (by decide),hS 15 (by decide),e14,e15]at hw
      have HD:=hid hw
      have hxz:=hw.1.blk HG.out (fun e=>(HRW.out _ e).1 rfl)
      have y0:=hxz.get 0 rfl
      have z0:=hxz.f 0
      clear hw hxz hS hK e14 e15 val S
      go_wp2_with fail
      refine ζ3f ?_
      have hq:=PcI.app HG6.out HZ1.out HZ2.out HG.out HO.out H3.out HF4.out H5.out HD.out
      rw [←ζp,List.append_assoc]at hq
      refine⟨hq.2.1,hq.2.2,?_⟩
      show PcI _ _ _ _ _ (ζ5 (pcsK m a b l i++List.map _ (pre++ [(y1,y2,y3)]))) _
      rw [List.map_append]
      exact hq.1
    case done=>
     rintro D G xs W hD rfl hi hK
     exact⟨.inl rfl,D,rfl,hD,hK,hi.free⟩
    case stop=>exact fun _ _ _ _ _ _ h _=>h.elim
   case rest=>
    rintro D W ⟨hD,hK,A2,n2,c2,k1,k2,k3,k4,_⟩
    have HD:=hid hD
    have HKD:=hid hK
    have HQ1:=hid k1
    have HQ2:=hid k2
    have HQ3:=hid k3
    have HQ4:=hid k4
    clear hD hK k1 k2 k3 k4
    go_wp2_with fail
    have hs4:=HP4.out.size
    have hs6:=HB6.out.size
    have hn:=HN.out
    have h6:Below gl wq w6:=HP4.out.trans (HB6.out.mono (by omega))
    rw [HR.out]
    refine⟨⟨i+1,D :: Ds,_,_,_,_,_,_,_,rfl,by omega,A2,n2,c2,HQ1.out,HQ2.out,fun k hk=> ?_,h6.trans (HQ4.out.below (by have:=HG6.out;omega) HZ4.out),?_⟩,?_⟩
    ·have h1:=HZ4.out k (HQ3.out k hk).2.2
     have h2:=(HQ3.out k hk).1
     omega
    ·have hm6:Marks (gl+1) Ds w6:=HP5.out.later HB6.out
     refine Marks.cons (hm6.keep fun E hE=>HQ4.out.block E (hm6.lt hE) fun e=> ?_) (by have:=HG6.out;have:=HD.out;omega) HKD.out fun hE=>by have:=hm6.lt hE;have:=HD.out;omega
     rcases HZ6.out E e with h | h | h
     ·have:=(hm6.at_ E hE).1;omega
     ·exact ζ4f (ζg HP2.out HB6.out) (hm6.at_ E hE).2 h rfl
     ·have:=hm6.lt hE;omega
    ·simp [intOf];omega
  ·obtain rfl:i=4:=by omega
   have d0:decide (((4:Nat):Int)<4)=false:=decide_eq_false (by omega)
   have x0:=HP1.out.get 0 rfl
   clear p4
   go_wp2_with fail
   refine ζ1b (Z:=fun k=>k∈Ds) (fun W hb=>⟨_,results_tmp rfl _ _ _,A,n,c,rfl,?_,?_⟩) Ds wr HP5.out (fun D hD=>hD) (Off.refl _ _)
   ·have ho:=hb.own HP2.out fun k hk e=>ζ4f HP2.out (HP5.out.at_ k e).2 hk rfl
    have hn:=HN.out
    exact ζ3d ho fun k hk=>by have:=HP3.out k hk;omega
   ·have hn:=HN.out
    exact((HB.out.trans (HP4.out.mono (by omega))).trans (hb.below (by have:=HP4.out.size;omega) fun k hk=>by have:=(HP5.out.at_ k hk).1;omega))
end Go.Proofs.YthagdonmijhpdaaGreat
namespace Corr
open Go Go.RowKit
theorem run_max2 {P:Program}(t:Array TypeId)(ty:TypeId)(x y:Int)(w:World):(Builtin.max_ t ty #[.int .i64 x,.int .i64 y]).run P w= .ok (.int .i64 (max x y)) w:=by
 have e:(if y > x then y else x)=max x y:=by split <;> omega
 simp [Builtin.max_,Builtin.max2,e]
theorem run_min2 {P:Program}(t:Array TypeId)(ty:TypeId)(x y:Int)(w:World):(Builtin.min_ t ty #[.int .i64 x,.int .i64 y]).run P w= .ok (.int .i64 (min x y)) w:=by
 have e:(if y<x then y else x)=min x y:=by split <;> omega
 simp [Builtin.min_,Builtin.min2,e]
theorem own_get {W:World} {B n c k:Nat} {T:TypeId} {A:Option Addr} {L:ItL}(h:W.ownsRow B T 3 (.slice A n c) n (ζ5 L))(hk:k<n): ∃g x,A=some ⟨g,0,none⟩∧L[k]? =some x∧W.cell? ⟨g,k*3,none⟩=some (.int .i64 x.1)∧W.cell? ⟨g,k*3+1,none⟩=some (.int .i64 x.2.1)∧W.cell? ⟨g,k*3+2,none⟩=some (.int .i64 x.2.2):=by
 have hl:L.length=n:=by have:=h.1;rw [ζq]at this;omega
 rcases Joins.ownsRow_forms h with⟨_,h0⟩ | ⟨g,d,hv⟩
 ·omega
 ·injection hv with e1 _ e3
  subst e1 e3
  have hx:L[k]? =some (L[k]'(by omega)):=List.getElem?_eq_getElem (by omega)
  have h3:=ζ22 hx
  exact⟨g,_,rfl,hx,by rw [h.cellAt _ (by omega)];exact h3.1,by rw [h.cellAt _ (by omega)];exact h3.2.1,by rw [h.cellAt _ (by omega)];exact h3.2.2⟩
theorem ζ3p {W:World} {B n c:Nat} {T:TypeId} {A:Option Addr} {L:ItL}(h:W.ownsRow B T 3 (.slice A n c) n (ζ5 L)):L.length=n:=by have:=h.1;rw [ζq]at this;omega
theorem lay_new (T U V:TypeId)(w:World):(layT T (w.heap.size+1) w.heap.size []).P ((w.alloc (.cells #[.slice none 0 0] U)).alloc (.cells #[.pointer (some ⟨w.heap.size,0,none⟩)] V)) (fun k=>k=w.heap.size+1∨k=w.heap.size∨rowK none 0 0 k):=by
 refine⟨?_,by omega,none,0,0,(Blk.new w #[.slice none 0 0] U).alloc _,World.ownsRow_nil _ _ _ _,fun h=>(by cases h),fun h=>(by cases h),fun _=>Iff.rfl⟩
 have:=Blk.new (w.alloc (.cells #[.slice none 0 0] U)) #[.pointer (some ⟨w.heap.size,0,none⟩)] V
 simpa using this
theorem SepF.lay {F0:Nat→Prop} {w0 w:World} {ts:List Thing}(h:SepF F0 w0 ts w)(T U V:TypeId):SepF F0 w0 (ts++ [layT T (w.heap.size+1) w.heap.size []]) ((w.alloc (.cells #[.slice none 0 0] U)).alloc (.cells #[.pointer (some ⟨w.heap.size,0,none⟩)] V)):=
 h.add (((Below.refl _ w).alloc (Nat.le_refl _) _).alloc (by simp) _) (t:=layT T (w.heap.size+1) w.heap.size []) (lay_new T U V w) (by
  rintro k (hk | hk | hk)
  ·omega
  ·omega
  ·cases hk)
theorem TpQ.keep {Rep:RepT}(R:RepOk Rep) {w w':World} {p:Value} {F:Nat→Prop} {n:Nat} {Q:It→Prop}(h:TpQ Rep w p F n Q)(hb:Below w.heap.size w w'):TpQ Rep w' p F n Q:=(tpT R p n Q).keep h (Off.of (F:=fun _=>False) hb) (fun _ _ e=>e)
theorem TpQ.map_at {Rep:RepT} {w:World} {gT:Nat} {F:Nat→Prop} {n:Nat} {Q:It→Prop}(h:TpQ Rep w (.pointer (some ⟨gT,0,none⟩)) F n Q): ∃gM,w.cell? ⟨gT,4,none⟩=some (.map (some gM)):=by
 obtain⟨gT',gM,q,Fs,l,m,e,h,_⟩:=h
 injection e with e
 injection e with e
 injection e with e _ _
 subst e
 exact⟨gM,h.map_cell⟩
theorem TpQ.ptr {Rep:RepT} {w:World} {p:Value} {F:Nat→Prop} {n:Nat} {Q:It→Prop}(h:TpQ Rep w p F n Q): ∃gT,p= .pointer (some ⟨gT,0,none⟩):=by
 obtain⟨gT,_,_,_,_,_,e,_⟩:=h
 exact⟨gT,e⟩
theorem ζ4w (a b:Int)(L:ItL):(ζ2a a b L).1.length≤2*L.length:=by
 unfold ζ2a
 have key: ∀(L:ItL) (p:ItL × Int),(L.foldl (ζ4v a b) p).1.length≤p.1.length+2*L.length:=by
  intro L
  induction L with
  | nil=>intro p;simp
  | cons x r ih=>
   intro p
   rw [List.foldl_cons]
   have h1:=ih (ζ4v a b p x)
   have h2:=ζ1j (layL p.1 p.2 x.1 0) (max x.1 a) (min x.2.1 b) x.2.2
   have h3:=ζ1j p.1 p.2 x.1 0
   have e:(ζ4v a b p x).1=layL (layL p.1 p.2 x.1 0) (max x.1 a) (min x.2.1 b) x.2.2:=rfl
   rw [e]at h1
   rw [List.length_cons]
   omega
 have:=key L ([],a)
 simpa using this
def RetPc (T:TypeId)(w:World)(Q:It→Prop)(n:Nat)(a b:Int)(e:Ending)(w':World):Prop:=∃L A k c,e= .returned (.slice A k c)∧rise L∧(∀x,x∈L↔Q x∧a<b∧x.1<b∧a<x.2.1)∧L.length≤4*n∧w'.ownsRow w.heap.size T 3 (.slice A k c) k (ζ5 L)∧Below w.heap.size w w'
end Corr
namespace Go.Proofs.YthagdonmijhpdaaGreat
open Go.RowKit Corr
theorem tpq_pieces {Rep:RepT}(K:TrK Rep) {w:World} {p:Value} {F:Nat→Prop} {n:Nat} {Q:It→Prop}(H:TpQ Rep w p F n Q)(hn:n≤1000)(hq:SubQ Q)(a b:Int):Calls Tryz.prog 46 #[p,.agg #[.int .i64 a,.int .i64 b]] w (RetPc 89 w Q n a b):=by
 obtain⟨gT,gM,q,Fs,l,m,rfl,HT,rfl,h1,h2,h3⟩:=H
 refine(tppieces_any K gT gM q Fs l m a b w HT (fun i hi=>Nat.le_trans (h3 i hi) hn) fun i hi y hy=> ?_).mono fun e w' hr=> ?_
 ·obtain⟨_,h4,_,v,h5⟩:=((h1 i hi).2 y).1 hy
  obtain⟨g,hg⟩:=hq
  have:=hg _ h5
  exact⟨by have:=this.lo;simp only at this;omega,this.lt⟩
 ·obtain⟨A,k,c,he,hr,hb⟩:=hr
  obtain⟨r1,r2⟩:=pcs_all h1 h2 hq a b
  exact⟨_,A,k,c,he,r1,r2,ζ4c m a b l n h3 4 (Nat.le_refl _),hr,hb⟩
theorem ζ3b {F0:Nat→Prop} {w0 w:World} {ts:List Thing}(h:SepF F0 w0 ts w) {i gB gL:Nat} {L:ItL}(hi:ts[i]? =some (layT 89 gB gL L))(hL:L.length≤100000)(a b v:Int):
  Calls Tryz.prog 76 #[.int .i64 a,.int .i64 b,.int .i64 v,.pointer (some ⟨gB,0,none⟩)] w fun e w'=>e= .returned (.tuple #[])∧SepF F0 w0 (ts.set i (layT 89 gB gL (layL L a b v))) w':=by
 obtain⟨F,hp,_,hu⟩:=h.get hi
 refine(lay_any gB gL L a b v w F hp hL).mono fun e w' hq=> ?_
 obtain⟨F',he,h1,h2,h3⟩:=hq
 exact⟨he,hu w' F' _ h2 h1 h3⟩
theorem sepf_told {F0:Nat→Prop} {w0 w:World} {ts:List Thing}(h:SepF F0 w0 ts w) {i gB gL:Nat} {L:ItL} {T:TypeId}(hi:ts[i]? =some (layT T gB gL L)): ∃A n c,w.cell? ⟨gL,0,none⟩=some (.slice A n c)∧w.ownsRow 0 T 3 (.slice A n c) n (ζ5 L)∧(∀k,rowK A n c k→F0 k∨w0.heap.size≤k)∧L.length=n:=by
 obtain⟨F,⟨_,_,A,n,c,h2,h3,_,_,hF⟩,h6,_⟩:=h.get hi
 exact⟨A,n,c,h2.get 0 rfl,h3,fun k hk=>h6 k ((hF k).2 (.inr (.inr hk))),ζ3p h3⟩
theorem sepf_row {F0:Nat→Prop} {w0 w:World} {ts:List Thing}(h:SepF F0 w0 ts w) {i gB gL:Nat} {L:ItL} {T:TypeId}(hi:ts[i]? =some (layT T gB gL L)): ∃A n c,w.cell? ⟨gL,0,none⟩=some (.slice A n c)∧L.length=n∧SepF F0 w0 (ts.set i (rowT 0 T 3 A n c (ζ5 L))) w:=by
 obtain⟨F,⟨_,_,A,n,c,h2,h3,_,_,hF⟩,_,hu⟩:=h.get hi
 refine⟨A,n,c,h2.get 0 rfl,ζ3p h3,hu w (fun k=>(Value.slice A n c).ownBlock=some k) _ (Off.refl _ _) ⟨h3,fun _=>Iff.rfl⟩ fun k hk=> .inl ((hF k).2 (.inr (.inr hk)))⟩
theorem tpsegs_no {Rep:RepT}(K:TrK Rep)(gT gM:Nat)(a b:Int)(w:World)(hc:w.cell? ⟨gT,4,none⟩=some (.map (some gM)))(hm:mayB a b=false):Calls Tryz.prog 21 #[.pointer (some ⟨gT,0,none⟩),.agg #[.int .i64 a,.int .i64 b]] w fun e w'=>e= .returned (.slice none 0 0)∧Below w.heap.size w w':=by
 have hb:=(Below.refl w.heap.size w).alloc (Nat.le_refl _) (.cells #[.int .i64 a,.int .i64 b] 24)
 have HB:=hid hb
 have h1:=Blk.new w #[.int .i64 a,.int .i64 b] 24
 have x0:=h1.get 0 rfl
 have x1:=h1.get 1 rfl
 have HC:=hid ((Below.cell (p:=⟨gT,4,none⟩) hb (World.block_lt_of_cell? _ _ hc)).trans hc)
 clear hb h1 hc
 go_enter Tryz.func21,Tryz.ntmps21
 go_wp2_with fail
 refine(ζ28 gT gM _ HC.out).mono ?_
 rintro e w1 ⟨rfl,rfl⟩
 go_wp2_with fail
 refine(ζ1u a b _).mono ?_
 rintro e w2 ⟨rfl,b2⟩
 rw [hm]
 have HB2:=hid (HB.out.trans (b2.mono HB.out.size))
 clear b2
 go_wp2_with fail
 go_ret
 exact⟨rfl,HB2.out⟩
theorem tpsegs_yes {Rep:RepT}(K:TrK Rep)(gT:Nat)(F:Nat→Prop)(n:Nat)(f:Int→Int)(a b:Int)(w:World)(H:TpQ Rep w (.pointer (some ⟨gT,0,none⟩)) F n (pcI f))(ho:offF f)(hn:n≤1000)(hm:mayB a b=true):Calls Tryz.prog 21 #[.pointer (some ⟨gT,0,none⟩),.agg #[.int .i64 a,.int .i64 b]] w (ζ1r 89 w f a b):=by
 have HK:=hid K
 have HM:=hid hm
 have HO:=hid ho
 have HNN:=hid hn
 have hb:=(Below.refl w.heap.size w).alloc (Nat.le_refl _) (.cells #[.int .i64 a,.int .i64 b] 24)
 have HQ:=hid (H.keep K.toRepOk hb)
 have HS0:=hid (show SepF (fun _=>False) w [blkT w.heap.size #[.int .i64 a,.int .i64 b]] _ from(SepF.nil w).push #[.int .i64 a,.int .i64 b] 24)
 have HB:=hid hb
 obtain⟨gM,hc⟩:=HQ.out.map_at
 have HC:=hid hc
 have x0:=(HS0.out.b 0 rfl).get 0 rfl
 have x1:=(HS0.out.b 0 rfl).get 1 rfl
 have hmx:=fun t ty x y w=>run_max2 (P:=Tryz.prog) t ty x y w
 have hmn:=fun t ty x y w=>run_min2 (P:=Tryz.prog) t ty x y w
 clear K H ho hn hm hb hc
 go_enter Tryz.func21,Tryz.ntmps21
 go_wp2_with fail
 refine(ζ28 gT gM _ HC.out).mono ?_
 rintro e w1 ⟨rfl,rfl⟩
 go_wp2_with fail
 refine(ζ1u a b _).mono ?_
 rintro e w2 ⟨rfl,b2⟩
 rw [HM.out]
 have HS2:=hid (HS0.out.keep b2)
 have HQ2:=hid (HQ.out.keep HK.out.toRepOk b2)
 clear b2 x0 x1
 go_wp2_with fail
 refine(layto_any _ _).mono ?_
 rintro e w3 ⟨rfl,rfl⟩
 have hs3:=HS2.out.lay 89 38 97
 have HS3:=hid hs3
 have HQ3:=hid (HQ2.out.keep HK.out.toRepOk (Joins.below_alloc2 w2 (.cells #[.slice none 0 0] 38) (.cells #[.pointer (some ⟨w2.heap.size,0,none⟩)] 97)))
 have x0:=(hs3.b 0 rfl).get 0 rfl
 have x1:=(hs3.b 0 rfl).get 1 rfl
 have hz3:(w2.alloc (.cells #[.slice none 0 0] 38)).heap.size=w2.heap.size+1:=by simp
 rw [hz3]
 generalize (w2.alloc (.cells #[.slice none 0 0] 38)).alloc (.cells #[.pointer (some ⟨w2.heap.size,0,none⟩)] 97)=w3 at*
 obtain⟨gB,hgB⟩: ∃k,w2.heap.size+1=k:=⟨_,rfl⟩
 obtain⟨gL,hgL⟩: ∃k,w2.heap.size=k:=⟨_,rfl⟩
 rw [hgB]at HS3 ⊢
 rw [hgL]at HS3 ⊢
 clear hs3 hz3 HS2 HQ2 hgB hgL
 go_wp2_with fail
 refine(tpq_pieces HK.out HQ3.out HNN.out ⟨f,fun _ h=>h⟩ a b).mono ?_
 rintro e w4 ⟨L,A,N,c,rfl,r1,r2,r3,r4,b4⟩
 have HR1:=hid r1
 have HR2:=hid r2
 have HLN:=hid (ζ3p r4)
 have hNL:N≤4000:=by have:=ζ3p r4;have:=HNN.out;omega
 have HS4:=hid (show SepF (fun _=>False) w [blkT w.heap.size #[.int .i64 a,.int .i64 b],layT 89 gB gL [],rowT w3.heap.size 89 3 A N c (ζ5 L)] w4 from HS3.out.addRow r4 (ζ1c r4) b4)
 have hs4:=HS4.out
 clear r1 r2 r3 r4 b4 x0 x1 HS3
 have x0:=(hs4.b 0 rfl).get 0 rfl
 have x1:=(hs4.b 0 rfl).get 1 rfl
 clear hs4
 go_wp2_with fail
 go_loopw [8,26] (fun v8 v26 wr=>∃(k:Nat) (day:Int) (out:ItL),v8= .int .i64 day∧v26= .int .i64 (k:Int)∧k≤N∧Hid (ζ2a a b (L.take k)=(out,day))∧Hid (SepF (fun _=>False) w [blkT w.heap.size #[.int .i64 a,.int .i64 b],layT 89 gB gL out,rowT w3.heap.size 89 3 A N c (ζ5 L)] wr)) (fun _ v26 _=>(N-intOf v26).toNat)
 case atStart=>exact⟨0,a,[],rfl,rfl,by omega,hid rfl,HS4⟩
 case round=>
  obtain⟨k,day,out,rfl,rfl,hk,HE,HS⟩:=hrel
  clear HS4 x0 x1
  have hol:out.length≤8000:=by
   have h1:out.length≤2*(L.take k).length:=by
    have h1:=ζ4w a b (L.take k)
    rw [HE.out]at h1
    exact h1
   rw [List.length_take]at h1
   omega
  have x0:=(HS.out.b 0 rfl).get 0 rfl
  have x1:=(HS.out.b 0 rfl).get 1 rfl
  by_cases hlt:k<N
  ·obtain⟨g,⟨y1,y2,y3⟩,rfl,hx,c0,c1,c2⟩:=own_get (HS.out.row 2 rfl) hlt
   have HX:=hid hx
   have hs5:=HS.out.push #[.int .i64 y1,.int .i64 y2,.int .i64 y3] 89
   have HS5:=hid hs5
   have z0:=(hs5.b 3 rfl).get 0 rfl
   have z1:=(hs5.b 3 rfl).get 1 rfl
   have z2:=(hs5.b 3 rfl).get 2 rfl
   have u0:=(hs5.b 0 rfl).get 0 rfl
   have u1:=(hs5.b 0 rfl).get 1 rfl
   clear hx hs5
   go_wp2_with fail
   refine(ζ3b HS5.out (i:=1) rfl (by omega) day y1 0).mono ?_
   rintro e w6 ⟨rfl,hs6⟩
   have HS6:=hid hs6
   have z0:=(hs6.b 3 rfl).get 0 rfl
   have z1:=(hs6.b 3 rfl).get 1 rfl
   have z2:=(hs6.b 3 rfl).get 2 rfl
   have u0:=(hs6.b 0 rfl).get 0 rfl
   have u1:=(hs6.b 0 rfl).get 1 rfl
   clear hs6
   go_wp2_with fail
   refine(ζ3b HS6.out (i:=1) rfl (by have:=ζ1j out day y1 0;omega) (max y1 a) (min y2 b) y3).mono ?_
   rintro e w7 ⟨rfl,hs7⟩
   have HS7:=hid (hs7.take 3)
   have z1:=(hs7.b 3 rfl).get 1 rfl
   clear hs7
   go_wp2_with fail
   go_roundw
   case rel=>exact⟨k+1,y2,_,rfl,by go_num,by omega,hid (by unfold ζ2a at HE ⊢;rw [ζ1n HX.out,HE.out];rfl),HS7⟩
   case measure=>simp [intOf];omega
  ·have HE2:=hid (show ζ2a a b L=(out,day) by rw [←HE.out,List.take_of_length_le (by rw [HLN.out];omega)])
   go_wp2_with fail
   refine(ζ3b HS.out (i:=1) rfl (by omega) day b 0).mono ?_
   rintro e w6 ⟨rfl,hs6⟩
   obtain⟨A6,n6,c6,t0,t1,t2,t3⟩:=sepf_told hs6 (i:=1) rfl
   have HT1:=hid t1
   have HT2:=hid t2
   have HS6:=hid hs6
   clear hs6 t1 t2 x0 x1
   go_wp2_with fail
   go_ret
   refine⟨segO a b L,A6,n6,c6,rfl,?_,?_,HS6.out.bl⟩
   ·unfold segF
    rw [if_pos HM.out]
    exact seg_cov HO.out (mayB_iff.1 HM.out).2.1 HR1.out fun x=>by
     rw [HR2.out x]
     have h1:=(mayB_iff.1 HM.out).2.1
     constructor
     ·rintro⟨p,_,p2,p3⟩;exact⟨p,p3,p2⟩
     ·rintro⟨p,p3,p2⟩;exact⟨p,h1,p2,p3⟩
   ·unfold segO
    rw [HE2.out]
    exact ζ3d HT1.out fun k hk=>by
     rcases HT2.out k hk with h | h
     ·exact h.elim
     ·exact h
end Go.Proofs.YthagdonmijhpdaaGreat

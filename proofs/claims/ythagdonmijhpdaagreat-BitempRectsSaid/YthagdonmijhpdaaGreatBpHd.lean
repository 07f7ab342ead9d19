/- Package bitemp: what a store has, made or not. -/
import Derived.Test.YthagdonmijhpdaaGreatSqTwo
import Derived.Test.YthagdonmijhpdaaGreatBp8
open Go.Lib (hid)
set_option linter.unusedSimpArgs false
set_option linter.unusedVariables false
set_option maxHeartbeats 4000000
set_option maxRecDepth 8000
namespace Corr
open Go Go.RowKit
def PcI6 (T:TypeId)(gl:Nat)(Z:Nat→Prop)(w6:World)(G:Nat→Prop)(xs:List Value)(W:World):Prop:=∃A n c,Blk W gl #[.slice A n c]∧W.ownsRow 0 T 6 (.slice A n c) n xs∧(∀k,rowK A n c k→k≠gl∧¬G k∧Z k)∧Off Z w6 W∧∀k,G k→w6.heap.size≤k∧k<W.heap.size
section
variable {T:TypeId} {gl:Nat} {Z G:Nat→Prop} {w6 W W':World} {xs:List Value}
theorem PcI6.grow (h:PcI6 T gl Z w6 G xs W)(hgl:gl<w6.heap.size)(hZ: ∀k,w6.heap.size≤k→Z k)(ho:Off G W W'):PcI6 T gl Z w6 (madeG G W W') xs W':=by
 obtain⟨A,n,c,h1,h2,h3,h4,h5⟩:=h
 refine⟨A,n,c,ho.blk h1 fun e=>by have:=(h5 _ e).1;omega,ho.own h2 fun k hk=>(h3 k hk).2.1,fun k hk=>⟨(h3 k hk).1,fun e=> ?_,(h3 k hk).2.2⟩,h4.trans (ho.mono fun k _ hk=>hZ k (h5 k hk).1),fun k hk=> ?_⟩
 ·rcases e with e | e
  ·exact(h3 k hk).2.1 e
  ·have:=ζk h2 hk;omega
 ·rcases hk with hk | hk
  ·exact⟨(h5 k hk).1,Nat.lt_of_lt_of_le (h5 k hk).2 ho.size⟩
  ·have:=h4.size;exact⟨by omega,hk.2⟩
theorem PcI6.obj (h:PcI6 T gl Z w6 G xs W)(hgl:gl<w6.heap.size)(hZ: ∀k,w6.heap.size≤k→Z k) {l:Nat} {o o':Obj}(hl:w6.heap.size≤l)(hk:W.heap[l]? =some o)(hc:o.isCells=false):PcI6 T gl Z w6 G xs (W.putObj l o'):=by
 obtain⟨A,n,c,h1,h2,h3,h4,h5⟩:=h
 have ho:Off (· =l) W (W.putObj l o'):=ζl o' rfl hk
 refine⟨A,n,c,ho.blk h1 (by omega),ho.own h2 fun k hk' e=> ?_,h3,h4.trans (ho.mono fun k _ e=>hZ k (by omega)),fun k hk=>by rw [World.putObj_size];exact h5 k hk⟩
 subst e
 rw [ζ1w h2 hk' hk]at hc;cases hc
theorem PcI6.keep (h:PcI6 T gl Z w6 G xs W)(hb:Below W.heap.size W W'):PcI6 T gl Z w6 G xs W':=by
 obtain⟨A,n,c,h1,h2,h3,h4,h5⟩:=h
 exact⟨A,n,c,h1.keep hb,ζg h2 hb,h3,h4.later hb,fun k hk=>⟨(h5 k hk).1,Nat.lt_of_lt_of_le (h5 k hk).2 hb.size⟩⟩
theorem PcI6.free (h:PcI6 T gl Z w6 G xs W):PcI6 T gl Z w6 (fun _=>False) xs W:=by
 obtain⟨A,n,c,h1,h2,h3,h4,h5⟩:=h
 exact⟨A,n,c,h1,h2,fun k hk=>⟨(h3 k hk).1,fun e=>e,(h3 k hk).2.2⟩,h4,fun _ e=>e.elim⟩
theorem PcI6.app {A A':Option Addr} {n c c':Nat} {ys:List Value} {vB:Value} {bB:Bool} {wz:World}(hgl:gl<w6.heap.size)(hZl:Z gl)(hZ: ∀k,w6.heap.size≤k→Z k)(h1:Blk W gl #[.slice A n c])(h2:W.ownsRow 0 T 6 (.slice A n c) n xs)(h3: ∀k,rowK A n c k→k≠gl∧¬G k∧Z k)(h4:Off Z w6 W)(h5: ∀k,G k→w6.heap.size≤k∧k<W.heap.size)
  (hD:AppD T A n c 0 xs ys 6 W bB true vB (.slice A' (n+1) c') wz):PcI6 T gl Z w6 G (xs++ys) (wz.setCell ⟨gl,0,none⟩ (.slice A' (n+1) c'))∧KeepsFrom w6.heap.size W (wz.setCell ⟨gl,0,none⟩ (.slice A' (n+1) c'))∧KpOff Z G W (wz.setCell ⟨gl,0,none⟩ (.slice A' (n+1) c')):=by
 obtain⟨ho,g2,g3⟩:=hD.done
 have hs:=h4.size
 have hgz:gl<W.heap.size:=h1.sz
 have hoff:Off (· =gl) wz (wz.setCell ⟨gl,0,none⟩ (.slice A' (n+1) c')):=Off.set (F:=(· =gl)) (a:=⟨gl,0,none⟩) rfl _
 have n3: ∀k,rowK A' (n+1) c' k→k≠gl∧¬G k∧Z k:=fun k hk=>by
  rcases g3 k hk with h | h
  ·exact h3 k h
  ·exact⟨by omega,fun e=>by have:=(h5 k e).2;omega,hZ k (by omega)⟩
 have hall:Off (fun k=>k=gl∨rowK A n c k) W (wz.setCell ⟨gl,0,none⟩ (.slice A' (n+1) c')):=(ho.mono fun k _ hk=> .inr hk).trans (hoff.mono fun k _ hk=> .inl hk)
 have hZa:Off Z W (wz.setCell ⟨gl,0,none⟩ (.slice A' (n+1) c')):=hall.mono fun k _ hk=>by
  rcases hk with rfl | hk
  ·exact hZl
  ·exact(h3 k hk).2.2
 refine⟨⟨A',n+1,c',?_,hoff.own g2 fun k hk e=>(n3 k hk).1 e,n3,h4.trans hZa,fun k hk=>⟨(h5 k hk).1,Nat.lt_of_lt_of_le (h5 k hk).2 hall.size⟩⟩,keeps_off hall fun k o hk hk'=> ?_,hZa,fun k hk=>hall.block k (h5 k hk).2 fun e=> ?_⟩
 ·have:=(ho.blk h1 fun e=>(h3 _ e).1 rfl).set 0 (.slice A' (n+1) c')
  simpa using this
 ·rcases hk with rfl | hk
  ·exact blk_cells h1 hk'
  ·exact ζ1w h2 hk hk'
 ·rcases e with rfl | e
  ·have:=(h5 _ hk).1;omega
  ·exact(h3 k e).2.1 hk
end
theorem KeepsFrom.two {D:Nat} {W W':World}(h:KeepsFrom D W W'):Keeps2 D W W':=⟨h.size,fun k o hk ho hc=>h.same k o (by omega) ho hc⟩
theorem ζ41 {F:Fence} {n:Nat} {P:Program} {ops:Array Oper} {rest:List Oper} {o:Oper} {a:Act} {w w':World} {Q:Exit→Act→World→Prop} {va vx v':Value}(hg:o.guard=none)(s x:Operand)(t:TypeId)
  (hop:o.op=Op.call { callee:=Callee.builtin Builtin.append,args:= #[s,x],argTypes:= #[t,t] }) (hs:a.eval s=va) (hx:a.eval x=vx) (hrun:(Builtin.append_ #[t,t] o.type #[va,vx]).run P w= .ok v' w')
  (hK:wpListIn F n P ops Q rest (a.put o.dst v') w'):wpListIn F n P ops Q (o :: rest) a w:=by
 refine wpListIn_plain hg fun K hK'=> ?_
 unfold Oper.wpIn
 refine⟨?_,?_⟩
 ·simp [Oper.about,hop,resolve,Target.leads,Sem.run_pure]
 ·rw [Oper.semAt_plain F _ _ (by rw [hop];intro c hc';cases hc')]
  simp [execOp,hop,resolve,invoke,builtin,hs,hx,hrun,Result.andThen]
  exact hK' _ _ hK
def Ret6 (T:TypeId)(w:World)(Y:List Rn)(e:Ending)(w':World):Prop:=∃A n c,e= .returned (.slice A n c)∧w'.ownsRow w.heap.size T 6 (.slice A n c) n (ζ8 Y)∧Below w.heap.size w w'
end Corr
namespace Go.Proofs.YthagdonmijhpdaaGreat
open Go.RowKit Corr
attribute [local go_sem] Oper.semAt_some
set_option maxRecDepth 100000 in
theorem bappend_any (gf:Nat)(lb:Array Value)(Y:List Rn)(w:World)(enters: ∀args w,(callFunc gf args).run Tryz.prog w= .ok (.enter gf args) w)(hs:SeqOff2 Tryz.prog gf lb (fun r:Rn=> #[rnV r]) (fun k=>w.heap.size≤k) (fun ys=>ys=Y) (fun pre=>pre <+: Y) Y.length w)(hY:Y.length≤1000000):
  Calls Tryz.prog 96 #[.slice none 0 0,.func (.func gf) #[] lb] w (Ret6 86 w Y):=by
 have hb:Below w.heap.size w (w.alloc (.cells #[.slice none 0 0] 100)):=(Below.refl _ w).alloc (Nat.le_refl _) _
 have hx:=Blk.new w #[.slice none 0 0] 100
 obtain⟨w6,hw6⟩: ∃w6,w.alloc (.cells #[.slice none 0 0] 100)=w6:=⟨_,rfl⟩
 rw [hw6]at hb hx
 have HB:=hid hb
 have HX:=hid hx
 have HS:=hid (hs.later hb)
 have HY:=hid hY
 have HEN:=hid enters
 have HS6:=hid (show w6.heap.size=w.heap.size+1 by rw [←hw6];simp)
 obtain⟨Z,hZ⟩: ∃Z:Nat→Prop,(fun k=>w.heap.size≤k)=Z:=⟨_,rfl⟩
 have HZ:=hid (show ∀k,w.heap.size≤k↔Z k from fun k=>by rw [←hZ])
 rw [hZ]at HS
 clear hb hx hs hY enters hZ
 refine ζr Tryz.func96 rfl ?_
 simp only [Tryz.ntmps96,List.size_toArray,List.length_cons,List.length_nil,Nat.reduceAdd,Nat.reduceSub,Array.replicate_succ,Array.replicate_zero,List.push_toArray,List.append_toArray,List.nil_append,List.cons_append]
 go_wp2_with fail
 obtain⟨gl,hgl⟩: ∃k,w.heap.size=k:=⟨_,rfl⟩
 rw [hgl]
 have HX1:=hid (show Blk w6 gl #[.slice none 0 0]from hgl▸HX.out)
 have HGL:=hid (show gl<w6.heap.size∧Z gl∧(∀k,w6.heap.size≤k→Z k)from⟨by have:=HS6.out;omega,(HZ.out gl).1 (by omega),fun k hk=>(HZ.out k).1 (by have:=HS6.out;omega)⟩)
 clear hw6 hgl
 refine ζ5h (fun D W=>w6.heap.size=D∧W.heap[D]? =some (.deferred (some []))∧PcI6 86 gl Z w6 (fun _=>False) (ζ8 Y) W) ?loop ?rest
 case loop=>
  refine ζ23 (gf:=gf) (lb:=lb) rfl HEN.out HGL.out.2.2 HS.out (fun _=>rfl)
   (fun G (pre:List Rn) W=>PcI6 86 gl Z w6 G (ζ8 pre) W) (fun _ _ _ _=>False)
   (fun G pre W W' h ho=>h.grow HGL.out.1 HGL.out.2.2 ho)
   (fun G s W l o o' h h1 h2 h3 h4=>h.obj HGL.out.1 HGL.out.2.2 h1 h3 h4)
   (fun _ _ _ _ _ _ _ h _ _ _ _=>h) (fun _ _ _ _ _ h _=>h.elim)
   ?start (fun _ _ x a' W=>∃Bx:Nat,W.heap[Bx]? =some (.cells #[.int .i64 x.a,.int .i64 x.b,.int .i64 x.s,.int .i64 x.u,.int .i64 x.v,.int .i64 x.m] 86 (0,0))∧a'= { tmps:= #[.slice none 0 0,.func (.func gf) #[] lb,.pointer (some ⟨gl,0,none⟩),undef,.slice none 0 0,.pointer (some ⟨Bx,0,none⟩),.func (.func gf) #[] lb,.agg #[.int .i64 x.a,.int .i64 x.b,.int .i64 x.s,.int .i64 x.u,.int .i64 x.v,.int .i64 x.m],undef,undef,undef,undef,undef],defers:= [] }) ?ax ?assign ?body ?done ?stop
  case start=>
   intro W hb
   exact⟨none,0,0,HX1.out.keep hb,World.ownsRow_nil _ _ _ _,fun k hk=>(by cases hk),Off.of hb,fun k h=>h.elim⟩
  case ax=>
   rintro _ _ x a' _ W l o o' ⟨Bx,h1,h2⟩ _ _ ho hc
   refine⟨Bx,(World.putObj_heap_other fun e=> ?_).trans h1,h2⟩
   subst e
   rw [h1]at ho;cases ho;cases hc
  case assign=>
   intro l' G pre x W Kf hsz hi hK
   gi_wp2
   have ha:Below W.heap.size W (W.alloc (.cells #[.int .i64 x.a,.int .i64 x.b,.int .i64 x.s,.int .i64 x.u,.int .i64 x.v,.int .i64 x.m] 86)):=(Below.refl _ W).alloc (Nat.le_refl _) _
   refine hK _ _ (KeepsFrom.two ((KeepsOthers.alloc _ _).from _)) ⟨Off.of ha,fun k hk=> ?_⟩ (hi.keep ha) ⟨W.heap.size,ζw W _,rfl⟩
   obtain⟨_,_,_,_,_,_,_,g5⟩:=hi
   exact ha.block k (g5 k hk).2
  case body=>
   rintro l' G pre x a' W hl hsz ⟨A2,n2,c2,k1,k2,k3,k4,k5⟩ ⟨Bx,hBx,rfl⟩ hpn _
   have hn2:n2≤1000000:=by
    have h1:=k2.1
    rw [ζ1o]at h1
    have h2:=HY.out;omega
   have hxb:Blk W Bx #[.int .i64 x.a,.int .i64 x.b,.int .i64 x.s,.int .i64 x.u,.int .i64 x.v,.int .i64 x.m]:=⟨_,hBx⟩
   have l0:=k1.get 0 rfl
   have x0:=hxb.get 0 rfl
   have x1:=hxb.get 1 rfl
   have x2:=hxb.get 2 rfl
   have x3:=hxb.get 3 rfl
   have x4:=hxb.get 4 rfl
   have x5:=hxb.get 5 rfl
   have hA0:AppD 86 A2 n2 c2 0 (ζ8 pre) (ζ8 [x]) 6 W false false undef undef W:=⟨Off.refl _ _,fun _=>k2,fun h=>(by cases h),fun h=>(by cases h)⟩
   have hA1:=hA0.build 86
   obtain⟨A9,c9,w9,hr9,hD9,hO9⟩:=AppD.run2 (P:=Tryz.prog) (t:=100) (ty:=100) elem_rn hA1 (fun k hk=>ζk k2 hk) (by rfl) (ζ4k _) (by omega) (by unfold maxLen;omega) (Nat.zero_le _)
   have hz:=(hD9.1.blk k1 fun e=>(k3 _ e).1 rfl)
   have f0:=hz.f 0
   have y0:=hz.get 0 rfl
   have HD9:=hid hD9
   have H1:=hid k1
   have H2:=hid k2
   have H3:=hid k3
   have H4:=hid k4
   have H5:=hid k5
   clear k1 k2 k3 k4 k5 hxb hA0 hA1 hD9 hO9 hz hBx hpn hn2
   rw [show (ζ8 [x]).toArray= #[.int .i64 x.a,.int .i64 x.b,.int .i64 x.s,.int .i64 x.u,.int .i64 x.v,.int .i64 x.m]from rfl]at hr9
   gi_wp2_with (gi_at_builtin;refine ζ41 rfl _ _ 100 rfl rfl rfl hr9 ?_)
   have hq:=PcI6.app HGL.out.1 HGL.out.2.1 HGL.out.2.2 H1.out H2.out H3.out H4.out H5.out HD9.out
   rw [←ζ3s]at hq
   exact⟨KeepsFrom.two hq.2.1,hq.2.2,hq.1⟩
  case done=>
   rintro D G xs W hD rfl hi hK
   exact⟨.inl rfl,D,rfl,hD,hK,hi.free⟩
  case stop=>exact fun _ _ _ _ _ _ _ h _=>h.elim
 case rest=>
  rintro D W ⟨hD,hK,A2,n2,c2,k1,k2,k3,k4,_⟩
  have HK:=hid hK
  have HD:=hid hD
  have H2:=hid k2
  have H3:=hid k3
  have H4:=hid k4
  have l0:=k1.get 0 rfl
  clear hK hD k1 k2 k3 k4
  go_wp2_with fail
  refine ζ13 (Z:=fun k=>k∈ [D]) (fun W9 hb=>⟨_,results_tmp rfl _ _ _,A2,n2,c2,rfl,?_,?_⟩) [D] W ((Marks.nil 0 W).cons (Nat.zero_le _) HK.out List.not_mem_nil) (fun D hD=>hD) (Off.refl _ _)
  ·have ho:=hb.own H2.out fun k hk e=>by rw [List.mem_singleton.1 e]at hk;exact ζ4f H2.out HK.out hk rfl
   exact ζ3d ho fun k hk=>(HZ.out k).2 (H3.out k hk).2.2
  ·exact(HB.out.trans (H4.out.below (by have:=HS6.out;omega) fun k hk=>(HZ.out k).2 hk)).trans (hb.below (by have:=HB.out.size;have:=H4.out.size;omega) fun k hk=>by rw [List.mem_singleton.1 hk,←HD.out];have:=HS6.out;omega)
theorem bcollect_any (gf:Nat)(lb:Array Value)(Y:List Rn)(w:World)(enters: ∀args w,(callFunc gf args).run Tryz.prog w= .ok (.enter gf args) w)(hs:SeqOff2 Tryz.prog gf lb (fun r:Rn=> #[rnV r]) (fun k=>w.heap.size≤k) (fun ys=>ys=Y) (fun pre=>pre <+: Y) Y.length w)(hY:Y.length≤1000000):
  Calls Tryz.prog 78 #[.func (.func gf) #[] lb] w (Ret6 86 w Y):=by
 have HA:=hid (bappend_any gf lb Y w enters hs hY)
 clear enters hs hY
 go_enter Tryz.func78,Tryz.ntmps78
 go_wp2_with fail
 refine HA.out.mono ?_
 rintro e w1 ⟨A,n,c,rfl,h1,h2⟩
 have H1:=hid h1
 have H2:=hid h2
 clear h1 h2
 go_wp2_with fail
 refine bodyPost_ret (results_tmp rfl _ _ _) rfl ⟨A,n,c,rfl,H1.out,H2.out⟩
end Go.Proofs.YthagdonmijhpdaaGreat
namespace Corr
open Go Go.RowKit
theorem cov_hit {f:Int→Int} : ∀ {l:ItL} {a b d:Int},covP f a b l→a≤d→d<b→∃y∈l,y.1≤d∧d<y.2.1
 | [],a,b,d,h,h1,h2=>by have:a=b:=h;omega
 | s :: r,a,b,d,h,h1,h2=>by
  obtain⟨g1,g2,g3,g4,g5⟩:=h
  by_cases hd:d<s.2.1
  ·exact⟨s,List.mem_cons_self,by omega,hd⟩
  ·obtain⟨y,hy,h3⟩:=cov_hit g5 (by omega) h2
   exact⟨y,List.mem_cons_of_mem _ hy,h3⟩
structure TellY (L:ClL)(a b frm tq:Int)(Y:List Rn):Prop where
 say: ∀r∈Y,(r.a<b∧a<r.b)∧(1≤r.a∧r.a<r.b∧r.b≤3652060)∧(1≤r.s∧r.s≤tq∧(r.u=0∨(frm<r.u∧r.s<r.u)))∧¬r.v=0∧∀t d,r.a≤d→d<r.b→r.s≤t→(r.u=0∨t<r.u)→valS L t d=r.v
 all: ∀t d,¬valS L t d=0→a≤d→d<b→frm≤t→t≤tq→∃r∈Y,r.a≤d∧d<r.b∧r.s≤t∧(r.u=0∨t<r.u)
theorem ζ4o {L:ClL} {Sk:Kp}(hk:KsOk L Sk) {a b frm tq:Int} {out:ItL}(ho:segF Sk.f a b out): ∀r∈allY out Sk.cs a b frm tq,(r.a<b∧a<r.b)∧(1≤r.a∧r.a<r.b∧r.b≤3652060)∧(1≤r.s∧r.s≤tq∧(r.u=0∨(frm<r.u∧r.s<r.u)))∧¬r.v=0∧∀t d,r.a≤d→d<r.b→r.s≤t→(r.u=0∨t<r.u)→valS L t d=r.v:=fun r hr=>by
 rcases List.mem_append.1 hr with hr | hr
 ·obtain⟨x,hx,h1,h2,rfl⟩:=opnY_mem.1 hr
  by_cases hm:mayB a b=true
  ·unfold segF at ho
   rw [if_pos hm]at ho
   obtain⟨i1,i2,i3,i4,_,_⟩:=ζ10 ho x hx
   have hmm:=mayB_iff.1 hm
   have hf: ∀d,x.1≤d→d<x.2.1→¬Sk.f d=0:=fun d d1 d2 e=>by
    have h3:=i4 d d1 d2
    rw [e]at h3
    rw [←h3,c_zero.1]at h1
    omega
   obtain⟨o1,o2,o3,o4,o5,o6⟩:=hk.ks.opn x.1 (hf x.1 (Int.le_refl _) i2)
   rw [i4 x.1 (Int.le_refl _) i2]at o3 o5
   refine⟨⟨?_,?_⟩,⟨?_,i2,?_⟩,⟨o3,h2,.inl rfl⟩,o5,fun t d d1 d2 d3 _=> ?_⟩
   ·show x.1<b;omega
   ·show a<x.2.1;omega
   ·show 1≤x.1;omega
   ·show x.2.1≤3652060;omega
   ·have h3:=(hk.ks.opn d (hf d d1 d2)).2.2.2.2.2 t (by rw [i4 d d1 d2];exact d3)
    rw [h3,i4 d d1 d2];rfl
  ·unfold segF at ho
   rw [if_neg hm]at ho
   rw [ho]at hx;cases hx
 ·obtain⟨c,hc,hr⟩:=List.mem_flatMap.1 hr
  obtain⟨h1,h2,h3,h4,h5,h6⟩:=(ζ3r (hk.ck c hc).tookCk0).1 hr
  obtain⟨⟨k1,k2,k3⟩,⟨k4,k5,k6⟩,⟨k7,_⟩,k8⟩:=hk.ks.cls r (List.mem_flatMap.2 ⟨c,hc,h1⟩)
  exact⟨⟨h3,h4⟩,⟨k1,k2,k3⟩,⟨k4,h5,.inr ⟨h6,k5⟩⟩,k7,fun t d d1 d2 d3 d4=>k8 t d d1 d2 d3 (d4.resolve_left (by omega))⟩
theorem ζ38 {L:ClL} {Sk:Kp}(hk:KsOk L Sk) {a b frm tq:Int} {out:ItL}(ho:segF Sk.f a b out)(hab:mayB a b=true∨∀d,a≤d→d<b→Sk.f d=0):TellY L a b frm tq (allY out Sk.cs a b frm tq) where
 say:=ζ4o hk ho
 all:=fun t d hv d1 d2 t1 t2=>by
  rcases hk.ks.all t d hv with⟨h1,h2⟩ | ⟨r,hr,h1,h2,h3,h4⟩
  ·have hm:mayB a b=true:=hab.resolve_right fun h=>h1 (h d d1 d2)
   unfold segF at ho
   rw [if_pos hm]at ho
   obtain⟨y,hy,hb⟩:=cov_hit ho d1 d2
   obtain⟨_,_,_,i4,_⟩:=ζ10 ho y hy
   have hf:=i4 d hb.1 hb.2
   obtain⟨o1,o2,o3,o4,o5,o6⟩:=hk.ks.opn d h1
   rw [hf]at o1 h2
   exact⟨rectI y 0,List.mem_append_left _ (opnY_mem.2 ⟨y,hy,by omega,by omega,rfl⟩),hb.1,hb.2,h2,.inl rfl⟩
  ·obtain⟨c,hc,hrc⟩:=List.mem_flatMap.1 hr
   exact⟨r,List.mem_append_right _ (List.mem_flatMap.2 ⟨c,hc,(ζ3r (hk.ck c hc).tookCk0).2 ⟨hrc,by omega,by omega,by omega,by omega,by omega⟩⟩),h1,h2,h3,.inr h4⟩
theorem flat_pair {cs:List Ck} {c:Ck}(hc:c∈cs) {Q:Rn→Rn→Prop}(h:(cs.flatMap Ck.rs).Pairwise Q):c.rs.Pairwise Q:=by
 obtain⟨l1,l2,rfl⟩:=List.append_of_mem hc
 rw [List.flatMap_append,List.flatMap_cons]at h
 exact(List.pairwise_append.1 (List.pairwise_append.1 h).2.1).1
theorem cs_len: ∀ {cs:List Ck},(∀c∈cs,okCk c)→cs.length≤(cs.flatMap Ck.rs).length
 | [],_=>Nat.le_refl _
 | c :: cs,h=>by
  have h1:=cs_len fun d hd=>h d (List.mem_cons_of_mem _ hd)
  have h2:=(h c List.mem_cons_self).ne
  have h3:0<c.rs.length:=by
   cases hc:c.rs with
   | nil=>exact absurd hc h2
   | cons x l=>simp
  rw [List.flatMap_cons,List.length_append,List.length_cons]
  omega
end Corr
namespace Go.Proofs.YthagdonmijhpdaaGreat
open Go.RowKit Corr
theorem KsOk.walk {L:ClL} {Sk:Kp}(hk:KsOk L Sk)(hL:L.length≤100):WalkOk Sk where
 ck:=hk.ck
 up:=fun c hc=>flat_pair hc hk.ks.up
 rs:=fun c hc r hr=>by
  have h:=(hk.ks.cls r (List.mem_flatMap.2 ⟨c,hc,hr⟩)).1
  exact⟨h.1,h.2.1⟩
 off:=hk.ks.off
 nb:=by have:=hk.nb;omega
 cl:=by have h1:=cs_len hk.ck;have h2:=hk.ks.len;omega
end Go.Proofs.YthagdonmijhpdaaGreat
namespace Corr
open Go Go.RowKit
def NilBt (w:World)(p:Value)(F:Nat→Prop):Prop:=(p= .pointer none∧∀k,¬F k)∨∃g,p= .pointer (some ⟨g,0,none⟩)∧Blk w g #[.pointer none]∧∀k,F k↔k=g
theorem NilBt.lt {w:World} {p:Value} {F:Nat→Prop}(h:NilBt w p F): ∀k,F k→k<w.heap.size:=fun k hk=>by
 rcases h with⟨_,h⟩ | ⟨g,_,hb,h⟩
 ·exact absurd hk (h k)
 ·rw [(h k).1 hk];exact hb.sz
theorem NilBt.keep {w w':World} {p:Value} {F G:Nat→Prop}(h:NilBt w p F)(ho:Off G w w')(hn: ∀k,F k→¬G k):NilBt w' p F:=by
 rcases h with⟨h1,h⟩ | ⟨g,h1,hb,h⟩
 ·exact .inl ⟨h1,h⟩
 ·exact .inr ⟨g,h1,ho.blk hb (hn g ((h g).2 rfl)),h⟩
def HdB {Rep:RepT}(R:RepOk Rep)(T U:TypeId)(w:World)(p:Value)(F:Nat→Prop)(L:ClL):Prop:=RepBt R T U w p F L∨(L= []∧NilBt w p F)
theorem HdB.keepB {Rep:RepT} {R:RepOk Rep} {T U:TypeId} {w w':World} {p:Value} {F:Nat→Prop} {L:ClL}(h:HdB R T U w p F L)(hb:Below w.heap.size w w'):HdB R T U w' p F L:=by
 rcases h with⟨g,Sk,h1,h2,h3⟩ | ⟨h1,h2⟩
 ·exact .inl ⟨g,Sk,h1,boT.keepB h2 hb,h3⟩
 ·exact .inr ⟨h1,h2.keep (Off.of (F:=fun _=>False) hb) fun _ _ e=>e⟩
theorem HdB.lt {Rep:RepT} {R:RepOk Rep} {T U:TypeId} {w:World} {p:Value} {F:Nat→Prop} {L:ClL}(h:HdB R T U w p F L): ∀k,F k→k<w.heap.size:=fun k hk=>by
 rcases h with⟨g,Sk,h1,h2,h3⟩ | ⟨h1,h2⟩
 ·exact(boT R T U g Sk).lt h2 k hk
 ·exact h2.lt k hk
def RetHd {Rep:RepT}(R:RepOk Rep)(T U:TypeId)(F:Nat→Prop)(L:ClL)(w:World)(e:Ending)(w':World):Prop:=∃(Sk:Kp) (Fk:Nat→Prop),e= .returned (.pointer (some ⟨Sk.g,0,none⟩))∧(kpT R T U Sk).P w' Fk∧KsOk L Sk∧Below w.heap.size w w'∧∀k,Fk k→F k∨w.heap.size≤k
end Corr
namespace Go.Proofs.YthagdonmijhpdaaGreat
open Go.RowKit Corr
theorem bmade_no (w:World)(p:Value)(F:Nat→Prop)(h:NilBt w p F):Calls Tryz.prog 31 #[p] w fun e w'=>e= .returned (.bool false)∧w'=w:=by
 rcases h with⟨rfl,_⟩ | ⟨g,rfl,hb,_⟩
 ·exact bmade_none w
 ·exact bmade_zero g w (hb.get 0 rfl)
theorem ζ37 {Rep:RepT}(K:TrK Rep)(w:World)(p:Value)(F:Nat→Prop)(L:ClL)(h:HdB K.toRepOk 86 134 w p F L):
  Calls Tryz.prog 35 #[p] w (RetHd K.toRepOk 86 134 F L w):=by
 rcases h with⟨g,Sk,rfl,hp,hk⟩ | ⟨rfl,hn⟩
 ·refine(bheld_yes g ⟨Sk.g,0,none⟩ w ((boT.blk hp).1.get 0 rfl)).mono ?_
  rintro e w' ⟨rfl,rfl⟩
  obtain⟨Fk,hkp,hFk,_⟩:=hp.2.get (i:=1) rfl
  exact⟨Sk,Fk,rfl,hkp,hk,Below.refl _ _,hFk⟩
 ·have HM:=hid (bmade_no w p F hn)
  have HF:=hid (fresh_any K w)
  clear hn
  go_enter Tryz.func35,Tryz.ntmps35
  go_wp2_with fail
  refine HM.out.mono ?_
  rintro e w' ⟨rfl,hw⟩
  obtain rfl:=hw.symm
  go_wp2_with fail
  refine HF.out.mono ?_
  rintro e w1 ⟨Sk,Fk,rfl,h1,h2,h3,h4⟩
  have H1:=hid h1
  have H2:=hid h2
  have H3:=hid h3
  have H4:=hid h4
  clear h1 h2 h3 h4
  go_wp2_with fail
  go_ret
  exact⟨Sk,Fk,rfl,H1.out,H2.out,H3.out,fun k hk=> .inr (H4.out k hk)⟩
theorem blast13_any {Rep:RepT}(K:TrK Rep)(w:World)(p:Value)(F:Nat→Prop)(L:ClL)(H:HdB K.toRepOk 86 134 w p F L):Calls Tryz.prog 12 #[p] w fun e w'=>e= .returned (.int .i64 (lastL L))∧Below w.heap.size w w':=by
 have HH:=hid (ζ37 K w p F L H)
 clear H
 go_enter Tryz.func12,Tryz.ntmps12
 go_wp2_with fail
 refine HH.out.mono ?_
 rintro e w1 ⟨Sk,Fk,rfl,h1,h2,h3,h4⟩
 obtain⟨A,n,cap,hq⟩:=kpT.blk h1
 have q0:=hq.get 0 rfl
 have HLA:=hid h2.la
 have HB:=hid h3
 clear h1 h2 h3 h4 hq
 go_wp2_with fail
 go_ret
 exact⟨by rw [←HLA.out];rfl,HB.out⟩
end Go.Proofs.YthagdonmijhpdaaGreat

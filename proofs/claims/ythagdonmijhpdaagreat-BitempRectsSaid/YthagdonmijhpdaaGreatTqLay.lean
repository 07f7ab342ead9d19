/- TpLay2's words, for values of three numbers. -/
import Derived.Test.YthagdonmijhpdaaGreatTqMap
import Derived.Test.YthagdonmijhpdaaGreatTpLay2
open Go.Lib (hid)
set_option linter.unusedSimpArgs false
set_option linter.unusedVariables false
set_option maxHeartbeats 4000000
set_option maxRecDepth 8000
namespace Corr
open Go Go.RowKit
def ζ7:ItL→List Value
 | []=> []
 | s :: r=> .int .i64 s.1 :: .int .i64 s.2.1 :: .int .i64 (numP s.2.2) :: .int .i64 (sinP s.2.2) :: .int .i64 (valP s.2.2) :: ζ7 r
theorem ζx: ∀l:ItL,(ζ7 l).length=l.length*5
 | []=>rfl
 | s :: r=>by simp only [ζ7,List.length_cons];rw [ζx r];omega
theorem ζ2q: ∀ {l:ItL} {i:Nat} {s:It},l[i]? =some s→(ζ7 l)[i*5]? =some (.int .i64 s.1)∧(ζ7 l)[i*5+1]? =some (.int .i64 s.2.1)∧(ζ7 l)[i*5+2]? =some (.int .i64 (numP s.2.2))∧(ζ7 l)[i*5+3]? =some (.int .i64 (sinP s.2.2))∧(ζ7 l)[i*5+4]? =some (.int .i64 (valP s.2.2))
 | [],_,_,h=>by simp at h
 | x :: r,0,s,h=>by simp at h;subst h;exact⟨rfl,rfl,rfl,rfl,rfl⟩
 | x :: r,i+1,s,h=>by
  have:=ζ2q (l:=r) (i:=i) (by simpa using h)
  rw [show (i+1)*5=i*5+1+1+1+1+1 by omega,show i*5+1+1+1+1+1+1=(i*5+1)+1+1+1+1+1 by omega,show i*5+1+1+1+1+1+2=(i*5+2)+1+1+1+1+1 by omega,show i*5+1+1+1+1+1+3=(i*5+3)+1+1+1+1+1 by omega,show i*5+1+1+1+1+1+4=(i*5+4)+1+1+1+1+1 by omega]
  simpa [ζ7]using this
theorem ζ1d (a b:ItL):ζ7 (a++b)=ζ7 a++ζ7 b:=by
 induction a with
 | nil=>rfl
 | cons s r ih=>simp [ζ7,ih]
theorem ζ35: ∀(l:ItL),∀u∈ζ7 l,u.oneCell'=true
 | [],u,hu=>by cases hu
 | s :: r,u,hu=>by
  simp only [ζ7,List.mem_cons]at hu
  rcases hu with rfl | rfl | rfl | rfl | rfl | hu
  ·rfl
  ·rfl
  ·rfl
  ·rfl
  ·rfl
  ·exact ζ35 r u hu
theorem cellsQ_set {l:ItL} {j:Nat} {x y v y':Int}(hl:l.length=j+1)(h:l[j]? =some (x,y,v)):(ζ7 l).set (j*5+1) (.int .i64 y')=ζ7 (l.take j++ [(x,y',v)]):=by
 obtain⟨s,h1,_,h3⟩:=lastI hl
 obtain rfl:=Option.some.inj (h.symm.trans h1)
 have hlen:(ζ7 (l.take j)).length=j*5:=by rw [ζx,List.length_take];omega
 calc (ζ7 l).set (j*5+1) (.int .i64 y')=(ζ7 (l.take j)++ζ7 [(x,y,v)]).set (j*5+1) (.int .i64 y'):=by rw [←ζ1d,←h3]
  _=ζ7 (l.take j++ [(x,y',v)]):=by
   rw [List.set_append_right _ _ (by omega),hlen,Nat.add_sub_cancel_left,ζ1d];rfl
structure Tpq (Rep:RepT)(w:World)(gT gM:Nat)(q:Nat→Value)(Fs:Nat→Nat→Prop)(l:Nat→ItL)(m:Int→Option Int):Prop where
 b:Blk w gT #[q 0,q 1,q 2,q 3,.map (some gM)]
 mp:MapIq w gM m
 tr: ∀i,i<4→Rep w (q i) (Fs i) 1000000 (l i)
 ptr: ∀i,i<4→∃a,q i= .pointer (some a)
 ne:gT≠gM
 fT: ∀i,i<4→¬Fs i gT
 fM: ∀i,i<4→¬Fs i gM
 ff: ∀i j,i<4→j<4→i≠j→∀k,Fs i k→¬Fs j k
section
variable {Rep:RepT} {w w':World} {gT gM:Nat} {q:Nat→Value} {Fs:Nat→Nat→Prop} {l:Nat→ItL} {m:Int→Option Int} {G:Nat→Prop}
theorem Tpq.lt (R:RepOk Rep)(h:Tpq Rep w gT gM q Fs l m): ∀k,TpF gT gM Fs k→k<w.heap.size:=by
 rintro k (rfl | rfl | ⟨i,hi,hk⟩)
 ·exact h.b.sz
 ·exact h.mp.lt
 ·exact R.lt (h.tr i hi) k hk
theorem Tpq.off (R:RepOk Rep)(h:Tpq Rep w gT gM q Fs l m)(o:Off G w w')(hn: ∀k,TpF gT gM Fs k→¬G k):Tpq Rep w' gT gM q Fs l m:=
 ⟨o.blk h.b (hn _ (.inl rfl)),h.mp.off o (hn _ (.inr (.inl rfl))),fun i hi=>R.keep (h.tr i hi) o fun k hk=>hn k (.inr (.inr ⟨i,hi,hk⟩)),h.ptr,h.ne,h.fT,h.fM,h.ff⟩
theorem Tpq.keep (R:RepOk Rep)(h:Tpq Rep w gT gM q Fs l m)(hb:Below w.heap.size w w'):Tpq Rep w' gT gM q Fs l m:=h.off R (Off.of (F:=fun _=>False) hb) fun _ _ e=>e
theorem Tpq.tree (R:RepOk Rep)(h:Tpq Rep w gT gM q Fs l m) {i:Nat}(hi:i<4) {F':Nat→Prop} {z:ItL}(hr:Rep w' (q i) F' 1000000 z)(o:Off (Fs i) w w')(hF: ∀k,F' k→Fs i k∨w.heap.size≤k):Tpq Rep w' gT gM q (updB Fs i F') (updL l i z) m:=by
 have hT:=h.b.sz
 have hM:=h.mp.lt
 refine⟨o.blk h.b (h.fT i hi),h.mp.off o (h.fM i hi),fun j hj=> ?_,h.ptr,h.ne,fun j hj=> ?_,fun j hj=> ?_,fun j k hj hk hne b=> ?_⟩
 ·unfold updB updL
  by_cases e:j=i
  ·subst e;rw [if_pos rfl,if_pos rfl];exact hr
  ·rw [if_neg e,if_neg e];exact R.keep (h.tr j hj) o fun k hk=>h.ff j i hj hi e k hk
 ·unfold updB
  split
  ·intro e
   rcases hF _ e with e | e
   ·exact h.fT i hi e
   ·omega
  ·exact h.fT j hj
 ·unfold updB
  split
  ·intro e
   rcases hF _ e with e | e
   ·exact h.fM i hi e
   ·omega
  ·exact h.fM j hj
 ·have new: ∀k,k<4→k≠i→∀b,F' b→¬Fs k b:=fun k hk hki b hb hfk=>by
   rcases hF b hb with e | e
   ·exact h.ff i k hi hk (fun e=>hki e.symm) b e hfk
   ·have:=R.lt (h.tr k hk) b hfk;omega
  unfold updB
  by_cases ej:j=i
  ·have ek:k≠i:=fun e=>hne (ej.trans e.symm)
   rw [if_pos ej,if_neg ek]
   exact new k hk ek b
  ·by_cases ek:k=i
   ·rw [if_neg ej,if_pos ek]
    exact fun h1 h2=>new j hj ej b h2 h1
   ·rw [if_neg ej,if_neg ek]
    exact h.ff j k hj hk hne b
theorem Tpq.map_ (R:RepOk Rep)(h:Tpq Rep w gT gM q Fs l m) {m':Int→Option Int}(hm:MapIq w' gM m')(o:Off (· =gM) w w'):Tpq Rep w' gT gM q Fs l m':=
 ⟨o.blk h.b h.ne,hm,fun i hi=>R.keep (h.tr i hi) o fun k hk e=>h.fM i hi (e▸hk),h.ptr,h.ne,h.fT,h.fM,h.ff⟩
theorem Tpq.cell {i:Nat}(h:Tpq Rep w gT gM q Fs l m)(hi:i<4):w.cell? ⟨gT,i,none⟩=some (q i):=by
 match i,hi with
 | 0,_=>exact h.b.get 0 rfl
 | 1,_=>exact h.b.get 1 rfl
 | 2,_=>exact h.b.get 2 rfl
 | 3,_=>exact h.b.get 3 rfl
theorem Tpq.cells {i:Nat}(h:Tpq Rep w gT gM q Fs l m)(hi:i<4): ∃a,q i= .pointer (some a)∧w.cell? ⟨gT,i,none⟩=some (.pointer (some a)):=by
 obtain⟨a,ha⟩:=h.ptr i hi
 exact⟨a,ha,by rw [h.cell hi,ha]⟩
theorem Tpq.map_cell (h:Tpq Rep w gT gM q Fs l m):w.cell? ⟨gT,4,none⟩=some (.map (some gM)):=h.b.get 4 rfl
end
def TpQq (Rep:RepT)(w:World)(p:Value)(F:Nat→Prop)(n:Nat)(Q:It→Prop):Prop:=∃gT gM q Fs l m,p= .pointer (some ⟨gT,0,none⟩)∧Tpq Rep w gT gM q Fs l m∧F=TpF gT gM Fs∧TrOk Q l∧MpOk Q m∧∀i,i<4→(l i).length≤n
def tpTq {Rep:RepT}(R:RepOk Rep)(p:Value)(n:Nat)(Q:It→Prop):Thing where
 P w F:=TpQq Rep w p F n Q
 lt:=fun⟨gT,gM,q,Fs,l,m,_,h,hF,_⟩ k hk=>by subst hF;exact h.lt R k hk
 keep:=fun⟨gT,gM,q,Fs,l,m,hp,h,hF,h1,h2,h3⟩ ho hn=>⟨gT,gM,q,Fs,l,m,hp,h.off R ho (by subst hF;exact hn),hF,h1,h2,h3⟩
def layTq (T:TypeId)(gB gL:Nat)(L:ItL):Thing where
 P w F:=Blk w gB #[.pointer (some ⟨gL,0,none⟩)]∧gB≠gL∧∃A n c,Blk w gL #[.slice A n c]∧w.ownsRow 0 T 5 (.slice A n c) n (ζ7 L)∧¬rowK A n c gB∧¬rowK A n c gL∧∀k,F k↔k=gB∨k=gL∨rowK A n c k
 lt:=fun⟨h1,_,A,n,c,h2,h3,_,_,hF⟩ k hk=>by
  rcases(hF k).1 hk with rfl | rfl | h
  ·exact h1.sz
  ·exact h2.sz
  ·exact ζk h3 h
 keep:=fun⟨h1,hne,A,n,c,h2,h3,h4,h5,hF⟩ ho hn=>⟨ho.blk h1 (hn _ ((hF _).2 (.inl rfl))),hne,A,n,c,ho.blk h2 (hn _ ((hF _).2 (.inr (.inl rfl)))),ho.own h3 fun k hk=>hn k ((hF k).2 (.inr (.inr hk))),h4,h5,hF⟩
section
variable {T:TypeId} {gB gL n c:Nat} {A A':Option Addr} {L:ItL} {w w1 wz:World} {F:Nat→Prop}
theorem lay_sameq (H:(layTq T gB gL L).P w F)(hb:Below w.heap.size w w1):(layTq T gB gL L).P w1 F∧Off F w w1∧∀k,F k→F k∨w.heap.size≤k:=
 ⟨(layTq T gB gL L).keep H (Off.of (F:=fun _=>False) hb) (fun _ _ e=>e),Off.of hb,fun _ h=> .inl h⟩
theorem lay_doneq {x:It} {c':Nat} {vB:Value} {bB:Bool}(hB:Blk w gB #[.pointer (some ⟨gL,0,none⟩)])(hne:gB≠gL)(hX:Blk w gL #[.slice A n c])(h4: ¬rowK A n c gB)(h5: ¬rowK A n c gL)(hF: ∀k,F k↔k=gB∨k=gL∨rowK A n c k)
  (hb:Below w.heap.size w w1) (hD:AppD T A n c 0 (ζ7 L) (ζ7 [x]) 5 w1 bB true vB (.slice A' (n+1) c') wz): ∃F',(layTq T gB gL (L++ [x])).P (wz.setCell ⟨gL,0,none⟩ (.slice A' (n+1) c')) F'∧Off F w (wz.setCell ⟨gL,0,none⟩ (.slice A' (n+1) c'))∧∀k,F' k→F k∨w.heap.size≤k:=by
 obtain⟨ho,g2,g3⟩:=hD.done
 have hB1:=hB.keep hb
 have hX1:=hX.keep hb
 have hs:=hb.size
 have n4: ¬rowK A' (n+1) c' gB:=fun e=>by
  rcases g3 _ e with e | e
  ·exact h4 e
  ·have:=hB1.sz;have:=hB.sz;omega
 have n5: ¬rowK A' (n+1) c' gL:=fun e=>by
  rcases g3 _ e with e | e
  ·exact h5 e
  ·have:=hX1.sz;have:=hX.sz;omega
 have hoff:Off (· =gL) wz (wz.setCell ⟨gL,0,none⟩ (.slice A' (n+1) c')):=Off.set (F:=(· =gL)) (a:=⟨gL,0,none⟩) rfl _
 refine⟨fun k=>k=gB∨k=gL∨rowK A' (n+1) c' k,⟨hoff.blk (ho.blk hB1 h4) hne,hne,A',n+1,c',?_,?_,n4,n5,fun _=>Iff.rfl⟩,?_,?_⟩
 ·have:=(ho.blk hX1 h5).set 0 (.slice A' (n+1) c')
  simpa using this
 ·rw [ζ1d]
  exact hoff.own g2 fun k hk e=>by subst e;exact n5 hk
 ·refine(Off.of (F:=F) hb).trans ((ho.mono fun k _ hk=>(hF k).2 (.inr (.inr hk))).trans (hoff.mono fun k _ hk=>(hF k).2 (.inr (.inl hk))))
 ·rintro k (hk | hk | hk)
  ·exact .inl ((hF k).2 (.inl hk))
  ·exact .inl ((hF k).2 (.inr (.inl hk)))
  ·rcases g3 k hk with h | h
   ·exact .inl ((hF k).2 (.inr (.inr h)))
   ·exact .inr (by omega)
theorem lay_extq {g j:Nat} {z1 z2 z3 b:Int} {c:Nat}(hB:Blk w gB #[.pointer (some ⟨gL,0,none⟩)])(hne:gB≠gL)(hX:Blk w gL #[.slice (some ⟨g,0,none⟩) (j+1) c])(hown:w.ownsRow 0 T 5 (.slice (some ⟨g,0,none⟩) (j+1) c) (j+1) (ζ7 L))(h4: ¬rowK (some ⟨g,0,none⟩) (j+1) c gB)(h5: ¬rowK (some ⟨g,0,none⟩) (j+1) c gL)
  (hF: ∀k,F k↔k=gB∨k=gL∨rowK (some ⟨g,0,none⟩) (j+1) c k) (hb:Below w.heap.size w w1) (hlen:L.length=j+1) (hz:L[j]? =some (z1,z2,z3)):
  ∃F',(layTq T gB gL (L.dropLast++ [(z1,b,z3)])).P (w1.setCell ⟨g,j*5+1,none⟩ (.int .i64 b)) F'∧Off F w (w1.setCell ⟨g,j*5+1,none⟩ (.int .i64 b))∧∀k,F' k→F k∨w.heap.size≤k:=by
 have hk:rowK (some ⟨g,0,none⟩) (j+1) c g:=by simp [rowK,Value.ownBlock]
 have hoff:Off (fun k=>rowK (some ⟨g,0,none⟩) (j+1) c k) w1 (w1.setCell ⟨g,j*5+1,none⟩ (.int .i64 b)):=Off.set (a:=⟨g,j*5+1,none⟩) hk _
 have hst:=(ζg hown hb).stored (j*5+1) (.int .i64 b)
 refine⟨F,⟨hoff.blk (hB.keep hb) h4,hne,_,j+1,c,hoff.blk (hX.keep hb) h5,?_,h4,h5,hF⟩,(Off.of (F:=F) hb).trans (hoff.mono fun k _ hk=>(hF k).2 (.inr (.inr hk))),fun k hk=> .inl hk⟩
 rw [show L.dropLast=L.take j by rw [List.dropLast_eq_take,hlen,Nat.add_sub_cancel],←cellsQ_set hlen hz]
 exact hst.1
end
end Corr
namespace Go.Proofs.YthagdonmijhpdaaGreat
open Go.RowKit Corr
set_option maxRecDepth 100000 in
theorem map_some_neq (gM:Nat)(w:World):(binOp BinOp.neq 161 (.map (some gM)) (.map none)).run Tryz.prog w= .ok (.bool true) w:=by
 first
 | rfl
 | kernel_rfl
theorem ζ3a (g gM:Nat)(w:World)(h:w.cell? ⟨g,4,none⟩=some (.map (some gM))):Calls Tryz.prog 64 #[.pointer (some ⟨g,0,none⟩)] w fun e w'=>e= .returned (.bool true)∧w'=w:=by
 have hq:=map_some_neq gM w
 go_enter Tryz.func64,Tryz.ntmps64
 go_wp2_with fail
 go_ret
 exact⟨rfl,rfl⟩
theorem catch_idleq (p:Addr)(w:World):CallsD Tryz.prog 116 #[.pointer (some p)] .returning w fun e u' w'=>e= .returned (.tuple #[])∧u'= .returning∧w'=w:=by
 refine callsD_of_wpS Tryz.func116 rfl fun c₀ cs hu=> ?_
 apply wpS_seq
 apply wpS_region
 simp [wpOpsS,go_sem,recoverD,hu,Tryz.ntmps116,Exit.thenS]
 refine wpS_cond (t:=false) (by simp [Act.eval,Array.replicate]) ?_
 simp only [Bool.false_eq_true,if_false]
 refine wpS_of_wp (wp_skip ?_)
 cases c₀
 simp_all [bodyPostS,results,Tryz.results116]
theorem eq_putq (x y:Int)(w:World):(binOp BinOp.eql 78 (.agg #[.int .i64 (numP x),.int .i64 (sinP x),.int .i64 (valP x)]) (.agg #[.int .i64 (numP y),.int .i64 (sinP y),.int .i64 (valP y)])).run Tryz.prog w= .ok (.bool (decide (x=y))) w:=by
 rw [←c_eq x y]
 go_simp
 by_cases h1:numP x=numP y <;> by_cases h2:sinP x=sinP y <;> by_cases h3:valP x=valP y <;> simp [h1,h2,h3]
theorem ζ4r (x y:Int)(w:World):Calls Tryz.prog 90 #[.agg #[.int .i64 (numP x),.int .i64 (sinP x),.int .i64 (valP x)],.agg #[.int .i64 (numP y),.int .i64 (sinP y),.int .i64 (valP y)]] w fun e w'=>e= .returned (.bool (decide (x=y)))∧Below w.heap.size w w':=by
 have hmf: ∀(fn:Fn) (first cap:Array Value) (w:World),(Instr.makeFunc fn first cap).run Tryz.prog w= .ok (.func fn first cap) w:=fun _ _ _ _=>rfl
 have hq:=fun w=>eq_putq x y w
 have HB:=hid (Joins.below_alloc3 w (.cells #[.int .i64 (numP x),.int .i64 (sinP x),.int .i64 (valP x)] 78) (.cells #[.int .i64 (numP y),.int .i64 (sinP y),.int .i64 (valP y)] 78) (.cells #[.bool (decide (x=y))] 4))
 go_enter_defers Tryz.func90,Tryz.ntmps90
 go_wp2
 refine leaves_cons (f:=116) (args:= #[.pointer (some ⟨w.heap.size+1+1,0,none⟩)]) (by simp) (by simp [go_sem]) ?_
 refine(catch_idleq ⟨w.heap.size+1+1,0,none⟩ _).mono ?_
 rintro e u' w'' ⟨rfl,rfl,rfl⟩
 simp [Leaves,settle,results,Tryz.results90,go_sem]
 exact HB.out
theorem elem_sgiq:Elem Tryz.prog 71 128 (.agg #[.int .i64 0,.int .i64 0,.int .i64 0,.int .i64 0,.int .i64 0]) 5 40:=by
 obtain⟨i,h0,h1,h2,h3⟩:=info_parts (show (Tryz.prog.info? 128).map (fun i=>(i.zero,i.size,i.bytes))=some (some (.agg #[.int .i64 0,.int .i64 0,.int .i64 0,.int .i64 0,.int .i64 0]),5,40) by kernel_rfl)
 exact⟨Tryz.underlying71,⟨i,h0,h1,h2,h3⟩,rfl,by decide⟩
theorem layto_anyq (a:Addr)(w:World):Calls Tryz.prog 65 #[.pointer (some a)] w fun e w'=>e= .returned (.func (.func 89) #[] #[.pointer (some ⟨w.heap.size,0,none⟩)])∧w'=w.alloc (.cells #[.pointer (some a)] 126):=by
 have hmf: ∀(fn:Fn) (first cap:Array Value) (w:World),(Instr.makeFunc fn first cap).run Tryz.prog w= .ok (.func fn first cap) w:=fun _ _ _ _=>rfl
 go_enter Tryz.func65,Tryz.ntmps65
 go_wp2_with fail
 go_ret
 exact⟨rfl,rfl⟩
def LayPq (gB gL:Nat)(L:ItL)(w:World)(F:Nat→Prop)(e:Ending)(w':World):Prop:=∃F':Nat→Prop,e= .returned (.tuple #[])∧(layTq 128 gB gL L).P w' F'∧Off F w w'∧∀k,F' k→F k∨w.heap.size≤k
theorem lay_anyq (gB gL:Nat)(L:ItL)(a b v:Int)(w:World)(F:Nat→Prop)(H:(layTq 128 gB gL L).P w F)(hL:L.length≤100000):Calls Tryz.prog 89 #[.int .i64 a,.int .i64 b,.agg #[.int .i64 (numP v),.int .i64 (sinP v),.int .i64 (valP v)],.pointer (some ⟨gB,0,none⟩)] w (LayPq gB gL (layL L a b v) w F):=by
 have hb0:=(Below.refl w.heap.size w).alloc (Nat.le_refl _) (.cells #[.int .i64 (numP v),.int .i64 (sinP v),.int .i64 (valP v)] 78)
 have hv0:=Blk.new w #[.int .i64 (numP v),.int .i64 (sinP v),.int .i64 (valP v)] 78
 have H1:=(layTq 128 gB gL L).keep H (Off.of (F:=fun _=>False) hb0) (fun _ _ e=>e)
 have HFV:=hid (fun k (hk:F k)=>(layTq 128 gB gL L).lt H k hk)
 obtain⟨wb,hwb⟩: ∃wb,w.alloc (.cells #[.int .i64 (numP v),.int .i64 (sinP v),.int .i64 (valP v)] 78)=wb:=⟨_,rfl⟩
 rw [hwb]at hb0 hv0 H1
 have HB0:=hid hb0
 suffices h:Calls Tryz.prog 89 #[.int .i64 a,.int .i64 b,.agg #[.int .i64 (numP v),.int .i64 (sinP v),.int .i64 (valP v)],.pointer (some ⟨gB,0,none⟩)] w (LayPq gB gL (layL L a b v) wb F)from
  h.mono fun e w' ⟨F',h1,h2,h3,h4⟩=>⟨F',h1,h2,(Off.of (F:=F) HB0.out).trans h3,fun k hk=>(h4 k hk).imp_right fun h=>Nat.le_trans HB0.out.size h⟩
 obtain⟨gv,hgv⟩: ∃k,w.heap.size=k:=⟨_,rfl⟩
 have HGV:=hid hgv
 have HV:=hid (show Blk wb gv #[.int .i64 (numP v),.int .i64 (sinP v),.int .i64 (valP v)]from hgv▸hv0)
 clear hv0 hgv hb0 H
 have HH:=hid H1
 obtain⟨hB,hne,A,n,c,hX,hown,h4,h5,hF⟩:=H1
 have HB:=hid hB;have HNE:=hid hne;have HX:=hid hX;have HO:=hid hown;have H4:=hid h4;have H5:=hid h5;have HF:=hid hF
 have H6:=hid (show ¬rowK A n c gv from fun e=>by have h1:=HFV.out gv ((hF gv).2 (.inr (.inr e)));have h2:=HGV.out;omega)
 have HLT:=hid (fun k (hk:rowK A n c k)=>ζk hown hk)
 have HLN:=hid (show L.length=n by have:=hown.1;rw [ζx]at this;omega)
 have b0:=hB.get 0 rfl
 have x0:=hX.get 0 rfl
 have hn:n≤100000:=by have:=HLN.out;omega
 clear hB hne hX hown h4 h5 hF hL
 by_cases hab:b≤a
 ·have HQ:=hid (show layL L a b v=L from ζ4y hab)
  have d0:decide (a≥b)=true:=decide_eq_true hab
  clear hab
  go_enter Tryz.func89,Tryz.ntmps89
  go_wp2_with fail
  refine bodyPost_ret (results_none rfl _ _ _) rfl ?_
  have h:=lay_sameq HH.out (Below.refl _ wb)
  rw [HQ.out]
  exact⟨F,rfl,h⟩
 ·have hlt:a<b:=by omega
  have d0:decide (a≥b)=false:=decide_eq_false hab
  rcases Nat.eq_zero_or_pos n with hn0 | hn0
  ·subst hn0
   have HE:=hid (show L= []from List.length_eq_zero_iff.1 HLN.out)
   have HQ:=hid (show layL L a b v=L++ [(a,b,v)] by rw [HE.out];exact layL_nil hlt)
   clear hlt hab
   go_enter Tryz.func89,Tryz.ntmps89
   go_upto_region 4 with fail
   go_quiet (fail)
   have HB1:=hid (show Below wb.heap.size wb (wb.drewN nq)from⟨rfl,rfl,rfl,Nat.le_refl _,fun _ _=>rfl⟩)
   generalize wb.drewN nq=w1 at*
   clear b0 x0 hwb
   have b0:=(HB.out.keep HB1.out).get 0 rfl
   have x0:=(HX.out.keep HB1.out).get 0 rfl
   go_upto_region 2 with fail
   rw [HGV.out]
   refine ζ3 11 (fun S val wx=>VVs 11 [(· = .pointer (some ⟨gL,0,none⟩)),(· = .pointer (some ⟨gL,0,none⟩)),(· = .pointer (some ⟨gL,0,none⟩)),(· = .slice A 0 c),(· = .int .i64 a),(· = .int .i64 b),(· = .agg #[.int .i64 (numP v),.int .i64 (sinP v),.int .i64 (valP v)]),(· = .agg #[.int .i64 a,.int .i64 b,.int .i64 (numP v),.int .i64 (sinP v),.int .i64 (valP v)]),(fun vv=>∃kb,vv= .slice (some ⟨kb,0,none⟩) 1 1),(fun vv=>∃Av cv,vv= .slice Av (0+1) cv),(· = .pointer (some ⟨gL,0,none⟩))] S val∧Clo [[],[],[1],[2],[],[],[],[4,5,6],[7],[3,8],[0]] S∧AppD 128 A 0 c 0 (ζ7 L) (ζ7 [(a,b,v)]) 5 w1 (S 8) (S 9) (val 8) (val 9) wx) [2,4,5,7,10] (by kernel_rfl) (by kernel_rfl) ⟨VVs.start,Clo.start,AppD.start (ζg HO.out HB1.out)⟩ ⟨?_,?_,?_,?_,?_,?_,?_,?_,?_,?_,?_,trivial⟩ ?_
   ·exact qL [3] fun hw=>(hw.1.blk (HB.out.keep HB1.out) H4.out).get 0 rfl
   ·exact qL [3] fun hw=>(hw.1.blk (HB.out.keep HB1.out) H4.out).get 0 rfl
   ·exact qU []
   ·exact qL [] fun hw=>(hw.1.blk (HX.out.keep HB1.out) H5.out).get 0 rfl
   ·exact qU [0]
   ·exact qU [1]
   ·exact qL [6] fun hw=>And.intro ((hw.1.blk (HV.out.keep HB1.out) H6.out).get 0 rfl) (And.intro ((hw.1.blk (HV.out.keep HB1.out) H6.out).get 1 rfl) ((hw.1.blk (HV.out.keep HB1.out) H6.out).get 2 rfl))
   ·exact qU []
   ·rintro ev wv S val hE ⟨hV,hK,hw⟩ hS hd
    have v20:ev (.tmp 20)= .agg #[.int .i64 a,.int .i64 b,.int .i64 (numP v),.int .i64 (sinP v),.int .i64 (valP v)]:=vd (hd 7 (by decide)) (hV 7 (by decide))
    refine ifw rfl (ifn rfl ?_)
    refine ζn (u:= .slice (some ⟨wv.heap.size,0,none⟩) 1 1) (w':=wv.alloc (.cells (ζ7 [(a,b,v)]).toArray 128)) ?_ ⟨VVs.add hV ⟨_,rfl⟩,ζi hK rfl hd,(show AppD _ _ _ _ _ _ _ _ _ (addS S 8 8) (addS S 8 9) (addV val 8 _ 8) (addV val 8 _ 9) _ from by simpa [addS,addV]using hw.build 128)⟩
    have e1:=hE.const;clear hE hd hw hS hV hK
    go_simp;rfl
   ·rintro ev wv S val hE ⟨hV,hK,hw⟩ hS hd
    have v16:ev (.tmp 16)= .slice A 0 c:=vd (hd 3 (by decide)) (hV 3 (by decide))
    obtain⟨kb8,g8⟩:=hV 8 (by decide) (hd 8 (by decide)).1
    have v21:ev (.tmp 21)= .slice (some ⟨kb8,0,none⟩) 1 1:=(hd 8 (by decide)).2.trans g8
    have hwA:=hw
    rw [(hd 8 (by decide)).1,hS,g8]at hwA
    obtain⟨A9,c9,w9,hr9,hD9⟩:=AppD.run (P:=Tryz.prog) (t:=71) (ty:=71) elem_sgiq hwA (fun k hk=>Nat.lt_of_lt_of_le (HLT.out k hk) HB1.out.size) (by rfl) (ζ35 _) (by omega) (by unfold maxLen;omega) (Nat.zero_le _)
    refine ifw rfl (ifn rfl ?_)
    refine ζn (u:= .slice A9 (0+1) c9) (w':=w9) ?_ ⟨VVs.add hV ⟨A9,c9,rfl⟩,ζi hK rfl hd,(by simpa [addS,addV,(hd 8 (by decide)).1,g8]using hD9)⟩
    have e1:=hE.const;clear hE hd hw hS hV hK
    unfold execOp
    simp only [resolve,invoke,builtin,Sem.run_bind,Sem.run_pure,Result.andThen_ok,List.map_toArray,List.map_cons,List.map_nil,v16,v21,hr9]
   ·exact qU []
   ·rintro S val wz hS ⟨hV,hK,hw⟩
    have e1:val 1= .pointer (some ⟨gL,0,none⟩):=hV 1 (by decide) (hS 1 (by decide))
    have e2:val 2= .pointer (some ⟨gL,0,none⟩):=hV 2 (by decide) (hS 2 (by decide))
    have e3:val 3= .slice A 0 c:=hV 3 (by decide) (hS 3 (by decide))
    obtain⟨kb8,e8⟩:=hV 8 (by decide) (hS 8 (by decide))
    obtain⟨Av9,cv9,e9⟩:=hV 9 (by decide) (hS 9 (by decide))
    refine finL hV hS ?_
    rintro _ ⟨-,rfl⟩-v1 ⟨h1,-⟩-v2 ⟨h2,-⟩-v3 ⟨h3,-⟩-
    iterate 4 rintro _ ⟨-,rfl⟩-
    rintro v8 ⟨h8,-⟩-v9 ⟨h9,-⟩-_ ⟨-,rfl⟩-
    simp only [zA]
    simp only [h1.trans e1,h2.trans e2,h3.trans e3,h8.trans e8,h9.trans e9]
    clear hV h1 e1 v1 h2 e2 v2 h3 e3 v3 h8 v8 h9 v9
    change wpList Tryz.prog _ _ _ _ wz
    rw [hS 8 (by decide),hS 9 (by decide),e8,e9]at hw
    have HD:=hid hw
    have hxz:=(hw.1.blk (HX.out.keep HB1.out) H5.out)
    have y0:=hxz.get 0 rfl
    have z0:=hxz.f 0
    clear hw hxz hS hK e8 e9 val S
    go_wp2_with fail
    refine ζ2 ?_
    go_wp2_with fail
    refine bodyPost_ret (results_none rfl _ _ _) rfl ?_
    rw [HQ.out]
    obtain⟨F',h1,h2,h3⟩:=lay_doneq HB.out HNE.out HX.out H4.out H5.out HF.out HB1.out HD.out
    exact⟨F',rfl,h1,h2,h3⟩
  ·obtain⟨j,rfl⟩: ∃j,n=j+1:=⟨n-1,by omega⟩
   rcases Joins.ownsRow_forms HO.out with⟨_,h0⟩ | ⟨g3,d3,hv3⟩
   ·cases h0
   ·injection hv3 with e1 _ e3
    subst e1 e3
    obtain⟨s,hs0,hs1,hs2⟩:=lastI HLN.out
    obtain⟨z1,z2,z3⟩:=s
    have k2:wb.cell? ⟨g3,j*5+2,none⟩=some (.int .i64 (numP z3)):=by rw [HO.out.cellAt _ (by omega)];exact(ζ2q hs0).2.2.1
    have k3:wb.cell? ⟨g3,j*5+3,none⟩=some (.int .i64 (sinP z3)):=by rw [HO.out.cellAt _ (by omega)];exact(ζ2q hs0).2.2.2.1
    have k4:wb.cell? ⟨g3,j*5+4,none⟩=some (.int .i64 (valP z3)):=by rw [HO.out.cellAt _ (by omega)];exact(ζ2q hs0).2.2.2.2
    have K2:=hid k2;have K3:=hid k3;have K4:=hid k4
    have HG3:=hid (show g3<wb.heap.size from HLT.out g3 (by simp [rowK,Value.ownBlock]))
    have HZ:=hid hs0
    clear k2 k3 k4
    by_cases p1:z3=v
    ·have HQ:=hid (layL_ext hlt hs1 p1)
     have HD1:=hid (show decide (z3=v)=true by simpa using p1)
     clear hs0 hs1 hs2 p1 hlt hab
     go_enter Tryz.func89,Tryz.ntmps89
     go_upto_region 4 with fail
     rw [HGV.out]
     clear hwb
     refine ζ4 14 (Ext wb)
      (fun iV=>List.getD [VE (.int .i64 (j:Int)),VE (.bool true),VE (.bool true),VE (.pointer (some ⟨gL,0,none⟩)),VE (.pointer (some ⟨gL,0,none⟩)),VE (.slice (some ⟨g3,0,none⟩) (j+1) c),VE (.int .i64 (j:Int)),VE (.pointer (some ⟨g3,j*5,none⟩)),VE (.pointer (some ⟨g3,j*5+2,none⟩)),VE (.agg #[.int .i64 (numP z3),.int .i64 (sinP z3),.int .i64 (valP z3)]),VE (.agg #[.int .i64 (numP v),.int .i64 (sinP v),.int .i64 (valP v)]),VE (.bool true),VE (.bool true),VE (.bool true)] iV (fun _ _=>False)) [] [0,1,2,4,6,7,8,12,13] (by kernel_rfl) (by kernel_rfl) (Ext.start wb) (fun _ _ h hb=>h.grow hb)
      stA ⟨?_,?_,?_,?_,?_,?_,?_,?_,?_,?_,?_,?_,?_,?_,trivial⟩ ?_
     ·exact rU [7]
     ·exact rU []
     ·exact rU []
     ·intro ev wv hE hw hd
      have kx:=(HB.out.keep hw).get 0 rfl
      exact rM [3] hE hd
     ·exact rG []
     ·intro ev wv hE hw hd
      have kx:=(HX.out.keep hw).get 0 rfl
      exact rM [] hE hd
     ·exact rG [7]
     ·intro ev wv hE hw hd
      have vg:ev (.tmp 31)= .bool true:=hd 2 (by decide)
      refine ifw (by show (yv (ev (.tmp 31)) == some true)=true;rw [vg];rfl) (ifw rfl ?_)
      clear vg
      have v34:ev (.tmp 34)= .slice (some ⟨g3,0,none⟩) (j+1) c:=hd 5 (by decide)
      have v35:ev (.tmp 35)= .int .i64 (j:Int):=hd 6 (by decide)
      refine⟨.pointer (some ⟨g3,j*5,none⟩),fun w=> ?_,rfl⟩
      obtain⟨e1,-,e2,-⟩:=hE;clear hd hw
      go_simp
      intro h9
      omega
     ·exact rG []
     ·intro ev wv hE hw hd
      have k2:=(Below.cell hw HG3.out).trans K2.out
      have k3:=(Below.cell hw HG3.out).trans K3.out
      have k4:=(Below.cell hw HG3.out).trans K4.out
      exact rM [] hE hd
     ·intro ev wv hE hw hd
      have k0:=(HV.out.keep hw).get 0 rfl
      have k1:=(HV.out.keep hw).get 1 rfl
      have k2:=(HV.out.keep hw).get 2 rfl
      exact rM [6] hE hd
     ·intro ev wv hE hw hd
      refine rC (f:=90) (args:= #[.agg #[.int .i64 (numP z3),.int .i64 (sinP z3),.int .i64 (valP z3)],.agg #[.int .i64 (numP v),.int .i64 (sinP v),.int .i64 (valP v)]]) [] hE hd (ζ4r z3 v _) ?_
      rintro e w' ⟨rfl,hb⟩
      exact⟨_,rfl,hb,(by rw [HD1.out];rfl),fun h=>by cases h⟩
     ·exact rU []
     ·exact rU []
     ·intro w1 hw
      iterate 14 rintro _ rfl _
      simp only [zA]
      change wpList Tryz.prog _ _ _ _ w1
      have HB1:=hid (show Below wb.heap.size wb w1 from hw)
      have b1:=(HB.out.keep hw).get 0 rfl
      have x1:=(HX.out.keep hw).get 0 rfl
      have k1:w1.cell? ⟨g3,j*5+1,none⟩=some (.int .i64 z2):=by rw [(ζg HO.out hw).cellAt _ (by omega)];exact(ζ2q HZ.out).2.1
      have f1:w1.frozen? ⟨g3,j*5+1,none⟩=false:=(ζg HO.out hw).frozenAt _
      clear hw b0 x0
      refine ζ2 ?_
      go_wp2_with fail
      refine bodyPost_ret (results_none rfl _ _ _) rfl ?_
      have h:=lay_extq (b:=b) HB.out HNE.out HX.out HO.out H4.out H5.out HF.out HB1.out HLN.out HZ.out
      rw [HQ.out]
      obtain⟨F',h1,h2,h3⟩:=h
      exact⟨F',rfl,h1,h2,h3⟩
    ·have HQ:=hid (layL_new hlt hs1 p1)
     have HD1:=hid (show decide (z3=v)=false by simpa using p1)
     clear hs0 hs1 hs2 p1 hlt hab
     go_enter Tryz.func89,Tryz.ntmps89
     go_upto_region 4 with fail
     rw [HGV.out]
     clear hwb
     refine ζ4 14 (Ext wb)
      (fun iV=>List.getD [VE (.int .i64 (j:Int)),VE (.bool true),VE (.bool true),VE (.pointer (some ⟨gL,0,none⟩)),VE (.pointer (some ⟨gL,0,none⟩)),VE (.slice (some ⟨g3,0,none⟩) (j+1) c),VE (.int .i64 (j:Int)),VE (.pointer (some ⟨g3,j*5,none⟩)),VE (.pointer (some ⟨g3,j*5+2,none⟩)),VE (.agg #[.int .i64 (numP z3),.int .i64 (sinP z3),.int .i64 (valP z3)]),VE (.agg #[.int .i64 (numP v),.int .i64 (sinP v),.int .i64 (valP v)]),VE (.bool false),VE (.bool false),VE (.bool false)] iV (fun _ _=>False)) [] [0,1,2,4,6,7,8,12,13] (by kernel_rfl) (by kernel_rfl) (Ext.start wb) (fun _ _ h hb=>h.grow hb)
      stA ⟨?_,?_,?_,?_,?_,?_,?_,?_,?_,?_,?_,?_,?_,?_,trivial⟩ ?_
     ·exact rU [7]
     ·exact rU []
     ·exact rU []
     ·intro ev wv hE hw hd
      have kx:=(HB.out.keep hw).get 0 rfl
      exact rM [3] hE hd
     ·exact rG []
     ·intro ev wv hE hw hd
      have kx:=(HX.out.keep hw).get 0 rfl
      exact rM [] hE hd
     ·exact rG [7]
     ·intro ev wv hE hw hd
      have vg:ev (.tmp 31)= .bool true:=hd 2 (by decide)
      refine ifw (by show (yv (ev (.tmp 31)) == some true)=true;rw [vg];rfl) (ifw rfl ?_)
      clear vg
      have v34:ev (.tmp 34)= .slice (some ⟨g3,0,none⟩) (j+1) c:=hd 5 (by decide)
      have v35:ev (.tmp 35)= .int .i64 (j:Int):=hd 6 (by decide)
      refine⟨.pointer (some ⟨g3,j*5,none⟩),fun w=> ?_,rfl⟩
      obtain⟨e1,-,e2,-⟩:=hE;clear hd hw
      go_simp
      intro h9
      omega
     ·exact rG []
     ·intro ev wv hE hw hd
      have k2:=(Below.cell hw HG3.out).trans K2.out
      have k3:=(Below.cell hw HG3.out).trans K3.out
      have k4:=(Below.cell hw HG3.out).trans K4.out
      exact rM [] hE hd
     ·intro ev wv hE hw hd
      have k0:=(HV.out.keep hw).get 0 rfl
      have k1:=(HV.out.keep hw).get 1 rfl
      have k2:=(HV.out.keep hw).get 2 rfl
      exact rM [6] hE hd
     ·intro ev wv hE hw hd
      refine rC (f:=90) (args:= #[.agg #[.int .i64 (numP z3),.int .i64 (sinP z3),.int .i64 (valP z3)],.agg #[.int .i64 (numP v),.int .i64 (sinP v),.int .i64 (valP v)]]) [] hE hd (ζ4r z3 v _) ?_
      rintro e w' ⟨rfl,hb⟩
      exact⟨_,rfl,hb,(by rw [HD1.out];rfl),fun h=>by cases h⟩
     ·exact rU []
     ·exact rU []
     ·intro w1 hw
      iterate 14 rintro _ rfl _
      simp only [zA]
      change wpList Tryz.prog _ _ _ _ w1
      have HB1:=hid (show Below wb.heap.size wb w1 from hw)
      clear hw b0 x0
      refine ζ2 ?_
      go_upto_region 2 with fail
      refine ζ3 11 (fun S val wx=>VVs 11 [(· = .pointer (some ⟨gL,0,none⟩)),(· = .pointer (some ⟨gL,0,none⟩)),(· = .pointer (some ⟨gL,0,none⟩)),(· = .slice (some ⟨g3,0,none⟩) (j+1) c),(· = .int .i64 a),(· = .int .i64 b),(· = .agg #[.int .i64 (numP v),.int .i64 (sinP v),.int .i64 (valP v)]),(· = .agg #[.int .i64 a,.int .i64 b,.int .i64 (numP v),.int .i64 (sinP v),.int .i64 (valP v)]),(fun vv=>∃kb,vv= .slice (some ⟨kb,0,none⟩) 1 1),(fun vv=>∃Av cv,vv= .slice Av ((j+1)+1) cv),(· = .pointer (some ⟨gL,0,none⟩))] S val∧Clo [[],[],[1],[2],[],[],[],[4,5,6],[7],[3,8],[0]] S∧AppD 128 (some ⟨g3,0,none⟩) (j+1) c 0 (ζ7 L) (ζ7 [(a,b,v)]) 5 w1 (S 8) (S 9) (val 8) (val 9) wx) [2,4,5,7,10] (by kernel_rfl) (by kernel_rfl) ⟨VVs.start,Clo.start,AppD.start (ζg HO.out HB1.out)⟩ ⟨?_,?_,?_,?_,?_,?_,?_,?_,?_,?_,?_,trivial⟩ ?_
      ·exact qL [3] fun hw=>(hw.1.blk (HB.out.keep HB1.out) H4.out).get 0 rfl
      ·exact qL [3] fun hw=>(hw.1.blk (HB.out.keep HB1.out) H4.out).get 0 rfl
      ·exact qU []
      ·exact qL [] fun hw=>(hw.1.blk (HX.out.keep HB1.out) H5.out).get 0 rfl
      ·exact qU [0]
      ·exact qU [1]
      ·exact qL [6] fun hw=>And.intro ((hw.1.blk (HV.out.keep HB1.out) H6.out).get 0 rfl) (And.intro ((hw.1.blk (HV.out.keep HB1.out) H6.out).get 1 rfl) ((hw.1.blk (HV.out.keep HB1.out) H6.out).get 2 rfl))
      ·exact qU []
      ·rintro ev wv S val hE ⟨hV,hK,hw⟩ hS hd
       have v20:ev (.tmp 20)= .agg #[.int .i64 a,.int .i64 b,.int .i64 (numP v),.int .i64 (sinP v),.int .i64 (valP v)]:=vd (hd 7 (by decide)) (hV 7 (by decide))
       refine ifw rfl (ifn rfl ?_)
       refine ζn (u:= .slice (some ⟨wv.heap.size,0,none⟩) 1 1) (w':=wv.alloc (.cells (ζ7 [(a,b,v)]).toArray 128)) ?_ ⟨VVs.add hV ⟨_,rfl⟩,ζi hK rfl hd,(show AppD _ _ _ _ _ _ _ _ _ (addS S 8 8) (addS S 8 9) (addV val 8 _ 8) (addV val 8 _ 9) _ from by simpa [addS,addV]using hw.build 128)⟩
       have e1:=hE.const;clear hE hd hw hS hV hK
       go_simp;rfl
      ·rintro ev wv S val hE ⟨hV,hK,hw⟩ hS hd
       have v16:ev (.tmp 16)= .slice (some ⟨g3,0,none⟩) (j+1) c:=vd (hd 3 (by decide)) (hV 3 (by decide))
       obtain⟨kb8,g8⟩:=hV 8 (by decide) (hd 8 (by decide)).1
       have v21:ev (.tmp 21)= .slice (some ⟨kb8,0,none⟩) 1 1:=(hd 8 (by decide)).2.trans g8
       have hwA:=hw
       rw [(hd 8 (by decide)).1,hS,g8]at hwA
       obtain⟨A9,c9,w9,hr9,hD9⟩:=AppD.run (P:=Tryz.prog) (t:=71) (ty:=71) elem_sgiq hwA (fun k hk=>Nat.lt_of_lt_of_le (HLT.out k hk) HB1.out.size) (by rfl) (ζ35 _) (by omega) (by unfold maxLen;omega) (Nat.zero_le _)
       refine ifw rfl (ifn rfl ?_)
       refine ζn (u:= .slice A9 ((j+1)+1) c9) (w':=w9) ?_ ⟨VVs.add hV ⟨A9,c9,rfl⟩,ζi hK rfl hd,(by simpa [addS,addV,(hd 8 (by decide)).1,g8]using hD9)⟩
       have e1:=hE.const;clear hE hd hw hS hV hK
       unfold execOp
       simp only [resolve,invoke,builtin,Sem.run_bind,Sem.run_pure,Result.andThen_ok,List.map_toArray,List.map_cons,List.map_nil,v16,v21,hr9]
      ·exact qU []
      ·rintro S val wz hS ⟨hV,hK,hw⟩
       have e1:val 1= .pointer (some ⟨gL,0,none⟩):=hV 1 (by decide) (hS 1 (by decide))
       have e2:val 2= .pointer (some ⟨gL,0,none⟩):=hV 2 (by decide) (hS 2 (by decide))
       have e3:val 3= .slice (some ⟨g3,0,none⟩) (j+1) c:=hV 3 (by decide) (hS 3 (by decide))
       obtain⟨kb8,e8⟩:=hV 8 (by decide) (hS 8 (by decide))
       obtain⟨Av9,cv9,e9⟩:=hV 9 (by decide) (hS 9 (by decide))
       refine finL hV hS ?_
       rintro _ ⟨-,rfl⟩-v1 ⟨h1,-⟩-v2 ⟨h2,-⟩-v3 ⟨h3,-⟩-
       iterate 4 rintro _ ⟨-,rfl⟩-
       rintro v8 ⟨h8,-⟩-v9 ⟨h9,-⟩-_ ⟨-,rfl⟩-
       simp only [zA]
       simp only [h1.trans e1,h2.trans e2,h3.trans e3,h8.trans e8,h9.trans e9]
       clear hV h1 e1 v1 h2 e2 v2 h3 e3 v3 h8 v8 h9 v9
       change wpList Tryz.prog _ _ _ _ wz
       rw [hS 8 (by decide),hS 9 (by decide),e8,e9]at hw
       have HD:=hid hw
       have hxz:=(hw.1.blk (HX.out.keep HB1.out) H5.out)
       have y0:=hxz.get 0 rfl
       have z0:=hxz.f 0
       clear hw hxz hS hK e8 e9 val S
       go_wp2_with fail
       refine ζ2 ?_
       go_wp2_with fail
       refine bodyPost_ret (results_none rfl _ _ _) rfl ?_
       rw [HQ.out]
       obtain⟨F',h1,h2,h3⟩:=lay_doneq HB.out HNE.out HX.out H4.out H5.out HF.out HB1.out HD.out
       exact⟨F',rfl,h1,h2,h3⟩
end Go.Proofs.YthagdonmijhpdaaGreat

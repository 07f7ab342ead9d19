/- What the laws of package timeline ask of it, said of the values of days -/
import Derived.Test.YthagdonmijhpdaaGreatRow4
import Derived.Test.YthagdonmijhpdaaGreatRowRel
import Derived.Test.YthagdonmijhpdaaGreatTl4
import Derived.BigQuiet
set_option linter.unusedSimpArgs false
set_option linter.unusedVariables false
namespace Corr
open Go Go.RowKit
structure Off (F:Nat→Prop)(w w':World):Prop where
 os:w'.os=w.os
 tape:w'.tape=w.tape
 output:w'.output=w.output
 size:w.heap.size≤w'.heap.size
 block: ∀k,k<w.heap.size→¬F k→w'.heap[k]? =w.heap[k]?
section
variable {F F':Nat→Prop} {w w' w'':World}
theorem Off.refl (F:Nat→Prop)(w:World):Off F w w:=⟨rfl,rfl,rfl,Nat.le_refl _,fun _ _ _=>rfl⟩
theorem Off.of (h:Below w.heap.size w w'):Off F w w':=⟨h.os,h.tape,h.output,h.size,fun k hk _=>h.block k hk⟩
theorem Off.mono (h:Off F w w')(hF: ∀k,k<w.heap.size→F k→F' k):Off F' w w':=⟨h.os,h.tape,h.output,h.size,fun k hk hn=>h.block k hk fun e=>hn (hF k hk e)⟩
theorem Off.trans (h:Off F w w')(h':Off F w' w''):Off F w w'':=
 ⟨h'.os.trans h.os,h'.tape.trans h.tape,h'.output.trans h.output,Nat.le_trans h.size h'.size,fun k hk hn=>(h'.block k (Nat.lt_of_lt_of_le hk h.size) hn).trans (h.block k hk hn)⟩
theorem Off.below {B:Nat}(h:Off F w w')(hB:B≤w.heap.size)(hF: ∀k,F k→B≤k):Below B w w':=
 ⟨h.os,h.tape,h.output,h.size,fun k hk=>h.block k (by omega) fun e=>by have:=hF k e;omega⟩
theorem Off.set {a:Addr}(hF:F a.block)(u:Value):Off F w (w.setCell a u):=
 ⟨rfl,rfl,rfl,by simp [World.setCell],fun k hk hn=>Below.heap_setCell _ _ _ _ fun e=>hn (e▸hF)⟩
theorem Off.cell (h:Off F w w') {p:Addr}(hp:p.block<w.heap.size)(hn: ¬F p.block):w'.cell? p=w.cell? p:=by
 unfold World.cell?;rw [h.block _ hp hn]
theorem Off.blk (h:Off F w w') {k:Nat} {vs:Array Value}(B:Blk w k vs)(hn: ¬F k):Blk w' k vs:=by
 have hk:=B.sz
 obtain⟨T,hb⟩:=B.blk
 exact⟨T,(h.block k hk hn).trans hb⟩
def rowIn (A:Option Addr)(n:Nat)(P:Nat→Prop):Prop:=0<n→∀a,A=some a→P a.block
theorem Off.lies (h:Off F w w') {sz n c:Nat} {A:Option Addr} {xs:List Value}(L:Lies w sz A n c xs)(hn:rowIn A n fun k=>¬F k):Lies w' sz A n c xs:=
 ⟨L.len,L.cap,fun h0=>by
  obtain⟨g,off,hA,hg,hc⟩:=L.at_ h0
  exact⟨g,off,hA,Nat.lt_of_lt_of_le hg h.size,fun i v hv=>(h.cell (p:=⟨g,off+i,none⟩) hg (hn h0 ⟨g,off,none⟩ hA)).trans (hc i v hv)⟩⟩
theorem Off.own (h:Off F w w') {B e size n:Nat} {v:Value} {xs:List Value}(O:w.ownsRow B e size v n xs)(hn: ∀k,v.ownBlock=some k→¬F k):w'.ownsRow B e size v n xs:=by
 obtain⟨hl,h' | ⟨g,cap,cur,rfl,hg,hh,hc⟩⟩:=O
 ·exact⟨hl,.inl h'⟩
 ·exact⟨hl,.inr ⟨g,cap,cur,rfl,hg,by rw [h.block g (Array.getElem?_eq_some_iff.1 hh).1 (hn g (by simp [Value.ownBlock]))];exact hh,hc⟩⟩
theorem ζk {w:World} {B e size n:Nat} {v:Value} {xs:List Value}(O:w.ownsRow B e size v n xs) {k:Nat}(hk:v.ownBlock=some k):k<w.heap.size:=by
 obtain⟨_,h' | ⟨g,cap,cur,rfl,hg,hh,hc⟩⟩:=O
 ·rw [h'.1]at hk;cases hk
 ·have:g=k:=by simpa [Value.ownBlock]using hk
  subst this
  exact(Array.getElem?_eq_some_iff.1 hh).1
end
theorem Off.later {F:Nat→Prop} {w w' w'':World}(h:Off F w w')(hb:Below w'.heap.size w' w''):Off F w w'':=h.trans (Off.of hb)
theorem Off.drew {F:Nat→Prop} {w w':World}(h:Off F w w'):Off F w w'.drew:=h.later ((Below.refl _ _).drew)
theorem Off.less {F G:Nat→Prop} {w w':World}(h:Off F w w')(hF: ∀k,F k→G k∨w.heap.size≤k):Off G w w':=h.mono fun k hk hf=>(hF k hf).resolve_right (by omega)
theorem Off.put {F:Nat→Prop} {w w':World}(h:Off F w w')(a:Addr)(ha:F a.block∨w.heap.size≤a.block)(u:Value):Off F w (w'.setCell a u):=
 ⟨h.os,h.tape,h.output,by simpa [World.setCell]using h.size,fun k hk hn=>(Below.heap_setCell _ _ _ _ fun e=>by
  rcases ha with ha | ha
  ·exact hn (e▸ha)
  ·omega).trans (h.block k hk hn)⟩
theorem run_app2 {P:Program} {w:World} {base n m c size bytes:Nat} {t ty e:TypeId} {z v:Value} {xs ys:List Value} {ad:Addr}(E:Elem P t e z size bytes)(hown:w.ownsRow base e size v n xs)
  (hl:ys.length=m*size) (hc: ∀(j:Nat) (u:Value),ys[j]? =some u→w.cell? (ad.add j)=some u) (h1: ∀u∈ys,u.oneCell'=true)
  (hn:(n+m)*bytes≤140737488355328) (hm:n+m≤maxLen) (hb:base≤w.heap.size):
  ∃v' w',(Builtin.append_ #[t,t] ty #[v,.slice (some ad) m c]).run P w= .ok v' w'∧w'.ownsRow base e size v' (n+m) (xs++ys)∧w.grownBy w' v.ownBlock∧∀k,v'.ownBlock=some k→v.ownBlock=some k∨w.heap.size≤k:=by
 obtain⟨i,hi,hz,hs,hby⟩:=E.info
 obtain⟨v',w',hr,h2,h3,_⟩:=run_append_own (P:=P) w base t ty e i z size bytes E.ty hi hz hs hby E.zs E.pos v n xs hown ad m c ys hl hc h1 hm hn hb
 refine⟨v',w',hr,h2,h3,fun k hk=> ?_⟩
 rcases hown.2 with⟨rfl,rfl⟩ | ⟨g,cap,cur,rfl,_,hg,hnc,_,hcs,_⟩
 ·right
  have hx:xs= []:=List.eq_nil_of_length_eq_zero (by simpa using hown.1)
  subst hx
  obtain⟨v2,w2,hr2,h4,_⟩:=run_append_own (P:=P) w w.heap.size t ty e i z size bytes E.ty hi hz hs hby E.zs E.pos (.slice none 0 0) 0 [] (World.ownsRow_nil _ _ _ _) ad m c ys hl hc h1 hm hn (Nat.le_refl _)
  rw [hr]at hr2
  injection hr2 with e1 _
  subst e1
  exact ζ1c h4 k hk
 ·have hlt:g<w.heap.size:=(Array.getElem?_eq_some_iff.1 hg).1
  subst hs
  by_cases hroom:n+m≤cap
  ·left
   have hr2:=run_append_room (P:=P) w t ty e i E.ty hi g n cap cur hg ad m c ys hl hc h1 hroom (by rw [hl,hcs,←Nat.add_mul];exact Nat.mul_le_mul_right _ hroom)
   rw [hr]at hr2
   injection hr2 with e1 _
   subst e1
   simpa [Value.ownBlock]using hk
  ·right
   subst hby
   have hr2:=run_append_grow (P:=P) w t ty e i z E.ty hi hz ⟨g,0,none⟩ n cap xs hown.1 (hown.cells (g:=g) rfl) ad m c ys hl hc (by omega) (by simp only [maxLen]at hm;omega) (growslice_fits (by omega) hn)
   rw [hr]at hr2
   injection hr2 with e1 _
   subst e1
   simp [Value.ownBlock]at hk
   omega
theorem wpList_app2 {P:Program} {ops:Array Oper} {rest:List Oper} {o:Oper} {a:Act} {w:World} {Q:Exit→Act→World→Prop}(hgd:o.guard=none)(s x:Operand)(t:TypeId)
  (ho:o.op= .call { callee:= .builtin .append,args:= #[s,x],argTypes:= #[t,t] })
  {base n m c size bytes:Nat} {e:TypeId} {z v:Value} {xs:List Value} (ys:List Value) {ad:Addr} (E:Elem P t e z size bytes) (hs:a.eval s=v) (hown:w.ownsRow base e size v n xs)
  (hx:a.eval x= .slice (some ad) m c) (hl:ys.length=m*size) (hc: ∀(j:Nat) (u:Value),ys[j]? =some u→w.cell? (ad.add j)=some u) (h1: ∀u∈ys,u.oneCell'=true)
  (hn:(n+m)*bytes≤140737488355328) (hm:n+m≤maxLen) (hb:base≤w.heap.size)
  (h: ∀v' w',w'.ownsRow base e size v' (n+m) (xs++ys)→w.grownBy w' v.ownBlock→(∀k,v'.ownBlock=some k→v.ownBlock=some k∨w.heap.size≤k)→wpList P ops Q rest (a.put o.dst v') w'):wpList P ops Q (o :: rest) a w:=by
 refine wpList_plain hgd fun K hK=> ?_
 obtain⟨v',w',hr,h2,h3,h4⟩:=run_app2 (ty:=o.type) (c:=c) E hown hl hc h1 hn hm hb
 unfold Oper.wp execOp
 simp only [ho,resolve,invoke,builtin,Sem.run_bind,Sem.run_pure,Result.andThen_ok,List.map_toArray,List.map_cons,List.map_nil,hs,hx,hr]
 exact hK _ _ (h _ _ h2 h3 h4)
theorem Off.grown {w w':World} {v:Value}(h:w.grownBy w' v.ownBlock):Off (fun k=>v.ownBlock=some k) w w':=⟨h.os,h.tape,h.output,h.size,fun k hk hn=>h.block k hk fun e=>hn e.symm⟩
theorem step_app2 {P:Program} {ops:Array Oper} {o:Oper} {a:Act} {w:World} {K:Act→World→Prop} {Q:Exit→Act→World→Prop} {Z:Prop}(hgd:o.guard=none)(s x:Operand)(t:TypeId)
  (ho:o.op= .call { callee:= .builtin .append,args:= #[s,x],argTypes:= #[t,t] })
  {base n m c size bytes:Nat} {e:TypeId} {z v:Value} {xs:List Value} (ys:List Value) {ad:Addr} (E:Elem P t e z size bytes) (hs:a.eval s=v) (hown:w.ownsRow base e size v n xs)
  (hx:a.eval x= .slice (some ad) m c) (hl:ys.length=m*size) (hc: ∀(j:Nat) (u:Value),ys[j]? =some u→w.cell? (ad.add j)=some u) (h1: ∀u∈ys,u.oneCell'=true)
  (hn:(n+m)*bytes≤140737488355328) (hm:n+m≤maxLen) (hb:base≤w.heap.size)
  (h: ∀v' w',w'.ownsRow base e size v' (n+m) (xs++ys)→w.grownBy w' v.ownBlock→(∀k,v'.ownBlock=some k→v.ownBlock=some k∨w.heap.size≤k)→K (a.put o.dst v') w'):
  if Region.wanted o (yielded ops a.tmps)=true then Oper.wp P o a w K Q else Z:=by
 have hw:Region.wanted o (yielded ops a.tmps)=true:=by simp [Region.wanted,hgd]
 rw [if_pos hw]
 obtain⟨v',w',hr,h2,h3,h4⟩:=run_app2 (ty:=o.type) (c:=c) E hown hl hc h1 hn hm hb
 unfold Oper.wp execOp
 simp only [ho,resolve,invoke,builtin,Sem.run_bind,Sem.run_pure,Result.andThen_ok,List.map_toArray,List.map_cons,List.map_nil,hs,hx,hr]
 exact h _ _ h2 h3 h4
structure Thing where
 P:World→(Nat→Prop)→Prop
 lt: ∀ {w F},P w F→∀k,F k→k<w.heap.size
 keep: ∀ {w w' F G},P w F→Off G w w'→(∀k,F k→¬G k)→P w' F
def Sep (w0:World)(ts:List Thing)(w:World):Prop:=∃Fs:Nat→Nat→Prop,(∀(i:Nat) (t:Thing),ts[i]? =some t→t.P w (Fs i))∧(∀i j,i<ts.length→j<ts.length→i≠j→∀k,Fs i k→¬Fs j k)∧(∀i,i<ts.length→∀k,Fs i k→w0.heap.size≤k)∧Below w0.heap.size w0 w
section
variable {w0 w w':World} {ts:List Thing}
theorem Sep.nil (w:World):Sep w [] w:=⟨fun _ _=>False,fun _ _ h=>by simp at h,fun _ _ h=>by simp at h,fun _ h=>by simp at h,Below.refl _ _⟩
theorem Sep.of (hb:Below w0.heap.size w0 w):Sep w0 [] w:=⟨fun _ _=>False,fun _ _ h=>by simp at h,fun _ _ h=>by simp at h,fun _ h=>by simp at h,hb⟩
theorem Sep.bl (h:Sep w0 ts w):Below w0.heap.size w0 w:=by obtain⟨_,_,_,_,h⟩:=h;exact h
theorem ζh {t:Thing} {i:Nat}(h:ts[i]? =some t):i<ts.length:=(List.getElem?_eq_some_iff.1 h).1
theorem Sep.get (h:Sep w0 ts w) {i:Nat} {t:Thing}(hi:ts[i]? =some t): ∃F,t.P w F∧(∀k,F k→w0.heap.size≤k)∧
  ∀(w':World) (F':Nat→Prop) (t':Thing),Off F w w'→t'.P w' F'→(∀k,F' k→F k∨w.heap.size≤k)→Sep w0 (ts.set i t') w':=by
 obtain⟨Fs,h1,h2,h3,h4⟩:=h
 have hil:=ζh hi
 refine⟨Fs i,h1 i t hi,h3 i hil,fun w' F' t' ho hp hF=> ?_⟩
 refine⟨fun j=>if j=i then F' else Fs j,fun j u hj=> ?_,fun j k hj hk hjk b=> ?_,fun j hj k=> ?_,h4.trans (ho.below h4.size (h3 i hil))⟩
 ·by_cases e:j=i
  ·subst e
   rw [List.getElem?_set_self hil]at hj
   obtain rfl:=Option.some.inj hj
   simpa using hp
  ·rw [List.getElem?_set_ne (fun e'=>e e'.symm)]at hj
   have:=u.keep (h1 j u hj) ho (h2 j i (ζh hj) hil e)
   simpa [e]using this
 ·rw [List.length_set]at hj hk
  have hd: ∀j,j<ts.length→j≠i→∀b,F' b→¬Fs j b:=by
   intro j hj hji b hb hfj
   rcases hF b hb with h | h
   ·exact h2 i j hil hj (fun e=>hji e.symm) b h hfj
   ·have:=(ts[j]).lt (h1 j _ (List.getElem?_eq_getElem hj)) b hfj
    omega
  by_cases ej:j=i
  ·have ek:k≠i:=fun e=>hjk (ej.trans e.symm)
   simp only [ej,ek,if_true,if_false]
   exact hd k hk ek b
  ·by_cases ek:k=i
   ·simp only [ej,ek,if_true,if_false]
    exact fun h1 h2=>hd j hj ej b h2 h1
   ·simp only [ej,ek,if_false]
    exact h2 j k hj hk hjk b
 ·rw [List.length_set]at hj
  by_cases ej:j=i
  ·simp only [ej,if_true]
   intro h
   rcases hF k h with h | h
   ·exact h3 i hil k h
   ·exact Nat.le_trans h4.size h
  ·simp only [ej,if_false]
   exact h3 j hj k
theorem Sep.keep (h:Sep w0 ts w)(hb:Below w.heap.size w w'):Sep w0 ts w':=by
 obtain⟨Fs,h1,h2,h3,h4⟩:=h
 exact⟨Fs,fun i t hi=>t.keep (h1 i t hi) (Off.of (F:=fun _=>False) hb) (fun _ _ e=>e),h2,h3,h4.trans (hb.mono h4.size)⟩
theorem Sep.add (h:Sep w0 ts w)(hb:Below w.heap.size w w') {t:Thing} {F:Nat→Prop}(hp:t.P w' F)(hF: ∀k,F k→w.heap.size≤k):Sep w0 (ts++ [t]) w':=by
 obtain⟨Fs0,g1,h2,h3,g4⟩:=h
 have hlt: ∀i,i<ts.length→∀k,Fs0 i k→k<w.heap.size:=fun i hi k hk=>(ts[i]).lt (g1 i _ (List.getElem?_eq_getElem hi)) k hk
 refine⟨fun j=>if j=ts.length then F else Fs0 j,fun j u hj=> ?_,fun j k hj hk hjk b=> ?_,fun j hj k=> ?_,g4.trans (hb.mono g4.size)⟩
 ·by_cases e:j=ts.length
  ·subst e
   rw [List.getElem?_append_right (Nat.le_refl _)]at hj
   obtain rfl:t=u:=by simpa using hj
   simpa using hp
  ·have hjl:j<ts.length:=by have:=ζh hj;simp at this;omega
   rw [List.getElem?_append_left hjl]at hj
   have:=u.keep (g1 j u hj) (Off.of (F:=fun _=>False) hb) (fun _ _ e=>e)
   simpa [e]using this
 ·rw [List.length_append,List.length_singleton]at hj hk
  by_cases ej:j=ts.length
  ·have ek:k≠ts.length:=fun e=>hjk (ej.trans e.symm)
   simp only [ej,ek,if_true,if_false]
   intro a c
   have:=hF b a;have:=hlt k (by omega) b c;omega
  ·by_cases ek:k=ts.length
   ·simp only [ej,ek,if_true,if_false]
    intro a c
    have:=hF b c;have:=hlt j (by omega) b a;omega
   ·simp only [ej,ek,if_false]
    exact h2 j k (by omega) (by omega) hjk b
 ·rw [List.length_append,List.length_singleton]at hj
  by_cases ej:j=ts.length
  ·simp only [ej,if_true]
   intro h;exact Nat.le_trans g4.size (hF k h)
  ·simp only [ej,if_false]
   exact h3 j (by omega) k
theorem Sep.take (h:Sep w0 ts w)(n:Nat):Sep w0 (ts.take n) w:=by
 obtain⟨Fs,h1,h2,h3,h4⟩:=h
 have hl:(ts.take n).length≤ts.length:=by rw [List.length_take];omega
 refine⟨Fs,fun i t hi=>h1 i t ?_,fun i j hi hj=>h2 i j (by omega) (by omega),fun i hi=>h3 i (by omega),h4⟩
 rw [List.getElem?_take]at hi
 split at hi
 ·exact hi
 ·cases hi
end
def blkT (b:Nat)(vs:Array Value):Thing where
 P w F:=Blk w b vs∧∀k,F k↔k=b
 lt:=fun h k hk=>by have:=(h.2 k).1 hk;subst this;exact h.1.sz
 keep:=fun h ho hn=>⟨ho.blk h.1 (hn b ((h.2 b).2 rfl)),h.2⟩
theorem Sep.b {w0 w:World} {ts:List Thing}(h:Sep w0 ts w)(i:Nat) {k:Nat} {vs:Array Value}(hi:ts[i]? =some (blkT k vs)):Blk w k vs:=by
 obtain⟨F,hp,_⟩:=h.get hi;exact hp.1
theorem Sep.push {w0 w:World} {ts:List Thing}(h:Sep w0 ts w)(vs:Array Value)(U:TypeId):Sep w0 (ts++ [blkT w.heap.size vs]) (w.alloc (.cells vs U)):=
 h.add ((Below.refl _ _).alloc (Nat.le_refl _) _) (t:=blkT w.heap.size vs) (F:=(· =w.heap.size)) ⟨Blk.new w vs U,fun _=>Iff.rfl⟩ (fun k hk=>by omega)
theorem Sep.set {w0 w:World} {ts:List Thing}(h:Sep w0 ts w)(i:Nat) {k:Nat} {vs:Array Value}(hi:ts[i]? =some (blkT k vs))(j:Nat)(v:Value):Sep w0 (ts.set i (blkT k (vs.setIfInBounds j v))) (w.setCell ⟨k,j,none⟩ v):=by
 obtain⟨F,hp,_,hu⟩:=h.get hi
 exact hu _ F (blkT k (vs.setIfInBounds j v)) (Off.set (a:=⟨k,j,none⟩) ((hp.2 k).2 rfl) v) ⟨hp.1.set j v,hp.2⟩ (fun k hk=> .inl hk)
abbrev rowK (A:Option Addr)(n c k:Nat):Prop:=(Value.slice A n c).ownBlock=some k
def rowT (base:Nat)(e:TypeId)(sz:Nat)(A:Option Addr)(n c:Nat)(xs:List Value):Thing where
 P w F:=w.ownsRow base e sz (.slice A n c) n xs∧∀k,F k↔(Value.slice A n c).ownBlock=some k
 lt:=fun h k hk=>ζk h.1 ((h.2 k).1 hk)
 keep:=fun h ho hn=>⟨ho.own h.1 fun k hk=>hn k ((h.2 k).2 hk),h.2⟩
theorem Sep.row {w0 w:World} {ts:List Thing}(h:Sep w0 ts w)(i:Nat) {base:Nat} {e:TypeId} {sz:Nat} {A:Option Addr} {n c:Nat} {xs:List Value}(hi:ts[i]? =some (rowT base e sz A n c xs)):w.ownsRow base e sz (.slice A n c) n xs:=by
 obtain⟨F,hp,_⟩:=h.get hi;exact hp.1
theorem Sep.addRow {w0 w w':World} {ts:List Thing}(h:Sep w0 ts w) {base:Nat} {e:TypeId} {sz:Nat} {A:Option Addr} {n c:Nat} {xs:List Value}(o:w'.ownsRow base e sz (.slice A n c) n xs)(hge: ∀k,(Value.slice A n c).ownBlock=some k→w.heap.size≤k)(hb:Below w.heap.size w w'):Sep w0 (ts++ [rowT base e sz A n c xs]) w':=
 h.add hb (t:=rowT base e sz A n c xs) (F:=fun k=>(Value.slice A n c).ownBlock=some k) ⟨o,fun _=>Iff.rfl⟩ hge
def updF (f:Int→Int)(a b v:Int):Int→Int:=fun d=>if a≤d∧d<b then v else f d
def putR (a b:Int):Int:=if mayB a b=true then 0 else 15
def putF (f:Int→Int)(a b v:Int):Int→Int:=if mayB a b=true then updF f a b v else f
theorem atL_snoc (l:ItL)(x:It):atL (l++ [x])=updF (atL l) x.1 x.2.1 x.2.2:=by
 funext d
 unfold atL updF
 rw [List.reverse_append]
 simp only [List.reverse_cons,List.reverse_nil,List.nil_append,List.cons_append,List.find?_cons]
 cases h:onB d x with
 | true=>
  unfold onB at h
  rw [Bool.and_eq_true,decide_eq_true_eq,decide_eq_true_eq]at h
  rw [if_pos h]
 | false=>
  rw [if_neg]
  intro e
  unfold onB at h
  rw [decide_eq_true e.1,decide_eq_true e.2]at h
  cases h
def offF (f:Int→Int):Prop:=∀d,d<1∨3652059<d→f d=0
theorem offF_put {f:Int→Int}(h:offF f)(a b v:Int):offF (putF f a b v):=by
 intro d hd
 unfold putF
 split
 ·rename_i hm
  obtain⟨h1,h2,h3⟩:=mayB_iff.1 hm
  unfold updF
  rw [if_neg (by omega)]
  exact h d hd
 ·exact h d hd
def segF (f:Int→Int)(a b:Int)(out:ItL):Prop:=if mayB a b=true then covP f a b out else out= []
theorem ζ48 {f:Int→Int} {a b:Int} {p q:ItL}(h:segF f a b p)(k:segF f a b q):p=q:=by
 unfold segF at h k
 split at h
 ·rename_i hm;rw [if_pos hm]at k;exact cov_one h k
 ·rename_i hm;rw [if_neg hm]at k;rw [h,k]
theorem ζ49 {f:Int→Int} {a b:Int} {p:ItL}(h:segF f a b p):p.length≤3652060:=by
 unfold segF at h
 split at h
 ·rename_i hm
  have:=ζ32 h
  have:=mayB_iff.1 hm
  omega
 ·rw [h];simp
abbrev RepL:=World→Value→(Nat→Prop)→Nat→(Int→Int)→Prop
structure TlOk (Rep:RepL):Prop where
 lt: ∀ {w p F N f},Rep w p F N f→∀k,F k→k<w.heap.size
 keep: ∀ {w w' p F G N f},Rep w p F N f→Off G w w'→(∀k,F k→¬G k)→Rep w' p F N f
def tlT {Rep:RepL}(R:TlOk Rep)(p:Value)(N:Nat)(f:Int→Int):Thing where
 P w F:=Rep w p F N f
 lt:=R.lt
 keep:=R.keep
def ζ1r (T:TypeId)(w:World)(f:Int→Int)(a b:Int)(e:Ending)(w':World):Prop:=∃out A n c,e= .returned (.slice A n c)∧segF f a b out∧w'.ownsRow w.heap.size T 3 (.slice A n c) n (ζ5 out)∧Below w.heap.size w w'
def RetSameF (w:World)(f g:Int→Int)(e:Ending)(w':World):Prop:=∃l k,segF f 1 3652060 l∧segF g 1 3652060 k∧e= .returned (.bool (decide (l=k)))∧Below w.heap.size w w'
end Corr
namespace Go.Proofs.YthagdonmijhpdaaGreat
open Go.RowKit Corr
structure TlK0 (Rep:RepL):Prop extends TlOk Rep where
 make: ∀(w:World),Calls Tryz.prog 29 #[] w fun e w'=>∃(q:Addr) (F:Nat→Prop),e= .returned (.pointer (some q))∧Rep w' (.pointer (some q)) F 0 (fun _=>0)∧Below w.heap.size w w'∧∀k,F k→w.heap.size≤k
 put: ∀(w:World) (p:Value) (F:Nat→Prop) (N:Nat) (f:Int→Int) (a b v:Int),Rep w p F N f→N≤300→Calls Tryz.prog 53 #[p,.agg #[.int .i64 a,.int .i64 b],.int .i64 v] w fun e w'=>∃F':Nat→Prop,e= .returned (.int .i64 (putR a b))∧Rep w' p F' (N+1) (putF f a b v)∧Off F w w'∧∀k,F' k→F k∨w.heap.size≤k
 segs: ∀(w:World) (p:Value) (F:Nat→Prop) (N:Nat) (f:Int→Int) (a b:Int),Rep w p F N f→N≤300→Calls Tryz.prog 21 #[p,.agg #[.int .i64 a,.int .i64 b]] w (ζ1r 89 w f a b)
section
variable {Rep:RepL} {w0 w:World} {ts:List Thing} {p:Value} {N i:Nat} {f:Int→Int}
theorem sep0_tmake (K:TlK0 Rep)(h:Sep w0 ts w):Calls Tryz.prog 29 #[] w fun e w'=>∃q:Addr,e= .returned (.pointer (some q))∧Sep w0 (ts++ [tlT K.toTlOk (.pointer (some q)) 0 (fun _=>0)]) w':=by
 refine(K.make w).mono fun e w' hq=> ?_
 obtain⟨q,F,he,hr,hb,hF⟩:=hq
 exact⟨q,he,h.add hb (t:=tlT K.toTlOk (.pointer (some q)) 0 (fun _=>0)) hr hF⟩
theorem sep0_tput (K:TlK0 Rep)(h:Sep w0 ts w)(hi:ts[i]? =some (tlT K.toTlOk p N f))(hN:N≤300)(a b v:Int):Calls Tryz.prog 53 #[p,.agg #[.int .i64 a,.int .i64 b],.int .i64 v] w fun e w'=>e= .returned (.int .i64 (putR a b))∧Sep w0 (ts.set i (tlT K.toTlOk p (N+1) (putF f a b v))) w':=by
 obtain⟨F,hp,_,hu⟩:=h.get hi
 refine(K.put w p F N f a b v hp hN).mono fun e w' hq=> ?_
 obtain⟨F',he,hr,ho,hF⟩:=hq
 exact⟨he,hu w' F' (tlT K.toTlOk p (N+1) (putF f a b v)) ho hr hF⟩
end
end Go.Proofs.YthagdonmijhpdaaGreat
namespace Corr
open Go Go.RowKit
theorem cov_ex (f:Int→Int)(a:Int): ∀n:Nat,∃out,covP f a (a+(n:Int)) out
 | 0=>⟨[],by show a=a+((0:Nat):Int);omega⟩
 | n+1=>by
  obtain⟨out,h⟩:=cov_ex f a n
  have e:a+((n+1:Nat):Int)=a+(n:Int)+1:=by omega
  rw [e]
  have hf: ∀d,a+(n:Int)≤d→d<a+(n:Int)+1→f d=f (a+(n:Int)):=fun d h1 h2=>by rw [show d=a+(n:Int) by omega]
  by_cases hl: ∃s,out.getLast? =some s∧s.2.2=f (a+(n:Int))
  ·obtain⟨⟨x,y,v⟩,hs,hv⟩:=hl
   have ho:out=out.dropLast++ [(x,y,v)]:=by
    have hne:out≠ []:=by intro e;rw [e]at hs;cases hs
    have:=List.dropLast_concat_getLast hne
    rw [List.getLast?_eq_some_getLast hne]at hs
    rw [Option.some.inj hs]at this
    exact this.symm
   rw [ho]at h
   obtain rfl:=cov_last h
   have hv:v=f (a+(n:Int)):=hv
   exact⟨_,covP_ext (by omega) (fun d h1 h2=>by rw [hv];exact hf d h1 h2) h⟩
  ·exact⟨_,ζ2o (by omega) hf h (fun s hs e=>hl ⟨s,hs,e⟩)⟩
theorem seg_ex (f:Int→Int)(a b:Int): ∃out,segF f a b out:=by
 unfold segF
 by_cases hm:mayB a b=true
 ·have:=(mayB_iff.1 hm).2.1
  obtain⟨out,h⟩:=cov_ex f a (b-a).toNat
  rw [show a+((b-a).toNat:Int)=b by omega]at h
  exact⟨out,by rw [if_pos hm];exact h⟩
 ·exact⟨[],by rw [if_neg hm]⟩
end Corr
namespace Go.Proofs.YthagdonmijhpdaaGreat
open Go.RowKit Corr
end Go.Proofs.YthagdonmijhpdaaGreat
namespace Corr
open Go Go.RowKit
end Corr
namespace Go.Proofs.YthagdonmijhpdaaGreat
open Go.RowKit Corr
end Go.Proofs.YthagdonmijhpdaaGreat

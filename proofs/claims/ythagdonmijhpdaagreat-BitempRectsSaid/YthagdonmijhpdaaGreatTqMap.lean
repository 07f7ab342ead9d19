/- Three whole numbers as one -/
import Derived.Test.YthagdonmijhpdaaGreatTpMap
set_option linter.unusedSimpArgs false
set_option linter.unusedVariables false
namespace Corr
open Go
def stepN (p:Nat × Nat):Nat × Nat:=if p.1=0 then(p.2+1,0)else(p.1-1,p.2+1)
theorem stepN_inj {p q:Nat × Nat}(h:stepN p=stepN q):p=q:=by
 obtain⟨a,b⟩:=p
 obtain⟨c,d⟩:=q
 unfold stepN at h
 simp only at h
 split at h <;> split at h <;> simp only [Prod.mk.injEq]at h ⊢ <;> omega
theorem stepN_ne (p:Nat × Nat): ¬stepN p=(0,0):=by
 intro h
 unfold stepN at h
 split at h <;> simp only [Prod.mk.injEq]at h <;> omega
def unpN:Nat→Nat × Nat
 | 0=>(0,0)
 | n+1=>stepN (unpN n)
theorem unpN_inj: ∀ {m n:Nat},unpN m=unpN n→m=n
 | 0,0,_=>rfl
 | 0,n+1,h=>absurd h.symm (stepN_ne _)
 | m+1,0,h=>absurd h (stepN_ne _)
 | m+1,n+1,h=>by rw [unpN_inj (stepN_inj h)]
theorem unpN_diag {n s:Nat}(h:unpN n=(s,0)): ∀k,k≤s→unpN (n+k)=(s-k,k)
 | 0,_=>h
 | k+1,hk=>by
  show stepN (unpN (n+k))=_
  rw [unpN_diag h k (by omega)]
  have hs: ¬s-k=0:=by omega
  show (if s-k=0 then(k+1,0)else(s-k-1,k+1))=_
  rw [if_neg hs]
  exact Prod.ext (Nat.sub_sub _ _ _) rfl
theorem unpN_row: ∀s,∃n,unpN n=(s,0)
 | 0=>⟨0,rfl⟩
 | s+1=>by
  obtain⟨n,hn⟩:=unpN_row s
  refine⟨n+s+1,?_⟩
  show stepN (unpN (n+s))=_
  rw [unpN_diag hn s (Nat.le_refl _)]
  unfold stepN
  simp
theorem unpN_has (a b:Nat): ∃n,unpN n=(a,b):=by
 obtain⟨n,hn⟩:=unpN_row (a+b)
 exact⟨n+b,by rw [unpN_diag hn b (by omega)];simp⟩
def zigN (n:Nat):Int:=if n % 2=0 then((n / 2:Nat):Int)else -(((n+1) / 2:Nat):Int)
def zagN (z:Int):Nat:=if 0≤z then 2*z.toNat else 2*(-z).toNat-1
theorem zig_zag (z:Int):zigN (zagN z)=z:=by
 unfold zagN zigN
 split <;> split <;> omega
theorem zag_zig (n:Nat):zagN (zigN n)=n:=by
 unfold zigN zagN
 split <;> split <;> omega
def numP (z:Int):Int:=zigN (unpN (zagN z)).1
def sinP (z:Int):Int:=zigN (unpN (unpN (zagN z)).2).1
def valP (z:Int):Int:=zigN (unpN (unpN (zagN z)).2).2
theorem c_zero:numP 0=0∧sinP 0=0∧valP 0=0:=by decide
theorem c_inj {x y:Int}(h1:numP x=numP y)(h2:sinP x=sinP y)(h3:valP x=valP y):x=y:=by
 have e: ∀ {m n:Nat},zigN m=zigN n→m=n:=fun {m n} h=>by rw [←zag_zig m,h,zag_zig]
 have h4:=unpN_inj (Prod.ext (e h2) (e h3))
 have h5:=unpN_inj (Prod.ext (e h1) h4)
 rw [←zig_zag x,h5,zig_zag]
theorem c_has (a b c:Int): ∃z,numP z=a∧sinP z=b∧valP z=c:=by
 obtain⟨m,hm⟩:=unpN_has (zagN b) (zagN c)
 obtain⟨n,hn⟩:=unpN_has (zagN a) m
 refine⟨zigN n,?_,?_,?_⟩
 ·unfold numP;rw [zag_zig,hn];exact zig_zag a
 ·unfold sinP;rw [zag_zig,hn];simp only;rw [hm];exact zig_zag b
 ·unfold valP;rw [zag_zig,hn];simp only;rw [hm];exact zig_zag c
theorem c_eq (x y:Int):(decide (numP x=numP y) && decide (sinP x=sinP y) && decide (valP x=valP y))=decide (x=y):=by
 by_cases h:x=y
 ·subst h;simp
 ·rw [decide_eq_false h]
  by_cases h1:numP x=numP y
  ·by_cases h2:sinP x=sinP y
   ·have h3: ¬valP x=valP y:=fun h3=>h (c_inj h1 h2 h3)
    simp [h3]
   ·simp [h2]
  ·simp [h1]
def mkHq (t:Int × Int × Nat):MapEntry:= { key:= .int .i64 t.1,val:= .agg #[.int .i64 (numP t.2.1),.int .i64 (sinP t.2.1),.int .i64 (valP t.2.1)],born:=t.2.2 }
structure MpRq (w:World)(b:Nat)(T:HdL)(c:Nat):Prop where
 at_:w.heap[b]? =some (.map (T.map mkHq).toArray c)
 keys:(T.map (·.1)).Nodup
 born:(T.map (·.2.2)).Nodup
 low: ∀t∈T,t.2.2<c
def MapIq (w:World)(b:Nat)(m:Int→Option Int):Prop:=∃T c,MpRq w b T c∧∀a v,m a=some v↔∃n,(a,v,n)∈T
theorem MapIq.lt {w:World} {b:Nat} {m:Int→Option Int}(h:MapIq w b m):b<w.heap.size:=by
 obtain⟨T,c,h,_⟩:=h
 exact(Array.getElem?_eq_some_iff.1 h.at_).1
theorem MapIq.of_eq {w w':World} {b:Nat} {m:Int→Option Int}(h:MapIq w b m)(e:w'.heap[b]? =w.heap[b]?):MapIq w' b m:=by
 obtain⟨T,c,h,k⟩:=h
 exact⟨T,c,⟨e.trans h.at_,h.keys,h.born,h.low⟩,k⟩
theorem MapIq.off {w w':World} {b:Nat} {m:Int→Option Int} {F:Nat→Prop}(h:MapIq w b m)(o:Off F w w')(hn: ¬F b):MapIq w' b m:=h.of_eq (o.block b h.lt hn)
theorem MapIq.made (w:World):MapIq (w.alloc (.map #[] 0)) w.heap.size (fun _=>none):=
 ⟨[],0,⟨ζw w _,by simp,by simp,fun _ h=>by cases h⟩,fun a v=>⟨fun h=>(by cases h),fun⟨_,h⟩=>by cases h⟩⟩
def ζ3k (a:Int):HdL→Nat→Option (Nat × Value)
 | [],_=>none
 | t :: r,i=>if a=t.1 then some (i,.agg #[.int .i64 (numP t.2.1),.int .i64 (sinP t.2.1),.int .i64 (valP t.2.1)])else ζ3k a r (i+1)
theorem find_nowq (a:Int): ∀(T:HdL) (i:Nat),Instr.findNow (.int .i64) (.int .i64 a) (T.map mkHq) i=some (ζ3k a T i)
 | [],_=>rfl
 | t :: r,i=>by
  rw [List.map_cons]
  unfold Instr.findNow ζ3k
  have:Instr.sameNow (.int .i64) (.int .i64 a) (mkHq t).key=some (a == t.1):=by
   show (if IntKind.i64=IntKind.i64 then some (a == t.1)else none)=_
   rw [if_pos rfl]
  rw [this]
  by_cases e:a=t.1
  ·rw [if_pos e,show (a == t.1)=true from beq_iff_eq.2 e];rfl
  ·rw [if_neg e,show (a == t.1)=false from beq_eq_false_iff_ne.2 e]
   exact find_nowq a r (i+1)
theorem ζ3l {a:Int} : ∀ {T:HdL} {i:Nat},ζ3k a T i=none→∀t∈T,¬t.1=a
 | [],_,_=>fun _ h=>by cases h
 | t :: r,i,h=>by
  unfold ζ3k at h
  split at h
  ·cases h
  ·rename_i e
   intro u hu
   rcases List.mem_cons.1 hu with rfl | hu
   ·exact fun h=>e h.symm
   ·exact ζ3l h u hu
theorem ζ2m {a:Int} {j:Nat} {v:Value} : ∀ {T:HdL} {i:Nat},ζ3k a T i=some (j,v)→∃t,T[j-i]? =some t∧i≤j∧t.1=a∧v= .agg #[.int .i64 (numP t.2.1),.int .i64 (sinP t.2.1),.int .i64 (valP t.2.1)]
 | [],_,h=>by cases h
 | t :: r,i,h=>by
  unfold ζ3k at h
  split at h
  ·rename_i e
   simp only [Option.some.injEq,Prod.mk.injEq]at h
   obtain⟨rfl,rfl⟩:=h
   exact⟨t,by simp,Nat.le_refl _,e.symm,rfl⟩
  ·obtain⟨u,h1,h2,h3,h4⟩:=ζ2m h
   refine⟨u,?_,by omega,h3,h4⟩
   rw [show j-i=(j-(i+1))+1 by omega,List.getElem?_cons_succ]
   exact h1
end Corr
namespace Go.Proofs.YthagdonmijhpdaaGreat
open Go.RowKit Corr
section
variable {w:World} {b:Nat} {m:Int→Option Int}
theorem find_intq (a:Int)(T:HdL)(w:World):(Instr.findKey 3 (.int .i64 a) (T.map mkHq)).run Tryz.prog w= .ok (ζ3k a T 0) w:=by
 unfold Instr.findKey
 simp only [Sem.run_bind,run_underlying Tryz.underlying3,Result.andThen_ok,find_nowq,Sem.run_pure]
theorem look_intq (a:Int)(h:MapIq w b m):(Instr.lookup 161 (.map (some b)) (.int .i64 a) false).run Tryz.prog w= .ok (.agg #[.int .i64 (numP (valM m a)),.int .i64 (sinP (valM m a)),.int .i64 (valP (valM m a))]) w:=by
 obtain⟨T,c,h,k⟩:=h
 have hc:=ζ2p (T.map mkHq).toArray.isEmpty a w
 have hf:=find_intq a T w
 have hz:(zeroValue 166).run Tryz.prog w= .ok (.agg #[.int .i64 0,.int .i64 0,.int .i64 0]) w:=by kernel_rfl
 unfold Instr.lookup
 simp only [Sem.run_bind,run_underlying Tryz.underlying161,Result.andThen_ok,MapKept.run_getObj_map h.at_,hc,Sem.run_pure]
 rw [hf]
 cases e:ζ3k a T 0 with
 | none=>
  have:m a=none:=by
   cases e2:m a with
   | none=>rfl
   | some v=>
    obtain⟨n,hn⟩:=(k a v).1 e2
    exact absurd rfl (ζ3l e _ hn)
  unfold valM
  rw [this]
  simp [hz,c_zero.1,c_zero.2.1,c_zero.2.2]
 | some x=>
  obtain⟨j,v⟩:=x
  obtain⟨t,h1,h2,h3,h4⟩:=ζ2m e
  have:m a=some t.2.1:=(k a _).2 ⟨t.2.2,by rw [←h3];exact List.mem_of_getElem? h1⟩
  unfold valM
  rw [this,h4]
  simp
theorem upd_intq (a v:Int)(h:MapIq w b m)(hn:m a=none): ∃o,(Instr.mapUpdate 161 (.map (some b)) (.int .i64 a) (.agg #[.int .i64 (numP v),.int .i64 (sinP v),.int .i64 (valP v)])).run Tryz.prog w= .ok () (ChangeMaps.setBlock w b o)∧MapIq (ChangeMaps.setBlock w b o) b (updM m a (some v))∧Off (· =b) w (ChangeMaps.setBlock w b o):=by
 obtain⟨T,c,h,k⟩:=h
 have hc:=ζ2p false a w
 have hf:=find_intq a T w
 have ha: ∀t∈T,¬t.1=a:=fun t ht e=>by
  have:=(k t.1 t.2.1).2 ⟨t.2.2,ht⟩
  rw [e,hn]at this
  cases this
 have e:ζ3k a T 0=none:=by
  cases e:ζ3k a T 0 with
  | none=>rfl
  | some x=>
   obtain⟨j,v⟩:=x
   obtain⟨t,h1,h2,h3,h4⟩:=ζ2m e
   exact absurd h3 (ha t (List.mem_of_getElem? h1))
 rw [e]at hf
 refine⟨.map ((T++ [(a,v,c)]).map mkHq).toArray (c+1),?_,⟨T++ [(a,v,c)],c+1,⟨ChangeMaps.heap_setBlock_same h.at_ _,?_,?_,?_⟩,?_⟩,off_set h.at_⟩
 ·unfold Instr.mapUpdate
  simp only [Sem.run_bind,run_underlying Tryz.underlying161,Result.andThen_ok,MapKept.run_getObj_map h.at_,hc,hf,MapKept.run_setObj_map _ h.at_,ChangeMaps.setBlock]
  simp [mkHq]
 ·rw [List.map_append,List.nodup_append]
  refine⟨h.keys,by simp,fun x hx y hy=> ?_⟩
  obtain rfl:y=a:=by simpa using hy
  obtain⟨t,ht,rfl⟩:=List.mem_map.1 hx
  exact ha t ht
 ·rw [List.map_append,List.nodup_append]
  refine⟨h.born,by simp,fun x hx y hy=> ?_⟩
  obtain rfl:y=c:=by simpa using hy
  obtain⟨t,ht,rfl⟩:=List.mem_map.1 hx
  have:=h.low t ht
  show ¬t.2.2=y
  omega
 ·intro t ht
  rcases List.mem_append.1 ht with ht | ht
  ·have:=h.low t ht;omega
  ·obtain rfl:t=(a,v,c):=by simpa using ht
   exact Nat.lt_succ_self _
 ·intro x y
  unfold updM
  split
  ·rename_i e
   subst e
   constructor
   ·intro hv
    obtain rfl:=Option.some.inj hv
    exact⟨c,by simp⟩
   ·rintro⟨n,hn⟩
    rcases List.mem_append.1 hn with hn | hn
    ·exact absurd rfl (ha _ hn)
    ·have:y=v∧n=c:=by simpa using hn
     rw [this.1]
  ·rename_i e
   rw [k x y]
   constructor
   ·rintro⟨n,hn⟩;exact⟨n,List.mem_append_left _ hn⟩
   ·rintro⟨n,hn⟩
    rcases List.mem_append.1 hn with hn | hn
    ·exact⟨n,hn⟩
    ·have:x=a∧y=v∧n=c:=by simpa using hn
     exact absurd this.1 e
theorem del_intq (a v:Int)(ty:TypeId)(h:MapIq w b m)(hs:m a=some v): ∃o,(Builtin.delete_ #[161,3] ty #[.map (some b),.int .i64 a]).run Tryz.prog w= .ok (.tuple #[]) (ChangeMaps.setBlock w b o)∧MapIq (ChangeMaps.setBlock w b o) b (updM m a none)∧Off (· =b) w (ChangeMaps.setBlock w b o):=by
 obtain⟨T,c,h,k⟩:=h
 have hc:=ζ2p (T.map mkHq).toArray.isEmpty a w
 have hf:=find_intq a T w
 obtain⟨n,hn⟩:=(k a v).1 hs
 obtain⟨j,t,e,h1,h3⟩: ∃j t,ζ3k a T 0=some (j,.agg #[.int .i64 (numP t.2.1),.int .i64 (sinP t.2.1),.int .i64 (valP t.2.1)])∧T[j]? =some t∧t.1=a:=by
  cases e:ζ3k a T 0 with
  | none=>exact absurd rfl (ζ3l e _ hn)
  | some x=>
   obtain⟨j,v⟩:=x
   obtain⟨t,h1,h2,h3,h4⟩:=ζ2m e
   exact⟨j,t,by rw [h4],h1,h3⟩
 rw [e]at hf
 have hj:j<T.length:=(List.getElem?_eq_some_iff.1 h1).1
 have hmem: ∀u,u∈T.eraseIdx j↔u∈T∧¬u.1=a:=by
  intro u
  constructor
  ·intro hu
   obtain⟨i,hne,hi⟩:=List.mem_eraseIdx_iff_getElem?.1 hu
   refine⟨List.mem_of_getElem? hi,fun e=> ?_⟩
   have:=nodup_eq h.keys (List.mem_of_getElem? hi) (List.mem_of_getElem? h1) (by rw [e,h3])
   subst this
   have hk:=h.keys
   have hij:(T.map (·.1))[i]? =(T.map (·.1))[j]? :=by rw [List.getElem?_map,List.getElem?_map,hi,h1]
   have hil:i<(T.map (·.1)).length:=by rw [List.length_map];exact(List.getElem?_eq_some_iff.1 hi).1
   exact hne ((List.getElem?_inj hil hk).1 hij)
  ·rintro⟨hu,hne⟩
   obtain⟨i,hi⟩:=List.mem_iff_getElem?.1 hu
   refine List.mem_eraseIdx_iff_getElem?.2 ⟨i,fun e=> ?_,hi⟩
   subst e
   rw [h1]at hi
   obtain rfl:=Option.some.inj hi
   exact hne h3
 refine⟨.map ((T.eraseIdx j).map mkHq).toArray c,?_,⟨T.eraseIdx j,c,⟨ChangeMaps.heap_setBlock_same h.at_ _,h.keys.sublist ((List.eraseIdx_sublist _ _).map _),h.born.sublist ((List.eraseIdx_sublist _ _).map _),fun t ht=>h.low t ((hmem t).1 ht).1⟩,?_⟩,off_set h.at_⟩
 ·have hsub:((T.map mkHq).toArray.eraseIdxIfInBounds j)=((T.eraseIdx j).map mkHq).toArray:=by
   unfold Array.eraseIdxIfInBounds
   rw [dif_pos (by simpa using hj)]
   apply Array.toList_inj.1
   show ((T.map mkHq).toArray.eraseIdx j _).toList=(T.eraseIdx j).map mkHq
   rw [ChangeMaps.map_eraseIdx]
   simp
  unfold Builtin.delete_
  simp only [Sem.run_bind,run_underlying Tryz.underlying161,Result.andThen_ok,MapKept.run_getObj_map h.at_,hc,hf,MapKept.run_setObj_map _ h.at_,ChangeMaps.setBlock,List.getElem?_toArray,List.getElem?_cons_zero,List.getElem?_cons_succ,hsub,Sem.run_pure]
 ·intro x y
  unfold updM
  split
  ·rename_i e
   subst e
   constructor
   ·intro h;cases h
   ·rintro⟨n,hn⟩
    exact absurd rfl ((hmem _).1 hn).2
  ·rename_i e
   rw [k x y]
   constructor
   ·rintro⟨n,hn⟩;exact⟨n,(hmem _).2 ⟨hn,e⟩⟩
   ·rintro⟨n,hn⟩;exact⟨n,((hmem _).1 hn).1⟩
end
theorem wpl_mapputq {w:World} {b:Nat} {m:Int→Option Int} {ops:Array Oper} {rest:List Oper} {o:Oper} {a:Act} {Q:Exit→Act→World→Prop}(hg:o.guard=none)(mo x v:Operand)(hop:o.op=Op.mapUpdate 161 mo x v)(k z:Int)
  (hm:a.eval mo= .map (some b)) (h:MapIq w b m) (hn:m k=none) (hx:a.eval x= .int .i64 k) (hv:a.eval v= .agg #[.int .i64 (numP z),.int .i64 (sinP z),.int .i64 (valP z)])
  (hK: ∀w',MapIq w' b (updM m k (some z))→Off (· =b) w w'→w'.heap.size=w.heap.size→wpList Tryz.prog ops Q rest (a.put o.dst undef) w'):wpList Tryz.prog ops Q (o :: rest) a w:=by
 refine wpList_plain hg fun K' hK'=> ?_
 obtain⟨ob,hrun,h1,h2⟩:=upd_intq k z h hn
 unfold Oper.wp
 simp only [execOp,hop,hm,hx,hv,Sem.run_bind,hrun,Result.andThen]
 exact hK' _ _ (hK _ h1 h2 (by simp [ChangeMaps.setBlock]))
theorem wpl_mapdelq {w:World} {b:Nat} {m:Int→Option Int} {ops:Array Oper} {rest:List Oper} {o:Oper} {a:Act} {Q:Exit→Act→World→Prop}(hg:o.guard=none)(mo x:Operand)
  (hop:o.op=Op.call { callee:=Callee.builtin Builtin.delete,args:= #[mo,x],argTypes:= #[161,3] }) (k z:Int)
  (hm:a.eval mo= .map (some b)) (h:MapIq w b m) (hn:m k=some z) (hx:a.eval x= .int .i64 k)
  (hK: ∀w',MapIq w' b (updM m k none)→Off (· =b) w w'→w'.heap.size=w.heap.size→wpList Tryz.prog ops Q rest (a.put o.dst (.tuple #[])) w'):wpList Tryz.prog ops Q (o :: rest) a w:=by
 refine wpList_plain hg fun K' hK'=> ?_
 obtain⟨ob,hrun,h1,h2⟩:=del_intq k z o.type h hn
 unfold Oper.wp
 simp [execOp,hop,resolve,invoke,builtin,hm,hx,hrun,Result.andThen]
 exact hK' _ _ (hK _ h1 h2 (by simp [ChangeMaps.setBlock]))
end Go.Proofs.YthagdonmijhpdaaGreat

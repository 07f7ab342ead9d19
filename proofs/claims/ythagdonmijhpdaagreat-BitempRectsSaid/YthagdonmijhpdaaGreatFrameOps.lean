/- Puts (a span and a number), rows of numbers, spans, as arguments. -/
import Derived.Test.YthagdonmijhpdaaGreatRow4
import Derived.Deep.SlicePairs
import Derived.Carry
import Derived.Deep.Slices
import Derived.Deep.Strs
set_option linter.unusedVariables false
namespace Go.Proofs.YthagdonmijhpdaaGreat
open Go.ChangeShapes Go.WideShapes Go.ChangeAt Go.RowKit Go.Joins Go.Deep Corr
set_option maxRecDepth 100000
theorem Tryz.cellsSpan:Tryz.prog.cellsOf 24=2:=by kernel_rfl
theorem Tryz.laidOut1:laidOutB Tryz.prog=true:=by kernel_rfl
theorem list_of {α:Type} {p:Nat→α→Prop} : ∀ {n:Nat},(∀i,i<n→∃x,p i x)→∃l:List α,l.length=n∧∀(i:Nat) (x:α),l[i]? =some x→p i x
 | 0,_=>⟨[],rfl,fun i x h=>by simp at h⟩
 | n+1,h=>by
  obtain⟨l,hl,hp⟩:=list_of (n:=n) fun i hi=>h i (by omega)
  obtain⟨x,hx⟩:=h n (by omega)
  refine⟨l++ [x],by simp [hl],fun i y hy=> ?_⟩
  by_cases hi:i<n
  ·rw [List.getElem?_append_left (by omega)]at hy;exact hp i y hy
  ·have:i=n:=by have:=(List.getElem?_eq_some_iff.1 hy).1;simp [hl]at this;omega
   subst this
   rw [List.getElem?_append_right (by omega),hl]at hy
   simp at hy
   subst hy;exact hx
theorem spot_none {w:World} {a:Addr} {v:Value}(h:w.cell? a=some v):a.spot=none∧a.block<w.heap.size:=by
 unfold World.cell? at h
 split at h
 ·rename_i c _ _ hb
  split at h
  ·cases h
  ·rename_i hs
   exact⟨by simpa using hs,(Array.getElem?_eq_some_iff.1 hb).1⟩
 ·cases h
theorem cells2_get {l:SpL} {i:Nat} {v:Value}(h:(ζ1q l)[i]? =some v): ∃(j:Nat) (s:Int × Int),l[j]? =some s∧(i=j*2∧v= .int .i64 s.1∨i=j*2+1∧v= .int .i64 s.2):=by
 have hi:i<l.length*2:=by rw [←ζ36];exact(List.getElem?_eq_some_iff.1 h).1
 have hs:l[i / 2]? =some (l[i / 2]'(by omega)):=List.getElem?_eq_getElem (by omega)
 refine⟨i / 2,_,hs,?_⟩
 rcases Nat.mod_two_eq_zero_or_one i with e | e
 ·left
  have:=cells2_0 hs
  rw [show i / 2*2=i by omega,h]at this
  exact⟨by omega,Option.some.inj this⟩
 ·right
  have:=cells2_1 hs
  rw [show i / 2*2+1=i by omega,h]at this
  exact⟨by omega,Option.some.inj this⟩
theorem open_spans {H:Type} {enc:TypeId × Value→H} {W:World} {base b0:Nat} {sp:Nat→Bool} {held:Bool} {r:Reach} {v:Value} {d:DataW H} {p:List MemPlace}
  (hv:Value.okWide Tryz.prog W r b0 53 v) (h:DataW.Trod enc Tryz.prog W base sp held 53 v d p): ∃(A:Option Addr) (n c:Nat) (l:SpL),v= .slice A n c∧Spn W A n c l:=by
 obtain⟨a0,len,cap,rfl⟩:=okWide_slice Tryz.underlying53 hv
 obtain⟨fuel,hf⟩:=h
 refine⟨a0,len,cap,?_⟩
 rcases open_slice_pairs Tryz.underlying53 Tryz.underlying24 Tryz.cellsSpan rfl rfl (by kernel_rfl) (by kernel_rfl) hf with⟨hcs,_⟩ | ⟨a,len',cap',m,n,V0,V1,D0,D1,P0,P1,hcs,_,hl,_,hm,_,hx⟩
 ·injection hcs with hcs _
  injection hcs with e1 e2 e3
  subst e1 e2 e3
  exact⟨[],rfl,Lies.nil_ W 2⟩
 ·injection hcs with hcs _
  injection hcs with e1 e2 e3
  subst e1 e2 e3
  have hlm:len≤m:=by rw [hm];split <;> omega
  obtain⟨l,hll,hlp⟩:=list_of (n:=len) (p:=fun i (s:Int × Int)=>W.cell? (a.add (i*2))=some (.int .i64 s.1)∧W.cell? (a.add (i*2+1))=some (.int .i64 s.2)) fun i hi=>by
   obtain⟨k0,k1,t0,t1⟩:=hx i (by omega)
   obtain⟨x,e0,_,_⟩:=DataW.trod_int Tryz.underlying3 t0
   obtain⟨y,e1,_,_⟩:=DataW.trod_int Tryz.underlying3 t1
   simp at e0 e1
   rw [e0]at k0
   rw [e1]at k1
   exact⟨(x,y),k0,k1⟩
  refine⟨l,rfl,by rw [ζ36,hll],hl,fun h0=> ?_⟩
  have q0:=hlp 0 (l[0]'(by omega)) (List.getElem?_eq_getElem (by omega))
  obtain⟨g,off,spot⟩:=a
  have q1:=spot_none q0.1
  have hsp:spot=none:=by have:=q1.1;simpa [Addr.add]using this
  subst hsp
  refine⟨g,off,rfl,by simpa [Addr.add]using q1.2,fun i v hi=> ?_⟩
  obtain⟨j,s,hs,hv⟩:=cells2_get hi
  have q:=hlp j s hs
  rw [Addr.add_lit,Addr.add_lit]at q
  rcases hv with⟨rfl,rfl⟩ | ⟨rfl,rfl⟩
  ·exact q.1
  ·exact q.2
set_option maxRecDepth 100000
theorem flat_get {α:Type} {f:α→List Value} {size:Nat}(hs: ∀s,(f s).length=size): ∀ {l:List α} {i:Nat} {v:Value},(l.flatMap f)[i]? =some v→∃j s k,l[j]? =some s∧i=j*size+k∧k<size∧(f s)[k]? =some v
 | [],i,v,h=>by simp at h
 | x :: r,i,v,h=>by
  rw [List.flatMap_cons]at h
  by_cases hi:i<size
  ·rw [List.getElem?_append_left (by rw [hs];exact hi)]at h
   exact⟨0,x,i,rfl,by omega,hi,h⟩
  ·rw [List.getElem?_append_right (by rw [hs];omega),hs]at h
   obtain⟨j,s,k,h1,h2,h3,h4⟩:=flat_get hs h
   exact⟨j+1,s,k,by simpa using h1,by rw [Nat.add_mul,Nat.one_mul];omega,h3,h4⟩
theorem ζ3i {α:Type} {f:α→List Value} {size:Nat}(hs: ∀s,(f s).length=size): ∀l:List α,(l.flatMap f).length=l.length*size
 | []=>by simp
 | x :: r=>by rw [List.flatMap_cons,List.length_append,hs,ζ3i hs r,List.length_cons,Nat.add_mul,Nat.one_mul];omega
theorem open_rows {α:Type} {H:Type} {enc:TypeId × Value→H} {P:Program} {W:World} {base b0:Nat} {sp:Nat→Bool} {held:Bool} {r:Reach} {t e:TypeId} {v:Value} {d:DataW H} {p:List MemPlace} {f:α→List Value} {size:Nat}(hs: ∀s,(f s).length=size)(h0:0<size)
  (ht:P.underlying t=some (.slice e)) (he:P.cellsOf e=size) (hr: ∀n cs x,DataW.trod enc P W base sp held n e cs=some x→∃s:α,cs=f s)
  (hv:Value.okWide P W r b0 t v) (h:DataW.Trod enc P W base sp held t v d p): ∃(A:Option Addr) (n c:Nat) (l:List α),v= .slice A n c∧Lies W size A n c (l.flatMap f):=by
 obtain⟨a0,len,cap,rfl⟩:=okWide_slice ht hv
 obtain⟨fuel,hf⟩:=h
 refine⟨a0,len,cap,?_⟩
 rcases open_slice ht hf with⟨hcs,_⟩ | ⟨a,len',cap',m,n,D,Pl,hcs,_,hl,_,hm,_,hx⟩
 ·injection hcs with hcs _
  injection hcs with e1 e2 e3
  subst e1 e2 e3
  exact⟨[],rfl,by simpa using Lies.nil_ W size⟩
 ·injection hcs with hcs _
  injection hcs with e1 e2 e3
  subst e1 e2 e3
  have hlm:len≤m:=by rw [hm];split <;> omega
  obtain⟨l,hll,hlp⟩:=list_of (n:=len) (p:=fun i (s:α)=>∀k,k<size→W.cell? ((a.add (i*size)).add k)=(f s)[k]?) fun i hi=>by
   obtain⟨cs,h1,h2⟩:=hx i (by omega)
   rw [he]at h1
   obtain⟨_,_,h3⟩:=World.cells?_some h1
   obtain⟨s,rfl⟩:=hr _ _ _ h2
   exact⟨s,h3⟩
  refine⟨l,rfl,by rw [ζ3i hs,hll],hl,fun hn=> ?_⟩
  have q0:=hlp 0 (l[0]'(by omega)) (List.getElem?_eq_getElem (by omega)) 0 h0
  rw [List.getElem?_eq_getElem (show 0<(f l[0]).length by rw [hs];exact h0)]at q0
  obtain⟨g,off,spot⟩:=a
  have q1:=spot_none q0
  have hsp:spot=none:=by have:=q1.1;simpa [Addr.add]using this
  subst hsp
  refine⟨g,off,rfl,by simpa [Addr.add]using q1.2,fun i v hi=> ?_⟩
  obtain⟨j,s,k,h1,h2,h3,h4⟩:=flat_get hs hi
  have q:=hlp j s h1 k h3
  rw [Addr.add_lit,Addr.add_lit]at q
  rw [h2,←Nat.add_assoc,q,h4]
theorem cells3_flat: ∀l:ItL,l.flatMap (fun s:It=> [Value.int .i64 s.1,.int .i64 s.2.1,.int .i64 s.2.2])=ζ5 l
 | []=>rfl
 | s :: r=>by rw [List.flatMap_cons,cells3_flat r];rfl
theorem cells4_flat: ∀l:ClL,l.flatMap (fun s:Cl=> [Value.int .i64 s.1,.int .i64 s.2.1,.int .i64 s.2.2.1,.int .i64 s.2.2.2])=ζz l
 | []=>rfl
 | s :: r=>by rw [List.flatMap_cons,cells4_flat r];rfl
theorem Tryz.cellsItem:Tryz.prog.cellsOf 141=3:=by kernel_rfl
section
variable {H:Type} {enc:TypeId × Value→H} {W:World} {base b0:Nat} {sp:Nat→Bool} {held:Bool} {r:Reach} {v:Value} {d:DataW H} {p:List MemPlace}
theorem read_item {n:Nat} {cs:List Value} {x:DataW H × List MemPlace}(h:DataW.trod enc Tryz.prog W base sp held n 141 cs=some x): ∃s:It,cs= [.int .i64 s.1,.int .i64 s.2.1,.int .i64 s.2.2]:=by
 obtain⟨y0,y1,y2,k,rfl,hl,h0,h1,h2⟩:=trod_struct3 Tryz.underlying141 h
 rw [Tryz.cellsItem]at hl
 obtain⟨a,e0,_⟩:=DataW.trod_int Tryz.underlying3 h0
 obtain⟨b,e1,_⟩:=DataW.trod_int Tryz.underlying3 h1
 obtain⟨c,e2,_⟩:=DataW.trod_int Tryz.underlying3 h2
 match cs,hl with
 | [v0,v1,v2],_=>
  have f0: [v0]= [Value.int .i64 a]:=e0
  have f1: [v1]= [Value.int .i64 b]:=e1
  have f2: [v2]= [Value.int .i64 c]:=e2
  simp at f0 f1 f2
  subst f0 f1 f2
  exact⟨(a,b,c),rfl⟩
theorem open_item (hv:Value.okWide Tryz.prog W r b0 141 v)(h:DataW.Trod enc Tryz.prog W base sp held 141 v d p): ∃s:It,v=itV s:=by
 obtain⟨cs,rfl,_⟩:=okWide_struct Tryz.underlying141 hv
 obtain⟨fuel,hf⟩:=h
 obtain⟨s,hs⟩:=read_item (show DataW.trod enc Tryz.prog W base sp held fuel 141 cs.toList=some (d,p)from hf)
 refine⟨s,?_⟩
 rw [show cs=cs.toList.toArray from rfl,hs]
end
set_option maxRecDepth 100000
theorem rows0 {α:Type} {H:Type} {enc:TypeId × Value→H} {P:Program} {W:World} {base:Nat} {sp:Nat→Bool} {held:Bool} {t e:TypeId} {fuel:Nat} {cs:List Value} {x:DataW H × List MemPlace} {f:α→List Value} {size:Nat}(hs: ∀s,(f s).length=size)(h0:0<size)
  (ht:P.underlying t=some (.slice e)) (he:P.cellsOf e=size) (hr: ∀n cs x,DataW.trod enc P W base sp held n e cs=some x→∃s:α,cs=f s)
  (hf:DataW.trod enc P W base sp held fuel t cs=some x): ∃(A:Option Addr) (n c:Nat) (l:List α),cs= [.slice A n c]∧Lies W size A n c (l.flatMap f)∧n≤maxLen:=by
 rcases open_slice ht hf with⟨hcs,_⟩ | ⟨a,len,cap,m,n,D,Pl,hcs,_,hl,hcm,hm,_,hx⟩
 ·exact⟨none,0,0,[],hcs,by simpa using Lies.nil_ W size,Nat.zero_le _⟩
 ·have hlm:len≤m:=by rw [hm];split <;> omega
  obtain⟨l,hll,hlp⟩:=list_of (n:=len) (p:=fun i (s:α)=>∀k,k<size→W.cell? ((a.add (i*size)).add k)=(f s)[k]?) fun i hi=>by
   obtain⟨cs,h1,h2⟩:=hx i (by omega)
   rw [he]at h1
   obtain⟨_,_,h3⟩:=World.cells?_some h1
   obtain⟨s,rfl⟩:=hr _ _ _ h2
   exact⟨s,h3⟩
  refine⟨some a,len,cap,l,hcs,⟨by rw [ζ3i hs,hll],hl,fun hn=> ?_⟩,Nat.le_trans hl hcm⟩
  have q0:=hlp 0 (l[0]'(by omega)) (List.getElem?_eq_getElem (by omega)) 0 h0
  rw [List.getElem?_eq_getElem (show 0<(f l[0]).length by rw [hs];exact h0)]at q0
  obtain⟨g,off,spot⟩:=a
  have q1:=spot_none q0
  have hsp:spot=none:=by have:=q1.1;simpa [Addr.add]using this
  subst hsp
  refine⟨g,off,rfl,by simpa [Addr.add]using q1.2,fun i v hi=> ?_⟩
  obtain⟨j,s,k,h1,h2,h3,h4⟩:=flat_get hs hi
  have q:=hlp j s h1 k h3
  rw [Addr.add_lit,Addr.add_lit]at q
  rw [h2,←Nat.add_assoc,q,h4]
theorem rows1 {α:Type} {H:Type} {enc:TypeId × Value→H} {P:Program} {W:World} {base b0:Nat} {sp:Nat→Bool} {held:Bool} {r:Reach} {t e:TypeId} {v:Value} {d:DataW H} {p:List MemPlace} {f:α→List Value} {size:Nat}(hs: ∀s,(f s).length=size)(h0:0<size)
  (ht:P.underlying t=some (.slice e)) (he:P.cellsOf e=size) (hr: ∀n cs x,DataW.trod enc P W base sp held n e cs=some x→∃s:α,cs=f s)
  (hv:Value.okWide P W r b0 t v) (h:DataW.Trod enc P W base sp held t v d p): ∃(A:Option Addr) (n c:Nat) (l:List α),v= .slice A n c∧Lies W size A n c (l.flatMap f)∧n≤maxLen:=by
 obtain⟨a0,len,cap,rfl⟩:=okWide_slice ht hv
 obtain⟨fuel,hf⟩:=h
 obtain⟨A,n,c,l,h1,h2,h3⟩:=rows0 hs h0 ht he hr hf
 have h1: [Value.slice a0 len cap]= [Value.slice A n c]:=h1
 exact⟨A,n,c,l,by simpa using h1,h2,h3⟩
section
variable {H:Type} {enc:TypeId × Value→H} {W:World} {base b0:Nat} {sp:Nat→Bool} {held:Bool} {r:Reach} {v:Value} {d:DataW H} {p:List MemPlace}
theorem read_spanC {n:Nat} {cs:List Value} {x:DataW H × List MemPlace}(h:DataW.trod enc Tryz.prog W base sp held n 24 cs=some x): ∃a b:Int,cs= [.int .i64 a,.int .i64 b]:=by
 obtain⟨y0,y1,k,rfl,hl,h0,h1⟩:=trod_struct2 Tryz.underlying24 h
 rw [Tryz.cellsSpan]at hl
 obtain⟨a,e0,_⟩:=DataW.trod_int Tryz.underlying3 h0
 obtain⟨b,e1,_⟩:=DataW.trod_int Tryz.underlying3 h1
 match cs,hl with
 | [v0,v1],_=>
  have f0: [v0]= [Value.int .i64 a]:=e0
  have f1: [v1]= [Value.int .i64 b]:=e1
  simp at f0 f1
  subst f0 f1
  exact⟨a,b,rfl⟩
theorem open_spanC (hv:Value.okWide Tryz.prog W r b0 24 v)(h:DataW.Trod enc Tryz.prog W base sp held 24 v d p): ∃a b:Int,v= .agg #[.int .i64 a,.int .i64 b]:=by
 obtain⟨cs,rfl,_⟩:=okWide_struct Tryz.underlying24 hv
 obtain⟨fuel,hf⟩:=h
 obtain⟨a,b,hs⟩:=read_spanC (show DataW.trod enc Tryz.prog W base sp held fuel 24 cs.toList=some (d,p)from hf)
 refine⟨a,b,?_⟩
 rw [show cs=cs.toList.toArray from rfl,hs]
theorem ints_flat: ∀l:List Int,l.flatMap (fun s:Int=> [Value.int .i64 s])=ints l
 | []=>rfl
 | s :: r=>by rw [List.flatMap_cons,ints_flat r];rfl
theorem open_nums (hv:Value.okWide Tryz.prog W r b0 106 v)(h:DataW.Trod enc Tryz.prog W base sp held 106 v d p): ∃(A:Option Addr) (n c:Nat) (l:List Int),v= .slice A n c∧Nums W A n c l:=by
 obtain⟨A,n,c,l,hv,hl,_⟩:=rows1 (f:=fun s:Int=> [Value.int .i64 s]) (size:=1) (fun _=>rfl) (by decide) Tryz.underlying106 (by kernel_rfl) (fun n cs x hx=>by obtain⟨a,e0,_⟩:=DataW.trod_int Tryz.underlying3 hx;exact⟨a,e0⟩) hv h
 rw [ints_flat]at hl
 exact⟨A,n,c,l,hv,hl⟩
end
end Go.Proofs.YthagdonmijhpdaaGreat

/- Rows of cells -/
import Derived.WalkKit
import Derived.Below
import Derived.Lib.Hide
import Derived.Lib.SmallJoins
import Derived.OwnWalk
namespace Corr
open Go Go.RowKit
structure Lies (w:World)(sz:Nat)(A:Option Addr)(n c:Nat)(xs:List Value):Prop where
 len:xs.length=n*sz
 cap:n≤c
 at_:0<n→∃g off,A=some ⟨g,off,none⟩∧g<w.heap.size∧∀(i:Nat) (v:Value),xs[i]? =some v→w.cell? ⟨g,off+i,none⟩=some v
section
variable {w w':World} {sz n c:Nat} {A:Option Addr} {xs:List Value}
theorem Lies.keep (h:Lies w sz A n c xs)(hb:Below w.heap.size w w'):Lies w' sz A n c xs:=
 ⟨h.len,h.cap,fun hn=>by
  obtain⟨g,off,hA,hg,hc⟩:=h.at_ hn
  exact⟨g,off,hA,Nat.lt_of_lt_of_le hg hb.size,fun i x hx=>(hb.cell (p:=⟨g,off+i,none⟩) hg).trans (hc i x hx)⟩⟩
theorem Lies.nil_ (w:World)(sz:Nat):Lies w sz none 0 0 []:=⟨by simp,Nat.le_refl _,fun h=>absurd h (by omega)⟩
theorem Lies.of_own {base:Nat} {e:TypeId} {v:Value}(h:w.ownsRow base e sz v n xs)(hl:xs.length=n*sz): ∃A c,v= .slice A n c∧Lies w sz A n c xs:=by
 rcases Joins.ownsRow_forms h with⟨rfl,hn⟩ | ⟨g,cap,rfl⟩
 ·subst hn
  have:xs= []:=List.length_eq_zero_iff.1 (by simpa using hl)
  subst this
  exact⟨none,0,rfl,Lies.nil_ w sz⟩
 ·refine⟨some ⟨g,0,none⟩,cap,rfl,hl,?_,fun hn=>⟨g,0,rfl,?_,fun i x hx=> ?_⟩⟩
  ·obtain⟨_,h' | ⟨g',cap',cur,hv,_,_,hc,_⟩⟩:=h
   ·cases h'.1
   ·injection hv with _ _ e2;rw [e2];exact hc
  ·obtain⟨_,h' | ⟨g',cap',cur,hv,_,hh,_⟩⟩:=h
   ·cases h'.1
   ·injection hv with e1 _ _
    injection e1 with e1
    injection e1 with e1 _ _
    subst e1
    exact(Array.getElem?_eq_some_iff.1 hh).1
  ·have hi:i<xs.length:=(List.getElem?_eq_some_iff.1 hx).1
   rw [Nat.zero_add,h.cellAt i (by omega),hx]
end
theorem ζ1c {w:World} {base:Nat} {e:TypeId} {size n:Nat} {v:Value} {xs:List Value}(h:w.ownsRow base e size v n xs): ∀k,v.ownBlock=some k→base≤k:=by
 intro k hk
 obtain⟨_,h' | ⟨g,cap,cur,rfl,hg,_⟩⟩:=h
 ·rw [h'.1]at hk;cases hk
 ·have:g=k:=by simpa [Value.ownBlock]using hk
  omega
theorem ζg {w w':World} {B e size n:Nat} {v:Value} {xs:List Value}(h:w.ownsRow B e size v n xs)(hb:Below w.heap.size w w'):w'.ownsRow B e size v n xs:=by
 obtain⟨hn,h' | ⟨g,cap,cur,rfl,hg,hh,hc⟩⟩:=h
 ·exact⟨hn,.inl h'⟩
 ·exact⟨hn,.inr ⟨g,cap,cur,rfl,hg,by rw [hb.block g (Array.getElem?_eq_some_iff.1 hh).1];exact hh,hc⟩⟩
abbrev SpL:=List (Int × Int)
def ζ1q:SpL→List Value
 | []=> []
 | s :: r=> .int .i64 s.1 :: .int .i64 s.2 :: ζ1q r
theorem ζ36: ∀l:SpL,(ζ1q l).length=l.length*2
 | []=>rfl
 | s :: r=>by rw [ζ1q,List.length_cons,List.length_cons,ζ36 r,List.length_cons];omega
theorem cells2_0: ∀ {l:SpL} {i:Nat} {s:Int × Int},l[i]? =some s→(ζ1q l)[i*2]? =some (.int .i64 s.1)
 | [],_,_,h=>by simp at h
 | x :: r,0,s,h=>by simp at h;subst h;rfl
 | x :: r,i+1,s,h=>by
  have:=cells2_0 (l:=r) (i:=i) (by simpa using h)
  rw [show (i+1)*2=i*2+1+1 by omega]
  simpa [ζ1q]using this
theorem cells2_1: ∀ {l:SpL} {i:Nat} {s:Int × Int},l[i]? =some s→(ζ1q l)[i*2+1]? =some (.int .i64 s.2)
 | [],_,_,h=>by simp at h
 | x :: r,0,s,h=>by simp at h;subst h;rfl
 | x :: r,i+1,s,h=>by
  have:=cells2_1 (l:=r) (i:=i) (by simpa using h)
  rw [show (i+1)*2+1=i*2+1+1+1 by omega]
  simpa [ζ1q]using this
theorem cells2_append (a b:SpL):ζ1q (a++b)=ζ1q a++ζ1q b:=by
 induction a with
 | nil=>rfl
 | cons s r ih=>simp [ζ1q,ih]
abbrev Spn (w:World)(A:Option Addr)(n c:Nat)(l:SpL):Prop:=Lies w 2 A n c (ζ1q l)
theorem Spn.count {w:World} {A:Option Addr} {n c:Nat} {l:SpL}(h:Spn w A n c l):l.length=n:=by
 have:=h.len;rw [ζ36]at this;omega
theorem Spn.get {w:World} {A:Option Addr} {n c:Nat} {l:SpL}(h:Spn w A n c l) {k:Nat}(hk:k<n):
  ∃g off s,A=some ⟨g,off,none⟩∧l[k]? =some s∧g<w.heap.size∧w.cell? ⟨g,off+k*2,none⟩=some (.int .i64 s.1)∧w.cell? ⟨g,off+k*2+1,none⟩=some (.int .i64 s.2):=by
 obtain⟨g,off,hA,hg,hc⟩:=h.at_ (by omega)
 have hl:=h.count
 have hs:l[k]? =some (l[k]'(by omega)):=List.getElem?_eq_getElem (by omega)
 refine⟨g,off,_,hA,hs,hg,hc _ _ (cells2_0 hs),?_⟩
 have:=hc _ _ (cells2_1 hs)
 rw [←Nat.add_assoc]at this
 exact this
abbrev encZ (z:Int):Value:= .int .i64 z
def ints (l:List Int):List Value:=l.map encZ
def truths (l:List Bool):List Value:=l.map Value.bool
theorem ints_len (l:List Int):(ints l).length=l.length:=List.length_map _
theorem truths_len (l:List Bool):(truths l).length=l.length:=List.length_map _
theorem ints_at {l:List Int} {k:Nat} {z:Int}(h:l[k]? =some z):(ints l)[k]? =some (encZ z):=by unfold ints;rw [List.getElem?_map,h];rfl
theorem truths_at {l:List Bool} {k:Nat} {z:Bool}(h:l[k]? =some z):(truths l)[k]? =some (.bool z):=by unfold truths;rw [List.getElem?_map,h];rfl
abbrev Nums (w:World)(A:Option Addr)(n c:Nat)(l:List Int):Prop:=Lies w 1 A n c (ints l)
theorem Nums.count {w:World} {A:Option Addr} {n c:Nat} {l:List Int}(h:Nums w A n c l):l.length=n:=by
 have:=h.len;rw [ints_len]at this;omega
theorem Nums.get {w:World} {A:Option Addr} {n c:Nat} {l:List Int}(h:Nums w A n c l) {k:Nat}(hk:k<n):
  ∃g off z,A=some ⟨g,off,none⟩∧l[k]? =some z∧g<w.heap.size∧w.cell? ⟨g,off+k,none⟩=some (.int .i64 z):=by
 obtain⟨g,off,hA,hg,hc⟩:=h.at_ (by omega)
 have hl:=h.count
 have hs:l[k]? =some (l[k]'(by omega)):=List.getElem?_eq_getElem (by omega)
 exact⟨g,off,_,hA,hs,hg,hc _ _ (ints_at hs)⟩
abbrev Bits (w:World)(A:Option Addr)(n c:Nat)(l:List Bool):Prop:=Lies w 1 A n c (truths l)
theorem Bits.count {w:World} {A:Option Addr} {n c:Nat} {l:List Bool}(h:Bits w A n c l):l.length=n:=by
 have:=h.len;rw [truths_len]at this;omega
theorem Bits.get {w:World} {A:Option Addr} {n c:Nat} {l:List Bool}(h:Bits w A n c l) {k:Nat}(hk:k<n):
  ∃g off z,A=some ⟨g,off,none⟩∧l[k]? =some z∧g<w.heap.size∧w.cell? ⟨g,off+k,none⟩=some (.bool z):=by
 obtain⟨g,off,hA,hg,hc⟩:=h.at_ (by omega)
 have hl:=h.count
 have hs:l[k]? =some (l[k]'(by omega)):=List.getElem?_eq_getElem (by omega)
 exact⟨g,off,_,hA,hs,hg,hc _ _ (truths_at hs)⟩
theorem run_app_none {P:Program}(w:World)(base:Nat)(t ty e:TypeId)(i:TypeInfo)(size:Nat)(ht:P.underlying t=some (.slice e))(hi:P.info? e=some i)
  (v:Value) (n c:Nat) (xs:List Value) (hown:w.ownsRow base e size v n xs):
  (Builtin.append_ #[t,t] ty #[v,.slice none 0 c]).run P w= .ok v w:=by
 rcases hown.2 with⟨rfl,rfl⟩ | ⟨g,cap,cur,rfl,_,_,hnc,_⟩
 ·simp [Builtin.append_,run_underlying ht,Go.sizeOf,typeInfo,hi,Builtin.lenOf,Builtin.firstCells]
 ·simp [Builtin.append_,run_underlying ht,Go.sizeOf,typeInfo,hi,Builtin.lenOf,Builtin.firstCells,hnc,storeCells]
structure Elem (P:Program)(t e:TypeId)(z:Value)(size bytes:Nat):Prop where
 ty:P.underlying t=some (.slice e)
 info: ∃i,P.info? e=some i∧i.zero=some z∧i.size=size∧i.bytes=bytes
 zs:z.cells.size=size
 pos:0<size
theorem run_app {P:Program} {w:World} {base n m c size bytes:Nat} {t ty e:TypeId} {z v:Value} {xs ys:List Value} {A:Option Addr}(E:Elem P t e z size bytes)(hown:w.ownsRow base e size v n xs)
  (hl:ys.length=m*size) (hc:0<m→∃ad,A=some ad∧∀(j:Nat) (u:Value),ys[j]? =some u→w.cell? (ad.add j)=some u) (h1: ∀u∈ys,u.oneCell'=true)
  (hn:(n+m)*bytes≤140737488355328) (hm:n+m≤maxLen) (hb:base≤w.heap.size):
  ∃v' w',(Builtin.append_ #[t,t] ty #[v,.slice A m c]).run P w= .ok v' w'∧w'.ownsRow base e size v' (n+m) (xs++ys)∧w.grownBy w' v.ownBlock:=by
 obtain⟨i,hi,hz,hs,hby⟩:=E.info
 cases A with
 | none=>
  have hm0:m=0:=by
   rcases Nat.eq_zero_or_pos m with h0 | h0
   ·exact h0
   ·obtain⟨_,hA,_⟩:=hc h0;cases hA
  subst hm0
  have hys:ys= []:=List.length_eq_zero_iff.1 (by simpa using hl)
  subst hys
  exact⟨v,w,run_app_none w base t ty e i size E.ty hi v n c xs hown,by simpa using hown,World.grownBy.refl _ _⟩
 | some ad=>
  have hnews: ∀(j:Nat) (u:Value),ys[j]? =some u→w.cell? (ad.add j)=some u:=by
   rcases Nat.eq_zero_or_pos m with h0 | h0
   ·intro j u hu
    have hys:ys= []:=List.length_eq_zero_iff.1 (by rw [hl,h0,Nat.zero_mul])
    subst hys;cases hu
   ·obtain⟨ad',hA,h⟩:=hc h0
    injection hA with hA
    subst hA;exact h
  obtain⟨v',w',hr,h2,h3,_⟩:=run_append_own (P:=P) w base t ty e i z size bytes E.ty hi hz hs hby E.zs E.pos v n xs hown ad m c ys hl hnews h1 hm hn hb
  exact⟨v',w',hr,h2,h3⟩
theorem ζ1h {P:Program} {ops:Array Oper} {o:Oper} {a:Act} {w:World} {K:Act→World→Prop} {Q:Exit→Act→World→Prop} {Z:Prop}(hgd:o.guard=none)(s x:Operand)(t:TypeId)
  (ho:o.op= .call { callee:= .builtin .append,args:= #[s,x],argTypes:= #[t,t] })
  {base n m c size bytes:Nat} {e:TypeId} {z v:Value} {xs:List Value} (ys:List Value) {A:Option Addr} (E:Elem P t e z size bytes) (hs:a.eval s=v) (hown:w.ownsRow base e size v n xs)
  (hx:a.eval x= .slice A m c) (hl:ys.length=m*size) (hc:0<m→∃ad,A=some ad∧∀(j:Nat) (u:Value),ys[j]? =some u→w.cell? (ad.add j)=some u) (h1: ∀u∈ys,u.oneCell'=true)
  (hn:(n+m)*bytes≤140737488355328) (hm:n+m≤maxLen) (hb:base≤w.heap.size)
  (h: ∀v' w',w'.ownsRow base e size v' (n+m) (xs++ys)→w.grownBy w' v.ownBlock→K (a.put o.dst v') w'):
  if Region.wanted o (yielded ops a.tmps)=true then Oper.wp P o a w K Q else Z:=by
 have hw:Region.wanted o (yielded ops a.tmps)=true:=by simp [Region.wanted,hgd]
 rw [if_pos hw]
 obtain⟨v',w',hr,h2,h3⟩:=run_app (ty:=o.type) (c:=c) E hown hl hc h1 hn hm hb
 unfold Oper.wp execOp
 simp only [ho,resolve,invoke,builtin,Sem.run_bind,Sem.run_pure,Result.andThen_ok,List.map_toArray,List.map_cons,List.map_nil,hs,hx,hr]
 exact h _ _ h2 h3
theorem wpList_app {P:Program} {ops:Array Oper} {rest:List Oper} {o:Oper} {a:Act} {w:World} {Q:Exit→Act→World→Prop}(hgd:o.guard=none)(s x:Operand)(t:TypeId)
  (ho:o.op= .call { callee:= .builtin .append,args:= #[s,x],argTypes:= #[t,t] })
  {base n m c size bytes:Nat} {e:TypeId} {z v:Value} {xs:List Value} (ys:List Value) {A:Option Addr} (E:Elem P t e z size bytes) (hs:a.eval s=v) (hown:w.ownsRow base e size v n xs)
  (hx:a.eval x= .slice A m c) (hl:ys.length=m*size) (hc:0<m→∃ad,A=some ad∧∀(j:Nat) (u:Value),ys[j]? =some u→w.cell? (ad.add j)=some u) (h1: ∀u∈ys,u.oneCell'=true)
  (hn:(n+m)*bytes≤140737488355328) (hm:n+m≤maxLen) (hb:base≤w.heap.size)
  (h: ∀v' w',w'.ownsRow base e size v' (n+m) (xs++ys)→w.grownBy w' v.ownBlock→wpList P ops Q rest (a.put o.dst v') w'):wpList P ops Q (o :: rest) a w:=by
 refine wpList_plain hgd fun K hK=> ?_
 obtain⟨v',w',hr,h2,h3⟩:=run_app (ty:=o.type) (c:=c) E hown hl hc h1 hn hm hb
 unfold Oper.wp execOp
 simp only [ho,resolve,invoke,builtin,Sem.run_bind,Sem.run_pure,Result.andThen_ok,List.map_toArray,List.map_cons,List.map_nil,hs,hx,hr]
 exact hK _ _ (h _ _ h2 h3)
theorem ζ2j (w:World)(ys:List Value)(T:TypeId): ∀(j:Nat) (u:Value),ys[j]? =some u→(w.alloc (.cells ys.toArray T)).cell? ((⟨w.heap.size,0,none⟩:Addr).add j)=some u:=by
 intro j u hj
 have hh:(w.alloc (.cells ys.toArray T)).heap[w.heap.size]? =some (.cells ys.toArray T (0,0)):=by
  show (w.heap.push _)[w.heap.size]? =_
  simp
 have e:(⟨w.heap.size,0,none⟩:Addr).add j=⟨w.heap.size,j,none⟩:=by unfold Addr.add;simp;intro h;omega
 rw [e,Joins.cell_of_block hh]
 simpa using hj
theorem Lies.src {w:World} {sz n c:Nat} {A:Option Addr} {xs:List Value}(h:Lies w sz A n c xs):0<n→∃ad,A=some ad∧∀(j:Nat) (u:Value),xs[j]? =some u→w.cell? (ad.add j)=some u:=by
 intro hn
 obtain⟨g,off,hA,_,hc⟩:=h.at_ hn
 exact⟨_,hA,fun j u hj=>by rw [Addr.add_lit];exact hc j u hj⟩
theorem Lies.drop {w:World} {sz n c g off:Nat} {xs:List Value}(h:Lies w sz (some ⟨g,off,none⟩) n c xs) {k:Nat}(hk:k≤n):Lies w sz (some ⟨g,off+k*sz,none⟩) (n-k) (c-k) (xs.drop (k*sz)):=by
 refine⟨by rw [List.length_drop,h.len,Nat.sub_mul],by have:=h.cap;omega,fun hn=> ?_⟩
 obtain⟨g',off',hA,hg,hc⟩:=h.at_ (by omega)
 injection hA with hA
 injection hA with e1 e2 _
 subst e1 e2
 refine⟨_,_,rfl,hg,fun i v hv=> ?_⟩
 rw [List.getElem?_drop]at hv
 rw [Nat.add_assoc]
 exact hc _ _ hv
theorem ints_drop (l:List Int)(k:Nat):ints (l.drop k)=(ints l).drop k:=by unfold ints;rw [List.map_drop]
theorem Nums.drop {w:World} {n c g off:Nat} {l:List Int}(h:Nums w (some ⟨g,off,none⟩) n c l) {k:Nat}(hk:k≤n):Nums w (some ⟨g,off+k,none⟩) (n-k) (c-k) (l.drop k):=by
 have:=Lies.drop h hk
 rw [Nat.mul_one]at this
 show Lies _ _ _ _ _ _
 rw [ints_drop];exact this
theorem ζv {w:World} {base sz n c:Nat} {e:TypeId} {A:Option Addr} {xs:List Value}(h:w.ownsRow base e sz (.slice A n c) n xs):Lies w sz A n c xs:=by
 obtain⟨A',c',hv,L⟩:=Lies.of_own h (by have:=h.1;exact this)
 injection hv with e1 _ e3
 subst e1 e3
 exact L
theorem ζ1m {w:World} {base base' e size n:Nat} {v:Value} {xs:List Value}(h:w.ownsRow base e size v n xs)(hb:base'≤base):w.ownsRow base' e size v n xs:=by
 obtain⟨hn,h' | ⟨g,cap,cur,rfl,hg,hh⟩⟩:=h
 ·exact⟨hn,.inl h'⟩
 ·exact⟨hn,.inr ⟨g,cap,cur,rfl,Nat.le_trans hb hg,hh⟩⟩
abbrev It:=Int × Int × Int
abbrev ItL:=List It
abbrev itV (s:It):Value:= .agg #[.int .i64 s.1,.int .i64 s.2.1,.int .i64 s.2.2]
def ζ5:ItL→List Value
 | []=> []
 | s :: r=> .int .i64 s.1 :: .int .i64 s.2.1 :: .int .i64 s.2.2 :: ζ5 r
theorem ζq: ∀l:ItL,(ζ5 l).length=l.length*3
 | []=>rfl
 | s :: r=>by rw [ζ5,List.length_cons,List.length_cons,List.length_cons,ζq r,List.length_cons];omega
theorem ζ22: ∀ {l:ItL} {i:Nat} {s:It},l[i]? =some s→(ζ5 l)[i*3]? =some (.int .i64 s.1)∧(ζ5 l)[i*3+1]? =some (.int .i64 s.2.1)∧(ζ5 l)[i*3+2]? =some (.int .i64 s.2.2)
 | [],_,_,h=>by simp at h
 | x :: r,0,s,h=>by simp at h;subst h;exact⟨rfl,rfl,rfl⟩
 | x :: r,i+1,s,h=>by
  have:=ζ22 (l:=r) (i:=i) (by simpa using h)
  rw [show (i+1)*3=i*3+1+1+1 by omega,show i*3+1+1+1+1=(i*3+1)+1+1+1 by omega,show i*3+1+1+1+2=(i*3+2)+1+1+1 by omega]
  simpa [ζ5]using this
theorem ζp (a b:ItL):ζ5 (a++b)=ζ5 a++ζ5 b:=by
 induction a with
 | nil=>rfl
 | cons s r ih=>simp [ζ5,ih]
theorem ζo: ∀(l:ItL),∀u∈ζ5 l,u.oneCell'=true
 | [],u,hu=>by cases hu
 | s :: r,u,hu=>by
  rw [ζ5]at hu
  rcases List.mem_cons.1 hu with rfl | hu
  ·rfl
  ·rcases List.mem_cons.1 hu with rfl | hu
   ·rfl
   ·rcases List.mem_cons.1 hu with rfl | hu
    ·rfl
    ·exact ζo r u hu
theorem ζ53: ∀(l:ItL) (k:Nat),ζ5 (l.drop k)=(ζ5 l).drop (k*3)
 | _,0=>by simp
 | [],k+1=>by simp [ζ5]
 | s :: r,k+1=>by
  rw [List.drop_succ_cons,ζ53 r k,show (k+1)*3=k*3+1+1+1 by omega];rfl
theorem ζ52: ∀(l:ItL) (k:Nat),ζ5 (l.take k)=(ζ5 l).take (k*3)
 | _,0=>by simp [ζ5]
 | [],k+1=>by simp [ζ5]
 | s :: r,k+1=>by
  rw [List.take_succ_cons,ζ5,ζ52 r k,show (k+1)*3=k*3+1+1+1 by omega];rfl
abbrev Itm (w:World)(A:Option Addr)(n c:Nat)(l:ItL):Prop:=Lies w 3 A n c (ζ5 l)
theorem Itm.count {w:World} {A:Option Addr} {n c:Nat} {l:ItL}(h:Itm w A n c l):l.length=n:=by
 have:=h.len;rw [ζq]at this;omega
theorem Itm.get {w:World} {A:Option Addr} {n c:Nat} {l:ItL}(h:Itm w A n c l) {k:Nat}(hk:k<n):
  ∃g off s,A=some ⟨g,off,none⟩∧l[k]? =some s∧g<w.heap.size∧w.cell? ⟨g,off+k*3,none⟩=some (.int .i64 s.1)∧w.cell? ⟨g,off+k*3+1,none⟩=some (.int .i64 s.2.1)∧w.cell? ⟨g,off+k*3+2,none⟩=some (.int .i64 s.2.2):=by
 obtain⟨g,off,hA,hg,hc⟩:=h.at_ (by omega)
 have hl:=h.count
 have hs:l[k]? =some (l[k]'(by omega)):=List.getElem?_eq_getElem (by omega)
 have h3:=ζ22 hs
 refine⟨g,off,_,hA,hs,hg,hc _ _ h3.1,?_,?_⟩
 ·have:=hc _ _ h3.2.1
  rw [←Nat.add_assoc]at this
  exact this
 ·have:=hc _ _ h3.2.2
  rw [←Nat.add_assoc]at this
  exact this
theorem Itm.drop {w:World} {n c g off:Nat} {l:ItL}(h:Itm w (some ⟨g,off,none⟩) n c l) {k:Nat}(hk:k≤n):Itm w (some ⟨g,off+k*3,none⟩) (n-k) (c-k) (l.drop k):=by
 have:=Lies.drop h hk
 show Lies _ _ _ _ _ _
 rw [ζ53];exact this
theorem Lies.take {w:World} {sz n c:Nat} {A:Option Addr} {xs:List Value}(h:Lies w sz A n c xs) {k:Nat}(hk:k≤n):Lies w sz A k c (xs.take (k*sz)):=by
 refine⟨?_,Nat.le_trans hk h.cap,fun hn=> ?_⟩
 ·rw [List.length_take,h.len];exact Nat.min_eq_left (Nat.mul_le_mul_right _ hk)
 ·obtain⟨g,off,hA,hg,hc⟩:=h.at_ (by omega)
  refine⟨g,off,hA,hg,fun i v hv=>hc i v ?_⟩
  have hi:=(List.getElem?_eq_some_iff.1 hv).1
  rw [List.length_take]at hi
  rw [List.getElem?_take,if_pos (by omega)]at hv
  exact hv
theorem Itm.take {w:World} {n c:Nat} {A:Option Addr} {l:ItL}(h:Itm w A n c l) {k:Nat}(hk:k≤n):Itm w A k c (l.take k):=by
 have:=Lies.take h hk
 show Lies _ _ _ _ _ _
 rw [ζ52];exact this
theorem ζ2i (w:World)(T:TypeId)(sz base:Nat)(hb:base≤w.heap.size):(w.alloc (.cells #[] T)).ownsRow base T sz (.slice (some ⟨w.heap.size,0,none⟩) 0 0) 0 []:=by
 refine⟨by simp,.inr ⟨w.heap.size,0,#[],rfl,hb,?_,Nat.le_refl _,by unfold maxLen;omega,by simp,by simp⟩⟩
 show (w.heap.push _)[w.heap.size]? =_
 simp
theorem new_ge (w:World)(n c:Nat): ∀b,(Value.slice (some ⟨w.heap.size,0,none⟩) n c).ownBlock=some b→w.heap.size≤b:=by
 intro b hb
 have:w.heap.size=b:=by simpa [Value.ownBlock]using hb
 omega
theorem ζw (w:World)(o:Obj):(w.alloc o).heap[w.heap.size]? =some o:=by
 show (w.heap.push o)[w.heap.size]? =some o
 simp
theorem ζ3n {w:World} {k:Nat} {ys:List Value} {T:TypeId}(h:w.heap[k]? =some (.cells ys.toArray T (0,0))): ∀(j:Nat) (u:Value),ys[j]? =some u→w.cell? ((⟨k,0,none⟩:Addr).add j)=some u:=by
 intro j u hj
 have e:(⟨k,0,none⟩:Addr).add j=⟨k,j,none⟩:=by unfold Addr.add;simp;intro h;omega
 rw [e,Joins.cell_of_block h]
 simpa using hj
theorem ζ40 {W w2:World} {row:Option Nat} {T:TypeId} {ys:List Value} {k:Nat}(hW:W.heap[k]? =some (.cells ys.toArray T (0,0)))(hg:W.grownBy w2 row)(hne: ¬row=some k):
  ∀(j:Nat) (u:Value),ys[j]? =some u→w2.cell? ((⟨k,0,none⟩:Addr).add j)=some u:=by
 refine ζ3n (T:=T) ?_
 rw [hg.block k (Array.getElem?_eq_some_iff.1 hW).1 (fun e=>hne e.symm)]
 exact hW
theorem own_is {k n c b:Nat}(h:(Value.slice (some ⟨k,0,none⟩) n c).ownBlock=some b):k=b:=by simpa [Value.ownBlock]using h
abbrev Cl:=Int × It
abbrev ClL:=List Cl
def ζz:ClL→List Value
 | []=> []
 | s :: r=> .int .i64 s.1 :: .int .i64 s.2.1 :: .int .i64 s.2.2.1 :: .int .i64 s.2.2.2 :: ζz r
theorem ζ2f: ∀l:ClL,(ζz l).length=l.length*4
 | []=>rfl
 | s :: r=>by rw [ζz,List.length_cons,List.length_cons,List.length_cons,List.length_cons,ζ2f r,List.length_cons];omega
theorem cells4_at: ∀ {l:ClL} {i:Nat} {s:Cl},l[i]? =some s→(ζz l)[i*4]? =some (.int .i64 s.1)∧(ζz l)[i*4+1]? =some (.int .i64 s.2.1)∧(ζz l)[i*4+2]? =some (.int .i64 s.2.2.1)∧(ζz l)[i*4+3]? =some (.int .i64 s.2.2.2)
 | [],_,_,h=>by simp at h
 | x :: r,0,s,h=>by simp at h;subst h;exact⟨rfl,rfl,rfl,rfl⟩
 | x :: r,i+1,s,h=>by
  have:=cells4_at (l:=r) (i:=i) (by simpa using h)
  rw [show (i+1)*4=i*4+1+1+1+1 by omega,show i*4+1+1+1+1+1=(i*4+1)+1+1+1+1 by omega,show i*4+1+1+1+1+2=(i*4+2)+1+1+1+1 by omega,show i*4+1+1+1+1+3=(i*4+3)+1+1+1+1 by omega]
  simpa [ζz]using this
abbrev Cls (w:World)(A:Option Addr)(n c:Nat)(l:ClL):Prop:=Lies w 4 A n c (ζz l)
theorem Cls.count {w:World} {A:Option Addr} {n c:Nat} {l:ClL}(h:Cls w A n c l):l.length=n:=by
 have:=h.len;rw [ζ2f]at this;omega
theorem Cls.get {w:World} {A:Option Addr} {n c:Nat} {l:ClL}(h:Cls w A n c l) {k:Nat}(hk:k<n):
  ∃g off s,A=some ⟨g,off,none⟩∧l[k]? =some s∧g<w.heap.size∧w.cell? ⟨g,off+k*4,none⟩=some (.int .i64 s.1)∧w.cell? ⟨g,off+k*4+1,none⟩=some (.int .i64 s.2.1)∧w.cell? ⟨g,off+k*4+2,none⟩=some (.int .i64 s.2.2.1)∧w.cell? ⟨g,off+k*4+3,none⟩=some (.int .i64 s.2.2.2):=by
 obtain⟨g,off,hA,hg,hc⟩:=h.at_ (by omega)
 have hl:=h.count
 have hs:l[k]? =some (l[k]'(by omega)):=List.getElem?_eq_getElem (by omega)
 have h3:=cells4_at hs
 refine⟨g,off,_,hA,hs,hg,hc _ _ h3.1,?_,?_,?_⟩
 ·have:=hc _ _ h3.2.1
  rw [←Nat.add_assoc]at this
  exact this
 ·have:=hc _ _ h3.2.2.1
  rw [←Nat.add_assoc]at this
  exact this
 ·have:=hc _ _ h3.2.2.2
  rw [←Nat.add_assoc]at this
  exact this
end Corr

/- Rows of cells -/
import Derived.Test.YthagdonmijhpdaaGreatChecked
import Derived.WalkKit
import Derived.Below
import Derived.IntWalk
import Derived.Laws.Bits64b
import Derived.Test.YthagdonmijhpdaaGreatRows
import Derived.ProofKit
import Derived.OpenShut
import Derived.ShutString
import Derived.ChangeOld
import Derived.Lib.SmallJoins
import Derived.Lib.Hide
import Derived.OwnWalk
set_option linter.unusedVariables false
namespace Corr
def B32:Nat:=4294967296
def B64:Nat:=18446744073709551616
theorem B32_sq:B32*B32=B64:=by decide
theorem B32_pos:0<B32:=by decide
structure Dig (u v y1 y0:Nat):Prop where
 y0lt:y0<B32
 y1lt:y1<B32
 y1ge:2147483648≤y1
 ult:u<y1*B32+y0
 vlt:v<B32
theorem Dig.lt {u v y1 y0:Nat}(h:Dig u v y1 y0):u*B32+v<(y1*B32+y0)*B32:=by
 have h1:(u+1)*B32≤(y1*B32+y0)*B32:=Nat.mul_le_mul_right _ h.ult
 have h2:=h.vlt
 rw [Nat.add_mul,Nat.one_mul]at h1
 omega
theorem Dig.guess {u v y1 y0:Nat}(h:Dig u v y1 y0):u / y1≤B32+1:=by
 have hp:0<y1:=by have:=h.y1ge;omega
 refine Nat.le_of_lt_succ ((Nat.div_lt_iff_lt_mul hp).2 ?_)
 have h1:=h.ult;have h2:=h.y0lt;have h3:=h.y1ge
 have e:(B32+1+1)*y1=y1*B32+2*y1:=by rw [Nat.add_mul,Nat.add_mul,Nat.mul_comm B32];omega
 rw [e]
 unfold B32 at*
 omega
structure DInv (u v y1 y0 q r:Nat):Prop where
 sum:q*y1+r=u
 rlt:r<B32
 qge:(u*B32+v) / (y1*B32+y0)≤q
 qle:q≤B32+1
theorem Dig.ypos {u v y1 y0:Nat}(h:Dig u v y1 y0):0<y1*B32+y0:=by
 have:=h.ult;omega
theorem Dig.start {u v y1 y0:Nat}(h:Dig u v y1 y0):DInv u v y1 y0 (u / y1) (u % y1):=by
 have hp:0<y1:=by have:=h.y1ge;omega
 have hm:u % y1<y1:=Nat.mod_lt _ hp
 refine⟨?_,?_,?_,h.guess⟩
 ·rw [Nat.mul_comm];exact Nat.div_add_mod u y1
 ·have:=h.y1lt;omega
 ·refine Nat.le_of_lt_succ ((Nat.div_lt_iff_lt_mul h.ypos).2 ?_)
  have h1:u+1≤(u / y1+1)*y1:=by
   have h3:=Nat.div_add_mod u y1
   have h4:(u / y1+1)*y1=y1*(u / y1)+y1:=by rw [Nat.add_mul,Nat.one_mul,Nat.mul_comm]
   omega
  have h2:(u+1)*B32≤(u / y1+1)*y1*B32:=Nat.mul_le_mul_right _ h1
  have h3:(u / y1+1)*y1*B32≤(u / y1).succ*(y1*B32+y0):=by
   rw [Nat.mul_assoc];exact Nat.mul_le_mul_left _ (Nat.le_add_right _ _)
  have h4:=h.vlt
  rw [Nat.add_mul,Nat.one_mul]at h2
  omega
theorem ζ4b {u y1 y0 q r:Nat}(hs:q*y1+r=u):q*(y1*B32+y0)+r*B32=u*B32+q*y0:=by
 rw [Nat.mul_add,←Nat.mul_assoc,←hs,Nat.add_mul]
 omega
theorem DInv.yes {u v y1 y0 q r:Nat}(h:Dig u v y1 y0)(i:DInv u v y1 y0 q r)(t:B32≤q∨B32*r+v<q*y0):
  (u*B32+v) / (y1*B32+y0)+1≤q:=by
 rcases t with t | t
 ·have:(u*B32+v) / (y1*B32+y0)<B32:=(Nat.div_lt_iff_lt_mul h.ypos).2 (by rw [Nat.mul_comm B32];exact h.lt)
  omega
 ·refine(Nat.div_lt_iff_lt_mul h.ypos).2 ?_
  have:=ζ4b (y0:=y0) i.sum
  have e:B32*r=r*B32:=Nat.mul_comm _ _
  omega
theorem DInv.out {u v y1 y0 q r:Nat}(h:Dig u v y1 y0)(i:DInv u v y1 y0 q r)(t:B32≤q∨B32*r+v<q*y0)(hr:B32≤r+y1):
  q-1=(u*B32+v) / (y1*B32+y0):=by
 have hy:=i.yes h t
 refine Nat.le_antisymm ((Nat.le_div_iff_mul_le h.ypos).2 ?_) (by omega)
 have hs:(q-1)*y1+(r+y1)=u:=by
  have e:(q-1+1)*y1=(q-1)*y1+y1:=by rw [Nat.add_mul,Nat.one_mul]
  have hq:q-1+1=q:=Nat.sub_add_cancel (Nat.le_trans (Nat.le_add_left 1 _) hy)
  rw [hq]at e
  have:=i.sum
  omega
 have hp:=ζ4b (y0:=y0) hs
 have h1:B32*B32≤(r+y1)*B32:=Nat.mul_le_mul_right _ hr
 have h2:(q-1)*y0≤B32*B32:=Nat.mul_le_mul (by have:=i.qle;omega) (by have:=h.y0lt;omega)
 omega
theorem DInv.next {u v y1 y0 q r:Nat}(h:Dig u v y1 y0)(i:DInv u v y1 y0 q r)(t:B32≤q∨B32*r+v<q*y0)(hr:r+y1<B32):
  DInv u v y1 y0 (q-1) (r+y1):=by
 have hy:=i.yes h t
 refine⟨?_,hr,by omega,by have:=i.qle;omega⟩
 have e:(q-1+1)*y1=(q-1)*y1+y1:=by rw [Nat.add_mul,Nat.one_mul]
 have hq:q-1+1=q:=Nat.sub_add_cancel (Nat.le_trans (Nat.le_add_left 1 _) hy)
 rw [hq]at e
 have:=i.sum
 omega
theorem DInv.no {u v y1 y0 q r:Nat}(h:Dig u v y1 y0)(i:DInv u v y1 y0 q r)(t:q*y0≤B32*r+v):
  q=(u*B32+v) / (y1*B32+y0):=by
 refine Nat.le_antisymm ((Nat.le_div_iff_mul_le h.ypos).2 ?_) i.qge
 have hp:=ζ4b (y0:=y0) i.sum
 have e:B32*r=r*B32:=Nat.mul_comm _ _
 omega
theorem Dig.digit_lt {u v y1 y0:Nat}(h:Dig u v y1 y0):(u*B32+v) / (y1*B32+y0)<B32:=
 (Nat.div_lt_iff_lt_mul h.ypos).2 (by rw [Nat.mul_comm B32];exact h.lt)
theorem wrap_rest (a b m:Nat)(hm:m<B64)(h:a=b+m):(((a:Int)-(b:Int)) % (B64:Int))=(m:Int):=by
 subst h
 have:((b+m:Nat):Int)-(b:Int)=(m:Int):=by omega
 rw [this]
 unfold B64 at*
 omega
theorem two_digits (u v1 v0 y:Nat)(hy:0<y):
  (u*B64+(v1*B32+v0)) / y=(u*B32+v1) / y*B32+((u*B32+v1) % y*B32+v0) / y∧
  (u*B64+(v1*B32+v0)) % y=((u*B32+v1) % y*B32+v0) % y:=by
 have e:u*B64+(v1*B32+v0)=(u*B32+v1) / y*B32*y+((u*B32+v1) % y*B32+v0):=by
  have h:=Nat.div_add_mod (u*B32+v1) y
  have h1:(u*B32+v1)*B32=(y*((u*B32+v1) / y)+(u*B32+v1) % y)*B32:=by rw [h]
  rw [Nat.add_mul,Nat.add_mul,Nat.mul_assoc u,B32_sq]at h1
  have h2:y*((u*B32+v1) / y)*B32=(u*B32+v1) / y*B32*y:=by
   rw [Nat.mul_comm y,Nat.mul_assoc,Nat.mul_comm y,Nat.mul_assoc]
  omega
 rw [e]
 constructor
 ·rw [Nat.mul_comm,Nat.mul_add_div hy]
 ·rw [Nat.mul_comm,Nat.mul_add_mod]
theorem shifted (n y p:Nat)(hp:0<p):n*p / (y*p)=n / y∧n*p % (y*p) / p=n % y:=by
 constructor
 ·exact Nat.mul_div_mul_right n y hp
 ·rw [Nat.mul_mod_mul_right,Nat.mul_div_cancel _ hp]
open Go
def hiW (n:Nat):Nat:=n / B64
def loW (n:Nat):Nat:=n % B64
def nat2 (h l:Nat):Nat:=h*B64+l
def B128:Nat:=B64*B64
def val (s:Bool)(n:Nat):Int:=if s=true then -(n:Int)else(n:Int)
def negB (z:Int):Bool:=decide (z<0)
abbrev WV (s:Bool)(h l:Nat):Value:= .agg #[.bool s,.int .u64 (h:Int),.int .u64 (l:Int)]
abbrev ZW (z:Int):Value:=WV (negB z) (hiW z.natAbs) (loW z.natAbs)
def cmpI (a b:Int):Int:=if a<b then -1 else if a=b then 0 else 1
theorem loW_lt (n:Nat):loW n<B64:=Nat.mod_lt _ (by decide)
theorem hiW_lt {n:Nat}(h:n<B128):hiW n<B64:=(Nat.div_lt_iff_lt_mul (by decide)).2 h
theorem nat2_hilo (n:Nat):nat2 (hiW n) (loW n)=n:=by
 unfold nat2 hiW loW;rw [Nat.mul_comm];exact Nat.div_add_mod n B64
theorem hiW_nat2 {h l:Nat}(hl:l<B64):hiW (nat2 h l)=h:=by
 unfold nat2 hiW;rw [Nat.mul_comm,Nat.mul_add_div (by decide),Nat.div_eq_of_lt hl];rfl
theorem loW_nat2 {h l:Nat}(hl:l<B64):loW (nat2 h l)=l:=by
 unfold nat2 loW;rw [Nat.mul_comm,Nat.mul_add_mod,Nat.mod_eq_of_lt hl]
theorem nat2_lt {h l:Nat}(hh:h<B64)(hl:l<B64):nat2 h l<B128:=by
 unfold nat2 B128
 have h1:(h+1)*B64≤B64*B64:=Nat.mul_le_mul_right _ hh
 rw [Nat.add_mul,Nat.one_mul]at h1
 omega
theorem nat2_zero (a b:Nat):nat2 a b=0↔a=0∧b=0:=by
 unfold nat2 B64;omega
theorem natAbs_val (s:Bool)(n:Nat):(val s n).natAbs=n:=by cases s <;> simp [val]
theorem negB_val (s:Bool)(n:Nat):negB (val s n)=(s && (n != 0)):=by
 cases s
 ·simp [val,negB]
 ·rw [Bool.eq_iff_iff];simp [val,negB];omega
theorem val_neg (z:Int):val (negB z) z.natAbs=z:=by
 unfold val negB
 by_cases h:z<0
 ·rw [if_pos (by simpa using h)];omega
 ·rw [if_neg (by simpa using h)];omega
theorem val_ZW (z:Int):val (negB z) (nat2 (hiW z.natAbs) (loW z.natAbs))=z:=by rw [nat2_hilo,val_neg]
theorem ZW_val (s:Bool)(h l:Nat)(hl:l<B64):ZW (val s (nat2 h l))=WV (negB (val s (nat2 h l))) h l:=by
 unfold ZW;rw [natAbs_val,hiW_nat2 hl,loW_nat2 hl]
theorem or_u64 (a b:Nat)(ha:a<B64)(hb:b<B64):bits .or .u64 (a:Int) (b:Int)=((a ||| b:Nat):Int):=bits_or_u64_nat a b ha hb
theorem or_test (a b:Nat)(ha:a<B64)(hb:b<B64):(bits .or .u64 (a:Int) (b:Int) != 0)=(nat2 a b != 0):=by
 rw [or_u64 a b ha hb,Bool.eq_iff_iff]
 simp only [bne_iff_ne,ne_eq]
 have h1:(((a ||| b:Nat):Int)=0)↔(a ||| b=0):=by omega
 rw [h1,nat2_zero,Nat.or_eq_zero_iff]
theorem neg_wrap (n:Int)(h1: -9223372036854775808≤n)(h:n<0):IntKind.u64.wrap (-IntKind.u64.wrap n)=(n.natAbs:Int):=by
 rw [IntKind.wrap_u64,IntKind.wrap_u64];omega
theorem ret_int {k:IntKind} {a b:Int}(h:a=b):Ending.returned (.int k a)= .returned (.int k b):=by rw [h]
theorem cmp_lt {h l h' l':Nat}(hl:l<B64)(hl':l'<B64):nat2 h l<nat2 h' l'↔h<h'∨h=h'∧l<l':=by
 unfold nat2 B64 at *;omega
theorem cmp_eq {h l h' l':Nat}(hl:l<B64)(hl':l'<B64):nat2 h l=nat2 h' l'↔h=h'∧l=l':=by
 unfold nat2 B64 at *;omega
theorem cmpI_lt {a b:Int}(h:a<b):cmpI a b= -1:=by unfold cmpI;rw [if_pos h]
theorem cmpI_eq {a b:Int}(h:a=b):cmpI a b=0:=by unfold cmpI;rw [if_neg (by omega),if_pos h]
theorem cmpI_gt {a b:Int}(h:b<a):cmpI a b=1:=by unfold cmpI;rw [if_neg (by omega),if_neg (by omega)]
theorem val_int {k:IntKind} {a b:Int}(h:a=b):Value.int k a= .int k b:=by rw [h]
theorem ζd (w:World)(o:Obj):(w.alloc o).heap.size=w.heap.size+1:=by simp
theorem neg_val (s:Bool)(n:Nat):val (!s) n= -val s n:=by cases s <;> simp [val]
theorem ret_intbool {k:IntKind} {a b:Int} {c d:Bool}(h:a=b)(h':c=d):Ending.returned (.tuple #[.int k a,.bool c])= .returned (.tuple #[.int k b,.bool d]):=by rw [h,h']
end Corr
namespace Go.Proofs.YthagdonmijhpdaaGreat
open Go.ChangeShapes Go.WideShapes Go.ChangeAt Go.RowKit Go.Joins Corr
theorem own:ownKnob Tryz.prog.godebug=none:=by kernel_rfl
end Go.Proofs.YthagdonmijhpdaaGreat
namespace Corr
open Go Go.RowKit
structure Lies (w:World)(sz:Nat)(A:Option Addr)(n c:Nat)(xs:List Value):Prop where
 len:xs.length=n*sz
 cap:n≤c
 at_:0<n→∃g off,A=some ⟨g,off,none⟩∧g<w.heap.size∧∀(i:Nat) (v:Value),xs[i]? =some v→w.cell? ⟨g,off+i,none⟩=some v
section
variable {w w':World} {sz n c:Nat} {A:Option Addr} {xs:List Value}
theorem Lies.keep (h:Lies w sz A n c xs)(hb:Below w.heap.size w w'):Lies w' sz A n c xs:=
 ⟨h.len,h.cap,fun hn=>by
  obtain⟨g,off,hA,hg,hc⟩:=h.at_ hn
  exact⟨g,off,hA,Nat.lt_of_lt_of_le hg hb.size,fun i x hx=>(hb.cell (p:=⟨g,off+i,none⟩) hg).trans (hc i x hx)⟩⟩
theorem Lies.nil_ (w:World)(sz:Nat):Lies w sz none 0 0 []:=⟨by simp,Nat.le_refl _,fun h=>absurd h (by omega)⟩
theorem Lies.of_own {base:Nat} {e:TypeId} {v:Value}(h:w.ownsRow base e sz v n xs)(hl:xs.length=n*sz): ∃A c,v= .slice A n c∧Lies w sz A n c xs:=by
 rcases Joins.ownsRow_forms h with⟨rfl,hn⟩ | ⟨g,cap,rfl⟩
 ·subst hn
  have:xs= []:=List.length_eq_zero_iff.1 (by simpa using hl)
  subst this
  exact⟨none,0,rfl,Lies.nil_ w sz⟩
 ·refine⟨some ⟨g,0,none⟩,cap,rfl,hl,?_,fun hn=>⟨g,0,rfl,?_,fun i x hx=> ?_⟩⟩
  ·obtain⟨_,h' | ⟨g',cap',cur,hv,_,_,hc,_⟩⟩:=h
   ·cases h'.1
   ·injection hv with _ _ e2;rw [e2];exact hc
  ·obtain⟨_,h' | ⟨g',cap',cur,hv,_,hh,_⟩⟩:=h
   ·cases h'.1
   ·injection hv with e1 _ _
    injection e1 with e1
    injection e1 with e1 _ _
    subst e1
    exact(Array.getElem?_eq_some_iff.1 hh).1
  ·have hi:i<xs.length:=(List.getElem?_eq_some_iff.1 hx).1
   rw [Nat.zero_add,h.cellAt i (by omega),hx]
end
theorem ζ1c {w:World} {base:Nat} {e:TypeId} {size n:Nat} {v:Value} {xs:List Value}(h:w.ownsRow base e size v n xs): ∀k,v.ownBlock=some k→base≤k:=by
 intro k hk
 obtain⟨_,h' | ⟨g,cap,cur,rfl,hg,_⟩⟩:=h
 ·rw [h'.1]at hk;cases hk
 ·have:g=k:=by simpa [Value.ownBlock]using hk
  omega
theorem ζg {w w':World} {B e size n:Nat} {v:Value} {xs:List Value}(h:w.ownsRow B e size v n xs)(hb:Below w.heap.size w w'):w'.ownsRow B e size v n xs:=by
 obtain⟨hn,h' | ⟨g,cap,cur,rfl,hg,hh,hc⟩⟩:=h
 ·exact⟨hn,.inl h'⟩
 ·exact⟨hn,.inr ⟨g,cap,cur,rfl,hg,by rw [hb.block g (Array.getElem?_eq_some_iff.1 hh).1];exact hh,hc⟩⟩
abbrev SpL:=List (Int × Int)
def ζ1q:SpL→List Value
 | []=> []
 | s :: r=> .int .i64 s.1 :: .int .i64 s.2 :: ζ1q r
theorem ζ36: ∀l:SpL,(ζ1q l).length=l.length*2
 | []=>rfl
 | s :: r=>by rw [ζ1q,List.length_cons,List.length_cons,ζ36 r,List.length_cons];omega
theorem cells2_0: ∀ {l:SpL} {i:Nat} {s:Int × Int},l[i]? =some s→(ζ1q l)[i*2]? =some (.int .i64 s.1)
 | [],_,_,h=>by simp at h
 | x :: r,0,s,h=>by simp at h;subst h;rfl
 | x :: r,i+1,s,h=>by
  have:=cells2_0 (l:=r) (i:=i) (by simpa using h)
  rw [show (i+1)*2=i*2+1+1 by omega]
  simpa [ζ1q]using this
theorem cells2_1: ∀ {l:SpL} {i:Nat} {s:Int × Int},l[i]? =some s→(ζ1q l)[i*2+1]? =some (.int .i64 s.2)
 | [],_,_,h=>by simp at h
 | x :: r,0,s,h=>by simp at h;subst h;rfl
 | x :: r,i+1,s,h=>by
  have:=cells2_1 (l:=r) (i:=i) (by simpa using h)
  rw [show (i+1)*2+1=i*2+1+1+1 by omega]
  simpa [ζ1q]using this
theorem cells2_append (a b:SpL):ζ1q (a++b)=ζ1q a++ζ1q b:=by
 induction a with
 | nil=>rfl
 | cons s r ih=>simp [ζ1q,ih]
abbrev Spn (w:World)(A:Option Addr)(n c:Nat)(l:SpL):Prop:=Lies w 2 A n c (ζ1q l)
theorem Spn.count {w:World} {A:Option Addr} {n c:Nat} {l:SpL}(h:Spn w A n c l):l.length=n:=by
 have:=h.len;rw [ζ36]at this;omega
theorem Spn.get {w:World} {A:Option Addr} {n c:Nat} {l:SpL}(h:Spn w A n c l) {k:Nat}(hk:k<n):
  ∃g off s,A=some ⟨g,off,none⟩∧l[k]? =some s∧g<w.heap.size∧w.cell? ⟨g,off+k*2,none⟩=some (.int .i64 s.1)∧w.cell? ⟨g,off+k*2+1,none⟩=some (.int .i64 s.2):=by
 obtain⟨g,off,hA,hg,hc⟩:=h.at_ (by omega)
 have hl:=h.count
 have hs:l[k]? =some (l[k]'(by omega)):=List.getElem?_eq_getElem (by omega)
 refine⟨g,off,_,hA,hs,hg,hc _ _ (cells2_0 hs),?_⟩
 have:=hc _ _ (cells2_1 hs)
 rw [←Nat.add_assoc]at this
 exact this
abbrev encZ (z:Int):Value:= .int .i64 z
def ints (l:List Int):List Value:=l.map encZ
def truths (l:List Bool):List Value:=l.map Value.bool
theorem ints_len (l:List Int):(ints l).length=l.length:=List.length_map _
theorem truths_len (l:List Bool):(truths l).length=l.length:=List.length_map _
theorem ints_at {l:List Int} {k:Nat} {z:Int}(h:l[k]? =some z):(ints l)[k]? =some (encZ z):=by unfold ints;rw [List.getElem?_map,h];rfl
theorem truths_at {l:List Bool} {k:Nat} {z:Bool}(h:l[k]? =some z):(truths l)[k]? =some (.bool z):=by unfold truths;rw [List.getElem?_map,h];rfl
abbrev Nums (w:World)(A:Option Addr)(n c:Nat)(l:List Int):Prop:=Lies w 1 A n c (ints l)
theorem Nums.count {w:World} {A:Option Addr} {n c:Nat} {l:List Int}(h:Nums w A n c l):l.length=n:=by
 have:=h.len;rw [ints_len]at this;omega
theorem Nums.get {w:World} {A:Option Addr} {n c:Nat} {l:List Int}(h:Nums w A n c l) {k:Nat}(hk:k<n):
  ∃g off z,A=some ⟨g,off,none⟩∧l[k]? =some z∧g<w.heap.size∧w.cell? ⟨g,off+k,none⟩=some (.int .i64 z):=by
 obtain⟨g,off,hA,hg,hc⟩:=h.at_ (by omega)
 have hl:=h.count
 have hs:l[k]? =some (l[k]'(by omega)):=List.getElem?_eq_getElem (by omega)
 exact⟨g,off,_,hA,hs,hg,hc _ _ (ints_at hs)⟩
abbrev Bits (w:World)(A:Option Addr)(n c:Nat)(l:List Bool):Prop:=Lies w 1 A n c (truths l)
theorem Bits.count {w:World} {A:Option Addr} {n c:Nat} {l:List Bool}(h:Bits w A n c l):l.length=n:=by
 have:=h.len;rw [truths_len]at this;omega
theorem Bits.get {w:World} {A:Option Addr} {n c:Nat} {l:List Bool}(h:Bits w A n c l) {k:Nat}(hk:k<n):
  ∃g off z,A=some ⟨g,off,none⟩∧l[k]? =some z∧g<w.heap.size∧w.cell? ⟨g,off+k,none⟩=some (.bool z):=by
 obtain⟨g,off,hA,hg,hc⟩:=h.at_ (by omega)
 have hl:=h.count
 have hs:l[k]? =some (l[k]'(by omega)):=List.getElem?_eq_getElem (by omega)
 exact⟨g,off,_,hA,hs,hg,hc _ _ (truths_at hs)⟩
structure Elem (P:Program)(t e:TypeId)(z:Value)(size bytes:Nat):Prop where
 ty:P.underlying t=some (.slice e)
 info: ∃i,P.info? e=some i∧i.zero=some z∧i.size=size∧i.bytes=bytes
 zs:z.cells.size=size
 pos:0<size
theorem ζ2j (w:World)(ys:List Value)(T:TypeId): ∀(j:Nat) (u:Value),ys[j]? =some u→(w.alloc (.cells ys.toArray T)).cell? ((⟨w.heap.size,0,none⟩:Addr).add j)=some u:=by
 intro j u hj
 have hh:(w.alloc (.cells ys.toArray T)).heap[w.heap.size]? =some (.cells ys.toArray T (0,0)):=by
  show (w.heap.push _)[w.heap.size]? =_
  simp
 have e:(⟨w.heap.size,0,none⟩:Addr).add j=⟨w.heap.size,j,none⟩:=by unfold Addr.add;simp;intro h;omega
 rw [e,Joins.cell_of_block hh]
 simpa using hj
theorem Lies.drop {w:World} {sz n c g off:Nat} {xs:List Value}(h:Lies w sz (some ⟨g,off,none⟩) n c xs) {k:Nat}(hk:k≤n):Lies w sz (some ⟨g,off+k*sz,none⟩) (n-k) (c-k) (xs.drop (k*sz)):=by
 refine⟨by rw [List.length_drop,h.len,Nat.sub_mul],by have:=h.cap;omega,fun hn=> ?_⟩
 obtain⟨g',off',hA,hg,hc⟩:=h.at_ (by omega)
 injection hA with hA
 injection hA with e1 e2 _
 subst e1 e2
 refine⟨_,_,rfl,hg,fun i v hv=> ?_⟩
 rw [List.getElem?_drop]at hv
 rw [Nat.add_assoc]
 exact hc _ _ hv
theorem ints_drop (l:List Int)(k:Nat):ints (l.drop k)=(ints l).drop k:=by unfold ints;rw [List.map_drop]
theorem Nums.drop {w:World} {n c g off:Nat} {l:List Int}(h:Nums w (some ⟨g,off,none⟩) n c l) {k:Nat}(hk:k≤n):Nums w (some ⟨g,off+k,none⟩) (n-k) (c-k) (l.drop k):=by
 have:=Lies.drop h hk
 rw [Nat.mul_one]at this
 show Lies _ _ _ _ _ _
 rw [ints_drop];exact this
theorem ζv {w:World} {base sz n c:Nat} {e:TypeId} {A:Option Addr} {xs:List Value}(h:w.ownsRow base e sz (.slice A n c) n xs):Lies w sz A n c xs:=by
 obtain⟨A',c',hv,L⟩:=Lies.of_own h (by have:=h.1;exact this)
 injection hv with e1 _ e3
 subst e1 e3
 exact L
theorem ζ1m {w:World} {base base' e size n:Nat} {v:Value} {xs:List Value}(h:w.ownsRow base e size v n xs)(hb:base'≤base):w.ownsRow base' e size v n xs:=by
 obtain⟨hn,h' | ⟨g,cap,cur,rfl,hg,hh⟩⟩:=h
 ·exact⟨hn,.inl h'⟩
 ·exact⟨hn,.inr ⟨g,cap,cur,rfl,Nat.le_trans hb hg,hh⟩⟩
abbrev It:=Int × Int × Int
abbrev ItL:=List It
abbrev itV (s:It):Value:= .agg #[.int .i64 s.1,.int .i64 s.2.1,.int .i64 s.2.2]
def ζ5:ItL→List Value
 | []=> []
 | s :: r=> .int .i64 s.1 :: .int .i64 s.2.1 :: .int .i64 s.2.2 :: ζ5 r
theorem ζq: ∀l:ItL,(ζ5 l).length=l.length*3
 | []=>rfl
 | s :: r=>by rw [ζ5,List.length_cons,List.length_cons,List.length_cons,ζq r,List.length_cons];omega
theorem ζ22: ∀ {l:ItL} {i:Nat} {s:It},l[i]? =some s→(ζ5 l)[i*3]? =some (.int .i64 s.1)∧(ζ5 l)[i*3+1]? =some (.int .i64 s.2.1)∧(ζ5 l)[i*3+2]? =some (.int .i64 s.2.2)
 | [],_,_,h=>by simp at h
 | x :: r,0,s,h=>by simp at h;subst h;exact⟨rfl,rfl,rfl⟩
 | x :: r,i+1,s,h=>by
  have:=ζ22 (l:=r) (i:=i) (by simpa using h)
  rw [show (i+1)*3=i*3+1+1+1 by omega,show i*3+1+1+1+1=(i*3+1)+1+1+1 by omega,show i*3+1+1+1+2=(i*3+2)+1+1+1 by omega]
  simpa [ζ5]using this
theorem ζp (a b:ItL):ζ5 (a++b)=ζ5 a++ζ5 b:=by
 induction a with
 | nil=>rfl
 | cons s r ih=>simp [ζ5,ih]
theorem ζo: ∀(l:ItL),∀u∈ζ5 l,u.oneCell'=true
 | [],u,hu=>by cases hu
 | s :: r,u,hu=>by
  rw [ζ5]at hu
  rcases List.mem_cons.1 hu with rfl | hu
  ·rfl
  ·rcases List.mem_cons.1 hu with rfl | hu
   ·rfl
   ·rcases List.mem_cons.1 hu with rfl | hu
    ·rfl
    ·exact ζo r u hu
theorem ζ53: ∀(l:ItL) (k:Nat),ζ5 (l.drop k)=(ζ5 l).drop (k*3)
 | _,0=>by simp
 | [],k+1=>by simp [ζ5]
 | s :: r,k+1=>by
  rw [List.drop_succ_cons,ζ53 r k,show (k+1)*3=k*3+1+1+1 by omega];rfl
theorem ζ52: ∀(l:ItL) (k:Nat),ζ5 (l.take k)=(ζ5 l).take (k*3)
 | _,0=>by simp [ζ5]
 | [],k+1=>by simp [ζ5]
 | s :: r,k+1=>by
  rw [List.take_succ_cons,ζ5,ζ52 r k,show (k+1)*3=k*3+1+1+1 by omega];rfl
abbrev Itm (w:World)(A:Option Addr)(n c:Nat)(l:ItL):Prop:=Lies w 3 A n c (ζ5 l)
theorem Itm.count {w:World} {A:Option Addr} {n c:Nat} {l:ItL}(h:Itm w A n c l):l.length=n:=by
 have:=h.len;rw [ζq]at this;omega
theorem Itm.get {w:World} {A:Option Addr} {n c:Nat} {l:ItL}(h:Itm w A n c l) {k:Nat}(hk:k<n):
  ∃g off s,A=some ⟨g,off,none⟩∧l[k]? =some s∧g<w.heap.size∧w.cell? ⟨g,off+k*3,none⟩=some (.int .i64 s.1)∧w.cell? ⟨g,off+k*3+1,none⟩=some (.int .i64 s.2.1)∧w.cell? ⟨g,off+k*3+2,none⟩=some (.int .i64 s.2.2):=by
 obtain⟨g,off,hA,hg,hc⟩:=h.at_ (by omega)
 have hl:=h.count
 have hs:l[k]? =some (l[k]'(by omega)):=List.getElem?_eq_getElem (by omega)
 have h3:=ζ22 hs
 refine⟨g,off,_,hA,hs,hg,hc _ _ h3.1,?_,?_⟩
 ·have:=hc _ _ h3.2.1
  rw [←Nat.add_assoc]at this
  exact this
 ·have:=hc _ _ h3.2.2
  rw [←Nat.add_assoc]at this
  exact this
theorem Itm.drop {w:World} {n c g off:Nat} {l:ItL}(h:Itm w (some ⟨g,off,none⟩) n c l) {k:Nat}(hk:k≤n):Itm w (some ⟨g,off+k*3,none⟩) (n-k) (c-k) (l.drop k):=by
 have:=Lies.drop h hk
 show Lies _ _ _ _ _ _
 rw [ζ53];exact this
theorem Lies.take {w:World} {sz n c:Nat} {A:Option Addr} {xs:List Value}(h:Lies w sz A n c xs) {k:Nat}(hk:k≤n):Lies w sz A k c (xs.take (k*sz)):=by
 refine⟨?_,Nat.le_trans hk h.cap,fun hn=> ?_⟩
 ·rw [List.length_take,h.len];exact Nat.min_eq_left (Nat.mul_le_mul_right _ hk)
 ·obtain⟨g,off,hA,hg,hc⟩:=h.at_ (by omega)
  refine⟨g,off,hA,hg,fun i v hv=>hc i v ?_⟩
  have hi:=(List.getElem?_eq_some_iff.1 hv).1
  rw [List.length_take]at hi
  rw [List.getElem?_take,if_pos (by omega)]at hv
  exact hv
theorem Itm.take {w:World} {n c:Nat} {A:Option Addr} {l:ItL}(h:Itm w A n c l) {k:Nat}(hk:k≤n):Itm w A k c (l.take k):=by
 have:=Lies.take h hk
 show Lies _ _ _ _ _ _
 rw [ζ52];exact this
theorem ζw (w:World)(o:Obj):(w.alloc o).heap[w.heap.size]? =some o:=by
 show (w.heap.push o)[w.heap.size]? =some o
 simp
theorem ζ3n {w:World} {k:Nat} {ys:List Value} {T:TypeId}(h:w.heap[k]? =some (.cells ys.toArray T (0,0))): ∀(j:Nat) (u:Value),ys[j]? =some u→w.cell? ((⟨k,0,none⟩:Addr).add j)=some u:=by
 intro j u hj
 have e:(⟨k,0,none⟩:Addr).add j=⟨k,j,none⟩:=by unfold Addr.add;simp;intro h;omega
 rw [e,Joins.cell_of_block h]
 simpa using hj
theorem own_is {k n c b:Nat}(h:(Value.slice (some ⟨k,0,none⟩) n c).ownBlock=some b):k=b:=by simpa [Value.ownBlock]using h
abbrev Cl:=Int × It
abbrev ClL:=List Cl
def ζz:ClL→List Value
 | []=> []
 | s :: r=> .int .i64 s.1 :: .int .i64 s.2.1 :: .int .i64 s.2.2.1 :: .int .i64 s.2.2.2 :: ζz r
theorem ζ2f: ∀l:ClL,(ζz l).length=l.length*4
 | []=>rfl
 | s :: r=>by rw [ζz,List.length_cons,List.length_cons,List.length_cons,List.length_cons,ζ2f r,List.length_cons];omega
theorem cells4_at: ∀ {l:ClL} {i:Nat} {s:Cl},l[i]? =some s→(ζz l)[i*4]? =some (.int .i64 s.1)∧(ζz l)[i*4+1]? =some (.int .i64 s.2.1)∧(ζz l)[i*4+2]? =some (.int .i64 s.2.2.1)∧(ζz l)[i*4+3]? =some (.int .i64 s.2.2.2)
 | [],_,_,h=>by simp at h
 | x :: r,0,s,h=>by simp at h;subst h;exact⟨rfl,rfl,rfl,rfl⟩
 | x :: r,i+1,s,h=>by
  have:=cells4_at (l:=r) (i:=i) (by simpa using h)
  rw [show (i+1)*4=i*4+1+1+1+1 by omega,show i*4+1+1+1+1+1=(i*4+1)+1+1+1+1 by omega,show i*4+1+1+1+1+2=(i*4+2)+1+1+1+1 by omega,show i*4+1+1+1+1+3=(i*4+3)+1+1+1+1 by omega]
  simpa [ζz]using this
abbrev Cls (w:World)(A:Option Addr)(n c:Nat)(l:ClL):Prop:=Lies w 4 A n c (ζz l)
theorem Cls.count {w:World} {A:Option Addr} {n c:Nat} {l:ClL}(h:Cls w A n c l):l.length=n:=by
 have:=h.len;rw [ζ2f]at this;omega
theorem Cls.get {w:World} {A:Option Addr} {n c:Nat} {l:ClL}(h:Cls w A n c l) {k:Nat}(hk:k<n):
  ∃g off s,A=some ⟨g,off,none⟩∧l[k]? =some s∧g<w.heap.size∧w.cell? ⟨g,off+k*4,none⟩=some (.int .i64 s.1)∧w.cell? ⟨g,off+k*4+1,none⟩=some (.int .i64 s.2.1)∧w.cell? ⟨g,off+k*4+2,none⟩=some (.int .i64 s.2.2.1)∧w.cell? ⟨g,off+k*4+3,none⟩=some (.int .i64 s.2.2.2):=by
 obtain⟨g,off,hA,hg,hc⟩:=h.at_ (by omega)
 have hl:=h.count
 have hs:l[k]? =some (l[k]'(by omega)):=List.getElem?_eq_getElem (by omega)
 have h3:=cells4_at hs
 refine⟨g,off,_,hA,hs,hg,hc _ _ h3.1,?_,?_,?_⟩
 ·have:=hc _ _ h3.2.1
  rw [←Nat.add_assoc]at this
  exact this
 ·have:=hc _ _ h3.2.2.1
  rw [←Nat.add_assoc]at this
  exact this
 ·have:=hc _ _ h3.2.2.2
  rw [←Nat.add_assoc]at this
  exact this
end Corr

/- Frames: how arguments are read and left. -/
import Derived.Test.YthagdonmijhpdaaGreatChecked
import Derived.WalkKit
import Derived.Below
import Derived.IntWalk
import Derived.Laws.Bits64b
import Derived.Test.YthagdonmijhpdaaGreatRows
import Derived.ProofKit
import Derived.OpenShut
import Derived.ShutString
import Derived.ChangeOld
import Derived.Lib.SmallJoins
set_option linter.unusedVariables false
namespace Corr
def B32:Nat:=4294967296
def B64:Nat:=18446744073709551616
theorem B32_sq:B32*B32=B64:=by decide
theorem B32_pos:0<B32:=by decide
structure Dig (u v y1 y0:Nat):Prop where
 y0lt:y0<B32
 y1lt:y1<B32
 y1ge:2147483648≤y1
 ult:u<y1*B32+y0
 vlt:v<B32
theorem Dig.lt {u v y1 y0:Nat}(h:Dig u v y1 y0):u*B32+v<(y1*B32+y0)*B32:=by
 have h1:(u+1)*B32≤(y1*B32+y0)*B32:=Nat.mul_le_mul_right _ h.ult
 have h2:=h.vlt
 rw [Nat.add_mul,Nat.one_mul]at h1
 omega
theorem Dig.guess {u v y1 y0:Nat}(h:Dig u v y1 y0):u / y1≤B32+1:=by
 have hp:0<y1:=by have:=h.y1ge;omega
 refine Nat.le_of_lt_succ ((Nat.div_lt_iff_lt_mul hp).2 ?_)
 have h1:=h.ult;have h2:=h.y0lt;have h3:=h.y1ge
 have e:(B32+1+1)*y1=y1*B32+2*y1:=by rw [Nat.add_mul,Nat.add_mul,Nat.mul_comm B32];omega
 rw [e]
 unfold B32 at*
 omega
structure DInv (u v y1 y0 q r:Nat):Prop where
 sum:q*y1+r=u
 rlt:r<B32
 qge:(u*B32+v) / (y1*B32+y0)≤q
 qle:q≤B32+1
theorem Dig.ypos {u v y1 y0:Nat}(h:Dig u v y1 y0):0<y1*B32+y0:=by
 have:=h.ult;omega
theorem Dig.start {u v y1 y0:Nat}(h:Dig u v y1 y0):DInv u v y1 y0 (u / y1) (u % y1):=by
 have hp:0<y1:=by have:=h.y1ge;omega
 have hm:u % y1<y1:=Nat.mod_lt _ hp
 refine⟨?_,?_,?_,h.guess⟩
 ·rw [Nat.mul_comm];exact Nat.div_add_mod u y1
 ·have:=h.y1lt;omega
 ·refine Nat.le_of_lt_succ ((Nat.div_lt_iff_lt_mul h.ypos).2 ?_)
  have h1:u+1≤(u / y1+1)*y1:=by
   have h3:=Nat.div_add_mod u y1
   have h4:(u / y1+1)*y1=y1*(u / y1)+y1:=by rw [Nat.add_mul,Nat.one_mul,Nat.mul_comm]
   omega
  have h2:(u+1)*B32≤(u / y1+1)*y1*B32:=Nat.mul_le_mul_right _ h1
  have h3:(u / y1+1)*y1*B32≤(u / y1).succ*(y1*B32+y0):=by
   rw [Nat.mul_assoc];exact Nat.mul_le_mul_left _ (Nat.le_add_right _ _)
  have h4:=h.vlt
  rw [Nat.add_mul,Nat.one_mul]at h2
  omega
theorem ζ4b {u y1 y0 q r:Nat}(hs:q*y1+r=u):q*(y1*B32+y0)+r*B32=u*B32+q*y0:=by
 rw [Nat.mul_add,←Nat.mul_assoc,←hs,Nat.add_mul]
 omega
theorem DInv.yes {u v y1 y0 q r:Nat}(h:Dig u v y1 y0)(i:DInv u v y1 y0 q r)(t:B32≤q∨B32*r+v<q*y0):
  (u*B32+v) / (y1*B32+y0)+1≤q:=by
 rcases t with t | t
 ·have:(u*B32+v) / (y1*B32+y0)<B32:=(Nat.div_lt_iff_lt_mul h.ypos).2 (by rw [Nat.mul_comm B32];exact h.lt)
  omega
 ·refine(Nat.div_lt_iff_lt_mul h.ypos).2 ?_
  have:=ζ4b (y0:=y0) i.sum
  have e:B32*r=r*B32:=Nat.mul_comm _ _
  omega
theorem DInv.out {u v y1 y0 q r:Nat}(h:Dig u v y1 y0)(i:DInv u v y1 y0 q r)(t:B32≤q∨B32*r+v<q*y0)(hr:B32≤r+y1):
  q-1=(u*B32+v) / (y1*B32+y0):=by
 have hy:=i.yes h t
 refine Nat.le_antisymm ((Nat.le_div_iff_mul_le h.ypos).2 ?_) (by omega)
 have hs:(q-1)*y1+(r+y1)=u:=by
  have e:(q-1+1)*y1=(q-1)*y1+y1:=by rw [Nat.add_mul,Nat.one_mul]
  have hq:q-1+1=q:=Nat.sub_add_cancel (Nat.le_trans (Nat.le_add_left 1 _) hy)
  rw [hq]at e
  have:=i.sum
  omega
 have hp:=ζ4b (y0:=y0) hs
 have h1:B32*B32≤(r+y1)*B32:=Nat.mul_le_mul_right _ hr
 have h2:(q-1)*y0≤B32*B32:=Nat.mul_le_mul (by have:=i.qle;omega) (by have:=h.y0lt;omega)
 omega
theorem DInv.next {u v y1 y0 q r:Nat}(h:Dig u v y1 y0)(i:DInv u v y1 y0 q r)(t:B32≤q∨B32*r+v<q*y0)(hr:r+y1<B32):
  DInv u v y1 y0 (q-1) (r+y1):=by
 have hy:=i.yes h t
 refine⟨?_,hr,by omega,by have:=i.qle;omega⟩
 have e:(q-1+1)*y1=(q-1)*y1+y1:=by rw [Nat.add_mul,Nat.one_mul]
 have hq:q-1+1=q:=Nat.sub_add_cancel (Nat.le_trans (Nat.le_add_left 1 _) hy)
 rw [hq]at e
 have:=i.sum
 omega
theorem DInv.no {u v y1 y0 q r:Nat}(h:Dig u v y1 y0)(i:DInv u v y1 y0 q r)(t:q*y0≤B32*r+v):
  q=(u*B32+v) / (y1*B32+y0):=by
 refine Nat.le_antisymm ((Nat.le_div_iff_mul_le h.ypos).2 ?_) i.qge
 have hp:=ζ4b (y0:=y0) i.sum
 have e:B32*r=r*B32:=Nat.mul_comm _ _
 omega
theorem Dig.digit_lt {u v y1 y0:Nat}(h:Dig u v y1 y0):(u*B32+v) / (y1*B32+y0)<B32:=
 (Nat.div_lt_iff_lt_mul h.ypos).2 (by rw [Nat.mul_comm B32];exact h.lt)
theorem wrap_rest (a b m:Nat)(hm:m<B64)(h:a=b+m):(((a:Int)-(b:Int)) % (B64:Int))=(m:Int):=by
 subst h
 have:((b+m:Nat):Int)-(b:Int)=(m:Int):=by omega
 rw [this]
 unfold B64 at*
 omega
theorem two_digits (u v1 v0 y:Nat)(hy:0<y):
  (u*B64+(v1*B32+v0)) / y=(u*B32+v1) / y*B32+((u*B32+v1) % y*B32+v0) / y∧
  (u*B64+(v1*B32+v0)) % y=((u*B32+v1) % y*B32+v0) % y:=by
 have e:u*B64+(v1*B32+v0)=(u*B32+v1) / y*B32*y+((u*B32+v1) % y*B32+v0):=by
  have h:=Nat.div_add_mod (u*B32+v1) y
  have h1:(u*B32+v1)*B32=(y*((u*B32+v1) / y)+(u*B32+v1) % y)*B32:=by rw [h]
  rw [Nat.add_mul,Nat.add_mul,Nat.mul_assoc u,B32_sq]at h1
  have h2:y*((u*B32+v1) / y)*B32=(u*B32+v1) / y*B32*y:=by
   rw [Nat.mul_comm y,Nat.mul_assoc,Nat.mul_comm y,Nat.mul_assoc]
  omega
 rw [e]
 constructor
 ·rw [Nat.mul_comm,Nat.mul_add_div hy]
 ·rw [Nat.mul_comm,Nat.mul_add_mod]
theorem shifted (n y p:Nat)(hp:0<p):n*p / (y*p)=n / y∧n*p % (y*p) / p=n % y:=by
 constructor
 ·exact Nat.mul_div_mul_right n y hp
 ·rw [Nat.mul_mod_mul_right,Nat.mul_div_cancel _ hp]
open Go
def hiW (n:Nat):Nat:=n / B64
def loW (n:Nat):Nat:=n % B64
def nat2 (h l:Nat):Nat:=h*B64+l
def B128:Nat:=B64*B64
def val (s:Bool)(n:Nat):Int:=if s=true then -(n:Int)else(n:Int)
def negB (z:Int):Bool:=decide (z<0)
abbrev WV (s:Bool)(h l:Nat):Value:= .agg #[.bool s,.int .u64 (h:Int),.int .u64 (l:Int)]
abbrev ZW (z:Int):Value:=WV (negB z) (hiW z.natAbs) (loW z.natAbs)
def cmpI (a b:Int):Int:=if a<b then -1 else if a=b then 0 else 1
theorem loW_lt (n:Nat):loW n<B64:=Nat.mod_lt _ (by decide)
theorem hiW_lt {n:Nat}(h:n<B128):hiW n<B64:=(Nat.div_lt_iff_lt_mul (by decide)).2 h
theorem nat2_hilo (n:Nat):nat2 (hiW n) (loW n)=n:=by
 unfold nat2 hiW loW;rw [Nat.mul_comm];exact Nat.div_add_mod n B64
theorem hiW_nat2 {h l:Nat}(hl:l<B64):hiW (nat2 h l)=h:=by
 unfold nat2 hiW;rw [Nat.mul_comm,Nat.mul_add_div (by decide),Nat.div_eq_of_lt hl];rfl
theorem loW_nat2 {h l:Nat}(hl:l<B64):loW (nat2 h l)=l:=by
 unfold nat2 loW;rw [Nat.mul_comm,Nat.mul_add_mod,Nat.mod_eq_of_lt hl]
theorem nat2_lt {h l:Nat}(hh:h<B64)(hl:l<B64):nat2 h l<B128:=by
 unfold nat2 B128
 have h1:(h+1)*B64≤B64*B64:=Nat.mul_le_mul_right _ hh
 rw [Nat.add_mul,Nat.one_mul]at h1
 omega
theorem nat2_zero (a b:Nat):nat2 a b=0↔a=0∧b=0:=by
 unfold nat2 B64;omega
theorem natAbs_val (s:Bool)(n:Nat):(val s n).natAbs=n:=by cases s <;> simp [val]
theorem negB_val (s:Bool)(n:Nat):negB (val s n)=(s && (n != 0)):=by
 cases s
 ·simp [val,negB]
 ·rw [Bool.eq_iff_iff];simp [val,negB];omega
theorem val_neg (z:Int):val (negB z) z.natAbs=z:=by
 unfold val negB
 by_cases h:z<0
 ·rw [if_pos (by simpa using h)];omega
 ·rw [if_neg (by simpa using h)];omega
theorem val_ZW (z:Int):val (negB z) (nat2 (hiW z.natAbs) (loW z.natAbs))=z:=by rw [nat2_hilo,val_neg]
theorem ZW_val (s:Bool)(h l:Nat)(hl:l<B64):ZW (val s (nat2 h l))=WV (negB (val s (nat2 h l))) h l:=by
 unfold ZW;rw [natAbs_val,hiW_nat2 hl,loW_nat2 hl]
theorem or_u64 (a b:Nat)(ha:a<B64)(hb:b<B64):bits .or .u64 (a:Int) (b:Int)=((a ||| b:Nat):Int):=bits_or_u64_nat a b ha hb
theorem or_test (a b:Nat)(ha:a<B64)(hb:b<B64):(bits .or .u64 (a:Int) (b:Int) != 0)=(nat2 a b != 0):=by
 rw [or_u64 a b ha hb,Bool.eq_iff_iff]
 simp only [bne_iff_ne,ne_eq]
 have h1:(((a ||| b:Nat):Int)=0)↔(a ||| b=0):=by omega
 rw [h1,nat2_zero,Nat.or_eq_zero_iff]
theorem neg_wrap (n:Int)(h1: -9223372036854775808≤n)(h:n<0):IntKind.u64.wrap (-IntKind.u64.wrap n)=(n.natAbs:Int):=by
 rw [IntKind.wrap_u64,IntKind.wrap_u64];omega
theorem ret_int {k:IntKind} {a b:Int}(h:a=b):Ending.returned (.int k a)= .returned (.int k b):=by rw [h]
theorem cmp_lt {h l h' l':Nat}(hl:l<B64)(hl':l'<B64):nat2 h l<nat2 h' l'↔h<h'∨h=h'∧l<l':=by
 unfold nat2 B64 at *;omega
theorem cmp_eq {h l h' l':Nat}(hl:l<B64)(hl':l'<B64):nat2 h l=nat2 h' l'↔h=h'∧l=l':=by
 unfold nat2 B64 at *;omega
theorem cmpI_lt {a b:Int}(h:a<b):cmpI a b= -1:=by unfold cmpI;rw [if_pos h]
theorem cmpI_eq {a b:Int}(h:a=b):cmpI a b=0:=by unfold cmpI;rw [if_neg (by omega),if_pos h]
theorem cmpI_gt {a b:Int}(h:b<a):cmpI a b=1:=by unfold cmpI;rw [if_neg (by omega),if_neg (by omega)]
theorem val_int {k:IntKind} {a b:Int}(h:a=b):Value.int k a= .int k b:=by rw [h]
theorem ζd (w:World)(o:Obj):(w.alloc o).heap.size=w.heap.size+1:=by simp
theorem neg_val (s:Bool)(n:Nat):val (!s) n= -val s n:=by cases s <;> simp [val]
theorem ret_intbool {k:IntKind} {a b:Int} {c d:Bool}(h:a=b)(h':c=d):Ending.returned (.tuple #[.int k a,.bool c])= .returned (.tuple #[.int k b,.bool d]):=by rw [h,h']
end Corr
namespace Go.Proofs.YthagdonmijhpdaaGreat
open Go.ChangeShapes Go.WideShapes Go.ChangeAt Go.RowKit Go.Joins Corr
theorem own:ownKnob Tryz.prog.godebug=none:=by kernel_rfl
end Go.Proofs.YthagdonmijhpdaaGreat

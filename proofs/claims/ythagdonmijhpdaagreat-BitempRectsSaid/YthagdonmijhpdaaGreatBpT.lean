/- Contracts of package bitemp -/
import Derived.Shelf.SlSortCmp.WholeK
import Derived.Shelf.SlSortCmp.NoneTotal
import Derived.Shelf.SlicesG.Cmp
import Derived.Test.YthagdonmijhpdaaGreatProg
import Derived.Test.YthagdonmijhpdaaGreatBpHd
import Derived.Test.YthagdonmijhpdaaGreatBpF
open Go.Lib (hid)
set_option linter.unusedSimpArgs false
set_option linter.unusedVariables false
set_option maxHeartbeats 1000000
set_option maxRecDepth 8000
namespace Go.Proofs
open Go.Shelf
def Tryz.laysSortR_ren:Go.Shelf.Ren:=⟨fun | 6=>79 | 15=>88 | 14=>97 | 28=>114 | 29=>115 | 20=>120 | 21=>121 | 22=>122 | 23=>123 | 24=>124 | 25=>125 | 26=>126 | 27=>127 | 46=>146 | 47=>137 | 48=>138 | 49=>147 | 50=>148 | 57=>159 | n=>n,fun | 22=>100 | 24=>86 | 25=>102 | 3=>3 | 39=>154 | 0=>0 | 53=>187 | 55=>189 | 4=>4 | 46=>180 | 45=>179 | 50=>184 | 5=>5 | 9=>9 | 66=>211 | 70=>215 | 76=>234 | 77=>235 | n=>n,fun | n=>n⟩
theorem Tryz.laysSortR:Go.Proofs.SlLaysF0.n6 Tryz.prog Tryz.laysSortR_ren:= {
 mixed:=by kernel_rfl
 f6:=⟨Tryz.f79.name,by decide,Tryz.func79.trans (congrArg some (by kernel_rfl))⟩
 f14:=⟨Tryz.f97.name,by decide,Tryz.func97.trans (congrArg some (by kernel_rfl))⟩
 f15:=Tryz.func88.trans (congrArg some (by kernel_rfl))
 f20:=⟨Tryz.f120.name,by decide,Tryz.func120.trans (congrArg some (by kernel_rfl))⟩
 f21:=⟨Tryz.f121.name,by decide,Tryz.func121.trans (congrArg some (by kernel_rfl))⟩
 f22:=⟨Tryz.f122.name,by decide,Tryz.func122.trans (congrArg some (by kernel_rfl))⟩
 f23:=⟨Tryz.f123.name,by decide,Tryz.func123.trans (congrArg some (by kernel_rfl))⟩
 f24:=⟨Tryz.f124.name,by decide,Tryz.func124.trans (congrArg some (by kernel_rfl))⟩
 f25:=⟨Tryz.f125.name,by decide,Tryz.func125.trans (congrArg some (by kernel_rfl))⟩
 f26:=⟨Tryz.f126.name,by decide,Tryz.func126.trans (congrArg some (by kernel_rfl))⟩
 f27:=⟨Tryz.f127.name,by decide,Tryz.func127.trans (congrArg some (by kernel_rfl))⟩
 f28:=Tryz.func114.trans (congrArg some (by kernel_rfl))
 f29:=Tryz.func115.trans (congrArg some (by kernel_rfl))
 f46:=⟨Tryz.f146.name,by decide,Tryz.func146.trans (congrArg some (by kernel_rfl))⟩
 f47:=Tryz.func137.trans (congrArg some (by kernel_rfl))
 f48:=Tryz.func138.trans (congrArg some (by kernel_rfl))
 f49:=⟨Tryz.f147.name,by decide,Tryz.func147.trans (congrArg some (by kernel_rfl))⟩
 f50:=⟨Tryz.f148.name,by decide,Tryz.func148.trans (congrArg some (by kernel_rfl))⟩
 f57:=⟨Tryz.f159.name,by decide,Tryz.func159.trans (congrArg some (by kernel_rfl))⟩
 t0:=Tryz.underlying0
 a0:=Tryz.isAgg0
 z0:=Tryz.sizeOf0
 v0:=Tryz.zeroValue0
 t3:=Tryz.underlying3
 a3:=Tryz.isAgg3
 z3:=Tryz.sizeOf3
 v3:=Tryz.zeroValue3
 t4:=Tryz.underlying4
 a4:=Tryz.isAgg4
 z4:=Tryz.sizeOf4
 v4:=Tryz.zeroValue4
 t5:=Tryz.underlying5
 a5:=Tryz.isAgg5
 z5:=Tryz.sizeOf5
 v5:=Tryz.zeroValue5
 t9:=Tryz.underlying9
 a9:=Tryz.isAgg9
 z9:=Tryz.sizeOf9
 v9:=Tryz.zeroValue9
 t22:=Tryz.underlying100
 a22:=Tryz.isAgg100
 z22:=Tryz.sizeOf100
 v22:=Tryz.zeroValue100
 t25:=Tryz.underlying102
 a25:=Tryz.isAgg102
 z25:=Tryz.sizeOf102
 v25:=Tryz.zeroValue102
 t39:=Tryz.underlying154
 a39:=Tryz.isAgg154
 z39:=Tryz.sizeOf154
 v39:=Tryz.zeroValue154
 t45:=Tryz.underlying179
 a45:=Tryz.isAgg179
 z45:=Tryz.sizeOf179
 v45:=Tryz.zeroValue179
 t46:=Tryz.underlying180
 a46:=Tryz.isAgg180
 z46:=Tryz.sizeOf180
 v46:=Tryz.zeroValue180
 t50:=Tryz.underlying184
 a50:=Tryz.isAgg184
 z50:=Tryz.sizeOf184
 v50:=Tryz.zeroValue184
 t53:=Tryz.underlying187
 a53:=Tryz.isAgg187
 z53:=Tryz.sizeOf187
 v53:=Tryz.zeroValue187
 t55:=Tryz.underlying189
 a55:=Tryz.isAgg189
 z55:=Tryz.sizeOf189
 v55:=Tryz.zeroValue189
 t66:=Tryz.underlying211
 a66:=Tryz.isAgg211
 z66:=Tryz.sizeOf211
 v66:=Tryz.zeroValue211
 t70:=Tryz.underlying215
 a70:=Tryz.isAgg215
 z70:=Tryz.sizeOf215
 v70:=Tryz.zeroValue215
 t76:=Tryz.underlying234
 a76:=Tryz.isAgg234
 z76:=Tryz.sizeOf234
 v76:=Tryz.zeroValue234
 t77:=Tryz.underlying235
 a77:=Tryz.isAgg235
 z77:=Tryz.sizeOf235
 v77:=Tryz.zeroValue235 }
def Tryz.laysSortA_ren:Go.Shelf.Ren:=⟨fun | 6=>59 | 15=>88 | 14=>87 | 28=>114 | 29=>115 | 20=>106 | 21=>107 | 22=>108 | 23=>109 | 24=>110 | 25=>111 | 26=>112 | 27=>113 | 46=>136 | 47=>137 | 48=>138 | 49=>139 | 50=>140 | 57=>158 | n=>n,fun | 22=>59 | 24=>62 | 25=>115 | 3=>3 | 39=>154 | 0=>0 | 53=>187 | 55=>189 | 4=>4 | 46=>180 | 45=>179 | 50=>184 | 5=>5 | 9=>9 | 66=>211 | 70=>215 | 76=>234 | 77=>235 | n=>n,fun | n=>n⟩
theorem Tryz.laysSortA:Go.Proofs.SlLaysF0.n6 Tryz.prog Tryz.laysSortA_ren:= {
 mixed:=by kernel_rfl
 f6:=⟨Tryz.f59.name,by decide,Tryz.func59.trans (congrArg some (by kernel_rfl))⟩
 f14:=⟨Tryz.f87.name,by decide,Tryz.func87.trans (congrArg some (by kernel_rfl))⟩
 f15:=Tryz.func88.trans (congrArg some (by kernel_rfl))
 f20:=⟨Tryz.f106.name,by decide,Tryz.func106.trans (congrArg some (by kernel_rfl))⟩
 f21:=⟨Tryz.f107.name,by decide,Tryz.func107.trans (congrArg some (by kernel_rfl))⟩
 f22:=⟨Tryz.f108.name,by decide,Tryz.func108.trans (congrArg some (by kernel_rfl))⟩
 f23:=⟨Tryz.f109.name,by decide,Tryz.func109.trans (congrArg some (by kernel_rfl))⟩
 f24:=⟨Tryz.f110.name,by decide,Tryz.func110.trans (congrArg some (by kernel_rfl))⟩
 f25:=⟨Tryz.f111.name,by decide,Tryz.func111.trans (congrArg some (by kernel_rfl))⟩
 f26:=⟨Tryz.f112.name,by decide,Tryz.func112.trans (congrArg some (by kernel_rfl))⟩
 f27:=⟨Tryz.f113.name,by decide,Tryz.func113.trans (congrArg some (by kernel_rfl))⟩
 f28:=Tryz.func114.trans (congrArg some (by kernel_rfl))
 f29:=Tryz.func115.trans (congrArg some (by kernel_rfl))
 f46:=⟨Tryz.f136.name,by decide,Tryz.func136.trans (congrArg some (by kernel_rfl))⟩
 f47:=Tryz.func137.trans (congrArg some (by kernel_rfl))
 f48:=Tryz.func138.trans (congrArg some (by kernel_rfl))
 f49:=⟨Tryz.f139.name,by decide,Tryz.func139.trans (congrArg some (by kernel_rfl))⟩
 f50:=⟨Tryz.f140.name,by decide,Tryz.func140.trans (congrArg some (by kernel_rfl))⟩
 f57:=⟨Tryz.f158.name,by decide,Tryz.func158.trans (congrArg some (by kernel_rfl))⟩
 t0:=Tryz.underlying0
 a0:=Tryz.isAgg0
 z0:=Tryz.sizeOf0
 v0:=Tryz.zeroValue0
 t3:=Tryz.underlying3
 a3:=Tryz.isAgg3
 z3:=Tryz.sizeOf3
 v3:=Tryz.zeroValue3
 t4:=Tryz.underlying4
 a4:=Tryz.isAgg4
 z4:=Tryz.sizeOf4
 v4:=Tryz.zeroValue4
 t5:=Tryz.underlying5
 a5:=Tryz.isAgg5
 z5:=Tryz.sizeOf5
 v5:=Tryz.zeroValue5
 t9:=Tryz.underlying9
 a9:=Tryz.isAgg9
 z9:=Tryz.sizeOf9
 v9:=Tryz.zeroValue9
 t22:=Tryz.underlying59
 a22:=Tryz.isAgg59
 z22:=Tryz.sizeOf59
 v22:=Tryz.zeroValue59
 t25:=Tryz.underlying115
 a25:=Tryz.isAgg115
 z25:=Tryz.sizeOf115
 v25:=Tryz.zeroValue115
 t39:=Tryz.underlying154
 a39:=Tryz.isAgg154
 z39:=Tryz.sizeOf154
 v39:=Tryz.zeroValue154
 t45:=Tryz.underlying179
 a45:=Tryz.isAgg179
 z45:=Tryz.sizeOf179
 v45:=Tryz.zeroValue179
 t46:=Tryz.underlying180
 a46:=Tryz.isAgg180
 z46:=Tryz.sizeOf180
 v46:=Tryz.zeroValue180
 t50:=Tryz.underlying184
 a50:=Tryz.isAgg184
 z50:=Tryz.sizeOf184
 v50:=Tryz.zeroValue184
 t53:=Tryz.underlying187
 a53:=Tryz.isAgg187
 z53:=Tryz.sizeOf187
 v53:=Tryz.zeroValue187
 t55:=Tryz.underlying189
 a55:=Tryz.isAgg189
 z55:=Tryz.sizeOf189
 v55:=Tryz.zeroValue189
 t66:=Tryz.underlying211
 a66:=Tryz.isAgg211
 z66:=Tryz.sizeOf211
 v66:=Tryz.zeroValue211
 t70:=Tryz.underlying215
 a70:=Tryz.isAgg215
 z70:=Tryz.sizeOf215
 v70:=Tryz.zeroValue215
 t76:=Tryz.underlying234
 a76:=Tryz.isAgg234
 z76:=Tryz.sizeOf234
 v76:=Tryz.zeroValue234
 t77:=Tryz.underlying235
 a77:=Tryz.isAgg235
 z77:=Tryz.sizeOf235
 v77:=Tryz.zeroValue235 }
def Tryz.laysCmp_ren:Go.Shelf.Ren:=⟨fun | 5=>51 | 7=>80 | n=>n,fun | 22=>3 | 3=>3 | 4=>4 | n=>n,fun | n=>n⟩
theorem Tryz.laysCmp:Go.Proofs.SlLaysC2.n5 Tryz.prog Tryz.laysCmp_ren:= {
 mixed:=by kernel_rfl
 f5:=⟨Tryz.f51.name,by decide,Tryz.func51.trans (congrArg some (by kernel_rfl))⟩
 f7:=⟨Tryz.f80.name,by decide,Tryz.func80.trans (congrArg some (by kernel_rfl))⟩
 t3:=Tryz.underlying3
 a3:=Tryz.isAgg3
 z3:=Tryz.sizeOf3
 v3:=Tryz.zeroValue3
 t4:=Tryz.underlying4
 a4:=Tryz.isAgg4
 z4:=Tryz.sizeOf4
 v4:=Tryz.zeroValue4
 t22:=Tryz.underlying3
 a22:=Tryz.isAgg3
 z22:=Tryz.sizeOf3
 v22:=Tryz.zeroValue3 }
end Go.Proofs
namespace Corr
open Go Go.RowKit Go.Sort Go.Proofs
instance:Inhabited Rn:=⟨⟨0,0,0,0,0,0⟩⟩
def encR (x:Rn):List Value:= [.int .i64 x.a,.int .i64 x.b,.int .i64 x.s,.int .i64 x.u,.int .i64 x.v,.int .i64 x.m]
theorem cells6_get {l:List Rn} {t:Nat}(h:t<l.length*6):(ζ8 l)[t]? =some ((encR l.toArray[t / 6]!)[t % 6]!):=by
 have hs:t / 6<l.length:=by omega
 have hg:l[t / 6]? =some l[t / 6]:=List.getElem?_eq_getElem hs
 have hb:l.toArray[t / 6]! =l[t / 6]:=by simp [hs]
 rw [hb]
 obtain⟨c0,c1,c2,c3,c4,c5⟩:=cells6_at hg
 have hm:t % 6=0∨t % 6=1∨t % 6=2∨t % 6=3∨t % 6=4∨t % 6=5:=by omega
 rcases hm with e | e | e | e | e | e
 ·rw [show t / 6*6=t by omega]at c0;rw [c0,e];rfl
 ·rw [show t / 6*6+1=t by omega]at c1;rw [c1,e];rfl
 ·rw [show t / 6*6+2=t by omega]at c2;rw [c2,e];rfl
 ·rw [show t / 6*6+3=t by omega]at c3;rw [c3,e];rfl
 ·rw [show t / 6*6+4=t by omega]at c4;rw [c4,e];rfl
 ·rw [show t / 6*6+5=t by omega]at c5;rw [c5,e];rfl
theorem flat_cells6 (l:List Rn):(flatK encR 6 l.toArray).toList=ζ8 l:=by
 apply List.ext_getElem?
 intro t
 by_cases h:t<l.length*6
 ·rw [cells6_get h,Array.getElem?_toList]
  have h2:t<l.toArray.size*6:=by simpa using h
  have:=get_flatK encR 6 l.toArray t h2
  rw [getElem!_pos _ t (by simpa using h2)]at this
  rw [Array.getElem?_eq_getElem (by simpa using h2),this]
 ·rw [List.getElem?_eq_none (by simp;omega),List.getElem?_eq_none (by rw [ζ1o];omega)]
theorem holds_own6 {w:World} {B g n c:Nat} {T:TypeId} {l:List Rn}(h:w.ownsRow B T 6 (.slice (some ⟨g,0,none⟩) n c) n (ζ8 l)):HoldsK encR 6 w g 0 l.toArray:=by
 have hl:l.length=n:=ζ1a h
 intro j hj
 rw [size_flatK]at hj
 have hj2:j<l.length*6:=by simpa using hj
 refine⟨?_,?_⟩
 ·rw [Nat.zero_add,h.cellAt j (by omega),cells6_get hj2,get_flatK encR 6 l.toArray j hj];rfl
 ·rw [Nat.zero_add];exact h.frozenAt j
theorem ζ1k (w:World)(g m:Nat)(dk:Array Rn)(os:Array Obj):(sortWorldK encR 6 w g 0 m dk os).heap=(w.heap.modify g (onCells (putCells id 0 (flatK encR 6 dk))))++os:=rfl
theorem own_sorted6 {w:World} {B g n c m:Nat} {T:TypeId} {l:List Rn} {dk:Array Rn} {os:Array Obj}(h:w.ownsRow B T 6 (.slice (some ⟨g,0,none⟩) n c) n (ζ8 l))(hd:dk.size=n):
  (sortWorldK encR 6 w g 0 m dk os).ownsRow B T 6 (.slice (some ⟨g,0,none⟩) n c) n (ζ8 dk.toList)∧Go.RowKit.Below B w (sortWorldK encR 6 w g 0 m dk os):=by
 have hl:=h.1
 rcases h.2 with⟨h',_⟩ | ⟨g',cap',cur,hv,hb,hg,hnc,hcm,hcs,htake⟩
 ·cases h'
 injection hv with e1 _ e3
 injection e1 with e1
 injection e1 with e1 _ _
 subst e1 e3
 have hgs:=(Array.getElem?_eq_some_iff.1 hg).1
 have hF:(flatK encR 6 dk).toList=ζ8 dk.toList:=by simpa using flat_cells6 dk.toList
 have hFs:(flatK encR 6 dk).size=n*6:=by simp [hd]
 have hheap:(sortWorldK encR 6 w g 0 m dk os).heap[g]? =some (.cells (putCells id 0 (flatK encR 6 dk) cur) T):=by
  rw [ζ1k,Array.getElem?_append_left (by simpa using hgs),Array.getElem?_modify,if_pos rfl,hg];rfl
 refine⟨⟨by rw [ζ1o];simp [hd],.inr ⟨g,c,putCells id 0 (flatK encR 6 dk) cur,rfl,hb,hheap,hnc,hcm,?_,?_⟩⟩,⟨rfl,rfl,rfl,?_,?_⟩⟩
 ·unfold putCells;simpa using hcs
 ·rw [←hF]
  apply List.ext_getElem?
  intro t
  rw [List.getElem?_take]
  by_cases ht:t<n*6
  ·have htc:t<cur.size:=by rw [hcs];omega
   rw [if_pos ht,Array.getElem?_toList,Array.getElem?_toList]
   unfold putCells
   rw [Array.getElem?_mapIdx,Array.getElem?_eq_getElem htc,Option.map_some,if_pos ⟨Nat.zero_le _,by rw [hFs];omega⟩,Array.getElem?_eq_getElem (by rw [hFs];exact ht)]
   simp only [Nat.sub_zero,id]
   rw [getElem!_pos _ t (by rw [hFs];exact ht)]
  ·rw [if_neg ht,List.getElem?_eq_none (by simp;omega)]
 ·rw [ζ1k];simp
 ·intro k hk
  have hkg:k≠g:=by omega
  rw [ζ1k]
  by_cases hks:k<w.heap.size
  ·rw [Array.getElem?_append_left (by simpa using hks),Array.getElem?_modify,if_neg (Ne.symm hkg)]
  ·omega
theorem ltR (k:Rn→Int)(x y:Rn):ltOf (fun x y:Rn=>Lib.compareInt (k x) (k y)) x y=decide (k x<k y):=by
 unfold ltOf Lib.compareInt
 by_cases h1:k x<k y
 ·simp [h1]
 ·by_cases h2:k y<k x <;> simp [h1,h2]
theorem swoR (k:Rn→Int):SWO (ltOf fun x y:Rn=>Lib.compareInt (k x) (k y)) where
 irrefl x:=by rw [ltR];simp
 trans x y z h1 h2:=by rw [ltR]at *;simp at *;omega
 ntrans x y z h1 h2:=by rw [ltR]at *;simp at *;omega
end Corr
namespace Go.Proofs.YthagdonmijhpdaaGreat
open Go.RowKit Corr Go.Sort Go.Shelf
theorem bsort_any (fid:Nat)(k:Rn→Int)(eg: ∀args w,(callFunc fid args).run Tryz.prog w= .ok (.enter fid args) w)(hcmp: ∀(x y:Rn) (W:World),Calls Tryz.prog fid #[rnV x,rnV y] W fun e w'=>e= .returned (.int .i64 (Lib.compareInt (k x) (k y)))∧∃q os',w'=grow (W.drewN q) os')
  (B:Nat) (A:Option Addr) (n c:Nat) (l:List Rn) (w:World) (hown:w.ownsRow B 86 6 (.slice A n c) n (ζ8 l)) (hn:n≤4000000):
  Calls Tryz.prog 79 #[.slice A n c,.func (.func fid) #[] #[]] w fun e w'=>e= .returned (.tuple #[])∧∃m:List Rn,m.Perm l∧m.Pairwise (fun s t=>k s≤k t)∧w'.ownsRow B 86 6 (.slice A n c) n (ζ8 m)∧Below B w w':=by
 have hl:l.length=n:=ζ1a hown
 rcases Nat.eq_zero_or_pos n with h0 | h0
 ·subst h0
  obtain rfl:=List.length_eq_zero_iff.1 hl
  have:=AnyF.slices_SortFunc_none Tryz.laysSortR A c (.func (.func fid) #[] #[]) w
  change Calls Tryz.prog 79 _ _ _ at this
  refine this.mono ?_
  rintro e w' ⟨rfl,rfl⟩
  exact⟨rfl,[],List.Perm.refl _,List.Pairwise.nil,hown,Go.RowKit.Below.refl _ _⟩
 ·rcases Joins.ownsRow_forms hown with⟨_,h1⟩ | ⟨g,d,hv⟩
  ·omega
  injection hv with e1 _ e3
  subst e1 e3
  have hlt:g<w.heap.size:=(hown.lt g rfl).2
  have hsz:l.toArray.size=n:=by simp [hl]
  have hcl:CmpLays Tryz.prog fid #[] encR 6 (fun x y=>Lib.compareInt (k x) (k y)) g 0 l.toArray.size w:=fun _ _ _ _ x y=>hcmp x y _
  have hcon:=AnyQ.slices_SortFunc Tryz.laysSortR 6 Tryz.isAgg86 Tryz.sizeOf86 encR (fun _=>rfl) (fun x v hv=>by simp [encR]at hv;rcases hv with rfl | rfl | rfl | rfl | rfl | rfl <;> rfl) (fun x y=>Lib.compareInt (k x) (k y)) (swoR k) fid #[] g 0 c l.toArray w eg hcl (holds_own6 hown) hlt (by rw [hsz];omega)
  rw [hsz]at hcon
  change Calls Tryz.prog 79 _ _ _ at hcon
  refine hcon.mono ?_
  rintro e w' ⟨rfl,d',m,os,hp,hs,rfl⟩
  obtain⟨p1,_,p3⟩:=hp
  have hd:d'.size=n:=by rw [p1,hsz]
  obtain⟨o1,o2⟩:=own_sorted6 (m:=m) (os:=os) hown hd
  refine⟨rfl,d'.toList,?_,?_,o1,o2⟩
  ·have a1:d'.extract 0 n=d':=by rw [←hd];simp
   have a2:l.toArray.extract 0 n=l.toArray:=by rw [←hsz];simp
   rw [a1,a2]at p3
   simpa using p3
  ·rw [List.pairwise_iff_getElem]
   intro i j hi hj hij
   have:=hs i j (Nat.zero_le _) hij (by simpa [hd]using hj)
   rw [ltR,getElem!_pos _ i (by simpa using hi),getElem!_pos _ j (by simpa using hj)]at this
   have:=of_decide_eq_false this
   simpa using this
end Go.Proofs.YthagdonmijhpdaaGreat
namespace Corr
open Go Go.RowKit
def RetSrt (T:TypeId)(k:Rn→Int)(w:World)(Y:List Rn)(e:Ending)(w':World):Prop:=∃A n c m,e= .returned (.slice A n c)∧m.Perm Y∧m.Pairwise (fun s t=>k s≤k t)∧w'.ownsRow w.heap.size T 6 (.slice A n c) n (ζ8 m)∧Below w.heap.size w w'
end Corr
namespace Go.Proofs.YthagdonmijhpdaaGreat
open Go.RowKit Corr Go.Sort Go.Shelf
theorem byfrom_any (x y:Rn)(W:World):Calls Tryz.prog 75 #[rnV x,rnV y] W fun e w'=>e= .returned (.int .i64 (Lib.compareInt x.a y.a))∧∃q os',w'=grow (W.drewN q) os':=by
 have hcon:=fun W'=>AnyG.cmp_Compare_int Tryz.laysCmp x.a y.a W'
 change ∀W',Calls Tryz.prog 51 _ _ _ at hcon
 generalize Lib.compareInt x.a y.a=r at hcon ⊢
 go_enter Tryz.func75,Tryz.ntmps75
 go_wp2_with (go_at_call 51;refine(hcon _).mono ?_;rintro e w' ⟨rfl,rfl⟩)
 go_ret
 exact⟨rfl,0,_,by rw [alloc_eq_grow,alloc_eq_grow,grow_grow];rfl⟩
theorem bysince_any (x y:Rn)(W:World):Calls Tryz.prog 50 #[rnV x,rnV y] W fun e w'=>e= .returned (.int .i64 (Lib.compareInt x.s y.s))∧∃q os',w'=grow (W.drewN q) os':=by
 have hcon:=fun W'=>AnyG.cmp_Compare_int Tryz.laysCmp x.s y.s W'
 change ∀W',Calls Tryz.prog 51 _ _ _ at hcon
 generalize Lib.compareInt x.s y.s=r at hcon ⊢
 go_enter Tryz.func50,Tryz.ntmps50
 go_wp2_with (go_at_call 51;refine(hcon _).mono ?_;rintro e w' ⟨rfl,rfl⟩)
 go_ret
 exact⟨rfl,0,_,by rw [alloc_eq_grow,alloc_eq_grow,grow_grow];rfl⟩
theorem ζ55 (fid:Nat)(k:Rn→Int)(eg: ∀args w,(callFunc fid args).run Tryz.prog w= .ok (.enter fid args) w)(hcmp: ∀(x y:Rn) (W:World),Calls Tryz.prog fid #[rnV x,rnV y] W fun e w'=>e= .returned (.int .i64 (Lib.compareInt (k x) (k y)))∧∃q os',w'=grow (W.drewN q) os')
  (gf:Nat) (lb:Array Value) (Y:List Rn) (w:World) (enters: ∀args w,(callFunc gf args).run Tryz.prog w= .ok (.enter gf args) w) (hs:SeqOff2 Tryz.prog gf lb (fun r:Rn=> #[rnV r]) (fun k=>w.heap.size≤k) (fun ys=>ys=Y) (fun pre=>pre <+: Y) Y.length w) (hY:Y.length≤1000000):
  Calls Tryz.prog 49 #[.func (.func gf) #[] lb,.func (.func fid) #[] #[]] w (RetSrt 86 k w Y):=by
 have HA:=hid (bcollect_any gf lb Y w enters hs hY)
 have HS:=hid (bsort_any fid k eg hcmp)
 have HY:=hid hY
 clear enters hs hY eg hcmp
 go_enter Tryz.func49,Tryz.ntmps49
 go_wp2_with fail
 refine HA.out.mono ?_
 rintro e w1 ⟨A,n,c,rfl,h1,h2⟩
 have H2:=hid h2
 have HC:=hid (HS.out w.heap.size A n c Y w1 h1 (by have h3:=ζ1a h1;have h4:=HY.out;omega))
 clear h1 h2
 go_wp2_with fail
 refine HC.out.mono ?_
 rintro e w2 ⟨rfl,m,m1,m2,m3,m4⟩
 have M1:=hid m1
 have M2:=hid m2
 have M3:=hid m3
 have M4:=hid m4
 clear m1 m2 m3 m4
 go_wp2_with fail
 refine bodyPost_ret (results_tmp rfl _ _ _) rfl ⟨A,n,c,m,rfl,M1.out,M2.out,M3.out,H2.out.trans M4.out⟩
end Go.Proofs.YthagdonmijhpdaaGreat

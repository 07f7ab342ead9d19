/- How a tree of package avl lies. No program's function in this text. Contracts of package avl -/
import Derived.Test.YthagdonmijhpdaaGreatAk15
open Go.Lib (hid)
set_option linter.unusedSimpArgs false
set_option linter.unusedVariables false
set_option maxHeartbeats 4000000
set_option maxRecDepth 8000
namespace Corr
open Go Go.RowKit
structure TreeR (T:TypeId)(w:World)(gT g n c:Nat)(M:Int)(A:Option Addr)(K:KnL)(t:PT)(l:ItL):Prop where
 tp:Blk w gT #[.pointer (some ⟨g,0,none⟩)]
 ar:Ar T w g M t.root A n c K
 rp:Rp K t
 bal:t.bal
 nd:t.places.Nodup
 len:t.places.length=n
 it:t.items=l
 srt:srt l
 ne:gT≠g∧¬inRow A n c gT
abbrev inTr (gT g:Nat)(A:Option Addr)(n c k:Nat):Prop:=k=gT∨inAr g A n c k
def RepA (T:TypeId):RepT:=fun w p F M l=>∃gT g n c A K t,p= .pointer (some ⟨gT,0,none⟩)∧TreeR T w gT g n c M A K t l∧F=inTr gT g A n c
section
variable {T:TypeId} {w w':World} {gT g n c:Nat} {M:Int} {A:Option Addr} {K:KnL} {t:PT} {l:ItL} {G:Nat→Prop}
theorem TreeR.num (h:TreeR T w gT g n c M A K t l):l.length=n:=by rw [←h.it,PT.len,h.len]
theorem TreeR.off (h:TreeR T w gT g n c M A K t l)(ho:Off G w w')(hn: ∀k,inTr gT g A n c k→¬G k):TreeR T w' gT g n c M A K t l:=
 ⟨ho.blk h.tp (hn _ (.inl rfl)),h.ar.off ho (hn _ (.inr (.inl rfl))) fun k hk=>hn k (.inr (.inr hk)),h.rp,h.bal,h.nd,h.len,h.it,h.srt,h.ne⟩
theorem TreeR.keep (h:TreeR T w gT g n c M A K t l)(hb:Below w.heap.size w w'):TreeR T w' gT g n c M A K t l:=h.off (Off.of (F:=fun _=>False) hb) fun _ _ e=>e
theorem TreeR.lt (h:TreeR T w gT g n c M A K t l): ∀k,inTr gT g A n c k→k<w.heap.size:=by
 rintro k (rfl | rfl | hk)
 ·exact h.tp.sz
 ·exact h.ar.sz
 ·exact ζk h.ar.o hk
end
theorem repA_ok (T:TypeId):RepOk (RepA T) where
 lt:=by
  rintro w p F M l ⟨gT,g,n,c,A,K,t,rfl,h,rfl⟩ k hk
  exact h.lt k hk
 keep:=by
  rintro w w' p F G M l ⟨gT,g,n,c,A,K,t,rfl,h,rfl⟩ ho hn
  exact⟨gT,g,n,c,A,K,t,rfl,h.off ho hn,rfl⟩
theorem ins_split {x:It} {a b:ItL}(h:srt (a++b))(h1: ∀y∈a,lessB y x=true)(h2: ∀y∈b,lessB x y=true):insI x (a++b)=a++x :: b∧hasI x (a++b)=false:=by
 have hk:cntI x (a++b)=a.length:=cntI_at (by simp) (fun y hy=>h1 y (by rw [List.take_left']at hy;exact hy;rfl)) (fun y hy=>by
  rw [List.getElem?_append_right (Nat.le_refl _),Nat.sub_self]at hy
  have hy:y∈b:=List.mem_of_getElem? hy
  cases e:lessB y x with
  | false=>rfl
  | true=>
   have:=ζm e (h2 y hy)
   rw [ζe]at this;cases this)
 constructor
 ·unfold insI
  rw [hk];simp
 ·unfold hasI
  rw [hk,List.getElem?_append_right (Nat.le_refl _),Nat.sub_self]
  refine decide_eq_false fun e=> ?_
  have hx:x∈b:=List.mem_of_getElem? e
  have:=h2 x hx
  rw [ζe]at this;cases this
theorem del_split {x:It} {a b:ItL}(h:srt (a++x :: b)):delI x (a++x :: b)=a++b∧hasI x (a++x :: b)=true:=by
 obtain⟨_,_,h1,h2⟩:=srt_node h
 have hk:cntI x (a++x :: b)=a.length:=cntI_at (by simp) (fun y hy=>h1 y (by rw [List.take_left']at hy;exact hy;rfl)) (fun y hy=>by
  rw [List.getElem?_append_right (Nat.le_refl _),Nat.sub_self]at hy
  have e:x=y:=by simpa using hy
  rw [←e];exact ζe x)
 constructor
 ·unfold delI
  rw [hk]
  rw [List.take_left' rfl,show a++x :: b=(a++ [x])++b by simp,List.drop_left' (by simp)]
 ·unfold hasI
  rw [hk];simp
def NilA (w:World)(p:Value):Prop:=p= .pointer none∨∃g,p= .pointer (some ⟨g,0,none⟩)∧Blk w g #[.pointer none]
theorem NilA.keep {w w':World} {p:Value}(h:NilA w p)(hb:Below w.heap.size w w'):NilA w' p:=by
 rcases h with h | ⟨g,h1,h2⟩
 ·exact .inl h
 ·exact .inr ⟨g,h1,h2.keep hb⟩
end Corr
namespace Go.Proofs.YthagdonmijhpdaaGreat
open Go.RowKit Corr
theorem ζ2v (gT g:Nat)(w:World)(B:Blk w gT #[.pointer (some ⟨g,0,none⟩)]):Calls Tryz.prog 128 #[.pointer (some ⟨gT,0,none⟩)] w fun e w'=>e= .returned (.bool true)∧w'=w:=by
 have c0:=B.get 0 rfl
 clear B
 go_enter Tryz.func128,Tryz.ntmps128
 go_wp2_with fail
 go_ret
 exact⟨rfl,rfl⟩
theorem made_nil (p:Value)(w:World)(h:NilA w p):Calls Tryz.prog 128 #[p] w fun e w'=>e= .returned (.bool false)∧w'=w:=by
 rcases h with rfl | ⟨g,rfl,B⟩
 ·go_enter Tryz.func128,Tryz.ntmps128
  go_wp2_with fail
  go_ret
  exact⟨rfl,rfl⟩
 ·have c0:=B.get 0 rfl
  clear B
  go_enter Tryz.func128,Tryz.ntmps128
  go_wp2_with fail
  go_ret
  exact⟨rfl,rfl⟩
theorem ζ3w (gT g:Nat)(w:World)(B:Blk w gT #[.pointer (some ⟨g,0,none⟩)]):Calls Tryz.prog 155 #[.pointer (some ⟨gT,0,none⟩)] w fun e w'=>e= .returned (.pointer (some ⟨g,0,none⟩))∧w'=w:=by
 have c0:=B.get 0 rfl
 have HM:=hid (ζ2v gT g w B)
 clear B
 go_enter Tryz.func155,Tryz.ntmps155
 go_wp2_with fail
 refine HM.out.mono ?_
 rintro e w1 ⟨rfl,rfl⟩
 go_wp2_with fail
 go_ret
 exact⟨rfl,rfl⟩
theorem nodes_nil (p:Value)(w:World)(h:NilA w p):Calls Tryz.prog 155 #[p] w fun e w'=>∃g,e= .returned (.pointer (some ⟨g,0,none⟩))∧Ar 221 w' g 0 (-1) none 0 0 []∧Below w.heap.size w w':=by
 have HM:=hid (made_nil p w h)
 have HB:=hid (Blk.new w #[.int .i64 0,.int .i64 (-1),.slice none 0 0] 158)
 have HW:=hid ((Below.refl w.heap.size w).alloc (Nat.le_refl _) (.cells #[.int .i64 0,.int .i64 (-1),.slice none 0 0] 158))
 clear h
 go_enter Tryz.func155,Tryz.ntmps155
 go_wp2_with fail
 refine HM.out.mono ?_
 rintro e w1 ⟨rfl,rfl⟩
 go_wp2_with fail
 refine bodyPost_ret (results_tmp rfl _ _ _) rfl ?_
 exact⟨_,rfl,⟨HB.out,World.ownsRow_nil _ _ _ _,fun e=>by cases e⟩,HW.out⟩
theorem new_any (M:Int)(w:World)(h1:1≤M)(h2:M≤1000000):Calls Tryz.prog 62 #[.int .i64 M] w fun e w'=>∃(q:Addr) (F:Nat→Prop),e= .returned (.tuple #[.pointer (some q),.int .i64 0])∧RepA 221 w' (.pointer (some q)) F M []∧Below w.heap.size w w'∧∀k,F k→w.heap.size≤k:=by
 have d1:decide (M<1)=false:=decide_eq_false (by omega)
 have d2:decide (M > 1000000)=false:=decide_eq_false (by omega)
 have HB:=hid ((Blk.new w #[.int .i64 M,.int .i64 (-1),.slice none 0 0] 158).alloc (.cells #[.pointer (some ⟨w.heap.size,0,none⟩)] 160))
 have hT:=Blk.new (w.alloc (.cells #[.int .i64 M,.int .i64 (-1),.slice none 0 0] 158)) #[.pointer (some ⟨w.heap.size,0,none⟩)] 160
 simp only [ζd]at hT
 have HT:=hid hT
 have HW:=hid (Joins.below_alloc2 w (.cells #[.int .i64 M,.int .i64 (-1),.slice none 0 0] 158) (.cells #[.pointer (some ⟨w.heap.size,0,none⟩)] 160))
 clear hT
 go_enter Tryz.func62,Tryz.ntmps62
 go_wp2_with fail
 go_ret2
 refine⟨_,_,rfl,⟨w.heap.size+1,w.heap.size,0,0,none,[],.nil,rfl,⟨HT.out,⟨HB.out,World.ownsRow_nil _ _ _ _,fun e=>by cases e⟩,trivial,trivial,List.nodup_nil,rfl,rfl,List.Pairwise.nil,⟨by omega,fun e=>by cases e⟩⟩,rfl⟩,HW.out,?_⟩
 rintro k (rfl | rfl | e)
 ·omega
 ·omega
 ·cases e
theorem len_any (gT g n c:Nat)(M:Int)(A:Option Addr)(K:KnL)(t:PT)(l:ItL)(w:World)(H:TreeR 221 w gT g n c M A K t l):Calls Tryz.prog 131 #[.pointer (some ⟨gT,0,none⟩)] w fun e w'=>e= .returned (.int .i64 (n:Int))∧w'=w:=by
 have HN:=hid (ζ3w gT g w H.tp)
 have a2:=H.ar.b.get 2 rfl
 clear H
 go_enter Tryz.func131,Tryz.ntmps131
 go_wp2_with fail
 refine HN.out.mono ?_
 rintro e w1 ⟨rfl,rfl⟩
 go_wp2_with fail
 go_ret
 exact⟨rfl,rfl⟩
theorem root_any (gT g n c:Nat)(M:Int)(A:Option Addr)(K:KnL)(t:PT)(l:ItL)(w:World)(H:TreeR 221 w gT g n c M A K t l):Calls Tryz.prog 141 #[.pointer (some ⟨gT,0,none⟩)] w fun e w'=>e= .returned (.int .i64 t.root)∧w'=w:=by
 have HN:=hid (ζ3w gT g w H.tp)
 have a1:=H.ar.b.get 1 rfl
 clear H
 go_enter Tryz.func141,Tryz.ntmps141
 go_wp2_with fail
 refine HN.out.mono ?_
 rintro e w1 ⟨rfl,rfl⟩
 go_wp2_with fail
 go_ret
 exact⟨rfl,rfl⟩
theorem root_nil (p:Value)(w:World)(h:NilA w p):Calls Tryz.prog 141 #[p] w fun e w'=>e= .returned (.int .i64 (-1))∧Below w.heap.size w w':=by
 have HN:=hid (nodes_nil p w h)
 clear h
 go_enter Tryz.func141,Tryz.ntmps141
 go_wp2_with fail
 refine HN.out.mono ?_
 rintro e w1 ⟨g,rfl,hA,hb⟩
 have a1:=hA.b.get 1 rfl
 have HB:=hid hb
 clear hA hb
 go_wp2_with fail
 go_ret
 exact⟨rfl,HB.out⟩
theorem node_at (gT g n c p:Nat)(M:Int)(A:Option Addr)(K:KnL)(t:PT)(l:ItL)(x:It)(kl kr kh kt:Int)(w:World)(H:TreeR 221 w gT g n c M A K t l)(hk:K[p]? =some ⟨x,kl,kr,kh,kt⟩)(hn:n≤2000):Calls Tryz.prog 142 #[.pointer (some ⟨gT,0,none⟩),.int .i64 (p:Int)] w fun e w'=>e= .returned (.tuple #[knotV x kl kr kh kt,.bool true])∧Below w.heap.size w w':=by
 obtain⟨x1,x2,x3⟩:=x
 obtain⟨gK,rfl,hgK,_,hpn⟩:=H.ar.at0 hk
 have HK:=hid hk
 have HX:=hid (Blk.new w #[.int .i64 0,.int .i64 0,.int .i64 0,.int .i64 0,.int .i64 0,.int .i64 0,.int .i64 0] 221)
 have HB:=hid (show Ext w _ from(Below.refl _ w).alloc (Nat.le_refl _) (.cells #[.int .i64 0,.int .i64 0,.int .i64 0,.int .i64 0,.int .i64 0,.int .i64 0,.int .i64 0] 221))
 have HT:=hid (H.keep HB.out)
 have HN:=hid (ζ3w gT g _ HT.out.tp)
 have hlt:gK<w.heap.size:=ζk H.ar.o rfl
 have HLT:=hid (show gK≠w.heap.size by omega)
 have j0:decide ((p:Int)<0)=false:=decide_eq_false (by omega)
 have j1:(0:Int)≤(p:Int):=by omega
 have j2:(p:Int)<(n:Int):=by omega
 have j3:((p:Int)).toNat=p:=by omega
 have j4:decide ((p:Int)≥(n:Int))=false:=decide_eq_false (by omega)
 clear H hk hlt
 go_enter Tryz.func142,Tryz.ntmps142
 go_wp2_with fail
 generalize w.alloc (.cells #[.int .i64 0,.int .i64 0,.int .i64 0,.int .i64 0,.int .i64 0,.int .i64 0,.int .i64 0] 221)=wq at*
 generalize hhx:w.heap.size=hx at HX HLT ⊢
 have HLO:=hid (Nat.le_of_eq hhx)
 clear hhx
 refine HN.out.mono ?_
 rintro e w1 ⟨rfl,rfl⟩
 have a2:=HT.out.ar.b.get 2 rfl
 have k0:=HT.out.ar.c0 HK.out
 have k1:=HT.out.ar.c1 HK.out
 have k2:=HT.out.ar.c2 HK.out
 have k3:=HT.out.ar.c3 HK.out
 have k4:=HT.out.ar.c4 HK.out
 have k5:=HT.out.ar.c5 HK.out
 have k6:=HT.out.ar.c6 HK.out
 simp only []at k0 k1 k2 k3 k4 k5 k6
 have x0:=HX.out.get 0 rfl
 have x1':=HX.out.get 1 rfl
 have x2':=HX.out.get 2 rfl
 have x3':=HX.out.get 3 rfl
 have x4:=HX.out.get 4 rfl
 have x5:=HX.out.get 5 rfl
 have x6:=HX.out.get 6 rfl
 have f0:=HX.out.f 0
 have f1:=HX.out.f 1
 have f2:=HX.out.f 2
 have f3:=HX.out.f 3
 have f4:=HX.out.f 4
 have f5:=HX.out.f 5
 have f6:=HX.out.f 6
 have HF:=hid (((((((((Off.of (F:=fun _=>False) HB.out).put ⟨hx,0,none⟩ (.inr HLO.out) (.int .i64 x1)).put ⟨hx,1,none⟩ (.inr HLO.out) (.int .i64 x2)).put ⟨hx,2,none⟩ (.inr HLO.out) (.int .i64 x3)).put ⟨hx,3,none⟩ (.inr HLO.out) (.int .i64 kl)).put ⟨hx,4,none⟩ (.inr HLO.out) (.int .i64 kr)).put ⟨hx,5,none⟩ (.inr HLO.out) (.int .i64 kh)).put ⟨hx,6,none⟩ (.inr HLO.out) (.int .i64 kt)))
 have HX2:=hid (((((((HX.out.set 0 (.int .i64 x1)).set 1 (.int .i64 x2)).set 2 (.int .i64 x3)).set 3 (.int .i64 kl)).set 4 (.int .i64 kr)).set 5 (.int .i64 kh)).set 6 (.int .i64 kt))
 go_wp2_with fail
 have r0:=HX2.out.get 0 (v:= .int .i64 x1) rfl
 have r1:=HX2.out.get 1 (v:= .int .i64 x2) rfl
 have r2:=HX2.out.get 2 (v:= .int .i64 x3) rfl
 have r3:=HX2.out.get 3 (v:= .int .i64 kl) rfl
 have r4:=HX2.out.get 4 (v:= .int .i64 kr) rfl
 have r5:=HX2.out.get 5 (v:= .int .i64 kh) rfl
 have r6:=HX2.out.get 6 (v:= .int .i64 kt) rfl
 refine bodyPost_ret (v:= .tuple #[.agg #[.int .i64 x1,.int .i64 x2,.int .i64 x3,.int .i64 kl,.int .i64 kr,.int .i64 kh,.int .i64 kt],.bool true]) (by simp [results,Tryz.results142,go_sem,r0,r1,r2,r3,r4,r5,r6]) rfl ⟨rfl,HF.out.below (Nat.le_refl _) (fun k e=>e.elim)⟩
theorem node_nil (p:Value)(k:Int)(w:World)(h:NilA w p):Calls Tryz.prog 142 #[p,.int .i64 k] w fun e w'=>e= .returned (.tuple #[.agg #[.int .i64 0,.int .i64 0,.int .i64 0,.int .i64 0,.int .i64 0,.int .i64 0,.int .i64 0],.bool false])∧Below w.heap.size w w':=by
 have HX:=hid (Blk.new w #[.int .i64 0,.int .i64 0,.int .i64 0,.int .i64 0,.int .i64 0,.int .i64 0,.int .i64 0] 221)
 have HB:=hid (show Ext w _ from(Below.refl _ w).alloc (Nat.le_refl _) (.cells #[.int .i64 0,.int .i64 0,.int .i64 0,.int .i64 0,.int .i64 0,.int .i64 0,.int .i64 0] 221))
 have HN:=hid (nodes_nil p _ (h.keep HB.out))
 clear h
 by_cases hk:k<0
 ·have dk:decide (k<0)=true:=decide_eq_true hk
  clear hk
  go_enter Tryz.func142,Tryz.ntmps142
  go_wp2_with fail
  generalize w.alloc (.cells #[.int .i64 0,.int .i64 0,.int .i64 0,.int .i64 0,.int .i64 0,.int .i64 0,.int .i64 0] 221)=wq at*
  generalize hhx:w.heap.size=hx at HX ⊢
  have HLO:=hid (Nat.le_of_eq hhx)
  clear hhx
  refine HN.out.mono ?_
  rintro e w1 ⟨g,rfl,hA,hb⟩
  have HB1:=hid (HB.out.grow hb)
  have HX1:=hid (HX.out.keep hb)
  have a2:=hA.b.get 2 rfl
  clear hA hb
  have x0:=HX1.out.get 0 rfl
  have x1:=HX1.out.get 1 rfl
  have x2:=HX1.out.get 2 rfl
  have x3:=HX1.out.get 3 rfl
  have x4:=HX1.out.get 4 rfl
  have x5:=HX1.out.get 5 rfl
  have x6:=HX1.out.get 6 rfl
  have f0:=HX1.out.f 0
  have f1:=HX1.out.f 1
  have f2:=HX1.out.f 2
  have f3:=HX1.out.f 3
  have f4:=HX1.out.f 4
  have f5:=HX1.out.f 5
  have f6:=HX1.out.f 6
  have HF:=hid (((((((((Off.of (F:=fun _=>False) HB1.out).put ⟨hx,0,none⟩ (.inr HLO.out) (.int .i64 0)).put ⟨hx,1,none⟩ (.inr HLO.out) (.int .i64 0)).put ⟨hx,2,none⟩ (.inr HLO.out) (.int .i64 0)).put ⟨hx,3,none⟩ (.inr HLO.out) (.int .i64 0)).put ⟨hx,4,none⟩ (.inr HLO.out) (.int .i64 0)).put ⟨hx,5,none⟩ (.inr HLO.out) (.int .i64 0)).put ⟨hx,6,none⟩ (.inr HLO.out) (.int .i64 0)))
  have HX2:=hid (((((((HX1.out.set 0 (.int .i64 0)).set 1 (.int .i64 0)).set 2 (.int .i64 0)).set 3 (.int .i64 0)).set 4 (.int .i64 0)).set 5 (.int .i64 0)).set 6 (.int .i64 0))
  go_wp2_with fail
  have r0:=HX2.out.get 0 (v:= .int .i64 0) rfl
  have r1:=HX2.out.get 1 (v:= .int .i64 0) rfl
  have r2:=HX2.out.get 2 (v:= .int .i64 0) rfl
  have r3:=HX2.out.get 3 (v:= .int .i64 0) rfl
  have r4:=HX2.out.get 4 (v:= .int .i64 0) rfl
  have r5:=HX2.out.get 5 (v:= .int .i64 0) rfl
  have r6:=HX2.out.get 6 (v:= .int .i64 0) rfl
  refine bodyPost_ret (v:= .tuple #[.agg #[.int .i64 0,.int .i64 0,.int .i64 0,.int .i64 0,.int .i64 0,.int .i64 0,.int .i64 0],.bool false]) (by simp [results,Tryz.results142,go_sem,r0,r1,r2,r3,r4,r5,r6]) rfl ⟨rfl,HF.out.below (Nat.le_refl _) (fun k e=>e.elim)⟩
 ·have dk:decide (k<0)=false:=decide_eq_false hk
  have dk2:decide (k≥0)=true:=decide_eq_true (by omega)
  clear hk
  go_enter Tryz.func142,Tryz.ntmps142
  go_wp2_with fail
  generalize w.alloc (.cells #[.int .i64 0,.int .i64 0,.int .i64 0,.int .i64 0,.int .i64 0,.int .i64 0,.int .i64 0] 221)=wq at*
  generalize hhx:w.heap.size=hx at HX ⊢
  have HLO:=hid (Nat.le_of_eq hhx)
  clear hhx
  refine HN.out.mono ?_
  rintro e w1 ⟨g,rfl,hA,hb⟩
  have HB1:=hid (HB.out.grow hb)
  have HX1:=hid (HX.out.keep hb)
  have a2:=hA.b.get 2 rfl
  clear hA hb
  have x0:=HX1.out.get 0 rfl
  have x1:=HX1.out.get 1 rfl
  have x2:=HX1.out.get 2 rfl
  have x3:=HX1.out.get 3 rfl
  have x4:=HX1.out.get 4 rfl
  have x5:=HX1.out.get 5 rfl
  have x6:=HX1.out.get 6 rfl
  have f0:=HX1.out.f 0
  have f1:=HX1.out.f 1
  have f2:=HX1.out.f 2
  have f3:=HX1.out.f 3
  have f4:=HX1.out.f 4
  have f5:=HX1.out.f 5
  have f6:=HX1.out.f 6
  have HF:=hid (((((((((Off.of (F:=fun _=>False) HB1.out).put ⟨hx,0,none⟩ (.inr HLO.out) (.int .i64 0)).put ⟨hx,1,none⟩ (.inr HLO.out) (.int .i64 0)).put ⟨hx,2,none⟩ (.inr HLO.out) (.int .i64 0)).put ⟨hx,3,none⟩ (.inr HLO.out) (.int .i64 0)).put ⟨hx,4,none⟩ (.inr HLO.out) (.int .i64 0)).put ⟨hx,5,none⟩ (.inr HLO.out) (.int .i64 0)).put ⟨hx,6,none⟩ (.inr HLO.out) (.int .i64 0)))
  have HX2:=hid (((((((HX1.out.set 0 (.int .i64 0)).set 1 (.int .i64 0)).set 2 (.int .i64 0)).set 3 (.int .i64 0)).set 4 (.int .i64 0)).set 5 (.int .i64 0)).set 6 (.int .i64 0))
  go_wp2_with fail
  have r0:=HX2.out.get 0 (v:= .int .i64 0) rfl
  have r1:=HX2.out.get 1 (v:= .int .i64 0) rfl
  have r2:=HX2.out.get 2 (v:= .int .i64 0) rfl
  have r3:=HX2.out.get 3 (v:= .int .i64 0) rfl
  have r4:=HX2.out.get 4 (v:= .int .i64 0) rfl
  have r5:=HX2.out.get 5 (v:= .int .i64 0) rfl
  have r6:=HX2.out.get 6 (v:= .int .i64 0) rfl
  refine bodyPost_ret (v:= .tuple #[.agg #[.int .i64 0,.int .i64 0,.int .i64 0,.int .i64 0,.int .i64 0,.int .i64 0,.int .i64 0],.bool false]) (by simp [results,Tryz.results142,go_sem,r0,r1,r2,r3,r4,r5,r6]) rfl ⟨rfl,HF.out.below (Nat.le_refl _) (fun k e=>e.elim)⟩
end Go.Proofs.YthagdonmijhpdaaGreat

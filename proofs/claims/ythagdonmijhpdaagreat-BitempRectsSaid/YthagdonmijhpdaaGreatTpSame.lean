/- Contracts of package timeline -/
import Derived.Test.YthagdonmijhpdaaGreatTpSegs
import Derived.Test.YthagdonmijhpdaaGreatTqNew
open Go.Lib (hid)
set_option linter.unusedSimpArgs false
set_option linter.unusedVariables false
set_option maxHeartbeats 4000000
set_option maxRecDepth 8000
namespace Corr
open Go Go.RowKit
def NilTp (w:World)(p:Value)(F:Nat→Prop):Prop:=(p= .pointer none∧F=fun _=>False)∨∃g,p= .pointer (some ⟨g,0,none⟩)∧Blk w g #[.pointer none,.pointer none,.pointer none,.pointer none,.map none]∧F=fun k=>k=g
theorem NilTp.keep {w w':World} {p:Value} {F G:Nat→Prop}(h:NilTp w p F)(ho:Off G w w')(hn: ∀k,F k→¬G k):NilTp w' p F:=by
 rcases h with h | ⟨g,h1,h2,h3⟩
 ·exact .inl h
 ·exact .inr ⟨g,h1,ho.blk h2 (hn g (by rw [h3])),h3⟩
theorem NilTp.below {w w':World} {p:Value} {F:Nat→Prop}(h:NilTp w p F)(hb:Below w.heap.size w w'):NilTp w' p F:=h.keep (Off.of (F:=fun _=>False) hb) (fun _ _ e=>e)
theorem NilTp.lt {w:World} {p:Value} {F:Nat→Prop}(h:NilTp w p F): ∀k,F k→k<w.heap.size:=by
 rcases h with⟨_,rfl⟩ | ⟨g,h1,h2,rfl⟩
 ·exact fun _ e=>e.elim
 ·rintro k rfl;exact h2.sz
theorem NilTp.ptr {w:World} {p:Value} {F:Nat→Prop}(h:NilTp w p F): ∃q,p= .pointer q:=by
 rcases h with⟨h,_⟩ | ⟨g,h,_⟩
 ·exact⟨_,h⟩
 ·exact⟨_,h⟩
end Corr
namespace Go.Proofs.YthagdonmijhpdaaGreat
open Go.RowKit Corr
theorem tpnew_rep {Rep:RepT}(K:TrK Rep)(w:World):Calls Tryz.prog 29 #[] w fun e w'=>∃(q:Addr) (F:Nat→Prop),e= .returned (.pointer (some q))∧RepTp Rep w' (.pointer (some q)) F 0 (fun _=>0)∧Below w.heap.size w w'∧∀k,F k→w.heap.size≤k:=by
 refine(tpnew_any K w).mono fun e w' hq=> ?_
 obtain⟨gT,gM,c,Fs,he,h1,h2,h3⟩:=hq
 exact⟨_,_,he,⟨⟨gT,gM,c,Fs,_,_,rfl,h1,rfl,tr_none,mp_none,fun i hi=>by simp⟩,fun d _=>rfl⟩,h2,h3⟩
end Go.Proofs.YthagdonmijhpdaaGreat
namespace Corr
open Go Go.RowKit
theorem it_dec (x1 x2 x3 y1 y2 y3:Int):(decide (((x1,x2,x3):It)=(y1,y2,y3)))=((x1 == y1) && ((x2 == y2) && (x3 == y3))):=by
 by_cases h1:x1=y1 <;> by_cases h2:x2=y2 <;> by_cases h3:x3=y3 <;> simp [h1,h2,h3]
theorem list_upto {l m:ItL} {k:Nat}(h:l.take k=m.take k) {x y:It}(hx:l[k]? =some x)(hy:m[k]? =some y)(e:x=y):l.take (k+1)=m.take (k+1):=by
 rw [List.take_add_one,List.take_add_one,h,hx,hy,e]
theorem list_not {l m:ItL} {k:Nat} {x y:It}(hx:l[k]? =some x)(hy:m[k]? =some y)(e: ¬x=y):decide (l=m)=false:=by
 refine decide_eq_false fun h=>e ?_
 subst h
 rw [hx]at hy
 exact Option.some.inj hy
end Corr
namespace Go.Proofs.YthagdonmijhpdaaGreat
open Go.RowKit Corr
theorem tpsegs_rep {Rep:RepT}(K:TrK Rep) {w:World} {p:Value} {F:Nat→Prop} {N:Nat} {f:Int→Int}(H:RepTp Rep w p F N f)(hN:N≤300)(a b:Int):Calls Tryz.prog 21 #[p,.agg #[.int .i64 a,.int .i64 b]] w (ζ1r 89 w f a b):=by
 obtain⟨hQ,ho⟩:=H
 obtain⟨gT,rfl⟩:=hQ.ptr
 cases hm:mayB a b with
 | true=>exact tpsegs_yes K gT F (3*N) f a b w hQ ho (by omega) hm
 | false=>
  obtain⟨gM,hc⟩:=hQ.map_at
  refine(tpsegs_no K gT gM a b w hc hm).mono fun e w' hq=> ?_
  exact⟨[],none,0,0,hq.1,by unfold segF;rw [if_neg (by rw [hm];decide)],World.ownsRow_nil _ _ _ _,hq.2⟩
theorem tpall_any {Rep:RepT}(K:TrK Rep) {w:World} {p:Value} {F:Nat→Prop} {N:Nat} {f:Int→Int}(H:RepTp Rep w p F N f)(hN:N≤300):Calls Tryz.prog 56 #[p] w (ζ1r 89 w f 1 3652060):=by
 obtain⟨gT,hp⟩:=H.1.ptr
 subst hp
 obtain⟨gM,hc⟩:=H.1.map_at
 have HS:=hid (tpsegs_rep K H hN 1 3652060)
 clear K H
 go_enter Tryz.func56,Tryz.ntmps56
 go_wp2_with fail
 refine(ζ28 gT gM _ hc).mono ?_
 rintro e w1 ⟨rfl,hw1⟩
 subst w1
 clear hc
 go_wp2_with fail
 refine HS.out.mono ?_
 rintro e w1 ⟨out,A,n,c,rfl,h1,h2,h3⟩
 have H1:=hid h1
 have H2:=hid h2
 have H3:=hid h3
 clear h1 h2 h3
 go_wp2_with fail
 go_ret
 exact⟨out,A,n,c,rfl,H1.out,H2.out,H3.out⟩
theorem eqone_any (x1 x2 x3 y1 y2 y3:Int)(w:World):Calls Tryz.prog 57 #[.agg #[.int .i64 x1,.int .i64 x2,.int .i64 x3],.agg #[.int .i64 y1,.int .i64 y2,.int .i64 y3]] w fun e w'=>e= .returned (.bool (decide (((x1,x2,x3):It)=(y1,y2,y3))))∧Below w.heap.size w w':=by
 have hs:=((SepF.nil w).push #[.int .i64 x1,.int .i64 x2,.int .i64 x3] 89).push #[.int .i64 y1,.int .i64 y2,.int .i64 y3] 89
 simp only [ζd,List.nil_append,List.cons_append]at hs
 have HS:=hid hs
 have a0:=(hs.b 0 rfl).get 0 rfl
 have a1:=(hs.b 0 rfl).get 1 rfl
 have a2:=(hs.b 0 rfl).get 2 rfl
 have b0:=(hs.b 1 rfl).get 0 rfl
 have b1:=(hs.b 1 rfl).get 1 rfl
 have b2:=(hs.b 1 rfl).get 2 rfl
 have HE:=hid (it_dec x1 x2 x3 y1 y2 y3)
 clear hs
 by_cases h1:x1=y1
 ·have d1:(x1 == y1)=true:=by simpa using h1
  by_cases h2:x2=y2
  ·have d2:(x2 == y2)=true:=by simpa using h2
   have HF:=hid (show (x3 == y3)=decide (((x1,x2,x3):It)=(y1,y2,y3)) by rw [HE.out,d1,d2];rfl)
   clear h1 h2
   go_enter Tryz.func57,Tryz.ntmps57
   go_wp2_with fail
   refine(ζ42 x3 y3 _).mono ?_
   rintro e w1 ⟨rfl,c1⟩
   have HB:=hid (HS.out.keep c1).bl
   obtain⟨r,hr⟩: ∃r,(x3 == y3)=r:=⟨_,rfl⟩
   rw [hr]at HF ⊢
   clear c1 hr
   go_wp2_with fail
   go_ret
   exact⟨by rw [HF.out];first | done | rfl,HB.out⟩
  ·have d2:(x2 == y2)=false:=by simpa using h2
   have HF:=hid (show false=decide (((x1,x2,x3):It)=(y1,y2,y3)) by rw [HE.out,d1,d2];rfl)
   clear h1 h2
   go_enter Tryz.func57,Tryz.ntmps57
   go_wp2_with fail
   go_ret
   exact⟨by rw [←HF.out];first | done | rfl,HS.out.bl⟩
 ·have d1:(x1 == y1)=false:=by simpa using h1
  have HF:=hid (show false=decide (((x1,x2,x3):It)=(y1,y2,y3)) by rw [HE.out,d1];rfl)
  clear h1
  go_enter Tryz.func57,Tryz.ntmps57
  go_wp2_with fail
  go_ret
  exact⟨by rw [←HF.out];first | done | rfl,HS.out.bl⟩
theorem eqfunc_any (A B:Option Addr)(n c m d:Nat)(l k:ItL)(w:World)(R:Itm w A n c l)(S:Itm w B m d k)(hn:n≤4000000)(hm:m≤4000000):Calls Tryz.prog 55 #[.slice A n c,.slice B m d,.func (.func 57) #[] #[]] w fun e w'=>e= .returned (.bool (decide (l=k)))∧Below w.heap.size w w':=by
 have hln:=Itm.count R
 have hkm:=Itm.count S
 have HR:=hid R
 have HS:=hid S
 by_cases hnm:n=m
 ·subst hnm
  have d1:((n:Int) != (n:Int))=false:=by simp
  clear R S
  go_enter Tryz.func55,Tryz.ntmps55
  go_wp2_with fail
  go_loopw [17] (fun u wr=>∃i:Nat,u= .int .i64 (i:Int)∧i≤n∧Hid (l.take i=k.take i)∧Hid (Below w.heap.size w wr)) (fun u _=>(n-intOf u).toNat)
  case atStart=>exact⟨0,rfl,by omega,hid rfl,hid (Below.refl _ _)⟩
  case round=>
   obtain⟨i,rfl,hi,HE,HB⟩:=hrel
   by_cases hlt:i<n
   ·obtain⟨ga,oa,⟨x1,x2,x3⟩,rfl,hx,hga,a0,a1,a2⟩:=Itm.get (HR.out.keep HB.out) hlt
    have hb1:=(Below.refl wr.heap.size wr).alloc (Nat.le_refl _) (.cells #[.int .i64 x1,.int .i64 x2,.int .i64 x3] 89)
    obtain⟨gb,ob,⟨y1,y2,y3⟩,rfl,hy,hgb,b0,b1,b2⟩:=Itm.get ((HS.out.keep HB.out).keep hb1) hlt
    have hs2:=((SepF.of HB.out).push #[.int .i64 x1,.int .i64 x2,.int .i64 x3] 89).push #[.int .i64 y1,.int .i64 y2,.int .i64 y3] 89
    simp only [ζd,List.nil_append,List.cons_append]at hs2
    have HS2:=hid hs2
    have u0:=(hs2.b 0 rfl).get 0 rfl
    have u1:=(hs2.b 0 rfl).get 1 rfl
    have u2:=(hs2.b 0 rfl).get 2 rfl
    have v0:=(hs2.b 1 rfl).get 0 rfl
    have v1:=(hs2.b 1 rfl).get 1 rfl
    have v2:=(hs2.b 1 rfl).get 2 rfl
    have HX:=hid hx
    have HY:=hid hy
    clear hs2 hb1 hx hy
    by_cases hxy:((x1,x2,x3):It)=(y1,y2,y3)
    ·have HD:=hid (show decide (((x1,x2,x3):It)=(y1,y2,y3))=true from decide_eq_true hxy)
     have HXY:=hid hxy
     clear hxy
     go_wp2_with fail
     refine(eqone_any x1 x2 x3 y1 y2 y3 _).mono ?_
     rintro e w2 ⟨rfl,b9⟩
     rw [HD.out]
     have HB9:=hid (HS2.out.keep b9).bl
     clear b9 u0 u1 u2 v0 v1 v2
     go_wp2_with fail
     go_roundw
     case rel=>exact⟨i+1,by go_num,by omega,hid (list_upto HE.out HX.out HY.out HXY.out),HB9⟩
     case measure=>simp [intOf];omega
    ·have HD:=hid (show decide (((x1,x2,x3):It)=(y1,y2,y3))=false from decide_eq_false hxy)
     have HN:=hid (list_not HX.out HY.out hxy)
     clear hxy
     go_wp2_with fail
     refine(eqone_any x1 x2 x3 y1 y2 y3 _).mono ?_
     rintro e w2 ⟨rfl,b9⟩
     rw [HD.out]
     have HB9:=hid (HS2.out.keep b9).bl
     clear b9 u0 u1 u2 v0 v1 v2
     go_wp2_with fail
     go_ret
     exact⟨by rw [HN.out];first | done | rfl,HB9.out⟩
   ·have HEQ:=hid (show decide (l=k)=true from decide_eq_true (by
     have:=HE.out
     rwa [List.take_of_length_le (by omega),List.take_of_length_le (by omega)]at this))
    go_wp2_with fail
    go_ret
    exact⟨by rw [HEQ.out];first | done | rfl,HB.out⟩
 ·have HN:=hid (show decide (l=k)=false from decide_eq_false fun h=>hnm (by rw [←hln,←hkm,h]))
  have d1:((n:Int) != (m:Int))=true:=by simp;omega
  clear R S
  go_enter Tryz.func55,Tryz.ntmps55
  go_wp2_with fail
  go_ret
  exact⟨by rw [HN.out];first | done | rfl,Below.refl _ _⟩
theorem tpsame_of (p q:Value)(f g:Int→Int)(w:World)(h1: ∀w',Below w.heap.size w w'→Calls Tryz.prog 56 #[p] w' (ζ1r 89 w' f 1 3652060))(h2: ∀w',Below w.heap.size w w'→Calls Tryz.prog 56 #[q] w' (ζ1r 89 w' g 1 3652060)):
  Calls Tryz.prog 27 #[p,q] w (RetSameF w f g):=by
 have H1:=hid (h1 w (Below.refl _ _))
 have H2:=hid h2
 clear h1 h2
 go_enter Tryz.func27,Tryz.ntmps27
 go_wp2_with fail
 refine H1.out.mono ?_
 rintro e w1 ⟨l,A,n,c,rfl,s1,o1,b1⟩
 have HL:=hid s1
 have HB1:=hid b1
 have HI1:=hid (show Itm w1 A n c l from by obtain⟨A',c',e,h⟩:=Lies.of_own o1 o1.1;injection e with e1 _ e3;subst e1 e3;exact h)
 have hn:n≤4000000:=by have h:=ζ49 s1;have:=ζ3p o1;omega
 have HC:=hid (H2.out w1 b1)
 clear s1 o1 b1 H1 H2
 go_wp2_with fail
 refine HC.out.mono ?_
 rintro e w2 ⟨k,B,m,d,rfl,s2,o2,b2⟩
 have HK2:=hid s2
 have HB2:=hid (HB1.out.trans (b2.mono HB1.out.size))
 have HI2:=hid (show Itm w2 B m d k from by obtain⟨A',c',e,h⟩:=Lies.of_own o2 o2.1;injection e with e1 _ e3;subst e1 e3;exact h)
 have hm:m≤4000000:=by have h:=ζ49 s2;have:=ζ3p o2;omega
 have HEF:=hid (eqfunc_any A B n c m d l k w2 (HI1.out.keep b2) HI2.out hn hm)
 clear s2 o2 b2 HC
 go_wp2_with fail
 refine HEF.out.mono ?_
 rintro e w3 ⟨rfl,b3⟩
 have HB3:=hid (HB2.out.trans (b3.mono HB2.out.size))
 obtain⟨r,hr⟩: ∃r,decide (l=k)=r:=⟨_,rfl⟩
 rw [hr]
 have HR:=hid hr
 clear b3 hr HEF
 go_wp2_with fail
 go_ret
 exact⟨l,k,HL.out,HK2.out,by rw [HR.out];first | done | rfl,HB3.out⟩
end Go.Proofs.YthagdonmijhpdaaGreat

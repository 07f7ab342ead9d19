/- What the laws of stage 8 ask of package avl is so. -/
import Derived.Test.YthagdonmijhpdaaGreatAk17
import Derived.Test.YthagdonmijhpdaaGreatAk22
import Derived.Test.YthagdonmijhpdaaGreatAvKnown
set_option linter.unusedVariables false
namespace Go.Proofs.YthagdonmijhpdaaGreat
open Go.RowKit Corr
abbrev RepP:RepT:=RepA 221
theorem ζ4x {x:It} {l:ItL}(h:srt l)(hx: ¬x∈l):hasI x l=false:=by
 cases e:hasI x l with
 | false=>rfl
 | true=>exact absurd ((ζ2e h).1 e) hx
theorem way_le {c:Cx} {s t:PT}(h:c.plug s=t)(hb:t.bal)(hl:t.items.length≤1500):c.way.length≤28:=by
 have h1:=c.deep s
 rw [h]at h1
 have h2:=bal_le hb hl
 omega
theorem inRow_n {A:Option Addr} {m n c d k:Nat}(h:inRow A m c k):inRow A n d k:=by cases A <;> exact h
theorem insert_k (w:World)(p:Value)(F:Nat→Prop)(M:Int)(l:ItL)(x:It)(H:RepP w p F M l)(hl:l.length≤1000):Calls Tryz.prog 100 #[p,itV x] w fun e w'=>∃F':Nat→Prop,e= .returned (.int .i64 (insR M x l))∧RepP w' p F' M (insL M x l)∧Off F w w'∧∀k,F' k→F k∨w.heap.size≤k:=by
 obtain⟨gT,g,n,c,A,K,t,rfl,T,rfl⟩:=H
 have hn:n≤1001:=by have:=T.num;omega
 have hti:t.items.length≤1500:=by rw [T.it];omega
 have same: ∀ {r:Int},insR M x l=r→¬r=0→∀ {e:Ending} {w':World},(e= .returned (.int .i64 r)∧Below w.heap.size w w')→∃F':Nat→Prop,e= .returned (.int .i64 (insR M x l))∧RepP w' (.pointer (some ⟨gT,0,none⟩)) F' M (insL M x l)∧Off (inTr gT g A n c) w w'∧∀k,F' k→inTr gT g A n c k∨w.heap.size≤k:=by
  rintro r hr h0 e w' ⟨rfl,hb⟩
  refine⟨_,by rw [hr],⟨gT,g,n,c,A,K,t,rfl,?_,rfl⟩,Off.of hb,fun k hk=> .inl hk⟩
  unfold insL
  rw [hr,if_neg h0]
  exact T.keep hb
 by_cases h1:x.2.1≤x.1
 ·exact(ins_bad gT g n c M A K t l x w T hn h1).mono fun e w' h=>same (by unfold insR;rw [if_pos h1]) (by decide) h
 ·by_cases h2:x∈l
  ·have h3:=(ζ2e T.srt).2 h2
   obtain⟨cx,a,q,b,hp,P⟩:=find_has (x:=x) T.rp (by rw [T.it];exact T.srt) (by rw [T.it];exact h2)
   exact(ins_twice gT g n c M A K t l x w T hn cx.way (q:Int) P (way_le hp T.bal hti) (by omega) (by simp)).mono fun e w' h=>same (by unfold insR;rw [if_neg h1,if_pos h3]) (by decide) h
  ·have h3:=ζ4x T.srt h2
   obtain⟨cx,hp,P,hb1,hb2⟩:=find_not (x:=x) T.rp (by rw [T.it];exact T.srt) (by rw [T.it];exact h2)
   by_cases h4:(l.length:Int)=M
   ·exact(ins_full gT g n c M A K t l x w T hn cx.way (-1) P (way_le hp T.bal hti) (by omega) rfl (by rw [←T.num];exact h4)).mono fun e w' h=>same (by unfold insR;rw [if_neg h1,if_neg (by rw [h3];decide),if_pos h4]) (by decide) h
   ·have hr:insR M x l=0:=by unfold insR;rw [if_neg h1,if_neg (by rw [h3];decide),if_neg h4]
    refine(ins_ok gT g n c M A K t l x w T hn cx hp P (way_le hp T.bal hti) (by omega) (by rw [←T.num];exact h4) hb1 hb2).mono ?_
    rintro e w' ⟨rfl,A',c',K',t',T',ho,hr'⟩
    refine⟨inTr gT g A' (n+1) c',by rw [hr],⟨gT,g,n+1,c',A',K',t',rfl,?_,rfl⟩,ho,?_⟩
    ·unfold insL
     rw [if_pos hr];exact T'
    ·rintro k (h | h | h)
     ·exact .inl (.inl h)
     ·exact .inl (.inr (.inl h))
     ·exact(hr' k h).imp_left fun h=> .inr (.inr h)
theorem delete_k (w:World)(p:Value)(F:Nat→Prop)(M:Int)(l:ItL)(x:It)(H:RepP w p F M l)(hl:l.length≤1000):Calls Tryz.prog 99 #[p,itV x] w fun e w'=>∃F':Nat→Prop,e= .returned (.int .i64 (delR x l))∧RepP w' p F' M (delL x l)∧Off F w w'∧∀k,F' k→F k∨w.heap.size≤k:=by
 obtain⟨gT,g,n,c,A,K,t,rfl,T,rfl⟩:=H
 have hn:n≤1001:=by have:=T.num;omega
 have hti:t.items.length≤1500:=by rw [T.it];omega
 by_cases h2:x∈l
 ·have h3:=(ζ2e T.srt).2 h2
  obtain⟨cx,a,q,b,hp,P⟩:=find_has (x:=x) T.rp (by rw [T.it];exact T.srt) (by rw [T.it];exact h2)
  obtain⟨m,hm⟩: ∃m,n=m+1:=⟨n-1,by have:=T.num;have:=List.length_pos_of_mem h2;omega⟩
  refine(del_ok gT g n c M A K t l x w T hn m hm cx a q b hp P (way_le hp T.bal hti)).mono ?_
  rintro e w' ⟨rfl,K',t',T',ho⟩
  refine⟨inTr gT g A m c,by unfold delR;rw [if_pos h3],⟨gT,g,m,c,A,K',t',rfl,?_,rfl⟩,ho,fun k hk=> .inl (hk.imp_right fun h=>h.imp_right fun h=>inRow_n h)⟩
  unfold delL
  rw [if_pos h3];exact T'
 ·have h3:=ζ4x T.srt h2
  obtain⟨cx,hp,P,hb1,hb2⟩:=find_not (x:=x) T.rp (by rw [T.it];exact T.srt) (by rw [T.it];exact h2)
  refine(del_no gT g n c M A K t l x w T hn cx.way (-1) P (way_le hp T.bal hti) rfl).mono ?_
  rintro e w' ⟨rfl,hb⟩
  refine⟨_,by unfold delR;rw [if_neg (by rw [h3];decide)],⟨gT,g,n,c,A,K,t,rfl,?_,rfl⟩,Off.of hb,fun k hk=> .inl hk⟩
  unfold delL
  rw [if_neg (by rw [h3];decide)]
  exact T.keep hb
end Go.Proofs.YthagdonmijhpdaaGreat

/-
  Drives side by side as plain data (layer 10): what becomes of a list of drives, what its calls answer
-/
import Derived.Test.YtmhejbihdghhaaaGreatDoorQcab
import Derived.Deep.RegionHeld3
namespace Go.Proofs.YtmhejbihdghhaaaGreatDoor
set_option linter.unusedVariables false
open Go.RowKit Go.Proofs
open Go.RowKit Go.Proofs
open Go.RowKit Go.Proofs
open Go.RowKit Go.Proofs
open Go.RowKit Go.Proofs
open Go.RowKit Go.Proofs
open Go.RowKit Go.Proofs
open Go.RowKit Go.Proofs
set_option maxRecDepth 100000
set_option maxHeartbeats 1600000
section
section
variable {xs:List Dv}{z:Int}{i k t:Nat}{x:Dv}{f:Dv->Dv}{F:Nat->Dv->Dv}
theorem jaF {α:Type}{l:List α}{i:Nat}{a:α}(h:l[i]? =some a):i<l.length:=(List.getElem?_eq_some_iff.1 h).1
def upTo (F:Nat->Dv->Dv)(xs:List Dv)(t:Nat):List Dv:=xs.mapIdx λ i x=>if i<t then F i x else x
theorem jaw:(upTo F xs t).length=xs.length:=by simp [upTo]
theorem jaV (h:xs[i]? =some x):(upTo F xs t)[i]? =some (if i<t then F i x else x):=by simp [upTo,h]
theorem jcX (h:xs[t]? =some x):(upTo F xs t)[t]? =some x:=by rw [jaV h,if_neg (Nat.lt_irrefl _)]
theorem jdQ:upTo F xs 0=xs:=by
 apply List.ext_getElem?
 intro i
 rcases Nat.lt_or_ge i xs.length with h|h
 ·rw [jaV (List.getElem?_eq_getElem h),if_neg (by omega),List.getElem?_eq_getElem h]
 ·rw [List.getElem?_eq_none (by rw [jaw];exact h),List.getElem?_eq_none h]
theorem jdR (h:xs[t]? =some x):(upTo F xs t).set t (F t x)=upTo F xs (t+1):=by
 apply List.ext_getElem?
 intro i;rw [List.getElem?_set]
 by_cases hi:t=i
 ·subst hi
  rw [if_pos rfl,if_pos (by rw [jaw];exact jaF h),jaV h,if_pos (by omega)]
 ·rw [if_neg hi]
  rcases Nat.lt_or_ge i xs.length with h1|h1
  ·rw [jaV (List.getElem?_eq_getElem h1),jaV (List.getElem?_eq_getElem h1)]
   by_cases h2:i<t
   ·rw [if_pos h2,if_pos (by omega)]
   ·rw [if_neg h2,if_neg (by omega)]
  ·rw [List.getElem?_eq_none (by rw [jaw];exact h1),List.getElem?_eq_none (by rw [jaw];exact h1)]
theorem jcm {α:Type}{l:List α}{t:Nat}{a:α}(h:l[t]? =some a):l.take (t+1)=l.take t ++ [a]:=by
 rw [List.take_add_one,h];rfl
def jaL (xs:List Dv)(t:Nat):List Dv:=upTo (λ _ x=>x.flush1) xs t
def jdS (xs:List Dv)(t:Nat):List Int:=(xs.take t).map Dv.flushX
def jkf (xs:List Dv)(t:Nat):Nat:=(jdS xs t).count 0
def jbC (xs:List Dv)(kss:List (List Bool))(t:Nat):List Dv:=upTo (λ i x=>x.crash (kss.getD i [])) xs t
def putF (rs:List (List UInt8))(z:Int)(i:Nat)(x:Dv):Dv:=if 0<(rs.getD i []).length then x.write z (rs.getD i []) else x
def putS (xs:List Dv)(rs:List (List UInt8))(z:Int)(t:Nat):List Dv:=upTo (putF rs z) xs t
def putG (z:Int)(p:Dv × List UInt8):Option Int:=if 0<p.2.length then some (p.1.writeX z p.2) else none
def putA (xs:List Dv)(rs:List (List UInt8))(z:Int)(t:Nat):List Int:=((xs.zip rs).take t).filterMap (putG z)
def putN (xs:List Dv)(rs:List (List UInt8))(z:Int)(t:Nat):Nat:=(putA xs rs z t).count 0
def jhQ (xs:List Dv)(z:Int):List (List UInt8):=xs.map (·.readL z)
theorem jjd (h:xs[t]? =some x):jdS xs (t+1)=jdS xs t ++ [x.flushX]:=by rw [jdS,jcm h,List.map_append];rfl
theorem jqh {rs:List (List UInt8)}{r:List UInt8}(h:xs[t]? =some x)(hr:rs[t]? =some r):(xs.zip rs)[t]? =some (x,r):=by
 rw [List.getElem?_eq_getElem (by rw [List.length_zip];have:=jaF h;have:=jaF hr;omega),List.getElem_zip];obtain⟨h1,h2⟩:=List.getElem?_eq_some_iff.1 h;obtain⟨g1,g2⟩:=List.getElem?_eq_some_iff.1 hr;rw [h2,g2]
theorem getD_at {α:Type}{l:List α}{d a:α}(h:l[t]? =some a):l.getD t d=a:=by rw [List.getD_eq_getElem?_getD,h];rfl
theorem jdT {rs:List (List UInt8)}{r:List UInt8}{z:Int}(h:xs[t]? =some x)(hr:rs[t]? =some r)(h0:0<r.length):putA xs rs z (t+1)=putA xs rs z t ++ [x.writeX z r]:=by
 rw [putA,jcm (jqh h hr),List.filterMap_append];simp [putA,putG,h0]
theorem jfx {rs:List (List UInt8)}{r:List UInt8}{z:Int}(h:xs[t]? =some x)(hr:rs[t]? =some r)(h0:¬0<r.length):putA xs rs z (t+1)=putA xs rs z t:=by
 rw [putA,jcm (jqh h hr),List.filterMap_append];have:putG z (x,r)=none:=by rw [putG,if_neg h0]
 simp [putA,this]
theorem jm7 {rs:List (List UInt8)}{r:List UInt8}{z:Int}(h:xs[t]? =some x)(hr:rs[t]? =some r):putN xs rs z (t+1)=putN xs rs z t +(if 0<r.length∧x.writeX z r=0 then 1 else 0):=by
 by_cases h0:0<r.length
 ·rw [putN,jdT h hr h0,List.count_append,List.count_singleton,putN]
  by_cases q:x.writeX z r=0<;>simp [q,h0]
 ·rw [putN,jfx h hr h0,if_neg (λ q=>h0 q.1)]
  rfl
theorem jkg {rs:List (List UInt8)}{r:List UInt8}{z:Int}(hr:rs[t]? =some r)(h0:0<r.length):putF rs z t x=x.write z r:=by rw [putF,getD_at hr,if_pos h0]
theorem jm8 {rs:List (List UInt8)}{r:List UInt8}{z:Int}(hr:rs[t]? =some r)(h0:¬0<r.length):putF rs z t x=x:=by rw [putF,getD_at hr,if_neg h0]
theorem jhR (h:xs[t]? =some x)(he:F t x=x):upTo F xs (t+1)=upTo F xs t:=by
 rw [<-jdR h,he]
 apply List.ext_getElem?
 intro i;rw [List.getElem?_set]
 by_cases hi:t=i
 ·subst hi
  rw [if_pos rfl,if_pos (by rw [jaw];exact jaF h),jcX h]
 ·rw [if_neg hi]
end
end
section
theorem Fr.intoN {S Sj:Nat->Prop}{w wr w8:World}(h:Fr S w wr)(m:Fr Sj wr w8)(hs:∀b,Sj b->S b∨w.heap.size<=b):Fr S w w8:=
 ⟨m.os.trans h.os,m.tape.trans h.tape,m.output.trans h.output,Nat.le_trans h.size m.size,λ b hb hn=>(m.block b (Nat.lt_of_lt_of_le hb h.size) (λ hq=>(hs b hq).elim hn (λ q=>by omega))).trans (h.block b hb hn)⟩
def Nxt (S S':Nat->Prop)(w w':World):Prop:=Fr S w w' ∧∀b,S' b->S b∨w.heap.size<=b
theorem Nxt.refl (S:Nat->Prop)(w:World):Nxt S S w w:=⟨Fr.refl _ _,λ _ hb=> .inl hb⟩
theorem Nxt.trans {S S' S'' :Nat->Prop}{w w1 w2:World}(h:Nxt S S' w w1)(h':Nxt S' S'' w1 w2):Nxt S S'' w w2:=
 ⟨h.1.intoN h'.1 h.2,λ b hb=>(h'.2 b hb).elim (h.2 b) (λ q=> .inr (by have:=h.1.size;omega))⟩
theorem Nxt.below {S S':Nat->Prop}{w w1 w2:World}(h:Nxt S S' w1 w2)(hb:Below w.heap.size w w1):Nxt S S' w w2:=⟨(Fr.of_below hb).trans h.1,λ b hb' =>(h.2 b hb').imp id (λ q=>by have:=hb.size;omega)⟩
structure Ds where
 D:Nat
 S:Nat->Prop
 x:Dv
def Ds.ptr (d:Ds):Value:= .pointer (some ⟨d.D,0,none⟩)
structure LayR (R:World->(Nat->Prop)->Nat->Dv->Prop):Prop where
 fr:∀{w w':World} {S T:Nat->Prop} {D:Nat} {x:Dv},R w S D x->Fr T w w' ->(∀b,S b->¬T b)->R w' S D x
 old:∀{w:World} {S:Nat->Prop} {D:Nat} {x:Dv},R w S D x->∀b,S b->b<w.heap.size
structure Ars (R:World->(Nat->Prop)->Nat->Dv->Prop)(TA TD:TypeId)(w:World)(S:Nat->Prop)(A:Nat)(AL:Option Addr)(c:Nat)(ds:List Ds):Prop where
 box:w.heap[A]? =some (.cells #[.slice AL ds.length c] TA (0,0))
 row:Rn w AL TD 1 ds.length c (ds.map Ds.ptr)
 rep:∀(i:Nat) (d:Ds),ds[i]? =some d->R w d.S d.D d.x∧¬d.S A∧(∀b,Bk AL b->¬d.S b)∧∀b,d.S b->S b
 dis:∀(i j:Nat) (d e:Ds),ds[i]? =some d->ds[j]? =some e->i≠j->∀b,d.S b->¬e.S b
 own:S A∧∀b,Bk AL b->S b
 old:∀b,S b->b<w.heap.size
def Arr (R:World->(Nat->Prop)->Nat->Dv->Prop)(TA TD:TypeId)(w:World)(S:Nat->Prop)(A:Nat)(xs:List Dv):Prop:=∃AL c ds,Ars R TA TD w S A AL c ds∧ds.map Ds.x=xs
section
variable {R R':World->(Nat->Prop)->Nat->Dv->Prop}{TA TD:TypeId}{w w':World}{S S' T:Nat->Prop}{A c i:Nat}{AL:Option Addr}{ds:List Ds}{d:Ds}{xs:List Dv}{x y:Dv}
theorem Ars.fr (L:LayR R)(h:Ars R TA TD w S A AL c ds)(hf:Fr T w w')(hT:∀b,S b->¬T b):Ars R TA TD w' S A AL c ds:=
 ⟨hf.row_some h.box (hT A h.own.1),h.row.fr hf (λ b hb=>hT b (h.own.2 b hb)),λ i d hd=>by
  obtain⟨h1,h2,h3,h4⟩:=h.rep i d hd;exact⟨L.fr h1 hf (λ b hb=>hT b (h4 b hb)),h2,h3,h4⟩,h.dis,h.own,λ b hb=>Nat.lt_of_lt_of_le (h.old b hb) hf.size⟩
theorem Ars.later (L:LayR R)(h:Ars R TA TD w S A AL c ds)(hb:Below w.heap.size w w'):Ars R TA TD w' S A AL c ds:=h.fr L (Fr.of_below hb:Fr (λ _=>False) _ _) (λ _ _ h=>h)
theorem Arr.fr (L:LayR R)(h:Arr R TA TD w S A xs)(hf:Fr T w w')(hT:∀b,S b->¬T b):Arr R TA TD w' S A xs:=by
 obtain⟨AL,c,ds,h,e⟩:=h;exact⟨AL,c,ds,h.fr L hf hT,e⟩
theorem Arr.later (L:LayR R)(h:Arr R TA TD w S A xs)(hb:Below w.heap.size w w'):Arr R TA TD w' S A xs:=h.fr L (Fr.of_below hb:Fr (λ _=>False) _ _) (λ _ _ h=>h)
theorem Arr.old (h:Arr R TA TD w S A xs){b:Nat}(hb:S b):b<w.heap.size:=by
 obtain⟨AL,c,ds,h,e⟩:=h;exact h.old b hb
theorem jjf (e:ds.map Ds.x=xs)(h:xs[i]? =some x):∃d,ds[i]? =some d∧d.x=x:=by
 rw [<-e,List.getElem?_map] at h
 cases hd:ds[i]? with
 |none=>rw [hd] at h;cases h
 |some d=>rw [hd] at h;injection h with h;exact⟨d,rfl,h⟩
theorem jeH (e:ds.map Ds.x=xs):ds.length=xs.length:=by rw [<-e,List.length_map]
theorem Ars.c0 (h:Ars R TA TD w S A AL c ds):w.cell? ⟨A,0,none⟩=some (.slice AL ds.length c):=by rw [cell_of_row _ _ _ _ _ _ h.box];rfl
theorem Ars.at_ (h:Ars R TA TD w S A AL c ds)(h0:0<ds.length):∃g,AL=some ⟨g,0,none⟩∧∀(i:Nat) (d:Ds),ds[i]? =some d->w.cell? ⟨g,i,none⟩=some d.ptr:=by
 rcases h.row with ⟨q,_⟩|⟨g,hA,hr⟩
 ·omega
 ·exact⟨g,hA,λ i d hd=>hr.cell (by rw [List.getElem?_map,hd];rfl)⟩
theorem Ars.mut (L:LayR R)(L':LayR R')(hm:∀w S D x,R w S D x->R' w S D x)(h:Ars R TA TD w S A AL c ds)(hd:ds[i]? =some d)(hr:R' w' S' d.D y)(hf:Fr d.S w w')(hs:∀b,S' b->d.S b∨w.heap.size<=b):
  Ars R' TA TD w' (λ b=>S b∨S' b) A AL c (ds.set i ⟨d.D,S',y⟩):=by
 obtain⟨r1,r2,r3,r4⟩:=h.rep i d hd;have hi:=jaF hd;have hA:=h.old A h.own.1;have hnew:∀b,S b->¬d.S b->¬S' b:=λ b hb hn hq=>(hs b hq).elim hn (λ q=>by have:=h.old b hb;omega)
 refine⟨?_, ?_,λ j e he=> ?_,λ j k e g he hg hne b hb=> ?_,⟨.inl h.own.1,λ b hb=> .inl (h.own.2 b hb)⟩,λ b hb=> ?_⟩
 ·rw [List.length_set]
  exact hf.row_some h.box r2
 ·have e:(ds.set i ⟨d.D,S',y⟩).map Ds.ptr=ds.map Ds.ptr:=by
   apply List.ext_getElem?
   intro j;rw [List.getElem?_map,List.getElem?_map,List.getElem?_set]
   by_cases hj:i=j
   ·subst hj
    rw [if_pos rfl,if_pos hi,hd]
    rfl
   ·rw [if_neg hj]
  rw [List.length_set,e];exact h.row.fr hf r3
 ·rw [List.getElem?_set] at he
  by_cases hj:i=j
  ·rw [if_pos hj,if_pos hi] at he
   injection he with he
   subst he;exact⟨hr,hnew A h.own.1 r2,λ b hb=>hnew b (h.own.2 b hb) (r3 b hb),λ b hb=> .inr hb⟩
  ·rw [if_neg hj] at he
   obtain⟨g1,g2,g3,g4⟩:=h.rep j e he;exact⟨hm _ _ _ _ (L.fr g1 hf (λ b hb hb' =>h.dis i j d e hd he hj b hb' hb)),g2,g3,λ b hb=> .inl (g4 b hb)⟩
 ·rw [List.getElem?_set] at he hg
  by_cases hj:i=j
  ·rw [if_pos hj,if_pos hi] at he
   injection he with he
   subst he;rw [if_neg (λ q=>hne (hj.symm.trans q))] at hg;have hb:S' b:=hb;intro hgb;have h4:=(h.rep k g hg).2.2.2 b hgb;exact hnew b h4 (λ q=>h.dis i k d g hd hg (λ q=>hne (hj.symm.trans q)) b q hgb) hb
  ·rw [if_neg hj] at he
   by_cases hk:i=k
   ·rw [if_pos hk,if_pos hi] at hg
    injection hg with hg
    subst hg;have h4:=(h.rep j e he).2.2.2 b hb;exact hnew b h4 (λ q=>h.dis i j d e hd he hj b q hb)
   ·rw [if_neg hk] at hg
    exact h.dis j k e g he hg hne b hb
 ·rcases hb with hb|hb
  ·exact Nat.lt_of_lt_of_le (h.old b hb) hf.size
  ·exact L'.old hr b hb
theorem jm9 (e:ds.map Ds.x=xs)(hd:ds[i]? =some d){D:Nat}:(ds.set i ⟨D,S',y⟩).map Ds.x=xs.set i y:=by
 rw [<-e,List.map_set]
theorem Ars.turn (L:LayR R)(L':LayR R')(hm:∀w S D x,R w S D x->R' w S D x)(h:Ars R TA TD w S A AL c ds)(e:ds.map Ds.x=xs)(hd:ds[i]? =some d)(hr:R' w' S' d.D y)(hf:Fr d.S w w')(hs:∀b,S' b->d.S b∨w.heap.size<=b):
  ∃S2,Arr R' TA TD w' S2 A (xs.set i y)∧Nxt S S2 w w':=by
 have r4:=(h.rep i d hd).2.2.2;refine⟨_,⟨AL,c,_,h.mut L L' hm hd hr hf hs,jm9 e hd⟩,hf.mono r4,λ b hb=> ?_⟩
 rcases hb with hb|hb
 ·exact .inl hb
 ·exact(hs b hb).imp (r4 b) id
structure Dss (R:World->(Nat->Prop)->Nat->Dv->Prop)(w:World)(T:Nat->Prop)(ds:List Ds):Prop where
 rep:∀(i:Nat) (d:Ds),ds[i]? =some d->R w d.S d.D d.x∧∀b,d.S b->T b
 dis:∀(i j:Nat) (d e:Ds),ds[i]? =some d->ds[j]? =some e->i≠j->∀b,d.S b->¬e.S b
 old:∀b,T b->b<w.heap.size
theorem Dss.nil (R:World->(Nat->Prop)->Nat->Dv->Prop)(w:World):Dss R w (λ _=>False) []:=⟨λ i d h=>by simp at h,λ i j d e h=>by simp at h,λ b h=>h.elim⟩
theorem Dss.fr {U:Nat->Prop}(L:LayR R)(h:Dss R w T ds)(hf:Fr U w w')(hU:∀b,T b->¬U b):Dss R w' T ds:=
 ⟨λ i d hd=>by
  obtain⟨h1,h2⟩:=h.rep i d hd;exact⟨L.fr h1 hf (λ b hb=>hU b (h2 b hb)),h2⟩,h.dis,λ b hb=>Nat.lt_of_lt_of_le (h.old b hb) hf.size⟩
theorem Dss.push (L:LayR R){D:Nat}(h:Dss R w T ds)(hb:Below w.heap.size w w')(hr:R w' S' D y)(hs:∀b,S' b->w.heap.size<=b):Dss R w' (λ b=>T b∨S' b) (ds ++ [⟨D,S',y⟩]):=by
 have key:∀j e,(ds ++ [(⟨D,S',y⟩:Ds)])[j]? =some e->(ds[j]? =some e)∨(j=ds.length∧e=⟨D,S',y⟩):=by
  intro j e he
  rcases Nat.lt_or_ge j ds.length with hj|hj
  ·rw [List.getElem?_append_left hj] at he;exact .inl he
  ·rw [List.getElem?_append_right hj] at he
   rcases hk:j-ds.length with _|k
   ·rw [hk] at he;simp at he;exact .inr ⟨by omega,he.symm⟩
   ·rw [hk] at he;simp at he
 have hmid:∀b,T b->¬S' b:=λ b hb hq=>by have:=h.old b hb;have:=hs b hq;omega
 refine⟨λ j e he=> ?_,λ j k e g he hg hne b hb hgb=> ?_,λ b hb' => ?_⟩
 ·rcases key j e he with he|⟨hj,rfl⟩
  ·obtain⟨g1,g2⟩:=h.rep j e he
   exact⟨L.fr g1 (Fr.of_below hb:Fr (λ _=>False) _ _) (λ _ _ h=>h),λ b hb=> .inl (g2 b hb)⟩
  ·exact⟨hr,λ b hb=> .inr hb⟩
 ·rcases key j e he with he|⟨hj,rfl⟩
  ·rcases key k g hg with hg|⟨hk,rfl⟩
   ·exact h.dis j k e g he hg hne b hb hgb
   ·exact hmid b ((h.rep j e he).2 b hb) hgb
  ·rcases key k g hg with hg|⟨hk,rfl⟩
   ·exact hmid b ((h.rep k g hg).2 b hgb) hb
   ·omega
 ·rcases hb' with hb' |hb'
  ·exact Nat.lt_of_lt_of_le (h.old b hb') hb.size
  ·exact L.old hr b hb'
theorem Dss.ars (h:Dss R w T ds)(hrow:Rn w AL TD 1 ds.length c (ds.map Ds.ptr))(hbox:w.heap[A]? =some (.cells #[.slice AL ds.length c] TA (0,0)))(h1:∀b,Bk AL b->¬T b)(h2:¬T A):Ars R TA TD w (λ b=>T b∨Bk AL b∨b=A) A AL c ds:=
 ⟨hbox,hrow,λ i d hd=>by
  obtain⟨g1,g2⟩:=h.rep i d hd;exact⟨g1,λ q=>h2 (g2 A q),λ b hb q=>h1 b hb (g2 b q),λ b hb=> .inl (g2 b hb)⟩,h.dis,⟨.inr (.inr rfl),λ b hb=> .inr (.inl hb)⟩,λ b hb=>by
  rcases hb with hb|hb|hb
  ·exact h.old b hb
  ·exact hrow.lt hb
  ·rw [hb];exact block_lt hbox⟩
theorem Nxt.far {S S' T:Nat->Prop}{w w2 w3:World}(h:Nxt S S' w w2)(hf:Fr T w2 w3)(hT:∀b,T b->w.heap.size<=b):Nxt S S' w w3:=⟨h.1.intoN hf (λ b hb=> .inr (hT b hb)),h.2⟩
theorem jgU (L:LayR R){A' A3:Option Addr}{TE:TypeId}{n c3:Nat}{vs:List Value}{ys:List Dv}{wr w2 w3:World}{S2:Nat->Prop}(hrn:Rn wr A' TE 1 n c3 vs)(hA':∀b,Bk A' b->w.heap.size<=b∧¬S' b)(hN:Nxt S S' w wr)(harr:Arr R TA TD w2 S2 A ys)(hN2:Nxt S' S2 wr w2)(hf:Fr (Bk A') w2 w3)(ho:A3=A' ∨∃g,A3=some ⟨g,0,none⟩∧w2.heap.size<=g):
  Arr R TA TD w3 S2 A ys∧Nxt S S2 w w3∧∀b,Bk A3 b->w.heap.size<=b∧¬S2 b:=by
 have hn:∀b,Bk A' b->¬S2 b:=λ b hb hq=>(hN2.2 b hq).elim (hA' b hb).2 (λ q=>by have:=hrn.lt hb;omega)
 refine⟨harr.fr L hf (λ b hb hq=>hn b hq hb),(hN.trans hN2).far hf (λ b hb=>(hA' b hb).1),λ b hb=> ?_⟩
 rcases ho with rfl|⟨g,rfl,hg⟩
 ·exact⟨(hA' b hb).1,hn b hb⟩
 ·obtain⟨o,hb⟩:=hb
  injection hb with hb
  injection hb with hb _
  have:=hN.1.size;have:=hN2.1.size;exact⟨by omega,λ hq=>by have:=harr.old hq;omega⟩
end
/-! Slices of slices. -/
structure Ns {α:Type}(enc:List α->List Value)(w:World)(T:Nat->Prop)(A:Option Addr)(n c:Nat)(rs:List (List α)):Prop where
 ex:∃vs:List Value,Sl w 1 A n c vs∧∀(i:Nat) (r:List α),rs[i]? =some r->∃A' c',vs[i]? =some (Value.slice A' r.length c')∧Sl w 1 A' r.length c' (enc r)∧∀b o,0<r.length->A' =some ⟨b,o,none⟩->T b
 len:rs.length=n
 blk:∀b o,0<n->A=some ⟨b,o,none⟩->T b
section
variable {α:Type}{enc:List α->List Value}{w w' w0:World}{T T' U:Nat->Prop}{A A':Option Addr}{n c c' i B:Nat}{rs:List (List α)}{r:List α}
theorem Ns.fr (h:Ns enc w T A n c rs)(hf:Fr U w w')(hT:∀b,T b->¬U b):Ns enc w' T A n c rs:=by
 obtain⟨vs,hs,hr⟩:=h.ex;refine⟨⟨vs,hs.fr hf (λ b o hn hA=>hT b (h.blk b o hn hA)),λ i r hi=> ?_⟩,h.len,h.blk⟩;obtain⟨A',c',h1,h2,h3⟩:=hr i r hi;exact⟨A',c',h1,h2.fr hf (λ b o hn hA=>hT b (h3 b o hn hA)),h3⟩
theorem Ns.later (h:Ns enc w T A n c rs)(hb:Below w.heap.size w w'):Ns enc w' T A n c rs:=h.fr (Fr.of_below hb:Fr (λ _=>False) _ _) (λ _ _ h=>h)
theorem Ns.nil (w:World)(T:Nat->Prop)(c:Nat)(h:c<=maxLen):Ns enc w T none 0 c []:=⟨⟨[],Sl.nil w 1 c h,λ i r h=>by simp at h⟩,rfl,λ b o hn=>absurd hn (Nat.lt_irrefl _)⟩
theorem Ns.at_ (h:Ns enc w T A n c rs)(h0:0<n):∃b o,A=some ⟨b,o,none⟩∧T b∧∀(i:Nat) (r:List α),rs[i]? =some r->∃A' c',w.cell? ⟨b,o+i,none⟩=some (.slice A' r.length c')∧Sl w 1 A' r.length c' (enc r)∧∀b o,0<r.length->A' =some ⟨b,o,none⟩->T b:=by
 obtain⟨vs,hs,hr⟩:=h.ex;obtain⟨b,o,e,hc⟩:=hs.at_ h0;refine⟨b,o,e,h.blk b o h0 e,λ i r hi=> ?_⟩;obtain⟨A',c',h1,h2,h3⟩:=hr i r hi;exact⟨A',c',hc i _ h1,h2,h3⟩
theorem Ns.capLe (h:Ns enc w T A n c rs):n<=c∧c<=maxLen:=by
 obtain⟨vs,hs,_⟩:=h.ex;exact⟨hs.cap,hs.top⟩
end
theorem jb1 {P:Program}{ops:Array Oper}{rest:List Oper}{o:Oper}{a:Act}{Q:Exit->Act->World->Prop}{w:World}{A:Option Addr}{T:TypeId}{n c:Nat}{xs:List Value}{v:Value}(hgd:o.guard=none)(s x:Operand)(t tx:TypeId)
  (ho:o.op= .call {callee:= .builtin .append,args:= #[s,x],argTypes:= #[t,tx]})
  (i:TypeInfo)(z:Value)(bytes:Nat)(ht:P.underlying t=some (.slice T))(htx:P.underlying tx=some (.slice T))(hi:P.info? T=some i)(hz:i.zero=some z)
  (hsize:i.size=1)(hby:i.bytes=bytes)(hzs:z.cells.size=1)(hb24:bytes<=24)(hv:a.eval s= .slice A n c)(h:Rn w A T 1 n c xs)
  (hx:a.eval x= .slice (some ⟨w.heap.size,0,none⟩) 1 1)(h1:v.oneCell' =true)(h40:n<=1048576)
  (hk:∀A' c' w',Rn w' A' T 1 (n+1) c' (xs ++ [v])->Fr (Bk A) w w' ->(A' =A∨∃g,A' =some ⟨g,0,none⟩∧w.heap.size<=g)->wpList P ops Q rest (a.put o.dst (.slice A' (n+1) c')) w'):wpList P ops Q (o::rest) a (w.alloc (.cells #[v] T)):=by
 have hb:Below w.heap.size w (w.alloc (.cells #[v] T)):=(Below.refl _ _).alloc (Nat.le_refl _) _;have hsl:=Sl.made w #[v] T 1 1 rfl (by decide);refine jbA hgd s x t tx ho i z bytes ht hi hz hsize hby hzs (by decide) hv (h.later hb) _ 1 [v] hx (hsl.src htx (by decide) (λ u hu=>by simp at hu;rw [hu];exact h1)) (by unfold maxLen;omega) (by
  have:(n+1)*bytes<=1048577*24:=Nat.mul_le_mul (by omega) hb24;omega) λ A' c' w' g1 g2 g3=>hk A' c' w' g1 ((Fr.of_below hb).trans g2) (g3.imp id λ e=>⟨_,e,by have:=hb.size;omega⟩)
end
section
section
variable {Rep:World->(Nat->Prop)->Nat->Dv->Prop}{TA TD:TypeId}{w w':World}{S:Nat->Prop}{A c i:Nat}{AL:Option Addr}{ds:List Ds}{d:Ds}{xs:List Dv}
theorem DrvK.lay (K:DrvK Rep):LayR Rep:=⟨λ h hf hT=>K.fr h hf hT,λ h=>K.old h⟩
def AP (Rep:World->(Nat->Prop)->Nat->Dv->Prop)(w:World)(S:Nat->Prop)(A:Nat)(xs:List Dv):Prop:=Arr Rep 121 118 w S A xs
def Wl (k:Nat)(xs:List Dv):Prop:=∀(i:Nat) (x:Dv),xs[i]? =some x->x.wait.length<=k
def MutA (Rep:World->(Nat->Prop)->Nat->Dv->Prop)(S:Nat->Prop)(A:Nat)(ys:List Dv)(w w':World):Prop:=∃S',AP Rep w' S' A ys∧Nxt S S' w w'
theorem jlf (w:World):Calls Tryz.prog 107 #[.pointer none] w λ e w' =>e= .returned (.bool false)∧w' =w:=by
 go_enter Tryz.func107,Tryz.ntmps107;go_wp2_with fail;go_ret;exact⟨rfl,rfl⟩
theorem jqi (w:World):Calls Tryz.prog 104 #[.pointer none] w λ e w' =>e= .returned (.int .i64 1)∧w' =w:=by
 have hm:=jlf w;go_enter Tryz.func104,Tryz.ntmps104;go_wp2_with fail;refine hm.mono ?_;clear hm;rintro e w1 ⟨rfl,hw1⟩;obtain rfl:w=w1:=hw1.symm;go_wp2_with fail;go_ret;exact⟨rfl,rfl⟩
theorem jna (h:Ars Rep TA TD w S A AL c ds):Calls Tryz.prog 60 #[.pointer (some ⟨A,0,none⟩)] w λ e w' =>e= .returned (.int .i64 (ds.length:Int))∧w' =w:=by
 have c0:=h.c0;obtain⟨n,hn⟩:∃n,n=ds.length:=⟨_,rfl⟩;rw [<-hn] at c0 ⊢;clear hn h;go_enter Tryz.func60,Tryz.ntmps60;go_wp2_with fail;go_ret;exact⟨rfl,rfl⟩
theorem jlg (h:Ars Rep TA TD w S A AL c ds)(hd:ds[i]? =some d):Calls Tryz.prog 69 #[.pointer (some ⟨A,0,none⟩), .int .i64 (i:Int)] w λ e w' =>e= .returned (.tuple #[.pointer (some ⟨d.D,0,none⟩), .int .i64 0])∧w' =w:=by
 have c0:=h.c0;have hm:=jna h;have hi:=jaF hd;obtain⟨g,rfl,hg⟩:=h.at_ (by omega);have cg:=hg i d hd;unfold Ds.ptr at cg;obtain⟨n,hn⟩:∃n,n=ds.length:=⟨_,rfl⟩;rw [<-hn] at c0 hm hi;have hm2:=qH hm;clear hn h hg hd;go_enter Tryz.func69,Tryz.ntmps69;go_wp2_with fail;refine hm.mono ?_;clear hm;rintro e w1 ⟨rfl,hw1⟩;obtain rfl:w=w1:=hw1.symm;have hn0:¬(n:Int)=0:=by omega
 go_wp2_with fail;refine hm2.out.mono ?_;rintro e w1 ⟨rfl,hw1⟩;obtain rfl:w=w1:=hw1.symm;go_wp2_with fail;go_ret2;exact⟨rfl,rfl⟩
theorem jdU (K:DrvK Rep)(h:AP Rep w S A xs){x:Dv}(hx:xs[0]? =some x):Calls Tryz.prog 85 #[.pointer (some ⟨A,0,none⟩)] w λ e w' =>e= .returned (.int .i64 (x.n:Int))∧Below w.heap.size w w':=by
 obtain⟨AL,c,ds,h,hxs⟩:=h;obtain⟨d,hd,rfl⟩:=jjf hxs hx;have hp:=jlg h hd;have hC:=K.sectors (h.rep 0 d hd).1;clear hd hxs h hx;go_enter Tryz.func85,Tryz.ntmps85;go_wp2_with fail;refine hp.mono ?_;clear hp;rintro e w1 ⟨rfl,hw1⟩;obtain rfl:w=w1:=hw1.symm;go_wp2_with fail;refine hC.mono ?_;clear hC;rintro e w2 ⟨rfl,hb2⟩;go_wp2_with fail;go_ret;exact⟨rfl,hb2⟩
theorem jcY (h:AP Rep w S A xs):Calls Tryz.prog 60 #[.pointer (some ⟨A,0,none⟩)] w λ e w' =>e= .returned (.int .i64 (xs.length:Int))∧w' =w:=by
 obtain⟨AL,c,ds,h,hxs⟩:=h;rw [<-jeH hxs];exact jna h
end
end
section
theorem jgq:(Tryz.prog.info? 47).map (λ i=>(i.zero,i.size,i.bytes))=some (some (.int .i64 0),1,8):=by kernel_rfl
theorem jnb:(Tryz.prog.info? 118).map (λ i=>(i.zero,i.size,i.bytes))=some (some (.pointer none),1,8):=by kernel_rfl
theorem jcE (l k:List Int):jau (l++k)=jau l++jau k:=by simp [jau]
section
variable {Rep:World->(Nat->Prop)->Nat->Dv->Prop}{w w':World}{S:Nat->Prop}{A c i:Nat}{AL:Option Addr}{ds:List Ds}{d:Ds}{xs:List Dv}
theorem jgr {α:Type}[BEq α][LawfulBEq α]{l:List α}{k:Nat}{z a:α}(h:l[k]? =some z):(l.take (k+1)).count a=(l.take k).count a +(if z==a then 1 else 0):=by
 rw [jcm h,List.count_append,List.count_singleton]
theorem jnc {α:Type}[BEq α][LawfulBEq α]{l:List α}{k:Nat}{z:α}(h:l[k]? =some z):(l.take (k+1)).count z=(l.take k).count z+1:=by rw [jgr h];simp
theorem jpi {α:Type}[BEq α][LawfulBEq α]{l:List α}{k:Nat}{z a:α}(h:l[k]? =some z)(hz:¬z=a):(l.take (k+1)).count a=(l.take k).count a:=by rw [jgr h];simp [hz]
theorem jnd {α:Type}[BEq α][LawfulBEq α](l:List α)(k:Nat)(a:α):(l.take k).count a<=k:=Nat.le_trans List.count_le_length (by rw [List.length_take];omega)
theorem jfy {A:Option Addr}{n c:Nat}{l:List Int}(h:Sl w 1 A n c (jau l))(hn:n<=1048576):Calls Tryz.prog 56 #[.int .i64 0, .slice A n c] w λ e w' =>e= .returned (.int .i64 (l.count 0:Nat))∧w' =w:=by
 have hl:l.length=n:=by have:=h.len;rw [jaM] at this;omega
 have HS:=qH h;obtain⟨r,hr⟩:∃r,r=l.count 0:=⟨_,rfl⟩;rw [<-hr];have Hr:=qH hr;clear h hr;go_enter Tryz.func56,Tryz.ntmps56;go_wp2_with fail;go_loopw [5,10] (λ v i wr=>∃k y:Nat,k<=n∧y=(l.take k).count 0∧i= .int .i64 (k:Int)∧v= .int .i64 (y:Int)∧wr=w) (λ _ i _=>n-(intOf i).toNat)
 case atStart=>exact⟨0,0,by omega,by simp,rfl,rfl,rfl⟩
 case round=>
  obtain⟨k,y,hk,hy,rfl,rfl,hw⟩:=hrel;obtain rfl:w=wr:=hw.symm
  by_cases hlt:k<n
  ·have hki:(k:Int)<(n:Int):=by omega
   obtain⟨b,o,rfl,hc⟩:=HS.out.at_ hlt;have hzl:l[k]? =some (l[k]'(by omega)):=List.getElem?_eq_getElem _;obtain⟨z,hz⟩:∃z,z=l[k]'(by omega):=⟨_,rfl⟩;rw [<-hz] at hzl;have hcell:=hc k (.int .i64 z) (by rw [jau,List.getElem?_map,hzl];rfl);have hcap:=jnd l k (0:Int);have hyk:y<=k:=by omega
   have Hy:=qH hy;have Hz:=qH hzl;clear hy hz hc hzl hcap
   by_cases hz0:z=0
   ·subst hz0
    go_wp2_with fail;go_roundw
    case rel=>exact⟨k+1,y+1,by omega,by rw [jnc Hz.out,Hy.out],by go_num,by go_num,by first|rfl|trivial⟩
    case measure=>simp [intOf];omega
   ·go_wp2_with fail
    go_roundw
    case rel=>exact⟨k+1,y,by omega,by rw [jpi Hz.out hz0,Hy.out],by go_num,rfl,by first|rfl|trivial⟩
    case measure=>simp [intOf];omega
  ·obtain rfl:k=n:=by omega
   obtain rfl:r=y:=by rw [Hr.out,hy,List.take_of_length_le (by omega)]
   clear hy;go_wp2_with fail;go_ret;exact⟨rfl,rfl⟩
theorem jhS (K:DrvK Rep)(h:AP Rep w S A xs)(hw:Wl 100000 xs)(hx255:xs.length<=255):Calls Tryz.prog 57 #[.pointer (some ⟨A,0,none⟩), .func (.func 58) #[] #[]] w λ e w' =>∃A' c',e= .returned (.slice A' xs.length c')∧Sl w' 1 A' xs.length c' (jau (jdS xs xs.length))∧MutA Rep S A (jaL xs xs.length) w w':=by
 have hN:=jcY h;obtain⟨i0,hi0,hz0,hz1,hz2⟩:=info_parts jgq;have Hi:=qH hi0;have Hz0:=qH hz0;have Hz1:=qH hz1;have Hz2:=qH hz2;have HW:=qH hw;have H0:=qH h;obtain⟨n,hn⟩:∃n,n=xs.length:=⟨_,rfl⟩;rw [<-hn] at hN hx255 ⊢;have HN:=qH hn;clear hi0 hz0 hz1 hz2 hw h hn;go_enter Tryz.func57,Tryz.ntmps57;go_wp2_with fail;refine hN.mono ?_;clear hN;rintro e w1 ⟨rfl,hw1⟩;obtain rfl:w=w1:=hw1.symm;go_wp2_with fail;go_loopw [5,9] (λ v i wr=>∃(t:Nat) (A':Option Addr) (c':Nat) (S':Nat->Prop),t<=n∧i= .int .i64 (t:Int)∧v= .slice A' t c' ∧Rn wr A' 47 1 t c' (jau (jdS xs t))∧(∀b,Bk A' b->w.heap.size<=b∧¬S' b)∧AP Rep wr S' A (jaL xs t)∧Nxt S S' w wr) (λ _ i _=>n-(intOf i).toNat)
 case atStart=>exact⟨0,none,0,S,by omega,rfl,rfl, .inl ⟨rfl,rfl,rfl,by simp [jdS,jau]⟩,(λ b hb=>by obtain⟨o,hb⟩:=hb;cases hb),by rw [jaL,jdQ];exact H0.out,Nxt.refl _ _⟩
 case round=>
  obtain⟨t,A',c',S',ht,rfl,rfl,hrn,hA',ha,hnx⟩:=hrel
  by_cases hlt:t<n
  ·have hti:(t:Int)<(n:Int):=by omega
   have hx:xs[t]? =some (xs[t]'(by have:=HN.out;omega)):=List.getElem?_eq_getElem _;obtain⟨x,hxe⟩:∃x,x=xs[t]'(by have:=HN.out;omega):=⟨_,rfl⟩;rw [<-hxe] at hx;obtain⟨AL,c,ds,ha,hxs⟩:=ha;obtain⟨d,hd,hdx⟩:=jjf hxs (jcX hx);have c0:=ha.c0;rw [jeH hxs,jaL,jaw,<-HN.out] at c0;obtain⟨g,rfl,hg⟩:=ha.at_ (by have:=jaF hd;omega);have cg:=hg t d hd;unfold Ds.ptr at cg;have hC:=K.flush (by rw [hdx];exact HW.out t x hx) (ha.rep t d hd).1;rw [hdx] at hC;have HA:=qH ha;have HXS:=qH hxs;have HD:=qH hd;have HX:=qH hx;have HRN:=qH hrn;have HA':=qH hA';have HNX:=qH hnx;obtain⟨v,hv⟩:∃v,v=x.flushX:=⟨_,rfl⟩;rw [<-hv] at hC;have HV:=qH hv;clear hv ha hxs hd hx hrn hA' hnx hg hxe hdx;go_wp2_with fail;refine hC.mono ?_;clear hC;rintro e w2 ⟨rfl,S2,hr2,hf2,hs2⟩;obtain⟨S3,har,hn3⟩:=HA.out.turn K.lay K.lay (λ _ _ _ _ q=>q) HXS.out HD.out hr2 hf2 hs2
   have HRN2:=qH (HRN.out.fr hn3.1 (λ b hb=>(HA'.out b hb).2));have HAR:=qH har;have HN3:=qH hn3;clear hr2 hf2 hs2 har hn3 c0 cg;go_wp2_with (at_builtin;refine jb1 (w:=w2) (T:=47) (v:= .int .i64 v) rfl (.tmp 12) (.tmp 22) 114 114 rfl i0 (.int .i64 0) 8 Tryz.underlying114 Tryz.underlying114 Hi.out Hz0.out Hz1.out Hz2.out rfl (by decide) rfl HRN2.out rfl rfl (by omega) ?pd);intro A3 c3 w3 hrn3 hf3 ho3;have HRN3:=qH hrn3;have HST:=qH (jgU K.lay HRN.out HA'.out HNX.out HAR.out HN3.out hf3 ho3);clear hrn3 hf3 ho3;go_wp2_with fail;go_roundw
   case rel=>
    refine⟨t+1,A3,c3,S3,by omega,by go_num,rfl, ?_,HST.out.2.2, ?_,HST.out.2.1⟩
    ·rw [jjd HX.out,jcE,<-HV.out];exact HRN3.out
    ·have:=HST.out.1
     rw [jaL,jdR (F:=λ _ x=>x.flush1) HX.out] at this;exact this
   case measure=>simp [intOf];omega
  ·obtain rfl:t=n:=by omega
   have HRN:=qH hrn;have HM:=qH (show MutA Rep S A (jaL xs t) w wr from ⟨S',ha,hnx⟩);clear hrn hA' ha hnx;go_wp2_with fail;go_ret;exact⟨A',c',rfl,HRN.out.sl,HM.out⟩
theorem jcF (K:DrvK Rep)(h:AP Rep w S A xs)(hw:Wl 100000 xs)(hx255:xs.length<=255):Calls Tryz.prog 19 #[.pointer (some ⟨A,0,none⟩)] w λ e w' =>e= .returned (.int .i64 (jkf xs xs.length:Nat))∧MutA Rep S A (jaL xs xs.length) w w':=by
 have hE:=jhS K h hw hx255;unfold jkf;obtain⟨l,hl⟩:∃l,l=jdS xs xs.length:=⟨_,rfl⟩;rw [<-hl] at hE ⊢;obtain⟨n,hn⟩:∃n,n=xs.length:=⟨_,rfl⟩;rw [<-hn] at hE ⊢;have hn2:n<=255:=by omega
 clear h hw hl hn hx255;go_enter Tryz.func19,Tryz.ntmps19;go_wp2_with fail;refine hE.mono ?_;clear hE;rintro e w2 ⟨A',c',rfl,hs,hm⟩;have HM:=qH hm;have hC:=jfy hs (by omega);clear hs hm;go_wp2_with fail;refine hC.mono ?_;clear hC;rintro e w3 ⟨rfl,hw3⟩;obtain rfl:w2=w3:=hw3.symm;go_wp2_with fail;go_ret;exact⟨rfl,HM.out⟩
end
end
section
theorem jne:(Tryz.prog.info? 105).map (λ i=>(i.zero,i.size,i.bytes))=some (some (.slice none 0 0),1,24):=by kernel_rfl
theorem jpj (z:Int)(k:Nat)(hz:z=(k:Int))(hk:k<=1048576)(w:World):
  (Instr.makeSlice 119 (.int .i64 z) (.int .i64 z)).run Tryz.prog w= .ok (.slice (some ⟨w.heap.size,0,none⟩) k k) (w.alloc (.cells (madeCells #[.pointer none] k) 118)):=by
 obtain⟨i0,hi,hz0,hz1,hz2⟩:=info_parts jnb;subst hz;have h:=run_make (P:=Tryz.prog) w 119 118 i0 (.pointer none) Tryz.underlying119 hi hz0 .i64 .i64 (k:Int) (k:Int) (by omega) (by omega) (by rw [hz2];omega) (by omega);rw [hz1,Nat.mul_one,Int.toNat_natCast] at h;exact h
theorem jnf (z:Int)(k:Nat)(hz:z=(k:Int))(hk:k<=1048576)(w:World):
  (Instr.makeSlice 101 (.int .i64 z) (.int .i64 z)).run Tryz.prog w= .ok (.slice (some ⟨w.heap.size,0,none⟩) k k) (w.alloc (.cells (madeCells #[.slice none 0 0] k) 105)):=by
 obtain⟨i0,hi,hz0,hz1,hz2⟩:=info_parts jne;subst hz;have h:=run_make (P:=Tryz.prog) w 101 105 i0 (.slice none 0 0) Tryz.underlying101 hi hz0 .i64 .i64 (k:Int) (k:Int) (by omega) (by omega) (by rw [hz2];omega) (by omega);rw [hz1,Nat.mul_one,Int.toNat_natCast] at h;exact h
theorem Rw.made (w:World)(v:Value)(T:TypeId)(k:Nat)(hk:k<=maxLen):Rw (w.alloc (.cells (madeCells #[v] k) T)) w.heap.size T 1 k k (List.replicate k v):=by
 have h:=Rw.new w (madeCells #[v] k) T 1 k (by rw [size_madeCells,Nat.mul_one]) hk;rw [toList_madeCells_one] at h;exact h
theorem Rw.set10 {w:World}{b:Nat}{T:TypeId}{k n cap:Nat}{xs:List Value}(h:Rw w b T k n cap xs)(o:Nat)(v:Value):Rw (w.setCell ⟨b,o,none⟩ v) b T k n cap (xs.set o v):=by
 obtain⟨cur,hb,hs,rfl⟩:=h.ex;exact⟨⟨_,heap_setCell_same w b o cur T v hb,by rw [Array.size_setIfInBounds];exact hs,by rw [Array.toList_setIfInBounds,List.take_set]⟩,h.le,h.top⟩
theorem set_mid {α:Type}{vs:List α}{t n:Nat}{z v:α}(hl:vs.length=t)(ht:t<n):(vs++List.replicate (n-t) z).set t v=(vs ++ [v])++List.replicate (n-(t+1)) z:=by
 rw [List.set_append_right _ _ (by omega),hl,Nat.sub_self,show n-t=(n-(t+1))+1 from by omega,List.replicate_succ,List.set_cons_zero,List.append_assoc]
 rfl
structure Nf {α:Type}(enc:List α->List Value)(w:World)(B0 B n t:Nat)(rs:List (List α)):Prop where
 ex:∃vs:List Value,Rw w B 105 1 n n (vs++List.replicate (n-t) (.slice none 0 0))∧vs.length=t∧∀(i:Nat) (r:List α),rs[i]? =some r->∃A' c',vs[i]? =some (Value.slice A' r.length c')∧Sl w 1 A' r.length c' (enc r)∧∀b o,0<r.length->A' =some ⟨b,o,none⟩->B0<=b∧b≠B
 len:rs.length=t
section
variable {α:Type}{enc:List α->List Value}{w w':World}{B0 B n t:Nat}{rs:List (List α)}{r:List α}
theorem Nf.later (h:Nf enc w B0 B n t rs)(hb:Below w.heap.size w w'):Nf enc w' B0 B n t rs:=by
 obtain⟨vs,h1,h2,h3⟩:=h.ex;refine⟨⟨vs,h1.later hb,h2,λ i r hi=> ?_⟩,h.len⟩;obtain⟨A',c',g1,g2,g3⟩:=h3 i r hi;exact⟨A',c',g1,g2.below hb (Nat.le_refl _),g3⟩
theorem Nf.made (w:World)(B0 n:Nat)(hn:n<=maxLen):Nf enc (w.alloc (.cells (madeCells #[.slice none 0 0] n) 105)) B0 w.heap.size n 0 []:=
 ⟨⟨[],Rw.made w _ _ n hn,rfl,λ i r hi=>by simp at hi⟩,rfl⟩
theorem Nf.cell (h:Nf enc w B0 B n t rs)(ht:t<n):w.cell? ⟨B,t,none⟩=some (.slice none 0 0)∧w.frozen? ⟨B,t,none⟩=false:=by
 obtain⟨vs,h1,h2,h3⟩:=h.ex;refine⟨h1.cell ?_,h1.free _⟩;rw [List.getElem?_append_right (by omega),h2,Nat.sub_self,List.getElem?_replicate,if_pos (by omega)]
theorem Nf.store (h:Nf enc w B0 B n t rs)(ht:t<n){A2:Option Addr}{c2:Nat}(h2:Sl w 1 A2 r.length c2 (enc r))(h2b:∀b o,0<r.length->A2=some ⟨b,o,none⟩->B0<=b∧b≠B):Nf enc (w.setCell ⟨B,t,none⟩ (.slice A2 r.length c2)) B0 B n (t+1) (rs ++ [r]):=by
 obtain⟨vs,h1,hl,h3⟩:=h.ex;have hf:Fr (λ b=>b=B) w (w.setCell ⟨B,t,none⟩ (.slice A2 r.length c2)):=(Fr.refl (λ b=>b=B) _).setCell (p:=⟨B,t,none⟩) (.inr rfl) _;refine⟨⟨vs ++ [.slice A2 r.length c2], ?_,by rw [List.length_append,hl];rfl,λ i r3 hi=> ?_⟩,by rw [List.length_append,h.len];rfl⟩
 ·have:=h1.set10 t (.slice A2 r.length c2)
  rw [set_mid hl ht] at this;exact this
 ·rcases Nat.lt_or_ge i t with hlt|hge
  ·rw [List.getElem?_append_left (by rw [h.len];exact hlt)] at hi
   obtain⟨A3,c3,g1,g2,g3⟩:=h3 i r3 hi;exact⟨A3,c3,by rw [List.getElem?_append_left (by rw [hl];exact hlt)];exact g1,g2.fr hf (λ b o hn hA=>(g3 b o hn hA).2),g3⟩
  ·rw [List.getElem?_append_right (by rw [h.len];exact hge),h.len] at hi
   have:i-t=0∧r=r3:=by
    rcases hk:i-t with _|k
    ·rw [hk] at hi;simp at hi;exact⟨rfl,hi⟩
    ·rw [hk] at hi;simp at hi
   obtain⟨h0,rfl⟩:=this;exact⟨A2,c2,by rw [List.getElem?_append_right (by rw [hl];exact hge),hl,h0];rfl,h2.fr hf (λ b o hn hA=>(h2b b o hn hA).2),h2b⟩
theorem Nf.ns (h:Nf enc w B0 B n n rs)(hB:B0<=B):Ns enc w (λ b=>B0<=b) (some ⟨B,0,none⟩) n n rs:=by
 obtain⟨vs,h1,hl,h3⟩:=h.ex;rw [Nat.sub_self,List.replicate_zero,List.append_nil] at h1;refine⟨⟨vs,h1.sl,λ i r hi=> ?_⟩,h.len,λ b o hn hA=> ?_⟩
 ·obtain⟨A',c',g1,g2,g3⟩:=h3 i r hi
  exact⟨A',c',g1,g2,λ b o hn hA=>(g3 b o hn hA).1⟩
 ·injection hA with hA
  injection hA with hA _
  rw [<-hA];exact hB
end
section
variable {Rep:World->(Nat->Prop)->Nat->Dv->Prop}{w w':World}{S:Nat->Prop}{A c i:Nat}{AL:Option Addr}{ds:List Ds}{d:Ds}{xs:List Dv}
structure NewP (Rep:World->(Nat->Prop)->Nat->Dv->Prop)(w:World)(B X n m t:Nat)(ds:List Ds)(T:Nat->Prop)(wr:World):Prop where
 row:Rw wr B 118 1 n n (ds.map Ds.ptr++List.replicate (n-t) (.pointer none))
 box:wr.heap[X]? =some (.cells #[.slice (some ⟨B,0,none⟩) n n] 121 (0,0))
 dss:Dss Rep wr T ds
 xs:ds.map Ds.x=List.replicate t (Dv.new m)
 far:∀b,T b->w.heap.size<=b∧b≠B∧b≠X
 ne:B≠X
 lo:w.heap.size<=B∧w.heap.size<=X
 bel:Below w.heap.size w wr
theorem NewP.len {B X n m t:Nat}{T:Nat->Prop}{wr:World}(h:NewP Rep w B X n m t ds T wr):ds.length=t:=by
 have:=congrArg List.length h.xs
 simpa using this
theorem NewP.later (DK:DrvK Rep){B X n m t:Nat}{T:Nat->Prop}{wr w2:World}(h:NewP Rep w B X n m t ds T wr)(hb:Below wr.heap.size wr w2):NewP Rep w B X n m t ds T w2:=
 ⟨h.row.later hb,(Fr.of_below hb:Fr (λ _=>False) _ _).row_some h.box (λ h=>h),h.dss.fr DK.lay (Fr.of_below hb:Fr (λ _=>False) _ _) (λ _ _ h=>h),h.xs,h.far,h.ne,h.lo,h.bel.trans (hb.mono h.bel.size)⟩
theorem NewP.cell {B X n m t:Nat}{T:Nat->Prop}{wr:World}(h:NewP Rep w B X n m t ds T wr)(ht:t<n):wr.cell? ⟨B,t,none⟩=some (.pointer none)∧wr.frozen? ⟨B,t,none⟩=false:=by
 refine⟨h.row.cell ?_,h.row.free _⟩;rw [List.getElem?_append_right (by rw [List.length_map,h.len];exact Nat.le_refl _),List.length_map,h.len,Nat.sub_self,List.getElem?_replicate,if_pos (by omega)]
theorem NewP.step (DK:DrvK Rep){B X n m t D:Nat}{T S':Nat->Prop}{wr w2:World}(h:NewP Rep w B X n m t ds T wr)(ht:t<n)(hb:Below wr.heap.size wr w2)(hr:Rep w2 S' D (Dv.new m))(hs:∀b,S' b->wr.heap.size<=b):
  NewP Rep w B X n m (t+1) (ds ++ [⟨D,S',Dv.new m⟩]) (λ b=>T b∨S' b) (w2.setCell ⟨B,t,none⟩ (.pointer (some ⟨D,0,none⟩))):=by
 have hf:Fr (λ b=>b=B) w2 (w2.setCell ⟨B,t,none⟩ (.pointer (some ⟨D,0,none⟩))):=(Fr.refl (λ b=>b=B) _).setCell (p:=⟨B,t,none⟩) (.inr rfl) _;have hB:=h.row.lt;have hX:=block_lt h.box;have hbs:=h.bel.size;have hfar:∀b,T b∨S' b->w.heap.size<=b∧b≠B∧b≠X:=λ b hb=>by
  rcases hb with hb|hb
  ·exact h.far b hb
  ·have:=hs b hb
   omega
 have h2:=h.later DK hb;refine⟨?_,hf.row_some h2.box (λ e=>h.ne e.symm),(h.dss.push DK.lay hb hr hs).fr DK.lay hf (λ b hb=>(hfar b hb).2.1), ?_,hfar,h.ne,h.lo,h2.bel.trans (hf.below h2.bel.size (λ b hb=>by rw [hb];exact h.lo.1))⟩
 ·have:=h2.row.set10 t (.pointer (some ⟨D,0,none⟩))
  rw [set_mid (by rw [List.length_map,h.len]) ht] at this;rw [List.map_append];exact this
 ·rw [List.map_append,h.xs,List.replicate_succ']
  rfl
theorem NewP.arr {B X n m:Nat}{T:Nat->Prop}{wr:World}(h:NewP Rep w B X n m n ds T wr):∃S,AP Rep wr S X (List.replicate n (Dv.new m))∧∀b,S b->w.heap.size<=b:=by
 have hl:=h.len;have hrow:=h.row;rw [Nat.sub_self,List.replicate_zero,List.append_nil] at hrow;have hb:=h.box;rw [<-hl] at hb hrow;have key:=h.dss.ars (A:=X) (c:=ds.length) (AL:=some ⟨B,0,none⟩) (.inr ⟨B,rfl,hrow⟩) hb (λ b hb q=>by
  obtain⟨o,hb⟩:=hb;injection hb with hb
  injection hb with hb _
  exact(h.far b q).2.1 hb.symm) (λ q=>(h.far X q).2.2 rfl)
 refine⟨_,⟨_,_,ds,key,h.xs⟩,λ b hb=> ?_⟩
 rcases hb with hb|⟨o,hb⟩|hb
 ·exact(h.far b hb).1
 ·injection hb with hb
  injection hb with hb _
  have:=h.lo.1;omega
 ·rw [hb];exact h.lo.2
def jjg (Rep:World->(Nat->Prop)->Nat->Dv->Prop)(xs:List Dv)(w:World)(e:Ending)(w':World):Prop:=∃A S,e= .returned (.pointer (some ⟨A,0,none⟩))∧AP Rep w' S A xs∧Below w.heap.size w w' ∧∀b,S b->w.heap.size<=b
theorem jnh (DK:DrvK Rep)(n m:Nat)(w:World)(h1:1<=n)(h2:n<=255)(h3:1<=m)(h4:m<=600):Calls Tryz.prog 44 #[.int .i64 (n:Int), .int .i64 (m:Int)] w (jjg Rep (List.replicate n (Dv.new m)) w):=by
 have q1:¬(n:Int)<1:=by omega
 have q2:¬(255:Int)<(n:Int):=by omega
 have hmk:=jpj (n:Int) n rfl (by omega);go_enter Tryz.func44,Tryz.ntmps44;go_wp2_with fail;refine(DK.new_yes m w h3 h4).mono ?_;rintro e w1 ⟨D,S0,rfl,_,hb,_⟩;have HB:=qH hb;clear hb;go_wp2_with fail;clear hmk q1 q2;go_loopw [23] (λ i wr=>∃(t:Nat) (ds:List Ds) (T:Nat->Prop),t<=n∧i= .int .i64 (t:Int)∧NewP Rep w w1.heap.size (w1.heap.size+1) n m t ds T wr) (λ i _=>n-(intOf i).toNat)
 case atStart=>
  have hb1:Below w1.heap.size w1 (w1.alloc (.cells (madeCells #[.pointer none] n) 118)):=(Below.refl _ _).alloc (Nat.le_refl _) _;have hz:(w1.alloc (.cells (madeCells #[.pointer none] n) 118)).heap.size=w1.heap.size+1:=by simp
  have hb2:=(Below.refl (w1.heap.size+1) (w1.alloc (.cells (madeCells #[.pointer none] n) 118))).alloc (by omega) (.cells #[.slice (some ⟨w1.heap.size,0,none⟩) n n] 121);have hnew:=heap_alloc_new (w1.alloc (.cells (madeCells #[.pointer none] n) 118)) (.cells #[.slice (some ⟨w1.heap.size,0,none⟩) n n] 121);rw [hz] at hnew;have hwz:=HB.out.size;refine⟨0, [],λ _=>False,by omega,rfl, ?_,hnew, ?_,rfl,(λ b h=>h.elim),by omega,by omega,HB.out.trans ((hb1.trans (hb2.mono (by omega))).mono hwz)⟩
  ·exact(Rw.made w1 _ _ n (by unfold maxLen;omega)).later (hb2.mono (by omega))
  ·exact⟨λ i d h=>by simp at h,λ i j d e h=>by simp at h,λ b h=>h.elim⟩
 case round=>
  obtain⟨t,ds,T,ht,rfl,hP⟩:=hrel
  by_cases hlt:t<n
  ·have hti:(t:Int)<(n:Int):=by omega
   have HP:=qH hP;have C0:=qH (show wr.drew.cell? ⟨w1.heap.size+1,0,none⟩=some (.slice (some ⟨w1.heap.size,0,none⟩) n n) from by rw [show wr.drew.cell? ⟨w1.heap.size+1,0,none⟩=wr.cell? ⟨w1.heap.size+1,0,none⟩ from rfl,cell_of_row _ _ _ _ _ _ hP.box];rfl);have NX:=qH (show ¬w1.heap.size+1=w1.heap.size from by omega);clear hP;go_wp2_with fail;refine wp_region_held_drew (S:=λ w' =>Fr (λ b=>b=w1.heap.size) wr.drew w') (by kernel_rfl) (Fr.refl _ _) (λ hHeld=> ?_);clear hHeld;refine tA 0 (some 26) rfl (Fr.refl _ _) ?_;refine tA 1 (some 27) rfl (Fr.refl _ _) ?_;refine tA 2 (some 28) rfl (Fr.refl _ _) ?_;refine tL 3 (some 29) (v:= ?vn3) rfl ?yn3 (Fr.refl _ _) ?rn3
   case yn3=>
    intro wq hSw
    (try dsimp only at hSw)
    have hq:=hSw.cell_some C0.out NX.out;go_simp<;>with_reducible rfl
   try simp only [Act.put,sA,sB,sC]
   refine tA 4 (some 30) rfl (Fr.refl _ _) ?_;refine tA 5 (some 31) rfl (Fr.refl _ _) ?_;refine rW 6 (some 32) rfl λ K hK=> ?_
   go_simp;refine(DK.new_yes m wr.drew h3 h4).mono ?_;rintro e w2 ⟨D2,S2,rfl,hr2,hb2,hs2⟩;have HST:=qH (HP.out.step DK hlt ((Below.drew (Below.refl _ _)).trans hb2) hr2 hs2);obtain⟨q1,u1⟩:=(HP.out.later DK ((Below.drew (Below.refl _ _)).trans hb2)).cell hlt;have hfr:=Fr.of_below (S:=λ b=>b=w1.heap.size) hb2;clear hr2 hb2 hs2;go_wp2_with fail;refine hK.out _ _ hfr (λ hHeld=> ?_);clear hK K hHeld
   try simp only [Act.put,sA,sB,sC]
   refine jac (S':=λ w' =>Fr (λ b=>b=w1.heap.size) w2 w') (λ w' h=>hfr.trans h) ?_;clear hfr;refine tA 7 (some 33) rfl (Fr.refl _ _) ?_;refine rW 8 none rfl λ K hK=> ?_
   go_simp;have hfr:Fr (λ b=>b=w1.heap.size) w2 (w2.setCell ⟨w1.heap.size,t,none⟩ (.pointer (some ⟨D2,0,none⟩))):=(Fr.refl (λ b=>b=w1.heap.size) _).setCell (p:=⟨w1.heap.size,t,none⟩) (.inr rfl) _;obtain⟨w3,hw⟩:∃v,v=w2.setCell ⟨w1.heap.size,t,none⟩ (.pointer (some ⟨D2,0,none⟩)):=⟨_,rfl⟩;rw [<-hw] at hfr HST ⊢;clear hw q1 u1;refine hK.out _ _ hfr (λ hHeld=> ?_);clear hK K hHeld
   try simp only [Act.put]
   refine jac (S':=λ w' =>Fr (λ b=>b=w1.heap.size) w3 w') (λ w' h=>hfr.trans h) ?_;clear hfr;refine tD ?_;go_wp2_with fail;go_roundw
   case rel=>exact⟨t+1,_,_,by omega,by go_num,HST.out⟩
   case measure=>simp [intOf];omega
  ·obtain rfl:t=n:=by omega
   have HR:=qH hP.arr;have HB2:=qH hP.bel;clear hP;go_wp2_with fail;go_ret;obtain⟨S,hS1,hS2⟩:=HR.out;exact⟨_,S,rfl,hS1,HB2.out,hS2⟩
theorem jjh (DK:DrvK Rep)(h:AP Rep w S A xs)(hw:Wl 100000 xs)(hx255:xs.length<=255):Calls Tryz.prog 78 #[.pointer (some ⟨A,0,none⟩), .func (.func 79) #[] #[]] w λ e w' =>∃A' c' ds T,e= .returned (.slice A' xs.length c')∧Rn w' A' 118 1 xs.length c' (ds.map Ds.ptr)∧Dss Rep w' T ds∧ds.map Ds.x=xs∧(∀b,Bk A' b->w.heap.size<=b∧¬T b)∧(∀b,T b->w.heap.size<=b)∧Below w.heap.size w w':=by
 have hN:=jcY h;obtain⟨i0,hi0,hz0,hz1,hz2⟩:=info_parts jnb;have Hi:=qH hi0;have Hz0:=qH hz0;have Hz1:=qH hz1;have Hz2:=qH hz2;have HW:=qH hw;have H0:=qH h;obtain⟨n,hn⟩:∃n,n=xs.length:=⟨_,rfl⟩;rw [<-hn] at hN hx255 ⊢;have HN:=qH hn;clear hi0 hz0 hz1 hz2 hw h hn;go_enter Tryz.func78,Tryz.ntmps78;go_wp2_with fail;refine hN.mono ?_;clear hN;rintro e w1 ⟨rfl,hw1⟩;obtain rfl:w=w1:=hw1.symm;go_wp2_with fail;go_loopw [5,9] (λ v i wr=>∃(t:Nat) (A':Option Addr) (c':Nat) (ds:List Ds) (T:Nat->Prop),t<=n∧i= .int .i64 (t:Int)∧v= .slice A' t c' ∧Rn wr A' 118 1 t c' (ds.map Ds.ptr)∧Dss Rep wr T ds∧ds.map Ds.x=xs.take t∧(∀b,Bk A' b->w.heap.size<=b∧¬T b)∧(∀b,T b->w.heap.size<=b)∧Below w.heap.size w wr) (λ _ i _=>n-(intOf i).toNat)
 case atStart=>exact⟨0,none,0, [],λ _=>False,by omega,rfl,rfl, .inl ⟨rfl,rfl,rfl,rfl⟩,Dss.nil _ _,by simp,(λ b hb=>by obtain⟨o,hb⟩:=hb;cases hb),(λ b hb=>hb.elim),Below.refl _ _⟩
 case round=>
  obtain⟨t,A',c',ds2,T,ht,rfl,rfl,hrn,hds,hxt,hA',hT,hb⟩:=hrel
  by_cases hlt:t<n
  ·have hti:(t:Int)<(n:Int):=by omega
   have hx:xs[t]? =some (xs[t]'(by have:=HN.out;omega)):=List.getElem?_eq_getElem _;obtain⟨x,hxe⟩:∃x,x=xs[t]'(by have:=HN.out;omega):=⟨_,rfl⟩;rw [<-hxe] at hx;obtain⟨AL,c,ds,ha,hxs⟩:=H0.out.later DK.lay hb;obtain⟨d,hd,hdx⟩:=jjf hxs hx;have c0:=ha.c0;rw [jeH hxs,<-HN.out] at c0;obtain⟨g,rfl,hg⟩:=ha.at_ (by have:=jaF hd;omega);have cg:=hg t d hd;unfold Ds.ptr at cg;have hC:=DK.copy (by rw [hdx];exact HW.out t x hx) (ha.rep t d hd).1;rw [hdx] at hC;have HX:=qH hx;have HRN:=qH hrn;have HDS:=qH hds;have HXT:=qH hxt;have HA':=qH hA';have HT:=qH hT;have HB:=qH hb;clear ha hxs hd hx hrn hA' hb hg hxe hdx hds hxt hT;go_wp2_with fail;refine hC.mono ?_;clear hC;rintro e w2 ⟨D2,S2,rfl,hr2,hb2,hs2⟩;have HRN2:=qH (HRN.out.later hb2);have HDS2:=qH (HDS.out.push DK.lay hb2 hr2 hs2);have HB2:=qH (HB.out.trans (hb2.mono HB.out.size))
   have HT2:=qH (show ∀b,T b∨S2 b->w.heap.size<=b from λ b hb=>hb.elim (HT.out b) (λ q=>by have:=hs2 b q;have:=HB.out.size;omega));have HA2:=qH (show ∀b,Bk A' b->¬(T b∨S2 b) from λ b hb hq=>hq.elim (HA'.out b hb).2 (λ q=>by have:=hs2 b q;have:=HRN.out.lt hb;omega));clear hr2 hb2 hs2 c0 cg;go_wp2_with (at_builtin;refine jb1 (w:=w2) (T:=118) (v:= .pointer (some ⟨D2,0,none⟩)) rfl (.tmp 12) (.tmp 22) 119 119 rfl i0 (.pointer none) 8 Tryz.underlying119 Tryz.underlying119 Hi.out Hz0.out Hz1.out Hz2.out rfl (by decide) rfl HRN2.out rfl rfl (by omega) ?pd);intro A3 c3 w3 hrn3 hf3 ho3;have HRN3:=qH hrn3;have HB3:=qH (show Below w.heap.size w w3 from HB2.out.trans (hf3.below HB2.out.size (λ b hb=>(HA'.out b hb).1)));have HDS3:=qH (HDS2.out.fr DK.lay hf3 (λ b hb hq=>HA2.out b hq hb));have HA3:=qH (show ∀b,Bk A3 b->w.heap.size<=b∧¬(T b∨S2 b) from λ b hb=>by
    rcases ho3 with rfl|⟨g,rfl,hg⟩
    ·exact⟨(HA'.out b hb).1,HA2.out b hb⟩
    ·obtain⟨o,hb⟩:=hb
     injection hb with hb
     injection hb with hb _
     have:=HB2.out.size;exact⟨by omega,λ hq=>by have:=HDS2.out.old b hq;omega⟩)
   clear hrn3 hf3 ho3;go_wp2_with fail;go_roundw
   case rel=>
    refine⟨t+1,A3,c3,_,_,by omega,by go_num,rfl, ?_,HDS3.out, ?_,HA3.out,HT2.out,HB3.out⟩
    ·rw [List.map_append];exact HRN3.out
    ·rw [List.map_append,HXT.out,jcm HX.out];rfl
   case measure=>simp [intOf];omega
  ·obtain rfl:t=n:=by omega
   have HRN:=qH hrn;have HB:=qH hb;have HDS:=qH hds;have HXT:=qH (show ds2.map Ds.x=xs by rw [hxt,List.take_of_length_le (by have:=HN.out;omega)]);have HA':=qH hA';have HT:=qH hT;clear hrn hA' hb hds hxt hT;go_wp2_with fail;go_ret;exact⟨A',c',ds2,T,rfl,HRN.out,HDS.out,HXT.out,HA'.out,HT.out,HB.out⟩
theorem jlh (DK:DrvK Rep)(h:AP Rep w S A xs)(hw:Wl 100000 xs)(hx255:xs.length<=255):Calls Tryz.prog 43 #[.pointer (some ⟨A,0,none⟩)] w (jjg Rep xs w):=by
 have hE:=jjh DK h hw hx255;obtain⟨n,hn⟩:∃n,n=xs.length:=⟨_,rfl⟩;rw [<-hn] at hE;have HN:=qH hn;clear h hw hn hx255;go_enter Tryz.func43,Tryz.ntmps43;go_wp2_with fail;refine hE.mono ?_;clear hE;rintro e w2 ⟨A',c',ds2,T,rfl,hrn,hds,hxs,hA',hT,hb⟩;have HRN:=qH hrn;have HDS:=qH hds;have HXS:=qH hxs;have HA':=qH hA';have HT:=qH hT;have HB:=qH hb;clear hrn hds hxs hA' hT hb;go_wp2_with fail;go_ret;have hb1:Below w2.heap.size w2 (w2.alloc (.cells #[.slice A' n c'] 121)):=(Below.refl _ _).alloc (Nat.le_refl _) _;have hl:ds2.length=n:=by rw [jeH HXS.out];exact HN.out.symm
 have hbs:=HB.out.size;have hT2:∀b,T b->b<w2.heap.size:=λ b hb=>HDS.out.old b hb
 refine⟨w2.heap.size,λ b=>T b∨Bk A' b∨b=w2.heap.size,rfl,⟨A',c',ds2,(HDS.out.fr DK.lay (Fr.of_below hb1:Fr (λ _=>False) _ _) (λ _ _ h=>h)).ars ?_ ?_ (λ b hb=>(HA'.out b hb).2) (λ q=>by have:=hT2 _ q;omega),HXS.out⟩,HB.out.trans (hb1.mono hbs),λ b hb=> ?_⟩
 ·rw [hl];exact HRN.out.later hb1
 ·rw [hl];exact heap_alloc_new w2 _
 ·rcases hb with hb|hb|hb
  ·exact HT.out b hb
  ·exact(HA'.out b hb).1
  ·omega
end
end
section
section
variable {Rep:World->(Nat->Prop)->Nat->Dv->Prop}{w w':World}{S:Nat->Prop}{A c i:Nat}{AL:Option Addr}{ds:List Ds}{d:Ds}{xs:List Dv}
def jq6 {α:Type}(enc:List α->List Value)(rs:List (List α))(w:World)(e:Ending)(w':World):Prop:=∃A' c',e= .returned (.slice A' rs.length c')∧Ns enc w' (λ b=>w.heap.size<=b) A' rs.length c' rs∧Below w.heap.size w w'
theorem jni {x:Dv}{t:Nat}{z:Int}(h:xs[t]? =some x):(jhQ xs z)[t]? =some (x.readL z):=by rw [jhQ,List.getElem?_map,h];rfl
theorem jgV {z:Int}:(jhQ xs z).length=xs.length:=List.length_map _
theorem jnj (DK:DrvK Rep)(h:AP Rep w S A xs)(at_:Int)(h1: -9223372036854775808<=at_)(h2:at_<9223372036854775808)(hw:Wl 100000 xs)(hx255:xs.length<=255):Calls Tryz.prog 210 #[.pointer (some ⟨A,0,none⟩), .int .i64 at_] w (jq6 cells (jhQ xs at_) w):=by
 have hN:=jcY h;have hmk:=jnf (xs.length:Int) xs.length rfl (by omega);have HW:=qH hw;have H0:=qH h;unfold jq6;rw [jgV];obtain⟨n,hn⟩:∃n,n=xs.length:=⟨_,rfl⟩;rw [<-hn] at hN hx255 hmk ⊢;have HN:=qH hn;clear hw h hn;go_enter Tryz.func210,Tryz.ntmps210;go_wp2_with fail;refine hN.mono ?_;clear hN;rintro e w1 ⟨rfl,hw1⟩;obtain rfl:w=w1:=hw1.symm;go_wp2_with fail;have hb1:Below w.heap.size w (w.alloc (.cells (madeCells #[.slice none 0 0] n) 105)):=(Below.refl _ _).alloc (Nat.le_refl _) _;have hf1:Nf cells (w.alloc (.cells (madeCells #[.slice none 0 0] n) 105)) w.heap.size w.heap.size n 0 []:=Nf.made w _ n (by unfold maxLen;omega);obtain⟨w1,hw1⟩:∃v,v=w.alloc (.cells (madeCells #[.slice none 0 0] n) 105):=⟨_,rfl⟩;rw [<-hw1] at hb1 hf1 ⊢;clear hw1 hmk;have hN:=jcY (H0.out.later DK.lay hb1);rw [<-HN.out] at hN;refine hN.mono ?_;clear hN;rintro e w2 ⟨rfl,hw2⟩
 obtain rfl:w1=w2:=hw2.symm;go_wp2_with fail;go_loopw [12] (λ i wr=>∃t:Nat,t<=n∧i= .int .i64 (t:Int)∧Nf cells wr w.heap.size w.heap.size n t ((jhQ xs at_).take t)∧Below w.heap.size w wr) (λ i _=>n-(intOf i).toNat)
 case atStart=>exact⟨0,by omega,rfl,hf1,hb1⟩
 case round=>
  obtain⟨t,ht,rfl,hnf,hb⟩:=hrel
  by_cases hlt:t<n
  ·have hti:(t:Int)<(n:Int):=by omega
   have hx:xs[t]? =some (xs[t]'(by have:=HN.out;omega)):=List.getElem?_eq_getElem _;obtain⟨x,hxe⟩:∃x,x=xs[t]'(by have:=HN.out;omega):=⟨_,rfl⟩;rw [<-hxe] at hx;obtain⟨AL,c,ds,ha,hxs⟩:=H0.out.later DK.lay hb;obtain⟨d,hd,hdx⟩:=jjf hxs hx;have c0:=ha.c0;rw [jeH hxs,<-HN.out] at c0;obtain⟨g,rfl,hg⟩:=ha.at_ (by have:=jaF hd;omega);have cg:=hg t d hd;unfold Ds.ptr at cg;have hC:=DK.read at_ h1 h2 (by rw [hdx];exact HW.out t x hx) (ha.rep t d hd).1;rw [hdx] at hC;have HX:=qH hx;have HNF:=qH hnf;have HB:=qH hb;obtain⟨l,hl⟩:∃l,l=x.readL at_:=⟨_,rfl⟩;obtain⟨ex,hex⟩:∃ex,ex=x.readX at_:=⟨_,rfl⟩;rw [<-hl,<-hex] at hC;have HL:=qH hl;clear hl hex ha hxs hd hx hnf hb hg hxe hdx hf1 hb1;go_wp2_with fail;refine hC.mono ?_;clear hC;rintro e w3 ⟨A3,n3,c3,rfl,hs,hb3,hlo⟩;obtain rfl:l.length=n3:=by have:=hs.len;rw [jaa] at this;omega
   obtain⟨q1,u1⟩:=(HNF.out.later hb3).cell hlt;have HST:=qH ((HNF.out.later hb3).store hlt (r:=l) hs (λ b o hn hA=>by
    have:=hlo b o hn hA;have:=HB.out.size;obtain⟨vs,g1,_⟩:=HNF.out.ex;have:=g1.lt;exact⟨by omega,by omega⟩))
   have HB3:=qH ((HB.out.trans (hb3.mono HB.out.size)).setCell (p:=⟨w.heap.size,t,none⟩) (Nat.le_refl _) (.slice A3 l.length c3));clear hs hb3 hlo c0 cg;go_wp2_with fail;clear q1 u1;go_roundw
   case rel=>
    refine⟨t+1,by omega,by go_num, ?_,HB3.out⟩;rw [jcm (jni HX.out),<-HL.out];exact HST.out
   case measure=>simp [intOf];omega
  ·obtain rfl:t=n:=by omega
   have HNS:=qH (show Ns cells wr (λ b=>w.heap.size<=b) (some ⟨w.heap.size,0,none⟩) t t (jhQ xs at_) by
    rw [List.take_of_length_le (by rw [jgV];have:=HN.out;omega)] at hnf;exact hnf.ns (Nat.le_refl _))
   have HB:=qH hb;clear hnf hb hf1 hb1;go_wp2_with fail;go_ret;exact⟨_,_,rfl,HNS.out,HB.out⟩
theorem jfz (DK:DrvK Rep)(h:AP Rep w S A xs)(hw:Wl 100000 xs)(hx255:xs.length<=255){A2:Option Addr}{m c2:Nat}{kss:List (List Bool)}{T:Nat->Prop}(hk:Ns jbs w T A2 m c2 kss)(hT:∀b,T b->¬S b):
  Calls Tryz.prog 21 #[.pointer (some ⟨A,0,none⟩), .slice A2 m c2] w λ e w' =>e= .returned (.tuple #[])∧MutA Rep S A (jbC xs kss xs.length) w w':=by
 have hN:=jcY h;have hkl:=hk.len;have HK:=qH hk;have HT:=qH hT;have HW:=qH hw;have H0:=qH h;obtain⟨n,hn⟩:∃n,n=xs.length:=⟨_,rfl⟩;rw [<-hn] at hN hx255 ⊢;have HN:=qH hn;have hmx:m<=maxLen:=Nat.le_trans hk.capLe.1 hk.capLe.2;unfold maxLen at hmx;clear hw h hn hk hT;go_enter Tryz.func21,Tryz.ntmps21;go_wp2_with fail;refine hN.mono ?_;clear hN;rintro e w1 ⟨rfl,hw1⟩;obtain rfl:w=w1:=hw1.symm;go_wp2_with fail;go_loopw [8] (λ i wr=>∃(t:Nat) (S':Nat->Prop),t<=n∧i= .int .i64 (t:Int)∧AP Rep wr S' A (jbC xs kss t)∧Nxt S S' w wr) (λ i _=>n-(intOf i).toNat)
 case atStart=>exact⟨0,S,by omega,rfl,by rw [jbC,jdQ];exact H0.out,Nxt.refl _ _⟩
 case round=>
  obtain⟨t,S',ht,rfl,ha,hnx⟩:=hrel
  by_cases hlt:t<n
  ·have hti:(t:Int)<(n:Int):=by omega
   have hx:xs[t]? =some (xs[t]'(by have:=HN.out;omega)):=List.getElem?_eq_getElem _;obtain⟨x,hxe⟩:∃x,x=xs[t]'(by have:=HN.out;omega):=⟨_,rfl⟩;rw [<-hxe] at hx;obtain⟨AL,c,ds,ha,hxs⟩:=ha;obtain⟨d,hd,hdx⟩:=jjf hxs (jcX hx);have c0:=ha.c0;rw [jeH hxs,jbC,jaw,<-HN.out] at c0;obtain⟨g,rfl,hg⟩:=ha.at_ (by have:=jaF hd;omega);have cg:=hg t d hd;unfold Ds.ptr at cg;have hkr:=HK.out.fr hnx.1 HT.out;have hout:∀b,T b->b<w.heap.size->¬d.S b:=λ b hb hb2 hq=>(hnx.2 b ((ha.rep t d hd).2.2.2 b hq)).elim (HT.out b hb) (λ q=>by omega)
   have hwt:d.x.wait.length<=100000:=by rw [hdx];exact HW.out t x hx
   have hrep:=(ha.rep t d hd).1;have HA:=qH ha;have HXS:=qH hxs;have HD:=qH hd;have HX:=qH hx;have HNX:=qH hnx;have key:∀(A3:Option Addr) (n3 c3:Nat) (ks:List Bool),ks=kss.getD t []->Sl wr 1 A3 n3 c3 (jbs ks)->(∀b o,0<n3->A3=some ⟨b,o,none⟩->¬d.S b)->Calls Tryz.prog 61 #[.pointer (some ⟨d.D,0,none⟩), .slice A3 n3 c3] wr λ e w2=>e= .returned (.tuple #[])∧∃S3,AP Rep w2 S3 A (jbC xs kss (t+1))∧Nxt S S3 w w2:=by
    intro A3 n3 c3 ks hks hs ho;refine(DK.crash A3 n3 c3 ks hwt hrep hs ho).mono ?_;rintro e w2 ⟨rfl,S2,hr2,hf2,hs2⟩;obtain⟨S3,har,hn3⟩:=HA.out.turn DK.lay DK.lay (λ _ _ _ _ q=>q) HXS.out HD.out hr2 hf2 hs2;refine⟨rfl,S3, ?_,HNX.out.trans hn3⟩;rw [jbC,hks,hdx,jdR (F:=λ i x=>x.crash (kss.getD i [])) HX.out] at har;exact har
   by_cases hm:t<m
   ·have htm:(t:Int)<(m:Int):=by omega
    have hkt:kss[t]? =some (kss[t]'(by omega)):=List.getElem?_eq_getElem _;obtain⟨ks,hke⟩:∃ks,ks=kss[t]'(by omega):=⟨_,rfl⟩;rw [<-hke] at hkt;obtain⟨b,o,rfl,_,hc⟩:=hkr.at_ (by omega);obtain⟨A3,c3,hcell,hs3,hb3⟩:=hc t ks hkt;obtain⟨b',o',hbo,_,hc0⟩:=HK.out.at_ (by omega);injection hbo with hbo
    injection hbo with hbb hoo
    subst hbb hoo;obtain⟨A4,c4,hcell0,hs0,hb0⟩:=hc0 t ks hkt;have he:=hnx.1.cell_some hcell0 (HT.out _ (by assumption));rw [hcell] at he;injection he with he
    injection he with he1 _ he3
    subst he1 he3;have hC:=key A3 ks.length c3 ks (getD_at hkt).symm hs3 (λ b o hn hA=>hout b (hb3 b o hn hA) (hs0.lt (by decide) hn hA));clear key hs3 hb3 hs0 hb0 hc hc0 hcell0 hkr hout hke hkt hwt hrep ha hxs hd hx hnx hg hxe hdx;go_wp2_with fail;refine hC.mono ?_;clear hC;rintro e w2 ⟨rfl,S3,har,hn3⟩;have HAR:=qH har;have HN3:=qH hn3;clear har hn3 hcell c0 cg;go_wp2_with fail;go_roundw
    case rel=>exact⟨t+1,S3,by omega,by go_num,HAR.out,HN3.out⟩
    case measure=>simp [intOf];omega
   ·have htm:¬(t:Int)<(m:Int):=by omega
    have hC:=key none 0 0 [] (by rw [List.getD_eq_getElem?_getD,List.getElem?_eq_none (by omega)];rfl) (Sl.nil _ 1 0 (by decide)) (λ b o hn=>absurd hn (Nat.lt_irrefl _));clear key hkr hout hwt hrep ha hxs hd hx hnx hg hxe hdx;go_wp2_with fail;refine hC.mono ?_;clear hC;rintro e w2 ⟨rfl,S3,har,hn3⟩;have HAR:=qH har;have HN3:=qH hn3;clear har hn3 c0 cg;go_wp2_with fail;go_roundw
    case rel=>exact⟨t+1,S3,by omega,by go_num,HAR.out,HN3.out⟩
    case measure=>simp [intOf];omega
  ·obtain rfl:t=n:=by omega
   have HM:=qH (show MutA Rep S A (jbC xs kss t) w wr from ⟨S',ha,hnx⟩);clear ha hnx;go_wp2_with fail;go_end0;exact⟨rfl,HM.out⟩
theorem jhT (DK:DrvK Rep)(h:AP Rep w S A xs)(hw:Wl 100000 xs)(hx255:xs.length<=255)(z:Int)(h1: -9223372036854775808<=z)(h2:z<9223372036854775808){A2:Option Addr}{m c2:Nat}{rs:List (List UInt8)}{T:Nat->Prop}(hk:Ns cells w T A2 m c2 rs)(hT:∀b,T b->¬S b):
  Calls Tryz.prog 146 #[.pointer (some ⟨A,0,none⟩), .int .i64 z, .slice A2 m c2] w λ e w' =>e= .returned (.int .i64 (putN xs rs z (min xs.length m):Nat))∧MutA Rep S A (putS xs rs z (min xs.length m)) w w':=by
 have hN:=jcY h;have hkl:=hk.len;obtain⟨i0,hi0,hz0,hz1,hz2⟩:=info_parts jgq;have Hi:=qH hi0;have Hz0:=qH hz0;have Hz1:=qH hz1;have Hz2:=qH hz2;have HK:=qH hk;have HT:=qH hT;have HW:=qH hw;have H0:=qH h;have hmx:m<=maxLen:=Nat.le_trans hk.capLe.1 hk.capLe.2;unfold maxLen at hmx;obtain⟨n,hn⟩:∃n,n=xs.length:=⟨_,rfl⟩;rw [<-hn] at hN hx255 ⊢;obtain⟨q,hq⟩:∃q,q=min n m:=⟨_,rfl⟩;rw [<-hq];have hqn:q<=n:=by omega
 have hqm:q<=m:=by omega
 have HMin:=qH (show min (n:Int) (m:Int)=(q:Int) by omega);obtain⟨r,hr⟩:∃r,r=putN xs rs z q:=⟨_,rfl⟩;rw [<-hr];have HR:=qH hr;have HN:=qH hn;clear hw h hn hk hT hq hr hi0 hz0 hz1 hz2;go_enter Tryz.func146,Tryz.ntmps146;go_wp2_with fail;refine hN.mono ?_;clear hN;rintro e w1 ⟨rfl,hw1⟩;obtain rfl:w=w1:=hw1.symm;go_wp2_with fail
 all_goals first
  |rw [show ((m:Nat):Int)=((q:Nat):Int) from by have:=HMin.out;omega]
  |rw [show ((n:Nat):Int)=((q:Nat):Int) from by have:=HMin.out;omega]
 ·go_loopw [7,14] (λ v i wr=>∃(t k:Nat) (A':Option Addr) (c':Nat) (S':Nat->Prop),t<=q∧i= .int .i64 (t:Int)∧v= .slice A' k c' ∧k<=t∧k=(putA xs rs z t).length∧Rn wr A' 47 1 k c' (jau (putA xs rs z t))∧(∀b,Bk A' b->w.heap.size<=b∧¬S' b)∧AP Rep wr S' A (putS xs rs z t)∧Nxt S S' w wr) (λ _ i _=>q-(intOf i).toNat)
  case atStart=>exact⟨0,0,none,0,S,by omega,rfl,rfl,Nat.le_refl _,by simp [putA], .inl ⟨rfl,rfl,rfl,by simp [putA,jau]⟩,(λ b hb=>by obtain⟨o,hb⟩:=hb;cases hb),by rw [putS,jdQ];exact H0.out,Nxt.refl _ _⟩
  case round=>
   obtain⟨t,k,A',c',S',ht,rfl,rfl,hkt,hke,hrn,hA',ha,hnx⟩:=hrel
   by_cases hlt:t<q
   ·have hti:(t:Int)<(q:Int):=by omega
    have htm:(t:Int)<(m:Int):=by omega
    have hx:xs[t]? =some (xs[t]'(by have:=HN.out;omega)):=List.getElem?_eq_getElem _;obtain⟨x,hxe⟩:∃x,x=xs[t]'(by have:=HN.out;omega):=⟨_,rfl⟩;rw [<-hxe] at hx;have hrt:rs[t]? =some (rs[t]'(by omega)):=List.getElem?_eq_getElem _;obtain⟨ro,hroe⟩:∃ro,ro=rs[t]'(by omega):=⟨_,rfl⟩;rw [<-hroe] at hrt;obtain⟨AL,c,ds,ha,hxs⟩:=ha;obtain⟨d,hd,hdx⟩:=jjf hxs (jcX hx);have c0:=ha.c0;rw [jeH hxs,putS,jaw,<-HN.out] at c0;have htn:(t:Int)<(n:Int):=by omega
    obtain⟨g,rfl,hg⟩:=ha.at_ (by have:=jaF hd;omega);have cg:=hg t d hd;unfold Ds.ptr at cg;have hkr:=HK.out.fr hnx.1 HT.out;obtain⟨b,o,rfl,hTb,hc⟩:=hkr.at_ (by omega);obtain⟨A3,c3,hcell,hs3,hb3⟩:=hc t ro hrt;have hbw:b<w.heap.size:=by
     obtain⟨b',o',hbo,_,hc0⟩:=HK.out.at_ (by omega);injection hbo with hbo
     injection hbo with hbb hoo
     subst hbb hoo;obtain⟨A4,c4,hcell0,_⟩:=hc0 t ro hrt;exact World.block_lt_of_cell? w _ hcell0
    have hdS:=(ha.rep t d hd).2.2.2;have hwt:d.x.wait.length<=100000:=by rw [hdx];exact HW.out t x hx
    have hrep:=(ha.rep t d hd).1;have HA:=qH ha;have HXS:=qH hxs;have HD:=qH hd;have HX:=qH hx;have HRT:=qH hrt;have HRN:=qH hrn;have HKE:=qH hke;have HA':=qH hA';have HNX:=qH hnx
    by_cases h0:0<ro.length
    ·have h0i:(0:Int)<(ro.length:Int):=by omega
     have hC:=DK.write z A3 ro.length c3 ro h1 h2 hwt (DK.fr hrep (Fr.drew (Fr.refl (λ _=>False) wr)) (λ _ _ q=>q)) hs3.drew;rw [hdx] at hC;obtain⟨v,hv⟩:∃v,v=x.writeX z ro:=⟨_,rfl⟩;rw [<-hv] at hC;have HV:=qH hv;have HC:=qH hC;have C0:=qH (show wr.drew.cell? ⟨A,0,none⟩=some (.slice (some ⟨g,0,none⟩) n c) from c0);have CG:=qH (show wr.drew.cell? ⟨g,t,none⟩=some (.pointer (some ⟨d.D,0,none⟩)) from cg);have CR:=qH (show wr.drew.cell? ⟨b,o+t,none⟩=some (.slice A3 ro.length c3) from hcell);have N0:=qH (show ¬(d.S A∨Bk A' A∨wr.heap.size<=A) from by
      rintro(q|q|q)
      ·exact(ha.rep t d hd).2.1 q
      ·exact(hA' A q).2 ha.own.1
      ·have:=ha.old A ha.own.1;omega)
     have NG:=qH (show ¬(d.S g∨Bk A' g∨wr.heap.size<=g) from by
      rintro(q|q|q)
      ·exact(ha.rep t d hd).2.2.1 g ⟨0,rfl⟩ q
      ·exact(hA' g q).2 (ha.own.2 g ⟨0,rfl⟩)
      ·have:=ha.old g (ha.own.2 g ⟨0,rfl⟩);omega)
     have NR:=qH (show ¬(d.S b∨Bk A' b∨wr.heap.size<=b) from by
      rintro(q|q|q)
      ·exact(hnx.2 b (hdS b q)).elim (HT.out b hTb) (λ q=>by omega)
      ·have:=(hA' b q).1;omega
      ·have:=hnx.1.size;omega)
     clear hC hv hs3 hb3 hc hkr hdS hwt hrep ha hxs hd hx hnx hg hxe hdx hrt hroe hrn hA' hke hTb;go_wp2_with fail;clear c0 cg hcell;refine wp_region_held_drew (S:=λ w' =>Fr (λ k=>d.S k∨Bk A' k∨wr.heap.size<=k) wr.drew w') (by kernel_rfl) (Fr.refl _ _) (λ hHeld=> ?_);clear hHeld;refine tA 0 (some 23) rfl (Fr.refl _ _) ?_;refine tA 1 (some 24) rfl (Fr.refl _ _) ?_;refine tA 2 (some 25) rfl (Fr.refl _ _) ?_;refine tA 3 (some 26) rfl (Fr.refl _ _) ?_;refine tL 4 (some 27) (v:= ?vp4) rfl ?yp4 (Fr.refl _ _) ?rp4
     case yp4=>
      intro wq hSw
      (try dsimp only at hSw)
      have hq:=hSw.cell_some C0.out N0.out;go_simp<;>with_reducible rfl
     try simp only [Act.put,sA,sB,sC]
     refine tA 5 (some 28) rfl (Fr.refl _ _) ?_;refine tA 6 (some 29) rfl (Fr.refl _ _) ?_;refine tL 7 (some 30) (v:= ?vp7) rfl ?yp7 (Fr.refl _ _) ?rp7
     case yp7=>
      intro wq hSw
      (try dsimp only at hSw)
      have hq:=hSw.cell_some CG.out NG.out;go_simp<;>with_reducible rfl
     try simp only [Act.put,sA,sB,sC]
     refine tA 8 (some 31) rfl (Fr.refl _ _) ?_;refine tA 9 (some 32) rfl (Fr.refl _ _) ?_;refine tA 10 (some 33) rfl (Fr.refl _ _) ?_;refine tA 11 (some 34) rfl (Fr.refl _ _) ?_;refine tL 12 (some 35) (v:= ?vp12) rfl ?yp12 (Fr.refl _ _) ?rp12
     case yp12=>
      intro wq hSw
      (try dsimp only at hSw)
      have hq:=hSw.cell_some CR.out NR.out;go_simp<;>with_reducible rfl
     try simp only [Act.put,sA,sB,sC]
     refine rW 13 (some 36) rfl λ K hK=> ?_
     go_simp;refine HC.out.mono ?_;rintro e w2 ⟨rfl,S2,hr2,hf2,hs2⟩;have hbd:Below wr.heap.size wr wr.drew:=Below.drew (Below.refl _ _);obtain⟨S3,har,hn3⟩:=(HA.out.later DK.lay hbd).turn DK.lay DK.lay (λ _ _ _ _ q=>q) HXS.out HD.out hr2 hf2 hs2;have HN3:=qH (show Nxt S' S3 wr w2 from hn3.below hbd);have HAR:=qH har;have HRN2:=qH (HRN.out.fr HN3.out.1 (λ b hb=>(HA'.out b hb).2));have HZ2:=qH HN3.out.1.size;have hfr:Fr (λ k=>d.S k∨Bk A' k∨wr.heap.size<=k) wr.drew w2:=hf2.mono (λ b hb=> .inl hb);clear hr2 hf2 hs2 har hn3 hbd;go_wp2_with fail;refine hK.out _ _ hfr (λ hHeld=> ?_);clear hK K hHeld
     try simp only [Act.put,sA,sB,sC]
     refine jac (S':=λ w' =>Fr (λ k=>d.S k∨Bk A' k∨wr.heap.size<=k) w2 w') (λ w' h=>hfr.trans h) ?_;clear hfr;refine rW 14 (some 37) rfl λ K hK=> ?_
     go_simp;have hb:Below w2.heap.size w2 (w2.alloc (.cells #[.int .i64 v] 47)):=(Below.refl _ _).alloc (Nat.le_refl _) _;have hsl:=Sl.made w2 #[.int .i64 v] 47 1 1 rfl (by decide);obtain⟨w4,hw⟩:∃u0,u0=w2.alloc (.cells #[.int .i64 v] 47):=⟨_,rfl⟩;rw [<-hw] at hb hsl ⊢;clear hw;have HSL:=qH hsl;have HB4:=qH hb;have HRN4:=qH (HRN2.out.later hb);have hfr:Fr (λ k=>d.S k∨Bk A' k∨wr.heap.size<=k) w2 w4:=Fr.of_below hb;clear hb hsl;refine hK.out _ _ hfr (λ hHeld=> ?_);clear hK K hHeld
     try simp only [Act.put,sA,sB,sC]
     refine jac (S':=λ w' =>Fr (λ k=>d.S k∨Bk A' k∨wr.heap.size<=k) w4 w') (λ w' h=>hfr.trans h) ?_;clear hfr;refine rW 15 (some 38) rfl λ K hK=> ?_
     refine jbc (o:=⟨some 38,_,_,_,_,_⟩) (.tmp 23) (.tmp 37) 114 114 rfl i0 (.int .i64 0) 8 Tryz.underlying114 Hi.out Hz0.out Hz1.out Hz2.out rfl (by decide) rfl HRN4.out (.slice (some ⟨w2.heap.size,0,none⟩) 1 1) 1 [.int .i64 v] rfl (HSL.out.src Tryz.underlying114 (by decide) (λ u hu=>by simp at hu;rw [hu];rfl)) (by unfold maxLen;omega) (by omega) ?_;intro A5 c5 w5 hrn5 hf5 ho5;have hfr:Fr (λ k=>d.S k∨Bk A' k∨wr.heap.size<=k) w4 w5:=hf5.mono (λ b hb=> .inr (.inl hb));have HRN5:=qH hrn5;have HST:=qH (jgU DK.lay HRN.out HA'.out HNX.out HAR.out HN3.out ((Fr.of_below HB4.out).trans hf5) (ho5.imp id (λ e=>⟨_,e,HB4.out.size⟩)));clear hrn5 hf5 ho5;refine hK.out _ _ hfr (λ hHeld=> ?_);clear hK K hHeld
     try simp only [Act.put,sA,sB,sC]
     refine jac (S':=λ w' =>Fr (λ k=>d.S k∨Bk A' k∨wr.heap.size<=k) w5 w') (λ w' h=>hfr.trans h) ?_;clear hfr;refine tA 16 (some 7) rfl (Fr.refl _ _) ?_;refine tD ?_;go_wp2_with fail;go_roundw
     case rel=>
      refine⟨t+1,k+1,A5,c5,S3,by omega,by go_num,rfl,by omega, ?_, ?_,HST.out.2.2, ?_,HST.out.2.1⟩
      ·rw [jdT HX.out HRT.out h0,List.length_append,<-HKE.out];rfl
      ·rw [jdT HX.out HRT.out h0,jcE,<-HV.out];exact HRN5.out
      ·have:=HST.out.1
       rw [putS,<-jkg (x:=x) HRT.out h0,jdR (F:=putF rs z) HX.out] at this;exact this
     case measure=>simp [intOf];omega
    ·have h0i:¬(0:Int)<(ro.length:Int):=by omega
     have HM:=qH (show AP Rep wr S' A (putS xs rs z (t+1)) by
      rw [putS,jhR HX.out (jm8 HRT.out h0)];exact⟨_,c,ds,HA.out,HXS.out⟩)
     clear hs3 hb3 hc hkr hdS hwt hrep ha hxs hd hx hnx hg hxe hdx hrt hroe hrn hA' hke hTb;go_wp2_with fail;clear c0 cg hcell;go_roundw
     case rel=>
      refine⟨t+1,k,A',c',S',by omega,by go_num,rfl,by omega, ?_, ?_,HA'.out,HM.out,HNX.out⟩
      ·rw [jfx HX.out HRT.out h0];exact HKE.out
      ·rw [jfx HX.out HRT.out h0];exact HRN.out
     case measure=>simp [intOf];omega
   ·obtain rfl:t=q:=by omega
    have HM:=qH (show MutA Rep S A (putS xs rs z t) w wr from ⟨S',ha,hnx⟩);have hC:=jfy hrn.sl (by omega);rw [show (putA xs rs z t).count 0=r from HR.out.symm] at hC;clear hrn hA' ha hnx hke;go_wp2_with fail;refine hC.mono ?_;clear hC;rintro e w3 ⟨rfl,hw3⟩;obtain rfl:wr=w3:=hw3.symm;go_wp2_with fail;go_ret;exact⟨rfl,HM.out⟩
 ·go_loopw [7,14] (λ v i wr=>∃(t k:Nat) (A':Option Addr) (c':Nat) (S':Nat->Prop),t<=q∧i= .int .i64 (t:Int)∧v= .slice A' k c' ∧k<=t∧k=(putA xs rs z t).length∧Rn wr A' 47 1 k c' (jau (putA xs rs z t))∧(∀b,Bk A' b->w.heap.size<=b∧¬S' b)∧AP Rep wr S' A (putS xs rs z t)∧Nxt S S' w wr) (λ _ i _=>q-(intOf i).toNat)
  case atStart=>exact⟨0,0,none,0,S,by omega,rfl,rfl,Nat.le_refl _,by simp [putA], .inl ⟨rfl,rfl,rfl,by simp [putA,jau]⟩,(λ b hb=>by obtain⟨o,hb⟩:=hb;cases hb),by rw [putS,jdQ];exact H0.out,Nxt.refl _ _⟩
  case round=>
   obtain⟨t,k,A',c',S',ht,rfl,rfl,hkt,hke,hrn,hA',ha,hnx⟩:=hrel
   by_cases hlt:t<q
   ·have hti:(t:Int)<(q:Int):=by omega
    have htm:(t:Int)<(m:Int):=by omega
    have hx:xs[t]? =some (xs[t]'(by have:=HN.out;omega)):=List.getElem?_eq_getElem _;obtain⟨x,hxe⟩:∃x,x=xs[t]'(by have:=HN.out;omega):=⟨_,rfl⟩;rw [<-hxe] at hx;have hrt:rs[t]? =some (rs[t]'(by omega)):=List.getElem?_eq_getElem _;obtain⟨ro,hroe⟩:∃ro,ro=rs[t]'(by omega):=⟨_,rfl⟩;rw [<-hroe] at hrt;obtain⟨AL,c,ds,ha,hxs⟩:=ha;obtain⟨d,hd,hdx⟩:=jjf hxs (jcX hx);have c0:=ha.c0;rw [jeH hxs,putS,jaw,<-HN.out] at c0;have htn:(t:Int)<(n:Int):=by omega
    obtain⟨g,rfl,hg⟩:=ha.at_ (by have:=jaF hd;omega);have cg:=hg t d hd;unfold Ds.ptr at cg;have hkr:=HK.out.fr hnx.1 HT.out;obtain⟨b,o,rfl,hTb,hc⟩:=hkr.at_ (by omega);obtain⟨A3,c3,hcell,hs3,hb3⟩:=hc t ro hrt;have hbw:b<w.heap.size:=by
     obtain⟨b',o',hbo,_,hc0⟩:=HK.out.at_ (by omega);injection hbo with hbo
     injection hbo with hbb hoo
     subst hbb hoo;obtain⟨A4,c4,hcell0,_⟩:=hc0 t ro hrt;exact World.block_lt_of_cell? w _ hcell0
    have hdS:=(ha.rep t d hd).2.2.2;have hwt:d.x.wait.length<=100000:=by rw [hdx];exact HW.out t x hx
    have hrep:=(ha.rep t d hd).1;have HA:=qH ha;have HXS:=qH hxs;have HD:=qH hd;have HX:=qH hx;have HRT:=qH hrt;have HRN:=qH hrn;have HKE:=qH hke;have HA':=qH hA';have HNX:=qH hnx
    by_cases h0:0<ro.length
    ·have h0i:(0:Int)<(ro.length:Int):=by omega
     have hC:=DK.write z A3 ro.length c3 ro h1 h2 hwt (DK.fr hrep (Fr.drew (Fr.refl (λ _=>False) wr)) (λ _ _ q=>q)) hs3.drew;rw [hdx] at hC;obtain⟨v,hv⟩:∃v,v=x.writeX z ro:=⟨_,rfl⟩;rw [<-hv] at hC;have HV:=qH hv;have HC:=qH hC;have C0:=qH (show wr.drew.cell? ⟨A,0,none⟩=some (.slice (some ⟨g,0,none⟩) n c) from c0);have CG:=qH (show wr.drew.cell? ⟨g,t,none⟩=some (.pointer (some ⟨d.D,0,none⟩)) from cg);have CR:=qH (show wr.drew.cell? ⟨b,o+t,none⟩=some (.slice A3 ro.length c3) from hcell);have N0:=qH (show ¬(d.S A∨Bk A' A∨wr.heap.size<=A) from by
      rintro(q|q|q)
      ·exact(ha.rep t d hd).2.1 q
      ·exact(hA' A q).2 ha.own.1
      ·have:=ha.old A ha.own.1;omega)
     have NG:=qH (show ¬(d.S g∨Bk A' g∨wr.heap.size<=g) from by
      rintro(q|q|q)
      ·exact(ha.rep t d hd).2.2.1 g ⟨0,rfl⟩ q
      ·exact(hA' g q).2 (ha.own.2 g ⟨0,rfl⟩)
      ·have:=ha.old g (ha.own.2 g ⟨0,rfl⟩);omega)
     have NR:=qH (show ¬(d.S b∨Bk A' b∨wr.heap.size<=b) from by
      rintro(q|q|q)
      ·exact(hnx.2 b (hdS b q)).elim (HT.out b hTb) (λ q=>by omega)
      ·have:=(hA' b q).1;omega
      ·have:=hnx.1.size;omega)
     clear hC hv hs3 hb3 hc hkr hdS hwt hrep ha hxs hd hx hnx hg hxe hdx hrt hroe hrn hA' hke hTb;go_wp2_with fail;clear c0 cg hcell;refine wp_region_held_drew (S:=λ w' =>Fr (λ k=>d.S k∨Bk A' k∨wr.heap.size<=k) wr.drew w') (by kernel_rfl) (Fr.refl _ _) (λ hHeld=> ?_);clear hHeld;refine tA 0 (some 23) rfl (Fr.refl _ _) ?_;refine tA 1 (some 24) rfl (Fr.refl _ _) ?_;refine tA 2 (some 25) rfl (Fr.refl _ _) ?_;refine tA 3 (some 26) rfl (Fr.refl _ _) ?_;refine tL 4 (some 27) (v:= ?vr4) rfl ?yr4 (Fr.refl _ _) ?rr4
     case yr4=>
      intro wq hSw
      (try dsimp only at hSw)
      have hq:=hSw.cell_some C0.out N0.out;go_simp<;>with_reducible rfl
     try simp only [Act.put,sA,sB,sC]
     refine tA 5 (some 28) rfl (Fr.refl _ _) ?_;refine tA 6 (some 29) rfl (Fr.refl _ _) ?_;refine tL 7 (some 30) (v:= ?vr7) rfl ?yr7 (Fr.refl _ _) ?rr7
     case yr7=>
      intro wq hSw
      (try dsimp only at hSw)
      have hq:=hSw.cell_some CG.out NG.out;go_simp<;>with_reducible rfl
     try simp only [Act.put,sA,sB,sC]
     refine tA 8 (some 31) rfl (Fr.refl _ _) ?_;refine tA 9 (some 32) rfl (Fr.refl _ _) ?_;refine tA 10 (some 33) rfl (Fr.refl _ _) ?_;refine tA 11 (some 34) rfl (Fr.refl _ _) ?_;refine tL 12 (some 35) (v:= ?vr12) rfl ?yr12 (Fr.refl _ _) ?rr12
     case yr12=>
      intro wq hSw
      (try dsimp only at hSw)
      have hq:=hSw.cell_some CR.out NR.out;go_simp<;>with_reducible rfl
     try simp only [Act.put,sA,sB,sC]
     refine rW 13 (some 36) rfl λ K hK=> ?_
     go_simp;refine HC.out.mono ?_;rintro e w2 ⟨rfl,S2,hr2,hf2,hs2⟩;have hbd:Below wr.heap.size wr wr.drew:=Below.drew (Below.refl _ _);obtain⟨S3,har,hn3⟩:=(HA.out.later DK.lay hbd).turn DK.lay DK.lay (λ _ _ _ _ q=>q) HXS.out HD.out hr2 hf2 hs2;have HN3:=qH (show Nxt S' S3 wr w2 from hn3.below hbd);have HAR:=qH har;have HRN2:=qH (HRN.out.fr HN3.out.1 (λ b hb=>(HA'.out b hb).2));have HZ2:=qH HN3.out.1.size;have hfr:Fr (λ k=>d.S k∨Bk A' k∨wr.heap.size<=k) wr.drew w2:=hf2.mono (λ b hb=> .inl hb);clear hr2 hf2 hs2 har hn3 hbd;go_wp2_with fail;refine hK.out _ _ hfr (λ hHeld=> ?_);clear hK K hHeld
     try simp only [Act.put,sA,sB,sC]
     refine jac (S':=λ w' =>Fr (λ k=>d.S k∨Bk A' k∨wr.heap.size<=k) w2 w') (λ w' h=>hfr.trans h) ?_;clear hfr;refine rW 14 (some 37) rfl λ K hK=> ?_
     go_simp;have hb:Below w2.heap.size w2 (w2.alloc (.cells #[.int .i64 v] 47)):=(Below.refl _ _).alloc (Nat.le_refl _) _;have hsl:=Sl.made w2 #[.int .i64 v] 47 1 1 rfl (by decide);obtain⟨w4,hw⟩:∃u0,u0=w2.alloc (.cells #[.int .i64 v] 47):=⟨_,rfl⟩;rw [<-hw] at hb hsl ⊢;clear hw;have HSL:=qH hsl;have HB4:=qH hb;have HRN4:=qH (HRN2.out.later hb);have hfr:Fr (λ k=>d.S k∨Bk A' k∨wr.heap.size<=k) w2 w4:=Fr.of_below hb;clear hb hsl;refine hK.out _ _ hfr (λ hHeld=> ?_);clear hK K hHeld
     try simp only [Act.put,sA,sB,sC]
     refine jac (S':=λ w' =>Fr (λ k=>d.S k∨Bk A' k∨wr.heap.size<=k) w4 w') (λ w' h=>hfr.trans h) ?_;clear hfr;refine rW 15 (some 38) rfl λ K hK=> ?_
     refine jbc (o:=⟨some 38,_,_,_,_,_⟩) (.tmp 23) (.tmp 37) 114 114 rfl i0 (.int .i64 0) 8 Tryz.underlying114 Hi.out Hz0.out Hz1.out Hz2.out rfl (by decide) rfl HRN4.out (.slice (some ⟨w2.heap.size,0,none⟩) 1 1) 1 [.int .i64 v] rfl (HSL.out.src Tryz.underlying114 (by decide) (λ u hu=>by simp at hu;rw [hu];rfl)) (by unfold maxLen;omega) (by omega) ?_;intro A5 c5 w5 hrn5 hf5 ho5;have hfr:Fr (λ k=>d.S k∨Bk A' k∨wr.heap.size<=k) w4 w5:=hf5.mono (λ b hb=> .inr (.inl hb));have HRN5:=qH hrn5;have HST:=qH (jgU DK.lay HRN.out HA'.out HNX.out HAR.out HN3.out ((Fr.of_below HB4.out).trans hf5) (ho5.imp id (λ e=>⟨_,e,HB4.out.size⟩)));clear hrn5 hf5 ho5;refine hK.out _ _ hfr (λ hHeld=> ?_);clear hK K hHeld
     try simp only [Act.put,sA,sB,sC]
     refine jac (S':=λ w' =>Fr (λ k=>d.S k∨Bk A' k∨wr.heap.size<=k) w5 w') (λ w' h=>hfr.trans h) ?_;clear hfr;refine tA 16 (some 7) rfl (Fr.refl _ _) ?_;refine tD ?_;go_wp2_with fail;go_roundw
     case rel=>
      refine⟨t+1,k+1,A5,c5,S3,by omega,by go_num,rfl,by omega, ?_, ?_,HST.out.2.2, ?_,HST.out.2.1⟩
      ·rw [jdT HX.out HRT.out h0,List.length_append,<-HKE.out];rfl
      ·rw [jdT HX.out HRT.out h0,jcE,<-HV.out];exact HRN5.out
      ·have:=HST.out.1
       rw [putS,<-jkg (x:=x) HRT.out h0,jdR (F:=putF rs z) HX.out] at this;exact this
     case measure=>simp [intOf];omega
    ·have h0i:¬(0:Int)<(ro.length:Int):=by omega
     have HM:=qH (show AP Rep wr S' A (putS xs rs z (t+1)) by
      rw [putS,jhR HX.out (jm8 HRT.out h0)];exact⟨_,c,ds,HA.out,HXS.out⟩)
     clear hs3 hb3 hc hkr hdS hwt hrep ha hxs hd hx hnx hg hxe hdx hrt hroe hrn hA' hke hTb;go_wp2_with fail;clear c0 cg hcell;go_roundw
     case rel=>
      refine⟨t+1,k,A',c',S',by omega,by go_num,rfl,by omega, ?_, ?_,HA'.out,HM.out,HNX.out⟩
      ·rw [jfx HX.out HRT.out h0];exact HKE.out
      ·rw [jfx HX.out HRT.out h0];exact HRN.out
     case measure=>simp [intOf];omega
   ·obtain rfl:t=q:=by omega
    have HM:=qH (show MutA Rep S A (putS xs rs z t) w wr from ⟨S',ha,hnx⟩);have hC:=jfy hrn.sl (by omega);rw [show (putA xs rs z t).count 0=r from HR.out.symm] at hC;clear hrn hA' ha hnx hke;go_wp2_with fail;refine hC.mono ?_;clear hC;rintro e w3 ⟨rfl,hw3⟩;obtain rfl:wr=w3:=hw3.symm;go_wp2_with fail;go_ret;exact⟨rfl,HM.out⟩
end
end
section
section
variable {α:Type}{enc:List α->List Value}{w w':World}{T U:Nat->Prop}{A:Option Addr}{n c b o:Nat}{f:Nat->Option Addr}{g:Nat->Nat}{rs:List (List α)}
end
section
variable {Rep:World->(Nat->Prop)->Nat->Dv->Prop}{w0 w w':World}{S:Nat->Prop}{A:Nat}{xs ys:List Dv}
end
end
section
section
variable {Rep:World->(Nat->Prop)->Nat->Dv->Prop}{w0 w w':World}{S S' Sb T U:Nat->Prop}{A B:Nat}{xs ys zs:List Dv}
theorem wl_nil (h:∀(i:Nat) (x:Dv),xs[i]? =some x->x.wait= []):Wl 100000 xs:=λ i x hx=>by rw [h i x hx];exact Nat.zero_le _
end
end
end Go.Proofs.YtmhejbihdghhaaaGreatDoor

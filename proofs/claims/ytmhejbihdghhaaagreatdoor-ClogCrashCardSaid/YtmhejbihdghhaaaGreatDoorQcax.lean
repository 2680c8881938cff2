/-
  Plain: what GetRecord answers of what PutRecord answers
-/
import Derived.Test.YtmhejbihdghhaaaGreatDoorQcaw
import Derived.Test.YtmhejbihdghhaaaGreatDoorQcab
import Derived.Test.YtmhejbihdghhaaaGreatDoorQcar
import Derived.Test.YtmhejbihdghhaaaGreatDoorIb
import Derived.Deep.MidRow
import Derived.Test.YtmhejbihdghhaaaGreatDoorLa
import Derived.Test.YtmhejbihdghhaaaGreatDoorQcan
import Derived.Great.BuildSlice
import Derived.Test.YtmhejbihdghhaaaGreatDoorQcas
namespace Go.Proofs.YtmhejbihdghhaaaGreatDoor
set_option linter.unusedVariables false
section
set_option maxRecDepth 20000
theorem jjM (p r t:List UInt8)(m:Int)(hm:(t.length:Int)<=m)(h:t.length<2 ^ 63):jbI (p ++(venc 9 t.length++t)++r) (p.length:Nat) m=(t,p.length +(venc 9 t.length++t).length,0):=by
 have hv:=jfK p (t++r) t.length (by omega);have e:p ++(venc 9 t.length++t)++r=p++venc 9 t.length ++(t++r):=by simp
 unfold jbI;rw [e,hv];rw [if_neg (by simp),if_neg (by show ¬max m 0<((t.length:Nat):Int);omega),if_neg (by simp;omega)];have hd:(p++venc 9 t.length ++(t++r)).drop (p.length +(venc 9 t.length).length)=t++r:=by
  have h:=List.drop_left (l₁:=p++venc 9 t.length) (l₂:=t++r)
  rwa [List.length_append] at h
 show ((List.drop (p.length +(venc 9 t.length).length) _).take t.length,_,_)=_
 rw [hd,List.take_left,List.length_append,Nat.add_assoc]
theorem joh (p r:List UInt8)(n:Nat)(hn:n<2 ^ 64)(right:Nat->Bool)(hr:right n=true):tkG 0 (λ a=>varR (p++venc 9 n++r) ((a:Nat):Int)) right (p.length,0)=(n,((p++venc 9 n).length,0)):=by
 have h:=jfK p r n hn;obtain⟨L,hL⟩:∃L,L=p++venc 9 n++r:=⟨_,rfl⟩;rw [<-hL] at h ⊢;unfold tkG;simp only [h];rw [if_neg (by simp),if_neg (by simp),if_neg (by rw [hr];simp),List.length_append]
theorem joi (p r:List UInt8)(k:ByteArray)(hk:k.size<=16)(right:ByteArray->Bool)(hr:right k=true):tkG ⟨#[]⟩ (gKey (p ++(venc 9 k.size++k.data.toList)++r)) right (p.length,0)=(k,((p ++(venc 9 k.size++k.data.toList)).length,0)):=by
 have hs:k.data.toList.length=k.size:=rfl;have h:=jjM p r k.data.toList 16 (by omega) (by omega);rw [hs] at h;have hb:bstr k.data.toList=k:=rfl;obtain⟨L,hL⟩:∃L,L=p ++(venc 9 k.size++k.data.toList)++r:=⟨_,rfl⟩;rw [<-hL] at h ⊢;unfold tkG gKey;simp only [h,hb];rw [if_neg (by simp),if_neg (by simp),if_neg (by rw [hr];simp),<-List.length_append]
theorem jkC (p r:List UInt8)(n:Nat)(hn:n<=1):tkG 0 (jfU (p ++ [UInt8.ofNat n] ++ r)) (λ x=>decide (x<=1)) (p.length,0)=(n,((p ++ [UInt8.ofNat n]).length,0)):=by
 have h:=jnR p r 1 n (by omega) (by omega);have e:le 1 n= [UInt8.ofNat n]:=by
  rcases(show n=0∨n=1 by omega) with rfl|rfl<;>rfl
 rw [e,Nat.mod_eq_of_lt (by omega)] at h;have h:ja0 (p ++ [UInt8.ofNat n] ++ r) ((p.length:Nat):Int) 1=(n,0):=h;unfold tkG jfU;simp only [h];simp [hn]
theorem jhk (p r:List UInt8)(n most:Nat)(hn:n<2 ^ 64)(hm:n<=most):tk1 (p++venc 9 n++r) most (p.length,0)=(n,((p++venc 9 n).length,0)):=by
 unfold tk1;simp only [jfK p r n hn];rw [if_neg (by simp),if_neg (by simp),if_neg (by omega),List.length_append]
theorem joj (r:List UInt8):∀(ps:List Int) (p:List UInt8),(∀x∈ps,0<=x∧x<=599)->tkN (p ++(ps.flatMap λ x=>venc 9 x.toNat)++r) 599 ps.length (p.length,0)=(ps.map Int.toNat,((p ++(ps.flatMap λ x=>venc 9 x.toNat)).length,0))
 | [],p,_=>by simp [tkN]
 |x::ps,p,h=>by
  have hx:=h x (List.mem_cons_self ..);have h1:=jhk p ((ps.flatMap λ x=>venc 9 x.toNat)++r) x.toNat 599 (by omega) (by omega);have h2:=joj r ps (p++venc 9 x.toNat) (λ y hy=>h y (List.mem_cons_of_mem _ hy));have e:p ++((x::ps).flatMap λ x=>venc 9 x.toNat)++r=p++venc 9 x.toNat ++((ps.flatMap λ x=>venc 9 x.toNat)++r):=by simp
  have e2:p ++((x::ps).flatMap λ x=>venc 9 x.toNat)=p++venc 9 x.toNat ++(ps.flatMap λ x=>venc 9 x.toNat):=by simp
  rw [List.length_cons,tkN,e,h1];dsimp only;rw [<-List.append_assoc,h2,e2]
  rfl
theorem gB_put (p r:List UInt8)(q:Int)(g:Nat)(ps:List Int)(hq:0<=q∧q<=400)(hg:g<2 ^ 64)(hl:ps.length<=400)(hp:∀x∈ps,0<=x∧x<=599):gB (p++jbU q g ps++r) p.length=⟨q.toNat,g,ps.map Int.toNat,(p++jbU q g ps).length,0⟩:=by
 obtain⟨t,ht⟩:∃t,t=ps.flatMap λ x=>venc 9 x.toNat:=⟨_,rfl⟩
 have h1:=jhk p (venc 9 g++venc 9 ps.length++t++r) q.toNat 400 (by omega) (by omega);have h2:=jhk (p++venc 9 q.toNat) (venc 9 ps.length++t++r) g 18446744073709551615 hg (by omega);have h3:=jhk (p++venc 9 q.toNat++venc 9 g) (t++r) ps.length 400 (by omega) hl;have h4:=joj r ps (p++venc 9 q.toNat++venc 9 g++venc 9 ps.length) hp;rw [<-ht] at h4;have e:p++jbU q g ps++r=p++venc 9 q.toNat++venc 9 g++venc 9 ps.length++t++r:=by rw [ht];simp [jbU]
 have e0:p++jbU q g ps=p++venc 9 q.toNat++venc 9 g++venc 9 ps.length++t:=by rw [ht];simp [jbU]
 have e1:p++venc 9 q.toNat ++(venc 9 g++venc 9 ps.length++t++r)=p++venc 9 q.toNat++venc 9 g++venc 9 ps.length++t++r:=by simp
 have e2:p++venc 9 q.toNat++venc 9 g ++(venc 9 ps.length++t++r)=p++venc 9 q.toNat++venc 9 g++venc 9 ps.length++t++r:=by simp
 have e3:p++venc 9 q.toNat++venc 9 g++venc 9 ps.length ++(t++r)=p++venc 9 q.toNat++venc 9 g++venc 9 ps.length++t++r:=by simp
 rw [e1] at h1;rw [e2] at h2;rw [e3] at h3;rw [e,e0];unfold gB;simp only [h1,h2,h3,h4];simp
theorem jok (ps:List Int)(h:∀x∈ps,0<=x∧x<=599):jbB (ps.map Int.toNat)=ps:=by
 rw [jbB,List.map_map];have:∀x∈ps,((λ (n:Nat)=>(n:Int))∘ Int.toNat) x=x:=λ x hx=>by
  have:=h x hx
  show ((x.toNat:Nat):Int)=x
  omega
 rw [List.map_congr_left this,List.map_id']
theorem jir {x:ChF}(h:okC x=true)(hd:x.dead=false):(0<=x.q∧x.q<=400)∧x.ps.length<=400∧∀p∈x.ps,0<=p∧p<=599:=by
 unfold okC at h;rw [hd,if_neg (by simp),Bool.and_eq_true,Bool.not_eq_true',Bool.not_eq_true',Bool.or_eq_false_iff,Bool.or_eq_false_iff] at h;obtain⟨⟨h1,h2,h3⟩,h4⟩:=h;have h1:=of_decide_eq_false h1;have h2:=of_decide_eq_false h2;have h3:=of_decide_eq_false h3;refine⟨⟨by omega,by omega⟩,by omega,λ p hp=> ?_⟩;have h5:=List.any_eq_false.1 h4 p hp;have h6:(decide (p<0)||decide (599<p))=false:=by simpa using h5
 rw [Bool.or_eq_false_iff] at h6;have h7:=of_decide_eq_false h6.1;have h8:=of_decide_eq_false h6.2;omega
theorem jol {x:ChF}(h:okC x=true)(hd:x.dead=true):x=⟨x.key,true, [],0,0⟩:=by
 unfold okC at h;rw [hd,if_pos rfl,Bool.and_eq_true,Bool.and_eq_true] at h;obtain⟨h1,h2,h3⟩:=h;have h1:=of_decide_eq_true h1;have h2:=of_decide_eq_true h2;have h3:=List.eq_nil_of_length_eq_zero (of_decide_eq_true h3);obtain⟨k,d,ps,g,q⟩:=x;subst hd h1 h2 h3
 rfl
theorem jrE (p r:List UInt8)(a:ByteArray)(x:ChF)(hk:gtK x.key a=true)(h16:x.key.size<=16)(hx:okC x=true)(hg:x.g<2 ^ 64):tkC (p++chB x++r) a (p.length,0)=(x,((p++chB x).length,0)):=by
 obtain⟨K,hK⟩:∃K,K=venc 9 x.key.size++x.key.data.toList:=⟨_,rfl⟩
 cases hd:x.dead
 ·obtain⟨h1,h2,h3⟩:=jir hx hd
  have k1:=joi p ([UInt8.ofNat 0] ++ jbU x.q x.g x.ps++r) x.key h16 (λ y=>gtK y a) hk;have k2:=jkC (p++K) (jbU x.q x.g x.ps++r) 0 (by omega);have k3:=gB_put (p++K ++ [UInt8.ofNat 0]) r x.q x.g x.ps h1 hg h2 h3;rw [<-hK] at k1;have e:p++chB x++r=p++K ++ [UInt8.ofNat 0] ++ jbU x.q x.g x.ps++r:=by rw [chB,<-hK,hd];simp
  have e1:p++K ++([UInt8.ofNat 0] ++ jbU x.q x.g x.ps++r)=p++K ++ [UInt8.ofNat 0] ++ jbU x.q x.g x.ps++r:=by simp
  have e2:p++K ++ [UInt8.ofNat 0] ++(jbU x.q x.g x.ps++r)=p++K ++ [UInt8.ofNat 0] ++ jbU x.q x.g x.ps++r:=by simp
  have e3:p++chB x=p++K ++ [UInt8.ofNat 0] ++ jbU x.q x.g x.ps:=by rw [chB,<-hK,hd];simp
  rw [e1] at k1;rw [e2] at k2;rw [e,e3];obtain⟨L,hL⟩:∃L,L=p++K ++ [UInt8.ofNat 0] ++ jbU x.q x.g x.ps++r:=⟨_,rfl⟩;obtain⟨E,hE⟩:∃E,E=(p++K ++ [UInt8.ofNat 0] ++ jbU x.q x.g x.ps).length:=⟨_,rfl⟩;rw [<-hL] at k1 k2 k3 ⊢;rw [<-hE] at k3 ⊢;have k4:tkB L ((p++K ++ [UInt8.ofNat 0]).length,0)=(⟨x.q.toNat,x.g,x.ps.map Int.toNat,E,0⟩,(E,0)):=by
   unfold tkB;simp only [k3];rw [if_neg (by simp),if_neg (by simp)]
  unfold tkC;simp only [k1,k2,k4];rw [if_neg (by simp),jok x.ps h3];have hq:((x.q.toNat:Nat):Int)=x.q:=by omega
  simp only [hq];obtain⟨k,d,ps,g,q⟩:=x
  cases hd
  rfl
 ·have hz:=jol hx hd
  have k1:=joi p ([UInt8.ofNat 1] ++ r) x.key h16 (λ y=>gtK y a) hk;have k2:=jkC (p++K) r 1 (by omega);rw [<-hK] at k1;have e:p++chB x++r=p++K ++ [UInt8.ofNat 1] ++ r:=by rw [chB,<-hK,hd];simp
  have e1:p++K ++([UInt8.ofNat 1] ++ r)=p++K ++ [UInt8.ofNat 1] ++ r:=by simp
  have e3:p++chB x=p++K ++ [UInt8.ofNat 1]:=by rw [chB,<-hK,hd];simp
  rw [e1] at k1;rw [e,e3];obtain⟨L,hL⟩:∃L,L=p++K ++ [UInt8.ofNat 1] ++ r:=⟨_,rfl⟩;rw [<-hL] at k1 k2 ⊢;unfold tkC;simp only [k1,k2];rw [if_pos trivial,<-hz]
theorem jkD (r:List UInt8):∀(cs:List ChF) (p:List UInt8) (a:ByteArray),okCs a cs=true->(∀x∈cs,x.g<2 ^ 64)->tkCs (p++cs.flatMap chB++r) cs.length a (p.length,0)=(cs,((p++cs.flatMap chB).length,0))
 | [],p,a,_,_=>by simp [tkCs]
 |x::cs,p,a,h,hg=>by
  rw [okCs,Bool.and_eq_true,Bool.and_eq_true,Bool.and_eq_true] at h;obtain⟨h1,h2,h3,h4⟩:=h;have k1:=jrE p (cs.flatMap chB++r) a x h1 (of_decide_eq_true h2) h3 (hg x (List.mem_cons_self ..));have k2:=jkD r cs (p++chB x) x.key h4 (λ y hy=>hg y (List.mem_cons_of_mem _ hy));have e:p ++(x::cs).flatMap chB++r=p++chB x ++(cs.flatMap chB++r):=by simp
  have e2:p ++(x::cs).flatMap chB=p++chB x++cs.flatMap chB:=by simp
  rw [List.length_cons,tkCs,e,k1];dsimp only;rw [<-List.append_assoc,k2,e2]
theorem jlW (st:Nat)(hst:st<2 ^ 64)(cs:List ChF)(h:okR cs=true)(hg:∀x∈cs,x.g<2 ^ 64):jbD (putR st cs)=(st,cs,0):=by
 unfold okR at h;rw [Bool.and_eq_true] at h;have hl:=of_decide_eq_true h.1;have k1:=joh [] (venc 9 cs.length++cs.flatMap chB) st hst (λ _=>true) rfl;have k2:=joh (venc 9 st) (cs.flatMap chB) cs.length (by omega) (λ x=>decide (x<=16)) (by simpa using hl);have k3:=jkD [] cs (venc 9 st++venc 9 cs.length) ⟨#[]⟩ h.2 hg;rw [List.append_nil] at k3;rw [List.nil_append,<-List.append_assoc] at k1;have e:putR st cs=venc 9 st++venc 9 cs.length++cs.flatMap chB:=rfl;obtain⟨L,hL⟩:∃L,L=venc 9 st++venc 9 cs.length++cs.flatMap chB:=⟨_,rfl⟩;rw [e];have hE:endE L (L.length,0)=0:=by simp [endE]
 rw [<-hL] at k1 k2 k3 ⊢;have k1:tkG 0 (λ a=>varR L ((a:Nat):Int)) (λ _=>true) (0,0)=(st,((venc 9 st).length,0)):=k1;unfold jbD;simp only [k1,k2,k3,hE]
 rfl
end
section
open Go.RowKit Go.Proofs
abbrev jcP:=Nat × List ChF
def jbk (r:jcP):List UInt8:=putR r.1 r.2
def ok18 (r:jcP):Prop:=r.1<18446744073709551616∧okR r.2=true∧∀c∈r.2,c.g<18446744073709551616
def repL:Nat->List (List UInt8)->List jcP × Nat
 |0,_=>([],0)
 |f+1,l=>if (jaZ l).2.2≠0 then([],0) else if (jbD (jaZ l).1).2.2≠0 then([],0) else(((jbD (jaZ l).1).1,(jbD (jaZ l).1).2.1)::(repL f (l.drop (jaZ l).2.1)).1,(jaZ l).2.1 +(repL f (l.drop (jaZ l).2.1)).2)
def repF (l:List (List UInt8)):List jcP × Nat:=repL (l.length+1) l
theorem jkE {long:Nat}(h0:0<long)(hl:long<65536){r:List (List UInt8)}(hr:(jaZ r).2.2≠0):∀(R:List jcP) (f:Nat),R.length<f->(∀x∈R,ok18 x)->repL f ((R.map jbk).flatMap (cutF long)++r)=(R,((R.map jbk).flatMap (cutF long)).length)
 | [],f,hf,_=>by
  obtain⟨g,rfl⟩:∃g,f=g+1:=⟨f-1,by simp at hf;omega⟩;rw [repL,List.map_nil,List.flatMap_nil,List.nil_append,if_pos hr]
  rfl
 |x::R,f,hf,hx=>by
  obtain⟨g,rfl⟩:∃g,f=g+1:=⟨f-1,by simp at hf;omega⟩;rw [List.length_cons] at hf;obtain⟨h1,h2,h3⟩:=hx x (List.mem_cons_self ..);have e:((x::R).map jbk).flatMap (cutF long)++r=cutF long (jbk x) ++((R.map jbk).flatMap (cutF long)++r):=by rw [List.map_cons,List.flatMap_cons,List.append_assoc]
  have hj:=jn6 h0 hl (jbk x) ((R.map jbk).flatMap (cutF long)++r);have hd:=List.drop_left (l₁:=cutF long (jbk x)) (l₂:=(R.map jbk).flatMap (cutF long)++r);have hg:jbD (jbk x)=(x.1,x.2,0):=jlW x.1 h1 x.2 h2 h3;rw [jeY] at hd;rw [repL,e,hj,if_neg (by simp)];dsimp only;rw [hg,if_neg (by simp),hd,jkE h0 hl hr R g (by omega) (λ y hy=>hx y (List.mem_cons_of_mem _ hy)),List.map_cons,List.flatMap_cons,List.length_append,jeY]
theorem jkF {long:Nat}(R:List jcP):R.length<=((R.map jbk).flatMap (cutF long)).length:=by
 induction R with
 |nil=>simp
 |cons x R ih=>
  rw [List.map_cons,List.flatMap_cons,List.length_append,List.length_cons,jeY];have:=jc6 long (jbk x).length;omega
theorem jkG {long:Nat}(h0:0<long)(hl:long<65536){r:List (List UInt8)}(hr:(jaZ r).2.2≠0)(R:List jcP)(hx:∀x∈R,ok18 x):repF ((R.map jbk).flatMap (cutF long)++r)=(R,((R.map jbk).flatMap (cutF long)).length):=by
 rw [repF];refine jkE h0 hl hr R _ ?_ hx;rw [List.length_append];have:=jkF (long:=long) R;omega
theorem jlX:jaZ []=([],0,170):=rfl
end
section
open Go.RowKit Go.Proofs
structure RvF where
 st:Nat
 A:Option Addr
 c:Nat
 cs:List CvF
def RvF.vals (v:RvF):List Value:= [.int .u64 (v.st:Int), .slice v.A v.cs.length v.c]
def RvF.x (v:RvF):jcP:=(v.st,v.cs.map CvF.x)
def RvF.Ok (w:World)(v:RvF):Prop:=Chs w v.A v.cs.length v.c v.cs
theorem RvF.Ok.below {w w':World}{v:RvF}(h:v.Ok w)(hb:Below w.heap.size w w'):v.Ok w':=Chs.below h hb
def RvF.fit (v:RvF):Prop:=v.st<18446744073709551616∧∀c∈v.cs,c.x.g<18446744073709551616
structure Rcs (w:World)(A:Option Addr)(n c:Nat)(l:List RvF):Prop where
 len:l.length=n
 cap:n<=c
 top:c<=maxLen
 cell:∀(i:Nat) (v:RvF),l[i]? =some v->∃b o,A=some ⟨b,o,none⟩∧(∀(j:Nat) u,v.vals[j]? =some u->w.cell? ⟨b,o+i*2+j,none⟩=some u)∧v.Ok w
theorem Rcs.below {w w':World}{A:Option Addr}{n c:Nat}{l:List RvF}(h:Rcs w A n c l)(hb:Below w.heap.size w w'):Rcs w' A n c l:=
 ⟨h.len,h.cap,h.top,λ i x hx=>by
  obtain⟨b,o,e,h1,h2⟩:=h.cell i x hx;exact⟨b,o,e,λ j u hu=>(hb.cell (p:=⟨b,o+i*2+j,none⟩) (World.block_lt_of_cell? w _ (h1 j u hu))).trans (h1 j u hu),h2.below hb⟩⟩
theorem jfV {w:World}{b o i:Nat}{v:RvF}(h:∀(j:Nat) u,v.vals[j]? =some u->w.cell? ⟨b,o+i*2+j,none⟩=some u):w.rangeAt b (o+i*2) v.vals:=h
theorem jb7 (v:RvF):(Tryz.prog.info? 42).map (·.size)=some v.vals.length:=by show _=some 2;kernel_rfl
theorem jea (v:RvF):∀u∈v.vals,u.oneCell' =true:=λ u hu=>by simp only [RvF.vals,List.mem_cons,List.not_mem_nil,or_false] at hu;rcases hu with rfl|rfl<;>rfl
theorem Rcs.of_rn {w:World}{A:Option Addr}{n c:Nat}{l:List RvF}(h:Rn w A 42 2 n c (l.flatMap RvF.vals))(hl:l.length=n)(hok:∀v∈l,v.Ok w):Rcs w A n c l:=by
 have hs:=h.sl;refine⟨hl,hs.cap,hs.top,λ i v hv=> ?_⟩;have hget:∀(j:Nat) u,v.vals[j]? =some u->(l.flatMap RvF.vals)[i*2+j]? =some u:=λ j u hu=>by
  rw [flat_get (f:=RvF.vals) (k:=2) (λ _=>rfl) hv j (by have:=(List.getElem?_eq_some_iff.1 hu).1;simpa [RvF.vals] using this)];exact hu
 obtain⟨b,o,e,_⟩:=hs.cell _ _ (hget 0 _ rfl);refine⟨b,o,e,λ j u hu=> ?_,hok v (List.mem_of_getElem? hv)⟩;obtain⟨b',o',e',hc⟩:=hs.cell _ _ (hget j u hu);rw [e] at e';injection e' with e'
 injection e' with e1 e2 e3
 subst e1 e2
 rwa [show o +(i*2+j)=o+i*2+j from by omega] at hc
end
section
open Go.ChangeShapes Go.WideShapes Go.ChangeAt Go.RowKit Go.Proofs Go.Deep
set_option maxRecDepth 100000
theorem jis:Tryz.prog.cellsOf 40=1:=by kernel_rfl
section
variable {H:Type}{enc:TypeId × Value->H}{w:World}{base:Nat}{held:Bool}{fuel:Nat}
theorem jp2 {m0:Nat}{c1:Value}{y:DataW H × List MemPlace}(hf:DataW.trod enc Tryz.prog w base (λ _=>true) held m0 40 [c1]=some y):
  ∃(A:Option Addr) (cp:Nat) (vs:List CvF),c1= .slice A vs.length cp∧Chs w A vs.length cp vs∧∀x∈vs,x.x.g<18446744073709551616:=by
 rcases open_slice Tryz.underlying40 hf with ⟨hcs,_⟩|⟨a,len,cap,m,n,d0,pl17,hcs,_,hl,hm,hmm,_,hi⟩
 ·injection hcs with hcs
  subst hcs;exact⟨none,0, [],rfl,⟨rfl,Nat.le_refl _,by decide,λ i x hx=>by simp at hx⟩,λ x hx=>by cases hx⟩
 ·injection hcs with hcs
  subst hcs;simp only [if_true] at hmm;have each:∀i,i<len->∃x:CvF,(∀(j:Nat) u,x.vals[j]? =some u->w.cell? ((a.add (i*5)).add j)=some u)∧x.Ok w∧x.x.g<18446744073709551616:=by
   intro i hi';obtain⟨cs',hc,ht⟩:=hi i (by omega);obtain⟨x,rfl,hx⟩:=jfR ht;rw [jds] at hc;obtain⟨_,_,hat⟩:=World.cells?_some hc;refine⟨x,λ j u hu=> ?_,hx⟩;have hj:j<5:=by
    rcases Nat.lt_or_ge j 5 with h' |h'
    ·exact h'
    ·rw [List.getElem?_eq_none (by simpa [CvF.vals] using h')] at hu;cases hu
   rw [hat j hj,hu]
  obtain⟨y,hy⟩:=choose_lt each;refine⟨some a,cap,(List.range len).map y,by simp,⟨by simp,by simpa using hl,hm,λ i x hx=> ?_⟩,λ x hx=> ?_⟩
  ·have hin:i<len:=by
    rcases Nat.lt_or_ge i len with h' |h'
    ·exact h'
    ·rw [List.getElem?_eq_none (by simpa using h')] at hx;cases hx
   rw [List.getElem?_map,List.getElem?_range hin,Option.map_some] at hx;injection hx with hx
   obtain⟨hcell,hs,_⟩:=hy i hin;rw [hx] at hcell hs;obtain⟨b,o,spot⟩:=a;have hspot:spot=none:=by
    have h0:=(hy 0 (by omega)).1 0 _ rfl
    simpa [Addr.add] using World.cell?_spot h0
   subst hspot;simp only [Addr.add_lit] at hcell;exact⟨b,o,rfl,hcell,hs⟩
  ·obtain⟨i,hi2,rfl⟩:=List.mem_map.1 hx
   exact(hy i (List.mem_range.1 hi2)).2.2
theorem jp3 {cs:List Value}{y:DataW H × List MemPlace}(h:DataW.trod enc Tryz.prog w base (λ _=>true) held fuel 42 cs=some y):
  ∃v:RvF,cs=v.vals∧v.Ok w∧v.fit:=by
 obtain⟨xs,m,_,_,hl,hxl,hf⟩:=DataW.trod_struct Tryz.underlying42 h;rw [jdt] at hl
 match cs,hl with
 | [c0,c1],_=>
  match xs,hxl with
  | [y0,y1],_=>
   have h0:DataW.trod enc Tryz.prog w base (λ _=>true) held m 24 (([c0,c1].drop 0).take (Tryz.prog.cellsOf 24))=some y0:=hf 0 _ rfl;have h1:DataW.trod enc Tryz.prog w base (λ _=>true) held m 40 (([c0,c1].drop 1).take (Tryz.prog.cellsOf 40))=some y1:=hf 1 _ rfl;rw [jfQ] at h0;rw [jis] at h1;obtain⟨a0,e0,_,w0⟩:=DataW.trod_int Tryz.underlying24 (show DataW.trod enc Tryz.prog w base (λ _=>true) held m 24 [c0]=some y0 from h0);obtain⟨A,cp,vs,e1,hc,hg⟩:=jp2 (show DataW.trod enc Tryz.prog w base (λ _=>true) held m 40 [c1]=some y1 from h1);injection e0 with e0
   subst e0 e1;have b0:=bounds_u64 w0;have q0:((a0.toNat:Nat):Int)=a0:=by omega
   exact⟨⟨a0.toNat,A,cp,vs⟩,by rw [RvF.vals];simp only [q0],hc,by show a0.toNat<_;omega,hg⟩
instance:Inhabited RvF:=⟨⟨0,none,0, []⟩⟩
theorem arg_recs18 {v:Value}{d:DataW H}{p:List MemPlace}{r:Reach}{b0:Nat}(hv:Value.okWide Tryz.prog w r b0 59 v)(h:DataW.Trod enc Tryz.prog w base (λ _=>true) held 59 v d p):
  ∃A cp,∃l:List RvF,v= .slice A l.length cp∧Rcs w A l.length cp l∧∀x∈l,x.fit:=by
 obtain⟨a0,len0,cap0,rfl⟩:=okWide_slice Tryz.underlying59 hv;obtain⟨fuel,hf⟩:=h
 rcases open_slice Tryz.underlying59 hf with ⟨hcs,_⟩|⟨a,len,cap,m,n,D,Pl18,hcs,_,hl,hm,hmm,_,hi⟩
 ·simp [Value.cells] at hcs
  obtain⟨rfl,rfl,rfl⟩:=hcs;exact⟨none,0, [],rfl,⟨rfl,Nat.le_refl _,by decide,λ i x hx=>by simp at hx⟩,λ x hx=>by cases hx⟩
 ·simp [Value.cells] at hcs
  obtain⟨rfl,rfl,rfl⟩:=hcs;simp only [if_true] at hmm;have each:∀i,i<len0->∃x:RvF,(∀(j:Nat) u,x.vals[j]? =some u->w.cell? ((a.add (i*2)).add j)=some u)∧x.Ok w∧x.fit:=by
   intro i hi';obtain⟨cs',hc,ht⟩:=hi i (by omega);obtain⟨x,rfl,hx⟩:=jp3 ht;rw [jdt] at hc;obtain⟨_,_,hat⟩:=World.cells?_some hc;refine⟨x,λ j u hu=> ?_,hx⟩;have hj:j<2:=by
    rcases Nat.lt_or_ge j 2 with h' |h'
    ·exact h'
    ·rw [List.getElem?_eq_none (by simpa [RvF.vals] using h')] at hu;cases hu
   rw [hat j hj,hu]
  obtain⟨y,hy⟩:=choose_lt each;refine⟨some a,cap0,(List.range len0).map y,by simp,⟨by simp,by simpa using hl,hm,λ i x hx=> ?_⟩,λ x hx=> ?_⟩
  ·have hin:i<len0:=by
    rcases Nat.lt_or_ge i len0 with h' |h'
    ·exact h'
    ·rw [List.getElem?_eq_none (by simpa using h')] at hx;cases hx
   rw [List.getElem?_map,List.getElem?_range hin,Option.map_some] at hx;injection hx with hx
   obtain⟨hcell,hs,_⟩:=hy i hin;rw [hx] at hcell hs;obtain⟨b,o,spot⟩:=a;have hspot:spot=none:=by
    have h0:=(hy 0 (by omega)).1 0 _ rfl
    simpa [Addr.add] using World.cell?_spot h0
   subst hspot;simp only [Addr.add_lit] at hcell;exact⟨b,o,rfl,hcell,hs⟩
  ·obtain⟨i,hi2,rfl⟩:=List.mem_map.1 hx
   exact(hy i (List.mem_range.1 hi2)).2.2
end
end
section
open Go.RowKit Go.Proofs
set_option maxRecDepth 20000
set_option maxHeartbeats 1600000
def r3c (r:Int × Int × Int):List Value:= [.int .u8 r.1, .int .i64 r.2.1, .int .u64 r.2.2]
theorem jhl (r:Int × Int × Int):(r3c r).length=3:=rfl
theorem jjN (r:Int × Int × Int):∀v∈r3c r,v.oneCell' =true:=by
 intro v hv;simp [r3c] at hv
 rcases hv with rfl|rfl|rfl<;>rfl
theorem jlY:(Tryz.prog.info? 109).map (λ i=>(i.zero,i.size,i.bytes))=some (some (.agg (r3c (0,0,0)).toArray),3,24):=by kernel_rfl
theorem jkH (r:Int × Int × Int):(Tryz.prog.info? 109).map (·.size)=some (r3c r).length:=by
 show _=some 3
 kernel_rfl
theorem jlZ (z:Int)(k:Nat)(hz:z=(k:Int))(hk:k<=600)(w:World):
  (Instr.makeSlice 68 (.int .i64 z) (.int .i64 z)).run Tryz.prog w= .ok (.slice (some ⟨w.heap.size,0,none⟩) k k) (w.alloc (.cells (madeCells (r3c (0,0,0)).toArray (k*3)) 109)):=by
 obtain⟨i0,hi,hz0,hz1,hz2⟩:=info_parts jlY;subst hz;have h:=run_make (P:=Tryz.prog) w 68 109 i0 (.agg (r3c (0,0,0)).toArray) Tryz.underlying68 hi hz0 .i64 .i64 (k:Int) (k:Int) (by omega) (by omega) (by rw [hz2];omega) (by omega);rw [hz1,Int.toNat_natCast] at h;exact h
theorem Rw.refs15 (w:World)(k:Nat)(hk:k<=600):Rw (w.alloc (.cells (madeCells (r3c (0,0,0)).toArray (k*3)) 109)) w.heap.size 109 3 k k ((List.replicate k (0,0,0)).flatMap r3c):=by
 rw [<-jhM jhl (by decide) (0,0,0) (r3c (0,0,0)).toArray List.toList_toArray k];exact Rw.new w _ _ 3 k (size_madeCells _ _) (by unfold maxLen;omega)
theorem Rw.refSet {w:World}{b n cap i:Nat}{l:List (Int × Int × Int)}(h:Rw w b 109 3 n cap (l.flatMap r3c))(hl:l.length=n)(hi:i<n)(r:Int × Int × Int):Rw (w.setCells b (i*3) (r3c r)) b 109 3 n cap ((l.set i r).flatMap r3c):=by
 have h2:=h.store (o:=i*3) (vs:=r3c r) (by rw [jhl];have:(i+1)*3<=n*3:=Nat.mul_le_mul_right _ hi;omega) (jjN r);rw [jhl,jg3 jhl l i r (by rw [hl];exact hi)] at h2;exact h2
theorem jjO {ρ:Operand->Value}{o:Oper}{a b c:Operand}{w:World}{k p g:Int}(ho:o.op= .build 109 #[(0,a),(1,b),(2,c)])(h0:ρ a= .int .u8 k)(h1:ρ b= .int .i64 p)(h2:ρ c= .int .u64 g):
  (execOp ρ o).run Tryz.prog w= .ok (.value (.agg (r3c (k,p,g)).toArray)) w:=by
 have hb:Tryz.prog.built 109 [(0, .int .u8 k),(1, .int .i64 p),(2, .int .u64 g)]=some #[.int .u8 k, .int .i64 p, .int .u64 g]:=by kernel_rfl
 have h:=run_build w 109 #[(0, .int .u8 k),(1, .int .i64 p),(2, .int .u64 g)] _ hb;unfold execOp;simp [ho,h0,h1,h2,h,Result.andThen,r3c]
end
section
open Go.RowKit Go.Proofs
set_option maxRecDepth 20000
set_option maxHeartbeats 1600000
def arV (A C o sl e:Nat):List Value:= [.pointer (some ⟨A,0,none⟩), .pointer (some ⟨C,0,none⟩), .int .i64 (o:Int), .int .i64 (sl:Int), .int .u64 (e:Int)]
def LgB (w:World)(P A C o sl e u:Nat):Prop:=w.heap[P]? =some (.cells #[.pointer (some ⟨A,0,none⟩), .pointer (some ⟨C,0,none⟩), .int .i64 (o:Int), .int .i64 (sl:Int), .int .u64 (e:Int), .int .i64 (u:Int)] 84 (0,0))
section
variable {w w':World}{P A C o sl e u:Nat}
theorem LgB.c0 (h:LgB w P A C o sl e u):w.cell? ⟨P,0,none⟩=some (.pointer (some ⟨A,0,none⟩)):=by rw [cell_of_row _ _ _ _ _ _ h];rfl
theorem LgB.c1 (h:LgB w P A C o sl e u):w.cell? ⟨P,1,none⟩=some (.pointer (some ⟨C,0,none⟩)):=by rw [cell_of_row _ _ _ _ _ _ h];rfl
theorem LgB.c3 (h:LgB w P A C o sl e u):w.cell? ⟨P,3,none⟩=some (.int .i64 (sl:Int)):=by rw [cell_of_row _ _ _ _ _ _ h];rfl
theorem LgB.c4 (h:LgB w P A C o sl e u):w.cell? ⟨P,4,none⟩=some (.int .u64 (e:Int)):=by rw [cell_of_row _ _ _ _ _ _ h];rfl
theorem LgB.c5 (h:LgB w P A C o sl e u):w.cell? ⟨P,5,none⟩=some (.int .i64 (u:Int)):=by rw [cell_of_row _ _ _ _ _ _ h];rfl
theorem LgB.free (h:LgB w P A C o sl e u)(j:Nat):w.frozen? ⟨P,j,none⟩=false:=frozen_of_row _ _ _ _ _ h
theorem LgB.lt (h:LgB w P A C o sl e u):P<w.heap.size:=block_lt h
theorem LgB.fr {U:Nat->Prop}(h:LgB w P A C o sl e u)(hf:Fr U w w')(hU:¬U P):LgB w' P A C o sl e u:=hf.row_some h hU
theorem LgB.later (h:LgB w P A C o sl e u)(hb:Below w.heap.size w w'):LgB w' P A C o sl e u:=(hb.block _ (block_lt h)).trans h
theorem LgB.area (h:LgB w P A C o sl e u):w.rangeAt P 0 (arV A C o sl e):=by
 intro j v hv;rw [cell_of_row _ _ _ _ _ _ h]
 match j,hv with
 |0,hv=>exact hv
 |1,hv=>exact hv
 |2,hv=>exact hv
 |3,hv=>exact hv
 |4,hv=>exact hv
 |j+5,hv=>simp [arV] at hv
theorem ja5 (A C o sl e:Nat):(Tryz.prog.info? 82).map (·.size)=some (arV A C o sl e).length:=by show _=some 5;kernel_rfl
end
section
variable {w w':World}{P A C o sl e u:Nat}
theorem jbw (h:LgB w P A C o sl e u):Calls Tryz.prog 49 #[.pointer (some ⟨P,0,none⟩)] w λ e' w' =>e' = .returned (.bool true)∧w' =w:=by
 have h0:=h.c0;clear h;go_enter Tryz.func49,Tryz.ntmps49;go_wp2_with fail;go_ret;exact⟨rfl,rfl⟩
theorem jit (h:LgB w P A C o sl e u):Calls Tryz.prog 32 #[.pointer (some ⟨P,0,none⟩)] w λ e' w' =>e' = .returned (.int .i64 (u:Int))∧w' =w:=by
 have h5:=h.c5;have hm:=jbw h;clear h;go_enter Tryz.func32,Tryz.ntmps32;go_wp2_with fail;refine hm.mono ?_;clear hm;rintro e' w2 ⟨rfl,rfl⟩;go_wp2_with fail;go_ret;exact⟨rfl,rfl⟩
theorem jfW (h:LgB w P A C o sl e u)(hu:u<=sl)(hs:sl<=64):Calls Tryz.prog 33 #[.pointer (some ⟨P,0,none⟩)] w λ e' w' =>e' = .returned (.int .i64 ((sl-u:Nat):Int))∧Below w.heap.size w w':=by
 have h5:=h.c5;have h3:=h.c3;have hm:=jbw h;clear h;go_enter Tryz.func33,Tryz.ntmps33;go_wp2_with fail;refine hm.mono ?_;clear hm;rintro e' w2 ⟨rfl,hw⟩;obtain rfl:w=w2:=hw.symm;go_wp2_with fail;go_quiet (fail);go_wp2_with fail;go_ret;refine⟨?_,below_drewN (Below.refl _ _) _⟩;go_num
theorem jl0 (h:LgB w P A C o sl e u):Calls Tryz.prog 34 #[.pointer (some ⟨P,0,none⟩)] w λ e' w' =>e' = .returned (.int .u64 (e:Int))∧w' =w:=by
 have h4:=h.c4;have hm:=jbw h;clear h;go_enter Tryz.func34,Tryz.ntmps34;go_wp2_with fail;refine hm.mono ?_;clear hm;rintro e' w2 ⟨rfl,rfl⟩;go_wp2_with fail;go_ret;exact⟨rfl,rfl⟩
def nmV (o e:Nat)(i:Nat):Value:= .agg #[.int .u8 2, .int .i64 ((o+i:Nat):Int), .int .u64 (genN e (i:Int):Int)]
theorem jfX (A C o sl e i:Nat)(ho:o<=600)(hi:i<=64)(he:e<1099511627776)(w:World):Calls Tryz.prog 53 #[.agg (arV A C o sl e).toArray, .int .i64 (i:Int)] w λ e' w' =>e' = .returned (nmV o e i)∧Below w.heap.size w w':=by
 have hg:=λ W=>jq9 e (i:Int) (by omega) (by omega) (by omega) W
 have sz:=qH (jkH (2,((o:Int) +(i:Int)),(genN e (i:Int):Int)));have HE:=qH he;have hb:Below w.heap.size w ((w.alloc (.cells (arV A C o sl e).toArray 82)).alloc (.cells #[.int .u8 2, .int .i64 ((o:Int) +(i:Int)), .int .u64 (genN e (i:Int):Int)] 109)):=((Below.refl _ _).alloc (Nat.le_refl _) _).alloc (by simp) _;have hx:=heap_alloc_new (w.alloc (.cells (arV A C o sl e).toArray 82)) (.cells #[.int .u8 2, .int .i64 ((o:Int) +(i:Int)), .int .u64 (genN e (i:Int):Int)] 109);have HB:=qH hb;have HX:=qH hx;clear he hb hx;unfold arV at HB HX ⊢;go_enter Tryz.func53,Tryz.ntmps53;go_wp2_with fail;refine(hg _).mono ?_;clear hg;rintro e' w2 ⟨rfl,hw⟩;subst hw;obtain⟨W,hW⟩:∃W,W=w.alloc (.cells #[.pointer (some ⟨A,0,none⟩), .pointer (some ⟨C,0,none⟩), .int .i64 (o:Int), .int .i64 (sl:Int), .int .u64 (e:Int)] 82):=⟨_,rfl⟩;have hz:w.heap.size+1=W.heap.size:=by rw [hW];simp
 have hc2:(W.alloc (.cells #[.int .u8 0, .int .i64 0, .int .u64 0] 109)).cell? ⟨w.heap.size,2,none⟩=some (.int .i64 (o:Int)):=by rw [hW];simp [go_sem]
 rw [<-hW] at HB HX ⊢;rw [hz];clear hW hz;go_wp2_with (first
  |(refine jaj (d:=19) ?_;refine jad (o:=⟨some 19,_,_,_,_,_⟩) (by rfl) _ _ (jjO (a:= .const (.int .u8 2)) (b:= .tmp 17) (c:= .tmp 18) rfl rfl rfl rfl) ?_)
  |(refine jek ?_;refine wpList_store_row (o:=⟨none,_,_,_,_,_⟩) rfl 109 (.tmp 4) (.tmp 19) rfl W.heap.size #[.int .u8 2, .int .i64 ((o:Int) +(i:Int)), .int .u64 (genN e (i:Int):Int)] rfl rfl 109 _ (heap_alloc_last _ _) sz.out rfl (all_oneCell_toArray (jjN (2,(o:Int) +(i:Int),(genN e (i:Int):Int)))) ?_;rw [World.setRow_alloc_new]))
 refine bodyPost_ret (results_cell_row Tryz.results53 _ _ W.heap.size 109 _ (0,0) _ rfl HX.out Tryz.underlying109 rfl sz.out) rfl ?_;exact⟨by rw [nmV,Int.natCast_add],HB.out⟩
end
end
section
open Go.RowKit Go.Proofs
open Go.RowKit Go.Proofs
section
section
variable {xs:List Dv}{k n N p g g':Nat}{kd kd':UInt8}{b b':List UInt8}{G:Nat->Bool}
theorem jrF (hl:xs.length=n)(h:∀(d:Nat) (x:Dv),xs[d]? =some x->x.gone=false):∀(d:Nat) (x:Dv),(jaL xs n)[d]? =some x->x.gone=false:=λ d x hq=>by
 have hd:=jaF hq;rw [jaL,jaw] at hd;have hy:xs[d]? =some (xs[d]):=List.getElem?_eq_getElem hd;rw [jaL,jaV hy,if_pos (by omega)] at hq;injection hq with hq
 rw [<-hq,Dv.flush1,if_neg (by rw [h d _ hy];decide),Dv.flush_gone];exact h d _ hy
theorem jbp:(jaL xs n).length=xs.length:=jaw
theorem jct:(jaS k n kd p g b xs).length=xs.length:=jaw
theorem Idle.wl0 {c:Nat}(h:Idle xs):Wl c xs:=λ d x hx=>by rw [h d x hx];exact Nat.zero_le _
end
end
section
theorem jiu {n:Nat}:cntG n (λ _=>false)=0:=by
 unfold cntG;rw [List.countP_eq_zero];intro d _;simp
section
variable {xs:List Dv}{k n N p g g':Nat}{kd kd':UInt8}{b b':List UInt8}{G:Nat->Bool}
theorem Str.other (h:Str xs k n N kd p g b G)(hd:∀(d:Nat) (x:Dv),xs[d]? =some x->G d=true∨x.gone=true)(hk:1<=k)(hr:RefOk kd p g b.length (44*k))(hne:kd≠kd' ∨g≠g'):Str xs k n N kd' p g' b' (λ _=>false):=
 ⟨h.len,λ d x hx=>by
  have hi:=h.at_ d x hx;refine⟨hi.ok,hi.n,λ e=>(by cases e),λ _=> ?_⟩
  rcases hd d x hx with q|q
  ·obtain⟨h1,h2⟩:=hi.yes q
   exact .inr (by rw [h2];exact jlC hr (jaX hk) hne)
  ·exact .inl q⟩
def Nought (xs:List Dv)(N p:Nat):Prop:=∀(d:Nat) (x:Dv),xs[d]? =some x->x.Ok∧x.n=N∧x.gone=false∧x.look p=full 0
theorem Nought.new (hp:p<N):Nought (List.replicate n (Dv.new N)) N p:=λ d x hx=>by
 rw [List.getElem?_replicate] at hx
 split at hx
 ·injection hx with hx
  rw [<-hx];exact⟨Dv.new_ok N,Dv.new_n N,rfl,Dv.new_look hp⟩
 ·cases hx
theorem Nought.put {o:Nat}(h:Nought xs N p)(ho:o<N)(hne:o≠p)(hk:1<=k)(hr:RefOk kd o g b.length (44*k)):Nought (jaS k n kd o g b xs) N p:=λ d x hx=>by
 have hd:=jaF hx;rw [jct] at hd;have hy:xs[d]? =some (xs[d]):=List.getElem?_eq_getElem hd;obtain⟨h1,h2,h3,h4⟩:=h d _ hy;rw [jaS,jaV hy] at hx;injection hx with hx
 rw [<-hx]
 split
 ·have hw:=Dv.write_yes h3 (jcO h2 ho) (jcr (n:=n) (b:=b) (d:=d) hk hr)
  exact⟨h1.write _ _,by rw [hw];exact h2,by rw [hw];exact h3,by rw [Dv.look_write h3 (jcO h2 ho) (jcr hk hr),Int.toNat_natCast,if_neg hne];exact h4⟩
 ·exact⟨h1,h2,h3,h4⟩
theorem Nought.flush (h:Nought xs N p)(hp:p<N):Nought (jaL xs n) N p:=λ d x hx=>by
 have hd:=jaF hx;rw [jbp] at hd;have hy:xs[d]? =some (xs[d]):=List.getElem?_eq_getElem hd;obtain⟨h1,h2,h3,h4⟩:=h d _ hy;rw [jaL,jaV hy] at hx;injection hx with hx
 rw [<-hx]
 split
 ·rw [Dv.flush1,if_neg (by rw [h3];decide)]
  exact⟨h1.flush,by rw [Dv.flush_n];exact h2,by rw [Dv.flush_gone];exact h3,by rw [Dv.flush_look h1 h3 (by omega)];exact h4⟩
 ·exact⟨h1,h2,h3,h4⟩
theorem Str.aside13 {o:Nat}(h:Str xs k n N kd p g b G)(ho:o<N)(hne:o≠p)(hk:1<=k)(hr:RefOk kd' o g' b'.length (44*k)):Str (jaS k n kd' o g' b' xs) k n N kd p g b G:=
 h.each λ d x hx _=>(h.at_ d x hx).aside ho hne (jcr hk hr)
theorem jbK {kss:List (List Bool)}:(jbC xs kss n).length=xs.length:=jaw
theorem jfY {kss:List (List Bool)}(hl:xs.length=n):Idle (jbC xs kss n):=λ d x hx=>by
 have hd:=jaF hx;rw [jbK] at hd;have hy:xs[d]? =some (xs[d]):=List.getElem?_eq_getElem hd;rw [jbC,jaV hy,if_pos (by omega)] at hx;injection hx with hx
 rw [<-hx]
 rfl
end
end
end
section
open Go.RowKit Go.Proofs
section
variable {xs:List Dv}{k n N:Nat}{kd:UInt8}{p g:Nat}{b:List UInt8}{G H:Nat->Bool}
theorem Str.nought (h:Nought xs N p)(hl:xs.length=n):Str xs k n N kd p g b (λ _=>false):=⟨hl,λ d x hx=>by
 obtain⟨h1,h2,h3,h4⟩:=h d x hx;exact⟨h1,h2,λ e=>(by cases e),λ _=> .inr (by rw [h4];exact jnV)⟩⟩
structure Pls (xs:List Dv)(k n N:Nat)(f:Nat->Option (Nat × List UInt8)):Prop where
 len:xs.length=n
 live:∀(d:Nat) (x:Dv),xs[d]? =some x->x.Ok∧x.n=N∧x.gone=false
 no:∀p,p<N->f p=none->Nought xs N p
 yes:∀p g b,p<N->f p=some (g,b)->RefOk 2 p g b.length (44*k)∧Str xs k n N 2 p g b (λ _=>true)
theorem Pls.new:Pls (List.replicate n (Dv.new N)) k n N (λ _=>none):=
 ⟨List.length_replicate ..,(λ d x hx=>by
  rw [List.getElem?_replicate] at hx
  split at hx
  ·injection hx with hx
   rw [<-hx];exact⟨Dv.new_ok N,Dv.new_n N,rfl⟩
  ·cases hx),(λ p hp _=>Nought.new hp),(λ p g b _ e=>(by cases e))⟩
variable {f:Nat->Option (Nat × List UInt8)}
theorem Pls.put (h:Pls xs k n N f)(hk:1<=k)(hp:p<N)(hr:RefOk 2 p g b.length (44*k)):Pls (jaS k n 2 p g b xs) k n N (λ q=>if q=p then some (g,b) else f q):=by
 refine⟨by rw [jct,h.len],λ d x hx=> ?_,λ q hq e=> ?_,λ q g' b' hq e=> ?_⟩
 ·have hd:=jaF hx
  rw [jct] at hd;have hy:xs[d]? =some (xs[d]):=List.getElem?_eq_getElem hd;obtain⟨h1,h2,h3⟩:=h.live d _ hy;have hw:=Dv.write_yes h3 (jcO h2 hp) (jcr (n:=n) (b:=b) (d:=d) hk hr);rw [jaS,jaV hy,if_pos (by have:=h.len;omega)] at hx;injection hx with hx
  rw [<-hx];exact⟨h1.write _ _,by rw [hw];exact h2,by rw [hw];exact h3⟩
 ·have e:(if q=p then some (g,b) else f q)=none:=e
  by_cases hqp:q=p
  ·rw [if_pos hqp] at e;cases e
  ·rw [if_neg hqp] at e
   exact(h.no q hq e).put hp (λ hh=>hqp hh.symm) hk hr
 ·have e:(if q=p then some (g,b) else f q)=some (g',b'):=e
  by_cases hqp:q=p
  ·rw [if_pos hqp] at e
   injection e with e
   injection e with e1 e2
   subst hqp e1 e2;refine⟨hr,(Str.put h.len (λ d x hx=>⟨(h.live d x hx).1,(h.live d x hx).2.1⟩) hk hr hp).congr λ d hd=> ?_⟩;have hy:xs[d]? =some (xs[d]'(by rw [h.len];exact hd)):=List.getElem?_eq_getElem _;rw [jhc hy,(h.live d _ hy).2.2]
   rfl
  ·rw [if_neg hqp] at e
   obtain⟨h1,h2⟩:=h.yes q g' b' hq e;exact⟨h1,h2.aside13 hp (λ hh=>hqp hh.symm) hk hr⟩
theorem Pls.flush (h:Pls xs k n N f):Pls (jaL xs n) k n N f:=by
 refine⟨by rw [jbp,h.len],λ d x hx=> ?_,λ q hq e=>(h.no q hq e).flush hq,λ q g' b' hq e=>⟨(h.yes q g' b' hq e).1,(h.yes q g' b' hq e).2.flush hq⟩⟩;have hd:=jaF hx;rw [jbp] at hd;have hy:xs[d]? =some (xs[d]):=List.getElem?_eq_getElem hd;obtain⟨h1,h2,h3⟩:=h.live d _ hy;rw [jaL,jaV hy,if_pos (by have:=h.len;omega)] at hx;injection hx with hx
 rw [<-hx,Dv.flush1,if_neg (by rw [h3];decide)];exact⟨h1.flush,by rw [Dv.flush_n];exact h2,by rw [Dv.flush_gone];exact h3⟩
theorem Pls.none_at (h:Pls xs k n N f)(hk:1<=k)(hp:p<N)(hf:∀b',f p≠some (g,b')):Str xs k n N 2 p g b (λ _=>false):=by
 cases e:f p with
 |none=>exact Str.nought (h.no p hp e) h.len
 |some q=>
  obtain⟨g',b'⟩:=q;obtain⟨h1,h2⟩:=h.yes p g' b' hp e;exact h2.other (λ d x hx=> .inl rfl) hk h1 (.inr λ hg=>hf b' (by rw [e,hg]))
def jbq (k n o e:Nat):List (List UInt8)->Nat->List Dv->List Dv
 | [],_,xs=>xs
 |b::r,u,xs=>jbq k n o e r (u+1) (jaS k n 2 (o+u) (genN e (u:Int)) b xs)
def jer (o e:Nat):List (List UInt8)->Nat->(Nat->Option (Nat × List UInt8))->Nat->Option (Nat × List UInt8)
 | [],_,f=>f
 |b::r,u,f=>jer o e r (u+1) (λ q=>if q=o+u then some (genN e (u:Int),b) else f q)
theorem jiv {k p g z:Nat}(hp:p<65536)(hg:g<18446744073709551616)(hz:z<=44*k)(hk:k<=1000):RefOk 2 p g z (44*k):=⟨by decide,by decide,hp,hg,hz,by omega⟩
theorem Pls.puts {o e:Nat}(hk:1<=k)(hk2:k<=1000)(hN:N<=65536):∀(ps:List (List UInt8)) (u:Nat) (xs:List Dv) (f:Nat->Option (Nat × List UInt8)),Pls xs k n N f->o+u+ps.length<=N->(∀b∈ps,b.length<=44*k)->Pls (jbq k n o e ps u xs) k n N (jer o e ps u f)
 | [],_,_,_,h,_,_=>h
 |b::r,u,xs,f,h,hn,hb=>by
  rw [List.length_cons] at hn;exact Pls.puts hk hk2 hN r (u+1) _ _ (h.put hk (by omega) (jiv (by omega) (jc1 _ _) (hb b (List.mem_cons_self ..)) hk2)) (by omega) λ x hx=>hb x (List.mem_cons_of_mem _ hx)
theorem jcu {o e:Nat}:∀(ps:List (List UInt8)) (u:Nat) (xs:List Dv),(jbq k n o e ps u xs).length=xs.length
 | [],_,_=>rfl
 |b::r,u,xs=>by rw [jbq,jcu,jct]
theorem jbx {o e:Nat}:∀(ps:List (List UInt8)) (u:Nat) (f:Nat->Option (Nat × List UInt8)) (q:Nat),q<o+u∨o+u+ps.length<=q->jer o e ps u f q=f q
 | [],_,_,_,_=>rfl
 |b::r,u,f,q,h=>by
  rw [List.length_cons] at h;rw [jer,jbx r (u+1) _ q (by omega)];exact if_neg (by omega)
theorem jeb {o e:Nat}:∀(ps:List (List UInt8)) (u:Nat) (f:Nat->Option (Nat × List UInt8)) (i:Nat) (b:List UInt8),ps[i]? =some b->jer o e ps u f (o+u+i)=some (genN e ((u+i:Nat):Int),b)
 | [],_,_,_,_,h=>by simp at h
 |c::r,u,f,0,b,h=>by
  simp at h;subst h;rw [jer,jbx r (u+1) _ _ (by omega)];exact if_pos rfl
 |c::r,u,f,i+1,b,h=>by
  rw [List.getElem?_cons_succ] at h;have h2:=jeb (o:=o) (e:=e) r (u+1) (λ q=>if q=o+u then some (genN e (u:Int),c) else f q) i b h;rw [jer,show o+u +(i+1)=o +(u+1)+i from by omega,h2,show u+1+i=u +(i+1) from by omega]
theorem jom {e e':Nat}{i:Nat}(he:e<1099511627776)(he':e' <1099511627776)(hi:i<1048576)(hne:e≠e'):genN e (i:Int)≠genN e' (i:Int):=by
 rw [genN,if_pos ⟨he,by omega,by omega⟩,genN,if_pos ⟨he',by omega,by omega⟩,Int.toNat_natCast];omega
structure Got (xs:List Dv)(k n N o e slots:Nat)(P:List (List UInt8)):Prop where
 len:P.length<=slots
 yes:∀(i:Nat) (b:List UInt8),P[i]? =some b->∃G,RefOk 2 (o+i) (genN e (i:Int)) b.length (44*k)∧Str xs k n N 2 (o+i) (genN e (i:Int)) b G∧k<=cntG n G
 no:P.length<slots->∃(b:List UInt8) (G:Nat->Bool),RefOk 2 (o+P.length) (genN e (P.length:Int)) b.length (44*k)∧Str xs k n N 2 (o+P.length) (genN e (P.length:Int)) b G∧¬k<=cntG n G
theorem Pls.got {o e slots:Nat}{P:List (List UInt8)}(h:Pls xs k n N f)(hk:1<=k)(hkn:k<=n)(hk2:k<=1000)(hN:N<=65536)(ho:o+slots<=N)(hl:P.length<=slots)(hy:∀(i:Nat) (b:List UInt8),P[i]? =some b->f (o+i)=some (genN e (i:Int),b))(hn:P.length<slots->∀b,f (o+P.length)≠some (genN e (P.length:Int),b)):Got xs k n N o e slots P:=
 ⟨hl,λ i b hb=>by
  have hi:i<P.length:=jaF hb;obtain⟨h1,h2⟩:=h.yes (o+i) _ b (by omega) (hy i b hb);exact⟨_,h1,h2,by rw [jha (λ _ _=>rfl)];exact hkn⟩,λ hlt=>⟨[],λ _=>false,jiv (by omega) (jc1 _ _) (by simp) hk2,h.none_at hk (by omega) (hn hlt),by rw [jiu];omega⟩⟩
end
end
section
open Go.RowKit Go.Proofs
def jby (k:Nat)(r:jcP):Nat:=if okR r.2=true then jbT (44*k-7) (jbk r).length else 0
def jaA (k:Nat)(r:jcP):List (List UInt8):=cutF (44*k-7) (jbk r)
theorem jbz (k:Nat)(r:jcP):(jaA k r).length=jbT (44*k-7) (jbk r).length:=jeY _ _
theorem jes {k:Nat}(hk:1<=k)(hk2:k<=1000)(R:List jcP)(hx:∀x∈R,ok18 x):repF (R.flatMap (jaA k))=(R,(R.flatMap (jaA k)).length):=by
 have h:=jkG (long:=44*k-7) (by omega) (by omega) (r:= []) (by rw [jlX];decide) R hx;rw [List.append_nil] at h;have e:R.flatMap (jaA k)=(R.map jbk).flatMap (cutF (44*k-7)):=by
  rw [List.flatMap_map];rfl
 rw [e];exact h
structure LgK (Rep:World->(Nat->Prop)->Nat->Dv->Prop)(Lg:World->Nat->Nat->Nat->Nat->Nat->Nat->Nat->Prop):Prop where
 fr:∀{w w':World} {P A C o sl e u:Nat} {U:Nat->Prop},Lg w P A C o sl e u->Fr U w w' ->¬U P->Lg w' P A C o sl e u
 lt:∀{w:World} {P A C o sl e u:Nat},Lg w P A C o sl e u->P<w.heap.size
 new:∀{w:World} {S:Nat->Prop} {A C k m F T N:Nat} {xs:List Dv} (o sl e:Nat),Ac13 Rep w S A C k m F T N xs->1<=sl->sl<=64->o+sl<=N->N<=600->e<1099511627776->
  Calls Tryz.prog 13 #[.pointer (some ⟨A,0,none⟩), .pointer (some ⟨C,0,none⟩), .int .i64 (o:Int), .int .i64 (sl:Int), .int .u64 (e:Int)] w λ e' w' =>∃P,e' = .returned (.pointer (some ⟨P,0,none⟩))∧w.heap.size<=P∧Lg w' P A C o sl e 0∧Below w.heap.size w w'
 need:∀{w:World} {S:Nat->Prop} {A C k m F T N P o sl e u:Nat} {xs:List Dv} (v:RvF),Ac13 Rep w S A C k m F T N xs->Lg w P A C o sl e u->v.Ok w->v.fit->
  Calls Tryz.prog 15 #[.pointer (some ⟨P,0,none⟩), .agg v.vals.toArray] w λ e' w' =>e' = .returned (.int .i64 (jby k v.x:Nat))∧Below w.heap.size w w'
 left:∀{w:World} {P A C o sl e u:Nat},Lg w P A C o sl e u->u<=sl->sl<=64->
  Calls Tryz.prog 33 #[.pointer (some ⟨P,0,none⟩)] w λ e' w' =>e' = .returned (.int .i64 ((sl-u:Nat):Int))∧Below w.heap.size w w'
 used:∀{w:World} {P A C o sl e u:Nat},Lg w P A C o sl e u->u<=sl->sl<=64->
  Calls Tryz.prog 32 #[.pointer (some ⟨P,0,none⟩)] w λ e' w' =>e' = .returned (.int .i64 (u:Int))∧Below w.heap.size w w'
 epoch:∀{w:World} {P A C o sl e u:Nat},Lg w P A C o sl e u->e<1099511627776->
  Calls Tryz.prog 34 #[.pointer (some ⟨P,0,none⟩)] w λ e' w' =>e' = .returned (.int .u64 (e:Int))∧Below w.heap.size w w'
 refs:∀{w:World} {P A C o sl e u:Nat},Lg w P A C o sl e u->u<=sl->sl<=64->o<=600->e<1099511627776->
  Calls Tryz.prog 36 #[.pointer (some ⟨P,0,none⟩)] w λ e' w' =>∃A' c',e' = .returned (.slice A' u c')∧Below w.heap.size w w'
 append:∀{w:World} {S:Nat->Prop} {A C k m F T N P o sl e u:Nat} {xs:List Dv} {f:Nat->Option (Nat × List UInt8)} (v:RvF),Ac13 Rep w S A C k m F T N xs->Pls xs k (k+m) N f->Wl 900 xs->¬S P->Lg w P A C o sl e u->u<=sl->sl<=64->o+sl<=N->N<=600->e<1099511627776->v.Ok w->v.fit->okR v.x.2=true->jby k v.x<=sl-u->
  Calls Tryz.prog 17 #[.pointer (some ⟨P,0,none⟩), .agg v.vals.toArray] w λ e' w' =>e' = .returned (.int .i64 0)∧∃S',Ac13 Rep w' S' A C k m F T N (jbq k (k+m) o e (jaA k v.x) u xs)∧Nxt (λ b=>S b∨b=P) (λ b=>S' b∨b=P) w w' ∧¬S' P∧Lg w' P A C o sl e (u+jby k v.x)
 appendNo:∀{w:World} {S:Nat->Prop} {A C k m F T N P o sl e u:Nat} {xs:List Dv} (v:RvF),Ac13 Rep w S A C k m F T N xs->Lg w P A C o sl e u->u<=sl->sl<=64->v.Ok w->v.fit->¬(okR v.x.2=true∧jby k v.x<=sl-u)->
  Calls Tryz.prog 17 #[.pointer (some ⟨P,0,none⟩), .agg v.vals.toArray] w λ e' w' =>e' = .returned (.int .i64 (if okR v.x.2=true then 6 else 2))∧Below w.heap.size w w'
 replay:∀{w:World} {S:Nat->Prop} {A C k m F T N:Nat} {xs:List Dv} {R:List (List UInt8)} (o sl e:Nat),Ac13 Rep w S A C k m F T N xs->1<=sl->sl<=64->o+sl<=N->N<=600->e<1099511627776->Got xs k (k+m) N o e sl R->
  Calls Tryz.prog 29 #[.pointer (some ⟨A,0,none⟩), .pointer (some ⟨C,0,none⟩), .int .i64 (o:Int), .int .i64 (sl:Int), .int .u64 (e:Int)] w λ e' w' =>∃A' c' vs,e' = .returned (.tuple #[.slice A' vs.length c', .int .i64 ((repF R).2:Int)])∧Rcs w' A' vs.length c' vs∧vs.map RvF.x=(repF R).1∧Below w.heap.size w w'
section
variable {Rep:World->(Nat->Prop)->Nat->Dv->Prop}{Lg:World->Nat->Nat->Nat->Nat->Nat->Nat->Nat->Prop}{w0 w w':World}{S:Nat->Prop}{A C k m F T N P o sl e u:Nat}{xs ys:List Dv}
structure Lo18 (Rep:World->(Nat->Prop)->Nat->Dv->Prop)(Lg:World->Nat->Nat->Nat->Nat->Nat->Nat->Nat->Prop)(w0 w:World)(S:Nat->Prop)(A C k m F T N:Nat)(xs:List Dv)(P o sl e u:Nat):Prop where
 lc:Lc13 Rep w0 w S A C k m F T N xs
 lg:Lg w P A C o sl e u
 ns:¬S P
 lo:w0.heap.size<=P
theorem Lo18.later (DK:DrvK Rep)(LK:LgK Rep Lg)(h:Lo18 Rep Lg w0 w S A C k m F T N xs P o sl e u)(hb:Below w.heap.size w w'):Lo18 Rep Lg w0 w' S A C k m F T N xs P o sl e u:=
 ⟨h.lc.later DK hb,LK.fr h.lg (Fr.of_below hb:Fr (λ _=>False) _ _) (λ hh=>hh),h.ns,h.lo⟩
theorem Lc13.aside18 (DK:DrvK Rep){w0 w w':World}{S U:Nat->Prop}{A C k m F T N:Nat}{xs:List Dv}(h:Lc13 Rep w0 w S A C k m F T N xs)(hf:Fr U w w')(hd:∀b,S b->¬U b)(h1:¬U C)(h2:¬U F)(h3:¬U T)(hg:¬U 0)(hb:Below w0.heap.size w0 w'):Lc13 Rep w0 w' S A C k m F T N xs:=
 ⟨⟨Arr.fr DK.lay h.ac.a hf hd,h.ac.c.fr hf h1 h2 h3,h.ac.ap,h.ac.len,h.ac.n,h.ac.wl,h.ac.nt.fr13 hf hg,h.ac.ng⟩,h.lo,hb⟩
theorem Lo18.aside (DK:DrvK Rep)(LK:LgK Rep Lg){U:Nat->Prop}(h:Lo18 Rep Lg w0 w S A C k m F T N xs P o sl e u)(hf:Fr U w w')(hd:∀b,S b->¬U b)(hP:¬U P)(h1:¬U C)(h2:¬U F)(h3:¬U T)(hg:¬U 0)(hb:Below w0.heap.size w0 w'):Lo18 Rep Lg w0 w' S A C k m F T N xs P o sl e u:=
 ⟨h.lc.aside18 DK hf hd h1 h2 h3 hg hb,LK.fr h.lg hf hP,h.ns,h.lo⟩
theorem Lo18.turn (LK:LgK Rep Lg)(h:Lo18 Rep Lg w0 w S A C k m F T N xs P o sl e u)(hm:MutA Rep S A ys w w')(hl:ys.length=xs.length)(hn:∀(d:Nat) (x:Dv),ys[d]? =some x->x.Ok∧x.n=N)(hw:Wl 1000 ys):∃S',Lo18 Rep Lg w0 w' S' A C k m F T N ys P o sl e u∧Nxt S S' w w':=by
 obtain⟨S',h1,h2⟩:=h.lc.mut hm hl hn hw;exact⟨S',⟨h1,LK.fr h.lg h2.1 h.ns,λ q=>(h2.2 _ q).elim h.ns (λ r=>by have:=LK.lt h.lg;omega),h.lo⟩,h2⟩
theorem Lo18.both {S':Nat->Prop}{u':Nat}(h:Lo18 Rep Lg w0 w S A C k m F T N xs P o sl e u)(ha:Ac13 Rep w' S' A C k m F T N ys)(hx:Nxt (λ b=>S b∨b=P) (λ b=>S' b∨b=P) w w')(hp:¬S' P)(hl:Lg w' P A C o sl e u'):Lo18 Rep Lg w0 w' S' A C k m F T N ys P o sl e u':=by
 have hsz:=h.lc.bel.size;refine⟨⟨ha,λ b hb=> ?_,h.lc.bel.trans (hx.1.below hsz λ b hb=> ?_)⟩,hl,hp,h.lo⟩
 ·rcases hx.2 b (.inl hb) with (q|q)|q
  ·exact h.lc.lo b q
  ·rw [q];exact h.lo
  ·omega
 ·rcases hb with q|q
  ·exact h.lc.lo b q
  ·rw [q];exact h.lo
end
end
section
set_option maxRecDepth 20000
end
section
open Go.RowKit Go.Proofs
set_option maxRecDepth 20000
set_option maxHeartbeats 3200000
end
section
open Go.RowKit Go.Proofs
set_option maxRecDepth 20000
set_option maxHeartbeats 3200000
theorem Gr.from17 {w:World}{A:Option Addr}{n c:Nat}{rs:List (List UInt8)}(h:Gr w A n c rs)(m:Nat)(hm:m<=n):Gr w (if c=m then A else A.map λ x=>x.add m) (n-m) (c-m) (rs.drop m):=by
 have hc:=h.capLe
 split
 ·have e:rs.drop m= []:=List.drop_eq_nil_of_le (by rw [h.len];omega)
  have e2:n-m=0:=by omega
  rw [e,e2];exact⟨⟨[],Sl.empty w 1 A (c-m) (by omega),λ i r h=>by simp at h⟩,rfl⟩
 ·have:=h.sub m n (c-m) hm (Nat.le_refl _) (by omega) (by omega)
  rwa [List.take_of_length_le (by rw [List.length_drop,h.len];exact Nat.le_refl _)] at this
theorem jiw (rs:List (List UInt8))(m:Nat):(rs.drop m).flatten.length<=rs.flatten.length:=by
 conv=>rhs;rw [<-List.take_append_drop m rs,List.flatten_append,List.length_append]
 omega
end
section
open Go.RowKit Go.Proofs
set_option maxRecDepth 20000
set_option maxHeartbeats 3200000
end
section
open Go.RowKit Go.Proofs
set_option maxRecDepth 20000
set_option maxHeartbeats 3200000
def jix (w:World)(e:Ending)(w':World):Prop:=∃β:Bool,e= .returned (.bool β)∧Below w.heap.size w w'
theorem jiy (z:Int)(st:Nat)(A:Option Addr)(n c:Nat)(l:List CvF)(w:World)(h:Chs w A n c l):
  Calls Tryz.prog 40 #[.int .i64 z, .agg #[.int .u64 (st:Int), .slice A n c]] w (jix w):=by
 have hlim:=h.cap;have hlim2:=h.top;unfold maxLen at hlim2;have hxa:=ReB.new (w:=w) (st:=st) (A:=A) (n:=n) (c:=c);have hb1:Below w.heap.size w (w.alloc (.cells #[.int .u64 (st:Int), .slice A n c] 42)):=(Below.refl _ _).alloc (Nat.le_refl _) _;obtain⟨w1,hw1⟩:∃x,x=w.alloc (.cells #[.int .u64 (st:Int), .slice A n c] 42):=⟨_,rfl⟩;have HW1:=qH hw1;rw [<-hw1] at hxa hb1;have B1:=qH hb1;have X:=qH hxa;have H:=qH (h.below hb1);clear hxa hb1 hw1 h;go_enter Tryz.func40,Tryz.ntmps40;go_wp2_with (rw [<-HW1.out]);go_loopw [5] (λ iv wr=>∃j:Nat,iv= .int .i64 (j:Int)∧j<=n∧Below w1.heap.size w1 wr) (λ iv _=>n-(intOf iv).toNat)
 case atStart=>exact⟨0,rfl,by omega,Below.refl _ _⟩
 case round=>
  obtain⟨j,rfl,hj,hbe⟩:=hrel;have a1:=(X.out.later hbe).c1;have BE:=qH (B1.out.trans (hbe.mono B1.out.size));have BF:=qH hbe;have HB:=qH (H.out.below hbe);clear hbe
  by_cases hlt:j<n
  ·have hji:(j:Int)<(n:Int):=by omega
   by_cases h40:(j:Int)<40
   ·obtain⟨v,hv⟩:∃v,l[j]? =some v:=⟨_,List.getElem?_eq_getElem (by rw [HB.out.len];exact hlt)⟩
    obtain⟨b,o,rfl,hcl,hok⟩:=HB.out.cell j v hv;have e2:=hcl 2 _ rfl;have e0:=hcl 0 _ rfl;rw [Nat.add_zero] at e0;obtain⟨m,hm⟩:∃m,m=v.x.ps.length:=⟨_,rfl⟩;rw [<-hm] at e2;obtain⟨k,hk⟩:∃k,k=v.x.key:=⟨_,rfl⟩;rw [<-hk] at e0;clear hcl hok hm hk
    by_cases h1:(60:Int)<(m:Int)
    ·by_cases h2:(m:Int)<400
     ·go_wp2_with fail
      go_ret;exact⟨false,rfl,BE.out⟩
     ·by_cases h3:(402:Int)<(m:Int)
      ·go_wp2_with fail
       go_ret;exact⟨false,rfl,BE.out⟩
      ·by_cases h4:(100:Int)<(k.size:Int)
       ·go_wp2_with fail
        go_ret;exact⟨false,rfl,BE.out⟩
       ·go_wp2_with fail
        go_roundw
        case rel=>exact⟨j+1,by go_num,by omega,BF.out⟩
        case measure=>simp [intOf];omega
    ·have h3:¬(402:Int)<(m:Int):=by omega
     by_cases h4:(100:Int)<(k.size:Int)
     ·go_wp2_with fail
      go_ret;exact⟨false,rfl,BE.out⟩
     ·go_wp2_with fail
      go_roundw
      case rel=>exact⟨j+1,by go_num,by omega,BF.out⟩
      case measure=>simp [intOf];omega
   ·go_wp2_with fail
    go_ret;exact⟨_,rfl,BE.out⟩
  ·obtain rfl:n=j:=by omega
   go_wp2_with fail;go_ret;exact⟨_,rfl,BE.out⟩
theorem jbe:∀(f n:Nat),(venc f n).length<=f+1
 |0,n=>by simp [venc]
 |f+1,n=>by
  rw [venc]
  split
  ·simp
  ·have:=jbe f (n / 128)
   simp only [List.length_cons];omega
theorem jet {α:Type}(g:α->List UInt8)(m:Nat):∀(l:List α),(∀x∈l,(g x).length<=m)->(l.flatMap g).length<=m*l.length
 | [],_=>by simp
 |x::r,h=>by
  have h1:=h x (List.mem_cons_self ..);have h2:=jet g m r (λ y hy=>h y (List.mem_cons_of_mem _ hy));rw [List.flatMap_cons,List.length_append,List.length_cons,Nat.mul_add];omega
theorem jon {x:ChF}(h:okC x=true)(h16:x.key.size<=16):(chB x).length<=4057:=by
 have hk:x.key.data.toList.length=x.key.size:=rfl;have h1:=jbe 9 x.key.size;rw [chB,List.length_append,List.length_append,hk]
 cases hd:x.dead
 ·obtain⟨_,h2,_⟩:=jir h hd
  have h3:=jet (λ p:Int=>venc 9 p.toNat) 10 x.ps (λ p _=>jbe 9 _);have h4:=jbe 9 x.q.toNat;have h5:=jbe 9 x.g;have h6:=jbe 9 x.ps.length;rw [if_neg (by simp),List.length_cons,jbU,List.length_append,List.length_append,List.length_append];omega
 ·rw [if_pos rfl]
  simp only [List.length_cons,List.length_nil];omega
theorem jl1 (st:Nat)(cs:List ChF)(h:okR cs=true):(putR st cs).length<=65000:=by
 unfold okR at h;rw [Bool.and_eq_true] at h;have hl:=of_decide_eq_true h.1;have h1:=jbe 9 st;have h2:=jbe 9 cs.length;have h3:=jet chB 4057 cs (λ x hx=>by
  obtain⟨h5,h6⟩:=jfS _ _ h.2 x hx;exact jon h5 h6)
 rw [putR,List.length_append,List.length_append];omega
end
section
open Go.RowKit Go.Proofs
theorem jiz:∀(f f':Nat) (l:List (List UInt8)),l.length<f->l.length<f' ->repL f l=repL f' l
 |0,_,_,h,_=>by omega
 |_+1,0,_,_,h=>by omega
 |f+1,f'+1,l,h,h' =>by
  rw [repL,repL]
  by_cases hj:(jaZ l).2.2≠0
  ·rw [if_pos hj,if_pos hj]
  ·obtain⟨h1,h2⟩:=jep (l:=l) (by omega)
   rw [if_neg hj,if_neg hj,jiz f f' (l.drop (jaZ l).2.1) (by rw [List.length_drop];omega) (by rw [List.length_drop];omega)]
theorem joo {l:List (List UInt8)}(h:(jaZ l).2.2≠0):repF l=([],0):=by rw [repF,repL,if_pos h]
theorem jop {l:List (List UInt8)}(h:(jaZ l).2.2=0)(h2:(jbD (jaZ l).1).2.2≠0):repF l=([],0):=by rw [repF,repL,if_neg (by omega),if_pos h2]
theorem joq {l:List (List UInt8)}(h:(jaZ l).2.2=0)(h2:(jbD (jaZ l).1).2.2=0):
  repF l=(((jbD (jaZ l).1).1,(jbD (jaZ l).1).2.1)::(repF (l.drop (jaZ l).2.1)).1,(jaZ l).2.1 +(repF (l.drop (jaZ l).2.1)).2):=by
 obtain⟨h3,h4⟩:=jep h;rw [repF,repL,if_neg (by omega),if_neg (by omega),jiz l.length ((l.drop (jaZ l).2.1).length+1) _ (by rw [List.length_drop];omega) (by omega)]
 rfl
theorem jjP {r:jcP}(h:okR r.2=true):(jbk r).length<=65000:=jl1 r.1 r.2 h
end
section
open Go.RowKit Go.Proofs
set_option maxRecDepth 20000
set_option maxHeartbeats 3200000
section
variable {Rep:World->(Nat->Prop)->Nat->Dv->Prop}{w:World}{S:Nat->Prop}{A C k m F T N:Nat}{xs:List Dv}
theorem jec (w:World)(A C o sl e:Nat):(w.alloc (.cells (arV A C o sl e).toArray 82)).rangeAt w.heap.size 0 (arV A C o sl e):=by
 intro j v hv;rw [cell_of_row _ _ _ _ _ _ (heap_alloc_new w _)]
 match j,hv with
 |0,hv=>exact hv
 |1,hv=>exact hv
 |2,hv=>exact hv
 |3,hv=>exact hv
 |4,hv=>exact hv
 |j+5,hv=>simp [arV] at hv
theorem jbL {w w':World}{B A C o sl e:Nat}(h:w.rangeAt B 0 (arV A C o sl e))(hb:Below w.heap.size w w'):w'.rangeAt B 0 (arV A C o sl e):=
 λ j v hv=>(hb.cell (p:=⟨B,0+j,none⟩) (World.block_lt_of_cell? w _ (h j v hv))).trans (h j v hv)
theorem jgB (DK:DrvK Rep)(o sl e:Nat)(h:Ac13 Rep w S A C k m F T N xs)(h1:1<=sl)(h2:sl<=64)(h3:o+sl<=N)(h4:N<=600)(h5:e<1099511627776):
  Calls Tryz.prog 48 #[.agg (arV A C o sl e).toArray] w λ e' w' =>e' = .returned (.bool true)∧Below w.heap.size w w':=by
 obtain⟨n,hn⟩:∃n,n=k+m:=⟨_,rfl⟩;have hq1:1<=n:=by have:=h.c.k1;omega
 have hq2:n<=255:=by have:=h.c.n255;omega
 have hlen:xs.length=n:=by rw [h.len,hn]
 have harN:∀w,AP Rep w S A xs->Calls Tryz.prog 60 #[.pointer (some ⟨A,0,none⟩)] w λ e w' =>e= .returned (.int .i64 (n:Int))∧w' =w:=λ w q=>by
  have:=jcY q
  rwa [hlen] at this
 obtain⟨x0,hx0⟩:∃x,xs[0]? =some x:=⟨_,List.getElem?_eq_getElem (by omega)⟩;have hsec:∀w,AP Rep w S A xs->Calls Tryz.prog 85 #[.pointer (some ⟨A,0,none⟩)] w λ e w' =>e= .returned (.int .i64 (N:Int))∧Below w.heap.size w w':=λ w q=>by
  have:=jdU DK q hx0
  rwa [(h.n 0 x0 hx0).2] at this
 have PA:=qH h.a;have PC:=qH h.c;have Hn:=qH hn;have s1:¬(sl:Int)<1:=by omega
 have s2:¬(64:Int)<(sl:Int):=by omega
 have s3:¬(1099511627776:Int)<=(e:Int):=by omega
 have s4:(o:Int)<=(N:Int)-(sl:Int):=by omega
 have s5:¬(n:Int)=0:=by omega
 have s6:wrap64 ((N:Int)-(sl:Int))=(N:Int)-(sl:Int):=by unfold wrap64;omega
 have HS:=qH (And.intro s1 (And.intro s2 (And.intro s3 (And.intro s4 s6))));clear s1 s2 s3 s4 s6;have HAR:=qH harN;have HSE:=qH hsec;have r0:=jec w A C o sl e;have hb0:Below w.heap.size w (w.alloc (.cells (arV A C o sl e).toArray 82)):=(Below.refl _ _).alloc (Nat.le_refl _) _;obtain⟨wa,hwa⟩:∃x,x=w.alloc (.cells (arV A C o sl e).toArray 82):=⟨_,rfl⟩;have B0:=qH hb0;have R0:=qH r0;have HA:=qH hwa;rw [<-hwa] at R0 B0;clear h hn hlen hx0 harN hsec r0 hb0 hwa hq1 h1 h2 h3 h5;unfold arV;go_enter Tryz.func48,Tryz.ntmps48;have hwa:w.alloc (.cells #[.pointer (some ⟨A,0,none⟩), .pointer (some ⟨C,0,none⟩), .int .i64 (o:Int), .int .i64 (sl:Int), .int .u64 (e:Int)] 82)=wa:=HA.out.symm;have a1:=R0.out 1 _ rfl;rw [Nat.zero_add] at a1;go_wp2_with (rw [hwa]);refine(cn13 (PC.out.later B0.out) Hn.out).mono ?_;rintro e' w1 ⟨rfl,hb1⟩;have B1:=qH (B0.out.trans (hb1.mono B0.out.size))
 have R2:=qH (jbL R0.out hb1);have a0:=R2.out 0 _ rfl;rw [Nat.zero_add] at a0;clear a1 hb1;go_wp2_with fail;refine(HAR.out w1 (PA.out.later DK.lay B1.out)).mono ?_;rintro e' w2 ⟨rfl,hw⟩;obtain rfl:w1=w2:=hw.symm;have a3:=R2.out 3 _ rfl;have a4:=R2.out 4 _ rfl;rw [Nat.zero_add] at a3 a4;obtain⟨s1,s2,s3,s4,s6⟩:=HS.out;clear s3 s4 s6;go_wp2_with fail
 ·exfalso
  obtain⟨s1,s2,s3,s4,s6⟩:=HS.out;omega
 obtain⟨-, -, -,s4,s6⟩:=HS.out;refine wp_region_held_drew (S:=λ w' =>Fr (λ _=>False) w1.drew w') (by kernel_rfl) (Fr.refl _ _) (λ hHeld=> ?_);clear hHeld;refine tA 0 (some 29) rfl (Fr.refl _ _) ?_;refine tL 1 (some 30) (v:= ?vcr1) rfl ?ycr1 (Fr.refl _ _) ?rcr1
 case ycr1=>
  intro wq hSw
  (try dsimp only at hSw)
  have hc:=hSw.cell_some (R2.out 2 _ rfl) (λ h=>h);rw [Nat.zero_add] at hc;go_simp<;>with_reducible rfl
 try simp only [Act.put,sA,sB,sC]
 refine tA 2 (some 31) rfl (Fr.refl _ _) ?_;refine tA 3 (some 32) rfl (Fr.refl _ _) ?_;refine tA 4 (some 33) rfl (Fr.refl _ _) ?_;refine tL 5 (some 34) (v:= ?vcr5) rfl ?ycr5 (Fr.refl _ _) ?rcr5
 case ycr5=>
  intro wq hSw
  (try dsimp only at hSw)
  have hc:=hSw.cell_some (R2.out 2 _ rfl) (λ h=>h);rw [Nat.zero_add] at hc;go_simp<;>with_reducible rfl
 try simp only [Act.put,sA,sB,sC]
 refine tA 6 (some 35) rfl (Fr.refl _ _) ?_;refine tL 7 (some 36) (v:= ?vcr7) rfl ?ycr7 (Fr.refl _ _) ?rcr7
 case ycr7=>
  intro wq hSw
  (try dsimp only at hSw)
  have hc:=hSw.cell_some (R2.out 0 _ rfl) (λ h=>h);rw [Nat.zero_add] at hc;go_simp<;>with_reducible rfl
 try simp only [Act.put,sA,sB,sC]
 refine tA 9 (some 38) rfl (Fr.refl _ _) ?_;refine tL 10 (some 39) (v:= ?vcr10) rfl ?ycr10 (Fr.refl _ _) ?rcr10
 case ycr10=>
  intro wq hSw
  (try dsimp only at hSw)
  have hc:=hSw.cell_some (R2.out 3 _ rfl) (λ h=>h);rw [Nat.zero_add] at hc;go_simp<;>with_reducible rfl
 try simp only [Act.put,sA,sB,sC]
 refine rW 8 (some 37) rfl λ K hK=> ?_
 go_simp;refine(HSE.out w1.drew (PA.out.later DK.lay (Below.drew B1.out))).mono ?_;rintro e' w3 ⟨rfl,hb3⟩;have hfr:Fr (λ _=>False) w1.drew w3:=Fr.of_below hb3;go_wp2_with fail;refine hK.out _ _ hfr (λ hHeld=> ?_);clear hK K hHeld
 try simp only [Act.put,sA,sB,sC]
 refine jac (S':=λ w' =>Fr (λ _=>False) w3 w') (λ w' h=>hfr.trans h) ?_;clear hfr;refine tA 11 (some 40) rfl (Fr.refl _ _) ?_;refine tA 12 (some 41) rfl (Fr.refl _ _) ?_;refine tA 13 (some 42) rfl (Fr.refl _ _) ?_;refine tA 14 (some 2) rfl (Fr.refl _ _) ?_;refine tD ?_;have B3:=qH ((Below.drew B1.out).trans (hb3.mono (Below.drew B1.out).size));go_wp2_with fail;go_ret;refine⟨?_,B3.out⟩
 show Ending.returned (.bool (decide ((o:Int)<=IntKind.i64.wrap ((N:Int)-(sl:Int)))))=_
 rw [decide_eq_true (show (o:Int)<=IntKind.i64.wrap ((N:Int)-(sl:Int)) from by
  obtain⟨s1,s2, -, -, -⟩:=HS.out;rw [IntKind.wrap_i64];omega)]
theorem jp4 (DK:DrvK Rep)(o sl e:Nat)(h:Ac13 Rep w S A C k m F T N xs)(h1:1<=sl)(h2:sl<=64)(h3:o+sl<=N)(h4:N<=600)(h5:e<1099511627776):
  Calls Tryz.prog 13 #[.pointer (some ⟨A,0,none⟩), .pointer (some ⟨C,0,none⟩), .int .i64 (o:Int), .int .i64 (sl:Int), .int .u64 (e:Int)] w λ e' w' =>∃P,e' = .returned (.pointer (some ⟨P,0,none⟩))∧w.heap.size<=P∧LgB w' P A C o sl e 0∧Below w.heap.size w w':=by
 have hri:=λ W (hb:Below w.heap.size w W)=>jgB DK o sl e (h.later DK hb) h1 h2 h3 h4 h5
 have HRI:=qH hri;have r0:=jec w A C o sl e;have hb0:Below w.heap.size w (w.alloc (.cells (arV A C o sl e).toArray 82)):=(Below.refl _ _).alloc (Nat.le_refl _) _;obtain⟨wa,hwa⟩:∃x,x=w.alloc (.cells (arV A C o sl e).toArray 82):=⟨_,rfl⟩;rw [<-hwa] at r0 hb0;have B0:=qH hb0;have R0:=qH r0;have HA:=qH hwa;have sz:=qH (ja5 A C o sl e);clear h h1 h2 h3 h4 h5 hri r0 hb0 hwa;go_enter Tryz.func13,Tryz.ntmps13;go_wp2_with fail;have hwa:w.alloc (.cells #[.pointer (some ⟨A,0,none⟩), .pointer (some ⟨C,0,none⟩), .int .i64 (o:Int), .int .i64 (sl:Int), .int .u64 (e:Int)] 82)=wa:=HA.out.symm;rw [hwa];refine(HRI.out wa B0.out).mono ?_;rintro e' w1 ⟨rfl,hb1⟩;have B1:=qH (B0.out.trans (hb1.mono B0.out.size));have R1:=qH (jbL R0.out hb1);clear hb1 hwa;unfold arV at R1 sz
 go_wp2_with (refine jaj (d:=21) ?_;refine jad (o:=⟨some 21,_,_,_,_,_⟩) (by rfl) _ _ (jah rfl rfl R1.out Tryz.underlying82 rfl sz.out) ?_);go_ret;exact⟨w1.heap.size,rfl,B1.out.size,heap_alloc_new w1 _,B1.out.trans (((Below.refl _ _).alloc (Nat.le_refl _) _).mono B1.out.size)⟩
end
end
end Go.Proofs.YtmhejbihdghhaaaGreatDoor

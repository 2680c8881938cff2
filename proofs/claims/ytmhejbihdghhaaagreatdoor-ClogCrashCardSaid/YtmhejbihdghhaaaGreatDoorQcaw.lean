/-
  Contract of package frame's GetRecord
-/
import Derived.Test.YtmhejbihdghhaaaGreatDoorQcav
namespace Go.Proofs.YtmhejbihdghhaaaGreatDoor
set_option linter.unusedVariables false
section
open Go.RowKit Go.Proofs
set_option maxRecDepth 20000
set_option maxHeartbeats 3200000
def tkC (l:List UInt8)(a:ByteArray)(s:Nat × Nat):ChF ×(Nat × Nat):=
 let k:=tkG (⟨#[]⟩:ByteArray) (gKey l) (λ x=>gtK x a) s
 let f:=tkG 0 (jfU l) (λ x=>decide (x<=1)) k.2
 if f.1=1 then(⟨k.1,true, [],0,0⟩,f.2) else(⟨k.1,false,jbB (tkB l f.2).1.ps,(tkB l f.2).1.g,((tkB l f.2).1.q:Int)⟩,(tkB l f.2).2)
def tkCs (l:List UInt8):Nat->ByteArray->Nat × Nat->List ChF ×(Nat × Nat)
 |0,_,s=>([],s)
 |k+1,a,s=>((tkC l a s).1::(tkCs l k (tkC l a s).1.key (tkC l a s).2).1,(tkCs l k (tkC l a s).1.key (tkC l a s).2).2)
def jbD (l:List UInt8):Nat × List ChF × Nat:=
 let st:=tkG 0 (λ a=>varR l (a:Int)) (λ _=>true) (0,0)
 let n:=tkG 0 (λ a=>varR l (a:Int)) (λ x=>decide (x<=16)) st.2
 let r:=tkCs l n.1 ⟨#[]⟩ n.2
 if endE l r.2≠0 then(0, [],endE l r.2) else(st.1,r.1,0)
def AtOk (l:List UInt8)(s:Nat × Nat):Prop:=s.1<=l.length
theorem jkz {α:Type}(none:α)(get:Nat->α × Nat × Nat)(right:α->Bool)(l:List UInt8)(hg:∀a,a<=l.length->(get a).2.2=0->(get a).2.1<=l.length)(s:Nat × Nat)(h:AtOk l s):AtOk l (tkG none get right s).2:=by
 unfold tkG
 split
 ·exact h
 ·split
  ·exact h
  ·rename_i h2
   split
   ·exact h
   ·exact hg s.1 h (Decidable.not_not.1 h2)
theorem jkA (l:List UInt8)(a:Nat)(h:(varR l (a:Int)).2.2=0):(varR l (a:Int)).2.1<=l.length:=by
 obtain⟨k,hk,h1,h2,_⟩:=jnQ h;exact h2
theorem key_le (l:List UInt8)(a:Nat)(h:(gKey l a).2.2=0):(gKey l a).2.1<=l.length:=by
 unfold gKey jbI at h ⊢;dsimp only at h ⊢
 split at h
 ·rename_i h1;exact absurd h h1
 ·rename_i h1
  rw [if_neg h1]
  split at h
  ·simp at h
  ·rename_i h2
   rw [if_neg h2]
   split at h
   ·simp at h
   ·rename_i h3
    rw [if_neg h3];have:=jkA l a (Decidable.not_not.1 h1);dsimp only;omega
theorem jrD (l:List UInt8)(a:Nat)(h:(jfU l a).2.2=0):(jfU l a).2.1<=l.length:=by
 have:=jnT (l:=l) (at_:=(a:Int)) (m:=1) h
 show a+1<=l.length
 omega
theorem jkB (l:List UInt8)(most:Nat)(s:Nat × Nat)(h:AtOk l s):AtOk l (tk1 l most s).2:=by
 unfold tk1
 split
 ·exact h
 ·split
  ·exact h
  ·rename_i h2
   split
   ·exact h
   ·exact jkA l s.1 (Decidable.not_not.1 h2)
theorem jqq (l:List UInt8)(most:Nat):∀(k:Nat) (s:Nat × Nat),AtOk l s->AtOk l (tkN l most k s).2
 |0,s,h=>h
 |k+1,s,h=>jqq l most k _ (jkB l most s h)
theorem gB_le (l:List UInt8)(a:Nat)(ha:a<=l.length):(gB l a).p<=l.length:=by
 unfold gB;dsimp only
 split
 ·exact Nat.zero_le _
 ·exact jqq l 599 _ _ (jkB l 400 _ (jkB l _ _ (jkB l 400 (a,0) ha)))
theorem tkB_at (l:List UInt8)(s:Nat × Nat)(h:AtOk l s):AtOk l (tkB l s).2:=by
 unfold tkB
 split
 ·exact h
 ·split
  ·exact h
  ·exact gB_le l s.1 h
def zV:CvF:=⟨⟨⟨#[]⟩,false, [],0,0⟩,none,0⟩
def FilC (w:World)(C k:Nat)(vs:List CvF):Prop:=(∃t,w.heap[C]? =some (.cells ((vs++List.replicate (k-vs.length) zV).flatMap CvF.vals).toArray t (0,0)))∧vs.length<=k
theorem flat5 (vs:List CvF):(vs.flatMap CvF.vals).length=vs.length*5:=by
 induction vs with
 |nil=>rfl
 |cons v r ih=>rw [List.flatMap_cons,List.length_append,ih,List.length_cons,Nat.add_mul];show 5+_=_;omega
theorem FilC.fr {w w':World}{C k:Nat}{vs:List CvF}{S:Nat->Prop}(h:FilC w C k vs)(hf:Fr S w w')(hS:¬S C):FilC w' C k vs:=by
 obtain⟨⟨t,h1⟩,h2⟩:=h;exact⟨⟨t,hf.row_some h1 hS⟩,h2⟩
theorem FilC.lt {w:World}{C k:Nat}{vs:List CvF}(h:FilC w C k vs):C<w.heap.size:=by
 obtain⟨⟨t,h1⟩,h2⟩:=h;exact block_lt h1
theorem FilC.free {w:World}{C k:Nat}{vs:List CvF}(h:FilC w C k vs)(i:Nat):w.frozen? ⟨C,i,none⟩=false:=by
 obtain⟨⟨t,h1⟩,h2⟩:=h;exact frozen_of_row _ _ _ _ _ h1
theorem FilC.open_ {w:World}{C k:Nat}{vs:List CvF}(h:FilC w C k vs)(hk:vs.length<k):FilC w C k (vs ++ [zV]):=by
 obtain⟨⟨t,h1⟩,h2⟩:=h;obtain⟨j,hj⟩:∃j,k-vs.length=j+1:=⟨k-vs.length-1,by omega⟩;refine⟨⟨t, ?_⟩,by rw [List.length_append];simp;omega⟩;rw [h1]
 congr 3
 rw [List.length_append,hj,show k-(vs.length + [zV].length)=j from by simp;omega,List.replicate_succ,List.append_assoc]
 rfl
theorem FilC.cell {w:World}{C k:Nat}{vs:List CvF}{i:Nat}{v:CvF}(h:FilC w C k vs)(hi:vs[i]? =some v){j:Nat}{u:Value}(hu:v.vals[j]? =some u):w.cell? ⟨C,i*5+j,none⟩=some u:=by
 obtain⟨⟨t,h1⟩,h2⟩:=h;rw [cell_of_row _ _ _ _ _ _ h1];have hil:=(List.getElem?_eq_some_iff.1 hi).1;have hjl:j<5:=(List.getElem?_eq_some_iff.1 hu).1;have e:vs=vs.take i++v::vs.drop (i+1):=by
  conv=>lhs;rw [<-List.take_append_drop i vs,List.drop_eq_getElem_cons hil]
  rw [(List.getElem?_eq_some_iff.1 hi).2]
 have hl:((vs.take i).flatMap CvF.vals).length=i*5:=by rw [flat5,List.length_take,Nat.min_eq_left (by omega)]
 rw [List.getElem?_toArray]
 conv=>lhs;rw [e]
 rw [List.append_assoc,List.flatMap_append,List.cons_append,List.flatMap_cons,List.getElem?_append_right (by omega),hl,show i*5+j-i*5=j from by omega,List.getElem?_append_left (by show j<5;exact hjl)];exact hu
theorem FilC.set {w:World}{C k:Nat}{vs:List CvF}{v v':CvF}(h:FilC w C k (vs ++ [v])){j:Nat}{u:Value}(hj:j<5)(hv:v.vals.set j u=v'.vals):FilC (w.setCell ⟨C,vs.length*5+j,none⟩ u) C k (vs ++ [v']):=by
 obtain⟨⟨t,h1⟩,h2⟩:=h;refine⟨⟨t, ?_⟩,by simpa using h2⟩;have h3:=heap_setCell_same w C (vs.length*5+j) _ _ u h1;rw [h3]
 congr 2
 rw [List.setIfInBounds_toArray]
 congr 1
 have hl:(vs.flatMap CvF.vals).length=vs.length*5:=flat5 vs;have e:(vs ++ [v]).length=(vs ++ [v']).length:=by simp
 rw [e];simp only [List.flatMap_append,List.flatMap_cons,List.flatMap_nil,List.append_nil,List.append_assoc];rw [List.set_append_right _ _ (by omega),hl,show vs.length*5+j-vs.length*5=j from by omega,List.set_append_left _ _ (by show j<5;exact hj),hv]
theorem FilC.chs {w:World}{C k:Nat}{vs:List CvF}(h:FilC w C k vs)(hl:vs.length=k)(hk:k<=1000)(hok:∀x∈vs,x.Ok w):Chs w (some ⟨C,0,none⟩) k k vs:=
 ⟨hl,Nat.le_refl _,by unfold maxLen;omega,λ i v hv=>⟨C,0,rfl,λ j u hu=>by rw [Nat.zero_add];exact h.cell hv hu,hok v (List.mem_of_getElem? hv)⟩⟩
theorem FilC.made (w:World)(k:Nat)(t:TypeId):FilC (w.alloc (.cells ((List.replicate k zV).flatMap CvF.vals).toArray t)) w.heap.size k []:=⟨⟨t,heap_alloc_new w _⟩,Nat.zero_le _⟩
theorem jjL {α:Type}{f:α->List Value}{k:Nat}(h:∀a,(f a).length=k)(hk:0<k)(a:α)(z:Array Value)(hz:z.toList=f a)(n:Nat):(madeCells z (n*k)).toList=(List.replicate n a).flatMap f:=by
 have hs:z.size=k:=by rw [<-Array.length_toList,hz,h]
 apply List.ext_getElem?
 intro t
 by_cases ht:t<n*k
 ·have e:=flat_get (f:=f) h (l:=List.replicate n a) (i:=t / k) (a:=a) (by
   rw [List.getElem?_replicate,if_pos];exact(Nat.div_lt_iff_lt_mul hk).2 ht) (t % k) (Nat.mod_lt _ hk)
  rw [Nat.div_add_mod'] at e;rw [e,<-hz];have hm:t % k<z.size:=by rw [hs];exact Nat.mod_lt _ hk
  simp [madeCells,ht,hs];rw [getElem!_pos z (t % k) hm,Array.getElem?_eq_getElem hm]
 ·rw [List.getElem?_eq_none (by rw [Array.length_toList,size_madeCells];omega),List.getElem?_eq_none (by rw [jeU h,List.length_replicate];omega)]
theorem made5 (k:Nat):madeCells zV.vals.toArray (k*5)=((List.replicate k zV).flatMap CvF.vals).toArray:=by
 apply Array.ext'
 rw [jjL (f:=CvF.vals) (λ _=>rfl) (by decide) zV zV.vals.toArray rfl k]
theorem jp1 (k:Nat)(hk:k<=1000)(w:World):
  (Instr.makeSlice 40 (.int .u64 (k:Int)) (.int .u64 (k:Int))).run Tryz.prog w= .ok (.slice (some ⟨w.heap.size,0,none⟩) k k) (w.alloc (.cells ((List.replicate k zV).flatMap CvF.vals).toArray 144)):=by
 obtain⟨i0,hi,hz0,hz1,hz2⟩:=info_parts (show (Tryz.prog.info? 144).map (λ i=>(i.zero,i.size,i.bytes))=some (some (.agg #[.string ⟨#[]⟩, .bool false, .slice none 0 0, .int .u64 0, .int .i64 0]),5,64) by kernel_rfl);have h:=run_make (P:=Tryz.prog) w 40 144 i0 _ Tryz.underlying40 hi hz0 .u64 .u64 (k:Int) (k:Int) (by omega) (by omega) (by rw [hz2];omega) (by omega);rw [hz1,Int.toNat_natCast,show (Value.agg #[.string ⟨#[]⟩, .bool false, .slice none 0 0, .int .u64 0, .int .i64 0]).cells=zV.vals.toArray from by simp [Value.cells,CvF.vals,zV],made5] at h;exact h
theorem jqr (A:Option Addr)(n c:Nat)(g:Int):(#[.int .u64 g, .slice A n c]:Array Value).all (·.oneCell')=true:=all_oneCell_toArray (cs:= [.int .u64 g, .slice A n c]) (λ u hu=>by simp only [List.mem_cons,List.not_mem_nil,or_false] at hu;rcases hu with rfl|rfl<;>rfl)
theorem tkG_ok {α:Type}{none:α}{get:Nat->α × Nat × Nat}{right:α->Bool}{s:Nat × Nat}(h:right none=true):right (tkG none get right s).1=true:=by
 unfold tkG
 split
 ·exact h
 ·split
  ·exact h
  ·split
   ·exact h
   ·rename_i h3
    simpa using h3
theorem ReB.fr {w w':World}{B st n c:Nat}{A:Option Addr}{S:Nat->Prop}(h:ReB w B st A n c)(hf:Fr S w w')(hS:¬S B):ReB w' B st A n c:=hf.row_some h hS
theorem ReB.free {w:World}{B st n c:Nat}{A:Option Addr}(h:ReB w B st A n c)(i:Nat):w.frozen? ⟨B,i,none⟩=false:=frozen_of_row _ _ _ _ _ h
theorem ReB.set0 {w:World}{B st n c:Nat}{A:Option Addr}(h:ReB w B st A n c)(x:Nat):ReB (w.setCell ⟨B,0,none⟩ (.int .u64 (x:Int))) B x A n c:=heap_setCell_same w B 0 _ _ _ h
theorem ReB.set1 {w:World}{B st n c:Nat}{A:Option Addr}(h:ReB w B st A n c)(A':Option Addr)(n' c':Nat):ReB (w.setCell ⟨B,1,none⟩ (.slice A' n' c')) B st A' n' c':=heap_setCell_same w B 1 _ _ _ h
theorem jqs (A:Option Addr)(n c:Nat)(l:List UInt8)(a:Nat)(w:World)(h:Sl w 1 A n c (cells l)):Calls Tryz.prog 160 #[.slice A n c, .int .i64 (a:Int)] w λ e w' =>e= .returned (.tuple #[.int .u64 ((varR l (a:Int)).1:Int), .int .i64 ((varR l (a:Int)).2.1:Int), .int .i64 ((varR l (a:Int)).2.2:Int)])∧w' =w:=
 (jjt A n c l (a:Int) w h).mono λ e w' ⟨h1,h2⟩=>⟨h1,h2.symm⟩
structure GrS (W w:World)(Q R B V C m st:Nat)(A:Option Addr)(n c:Nat)(l:List UInt8)(a:ByteArray)(s:Nat × Nat)(vs:List CvF):Prop where
 bel:Below W.heap.size W w
 q:ReB w Q 0 none 0 0
 rd:Rdg w R A n c l s
 at_:AtOk l s
 ah:Cel w B (.string a)
 v:ReB w V st (some ⟨C,0,none⟩) m m
 fil:FilC w C m vs
 ok:∀x∈vs,x.Ok w
 new:∀x∈vs,∀b o,0<x.x.ps.length->x.A=some ⟨b,o,none⟩->C<b
 ord:Q=W.heap.size∧R=W.heap.size+1∧B=W.heap.size+1+1∧W.heap.size+3<=V∧V<C
 off:∀b o,0<n->A=some ⟨b,o,none⟩->b<W.heap.size
structure GrK (w:World)(R B C:Nat)(t3 g3 p3 t4 g4 p4 t5 g5 p5:Nat):Prop where
 k3:Tk3 w t3 g3 p3 R (.func (.func 164) #[] #[]) (.func (.func 165) #[] #[.pointer (some ⟨B,0,none⟩)])
 k4:Tk3 w t4 g4 p4 R (.func (.func 166) #[] #[]) (.func (.func 167) #[] #[])
 k5:Tk3 w t5 g5 p5 R (.func (.func 169) #[] #[]) (.func (.func 170) #[] #[])
 ne:∀x,x=R∨x=B∨x=C->¬x=t3∧¬x=g3∧¬x=p3∧¬x=t4∧¬x=g4∧¬x=p4∧¬x=t5∧¬x=g5∧¬x=p5
theorem GrK.fr {w w':World}{R B C t3 g3 p3 t4 g4 p4 t5 g5 p5 x:Nat}(h:GrK w R B C t3 g3 p3 t4 g4 p4 t5 g5 p5)(hx:x=R∨x=B∨x=C)(hf:Fr (λ k=>k=x) w w'):GrK w' R B C t3 g3 p3 t4 g4 p4 t5 g5 p5:=by
 obtain⟨a1,a2,a3,a4,a5,a6,a7,a8,a9⟩:=h.ne x hx;exact⟨h.k3.fr hf (λ e=>a1 e.symm) (λ e=>a2 e.symm) (λ e=>a3 e.symm),h.k4.fr hf (λ e=>a4 e.symm) (λ e=>a5 e.symm) (λ e=>a6 e.symm),h.k5.fr hf (λ e=>a7 e.symm) (λ e=>a8 e.symm) (λ e=>a9 e.symm),h.ne⟩
section
variable {W w w':World}{Q R B V C m st n c:Nat}{A:Option Addr}{l:List UInt8}{a:ByteArray}{s s':Nat × Nat}{vs:List CvF}
theorem CvF.Ok.frx {v:CvF}{x:Nat}(h:v.Ok w)(hf:Fr (λ k=>k=x) w w')(hx:∀b o,0<v.x.ps.length->v.A=some ⟨b,o,none⟩->¬b=x):v.Ok w':=Sl.fr h hf hx
theorem GrS.frR (h:GrS W w Q R B V C m st A n c l a s vs)(hf:Fr (λ k=>k=R) w w')(hr:Rdg w' R A n c l s')(hat:AtOk l s'):GrS W w' Q R B V C m st A n c l a s' vs:=by
 have o:=h.ord;exact⟨h.bel.trans (hf.below h.bel.size (λ k e=>by have e:k=R:=e;omega)),h.q.fr hf (by show ¬Q=R;omega),hr,hat,h.ah.fr hf (by show ¬B=R;omega),h.v.fr hf (by show ¬V=R;omega),h.fil.fr hf (by show ¬C=R;omega),λ x hx=>(h.ok x hx).frx hf (λ b o' hn e=>by have:=h.new x hx b o' hn e;omega),h.new,o,h.off⟩
theorem GrS.setB (h:GrS W w Q R B V C m st A n c l a s vs)(a':ByteArray):GrS W (w.setCell ⟨B,0,none⟩ (.string a')) Q R B V C m st A n c l a' s vs∧Fr (λ k=>k=B) w (w.setCell ⟨B,0,none⟩ (.string a')):=by
 have hf:Fr (λ k=>k=B) w (w.setCell ⟨B,0,none⟩ (.string a')):=(Fr.refl (λ k=>k=B) _).setCell (p:=⟨B,0,none⟩) (.inr rfl) _;have o:=h.ord;exact⟨⟨h.bel.trans (hf.below h.bel.size (λ k e=>by have e:k=B:=e;omega)),h.q.fr hf (by show ¬Q=B;omega),h.rd.fr hf (by show ¬R=B;omega) (λ b o' hn e=>by have:=h.off b o' hn e;show ¬b=B;omega),h.at_,h.ah.set _,h.v.fr hf (by show ¬V=B;omega),h.fil.fr hf (by show ¬C=B;omega),λ x hx=>(h.ok x hx).frx hf (λ b o' hn e=>by have:=h.new x hx b o' hn e;omega),h.new,o,h.off⟩,hf⟩
theorem GrS.setC (h:GrS W w Q R B V C m st A n c l a s vs)(i:Nat)(u:Value){vs':List CvF}(hfil:FilC (w.setCell ⟨C,i,none⟩ u) C m vs')(hok:∀x∈vs',x.Ok w)(hnew:∀x∈vs',∀b o,0<x.x.ps.length->x.A=some ⟨b,o,none⟩->C<b):GrS W (w.setCell ⟨C,i,none⟩ u) Q R B V C m st A n c l a s vs' ∧Fr (λ k=>k=C) w (w.setCell ⟨C,i,none⟩ u):=by
 have hf:Fr (λ k=>k=C) w (w.setCell ⟨C,i,none⟩ u):=(Fr.refl (λ k=>k=C) _).setCell (p:=⟨C,i,none⟩) (.inr rfl) _;have o:=h.ord;exact⟨⟨h.bel.trans (hf.below h.bel.size (λ k e=>by have e:k=C:=e;omega)),h.q.fr hf (by show ¬Q=C;omega),h.rd.fr hf (by show ¬R=C;omega) (λ b o' hn e=>by have:=h.off b o' hn e;show ¬b=C;omega),h.at_,h.ah.fr hf (by show ¬B=C;omega),h.v.fr hf (by show ¬V=C;omega),hfil,λ x hx=>(hok x hx).frx hf (λ b o' hn e=>by have:=hnew x hx b o' hn e;omega),hnew,o,h.off⟩,hf⟩
theorem GrS.open_ (h:GrS W w Q R B V C m st A n c l a s vs)(hm:vs.length<m):GrS W w Q R B V C m st A n c l a s (vs ++ [zV]):=
 ⟨h.bel,h.q,h.rd,h.at_,h.ah,h.v,h.fil.open_ hm,λ x hx=>by
  rcases List.mem_append.1 hx with hx|hx
  ·exact h.ok x hx
  ·rw [List.mem_singleton.1 hx];exact Sl.nil w 1 0 (by decide),λ x hx b o h0 e=>by
  rcases List.mem_append.1 hx with hx|hx
  ·exact h.new x hx b o h0 e
  ·rw [List.mem_singleton.1 hx] at h0;exact absurd h0 (Nat.lt_irrefl 0),h.ord,h.off⟩
theorem GrS.put {v v':CvF}(h:GrS W w Q R B V C m st A n c l a s (vs ++ [v])){i:Nat}(hl:vs.length=i){j:Nat}(hj:j<5)(u:Value)(hv:v.vals.set j u=v'.vals)(hok:v'.Ok w)(hnew:∀b o,0<v'.x.ps.length->v'.A=some ⟨b,o,none⟩->C<b):
  GrS W (w.setCell ⟨C,i*5+j,none⟩ u) Q R B V C m st A n c l a s (vs ++ [v'])∧Fr (λ k=>k=C) w (w.setCell ⟨C,i*5+j,none⟩ u):=by
 subst hl;refine h.setC _ u (h.fil.set hj hv) (λ x hx=> ?_) (λ x hx b o h0 e=> ?_)
 ·rcases List.mem_append.1 hx with hx|hx
  ·exact h.ok x (List.mem_append.2 (.inl hx))
  ·rw [List.mem_singleton.1 hx];exact hok
 ·rcases List.mem_append.1 hx with hx|hx
  ·exact h.new x (List.mem_append.2 (.inl hx)) b o h0 e
  ·rw [List.mem_singleton.1 hx] at h0 e;exact hnew b o h0 e
theorem GrS.last {v:CvF}(h:GrS W w Q R B V C m st A n c l a s (vs ++ [v])){i:Nat}(hl:vs.length=i){j:Nat}{u:Value}(hu:v.vals[j]? =some u):w.cell? ⟨C,i*5+j,none⟩=some u:=by
 subst hl;exact h.fil.cell (i:=vs.length) (by simp) hu
end
def NewC (H:Nat)(A:Option Addr)(vs:List CvF):Prop:=(∀b o,A=some ⟨b,o,none⟩->H<=b)∧∀x∈vs,∀b o,0<x.x.ps.length->x.A=some ⟨b,o,none⟩->H<=b
theorem jiq (A:Option Addr)(n c:Nat)(l:List UInt8)(w:World)(h:Sl w 1 A n c (cells l))(hn:n<=1000000):
  Calls Tryz.prog 115 #[.slice A n c] w λ e w' =>∃(CA:Option Addr) (cc:Nat) (vs:List CvF),e= .returned (.tuple #[.agg #[.int .u64 ((jbD l).1:Int), .slice CA vs.length cc], .int .i64 ((jbD l).2.2:Int)])∧vs.map CvF.x=(jbD l).2.1∧Chs w' CA vs.length cc vs∧Below w.heap.size w w' ∧NewC w.heap.size CA vs:=by
 have hln:=h.len;rw [jaa,Nat.mul_one] at hln;have hb0:Below w.heap.size w (w.alloc (.cells #[.int .u64 0, .slice none 0 0] 42)):=(Below.refl _ _).alloc (Nat.le_refl _) _;have hq0:ReB (w.alloc (.cells #[.int .u64 0, .slice none 0 0] 42)) w.heap.size 0 none 0 0:=heap_alloc_new w _;obtain⟨w0,hw0⟩:∃x,x=w.alloc (.cells #[.int .u64 0, .slice none 0 0] 42):=⟨_,rfl⟩;rw [<-hw0] at hb0 hq0;have HW0:=qH hw0;have hr1:Rdg (w0.alloc (.cells #[.slice A n c, .int .i64 0, .int .i64 0] 259)) w0.heap.size A n c l (0,0):=⟨⟨_,heap_alloc_new w0 _⟩,h.below (hb0.trans (((Below.refl _ _).alloc (Nat.le_refl _) _).mono hb0.size)) (Nat.le_refl _),λ b o hn e=>by have:=h.lt (by decide) hn e;have:=hb0.size;omega⟩;have hb1:Below w0.heap.size w0 (w0.alloc (.cells #[.slice A n c, .int .i64 0, .int .i64 0] 259)):=(Below.refl _ _).alloc (Nat.le_refl _) _
 obtain⟨w1,hw1⟩:∃x,x=w0.alloc (.cells #[.slice A n c, .int .i64 0, .int .i64 0] 259):=⟨_,rfl⟩;rw [<-hw1] at hr1 hb1;have HW1:=qH hw1;obtain⟨Q,hQ⟩:∃Q,Q=w.heap.size:=⟨_,rfl⟩;obtain⟨R,hR⟩:∃R,R=w0.heap.size:=⟨_,rfl⟩;obtain⟨B,hB⟩:∃B,B=w1.heap.size:=⟨_,rfl⟩;have hzR:w0.heap.size=w.heap.size+1:=by rw [hw0];simp
 have hzB:w1.heap.size=w0.heap.size+1:=by rw [hw1];simp
 have hb2:Below w1.heap.size w1 (w1.alloc (.cells #[.string ⟨#[]⟩] 9)):=(Below.refl _ _).alloc (Nat.le_refl _) _;have hc2:=Cel.new w1 (.string ⟨#[]⟩) 9;obtain⟨w2,hw2⟩:∃x,x=w1.alloc (.cells #[.string ⟨#[]⟩] 9):=⟨_,rfl⟩;rw [<-hw2] at hb2 hc2;have HW2:=qH hw2;rw [<-hR] at hr1;rw [<-hQ] at hq0;rw [<-hB] at hc2;have RD:=qH (hr1.later hb2);have QD:=qH (show ReB w2 Q 0 none 0 0 from (hq0.later hb1).later hb2);have AD:=qH hc2;have BL:=qH (hb0.trans ((hb1.trans (hb2.mono hb1.size)).mono hb0.size));have NS:=qH (show Q=w.heap.size∧R=w.heap.size+1∧B=w.heap.size+1+1∧w2.heap.size=w.heap.size+1+1+1 from ⟨hQ,by omega,by omega,by rw [hw2];simp;omega⟩);have LN:=qH hln;have HS:=qH h;clear hb0 hq0 hw0 hr1 hb1 hw1 hb2 hc2 hw2 hzR hzB h hln;have s0:=AD.out.cell;have s1:=AD.out.free;rw [hB] at s0 s1;go_enter Tryz.func115,Tryz.ntmps115;go_wp2_with (first|(rw [<-HW0.out])|(rw [<-HW1.out])|(rw [<-HW2.out]))
 rw [<-hQ,<-hR,<-hB];clear hQ hR hB s0 s1;have hsf:Fr (λ k=>k=B) w2 (w2.setCell ⟨B,0,none⟩ (.string ⟨#[]⟩)):=(Fr.refl (λ k=>k=B) _).setCell (p:=⟨B,0,none⟩) (.inr rfl) _;have AD:=qH (AD.out.set (.string ⟨#[]⟩));have RD:=qH (RD.out.fr hsf (by have:=NS.out;show ¬R=B;omega) (λ b o hn e=>by have:=HS.out.lt (by decide) hn e;have:=NS.out;show ¬b=B;omega));have QD:=qH (show ReB (w2.setCell ⟨B,0,none⟩ (.string ⟨#[]⟩)) Q 0 none 0 0 from hsf.row_some QD.out (by have:=NS.out;show ¬Q=B;omega));have BL:=qH (BL.out.trans (hsf.below (by have:=NS.out;omega) (λ k h=>by have h:k=B:=h;have:=NS.out;omega)));have NS:=qH (show Q=w.heap.size∧R=w.heap.size+1∧B=w.heap.size+1+1∧(w2.setCell ⟨B,0,none⟩ (.string ⟨#[]⟩)).heap.size=w.heap.size+1+1+1 from by have:=NS.out;simp;omega);clear hsf;obtain⟨w3,hw3⟩:∃x,x=w2.setCell ⟨B,0,none⟩ (.string ⟨#[]⟩):=⟨_,rfl⟩;rw [<-hw3] at AD RD QD BL NS ⊢;clear hw3
 have hlt:w.heap.size+3<=w3.heap.size:=by have:=NS.out;omega
 have LT:=qH hlt;have NQ:=qH (show Q=w.heap.size∧R=w.heap.size+1∧B=w.heap.size+1+1 from by have:=NS.out;omega);refine(jdv R 160 161 w3 (by have:=NS.out;omega)).mono ?_;rintro e w4 ⟨t1,g1,p1,rfl,hk1,hb4,l1⟩;have K1:=qH hk1;have B4:=qH (show Below w3.heap.size w3 w4 from hb4);have L1:=qH l1;clear hk1 hb4 l1;go_wp2_with fail;refine(jdv R 160 162 w4 (by have:=NS.out;have:=B4.out.size;omega)).mono ?_;rintro e w5 ⟨t2,g2,p2,rfl,hk1,hb4,l1⟩;have K1:=qH (K1.out.later hb4);have K2:=qH hk1;have B5:=qH (B4.out.trans (hb4.mono B4.out.size));have L2:=qH (show w3.heap.size<=t2∧w3.heap.size<=g2∧w3.heap.size<=p2 from by have:=B4.out.size;omega);clear hk1 hb4 l1 B4;go_wp2_with fail;refine(jlT R 164 165 (.pointer (some ⟨B,0,none⟩)) w5 (by have:=NS.out;have:=B5.out.size;omega)).mono ?_;rintro e w6 ⟨t3,g3,p3,rfl,hk1,hb4,l1⟩;have K1:=qH (K1.out.later hb4);have K2:=qH (K2.out.later hb4)
 have K3:=qH hk1;have B6:=qH (B5.out.trans (hb4.mono B5.out.size));have L3:=qH (show w3.heap.size<=t3∧w3.heap.size<=g3∧w3.heap.size<=p3 from by have:=B5.out.size;omega);clear hk1 hb4 l1 B5;go_wp2_with fail;refine(jdv R 166 167 w6 (by have:=NS.out;have:=B6.out.size;omega)).mono ?_;rintro e w7 ⟨t4,g4,p4,rfl,hk1,hb4,l1⟩;have K1:=qH (K1.out.later hb4);have K2:=qH (K2.out.later hb4);have K3:=qH (K3.out.later hb4);have K4:=qH hk1;have B7:=qH (B6.out.trans (hb4.mono B6.out.size));have L4:=qH (show w3.heap.size<=t4∧w3.heap.size<=g4∧w3.heap.size<=p4 from by have:=B6.out.size;omega);clear hk1 hb4 l1 B6;go_wp2_with fail;refine(jlU R 169 170 w7 (by have:=NS.out;have:=B7.out.size;omega)).mono ?_;rintro e w8 ⟨t5,g5,p5,rfl,hk1,hb4,l1⟩;have K1:=qH (K1.out.later hb4);have K2:=qH (K2.out.later hb4);have K3:=qH (K3.out.later hb4);have K4:=qH (K4.out.later hb4);have K5:=qH hk1
 have B8:=qH (B7.out.trans (hb4.mono B7.out.size));have L5:=qH (show w3.heap.size<=t5∧w3.heap.size<=g5∧w3.heap.size<=p5 from by have:=B7.out.size;omega);clear hk1 hb4 l1 B7;have AD:=qH (AD.out.later B8.out);have RD:=qH (RD.out.later B8.out);have QD:=qH (QD.out.later B8.out);have BL:=qH (BL.out.trans (B8.out.mono BL.out.size));have hba:Below w8.heap.size w8 (w8.alloc (.cells #[.int .u64 0, .slice none 0 0] 42)):=(Below.refl _ _).alloc (Nat.le_refl _) _;have hra:ReB (w8.alloc (.cells #[.int .u64 0, .slice none 0 0] 42)) w8.heap.size 0 none 0 0:=heap_alloc_new w8 _;obtain⟨w9,hw9⟩:∃x,x=w8.alloc (.cells #[.int .u64 0, .slice none 0 0] 42):=⟨_,rfl⟩;have HW9:=qH hw9;rw [<-hw9] at hba hra;obtain⟨V,hV⟩:∃V,V=w8.heap.size:=⟨_,rfl⟩;rw [<-hV] at hra;have hVl:w3.heap.size<=V:=by rw [hV];exact B8.out.size
 have NTV0:=qH (show ¬t2=V∧¬g2=V∧¬p2=V∧¬t3=V∧¬g3=V∧¬p3=V∧¬t4=V∧¬g4=V∧¬p4=V∧¬t5=V∧¬g5=V∧¬p5=V from by have:=K2.out.t.lt;have:=K2.out.g.lt;have:=K2.out.p.lt;have:=K3.out.t.lt;have:=K3.out.g.lt;have:=K3.out.p.lt;have:=K4.out.t.lt;have:=K4.out.g.lt;have:=K4.out.p.lt;have:=K5.out.t.lt;have:=K5.out.g.lt;have:=K5.out.p.lt;omega);have VL:=qH hVl;have K1:=qH (K1.out.later hba);have K2:=qH (K2.out.later hba);have K3:=qH (K3.out.later hba);have K4:=qH (K4.out.later hba);have K5:=qH (K5.out.later hba);have AD:=qH (AD.out.later hba);have RD:=qH (RD.out.later hba);have QD:=qH (QD.out.later hba);have BL:=qH (BL.out.trans (hba.mono BL.out.size));have VD:=qH hra;have enV:=enters_of Tryz.func160 (by kernel_rfl) rfl;have enA:=enters_of Tryz.func161 (by kernel_rfl) rfl;have en1:=enters_of Tryz.func162 (by kernel_rfl) rfl;have EN:=qH (And.intro enV (And.intro enA en1))
 obtain⟨st,hst⟩:∃x,x=tkG 0 (λ a=>varR l (a:Int)) (λ _=>true) (0,0):=⟨_,rfl⟩;have hca:=jjH _ _ enV enA (λ a=>varR l (a:Int)) (λ _=>true) R t1 g1 p1 A n c l (0,0) w9 RD.out K1.out (λ w' hs=>jqs A n c l 0 w' hs) (λ x w' =>jof (x:Int) w');rw [<-hst] at hca;have STX:=qH hst;clear hba hra hw9 hVl enV enA en1 hst;go_wp2_with (rw [<-HW9.out]);refine hca.mono ?_;clear hca;rintro e wa ⟨rfl,hrd,hf⟩;rw [<-hV];clear hV;have NR:=qH (show ¬Q=R∧¬B=R∧¬V=R from by have:=NQ.out;have:=VL.out;have:=LT.out;omega);have RD:=qH hrd;have K2:=qH (K2.out.frR hf);have K3:=qH (K3.out.frR hf);have K4:=qH (K4.out.frR hf);have K5:=qH (K5.out.frR hf);have AD:=qH (AD.out.fr hf NR.out.2.1);have QD:=qH (QD.out.fr hf NR.out.1);have BL:=qH (BL.out.trans (hf.below BL.out.size (λ k h=>by have h:k=R:=h;have:=NQ.out;omega)));have VDa:=VD.out.fr hf NR.out.2.2;have c0:=VDa.c0;have f0:=VDa.free 0
 have hfV:Fr (λ k=>k=V) wa (wa.setCell ⟨V,0,none⟩ (.int .u64 (st.1:Int))):=(Fr.refl (λ k=>k=V) _).setCell (p:=⟨V,0,none⟩) (.inr rfl) _;have hVD:=VDa.set0 st.1;obtain⟨wb,hwb⟩:∃x,x=wa.setCell ⟨V,0,none⟩ (.int .u64 (st.1:Int)):=⟨_,rfl⟩;have HWB:=qH hwb;rw [<-hwb] at hfV hVD;have NV:=qH (show ¬Q=V∧¬B=V∧¬R=V∧w3.heap.size<=V from by have:=NQ.out;have:=VL.out;have:=LT.out;omega);have VD:=qH hVD;have RD:=qH (RD.out.fr hfV NV.out.2.2.1 (λ b o hn e=>by have:=HS.out.lt (by decide) hn e;have:=NV.out;have:=LT.out;show ¬b=V;omega));have NTV:=qH (show ¬t2=V∧¬g2=V∧¬p2=V∧¬t3=V∧¬g3=V∧¬p3=V∧¬t4=V∧¬g4=V∧¬p4=V∧¬t5=V∧¬g5=V∧¬p5=V from NTV0.out);have K2:=qH (K2.out.fr hfV NTV.out.1 NTV.out.2.1 NTV.out.2.2.1);have K3:=qH (K3.out.fr hfV NTV.out.2.2.2.1 NTV.out.2.2.2.2.1 NTV.out.2.2.2.2.2.1);have K4:=qH (K4.out.fr hfV NTV.out.2.2.2.2.2.2.1 NTV.out.2.2.2.2.2.2.2.1 NTV.out.2.2.2.2.2.2.2.2.1)
 have K5:=qH (K5.out.fr hfV NTV.out.2.2.2.2.2.2.2.2.2.1 NTV.out.2.2.2.2.2.2.2.2.2.2.1 NTV.out.2.2.2.2.2.2.2.2.2.2.2);have AD:=qH (AD.out.fr hfV NV.out.2.1);have QD:=qH (QD.out.fr hfV NV.out.1);have BL:=qH (BL.out.trans (hfV.below BL.out.size (λ k h=>by have h:k=V:=h;have:=NV.out;have:=LT.out;omega)));obtain⟨nn,hnn⟩:∃x,x=tkG 0 (λ a=>varR l (a:Int)) (λ x=>decide (x<=16)) st.2:=⟨_,rfl⟩;have hm16:nn.1<=16:=by
  have:=tkG_ok (none:=0) (get:=λ a=>varR l (a:Int)) (right:=λ x=>decide (x<=16)) (s:=st.2) (by decide);rw [<-hnn] at this;exact of_decide_eq_true this
 have hca:=jjH _ _ EN.out.1 EN.out.2.2 (λ a=>varR l (a:Int)) (λ x=>decide (x<=16)) R t2 g2 p2 A n c l st.2 wb RD.out K2.out (λ w' hs=>jqs A n c l st.2.1 w' hs) (λ x w' =>jpX x w');rw [<-hnn] at hca;have NNX:=qH hnn;have M16:=qH hm16;have hmk:=λ W=>jp1 nn.1 (by omega) W
 clear hrd hf VDa hfV hVD hwb hnn;go_wp2_with (rw [<-HWB.out]);refine hca.mono ?_;clear hca;rintro e wc ⟨rfl,hrd,hf⟩;have RD:=qH hrd;have K3:=qH (K3.out.frR hf);have K4:=qH (K4.out.frR hf);have K5:=qH (K5.out.frR hf);have AD:=qH (AD.out.fr hf NR.out.2.1);have QD:=qH (QD.out.fr hf NR.out.1);have BL:=qH (BL.out.trans (hf.below BL.out.size (λ k h=>by have h:k=R:=h;have:=NQ.out;omega)));have VD:=qH (VD.out.fr hf NR.out.2.2);obtain⟨m,hm⟩:∃m,m=nn.1:=⟨_,rfl⟩;rw [<-hm] at hm16 hmk ⊢;have HM:=qH hm;have hba:Below wc.heap.size wc (wc.alloc (.cells ((List.replicate m zV).flatMap CvF.vals).toArray 144)):=(Below.refl _ _).alloc (Nat.le_refl _) _;have hfi:=FilC.made wc m 144;obtain⟨wd,hwd⟩:∃x,x=wc.alloc (.cells ((List.replicate m zV).flatMap CvF.vals).toArray 144):=⟨_,rfl⟩;have HWD:=qH hwd;rw [<-hwd] at hba hfi;obtain⟨C,hC⟩:∃C,C=wc.heap.size:=⟨_,rfl⟩;rw [<-hC] at hfi
 have NC:=qH (show V<C∧t3<C∧g3<C∧p3<C∧t4<C∧g4<C∧p4<C∧t5<C∧g5<C∧p5<C from by
  have h1:=block_lt VD.out;rw [hC];exact⟨h1,K3.out.t.lt,K3.out.g.lt,K3.out.p.lt,K4.out.t.lt,K4.out.g.lt,K4.out.p.lt,K5.out.t.lt,K5.out.g.lt,K5.out.p.lt⟩)
 have VDd:=VD.out.later hba;have c1:=VDd.c1;have f1:=VDd.free 1;have hfV:Fr (λ k=>k=V) wd (wd.setCell ⟨V,1,none⟩ (.slice (some ⟨C,0,none⟩) m m)):=(Fr.refl (λ k=>k=V) _).setCell (p:=⟨V,1,none⟩) (.inr rfl) _;have hVD:=VDd.set1 (some ⟨C,0,none⟩) m m;obtain⟨we,hwe⟩:∃x,x=wd.setCell ⟨V,1,none⟩ (.slice (some ⟨C,0,none⟩) m m):=⟨_,rfl⟩;have HWE:=qH hwe;rw [<-hwe] at hfV hVD;have hBD:=BL.out.trans (hba.mono BL.out.size);have hgs:GrS w we Q R B V C m st.1 A n c l ⟨#[]⟩ nn.2 []:=by
  refine⟨hBD.trans (hfV.below hBD.size (λ k h=>by have h:k=V:=h;have:=NV.out;have:=LT.out;omega)),(QD.out.later hba).fr hfV NV.out.1,(RD.out.later hba).fr hfV NV.out.2.2.1 (λ b o hn e=>by have:=HS.out.lt (by decide) hn e;have:=NV.out;have:=LT.out;show ¬b=V;omega), ?_,(AD.out.later hba).fr hfV NV.out.2.1,hVD,hfi.fr hfV (by have:=NC.out;show ¬C=V;omega),λ x hx=>(by cases hx),λ x hx=>(by cases hx), ?_,λ b o hn e=>HS.out.lt (by decide) hn e⟩
  ·rw [NNX.out]
   refine jkz _ _ _ l (λ a ha=>jkA l a) _ ?_;rw [STX.out];exact jkz _ _ _ l (λ a ha=>jkA l a) _ (Nat.zero_le _)
  ·have:=NQ.out
   have:=NV.out;have:=NC.out;have:=LT.out;omega
 have hgk:GrK we R B C t3 g3 p3 t4 g4 p4 t5 g5 p5:=by
  have h1:=NTV.out;refine⟨(K3.out.later hba).fr hfV h1.2.2.2.1 h1.2.2.2.2.1 h1.2.2.2.2.2.1,(K4.out.later hba).fr hfV h1.2.2.2.2.2.2.1 h1.2.2.2.2.2.2.2.1 h1.2.2.2.2.2.2.2.2.1,(K5.out.later hba).fr hfV h1.2.2.2.2.2.2.2.2.2.1 h1.2.2.2.2.2.2.2.2.2.2.1 h1.2.2.2.2.2.2.2.2.2.2.2, ?_⟩;intro x hx;have:=NC.out;have:=NQ.out;have:=L3.out;have:=L4.out;have:=L5.out;have:=LT.out;omega
 have GS:=qH hgs;have GK:=qH hgk;clear hrd hf hba hfi hwd VDd hfV hVD hwe hBD hgs hgk hm;go_wp2_with (first|(rw [<-HWD.out])|(rw [<-HWE.out]));rw [<-hC];clear hC;rw [<-HWE.out];clear RD QD BL VD AD K1 K2 K3 K4 K5;go_loopw [39] (λ iv wr=>∃(i:Nat) (s:Nat × Nat) (a:ByteArray) (vs:List CvF),iv= .int .i64 (i:Int)∧i<=m∧vs.length=i∧GrS w wr Q R B V C m st.1 A n c l a s vs∧GrK wr R B C t3 g3 p3 t4 g4 p4 t5 g5 p5∧(vs.map CvF.x ++(tkCs l (m-i) a s).1,(tkCs l (m-i) a s).2)=tkCs l m ⟨#[]⟩ nn.2) (λ iv _=>m-(intOf iv).toNat)
 case atStart=>exact⟨0,nn.2,⟨#[]⟩, [],rfl,by omega,rfl,GS.out,GK.out,rfl⟩
 case round=>
  obtain⟨i,s,a,vs,rfl,hi,hpl,hgs,hgk,hall⟩:=hrel;have HPL:=qH hpl;clear GS GK
  by_cases hlt:i<m
  ·have hii:(i:Int)<(m:Int):=by omega
   obtain⟨k,hk2⟩:∃k,m-i=k+1:=⟨m-i-1,by omega⟩;rw [hk2,tkCs] at hall;have HK2:=qH hk2;obtain⟨ky,hky⟩:∃x,x=tkG (⟨#[]⟩:ByteArray) (gKey l) (λ x=>gtK x a) s:=⟨_,rfl⟩;obtain⟨ft,hft⟩:∃x,x=tkG 0 (jfU l) (λ x=>decide (x<=1)) ky.2:=⟨_,rfl⟩;have htc:tkC l a s=if ft.1=1 then(⟨ky.1,true, [],0,0⟩,ft.2) else(⟨ky.1,false,jbB (tkB l ft.2).1.ps,(tkB l ft.2).1.g,((tkB l ft.2).1.q:Int)⟩,(tkB l ft.2).2):=by rw [hft,hky];rfl
   have ALL:=qH hall;have HTC:=qH htc;have hgo:=hgs.open_ (by omega);have v1:=hgo.v.c1;have hca:=ftakeS _ _ (enters_of Tryz.func164 (by kernel_rfl) rfl) (enters_of Tryz.func165 (by kernel_rfl) rfl) (.pointer (some ⟨B,0,none⟩)) (gKey l) (λ x=>gtK x a) R t3 g3 p3 A n c l s wr hgo.rd hgk.k3 (λ w' hs=>jlS A n c l s.1 w' hs) (λ x w' hf=>jpZ x a B w' (hgo.ah.fr hf NR.out.2.1));rw [<-hky] at hca;have hak:AtOk l ky.2:=by rw [hky];exact jkz _ _ _ l (λ a _=>key_le l a) _ hgs.at_
   have haf:AtOk l ft.2:=by rw [hft];exact jkz _ _ _ l (λ a _=>jrD l a) _ hak
   have HFT:=qH hft;have HAK:=qH hak;have HAF:=qH haf;have GS:=qH hgo;have GK:=qH hgk;clear hpl hgs hgk hall hk2 hky hft htc hgo hak haf;go_wp2_with fail;refine hca.mono ?_;clear hca;rintro e x1 ⟨rfl,hrd,hf⟩;have G1:=qH (GS.out.frR hf hrd HAK.out);have GK:=qH (GK.out.fr (.inl rfl) hf);have c1:=G1.out.last HPL.out (j:=0) rfl;rw [Nat.add_zero] at c1;have f1:=G1.out.fil.free (i*5);have hp2:=G1.out.put HPL.out (j:=0) (by decide) (.string ky.1) (v':=⟨⟨ky.1,false, [],0,0⟩,none,0⟩) rfl (Sl.nil _ 1 0 (by decide)) (λ b o h0=>absurd h0 (Nat.lt_irrefl 0));rw [Nat.add_zero] at hp2;have c2:=hp2.1.last HPL.out (j:=0) rfl;rw [Nat.add_zero] at c2;have b2:=hp2.1.ah.cell;have e2:=hp2.1.ah.free;have hp3:=hp2.1.setB ky.1;have G3:=qH hp3.1;have GK:=qH ((GK.out.fr (.inr (.inr rfl)) hp2.2).fr (.inr (.inl rfl)) hp3.2)
   obtain⟨x3,hx3⟩:∃x,x=(x1.setCell ⟨C,i*5,none⟩ (.string ky.1)).setCell ⟨B,0,none⟩ (.string ky.1):=⟨_,rfl⟩;have HX3:=qH hx3;rw [<-hx3] at G3 GK;clear hrd hf hp2 hp3 hx3 v1;have hca:=jjH _ _ (enters_of Tryz.func166 (by kernel_rfl) rfl) (enters_of Tryz.func167 (by kernel_rfl) rfl) (jfU l) (λ x=>decide (x<=1)) R t4 g4 p4 A n c l ky.2 x3 G3.out.rd GK.out.k4 (λ w' hs=>jjI A n c l ky.2.1 (by have:=HAK.out;unfold AtOk at this;have:=LN.out;omega) w' hs) (λ x w' =>jpY x w');rw [<-HFT.out] at hca;go_wp2_with (rw [<-HX3.out]);refine hca.mono ?_;clear hca c1 f1 c2 b2 e2;rintro e x4 ⟨rfl,hrd,hf⟩;have G4:=qH (G3.out.frR hf hrd HAF.out);have GK:=qH (GK.out.fr (.inl rfl) hf);have c1:=G4.out.last HPL.out (j:=1) rfl;have f1:=G4.out.fil.free (i*5+1);clear hrd hf
   by_cases hft1:ft.1=1
   ·have q1:((ft.1:Int)==1)=true:=by rw [hft1];rfl
    have hp2:=G4.out.put HPL.out (j:=1) (by decide) (.bool true) (v':=⟨⟨ky.1,true, [],0,0⟩,none,0⟩) rfl (Sl.nil _ 1 0 (by decide)) (λ b o h0=>absurd h0 (Nat.lt_irrefl 0));have c2:=hp2.1.last HPL.out (j:=1) rfl;have G5:=qH hp2.1;have GK:=qH (GK.out.fr (.inr (.inr rfl)) hp2.2);have htc:=HTC.out;rw [if_pos hft1] at htc;have TC:=qH htc;clear hp2 htc hft1;go_wp2_with fail;go_roundw
    case rel=>
     refine⟨i+1,ft.2,ky.1,vs ++ [⟨⟨ky.1,true, [],0,0⟩,none,0⟩],by go_num,by omega,by rw [List.length_append,HPL.out];rfl,G5.out,GK.out, ?_⟩;have h1:=ALL.out;rw [TC.out] at h1;rw [show m-(i+1)=k from by have:=HK2.out;omega,List.map_append,List.append_assoc];exact h1
    case measure=>simp [intOf];omega
   ·have q1:((ft.1:Int)==1)=false:=by rw [beq_eq_false_iff_ne];omega
    have hp2:=G4.out.put HPL.out (j:=1) (by decide) (.bool false) (v':=⟨⟨ky.1,false, [],0,0⟩,none,0⟩) rfl (Sl.nil _ 1 0 (by decide)) (λ b o h0=>absurd h0 (Nat.lt_irrefl 0));have c2:=hp2.1.last HPL.out (j:=1) rfl;have G5:=qH hp2.1;have GK:=qH (GK.out.fr (.inr (.inr rfl)) hp2.2);have htc:=HTC.out;rw [if_neg hft1] at htc;have TC:=qH htc;obtain⟨x5,hx5⟩:∃x,x=x4.setCell ⟨C,i*5+1,none⟩ (.bool false):=⟨_,rfl⟩;have HX5:=qH hx5;rw [<-hx5] at G5 GK c2;have hca:=ftakeB R t5 g5 p5 A n c l ft.2 x5 G5.out.rd GK.out.k5;obtain⟨bl,hbl⟩:∃x,x=tkB l ft.2:=⟨_,rfl⟩;have HAB:=qH (show AtOk l bl.2 from by rw [hbl];exact tkB_at l _ HAF.out);rw [<-hbl] at hca TC;clear hp2 htc hft1 hx5 hbl;go_wp2_with (rw [<-HX5.out]);refine hca.mono ?_;clear hca;rintro e x6 ⟨PA,pc,rfl,hs6,hrd,hf,hnw⟩;have G6:=qH (G5.out.frR hf hrd HAB.out);have GK:=qH (GK.out.fr (.inl rfl) hf);have S6:=qH hs6
    have NW:=qH (show ∀b o,0<bl.1.ps.length->PA=some ⟨b,o,none⟩->C<b from λ b o hn e=>by have:=hnw b o hn e;have:=G5.out.fil.lt;omega);have d2:=G6.out.last HPL.out (j:=2) rfl;have d3:=G6.out.last HPL.out (j:=3) rfl;have d4:=G6.out.last HPL.out (j:=4) rfl;have f2:=G6.out.fil.free (i*5+2);have f3:=G6.out.fil.free (i*5+3);have f4:=G6.out.fil.free (i*5+4);clear hs6 hrd hf hnw c1 f1 c2 q1;go_wp2_with fail;have hln:=jfT bl.1.ps;have hp7:=G6.out.put HPL.out (j:=2) (by decide) (.slice PA bl.1.ps.length pc) (v':=⟨⟨ky.1,false,jbB bl.1.ps,0,0⟩,PA,pc⟩) (by simp [CvF.vals,hln]) (by show Sl x6 1 PA (jbB bl.1.ps).length pc _;rw [hln];exact S6.out) (λ b o h0 e=>NW.out b o (by rw [<-hln];exact h0) e)
    have hp8:=hp7.1.put HPL.out (j:=3) (by decide) (.int .u64 (bl.1.g:Int)) (v':=⟨⟨ky.1,false,jbB bl.1.ps,bl.1.g,0⟩,PA,pc⟩) rfl (show Sl _ 1 PA (jbB bl.1.ps).length pc (jau (jbB bl.1.ps)) from hp7.1.ok ⟨⟨ky.1,false,jbB bl.1.ps,0,0⟩,PA,pc⟩ (List.mem_append.2 (.inr (List.mem_singleton.2 rfl)))) (λ b o h0 e=>NW.out b o (by rw [<-hln];exact h0) e);have hp9:=hp8.1.put HPL.out (j:=4) (by decide) (.int .i64 (bl.1.q:Int)) (v':=⟨⟨ky.1,false,jbB bl.1.ps,bl.1.g,(bl.1.q:Int)⟩,PA,pc⟩) rfl (show Sl _ 1 PA (jbB bl.1.ps).length pc (jau (jbB bl.1.ps)) from hp8.1.ok ⟨⟨ky.1,false,jbB bl.1.ps,bl.1.g,0⟩,PA,pc⟩ (List.mem_append.2 (.inr (List.mem_singleton.2 rfl)))) (λ b o h0 e=>NW.out b o (by rw [<-hln];exact h0) e);have GK:=((GK.out.fr (.inr (.inr rfl)) hp7.2).fr (.inr (.inr rfl)) hp8.2).fr (.inr (.inr rfl)) hp9.2;go_roundw
    case rel=>
     refine⟨i+1,bl.2,ky.1,vs ++ [⟨⟨ky.1,false,jbB bl.1.ps,bl.1.g,(bl.1.q:Int)⟩,PA,pc⟩],by go_num,by omega,by rw [List.length_append,HPL.out];rfl,hp9.1,GK, ?_⟩;have h1:=ALL.out;rw [TC.out] at h1;rw [show m-(i+1)=k from by have:=HK2.out;omega,List.map_append,List.append_assoc];exact h1
    case measure=>simp [intOf];omega
  ·obtain rfl:m=i:=by omega
   rw [Nat.sub_self,tkCs,List.append_nil] at hall;have hen:=jp0 R A n c l s wr hgs.rd;have hg:jbD l=if endE l s≠0 then(0, [],endE l s) else(st.1,vs.map CvF.x,0):=by
    unfold jbD;dsimp only;rw [<-STX.out,<-NNX.out,<-HM.out,<-hall]
   have GS:=qH hgs;have HG:=qH hg;clear hgs hgk hall hpl hg
   by_cases he:endE l s=0
   ·rw [he] at hen
    have hg:=HG.out;rw [if_neg (λ h=>h he)] at hg;have HG2:=qH hg;clear hg he;go_wp2_with fail;refine hen.mono ?_;clear hen;rintro e x7 ⟨rfl,hb7⟩;have Q7:=qH (GS.out.q.later hb7);have V7:=qH (GS.out.v.later hb7);have B7:=qH (GS.out.bel.trans (hb7.mono GS.out.bel.size));have F7:=qH (GS.out.fil.fr (S:=λ _=>False) (Fr.of_below hb7) (λ h=>h));have O7:=qH (show ∀x∈vs,x.Ok x7 from λ x hx=>(GS.out.ok x hx).below hb7);have hz:(Tryz.prog.info? 42).map (·.size)=some (#[.int .u64 (st.1:Int), .slice (some ⟨C,0,none⟩) m m]:Array Value).size:=by show _=some 2;kernel_rfl
    have ho:(#[.int .u64 (st.1:Int), .slice (some ⟨C,0,none⟩) m m]:Array Value).all (·.oneCell')=true:=jqr _ _ _ _;have HZ:=qH hz;have HO:=qH ho;clear hb7 hz ho;go_wp2_with (first|(refine jaj (d:=78) ?_;refine jad (o:=⟨some 78,_,_,_,_,_⟩) (by rfl) _ _ (jap rfl rfl V7.out) ?_)|(refine jax ?_;refine wpList_store_row (o:=⟨none,_,_,_,_,_⟩) rfl 42 (.tmp 2) (.tmp 78) rfl Q _ rfl rfl 42 _ Q7.out HZ.out rfl HO.out ?_));refine bodyPost_ret (jal Tryz.results115 _ _ Q 42 _ (0,0) _ rfl (setRow_heap _ _ _ _ _ _ Q7.out) Tryz.underlying42 rfl HZ.out) rfl ?_;rw [HG2.out];have o:=GS.out.ord;have hfs:=Fr.setRow17 (S:=λ k=>k=Q) (Fr.refl _ x7) (.inr rfl) #[.int .u64 (st.1:Int), .slice (some ⟨C,0,none⟩) m m]
    have hch:=(F7.out.fr hfs (by show ¬C=Q;omega)).chs HPL.out (by omega) (λ x hx=>(O7.out x hx).frx hfs (λ b o' h0 e=>by have:=GS.out.new x hx b o' h0 e;omega));have hpl:=HPL.out;refine⟨some ⟨C,0,none⟩,m,vs, ?_,rfl, ?_,B7.out.trans (hfs.below B7.out.size (λ k h=>by have h:k=Q:=h;omega)),⟨λ b o' e=>by injection e with e;injection e with e _ _;omega,λ x hx b o' h0 e=>by have:=GS.out.new x hx b o' h0 e;omega⟩⟩
    ·rw [hpl];rfl
    ·rw [hpl];exact hch
   ·have hez:¬(endE l s:Int)=0:=by omega
    have hg:=HG.out;rw [if_pos he] at hg;have HG2:=qH hg;clear hg he;go_wp2_with fail;refine hen.mono ?_;clear hen;rintro e x7 ⟨rfl,hb7⟩;have Q7:=qH (GS.out.q.later hb7);have B7:=qH (GS.out.bel.trans (hb7.mono GS.out.bel.size));have hz:(Tryz.prog.info? 42).map (·.size)=some (#[.int .u64 0, .slice none 0 0]:Array Value).size:=by show _=some 2;kernel_rfl
    have ho:(#[.int .u64 0, .slice none 0 0]:Array Value).all (·.oneCell')=true:=jqr _ _ _ _;have HZ:=qH hz;have HO:=qH ho;clear hb7 hz ho;go_wp2_with (refine jax ?_;refine wpList_store_row (o:=⟨none,_,_,_,_,_⟩) rfl 42 (.tmp 2) (.tmp 76) rfl Q _ rfl rfl 42 _ Q7.out HZ.out rfl HO.out ?_);refine bodyPost_ret (jal Tryz.results115 _ _ Q 42 _ (0,0) _ rfl (setRow_heap _ _ _ _ _ _ Q7.out) Tryz.underlying42 rfl HZ.out) rfl ?_;rw [HG2.out];have o:=GS.out.ord;have hfs:=Fr.setRow17 (S:=λ k=>k=Q) (Fr.refl _ x7) (.inr rfl) #[.int .u64 0, .slice none 0 0];exact⟨none,0, [],rfl,rfl,⟨rfl,Nat.le_refl _,by decide,λ i v hv=>by simp at hv⟩,B7.out.trans (hfs.below B7.out.size (λ k h=>by have h:k=Q:=h;omega)),⟨λ b o' e=>(by cases e),λ x hx=>(by cases hx)⟩⟩
end
section
open Go.RowKit Go.Proofs
set_option maxRecDepth 20000
set_option maxHeartbeats 3200000
theorem jlV (A:Option Addr)(n c g:Nat)(q:Int)(l:List Int)(A2:Option Addr)(c2:Nat)(w:World)(h:Sl w 1 A n c (jau l))(h2:Sl w 1 A2 n c2 (jau l)):
  Calls Tryz.prog 123 #[.agg #[.slice A n c, .int .u64 (g:Int), .int .i64 q], .agg #[.slice A2 n c2, .int .u64 (g:Int), .int .i64 q]] w λ e w' =>e= .returned (.bool true)∧Below w.heap.size w w':=by
 have hl:=h.len;rw [jaM,Nat.mul_one] at hl;have hlim:=h.lim;unfold maxLen at hlim;have hxa:BlB (w.alloc (.cells #[.slice A n c, .int .u64 (g:Int), .int .i64 q] 142)) w.heap.size A n c g q:=heap_alloc_new w _;have hb1:Below w.heap.size w (w.alloc (.cells #[.slice A n c, .int .u64 (g:Int), .int .i64 q] 142)):=(Below.refl _ _).alloc (Nat.le_refl _) _;obtain⟨w1,hw1⟩:∃x,x=w.alloc (.cells #[.slice A n c, .int .u64 (g:Int), .int .i64 q] 142):=⟨_,rfl⟩;have HW1:=qH hw1;rw [<-hw1] at hxa hb1;have hyb:BlB (w1.alloc (.cells #[.slice A2 n c2, .int .u64 (g:Int), .int .i64 q] 142)) w1.heap.size A2 n c2 g q:=heap_alloc_new w1 _;have hb2:Below w1.heap.size w1 (w1.alloc (.cells #[.slice A2 n c2, .int .u64 (g:Int), .int .i64 q] 142)):=(Below.refl _ _).alloc (Nat.le_refl _) _;obtain⟨w2,hw2⟩:∃x,x=w1.alloc (.cells #[.slice A2 n c2, .int .u64 (g:Int), .int .i64 q] 142):=⟨_,rfl⟩;have HW2:=qH hw2
 rw [<-hw2] at hyb hb2;have hx2:=hxa.later hb2;have a0:=hx2.c0;have a1:=hx2.c1;have a2:=hx2.c2;have d0:=hyb.c0;have d1:=hyb.c1;have d2:=hyb.c2;have B2:=qH (hb1.trans (hb2.mono hb1.size));have X:=qH hx2;have Y:=qH hyb;have H:=qH (h.below (hb1.trans (hb2.mono hb1.size)) (Nat.le_refl _));have H2:=qH (h2.below (hb1.trans (hb2.mono hb1.size)) (Nat.le_refl _));have HL:=qH hl;clear hxa hb1 hw1 hyb hb2 hw2 hx2 h h2 hl;go_enter Tryz.func123,Tryz.ntmps123;go_wp2_with (first|rw [<-HW1.out]|rw [<-HW2.out]);go_loopw [5] (λ iv wr=>∃j:Nat,iv= .int .i64 (j:Int)∧j<=n∧Below w2.heap.size w2 wr) (λ iv _=>n-(intOf iv).toNat)
 case atStart=>exact⟨0,rfl,by omega,Below.refl _ _⟩
 case round=>
  obtain⟨j,rfl,hj,hbe⟩:=hrel;have a0:=(X.out.later hbe).c0;have d0:=(Y.out.later hbe).c0
  by_cases hlt:j<n
  ·have hji:(j:Int)<(n:Int):=by omega
   have hjl:j<l.length:=by rw [HL.out];exact hlt
   obtain⟨b,o,rfl,hc⟩:=(H.out.below hbe (Nat.le_refl _)).at_ hlt;have e1:=hc j _ (jcg l j hjl);obtain⟨b2,o2,rfl,hc2⟩:=(H2.out.below hbe (Nat.le_refl _)).at_ hlt;have e2:=hc2 j _ (jcg l j hjl);obtain⟨z,hz⟩:∃z,z=l[j]:=⟨_,rfl⟩;rw [<-hz] at e1 e2;have BE:=qH hbe;clear hc hc2 hz hbe;go_wp2_with fail;go_quiet (fail);go_wp2_with fail;go_roundw
   case rel=>exact⟨j+1,by go_num,by omega,below_drewN BE.out nq⟩
   case measure=>simp [intOf];omega
  ·obtain rfl:n=j:=by omega
   have BE:=qH hbe;clear hbe;go_wp2_with fail;go_ret;exact⟨rfl,B2.out.trans (BE.out.mono B2.out.size)⟩
theorem CvB.blob {w:World}{B:Nat}{v:CvF}(h:CvB w B v):w.rangeAt B 2 [.slice v.A v.x.ps.length v.c, .int .u64 (v.x.g:Int), .int .i64 v.x.q]:=by
 intro j u hu;rw [cell_of_row _ _ _ _ _ _ h]
 match j,hu with
 |0,hu=>exact hu
 |1,hu=>exact hu
 |2,hu=>exact hu
 |k+3,hu=>simp at hu
theorem jog (st:Nat)(A:Option Addr)(n c:Nat)(l:List CvF)(A2:Option Addr)(c2:Nat)(l2:List CvF)(w:World)(h:Chs w A n c l)(h2:Chs w A2 n c2 l2)(he:l2.map CvF.x=l.map CvF.x):
  Calls Tryz.prog 77 #[.agg #[.int .u64 (st:Int), .slice A n c], .agg #[.int .u64 (st:Int), .slice A2 n c2]] w λ e w' =>e= .returned (.bool true)∧Below w.heap.size w w':=by
 have hlim:=h.cap;have hlim2:=h.top;unfold maxLen at hlim2;have hxa:=ReB.new (w:=w) (st:=st) (A:=A) (n:=n) (c:=c);have hb1:Below w.heap.size w (w.alloc (.cells #[.int .u64 (st:Int), .slice A n c] 42)):=(Below.refl _ _).alloc (Nat.le_refl _) _;obtain⟨w1,hw1⟩:∃x,x=w.alloc (.cells #[.int .u64 (st:Int), .slice A n c] 42):=⟨_,rfl⟩;have HW1:=qH hw1;rw [<-hw1] at hxa hb1;have hyb:=ReB.new (w:=w1) (st:=st) (A:=A2) (n:=n) (c:=c2);have hb2:Below w1.heap.size w1 (w1.alloc (.cells #[.int .u64 (st:Int), .slice A2 n c2] 42)):=(Below.refl _ _).alloc (Nat.le_refl _) _;obtain⟨w2,hw2⟩:∃x,x=w1.alloc (.cells #[.int .u64 (st:Int), .slice A2 n c2] 42):=⟨_,rfl⟩;have HW2:=qH hw2;rw [<-hw2] at hyb hb2;have hx2:=hxa.later hb2;have a0:=hx2.c0;have a1:=hx2.c1;have d0:=hyb.c0;have d1:=hyb.c1;have B2:=qH (hb1.trans (hb2.mono hb1.size));have X:=qH hx2;have Y:=qH hyb
 have H:=qH (h.below (hb1.trans (hb2.mono hb1.size)));have H2:=qH (h2.below (hb1.trans (hb2.mono hb1.size)));have HSL:=qH (show ∀v:CvF,(Tryz.prog.info? 144).map (·.size)=some v.vals.length from λ v=>jfO v);have HSB:=qH (show (Tryz.prog.info? 142).map (·.size)=some 3 from by kernel_rfl);have HE:=qH he;clear hxa hb1 hw1 hyb hb2 hw2 hx2 h h2 he;go_enter Tryz.func77,Tryz.ntmps77;go_wp2_with (first|rw [<-HW1.out]|rw [<-HW2.out]);go_loopw [5] (λ iv wr=>∃j:Nat,iv= .int .i64 (j:Int)∧j<=n∧Below w2.heap.size w2 wr) (λ iv _=>n-(intOf iv).toNat)
 case atStart=>exact⟨0,rfl,by omega,Below.refl _ _⟩
 case round=>
  obtain⟨j,rfl,hj,hbe⟩:=hrel;have a0:=(X.out.later hbe).c1;have d0:=(Y.out.later hbe).c1;have XA:=qH (X.out.later hbe);have YA:=qH (Y.out.later hbe)
  by_cases hlt:j<n
  ·have hji:(j:Int)<(n:Int):=by omega
   obtain⟨v,hv⟩:∃v,l[j]? =some v:=⟨_,List.getElem?_eq_getElem (by rw [H.out.len];exact hlt)⟩;obtain⟨v2,hv2⟩:∃v,l2[j]? =some v:=⟨_,List.getElem?_eq_getElem (by rw [H2.out.len];exact hlt)⟩;have hvx:v2.x=v.x:=by
    have h1:(l2.map CvF.x)[j]? =some v2.x:=by rw [List.getElem?_map,hv2];rfl
    have h3:(l.map CvF.x)[j]? =some v.x:=by rw [List.getElem?_map,hv];rfl
    rw [HE.out,h3] at h1;exact(Option.some.inj h1).symm
   obtain⟨b,o,rfl,hcl,hok⟩:=(H.out.below hbe).cell j v hv;obtain⟨b2,o2,rfl,hcl2,hok2⟩:=(H2.out.below hbe).cell j v2 hv2;have RA:=qH (jeZ hcl);have RB:=qH (jeZ hcl2);have NA:=qH (World.block_lt_of_cell? wr _ (hcl 0 _ rfl));have NB:=qH (World.block_lt_of_cell? wr _ (hcl2 0 _ rfl));have OA:=qH hok;have OB:=qH hok2;have BE:=qH hbe;obtain⟨x2,PA2,pc2⟩:=v2;obtain rfl:x2=v.x:=hvx;clear hcl hok hcl2 hok2 hv hv2 hbe;go_wp2_with fail;have HSZ:=jfO;refine wp_region_held_drew (S:=λ w' =>Fr (λ k=>wr.heap.size<=k) wr w') (by kernel_rfl) (Fr.drew (Fr.refl _ _)) (λ hHeld=> ?_);clear hHeld;have hHeld:Fr (λ k=>wr.heap.size<=k) wr wr.drew:=Fr.drew (Fr.refl _ _);have hz_0:wr.heap.size<=wr.drew.heap.size:=Nat.le_refl _;obtain⟨v_W0,hw⟩:∃v_W0,v_W0=wr.drew:=⟨_,rfl⟩;rw [<-hw] at hHeld hz_0 ⊢;clear hw;refine tA 0 (some 29) rfl hHeld ?_;refine tA 1 (some 30) rfl hHeld ?_ (λ wq hSw=>by
    have hq:=(XA.out.later (hSw.below (Nat.le_refl _) (λ b hb=>hb))).c1;go_simp<;>with_reducible rfl)
   refine tA 2 (some 31) rfl hHeld ?_;refine tA 3 (some 32) rfl hHeld ?_;refine tA 4 (some 33) (v:=(.agg (CvF.vals v).toArray)) rfl hHeld ?_ (λ wq hSw=>by
    exact jah rfl rfl (λ j u hu=>hSw.cell_some (RA.out j u hu) (Nat.not_le_of_lt NA.out)) Tryz.underlying144 rfl (HSL.out v))
   refine tA 5 (some 34) rfl hHeld ?_;refine tA 6 (some 35) rfl hHeld ?_ (λ wq hSw=>by
    have hq:=(YA.out.later (hSw.below (Nat.le_refl _) (λ b hb=>hb))).c1;go_simp<;>with_reducible rfl)
   refine tA 7 (some 36) rfl hHeld ?_;refine tA 8 (some 37) rfl hHeld ?_;refine tA 9 (some 38) (v:=(.agg (CvF.vals ⟨v.x,PA2,pc2⟩).toArray)) rfl hHeld ?_ (λ wq hSw=>by
    exact jah rfl rfl (λ j u hu=>hSw.cell_some (RB.out j u hu) (Nat.not_le_of_lt NB.out)) Tryz.underlying144 rfl (HSL.out ⟨v.x,PA2,pc2⟩))
   refine wpAnyH_ready (rs:= [10,11]) (by kernel_rfl) (by simp) ?_;refine AllReadyH.cons (o:=⟨some 6,_,_,_,_,_⟩) rfl (λ K hK=> ?_) (AllReadyH.cons (o:=⟨some 7,_,_,_,_,_⟩) rfl (λ K hK=> ?_) (AllReadyH.nil))
   focus
    obtain⟨g6,hg6⟩:∃g,g=v_W0.heap.size:=⟨_,rfl⟩;have hbN:Below v_W0.heap.size v_W0 (v_W0.alloc (.cells (CvF.vals ⟨⟨⟨#[]⟩,false, [],0,0⟩,none,0⟩).toArray 144)):=(Below.refl _ _).alloc (Nat.le_refl _) _;have hx5:CvB (v_W0.alloc (.cells (CvF.vals ⟨⟨⟨#[]⟩,false, [],0,0⟩,none,0⟩).toArray 144)) v_W0.heap.size ⟨⟨⟨#[]⟩,false, [],0,0⟩,none,0⟩:=CvB.new;have hgl:=block_lt hx5;obtain⟨v_W1,hw⟩:∃x,x=v_W0.alloc (.cells (CvF.vals ⟨⟨⟨#[]⟩,false, [],0,0⟩,none,0⟩).toArray 144):=⟨_,rfl⟩
    show K _ (v_W0.alloc (.cells (CvF.vals ⟨⟨⟨#[]⟩,false, [],0,0⟩,none,0⟩).toArray 144))
    rw [<-hw] at hbN hx5 hgl ⊢;rw [<-hg6] at hx5 hgl
    show K (Act.put _ _ (.pointer (some ⟨v_W0.heap.size,0,none⟩))) _
    rw [<-hg6];have hfN:Fr (λ k=>wr.heap.size<=k) v_W0 v_W1:=Fr.of_below hbN;have Z6:=qH hx5;have G6:=qH hgl;have GE6:=qH (show wr.heap.size<=g6 from by rw [hg6];exact hHeld.size);clear hx5 hgl hw hg6 hbN;have hHeld:=hHeld.trans hfN;have hz_3:=hfN.size;refine hK.out _ _ hHeld λ _=> ?_
    clear hK K hfN
    try simp only [Act.put,sA,sB,sC]
   rotate_left
   focus
    obtain⟨g7,hg7⟩:∃g,g=v_W0.heap.size:=⟨_,rfl⟩;have hbN:Below v_W0.heap.size v_W0 (v_W0.alloc (.cells (CvF.vals ⟨⟨⟨#[]⟩,false, [],0,0⟩,none,0⟩).toArray 144)):=(Below.refl _ _).alloc (Nat.le_refl _) _;have hx5:CvB (v_W0.alloc (.cells (CvF.vals ⟨⟨⟨#[]⟩,false, [],0,0⟩,none,0⟩).toArray 144)) v_W0.heap.size ⟨⟨⟨#[]⟩,false, [],0,0⟩,none,0⟩:=CvB.new;have hgl:=block_lt hx5;obtain⟨v_W1,hw⟩:∃x,x=v_W0.alloc (.cells (CvF.vals ⟨⟨⟨#[]⟩,false, [],0,0⟩,none,0⟩).toArray 144):=⟨_,rfl⟩
    show K _ (v_W0.alloc (.cells (CvF.vals ⟨⟨⟨#[]⟩,false, [],0,0⟩,none,0⟩).toArray 144))
    rw [<-hw] at hbN hx5 hgl ⊢;rw [<-hg7] at hx5 hgl
    show K (Act.put _ _ (.pointer (some ⟨v_W0.heap.size,0,none⟩))) _
    rw [<-hg7];have hfN:Fr (λ k=>wr.heap.size<=k) v_W0 v_W1:=Fr.of_below hbN;have Z7:=qH hx5;have G7:=qH hgl;have GE7:=qH (show wr.heap.size<=g7 from by rw [hg7];exact hHeld.size);clear hx5 hgl hw hg7 hbN;have hHeld:=hHeld.trans hfN;have hz_5:=hfN.size;refine hK.out _ _ hHeld λ _=> ?_
    clear hK K hfN
    try simp only [Act.put,sA,sB,sC]
   rotate_left
   all_goals first
    |
     refine rW 11 (some 7) rfl λ K hK=> ?_
     obtain⟨g7,hg7⟩:∃g,g=v_W1.heap.size:=⟨_,rfl⟩;have hbN:Below v_W1.heap.size v_W1 (v_W1.alloc (.cells (CvF.vals ⟨⟨⟨#[]⟩,false, [],0,0⟩,none,0⟩).toArray 144)):=(Below.refl _ _).alloc (Nat.le_refl _) _;have hx5:CvB (v_W1.alloc (.cells (CvF.vals ⟨⟨⟨#[]⟩,false, [],0,0⟩,none,0⟩).toArray 144)) v_W1.heap.size ⟨⟨⟨#[]⟩,false, [],0,0⟩,none,0⟩:=CvB.new;have hgl:=block_lt hx5;obtain⟨v_W2,hw⟩:∃x,x=v_W1.alloc (.cells (CvF.vals ⟨⟨⟨#[]⟩,false, [],0,0⟩,none,0⟩).toArray 144):=⟨_,rfl⟩
     show K _ (v_W1.alloc (.cells (CvF.vals ⟨⟨⟨#[]⟩,false, [],0,0⟩,none,0⟩).toArray 144))
     rw [<-hw] at hbN hx5 hgl ⊢;rw [<-hg7] at hx5 hgl
     show K (Act.put _ _ (.pointer (some ⟨v_W1.heap.size,0,none⟩))) _
     rw [<-hg7];have hfN:Fr (λ k=>wr.heap.size<=k) v_W1 v_W2:=Fr.of_below hbN;have Z7:=qH hx5;have G7:=qH hgl;have GE7:=qH (show wr.heap.size<=g7 from by rw [hg7];exact hHeld.size);have Z6:=qH (Z6.out.later hbN);have NE:=qH (show ¬g6=g7 from by have:=G6.out;omega);clear hx5 hgl hw hg7 hbN;have hHeld:=hHeld.trans hfN;have hz_7:=hfN.size;refine hK.out _ _ hHeld λ _=> ?_
     clear hK K hfN
     try simp only [Act.put,sA,sB,sC]
    |
     refine rW 10 (some 6) rfl λ K hK=> ?_
     obtain⟨g6,hg6⟩:∃g,g=v_W1.heap.size:=⟨_,rfl⟩;have hbN:Below v_W1.heap.size v_W1 (v_W1.alloc (.cells (CvF.vals ⟨⟨⟨#[]⟩,false, [],0,0⟩,none,0⟩).toArray 144)):=(Below.refl _ _).alloc (Nat.le_refl _) _;have hx5:CvB (v_W1.alloc (.cells (CvF.vals ⟨⟨⟨#[]⟩,false, [],0,0⟩,none,0⟩).toArray 144)) v_W1.heap.size ⟨⟨⟨#[]⟩,false, [],0,0⟩,none,0⟩:=CvB.new;have hgl:=block_lt hx5;obtain⟨v_W2,hw⟩:∃x,x=v_W1.alloc (.cells (CvF.vals ⟨⟨⟨#[]⟩,false, [],0,0⟩,none,0⟩).toArray 144):=⟨_,rfl⟩
     show K _ (v_W1.alloc (.cells (CvF.vals ⟨⟨⟨#[]⟩,false, [],0,0⟩,none,0⟩).toArray 144))
     rw [<-hw] at hbN hx5 hgl ⊢;rw [<-hg6] at hx5 hgl
     show K (Act.put _ _ (.pointer (some ⟨v_W1.heap.size,0,none⟩))) _
     rw [<-hg6];have hfN:Fr (λ k=>wr.heap.size<=k) v_W1 v_W2:=Fr.of_below hbN;have Z6:=qH hx5;have G6:=qH hgl;have GE6:=qH (show wr.heap.size<=g6 from by rw [hg6];exact hHeld.size);have Z7:=qH (Z7.out.later hbN);have NE:=qH (show ¬g6=g7 from by have:=G7.out;omega);clear hx5 hgl hw hg6 hbN;have hHeld:=hHeld.trans hfN;have hz_9:=hfN.size;refine hK.out _ _ hHeld λ _=> ?_
     clear hK K hfN
     try simp only [Act.put,sA,sB,sC]
   all_goals
    refine rW 12 none rfl λ K hK=> ?_
    have hz:=HSZ v;have ho:=jkt v;refine wp_store_row (o:=⟨none,_,_,_,_,_⟩) 144 (.tmp 6) (.tmp 33) rfl g6 _ rfl rfl 144 _ Z6.out hz rfl ho ?_;obtain⟨w6,hw⟩:∃y,y=v_W2.setRow g6 (CvF.vals v).toArray:=⟨_,rfl⟩;have hx6:CvB (v_W2.setRow g6 (CvF.vals v).toArray) g6 v:=setRow_heap _ _ _ _ _ _ Z6.out;have hfx:Fr (λ k=>k=g6) v_W2 (v_W2.setRow g6 (CvF.vals v).toArray):=Fr.setRow17 (S:=λ k=>k=g6) (Fr.refl _ _) (.inr rfl) _;rw [<-hw] at hfx hx6 ⊢;have hfN:Fr (λ k=>wr.heap.size<=k) v_W2 w6:=hfx.mono (λ k h=>by have h:k=g6:=h;show _<=k;have:=GE6.out;omega);have Y6:=qH hx6;have Z7:=qH (Z7.out.fr (S:=λ k=>k=g6) hfx (λ h=>NE.out (Eq.symm h)));clear hw hx6 hfx hz ho;have hHeld:=hHeld.trans hfN;have hz_10:=hfN.size;refine hK.out _ _ hHeld λ _=> ?_
    clear hK K hfN
    try simp only [Act.put]
   all_goals
    refine rW 13 none rfl λ K hK=> ?_
    have hz:=HSZ ⟨v.x,PA2,pc2⟩;have ho:=jkt ⟨v.x,PA2,pc2⟩;refine wp_store_row (o:=⟨none,_,_,_,_,_⟩) 144 (.tmp 7) (.tmp 38) rfl g7 _ rfl rfl 144 _ Z7.out hz rfl ho ?_;obtain⟨w7,hw⟩:∃y,y=w6.setRow g7 (CvF.vals ⟨v.x,PA2,pc2⟩).toArray:=⟨_,rfl⟩;have hx6:CvB (w6.setRow g7 (CvF.vals ⟨v.x,PA2,pc2⟩).toArray) g7 ⟨v.x,PA2,pc2⟩:=setRow_heap _ _ _ _ _ _ Z7.out;have hfx:Fr (λ k=>k=g7) w6 (w6.setRow g7 (CvF.vals ⟨v.x,PA2,pc2⟩).toArray):=Fr.setRow17 (S:=λ k=>k=g7) (Fr.refl _ _) (.inr rfl) _;rw [<-hw] at hfx hx6 ⊢;have hfN:Fr (λ k=>wr.heap.size<=k) w6 w7:=hfx.mono (λ k h=>by have h:k=g7:=h;show _<=k;have:=GE7.out;omega);have Y7:=qH hx6;have Y6:=qH (Y6.out.fr (S:=λ k=>k=g7) hfx (λ h=>NE.out h));clear hw hx6 hfx hz ho;have hHeld:=hHeld.trans hfN;have hz_11:=hfN.size;refine hK.out _ _ hHeld λ _=> ?_
    clear hK K hfN
    try simp only [Act.put]
   all_goals
    refine tD ?_;have hh:=hHeld.below (Nat.le_refl _) (λ b hb=>hb);have B6:=qH hh;have e0:=Y6.out.c0;have e1:=Y6.out.c1;have f0:=Y7.out.c0;have f1:=Y7.out.c1;have SA:=qH (show Sl w7 1 v.A v.x.ps.length v.c (jau v.x.ps) from OA.out.below hh);have SB:=qH (show Sl w7 1 PA2 v.x.ps.length pc2 (jau v.x.ps) from OB.out.below hh);clear hHeld hh a0 d0;go_wp2_with (first|(refine jaj (d:=53) ?_;refine jad (o:=⟨some 53,_,_,_,_,_⟩) (by rfl) _ _ (jah rfl rfl Y6.out.blob Tryz.underlying142 rfl HSB.out) ?_)|(refine jaj (d:=55) ?_;refine jad (o:=⟨some 55,_,_,_,_,_⟩) (by rfl) _ _ (jah rfl rfl Y7.out.blob Tryz.underlying142 rfl HSB.out) ?_));refine(jlV v.A v.x.ps.length v.c v.x.g v.x.q v.x.ps PA2 pc2 w7 SA.out SB.out).mono ?_;rintro e w8 ⟨rfl,hb8⟩;have B8:=qH (BE.out.trans ((B6.out.trans (hb8.mono B6.out.size)).mono BE.out.size))
    clear hb8;go_wp2_with fail;go_roundw
    case rel=>exact⟨j+1,by go_num,by omega,B8.out⟩
    case measure=>simp [intOf];omega
  ·obtain rfl:n=j:=by omega
   have BE:=qH hbe;clear hbe;go_wp2_with fail;go_ret;exact⟨rfl,B2.out.trans (BE.out.mono B2.out.size)⟩
end
end Go.Proofs.YtmhejbihdghhaaaGreatDoor

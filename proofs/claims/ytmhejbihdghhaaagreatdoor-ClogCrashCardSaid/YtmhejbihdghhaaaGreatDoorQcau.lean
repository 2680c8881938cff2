/-
  Contract of package blob's GetBytes
-/
import Derived.Test.YtmhejbihdghhaaaGreatDoorQcat
namespace Go.Proofs.YtmhejbihdghhaaaGreatDoor
set_option linter.unusedVariables false
section
open Go.RowKit Go.Proofs
set_option maxRecDepth 20000
set_option maxHeartbeats 1600000
def Cel (w:World)(b:Nat)(v:Value):Prop:=∃t,w.heap[b]? =some (.cells #[v] t (0,0))
section
variable {w w':World}{b:Nat}{v:Value}
theorem Cel.cell (h:Cel w b v):w.cell? ⟨b,0,none⟩=some v:=by obtain⟨t,h⟩:=h;exact cell_of_one h
theorem Cel.free (h:Cel w b v):w.frozen? ⟨b,0,none⟩=false:=by obtain⟨t,h⟩:=h;exact frozen_of_row _ _ _ _ _ h
theorem Cel.lt (h:Cel w b v):b<w.heap.size:=by obtain⟨t,h⟩:=h;exact block_lt h
theorem Cel.fr {S:Nat->Prop}(h:Cel w b v)(hf:Fr S w w')(hS:¬S b):Cel w' b v:=by obtain⟨t,h⟩:=h;exact⟨t,hf.row_some h hS⟩
theorem Cel.later (h:Cel w b v)(hb:Below w.heap.size w w'):Cel w' b v:=h.fr (S:=λ _=>False) (Fr.of_below hb) (λ h=>h)
theorem Cel.set (h:Cel w b v)(u:Value):Cel (w.setCell ⟨b,0,none⟩ u) b u:=by obtain⟨t,h⟩:=h;exact⟨t,heap_setCell_same w b 0 _ _ _ h⟩
theorem Cel.new (w:World)(v:Value)(t:TypeId):Cel (w.alloc (.cells #[v] t)) w.heap.size v:=⟨t,heap_alloc_new w _⟩
end
def tk1 (l:List UInt8)(most:Nat)(s:Nat × Nat):Nat ×(Nat × Nat):=
 if s.2≠0 then(0,s) else if (varR l s.1).2.2≠0 then(0,(s.1,(varR l s.1).2.2)) else if most<(varR l s.1).1 then(0,(s.1,3)) else((varR l s.1).1,((varR l s.1).2.1,0))
def tkN (l:List UInt8)(most:Nat):Nat->Nat × Nat->List Nat ×(Nat × Nat)
 |0,s=>([],s)
 |k+1,s=>((tk1 l most s).1::(tkN l most k (tk1 l most s).2).1,(tkN l most k (tk1 l most s).2).2)
structure Tkb (w:World)(F X T:Nat)(A:Option Addr)(n c:Nat)(l:List UInt8)(s:Nat × Nat):Prop where
 f:Cel w F (.int .i64 (s.2:Int))
 x:Cel w X (.slice A n c)
 t:Cel w T (.int .i64 (s.1:Int))
 ne:F≠X∧F≠T∧X≠T
 sl:Sl w 1 A n c (cells l)
 off:∀b o,0<n->A=some ⟨b,o,none⟩->b≠F∧b≠T
section
variable {w w':World}{F X T n c:Nat}{A:Option Addr}{l:List UInt8}{s:Nat × Nat}
theorem Tkb.fr {S:Nat->Prop}(h:Tkb w F X T A n c l s)(hf:Fr S w w')(h1:¬S F)(h2:¬S X)(h3:¬S T)(h4:∀b o,0<n->A=some ⟨b,o,none⟩->¬S b):Tkb w' F X T A n c l s:=
 ⟨h.f.fr hf h1,h.x.fr hf h2,h.t.fr hf h3,h.ne,h.sl.fr hf h4,h.off⟩
theorem Tkb.later (h:Tkb w F X T A n c l s)(hb:Below w.heap.size w w'):Tkb w' F X T A n c l s:=h.fr (S:=λ _=>False) (Fr.of_below hb) (λ h=>h) (λ h=>h) (λ h=>h) (λ _ _ _ _ h=>h)
theorem Tkb.setF (h:Tkb w F X T A n c l s)(e:Nat):Tkb (w.setCell ⟨F,0,none⟩ (.int .i64 (e:Int))) F X T A n c l (s.1,e)∧Fr (λ k=>k=F∨k=T) w (w.setCell ⟨F,0,none⟩ (.int .i64 (e:Int))):=by
 have hf:Fr (λ k=>k=F) w (w.setCell ⟨F,0,none⟩ (.int .i64 (e:Int))):=(Fr.refl (λ k=>k=F) _).setCell (p:=⟨F,0,none⟩) (.inr rfl) _;exact⟨⟨h.f.set _,h.x.fr hf (λ e=>h.ne.1 e.symm),h.t.fr hf (λ e=>h.ne.2.1 e.symm),h.ne,h.sl.fr hf (λ b o hn e=>(h.off b o hn e).1),h.off⟩,hf.mono λ _ h=> .inl h⟩
theorem Tkb.setT (h:Tkb w F X T A n c l s)(e:Nat):Tkb (w.setCell ⟨T,0,none⟩ (.int .i64 (e:Int))) F X T A n c l (e,s.2)∧Fr (λ k=>k=F∨k=T) w (w.setCell ⟨T,0,none⟩ (.int .i64 (e:Int))):=by
 have hf:Fr (λ k=>k=T) w (w.setCell ⟨T,0,none⟩ (.int .i64 (e:Int))):=(Fr.refl (λ k=>k=T) _).setCell (p:=⟨T,0,none⟩) (.inr rfl) _;exact⟨⟨h.f.fr hf h.ne.2.1,h.x.fr hf h.ne.2.2,h.t.set _,h.ne,h.sl.fr hf (λ b o hn e=>(h.off b o hn e).2),h.off⟩,hf.mono λ _ h=> .inr h⟩
end
theorem jd7 (F X T:Nat)(A:Option Addr)(n c:Nat)(l:List UInt8)(s:Nat × Nat)(most:Nat)(w:World)(h:Tkb w F X T A n c l s):
  Calls Tryz.prog 253 #[.int .u64 (most:Int), .pointer (some ⟨F,0,none⟩), .pointer (some ⟨X,0,none⟩), .pointer (some ⟨T,0,none⟩)] w
   λ e w' =>e= .returned (.int .u64 ((tk1 l most s).1:Int))∧Tkb w' F X T A n c l (tk1 l most s).2∧Fr (λ k=>k=F∨k=T) w w':=by
 obtain⟨at_,fault⟩:=s;have cF:=h.f.cell;have cX:=h.x.cell;have cT:=h.t.cell;have fF:=h.f.free;have fT:=h.t.free;have HH:=qH h;dsimp only at cF cT
 by_cases hf:fault=0
 ·subst hf
  have hv:=jjt A n c l (at_:Int) w h.sl;obtain⟨x,p,e,hr⟩:∃x p e,varR l (at_:Int)=(x,p,e):=⟨_,_,_,rfl⟩;rw [hr] at hv;have ht:tk1 l most (at_,0)=if e≠0 then(0,(at_,e)) else if most<x then(0,(at_,3)) else(x,(p,0)):=by unfold tk1;rw [if_neg (by simp),hr]
  rw [ht];have hsF:=λ e=>h.setF e
  have hsT:=λ e=>h.setT e
  have SF:=qH hsF;have ST:=qH hsT;clear h hsF hsT ht hr;dsimp only at hv
  by_cases he:e=0
  ·subst he
   rw [if_neg (by simp)]
   by_cases hm:most<x
   ·rw [if_pos hm]
    have hmi:(most:Int)<(x:Int):=by omega
    go_enter Tryz.func253,Tryz.ntmps253;go_wp2_with fail;refine hv.mono ?_;clear hv;rintro e w' ⟨rfl,hw'⟩;obtain rfl:w=w':=hw';go_wp2_with fail;go_ret;exact⟨rfl,SF.out 3⟩
   ·rw [if_neg hm]
    have hmi:¬(most:Int)<(x:Int):=by omega
    go_enter Tryz.func253,Tryz.ntmps253;go_wp2_with fail;refine hv.mono ?_;clear hv;rintro e w' ⟨rfl,hw'⟩;obtain rfl:w=w':=hw';go_wp2_with fail;go_ret;exact⟨rfl,ST.out p⟩
  ·rw [if_pos he]
   have hei:¬(e:Int)=0:=by omega
   go_enter Tryz.func253,Tryz.ntmps253;go_wp2_with fail;refine hv.mono ?_;clear hv;rintro e' w' ⟨rfl,hw'⟩;obtain rfl:w=w':=hw';go_wp2_with fail;go_ret;exact⟨rfl,SF.out e⟩
 ·have ht:tk1 l most (at_,fault)=(0,(at_,fault)):=by unfold tk1;rw [if_pos hf]
  rw [ht];have hfi:¬(fault:Int)=0:=by omega
  clear ht h;go_enter Tryz.func253,Tryz.ntmps253;go_wp2_with fail;go_ret;exact⟨rfl,HH.out,Fr.refl _ _⟩
theorem jpU (F X T:Nat)(A:Option Addr)(n c:Nat)(l:List UInt8)(s:Nat × Nat)(w:World)(h:Tkb w F X T A n c l s):
  Calls Tryz.prog 254 #[.pointer (some ⟨T,0,none⟩), .pointer (some ⟨F,0,none⟩)] w λ e w' =>e= .returned (.tuple #[.int .i64 (s.1:Int), .int .i64 (s.2:Int)])∧Below w.heap.size w w':=by
 have cF:=h.f.cell;have cT:=h.t.cell;have cF':w.drew.cell? ⟨F,0,none⟩=some (.int .i64 (s.2:Int)):=cF;have cT':w.drew.cell? ⟨T,0,none⟩=some (.int .i64 (s.1:Int)):=cT;clear h;go_enter Tryz.func254,Tryz.ntmps254;go_wp2_with fail;go_quiet (fail);go_wp2_with fail;go_ret2;exact⟨rfl,below_drewN (Below.refl _ _) _⟩
theorem jlQ (A:Option Addr)(n c:Nat)(l:List UInt8)(at_:Nat)(w:World)(h:Sl w 1 A n c (cells l)):
  Calls Tryz.prog 220 #[.slice A n c, .int .i64 (at_:Int)] w λ e w' =>∃F X T,e= .returned (.tuple #[.func (.func 253) #[] #[.pointer (some ⟨F,0,none⟩), .pointer (some ⟨X,0,none⟩), .pointer (some ⟨T,0,none⟩)], .func (.func 254) #[] #[.pointer (some ⟨T,0,none⟩), .pointer (some ⟨F,0,none⟩)]])∧Tkb w' F X T A n c l (at_,0)∧w.heap.size<=F∧w.heap.size<=T∧Below w.heap.size w w':=by
 have HS:=qH h;clear h;go_enter Tryz.func220,Tryz.ntmps220;go_wp2_with fail;go_ret2;refine⟨w.heap.size+1+1,w.heap.size,w.heap.size+1,rfl, ?_,by omega,by omega, ?_⟩
 ·have x0:=Cel.new w (.slice A n c) 105
  have b0:Below w.heap.size w (w.alloc (.cells #[.slice A n c] 105)):=(Below.refl _ _).alloc (Nat.le_refl _) _;have s0:=HS.out.below b0 (Nat.le_refl _);obtain⟨w1,hw1⟩:∃x,x=w.alloc (.cells #[.slice A n c] 105):=⟨_,rfl⟩;have z1:w1.heap.size=w.heap.size+1:=by rw [hw1];simp
  rw [<-hw1] at x0 b0 s0 ⊢;have x1:=Cel.new w1 (.int .i64 (at_:Int)) 3;have b1:Below w1.heap.size w1 (w1.alloc (.cells #[.int .i64 (at_:Int)] 3)):=(Below.refl _ _).alloc (Nat.le_refl _) _;have x0:=x0.later b1;have s1:=s0.below b1 (Nat.le_refl _);obtain⟨w2,hw2⟩:∃x,x=w1.alloc (.cells #[.int .i64 (at_:Int)] 3):=⟨_,rfl⟩;have z2:w2.heap.size=w1.heap.size+1:=by rw [hw2];simp
  rw [<-hw2] at x0 x1 b1 s1 ⊢;have x2:=Cel.new w2 (.int .i64 0) 47;have b2:Below w2.heap.size w2 (w2.alloc (.cells #[.int .i64 0] 47)):=(Below.refl _ _).alloc (Nat.le_refl _) _;rw [z2,z1] at x2;rw [z1] at x1;refine⟨x2,x0.later b2,x1.later b2,by omega,s1.below b2 (Nat.le_refl _),λ b o hn e=> ?_⟩;have:=HS.out.lt (by decide) hn e;omega
 ·exact(((Below.refl _ _).alloc (Nat.le_refl _) _).alloc (by simp) _).alloc (by simp;omega) _
theorem jpV (k:Nat)(hk:k<=1048576)(w:World):
  (Instr.makeSlice 71 (.int .u64 (k:Int)) (.int .u64 (k:Int))).run Tryz.prog w= .ok (.slice (some ⟨w.heap.size,0,none⟩) k k) (w.alloc (.cells (madeCells #[.int .i64 0] k) 3)):=by
 obtain⟨i0,hi,hz0,hz1,hz2⟩:=info_parts (show (Tryz.prog.info? 3).map (λ i=>(i.zero,i.size,i.bytes))=some (some (.int .i64 0),1,8) by kernel_rfl);have h:=run_make (P:=Tryz.prog) w 71 3 i0 (.int .i64 0) Tryz.underlying71 hi hz0 .u64 .u64 (k:Int) (k:Int) (by omega) (by omega) (by rw [hz2];omega) (by omega);rw [hz1,Nat.mul_one,Int.toNat_natCast] at h;exact h
theorem jod (l:List UInt8)(most:Nat)(s:Nat × Nat):(tk1 l most s).1<=most:=by
 unfold tk1
 split
 ·exact Nat.zero_le _
 ·split
  ·exact Nat.zero_le _
  ·split
   ·exact Nat.zero_le _
   ·dsimp only;omega
structure GbF where
 q:Nat
 g:Nat
 ps:List Nat
 p:Nat
 e:Nat
def gB (l:List UInt8)(a:Nat):GbF:=
 let r1:=tk1 l 400 (a,0)
 let r2:=tk1 l 18446744073709551615 r1.2
 let r3:=tk1 l 400 r2.2
 let r4:=tkN l 599 r3.1 r3.2
 if r4.2.2≠0 then⟨0,0, [],0,r4.2.2⟩ else⟨r1.1,r2.1,r4.1,r4.2.1,0⟩
def jbB (l:List Nat):List Int:=l.map λ (n:Nat)=>(n:Int)
theorem jfT (l:List Nat):(jbB l).length=l.length:=List.length_map _
def RetBl (w:World)(x:GbF)(e:Ending)(w':World):Prop:=
 ∃PA pc,e= .returned (.tuple #[.agg #[.slice PA x.ps.length pc, .int .u64 (x.g:Int), .int .i64 (x.q:Int)], .int .i64 (x.p:Int), .int .i64 (x.e:Int)])∧Sl w' 1 PA x.ps.length pc (jau (jbB x.ps))∧Below w.heap.size w w' ∧∀b o,0<x.ps.length->PA=some ⟨b,o,none⟩->w.heap.size<=b
def FilI (w:World)(G m:Nat)(ps:List Nat):Prop:=w.heap[G]? =some (.cells ((jau (jbB ps))++List.replicate (m-ps.length) (Value.int .i64 0)).toArray 3 (0,0))∧ps.length<=m
theorem FilI.made (w:World)(m:Nat):FilI (w.alloc (.cells (madeCells #[.int .i64 0] m) 3)) w.heap.size m []:=by
 refine⟨?_,Nat.zero_le _⟩;rw [heap_alloc_new];have:(madeCells #[.int .i64 0] m)=(List.replicate m (Value.int .i64 0)).toArray:=by
  apply Array.ext'
  rw [toList_madeCells_one]
 rw [this]
 rfl
theorem FilI.fr {w w':World}{G m:Nat}{ps:List Nat}{S:Nat->Prop}(h:FilI w G m ps)(hf:Fr S w w')(hS:¬S G):FilI w' G m ps:=⟨hf.row_some h.1 hS,h.2⟩
theorem FilI.has {w:World}{G m:Nat}{ps:List Nat}(h:FilI w G m ps){i:Nat}(hi:i<m):∃v,w.cell? ⟨G,i,none⟩=some v:=by
 rw [cell_of_row _ _ _ _ _ _ h.1];have hl:=h.2;exact⟨_,Array.getElem?_eq_getElem (by simp [jau,jbB];omega)⟩
theorem FilI.free {w:World}{G m:Nat}{ps:List Nat}(h:FilI w G m ps)(i:Nat):w.frozen? ⟨G,i,none⟩=false:=frozen_of_row _ _ _ _ _ h.1
theorem FilI.next {w:World}{G m:Nat}{ps:List Nat}(h:FilI w G m ps){i:Nat}(hi:i<m)(hp:ps.length=i)(x:Nat):FilI (w.setCell ⟨G,i,none⟩ (.int .i64 (x:Int))) G m (ps ++ [x]):=by
 have h1:=heap_setCell_same w G i _ _ (.int .i64 (x:Int)) h.1;refine⟨?_,by rw [List.length_append];simp;omega⟩;rw [h1]
 congr 2
 rw [List.setIfInBounds_toArray]
 congr 1
 obtain⟨k,hk⟩:∃k,m-ps.length=k+1:=⟨m-ps.length-1,by omega⟩;have hk2:m-(ps ++ [x]).length=k:=by rw [List.length_append];simp;omega
 have hl:(jau (jbB ps)).length=i:=by rw [jaM,jfT,hp]
 rw [hk,hk2,List.replicate_succ,List.set_append_right _ _ (by omega),hl,Nat.sub_self,List.set_cons_zero];simp [jau,jbB]
theorem FilI.sl {w:World}{G m:Nat}{ps:List Nat}(h:FilI w G m ps)(hm:m<=1000)(hp:ps.length=m):Sl w 1 (some ⟨G,0,none⟩) m m (jau (jbB ps)):=by
 refine⟨by rw [jaM,jfT,hp,Nat.mul_one],Nat.le_refl _,by unfold maxLen;omega,λ j u hu=>⟨G,0,rfl, ?_⟩⟩;rw [cell_of_row _ _ _ _ _ _ h.1,Nat.zero_add,hp,Nat.sub_self,List.replicate_zero,List.append_nil]
 simpa using hu
theorem joe (w:World):(Instr.build 142 #[]).run Tryz.prog w= .ok (.agg #[.slice none 0 0, .int .u64 0, .int .i64 0]) w:=by kernel_rfl
theorem jd8 (A:Option Addr)(n c:Nat)(g q:Int):(Tryz.prog.info? 142).map (·.size)=some (#[Value.slice A n c, .int .u64 g, .int .i64 q]:Array Value).size:=by show _=some 3;kernel_rfl
theorem jhj (A:Option Addr)(n c:Nat)(g q:Int):(#[.slice A n c, .int .u64 g, .int .i64 q]:Array Value).all (·.oneCell')=true:=all_oneCell_toArray (cs:= [.slice A n c, .int .u64 g, .int .i64 q]) (λ u hu=>by simp only [List.mem_cons,List.not_mem_nil,or_false] at hu;rcases hu with rfl|rfl|rfl<;>rfl)
theorem jd9 {P:Program}{fn:Func}{p u v:Tmp}{ty:TypeId}(h:fn.results= #[.cell p ty, .tmp u, .tmp v])(tmps:Array Value)(w:World)(g:Nat)(t:TypeId)(cs:Array Value)(fr:Nat × Nat)(d:TypeDesc)
  (hp:tmps.getD p undef= .pointer (some ⟨g,0,none⟩))(hg:w.heap[g]? =some (.cells cs t fr))
  (hu:P.underlying ty=some d)(hd:(match d with| .struct _| .array _ _=>true|_=>false)=true)(hi:(P.info? ty).map (·.size)=some cs.size):
  (results fn tmps).run P w= .ok (.tuple #[.agg cs,tmps.getD u undef,tmps.getD v undef]) w:=by
 have hp':tmps[p]?.getD undef= .pointer (some ⟨g,0,none⟩):=by simpa using hp
 simp [results,h,hp',asAddr,run_loadVar_row w g t ty cs fr d hg hu hd hi]
theorem Fr.setRow17 {S:Nat->Prop}{a w:World}(h:Fr S a w){g:Nat}(hg:a.heap.size<=g∨S g)(cs:Array Value):Fr S a (w.setRow g cs):=
 ⟨h.os,h.tape,h.output,by simpa using h.size,λ k hk hs=>(setRow_other _ _ _ _ (by rintro rfl;rcases hg with hg|hg;omega;exact hs hg)).trans (h.block k hk hs)⟩
theorem jlR (A:Option Addr)(n c:Nat)(l:List UInt8)(a:Nat)(w:World)(h:Sl w 1 A n c (cells l)):
  Calls Tryz.prog 169 #[.slice A n c, .int .i64 (a:Int)] w (RetBl w (gB l a)):=by
 have hb0:Below w.heap.size w (w.alloc (.cells #[.slice none 0 0, .int .u64 0, .int .i64 0] 142)):=(Below.refl _ _).alloc (Nat.le_refl _) _;have hr0:BlB (w.alloc (.cells #[.slice none 0 0, .int .u64 0, .int .i64 0] 142)) w.heap.size none 0 0 0 0:=heap_alloc_new w _;obtain⟨w0,hw0⟩:∃x,x=w.alloc (.cells #[.slice none 0 0, .int .u64 0, .int .i64 0] 142):=⟨_,rfl⟩;have HW0:=qH hw0;rw [<-hw0] at hb0 hr0;have htk:=jlQ A n c l a w0 (h.below hb0 (Nat.le_refl _));obtain⟨R,hR⟩:∃R,R=w.heap.size:=⟨_,rfl⟩;have hRl:R<w0.heap.size:=by rw [hR];exact block_lt hr0
 rw [<-hR] at hr0;have HR:=qH hR;have HRL:=qH hRl;have R0:=qH hr0;have B0:=qH hb0;obtain⟨r1,hr1⟩:∃x,x=tk1 l 400 (a,0):=⟨_,rfl⟩;obtain⟨r2,hr2⟩:∃x,x=tk1 l 18446744073709551615 r1.2:=⟨_,rfl⟩;obtain⟨r3,hr3⟩:∃x,x=tk1 l 400 r2.2:=⟨_,rfl⟩;have hgb:gB l a=if (tkN l 599 r3.1 r3.2).2.2≠0 then⟨0,0, [],0,(tkN l 599 r3.1 r3.2).2.2⟩ else⟨r1.1,r2.1,(tkN l 599 r3.1 r3.2).1,(tkN l 599 r3.1 r3.2).2.1,0⟩:=by rw [hr3,hr2,hr1];rfl
 have h1le:r1.1<=400:=by rw [hr1];exact jod _ _ _
 have h3le:r3.1<=400:=by rw [hr3];exact jod _ _ _
 have hmk:=λ W=>jpV r3.1 (by omega) W
 have e1:IntKind.i64.wrap (r1.1:Int)=(r1.1:Int):=by rw [IntKind.wrap_i64];omega
 have GB:=qH hgb;have H1:=qH hr1;have H2:=qH hr2;have H3:=qH hr3;have E1:=qH e1;have hzb:=joe;have HSL:=qH h;clear h hb0 hr0 hw0 hRl hgb hr1 hr2 hr3 e1;go_enter Tryz.func169,Tryz.ntmps169;go_wp2_with (rw [<-HW0.out]);refine htk.mono ?_;clear htk;rintro e w1 ⟨F,X,T,rfl,hk,hF,hT,hb1⟩;rw [<-hR];clear hR;have K1:=qH hk;have B1:=qH hb1;have FT:=qH (And.intro hF hT);have hca:=jd7 F X T A n c l (a,0) 400 w1 hk;rw [<-H1.out] at hca;clear hk hb1 hF hT;go_wp2_with fail;refine hca.mono ?_;clear hca;rintro e w2 ⟨rfl,hk,hf⟩;have K2:=qH hk;have B2:=qH (B1.out.trans (hf.below B1.out.size (λ k h=>by rcases h with h|h<;>(have:=FT.out;omega))));have hca:=jd7 F X T A n c l r1.2 18446744073709551615 w2 hk;rw [<-H2.out] at hca;clear hk hf K1;go_wp2_with fail;refine hca.mono ?_;clear hca;rintro e w3 ⟨rfl,hk,hf⟩;have K3:=qH hk
 have B3:=qH (B2.out.trans (hf.below B2.out.size (λ k h=>by rcases h with h|h<;>(have:=FT.out;omega))));have hca:=jd7 F X T A n c l r2.2 400 w3 hk;rw [<-H3.out] at hca;clear hk hf K2;go_wp2_with fail;refine hca.mono ?_;clear hca;rintro e w4 ⟨rfl,hk,hf⟩;have B4:=qH (B3.out.trans (hf.below B3.out.size (λ k h=>by rcases h with h|h<;>(have:=FT.out;omega))));have hb5:Below w4.heap.size w4 (w4.alloc (.cells (madeCells #[.int .i64 0] r3.1) 3)):=(Below.refl _ _).alloc (Nat.le_refl _) _;have hfi:=FilI.made w4 r3.1;have hFl:=hk.f.lt;have hTl:=hk.t.lt;obtain⟨w5,hw5⟩:∃x,x=w4.alloc (.cells (madeCells #[.int .i64 0] r3.1) 3):=⟨_,rfl⟩;have HW5:=qH hw5;rw [<-hw5] at hb5 hfi;obtain⟨G,hG⟩:∃G,G=w4.heap.size:=⟨_,rfl⟩;rw [<-hG] at hfi;have GN:=qH (show ¬(G=F∨G=T) from by rintro(h|h)<;>omega);have XG:=qH (show ¬X=G from by have:=hk.x.lt;omega)
 have GLT:=qH (show w0.heap.size<=G from by rw [hG];exact B4.out.size);have K5:=qH (hk.later hb5);have B5:=qH (B4.out.trans (hb5.mono B4.out.size));have I5:=qH hfi;clear hk hf K3 hb5 hfi hw5 hFl hTl;go_wp2_with (first|(rw [<-HW5.out]));rw [<-hG];obtain⟨m,hm⟩:∃m,m=r3.1:=⟨_,rfl⟩;rw [<-hm] at h3le ⊢;have HM:=qH hm;rw [<-hm] at I5;clear hG hm hmk;go_loopw [30] (λ iv wr=>∃(i:Nat) (s:Nat × Nat) (ps:List Nat),iv= .int .i64 (i:Int)∧i<=m∧ps.length=i∧FilI wr G m ps∧Tkb wr F X T A n c l s∧Below w0.heap.size w0 wr∧(ps ++(tkN l 599 (m-i) s).1,(tkN l 599 (m-i) s).2)=tkN l 599 m r3.2) (λ iv _=>m-(intOf iv).toNat)
 case atStart=>exact⟨0,r3.2, [],rfl,by omega,rfl,I5.out,K5.out,B5.out,rfl⟩
 case round=>
  obtain⟨i,s,ps,rfl,hi,hpl,hfi,hk,hbe,hall⟩:=hrel;have BE:=qH hbe;have IR:=qH hfi
  by_cases hlt:i<m
  ·have hii:(i:Int)<(m:Int):=by omega
   obtain⟨k,hk2⟩:∃k,m-i=k+1:=⟨m-i-1,by omega⟩;rw [hk2,tkN] at hall;have hca:=jd7 F X T A n c l s 599 wr hk;have hle:=jod l 599 s;obtain⟨r,hr⟩:∃x,x=tk1 l 599 s:=⟨_,rfl⟩;rw [<-hr] at hca hall hle;have e3:IntKind.i64.wrap (r.1:Int)=(r.1:Int):=by rw [IntKind.wrap_i64];omega
   have ALL:=qH hall;have HK2:=qH hk2;have HPL:=qH hpl;clear hbe hfi hk hall hr hk2 hpl;go_wp2_with fail;refine hca.mono ?_;clear hca;rintro e w6 ⟨rfl,hk,hf⟩;have I6:=qH (IR.out.fr hf GN.out);have B6:=qH (BE.out.trans (hf.below BE.out.size (λ k h=>by rcases h with h|h<;>(have:=FT.out;omega))));obtain⟨v0,hv0⟩:=I6.out.has hlt;have hf0:=I6.out.free i;have hnx:=I6.out.next hlt HPL.out r.1;have hfs:Fr (λ k=>k=G) w6 (w6.setCell ⟨G,i,none⟩ (.int .i64 (r.1:Int))):=(Fr.refl (λ k=>k=G) _).setCell (p:=⟨G,i,none⟩) (.inr rfl) _;have NX:=qH hnx;have K6:=qH hk;have FS:=qH hfs;clear hk hf hnx hfs;go_wp2_with fail;go_roundw
   case rel=>
    refine⟨i+1,r.2,ps ++ [r.1],by go_num,by omega,by rw [List.length_append,HPL.out];rfl,NX.out, ?_,B6.out.trans (FS.out.below B6.out.size (λ k h=>by have h:k=G:=h;have:=GLT.out;omega)), ?_⟩
    ·exact K6.out.fr FS.out (λ h=>GN.out (.inl h.symm)) XG.out (λ h=>GN.out (.inr h.symm)) (λ b o hn e hb=>by
      have hb:b=G:=hb;have h1:=HSL.out.lt (by decide) hn e;have h2:=GLT.out;have h3:=B0.out.size;omega)
    ·rw [show m-(i+1)=k from by have:=HK2.out;omega,List.append_assoc]
     exact ALL.out
   case measure=>simp [intOf];omega
  ·obtain rfl:m=i:=by omega
   rw [Nat.sub_self,tkN,List.append_nil] at hall;have hen:=jpU F X T A n c l s wr hk;have hR9:BlB wr R none 0 0 0 0:=R0.out.up hbe HRL.out;have RG:=qH (show ¬G=R from by have:=HRL.out;have:=GLT.out;omega);have RW:=qH (show w.heap.size<=R from by have:=HR.out;omega);have g1:=GB.out;rw [<-HM.out,<-hall] at g1;dsimp only at g1
   by_cases hs0:s.2=0
   ·rw [if_neg (λ h=>h hs0)] at g1
    rw [hs0] at hen;have G1:=qH g1;have HPL:=qH hpl;have e1:=E1.out;have R9:=qH hR9;clear hbe hfi hk hall g1 hs0 hpl hR9;go_wp2_with fail;refine hen.mono ?_;clear hen;rintro e w6 ⟨rfl,hb6⟩;have R6:=qH (R9.out.later hb6);have I6:=qH (IR.out.fr (S:=λ _=>False) (Fr.of_below hb6) (λ h=>h));have B6:=qH (BE.out.trans (hb6.mono BE.out.size));clear hb6;have HSZ:=qH (jd8 (some ⟨G,0,none⟩) m m (r2.1:Int) (r1.1:Int));have HON:=qH (jhj (some ⟨G,0,none⟩) m m (r2.1:Int) (r1.1:Int));go_wp2_with (refine jax ?_;refine wpList_store_row (o:=⟨none,_,_,_,_,_⟩) rfl 142 (.tmp 4) (.tmp 53) rfl R _ rfl rfl 142 _ R6.out HSZ.out rfl HON.out ?_);refine bodyPost_ret (jd9 Tryz.results169 _ _ R 142 _ (0,0) _ rfl (setRow_heap _ _ _ _ _ _ R6.out) Tryz.underlying142 rfl HSZ.out) rfl ?_;rw [G1.out]
    have hf:Fr (λ k=>k=R) w6 (w6.setRow R #[.slice (some ⟨G,0,none⟩) m m, .int .u64 (r2.1:Int), .int .i64 (r1.1:Int)]):=Fr.setRow17 (S:=λ k=>k=R) (Fr.refl _ _) (.inr rfl) _;have hsl:=(I6.out.fr hf RG.out).sl (by omega) HPL.out;have hlm:=HPL.out;refine⟨some ⟨G,0,none⟩,m, ?_, ?_,(B0.out.trans (B6.out.mono B0.out.size)).trans (hf.below (Nat.le_trans B0.out.size B6.out.size) (λ k h=>by have h:k=R:=h;have:=RW.out;omega)),λ b o _ e=>by injection e with e;injection e with e _;have:=GLT.out;have:=B0.out.size;omega⟩
    ·dsimp only
     rw [hlm]
     rfl
    ·dsimp only
     rw [hlm];exact hsl
   ·rw [if_pos hs0] at g1
    have hsz:¬(s.2:Int)=0:=by omega
    have G1:=qH g1;have R9:=qH hR9;clear hbe hfi hk hall g1 hs0 hpl hR9;go_wp2_with fail;refine hen.mono ?_;clear hen;rintro e w6 ⟨rfl,hb6⟩;have R6:=qH (R9.out.later hb6);have B6:=qH (BE.out.trans (hb6.mono BE.out.size));clear hb6;have HSZ:=qH (jd8 none 0 0 0 0);have HON:=qH (jhj none 0 0 0 0);go_wp2_with (refine jax ?_;refine wpList_store_row (o:=⟨none,_,_,_,_,_⟩) rfl 142 (.tmp 4) (.tmp 47) rfl R _ rfl rfl 142 _ R6.out HSZ.out rfl HON.out ?_);refine bodyPost_ret (jd9 Tryz.results169 _ _ R 142 _ (0,0) _ rfl (setRow_heap _ _ _ _ _ _ R6.out) Tryz.underlying142 rfl HSZ.out) rfl ?_;rw [G1.out];have hf:Fr (λ k=>k=R) w6 (w6.setRow R #[.slice none 0 0, .int .u64 0, .int .i64 0]):=Fr.setRow17 (S:=λ k=>k=R) (Fr.refl _ _) (.inr rfl) _
    exact⟨none,0,rfl,Sl.nil _ _ _ (by decide),(B0.out.trans (B6.out.mono B0.out.size)).trans (hf.below (Nat.le_trans B0.out.size B6.out.size) (λ k h=>by have h:k=R:=h;have:=RW.out;omega)),λ b o h0=>absurd h0 (Nat.lt_irrefl 0)⟩
end
section
open Go.RowKit Go.Proofs
set_option maxRecDepth 20000
set_option maxHeartbeats 1600000
def tkG {α:Type}(none:α)(get:Nat->α × Nat × Nat)(right:α->Bool)(s:Nat × Nat):α ×(Nat × Nat):=
 if s.2≠0 then(none,s) else if (get s.1).2.2≠0 then(none,(s.1,(get s.1).2.2)) else if right (get s.1).1=false then(none,(s.1,3)) else((get s.1).1,((get s.1).2.1,0))
structure Rdg (w:World)(R:Nat)(A:Option Addr)(n c:Nat)(l:List UInt8)(s:Nat × Nat):Prop where
 r:∃t,w.heap[R]? =some (.cells #[.slice A n c, .int .i64 (s.1:Int), .int .i64 (s.2:Int)] t (0,0))
 sl:Sl w 1 A n c (cells l)
 off:∀b o,0<n->A=some ⟨b,o,none⟩->b≠R
section
variable {w w':World}{R n c:Nat}{A:Option Addr}{l:List UInt8}{s:Nat × Nat}
theorem Rdg.c0 (h:Rdg w R A n c l s):w.cell? ⟨R,0,none⟩=some (.slice A n c):=by obtain⟨t,h⟩:=h.r;rw [cell_of_row _ _ _ _ _ _ h];rfl
theorem Rdg.c1 (h:Rdg w R A n c l s):w.cell? ⟨R,1,none⟩=some (.int .i64 (s.1:Int)):=by obtain⟨t,h⟩:=h.r;rw [cell_of_row _ _ _ _ _ _ h];rfl
theorem Rdg.c2 (h:Rdg w R A n c l s):w.cell? ⟨R,2,none⟩=some (.int .i64 (s.2:Int)):=by obtain⟨t,h⟩:=h.r;rw [cell_of_row _ _ _ _ _ _ h];rfl
theorem Rdg.free (h:Rdg w R A n c l s)(i:Nat):w.frozen? ⟨R,i,none⟩=false:=by obtain⟨t,h⟩:=h.r;exact frozen_of_row _ _ _ _ _ h
theorem Rdg.lt (h:Rdg w R A n c l s):R<w.heap.size:=by obtain⟨t,h⟩:=h.r;exact block_lt h
theorem Rdg.fr {S:Nat->Prop}(h:Rdg w R A n c l s)(hf:Fr S w w')(h1:¬S R)(h2:∀b o,0<n->A=some ⟨b,o,none⟩->¬S b):Rdg w' R A n c l s:=by
 obtain⟨t,h0⟩:=h.r;exact⟨⟨t,hf.row_some h0 h1⟩,h.sl.fr hf h2,h.off⟩
theorem Rdg.later (h:Rdg w R A n c l s)(hb:Below w.heap.size w w'):Rdg w' R A n c l s:=h.fr (S:=λ _=>False) (Fr.of_below hb) (λ h=>h) (λ _ _ _ _ h=>h)
theorem Rdg.set1 (h:Rdg w R A n c l s)(e:Nat):Rdg (w.setCell ⟨R,1,none⟩ (.int .i64 (e:Int))) R A n c l (e,s.2)∧Fr (λ k=>k=R) w (w.setCell ⟨R,1,none⟩ (.int .i64 (e:Int))):=by
 have hf:Fr (λ k=>k=R) w (w.setCell ⟨R,1,none⟩ (.int .i64 (e:Int))):=(Fr.refl (λ k=>k=R) _).setCell (p:=⟨R,1,none⟩) (.inr rfl) _;obtain⟨t,h0⟩:=h.r;exact⟨⟨⟨t,heap_setCell_same w R 1 _ _ _ h0⟩,h.sl.fr hf h.off,h.off⟩,hf⟩
theorem Rdg.set2 (h:Rdg w R A n c l s)(e:Nat):Rdg (w.setCell ⟨R,2,none⟩ (.int .i64 (e:Int))) R A n c l (s.1,e)∧Fr (λ k=>k=R) w (w.setCell ⟨R,2,none⟩ (.int .i64 (e:Int))):=by
 have hf:Fr (λ k=>k=R) w (w.setCell ⟨R,2,none⟩ (.int .i64 (e:Int))):=(Fr.refl (λ k=>k=R) _).setCell (p:=⟨R,2,none⟩) (.inr rfl) _;obtain⟨t,h0⟩:=h.r;exact⟨⟨⟨t,heap_setCell_same w R 2 _ _ _ h0⟩,h.sl.fr hf h.off,h.off⟩,hf⟩
end
structure Tk3 (w:World)(t g p R:Nat)(G P:Value):Prop where
 ne:t≠R∧g≠R∧p≠R
 t:Cel w t (.pointer (some ⟨R,0,none⟩))
 g:Cel w g G
 p:Cel w p P
section
variable {w w':World}{t g p R:Nat}{G P:Value}
theorem Tk3.fr {S:Nat->Prop}(h:Tk3 w t g p R G P)(hf:Fr S w w')(h1:¬S t)(h2:¬S g)(h3:¬S p):Tk3 w' t g p R G P:=⟨h.ne,h.t.fr hf h1,h.g.fr hf h2,h.p.fr hf h3⟩
theorem Tk3.later (h:Tk3 w t g p R G P)(hb:Below w.heap.size w w'):Tk3 w' t g p R G P:=h.fr (S:=λ _=>False) (Fr.of_below hb) (λ h=>h) (λ h=>h) (λ h=>h)
theorem Tk3.frR (h:Tk3 w t g p R G P)(hf:Fr (λ k=>k=R) w w'):Tk3 w' t g p R G P:=h.fr hf h.ne.1 h.ne.2.1 h.ne.2.2
end
theorem jjH (fg fp:Nat)(eg:∀args w,(callFunc fg args).run Tryz.prog w= .ok (.enter fg args) w)(ep:∀args w,(callFunc fp args).run Tryz.prog w= .ok (.enter fp args) w)(get:Nat->Nat × Nat × Nat)(right:Nat->Bool)(R t g p:Nat)(A:Option Addr)(n c:Nat)(l:List UInt8)(s:Nat × Nat)(w:World)(h:Rdg w R A n c l s)(hk:Tk3 w t g p R (.func (.func fg) #[] #[]) (.func (.func fp) #[] #[]))
  (hg:∀w',Sl w' 1 A n c (cells l)->Calls Tryz.prog fg #[.slice A n c, .int .i64 (s.1:Int)] w' λ e w'' =>e= .returned (.tuple #[.int .u64 (((get s.1).1:Nat):Int), .int .i64 ((get s.1).2.1:Int), .int .i64 ((get s.1).2.2:Int)])∧w'' =w')
  (hr:∀x w',Calls Tryz.prog fp (#[.int .u64 ((x:Nat):Int)]) w' λ e w'' =>e= .returned (.bool (right x))∧w'' =w'):
  Calls Tryz.prog 215 #[.pointer (some ⟨t,0,none⟩), .pointer (some ⟨g,0,none⟩), .pointer (some ⟨p,0,none⟩)] w
   λ e w' =>e= .returned (.int .u64 (((tkG 0 get right s).1:Nat):Int))∧Rdg w' R A n c l (tkG 0 get right s).2∧Fr (λ k=>k=R) w w':=by
 obtain⟨at_,fault⟩:=s;have kt:=hk.t.cell;have r2:=h.c2;have KK:=qH hk;have RR:=qH h;dsimp only at r2 hg
 by_cases hf:fault=0
 ·subst hf
  obtain⟨x,q,er,hx⟩:∃x q er,get at_=(x,q,er):=⟨_,_,_,rfl⟩;have ht:tkG 0 get right (at_,0)=if er≠0 then(0,(at_,er)) else if right x=false then(0,(at_,3)) else(x,(q,0)):=by unfold tkG;rw [if_neg (by simp)];dsimp only;rw [hx]
  rw [ht];rw [hx] at hg;dsimp only at hg;have HG:=qH hg;have HR:=qH hr;have RD:=qH (show Rdg w.drew R A n c l (at_,0) from h.later (Below.drew (Below.refl _ _)));have KD:=qH (show Tk3 w.drew t g p R (.func (.func fg) #[] #[]) (.func (.func fp) #[] #[]) from hk.later (Below.drew (Below.refl _ _)));have FD:=qH (show Fr (λ k=>k=R) w w.drew from Fr.of_below (Below.drew (Below.refl _ _)));have dp:=KD.out.p.cell;have dt:=KD.out.t.cell;have d1:=RD.out.c1;have d2:=RD.out.c2;have f1:=RD.out.free 1;have f2:=RD.out.free 2;clear h hk hg hr ht hx
  by_cases he:er=0
  ·subst he
   rw [if_neg (by simp)]
   cases hrx:right x
   ·rw [if_pos rfl]
    have hrr:=HR.out x w.drew;rw [hrx] at hrr;clear hrx;go_enter Tryz.func215,Tryz.ntmps215;go_wp2_with fail;refine wp_region_held_drew (S:=λ w' =>Fr (λ _=>False) w.drew w') (by kernel_rfl) (Fr.refl _ _) (λ hHeld=> ?_);clear hHeld;refine tL 0 (some 15) (v:= ?vta0) rfl ?yta0 (Fr.refl _ _) ?rta0
    case yta0=>
     intro wq hSw
     (try dsimp only at hSw)
     have hq:=(KK.out.fr ((Fr.of_below (Below.drew (Below.refl _ _))).trans hSw) (λ h=>h) (λ h=>h) (λ h=>h)).g.cell;go_simp<;>with_reducible rfl
    try simp only [Act.put,sA,sB,sC]
    refine tL 1 (some 16) (v:= ?vta1) rfl ?yta1 (Fr.refl _ _) ?rta1
    case yta1=>
     intro wq hSw
     (try dsimp only at hSw)
     have hq:=(KK.out.fr ((Fr.of_below (Below.drew (Below.refl _ _))).trans hSw) (λ h=>h) (λ h=>h) (λ h=>h)).t.cell;go_simp<;>with_reducible rfl
    try simp only [Act.put,sA,sB,sC]
    refine tA 2 (some 17) rfl (Fr.refl _ _) ?_;refine tA 3 (some 18) rfl (Fr.refl _ _) ?_;refine tL 4 (some 19) (v:= ?vta4) rfl ?yta4 (Fr.refl _ _) ?rta4
    case yta4=>
     intro wq hSw
     (try dsimp only at hSw)
     have hq:=(RR.out.fr ((Fr.of_below (Below.drew (Below.refl _ _))).trans hSw) (λ h=>h) (λ _ _ _ _ h=>h)).c0;go_simp<;>with_reducible rfl
    try simp only [Act.put,sA,sB,sC]
    refine tL 5 (some 20) (v:= ?vta5) rfl ?yta5 (Fr.refl _ _) ?rta5
    case yta5=>
     intro wq hSw
     (try dsimp only at hSw)
     have hq:=(KK.out.fr ((Fr.of_below (Below.drew (Below.refl _ _))).trans hSw) (λ h=>h) (λ h=>h) (λ h=>h)).t.cell;go_simp<;>with_reducible rfl
    try simp only [Act.put,sA,sB,sC]
    refine tA 6 (some 21) rfl (Fr.refl _ _) ?_;refine tA 7 (some 22) rfl (Fr.refl _ _) ?_;refine tL 8 (some 23) (v:= ?vta8) rfl ?yta8 (Fr.refl _ _) ?rta8
    case yta8=>
     intro wq hSw
     (try dsimp only at hSw)
     have hq:=(RR.out.fr ((Fr.of_below (Below.drew (Below.refl _ _))).trans hSw) (λ h=>h) (λ _ _ _ _ h=>h)).c1;go_simp<;>with_reducible rfl
    try simp only [Act.put,sA,sB,sC]
    refine rW 9 (some 24) rfl λ K hK=> ?_
    go_simp;refine(HG.out w.drew RR.out.sl.drew).mono ?_;rintro e' w2 ⟨rfl,hw2⟩;obtain rfl:w.drew=w2:=hw2.symm;have hfr:Fr (λ _=>False) w.drew w.drew:=Fr.refl _ _;go_wp2_with fail;refine hK.out _ _ hfr (λ hHeld=> ?_);clear hK K hHeld
    try simp only [Act.put,sA,sB,sC]
    refine jac (S':=λ w' =>Fr (λ _=>False) w.drew w') (λ w' h=>hfr.trans h) ?_;clear hfr;refine tA 10 (some 14) rfl (Fr.refl _ _) ?_;refine tA 11 (some 25) rfl (Fr.refl _ _) ?_;refine tA 12 (some 26) rfl (Fr.refl _ _) ?_;refine tA 13 (some 27) rfl (Fr.refl _ _) ?_;refine tA 14 (some 5) rfl (Fr.refl _ _) ?_;refine tA 15 (some 6) rfl (Fr.refl _ _) ?_;refine tA 16 (some 7) rfl (Fr.refl _ _) ?_;refine tD ?_;go_wp2_with fail;refine hrr.mono ?_;clear hrr;rintro e w3 ⟨rfl,hw3⟩;obtain rfl:w.drew=w3:=hw3.symm;go_wp2_with fail;go_ret;exact⟨rfl,(RD.out.set2 3).1,FD.out.trans (RD.out.set2 3).2⟩
   ·rw [if_neg (by simp)]
    have hrr:=HR.out x w.drew;rw [hrx] at hrr;clear hrx;go_enter Tryz.func215,Tryz.ntmps215;go_wp2_with fail;refine wp_region_held_drew (S:=λ w' =>Fr (λ _=>False) w.drew w') (by kernel_rfl) (Fr.refl _ _) (λ hHeld=> ?_);clear hHeld;refine tL 0 (some 15) (v:= ?vtb0) rfl ?ytb0 (Fr.refl _ _) ?rtb0
    case ytb0=>
     intro wq hSw
     (try dsimp only at hSw)
     have hq:=(KK.out.fr ((Fr.of_below (Below.drew (Below.refl _ _))).trans hSw) (λ h=>h) (λ h=>h) (λ h=>h)).g.cell;go_simp<;>with_reducible rfl
    try simp only [Act.put,sA,sB,sC]
    refine tL 1 (some 16) (v:= ?vtb1) rfl ?ytb1 (Fr.refl _ _) ?rtb1
    case ytb1=>
     intro wq hSw
     (try dsimp only at hSw)
     have hq:=(KK.out.fr ((Fr.of_below (Below.drew (Below.refl _ _))).trans hSw) (λ h=>h) (λ h=>h) (λ h=>h)).t.cell;go_simp<;>with_reducible rfl
    try simp only [Act.put,sA,sB,sC]
    refine tA 2 (some 17) rfl (Fr.refl _ _) ?_;refine tA 3 (some 18) rfl (Fr.refl _ _) ?_;refine tL 4 (some 19) (v:= ?vtb4) rfl ?ytb4 (Fr.refl _ _) ?rtb4
    case ytb4=>
     intro wq hSw
     (try dsimp only at hSw)
     have hq:=(RR.out.fr ((Fr.of_below (Below.drew (Below.refl _ _))).trans hSw) (λ h=>h) (λ _ _ _ _ h=>h)).c0;go_simp<;>with_reducible rfl
    try simp only [Act.put,sA,sB,sC]
    refine tL 5 (some 20) (v:= ?vtb5) rfl ?ytb5 (Fr.refl _ _) ?rtb5
    case ytb5=>
     intro wq hSw
     (try dsimp only at hSw)
     have hq:=(KK.out.fr ((Fr.of_below (Below.drew (Below.refl _ _))).trans hSw) (λ h=>h) (λ h=>h) (λ h=>h)).t.cell;go_simp<;>with_reducible rfl
    try simp only [Act.put,sA,sB,sC]
    refine tA 6 (some 21) rfl (Fr.refl _ _) ?_;refine tA 7 (some 22) rfl (Fr.refl _ _) ?_;refine tL 8 (some 23) (v:= ?vtb8) rfl ?ytb8 (Fr.refl _ _) ?rtb8
    case ytb8=>
     intro wq hSw
     (try dsimp only at hSw)
     have hq:=(RR.out.fr ((Fr.of_below (Below.drew (Below.refl _ _))).trans hSw) (λ h=>h) (λ _ _ _ _ h=>h)).c1;go_simp<;>with_reducible rfl
    try simp only [Act.put,sA,sB,sC]
    refine rW 9 (some 24) rfl λ K hK=> ?_
    go_simp;refine(HG.out w.drew RR.out.sl.drew).mono ?_;rintro e' w2 ⟨rfl,hw2⟩;obtain rfl:w.drew=w2:=hw2.symm;have hfr:Fr (λ _=>False) w.drew w.drew:=Fr.refl _ _;go_wp2_with fail;refine hK.out _ _ hfr (λ hHeld=> ?_);clear hK K hHeld
    try simp only [Act.put,sA,sB,sC]
    refine jac (S':=λ w' =>Fr (λ _=>False) w.drew w') (λ w' h=>hfr.trans h) ?_;clear hfr;refine tA 10 (some 14) rfl (Fr.refl _ _) ?_;refine tA 11 (some 25) rfl (Fr.refl _ _) ?_;refine tA 12 (some 26) rfl (Fr.refl _ _) ?_;refine tA 13 (some 27) rfl (Fr.refl _ _) ?_;refine tA 14 (some 5) rfl (Fr.refl _ _) ?_;refine tA 15 (some 6) rfl (Fr.refl _ _) ?_;refine tA 16 (some 7) rfl (Fr.refl _ _) ?_;refine tD ?_;go_wp2_with fail;refine hrr.mono ?_;clear hrr;rintro e w3 ⟨rfl,hw3⟩;obtain rfl:w.drew=w3:=hw3.symm;go_wp2_with fail;go_ret;exact⟨rfl,(RD.out.set1 q).1,FD.out.trans (RD.out.set1 q).2⟩
  ·rw [if_pos he]
   have hei:¬(er:Int)=0:=by omega
   go_enter Tryz.func215,Tryz.ntmps215;go_wp2_with fail;refine wp_region_held_drew (S:=λ w' =>Fr (λ _=>False) w.drew w') (by kernel_rfl) (Fr.refl _ _) (λ hHeld=> ?_);clear hHeld;refine tL 0 (some 15) (v:= ?vtc0) rfl ?ytc0 (Fr.refl _ _) ?rtc0
   case ytc0=>
    intro wq hSw
    (try dsimp only at hSw)
    have hq:=(KK.out.fr ((Fr.of_below (Below.drew (Below.refl _ _))).trans hSw) (λ h=>h) (λ h=>h) (λ h=>h)).g.cell;go_simp<;>with_reducible rfl
   try simp only [Act.put,sA,sB,sC]
   refine tL 1 (some 16) (v:= ?vtc1) rfl ?ytc1 (Fr.refl _ _) ?rtc1
   case ytc1=>
    intro wq hSw
    (try dsimp only at hSw)
    have hq:=(KK.out.fr ((Fr.of_below (Below.drew (Below.refl _ _))).trans hSw) (λ h=>h) (λ h=>h) (λ h=>h)).t.cell;go_simp<;>with_reducible rfl
   try simp only [Act.put,sA,sB,sC]
   refine tA 2 (some 17) rfl (Fr.refl _ _) ?_;refine tA 3 (some 18) rfl (Fr.refl _ _) ?_;refine tL 4 (some 19) (v:= ?vtc4) rfl ?ytc4 (Fr.refl _ _) ?rtc4
   case ytc4=>
    intro wq hSw
    (try dsimp only at hSw)
    have hq:=(RR.out.fr ((Fr.of_below (Below.drew (Below.refl _ _))).trans hSw) (λ h=>h) (λ _ _ _ _ h=>h)).c0;go_simp<;>with_reducible rfl
   try simp only [Act.put,sA,sB,sC]
   refine tL 5 (some 20) (v:= ?vtc5) rfl ?ytc5 (Fr.refl _ _) ?rtc5
   case ytc5=>
    intro wq hSw
    (try dsimp only at hSw)
    have hq:=(KK.out.fr ((Fr.of_below (Below.drew (Below.refl _ _))).trans hSw) (λ h=>h) (λ h=>h) (λ h=>h)).t.cell;go_simp<;>with_reducible rfl
   try simp only [Act.put,sA,sB,sC]
   refine tA 6 (some 21) rfl (Fr.refl _ _) ?_;refine tA 7 (some 22) rfl (Fr.refl _ _) ?_;refine tL 8 (some 23) (v:= ?vtc8) rfl ?ytc8 (Fr.refl _ _) ?rtc8
   case ytc8=>
    intro wq hSw
    (try dsimp only at hSw)
    have hq:=(RR.out.fr ((Fr.of_below (Below.drew (Below.refl _ _))).trans hSw) (λ h=>h) (λ _ _ _ _ h=>h)).c1;go_simp<;>with_reducible rfl
   try simp only [Act.put,sA,sB,sC]
   refine rW 9 (some 24) rfl λ K hK=> ?_
   go_simp;refine(HG.out w.drew RR.out.sl.drew).mono ?_;rintro e' w2 ⟨rfl,hw2⟩;obtain rfl:w.drew=w2:=hw2.symm;have hfr:Fr (λ _=>False) w.drew w.drew:=Fr.refl _ _;go_wp2_with fail;refine hK.out _ _ hfr (λ hHeld=> ?_);clear hK K hHeld
   try simp only [Act.put,sA,sB,sC]
   refine jac (S':=λ w' =>Fr (λ _=>False) w.drew w') (λ w' h=>hfr.trans h) ?_;clear hfr;refine tA 10 (some 14) rfl (Fr.refl _ _) ?_;refine tA 11 (some 25) rfl (Fr.refl _ _) ?_;refine tA 12 (some 26) rfl (Fr.refl _ _) ?_;refine tA 13 (some 27) rfl (Fr.refl _ _) ?_;refine tA 14 (some 5) rfl (Fr.refl _ _) ?_;refine tA 15 (some 6) rfl (Fr.refl _ _) ?_;refine tA 16 (some 7) rfl (Fr.refl _ _) ?_;refine tD ?_;go_wp2_with fail;go_ret;exact⟨rfl,(RD.out.set2 er).1,FD.out.trans (RD.out.set2 er).2⟩
 ·have ht:tkG 0 get right (at_,fault)=(0,(at_,fault)):=by unfold tkG;rw [if_pos hf]
  rw [ht];have hfi:¬(fault:Int)=0:=by omega
  clear ht h hk hg hr;go_enter Tryz.func215,Tryz.ntmps215;go_wp2_with fail;go_ret;exact⟨rfl,RR.out,Fr.refl _ _⟩
theorem ftakeS (fg fp:Nat)(eg:∀args w,(callFunc fg args).run Tryz.prog w= .ok (.enter fg args) w)(ep:∀args w,(callFunc fp args).run Tryz.prog w= .ok (.enter fp args) w)(pv:Value)(get:Nat->ByteArray × Nat × Nat)(right:ByteArray->Bool)(R t g p:Nat)(A:Option Addr)(n c:Nat)(l:List UInt8)(s:Nat × Nat)(w:World)(h:Rdg w R A n c l s)(hk:Tk3 w t g p R (.func (.func fg) #[] #[]) (.func (.func fp) #[] #[pv]))
  (hg:∀w',Sl w' 1 A n c (cells l)->Calls Tryz.prog fg #[.slice A n c, .int .i64 (s.1:Int)] w' λ e w'' =>e= .returned (.tuple #[.string ((get s.1).1), .int .i64 ((get s.1).2.1:Int), .int .i64 ((get s.1).2.2:Int)])∧w'' =w')
  (hr:∀x w',Fr (λ k=>k=R) w w' ->Calls Tryz.prog fp (#[.string (x),pv]) w' λ e w'' =>e= .returned (.bool (right x))∧w'' =w'):
  Calls Tryz.prog 217 #[.pointer (some ⟨t,0,none⟩), .pointer (some ⟨g,0,none⟩), .pointer (some ⟨p,0,none⟩)] w
   λ e w' =>e= .returned (.string ((tkG (⟨#[]⟩:ByteArray) get right s).1))∧Rdg w' R A n c l (tkG (⟨#[]⟩:ByteArray) get right s).2∧Fr (λ k=>k=R) w w':=by
 obtain⟨at_,fault⟩:=s;have kt:=hk.t.cell;have r2:=h.c2;have KK:=qH hk;have RR:=qH h;dsimp only at r2 hg
 by_cases hf:fault=0
 ·subst hf
  obtain⟨x,q,er,hx⟩:∃x q er,get at_=(x,q,er):=⟨_,_,_,rfl⟩;have ht:tkG (⟨#[]⟩:ByteArray) get right (at_,0)=if er≠0 then((⟨#[]⟩:ByteArray),(at_,er)) else if right x=false then((⟨#[]⟩:ByteArray),(at_,3)) else(x,(q,0)):=by unfold tkG;rw [if_neg (by simp)];dsimp only;rw [hx]
  rw [ht];rw [hx] at hg;dsimp only at hg;have HG:=qH hg;have HR:=qH hr;have RD:=qH (show Rdg w.drew R A n c l (at_,0) from h.later (Below.drew (Below.refl _ _)));have KD:=qH (show Tk3 w.drew t g p R (.func (.func fg) #[] #[]) (.func (.func fp) #[] #[pv]) from hk.later (Below.drew (Below.refl _ _)));have FD:=qH (show Fr (λ k=>k=R) w w.drew from Fr.of_below (Below.drew (Below.refl _ _)));have dp:=KD.out.p.cell;have dt:=KD.out.t.cell;have d1:=RD.out.c1;have d2:=RD.out.c2;have f1:=RD.out.free 1;have f2:=RD.out.free 2;clear h hk hg hr ht hx
  by_cases he:er=0
  ·subst he
   rw [if_neg (by simp)]
   cases hrx:right x
   ·rw [if_pos rfl]
    have hrr:=HR.out x w.drew FD.out;rw [hrx] at hrr;clear hrx;go_enter Tryz.func217,Tryz.ntmps217;go_wp2_with fail;refine wp_region_held_drew (S:=λ w' =>Fr (λ _=>False) w.drew w') (by kernel_rfl) (Fr.refl _ _) (λ hHeld=> ?_);clear hHeld;refine tL 0 (some 15) (v:= ?vta0) rfl ?yta0 (Fr.refl _ _) ?rta0
    case yta0=>
     intro wq hSw
     (try dsimp only at hSw)
     have hq:=(KK.out.fr ((Fr.of_below (Below.drew (Below.refl _ _))).trans hSw) (λ h=>h) (λ h=>h) (λ h=>h)).g.cell;go_simp<;>with_reducible rfl
    try simp only [Act.put,sA,sB,sC]
    refine tL 1 (some 16) (v:= ?vta1) rfl ?yta1 (Fr.refl _ _) ?rta1
    case yta1=>
     intro wq hSw
     (try dsimp only at hSw)
     have hq:=(KK.out.fr ((Fr.of_below (Below.drew (Below.refl _ _))).trans hSw) (λ h=>h) (λ h=>h) (λ h=>h)).t.cell;go_simp<;>with_reducible rfl
    try simp only [Act.put,sA,sB,sC]
    refine tA 2 (some 17) rfl (Fr.refl _ _) ?_;refine tA 3 (some 18) rfl (Fr.refl _ _) ?_;refine tL 4 (some 19) (v:= ?vta4) rfl ?yta4 (Fr.refl _ _) ?rta4
    case yta4=>
     intro wq hSw
     (try dsimp only at hSw)
     have hq:=(RR.out.fr ((Fr.of_below (Below.drew (Below.refl _ _))).trans hSw) (λ h=>h) (λ _ _ _ _ h=>h)).c0;go_simp<;>with_reducible rfl
    try simp only [Act.put,sA,sB,sC]
    refine tL 5 (some 20) (v:= ?vta5) rfl ?yta5 (Fr.refl _ _) ?rta5
    case yta5=>
     intro wq hSw
     (try dsimp only at hSw)
     have hq:=(KK.out.fr ((Fr.of_below (Below.drew (Below.refl _ _))).trans hSw) (λ h=>h) (λ h=>h) (λ h=>h)).t.cell;go_simp<;>with_reducible rfl
    try simp only [Act.put,sA,sB,sC]
    refine tA 6 (some 21) rfl (Fr.refl _ _) ?_;refine tA 7 (some 22) rfl (Fr.refl _ _) ?_;refine tL 8 (some 23) (v:= ?vta8) rfl ?yta8 (Fr.refl _ _) ?rta8
    case yta8=>
     intro wq hSw
     (try dsimp only at hSw)
     have hq:=(RR.out.fr ((Fr.of_below (Below.drew (Below.refl _ _))).trans hSw) (λ h=>h) (λ _ _ _ _ h=>h)).c1;go_simp<;>with_reducible rfl
    try simp only [Act.put,sA,sB,sC]
    refine rW 9 (some 24) rfl λ K hK=> ?_
    go_simp;refine(HG.out w.drew RR.out.sl.drew).mono ?_;rintro e' w2 ⟨rfl,hw2⟩;obtain rfl:w.drew=w2:=hw2.symm;have hfr:Fr (λ _=>False) w.drew w.drew:=Fr.refl _ _;go_wp2_with fail;refine hK.out _ _ hfr (λ hHeld=> ?_);clear hK K hHeld
    try simp only [Act.put,sA,sB,sC]
    refine jac (S':=λ w' =>Fr (λ _=>False) w.drew w') (λ w' h=>hfr.trans h) ?_;clear hfr;refine tA 10 (some 14) rfl (Fr.refl _ _) ?_;refine tA 11 (some 25) rfl (Fr.refl _ _) ?_;refine tA 12 (some 26) rfl (Fr.refl _ _) ?_;refine tA 13 (some 27) rfl (Fr.refl _ _) ?_;refine tA 14 (some 5) rfl (Fr.refl _ _) ?_;refine tA 15 (some 6) rfl (Fr.refl _ _) ?_;refine tA 16 (some 7) rfl (Fr.refl _ _) ?_;refine tD ?_;go_wp2_with fail;refine hrr.mono ?_;clear hrr;rintro e w3 ⟨rfl,hw3⟩;obtain rfl:w.drew=w3:=hw3.symm;go_wp2_with fail;go_ret;exact⟨rfl,(RD.out.set2 3).1,FD.out.trans (RD.out.set2 3).2⟩
   ·rw [if_neg (by simp)]
    have hrr:=HR.out x w.drew FD.out;rw [hrx] at hrr;clear hrx;go_enter Tryz.func217,Tryz.ntmps217;go_wp2_with fail;refine wp_region_held_drew (S:=λ w' =>Fr (λ _=>False) w.drew w') (by kernel_rfl) (Fr.refl _ _) (λ hHeld=> ?_);clear hHeld;refine tL 0 (some 15) (v:= ?vtb0) rfl ?ytb0 (Fr.refl _ _) ?rtb0
    case ytb0=>
     intro wq hSw
     (try dsimp only at hSw)
     have hq:=(KK.out.fr ((Fr.of_below (Below.drew (Below.refl _ _))).trans hSw) (λ h=>h) (λ h=>h) (λ h=>h)).g.cell;go_simp<;>with_reducible rfl
    try simp only [Act.put,sA,sB,sC]
    refine tL 1 (some 16) (v:= ?vtb1) rfl ?ytb1 (Fr.refl _ _) ?rtb1
    case ytb1=>
     intro wq hSw
     (try dsimp only at hSw)
     have hq:=(KK.out.fr ((Fr.of_below (Below.drew (Below.refl _ _))).trans hSw) (λ h=>h) (λ h=>h) (λ h=>h)).t.cell;go_simp<;>with_reducible rfl
    try simp only [Act.put,sA,sB,sC]
    refine tA 2 (some 17) rfl (Fr.refl _ _) ?_;refine tA 3 (some 18) rfl (Fr.refl _ _) ?_;refine tL 4 (some 19) (v:= ?vtb4) rfl ?ytb4 (Fr.refl _ _) ?rtb4
    case ytb4=>
     intro wq hSw
     (try dsimp only at hSw)
     have hq:=(RR.out.fr ((Fr.of_below (Below.drew (Below.refl _ _))).trans hSw) (λ h=>h) (λ _ _ _ _ h=>h)).c0;go_simp<;>with_reducible rfl
    try simp only [Act.put,sA,sB,sC]
    refine tL 5 (some 20) (v:= ?vtb5) rfl ?ytb5 (Fr.refl _ _) ?rtb5
    case ytb5=>
     intro wq hSw
     (try dsimp only at hSw)
     have hq:=(KK.out.fr ((Fr.of_below (Below.drew (Below.refl _ _))).trans hSw) (λ h=>h) (λ h=>h) (λ h=>h)).t.cell;go_simp<;>with_reducible rfl
    try simp only [Act.put,sA,sB,sC]
    refine tA 6 (some 21) rfl (Fr.refl _ _) ?_;refine tA 7 (some 22) rfl (Fr.refl _ _) ?_;refine tL 8 (some 23) (v:= ?vtb8) rfl ?ytb8 (Fr.refl _ _) ?rtb8
    case ytb8=>
     intro wq hSw
     (try dsimp only at hSw)
     have hq:=(RR.out.fr ((Fr.of_below (Below.drew (Below.refl _ _))).trans hSw) (λ h=>h) (λ _ _ _ _ h=>h)).c1;go_simp<;>with_reducible rfl
    try simp only [Act.put,sA,sB,sC]
    refine rW 9 (some 24) rfl λ K hK=> ?_
    go_simp;refine(HG.out w.drew RR.out.sl.drew).mono ?_;rintro e' w2 ⟨rfl,hw2⟩;obtain rfl:w.drew=w2:=hw2.symm;have hfr:Fr (λ _=>False) w.drew w.drew:=Fr.refl _ _;go_wp2_with fail;refine hK.out _ _ hfr (λ hHeld=> ?_);clear hK K hHeld
    try simp only [Act.put,sA,sB,sC]
    refine jac (S':=λ w' =>Fr (λ _=>False) w.drew w') (λ w' h=>hfr.trans h) ?_;clear hfr;refine tA 10 (some 14) rfl (Fr.refl _ _) ?_;refine tA 11 (some 25) rfl (Fr.refl _ _) ?_;refine tA 12 (some 26) rfl (Fr.refl _ _) ?_;refine tA 13 (some 27) rfl (Fr.refl _ _) ?_;refine tA 14 (some 5) rfl (Fr.refl _ _) ?_;refine tA 15 (some 6) rfl (Fr.refl _ _) ?_;refine tA 16 (some 7) rfl (Fr.refl _ _) ?_;refine tD ?_;go_wp2_with fail;refine hrr.mono ?_;clear hrr;rintro e w3 ⟨rfl,hw3⟩;obtain rfl:w.drew=w3:=hw3.symm;go_wp2_with fail;go_ret;exact⟨rfl,(RD.out.set1 q).1,FD.out.trans (RD.out.set1 q).2⟩
  ·rw [if_pos he]
   have hei:¬(er:Int)=0:=by omega
   go_enter Tryz.func217,Tryz.ntmps217;go_wp2_with fail;refine wp_region_held_drew (S:=λ w' =>Fr (λ _=>False) w.drew w') (by kernel_rfl) (Fr.refl _ _) (λ hHeld=> ?_);clear hHeld;refine tL 0 (some 15) (v:= ?vtc0) rfl ?ytc0 (Fr.refl _ _) ?rtc0
   case ytc0=>
    intro wq hSw
    (try dsimp only at hSw)
    have hq:=(KK.out.fr ((Fr.of_below (Below.drew (Below.refl _ _))).trans hSw) (λ h=>h) (λ h=>h) (λ h=>h)).g.cell;go_simp<;>with_reducible rfl
   try simp only [Act.put,sA,sB,sC]
   refine tL 1 (some 16) (v:= ?vtc1) rfl ?ytc1 (Fr.refl _ _) ?rtc1
   case ytc1=>
    intro wq hSw
    (try dsimp only at hSw)
    have hq:=(KK.out.fr ((Fr.of_below (Below.drew (Below.refl _ _))).trans hSw) (λ h=>h) (λ h=>h) (λ h=>h)).t.cell;go_simp<;>with_reducible rfl
   try simp only [Act.put,sA,sB,sC]
   refine tA 2 (some 17) rfl (Fr.refl _ _) ?_;refine tA 3 (some 18) rfl (Fr.refl _ _) ?_;refine tL 4 (some 19) (v:= ?vtc4) rfl ?ytc4 (Fr.refl _ _) ?rtc4
   case ytc4=>
    intro wq hSw
    (try dsimp only at hSw)
    have hq:=(RR.out.fr ((Fr.of_below (Below.drew (Below.refl _ _))).trans hSw) (λ h=>h) (λ _ _ _ _ h=>h)).c0;go_simp<;>with_reducible rfl
   try simp only [Act.put,sA,sB,sC]
   refine tL 5 (some 20) (v:= ?vtc5) rfl ?ytc5 (Fr.refl _ _) ?rtc5
   case ytc5=>
    intro wq hSw
    (try dsimp only at hSw)
    have hq:=(KK.out.fr ((Fr.of_below (Below.drew (Below.refl _ _))).trans hSw) (λ h=>h) (λ h=>h) (λ h=>h)).t.cell;go_simp<;>with_reducible rfl
   try simp only [Act.put,sA,sB,sC]
   refine tA 6 (some 21) rfl (Fr.refl _ _) ?_;refine tA 7 (some 22) rfl (Fr.refl _ _) ?_;refine tL 8 (some 23) (v:= ?vtc8) rfl ?ytc8 (Fr.refl _ _) ?rtc8
   case ytc8=>
    intro wq hSw
    (try dsimp only at hSw)
    have hq:=(RR.out.fr ((Fr.of_below (Below.drew (Below.refl _ _))).trans hSw) (λ h=>h) (λ _ _ _ _ h=>h)).c1;go_simp<;>with_reducible rfl
   try simp only [Act.put,sA,sB,sC]
   refine rW 9 (some 24) rfl λ K hK=> ?_
   go_simp;refine(HG.out w.drew RR.out.sl.drew).mono ?_;rintro e' w2 ⟨rfl,hw2⟩;obtain rfl:w.drew=w2:=hw2.symm;have hfr:Fr (λ _=>False) w.drew w.drew:=Fr.refl _ _;go_wp2_with fail;refine hK.out _ _ hfr (λ hHeld=> ?_);clear hK K hHeld
   try simp only [Act.put,sA,sB,sC]
   refine jac (S':=λ w' =>Fr (λ _=>False) w.drew w') (λ w' h=>hfr.trans h) ?_;clear hfr;refine tA 10 (some 14) rfl (Fr.refl _ _) ?_;refine tA 11 (some 25) rfl (Fr.refl _ _) ?_;refine tA 12 (some 26) rfl (Fr.refl _ _) ?_;refine tA 13 (some 27) rfl (Fr.refl _ _) ?_;refine tA 14 (some 5) rfl (Fr.refl _ _) ?_;refine tA 15 (some 6) rfl (Fr.refl _ _) ?_;refine tA 16 (some 7) rfl (Fr.refl _ _) ?_;refine tD ?_;go_wp2_with fail;go_ret;exact⟨rfl,(RD.out.set2 er).1,FD.out.trans (RD.out.set2 er).2⟩
 ·have ht:tkG (⟨#[]⟩:ByteArray) get right (at_,fault)=((⟨#[]⟩:ByteArray),(at_,fault)):=by unfold tkG;rw [if_pos hf]
  rw [ht];have hfi:¬(fault:Int)=0:=by omega
  clear ht h hk hg hr;go_enter Tryz.func217,Tryz.ntmps217;go_wp2_with fail;go_ret;exact⟨rfl,RR.out,Fr.refl _ _⟩
end
end Go.Proofs.YtmhejbihdghhaaaGreatDoor

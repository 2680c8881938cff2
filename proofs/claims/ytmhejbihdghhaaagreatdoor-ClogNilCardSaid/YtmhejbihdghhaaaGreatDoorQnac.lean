/-
  Contract of package clog's Replay (layer 18)
-/
import Derived.Test.YtmhejbihdghhaaaGreatDoorQnab
import Derived.Test.YtmhejbihdghhaaaGreatDoorQnaa
import Derived.RangeFuncBox
namespace Go.Proofs.YtmhejbihdghhaaaGreatDoor
set_option linter.unusedVariables false
section
open Go.RowKit Go.Proofs
set_option maxRecDepth 20000
set_option maxHeartbeats 3200000
attribute [local go_sem] Oper.semAt_some
theorem Gg.steps18 {W W':World}{B n c:Nat}{A:Option Addr}{rs:List (List UInt8)}{row:Option Nat}(h:Gg W B A n c rs)(h0:n=0->A=none)(hg:W.grownBy W' row)(hr:∀r,row=some r->∃o:Obj,W.heap[r]? =some o∧o.isCells=false):Gg W' B A n c rs:=by
 have hf:Fr (λ b=>row=some b) W W':=⟨hg.os,hg.tape,hg.output,hg.size,λ k hk q=>hg.block k hk (λ e=>q e.symm)⟩;have nc:∀{p:Addr} {v:Value},W.cell? p=some v->¬row=some p.block:=λ {p v} hp q=>by
  obtain⟨o,ho,hc⟩:=hr _ q;unfold World.cell? at hp;rw [ho] at hp
  cases o<;>simp_all [Obj.isCells]
 obtain⟨vs,ho,hrows⟩:=h.ex;refine⟨⟨vs,ho.frE hf (λ b o e=> ?_),λ i r hi=> ?_⟩,h.len,λ b o e=>⟨(h.own b o e).1,Nat.lt_of_lt_of_le (h.own b o e).2 hg.size⟩⟩
 ·rcases Nat.eq_zero_or_pos n with hn|hn
  ·rw [h0 hn] at e;cases e
  ·obtain⟨v,hv⟩:∃v,vs[0]? =some v:=⟨_,List.getElem?_eq_getElem (by have:=ho.sl.len;omega)⟩
   obtain⟨b',o',e',hc⟩:=ho.sl.cell 0 v hv;rw [e] at e';injection e' with e'
   injection e' with e1 _ _
   subst e1;exact nc hc
 ·obtain⟨A',c',q1,q2,q3⟩:=hrows i r hi
  refine⟨A',c',q1,q2.fr hf (λ b o hn e=> ?_),q3⟩;obtain⟨v,hv⟩:∃v,(cells r)[0]? =some v:=⟨_,List.getElem?_eq_getElem (by rw [cells_length];exact hn)⟩;obtain⟨b',o',e',hc⟩:=q2.cell 0 v hv;rw [e] at e';injection e' with e'
  injection e' with e1 _ _
  subst e1;exact nc hc
theorem sl_steps18 {W W':World}{n c:Nat}{A:Option Addr}{xs:List Value}{row:Option Nat}(h:Sl W 1 A n c xs)(hg:W.grownBy W' row)(hr:∀r,row=some r->∃o:Obj,W.heap[r]? =some o∧o.isCells=false):Sl W' 1 A n c xs:=
 ⟨h.len,h.cap,h.top,λ j u hu=>by
  obtain⟨b,o,e,hc⟩:=h.cell j u hu;exact⟨b,o,e,cell_kept hc hg hr⟩⟩
structure In18 (w:World)(Bp Bn n3:Nat)(av:List Value)(pre:List Pc18)(W:World):Prop where
 row:∃A5 c5,W.heap[Bp]? =some (.cells #[.slice A5 pre.length c5] 101 (0,0))∧Gg W n3 A5 pre.length c5 (pre.map Pc18.b)∧(pre.length=0->A5=none)
 bel:Below w.heap.size w W
 area:W.rangeAt Bn 0 av
 size:n3<=W.heap.size
theorem In18.own {w:World}{Bp Bn n3:Nat}{av:List Value}(hw:w.heap.size<=n3)(hp:Bp<n3):OwnFrom n3 (In18 w Bp Bn n3 av):=λ s W W' row h hg hr=>by
 have hr':∀r,row=some r->∃o:Obj,W.heap[r]? =some o∧o.isCells=false:=λ r e=>(hr r e).2
 obtain⟨A5,c5,h1,h2,h3⟩:=h.row;exact⟨⟨A5,c5,(hg.block Bp (block_lt h1) (λ e=>by have:=(hr Bp e.symm).1;omega)).trans h1,h2.steps18 h3 hg hr',h3⟩,h.bel.grown hg h.bel.size (λ k e=>by have:=(hr k e).1;omega),λ j v hv=>cell_kept (h.area j v hv) hg hr',Nat.le_trans h.size hg.size⟩
theorem In18.next {w W w':World}{Bp Bn n3:Nat}{av:List Value}{pre:List Pc18}{x:Pc18}{A5 A':Option Addr}{c5 c':Nat}(hp:Bp<n3)(hn:Bn<n3)(hne:Bn≠Bp)(hw:w.heap.size<=Bp)(h:In18 w Bp Bn n3 av pre W)
  (h1:W.heap[Bp]? =some (.cells #[.slice A5 pre.length c5] 101 (0,0)))(h2:Gg W n3 A5 pre.length c5 (pre.map Pc18.b))(h3:pre.length=0->A5=none)
  (hg:Gg w' n3 A' (pre.length+1) c' (pre.map Pc18.b ++ [x.b]))(hf:Fr (Blk A5) (W.alloc (.cells #[x.val] 105)) w'):
  KeepsFrom n3 W (w'.setCell ⟨Bp,0,none⟩ (.slice A' (pre.length+1) c'))∧In18 w Bp Bn n3 av (pre ++ [x]) (w'.setCell ⟨Bp,0,none⟩ (.slice A' (pre.length+1) c'))∧w'.heap[Bp]? =some (.cells #[.slice A5 pre.length c5] 101 (0,0)):=by
 have hba:Below W.heap.size W (W.alloc (.cells #[x.val] 105)):=(Below.refl _ _).alloc (Nat.le_refl _) _;have hfW:Fr (Blk A5) W w':=(Fr.of_below hba).trans hf;have hA:∀k,Blk A5 k->n3<=k:=λ k ⟨o,e⟩=>(h2.own k o e).1
 have hsz:=hfW.size;have hrow:w'.heap[Bp]? =some (.cells #[.slice A5 pre.length c5] 101 (0,0)):=hfW.row_some h1 (λ q=>by have:=hA _ q;omega);have hrow2:=heap_setCell_same w' Bp 0 _ _ (.slice A' (pre.length+1) c') hrow;have hfs:Fr (λ b=>b=Bp) w' (w'.setCell ⟨Bp,0,none⟩ (.slice A' (pre.length+1) c')):=(Fr.refl (λ b=>b=Bp) w').setCell (p:=⟨Bp,0,none⟩) (.inr rfl) _;have hin:∀{o:Nat} {u:UInt8},w'.cell? ⟨Bp,o,none⟩≠some (bv u):=λ {o u} q=>by
  rw [cell_of_row _ _ _ _ _ _ hrow] at q
  rcases o with _|o
  ·simp [bv] at q
  ·simp at q
 refine⟨⟨Nat.le_trans hsz hfs.size,λ k o hk hko hc=> ?_⟩,⟨⟨A',c', ?_, ?_,λ h0=> ?_⟩, ?_,λ j v hv=> ?_, ?_⟩,hrow⟩
 ·have hlt:k<W.heap.size:=(Array.getElem?_eq_some_iff.1 hko).1
  have e1:=hfW.block k hlt (λ ⟨o',e⟩=>by
   rcases Nat.eq_zero_or_pos pre.length with h0|h0
   ·rw [h3 h0] at e;cases e
   ·obtain⟨vs,ho,_⟩:=h2.ex
    obtain⟨v,hv⟩:∃v,vs[0]? =some v:=⟨_,List.getElem?_eq_getElem (by have:=ho.sl.len;omega)⟩;obtain⟨b',o2,e',hcc⟩:=ho.sl.cell 0 v hv;rw [e] at e';injection e' with e'
    injection e' with e1 _ _
    subst e1;unfold World.cell? at hcc;rw [hko] at hcc
    cases o<;>simp_all [Obj.isCells])
  exact(hfs.block k (by omega) (λ q=>by have q:k=Bp:=q;omega)).trans (e1.trans hko)
 ·rw [List.length_append,List.length_cons,List.length_nil]
  exact hrow2
 ·obtain⟨vs,ho,hrows⟩:=hg.ex
  rw [List.map_append,List.map_cons,List.map_nil,List.length_append,List.length_cons,List.length_nil];refine⟨⟨vs,ho.frE hfs (λ b o e q=> ?_),λ i r hi=> ?_⟩,hg.len,λ b o e=>⟨(hg.own b o e).1,Nat.lt_of_lt_of_le (hg.own b o e).2 hfs.size⟩⟩
  ·have q:b=Bp:=q
   have:=(hg.own b o e).1;omega
  ·obtain⟨A2,c2,q1,q2,q3⟩:=hrows i r hi
   refine⟨A2,c2,q1,q2.fr hfs (λ b o hn e q=> ?_),q3⟩;have q:b=Bp:=q;subst q;obtain⟨u,hu⟩:∃u,r[0]? =some u:=⟨_,List.getElem?_eq_getElem hn⟩;obtain⟨b',o',e',hc⟩:=q2.cell 0 (bv u) (by simp [cells,hu]);rw [e] at e';injection e' with e'
   injection e' with e1 _ _
   subst e1;exact hin hc
 ·rw [List.length_append,List.length_cons] at h0
  omega
 ·exact(h.bel.trans (hfW.below h.bel.size (λ b hb=>by have:=hA b hb;omega))).trans (hfs.below (Nat.le_trans h.bel.size hsz) (λ b hb=>by have hb:b=Bp:=hb;omega))
 ·exact hfs.cell_some (hfW.cell_some (h.area j v hv) (λ q=>by have q:Blk A5 Bn:=q;have:=hA _ q;omega)) (λ q=>hne q)
 ·have:=hfs.size
  have:=h.size;omega
theorem Pc18.own (W0:World)(n3:Nat):OwnFrom n3 (λ x=>Pc18.X x W0):=λ x W W' row h hg hr=>by
 have hr':∀r,row=some r->∃o:Obj,W.heap[r]? =some o∧o.isCells=false:=λ r e=>(hr r e).2
 exact⟨sl_steps18 h.1 hg hr',h.2.1,λ p v hp=>cell_kept (h.2.2 p v hp) hg hr'⟩
theorem run_append_g18 {w:World}{B n c g:Nat}{A:Option Addr}{rs:List (List UInt8)}(h:Gg w B A n c rs)(hB:B<=w.heap.size)(A1:Option Addr)(n1 c1:Nat)(r:List UInt8)(hn1:n1=r.length)(hr:Sl w 1 A1 n1 c1 (cells r))(hoth:Oth A A1 n1)
  (hg:w.heap[g]? =some (.cells #[.slice A1 n1 c1] 105 (0,0)))(h40:n+1<=1048576):
  ∃A' c' w',(Builtin.append_ #[101,101] 101 #[.slice A n c, .slice (some ⟨g,0,none⟩) 1 1]).run Tryz.prog w= .ok (.slice A' (n+1) c') w' ∧Gg w' B A' (n+1) c' (rs ++ [r])∧Fr (Blk A) w w':=by
 subst hn1;have hs:=Gr.one hg hr;obtain⟨i0,hi,hz0,hz1,hz2⟩:=info_parts info_bs;obtain⟨vs,hown,hrs⟩:=h.ex;obtain⟨vs2,hsl2,hrs2⟩:=hs.ex;have hone:=one_slice (rows_slice hsl2 hs.len hrs2);obtain⟨A',c',w',hrun,h2,hfr,hA',hown'⟩:=run_append_fr (P:=Tryz.prog) 101 101 101 i0 (.slice none 0 0) 24 Tryz.underlying101 hi hz0 hz1 hz2 rfl (by decide) hown hB h.own (.slice (some ⟨g,0,none⟩) 1 1) 1 vs2 (hsl2.src Tryz.underlying101 (by decide) hone) (by unfold maxLen;omega) (by omega);refine⟨A',c',w',hrun,⟨⟨vs++vs2,h2,λ i r' hir=> ?_⟩,by rw [List.length_append,h.len,hs.len],hown'⟩,hfr⟩;have hvl:=hown.sl.len;rw [Nat.mul_one] at hvl;have new:∀A'' c'',Sl w 1 A'' r'.length c'' (cells r')->Oth A A'' r'.length->Sl w' 1 A'' r'.length c'' (cells r')∧Oth A' A'' r'.length:=by
  intro A'' c'' hsr hot;refine⟨hsr.oth hfr hot,λ b o o' hn e e' => ?_⟩
  rcases hA' with rfl|rfl
  ·exact hot b o o' hn e e'
  ·injection e' with e'
   injection e' with e' _
   have:=hsr.lt (by decide) hn e;omega
 rcases Nat.lt_or_ge i n with hlt|hge
 ·rw [List.getElem?_append_left (by rw [h.len];exact hlt)] at hir
  obtain⟨A'',c'',e1,e2,e3⟩:=hrs i r' hir;exact⟨A'',c'',by rw [List.getElem?_append_left (by rw [hvl];exact hlt)];exact e1,new A'' c'' e2 e3⟩
 ·rw [List.getElem?_append_right (by rw [h.len];exact hge),h.len] at hir
  obtain⟨A'',c'',e1,e2⟩:=hrs2 (i-n) r' hir;refine⟨A'',c'',by rw [List.getElem?_append_right (by rw [hvl];exact hge),hvl];exact e1,new A'' c'' e2 ?_⟩;have hi2:i-n=0:=by
   rcases Nat.eq_zero_or_pos (i-n) with h' |h'
   ·exact h'
   ·rw [List.getElem?_eq_none (by simp;omega)] at hir
    cases hir
  rw [hi2] at hir e1;injection hir with hir
  subst hir;have hc0:=hsl2.at_ (k:=0) (by decide);obtain⟨b,o',e,hcc⟩:=hc0;injection e with e
  injection e with eb eo
  subst eb;subst eo;have hcell:=hcc 0 _ e1;rw [cell_of_row _ _ _ _ _ _ hg] at hcell;simp at hcell;obtain⟨rfl,_⟩:=hcell;exact hoth
theorem wpListIn_append18 {P:Program}{F:Fence}{n:Nat}{ops:Array Oper}{rest:List Oper}{o:Oper}{a:Act}{Q:Exit->Act->World->Prop}{w w':World}{v1 v2 v:Value}(t:TypeId)(hg:o.guard=none)(s x:Operand)(hop:o.op= .call {callee:= .builtin .append,args:= #[s,x],argTypes:= #[t,t]})
  (hs:a.eval s=v1)(hx:a.eval x=v2)(hrun:(Builtin.append_ #[t,t] o.type #[v1,v2]).run P w= .ok v w')(hk:wpListIn F n P ops Q rest (a.put o.dst v) w'):wpListIn F n P ops Q (o::rest) a w:=by
 refine wpListIn_plain hg λ K hK=> ?_
 unfold Oper.wpIn;refine⟨?_, ?_⟩
 ·simp [Oper.about,hop,resolve,Target.leads,Sem.run_pure]
 ·rw [Oper.semAt_plain F _ _ (by rw [hop];intro c hc';cases hc')]
  simp [execOp,hop,resolve,invoke,builtin,hs,hx,hrun,Result.andThen];exact hK _ _ hk
theorem Rcs.steps18 {W W':World}{n c:Nat}{A:Option Addr}{l:List RvF}{row:Option Nat}(h:Rcs W A n c l)(hg:W.grownBy W' row)(hr:∀r,row=some r->∃o:Obj,W.heap[r]? =some o∧o.isCells=false):Rcs W' A n c l:=
 ⟨h.len,h.cap,h.top,λ i x hx=>by
  obtain⟨b,o,e,h1,h2⟩:=h.cell i x hx;refine⟨b,o,e,λ j u hu=>cell_kept (h1 j u hu) hg hr,h2.len,h2.cap,h2.top,λ i v hv=> ?_⟩;obtain⟨b,o,e,h3,h4⟩:=h2.cell i v hv;exact⟨b,o,e,λ j u hu=>cell_kept (h3 j u hu) hg hr,sl_steps18 h4 hg hr⟩⟩
theorem flat_le18 (M:Nat):∀(l:List (List UInt8)),(∀b∈l,b.length<=M)->l.flatten.length<=l.length*M
 | [],_=>by simp
 |b::r,h=>by
  rw [List.flatten_cons,List.length_append,List.length_cons,Nat.add_mul,Nat.one_mul];have h1:=h b (List.mem_cons_self ..);have h2:=flat_le18 M r λ c hc=>h c (List.mem_cons_of_mem _ hc)
  omega
theorem nm18 (o e i:Nat):Value.agg #[.int .u8 (((2:UInt8).toNat:Nat):Int), .int .i64 ((o+i:Nat):Int), .int .u64 (genN e (i:Int):Int)]=nmV o e i:=rfl
theorem ltexts_any (A C o sl e:Nat)(w:World):Calls Tryz.prog 72 #[.agg (arV A C o sl e).toArray] w λ e' w' =>e' = .returned (.func (.func 112) #[] #[.pointer (some ⟨w.heap.size,0,none⟩)])∧w' =w.alloc (.cells (arV A C o sl e).toArray 82):=by
 unfold arV;go_enter Tryz.func72,Tryz.ntmps72;go_wp2_with fail;go_ret;exact⟨rfl,rfl⟩
section
variable {Rep:World->(Nat->Prop)->Nat->Dv->Prop}{w:World}{S:Nat->Prop}{A C k m F T N o sl e:Nat}{xs:List Dv}{R:List (List UInt8)}
theorem lreplay_any (DK:DrvK Rep)(SV:StrV Rep (λ k n G=>k<=cntG n G))(SL:StrL Rep)(h:Ac13 Rep w S A C k m F T N xs)(h1:1<=sl)(h2:sl<=64)(h3:o+sl<=N)(h4:N<=600)(h5:e<1099511627776)(hg:Got xs k (k+m) N o e sl R):
  Calls Tryz.prog 29 #[.pointer (some ⟨A,0,none⟩), .pointer (some ⟨C,0,none⟩), .int .i64 (o:Int), .int .i64 (sl:Int), .int .u64 (e:Int)] w λ e' w' =>∃A' c' vs,e' = .returned (.tuple #[.slice A' vs.length c', .int .i64 ((repF R).2:Int)])∧Rcs w' A' vs.length c' vs∧vs.map RvF.x=(repF R).1∧Below w.heap.size w w':=by
 have hri:=λ W (hb:Below w.heap.size w W)=>lright_yes DK o sl e (h.later DK hb) h1 h2 h3 h4 h5
 have HRI:=qH hri;have r0:=area_new w A C o sl e;have hb0:Below w.heap.size w (w.alloc (.cells (arV A C o sl e).toArray 82)):=(Below.refl _ _).alloc (Nat.le_refl _) _;obtain⟨wa,hwa⟩:∃x,x=w.alloc (.cells (arV A C o sl e).toArray 82):=⟨_,rfl⟩;rw [<-hwa] at r0 hb0;have B0:=qH hb0;have R0:=qH r0;have HA:=qH hwa;have AC:=qH h;have HG:=qH hg;have H1:=qH h1;have H5:=qH h5;clear h h1 h5 hri r0 hb0 hwa hg;refine callsIn_wide.1 (callsIn_of_wp_marks (F:=Fence.wide) (n:=2) Tryz.func29 rfl trivial (wpIn_wide.2 ?_) rfl);simp only [Tryz.ntmps29,List.size_toArray,List.length_cons,List.length_nil,Nat.reduceAdd,Nat.reduceSub,Array.replicate_succ,Array.replicate_zero,List.push_toArray,List.append_toArray,List.nil_append,List.cons_append];go_wp2_with fail
 have hwa:w.alloc (.cells #[.pointer (some ⟨A,0,none⟩), .pointer (some ⟨C,0,none⟩), .int .i64 (o:Int), .int .i64 (sl:Int), .int .u64 (e:Int)] 82)=wa:=HA.out.symm;rw [hwa];refine(HRI.out wa B0.out).mono ?_;rintro e' w1 ⟨rfl,hb1⟩;have B1:=qH (B0.out.trans (hb1.mono B0.out.size));have R1:=qH (area_later R0.out hb1);have sz:=qH (size_area A C o sl e);clear hb1 hwa;obtain⟨w2,hw2⟩:∃x,x=w1.alloc (.cells #[.slice none 0 0] 101):=⟨_,rfl⟩;have hb2:Below w1.heap.size w1 w2:=by rw [hw2];exact(Below.refl _ _).alloc (Nat.le_refl _) _
 have B2:=qH (B1.out.trans (hb2.mono B1.out.size));have R2:=qH (area_later R1.out hb2);have HW2:=qH hw2;clear hw2 hb2;go_wp2_with (first|(rw [<-HW2.out])|(refine at_dst17 (d:=24) ?_;refine wpList_step17 (o:=⟨some 24,_,_,_,_,_⟩) (by rfl) _ _ (step_loadMid17 rfl rfl R2.out Tryz.underlying82 rfl sz.out) ?_));refine(ltexts_any A C o sl e w2).mono ?_;rintro e' w3 ⟨rfl,hw3⟩;have hb3:Below w2.heap.size w2 w3:=by rw [hw3];exact(Below.refl _ _).alloc (Nat.le_refl _) _
 have R3:=qH (show w3.rangeAt w2.heap.size 0 (arV A C o sl e) from by rw [hw3];exact area_new w2 A C o sl e);have hs2:w2.heap.size=w1.heap.size+1:=by rw [HW2.out];simp
 have hs3:w3.heap.size=w2.heap.size+1:=by rw [hw3];simp
 have P3:=qH (show w3.heap[w1.heap.size]? =some (.cells #[.slice none 0 0] 101 (0,0)) from (hb3.block _ (by omega)).trans (by rw [HW2.out];exact heap_alloc_new w1 _));have B3:=qH (B2.out.trans (hb3.mono B2.out.size));have SZ:=qH (show w.heap.size<=w1.heap.size∧w1.heap.size<w2.heap.size∧w2.heap.size<w3.heap.size from ⟨B1.out.size,by omega,by omega⟩);clear hw3 hb3 hs2 hs3 R2;go_wp2_with fail;refine wp_range18 (α:=Pc18) (Nb:=65) (gf:=112) (lb:= #[.pointer (some ⟨w2.heap.size,0,none⟩)]) rfl (enters_of Tryz.func112 (by kernel_rfl) rfl) (encs:=λ x=> #[.slice x.A x.b.length x.c]) (S:=λ l=>l.map Pc18.b=R) (H:=λ V=>Ac13 Rep V S A C k m F T N xs∧V.rangeAt w2.heap.size 0 (arV A C o sl e)) (X:=Pc18.X)
  ?hit (λ _=>rfl) (In18 w w1.heap.size w2.heap.size w3.heap.size (arV A C o sl e)) (In18.own (by have:=SZ.out;omega) (by have:=SZ.out;omega)) (λ W0=>Pc18.own W0 _) (λ s V hI=>⟨AC.out.later DK hI.bel,hI.area⟩) ?start
  (λ x=>{tmps:= #[.pointer (some ⟨A,0,none⟩), .pointer (some ⟨C,0,none⟩), .int .i64 (o:Int), .int .i64 (sl:Int), .int .u64 (e:Int),undef,undef,undef,undef,undef, .slice none 0 0, .int .i64 0, .pointer (some ⟨w.heap.size,0,none⟩), .pointer (some ⟨w1.heap.size,0,none⟩),(.slice x.A x.b.length x.c), .pointer (some ⟨A,0,none⟩), .pointer (some ⟨C,0,none⟩), .int .i64 (o:Int), .int .i64 (sl:Int), .int .u64 (e:Int), .agg (arV A C o sl e).toArray, .agg (arV A C o sl e).toArray, .bool true, .bool false, .agg (arV A C o sl e).toArray, .func (.func 112) #[] #[.pointer (some ⟨w2.heap.size,0,none⟩)],(.slice x.A x.b.length x.c),undef,undef,undef,undef,undef,undef,undef,undef],defers:= []}) ?assign ?body ?done
 case hit=>
  intro l J W hJ hH hY hJ0;refine texts1_walk (H:=λ V=>Ac13 Rep V S A C k m F T N xs) l J W (by omega) h2 H5.out HG.out.len (λ V i hV hi hle=> ?_) hJ hH hY hJ0
  rcases Nat.lt_or_ge i R.length with hlt|hge
  ·obtain⟨b,hb⟩:∃b,R[i]? =some b:=⟨_,List.getElem?_eq_getElem hlt⟩
   obtain⟨G,g1,g2,g3⟩:=HG.out.yes i b hb;have hc:=SV.get hV g1 (by omega) g2 g3;rw [nm18 o e i] at hc;refine hc.mono ?_;rintro e' V' ⟨A2,n2,c2,he,hn⟩;obtain rfl:n2=b.length:=by have:=hn.1.len;rw [cells_length,Nat.mul_one] at this;exact this.symm
   exact .inl ⟨b,A2,c2,hb,he,hn⟩
  ·obtain rfl:R.length=i:=by omega
   obtain⟨b,G,g1,g2,g3⟩:=HG.out.no hi;have hc:=SL V S A C k m F T N xs 2 _ _ b G hV g1 (by omega) g2 g3;rw [nm18 o e R.length] at hc;refine hc.mono ?_;rintro e' V' ⟨A2,n2,c2,he,hb⟩;exact .inr ⟨rfl,A2,n2,c2,he,hb⟩
 case start=>exact⟨⟨none,0,P3.out,Gg.nil _ _,λ _=>rfl⟩,B3.out,R3.out,Nat.le_refl _⟩
 case assign=>
  intro l x W K hK
  gi_wp2
  exact hK
 case body=>
  rintro l pre x W0 W hpl hi0 hi hx;obtain⟨A5,c5,q1,q2,q3⟩:=hi.row;obtain⟨A6,c6,r1,r2,r3⟩:=hi0.row;have hc0:W.cell? ⟨w1.heap.size,0,none⟩=some (.slice A6 pre.length c6):=hx.2.2 _ _ (by rw [cell_of_row _ _ _ _ _ _ r1];rfl);have hc1:W.cell? ⟨w1.heap.size,0,none⟩=some (.slice A5 pre.length c5):=by rw [cell_of_row _ _ _ _ _ _ q1];rfl
  obtain⟨rfl,rfl⟩:A5=A6∧c5=c6:=by
   rw [hc1] at hc0;injection hc0 with hc0
   injection hc0 with e1 _ e2
   exact⟨e1,e2⟩
  have hoth:Oth A5 x.A x.b.length:=λ b o1 o2 hn e1 e2=>by
   have:=hx.2.1 b o1 hn e1;have:=(r2.own b o2 e2).2;omega
  have hba:Below W.heap.size W (W.alloc (.cells #[(.slice x.A x.b.length x.c)] 105)):=(Below.refl _ _).alloc (Nat.le_refl _) _;obtain⟨A',c',w',hrun,hg',hf'⟩:=run_append_g18 (q2.later hba) (Nat.le_trans hi.size hba.size) x.A x.b.length x.c x.b rfl (hx.1.below hba (Nat.le_refl _)) hoth (heap_alloc_new W _) (by omega);obtain⟨hk,hin,hrow⟩:=In18.next (by have:=SZ.out;omega) (by have:=SZ.out;omega) (by have:=SZ.out;omega) (by have:=SZ.out;omega) hi q1 q2 q3 hg' hf';have KK:=qH hk;have II:=qH hin;have fz:w'.frozen? ⟨w1.heap.size,0,none⟩=false:=frozen_of_row _ _ _ _ _ hrow;have cz:w'.cell? ⟨w1.heap.size,0,none⟩=some (.slice A5 pre.length c5):=by rw [cell_of_row _ _ _ _ _ _ hrow];rfl
  clear hk hin hrow hg' hf' hba hoth hc0 r1 r2 r3 q1 q2 q3 hi hi0 hx
  gi_wp2_with (gi_at_builtin;refine wpListIn_append18 101 rfl _ _ rfl rfl rfl hrun ?_;clear hrun)
  exact⟨KK.out,II.out⟩
 case done=>
  rintro D ys W hD hS hI hK;obtain⟨A5,c5,q1,q2,q3⟩:=hI.row;have hyl:ys.length=R.length:=by rw [<-hS,List.length_map]
  have hc1:W.cell? ⟨w1.heap.size,0,none⟩=some (.slice A5 ys.length c5):=by rw [cell_of_row _ _ _ _ _ _ q1];rfl
  have hgr:=q2.gr;rw [hS] at hgr;have hk2:=AC.out.c.n255;have hm64:=HG.out.len;have hfl:=flat_le18 (44*k) R λ b hb=>by
   obtain⟨i,hi⟩:=List.getElem?_of_mem hb;obtain⟨G,g1,g2,g3⟩:=HG.out.yes i b hi;exact g1.z
  have hfl2:R.flatten.length<=1000000:=by
   have h6:R.length*(44*k)<=64*(44*k):=Nat.mul_le_mul_right _ (by omega);omega
  have hrec:=lrecords_any A5 ys.length c5 R W hgr hfl2 (by omega) (AC.out.later DK hI.bel).nt;have BW:=qH hI.bel;have HK:=qH hK;have HD:=qH (show w.heap.size<=D from by have:=SZ.out;omega);clear q1 q2 q3 hgr hfl hfl2 hk2 hm64 hI hK hD hyl hS;dsimp only;go_wp2_with fail;refine hrec.mono ?_;clear hrec;rintro e' W2 ⟨A',c',vs,rfl,hrc,hmap,hb⟩;have hK2:W2.heap[D]? =some (.deferred (some [])):=(hb.block D (Array.getElem?_eq_some_iff.1 HK.out).1).trans HK.out;have BW2:=qH (BW.out.trans (hb.mono BW.out.size));have RC:=qH hrc;have HM:=qH hmap;have HK2:=qH hK2;clear hrc hmap hb hK2;go_wp2_with fail;refine⟨by simp, .inl ⟨_,_,rfl,run_takeDeferred HK2.out, ?_⟩⟩;refine⟨_,results_tmp2 rfl _ _ _, ?_⟩;have hgb:=grownBy_putObj' W2 D (.deferred none);have hro:∀r,some D=some r->∃o:Obj,W2.heap[r]? =some o∧o.isCells=false:=λ r e=>by
   injection e with e
   subst e;exact⟨_,HK2.out,rfl⟩
  exact⟨A',c',vs,rfl,RC.out.steps18 hgb hro,HM.out,BW2.out.grown hgb BW2.out.size (λ k e=>by injection e with e;have:=HD.out;omega)⟩
end
end
section
open Go.RowKit Go.Proofs
set_option maxRecDepth 20000
set_option maxHeartbeats 3200000
theorem lrefs_any {w:World}{P A C o sl e u:Nat}(h:LgB w P A C o sl e u)(hu:u<=sl)(hs:sl<=64)(ho:o<=600)(he:e<1099511627776):
  Calls Tryz.prog 36 #[.pointer (some ⟨P,0,none⟩)] w λ e' w' =>∃A' c',e' = .returned (.slice A' u c')∧Below w.heap.size w w':=by
 have HM:=qH (lused_any h);have L0:=qH h;have HE:=qH he;have hmk:=make_ref15 (u:Int) u rfl (by omega);obtain⟨w1,hw1⟩:∃x,x=w.alloc (.cells (madeCells (r3c (0,0,0)).toArray (u*3)) 109):=⟨_,rfl⟩;have hb1:Below w.heap.size w w1:=by rw [hw1];exact(Below.refl _ _).alloc (Nat.le_refl _) _
 have hrw:Rw w1 w.heap.size 109 3 u u ((List.replicate u (0,0,0)).flatMap r3c):=by rw [hw1];exact Rw.refs15 w u (by omega)
 have HW:=qH hw1;have B1:=qH hb1;have R1:=qH hrw;have PW:=qH h.lt;clear h he hw1 hb1 hrw;go_enter Tryz.func36,Tryz.ntmps36;go_wp2_with fail;refine HM.out.mono ?_;clear HM;rintro e' w2 ⟨rfl,hw⟩;obtain rfl:w=w2:=hw.symm;go_wp2_with (rw [<-HW.out]);clear hmk;go_loopw [10] (λ iv wr=>∃(i:Nat) (l:List (Int × Int × Int)),iv= .int .i64 (i:Int)∧i<=u∧l.length=u∧Rw wr w.heap.size 109 3 u u (l.flatMap r3c)∧Below w.heap.size w wr) (λ iv _=>u-(intOf iv).toNat)
 case atStart=>exact⟨0,_,rfl,by omega,List.length_replicate ..,R1.out,B1.out⟩
 case round=>
  obtain⟨i,l,rfl,hi,hl,hr,hb⟩:=hrel;have RR:=qH hr;have BB:=qH hb;have HL:=qH hl;have LR:=qH (L0.out.later hb);clear hr hb hl
  by_cases hlt:i<u
  ·have hii:(i:Int)<(u:Int):=by omega
   have HSZ:=qH (size_area A C o sl e);go_wp2_with (refine at_dst17 (d:=18) ?_;refine wpList_step17 (o:=⟨some 18,_,_,_,_,_⟩) (by rfl) _ _ (step_loadMid17 rfl rfl LR.out.area Tryz.underlying82 rfl HSZ.out) ?_);refine(lname_any A C o sl e i ho (by omega) HE.out wr).mono ?_;rintro e' w3 ⟨rfl,hb3⟩;have R3:=qH (RR.out.later hb3);have B3:=qH (BB.out.trans (hb3.mono BB.out.size));have th:=qH (R3.out.there (o:=i*3) (m:=3) (by have:(i+1)*3<=u*3:=Nat.mul_le_mul_right _ hlt;omega));clear hb3;unfold nmV;go_wp2_with (refine at_none ?_;refine wpList_store_mid (op:=⟨none,_,_,_,_,_⟩) rfl 109 (.tmp 21) (.tmp 20) rfl w.heap.size (i*3) (r3c (2,((o+i:Nat):Int),(genN e (i:Int):Int))).toArray rfl rfl th.out (size_r3c _) (all_oneCell_toArray (r3c_one _)) ?_);have hset:=R3.out.refSet HL.out hlt (2,((o+i:Nat):Int),(genN e (i:Int):Int));go_roundw
   case rel=>exact⟨i+1,_,by go_num,by omega,by rw [List.length_set];exact HL.out,hset,B3.out.trans ((Fr.refl (λ b=>b=w.heap.size) w3).setCells _ rfl |>.below B3.out.size (λ b hb=>by have hb:b=w.heap.size:=hb;omega))⟩
   case measure=>simp [intOf];omega
  ·obtain rfl:u=i:=by omega
   go_wp2_with fail;go_ret;exact⟨_,_,rfl,BB.out⟩
theorem len18 {k:Nat}{x:Rec18}(h:okR x.2=true):needN k x=(cut18 k x).length:=by rw [needN,if_pos h,cut18_len]
theorem lgK {Rep:World->(Nat->Prop)->Nat->Dv->Prop}(DK:DrvK Rep)(SV:StrV Rep (λ k n G=>k<=cntG n G))(SL:StrL Rep):LgK Rep LgB where
 fr:=λ h hf hU=>h.fr hf hU
 lt:=λ h=>h.lt
 new:=λ o sl e h h1 h2 h3 h4 h5=>lnew_any DK o sl e h h1 h2 h3 h4 h5
 need:=λ {w S A C k m F T N P o sl e u xs} v h hl hv hf=>by
  by_cases hr:okR v.x.2=true
  ·rw [len18 hr]
   exact lneed_yes v h.c h.nt hl hv hf hr
  ·have hr2:okR v.x.2=false:=by simpa using hr
   rw [needN,if_neg hr];exact lneed_no v h.c h.nt hl hv hf hr2
 left:=λ h hu hs=>lleft_any h hu hs
 used:=λ h hu hs=>(lused_any h).mono λ e' w' ⟨h1,h2⟩=>⟨h1,by rw [h2];exact Below.refl _ _⟩
 epoch:=λ h he=>(lepoch_any h).mono λ e' w' ⟨h1,h2⟩=>⟨h1,by rw [h2];exact Below.refl _ _⟩
 refs:=λ h hu hs ho he=>lrefs_any h hu hs ho he
 append:=λ v h hp hw hS hl hu hs ho hN he hv hf hr hn=>by
  rw [len18 hr] at hn ⊢;exact lappend_yes DK SV v h hp hw hS hl hu hs ho hN he hv hf hr hn
 appendNo:=λ {w S A C k m F T N P o sl e u xs} v h hl hu hs hv hf hn=>by
  by_cases hr:okR v.x.2=true
  ·rw [if_pos hr]
   exact lappend_full DK v h.c h.nt hl hu hs hv hf hr (by
    rw [<-len18 hr];exact Nat.lt_of_not_le λ q=>hn ⟨hr,q⟩)
  ·have hr2:okR v.x.2=false:=by simpa using hr
   rw [if_neg hr];exact lappend_no DK v h.c h.nt hl hu hs hv hf hr2
 replay:=λ o sl e h h1 h2 h3 h4 h5 hg=>lreplay_any DK SV SL h h1 h2 h3 h4 h5 hg
end
section
open Go.RowKit Go.Proofs
section
variable {xs:List Dv}{k n N:Nat}{kd:UInt8}{p g:Nat}{b:List UInt8}{G H:Nat->Bool}
def waitW (k n o e d:Nat):List (List UInt8)->Nat->List (Nat × List UInt8)
 | [],_=> []
 |b::r,u=>(o+u,sec13 k n 2 (o+u) (genN e (u:Int)) b d)::waitW k n o e d r (u+1)
theorem lastW_cons (q:Nat × List UInt8)(l:List (Nat × List UInt8))(i:Nat):Dv.lastW (q::l) i=(match Dv.lastW l i with|some b=>some b|none=>if q.1=i then some q.2 else none):=rfl
theorem kept_out {o e d:Nat}:∀(ps:List (List UInt8)) (u:Nat) (ks:List Bool) (q:Nat),q<o+u∨o+u+ps.length<=q->Dv.lastW (Dv.kept (waitW k n o e d ps u) ks) q=none
 | [],_,ks,_,_=>by cases ks<;>rfl
 |b::r,u, [],_,_=>rfl
 |b::r,u,c::ks,q,h=>by
  rw [List.length_cons] at h;have ih:=kept_out (o:=o) (e:=e) (d:=d) r (u+1) ks q (by omega)
  show Dv.lastW (if c=true then(o+u,_)::Dv.kept (waitW k n o e d r (u+1)) ks else Dv.kept (waitW k n o e d r (u+1)) ks) q=none
  split
  ·rw [lastW_cons,ih]
   exact if_neg (by omega)
  ·exact ih
theorem kept_in {o e d:Nat}:∀(ps:List (List UInt8)) (u:Nat) (ks:List Bool) (i:Nat) (b:List UInt8),ps[i]? =some b->Dv.lastW (Dv.kept (waitW k n o e d ps u) ks) (o+u+i)=if ks.getD i false=true then some (sec13 k n 2 (o+u+i) (genN e ((u+i:Nat):Int)) b d) else none
 | [],_,_,_,_,h=>by simp at h
 |c::r,u, [],i,b,h=>by
  rw [List.getD_eq_getElem?_getD]
  rfl
 |c::r,u,x::ks,0,b,h=>by
  simp at h;subst h;have h0:=kept_out (k:=k) (n:=n) (o:=o) (e:=e) (d:=d) r (u+1) ks (o+u) (by omega)
  show Dv.lastW (if x=true then(o+u,_)::Dv.kept (waitW k n o e d r (u+1)) ks else Dv.kept (waitW k n o e d r (u+1)) ks) (o+u)=_
  rw [List.getD_cons_zero]
  split
  ·rw [lastW_cons,h0]
   exact if_pos rfl
  ·exact h0
 |c::r,u,x::ks,i+1,b,h=>by
  rw [List.getElem?_cons_succ] at h;have ih:=kept_in (o:=o) (e:=e) (d:=d) r (u+1) ks i b h;rw [show o +(u+1)+i=o+u +(i+1) from by omega,show u+1+i=u +(i+1) from by omega] at ih
  show Dv.lastW (if x=true then(o+u,_)::Dv.kept (waitW k n o e d r (u+1)) ks else Dv.kept (waitW k n o e d r (u+1)) ks) (o+u +(i+1))=_
  rw [List.getD_cons_succ]
  split
  ·rw [lastW_cons,ih]
   by_cases hb:ks.getD i false=true
   ·rw [if_pos hb]
   ·rw [if_neg hb]
    exact if_neg (by omega)
  ·exact ih
variable {f:Nat->Option (Nat × List UInt8)}
theorem puts_wait {o e:Nat}(hk:1<=k)(hk2:k<=1000)(hN:N<=65536):∀(ps:List (List UInt8)) (u:Nat) (xs:List Dv),xs.length=n->o+u+ps.length<=N->(∀b∈ps,b.length<=44*k)->∀(d:Nat) (x:Dv),xs[d]? =some x->x.n=N->x.gone=false->
  (putsS k n o e ps u xs)[d]? =some ⟨x.st,x.rot,x.wait++waitW k n o e d ps u,x.gone⟩
 | [],_,_,_,_,_,d,x,hx,_,_=>by rw [putsS,waitW,List.append_nil];exact hx
 |b::r,u,xs,hl,hn,hb,d,x,hx,h2,h3=>by
  rw [List.length_cons] at hn;have hr:=ref18 (k:=k) (p:=o+u) (g:=genN e (u:Int)) (z:=b.length) (by omega) (genN_lt _ _) (hb b (List.mem_cons_self ..)) hk2;have hw:=Dv.write_yes h3 (has_of h2 (show o+u<N by omega)) (sec13_len (n:=n) (b:=b) (d:=d) hk hr);have hx2:(putAll k n 2 (o+u) (genN e (u:Int)) b xs)[d]? =some ⟨x.st,x.rot,x.wait ++ [(o+u,sec13 k n 2 (o+u) (genN e (u:Int)) b d)],x.gone⟩:=by
   rw [putAll,upTo_at hx,if_pos (by have:=get_lt hx;omega),hw,Int.toNat_natCast]
  have ih:=puts_wait (o:=o) (e:=e) hk hk2 hN r (u+1) _ (by rw [putAll_len];exact hl) (by omega) (λ c hc=>hb c (List.mem_cons_of_mem _ hc)) d _ hx2 h2 h3;rw [putsS,ih,waitW,List.append_assoc]
  rfl
theorem crash_at {o e u d:Nat}{ps:List (List UInt8)}{kss:List (List Bool)}(hk:1<=k)(hk2:k<=1000)(hN:N<=65536)(h:Pls xs k n N f)(hi:Idle xs)(hn:o+u+ps.length<=N)(hb:∀b∈ps,b.length<=44*k){y:Dv}(hy:(crashS (putsS k n o e ps u xs) kss n)[d]? =some y):
  ∃x,xs[d]? =some x∧y.Ok∧y.n=N∧y.gone=false∧∀q,q<N->y.look q=(Dv.lastW (Dv.kept (waitW k n o e d ps u) (kss.getD d [])) q).getD (x.look q):=by
 have hd:=get_lt hy;rw [crashS_len,putsS_len] at hd;have hx:xs[d]? =some (xs[d]):=List.getElem?_eq_getElem hd;obtain⟨h1,h2,h3⟩:=h.live d _ hx;have hwt:=hi d _ hx;have hp:=puts_wait (e:=e) hk hk2 hN ps u xs h.len hn hb d _ hx h2 h3;have hok:(⟨(xs[d]).st,(xs[d]).rot,(xs[d]).wait++waitW k n o e d ps u,(xs[d]).gone⟩:Dv).Ok:=by
  have hpl:=(Pls.puts (o:=o) (e:=e) hk hk2 hN ps u xs f h hn hb).live d _ hp;exact hpl.1
 rw [crashS,upTo_at hp,if_pos (by have:=h.len;omega)] at hy;injection hy with hy
 refine⟨_,hx,by rw [<-hy];exact hok.crash _,by rw [<-hy,Dv.crash_n];exact h2,by rw [<-hy,Dv.crash_gone];exact h3,λ q hq=> ?_⟩;rw [<-hy,Dv.crash_look hok h3 _ (by show q<(xs[d]).n;omega)]
 show (Dv.lastW (Dv.kept ((xs[d]).wait++waitW k n o e d ps u) (kss.getD d [])) q).getD ((xs[d]).st.getD q [])=_
 rw [hwt,List.nil_append,show (xs[d]).look q=(xs[d]).st.getD q [] from by rw [Dv.look,hwt];rfl]
theorem crash_aside18 {o e u:Nat}{ps:List (List UInt8)}{kss:List (List Bool)}(hk:1<=k)(hk2:k<=1000)(hN:N<=65536)(h:Pls xs k n N f)(hi:Idle xs)(hn:o+u+ps.length<=N)(hb:∀b∈ps,b.length<=44*k)(hs:Str xs k n N kd p g b G)(hp:p<N)(hq:p<o+u∨o+u+ps.length<=p):
  Str (crashS (putsS k n o e ps u xs) kss n) k n N kd p g b G:=⟨by rw [crashS_len,putsS_len,hs.len],λ d y hy=>by
 obtain⟨x,hx,h1,h2,h3,h4⟩:=crash_at hk hk2 hN h hi hn hb hy;have hi:=hs.at_ d x hx;have hl:=h4 p hp;rw [kept_out ps u _ p hq] at hl;have hl:y.look p=x.look p:=hl;refine⟨h1,h2,λ e=>⟨h3,by rw [hl];exact(hi.yes e).2⟩,λ e=> .inr ?_⟩
 rcases hi.no e with q|q
 ·rw [(h.live d x hx).2.2] at q;cases q
 ·rw [hl];exact q⟩
theorem crash_in18 {o e u i:Nat}{ps:List (List UInt8)}{kss:List (List Bool)}(hk:1<=k)(hk2:k<=1000)(hN:N<=65536)(h:Pls xs k n N f)(hi:Idle xs)(hn:o+u+ps.length<=N)(hb:∀b∈ps,b.length<=44*k)(hpi:ps[i]? =some b)(hs:Str xs k n N 2 (o+u+i) (genN e ((u+i:Nat):Int)) b (λ _=>false)):
  Str (crashS (putsS k n o e ps u xs) kss n) k n N 2 (o+u+i) (genN e ((u+i:Nat):Int)) b (λ d=>(kss.getD d []).getD i false):=⟨by rw [crashS_len,putsS_len,hs.len],λ d y hy=>by
 obtain⟨x,hx,h1,h2,h3,h4⟩:=crash_at hk hk2 hN h hi hn hb hy;have hlt:=get_lt hpi;have hl:=h4 (o+u+i) (by omega);rw [kept_in ps u _ i b hpi] at hl;refine⟨h1,h2,λ e=>⟨h3, ?_⟩,λ e=> .inr ?_⟩
 ·have e:(kss.getD d []).getD i false=true:=e
  rw [if_pos e] at hl;exact hl
 ·have e:(kss.getD d []).getD i false=false:=e
  rw [if_neg (by rw [e];decide)] at hl;have hl:y.look (o+u+i)=x.look (o+u+i):=hl
  rcases(hs.at_ d x hx).no rfl with q|q
  ·rw [(h.live d x hx).2.2] at q;cases q
  ·rw [hl];exact q⟩
end
end
section
open Go.RowKit Go.Proofs
set_option maxRecDepth 20000
set_option maxHeartbeats 1600000
def oneC18:ChF:=⟨⟨#[97]⟩,true, [],0,0⟩
theorem size_rec2 (x y:Value):(Tryz.prog.info? 42).map (·.size)=some (#[x,y]:Array Value).size:=by show _=some 2;kernel_rfl
theorem one18_any (st:Nat)(w:World):Calls Tryz.prog 42 #[.int .u64 (st:Int)] w λ e w' =>∃v:RvF,e= .returned (.agg v.vals.toArray)∧v.Ok w' ∧v.x=(st, [oneC18])∧Below w.heap.size w w':=by
 obtain⟨w1,hw1⟩:∃x,x=w.alloc (.cells #[.int .u64 0, .slice none 0 0] 42):=⟨_,rfl⟩;have hb1:Below w.heap.size w (w.alloc (.cells #[.int .u64 0, .slice none 0 0] 42)):=(Below.refl _ _).alloc (Nat.le_refl _) _;have hx1:=heap_alloc_new w (.cells #[.int .u64 0, .slice none 0 0] 42);have hs1:(w.alloc (.cells #[.int .u64 0, .slice none 0 0] 42)).heap.size=w.heap.size+1:=by simp
 have HW1:=qH hw1;rw [<-hw1] at hb1 hx1 hs1;obtain⟨vc,hvc⟩:∃v:CvF,v=⟨oneC18,none,0⟩:=⟨_,rfl⟩;have hx2:CvB (w1.alloc (.cells vc.vals.toArray 144)) w1.heap.size vc:=CvB.new;have hb2:Below w1.heap.size w1 (w1.alloc (.cells vc.vals.toArray 144)):=(Below.refl _ _).alloc (Nat.le_refl _) _;obtain⟨w2,hw2⟩:∃x,x=w1.alloc (.cells vc.vals.toArray 144):=⟨_,rfl⟩;have HW2:=qH (show w2=w1.alloc (.cells #[.string ⟨#[97]⟩, .bool true, .slice none 0 0, .int .u64 0, .int .i64 0] 144) from by rw [hw2,hvc];rfl);rw [<-hw2] at hx2 hb2;rw [hs1] at hx2;have hx12:=(hb2.block _ (block_lt hx1)).trans hx1;have B2:=qH (hb1.trans (hb2.mono hb1.size));have X2:=qH hx2;have HZ:=qH (size_rec2 (.int .u64 (st:Int)) (.slice (some ⟨w.heap.size+1,0,none⟩) 1 1))
 have ho:(#[.int .u64 (st:Int), .slice (some ⟨w.heap.size+1,0,none⟩) 1 1]:Array Value).all (·.oneCell')=true:=all_oneCell_toArray (cs:= [.int .u64 (st:Int), .slice (some ⟨w.heap.size+1,0,none⟩) 1 1]) (λ u hu=>by simp only [List.mem_cons,List.not_mem_nil,or_false] at hu;rcases hu with rfl|rfl<;>rfl);have HO:=qH ho;have XR:=qH hx12;have HS:=qH hs1;have HV:=qH hvc;clear hw1 hb1 hx1 hw2 hb2 hx2 hx12 ho hvc;go_enter Tryz.func42,Tryz.ntmps42;go_wp2_with (first|(rw [<-HW1.out])|(rw [<-HW2.out])|(refine at_none17 ?_;refine wpList_store_row (o:=⟨none,_,_,_,_,_⟩) rfl 42 (.tmp 2) (.tmp 6) rfl w.heap.size #[.int .u64 (st:Int), .slice (some ⟨w.heap.size+1,0,none⟩) 1 1] rfl rfl 42 _ XR.out HZ.out rfl HO.out ?_));have hrow:=setRow_heap w2 w.heap.size _ #[.int .u64 (st:Int), .slice (some ⟨w.heap.size+1,0,none⟩) 1 1] _ _ XR.out
 have hfr:Fr (λ k=>k=w.heap.size) w2 (w2.setRow w.heap.size #[.int .u64 (st:Int), .slice (some ⟨w.heap.size+1,0,none⟩) 1 1]):=Fr.setRow17 (S:=λ k=>k=w.heap.size) (Fr.refl _ _) (.inr rfl) _;have hbel:=B2.out.trans (hfr.below B2.out.size (λ b hb=>by have hb:b=w.heap.size:=hb;omega));have hcv:=X2.out.fr hfr (by show ¬w.heap.size+1=w.heap.size;omega);refine bodyPost_ret (results_cell_row Tryz.results42 _ _ w.heap.size 42 _ (0,0) _ rfl hrow Tryz.underlying42 rfl HZ.out) rfl ?_;have hv:=HV.out;refine⟨⟨st,some ⟨w.heap.size+1,0,none⟩,1, [vc]⟩,rfl,⟨rfl,Nat.le_refl _,(show 1<=maxLen by decide),λ i x hx=> ?_⟩,by rw [RvF.x,hv];rfl,hbel⟩
 match i,hx with
 |0,hx=>
  simp at hx;subst hx;refine⟨w.heap.size+1,0,rfl,λ j u hu=> ?_,by rw [hv];exact Sl.nil _ _ _ (by decide)⟩;rw [cell_of_row _ _ _ _ _ _ hcv]
  simpa using hu
 |i+1,hx=>simp at hx
def Logs18:Prop:=∀(w:World),Nt w->Calls Tryz.prog 10 #[] w (SaysTrue w)
end
section
open Go.RowKit Go.Proofs
set_option maxRecDepth 20000
set_option maxHeartbeats 3200000
theorem one_ok18:okR [oneC18]=true:=by kernel_rfl
theorem one_need18 {st:Nat}(h:(txt18 (st, [oneC18])).length=5):needN 1 (st, [oneC18])=1:=by
 rw [needN,if_pos one_ok18,h]
 rfl
theorem one_fit18 {v:RvF}{st:Nat}(h:v.x=(st, [oneC18]))(hs:st<18446744073709551616):v.fit:=by
 have h1:v.st=st:=congrArg Prod.fst h;have h2:v.cs.map CvF.x= [oneC18]:=congrArg Prod.snd h;refine⟨by rw [h1];exact hs,λ c hc=> ?_⟩;have h3:c.x∈v.cs.map CvF.x:=List.mem_map_of_mem hc;rw [h2,List.mem_singleton] at h3;rw [h3]
 decide
theorem one_right18 {v:RvF}{st:Nat}(h:v.x=(st, [oneC18]))(hs:st<18446744073709551616):ok18 v.x:=by
 rw [h];exact⟨hs,one_ok18,λ c hc=>by rw [List.mem_singleton] at hc;rw [hc];decide⟩
section
variable {Rep:World->(Nat->Prop)->Nat->Dv->Prop}{Lg:World->Nat->Nat->Nat->Nat->Nat->Nat->Nat->Prop}
theorem Lc13.copied18 {w0 w w':World}{S:Nat->Prop}{A C k m F T N:Nat}{xs:List Dv}{e:Ending}(h:Lc13 Rep w0 w S A C k m F T N xs)(hr:RetNewP Rep xs w e w'):∃Az Sz,e= .returned (.pointer (some ⟨Az,0,none⟩))∧Lc13 Rep w0 w' Sz Az C k m F T N xs∧Below w.heap.size w w' ∧∀b,Sz b->w.heap.size<=b:=by
 obtain⟨Az,Sz,he,ha,hb,hS⟩:=hr;have hC:C<w.heap.size:=block_lt h.ac.c.row;have hF:F<w.heap.size:=World.block_lt_of_cell? w _ h.ac.c.fld.cell;have hT:T<w.heap.size:=h.ac.c.fld.fld.ltT;have hG:=h.ac.nt.lt13;refine⟨Az,Sz,he,⟨⟨ha,h.ac.c.later hb,⟨λ q=> ?_,λ q=> ?_,λ q=> ?_⟩,h.ac.len,h.ac.n,h.ac.wl,h.ac.nt.keep hb,λ q=> ?_⟩,λ b q=> ?_,h.bel.trans (hb.mono h.bel.size)⟩,hb,hS⟩
 ·have:=hS _ q;omega
 ·have:=hS _ q;omega
 ·have:=hS _ q;omega
 ·have:=hS _ q;omega
 ·have:=hS _ q;have:=h.bel.size;omega
theorem logs18_any (DK:DrvK Rep)(LK:LgK Rep Lg)(w:World)(hN:Nt w):Calls Tryz.prog 10 #[] w (SaysTrue w):=by
 have HN:=qH hN;clear hN;go_enter Tryz.func10,Tryz.ntmps10;go_wp2_with fail;refine(made13_any DK 1 1 8 (by decide) (by decide) (by decide) (by decide) (by decide) w).mono ?_;intro e' w1 hm;obtain⟨A,S1,C,F,T,rfl,hL,hS1,hb1⟩:=Lc13.made hm (Below.refl _ _) HN.out;have L1:=qH hL;clear hm hL hS1 hb1;have hnew:=LK.new 2 4 5 L1.out.ac (by decide) (by decide) (by decide) (by decide) (by decide);go_wp2_with fail;refine hnew.mono ?_;clear hnew;rintro e' w2 ⟨P,rfl,hP,hlg,hb2⟩;have hlo2:Lo18 Rep Lg w w2 S1 A C 1 1 F T 8 (List.replicate (1+1) (Dv.new 8)) P 2 4 5 0:=⟨L1.out.later DK hb2,hlg,λ q=>by have:=L1.out.ac.a.old q;omega,Nat.le_trans L1.out.bel.size hP⟩;have LO2:=qH hlo2;clear hlo2 hlg hb2 hP;go_wp2_with fail;refine(one18_any 1 w2).mono ?_;rintro e' w3 ⟨v1,rfl,hv1,hx1,hb3⟩;have LO3:=qH (LO2.out.later DK LK hb3);obtain⟨xs0,hxs0⟩:∃xs,xs=List.replicate (1+1) (Dv.new 8):=⟨_,rfl⟩
 have hpl0:Pls xs0 1 (1+1) 8 (λ _=>none):=by rw [hxs0];exact Pls.new
 have hid0:Idle xs0:=by rw [hxs0];exact Idle.new
 rw [<-hxs0] at LO3;have hn1:needN 1 v1.x=1:=by rw [hx1];exact one_need18 (by decide)
 have hk1:okR v1.x.2=true:=by rw [hx1];exact one_ok18
 have happ:=LK.append v1 LO3.out.lc.ac hpl0 (hid0.wl0.mono13 (show 0<=900 by decide)) LO3.out.ns LO3.out.lg (by decide) (by decide) (by decide) (by decide) (by decide) hv1 (one_fit18 hx1 (by decide)) hk1 (by rw [hn1];decide);have PL0:=qH hpl0;have ID0:=qH hid0;have HX1:=qH hx1;have HN1:=qH hn1;clear hxs0 hpl0 hid0 hv1 hx1 hn1 hk1 hb3;go_wp2_with fail;refine happ.mono ?_;clear happ;rintro e' w4 ⟨rfl,S4,hac4,hnx4,hns4,hlg4⟩;have hlo4:=LO3.out.both hac4 hnx4 hns4 hlg4;rw [HN1.out] at hlo4;obtain⟨q1,hq1⟩:∃q,q=cut18 1 v1.x:=⟨_,rfl⟩;have hql1:q1.length=1:=by rw [hq1,cut18_len,HX1.out];decide
 have hqs1:∀b∈q1,b.length<=44*1:=by rw [hq1];exact cut18_short (by decide) _
 rw [<-hq1] at hlo4;obtain⟨xs4,hxs4⟩:∃xs,xs=putsS 1 (1+1) 2 5 q1 0 xs0:=⟨_,rfl⟩;obtain⟨f4,hf4⟩:∃f,f=putsF 2 5 q1 0 (λ _=>none):=⟨_,rfl⟩;have hpl4:=Pls.puts (o:=2) (e:=5) (by decide) (by decide) (by decide) q1 0 xs0 _ PL0.out (by rw [hql1];decide) hqs1;rw [<-hxs4] at hlo4 hpl4;rw [<-hf4] at hpl4;have hwl4:=hlo4.lc.ac.wl;have LO4:=qH hlo4;have PL4:=qH hpl4;have HF4:=qH hf4;have HQ1:=qH (show q1=cut18 1 v1.x∧q1.length=1 from ⟨hq1,hql1⟩);clear hac4 hnx4 hns4 hlg4 hlo4 hpl4 hxs4 hf4 hq1 hql1 hqs1;have hxl4:xs4.length=1+1:=LO4.out.lc.ac.len;have hfl:=arflush_any DK LO4.out.lc.ac.a (hwl4.mono13 (show 1000<=100000 by decide)) (by rw [hxl4];decide);rw [flushN_all (λ d x hx=>(PL4.out.live d x hx).2.2),hxl4] at hfl;go_wp2_with fail;refine hfl.mono ?_;clear hfl;rintro e' w5 ⟨rfl,hm5⟩;have hpl5:=PL4.out.flush;have hid5:=flushS_idle (n:=1+1) hxl4 (λ d x hx=>(PL4.out.live d x hx).1)
 obtain⟨S5,hlo5,_⟩:=LO4.out.turn LK hm5 flushS_len (λ d x hx=>⟨(hpl5.live d x hx).1,(hpl5.live d x hx).2.1⟩) hid5.wl0;obtain⟨xs5,hxs5⟩:∃xs,xs=flushS xs4 (1+1):=⟨_,rfl⟩;rw [<-hxs5] at hpl5 hid5 hlo5;have LO5:=qH hlo5;have PL5:=qH hpl5;have ID5:=qH hid5;clear hm5 hpl5 hid5 hlo5 hxs5 hxl4 hwl4;go_wp2_with fail;refine(one18_any 2 w5).mono ?_;rintro e' w6 ⟨v2,rfl,hv2,hx2,hb6⟩;have LO6:=qH (LO5.out.later DK LK hb6);have hn2:needN 1 v2.x=1:=by rw [hx2];exact one_need18 (by decide)
 have hk2:okR v2.x.2=true:=by rw [hx2];exact one_ok18
 have happ:=LK.append v2 LO6.out.lc.ac PL5.out (ID5.out.wl0.mono13 (show 0<=900 by decide)) LO6.out.ns LO6.out.lg (by decide) (by decide) (by decide) (by decide) (by decide) hv2 (one_fit18 hx2 (by decide)) hk2 (by rw [hn2];decide);have HX2:=qH hx2;have HN2:=qH hn2;clear hv2 hx2 hn2 hk2 hb6;go_wp2_with fail;refine happ.mono ?_;clear happ;rintro e' w7 ⟨rfl,S7,hac7,hnx7,hns7,hlg7⟩;have hlo7:=LO6.out.both hac7 hnx7 hns7 hlg7;rw [HN2.out] at hlo7;obtain⟨q2,hq2⟩:∃q,q=cut18 1 v2.x:=⟨_,rfl⟩;have hql2:q2.length=1:=by rw [hq2,cut18_len,HX2.out];decide
 have hqs2:∀b∈q2,b.length<=44*1:=by rw [hq2];exact cut18_short (by decide) _
 rw [<-hq2] at hlo7;have hpl7:=Pls.puts (o:=2) (e:=5) (by decide) (by decide) (by decide) q2 (0+1) xs5 f4 PL5.out (by rw [hql2];decide) hqs2;obtain⟨xs7,hxs7⟩:∃xs,xs=putsS 1 (1+1) 2 5 q2 (0+1) xs5:=⟨_,rfl⟩;obtain⟨f7,hf7⟩:∃f,f=putsF 2 5 q2 (0+1) f4:=⟨_,rfl⟩;rw [<-hxs7] at hlo7 hpl7;rw [<-hf7] at hpl7;have LO7:=qH hlo7;have PL7:=qH hpl7;have HQ2:=qH (show q2=cut18 1 v2.x∧q2.length=1∧∀b∈q2,b.length<=44*1 from ⟨hq2,hql2,hqs2⟩);have HXS7:=qH hxs7;have HF7:=qH hf7;clear hac7 hnx7 hns7 hlg7 hlo7 hpl7 hxs7 hf7 hq2 hql2 hqs2;have hxl7:xs7.length=1+1:=LO7.out.lc.ac.len;have hcp:=arcopy_any DK LO7.out.lc.ac.a (LO7.out.lc.ac.wl.mono13 (show 1000<=100000 by decide)) (by rw [hxl7];decide);go_wp2_with fail;refine hcp.mono ?_;clear hcp;intro e' w8 hc8;obtain⟨B,SB,rfl,hLB,hb8,hSB⟩:=LO7.out.lc.copied18 hc8;have LO8:=qH (LO7.out.later DK LK hb8);have LB8:=qH hLB
 have DJ8:=qH (show ∀b,SB b->¬S7 b from λ b hb q=>by have:=hSB b hb;have:=LO7.out.lc.ac.a.old q;omega);clear hc8 hLB hb8 hSB;have hcr:=arcrash_any DK LO8.out.lc.ac.a (LO8.out.lc.ac.wl.mono13 (show 1000<=100000 by decide)) (by rw [hxl7];decide) (Ns.nil w8 (λ _=>False) 0 (by decide)) (λ b h=>h.elim);rw [hxl7] at hcr;have hcat:=λ d y hy=>crash_at (kss:= []) (o:=2) (e:=5) (u:=0+1) (k:=1) (n:=1+1) (N:=8) (f:=f4) (xs:=xs5) (ps:=q2) (by decide) (by decide) (by decide) PL5.out ID5.out (by rw [HQ2.out.2.1];decide) HQ2.out.2.2 (d:=d) (y:=y) hy
 rw [<-HXS7.out] at hcat;go_wp2_with fail;refine hcr.mono ?_;clear hcr;rintro e' w9 ⟨rfl,hm9⟩;obtain⟨S9,hlo9,hnx9⟩:=LO8.out.turn LK hm9 crashS_len (λ d x hx=>by obtain⟨_,_,h1,h2,_⟩:=hcat d x hx;exact⟨h1,h2⟩) (crashS_idle hxl7).wl0;have LO9:=qH hlo9;have ap7:=LO8.out.lc.ac.ap;have LB9:=qH (LB8.out.aside18 DK hnx9.1 DJ8.out ap7.c ap7.f ap7.t LO8.out.lc.ac.ng hlo9.lc.bel);have hgA:Got (crashS xs7 [] (1+1)) 1 (1+1) 8 2 5 4 q1:=by
  have hc0:=λ (g:Nat) (b:List UInt8) (G:Nat->Bool) (p:Nat) (hs:Str xs5 1 (1+1) 8 2 p g b G) (hp:p<8) (hq:p<2 +(0+1)∨2 +(0+1)+q2.length<=p)=>crash_aside18 (kss:= []) (o:=2) (e:=5) (u:=0+1) (f:=f4) (by decide) (by decide) (by decide) PL5.out ID5.out (by rw [HQ2.out.2.1];decide) HQ2.out.2.2 hs hp hq
  rw [<-HXS7.out] at hc0;refine⟨by rw [HQ1.out.2];decide,λ i b hb=> ?_,λ _=> ?_⟩
  ·have hi:i=0:=by have:=get_lt hb;have:=HQ1.out.2;omega
   subst hi;have hf:f4 (2+0)=some (genN 5 ((0:Nat):Int),b):=by rw [HF4.out];exact putsF_in (o:=2) (e:=5) q1 0 (λ _=>none) 0 b hb
   obtain⟨h1,h2⟩:=PL5.out.yes (2+0) _ b (by decide) hf;exact⟨_,h1,hc0 _ _ _ _ h2 (by decide) (.inl (by decide)),by rw [cntG_all (λ _ _=>rfl)];decide⟩
  ·rw [HQ1.out.2]
   obtain⟨b,hb⟩:∃b,q2[0]? =some b:=⟨_,List.getElem?_eq_getElem (by rw [HQ2.out.2.1];decide)⟩;have hno:Str xs5 1 (1+1) 8 2 (2 +(0+1)+0) (genN 5 ((0+1+0:Nat):Int)) b (λ _=>false):=PL5.out.none_at (by decide) (by decide) (λ b' hh=>by
    rw [HF4.out,putsF_out _ _ _ _ (.inr (by rw [HQ1.out.2];decide))] at hh
    cases hh)
   have h2:=crash_in18 (kss:= []) (o:=2) (e:=5) (u:=0+1) (f:=f4) (by decide) (by decide) (by decide) PL5.out ID5.out (by rw [HQ2.out.2.1];decide) HQ2.out.2.2 hb hno;rw [<-HXS7.out] at h2;exact⟨b,_,ref18 (by decide) (genN_lt _ _) (HQ2.out.2.2 b (List.mem_of_getElem? hb)) (by decide),h2,by decide⟩
 have hfq1:∀(i:Nat) (b:List UInt8),(q1++q2)[i]? =some b->f7 (2+i)=some (genN 5 (i:Int),b):=λ i b hb=>by
  have hi:=get_lt hb;rw [List.length_append,HQ1.out.2,HQ2.out.2.1] at hi
  rcases(show i=0∨i=1 by omega) with rfl|rfl
  ·rw [List.getElem?_append_left (by rw [HQ1.out.2];decide)] at hb
   rw [HF7.out,putsF_out _ _ _ _ (.inl (by decide)),HF4.out];exact putsF_in (o:=2) (e:=5) q1 0 (λ _=>none) 0 b hb
  ·rw [List.getElem?_append_right (by rw [HQ1.out.2];decide),HQ1.out.2] at hb
   rw [HF7.out];exact putsF_in (o:=2) (e:=5) q2 (0+1) f4 0 b hb
 have hlq:(q1++q2).length=2:=by rw [List.length_append,HQ1.out.2,HQ2.out.2.1]
 have hgB:Got xs7 1 (1+1) 8 2 5 4 (q1++q2):=PL7.out.got (by decide) (by decide) (by decide) (by decide) (by decide) (by rw [hlq];decide) hfq1 (λ _ b hh=>by
  rw [hlq,HF7.out,putsF_out _ _ _ _ (.inr (by rw [HQ2.out.2.1];decide)),HF4.out,putsF_out _ _ _ _ (.inr (by rw [HQ1.out.2];decide))] at hh
  cases hh)
 have hgC:Got xs7 1 (1+1) 8 2 6 4 []:=PL7.out.got (by decide) (by decide) (by decide) (by decide) (by decide) (Nat.zero_le _) (λ i b hb=>by simp at hb) (λ _ b hh=>by
  obtain⟨b0,hb0⟩:∃b0,(q1++q2)[0]? =some b0:=⟨_,List.getElem?_eq_getElem (by rw [hlq];decide)⟩;have h1:=hfq1 0 b0 hb0;have hh:f7 (2+0)=some (genN 6 ((0:Nat):Int),b):=hh;rw [h1] at hh;injection hh with hh
  injection hh with hh _
  exact gen_apart (e:=5) (e':=6) (i:=0) (by decide) (by decide) (by decide) (by decide) hh)
 have hrA:repF q1=([v1.x],1):=by
  have h:=repF_cut18 (k:=1) (by decide) (by decide) [v1.x] (λ x hx=>by rw [List.mem_singleton] at hx;rw [hx];exact one_right18 HX1.out (by decide));have e: [v1.x].flatMap (cut18 1)=q1:=by rw [HQ1.out.1];simp
  rw [e,HQ1.out.2] at h;exact h
 have hrB:repF (q1++q2)=([v1.x,v2.x],2):=by
  have h:=repF_cut18 (k:=1) (by decide) (by decide) [v1.x,v2.x] (λ x hx=>by
   simp only [List.mem_cons,List.not_mem_nil,or_false] at hx
   rcases hx with hx|hx
   ·rw [hx];exact one_right18 HX1.out (by decide)
   ·rw [hx];exact one_right18 HX2.out (by decide))
  have e: [v1.x,v2.x].flatMap (cut18 1)=q1++q2:=by rw [HQ1.out.1,HQ2.out.1];simp
  rw [e,hlq] at h;exact h
 have hr1:=LK.replay 2 4 5 LO9.out.lc.ac (by decide) (by decide) (by decide) (by decide) (by decide) hgA;rw [hrA] at hr1;have GB:=qH hgB;have GC:=qH hgC;have HRB:=qH hrB;clear hm9 hlo9 hnx9 ap7 hcat hgA hgB hgC hrA hrB hfq1 hlq hxl7;go_wp2_with fail;refine hr1.mono ?_;clear hr1;rintro e' w10 ⟨A10,c10,r10,rfl,hrc10,hvx10,hb10⟩;have LO10:=qH (LO9.out.later DK LK hb10);have LB10:=qH (LB9.out.later DK hb10);have RC10:=qH hrc10;have HV10:=qH hvx10;clear hrc10 hvx10 hb10;have hr2:=LK.replay 2 4 5 LB10.out.ac (by decide) (by decide) (by decide) (by decide) (by decide) GB.out;rw [HRB.out] at hr2;go_wp2_with fail;refine hr2.mono ?_;clear hr2;rintro e' w11 ⟨A11,c11,r11,rfl,hrc11,hvx11,hb11⟩;have LO11:=qH (LO10.out.later DK LK hb11);have LB11:=qH (LB10.out.later DK hb11);have RC11:=qH (RC10.out.below hb11);have HL11:=qH (show r11.length=2 from by have:=congrArg List.length hvx11;simpa using this)
 clear hrc11 hvx11 hb11;have hr3:=LK.replay 2 4 6 LB11.out.ac (by decide) (by decide) (by decide) (by decide) (by decide) GC.out;rw [show repF []=([],0) from rfl] at hr3;go_wp2_with fail;refine hr3.mono ?_;clear hr3;rintro e' w12 ⟨A12,c12,r12,rfl,hrc12,hvx12,hb12⟩;have LO12:=qH (LO11.out.later DK LK hb12);have RC12:=qH (RC11.out.below hb12);have HL12:=qH (show r12.length=0 from by have:=congrArg List.length hvx12;simpa using this);clear hrc12 hvx12 hb12;obtain⟨y,hy⟩:∃y,r10= [y]:=by
  have:=congrArg List.length HV10.out;simp only [List.length_map,List.length_singleton] at this;exact List.length_eq_one_iff.1 this
 subst hy;have hyx:y.x=v1.x:=by have:=HV10.out;simpa using this
 have hys:y.st=1:=by
  have h1:=congrArg Prod.fst hyx;rw [HX1.out] at h1;exact h1
 obtain⟨bx,ox,hAx,hcx,_⟩:=RC12.out.cell 0 y rfl;have hc0:=hcx 0 _ rfl;rw [hys] at hc0;subst hAx;rw [Nat.zero_mul,Nat.add_zero] at hc0;have hl1: [y].length=1:=rfl;rw [HL11.out,HL12.out,hl1];have hus:=LK.used LO12.out.lg (by decide) (by decide);clear hcx hyx hys hl1;go_wp2_with fail;refine hus.mono ?_;clear hus;rintro e' w13 ⟨rfl,hb13⟩;have LO13:=qH (LO12.out.later DK LK hb13);have hlf:=LK.left LO13.out.lg (by decide) (by decide);clear hb13 hc0;go_wp2_with fail;refine hlf.mono ?_;clear hlf;rintro e' w14 ⟨rfl,hb14⟩;have LO14:=qH (LO13.out.later DK LK hb14);clear hb14;go_wp2_with fail;refine(one18_any 3 w14).mono ?_;rintro e' w15 ⟨v3,rfl,hv3,hx3,hb15⟩;have LO15:=qH (LO14.out.later DK LK hb15);have hne:=LK.need v3 LO15.out.lc.ac LO15.out.lg hv3 (one_fit18 hx3 (by decide));rw [show needN 1 v3.x=1 from by rw [hx3];exact one_need18 (by decide)] at hne;clear hv3 hx3 hb15;go_wp2_with fail
 refine hne.mono ?_;clear hne;rintro e' w16 ⟨rfl,hb16⟩;have LO16:=qH (LO15.out.later DK LK hb16);have hep:=LK.epoch LO16.out.lg (by decide);clear hb16;go_wp2_with fail;refine hep.mono ?_;clear hep;rintro e' w17 ⟨rfl,hb17⟩;have LO17:=qH (LO16.out.later DK LK hb17);have hrf:=LK.refs LO17.out.lg (by decide) (by decide) (by decide) (by decide);clear hb17;go_wp2_with fail;refine hrf.mono ?_;clear hrf;rintro e' w18 ⟨AR,cr,rfl,hb18⟩;have B18:=qH (LO17.out.lc.bel.trans (hb18.mono LO17.out.lc.bel.size));clear hb18;go_wp2_with fail;go_ret;exact⟨rfl,B18.out⟩
end
end
section
open Go.RowKit Go.Proofs
set_option maxRecDepth 20000
set_option maxHeartbeats 3200000
def NoL (w:World)(p:Value):Prop:=p= .pointer none∨∃Z:Nat,p= .pointer (some ⟨Z,0,none⟩)∧w.cell? ⟨Z,0,none⟩=some (.pointer none)
theorem NoL.later {w w':World}{p:Value}(h:NoL w p)(hb:Below w.heap.size w w'):NoL w' p:=h.imp id λ ⟨Z,h1,h2⟩=>⟨Z,h1,(hb.cell (p:=⟨Z,0,none⟩) (World.block_lt_of_cell? w _ h2)).trans h2⟩
theorem lmade_no {w:World}{p:Value}(h:NoL w p):Calls Tryz.prog 49 #[p] w λ e' w' =>e' = .returned (.bool false)∧w' =w:=by
 rcases h with rfl|⟨Z,rfl,h0⟩
 all_goals
  go_enter Tryz.func49,Tryz.ntmps49;go_wp2_with fail;go_ret;exact⟨rfl,rfl⟩
section
variable {w:World}{p:Value}
theorem lused_no (h:NoL w p):Calls Tryz.prog 32 #[p] w λ e' w' =>e' = .returned (.int .i64 0)∧w' =w:=by
 have hm:=lmade_no h;clear h;go_enter Tryz.func32,Tryz.ntmps32;go_wp2_with fail;refine hm.mono ?_;clear hm;rintro e' w2 ⟨rfl,rfl⟩;go_wp2_with fail;go_ret;exact⟨rfl,rfl⟩
theorem lleft_no (h:NoL w p):Calls Tryz.prog 33 #[p] w λ e' w' =>e' = .returned (.int .i64 0)∧w' =w:=by
 have hm:=lmade_no h;clear h;go_enter Tryz.func33,Tryz.ntmps33;go_wp2_with fail;refine hm.mono ?_;clear hm;rintro e' w2 ⟨rfl,rfl⟩;go_wp2_with fail;go_ret;exact⟨rfl,rfl⟩
theorem lepoch_no (h:NoL w p):Calls Tryz.prog 34 #[p] w λ e' w' =>e' = .returned (.int .u64 0)∧w' =w:=by
 have hm:=lmade_no h;clear h;go_enter Tryz.func34,Tryz.ntmps34;go_wp2_with fail;refine hm.mono ?_;clear hm;rintro e' w2 ⟨rfl,rfl⟩;go_wp2_with fail;go_ret;exact⟨rfl,rfl⟩
theorem lneed_nil (v:RvF)(h:NoL w p):Calls Tryz.prog 15 #[p, .agg v.vals.toArray] w λ e' w' =>e' = .returned (.int .i64 0)∧Below w.heap.size w w':=by
 have hb:Below w.heap.size w (w.alloc (.cells #[.int .u64 (v.st:Int), .slice v.A v.cs.length v.c] 42)):=(Below.refl _ _).alloc (Nat.le_refl _) _;have hm:=lmade_no (h.later hb);have HB:=qH hb;clear h hb;have hva:v.vals.toArray= #[.int .u64 (v.st:Int), .slice v.A v.cs.length v.c]:=rfl;rw [hva];go_enter Tryz.func15,Tryz.ntmps15;go_wp2_with fail;refine hm.mono ?_;clear hm;rintro e' w2 ⟨rfl,hw⟩;subst hw;go_wp2_with fail;go_ret;exact⟨rfl,HB.out⟩
theorem lappend_nil (v:RvF)(h:NoL w p):Calls Tryz.prog 17 #[p, .agg v.vals.toArray] w λ e' w' =>e' = .returned (.int .i64 1)∧Below w.heap.size w w':=by
 have hb:Below w.heap.size w (w.alloc (.cells #[.int .u64 (v.st:Int), .slice v.A v.cs.length v.c] 42)):=(Below.refl _ _).alloc (Nat.le_refl _) _;have hm:=lmade_no (h.later hb);have HB:=qH hb;clear h hb;have hva:v.vals.toArray= #[.int .u64 (v.st:Int), .slice v.A v.cs.length v.c]:=rfl;rw [hva];go_enter Tryz.func17,Tryz.ntmps17;go_wp2_with fail;refine hm.mono ?_;clear hm;rintro e' w2 ⟨rfl,hw⟩;subst hw;go_wp2_with fail;go_ret;exact⟨rfl,HB.out⟩
theorem lrefs_nil (h:NoL w p):Calls Tryz.prog 36 #[p] w λ e' w' =>∃A' c',e' = .returned (.slice A' 0 c')∧Below w.heap.size w w':=by
 have hm:=lused_no h;have hmk:=make_ref15 (0:Int) 0 rfl (by omega);obtain⟨w1,hw1⟩:∃x,x=w.alloc (.cells (madeCells (r3c (0,0,0)).toArray (0*3)) 109):=⟨_,rfl⟩;have hb1:Below w.heap.size w w1:=by rw [hw1];exact(Below.refl _ _).alloc (Nat.le_refl _) _
 have HW:=qH hw1;have B1:=qH hb1;clear h hw1 hb1;go_enter Tryz.func36,Tryz.ntmps36;go_wp2_with fail;refine hm.mono ?_;clear hm;rintro e' w2 ⟨rfl,hw⟩;obtain rfl:w=w2:=hw.symm;go_wp2_with (rw [<-HW.out]);clear hmk;go_loopw [10] (λ iv wr=>iv= .int .i64 0∧wr=w1) (λ iv _=>0)
 case atStart=>exact⟨rfl,rfl⟩
 case round=>
  obtain⟨rfl,hw⟩:=hrel;obtain rfl:w1=wr:=hw.symm;go_wp2_with fail;go_ret;exact⟨⟨_,_,rfl⟩,B1.out⟩
theorem cn_nil18 (w:World):Calls Tryz.prog 84 #[.pointer none] w λ e w' =>e= .returned (.int .i64 0)∧w' =w:=by
 go_enter Tryz.func84,Tryz.ntmps84;go_wp2_with fail;go_ret;exact⟨rfl,rfl⟩
theorem arn_nil18 (w:World):Calls Tryz.prog 60 #[.pointer none] w λ e w' =>e= .returned (.int .i64 0)∧w' =w:=by
 go_enter Tryz.func60,Tryz.ntmps60;go_wp2_with fail;go_ret;exact⟨rfl,rfl⟩
def MayL (o sl:Int)(e N:Nat):Prop:=0<=o∧o<=(N:Int)-sl∧1<=sl∧sl<=64∧e<1099511627776
def arI (A C:Option Addr)(o sl:Int)(e:Nat):List Value:= [.pointer A, .pointer C, .int .i64 o, .int .i64 sl, .int .u64 (e:Int)]
theorem lright_nilC (A:Option Addr)(o sl:Int)(e:Nat)(w:World):Calls Tryz.prog 48 #[.agg (arI A none o sl e).toArray] w λ e' w' =>e' = .returned (.bool false)∧Below w.heap.size w w':=by
 have hb:Below w.heap.size w (w.alloc (.cells #[.pointer A, .pointer none, .int .i64 o, .int .i64 sl, .int .u64 (e:Int)] 82)):=(Below.refl _ _).alloc (Nat.le_refl _) _;have hn:=cn_nil18 (w.alloc (.cells #[.pointer A, .pointer none, .int .i64 o, .int .i64 sl, .int .u64 (e:Int)] 82));have HB:=qH hb;clear hb;unfold arI;go_enter Tryz.func48,Tryz.ntmps48;go_wp2_with fail;refine hn.mono ?_;clear hn;rintro e' w2 ⟨rfl,hw⟩;subst hw;go_wp2_with fail;go_ret;exact⟨rfl,HB.out⟩
theorem lright_nilA (C F T k m:Nat)(o sl:Int)(e:Nat)(w:World)(h:Cod w C k m F T):Calls Tryz.prog 48 #[.agg (arI none (some ⟨C,0,none⟩) o sl e).toArray] w λ e' w' =>e' = .returned (.bool false)∧Below w.heap.size w w':=by
 obtain⟨w1,hw1⟩:∃x,x=w.alloc (.cells #[.pointer none, .pointer (some ⟨C,0,none⟩), .int .i64 o, .int .i64 sl, .int .u64 (e:Int)] 82):=⟨_,rfl⟩;have hb:Below w.heap.size w w1:=by rw [hw1];exact(Below.refl _ _).alloc (Nat.le_refl _) _
 have hc0:w1.cell? ⟨w.heap.size,0,none⟩=some (.pointer none):=by rw [hw1,cell_of_row _ _ _ _ _ _ (heap_alloc_new w _)];rfl
 have hc1:w1.cell? ⟨w.heap.size,1,none⟩=some (.pointer (some ⟨C,0,none⟩)):=by rw [hw1,cell_of_row _ _ _ _ _ _ (heap_alloc_new w _)];rfl
 obtain⟨n,hn⟩:∃n,n=k+m:=⟨_,rfl⟩;have hn0:¬(n:Int)=0:=by have:=h.k1;omega
 have hn1:((0:Int)==(n:Int))=false:=by simp;omega
 have hn2:((n:Int)==(0:Int))=false:=by simp;omega
 have hn3:((0:Int) !=(n:Int))=true:=by simp;omega
 have hcn:=cn13 (h.later hb) hn;have HW:=qH hw1;have HB:=qH hb;have C0:=qH hc0;clear h hw1 hb hn hc0;unfold arI;go_enter Tryz.func48,Tryz.ntmps48;go_wp2_with (rw [<-HW.out]);refine hcn.mono ?_;clear hcn;rintro e' w2 ⟨rfl,hb2⟩;have B2:=qH (HB.out.trans (hb2.mono HB.out.size));have c0:=(hb2.cell (p:=⟨w.heap.size,0,none⟩) (World.block_lt_of_cell? w1 _ C0.out)).trans C0.out;have hn:=arn_nil18 w2;clear hb2 hc1;go_wp2_with fail;refine hn.mono ?_;clear hn;rintro e' w3 ⟨rfl,hw⟩;obtain rfl:w2=w3:=hw.symm;go_wp2_with fail;go_ret;exact⟨rfl,B2.out⟩
end
end
end Go.Proofs.YtmhejbihdghhaaaGreatDoor

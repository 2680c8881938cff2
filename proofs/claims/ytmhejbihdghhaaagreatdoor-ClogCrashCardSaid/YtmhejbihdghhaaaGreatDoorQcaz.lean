/-
  A range over a function whose body never leaves early, where the iterator reads memory between two rounds and hands over what lies in memory
-/
import Derived.RangeFuncWrites
import Derived.Test.YtmhejbihdghhaaaGreatDoorQcax
import Derived.Deep.MidRow
import Derived.OwnWalkIn
import Derived.TacticsInMore
import Derived.Test.YtmhejbihdghhaaaGreatDoorQcay
import Derived.RangeFuncBox
namespace Go.Proofs.YtmhejbihdghhaaaGreatDoor
set_option linter.unusedVariables false
section
open Go Go.RowKit Go.Proofs
def OnEnd (K:World->Prop):Exit->Act->World->Prop
 | .normal,_,W=>K W
 |_,_,_=>False
theorem jjS {W W':World}(h:Below W.heap.size W W'):W.grownBy W' none:=⟨h.os,h.tape,h.output,h.size,λ k hk _=>h.block k hk⟩
theorem jl4 {P:Program}{α:Type}{g:Operand}{ps:Array Tmp}{assign body:Code}{Q:Exit->Act->World->Prop}{a:Act}{w:World}{gf:Nat}{lb:Array Value}
  (hg:a.eval g= .func (.func gf) #[] lb)(eg:∀args w,(callFunc gf args).run P w= .ok (.enter gf args) w)
  {encs:α->Array Value}{S:List α->Prop}{H:World->Prop}{X:α->World->World->Prop}{Nb:Nat}
  (hit:∀(l:Nat) (J:List α->World->Prop) (W:World),(∀s A B,J s A->Below A.heap.size A B->J s B)->(∀s A,J s A->H A)->
   (∀pre x W0 W1,pre.length<Nb->J pre W0->J pre W1->X x W0 W1->YieldAt Fence.wide 0 P l (encs x) W1 λ e W' =>e= .returned (.bool true)∧J (pre ++ [x]) W')->
   J [] W->Calls P gf (#[.func (.yield l) #[] #[]] ++ lb) W λ e W' =>(∃v,e= .returned v)∧∃xs,S xs∧J xs W')
  (hps:∀x,(encs x).size=ps.size)(I:List α->World->Prop)(hI:OwnFrom w.heap.size I)(hX:∀W0,OwnFrom w.heap.size λ x=>X x W0)(hH:∀s A,I s A->H A)(h0:I [] w)(a₁:α->Act)
  (hassign:∀(l:Nat) (x:α) (W:World) (K:Act->World->Prop),K (a₁ x) W->
   assign.wpIn (Fence.wide.inRound l) 0 P (Exit.then K (λ _ _ _=>False)) {tmps:=(ps.zip (encs x)).foldl (λ t (p,v)=>t.setIfInBounds p v) a.tmps,defers:= []} W)
  (hbody:∀(l:Nat) (pre:List α) (x:α) (W0 W:World),pre.length<Nb->I pre W0->I pre W->X x W0 W->body.wpIn (Fence.wide.inRound l) 0 P (OnEnd λ W' =>KeepsFrom w.heap.size W W' ∧I (pre ++ [x]) W') (a₁ x) W)
  (hdone:∀(D:Nat) (xs:List α) (W:World),w.heap.size<=D->S xs->I xs W->W.heap[D]? =some (.deferred (some []))->Q .normal {a with defers:={target:= .collected D,args:= #[]}::a.defers} W):
  (Code.rangeFunc g ps assign body).wp P Q a w:=by
 refine(wpIn_wide (n:=0)).1 (wpIn_rangeFunc λ fn _=> ?_);obtain⟨L,hL⟩:∃L:LoopState->Obj,L=λ st=> .loop {state:=st,pending:=none,fn,tmps:=a.tmps,params:=ps,assign,body,defers:=w.heap.size}:=⟨_,rfl⟩
 obtain⟨W1,hW1⟩:∃W1,W1=(w.alloc (.deferred (some []))).alloc (L .ready):=⟨_,rfl⟩;have r1:W1.heap[w.heap.size+1]? =some (L .ready):=by
  have:=World.alloc_heap_new (w.alloc (.deferred (some []))) (L .ready)
  rwa [World.size_alloc,<-hW1] at this
 have d1:W1.heap[w.heap.size]? =some (.deferred (some [])):=by
  rw [hW1];exact(Below.heap_alloc _ _ _ (by simp)).trans (World.alloc_heap_new w _)
 have i1:I [] W1:=by rw [hW1];exact hI.alloc _ (hI.alloc _ h0)
 have stay:∀{A B:World} {k:Nat} {o:Obj},Below A.heap.size A B->A.heap[k]? =some o->B.heap[k]? =some o:=λ hb h=>(hb.block _ (Array.getElem?_eq_some_iff.1 h).1).trans h
 have nc:∀st,(L st).isCells=false:=λ st=>by rw [hL];rfl
 refine⟨w.heap.size+1, [{target:= .collected w.heap.size,args:= #[]}],W1,{target:= .fn (.func gf) lb,args:= #[.func (.yield (w.heap.size+1)) #[] #[]]},W1,gf, #[.func (.yield (w.heap.size+1)) #[] #[]] ++ lb,W1, ?_, ?_,λ _ _=>trivial, ?_,λ h=>(by cases h),callsIn_wide.2 ?_⟩
 ·rw [hW1,hL]
  exact run_enterLoop_outer _ _ _ _ _
 ·simp only [resolve,hg]
  simp [go_sem]
 ·simp [invoke,go_sem,eg]
 refine(hit (w.heap.size+1) (λ pre W=>I pre W∧W.heap[w.heap.size+1]? =some (L .ready)∧W.heap[w.heap.size]? =some (.deferred (some []))) W1
  (λ s A B h hb=>⟨hI s A B none h.1 (jjS hb) (λ r e=>(by cases e)),stay hb h.2.1,stay hb h.2.2⟩) (λ s A h=>hH s A h.1) (λ pre x W0 W hb h0 h hx=> ?_) ⟨i1,r1,d1⟩).mono ?_
 ·obtain⟨hi,hl,hd⟩:=h
  have hy:=run_yield (P:=P) (args:=encs x) (by rw [hL] at hl;exact hl) (hps x);refine⟨fn,_,assign,body,hy,roundIn_of_wpIn trivial (hassign _ x W _ ⟨_,run_beginRound (by rw [hL] at hl;exact hl) rfl, ?_⟩)⟩;have hlt:w.heap.size+1<W.heap.size:=(Array.getElem?_eq_some_iff.1 hl).1;have hb2:(W.putObj (w.heap.size+1) (L .busy)).heap[w.heap.size+1]? =some (L .busy):=World.putObj_heap_same hlt;have hd2:(W.putObj (w.heap.size+1) (L .busy)).heap[w.heap.size]? =some (.deferred (some [])):=(World.putObj_heap_other (by omega)).trans hd;rw [hL] at hb2 hd2;refine wpIn_mono (hbody _ pre x W0 _ hb h0.1 (hI.putObj _ hi (by omega) hl (nc _)) ((hX W0).putObj _ hx (by omega) hl (nc _))) ?_;rintro e a3 W3 hp
  cases e with
  |normal=>
   obtain⟨hk,hi3⟩:=hp;have hl3:=hk.same _ _ (by omega) hb2 rfl;refine⟨_,_,run_endRound none hl3,rfl,hI.putObj _ hi3 (by omega) hl3 rfl, ?_, ?_⟩
   ·rw [hL]
    exact World.putObj_heap_same (Array.getElem?_eq_some_iff.1 hl3).1
   ·exact(World.putObj_heap_other (by omega)).trans (hk.same _ _ (Nat.le_refl _) hd2 rfl)
  |ret=>exact hp.elim
  |exit id=>exact hp.elim
  |goto t=>exact hp.elim
  |panic ch=>exact hp.elim
  |outgrown=>exact hp.elim
 ·rintro e W2 ⟨⟨v,rfl⟩,xs,hS,hi,hl,hd⟩
  have hl':=hl;rw [hL] at hl';exact⟨none,_,run_endLoop hl' (by simp),hdone _ xs _ (Nat.le_refl _) hS (hI.putObj _ hi (by omega) hl' rfl) ((World.putObj_heap_other (by omega)).trans hd)⟩
end
section
open Go.RowKit Go.Proofs
set_option maxRecDepth 20000
set_option maxHeartbeats 3200000
structure Pc18 where
 A:Option Addr
 c:Nat
 b:List UInt8
def Pc18.val (x:Pc18):Value:= .slice x.A x.b.length x.c
def Pc18.X (x:Pc18)(W0 W:World):Prop:=Sl W 1 x.A x.b.length x.c (cells x.b)∧(∀b o,0<x.b.length->x.A=some ⟨b,o,none⟩->W0.heap.size<=b)∧∀p v,W0.cell? p=some v->W.cell? p=some v
theorem jjT {H:World->Prop}{A C o sl e Bn:Nat}{R:List (List UInt8)}(l:Nat)(J:List Pc18->World->Prop)(W:World)
  (ho:o<=600)(hs:sl<=64)(he:e<1099511627776)(hR:R.length<=sl)
  (hget:∀V i,H V->i<sl->i<=R.length->Calls Tryz.prog 113 #[.pointer (some ⟨A,0,none⟩), .pointer (some ⟨C,0,none⟩),nmV o e i] V λ e' V' =>(∃b A2 c2,R[i]? =some b∧e' = .returned (.tuple #[.slice A2 b.length c2, .int .i64 0])∧NewB V A2 b.length c2 b V')∨(R.length=i∧∃A2 n2 c2,e' = .returned (.tuple #[.slice A2 n2 c2, .int .i64 130])∧Below V.heap.size V V'))
  (hJ:∀s A B,J s A->Below A.heap.size A B->J s B)(hH:∀s V,J s V->H V∧V.rangeAt Bn 0 (arV A C o sl e))
  (hY:∀pre (x:Pc18) W0 W1,pre.length<65->J pre W0->J pre W1->x.X W0 W1->YieldAt Fence.wide 0 Tryz.prog l #[x.val] W1 λ e' W' =>e' = .returned (.bool true)∧J (pre ++ [x]) W')
  (h0:J [] W):Calls Tryz.prog 112 #[.func (.yield l) #[] #[], .pointer (some ⟨Bn,0,none⟩)] W λ e' W' =>(∃v,e' = .returned v)∧∃ys,ys.map Pc18.b=R∧J ys W':=by
 have JJ:=qH hJ;have HH:=qH hH;have YY:=qH hY;have GG:=qH hget;have J0:=qH h0;have q3:=(hH _ _ h0).2 3 _ rfl;rw [Nat.zero_add] at q3;clear hJ hH hY hget h0;go_enter Tryz.func112,Tryz.ntmps112;go_wp2_with fail;go_loopw [8] (λ iv wr=>∃(i:Nat) (pre:List Pc18),iv= .int .i64 (i:Int)∧i<=R.length∧pre.map Pc18.b=R.take i∧J pre wr) (λ iv _=>sl-(intOf iv).toNat)
 case atStart=>exact⟨0, [],rfl,by omega,by simp,J0.out⟩
 case round=>
  obtain⟨i,pre,rfl,hi,hpre,hj⟩:=hrel;have PR:=qH hpre;have JP:=qH hj;clear hpre hj q3
  by_cases hlt:i<sl
  ·have hii:(i:Int)<(sl:Int):=by omega
   have RG:=qH (HH.out _ _ JP.out).2;go_wp2_with fail;refine wp_region_held_drew (S:=λ w' =>Fr (λ _=>False) wr.drew w') (by kernel_rfl) (Fr.refl _ _) (λ hHeld=> ?_);clear hHeld;refine tA 0 (some 12) rfl (Fr.refl _ _) ?_;refine tL 1 (some 13) (v:= ?vct1) rfl ?yct1 (Fr.refl _ _) ?rct1
   case yct1=>
    intro wq hSw
    (try dsimp only at hSw)
    have hc:=hSw.cell_some ((HH.out _ _ JP.out).2 0 _ rfl) (λ h=>h);rw [Nat.zero_add] at hc;go_simp<;>with_reducible rfl
   try simp only [Act.put,sA,sB,sC]
   refine tA 2 (some 14) rfl (Fr.refl _ _) ?_;refine tL 3 (some 15) (v:= ?vct3) rfl ?yct3 (Fr.refl _ _) ?rct3
   case yct3=>
    intro wq hSw
    (try dsimp only at hSw)
    have hc:=hSw.cell_some ((HH.out _ _ JP.out).2 1 _ rfl) (λ h=>h);rw [Nat.zero_add] at hc;go_simp<;>with_reducible rfl
   try simp only [Act.put,sA,sB,sC]
   refine tL 4 (some 16) (v:=(.agg (arV A C o sl e).toArray)) rfl ?yct4 (Fr.refl _ _) ?rct4
   case yct4=>
    intro wq hSw;exact jah rfl rfl (λ j u hu=>hSw.cell_some (RG.out j u hu) (λ h=>h)) Tryz.underlying82 rfl (ja5 A C o sl e)
   try simp only [Act.put,sA,sB,sC]
   refine tA 5 (some 17) rfl (Fr.refl _ _) ?_;refine rW 6 (some 18) rfl λ K hK=> ?_
   go_simp;refine(jfX A C o sl e i ho (by omega) he wr.drew).mono ?_;rintro e' w1 ⟨rfl,hb1⟩;have hfr:Fr (λ _=>False) wr.drew w1:=Fr.of_below hb1;go_wp2_with fail;refine hK.out _ _ hfr (λ hHeld=> ?_);clear hK K hHeld
   try simp only [Act.put,sA,sB,sC]
   refine jac (S':=λ w' =>Fr (λ _=>False) w1 w') (λ w' h=>hfr.trans h) ?_;clear hfr;refine rW 7 (some 19) rfl λ K hK=> ?_
   go_simp;have hbw1:Below wr.heap.size wr w1:=(Below.drew (Below.refl _ _)).trans hb1;have J1:=qH (JJ.out _ _ _ JP.out hbw1);refine(GG.out w1 i (HH.out _ _ J1.out).1 hlt hi).mono ?_;rintro e' w2 hg0;obtain⟨er,A2,n2,c2,rfl,hb2,hgot⟩:∃(er:Int) (A2:Option Addr) (n2 c2:Nat),e' = .returned (.tuple #[.slice A2 n2 c2, .int .i64 er])∧Below w1.heap.size w1 w2∧((er=0∧∃b,R[i]? =some b∧n2=b.length∧NewB w1 A2 b.length c2 b w2)∨(er=130∧R.length=i)):=by
    rcases hg0 with ⟨b,A2,c2,h1,h2,h3⟩|⟨h1,A2,n2,c2,h2,h3⟩
    ·exact⟨0,A2,_,c2,h2,h3.2.1, .inl ⟨rfl,b,h1,rfl,h3⟩⟩
    ·exact⟨130,A2,n2,c2,h2,h3, .inr ⟨rfl,h1⟩⟩
   clear hg0;have hfr:Fr (λ _=>False) w1 w2:=Fr.of_below hb2;go_wp2_with fail;refine hK.out _ _ hfr (λ hHeld=> ?_);clear hK K hHeld
   try simp only [Act.put,sA,sB,sC]
   refine jac (S':=λ w' =>Fr (λ _=>False) w2 w') (λ w' h=>hfr.trans h) ?_;clear hfr;refine tA 8 (some 11) rfl (Fr.refl _ _) ?_;refine tA 9 (some 20) rfl (Fr.refl _ _) ?_;refine tA 10 (some 21) rfl (Fr.refl _ _) ?_;refine tA 11 (some 4) rfl (Fr.refl _ _) ?_;refine tA 12 (some 5) rfl (Fr.refl _ _) ?_;refine tD ?_;have hbw2:Below wr.heap.size wr w2:=hbw1.trans (hb2.mono hbw1.size);have J2:=qH (JJ.out _ _ _ JP.out hbw2)
   rcases hgot with ⟨rfl,b,hb,rfl,hnb⟩|⟨rfl,hRi⟩
   ·obtain⟨hs2,_,hn2⟩:=hnb
    have hXX:(Pc18.mk A2 c2 b).X wr w2:=⟨hs2,λ q o' h1 h2=>Nat.le_trans hbw1.size (hn2 q o' h1 h2),λ p v hp=>(hbw2.cell (World.block_lt_of_cell? wr _ hp)).trans hp⟩;have HB:=qH hb;have hpl:pre.length<65:=by
     have h1:=congrArg List.length PR.out;rw [List.length_map,List.length_take] at h1;omega
    obtain⟨fn,tmps,assign,body,hy,hround⟩:=YY.out pre ⟨A2,c2,b⟩ wr w2 hpl JP.out J2.out hXX;have hir:i<R.length:=(List.getElem?_eq_some_iff.1 hb).1;clear hb1 hb2 hbw1 hbw2 hs2 hn2 hXX hb;unfold Pc18.val at hy;dsimp only at hy;have HY:=qH hy;have HR:=qH hround;clear hy hround;go_step;go_step;go_step;refine(wpIn_wide (n:=0)).1 ?_;have hy:=HY.out
    gi_wp2
    refine⟨rfl,HR.out.mono ?_⟩;rintro e' w3 ⟨rfl,hj3⟩;have J3:=qH hj3;clear hy hj3
    gi_wp2
    go_wp2_with fail;go_roundw
    case rel=>
     refine⟨i+1,pre ++ [⟨A2,c2,b⟩],by go_num,by omega, ?_,J3.out⟩;rw [List.map_append,PR.out,List.map_cons,List.map_nil,List.take_add_one,HB.out]
     rfl
    case measure=>simp [intOf];omega
   ·clear hb1 hb2 hbw1 hbw2
    go_wp2_with fail;refine bodyPost_ret (results_none rfl _ _ _) rfl ?_;exact⟨⟨_,rfl⟩,pre,by rw [PR.out,List.take_of_length_le (by omega)],J2.out⟩
  ·obtain rfl:sl=i:=by omega
   go_wp2_with fail;go_end0;exact⟨⟨_,rfl⟩,pre,by rw [PR.out,List.take_of_length_le (by omega)],JP.out⟩
end
section
open Go.RowKit Go.Proofs
set_option maxRecDepth 20000
set_option maxHeartbeats 3200000
theorem Chs.frN {w w':World}{A:Option Addr}{n c H:Nat}{vs:List CvF}{U:Nat->Prop}(h:Chs w A n c vs)(hn:NewC H A vs)(hf:Fr U w w')(hU:∀b,U b->b<H):Chs w' A n c vs:=
 ⟨h.len,h.cap,h.top,λ i v hv=>by
  obtain⟨b,o,e,h1,h2⟩:=h.cell i v hv;exact⟨b,o,e,λ j u hu=>hf.cell_some (h1 j u hu) (λ q=>by have:=hU b q;have:=hn.1 b o e;omega),Sl.fr h2 hf (λ b o h0 e q=>by have:=hU b q;have:=hn.2 v (List.mem_of_getElem? hv) b o h0 e;omega)⟩⟩
def OffR (A:Option Addr)(w:World)(v:RvF):Prop:=∀W,Fr (Bk A) w W->v.Ok W
theorem OffR.ok {A:Option Addr}{w:World}{v:RvF}(h:OffR A w v):v.Ok w:=h w (Fr.refl _ _)
theorem OffR.later {A:Option Addr}{w w':World}{v:RvF}(h:OffR A w v)(hb:Below w.heap.size w w'):OffR A w' v:=λ W hf=>h W ((Fr.of_below hb:Fr (Bk A) w w').trans hf)
theorem OffR.app {A A':Option Addr}{w w':World}{v:RvF}(h:OffR A w v)(hf:Fr (Bk A) w w')(hA:A' =A∨A' =some ⟨w.heap.size,0,none⟩):OffR A' w' v:=λ W hg=>by
 rcases hA with e|e
 ·subst e
  exact h W (hf.trans hg)
 ·refine h W (hf.intoN hg λ b hb=> .inr ?_)
  obtain⟨o,hb⟩:=hb;rw [e] at hb;injection hb with hb
  injection hb with hb _ _
  omega
theorem jiD (A:Option Addr)(n c:Nat)(rs:List (List UInt8))(w:World)(h:Gr w A n c rs)(hb:rs.flatten.length<=1000000)(hn:n<=1000)(hN:Nt w):
  Calls Tryz.prog 73 #[.slice A n c] w λ e' w' =>∃A' c' vs,e' = .returned (.tuple #[.slice A' vs.length c', .int .i64 ((repF rs).2:Int)])∧Rcs w' A' vs.length c' vs∧vs.map RvF.x=(repF rs).1∧Below w.heap.size w w':=by
 have HH:=qH h;have NN:=qH hN;have HB:=qH hb;obtain⟨ib,hb0,hb1,hb2,hb3⟩:=info_parts jeu;have Ib0:=qH hb0;have Ib1:=qH hb1;have Ib2:=qH hb2;have Ib3:=qH hb3;clear h hb hN hb0 hb1 hb2 hb3;go_enter Tryz.func73,Tryz.ntmps73;go_wp2_with fail;go_loopg [4,5] (n+1) (λ gk tv mv wr=>∃(m q:Nat) (acc:List RvF) (A4:Option Addr) (c4:Nat),tv= .slice A4 q c4∧mv= .int .i64 (m:Int)∧m<=n∧n-m<gk∧q<=m∧acc.length=q∧Rn wr A4 42 2 q c4 (acc.flatMap RvF.vals)∧(∀b,Bk A4 b->w.heap.size<=b)∧(∀v∈acc,OffR A4 wr v)∧Below w.heap.size w wr∧acc.map RvF.x ++(repF (rs.drop m)).1=(repF rs).1∧m +(repF (rs.drop m)).2=(repF rs).2)
 case atStart=>exact⟨0,0, [],none,0,rfl,rfl,by omega,by omega,by omega,rfl, .inl ⟨rfl,rfl,rfl,rfl⟩,λ b hb=>(by obtain⟨o,hb⟩:=hb;cases hb),λ v hv=>(by cases hv),Below.refl _ _,rfl,by rw [Nat.zero_add];rfl⟩
 case round=>
  obtain⟨G,hG⟩:∃x,x=gk:=⟨_,rfl⟩;subst hG;obtain⟨m,q,acc,A4,c4,htv,hmv,hm,hgk,hqm,hal,hrn,hab,hof,hbe,h1,h2⟩:=hrel;subst htv hmv;have hcl:=HH.out.capLe;have RN:=qH hrn;have AB:=qH hab;have OF:=qH hof;have BE:=qH hbe;have AL:=qH hal;clear hrn hab hof hal
  by_cases hcm:c=m
  ·obtain rfl:n=m:=by omega
   obtain rfl:n=c:=by omega
   have hd:rs.drop n= []:=List.drop_eq_nil_of_le (by rw [HH.out.len];exact Nat.le_refl _);have hj:jaZ []=([],0,170):=rfl;have hz:repF []=([],0):=rfl;rw [hd,hz,List.append_nil] at h1;rw [hd,hz,Nat.add_zero] at h2;have hjo:=jgA A 0 0 [] wr ⟨⟨[],Sl.empty wr 1 A 0 (by decide),λ i r h=>by simp at h⟩,rfl⟩ (by decide) (by decide) (NN.out.keep hbe);rw [hj] at hjo;have K1:=qH h1;have K2:=qH h2;clear hbe h1 h2 hd hj hz hcl hcm;go_wp2_with fail;refine hjo.mono ?_;clear hjo;rintro e' w1 ⟨A6,c6,rfl,hs6,hb6,hl6⟩;have B6:=qH (BE.out.trans (hb6.mono BE.out.size));have R6:=qH (RN.out.later hb6);have O6:=qH (show ∀v∈acc,OffR A4 w1 v from λ v hv=>(OF.out v hv).later hb6);clear hs6 hb6 hl6;go_wp2_with fail;go_ret2;have hq:=AL.out;subst hq;rw [<-K2.out];exact⟨A4,c4,acc,rfl,Rcs.of_rn R6.out rfl (λ v hv=>(O6.out v hv).ok),K1.out,B6.out⟩
  ·have hgr:=(HH.out.later hbe).from17 m hm
   rw [if_neg hcm] at hgr;have hmn:(m:Int)<=(n:Int):=by omega
   have hcz:¬(c:Int)=(m:Int):=by omega
   have hjo:=jgA _ _ _ _ wr hgr (by have:=jiw rs m;have:=HB.out;omega) (by omega) (NN.out.keep hbe);have hmany:=jep (l:=rs.drop m);have hfl:=jiw rs m;have hjl:=jik (rs.drop m) 0 true [] 0;rw [show joinL 0 true [] 0 (rs.drop m)=jaZ (rs.drop m) from rfl] at hjl;have hst:=joo (l:=rs.drop m);have hno:=jop (l:=rs.drop m);have hyes:=joq (l:=rs.drop m);obtain⟨J,hJ⟩:∃x,x=jaZ (rs.drop m):=⟨_,rfl⟩;rw [<-hJ] at hjo hmany hjl hst hno hyes;obtain⟨tx,jn,er⟩:=J;dsimp only at hjo hmany hjl hst hno hyes;rw [List.length_nil,Nat.zero_add] at hjl;have htx:tx.length<=1000000:=by have:=HB.out;omega
   rw [List.length_drop,HH.out.len,List.drop_drop] at *;clear hJ hgr hjl hfl hcl
   by_cases he:er=0
   ·subst he
    have hmany:=hmany rfl;have hno:=hno rfl;have hyes:=hyes rfl;clear hst;have hgx:=λ W A6 c6 (hs:Sl W 1 A6 tx.length c6 (cells tx))=>jiq A6 tx.length c6 tx W hs htx
    obtain⟨G3,hG3⟩:∃x,x=jbD tx:=⟨_,rfl⟩;rw [<-hG3] at hno hyes;simp only [<-hG3] at hgx;obtain⟨g1,g2,g3⟩:=G3;dsimp only at hno hyes hgx;clear hG3
    by_cases hg:g3=0
    ·subst hg
     have hyes:=hyes rfl;rw [hyes] at h1 h2;have K1:=qH h1;have K2:=qH h2;have GX:=qH hgx;clear hbe h1 h2 hno hyes hgx;go_wp2_with fail;refine hjo.mono ?_;clear hjo;rintro e' w1 ⟨A6,c6,rfl,hs6,hb6,hl6⟩;have B6:=qH (BE.out.trans (hb6.mono BE.out.size));have R6:=qH (RN.out.later hb6);have O6:=qH (show ∀v∈acc,OffR A4 w1 v from λ v hv=>(OF.out v hv).later hb6);have S6:=qH hs6;clear hs6 hb6 hl6;go_wp2_with fail;refine(GX.out w1 A6 c6 S6.out).mono ?_;rintro e' w2 ⟨CA,cc,vs,rfl,hvs,hch,hb7,hnc⟩;obtain⟨v,hv⟩:∃v:RvF,v=⟨g1,CA,cc,vs⟩:=⟨_,rfl⟩;have hvx:v.x=(g1,g2):=by rw [hv,<-hvs];rfl
     have hvv:v.vals.toArray= #[.int .u64 (g1:Int), .slice CA vs.length cc]:=by rw [hv];rfl
     have hov:OffR A4 w2 v:=λ W hf=>by
      rw [hv];exact hch.frN hnc hf (λ b hb=>R6.out.lt hb)
     obtain⟨w3,hw3⟩:∃x,x=w2.alloc (.cells #[.int .u64 (g1:Int), .slice CA vs.length cc] 42):=⟨_,rfl⟩;have hb8:Below w2.heap.size w2 w3:=by rw [hw3];exact(Below.refl _ _).alloc (Nat.le_refl _) _
     have hq3:ReB w3 w2.heap.size g1 CA vs.length cc:=by rw [hw3];exact ReB.new
     have B8:=qH ((B6.out.trans (hb7.mono B6.out.size)).trans (hb8.mono (Nat.le_trans B6.out.size hb7.size)));have R8:=qH (((R6.out.later hb7).later hb8).later (jbW w3 v));have O8:=qH (show ∀v' ∈acc,OffR A4 w3 v' from λ v' hv' =>((O6.out v' hv').later hb7).later hb8);have V8:=qH (hov.later hb8);have Q8:=qH hq3;have HV:=qH hvv;have HX:=qH hvx;have HW:=qH hw3;have hq1000:q<=1000:=by omega
     clear hv hvx hvv hov hb7 hb8 hq3 hvs hch hnc hw3;go_wp2_with (first
      |(rw [<-HW.out])
      |(refine jaj (d:=32) ?_;refine jad (o:=⟨some 32,_,_,_,_,_⟩) (by rfl) _ _ (jap rfl rfl Q8.out) ?_;rw [<-HV.out])
      |(refine jaj (d:=33) ?_;refine wpList_buildSlice (o:=⟨some 33,_,_,_,_,_⟩) rfl 59 42 1 #[(0, .tmp 32)] rfl v.vals.toArray ib (.agg #[.int .u64 0, .slice none 0 0]) Tryz.underlying59 Ib0.out Ib1.out (by rw [Ib2.out];decide) (by rw [Ib2.out];decide) (by rw [Ib2.out];exact jiB _ _ rfl) ?_)
      |(at_builtin;refine jbA (o:=⟨some 34,_,_,_,_,_⟩) rfl (.tmp 31) (.tmp 33) 59 59 rfl ib (.agg #[.int .u64 0, .slice none 0 0]) 32 Tryz.underlying59 Ib0.out Ib1.out Ib2.out Ib3.out rfl (by decide) rfl R8.out _ 1 v.vals rfl ((Sl.made w3 v.vals.toArray 42 2 1 rfl (by decide)).src Tryz.underlying59 (by decide) (jea v)) (by unfold maxLen;omega) (by omega) ?_))
     intro A7 c7 w4 hrn4 hfb4 hor4;have hsz:w3.heap.size+1=(w3.alloc (.cells v.vals.toArray 42)).heap.size:=by simp
     rw [hsz] at hor4;have hba:Below w.heap.size w (w3.alloc (.cells v.vals.toArray 42)):=B8.out.trans ((jbW w3 v).mono B8.out.size);have B9:=qH (hba.trans (hfb4.below hba.size (λ b hb=>AB.out b hb)));have R9:=qH hrn4;have AB9:=qH (show ∀b,Bk A7 b->w.heap.size<=b from λ b hb=>by
      rcases hor4 with e4|e4
      ·exact AB.out b (e4▸hb)
      ·rw [e4] at hb
       obtain⟨o4,hb⟩:=hb;injection hb with hb
       injection hb with hb _
       have:=hba.size;omega)
     have O9:=qH (show ∀v' ∈acc ++ [v],OffR A7 w4 v' from λ v' hv' =>by
      rcases List.mem_append.1 hv' with h|h
      ·exact((O8.out v' h).later (jbW w3 v)).app hfb4 hor4
      ·rw [List.mem_singleton] at h
       subst h;exact(V8.out.later (jbW w3 v')).app hfb4 hor4)
     have HJ:=qH hmany;clear hsz hba hfb4 hor4 hrn4 hmany hcz hcm;go_wp2_with fail;go_roundg (G-1)
     case measure=>have:=HJ.out;omega
     case rel=>
      refine⟨m+jn,q+1,acc ++ [v],A7,c7,rfl,by have:=HJ.out;go_num,by have:=HJ.out;omega,by have:=HJ.out;omega,by have:=HJ.out;omega,by rw [List.length_append,AL.out];rfl, ?_,AB9.out,O9.out,B9.out, ?_, ?_⟩
      ·rw [List.flatMap_append,List.flatMap_cons,List.flatMap_nil,List.append_nil]
       exact R9.out
      ·rw [List.map_append,List.map_cons,List.map_nil,HX.out,List.append_assoc]
       exact K1.out
      ·have:=K2.out
       omega
    ·have hno:=hno hg
     rw [hno,List.append_nil] at h1;rw [hno,Nat.add_zero] at h2;have hgi:¬(g3:Int)=0:=by omega
     have K1:=qH h1;have K2:=qH h2;have GX:=qH hgx;clear hbe h1 h2 hno hyes hgx hmany;go_wp2_with fail;refine hjo.mono ?_;clear hjo;rintro e' w1 ⟨A6,c6,rfl,hs6,hb6,hl6⟩;have B6:=qH (BE.out.trans (hb6.mono BE.out.size));have R6:=qH (RN.out.later hb6);have O6:=qH (show ∀v∈acc,OffR A4 w1 v from λ v hv=>(OF.out v hv).later hb6);have S6:=qH hs6;clear hs6 hb6 hl6;go_wp2_with fail;refine(GX.out w1 A6 c6 S6.out).mono ?_;rintro e' w2 ⟨CA,cc,vs,rfl,hvs,hch,hb7,hnc⟩;obtain⟨w3,hw3⟩:∃x,x=w2.alloc (.cells #[.int .u64 (g1:Int), .slice CA vs.length cc] 42):=⟨_,rfl⟩;have hb8:Below w2.heap.size w2 w3:=by rw [hw3];exact(Below.refl _ _).alloc (Nat.le_refl _) _
     have B8:=qH ((B6.out.trans (hb7.mono B6.out.size)).trans (hb8.mono (Nat.le_trans B6.out.size hb7.size)));have R8:=qH ((R6.out.later hb7).later hb8);have O8:=qH (show ∀v' ∈acc,OffR A4 w3 v' from λ v' hv' =>((O6.out v' hv').later hb7).later hb8);have HW:=qH hw3;clear hb7 hb8 hvs hch hnc hw3;go_wp2_with (rw [<-HW.out]);go_ret2;have hq:=AL.out;subst hq;rw [<-K2.out];exact⟨A4,c4,acc,rfl,Rcs.of_rn R8.out rfl (λ v hv=>(O8.out v hv).ok),K1.out,B8.out⟩
   ·have hst:=hst he
    rw [hst,List.append_nil] at h1;rw [hst,Nat.add_zero] at h2;have hez:¬(er:Int)=0:=by omega
    have K1:=qH h1;have K2:=qH h2;clear hbe h1 h2 hno hyes hst hmany;go_wp2_with fail;refine hjo.mono ?_;clear hjo;rintro e' w1 ⟨A6,c6,rfl,hs6,hb6,hl6⟩;have B6:=qH (BE.out.trans (hb6.mono BE.out.size));have R6:=qH (RN.out.later hb6);have O6:=qH (show ∀v∈acc,OffR A4 w1 v from λ v hv=>(OF.out v hv).later hb6);clear hs6 hb6 hl6;go_wp2_with fail;go_ret2;have hq:=AL.out;subst hq;rw [<-K2.out];exact⟨A4,c4,acc,rfl,Rcs.of_rn R6.out rfl (λ v hv=>(O6.out v hv).ok),K1.out,B6.out⟩
end
section
open Go.RowKit Go.Proofs
set_option maxRecDepth 20000
set_option maxHeartbeats 3200000
attribute [local go_sem] Oper.semAt_some
theorem Gg.steps18 {W W':World}{B n c:Nat}{A:Option Addr}{rs:List (List UInt8)}{row:Option Nat}(h:Gg W B A n c rs)(h0:n=0->A=none)(hg:W.grownBy W' row)(hr:∀r,row=some r->∃o:Obj,W.heap[r]? =some o∧o.isCells=false):Gg W' B A n c rs:=by
 have hf:Fr (λ b=>row=some b) W W':=⟨hg.os,hg.tape,hg.output,hg.size,λ k hk q=>hg.block k hk (λ e=>q e.symm)⟩;have nc:∀{p:Addr} {v:Value},W.cell? p=some v->¬row=some p.block:=λ {p v} hp q=>by
  obtain⟨o,ho,hc⟩:=hr _ q;unfold World.cell? at hp;rw [ho] at hp
  cases o<;>simp_all [Obj.isCells]
 obtain⟨vs,ho,hrows⟩:=h.ex;refine⟨⟨vs,ho.frE hf (λ b o e=> ?_),λ i r hi=> ?_⟩,h.len,λ b o e=>⟨(h.own b o e).1,Nat.lt_of_lt_of_le (h.own b o e).2 hg.size⟩⟩
 ·rcases Nat.eq_zero_or_pos n with hn|hn
  ·rw [h0 hn] at e;cases e
  ·obtain⟨v,hv⟩:∃v,vs[0]? =some v:=⟨_,List.getElem?_eq_getElem (by have:=ho.sl.len;omega)⟩
   obtain⟨b',o',e',hc⟩:=ho.sl.cell 0 v hv;rw [e] at e';injection e' with e'
   injection e' with e1 _ _
   subst e1;exact nc hc
 ·obtain⟨A',c',q1,q2,q3⟩:=hrows i r hi
  refine⟨A',c',q1,q2.fr hf (λ b o hn e=> ?_),q3⟩;obtain⟨v,hv⟩:∃v,(cells r)[0]? =some v:=⟨_,List.getElem?_eq_getElem (by rw [jaa];exact hn)⟩;obtain⟨b',o',e',hc⟩:=q2.cell 0 v hv;rw [e] at e';injection e' with e'
  injection e' with e1 _ _
  subst e1;exact nc hc
theorem jgE {W W':World}{n c:Nat}{A:Option Addr}{xs:List Value}{row:Option Nat}(h:Sl W 1 A n c xs)(hg:W.grownBy W' row)(hr:∀r,row=some r->∃o:Obj,W.heap[r]? =some o∧o.isCells=false):Sl W' 1 A n c xs:=
 ⟨h.len,h.cap,h.top,λ j u hu=>by
  obtain⟨b,o,e,hc⟩:=h.cell j u hu;exact⟨b,o,e,cell_kept hc hg hr⟩⟩
structure In18 (w:World)(Bp Bn n3:Nat)(av:List Value)(pre:List Pc18)(W:World):Prop where
 row:∃A5 c5,W.heap[Bp]? =some (.cells #[.slice A5 pre.length c5] 101 (0,0))∧Gg W n3 A5 pre.length c5 (pre.map Pc18.b)∧(pre.length=0->A5=none)
 bel:Below w.heap.size w W
 area:W.rangeAt Bn 0 av
 size:n3<=W.heap.size
theorem In18.own {w:World}{Bp Bn n3:Nat}{av:List Value}(hw:w.heap.size<=n3)(hp:Bp<n3):OwnFrom n3 (In18 w Bp Bn n3 av):=λ s W W' row h hg hr=>by
 have hr':∀r,row=some r->∃o:Obj,W.heap[r]? =some o∧o.isCells=false:=λ r e=>(hr r e).2
 obtain⟨A5,c5,h1,h2,h3⟩:=h.row;exact⟨⟨A5,c5,(hg.block Bp (block_lt h1) (λ e=>by have:=(hr Bp e.symm).1;omega)).trans h1,h2.steps18 h3 hg hr',h3⟩,h.bel.grown hg h.bel.size (λ k e=>by have:=(hr k e).1;omega),λ j v hv=>cell_kept (h.area j v hv) hg hr',Nat.le_trans h.size hg.size⟩
theorem In18.next {w W w':World}{Bp Bn n3:Nat}{av:List Value}{pre:List Pc18}{x:Pc18}{A5 A':Option Addr}{c5 c':Nat}(hp:Bp<n3)(hn:Bn<n3)(hne:Bn≠Bp)(hw:w.heap.size<=Bp)(h:In18 w Bp Bn n3 av pre W)
  (h1:W.heap[Bp]? =some (.cells #[.slice A5 pre.length c5] 101 (0,0)))(h2:Gg W n3 A5 pre.length c5 (pre.map Pc18.b))(h3:pre.length=0->A5=none)
  (hg:Gg w' n3 A' (pre.length+1) c' (pre.map Pc18.b ++ [x.b]))(hf:Fr (Blk A5) (W.alloc (.cells #[x.val] 105)) w'):
  KeepsFrom n3 W (w'.setCell ⟨Bp,0,none⟩ (.slice A' (pre.length+1) c'))∧In18 w Bp Bn n3 av (pre ++ [x]) (w'.setCell ⟨Bp,0,none⟩ (.slice A' (pre.length+1) c'))∧w'.heap[Bp]? =some (.cells #[.slice A5 pre.length c5] 101 (0,0)):=by
 have hba:Below W.heap.size W (W.alloc (.cells #[x.val] 105)):=(Below.refl _ _).alloc (Nat.le_refl _) _;have hfW:Fr (Blk A5) W w':=(Fr.of_below hba).trans hf;have hA:∀k,Blk A5 k->n3<=k:=λ k ⟨o,e⟩=>(h2.own k o e).1
 have hsz:=hfW.size;have hrow:w'.heap[Bp]? =some (.cells #[.slice A5 pre.length c5] 101 (0,0)):=hfW.row_some h1 (λ q=>by have:=hA _ q;omega);have hrow2:=heap_setCell_same w' Bp 0 _ _ (.slice A' (pre.length+1) c') hrow;have hfs:Fr (λ b=>b=Bp) w' (w'.setCell ⟨Bp,0,none⟩ (.slice A' (pre.length+1) c')):=(Fr.refl (λ b=>b=Bp) w').setCell (p:=⟨Bp,0,none⟩) (.inr rfl) _;have hin:∀{o:Nat} {u:UInt8},w'.cell? ⟨Bp,o,none⟩≠some (bv u):=λ {o u} q=>by
  rw [cell_of_row _ _ _ _ _ _ hrow] at q
  rcases o with _|o
  ·simp [bv] at q
  ·simp at q
 refine⟨⟨Nat.le_trans hsz hfs.size,λ k o hk hko hc=> ?_⟩,⟨⟨A',c', ?_, ?_,λ h0=> ?_⟩, ?_,λ j v hv=> ?_, ?_⟩,hrow⟩
 ·have hlt:k<W.heap.size:=(Array.getElem?_eq_some_iff.1 hko).1
  have e1:=hfW.block k hlt (λ ⟨o',e⟩=>by
   rcases Nat.eq_zero_or_pos pre.length with h0|h0
   ·rw [h3 h0] at e;cases e
   ·obtain⟨vs,ho,_⟩:=h2.ex
    obtain⟨v,hv⟩:∃v,vs[0]? =some v:=⟨_,List.getElem?_eq_getElem (by have:=ho.sl.len;omega)⟩;obtain⟨b',o2,e',hcc⟩:=ho.sl.cell 0 v hv;rw [e] at e';injection e' with e'
    injection e' with e1 _ _
    subst e1;unfold World.cell? at hcc;rw [hko] at hcc
    cases o<;>simp_all [Obj.isCells])
  exact(hfs.block k (by omega) (λ q=>by have q:k=Bp:=q;omega)).trans (e1.trans hko)
 ·rw [List.length_append,List.length_cons,List.length_nil]
  exact hrow2
 ·obtain⟨vs,ho,hrows⟩:=hg.ex
  rw [List.map_append,List.map_cons,List.map_nil,List.length_append,List.length_cons,List.length_nil];refine⟨⟨vs,ho.frE hfs (λ b o e q=> ?_),λ i r hi=> ?_⟩,hg.len,λ b o e=>⟨(hg.own b o e).1,Nat.lt_of_lt_of_le (hg.own b o e).2 hfs.size⟩⟩
  ·have q:b=Bp:=q
   have:=(hg.own b o e).1;omega
  ·obtain⟨A2,c2,q1,q2,q3⟩:=hrows i r hi
   refine⟨A2,c2,q1,q2.fr hfs (λ b o hn e q=> ?_),q3⟩;have q:b=Bp:=q;subst q;obtain⟨u,hu⟩:∃u,r[0]? =some u:=⟨_,List.getElem?_eq_getElem hn⟩;obtain⟨b',o',e',hc⟩:=q2.cell 0 (bv u) (by simp [cells,hu]);rw [e] at e';injection e' with e'
   injection e' with e1 _ _
   subst e1;exact hin hc
 ·rw [List.length_append,List.length_cons] at h0
  omega
 ·exact(h.bel.trans (hfW.below h.bel.size (λ b hb=>by have:=hA b hb;omega))).trans (hfs.below (Nat.le_trans h.bel.size hsz) (λ b hb=>by have hb:b=Bp:=hb;omega))
 ·exact hfs.cell_some (hfW.cell_some (h.area j v hv) (λ q=>by have q:Blk A5 Bn:=q;have:=hA _ q;omega)) (λ q=>hne q)
 ·have:=hfs.size
  have:=h.size;omega
theorem Pc18.own (W0:World)(n3:Nat):OwnFrom n3 (λ x=>Pc18.X x W0):=λ x W W' row h hg hr=>by
 have hr':∀r,row=some r->∃o:Obj,W.heap[r]? =some o∧o.isCells=false:=λ r e=>(hr r e).2
 exact⟨jgE h.1 hg hr',h.2.1,λ p v hp=>cell_kept (h.2.2 p v hp) hg hr'⟩
theorem jgb {w:World}{B n c g:Nat}{A:Option Addr}{rs:List (List UInt8)}(h:Gg w B A n c rs)(hB:B<=w.heap.size)(A1:Option Addr)(n1 c1:Nat)(r:List UInt8)(hn1:n1=r.length)(hr:Sl w 1 A1 n1 c1 (cells r))(hoth:Oth A A1 n1)
  (hg:w.heap[g]? =some (.cells #[.slice A1 n1 c1] 105 (0,0)))(h40:n+1<=1048576):
  ∃A' c' w',(Builtin.append_ #[101,101] 101 #[.slice A n c, .slice (some ⟨g,0,none⟩) 1 1]).run Tryz.prog w= .ok (.slice A' (n+1) c') w' ∧Gg w' B A' (n+1) c' (rs ++ [r])∧Fr (Blk A) w w':=by
 subst hn1;have hs:=Gr.one hg hr;obtain⟨i0,hi,hz0,hz1,hz2⟩:=info_parts jgH;obtain⟨vs,hown,hrs⟩:=h.ex;obtain⟨vs2,hsl2,hrs2⟩:=hs.ex;have hone:=jh8 (jgv hsl2 hs.len hrs2);obtain⟨A',c',w',hrun,h2,hfr,hA',hown'⟩:=jcG (P:=Tryz.prog) 101 101 101 i0 (.slice none 0 0) 24 Tryz.underlying101 hi hz0 hz1 hz2 rfl (by decide) hown hB h.own (.slice (some ⟨g,0,none⟩) 1 1) 1 vs2 (hsl2.src Tryz.underlying101 (by decide) hone) (by unfold maxLen;omega) (by omega);refine⟨A',c',w',hrun,⟨⟨vs++vs2,h2,λ i r' hir=> ?_⟩,by rw [List.length_append,h.len,hs.len],hown'⟩,hfr⟩;have hvl:=hown.sl.len;rw [Nat.mul_one] at hvl;have new:∀A'' c'',Sl w 1 A'' r'.length c'' (cells r')->Oth A A'' r'.length->Sl w' 1 A'' r'.length c'' (cells r')∧Oth A' A'' r'.length:=by
  intro A'' c'' hsr hot;refine⟨hsr.oth hfr hot,λ b o o' hn e e' => ?_⟩
  rcases hA' with rfl|rfl
  ·exact hot b o o' hn e e'
  ·injection e' with e'
   injection e' with e' _
   have:=hsr.lt (by decide) hn e;omega
 rcases Nat.lt_or_ge i n with hlt|hge
 ·rw [List.getElem?_append_left (by rw [h.len];exact hlt)] at hir
  obtain⟨A'',c'',e1,e2,e3⟩:=hrs i r' hir;exact⟨A'',c'',by rw [List.getElem?_append_left (by rw [hvl];exact hlt)];exact e1,new A'' c'' e2 e3⟩
 ·rw [List.getElem?_append_right (by rw [h.len];exact hge),h.len] at hir
  obtain⟨A'',c'',e1,e2⟩:=hrs2 (i-n) r' hir;refine⟨A'',c'',by rw [List.getElem?_append_right (by rw [hvl];exact hge),hvl];exact e1,new A'' c'' e2 ?_⟩;have hi2:i-n=0:=by
   rcases Nat.eq_zero_or_pos (i-n) with h' |h'
   ·exact h'
   ·rw [List.getElem?_eq_none (by simp;omega)] at hir
    cases hir
  rw [hi2] at hir e1;injection hir with hir
  subst hir;have hc0:=hsl2.at_ (k:=0) (by decide);obtain⟨b,o',e,hcc⟩:=hc0;injection e with e
  injection e with eb eo
  subst eb;subst eo;have hcell:=hcc 0 _ e1;rw [cell_of_row _ _ _ _ _ _ hg] at hcell;simp at hcell;obtain⟨rfl,_⟩:=hcell;exact hoth
theorem jev {P:Program}{F:Fence}{n:Nat}{ops:Array Oper}{rest:List Oper}{o:Oper}{a:Act}{Q:Exit->Act->World->Prop}{w w':World}{v1 v2 v:Value}(t:TypeId)(hg:o.guard=none)(s x:Operand)(hop:o.op= .call {callee:= .builtin .append,args:= #[s,x],argTypes:= #[t,t]})
  (hs:a.eval s=v1)(hx:a.eval x=v2)(hrun:(Builtin.append_ #[t,t] o.type #[v1,v2]).run P w= .ok v w')(hk:wpListIn F n P ops Q rest (a.put o.dst v) w'):wpListIn F n P ops Q (o::rest) a w:=by
 refine wpListIn_plain hg λ K hK=> ?_
 unfold Oper.wpIn;refine⟨?_, ?_⟩
 ·simp [Oper.about,hop,resolve,Target.leads,Sem.run_pure]
 ·rw [Oper.semAt_plain F _ _ (by rw [hop];intro c hc';cases hc')]
  simp [execOp,hop,resolve,invoke,builtin,hs,hx,hrun,Result.andThen];exact hK _ _ hk
theorem Rcs.steps18 {W W':World}{n c:Nat}{A:Option Addr}{l:List RvF}{row:Option Nat}(h:Rcs W A n c l)(hg:W.grownBy W' row)(hr:∀r,row=some r->∃o:Obj,W.heap[r]? =some o∧o.isCells=false):Rcs W' A n c l:=
 ⟨h.len,h.cap,h.top,λ i x hx=>by
  obtain⟨b,o,e,h1,h2⟩:=h.cell i x hx;refine⟨b,o,e,λ j u hu=>cell_kept (h1 j u hu) hg hr,h2.len,h2.cap,h2.top,λ i v hv=> ?_⟩;obtain⟨b,o,e,h3,h4⟩:=h2.cell i v hv;exact⟨b,o,e,λ j u hu=>cell_kept (h3 j u hu) hg hr,jgE h4 hg hr⟩⟩
theorem jiE (M:Nat):∀(l:List (List UInt8)),(∀b∈l,b.length<=M)->l.flatten.length<=l.length*M
 | [],_=>by simp
 |b::r,h=>by
  rw [List.flatten_cons,List.length_append,List.length_cons,Nat.add_mul,Nat.one_mul];have h1:=h b (List.mem_cons_self ..);have h2:=jiE M r λ c hc=>h c (List.mem_cons_of_mem _ hc)
  omega
theorem nm18 (o e i:Nat):Value.agg #[.int .u8 (((2:UInt8).toNat:Nat):Int), .int .i64 ((o+i:Nat):Int), .int .u64 (genN e (i:Int):Int)]=nmV o e i:=rfl
theorem jl5 (A C o sl e:Nat)(w:World):Calls Tryz.prog 72 #[.agg (arV A C o sl e).toArray] w λ e' w' =>e' = .returned (.func (.func 112) #[] #[.pointer (some ⟨w.heap.size,0,none⟩)])∧w' =w.alloc (.cells (arV A C o sl e).toArray 82):=by
 unfold arV;go_enter Tryz.func72,Tryz.ntmps72;go_wp2_with fail;go_ret;exact⟨rfl,rfl⟩
section
variable {Rep:World->(Nat->Prop)->Nat->Dv->Prop}{w:World}{S:Nat->Prop}{A C k m F T N o sl e:Nat}{xs:List Dv}{R:List (List UInt8)}
theorem jjU (DK:DrvK Rep)(SV:StrV Rep (λ k n G=>k<=cntG n G))(SL:StrL Rep)(h:Ac13 Rep w S A C k m F T N xs)(h1:1<=sl)(h2:sl<=64)(h3:o+sl<=N)(h4:N<=600)(h5:e<1099511627776)(hg:Got xs k (k+m) N o e sl R):
  Calls Tryz.prog 29 #[.pointer (some ⟨A,0,none⟩), .pointer (some ⟨C,0,none⟩), .int .i64 (o:Int), .int .i64 (sl:Int), .int .u64 (e:Int)] w λ e' w' =>∃A' c' vs,e' = .returned (.tuple #[.slice A' vs.length c', .int .i64 ((repF R).2:Int)])∧Rcs w' A' vs.length c' vs∧vs.map RvF.x=(repF R).1∧Below w.heap.size w w':=by
 have hri:=λ W (hb:Below w.heap.size w W)=>jgB DK o sl e (h.later DK hb) h1 h2 h3 h4 h5
 have HRI:=qH hri;have r0:=jec w A C o sl e;have hb0:Below w.heap.size w (w.alloc (.cells (arV A C o sl e).toArray 82)):=(Below.refl _ _).alloc (Nat.le_refl _) _;obtain⟨wa,hwa⟩:∃x,x=w.alloc (.cells (arV A C o sl e).toArray 82):=⟨_,rfl⟩;rw [<-hwa] at r0 hb0;have B0:=qH hb0;have R0:=qH r0;have HA:=qH hwa;have AC:=qH h;have HG:=qH hg;have H1:=qH h1;have H5:=qH h5;clear h h1 h5 hri r0 hb0 hwa hg;refine callsIn_wide.1 (callsIn_of_wp_marks (F:=Fence.wide) (n:=2) Tryz.func29 rfl trivial (wpIn_wide.2 ?_) rfl);simp only [Tryz.ntmps29,List.size_toArray,List.length_cons,List.length_nil,Nat.reduceAdd,Nat.reduceSub,Array.replicate_succ,Array.replicate_zero,List.push_toArray,List.append_toArray,List.nil_append,List.cons_append];go_wp2_with fail
 have hwa:w.alloc (.cells #[.pointer (some ⟨A,0,none⟩), .pointer (some ⟨C,0,none⟩), .int .i64 (o:Int), .int .i64 (sl:Int), .int .u64 (e:Int)] 82)=wa:=HA.out.symm;rw [hwa];refine(HRI.out wa B0.out).mono ?_;rintro e' w1 ⟨rfl,hb1⟩;have B1:=qH (B0.out.trans (hb1.mono B0.out.size));have R1:=qH (jbL R0.out hb1);have sz:=qH (ja5 A C o sl e);clear hb1 hwa;obtain⟨w2,hw2⟩:∃x,x=w1.alloc (.cells #[.slice none 0 0] 101):=⟨_,rfl⟩;have hb2:Below w1.heap.size w1 w2:=by rw [hw2];exact(Below.refl _ _).alloc (Nat.le_refl _) _
 have B2:=qH (B1.out.trans (hb2.mono B1.out.size));have R2:=qH (jbL R1.out hb2);have HW2:=qH hw2;clear hw2 hb2;go_wp2_with (first|(rw [<-HW2.out])|(refine jaj (d:=24) ?_;refine jad (o:=⟨some 24,_,_,_,_,_⟩) (by rfl) _ _ (jah rfl rfl R2.out Tryz.underlying82 rfl sz.out) ?_));refine(jl5 A C o sl e w2).mono ?_;rintro e' w3 ⟨rfl,hw3⟩;have hb3:Below w2.heap.size w2 w3:=by rw [hw3];exact(Below.refl _ _).alloc (Nat.le_refl _) _
 have R3:=qH (show w3.rangeAt w2.heap.size 0 (arV A C o sl e) from by rw [hw3];exact jec w2 A C o sl e);have hs2:w2.heap.size=w1.heap.size+1:=by rw [HW2.out];simp
 have hs3:w3.heap.size=w2.heap.size+1:=by rw [hw3];simp
 have P3:=qH (show w3.heap[w1.heap.size]? =some (.cells #[.slice none 0 0] 101 (0,0)) from (hb3.block _ (by omega)).trans (by rw [HW2.out];exact heap_alloc_new w1 _));have B3:=qH (B2.out.trans (hb3.mono B2.out.size));have SZ:=qH (show w.heap.size<=w1.heap.size∧w1.heap.size<w2.heap.size∧w2.heap.size<w3.heap.size from ⟨B1.out.size,by omega,by omega⟩);clear hw3 hb3 hs2 hs3 R2;go_wp2_with fail;refine jl4 (α:=Pc18) (Nb:=65) (gf:=112) (lb:= #[.pointer (some ⟨w2.heap.size,0,none⟩)]) rfl (enters_of Tryz.func112 (by kernel_rfl) rfl) (encs:=λ x=> #[.slice x.A x.b.length x.c]) (S:=λ l=>l.map Pc18.b=R) (H:=λ V=>Ac13 Rep V S A C k m F T N xs∧V.rangeAt w2.heap.size 0 (arV A C o sl e)) (X:=Pc18.X)
  ?hit (λ _=>rfl) (In18 w w1.heap.size w2.heap.size w3.heap.size (arV A C o sl e)) (In18.own (by have:=SZ.out;omega) (by have:=SZ.out;omega)) (λ W0=>Pc18.own W0 _) (λ s V hI=>⟨AC.out.later DK hI.bel,hI.area⟩) ?start
  (λ x=>{tmps:= #[.pointer (some ⟨A,0,none⟩), .pointer (some ⟨C,0,none⟩), .int .i64 (o:Int), .int .i64 (sl:Int), .int .u64 (e:Int),undef,undef,undef,undef,undef, .slice none 0 0, .int .i64 0, .pointer (some ⟨w.heap.size,0,none⟩), .pointer (some ⟨w1.heap.size,0,none⟩),(.slice x.A x.b.length x.c), .pointer (some ⟨A,0,none⟩), .pointer (some ⟨C,0,none⟩), .int .i64 (o:Int), .int .i64 (sl:Int), .int .u64 (e:Int), .agg (arV A C o sl e).toArray, .agg (arV A C o sl e).toArray, .bool true, .bool false, .agg (arV A C o sl e).toArray, .func (.func 112) #[] #[.pointer (some ⟨w2.heap.size,0,none⟩)],(.slice x.A x.b.length x.c),undef,undef,undef,undef,undef,undef,undef,undef],defers:= []}) ?assign ?body ?done
 case hit=>
  intro l J W hJ hH hY hJ0;refine jjT (H:=λ V=>Ac13 Rep V S A C k m F T N xs) l J W (by omega) h2 H5.out HG.out.len (λ V i hV hi hle=> ?_) hJ hH hY hJ0
  rcases Nat.lt_or_ge i R.length with hlt|hge
  ·obtain⟨b,hb⟩:∃b,R[i]? =some b:=⟨_,List.getElem?_eq_getElem hlt⟩
   obtain⟨G,g1,g2,g3⟩:=HG.out.yes i b hb;have hc:=SV.get hV g1 (by omega) g2 g3;rw [nm18 o e i] at hc;refine hc.mono ?_;rintro e' V' ⟨A2,n2,c2,he,hn⟩;obtain rfl:n2=b.length:=by have:=hn.1.len;rw [jaa,Nat.mul_one] at this;exact this.symm
   exact .inl ⟨b,A2,c2,hb,he,hn⟩
  ·obtain rfl:R.length=i:=by omega
   obtain⟨b,G,g1,g2,g3⟩:=HG.out.no hi;have hc:=SL V S A C k m F T N xs 2 _ _ b G hV g1 (by omega) g2 g3;rw [nm18 o e R.length] at hc;refine hc.mono ?_;rintro e' V' ⟨A2,n2,c2,he,hb⟩;exact .inr ⟨rfl,A2,n2,c2,he,hb⟩
 case start=>exact⟨⟨none,0,P3.out,Gg.nil _ _,λ _=>rfl⟩,B3.out,R3.out,Nat.le_refl _⟩
 case assign=>
  intro l x W K hK
  gi_wp2
  exact hK
 case body=>
  rintro l pre x W0 W hpl hi0 hi hx;obtain⟨A5,c5,q1,q2,q3⟩:=hi.row;obtain⟨A6,c6,r1,r2,r3⟩:=hi0.row;have hc0:W.cell? ⟨w1.heap.size,0,none⟩=some (.slice A6 pre.length c6):=hx.2.2 _ _ (by rw [cell_of_row _ _ _ _ _ _ r1];rfl);have hc1:W.cell? ⟨w1.heap.size,0,none⟩=some (.slice A5 pre.length c5):=by rw [cell_of_row _ _ _ _ _ _ q1];rfl
  obtain⟨rfl,rfl⟩:A5=A6∧c5=c6:=by
   rw [hc1] at hc0;injection hc0 with hc0
   injection hc0 with e1 _ e2
   exact⟨e1,e2⟩
  have hoth:Oth A5 x.A x.b.length:=λ b o1 o2 hn e1 e2=>by
   have:=hx.2.1 b o1 hn e1;have:=(r2.own b o2 e2).2;omega
  have hba:Below W.heap.size W (W.alloc (.cells #[(.slice x.A x.b.length x.c)] 105)):=(Below.refl _ _).alloc (Nat.le_refl _) _;obtain⟨A',c',w',hrun,hg',hf'⟩:=jgb (q2.later hba) (Nat.le_trans hi.size hba.size) x.A x.b.length x.c x.b rfl (hx.1.below hba (Nat.le_refl _)) hoth (heap_alloc_new W _) (by omega);obtain⟨hk,hin,hrow⟩:=In18.next (by have:=SZ.out;omega) (by have:=SZ.out;omega) (by have:=SZ.out;omega) (by have:=SZ.out;omega) hi q1 q2 q3 hg' hf';have KK:=qH hk;have II:=qH hin;have fz:w'.frozen? ⟨w1.heap.size,0,none⟩=false:=frozen_of_row _ _ _ _ _ hrow;have cz:w'.cell? ⟨w1.heap.size,0,none⟩=some (.slice A5 pre.length c5):=by rw [cell_of_row _ _ _ _ _ _ hrow];rfl
  clear hk hin hrow hg' hf' hba hoth hc0 r1 r2 r3 q1 q2 q3 hi hi0 hx
  gi_wp2_with (gi_at_builtin;refine jev 101 rfl _ _ rfl rfl rfl hrun ?_;clear hrun)
  exact⟨KK.out,II.out⟩
 case done=>
  rintro D ys W hD hS hI hK;obtain⟨A5,c5,q1,q2,q3⟩:=hI.row;have hyl:ys.length=R.length:=by rw [<-hS,List.length_map]
  have hc1:W.cell? ⟨w1.heap.size,0,none⟩=some (.slice A5 ys.length c5):=by rw [cell_of_row _ _ _ _ _ _ q1];rfl
  have hgr:=q2.gr;rw [hS] at hgr;have hk2:=AC.out.c.n255;have hm64:=HG.out.len;have hfl:=jiE (44*k) R λ b hb=>by
   obtain⟨i,hi⟩:=List.getElem?_of_mem hb;obtain⟨G,g1,g2,g3⟩:=HG.out.yes i b hi;exact g1.z
  have hfl2:R.flatten.length<=1000000:=by
   have h6:R.length*(44*k)<=64*(44*k):=Nat.mul_le_mul_right _ (by omega);omega
  have hrec:=jiD A5 ys.length c5 R W hgr hfl2 (by omega) (AC.out.later DK hI.bel).nt;have BW:=qH hI.bel;have HK:=qH hK;have HD:=qH (show w.heap.size<=D from by have:=SZ.out;omega);clear q1 q2 q3 hgr hfl hfl2 hk2 hm64 hI hK hD hyl hS;dsimp only;go_wp2_with fail;refine hrec.mono ?_;clear hrec;rintro e' W2 ⟨A',c',vs,rfl,hrc,hmap,hb⟩;have hK2:W2.heap[D]? =some (.deferred (some [])):=(hb.block D (Array.getElem?_eq_some_iff.1 HK.out).1).trans HK.out;have BW2:=qH (BW.out.trans (hb.mono BW.out.size));have RC:=qH hrc;have HM:=qH hmap;have HK2:=qH hK2;clear hrc hmap hb hK2;go_wp2_with fail;refine⟨by simp, .inl ⟨_,_,rfl,run_takeDeferred HK2.out, ?_⟩⟩;refine⟨_,results_tmp2 rfl _ _ _, ?_⟩;have hgb:=grownBy_putObj' W2 D (.deferred none);have hro:∀r,some D=some r->∃o:Obj,W2.heap[r]? =some o∧o.isCells=false:=λ r e=>by
   injection e with e
   subst e;exact⟨_,HK2.out,rfl⟩
  exact⟨A',c',vs,rfl,RC.out.steps18 hgb hro,HM.out,BW2.out.grown hgb BW2.out.size (λ k e=>by injection e with e;have:=HD.out;omega)⟩
end
end
section
open Go.RowKit Go.Proofs
set_option maxRecDepth 20000
set_option maxHeartbeats 3200000
theorem jou {w:World}{P A C o sl e u:Nat}(h:LgB w P A C o sl e u)(hu:u<=sl)(hs:sl<=64)(ho:o<=600)(he:e<1099511627776):
  Calls Tryz.prog 36 #[.pointer (some ⟨P,0,none⟩)] w λ e' w' =>∃A' c',e' = .returned (.slice A' u c')∧Below w.heap.size w w':=by
 have HM:=qH (jit h);have L0:=qH h;have HE:=qH he;have hmk:=jlZ (u:Int) u rfl (by omega);obtain⟨w1,hw1⟩:∃x,x=w.alloc (.cells (madeCells (r3c (0,0,0)).toArray (u*3)) 109):=⟨_,rfl⟩;have hb1:Below w.heap.size w w1:=by rw [hw1];exact(Below.refl _ _).alloc (Nat.le_refl _) _
 have hrw:Rw w1 w.heap.size 109 3 u u ((List.replicate u (0,0,0)).flatMap r3c):=by rw [hw1];exact Rw.refs15 w u (by omega)
 have HW:=qH hw1;have B1:=qH hb1;have R1:=qH hrw;have PW:=qH h.lt;clear h he hw1 hb1 hrw;go_enter Tryz.func36,Tryz.ntmps36;go_wp2_with fail;refine HM.out.mono ?_;clear HM;rintro e' w2 ⟨rfl,hw⟩;obtain rfl:w=w2:=hw.symm;go_wp2_with (rw [<-HW.out]);clear hmk;go_loopw [10] (λ iv wr=>∃(i:Nat) (l:List (Int × Int × Int)),iv= .int .i64 (i:Int)∧i<=u∧l.length=u∧Rw wr w.heap.size 109 3 u u (l.flatMap r3c)∧Below w.heap.size w wr) (λ iv _=>u-(intOf iv).toNat)
 case atStart=>exact⟨0,_,rfl,by omega,List.length_replicate ..,R1.out,B1.out⟩
 case round=>
  obtain⟨i,l,rfl,hi,hl,hr,hb⟩:=hrel;have RR:=qH hr;have BB:=qH hb;have HL:=qH hl;have LR:=qH (L0.out.later hb);clear hr hb hl
  by_cases hlt:i<u
  ·have hii:(i:Int)<(u:Int):=by omega
   have HSZ:=qH (ja5 A C o sl e);go_wp2_with (refine jaj (d:=18) ?_;refine jad (o:=⟨some 18,_,_,_,_,_⟩) (by rfl) _ _ (jah rfl rfl LR.out.area Tryz.underlying82 rfl HSZ.out) ?_);refine(jfX A C o sl e i ho (by omega) HE.out wr).mono ?_;rintro e' w3 ⟨rfl,hb3⟩;have R3:=qH (RR.out.later hb3);have B3:=qH (BB.out.trans (hb3.mono BB.out.size));have th:=qH (R3.out.there (o:=i*3) (m:=3) (by have:(i+1)*3<=u*3:=Nat.mul_le_mul_right _ hlt;omega));clear hb3;unfold nmV;go_wp2_with (refine jek ?_;refine wpList_store_mid (op:=⟨none,_,_,_,_,_⟩) rfl 109 (.tmp 21) (.tmp 20) rfl w.heap.size (i*3) (r3c (2,((o+i:Nat):Int),(genN e (i:Int):Int))).toArray rfl rfl th.out (jkH _) (all_oneCell_toArray (jjN _)) ?_);have hset:=R3.out.refSet HL.out hlt (2,((o+i:Nat):Int),(genN e (i:Int):Int));go_roundw
   case rel=>exact⟨i+1,_,by go_num,by omega,by rw [List.length_set];exact HL.out,hset,B3.out.trans ((Fr.refl (λ b=>b=w.heap.size) w3).setCells _ rfl |>.below B3.out.size (λ b hb=>by have hb:b=w.heap.size:=hb;omega))⟩
   case measure=>simp [intOf];omega
  ·obtain rfl:u=i:=by omega
   go_wp2_with fail;go_ret;exact⟨_,_,rfl,BB.out⟩
theorem jrG {k:Nat}{x:jcP}(h:okR x.2=true):jby k x=(jaA k x).length:=by rw [jby,if_pos h,jbz]
theorem lgK {Rep:World->(Nat->Prop)->Nat->Dv->Prop}(DK:DrvK Rep)(SV:StrV Rep (λ k n G=>k<=cntG n G))(SL:StrL Rep):LgK Rep LgB where
 fr:=λ h hf hU=>h.fr hf hU
 lt:=λ h=>h.lt
 new:=λ o sl e h h1 h2 h3 h4 h5=>jp4 DK o sl e h h1 h2 h3 h4 h5
 need:=λ {w S A C k m F T N P o sl e u xs} v h hl hv hf=>by
  by_cases hr:okR v.x.2=true
  ·rw [jrG hr]
   exact jos v h.c h.nt hl hv hf hr
  ·have hr2:okR v.x.2=false:=by simpa using hr
   rw [jby,if_neg hr];exact jp6 v h.c h.nt hl hv hf hr2
 left:=λ h hu hs=>jfW h hu hs
 used:=λ h hu hs=>(jit h).mono λ e' w' ⟨h1,h2⟩=>⟨h1,by rw [h2];exact Below.refl _ _⟩
 epoch:=λ h he=>(jl0 h).mono λ e' w' ⟨h1,h2⟩=>⟨h1,by rw [h2];exact Below.refl _ _⟩
 refs:=λ h hu hs ho he=>jou h hu hs ho he
 append:=λ v h hp hw hS hl hu hs ho hN he hv hf hr hn=>by
  rw [jrG hr] at hn ⊢;exact jjR DK SV v h hp hw hS hl hu hs ho hN he hv hf hr hn
 appendNo:=λ {w S A C k m F T N P o sl e u xs} v h hl hu hs hv hf hn=>by
  by_cases hr:okR v.x.2=true
  ·rw [if_pos hr]
   exact jiC DK v h.c h.nt hl hu hs hv hf hr (by
    rw [<-jrG hr];exact Nat.lt_of_not_le λ q=>hn ⟨hr,q⟩)
  ·have hr2:okR v.x.2=false:=by simpa using hr
   rw [if_neg hr];exact jl3 DK v h.c h.nt hl hu hs hv hf hr2
 replay:=λ o sl e h h1 h2 h3 h4 h5 hg=>jjU DK SV SL h h1 h2 h3 h4 h5 hg
end
section
open Go.RowKit Go.Proofs
section
variable {xs:List Dv}{k n N:Nat}{kd:UInt8}{p g:Nat}{b:List UInt8}{G H:Nat->Bool}
def jdw (k n o e d:Nat):List (List UInt8)->Nat->List (Nat × List UInt8)
 | [],_=> []
 |b::r,u=>(o+u,jib k n 2 (o+u) (genN e (u:Int)) b d)::jdw k n o e d r (u+1)
theorem jew (q:Nat × List UInt8)(l:List (Nat × List UInt8))(i:Nat):Dv.lastW (q::l) i=(match Dv.lastW l i with|some b=>some b|none=>if q.1=i then some q.2 else none):=rfl
theorem jhn {o e d:Nat}:∀(ps:List (List UInt8)) (u:Nat) (ks:List Bool) (q:Nat),q<o+u∨o+u+ps.length<=q->Dv.lastW (Dv.kept (jdw k n o e d ps u) ks) q=none
 | [],_,ks,_,_=>by cases ks<;>rfl
 |b::r,u, [],_,_=>rfl
 |b::r,u,c::ks,q,h=>by
  rw [List.length_cons] at h;have ih:=jhn (o:=o) (e:=e) (d:=d) r (u+1) ks q (by omega)
  show Dv.lastW (if c=true then(o+u,_)::Dv.kept (jdw k n o e d r (u+1)) ks else Dv.kept (jdw k n o e d r (u+1)) ks) q=none
  split
  ·rw [jew,ih]
   exact if_neg (by omega)
  ·exact ih
theorem jov {o e d:Nat}:∀(ps:List (List UInt8)) (u:Nat) (ks:List Bool) (i:Nat) (b:List UInt8),ps[i]? =some b->Dv.lastW (Dv.kept (jdw k n o e d ps u) ks) (o+u+i)=if ks.getD i false=true then some (jib k n 2 (o+u+i) (genN e ((u+i:Nat):Int)) b d) else none
 | [],_,_,_,_,h=>by simp at h
 |c::r,u, [],i,b,h=>by
  rw [List.getD_eq_getElem?_getD]
  rfl
 |c::r,u,x::ks,0,b,h=>by
  simp at h;subst h;have h0:=jhn (k:=k) (n:=n) (o:=o) (e:=e) (d:=d) r (u+1) ks (o+u) (by omega)
  show Dv.lastW (if x=true then(o+u,_)::Dv.kept (jdw k n o e d r (u+1)) ks else Dv.kept (jdw k n o e d r (u+1)) ks) (o+u)=_
  rw [List.getD_cons_zero]
  split
  ·rw [jew,h0]
   exact if_pos rfl
  ·exact h0
 |c::r,u,x::ks,i+1,b,h=>by
  rw [List.getElem?_cons_succ] at h;have ih:=jov (o:=o) (e:=e) (d:=d) r (u+1) ks i b h;rw [show o +(u+1)+i=o+u +(i+1) from by omega,show u+1+i=u +(i+1) from by omega] at ih
  show Dv.lastW (if x=true then(o+u,_)::Dv.kept (jdw k n o e d r (u+1)) ks else Dv.kept (jdw k n o e d r (u+1)) ks) (o+u +(i+1))=_
  rw [List.getD_cons_succ]
  split
  ·rw [jew,ih]
   by_cases hb:ks.getD i false=true
   ·rw [if_pos hb]
   ·rw [if_neg hb]
    exact if_neg (by omega)
  ·exact ih
variable {f:Nat->Option (Nat × List UInt8)}
theorem puts_wait {o e:Nat}(hk:1<=k)(hk2:k<=1000)(hN:N<=65536):∀(ps:List (List UInt8)) (u:Nat) (xs:List Dv),xs.length=n->o+u+ps.length<=N->(∀b∈ps,b.length<=44*k)->∀(d:Nat) (x:Dv),xs[d]? =some x->x.n=N->x.gone=false->
  (jbq k n o e ps u xs)[d]? =some ⟨x.st,x.rot,x.wait++jdw k n o e d ps u,x.gone⟩
 | [],_,_,_,_,_,d,x,hx,_,_=>by rw [jbq,jdw,List.append_nil];exact hx
 |b::r,u,xs,hl,hn,hb,d,x,hx,h2,h3=>by
  rw [List.length_cons] at hn;have hr:=jiv (k:=k) (p:=o+u) (g:=genN e (u:Int)) (z:=b.length) (by omega) (jc1 _ _) (hb b (List.mem_cons_self ..)) hk2;have hw:=Dv.write_yes h3 (jcO h2 (show o+u<N by omega)) (jcr (n:=n) (b:=b) (d:=d) hk hr);have hx2:(jaS k n 2 (o+u) (genN e (u:Int)) b xs)[d]? =some ⟨x.st,x.rot,x.wait ++ [(o+u,jib k n 2 (o+u) (genN e (u:Int)) b d)],x.gone⟩:=by
   rw [jaS,jaV hx,if_pos (by have:=jaF hx;omega),hw,Int.toNat_natCast]
  have ih:=puts_wait (o:=o) (e:=e) hk hk2 hN r (u+1) _ (by rw [jct];exact hl) (by omega) (λ c hc=>hb c (List.mem_cons_of_mem _ hc)) d _ hx2 h2 h3;rw [jbq,ih,jdw,List.append_assoc]
  rfl
theorem je0 {o e u d:Nat}{ps:List (List UInt8)}{kss:List (List Bool)}(hk:1<=k)(hk2:k<=1000)(hN:N<=65536)(h:Pls xs k n N f)(hi:Idle xs)(hn:o+u+ps.length<=N)(hb:∀b∈ps,b.length<=44*k){y:Dv}(hy:(jbC (jbq k n o e ps u xs) kss n)[d]? =some y):
  ∃x,xs[d]? =some x∧y.Ok∧y.n=N∧y.gone=false∧∀q,q<N->y.look q=(Dv.lastW (Dv.kept (jdw k n o e d ps u) (kss.getD d [])) q).getD (x.look q):=by
 have hd:=jaF hy;rw [jbK,jcu] at hd;have hx:xs[d]? =some (xs[d]):=List.getElem?_eq_getElem hd;obtain⟨h1,h2,h3⟩:=h.live d _ hx;have hwt:=hi d _ hx;have hp:=puts_wait (e:=e) hk hk2 hN ps u xs h.len hn hb d _ hx h2 h3;have hok:(⟨(xs[d]).st,(xs[d]).rot,(xs[d]).wait++jdw k n o e d ps u,(xs[d]).gone⟩:Dv).Ok:=by
  have hpl:=(Pls.puts (o:=o) (e:=e) hk hk2 hN ps u xs f h hn hb).live d _ hp;exact hpl.1
 rw [jbC,jaV hp,if_pos (by have:=h.len;omega)] at hy;injection hy with hy
 refine⟨_,hx,by rw [<-hy];exact hok.crash _,by rw [<-hy,Dv.crash_n];exact h2,by rw [<-hy,Dv.crash_gone];exact h3,λ q hq=> ?_⟩;rw [<-hy,Dv.crash_look hok h3 _ (by show q<(xs[d]).n;omega)]
 show (Dv.lastW (Dv.kept ((xs[d]).wait++jdw k n o e d ps u) (kss.getD d [])) q).getD ((xs[d]).st.getD q [])=_
 rw [hwt,List.nil_append,show (xs[d]).look q=(xs[d]).st.getD q [] from by rw [Dv.look,hwt];rfl]
theorem jcJ {o e u:Nat}{ps:List (List UInt8)}{kss:List (List Bool)}(hk:1<=k)(hk2:k<=1000)(hN:N<=65536)(h:Pls xs k n N f)(hi:Idle xs)(hn:o+u+ps.length<=N)(hb:∀b∈ps,b.length<=44*k)(hs:Str xs k n N kd p g b G)(hp:p<N)(hq:p<o+u∨o+u+ps.length<=p):
  Str (jbC (jbq k n o e ps u xs) kss n) k n N kd p g b G:=⟨by rw [jbK,jcu,hs.len],λ d y hy=>by
 obtain⟨x,hx,h1,h2,h3,h4⟩:=je0 hk hk2 hN h hi hn hb hy;have hi:=hs.at_ d x hx;have hl:=h4 p hp;rw [jhn ps u _ p hq] at hl;have hl:y.look p=x.look p:=hl;refine⟨h1,h2,λ e=>⟨h3,by rw [hl];exact(hi.yes e).2⟩,λ e=> .inr ?_⟩
 rcases hi.no e with q|q
 ·rw [(h.live d x hx).2.2] at q;cases q
 ·rw [hl];exact q⟩
theorem jex {o e u i:Nat}{ps:List (List UInt8)}{kss:List (List Bool)}(hk:1<=k)(hk2:k<=1000)(hN:N<=65536)(h:Pls xs k n N f)(hi:Idle xs)(hn:o+u+ps.length<=N)(hb:∀b∈ps,b.length<=44*k)(hpi:ps[i]? =some b)(hs:Str xs k n N 2 (o+u+i) (genN e ((u+i:Nat):Int)) b (λ _=>false)):
  Str (jbC (jbq k n o e ps u xs) kss n) k n N 2 (o+u+i) (genN e ((u+i:Nat):Int)) b (λ d=>(kss.getD d []).getD i false):=⟨by rw [jbK,jcu,hs.len],λ d y hy=>by
 obtain⟨x,hx,h1,h2,h3,h4⟩:=je0 hk hk2 hN h hi hn hb hy;have hlt:=jaF hpi;have hl:=h4 (o+u+i) (by omega);rw [jov ps u _ i b hpi] at hl;refine⟨h1,h2,λ e=>⟨h3, ?_⟩,λ e=> .inr ?_⟩
 ·have e:(kss.getD d []).getD i false=true:=e
  rw [if_pos e] at hl;exact hl
 ·have e:(kss.getD d []).getD i false=false:=e
  rw [if_neg (by rw [e];decide)] at hl;have hl:y.look (o+u+i)=x.look (o+u+i):=hl
  rcases(hs.at_ d x hx).no rfl with q|q
  ·rw [(h.live d x hx).2.2] at q;cases q
  ·rw [hl];exact q⟩
end
end
section
open Go.RowKit Go.Proofs
set_option maxRecDepth 20000
set_option maxHeartbeats 1600000
def jeN:ChF:=⟨⟨#[97]⟩,true, [],0,0⟩
theorem jow (x y:Value):(Tryz.prog.info? 42).map (·.size)=some (#[x,y]:Array Value).size:=by show _=some 2;kernel_rfl
theorem jfZ (st:Nat)(w:World):Calls Tryz.prog 42 #[.int .u64 (st:Int)] w λ e w' =>∃v:RvF,e= .returned (.agg v.vals.toArray)∧v.Ok w' ∧v.x=(st, [jeN])∧Below w.heap.size w w':=by
 obtain⟨w1,hw1⟩:∃x,x=w.alloc (.cells #[.int .u64 0, .slice none 0 0] 42):=⟨_,rfl⟩;have hb1:Below w.heap.size w (w.alloc (.cells #[.int .u64 0, .slice none 0 0] 42)):=(Below.refl _ _).alloc (Nat.le_refl _) _;have hx1:=heap_alloc_new w (.cells #[.int .u64 0, .slice none 0 0] 42);have hs1:(w.alloc (.cells #[.int .u64 0, .slice none 0 0] 42)).heap.size=w.heap.size+1:=by simp
 have HW1:=qH hw1;rw [<-hw1] at hb1 hx1 hs1;obtain⟨vc,hvc⟩:∃v:CvF,v=⟨jeN,none,0⟩:=⟨_,rfl⟩;have hx2:CvB (w1.alloc (.cells vc.vals.toArray 144)) w1.heap.size vc:=CvB.new;have hb2:Below w1.heap.size w1 (w1.alloc (.cells vc.vals.toArray 144)):=(Below.refl _ _).alloc (Nat.le_refl _) _;obtain⟨w2,hw2⟩:∃x,x=w1.alloc (.cells vc.vals.toArray 144):=⟨_,rfl⟩;have HW2:=qH (show w2=w1.alloc (.cells #[.string ⟨#[97]⟩, .bool true, .slice none 0 0, .int .u64 0, .int .i64 0] 144) from by rw [hw2,hvc];rfl);rw [<-hw2] at hx2 hb2;rw [hs1] at hx2;have hx12:=(hb2.block _ (block_lt hx1)).trans hx1;have B2:=qH (hb1.trans (hb2.mono hb1.size));have X2:=qH hx2;have HZ:=qH (jow (.int .u64 (st:Int)) (.slice (some ⟨w.heap.size+1,0,none⟩) 1 1))
 have ho:(#[.int .u64 (st:Int), .slice (some ⟨w.heap.size+1,0,none⟩) 1 1]:Array Value).all (·.oneCell')=true:=all_oneCell_toArray (cs:= [.int .u64 (st:Int), .slice (some ⟨w.heap.size+1,0,none⟩) 1 1]) (λ u hu=>by simp only [List.mem_cons,List.not_mem_nil,or_false] at hu;rcases hu with rfl|rfl<;>rfl);have HO:=qH ho;have XR:=qH hx12;have HS:=qH hs1;have HV:=qH hvc;clear hw1 hb1 hx1 hw2 hb2 hx2 hx12 ho hvc;go_enter Tryz.func42,Tryz.ntmps42;go_wp2_with (first|(rw [<-HW1.out])|(rw [<-HW2.out])|(refine jax ?_;refine wpList_store_row (o:=⟨none,_,_,_,_,_⟩) rfl 42 (.tmp 2) (.tmp 6) rfl w.heap.size #[.int .u64 (st:Int), .slice (some ⟨w.heap.size+1,0,none⟩) 1 1] rfl rfl 42 _ XR.out HZ.out rfl HO.out ?_));have hrow:=setRow_heap w2 w.heap.size _ #[.int .u64 (st:Int), .slice (some ⟨w.heap.size+1,0,none⟩) 1 1] _ _ XR.out
 have hfr:Fr (λ k=>k=w.heap.size) w2 (w2.setRow w.heap.size #[.int .u64 (st:Int), .slice (some ⟨w.heap.size+1,0,none⟩) 1 1]):=Fr.setRow17 (S:=λ k=>k=w.heap.size) (Fr.refl _ _) (.inr rfl) _;have hbel:=B2.out.trans (hfr.below B2.out.size (λ b hb=>by have hb:b=w.heap.size:=hb;omega));have hcv:=X2.out.fr hfr (by show ¬w.heap.size+1=w.heap.size;omega);refine bodyPost_ret (results_cell_row Tryz.results42 _ _ w.heap.size 42 _ (0,0) _ rfl hrow Tryz.underlying42 rfl HZ.out) rfl ?_;have hv:=HV.out;refine⟨⟨st,some ⟨w.heap.size+1,0,none⟩,1, [vc]⟩,rfl,⟨rfl,Nat.le_refl _,(show 1<=maxLen by decide),λ i x hx=> ?_⟩,by rw [RvF.x,hv];rfl,hbel⟩
 match i,hx with
 |0,hx=>
  simp at hx;subst hx;refine⟨w.heap.size+1,0,rfl,λ j u hu=> ?_,by rw [hv];exact Sl.nil _ _ _ (by decide)⟩;rw [cell_of_row _ _ _ _ _ _ hcv]
  simpa using hu
 |i+1,hx=>simp at hx
def Logs18:Prop:=∀(w:World),Nt w->Calls Tryz.prog 10 #[] w (jdB w)
end
end Go.Proofs.YtmhejbihdghhaaaGreatDoor

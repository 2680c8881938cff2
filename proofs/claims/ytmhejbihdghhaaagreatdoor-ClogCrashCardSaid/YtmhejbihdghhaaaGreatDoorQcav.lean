/-
  Contract of package frame's taker of a blob
-/
import Derived.Test.YtmhejbihdghhaaaGreatDoorQcau
namespace Go.Proofs.YtmhejbihdghhaaaGreatDoor
set_option linter.unusedVariables false
section
open Go.RowKit Go.Proofs
set_option maxRecDepth 20000
set_option maxHeartbeats 3200000
theorem jpW (A:Option Addr)(n c:Nat)(g q:Int)(w:World):Calls Tryz.prog 170 #[.agg #[.slice A n c, .int .u64 g, .int .i64 q]] w λ e w' =>e= .returned (.bool true)∧Below w.heap.size w w':=by
 go_enter Tryz.func170,Tryz.ntmps170;go_wp2_with fail;go_ret;exact⟨rfl,(Below.refl _ _).alloc (Nat.le_refl _) _⟩
theorem jdi {ρ:Operand->Value}{o:Oper}{x:Operand}{w:World}{B n c g:Nat}{A:Option Addr}{q:Int}(ho:o.op= .load 142 x)(hx:ρ x= .pointer (some ⟨B,0,none⟩))(h:BlB w B A n c g q):(execOp ρ o).run Tryz.prog w= .ok (.value (.agg #[.slice A n c, .int .u64 (g:Int), .int .i64 q])) w:=by
 unfold execOp;simp only [ho,hx,Instr.loadAt,Instr.sureAddr,Sem.run_bind,Sem.run_pure,Result.andThen_ok,run_loadVar_row w B _ 142 #[.slice A n c, .int .u64 (g:Int), .int .i64 q] (0,0) _ h Tryz.underlying142 rfl (jd8 _ _ _ _ _)]
theorem BlB.fr {w w':World}{B n c g:Nat}{A:Option Addr}{q:Int}{S:Nat->Prop}(h:BlB w B A n c g q)(hf:Fr S w w')(hS:¬S B):BlB w' B A n c g q:=hf.row_some h hS
def zB:GbF:=⟨0,0, [],0,0⟩
def tkB (l:List UInt8)(s:Nat × Nat):GbF ×(Nat × Nat):=
 if s.2≠0 then(zB,s) else if (gB l s.1).e≠0 then(zB,(s.1,(gB l s.1).e)) else(gB l s.1,((gB l s.1).p,0))
def RetTB (R:Nat)(A:Option Addr)(n c:Nat)(l:List UInt8)(x:GbF ×(Nat × Nat))(w:World)(e:Ending)(w':World):Prop:=
 ∃PA pc,e= .returned (.agg #[.slice PA x.1.ps.length pc, .int .u64 (x.1.g:Int), .int .i64 (x.1.q:Int)])∧Sl w' 1 PA x.1.ps.length pc (jau (jbB x.1.ps))∧Rdg w' R A n c l x.2∧Fr (λ k=>k=R) w w' ∧∀b o,0<x.1.ps.length->PA=some ⟨b,o,none⟩->w.heap.size<=b
theorem ftakeB (R t g p:Nat)(A:Option Addr)(n c:Nat)(l:List UInt8)(s:Nat × Nat)(w:World)(h:Rdg w R A n c l s)(hk:Tk3 w t g p R (.func (.func 169) #[] #[]) (.func (.func 170) #[] #[])):
  Calls Tryz.prog 219 #[.pointer (some ⟨t,0,none⟩), .pointer (some ⟨g,0,none⟩), .pointer (some ⟨p,0,none⟩)] w (RetTB R A n c l (tkB l s) w):=by
 obtain⟨at_,fault⟩:=s;obtain⟨b3,hb3⟩:∃b,b=w.heap.size:=⟨_,rfl⟩;have ha1:Below w.heap.size w (w.alloc (.cells #[.slice none 0 0, .int .u64 0, .int .i64 0] 142)):=(Below.refl _ _).alloc (Nat.le_refl _) _;have hx1:BlB (w.alloc (.cells #[.slice none 0 0, .int .u64 0, .int .i64 0] 142)) w.heap.size none 0 0 0 0:=heap_alloc_new w _;obtain⟨w1,hw1⟩:∃x,x=w.alloc (.cells #[.slice none 0 0, .int .u64 0, .int .i64 0] 142):=⟨_,rfl⟩;rw [<-hw1] at ha1 hx1;have HW1:=qH hw1;obtain⟨b4,hb4⟩:∃b,b=w1.heap.size:=⟨_,rfl⟩;have ha2:Below w1.heap.size w1 (w1.alloc (.cells #[.slice none 0 0, .int .u64 0, .int .i64 0] 142)):=(Below.refl _ _).alloc (Nat.le_refl _) _;have hx2:BlB (w1.alloc (.cells #[.slice none 0 0, .int .u64 0, .int .i64 0] 142)) w1.heap.size none 0 0 0 0:=heap_alloc_new w1 _;obtain⟨w2,hw2⟩:∃x,x=w1.alloc (.cells #[.slice none 0 0, .int .u64 0, .int .i64 0] 142):=⟨_,rfl⟩;rw [<-hw2] at ha2 hx2
 have HW2:=qH hw2;have hx1:=hx1.later ha2;have hB2:=ha1.trans (ha2.mono ha1.size);have RR:=qH (h.later hB2);have KK:=qH (hk.later hB2);have hRl:=h.lt;have b4l:=block_lt hx2;rw [<-hb3] at hx1 hRl;rw [<-hb4] at hx2 b4l;have X3:=qH hx1;have X4:=qH hx2;have B2:=qH (show Below b3 w w2 from by rw [hb3];exact hB2);have b3l:=block_lt hx1;have NR3:=qH (show ¬b3=R from by omega);have NR4:=qH (show ¬b4=R from by have:=ha1.size;omega);have NR2:=qH (show ¬w2.heap.size<=R from by have:=hB2.size;omega);have NA2:=qH (show ∀b o,0<n->A=some ⟨b,o,none⟩->¬w2.heap.size<=b from λ b o hn e=>by have:=h.sl.lt (by decide) hn e;have:=hB2.size;omega);have NA3:=qH (show ∀b o,0<n->A=some ⟨b,o,none⟩->¬b=b3 from λ b o hn e=>by have:=h.sl.lt (by decide) hn e;omega);have HB3:=qH hb3;have HB4:=qH hb4;have LT3:=qH (And.intro b3l b4l);have kt:=KK.out.t.cell;have r2:=RR.out.c2
 have HSZ:=λ (A':Option Addr) (n' c':Nat) (g' q':Int)=>qH (jd8 A' n' c' g' q')
 have HON:=λ (A':Option Addr) (n' c':Nat) (g' q':Int)=>qH (jhj A' n' c' g' q')
 clear h hk hw1 hw2 ha1 ha2 hx1 hx2 hB2 hRl b3l b4l;have hb3':=hb3;dsimp only at r2
 by_cases hf:fault=0
 ·subst hf
  have hgb:=λ W (hs:Sl W 1 A n c (cells l))=>jlR A n c l at_ W hs
  obtain⟨x,hx⟩:∃x,x=gB l at_:=⟨_,rfl⟩;have ht:tkB l (at_,0)=if x.e≠0 then(zB,(at_,x.e)) else(x,(x.p,0)):=by unfold tkB;rw [if_neg (by simp),hx]
  rw [ht];rw [<-hx] at hgb;have HG:=qH hgb;clear hgb ht hx
  by_cases he:x.e=0
  ·rw [if_neg (λ hh=>hh he)]
   have HE:=qH he;have hez:(x.e:Int)=0:=by omega
   have HEZ:=qH hez;clear he hez;go_enter Tryz.func219,Tryz.ntmps219;go_wp2_with (first|(rw [<-HW1.out])|(rw [<-HW2.out]));rw [<-hb3,<-hb4];clear hb3 hb3' hb4;refine wp_region_held_drew (S:=λ w' =>Fr (λ k=>w2.heap.size<=k) w2 w') (by kernel_rfl) (Fr.drew (Fr.refl _ _)) (λ hHeld=> ?_);clear hHeld;have hHeld:Fr (λ k=>w2.heap.size<=k) w2 w2.drew:=Fr.drew (Fr.refl _ _);have hz_0:w2.heap.size<=w2.drew.heap.size:=Nat.le_refl _;obtain⟨v_W0,hw⟩:∃v_W0,v_W0=w2.drew:=⟨_,rfl⟩;rw [<-hw] at hHeld hz_0 ⊢;clear hw;refine tA 0 (some 15) rfl hHeld ?_ (λ wq hSw=>by
    have hq:=(KK.out.g.fr hSw (by have:=KK.out.g.lt;show ¬w2.heap.size<=_;omega)).cell;go_simp<;>with_reducible rfl)
   refine tA 1 (some 16) rfl hHeld ?_ (λ wq hSw=>by
    have hq:=(KK.out.t.fr hSw (by have:=KK.out.t.lt;show ¬w2.heap.size<=_;omega)).cell;go_simp<;>with_reducible rfl)
   refine tA 2 (some 17) rfl hHeld ?_;refine tA 3 (some 18) rfl hHeld ?_;refine tA 4 (some 19) rfl hHeld ?_ (λ wq hSw=>by
    have hq:=(RR.out.fr hSw NR2.out NA2.out).c0;go_simp<;>with_reducible rfl)
   refine tA 5 (some 20) rfl hHeld ?_ (λ wq hSw=>by
    have hq:=(KK.out.t.fr hSw (by have:=KK.out.t.lt;show ¬w2.heap.size<=_;omega)).cell;go_simp<;>with_reducible rfl)
   refine tA 6 (some 21) rfl hHeld ?_;refine tA 7 (some 22) rfl hHeld ?_;refine tA 8 (some 23) rfl hHeld ?_ (λ wq hSw=>by
    have hq:=(RR.out.fr hSw NR2.out NA2.out).c1;go_simp<;>with_reducible rfl)
   refine wpAnyH_ready (rs:= [9,14]) (by kernel_rfl) (by simp) ?_;refine AllReadyH.cons (o:=⟨some 24,_,_,_,_,_⟩) rfl (λ K hK=> ?_) (AllReadyH.cons (o:=⟨some 5,_,_,_,_,_⟩) rfl (λ K hK=> ?_) (AllReadyH.nil))
   focus
    go_simp;refine(HG.out v_W0 (RR.out.sl.fr hHeld NA2.out)).mono ?_;rintro e' v_W1 ⟨PA,pc,rfl,hs9,hb9,hl9⟩;have hfN:Fr (λ k=>w2.heap.size<=k) v_W0 v_W1:=Fr.of_below hb9;have S9:=qH hs9;clear hs9;have PNR:=qH (show ∀b o,0<x.ps.length->PA=some ⟨b,o,none⟩->¬b=R from λ b o hn e=>by have:=hl9 b o hn e;have:=hHeld.size;have:=NR2.out;omega);have PN3:=qH (show ∀b o,0<x.ps.length->PA=some ⟨b,o,none⟩->¬b=b3 from λ b o hn e=>by have:=hl9 b o hn e;have:=hHeld.size;have:=LT3.out;omega);have PNW:=qH (show ∀b o,0<x.ps.length->PA=some ⟨b,o,none⟩->w.heap.size<=b from λ b o hn e=>by have:=hl9 b o hn e;have:=hHeld.size;have:=B2.out.size;omega);clear hl9;go_wp2_with fail;have hHeld:=hHeld.trans hfN;have hz_3:=hfN.size;refine hK.out _ _ hHeld λ _=> ?_
    clear hK K hfN
    try simp only [Act.put,sA,sB,sC]
    refine tA 10 (some 14) rfl hHeld ?_;refine tA 11 (some 25) rfl hHeld ?_;refine tA 12 (some 26) rfl hHeld ?_;refine tA 13 (some 27) rfl hHeld ?_
   rotate_left
   focus
    go_simp;obtain⟨g5,hg5⟩:∃g,g=v_W0.heap.size:=⟨_,rfl⟩;have hbN:Below v_W0.heap.size v_W0 (v_W0.alloc (.cells #[.slice none 0 0, .int .u64 0, .int .i64 0] 142)):=(Below.refl _ _).alloc (Nat.le_refl _) _;have hx5:BlB (v_W0.alloc (.cells #[.slice none 0 0, .int .u64 0, .int .i64 0] 142)) v_W0.heap.size none 0 0 0 0:=heap_alloc_new v_W0 _;have hgl:=block_lt hx5;obtain⟨v_W1,hw⟩:∃x,x=v_W0.alloc (.cells #[.slice none 0 0, .int .u64 0, .int .i64 0] 142):=⟨_,rfl⟩;rw [<-hw] at hbN hx5 hgl ⊢;rw [<-hg5] at hx5 hgl ⊢;have hfN:Fr (λ k=>w2.heap.size<=k) v_W0 v_W1:=Fr.of_below hbN;have Z5:=qH hx5;have G5:=qH hgl;have GE5:=qH (show w2.heap.size<=g5 from by rw [hg5];exact hHeld.size);clear hx5 hgl hw hg5 hbN;have hHeld:=hHeld.trans hfN;have hz_5:=hfN.size;refine hK.out _ _ hHeld λ _=> ?_
    clear hK K hfN
    try simp only [Act.put,sA,sB,sC]
   rotate_left
   all_goals first
    |
     refine rW 14 (some 5) rfl λ K hK=> ?_
     go_simp;obtain⟨g5,hg5⟩:∃g,g=v_W1.heap.size:=⟨_,rfl⟩;have hbN:Below v_W1.heap.size v_W1 (v_W1.alloc (.cells #[.slice none 0 0, .int .u64 0, .int .i64 0] 142)):=(Below.refl _ _).alloc (Nat.le_refl _) _;have hx5:BlB (v_W1.alloc (.cells #[.slice none 0 0, .int .u64 0, .int .i64 0] 142)) v_W1.heap.size none 0 0 0 0:=heap_alloc_new v_W1 _;have hgl:=block_lt hx5;obtain⟨v_W2,hw⟩:∃x,x=v_W1.alloc (.cells #[.slice none 0 0, .int .u64 0, .int .i64 0] 142):=⟨_,rfl⟩;rw [<-hw] at hbN hx5 hgl ⊢;rw [<-hg5] at hx5 hgl ⊢;have hfN:Fr (λ k=>w2.heap.size<=k) v_W1 v_W2:=Fr.of_below hbN;have Z5:=qH hx5;have G5:=qH hgl;have GE5:=qH (show w2.heap.size<=g5 from by rw [hg5];exact hHeld.size);have PN5:=qH (show ∀b o,0<x.ps.length->PA=some ⟨b,o,none⟩->¬b=g5 from λ b o hn e=>by have:=S9.out.lt (by decide) hn e;omega);have S9:=qH (S9.out.below hbN (Nat.le_refl _));clear hx5 hgl hw hg5 hbN
     have hHeld:=hHeld.trans hfN;have hz_7:=hfN.size;refine hK.out _ _ hHeld λ _=> ?_
     clear hK K hfN
     try simp only [Act.put,sA,sB,sC]
    |
     refine rW 9 (some 24) rfl λ K hK=> ?_
     go_simp;refine(HG.out v_W1 (RR.out.sl.fr hHeld NA2.out)).mono ?_;rintro e' v_W2 ⟨PA,pc,rfl,hs9,hb9,hl9⟩;have hfN:Fr (λ k=>w2.heap.size<=k) v_W1 v_W2:=Fr.of_below hb9;have S9:=qH hs9;clear hs9;have PNR:=qH (show ∀b o,0<x.ps.length->PA=some ⟨b,o,none⟩->¬b=R from λ b o hn e=>by have:=hl9 b o hn e;have:=hHeld.size;have:=NR2.out;omega);have PN3:=qH (show ∀b o,0<x.ps.length->PA=some ⟨b,o,none⟩->¬b=b3 from λ b o hn e=>by have:=hl9 b o hn e;have:=hHeld.size;have:=LT3.out;omega);have PNW:=qH (show ∀b o,0<x.ps.length->PA=some ⟨b,o,none⟩->w.heap.size<=b from λ b o hn e=>by have:=hl9 b o hn e;have:=hHeld.size;have:=B2.out.size;omega);have Z5:=qH (Z5.out.later hb9);have PN5:=qH (show ∀b o,0<x.ps.length->PA=some ⟨b,o,none⟩->¬b=g5 from λ b o hn e=>by have:=hl9 b o hn e;have:=G5.out;omega);have G5:=qH (Nat.lt_of_lt_of_le G5.out hb9.size);clear hl9;go_wp2_with fail;have hHeld:=hHeld.trans hfN
     have hz_9:=hfN.size;refine hK.out _ _ hHeld λ _=> ?_
     clear hK K hfN
     try simp only [Act.put,sA,sB,sC]
     refine tA 10 (some 14) rfl hHeld ?_;refine tA 11 (some 25) rfl hHeld ?_;refine tA 12 (some 26) rfl hHeld ?_;refine tA 13 (some 27) rfl hHeld ?_
   all_goals
    refine rW 15 none rfl λ K hK=> ?_
    have hz:=HSZ PA x.ps.length pc (x.g:Int) (x.q:Int);have ho:=HON PA x.ps.length pc (x.g:Int) (x.q:Int);refine wp_store_row (o:=⟨none,_,_,_,_,_⟩) 142 (.tmp 5) (.tmp 25) rfl g5 _ rfl rfl 142 _ Z5.out hz.out rfl ho.out ?_;have hfx:Fr (λ k=>k=g5) v_W2 (v_W2.setRow g5 #[.slice PA x.ps.length pc, .int .u64 (x.g:Int), .int .i64 (x.q:Int)]):=Fr.setRow17 (S:=λ k=>k=g5) (Fr.refl _ _) (.inr rfl) _;have hx6:BlB (v_W2.setRow g5 #[.slice PA x.ps.length pc, .int .u64 (x.g:Int), .int .i64 (x.q:Int)]) g5 PA x.ps.length pc x.g (x.q:Int):=setRow_heap _ _ _ _ _ _ Z5.out;obtain⟨w6,hw⟩:∃y,y=v_W2.setRow g5 #[.slice PA x.ps.length pc, .int .u64 (x.g:Int), .int .i64 (x.q:Int)]:=⟨_,rfl⟩;rw [<-hw] at hfx hx6 ⊢;have hfN:Fr (λ k=>w2.heap.size<=k) v_W2 w6:=hfx.mono (λ k h=>by have h:k=g5:=h;show _<=k;have:=GE5.out;omega);have Z6:=qH hx6
    have S6:=qH (show Sl w6 1 PA x.ps.length pc (jau (jbB x.ps)) from S9.out.fr hfx (λ b o hn e h=>PN5.out b o hn e h));clear hw hx6 hfx hz ho;have hHeld:=hHeld.trans hfN;have hz_10:=hfN.size;refine hK.out _ _ hHeld λ _=> ?_
    clear hK K hfN
    try simp only [Act.put]
    refine tA 16 (some 6) rfl hHeld ?_;refine tA 17 (some 7) rfl hHeld ?_
   all_goals
    refine tD ?_;have RR6:=qH (RR.out.fr hHeld NR2.out NA2.out);have KK6:=qH (KK.out.fr hHeld (by have:=KK.out.t.lt;show ¬w2.heap.size<=_;omega) (by have:=KK.out.g.lt;show ¬w2.heap.size<=_;omega) (by have:=KK.out.p.lt;show ¬w2.heap.size<=_;omega));have X36:=qH (X3.out.fr hHeld (by have:=LT3.out;show ¬w2.heap.size<=_;omega));have X46:=qH (X4.out.fr hHeld (by have:=LT3.out;show ¬w2.heap.size<=_;omega));have B6:=qH (B2.out.trans (hHeld.below (show b3<=w2.heap.size from by have:=LT3.out;omega) (λ k h=>by have h:w2.heap.size<=k:=h;have:=LT3.out;omega)));have GR:=qH (show ¬g5=R from by have:=GE5.out;have:=NR2.out;omega);clear hHeld kt r2;have kt:=KK6.out.t.cell;have kp:=KK6.out.p.cell;have hez:=HEZ.out;go_wp2_with (refine jaj (d:=32) ?_;refine jad (o:=⟨some 32,_,_,_,_,_⟩) (by rfl) _ _ (jdi rfl rfl Z6.out) ?_)
    refine(jpW PA x.ps.length pc (x.g:Int) (x.q:Int) w6).mono ?_;rintro e w8 ⟨rfl,hb8⟩;have RR8:=qH (RR6.out.later hb8);have X38:=qH (X36.out.later hb8);have Z8:=qH (Z6.out.later hb8);have S8:=qH (S6.out.below hb8 (Nat.le_refl _));have B8:=qH (B6.out.trans (hb8.mono (show b3<=w6.heap.size from by have:=B6.out.size;have:=HB3.out;omega)));have kt:=(KK6.out.later hb8).t.cell;have hs1:=RR8.out.set1 x.p;have HS1:=qH hs1;have r1:=RR8.out.c1;have f1:=RR8.out.free 1;have ZZ:=qH (Z8.out.fr hs1.2 GR.out);have XX:=qH (X38.out.fr hs1.2 NR3.out);have hz:=HSZ PA x.ps.length pc (x.g:Int) (x.q:Int);have ho:=HON PA x.ps.length pc (x.g:Int) (x.q:Int);clear hb8 kp hez hs1
    go_wp2_with (first|(refine jaj (d:=47) ?_;refine jad (o:=⟨some 47,_,_,_,_,_⟩) (by rfl) _ _ (jdi rfl rfl ZZ.out) ?_)|(refine jax ?_;refine wpList_store_row (o:=⟨none,_,_,_,_,_⟩) rfl 142 (.tmp 3) (.tmp 47) rfl b3 _ rfl rfl 142 _ XX.out hz.out rfl ho.out ?_));refine bodyPost_ret (results_cell_row Tryz.results219 _ _ b3 142 _ (0,0) _ rfl (setRow_heap _ _ _ _ _ _ XX.out) Tryz.underlying142 rfl hz.out) rfl ?_;have hs1:=HS1.out;have hfw:=(Fr.of_below (S:=λ k=>k=R) (show Below w.heap.size w w8 from HB3.out▸B8.out)).trans hs1.2;have hfs:=Fr.setRow17 (S:=λ k=>k=b3) (Fr.refl _ (w8.setCell ⟨R,1,none⟩ (.int .i64 (x.p:Int)))) (.inr rfl) #[.slice PA x.ps.length pc, .int .u64 (x.g:Int), .int .i64 (x.q:Int)];have hfz:=hfw.setRow17 (.inl (by have:=HB3.out;omega)) (g:=b3) #[.slice PA x.ps.length pc, .int .u64 (x.g:Int), .int .i64 (x.q:Int)]
    exact⟨PA,pc,rfl,(S8.out.fr hs1.2 PNR.out).fr hfs PN3.out,hs1.1.fr hfs (λ h=>NR3.out h.symm) NA3.out,hfz,PNW.out⟩
  ·rw [if_pos he]
   have hei:¬(x.e:Int)=0:=by omega
   clear he;go_enter Tryz.func219,Tryz.ntmps219;go_wp2_with (first|(rw [<-HW1.out])|(rw [<-HW2.out]));rw [<-hb3,<-hb4];clear hb3 hb3' hb4;refine wp_region_held_drew (S:=λ w' =>Fr (λ k=>w2.heap.size<=k) w2 w') (by kernel_rfl) (Fr.drew (Fr.refl _ _)) (λ hHeld=> ?_);clear hHeld;have hHeld:Fr (λ k=>w2.heap.size<=k) w2 w2.drew:=Fr.drew (Fr.refl _ _);have hz_0:w2.heap.size<=w2.drew.heap.size:=Nat.le_refl _;obtain⟨v_W0,hw⟩:∃v_W0,v_W0=w2.drew:=⟨_,rfl⟩;rw [<-hw] at hHeld hz_0 ⊢;clear hw;refine tA 0 (some 15) rfl hHeld ?_ (λ wq hSw=>by
    have hq:=(KK.out.g.fr hSw (by have:=KK.out.g.lt;show ¬w2.heap.size<=_;omega)).cell;go_simp<;>with_reducible rfl)
   refine tA 1 (some 16) rfl hHeld ?_ (λ wq hSw=>by
    have hq:=(KK.out.t.fr hSw (by have:=KK.out.t.lt;show ¬w2.heap.size<=_;omega)).cell;go_simp<;>with_reducible rfl)
   refine tA 2 (some 17) rfl hHeld ?_;refine tA 3 (some 18) rfl hHeld ?_;refine tA 4 (some 19) rfl hHeld ?_ (λ wq hSw=>by
    have hq:=(RR.out.fr hSw NR2.out NA2.out).c0;go_simp<;>with_reducible rfl)
   refine tA 5 (some 20) rfl hHeld ?_ (λ wq hSw=>by
    have hq:=(KK.out.t.fr hSw (by have:=KK.out.t.lt;show ¬w2.heap.size<=_;omega)).cell;go_simp<;>with_reducible rfl)
   refine tA 6 (some 21) rfl hHeld ?_;refine tA 7 (some 22) rfl hHeld ?_;refine tA 8 (some 23) rfl hHeld ?_ (λ wq hSw=>by
    have hq:=(RR.out.fr hSw NR2.out NA2.out).c1;go_simp<;>with_reducible rfl)
   refine wpAnyH_ready (rs:= [9,14]) (by kernel_rfl) (by simp) ?_;refine AllReadyH.cons (o:=⟨some 24,_,_,_,_,_⟩) rfl (λ K hK=> ?_) (AllReadyH.cons (o:=⟨some 5,_,_,_,_,_⟩) rfl (λ K hK=> ?_) (AllReadyH.nil))
   focus
    go_simp;refine(HG.out v_W0 (RR.out.sl.fr hHeld NA2.out)).mono ?_;rintro e' v_W1 ⟨PA,pc,rfl,hs9,hb9,hl9⟩;have hfN:Fr (λ k=>w2.heap.size<=k) v_W0 v_W1:=Fr.of_below hb9;have S9:=qH hs9;clear hs9;have PNR:=qH (show ∀b o,0<x.ps.length->PA=some ⟨b,o,none⟩->¬b=R from λ b o hn e=>by have:=hl9 b o hn e;have:=hHeld.size;have:=NR2.out;omega);have PN3:=qH (show ∀b o,0<x.ps.length->PA=some ⟨b,o,none⟩->¬b=b3 from λ b o hn e=>by have:=hl9 b o hn e;have:=hHeld.size;have:=LT3.out;omega);have PNW:=qH (show ∀b o,0<x.ps.length->PA=some ⟨b,o,none⟩->w.heap.size<=b from λ b o hn e=>by have:=hl9 b o hn e;have:=hHeld.size;have:=B2.out.size;omega);clear hl9;go_wp2_with fail;have hHeld:=hHeld.trans hfN;have hz_1003:=hfN.size;refine hK.out _ _ hHeld λ _=> ?_
    clear hK K hfN
    try simp only [Act.put,sA,sB,sC]
    refine tA 10 (some 14) rfl hHeld ?_;refine tA 11 (some 25) rfl hHeld ?_;refine tA 12 (some 26) rfl hHeld ?_;refine tA 13 (some 27) rfl hHeld ?_
   rotate_left
   focus
    go_simp;obtain⟨g5,hg5⟩:∃g,g=v_W0.heap.size:=⟨_,rfl⟩;have hbN:Below v_W0.heap.size v_W0 (v_W0.alloc (.cells #[.slice none 0 0, .int .u64 0, .int .i64 0] 142)):=(Below.refl _ _).alloc (Nat.le_refl _) _;have hx5:BlB (v_W0.alloc (.cells #[.slice none 0 0, .int .u64 0, .int .i64 0] 142)) v_W0.heap.size none 0 0 0 0:=heap_alloc_new v_W0 _;have hgl:=block_lt hx5;obtain⟨v_W1,hw⟩:∃x,x=v_W0.alloc (.cells #[.slice none 0 0, .int .u64 0, .int .i64 0] 142):=⟨_,rfl⟩;rw [<-hw] at hbN hx5 hgl ⊢;rw [<-hg5] at hx5 hgl ⊢;have hfN:Fr (λ k=>w2.heap.size<=k) v_W0 v_W1:=Fr.of_below hbN;have Z5:=qH hx5;have G5:=qH hgl;have GE5:=qH (show w2.heap.size<=g5 from by rw [hg5];exact hHeld.size);clear hx5 hgl hw hg5 hbN;have hHeld:=hHeld.trans hfN;have hz_1005:=hfN.size;refine hK.out _ _ hHeld λ _=> ?_
    clear hK K hfN
    try simp only [Act.put,sA,sB,sC]
   rotate_left
   all_goals first
    |
     refine rW 14 (some 5) rfl λ K hK=> ?_
     go_simp;obtain⟨g5,hg5⟩:∃g,g=v_W1.heap.size:=⟨_,rfl⟩;have hbN:Below v_W1.heap.size v_W1 (v_W1.alloc (.cells #[.slice none 0 0, .int .u64 0, .int .i64 0] 142)):=(Below.refl _ _).alloc (Nat.le_refl _) _;have hx5:BlB (v_W1.alloc (.cells #[.slice none 0 0, .int .u64 0, .int .i64 0] 142)) v_W1.heap.size none 0 0 0 0:=heap_alloc_new v_W1 _;have hgl:=block_lt hx5;obtain⟨v_W2,hw⟩:∃x,x=v_W1.alloc (.cells #[.slice none 0 0, .int .u64 0, .int .i64 0] 142):=⟨_,rfl⟩;rw [<-hw] at hbN hx5 hgl ⊢;rw [<-hg5] at hx5 hgl ⊢;have hfN:Fr (λ k=>w2.heap.size<=k) v_W1 v_W2:=Fr.of_below hbN;have Z5:=qH hx5;have G5:=qH hgl;have GE5:=qH (show w2.heap.size<=g5 from by rw [hg5];exact hHeld.size);have PN5:=qH (show ∀b o,0<x.ps.length->PA=some ⟨b,o,none⟩->¬b=g5 from λ b o hn e=>by have:=S9.out.lt (by decide) hn e;omega);have S9:=qH (S9.out.below hbN (Nat.le_refl _));clear hx5 hgl hw hg5 hbN
     have hHeld:=hHeld.trans hfN;have hz_1007:=hfN.size;refine hK.out _ _ hHeld λ _=> ?_
     clear hK K hfN
     try simp only [Act.put,sA,sB,sC]
    |
     refine rW 9 (some 24) rfl λ K hK=> ?_
     go_simp;refine(HG.out v_W1 (RR.out.sl.fr hHeld NA2.out)).mono ?_;rintro e' v_W2 ⟨PA,pc,rfl,hs9,hb9,hl9⟩;have hfN:Fr (λ k=>w2.heap.size<=k) v_W1 v_W2:=Fr.of_below hb9;have S9:=qH hs9;clear hs9;have PNR:=qH (show ∀b o,0<x.ps.length->PA=some ⟨b,o,none⟩->¬b=R from λ b o hn e=>by have:=hl9 b o hn e;have:=hHeld.size;have:=NR2.out;omega);have PN3:=qH (show ∀b o,0<x.ps.length->PA=some ⟨b,o,none⟩->¬b=b3 from λ b o hn e=>by have:=hl9 b o hn e;have:=hHeld.size;have:=LT3.out;omega);have PNW:=qH (show ∀b o,0<x.ps.length->PA=some ⟨b,o,none⟩->w.heap.size<=b from λ b o hn e=>by have:=hl9 b o hn e;have:=hHeld.size;have:=B2.out.size;omega);have Z5:=qH (Z5.out.later hb9);have PN5:=qH (show ∀b o,0<x.ps.length->PA=some ⟨b,o,none⟩->¬b=g5 from λ b o hn e=>by have:=hl9 b o hn e;have:=G5.out;omega);have G5:=qH (Nat.lt_of_lt_of_le G5.out hb9.size);clear hl9;go_wp2_with fail;have hHeld:=hHeld.trans hfN
     have hz_1009:=hfN.size;refine hK.out _ _ hHeld λ _=> ?_
     clear hK K hfN
     try simp only [Act.put,sA,sB,sC]
     refine tA 10 (some 14) rfl hHeld ?_;refine tA 11 (some 25) rfl hHeld ?_;refine tA 12 (some 26) rfl hHeld ?_;refine tA 13 (some 27) rfl hHeld ?_
   all_goals
    refine rW 15 none rfl λ K hK=> ?_
    have hz:=HSZ PA x.ps.length pc (x.g:Int) (x.q:Int);have ho:=HON PA x.ps.length pc (x.g:Int) (x.q:Int);refine wp_store_row (o:=⟨none,_,_,_,_,_⟩) 142 (.tmp 5) (.tmp 25) rfl g5 _ rfl rfl 142 _ Z5.out hz.out rfl ho.out ?_;have hfx:Fr (λ k=>k=g5) v_W2 (v_W2.setRow g5 #[.slice PA x.ps.length pc, .int .u64 (x.g:Int), .int .i64 (x.q:Int)]):=Fr.setRow17 (S:=λ k=>k=g5) (Fr.refl _ _) (.inr rfl) _;have hx6:BlB (v_W2.setRow g5 #[.slice PA x.ps.length pc, .int .u64 (x.g:Int), .int .i64 (x.q:Int)]) g5 PA x.ps.length pc x.g (x.q:Int):=setRow_heap _ _ _ _ _ _ Z5.out;obtain⟨w6,hw⟩:∃y,y=v_W2.setRow g5 #[.slice PA x.ps.length pc, .int .u64 (x.g:Int), .int .i64 (x.q:Int)]:=⟨_,rfl⟩;rw [<-hw] at hfx hx6 ⊢;have hfN:Fr (λ k=>w2.heap.size<=k) v_W2 w6:=hfx.mono (λ k h=>by have h:k=g5:=h;show _<=k;have:=GE5.out;omega);have Z6:=qH hx6
    have S6:=qH (show Sl w6 1 PA x.ps.length pc (jau (jbB x.ps)) from S9.out.fr hfx (λ b o hn e h=>PN5.out b o hn e h));clear hw hx6 hfx hz ho;have hHeld:=hHeld.trans hfN;have hz_1010:=hfN.size;refine hK.out _ _ hHeld λ _=> ?_
    clear hK K hfN
    try simp only [Act.put]
    refine tA 16 (some 6) rfl hHeld ?_;refine tA 17 (some 7) rfl hHeld ?_
   all_goals
    refine tD ?_;have RR6:=qH (RR.out.fr hHeld NR2.out NA2.out);have KK6:=qH (KK.out.fr hHeld (by have:=KK.out.t.lt;show ¬w2.heap.size<=_;omega) (by have:=KK.out.g.lt;show ¬w2.heap.size<=_;omega) (by have:=KK.out.p.lt;show ¬w2.heap.size<=_;omega));have X36:=qH (X3.out.fr hHeld (by have:=LT3.out;show ¬w2.heap.size<=_;omega));have X46:=qH (X4.out.fr hHeld (by have:=LT3.out;show ¬w2.heap.size<=_;omega));have B6:=qH (B2.out.trans (hHeld.below (show b3<=w2.heap.size from by have:=LT3.out;omega) (λ k h=>by have h:w2.heap.size<=k:=h;have:=LT3.out;omega)));have GR:=qH (show ¬g5=R from by have:=GE5.out;have:=NR2.out;omega);clear hHeld kt r2;have kt:=KK6.out.t.cell;have r2:=RR6.out.c2;have f2:=RR6.out.free 2;have hs1:=RR6.out.set2 x.e;have HS1:=qH hs1;have ZZ:=qH (X46.out.fr hs1.2 NR4.out);have XX:=qH (X36.out.fr hs1.2 NR3.out);have hz:=HSZ none 0 0 0 0;have ho:=HON none 0 0 0 0;clear hs1
    go_wp2_with (first|(refine jaj (d:=42) ?_;refine jad (o:=⟨some 42,_,_,_,_,_⟩) (by rfl) _ _ (jdi rfl rfl ZZ.out) ?_)|(refine jax ?_;refine wpList_store_row (o:=⟨none,_,_,_,_,_⟩) rfl 142 (.tmp 3) (.tmp 42) rfl b3 _ rfl rfl 142 _ XX.out hz.out rfl ho.out ?_));refine bodyPost_ret (results_cell_row Tryz.results219 _ _ b3 142 _ (0,0) _ rfl (setRow_heap _ _ _ _ _ _ XX.out) Tryz.underlying142 rfl hz.out) rfl ?_;have hs1:=HS1.out;have hfw:=(Fr.of_below (S:=λ k=>k=R) (show Below w.heap.size w w6 from HB3.out▸B6.out)).trans hs1.2;have hfs:=Fr.setRow17 (S:=λ k=>k=b3) (Fr.refl _ (w6.setCell ⟨R,2,none⟩ (.int .i64 (x.e:Int)))) (.inr rfl) #[.slice none 0 0, .int .u64 ((0:Nat):Int), .int .i64 0];have hfz:=hfw.setRow17 (.inl (by have:=HB3.out;omega)) (g:=b3) #[.slice none 0 0, .int .u64 ((0:Nat):Int), .int .i64 0]
    exact⟨none,0,rfl,Sl.nil _ _ _ (by decide),hs1.1.fr hfs (λ h=>NR3.out h.symm) NA3.out,hfz,λ b o h0=>absurd h0 (Nat.lt_irrefl 0)⟩
 ·have ht:tkB l (at_,fault)=(zB,(at_,fault)):=by unfold tkB;rw [if_pos hf]
  rw [ht];have hfi:¬(fault:Int)=0:=by omega
  clear ht;rw [hb4] at X4;rw [hb3] at X3;have hs1:=HSZ none 0 0 0 0;have hs2:=HON none 0 0 0 0;go_enter Tryz.func219,Tryz.ntmps219;go_wp2_with (first|(rw [<-HW1.out])|(rw [<-HW2.out])|(refine jaj (d:=13) ?_;refine jad (o:=⟨some 13,_,_,_,_,_⟩) (by rfl) _ _ (jdi rfl rfl X4.out) ?_)|(refine jax ?_;refine wpList_store_row (o:=⟨none,_,_,_,_,_⟩) rfl 142 (.tmp 3) (.tmp 13) rfl _ _ rfl rfl 142 _ X3.out hs1.out rfl hs2.out ?_));refine bodyPost_ret (results_cell_row Tryz.results219 _ _ _ 142 _ (0,0) _ rfl (setRow_heap _ _ _ _ _ _ X3.out) Tryz.underlying142 rfl hs1.out) rfl ?_;have hfr:=Fr.setRow17 (S:=λ k=>k=w.heap.size) (Fr.refl _ w2) (.inr rfl) #[.slice none 0 0, .int .u64 ((0:Nat):Int), .int .i64 0];rw [<-hb3] at hfr ⊢
  exact⟨none,0,rfl,Sl.nil _ _ _ (by decide),RR.out.fr hfr (λ h=>NR3.out h.symm) NA3.out,(Fr.of_below (S:=λ k=>k=R) (show Below w.heap.size w w2 from HB3.out▸B2.out)).setRow17 (.inl (by have:=HB3.out;omega)) _,λ b o h0=>absurd h0 (Nat.lt_irrefl 0)⟩
end
section
open Go.RowKit Go.Proofs
set_option maxRecDepth 20000
set_option maxHeartbeats 1600000
theorem jof (x:Int)(w:World):Calls Tryz.prog 161 #[.int .u64 x] w λ e w' =>e= .returned (.bool true)∧w' =w:=by
 go_enter Tryz.func161,Tryz.ntmps161;go_wp2_with fail;go_ret;exact⟨rfl,rfl⟩
theorem jpX (x:Nat)(w:World):Calls Tryz.prog 162 #[.int .u64 (x:Int)] w λ e w' =>e= .returned (.bool (decide (x<=16)))∧w' =w:=by
 by_cases h:x<=16
 ·have hi:(x:Int)<=16:=by omega
  rw [decide_eq_true h];clear h;go_enter Tryz.func162,Tryz.ntmps162;go_wp2_with fail;go_ret;exact⟨rfl,rfl⟩
 ·have hi:¬(x:Int)<=16:=by omega
  rw [decide_eq_false h];clear h;go_enter Tryz.func162,Tryz.ntmps162;go_wp2_with fail;go_ret;exact⟨rfl,rfl⟩
theorem jpY (x:Nat)(w:World):Calls Tryz.prog 167 #[.int .u64 (x:Int)] w λ e w' =>e= .returned (.bool (decide (x<=1)))∧w' =w:=by
 by_cases h:x<=1
 ·have hi:(x:Int)<=1:=by omega
  rw [decide_eq_true h];clear h;go_enter Tryz.func167,Tryz.ntmps167;go_wp2_with fail;go_ret;exact⟨rfl,rfl⟩
 ·have hi:¬(x:Int)<=1:=by omega
  rw [decide_eq_false h];clear h;go_enter Tryz.func167,Tryz.ntmps167;go_wp2_with fail;go_ret;exact⟨rfl,rfl⟩
theorem jpZ (k a:ByteArray)(B:Nat)(w:World)(h:Cel w B (.string a)):Calls Tryz.prog 165 #[.string k, .pointer (some ⟨B,0,none⟩)] w λ e w' =>e= .returned (.bool (gtK k a))∧w' =w:=by
 have hc:=h.cell;obtain⟨y,hy⟩:∃y,y=(Op.bytesLess k.toList a.toList||k.toList==a.toList):=⟨_,rfl⟩;have hg:gtK k a= !y:=by rw [hy];rfl
 have hy2:=hy.symm;rw [hg];clear h hy hg
 cases y
 all_goals
  go_enter Tryz.func165,Tryz.ntmps165;go_wp2_with fail;go_ret;exact⟨rfl,rfl⟩
def gKey (l:List UInt8)(a:Nat):ByteArray × Nat × Nat:=(bstr (jbI l a 16).1,(jbI l a 16).2.1,(jbI l a 16).2.2)
def jfU (l:List UInt8)(a:Nat):Nat × Nat × Nat:=((ja0 l a 1).1,a+1,(ja0 l a 1).2)
theorem jlS (A:Option Addr)(n c:Nat)(l:List UInt8)(a:Nat)(w:World)(h:Sl w 1 A n c (cells l)):
  Calls Tryz.prog 164 #[.slice A n c, .int .i64 (a:Int)] w λ e w' =>e= .returned (.tuple #[.string (gKey l a).1, .int .i64 ((gKey l a).2.1:Int), .int .i64 ((gKey l a).2.2:Int)])∧w' =w:=by
 have ht:=jpJ A n c l (a:Int) 16 w h (by decide) (by decide);unfold gKey;obtain⟨x,hx⟩:∃x,x=jbI l (a:Int) 16:=⟨_,rfl⟩;rw [<-hx] at ht ⊢;clear h hx;go_enter Tryz.func164,Tryz.ntmps164;go_wp2_with fail;refine ht.mono ?_;clear ht;rintro e w' ⟨rfl,hw⟩;obtain rfl:w=w':=hw;go_wp2_with fail;go_ret3;exact⟨rfl,rfl⟩
theorem jjI (A:Option Addr)(n c:Nat)(l:List UInt8)(a:Nat)(ha:a<=1000000000000)(w:World)(h:Sl w 1 A n c (cells l)):
  Calls Tryz.prog 166 #[.slice A n c, .int .i64 (a:Int)] w λ e w' =>e= .returned (.tuple #[.int .u64 ((jfU l a).1:Int), .int .i64 ((jfU l a).2.1:Int), .int .i64 ((jfU l a).2.2:Int)])∧w' =w:=by
 have ht:=jfM A n c l (a:Int) 1 w h;unfold jfU;obtain⟨x,hx⟩:∃x,x=ja0 l (a:Int) 1:=⟨_,rfl⟩;rw [<-hx] at ht ⊢;clear h hx;go_enter Tryz.func166,Tryz.ntmps166;go_wp2_with fail;refine ht.mono ?_;clear ht;rintro e w' ⟨rfl,hw⟩;obtain rfl:w=w':=hw;go_wp2_with fail;go_ret3;exact⟨rfl,rfl⟩
def jjJ (f:Nat)(R:Nat)(G P:Value)(w:World)(e:Ending)(w':World):Prop:=
 ∃t g p,e= .returned (.func (.func f) #[] #[.pointer (some ⟨t,0,none⟩), .pointer (some ⟨g,0,none⟩), .pointer (some ⟨p,0,none⟩)])∧Tk3 w' t g p R G P∧Below w.heap.size w w' ∧w.heap.size<=t∧w.heap.size<=g∧w.heap.size<=p
theorem jjK (w:World)(R:Nat)(G P:Value)(t1 t2 t3:TypeId)(hR:R<w.heap.size):Tk3 (((w.alloc (.cells #[.pointer (some ⟨R,0,none⟩)] t1)).alloc (.cells #[G] t2)).alloc (.cells #[P] t3)) w.heap.size (w.heap.size+1) (w.heap.size+1+1) R G P:=by
 have x0:=Cel.new w (.pointer (some ⟨R,0,none⟩)) t1;obtain⟨w1,hw1⟩:∃x,x=w.alloc (.cells #[.pointer (some ⟨R,0,none⟩)] t1):=⟨_,rfl⟩;have z1:w1.heap.size=w.heap.size+1:=by rw [hw1];simp
 rw [<-hw1] at x0 ⊢;have x1:=Cel.new w1 G t2;have b1:Below w1.heap.size w1 (w1.alloc (.cells #[G] t2)):=(Below.refl _ _).alloc (Nat.le_refl _) _;have x0:=x0.later b1;obtain⟨w2,hw2⟩:∃x,x=w1.alloc (.cells #[G] t2):=⟨_,rfl⟩;have z2:w2.heap.size=w1.heap.size+1:=by rw [hw2];simp
 rw [<-hw2] at x0 x1 ⊢;have x2:=Cel.new w2 P t3;have b2:Below w2.heap.size w2 (w2.alloc (.cells #[P] t3)):=(Below.refl _ _).alloc (Nat.le_refl _) _;rw [z2,z1] at x2;rw [z1] at x1;exact⟨by omega,x0.later b2,x1.later b2,x2⟩
theorem jdu (w:World)(a b c:Obj):Below w.heap.size w (((w.alloc a).alloc b).alloc c):=(((Below.refl _ _).alloc (Nat.le_refl _) _).alloc (by simp) _).alloc (by simp;omega) _
theorem jdv (R f g:Nat)(w:World)(hR:R<w.heap.size):Calls Tryz.prog 159 #[.pointer (some ⟨R,0,none⟩), .func (.func f) #[] #[], .func (.func g) #[] #[]] w (jjJ 215 R (.func (.func f) #[] #[]) (.func (.func g) #[] #[]) w):=by
 have H:=qH hR;clear hR;go_enter Tryz.func159,Tryz.ntmps159;go_wp2_with fail;go_ret;exact⟨_,_,_,rfl,jjK w R _ _ _ _ _ H.out,jdu w _ _ _,by omega,by omega,by omega⟩
theorem jlT (R f g:Nat)(v:Value)(w:World)(hR:R<w.heap.size):Calls Tryz.prog 163 #[.pointer (some ⟨R,0,none⟩), .func (.func f) #[] #[], .func (.func g) #[] #[v]] w (jjJ 217 R (.func (.func f) #[] #[]) (.func (.func g) #[] #[v]) w):=by
 have H:=qH hR;clear hR;go_enter Tryz.func163,Tryz.ntmps163;go_wp2_with fail;go_ret;exact⟨_,_,_,rfl,jjK w R _ _ _ _ _ H.out,jdu w _ _ _,by omega,by omega,by omega⟩
theorem jlU (R f g:Nat)(w:World)(hR:R<w.heap.size):Calls Tryz.prog 168 #[.pointer (some ⟨R,0,none⟩), .func (.func f) #[] #[], .func (.func g) #[] #[]] w (jjJ 219 R (.func (.func f) #[] #[]) (.func (.func g) #[] #[]) w):=by
 have H:=qH hR;clear hR;go_enter Tryz.func168,Tryz.ntmps168;go_wp2_with fail;go_ret;exact⟨_,_,_,rfl,jjK w R _ _ _ _ _ H.out,jdu w _ _ _,by omega,by omega,by omega⟩
def endE (l:List UInt8)(s:Nat × Nat):Nat:=if s.2=0∧s.1<l.length then 3 else s.2
theorem jp0 (R:Nat)(A:Option Addr)(n c:Nat)(l:List UInt8)(s:Nat × Nat)(w:World)(h:Rdg w R A n c l s):
  Calls Tryz.prog 171 #[.pointer (some ⟨R,0,none⟩)] w λ e w' =>e= .returned (.int .i64 (endE l s:Int))∧Below w.heap.size w w':=by
 have hl:=h.sl.len;rw [jaa,Nat.mul_one] at hl;have hlim:=h.sl.lim;unfold maxLen at hlim;obtain⟨a,f⟩:=s;have c0:∀k,(w.drewN k).cell? ⟨R,0,none⟩=some (.slice A n c):=λ k=>h.c0
 have c1:∀k,(w.drewN k).cell? ⟨R,1,none⟩=some (.int .i64 (a:Int)):=λ k=>h.c1
 have c2:∀k,(w.drewN k).cell? ⟨R,2,none⟩=some (.int .i64 (f:Int)):=λ k=>h.c2
 have d0:=h.c0;have d1:=h.c1;have d2:=h.c2;unfold endE;rw [hl];dsimp only at d1 d2 ⊢;clear h hl
 by_cases hf:f=0
 ·subst hf
  by_cases ha:a<n
  ·rw [if_pos ⟨rfl,ha⟩]
   have hai:(a:Int)<(n:Int):=by omega
   go_enter Tryz.func171,Tryz.ntmps171;go_wp2_with fail;go_quiet (fail);go_wp2_with fail;go_ret;exact⟨rfl,below_drewN (Below.refl _ _) _⟩
  ·rw [if_neg (λ h=>ha h.2)]
   have hai:¬(a:Int)<(n:Int):=by omega
   go_enter Tryz.func171,Tryz.ntmps171;go_wp2_with fail;go_quiet (fail);go_wp2_with fail;go_ret;exact⟨rfl,below_drewN (Below.refl _ _) _⟩
 ·rw [if_neg (λ h=>hf h.1)]
  have hfi:¬(f:Int)=0:=by omega
  go_enter Tryz.func171,Tryz.ntmps171;go_wp2_with fail;go_quiet (fail);go_wp2_with fail;go_ret;exact⟨rfl,below_drewN (Below.refl _ _) _⟩
end
end Go.Proofs.YtmhejbihdghhaaaGreatDoor

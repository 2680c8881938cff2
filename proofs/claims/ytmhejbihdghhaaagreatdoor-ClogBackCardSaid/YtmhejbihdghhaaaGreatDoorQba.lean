/-
  Layer 18's example ('logs') over LgK: it returns true.
-/
import Derived.Test.YtmhejbihdghhaaaGreatDoorQay
import Derived.Test.YtmhejbihdghhaaaGreatDoorQaz
import Derived.Test.YtmhejbihdghhaaaGreatDoorQax
namespace Go.Proofs.YtmhejbihdghhaaaGreatDoor
set_option linter.unusedVariables false
section
open Go.RowKit Go.Proofs
set_option maxRecDepth 20000
set_option maxHeartbeats 3200000
theorem one_ok18:okR [oneC18]=true:=by kernel_rfl
theorem one_need18 {st:Nat}(h:(txt18 (st, [oneC18])).length=5):needN 1 (st, [oneC18])=1:=by
 rw [needN,if_pos one_ok18,h]
 rfl
theorem one_fit18 {v:RvF}{st:Nat}(h:v.x=(st, [oneC18]))(hs:st<18446744073709551616):v.fit:=by
 have h1:v.st=st:=congrArg Prod.fst h;have h2:v.cs.map CvF.x= [oneC18]:=congrArg Prod.snd h;refine⟨by rw [h1];exact hs,λ c hc=> ?_⟩;have h3:c.x∈v.cs.map CvF.x:=List.mem_map_of_mem hc;rw [h2,List.mem_singleton] at h3;rw [h3]
 decide
theorem one_right18 {v:RvF}{st:Nat}(h:v.x=(st, [oneC18]))(hs:st<18446744073709551616):ok18 v.x:=by
 rw [h];exact⟨hs,one_ok18,λ c hc=>by rw [List.mem_singleton] at hc;rw [hc];decide⟩
section
variable {Rep:World->(Nat->Prop)->Nat->Dv->Prop}{Lg:World->Nat->Nat->Nat->Nat->Nat->Nat->Nat->Prop}
theorem Lc13.copied18 {w0 w w':World}{S:Nat->Prop}{A C k m F T N:Nat}{xs:List Dv}{e:Ending}(h:Lc13 Rep w0 w S A C k m F T N xs)(hr:RetNewP Rep xs w e w'):∃Az Sz,e= .returned (.pointer (some ⟨Az,0,none⟩))∧Lc13 Rep w0 w' Sz Az C k m F T N xs∧Below w.heap.size w w' ∧∀b,Sz b->w.heap.size<=b:=by
 obtain⟨Az,Sz,he,ha,hb,hS⟩:=hr;have hC:C<w.heap.size:=block_lt h.ac.c.row;have hF:F<w.heap.size:=World.block_lt_of_cell? w _ h.ac.c.fld.cell;have hT:T<w.heap.size:=h.ac.c.fld.fld.ltT;have hG:=h.ac.nt.lt13;refine⟨Az,Sz,he,⟨⟨ha,h.ac.c.later hb,⟨λ q=> ?_,λ q=> ?_,λ q=> ?_⟩,h.ac.len,h.ac.n,h.ac.wl,h.ac.nt.keep hb,λ q=> ?_⟩,λ b q=> ?_,h.bel.trans (hb.mono h.bel.size)⟩,hb,hS⟩
 ·have:=hS _ q;omega
 ·have:=hS _ q;omega
 ·have:=hS _ q;omega
 ·have:=hS _ q;omega
 ·have:=hS _ q;have:=h.bel.size;omega
theorem logs18_any (DK:DrvK Rep)(LK:LgK Rep Lg)(w:World)(hN:Nt w):Calls Tryz.prog 10 #[] w (SaysTrue w):=by
 have HN:=qH hN;clear hN;go_enter Tryz.func10,Tryz.ntmps10;go_wp2_with fail;refine(made13_any DK 1 1 8 (by decide) (by decide) (by decide) (by decide) (by decide) w).mono ?_;intro e' w1 hm;obtain⟨A,S1,C,F,T,rfl,hL,hS1,hb1⟩:=Lc13.made hm (Below.refl _ _) HN.out;have L1:=qH hL;clear hm hL hS1 hb1;have hnew:=LK.new 2 4 5 L1.out.ac (by decide) (by decide) (by decide) (by decide) (by decide);go_wp2_with fail;refine hnew.mono ?_;clear hnew;rintro e' w2 ⟨P,rfl,hP,hlg,hb2⟩;have hlo2:Lo18 Rep Lg w w2 S1 A C 1 1 F T 8 (List.replicate (1+1) (Dv.new 8)) P 2 4 5 0:=⟨L1.out.later DK hb2,hlg,λ q=>by have:=L1.out.ac.a.old q;omega,Nat.le_trans L1.out.bel.size hP⟩;have LO2:=qH hlo2;clear hlo2 hlg hb2 hP;go_wp2_with fail;refine(one18_any 1 w2).mono ?_;rintro e' w3 ⟨v1,rfl,hv1,hx1,hb3⟩;have LO3:=qH (LO2.out.later DK LK hb3);obtain⟨xs0,hxs0⟩:∃xs,xs=List.replicate (1+1) (Dv.new 8):=⟨_,rfl⟩
 have hpl0:Pls xs0 1 (1+1) 8 (λ _=>none):=by rw [hxs0];exact Pls.new
 have hid0:Idle xs0:=by rw [hxs0];exact Idle.new
 rw [<-hxs0] at LO3;have hn1:needN 1 v1.x=1:=by rw [hx1];exact one_need18 (by decide)
 have hk1:okR v1.x.2=true:=by rw [hx1];exact one_ok18
 have happ:=LK.append v1 LO3.out.lc.ac hpl0 (hid0.wl0.mono13 (show 0<=900 by decide)) LO3.out.ns LO3.out.lg (by decide) (by decide) (by decide) (by decide) (by decide) hv1 (one_fit18 hx1 (by decide)) hk1 (by rw [hn1];decide);have PL0:=qH hpl0;have ID0:=qH hid0;have HX1:=qH hx1;have HN1:=qH hn1;clear hxs0 hpl0 hid0 hv1 hx1 hn1 hk1 hb3;go_wp2_with fail;refine happ.mono ?_;clear happ;rintro e' w4 ⟨rfl,S4,hac4,hnx4,hns4,hlg4⟩;have hlo4:=LO3.out.both hac4 hnx4 hns4 hlg4;rw [HN1.out] at hlo4;obtain⟨q1,hq1⟩:∃q,q=cut18 1 v1.x:=⟨_,rfl⟩;have hql1:q1.length=1:=by rw [hq1,cut18_len,HX1.out];decide
 have hqs1:∀b∈q1,b.length<=44*1:=by rw [hq1];exact cut18_short (by decide) _
 rw [<-hq1] at hlo4;obtain⟨xs4,hxs4⟩:∃xs,xs=putsS 1 (1+1) 2 5 q1 0 xs0:=⟨_,rfl⟩;obtain⟨f4,hf4⟩:∃f,f=putsF 2 5 q1 0 (λ _=>none):=⟨_,rfl⟩;have hpl4:=Pls.puts (o:=2) (e:=5) (by decide) (by decide) (by decide) q1 0 xs0 _ PL0.out (by rw [hql1];decide) hqs1;rw [<-hxs4] at hlo4 hpl4;rw [<-hf4] at hpl4;have hwl4:=hlo4.lc.ac.wl;have LO4:=qH hlo4;have PL4:=qH hpl4;have HF4:=qH hf4;have HQ1:=qH (show q1=cut18 1 v1.x∧q1.length=1 from ⟨hq1,hql1⟩);clear hac4 hnx4 hns4 hlg4 hlo4 hpl4 hxs4 hf4 hq1 hql1 hqs1;have hxl4:xs4.length=1+1:=LO4.out.lc.ac.len;have hfl:=arflush_any DK LO4.out.lc.ac.a (hwl4.mono13 (show 1000<=100000 by decide)) (by rw [hxl4];decide);rw [flushN_all (λ d x hx=>(PL4.out.live d x hx).2.2),hxl4] at hfl;go_wp2_with fail;refine hfl.mono ?_;clear hfl;rintro e' w5 ⟨rfl,hm5⟩;have hpl5:=PL4.out.flush;have hid5:=flushS_idle (n:=1+1) hxl4 (λ d x hx=>(PL4.out.live d x hx).1)
 obtain⟨S5,hlo5,_⟩:=LO4.out.turn LK hm5 flushS_len (λ d x hx=>⟨(hpl5.live d x hx).1,(hpl5.live d x hx).2.1⟩) hid5.wl0;obtain⟨xs5,hxs5⟩:∃xs,xs=flushS xs4 (1+1):=⟨_,rfl⟩;rw [<-hxs5] at hpl5 hid5 hlo5;have LO5:=qH hlo5;have PL5:=qH hpl5;have ID5:=qH hid5;clear hm5 hpl5 hid5 hlo5 hxs5 hxl4 hwl4;go_wp2_with fail;refine(one18_any 2 w5).mono ?_;rintro e' w6 ⟨v2,rfl,hv2,hx2,hb6⟩;have LO6:=qH (LO5.out.later DK LK hb6);have hn2:needN 1 v2.x=1:=by rw [hx2];exact one_need18 (by decide)
 have hk2:okR v2.x.2=true:=by rw [hx2];exact one_ok18
 have happ:=LK.append v2 LO6.out.lc.ac PL5.out (ID5.out.wl0.mono13 (show 0<=900 by decide)) LO6.out.ns LO6.out.lg (by decide) (by decide) (by decide) (by decide) (by decide) hv2 (one_fit18 hx2 (by decide)) hk2 (by rw [hn2];decide);have HX2:=qH hx2;have HN2:=qH hn2;clear hv2 hx2 hn2 hk2 hb6;go_wp2_with fail;refine happ.mono ?_;clear happ;rintro e' w7 ⟨rfl,S7,hac7,hnx7,hns7,hlg7⟩;have hlo7:=LO6.out.both hac7 hnx7 hns7 hlg7;rw [HN2.out] at hlo7;obtain⟨q2,hq2⟩:∃q,q=cut18 1 v2.x:=⟨_,rfl⟩;have hql2:q2.length=1:=by rw [hq2,cut18_len,HX2.out];decide
 have hqs2:∀b∈q2,b.length<=44*1:=by rw [hq2];exact cut18_short (by decide) _
 rw [<-hq2] at hlo7;have hpl7:=Pls.puts (o:=2) (e:=5) (by decide) (by decide) (by decide) q2 (0+1) xs5 f4 PL5.out (by rw [hql2];decide) hqs2;obtain⟨xs7,hxs7⟩:∃xs,xs=putsS 1 (1+1) 2 5 q2 (0+1) xs5:=⟨_,rfl⟩;obtain⟨f7,hf7⟩:∃f,f=putsF 2 5 q2 (0+1) f4:=⟨_,rfl⟩;rw [<-hxs7] at hlo7 hpl7;rw [<-hf7] at hpl7;have LO7:=qH hlo7;have PL7:=qH hpl7;have HQ2:=qH (show q2=cut18 1 v2.x∧q2.length=1∧∀b∈q2,b.length<=44*1 from ⟨hq2,hql2,hqs2⟩);have HXS7:=qH hxs7;have HF7:=qH hf7;clear hac7 hnx7 hns7 hlg7 hlo7 hpl7 hxs7 hf7 hq2 hql2 hqs2;have hxl7:xs7.length=1+1:=LO7.out.lc.ac.len;have hcp:=arcopy_any DK LO7.out.lc.ac.a (LO7.out.lc.ac.wl.mono13 (show 1000<=100000 by decide)) (by rw [hxl7];decide);go_wp2_with fail;refine hcp.mono ?_;clear hcp;intro e' w8 hc8;obtain⟨B,SB,rfl,hLB,hb8,hSB⟩:=LO7.out.lc.copied18 hc8;have LO8:=qH (LO7.out.later DK LK hb8);have LB8:=qH hLB
 have DJ8:=qH (show ∀b,SB b->¬S7 b from λ b hb q=>by have:=hSB b hb;have:=LO7.out.lc.ac.a.old q;omega);clear hc8 hLB hb8 hSB;have hcr:=arcrash_any DK LO8.out.lc.ac.a (LO8.out.lc.ac.wl.mono13 (show 1000<=100000 by decide)) (by rw [hxl7];decide) (Ns.nil w8 (λ _=>False) 0 (by decide)) (λ b h=>h.elim);rw [hxl7] at hcr;have hcat:=λ d y hy=>crash_at (kss:= []) (o:=2) (e:=5) (u:=0+1) (k:=1) (n:=1+1) (N:=8) (f:=f4) (xs:=xs5) (ps:=q2) (by decide) (by decide) (by decide) PL5.out ID5.out (by rw [HQ2.out.2.1];decide) HQ2.out.2.2 (d:=d) (y:=y) hy
 rw [<-HXS7.out] at hcat;go_wp2_with fail;refine hcr.mono ?_;clear hcr;rintro e' w9 ⟨rfl,hm9⟩;obtain⟨S9,hlo9,hnx9⟩:=LO8.out.turn LK hm9 crashS_len (λ d x hx=>by obtain⟨_,_,h1,h2,_⟩:=hcat d x hx;exact⟨h1,h2⟩) (crashS_idle hxl7).wl0;have LO9:=qH hlo9;have ap7:=LO8.out.lc.ac.ap;have LB9:=qH (LB8.out.aside18 DK hnx9.1 DJ8.out ap7.c ap7.f ap7.t LO8.out.lc.ac.ng hlo9.lc.bel);have hgA:Got (crashS xs7 [] (1+1)) 1 (1+1) 8 2 5 4 q1:=by
  have hc0:=λ (g:Nat) (b:List UInt8) (G:Nat->Bool) (p:Nat) (hs:Str xs5 1 (1+1) 8 2 p g b G) (hp:p<8) (hq:p<2 +(0+1)∨2 +(0+1)+q2.length<=p)=>crash_aside18 (kss:= []) (o:=2) (e:=5) (u:=0+1) (f:=f4) (by decide) (by decide) (by decide) PL5.out ID5.out (by rw [HQ2.out.2.1];decide) HQ2.out.2.2 hs hp hq
  rw [<-HXS7.out] at hc0;refine⟨by rw [HQ1.out.2];decide,λ i b hb=> ?_,λ _=> ?_⟩
  ·have hi:i=0:=by have:=get_lt hb;have:=HQ1.out.2;omega
   subst hi;have hf:f4 (2+0)=some (genN 5 ((0:Nat):Int),b):=by rw [HF4.out];exact putsF_in (o:=2) (e:=5) q1 0 (λ _=>none) 0 b hb
   obtain⟨h1,h2⟩:=PL5.out.yes (2+0) _ b (by decide) hf;exact⟨_,h1,hc0 _ _ _ _ h2 (by decide) (.inl (by decide)),by rw [cntG_all (λ _ _=>rfl)];decide⟩
  ·rw [HQ1.out.2]
   obtain⟨b,hb⟩:∃b,q2[0]? =some b:=⟨_,List.getElem?_eq_getElem (by rw [HQ2.out.2.1];decide)⟩;have hno:Str xs5 1 (1+1) 8 2 (2 +(0+1)+0) (genN 5 ((0+1+0:Nat):Int)) b (λ _=>false):=PL5.out.none_at (by decide) (by decide) (λ b' hh=>by
    rw [HF4.out,putsF_out _ _ _ _ (.inr (by rw [HQ1.out.2];decide))] at hh
    cases hh)
   have h2:=crash_in18 (kss:= []) (o:=2) (e:=5) (u:=0+1) (f:=f4) (by decide) (by decide) (by decide) PL5.out ID5.out (by rw [HQ2.out.2.1];decide) HQ2.out.2.2 hb hno;rw [<-HXS7.out] at h2;exact⟨b,_,ref18 (by decide) (genN_lt _ _) (HQ2.out.2.2 b (List.mem_of_getElem? hb)) (by decide),h2,by decide⟩
 have hfq1:∀(i:Nat) (b:List UInt8),(q1++q2)[i]? =some b->f7 (2+i)=some (genN 5 (i:Int),b):=λ i b hb=>by
  have hi:=get_lt hb;rw [List.length_append,HQ1.out.2,HQ2.out.2.1] at hi
  rcases(show i=0∨i=1 by omega) with rfl|rfl
  ·rw [List.getElem?_append_left (by rw [HQ1.out.2];decide)] at hb
   rw [HF7.out,putsF_out _ _ _ _ (.inl (by decide)),HF4.out];exact putsF_in (o:=2) (e:=5) q1 0 (λ _=>none) 0 b hb
  ·rw [List.getElem?_append_right (by rw [HQ1.out.2];decide),HQ1.out.2] at hb
   rw [HF7.out];exact putsF_in (o:=2) (e:=5) q2 (0+1) f4 0 b hb
 have hlq:(q1++q2).length=2:=by rw [List.length_append,HQ1.out.2,HQ2.out.2.1]
 have hgB:Got xs7 1 (1+1) 8 2 5 4 (q1++q2):=PL7.out.got (by decide) (by decide) (by decide) (by decide) (by decide) (by rw [hlq];decide) hfq1 (λ _ b hh=>by
  rw [hlq,HF7.out,putsF_out _ _ _ _ (.inr (by rw [HQ2.out.2.1];decide)),HF4.out,putsF_out _ _ _ _ (.inr (by rw [HQ1.out.2];decide))] at hh
  cases hh)
 have hgC:Got xs7 1 (1+1) 8 2 6 4 []:=PL7.out.got (by decide) (by decide) (by decide) (by decide) (by decide) (Nat.zero_le _) (λ i b hb=>by simp at hb) (λ _ b hh=>by
  obtain⟨b0,hb0⟩:∃b0,(q1++q2)[0]? =some b0:=⟨_,List.getElem?_eq_getElem (by rw [hlq];decide)⟩;have h1:=hfq1 0 b0 hb0;have hh:f7 (2+0)=some (genN 6 ((0:Nat):Int),b):=hh;rw [h1] at hh;injection hh with hh
  injection hh with hh _
  exact gen_apart (e:=5) (e':=6) (i:=0) (by decide) (by decide) (by decide) (by decide) hh)
 have hrA:repF q1=([v1.x],1):=by
  have h:=repF_cut18 (k:=1) (by decide) (by decide) [v1.x] (λ x hx=>by rw [List.mem_singleton] at hx;rw [hx];exact one_right18 HX1.out (by decide));have e: [v1.x].flatMap (cut18 1)=q1:=by rw [HQ1.out.1];simp
  rw [e,HQ1.out.2] at h;exact h
 have hrB:repF (q1++q2)=([v1.x,v2.x],2):=by
  have h:=repF_cut18 (k:=1) (by decide) (by decide) [v1.x,v2.x] (λ x hx=>by
   simp only [List.mem_cons,List.not_mem_nil,or_false] at hx
   rcases hx with hx|hx
   ·rw [hx];exact one_right18 HX1.out (by decide)
   ·rw [hx];exact one_right18 HX2.out (by decide))
  have e: [v1.x,v2.x].flatMap (cut18 1)=q1++q2:=by rw [HQ1.out.1,HQ2.out.1];simp
  rw [e,hlq] at h;exact h
 have hr1:=LK.replay 2 4 5 LO9.out.lc.ac (by decide) (by decide) (by decide) (by decide) (by decide) hgA;rw [hrA] at hr1;have GB:=qH hgB;have GC:=qH hgC;have HRB:=qH hrB;clear hm9 hlo9 hnx9 ap7 hcat hgA hgB hgC hrA hrB hfq1 hlq hxl7;go_wp2_with fail;refine hr1.mono ?_;clear hr1;rintro e' w10 ⟨A10,c10,r10,rfl,hrc10,hvx10,hb10⟩;have LO10:=qH (LO9.out.later DK LK hb10);have LB10:=qH (LB9.out.later DK hb10);have RC10:=qH hrc10;have HV10:=qH hvx10;clear hrc10 hvx10 hb10;have hr2:=LK.replay 2 4 5 LB10.out.ac (by decide) (by decide) (by decide) (by decide) (by decide) GB.out;rw [HRB.out] at hr2;go_wp2_with fail;refine hr2.mono ?_;clear hr2;rintro e' w11 ⟨A11,c11,r11,rfl,hrc11,hvx11,hb11⟩;have LO11:=qH (LO10.out.later DK LK hb11);have LB11:=qH (LB10.out.later DK hb11);have RC11:=qH (RC10.out.below hb11);have HL11:=qH (show r11.length=2 from by have:=congrArg List.length hvx11;simpa using this)
 clear hrc11 hvx11 hb11;have hr3:=LK.replay 2 4 6 LB11.out.ac (by decide) (by decide) (by decide) (by decide) (by decide) GC.out;rw [show repF []=([],0) from rfl] at hr3;go_wp2_with fail;refine hr3.mono ?_;clear hr3;rintro e' w12 ⟨A12,c12,r12,rfl,hrc12,hvx12,hb12⟩;have LO12:=qH (LO11.out.later DK LK hb12);have RC12:=qH (RC11.out.below hb12);have HL12:=qH (show r12.length=0 from by have:=congrArg List.length hvx12;simpa using this);clear hrc12 hvx12 hb12;obtain⟨y,hy⟩:∃y,r10= [y]:=by
  have:=congrArg List.length HV10.out;simp only [List.length_map,List.length_singleton] at this;exact List.length_eq_one_iff.1 this
 subst hy;have hyx:y.x=v1.x:=by have:=HV10.out;simpa using this
 have hys:y.st=1:=by
  have h1:=congrArg Prod.fst hyx;rw [HX1.out] at h1;exact h1
 obtain⟨bx,ox,hAx,hcx,_⟩:=RC12.out.cell 0 y rfl;have hc0:=hcx 0 _ rfl;rw [hys] at hc0;subst hAx;rw [Nat.zero_mul,Nat.add_zero] at hc0;have hl1: [y].length=1:=rfl;rw [HL11.out,HL12.out,hl1];have hus:=LK.used LO12.out.lg (by decide) (by decide);clear hcx hyx hys hl1;go_wp2_with fail;refine hus.mono ?_;clear hus;rintro e' w13 ⟨rfl,hb13⟩;have LO13:=qH (LO12.out.later DK LK hb13);have hlf:=LK.left LO13.out.lg (by decide) (by decide);clear hb13 hc0;go_wp2_with fail;refine hlf.mono ?_;clear hlf;rintro e' w14 ⟨rfl,hb14⟩;have LO14:=qH (LO13.out.later DK LK hb14);clear hb14;go_wp2_with fail;refine(one18_any 3 w14).mono ?_;rintro e' w15 ⟨v3,rfl,hv3,hx3,hb15⟩;have LO15:=qH (LO14.out.later DK LK hb15);have hne:=LK.need v3 LO15.out.lc.ac LO15.out.lg hv3 (one_fit18 hx3 (by decide));rw [show needN 1 v3.x=1 from by rw [hx3];exact one_need18 (by decide)] at hne;clear hv3 hx3 hb15;go_wp2_with fail
 refine hne.mono ?_;clear hne;rintro e' w16 ⟨rfl,hb16⟩;have LO16:=qH (LO15.out.later DK LK hb16);have hep:=LK.epoch LO16.out.lg (by decide);clear hb16;go_wp2_with fail;refine hep.mono ?_;clear hep;rintro e' w17 ⟨rfl,hb17⟩;have LO17:=qH (LO16.out.later DK LK hb17);have hrf:=LK.refs LO17.out.lg (by decide) (by decide) (by decide) (by decide);clear hb17;go_wp2_with fail;refine hrf.mono ?_;clear hrf;rintro e' w18 ⟨AR,cr,rfl,hb18⟩;have B18:=qH (LO17.out.lc.bel.trans (hb18.mono LO17.out.lc.bel.size));clear hb18;go_wp2_with fail;go_ret;exact⟨rfl,B18.out⟩
end
end
section
open Go.RowKit Go.Proofs
section
variable {xs:List Dv}{k n N g c:Nat}{b:List UInt8}{G:Nat->Bool}
/-! Drives that fail, whatever numbers are told. -/
def failZ (l:List Int)(xs:List Dv):Nat->List Dv
 |0=>xs
 |t+1=>onD (failZ l xs t) (l.getD t 0) (λ x=>x.fail)
def goodZ (l:List Int)(t d:Nat):Bool:= !(l.take t).contains (d:Int)
theorem failZ_len {l:List Int}:∀t,(failZ l xs t).length=xs.length
 |0=>rfl
 |t+1=>by rw [failZ,onD_len,failZ_len t]
theorem goodZ_next {l:List Int}{t:Nat}(ht:t<l.length)(d:Nat):goodZ l (t+1) d=if (d:Int)=l.getD t 0 then false else goodZ l t d:=by
 have e:l.take (t+1)=l.take t ++ [l.getD t 0]:=by
  rw [List.getD_eq_getElem?_getD,List.getElem?_eq_getElem ht];simp
 rw [goodZ,goodZ,e]
 by_cases h:(d:Int)=l.getD t 0
 ·rw [if_pos h,<-h];simp
 ·rw [if_neg h,List.contains_eq_mem,List.contains_eq_mem]
  have hp:((d:Int)∈l.take t ++ [l.getD t 0])=((d:Int)∈l.take t):=propext (by
   rw [List.mem_append,List.mem_singleton];exact⟨λ q=>q.elim id (λ q=>absurd q h), .inl⟩)
  simp only [hp]
theorem Str.failZ {kd:UInt8}{p:Nat}{l:List Int}(h:Str xs k n N kd p g b (λ _=>true)):∀t,t<=l.length->Str (failZ l xs t) k n N kd p g b (goodZ l t)
 |0,_=>h.congr λ d hd=>by simp [goodZ]
 |t+1,ht=>by
  have h1:=Str.failZ (l:=l) h t (by omega);have hl:=h1.len;rw [YtmhejbihdghhaaaGreatDoor.failZ]
  rcases ofD_cases (YtmhejbihdghhaaaGreatDoor.failZ l xs t) (l.getD t 0) with ⟨i,x,hi,hx⟩|hz
  ·have hd:i<n:=by have:=get_lt hx;omega
   rw [hi];refine(h1.fail hd).congr λ d _=> ?_
   rw [goodZ_next (by omega),hi]
   by_cases e:d=i
   ·rw [if_pos e,if_pos (by omega)]
   ·rw [if_neg e,if_neg (by omega)]
  ·rw [onD_no hz]
   refine h1.congr λ d hd=> ?_
   rw [goodZ_next (by omega),if_neg (by omega)]
theorem failZ_ns {l:List Int}(h:∀(d:Nat) (x:Dv),xs[d]? =some x->x.Ok∧x.n=N):∀t (d:Nat) (x:Dv),(failZ l xs t)[d]? =some x->x.Ok∧x.n=N
 |0=>h
 |t+1=>λ d x hx=>by
  rw [failZ] at hx
  rcases ofD_cases (failZ l xs t) (l.getD t 0) with ⟨i,y,hi,hy⟩|hz
  ·rw [hi] at hx
   by_cases e:d=i
   ·subst e
    rw [onD_yes hy,List.getElem?_set_self (get_lt hy)] at hx;injection hx with hx
    obtain⟨h1,h2⟩:=failZ_ns h t _ _ hy;rw [<-hx];exact⟨Dv.Ok.fail y,by rw [fail_n];exact h2⟩
   ·rw [onD_ne (by omega)] at hx
    exact failZ_ns h t d x hx
  ·rw [onD_no hz] at hx
   exact failZ_ns h t d x hx
theorem failZ_wl {l:List Int}(h:Wl c xs):∀t,Wl c (failZ l xs t)
 |0=>h
 |t+1=>by rw [failZ];exact onD_wl (failZ_wl h t) λ x hx=>by rw [fail_wait];exact Nat.zero_le _
theorem cntG_drop {n:Nat}{G:Nat->Bool}{z:Int}:cntG n G<=cntG n (λ d=>if (d:Int)=z then false else G d)+1:=by
 induction n with
 |zero=>exact Nat.zero_le _
 |succ n ih=>
  have e:∀F:Nat->Bool,cntG (n+1) F=cntG n F +(if F n=true then 1 else 0):=λ F=>by
   rw [cntG,List.range_succ,List.countP_append,cntG];simp [List.countP_cons]
  rw [e,e]
  by_cases hz:(n:Int)=z
  ·have e2:cntG n (λ d=>if (d:Int)=z then false else G d)=cntG n G:=cntG_congr λ d hd=>by
    rw [if_neg (by omega)]
   rw [e2,if_pos hz]
   split<;>simp
  ·rw [if_neg hz]
   split<;>omega
theorem cntG_goodZ {n:Nat}{l:List Int}:∀t,t<=l.length->n<=cntG n (goodZ l t)+t
 |0,_=>by
  rw [cntG_all (λ d _=>by simp [goodZ])];exact Nat.le_refl _
 |t+1,ht=>by
  have h1:=cntG_goodZ (n:=n) (l:=l) t (by omega);have h2:cntG n (goodZ l (t+1))=cntG n (λ d=>if (d:Int)=l.getD t 0 then false else goodZ l t d):=cntG_congr λ d _=>goodZ_next (by omega) d
  have h3:=cntG_drop (n:=n) (G:=goodZ l t) (z:=l.getD t 0);omega
end
end
end Go.Proofs.YtmhejbihdghhaaaGreatDoor

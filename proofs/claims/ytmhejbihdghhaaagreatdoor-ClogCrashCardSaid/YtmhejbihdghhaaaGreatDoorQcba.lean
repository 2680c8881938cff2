/-
  Layer 18's example ('logs') over LgK: it returns true.
-/
import Derived.Test.YtmhejbihdghhaaaGreatDoorQcay
import Derived.Test.YtmhejbihdghhaaaGreatDoorQcaz
import Derived.Test.YtmhejbihdghhaaaGreatDoorQcax
import Derived.Test.YtmhejbihdghhaaaGreatDoorQcab
import Derived.Test.YtmhejbihdghhaaaGreatDoorJa
import Derived.Deep.Slices
import Derived.Deep.Fields
namespace Go.Proofs.YtmhejbihdghhaaaGreatDoor
set_option linter.unusedVariables false
section
open Go.RowKit Go.Proofs
set_option maxRecDepth 20000
set_option maxHeartbeats 3200000
theorem je1:okR [jeN]=true:=by kernel_rfl
theorem jey {st:Nat}(h:(jbk (st, [jeN])).length=5):jby 1 (st, [jeN])=1:=by
 rw [jby,if_pos je1,h]
 rfl
theorem jf0 {v:RvF}{st:Nat}(h:v.x=(st, [jeN]))(hs:st<18446744073709551616):v.fit:=by
 have h1:v.st=st:=congrArg Prod.fst h;have h2:v.cs.map CvF.x= [jeN]:=congrArg Prod.snd h;refine⟨by rw [h1];exact hs,λ c hc=> ?_⟩;have h3:c.x∈v.cs.map CvF.x:=List.mem_map_of_mem hc;rw [h2,List.mem_singleton] at h3;rw [h3]
 decide
theorem jdx {v:RvF}{st:Nat}(h:v.x=(st, [jeN]))(hs:st<18446744073709551616):ok18 v.x:=by
 rw [h];exact⟨hs,je1,λ c hc=>by rw [List.mem_singleton] at hc;rw [hc];decide⟩
section
variable {Rep:World->(Nat->Prop)->Nat->Dv->Prop}{Lg:World->Nat->Nat->Nat->Nat->Nat->Nat->Nat->Prop}
theorem Lc13.copied18 {w0 w w':World}{S:Nat->Prop}{A C k m F T N:Nat}{xs:List Dv}{e:Ending}(h:Lc13 Rep w0 w S A C k m F T N xs)(hr:jjg Rep xs w e w'):∃Az Sz,e= .returned (.pointer (some ⟨Az,0,none⟩))∧Lc13 Rep w0 w' Sz Az C k m F T N xs∧Below w.heap.size w w' ∧∀b,Sz b->w.heap.size<=b:=by
 obtain⟨Az,Sz,he,ha,hb,hS⟩:=hr;have hC:C<w.heap.size:=block_lt h.ac.c.row;have hF:F<w.heap.size:=World.block_lt_of_cell? w _ h.ac.c.fld.cell;have hT:T<w.heap.size:=h.ac.c.fld.fld.ltT;have hG:=h.ac.nt.lt13;refine⟨Az,Sz,he,⟨⟨ha,h.ac.c.later hb,⟨λ q=> ?_,λ q=> ?_,λ q=> ?_⟩,h.ac.len,h.ac.n,h.ac.wl,h.ac.nt.keep hb,λ q=> ?_⟩,λ b q=> ?_,h.bel.trans (hb.mono h.bel.size)⟩,hb,hS⟩
 ·have:=hS _ q;omega
 ·have:=hS _ q;omega
 ·have:=hS _ q;omega
 ·have:=hS _ q;omega
 ·have:=hS _ q;have:=h.bel.size;omega
theorem logs18_any (DK:DrvK Rep)(LK:LgK Rep Lg)(w:World)(hN:Nt w):Calls Tryz.prog 10 #[] w (jdB w):=by
 have HN:=qH hN;clear hN;go_enter Tryz.func10,Tryz.ntmps10;go_wp2_with fail;refine(jgx DK 1 1 8 (by decide) (by decide) (by decide) (by decide) (by decide) w).mono ?_;intro e' w1 hm;obtain⟨A,S1,C,F,T,rfl,hL,hS1,hb1⟩:=Lc13.made hm (Below.refl _ _) HN.out;have L1:=qH hL;clear hm hL hS1 hb1;have hnew:=LK.new 2 4 5 L1.out.ac (by decide) (by decide) (by decide) (by decide) (by decide);go_wp2_with fail;refine hnew.mono ?_;clear hnew;rintro e' w2 ⟨P,rfl,hP,hlg,hb2⟩;have hlo2:Lo18 Rep Lg w w2 S1 A C 1 1 F T 8 (List.replicate (1+1) (Dv.new 8)) P 2 4 5 0:=⟨L1.out.later DK hb2,hlg,λ q=>by have:=L1.out.ac.a.old q;omega,Nat.le_trans L1.out.bel.size hP⟩;have LO2:=qH hlo2;clear hlo2 hlg hb2 hP;go_wp2_with fail;refine(jfZ 1 w2).mono ?_;rintro e' w3 ⟨v1,rfl,hv1,hx1,hb3⟩;have LO3:=qH (LO2.out.later DK LK hb3);obtain⟨xs0,hxs0⟩:∃xs,xs=List.replicate (1+1) (Dv.new 8):=⟨_,rfl⟩
 have hpl0:Pls xs0 1 (1+1) 8 (λ _=>none):=by rw [hxs0];exact Pls.new
 have hid0:Idle xs0:=by rw [hxs0];exact Idle.new
 rw [<-hxs0] at LO3;have hn1:jby 1 v1.x=1:=by rw [hx1];exact jey (by decide)
 have hk1:okR v1.x.2=true:=by rw [hx1];exact je1
 have happ:=LK.append v1 LO3.out.lc.ac hpl0 (hid0.wl0.mono13 (show 0<=900 by decide)) LO3.out.ns LO3.out.lg (by decide) (by decide) (by decide) (by decide) (by decide) hv1 (jf0 hx1 (by decide)) hk1 (by rw [hn1];decide);have PL0:=qH hpl0;have ID0:=qH hid0;have HX1:=qH hx1;have HN1:=qH hn1;clear hxs0 hpl0 hid0 hv1 hx1 hn1 hk1 hb3;go_wp2_with fail;refine happ.mono ?_;clear happ;rintro e' w4 ⟨rfl,S4,hac4,hnx4,hns4,hlg4⟩;have hlo4:=LO3.out.both hac4 hnx4 hns4 hlg4;rw [HN1.out] at hlo4;obtain⟨q1,hq1⟩:∃q,q=jaA 1 v1.x:=⟨_,rfl⟩;have hql1:q1.length=1:=by rw [hq1,jbz,HX1.out];decide
 have hqs1:∀b∈q1,b.length<=44*1:=by rw [hq1];exact jbV (by decide) _
 rw [<-hq1] at hlo4;obtain⟨xs4,hxs4⟩:∃xs,xs=jbq 1 (1+1) 2 5 q1 0 xs0:=⟨_,rfl⟩;obtain⟨f4,hf4⟩:∃f,f=jer 2 5 q1 0 (λ _=>none):=⟨_,rfl⟩;have hpl4:=Pls.puts (o:=2) (e:=5) (by decide) (by decide) (by decide) q1 0 xs0 _ PL0.out (by rw [hql1];decide) hqs1;rw [<-hxs4] at hlo4 hpl4;rw [<-hf4] at hpl4;have hwl4:=hlo4.lc.ac.wl;have LO4:=qH hlo4;have PL4:=qH hpl4;have HF4:=qH hf4;have HQ1:=qH (show q1=jaA 1 v1.x∧q1.length=1 from ⟨hq1,hql1⟩);clear hac4 hnx4 hns4 hlg4 hlo4 hpl4 hxs4 hf4 hq1 hql1 hqs1;have hxl4:xs4.length=1+1:=LO4.out.lc.ac.len;have hfl:=jcF DK LO4.out.lc.ac.a (hwl4.mono13 (show 1000<=100000 by decide)) (by rw [hxl4];decide);rw [jlF (λ d x hx=>(PL4.out.live d x hx).2.2),hxl4] at hfl;go_wp2_with fail;refine hfl.mono ?_;clear hfl;rintro e' w5 ⟨rfl,hm5⟩;have hpl5:=PL4.out.flush;have hid5:=jcH (n:=1+1) hxl4 (λ d x hx=>(PL4.out.live d x hx).1)
 obtain⟨S5,hlo5,_⟩:=LO4.out.turn LK hm5 jbp (λ d x hx=>⟨(hpl5.live d x hx).1,(hpl5.live d x hx).2.1⟩) hid5.wl0;obtain⟨xs5,hxs5⟩:∃xs,xs=jaL xs4 (1+1):=⟨_,rfl⟩;rw [<-hxs5] at hpl5 hid5 hlo5;have LO5:=qH hlo5;have PL5:=qH hpl5;have ID5:=qH hid5;clear hm5 hpl5 hid5 hlo5 hxs5 hxl4 hwl4;go_wp2_with fail;refine(jfZ 2 w5).mono ?_;rintro e' w6 ⟨v2,rfl,hv2,hx2,hb6⟩;have LO6:=qH (LO5.out.later DK LK hb6);have hn2:jby 1 v2.x=1:=by rw [hx2];exact jey (by decide)
 have hk2:okR v2.x.2=true:=by rw [hx2];exact je1
 have happ:=LK.append v2 LO6.out.lc.ac PL5.out (ID5.out.wl0.mono13 (show 0<=900 by decide)) LO6.out.ns LO6.out.lg (by decide) (by decide) (by decide) (by decide) (by decide) hv2 (jf0 hx2 (by decide)) hk2 (by rw [hn2];decide);have HX2:=qH hx2;have HN2:=qH hn2;clear hv2 hx2 hn2 hk2 hb6;go_wp2_with fail;refine happ.mono ?_;clear happ;rintro e' w7 ⟨rfl,S7,hac7,hnx7,hns7,hlg7⟩;have hlo7:=LO6.out.both hac7 hnx7 hns7 hlg7;rw [HN2.out] at hlo7;obtain⟨q2,hq2⟩:∃q,q=jaA 1 v2.x:=⟨_,rfl⟩;have hql2:q2.length=1:=by rw [hq2,jbz,HX2.out];decide
 have hqs2:∀b∈q2,b.length<=44*1:=by rw [hq2];exact jbV (by decide) _
 rw [<-hq2] at hlo7;have hpl7:=Pls.puts (o:=2) (e:=5) (by decide) (by decide) (by decide) q2 (0+1) xs5 f4 PL5.out (by rw [hql2];decide) hqs2;obtain⟨xs7,hxs7⟩:∃xs,xs=jbq 1 (1+1) 2 5 q2 (0+1) xs5:=⟨_,rfl⟩;obtain⟨f7,hf7⟩:∃f,f=jer 2 5 q2 (0+1) f4:=⟨_,rfl⟩;rw [<-hxs7] at hlo7 hpl7;rw [<-hf7] at hpl7;have LO7:=qH hlo7;have PL7:=qH hpl7;have HQ2:=qH (show q2=jaA 1 v2.x∧q2.length=1∧∀b∈q2,b.length<=44*1 from ⟨hq2,hql2,hqs2⟩);have HXS7:=qH hxs7;have HF7:=qH hf7;clear hac7 hnx7 hns7 hlg7 hlo7 hpl7 hxs7 hf7 hq2 hql2 hqs2;have hxl7:xs7.length=1+1:=LO7.out.lc.ac.len;have hcp:=jlh DK LO7.out.lc.ac.a (LO7.out.lc.ac.wl.mono13 (show 1000<=100000 by decide)) (by rw [hxl7];decide);go_wp2_with fail;refine hcp.mono ?_;clear hcp;intro e' w8 hc8;obtain⟨B,SB,rfl,hLB,hb8,hSB⟩:=LO7.out.lc.copied18 hc8;have LO8:=qH (LO7.out.later DK LK hb8);have LB8:=qH hLB
 have DJ8:=qH (show ∀b,SB b->¬S7 b from λ b hb q=>by have:=hSB b hb;have:=LO7.out.lc.ac.a.old q;omega);clear hc8 hLB hb8 hSB;have hcr:=jfz DK LO8.out.lc.ac.a (LO8.out.lc.ac.wl.mono13 (show 1000<=100000 by decide)) (by rw [hxl7];decide) (Ns.nil w8 (λ _=>False) 0 (by decide)) (λ b h=>h.elim);rw [hxl7] at hcr;have hcat:=λ d y hy=>je0 (kss:= []) (o:=2) (e:=5) (u:=0+1) (k:=1) (n:=1+1) (N:=8) (f:=f4) (xs:=xs5) (ps:=q2) (by decide) (by decide) (by decide) PL5.out ID5.out (by rw [HQ2.out.2.1];decide) HQ2.out.2.2 (d:=d) (y:=y) hy
 rw [<-HXS7.out] at hcat;go_wp2_with fail;refine hcr.mono ?_;clear hcr;rintro e' w9 ⟨rfl,hm9⟩;obtain⟨S9,hlo9,hnx9⟩:=LO8.out.turn LK hm9 jbK (λ d x hx=>by obtain⟨_,_,h1,h2,_⟩:=hcat d x hx;exact⟨h1,h2⟩) (jfY hxl7).wl0;have LO9:=qH hlo9;have ap7:=LO8.out.lc.ac.ap;have LB9:=qH (LB8.out.aside18 DK hnx9.1 DJ8.out ap7.c ap7.f ap7.t LO8.out.lc.ac.ng hlo9.lc.bel);have hgA:Got (jbC xs7 [] (1+1)) 1 (1+1) 8 2 5 4 q1:=by
  have hc0:=λ (g:Nat) (b:List UInt8) (G:Nat->Bool) (p:Nat) (hs:Str xs5 1 (1+1) 8 2 p g b G) (hp:p<8) (hq:p<2 +(0+1)∨2 +(0+1)+q2.length<=p)=>jcJ (kss:= []) (o:=2) (e:=5) (u:=0+1) (f:=f4) (by decide) (by decide) (by decide) PL5.out ID5.out (by rw [HQ2.out.2.1];decide) HQ2.out.2.2 hs hp hq
  rw [<-HXS7.out] at hc0;refine⟨by rw [HQ1.out.2];decide,λ i b hb=> ?_,λ _=> ?_⟩
  ·have hi:i=0:=by have:=jaF hb;have:=HQ1.out.2;omega
   subst hi;have hf:f4 (2+0)=some (genN 5 ((0:Nat):Int),b):=by rw [HF4.out];exact jeb (o:=2) (e:=5) q1 0 (λ _=>none) 0 b hb
   obtain⟨h1,h2⟩:=PL5.out.yes (2+0) _ b (by decide) hf;exact⟨_,h1,hc0 _ _ _ _ h2 (by decide) (.inl (by decide)),by rw [jha (λ _ _=>rfl)];decide⟩
  ·rw [HQ1.out.2]
   obtain⟨b,hb⟩:∃b,q2[0]? =some b:=⟨_,List.getElem?_eq_getElem (by rw [HQ2.out.2.1];decide)⟩;have hno:Str xs5 1 (1+1) 8 2 (2 +(0+1)+0) (genN 5 ((0+1+0:Nat):Int)) b (λ _=>false):=PL5.out.none_at (by decide) (by decide) (λ b' hh=>by
    rw [HF4.out,jbx _ _ _ _ (.inr (by rw [HQ1.out.2];decide))] at hh
    cases hh)
   have h2:=jex (kss:= []) (o:=2) (e:=5) (u:=0+1) (f:=f4) (by decide) (by decide) (by decide) PL5.out ID5.out (by rw [HQ2.out.2.1];decide) HQ2.out.2.2 hb hno;rw [<-HXS7.out] at h2;exact⟨b,_,jiv (by decide) (jc1 _ _) (HQ2.out.2.2 b (List.mem_of_getElem? hb)) (by decide),h2,by decide⟩
 have hfq1:∀(i:Nat) (b:List UInt8),(q1++q2)[i]? =some b->f7 (2+i)=some (genN 5 (i:Int),b):=λ i b hb=>by
  have hi:=jaF hb;rw [List.length_append,HQ1.out.2,HQ2.out.2.1] at hi
  rcases(show i=0∨i=1 by omega) with rfl|rfl
  ·rw [List.getElem?_append_left (by rw [HQ1.out.2];decide)] at hb
   rw [HF7.out,jbx _ _ _ _ (.inl (by decide)),HF4.out];exact jeb (o:=2) (e:=5) q1 0 (λ _=>none) 0 b hb
  ·rw [List.getElem?_append_right (by rw [HQ1.out.2];decide),HQ1.out.2] at hb
   rw [HF7.out];exact jeb (o:=2) (e:=5) q2 (0+1) f4 0 b hb
 have hlq:(q1++q2).length=2:=by rw [List.length_append,HQ1.out.2,HQ2.out.2.1]
 have hgB:Got xs7 1 (1+1) 8 2 5 4 (q1++q2):=PL7.out.got (by decide) (by decide) (by decide) (by decide) (by decide) (by rw [hlq];decide) hfq1 (λ _ b hh=>by
  rw [hlq,HF7.out,jbx _ _ _ _ (.inr (by rw [HQ2.out.2.1];decide)),HF4.out,jbx _ _ _ _ (.inr (by rw [HQ1.out.2];decide))] at hh
  cases hh)
 have hgC:Got xs7 1 (1+1) 8 2 6 4 []:=PL7.out.got (by decide) (by decide) (by decide) (by decide) (by decide) (Nat.zero_le _) (λ i b hb=>by simp at hb) (λ _ b hh=>by
  obtain⟨b0,hb0⟩:∃b0,(q1++q2)[0]? =some b0:=⟨_,List.getElem?_eq_getElem (by rw [hlq];decide)⟩;have h1:=hfq1 0 b0 hb0;have hh:f7 (2+0)=some (genN 6 ((0:Nat):Int),b):=hh;rw [h1] at hh;injection hh with hh
  injection hh with hh _
  exact jom (e:=5) (e':=6) (i:=0) (by decide) (by decide) (by decide) (by decide) hh)
 have hrA:repF q1=([v1.x],1):=by
  have h:=jes (k:=1) (by decide) (by decide) [v1.x] (λ x hx=>by rw [List.mem_singleton] at hx;rw [hx];exact jdx HX1.out (by decide));have e: [v1.x].flatMap (jaA 1)=q1:=by rw [HQ1.out.1];simp
  rw [e,HQ1.out.2] at h;exact h
 have hrB:repF (q1++q2)=([v1.x,v2.x],2):=by
  have h:=jes (k:=1) (by decide) (by decide) [v1.x,v2.x] (λ x hx=>by
   simp only [List.mem_cons,List.not_mem_nil,or_false] at hx
   rcases hx with hx|hx
   ·rw [hx];exact jdx HX1.out (by decide)
   ·rw [hx];exact jdx HX2.out (by decide))
  have e: [v1.x,v2.x].flatMap (jaA 1)=q1++q2:=by rw [HQ1.out.1,HQ2.out.1];simp
  rw [e,hlq] at h;exact h
 have hr1:=LK.replay 2 4 5 LO9.out.lc.ac (by decide) (by decide) (by decide) (by decide) (by decide) hgA;rw [hrA] at hr1;have GB:=qH hgB;have GC:=qH hgC;have HRB:=qH hrB;clear hm9 hlo9 hnx9 ap7 hcat hgA hgB hgC hrA hrB hfq1 hlq hxl7;go_wp2_with fail;refine hr1.mono ?_;clear hr1;rintro e' w10 ⟨A10,c10,r10,rfl,hrc10,hvx10,hb10⟩;have LO10:=qH (LO9.out.later DK LK hb10);have LB10:=qH (LB9.out.later DK hb10);have RC10:=qH hrc10;have HV10:=qH hvx10;clear hrc10 hvx10 hb10;have hr2:=LK.replay 2 4 5 LB10.out.ac (by decide) (by decide) (by decide) (by decide) (by decide) GB.out;rw [HRB.out] at hr2;go_wp2_with fail;refine hr2.mono ?_;clear hr2;rintro e' w11 ⟨A11,c11,r11,rfl,hrc11,hvx11,hb11⟩;have LO11:=qH (LO10.out.later DK LK hb11);have LB11:=qH (LB10.out.later DK hb11);have RC11:=qH (RC10.out.below hb11);have HL11:=qH (show r11.length=2 from by have:=congrArg List.length hvx11;simpa using this)
 clear hrc11 hvx11 hb11;have hr3:=LK.replay 2 4 6 LB11.out.ac (by decide) (by decide) (by decide) (by decide) (by decide) GC.out;rw [show repF []=([],0) from rfl] at hr3;go_wp2_with fail;refine hr3.mono ?_;clear hr3;rintro e' w12 ⟨A12,c12,r12,rfl,hrc12,hvx12,hb12⟩;have LO12:=qH (LO11.out.later DK LK hb12);have RC12:=qH (RC11.out.below hb12);have HL12:=qH (show r12.length=0 from by have:=congrArg List.length hvx12;simpa using this);clear hrc12 hvx12 hb12;obtain⟨y,hy⟩:∃y,r10= [y]:=by
  have:=congrArg List.length HV10.out;simp only [List.length_map,List.length_singleton] at this;exact List.length_eq_one_iff.1 this
 subst hy;have hyx:y.x=v1.x:=by have:=HV10.out;simpa using this
 have hys:y.st=1:=by
  have h1:=congrArg Prod.fst hyx;rw [HX1.out] at h1;exact h1
 obtain⟨bx,ox,hAx,hcx,_⟩:=RC12.out.cell 0 y rfl;have hc0:=hcx 0 _ rfl;rw [hys] at hc0;subst hAx;rw [Nat.zero_mul,Nat.add_zero] at hc0;have hl1: [y].length=1:=rfl;rw [HL11.out,HL12.out,hl1];have hus:=LK.used LO12.out.lg (by decide) (by decide);clear hcx hyx hys hl1;go_wp2_with fail;refine hus.mono ?_;clear hus;rintro e' w13 ⟨rfl,hb13⟩;have LO13:=qH (LO12.out.later DK LK hb13);have hlf:=LK.left LO13.out.lg (by decide) (by decide);clear hb13 hc0;go_wp2_with fail;refine hlf.mono ?_;clear hlf;rintro e' w14 ⟨rfl,hb14⟩;have LO14:=qH (LO13.out.later DK LK hb14);clear hb14;go_wp2_with fail;refine(jfZ 3 w14).mono ?_;rintro e' w15 ⟨v3,rfl,hv3,hx3,hb15⟩;have LO15:=qH (LO14.out.later DK LK hb15);have hne:=LK.need v3 LO15.out.lc.ac LO15.out.lg hv3 (jf0 hx3 (by decide));rw [show jby 1 v3.x=1 from by rw [hx3];exact jey (by decide)] at hne;clear hv3 hx3 hb15;go_wp2_with fail
 refine hne.mono ?_;clear hne;rintro e' w16 ⟨rfl,hb16⟩;have LO16:=qH (LO15.out.later DK LK hb16);have hep:=LK.epoch LO16.out.lg (by decide);clear hb16;go_wp2_with fail;refine hep.mono ?_;clear hep;rintro e' w17 ⟨rfl,hb17⟩;have LO17:=qH (LO16.out.later DK LK hb17);have hrf:=LK.refs LO17.out.lg (by decide) (by decide) (by decide) (by decide);clear hb17;go_wp2_with fail;refine hrf.mono ?_;clear hrf;rintro e' w18 ⟨AR,cr,rfl,hb18⟩;have B18:=qH (LO17.out.lc.bel.trans (hb18.mono LO17.out.lc.bel.size));clear hb18;go_wp2_with fail;go_ret;exact⟨rfl,B18.out⟩
end
end
section
open Go.RowKit Go.Proofs
section
variable {xs:List Dv}{k n N g c:Nat}{b:List UInt8}{G:Nat->Bool}
/-! Drives that fail, whatever numbers are told. -/
end
end
section
open Go.ChangeShapes Go.WideShapes Go.ChangeAt Go.RowKit Go.Proofs Go.Deep
set_option maxRecDepth 100000
section
variable {H:Type}{enc:TypeId × Value->H}{w:World}{base:Nat}{held:Bool}{fuel:Nat}
theorem jjV {m:Nat}{c0:Value}{y:DataW H × List MemPlace}(h:DataW.trod enc Tryz.prog w base (λ _=>true) held m 43 [c0]=some y):
  ∃A cp,∃l:List (List Bool),c0= .slice A l.length cp∧Ns jbs w (λ b=>b<w.heap.size) A l.length cp l:=by
 rcases open_bool_rows Tryz.underlying43 Tryz.underlying78 Tryz.underlying4 (by kernel_rfl) (by kernel_rfl) h with ⟨hcs,_⟩|⟨a,len,cap,A,L,C,B,hcs,_,hl,hm,_,hrow⟩
 ·injection hcs with hcs
  exact⟨none,0, [],hcs,Ns.nil w _ 0 (by decide)⟩
 ·injection hcs with hcs
  have each:∀r,r<cap->Sl w 1 (A r) ((List.range (L r)).map (B r)).length (C r) (jbs ((List.range (L r)).map (B r))):=by
   intro r hr;obtain⟨_,h1,h2,h3,h4⟩:=hrow r hr
   rcases hA:A r with _|x
   ·have hC:=h3 hA
    have hL:L r=0:=by omega
    rw [hL,hC];exact Sl.nil w 1 0 (by decide)
   ·exact jpF h1 h2 (h4 x hA).2
  obtain⟨b,off,spot⟩:=a;have hspot:0<cap->spot=none:=λ h0=>by simpa [Addr.add] using World.cell?_spot (hrow 0 h0).1
  refine⟨some ⟨b,off,spot⟩,cap,(List.range len).map λ r=>(List.range (L r)).map (B r),by rw [hcs];simp,⟨⟨(List.range len).map λ r=> .slice (A r) (L r) (C r),⟨by simp,by simpa using hl,hm,λ j u hu=> ?_⟩,λ i r hi=> ?_⟩,rfl,λ b' o' hn hA=> ?_⟩⟩
  ·have hj:j<len:=by
    rcases Nat.lt_or_ge j len with h' |h'
    ·exact h'
    ·rw [List.getElem?_eq_none (by simpa using h')] at hu;cases hu
   rw [List.getElem?_map,List.getElem?_range hj,Option.map_some] at hu;injection hu with hu
   have hs:=hspot (by omega);subst hs;have hc:=(hrow j (by omega)).1;rw [Go.WideShapes.add_plain,hu] at hc;exact⟨b,off,rfl,hc⟩
  ·have hin:i<len:=by
    rcases Nat.lt_or_ge i len with h' |h'
    ·exact h'
    ·rw [List.getElem?_eq_none (by simpa using h')] at hi;cases hi
   rw [List.getElem?_map,List.getElem?_range hin,Option.map_some] at hi;injection hi with hi
   have hs:=each i (by omega);rw [hi] at hs;refine⟨A i,C i,by rw [List.getElem?_map,List.getElem?_range hin,Option.map_some,<-hi];simp,hs,λ b o hn hA=>hs.lt (by decide) hn hA⟩
  ·have hn':0<len:=by simpa using hn
   injection hA with hA
   have hs:=hspot (by omega);subst hs;injection hA with hA _
   subst hA;have hc:=(hrow 0 (by omega)).1;rw [Go.WideShapes.add_plain] at hc;exact World.block_lt_of_cell? w _ hc
theorem arg_bools2 {v:Value}{d:DataW H}{p:List MemPlace}{r:Reach}{b0:Nat}(hv:Value.okWide Tryz.prog w r b0 43 v)(h:DataW.Trod enc Tryz.prog w base (λ _=>true) held 43 v d p):
  ∃A cp,∃l:List (List Bool),v= .slice A l.length cp∧Ns jbs w (λ b=>b<w.heap.size) A l.length cp l:=by
 obtain⟨A,n,cp,rfl⟩:=okWide_slice Tryz.underlying43 hv;obtain⟨fuel,hf⟩:=h;exact jjV hf
end
end
section
open Go.RowKit Go.Proofs
section
variable {xs:List Dv}{k n N:Nat}{f:Nat->Option (Nat × List UInt8)}
def jgc (n:Nat)(kss:List (List Bool))(i:Nat):Nat:=cntG n (λ d=>(kss.getD d []).getD i false)
theorem jox {e sl u j:Nat}{Pc qs:List (List UInt8)}{kss:List (List Bool)}(hk:1<=k)(hkn:k<=n)(hk2:k<=1000)(hN:N<=65536)(h:Pls xs k n N f)(hi:Idle xs)(hu:Pc.length=u)(hsl:u+qs.length<=sl)(hslN:sl<=N)(hb:∀b∈qs,b.length<=44*k)
  (hin:∀(i:Nat) (b:List UInt8),Pc[i]? =some b->f (0+i)=some (genN e (i:Int),b))(hout:∀q g b,0+u<=q->q<N->f q=some (g,b)->g≠genN e (q:Int))(hj:j<=qs.length)(hall:∀i,i<j->k<=jgc n kss i)(hno:j<qs.length->¬k<=jgc n kss j):
  Got (jbC (jbq k n 0 e qs u xs) kss n) k n N 0 e sl (Pc++qs.take j):=by
 have hn:0+u+qs.length<=N:=by omega
 have hlen:(Pc++qs.take j).length=u+j:=by rw [List.length_append,List.length_take,hu];omega
 have hnone:∀p b,u<=p->p<N->Str xs k n N 2 p (genN e (p:Int)) b (λ _=>false):=λ p b h1 h2=>h.none_at hk h2 (λ b' hh=>hout p _ b' (by omega) h2 hh rfl)
 refine⟨by rw [hlen];omega,λ i b hib=> ?_,λ hlt=> ?_⟩
 ·have hi2:=jaF hib
  rw [hlen] at hi2
  rcases Nat.lt_or_ge i u with hiu|hiu
  ·rw [List.getElem?_append_left (by rw [hu];exact hiu)] at hib
   obtain⟨h1,h2⟩:=h.yes (0+i) _ b (by omega) (hin i b hib);exact⟨_,h1,jcJ hk hk2 hN h hi hn hb h2 (by omega) (.inl (by omega)),by rw [jha (λ _ _=>rfl)];exact hkn⟩
  ·rw [List.getElem?_append_right (by rw [hu];exact hiu),hu,List.getElem?_take,if_pos (by omega)] at hib
   have h0:=hnone (0+u +(i-u)) b (by omega) (by omega);rw [show ((0+u +(i-u):Nat):Int)=((u +(i-u):Nat):Int) from by omega] at h0;have h1:=jex (kss:=kss) hk hk2 hN h hi hn hb hib h0;rw [show 0+u +(i-u)=0+i from by omega,show u +(i-u)=i from by omega] at h1;exact⟨_,jiv (by omega) (jc1 _ _) (hb b (List.mem_of_getElem? hib)) hk2,h1,hall (i-u) (by omega)⟩
 ·rw [hlen] at hlt ⊢
  rcases Nat.lt_or_ge j qs.length with hjq|hjq
  ·have hqj:=List.getElem?_eq_getElem hjq
   have h0:=hnone (0+u+j) (qs[j]) (by omega) (by omega);rw [show ((0+u+j:Nat):Int)=((u+j:Nat):Int) from by omega] at h0;have h1:=jex (kss:=kss) hk hk2 hN h hi hn hb hqj h0;rw [show 0+u+j=0 +(u+j) from by omega] at h1;exact⟨_,_,jiv (by omega) (jc1 _ _) (hb _ (List.getElem_mem _)) hk2,h1,hno hjq⟩
  ·have h0:=hnone (0 +(u+j)) [] (by omega) (by omega)
   rw [show ((0 +(u+j):Nat):Int)=((u+j:Nat):Int) from by omega] at h0;exact⟨[],_,jiv (by omega) (jc1 _ _) (by simp) hk2,jcJ hk hk2 hN h hi hn hb h0 (by omega) (.inr (by omega)),by rw [jiu];omega⟩
end
end
end Go.Proofs.YtmhejbihdghhaaaGreatDoor

/-
  ClogBack over LgK: it returns true, whatever its arguments.
-/
import Derived.Test.YtmhejbihdghhaaaGreatDoorQay
import Derived.Test.YtmhejbihdghhaaaGreatDoorClm
import Derived.Test.YtmhejbihdghhaaaGreatDoorQaz
namespace Go.Proofs.YtmhejbihdghhaaaGreatDoor
set_option linter.unusedVariables false
open Go.RowKit Go.Proofs
set_option maxRecDepth 20000
set_option maxHeartbeats 3200000
section
variable {Rep:World->(Nat->Prop)->Nat->Dv->Prop}{Lg:World->Nat->Nat->Nat->Nat->Nat->Nat->Nat->Prop}
theorem clogBack_walk (DK:DrvK Rep)(LK:LgK Rep Lg)(HLG:Logs18)(k m s:Int)(e:Nat)(A1:Option Addr)(c1:Nat)(l:List RvF)(A2:Option Addr)(c2:Nat)(gone:List Int)(w:World)
  (bk: -9223372036854775808<=k∧k<9223372036854775808)(bm: -9223372036854775808<=m∧m<9223372036854775808)(bs: -9223372036854775808<=s∧s<9223372036854775808)(hr:Rcs w A1 l.length c1 l)(hf:∀v∈l,v.fit)(hg:Sl w 1 A2 gone.length c2 (icells gone))(he:e<18446744073709551616)(hN:Nt w):
  Calls Tryz.prog 4 #[.agg #[.int .i64 k, .int .i64 m, .int .i64 s], .int .u64 (e:Int), .slice A1 l.length c1, .slice A2 gone.length c2] w (SaysTrue w):=by
 obtain⟨n1,hn1⟩:∃n,n=l.length:=⟨_,rfl⟩;obtain⟨n2,hn2⟩:∃n,n=gone.length:=⟨_,rfl⟩;rw [<-hn1] at hr ⊢;rw [<-hn2] at hg ⊢;have HN1:=qH hn1;have HN2:=qH hn2;have HR:=qH hr;have HF:=qH hf;have HG:=qH hg;have HN:=qH hN;have hglim:=hg.lim;unfold maxLen at hglim;clear hn1 hn2 hr hf hg hN;have hsmall:=λ w=>small13_any k m s bk bm bs w
 have Hgeo:=qH (geo_below w k m s);have hrow:=heap_alloc_new w (.cells #[.int .i64 k, .int .i64 m, .int .i64 s] 23);have Hrow:=qH hrow;clear hrow
 by_cases g0:Small13 k m s
 case neg=>
  rw [decide_eq_false g0] at hsmall;go_enter Tryz.func4,Tryz.ntmps4;go_wp2_with fail;refine(hsmall _).mono ?_;rintro e' w1 ⟨rfl,hb1⟩;have B1:=qH (Hgeo.out.trans (hb1.mono Hgeo.out.size));clear hb1;go_wp2_with fail;refine(HLG w1 (HN.out.keep B1.out)).mono ?_;rintro e' w2 ⟨rfl,hb2⟩;go_wp2_with fail;go_ret;exact⟨rfl,B1.out.trans (hb2.mono B1.out.size)⟩
 rw [decide_eq_true g0] at hsmall;obtain⟨K,rfl⟩:∃K:Nat,k=(K:Int):=⟨k.toNat,by have:=g0.1;omega⟩;obtain⟨M,rfl⟩:∃M:Nat,m=(M:Int):=⟨m.toNat,by have:=g0.2.1;omega⟩;obtain⟨N,rfl⟩:∃N:Nat,s=(N:Int):=⟨s.toNat,by have:=g0.2.2.2.1;omega⟩;have G0:=qH (show 1<=K∧1<=M∧K+M<=10∧1<=N∧N<=8 from ⟨by have:=g0.1;omega,by have:=g0.2.1;omega,by have:=g0.2.2.1;omega,by have:=g0.2.2.2.1;omega,by have:=g0.2.2.2.2;omega⟩);clear g0 bk bm bs
 by_cases e1:(e:Int)<1
 ·go_enter Tryz.func4,Tryz.ntmps4
  go_wp2_with fail;refine(hsmall _).mono ?_;rintro e' w1 ⟨rfl,hb1⟩;have B1:=qH (Hgeo.out.trans (hb1.mono Hgeo.out.size));clear hb1;go_wp2_with fail;refine(HLG w1 (HN.out.keep B1.out)).mono ?_;rintro e' w2 ⟨rfl,hb2⟩;go_wp2_with fail;go_ret;exact⟨rfl,B1.out.trans (hb2.mono B1.out.size)⟩
 by_cases e2:(1099511627776:Int)<=(e:Int)
 ·go_enter Tryz.func4,Tryz.ntmps4
  go_wp2_with fail;refine(hsmall _).mono ?_;rintro e' w1 ⟨rfl,hb1⟩;have B1:=qH (Hgeo.out.trans (hb1.mono Hgeo.out.size));clear hb1;go_wp2_with fail;refine(HLG w1 (HN.out.keep B1.out)).mono ?_;rintro e' w2 ⟨rfl,hb2⟩;go_wp2_with fail;go_ret;exact⟨rfl,B1.out.trans (hb2.mono B1.out.size)⟩
 have he40:e<1099511627776:=by omega
 have he1:1<=e:=by omega
 have HE:=qH (show 1<=e∧e<1099511627776 from ⟨he1,he40⟩);go_enter Tryz.func4,Tryz.ntmps4;go_wp2_with fail;refine(hsmall _).mono ?_;clear hsmall;rintro e' w1 ⟨rfl,hb1⟩;have R1:=qH (show Geo13 w1 w.heap.size (K:Int) (M:Int) (N:Int) from (hb1.block _ (block_lt Hrow.out)).trans Hrow.out);have B1:=qH (Hgeo.out.trans (hb1.mono Hgeo.out.size));clear hb1;go_wp2_with fail;have hsm:=small18_any A1 n1 c1 l w1 (HR.out.below B1.out);unfold RetF17 at hsm;refine hsm.mono ?_;clear hsm;rintro e' w2 ⟨β,rfl,hb2⟩;have B2:=qH (B1.out.trans (hb2.mono B1.out.size));have R2:=qH (show Geo13 w2 w.heap.size (K:Int) (M:Int) (N:Int) from (hb2.block _ (block_lt R1.out)).trans R1.out);clear hb2
 cases β
 ·go_wp2_with fail
  refine(HLG w2 (HN.out.keep B2.out)).mono ?_;rintro e' w3 ⟨rfl,hb3⟩;go_wp2_with fail;go_ret;exact⟨rfl,B2.out.trans (hb3.mono B2.out.size)⟩
 have a1:=R2.out.c1
 by_cases gm:(M:Int)<(n2:Int)
 ·go_wp2_with fail
  refine(HLG w2 (HN.out.keep B2.out)).mono ?_;rintro e' w3 ⟨rfl,hb3⟩;go_wp2_with fail;go_ret;exact⟨rfl,B2.out.trans (hb3.mono B2.out.size)⟩
 clear he40 he1 e1 e2 he;go_wp2_with (refine at_dst17 (d:=44) ?_;refine wpList_step17 (o:=⟨some 44,_,_,_,_,_⟩) (by rfl) _ _ (step_geo13 (x:= .tmp 4) rfl rfl R2.out) ?_)
 any_goals (exfalso;have hEE:=HE.out;omega)
 refine(made13_any DK K M N (by have:=G0.out;omega) (by have:=G0.out;omega) (by have:=G0.out;omega) (by have:=G0.out;omega) (by have:=G0.out;omega) w2).mono ?_;intro e' w3 hm;obtain⟨A,S3,C,F,T,rfl,hL,hS3,hbel⟩:=Lc13.made hm B2.out (HN.out.keep B2.out);have R3:=qH (show Geo13 w3 w.heap.size (K:Int) (M:Int) (N:Int) from (hbel.block _ (block_lt R2.out)).trans R2.out);have NB3:=qH (show ¬S3 w.heap.size from λ q=>by have:=hS3 _ q;have:=block_lt R2.out;omega);have B3:=qH (B2.out.trans (hbel.mono B2.out.size));have L3:=qH hL;clear hm hL hS3 hbel a1;have a2:=R3.out.c2;have hnew:=LK.new 0 N e L3.out.ac (by have:=G0.out;omega) (by have:=G0.out;omega) (by omega) (by have:=G0.out;omega) HE.out.2;go_wp2_with fail;refine hnew.mono ?_;clear hnew;rintro e' w4 ⟨P,rfl,hP,hlg,hb4⟩;have R4:=qH (show Geo13 w4 w.heap.size (K:Int) (M:Int) (N:Int) from (hb4.block _ (block_lt R3.out)).trans R3.out)
 have hlo4:Lo18 Rep Lg w w4 S3 A C K M F T N (List.replicate (K+M) (Dv.new N)) P 0 N e 0:=⟨L3.out.later DK hb4,hlg,λ q=>by have:=L3.out.ac.a.old q;omega,Nat.le_trans L3.out.bel.size hP⟩;have LO4:=qH hlo4;have HPB:=qH (show ¬w.heap.size=P from λ q=>by have:=block_lt R3.out;omega);have B4:=qH (B3.out.trans (hb4.mono B3.out.size));clear hlg hb4 hlo4 a2 hP;have happ:=appended18_any DK LK A1 n1 c1 l LO4.out Pls.new Idle.new HR.out HF.out (by have:=G0.out;omega) (by omega) (by have:=G0.out;omega) HE.out.2 (by have:=G0.out;omega) (by have:=G0.out;omega);unfold RetAp at happ;go_wp2_with fail;refine happ.mono ?_;clear happ;rintro e' w5 ⟨S5,xs5,f5,u,q,ic,IA,acc,rfl,hlo,hpl,hid,hap,hrn,hal,hof,hok,hnx⟩;have R5:=qH (show Geo13 w5 w.heap.size (K:Int) (M:Int) (N:Int) from hnx.1.row_some R4.out (λ h=>h.elim NB3.out HPB.out))
 have NB5:=qH (show ¬S5 w.heap.size from λ x=>(hnx.2 _ (.inl x)).elim (λ y=>y.elim NB3.out HPB.out) (λ y=>by have:=block_lt R4.out;omega));have LO5:=qH hlo;have PL5:=qH hpl;have ID5:=qH hid;have AP5:=qH hap;have RN5:=qH hrn;have AL5:=qH hal;have OF5:=qH (show ∀b,Bk IA b->¬S5 b from λ b hb=>(hof b hb).1);have OK5:=qH hok;clear hlo hpl hid hap hrn hal hof hok hnx;go_wp2_with fail;go_loopw [14] (λ jv wr=>∃(t:Nat) (S:Nat->Prop),jv= .int .i64 (t:Int)∧t<=n2∧Lo18 Rep Lg w wr S A C K M F T N (failZ gone xs5 t) P 0 N e u∧Rn wr IA 42 2 q ic (acc.flatMap RvF.vals)∧(∀b,Bk IA b->¬S b)∧Geo13 wr w.heap.size (K:Int) (M:Int) (N:Int)∧¬S w.heap.size) (λ jv _=>n2-(intOf jv).toNat)
 case atStart=>exact⟨0,S5,rfl,by omega,LO5.out,RN5.out,OF5.out,R5.out,NB5.out⟩
 case round=>
  obtain⟨t,S,rfl,ht,hlo,hrn,hof,hgeo,hnb⟩:=hrel;have LO:=qH hlo;have RN:=qH hrn;have OF:=qH hof;have RG:=qH hgeo;have NB:=qH hnb;clear hlo hrn hof hgeo hnb
  by_cases hlt:t<n2
  ·have hti:(t:Int)<(n2:Int):=by omega
   obtain⟨z,hz⟩:∃z,gone[t]? =some z:=⟨_,List.getElem?_eq_getElem (by rw [<-HN2.out];exact hlt)⟩;obtain⟨bg,og,hA2,hcg⟩:=(HG.out.below LO.out.lc.bel (Nat.le_refl _)).at_ hlt;have hcz:=hcg t (.int .i64 z) (by simp [icells,hz]);have hzg:gone.getD t 0=z:=by rw [List.getD_eq_getElem?_getD,hz];rfl
   have hns:=failZ_ns (l:=gone) (N:=N) (λ d x hx=>⟨(PL5.out.live d x hx).1,(PL5.out.live d x hx).2.1⟩) (t+1);have hwl:=failZ_wl (l:=gone) (ID5.out.wl0.mono13 (show 0<=1000 by decide)) (t+1);have hfl:failZ gone xs5 (t+1)=onD (failZ gone xs5 t) z (λ x=>x.fail):=by rw [failZ,hzg]
   rw [hfl] at hns hwl;have hfa:=arfail_any DK LO.out.lc.ac.a (by rw [LO.out.lc.ac.len];have:=G0.out;omega) z;have HNS:=qH hns;have HWL:=qH hwl;have HFL:=qH hfl;subst hA2;clear hns hwl hfl hcg hz hzg;go_wp2_with fail;refine hfa.mono ?_;clear hfa;rintro e' w6 ⟨rfl,hm6⟩;obtain⟨S6,hlo6,hnx6⟩:=LO.out.turn LK hm6 onD_len HNS.out HWL.out;have RN6:=qH (RN.out.fr hnx6.1 OF.out);have OF6:=qH (show ∀b,Bk IA b->¬S6 b from λ b hb x=>(hnx6.2 _ x).elim (OF.out b hb) (λ r=>by have:=RN.out.lt hb;omega));have RG6:=qH (show Geo13 w6 w.heap.size (K:Int) (M:Int) (N:Int) from hnx6.1.row_some RG.out NB.out);have NB6:=qH (show ¬S6 w.heap.size from λ x=>(hnx6.2 _ x).elim NB.out (λ r=>by have:=block_lt RG.out;omega));rw [<-HFL.out] at hlo6;have LO6:=qH hlo6;clear hm6 hlo6 hnx6 hcz;go_wp2_with fail;go_roundw
   case rel=>exact⟨t+1,S6,by go_num,by omega,LO6.out,RN6.out,OF6.out,RG6.out,NB6.out⟩
   case measure=>simp [intOf];omega
  ·obtain rfl:n2=t:=by omega
   obtain⟨Pc,hPc⟩:∃P,P=(acc.map RvF.x).flatMap (cut18 K):=⟨_,rfl⟩;have hpu:Pc.length=u:=by rw [hPc];exact AP5.out.ul.symm
   have hxn:∀i,i<N->(failZ gone xs5 n2)=failZ gone xs5 gone.length:=λ i _=>by rw [HN2.out]
   have hgot1:Got (failZ gone xs5 n2) K (K+M) N 0 e N Pc:=by
    rw [HN2.out];refine PL5.out.gotZ (by have:=G0.out;omega) rfl (by have:=HN2.out;omega) (by have:=G0.out;omega) (by have:=G0.out;omega) (by omega) (by rw [hpu];exact AP5.out.le) (λ i b hi=>AP5.out.inn i b (by rw [<-hPc];exact hi)) (λ hlt b hh=> ?_);rw [AP5.out.out _ (by rw [hpu];omega)] at hh
    cases hh
   have HEE:=HE.out;obtain⟨E1,hE1⟩:∃E1,E1=e-1:=⟨_,rfl⟩;have hgot2:Got (failZ gone xs5 n2) K (K+M) N 0 E1 N []:=by
    rw [HN2.out];refine PL5.out.gotZ (by have:=G0.out;omega) rfl (by have:=HN2.out;omega) (by have:=G0.out;omega) (by have:=G0.out;omega) (by omega) (Nat.zero_le _) (λ i b hi=>by simp at hi) (λ hlt b hh=> ?_);have hh:f5 (0+0)=some (genN E1 ((0:Nat):Int),b):=hh
    rcases Nat.eq_zero_or_pos u with h0|h0
    ·rw [AP5.out.out _ (by omega)] at hh
     cases hh
    ·obtain⟨b0,hb0⟩:∃b0,Pc[0]? =some b0:=⟨_,List.getElem?_eq_getElem (by rw [hpu];exact h0)⟩
     have h1:=AP5.out.inn 0 b0 (by rw [<-hPc];exact hb0);rw [h1] at hh;injection hh with hh
     injection hh with hh _
     exact gen_apart (i:=0) (by omega) (by omega) (by decide) (by omega) hh
   have hrep:repF Pc=(acc.map RvF.x,Pc.length):=by
    rw [hPc];exact repF_cut18 (by have:=G0.out;omega) (by have:=G0.out;omega) _ (λ x hx=>by
     obtain⟨v,hv,rfl⟩:=List.mem_map.1 hx;exact AP5.out.ok v hv)
   have GT2:=qH hgot2;have HREP:=qH hrep;have HPU:=qH hpu;have HE1:=qH hE1;have a2:=RG.out.c2;have hr1:=LK.replay 0 N e LO.out.lc.ac (by have:=G0.out;omega) (by have:=G0.out;omega) (by omega) (by have:=G0.out;omega) HE.out.2 hgot1;have hsub:(e:Int)-1=(E1:Int):=by omega
   have HEl:=qH (show E1<1099511627776 from by omega);clear hgot1 hgot2 hrep hpu hPc hxn hE1 HEE;go_wp2_with fail;refine hr1.mono ?_;clear hr1;rintro e' w6 ⟨A6,c6,vs,rfl,hrc6,hvx,hb6⟩;have LO6:=qH (LO.out.later DK LK hb6);have RN6:=qH (RN.out.later hb6);have RG6:=qH (show Geo13 w6 w.heap.size (K:Int) (M:Int) (N:Int) from (hb6.block _ (block_lt RG.out)).trans RG.out);have RC6:=qH hrc6;rw [HREP.out] at hvx;have HVX:=qH hvx;have hvq:vs.length=q:=by
    have:=congrArg List.length hvx;simp only [List.length_map] at this;rw [this,AL5.out]
   have HVQ:=qH hvq;clear hrc6 hb6 hvx hvq a2;have a3:=RG6.out.c2;have hr2:=LK.replay 0 N E1 LO6.out.lc.ac (by have:=G0.out;omega) (by have:=G0.out;omega) (by omega) (by have:=G0.out;omega) HEl.out GT2.out;rw [HREP.out];go_wp2_with fail;refine hr2.mono ?_;clear hr2;rintro e' w7 ⟨A7,c7,vs2,rfl,hrc7,hvx2,hb7⟩;have LO7:=qH (LO6.out.later DK LK hb7);have RN7:=qH (RN6.out.later hb7);have RC7:=qH (RC6.out.below hb7);have hv2:vs2= []:=by
    have h0:(repF []).1= []:=rfl;rw [h0] at hvx2
    cases vs2 with
    |nil=>rfl
    |cons x r=>simp at hvx2
   subst hv2;clear hrc7 hb7 hvx2 a3;have hsame:Calls Tryz.prog 31 #[.slice A6 vs.length c6, .slice IA q ic] w7 (SaysTrue w7):=by
    have hin:Rcs w7 IA vs.length ic acc:=by rw [HVQ.out];exact Rcs.of_rn RN7.out AL5.out (λ v hv=>(OK5.out v hv).below LO7.out.lc.bel)
    have:=same18_any A6 vs.length c6 vs IA ic acc w7 RC7.out hin HVX.out.symm
    rwa [HVQ.out] at this ⊢
   go_wp2_with fail;refine hsame.mono ?_;clear hsame;rintro e' w8 ⟨rfl,hb8⟩;have LO8:=qH (LO7.out.later DK LK hb8);have hus:=LK.used LO8.out.lg AP5.out.le (by have:=G0.out;omega);clear hb8;rw [HPU.out];go_wp2_with fail;refine hus.mono ?_;clear hus;rintro e' w9 ⟨rfl,hb9⟩;have B9:=qH (LO8.out.lc.bel.trans (hb9.mono LO8.out.lc.bel.size));clear hb9;go_wp2_with fail;refine(HLG w9 (HN.out.keep B9.out)).mono ?_;rintro e' w10 ⟨rfl,hb10⟩;go_wp2_with fail;go_ret;exact⟨rfl,B9.out.trans (hb10.mono B9.out.size)⟩
end
end Go.Proofs.YtmhejbihdghhaaaGreatDoor

/-
  ClogAnew over LgK: it returns true, whatever its arguments.
-/
import Derived.Test.YtmhejbihdghhaaaGreatDoorQay
import Derived.Test.YtmhejbihdghhaaaGreatDoorQaz
namespace Go.Proofs.YtmhejbihdghhaaaGreatDoor
set_option linter.unusedVariables false
open Go.RowKit Go.Proofs
set_option maxRecDepth 20000
set_option maxHeartbeats 3200000
section
variable {Rep:World->(Nat->Prop)->Nat->Dv->Prop}{Lg:World->Nat->Nat->Nat->Nat->Nat->Nat->Nat->Prop}
theorem clogAnew_walk (DK:DrvK Rep)(LK:LgK Rep Lg)(HLG:Logs18)(k m s:Int)(e:Nat)(A1:Option Addr)(c1:Nat)(l:List RvF)(A2:Option Addr)(c2:Nat)(l2:List RvF)(w:World)
  (bk: -9223372036854775808<=k∧k<9223372036854775808)(bm: -9223372036854775808<=m∧m<9223372036854775808)(bs: -9223372036854775808<=s∧s<9223372036854775808)(hr:Rcs w A1 l.length c1 l)(hf:∀v∈l,v.fit)(hg:Rcs w A2 l2.length c2 l2)(hf2:∀v∈l2,v.fit)(he:e<18446744073709551616)(hN:Nt w):
  Calls Tryz.prog 6 #[.agg #[.int .i64 k, .int .i64 m, .int .i64 s], .int .u64 (e:Int), .slice A1 l.length c1, .slice A2 l2.length c2] w (SaysTrue w):=by
 obtain⟨n1,hn1⟩:∃n,n=l.length:=⟨_,rfl⟩;obtain⟨n2,hn2⟩:∃n,n=l2.length:=⟨_,rfl⟩;rw [<-hn1] at hr ⊢;rw [<-hn2] at hg ⊢;have HN1:=qH hn1;have HN2:=qH hn2;have HR:=qH hr;have HF:=qH hf;have HG:=qH hg;have HN:=qH hN;have HF2:=qH hf2;clear hn1 hn2 hr hf hf2 hg hN;have hsmall:=λ w=>small13_any k m s bk bm bs w
 have Hgeo:=qH (geo_below w k m s);have hrow:=heap_alloc_new w (.cells #[.int .i64 k, .int .i64 m, .int .i64 s] 23);have Hrow:=qH hrow;clear hrow
 by_cases g0:Small13 k m s
 case neg=>
  rw [decide_eq_false g0] at hsmall;go_enter Tryz.func6,Tryz.ntmps6;go_wp2_with fail;refine(hsmall _).mono ?_;rintro e' w1 ⟨rfl,hb1⟩;have B1:=qH (Hgeo.out.trans (hb1.mono Hgeo.out.size));clear hb1;go_wp2_with fail;refine(HLG w1 (HN.out.keep B1.out)).mono ?_;rintro e' w2 ⟨rfl,hb2⟩;go_wp2_with fail;go_ret;exact⟨rfl,B1.out.trans (hb2.mono B1.out.size)⟩
 rw [decide_eq_true g0] at hsmall;obtain⟨K,rfl⟩:∃K:Nat,k=(K:Int):=⟨k.toNat,by have:=g0.1;omega⟩;obtain⟨M,rfl⟩:∃M:Nat,m=(M:Int):=⟨m.toNat,by have:=g0.2.1;omega⟩;obtain⟨N,rfl⟩:∃N:Nat,s=(N:Int):=⟨s.toNat,by have:=g0.2.2.2.1;omega⟩;have G0:=qH (show 1<=K∧1<=M∧K+M<=10∧1<=N∧N<=8 from ⟨by have:=g0.1;omega,by have:=g0.2.1;omega,by have:=g0.2.2.1;omega,by have:=g0.2.2.2.1;omega,by have:=g0.2.2.2.2;omega⟩);clear g0 bk bm bs
 by_cases e1:(e:Int)<1
 ·go_enter Tryz.func6,Tryz.ntmps6
  go_wp2_with fail;refine(hsmall _).mono ?_;rintro e' w1 ⟨rfl,hb1⟩;have B1:=qH (Hgeo.out.trans (hb1.mono Hgeo.out.size));clear hb1;go_wp2_with fail;refine(HLG w1 (HN.out.keep B1.out)).mono ?_;rintro e' w2 ⟨rfl,hb2⟩;go_wp2_with fail;go_ret;exact⟨rfl,B1.out.trans (hb2.mono B1.out.size)⟩
 by_cases e2:(1099511627776:Int)<=(e:Int)
 ·go_enter Tryz.func6,Tryz.ntmps6
  go_wp2_with fail;refine(hsmall _).mono ?_;rintro e' w1 ⟨rfl,hb1⟩;have B1:=qH (Hgeo.out.trans (hb1.mono Hgeo.out.size));clear hb1;go_wp2_with fail;refine(HLG w1 (HN.out.keep B1.out)).mono ?_;rintro e' w2 ⟨rfl,hb2⟩;go_wp2_with fail;go_ret;exact⟨rfl,B1.out.trans (hb2.mono B1.out.size)⟩
 have he40:e<1099511627776:=by omega
 have he1:1<=e:=by omega
 have HE:=qH (show 1<=e∧e<1099511627776 from ⟨he1,he40⟩);go_enter Tryz.func6,Tryz.ntmps6;go_wp2_with fail;refine(hsmall _).mono ?_;clear hsmall;rintro e' w1 ⟨rfl,hb1⟩;have R1:=qH (show Geo13 w1 w.heap.size (K:Int) (M:Int) (N:Int) from (hb1.block _ (block_lt Hrow.out)).trans Hrow.out);have B1:=qH (Hgeo.out.trans (hb1.mono Hgeo.out.size));clear hb1;go_wp2_with fail;have hsm:=small18_any A1 n1 c1 l w1 (HR.out.below B1.out);unfold RetF17 at hsm;refine hsm.mono ?_;clear hsm;rintro e' w2 ⟨β,rfl,hb2⟩;have B2:=qH (B1.out.trans (hb2.mono B1.out.size));have R2:=qH (show Geo13 w2 w.heap.size (K:Int) (M:Int) (N:Int) from (hb2.block _ (block_lt R1.out)).trans R1.out);clear hb2
 cases β
 ·go_wp2_with fail
  refine(HLG w2 (HN.out.keep B2.out)).mono ?_;rintro e' w3 ⟨rfl,hb3⟩;go_wp2_with fail;go_ret;exact⟨rfl,B2.out.trans (hb3.mono B2.out.size)⟩
 have hsm:=small18_any A2 n2 c2 l2 w2 (HG.out.below B2.out);unfold RetF17 at hsm;go_wp2_with fail;refine hsm.mono ?_;clear hsm;rintro e' wb ⟨β,rfl,hbb⟩;have BB:=qH (B2.out.trans (hbb.mono B2.out.size));have RB:=qH (show Geo13 wb w.heap.size (K:Int) (M:Int) (N:Int) from (hbb.block _ (block_lt R2.out)).trans R2.out);clear hbb
 cases β
 ·go_wp2_with fail
  refine(HLG wb (HN.out.keep BB.out)).mono ?_;rintro e' w3 ⟨rfl,hb3⟩;go_wp2_with fail;go_ret;exact⟨rfl,BB.out.trans (hb3.mono BB.out.size)⟩
 obtain⟨E1,hE1⟩:∃E1,E1=e-1:=⟨_,rfl⟩;have hsub:(e:Int)-1=(E1:Int):=by omega
 have HE1:=qH (show E1<1099511627776∧E1≠e from ⟨by omega,by omega⟩);clear hE1 he40 he1 e1 e2 he;go_wp2_with (refine at_dst17 (d:=41) ?_;refine wpList_step17 (o:=⟨some 41,_,_,_,_,_⟩) (by rfl) _ _ (step_geo13 (x:= .tmp 4) rfl rfl RB.out) ?_)
 any_goals (exfalso;have hEE:=HE.out;omega)
 refine(made13_any DK K M N (by have:=G0.out;omega) (by have:=G0.out;omega) (by have:=G0.out;omega) (by have:=G0.out;omega) (by have:=G0.out;omega) wb).mono ?_;intro e' w3 hm;obtain⟨A,S3,C,F,T,rfl,hL,hS3,hbel⟩:=Lc13.made hm BB.out (HN.out.keep BB.out);have R3:=qH (show Geo13 w3 w.heap.size (K:Int) (M:Int) (N:Int) from (hbel.block _ (block_lt RB.out)).trans RB.out);have NB3:=qH (show ¬S3 w.heap.size from λ q=>by have:=hS3 _ q;have:=block_lt RB.out;omega);have L3:=qH hL;clear hm hL hS3 hbel;have a2:=R3.out.c2;have hnew:=LK.new 0 N E1 L3.out.ac (by have:=G0.out;omega) (by have:=G0.out;omega) (by omega) (by have:=G0.out;omega) HE1.out.1;go_wp2_with fail;refine hnew.mono ?_;clear hnew;rintro e' w4 ⟨P,rfl,hP,hlg,hb4⟩;have R4:=qH (show Geo13 w4 w.heap.size (K:Int) (M:Int) (N:Int) from (hb4.block _ (block_lt R3.out)).trans R3.out)
 have hlo4:Lo18 Rep Lg w w4 S3 A C K M F T N (List.replicate (K+M) (Dv.new N)) P 0 N E1 0:=⟨L3.out.later DK hb4,hlg,λ q=>by have:=L3.out.ac.a.old q;omega,Nat.le_trans L3.out.bel.size hP⟩;have LO4:=qH hlo4;have HPB:=qH (show ¬w.heap.size=P from λ q=>by have:=block_lt R3.out;omega);clear hlg hb4 hlo4 a2 hP;have happ:=appended18_any DK LK A1 n1 c1 l LO4.out Pls.new Idle.new HR.out HF.out (by have:=G0.out;omega) (by omega) (by have:=G0.out;omega) HE1.out.1 (by have:=G0.out;omega) (by have:=G0.out;omega);unfold RetAp at happ;go_wp2_with fail;refine happ.mono ?_;clear happ;rintro e' w5 ⟨S5,xs5,f5,u5,q5,ic5,IA5,acc5,rfl,hlo,hpl,hid,hap,_,_,_,_,hnx⟩;have R5:=qH (show Geo13 w5 w.heap.size (K:Int) (M:Int) (N:Int) from hnx.1.row_some R4.out (λ h=>h.elim NB3.out HPB.out))
 have NB5:=qH (show ¬S5 w.heap.size from λ x=>(hnx.2 _ (.inl x)).elim (λ y=>y.elim NB3.out HPB.out) (λ y=>by have:=block_lt R4.out;omega));have LO5:=qH hlo;have PL5:=qH hpl;have ID5:=qH hid;have AP5:=qH hap;clear hlo hpl hid hap hnx;have a2:=R5.out.c2;have hnew:=LK.new 0 N e LO5.out.lc.ac (by have:=G0.out;omega) (by have:=G0.out;omega) (by omega) (by have:=G0.out;omega) HE.out.2;go_wp2_with fail;refine hnew.mono ?_;clear hnew;rintro e' w6 ⟨Q,rfl,hQ,hlg,hb6⟩;have R6:=qH (show Geo13 w6 w.heap.size (K:Int) (M:Int) (N:Int) from (hb6.block _ (block_lt R5.out)).trans R5.out);have hlo6:Lo18 Rep Lg w w6 S5 A C K M F T N xs5 Q 0 N e 0:=⟨LO5.out.lc.later DK hb6,hlg,λ q=>by have:=LO5.out.lc.ac.a.old q;omega,Nat.le_trans LO5.out.lc.bel.size hQ⟩;have LO6:=qH hlo6;have HQB:=qH (show ¬w.heap.size=Q from λ q=>by have:=block_lt R5.out;omega);clear hlg hb6 hlo6 a2 hQ
 have happ:=appended18_any DK LK A2 n2 c2 l2 LO6.out PL5.out ID5.out HG.out HF2.out (by have:=G0.out;omega) (by omega) (by have:=G0.out;omega) HE.out.2 (by have:=G0.out;omega) (by have:=G0.out;omega);unfold RetAp at happ;go_wp2_with fail;refine happ.mono ?_;clear happ;rintro e' w7 ⟨S7,xs7,f7,u,q,ic,IA,acc,rfl,hlo,hpl,hid,hap,hrn,hal,hof,hok,hnx⟩;have R7:=qH (show Geo13 w7 w.heap.size (K:Int) (M:Int) (N:Int) from hnx.1.row_some R6.out (λ h=>h.elim NB5.out HQB.out));have LO7:=qH hlo;have PL7:=qH hpl;have AP7:=qH hap;have RN7:=qH hrn;have AL7:=qH hal;have OK7:=qH hok;clear hlo hpl hid hap hrn hal hof hok hnx;obtain⟨Pc,hPc⟩:∃P,P=(acc.map RvF.x).flatMap (cut18 K):=⟨_,rfl⟩;have hpu:Pc.length=u:=by rw [hPc];exact AP7.out.ul.symm
 have hgot:Got xs7 K (K+M) N 0 e N Pc:=by
  refine PL7.out.got (by have:=G0.out;omega) (by omega) (by have:=G0.out;omega) (by have:=G0.out;omega) (by omega) (by rw [hpu];exact AP7.out.le) (λ i b hi=>AP7.out.inn i b (by rw [<-hPc];exact hi)) (λ hlt b hh=> ?_);rw [hpu] at hlt hh;rw [AP7.out.out _ (Nat.le_refl _)] at hh
  rcases Nat.lt_or_ge u u5 with h0|h0
  ·obtain⟨b0,hb0⟩:∃b0,((acc5.map RvF.x).flatMap (cut18 K))[u]? =some b0:=⟨_,List.getElem?_eq_getElem (by rw [<-AP5.out.ul];exact h0)⟩
   have h1:=AP5.out.inn u b0 hb0;rw [h1] at hh;injection hh with hh
   injection hh with hh _
   exact gen_apart HE1.out.1 HE.out.2 (by have:=G0.out;omega) HE1.out.2 hh
  ·rw [AP5.out.out _ (by omega)] at hh
   cases hh
 have hrep:repF Pc=(acc.map RvF.x,Pc.length):=by
  rw [hPc];exact repF_cut18 (by have:=G0.out;omega) (by have:=G0.out;omega) _ (λ x hx=>by
   obtain⟨v,hv,rfl⟩:=List.mem_map.1 hx;exact AP7.out.ok v hv)
 have HREP:=qH hrep;have HPU:=qH hpu;have a2:=R7.out.c2;have hr1:=LK.replay 0 N e LO7.out.lc.ac (by have:=G0.out;omega) (by have:=G0.out;omega) (by omega) (by have:=G0.out;omega) HE.out.2 hgot;clear hgot hrep hpu hPc;go_wp2_with fail;refine hr1.mono ?_;clear hr1;rintro e' w8 ⟨A8,c8,vs,rfl,hrc8,hvx,hb8⟩;have LO8:=qH (LO7.out.later DK LK hb8);have RN8:=qH (RN7.out.later hb8);have RC8:=qH hrc8;rw [HREP.out] at hvx;have HVX:=qH hvx;have hvq:vs.length=q:=by
  have:=congrArg List.length hvx;simp only [List.length_map] at this;rw [this,AL7.out]
 have HVQ:=qH hvq;clear hrc8 hb8 hvx hvq a2;have hsame:Calls Tryz.prog 31 #[.slice A8 vs.length c8, .slice IA q ic] w8 (SaysTrue w8):=by
  have hin:Rcs w8 IA vs.length ic acc:=by rw [HVQ.out];exact Rcs.of_rn RN8.out AL7.out (λ v hv=>(OK7.out v hv).below LO8.out.lc.bel)
  have:=same18_any A8 vs.length c8 vs IA ic acc w8 RC8.out hin HVX.out.symm
  rwa [HVQ.out] at this ⊢
 rw [HREP.out];go_wp2_with fail;refine hsame.mono ?_;clear hsame;rintro e' w9 ⟨rfl,hb9⟩;have LO9:=qH (LO8.out.later DK LK hb9);have hus:=LK.used LO9.out.lg AP7.out.le (by have:=G0.out;omega);clear hb9;rw [HPU.out];go_wp2_with fail;refine hus.mono ?_;clear hus;rintro e' w10 ⟨rfl,hb10⟩;have B10:=qH (LO9.out.lc.bel.trans (hb10.mono LO9.out.lc.bel.size));clear hb10;go_wp2_with fail;refine(HLG w10 (HN.out.keep B10.out)).mono ?_;rintro e' w11 ⟨rfl,hb11⟩;go_wp2_with fail;go_ret;exact⟨rfl,B10.out.trans (hb11.mono B10.out.size)⟩
end
end Go.Proofs.YtmhejbihdghhaaaGreatDoor

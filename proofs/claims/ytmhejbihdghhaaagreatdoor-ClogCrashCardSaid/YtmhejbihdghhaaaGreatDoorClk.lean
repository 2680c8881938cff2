/-
  ClogCrash over LgK: it returns true, whatever its arguments
-/
import Derived.Test.YtmhejbihdghhaaaGreatDoorQcay
import Derived.Test.YtmhejbihdghhaaaGreatDoorQcaz
import Derived.Test.YtmhejbihdghhaaaGreatDoorQcba
namespace Go.Proofs.YtmhejbihdghhaaaGreatDoor
set_option linter.unusedVariables false
open Go.RowKit Go.Proofs
set_option maxRecDepth 20000
set_option maxHeartbeats 6400000
theorem first_not18 {P : Nat → Prop} : ∀ d : Nat, (¬ ∀ j, j < d → P j) → ∃ j, j < d ∧ (∀ i, i < j → P i) ∧ ¬ P j
  | 0, h => absurd (fun j hj => absurd hj (Nat.not_lt_zero j)) h
  | d + 1, h => by
    by_cases h1 : ∀ j, j < d → P j
    · refine ⟨d, Nat.lt_succ_self d, h1, fun hd => h fun j hj => ?_⟩
      rcases Nat.lt_or_ge j d with q | q
      · exact h1 j q
      · rw [show j = d from by omega]; exact hd
    · obtain ⟨j, q1, q2, q3⟩ := first_not18 d h1
      exact ⟨j, by omega, q2, q3⟩
theorem jiF (G:Nat->Bool)(d:Nat):cntG (d+1) G=cntG d G +(if G d=true then 1 else 0):=by
 rw [cntG,List.range_succ,List.countP_append,cntG];simp [List.countP_cons]
theorem jiG {k j:Nat}(hk:1<=k)(hk2:k<=1000)(R:List jcP)(hx:∀x∈R,ok18 x)(r:jcP)(hj:j<(jaA k r).length):repF (R.flatMap (jaA k) ++(jaA k r).take j)=(R,(R.flatMap (jaA k)).length):=by
 have h1:=jlG (long:=44*k-7) (by omega) (jbk r) (m:=j) (by rw [jbz] at hj;exact hj);have h:=jkG (long:=44*k-7) (by omega) (by omega) (r:=(jaA k r).take j) (by rw [show (jaA k r).take j=(cutF (44*k-7) (jbk r)).take j from rfl,h1];decide) R hx;have e:R.flatMap (jaA k)=(R.map jbk).flatMap (cutF (44*k-7)):=by
  rw [List.flatMap_map];rfl
 rw [e];exact h
theorem jgF {P:Program}(w:World)(t e:TypeId)(ie:TypeInfo)(hu:P.underlying t=some (.slice e))(hie:P.info? e=some ie):(Instr.buildSlice t 0 #[]).run P w= .ok (.slice (some ⟨w.heap.size,0,none⟩) 0 0) (w.alloc (.cells #[] e)):=by
 simp [Instr.buildSlice,run_underlying hu,sizeOf,typeInfo,hie,newRow,Instr.fill];rw [show Array.range 0= #[] from by decide,Array.map_empty]
theorem jez {P:Program}{o:Oper}{a:Act}{w:World}{K:Act->World->Prop}{Q:Exit->Act->World->Prop}(t e:TypeId)(ho:o.op= .buildSlice t 0 #[])(ie:TypeInfo)(hu:P.underlying t=some (.slice e))(hie:P.info? e=some ie)
  (h:K (a.put o.dst (.slice (some ⟨w.heap.size,0,none⟩) 0 0)) (w.alloc (.cells #[] e))):o.wp P a w K Q:=by
 have hr:=jgF w t e ie hu hie;unfold Oper.wp execOp;simp only [ho,Sem.run_bind,List.map_toArray,List.map_nil,hr,Result.andThen_ok];exact h
theorem jeA (w:World)(T:TypeId):Rn (w.alloc (.cells #[] T)) (some ⟨w.heap.size,0,none⟩) T 2 0 0 []:=
 .inr ⟨_,rfl,⟨⟨_,heap_alloc_new w _,rfl,rfl⟩,Nat.le_refl _,Nat.zero_le _⟩⟩
section
variable {Rep:World->(Nat->Prop)->Nat->Dv->Prop}{Lg:World->Nat->Nat->Nat->Nat->Nat->Nat->Nat->Prop}
theorem clogCrash_walk (DK:DrvK Rep)(LK:LgK Rep Lg)(HLG:Logs18)(k m s:Int)(e:Nat)(A1:Option Addr)(c1:Nat)(l:List RvF)(v:RvF)(A2:Option Addr)(c2:Nat)(kss:List (List Bool))(w:World)
  (bk: -9223372036854775808<=k∧k<9223372036854775808)(bm: -9223372036854775808<=m∧m<9223372036854775808)(bs: -9223372036854775808<=s∧s<9223372036854775808)(hr:Rcs w A1 l.length c1 l)(hf:∀v∈l,v.fit)(hv:v.Ok w)(hvf:v.fit)(hg:Ns jbs w (λ b=>b<w.heap.size) A2 kss.length c2 kss)(he:e<18446744073709551616)(hN:Nt w):
  Calls Tryz.prog 5 #[.agg #[.int .i64 k, .int .i64 m, .int .i64 s], .int .u64 (e:Int), .slice A1 l.length c1, .agg v.vals.toArray, .slice A2 kss.length c2] w (jdB w):=by
 obtain⟨n1,hn1⟩:∃n,n=l.length:=⟨_,rfl⟩;obtain⟨n2,hn2⟩:∃n,n=kss.length:=⟨_,rfl⟩;rw [<-hn1] at hr ⊢;rw [<-hn2] at hg ⊢;have HN1:=qH hn1;have HN2:=qH hn2;have HR:=qH hr;have HF:=qH hf;have HG:=qH hg;have HN:=qH hN;have HV:=qH hv;have HVF:=qH hvf;have hglim:=hg.capLe;clear hn1 hn2 hr hf hg hN hv hvf;have hsmall:=λ w=>jjx k m s bk bm bs w
 obtain⟨w1,hw1⟩:∃x,x=(w.alloc (.cells #[.int .i64 k, .int .i64 m, .int .i64 s] 23)).alloc (.cells #[.int .u64 (v.st:Int), .slice v.A v.cs.length v.c] 42):=⟨_,rfl⟩;have hb01:Below w.heap.size w w1:=by rw [hw1];exact((Below.refl _ _).alloc (Nat.le_refl _) _).alloc (by simp) _
 have hgeo1:Geo13 w1 w.heap.size k m s:=by
  rw [hw1];have h0:=heap_alloc_new w (.cells #[.int .i64 k, .int .i64 m, .int .i64 s] 23);exact(((Below.refl _ _).alloc (Nat.le_refl _) _:Below (w.alloc (.cells #[.int .i64 k, .int .i64 m, .int .i64 s] 23)).heap.size (w.alloc (.cells #[.int .i64 k, .int .i64 m, .int .i64 s] 23)) _).block _ (block_lt h0)).trans h0
 have hrec1:ReB w1 (w.heap.size+1) v.st v.A v.cs.length v.c:=by
  rw [hw1];have h0:=ReB.new (w:=w.alloc (.cells #[.int .i64 k, .int .i64 m, .int .i64 s] 23)) (st:=v.st) (A:=v.A) (n:=v.cs.length) (c:=v.c)
  rwa [show (w.alloc (.cells #[.int .i64 k, .int .i64 m, .int .i64 s] 23)).heap.size=w.heap.size+1 from by simp] at h0
 have hvals:v.vals.toArray= #[.int .u64 (v.st:Int), .slice v.A v.cs.length v.c]:=rfl;rw [hvals];have HVALS:=qH hvals;have HW1:=qH hw1;have B1:=qH hb01;have G1:=qH hgeo1;have Q1:=qH hrec1;clear hw1 hb01 hgeo1 hrec1 hvals
 by_cases g0:jcI k m s
 case neg=>
  rw [decide_eq_false g0] at hsmall;go_enter Tryz.func5,Tryz.ntmps5;go_wp2_with (first|(rw [<-HW1.out])|(refine jaj (d:=24) ?_;refine jad (o:=⟨some 24,_,_,_,_,_⟩) (by rfl) _ _ (jdh rfl rfl G1.out) ?_));refine(hsmall _).mono ?_;rintro e' w2 ⟨rfl,hb2⟩;have B2:=qH (B1.out.trans (hb2.mono B1.out.size));go_wp2_with fail;refine(HLG w2 (HN.out.keep B2.out)).mono ?_;rintro e' wz ⟨rfl,hbz⟩;go_wp2_with fail;go_ret;exact⟨rfl,B2.out.trans (hbz.mono B2.out.size)⟩
 rw [decide_eq_true g0] at hsmall;obtain⟨K,rfl⟩:∃K:Nat,k=(K:Int):=⟨k.toNat,by have:=g0.1;omega⟩;obtain⟨M,rfl⟩:∃M:Nat,m=(M:Int):=⟨m.toNat,by have:=g0.2.1;omega⟩;obtain⟨N,rfl⟩:∃N:Nat,s=(N:Int):=⟨s.toNat,by have:=g0.2.2.2.1;omega⟩;have G0:=qH (show 1<=K∧1<=M∧K+M<=10∧1<=N∧N<=8 from ⟨by have:=g0.1;omega,by have:=g0.2.1;omega,by have:=g0.2.2.1;omega,by have:=g0.2.2.2.1;omega,by have:=g0.2.2.2.2;omega⟩);clear g0 bk bm bs
 by_cases e2:(1099511627776:Int)<=(e:Int)
 ·go_enter Tryz.func5,Tryz.ntmps5
  go_wp2_with (first|(rw [<-HW1.out])|(refine jaj (d:=24) ?_;refine jad (o:=⟨some 24,_,_,_,_,_⟩) (by rfl) _ _ (jdh rfl rfl G1.out) ?_));refine(hsmall _).mono ?_;rintro e' w2 ⟨rfl,hb2⟩;have B2:=qH (B1.out.trans (hb2.mono B1.out.size));go_wp2_with fail;refine(HLG w2 (HN.out.keep B2.out)).mono ?_;rintro e' wz ⟨rfl,hbz⟩;go_wp2_with fail;go_ret;exact⟨rfl,B2.out.trans (hbz.mono B2.out.size)⟩
 have HE:=qH (show e<1099511627776 from by omega);go_enter Tryz.func5,Tryz.ntmps5;go_wp2_with (first|(rw [<-HW1.out])|(refine jaj (d:=24) ?_;refine jad (o:=⟨some 24,_,_,_,_,_⟩) (by rfl) _ _ (jdh rfl rfl G1.out) ?_));refine(hsmall _).mono ?_;rintro e' w2 ⟨rfl,hb2⟩;have B2:=qH (B1.out.trans (hb2.mono B1.out.size));have G2:=qH (show Geo13 w2 w.heap.size (K:Int) (M:Int) (N:Int) from (hb2.block _ (block_lt G1.out)).trans G1.out);have Q2:=qH (Q1.out.later hb2);clear hb2 hsmall;go_wp2_with fail;have hsm:=jjQ A1 n1 c1 l w2 (HR.out.below B2.out);unfold jix at hsm;refine hsm.mono ?_;clear hsm;rintro e' w3 ⟨β,rfl,hb3⟩;have B3:=qH (B2.out.trans (hb3.mono B2.out.size));have G3:=qH (show Geo13 w3 w.heap.size (K:Int) (M:Int) (N:Int) from (hb3.block _ (block_lt G2.out)).trans G2.out);have Q3:=qH (Q2.out.later hb3);clear hb3
 cases β
 ·go_wp2_with fail
  refine(HLG w3 (HN.out.keep B3.out)).mono ?_;rintro e' wz ⟨rfl,hbz⟩;go_wp2_with fail;go_ret;exact⟨rfl,B3.out.trans (hbz.mono B3.out.size)⟩
 have hfw:=jiy 0 v.st v.A v.cs.length v.c v.cs w3 (HV.out.below B3.out);unfold jix at hfw;have e3:¬(1099511627776:Int)<=(e:Int):=by omega
 simp only [decide_eq_false e3];clear e2 he e3;go_wp2_with (refine jaj (d:=37) ?_;refine jad (o:=⟨some 37,_,_,_,_,_⟩) (by rfl) _ _ (jap rfl rfl Q3.out) ?_);refine hfw.mono ?_;clear hfw;rintro e' w4 ⟨β,rfl,hb4⟩;have B4:=qH (B3.out.trans (hb4.mono B3.out.size));have G4:=qH (show Geo13 w4 w.heap.size (K:Int) (M:Int) (N:Int) from (hb4.block _ (block_lt G3.out)).trans G3.out);have Q4:=qH (Q3.out.later hb4);clear hb4
 cases β
 ·go_wp2_with fail
  refine(HLG w4 (HN.out.keep B4.out)).mono ?_;rintro e' wz ⟨rfl,hbz⟩;go_wp2_with fail;go_ret;exact⟨rfl,B4.out.trans (hbz.mono B4.out.size)⟩
 by_cases g40:(40:Int)<(n2:Int)
 ·go_wp2_with fail
  refine(HLG w4 (HN.out.keep B4.out)).mono ?_;rintro e' wz ⟨rfl,hbz⟩;go_wp2_with fail;go_ret;exact⟨rfl,B4.out.trans (hbz.mono B4.out.size)⟩
 go_wp2_with (refine jaj (d:=48) ?_;refine jad (o:=⟨some 48,_,_,_,_,_⟩) (by rfl) _ _ (jdh rfl rfl G4.out) ?_);refine(jgx DK K M N (by have:=G0.out;omega) (by have:=G0.out;omega) (by have:=G0.out;omega) (by have:=G0.out;omega) (by have:=G0.out;omega) w4).mono ?_;intro e' w5 hm;obtain⟨A,S5,C,F,T,rfl,hL,hS5,hbel⟩:=Lc13.made hm B4.out (HN.out.keep B4.out);have G5:=qH (show Geo13 w5 w.heap.size (K:Int) (M:Int) (N:Int) from (hbel.block _ (block_lt G4.out)).trans G4.out);have Q5:=qH (Q4.out.later hbel);have NG5:=qH (show ¬S5 w.heap.size from λ q=>by have:=hS5 _ q;have:=block_lt G4.out;omega);have NQ5:=qH (show ¬S5 (w.heap.size+1) from λ q=>by have:=hS5 _ q;have:=block_lt Q4.out;omega);have L5:=qH hL;clear hm hL hS5 hbel;have a2:=G5.out.c2;have hnew:=LK.new 0 N e L5.out.ac (by have:=G0.out;omega) (by have:=G0.out;omega) (by omega) (by have:=G0.out;omega) HE.out
 go_wp2_with fail;refine hnew.mono ?_;clear hnew;rintro e' w6 ⟨P,rfl,hP,hlg,hb6⟩;have G6:=qH (show Geo13 w6 w.heap.size (K:Int) (M:Int) (N:Int) from (hb6.block _ (block_lt G5.out)).trans G5.out);have Q6:=qH (Q5.out.later hb6);have hlo6:Lo18 Rep Lg w w6 S5 A C K M F T N (List.replicate (K+M) (Dv.new N)) P 0 N e 0:=⟨L5.out.later DK hb6,hlg,λ q=>by have:=L5.out.ac.a.old q;omega,Nat.le_trans L5.out.bel.size hP⟩;have LO6:=qH hlo6;have HPG:=qH (show ¬w.heap.size=P∧¬w.heap.size+1=P from ⟨λ q=>by have:=block_lt Q5.out;omega,λ q=>by have:=block_lt Q5.out;omega⟩);clear hlg hb6 hlo6 a2 hP;have happ:=jga DK LK A1 n1 c1 l LO6.out Pls.new Idle.new HR.out HF.out (by have:=G0.out;omega) (by omega) (by have:=G0.out;omega) HE.out (by have:=G0.out;omega) (by have:=G0.out;omega);unfold RetAp at happ;go_wp2_with fail
 refine happ.mono ?_;clear happ;rintro e' w7 ⟨S7,xs7,f7,u,q,ic,IA,acc,rfl,hlo,hpl,hid,hap,hrn,hal,hof,hok,hnx⟩;have G7:=qH (show Geo13 w7 w.heap.size (K:Int) (M:Int) (N:Int) from hnx.1.row_some G6.out (λ h=>h.elim NG5.out HPG.out.1));have Q7:=qH (show ReB w7 (w.heap.size+1) v.st v.A v.cs.length v.c from hnx.1.row_some Q6.out (λ h=>h.elim NQ5.out HPG.out.2));have NG7:=qH (show ¬S7 w.heap.size from λ x=>(hnx.2 _ (.inl x)).elim (λ y=>y.elim NG5.out HPG.out.1) (λ y=>by have:=block_lt G6.out;omega));have NQ7:=qH (show ¬S7 (w.heap.size+1) from λ x=>(hnx.2 _ (.inl x)).elim (λ y=>y.elim NQ5.out HPG.out.2) (λ y=>by have:=block_lt Q6.out;omega));have LO7:=qH hlo;have PL7:=qH hpl;have ID7:=qH hid;have AP7:=qH hap;have RN7:=qH hrn;have AL7:=qH hal;have OF7:=qH (show ∀b,Bk IA b->¬S7 b∧w6.heap.size<=b from hof);have PW6:=qH (LK.lt LO6.out.lg);have OK7:=qH hok;have hu:=hap.le
 have hs1:N<=64:=by have:=G0.out;omega
 clear hlo hpl hid hap hrn hal hof hok hnx;obtain⟨d,hd⟩:∃d,d=jby K v.x:=⟨_,rfl⟩;have hneed:=λ W (h1:Ac13 Rep W S7 A C K M F T N xs7) (h2:Lg W P A C 0 N e u) (h3:v.Ok W)=>LK.need v h1 h2 h3 HVF.out
 rw [<-hd] at hneed;have HD:=qH hd;have NE:=qH hneed;have V7:=qH (HV.out.below LO7.out.lc.bel);clear hd hneed;go_wp2_with fail;refine wp_region_held_drew (S:=λ w' =>Fr (λ _=>False) w7.drew w') (by kernel_rfl) (Fr.refl _ _) (λ hHeld=> ?_);clear hHeld;refine tA 0 (some 67) rfl (Fr.refl _ _) ?_;refine tA 2 (some 69) rfl (Fr.refl _ _) ?_;refine tL 3 (some 70) (v:=(.agg v.vals.toArray)) rfl ?yca3 (Fr.refl _ _) ?rca3
 case yca3=>
  intro wq hSw;exact jap rfl rfl (show ReB wq (w.heap.size+1) v.st v.A v.cs.length v.c from hSw.row_some Q7.out (λ h=>h))
 try simp only [Act.put,sA,sB,sC]
 refine rW 1 (some 68) rfl λ K hK=> ?_
 go_simp;refine(LK.used (LK.fr LO7.out.lg (Fr.of_below (Below.drew (Below.refl _ _)):Fr (λ _=>False) _ _) (λ hh=>hh)) hu hs1).mono ?_;rintro e' w8 ⟨rfl,hb8⟩;have hfr:Fr (λ _=>False) w7.drew w8:=Fr.of_below hb8;go_wp2_with fail;refine hK.out _ _ hfr (λ hHeld=> ?_);clear hK K hHeld
 try simp only [Act.put,sA,sB,sC]
 refine jac (S':=λ w' =>Fr (λ _=>False) w8 w') (λ w' h=>hfr.trans h) ?_;clear hfr;refine rW 4 (some 71) rfl λ K hK=> ?_
 go_simp;have hbw8:Below w7.heap.size w7 w8:=(Below.drew (Below.refl _ _)).trans hb8;have LO8:=qH (LO7.out.later DK LK hbw8);refine(NE.out w8 LO8.out.lc.ac LO8.out.lg (V7.out.below hbw8)).mono ?_;rintro e' w9 ⟨rfl,hb9⟩;have hfr:Fr (λ _=>False) w8 w9:=Fr.of_below hb9;go_wp2_with fail;refine hK.out _ _ hfr (λ hHeld=> ?_);clear hK K hHeld
 try simp only [Act.put,sA,sB,sC]
 refine jac (S':=λ w' =>Fr (λ _=>False) w9 w') (λ w' h=>hfr.trans h) ?_;clear hfr;refine tA 5 (some 16) rfl (Fr.refl _ _) ?_;refine tA 6 (some 17) rfl (Fr.refl _ _) ?_;refine tD ?_;have hbw9:Below w7.heap.size w7 w9:=hbw8.trans (hb9.mono hbw8.size);have LO9:=qH (LO7.out.later DK LK hbw9);have RN9:=qH (RN7.out.later hbw9);have G9:=qH (show Geo13 w9 w.heap.size (K:Int) (M:Int) (N:Int) from (hbw9.block _ (block_lt G7.out)).trans G7.out);have Q9:=qH (Q7.out.later hbw9);have V9:=qH (V7.out.below hbw9);clear hb8 hb9 hbw8 hbw9
 by_cases htk:okR v.x.2=true∧jby K v.x<=N-u
 case neg=>
  have hno:=LK.appendNo v LO9.out.lc.ac LO9.out.lg hu hs1 V9.out HVF.out htk;have hz:∃z:Int,(if okR v.x.2=true then(6:Int) else 2)=z∧z≠0:=by
   by_cases hh:okR v.x.2=true
   ·exact⟨6,if_pos hh,by decide⟩
   ·exact⟨2,if_neg hh,by decide⟩
  obtain⟨z,hz1,hz2⟩:=hz;rw [hz1] at hno;clear htk hz1;go_wp2_with (refine jaj (d:=73) ?_;refine jad (o:=⟨some 73,_,_,_,_,_⟩) (by rfl) _ _ (jap rfl rfl Q9.out) ?_);refine hno.mono ?_;clear hno;rintro e' w10 ⟨rfl,hb10⟩;have B10:=qH (LO9.out.lc.bel.trans (hb10.mono LO9.out.lc.bel.size));go_wp2_with fail;refine(HLG w10 (HN.out.keep B10.out)).mono ?_;rintro e' wz ⟨rfl,hbz⟩;go_wp2_with fail;go_ret;exact⟨rfl,B10.out.trans (hbz.mono B10.out.size)⟩
 have hap:=LK.append v LO9.out.lc.ac PL7.out (ID7.out.wl0.mono13 (show 0<=900 by decide)) LO9.out.ns LO9.out.lg hu hs1 (by omega) (by omega) HE.out V9.out HVF.out htk.1 htk.2;have HTK:=qH htk;clear htk;go_wp2_with (refine jaj (d:=73) ?_;refine jad (o:=⟨some 73,_,_,_,_,_⟩) (by rfl) _ _ (jap rfl rfl Q9.out) ?_);refine hap.mono ?_;clear hap;rintro e' w10 ⟨rfl,S10,hac,hnx,hns,hlg⟩;have hlo:=LO9.out.both hac hnx hns hlg;have G10:=qH (show Geo13 w10 w.heap.size (K:Int) (M:Int) (N:Int) from hnx.1.row_some G9.out (λ h=>h.elim NG7.out HPG.out.1));have Q10:=qH (show ReB w10 (w.heap.size+1) v.st v.A v.cs.length v.c from hnx.1.row_some Q9.out (λ h=>h.elim NQ7.out HPG.out.2));have NG10:=qH (show ¬S10 w.heap.size from λ x=>(hnx.2 _ (.inl x)).elim (λ y=>y.elim NG7.out HPG.out.1) (λ y=>by have:=block_lt G9.out;omega))
 have NQ10:=qH (show ¬S10 (w.heap.size+1) from λ x=>(hnx.2 _ (.inl x)).elim (λ y=>y.elim NQ7.out HPG.out.2) (λ y=>by have:=block_lt Q9.out;omega));have RN10:=qH (RN9.out.fr hnx.1 (λ b hb hh=>hh.elim (OF7.out b hb).1 (λ x=>by have h1:=(OF7.out b hb).2;have h2:=PW6.out;omega)));have OF10:=qH (show ∀b,Bk IA b->¬S10 b from λ b hb x=>(hnx.2 _ (.inl x)).elim (λ y=>y.elim (OF7.out b hb).1 (λ z=>by have h1:=(OF7.out b hb).2;have h2:=PW6.out;omega)) (λ y=>by have:=RN9.out.lt hb;omega));have LO10:=qH hlo;clear hac hnx hns hlg hlo;have hd8:d<=8:=by have h1:=HTK.out.2;have h2:=HD.out;have h3:=G0.out;omega
 obtain⟨β0,hβ0⟩:∃β0:Bool,β0=true↔∀j,j<d->K<=jgc (K+M) kss j:=by
  by_cases h:∀j,j<d->K<=jgc (K+M) kss j
  ·exact⟨true,λ _=>h,λ _=>rfl⟩
  ·exact⟨false,λ q=>(by cases q),λ q=>absurd q h⟩
 have HB0:=qH hβ0;have HK10:=qH (HG.out.later LO10.out.lc.bel);clear hβ0;clear HN1 HR HF hglim HVALS B1 Q1 HW1 G1 B2 G2 Q2 B3 G3 Q3 B4 G4 Q4 G5 Q5 NG5 NQ5 L5 G6 Q6 LO6 HPG G7 Q7 NG7 NQ7 LO7 RN7 NE V7 LO8 LO9 RN9 G9 Q9 V9;go_upto_block 0 with fail
 go_cut [18] (λ wv wx=>wv= .bool β0∧wx=w10)
 case rest=>
  obtain⟨rfl,hwc⟩:=hcut;obtain rfl:=hwc.symm;have LOW:=qH LO10.out.lc.lo;have hxl10:=LO10.out.lc.ac.len;have hcr:=jfz DK LO10.out.lc.ac.a (LO10.out.lc.ac.wl.mono13 (show 1000<=100000 by decide)) (by rw [hxl10];have:=G0.out;omega) HK10.out (λ b hb hs=>by have:=LOW.out b hs;omega);rw [hxl10] at hcr;have hnd:jby K v.x=(jaA K v.x).length:=by rw [jby,if_pos HTK.out.1,jbz]
  have hdl:d=(jaA K v.x).length:=by rw [HD.out,hnd]
  have hroom:0+u +(jaA K v.x).length<=N:=by rw [<-hdl,HD.out];have:=HTK.out.2;omega
  have hshort:=jbV (k:=K) (by have:=G0.out;omega) v.x;have hcat:=λ d' y hy=>je0 (kss:=kss) (o:=0) (e:=e) (u:=u) (k:=K) (n:=K+M) (N:=N) (f:=f7) (xs:=xs7) (ps:=jaA K v.x) (by have:=G0.out;omega) (by have:=G0.out;omega) (by have:=G0.out;omega) PL7.out ID7.out hroom hshort (d:=d') (y:=y) hy
  have HCAT:=qH hcat;have HRM:=qH (And.intro hdl hroom);have HSH:=qH hshort;have HXL:=qH hxl10;clear hnd hdl hroom hshort hcat hxl10;go_wp2_with fail;refine hcr.mono ?_;clear hcr;rintro e' w11 ⟨rfl,hm11⟩;obtain⟨S11,hlo11,hnx11⟩:=LO10.out.turn LK hm11 (by rw [jbK]) (λ d' x hx=>by obtain⟨_,_,h1,h2,_⟩:=HCAT.out d' x hx;exact⟨h1,h2⟩) (jfY HXL.out).wl0;have hPc:(((acc.map RvF.x).flatMap (jaA K)).length)=u:=AP7.out.ul.symm;obtain⟨j,hj,hall,hno,hjd⟩:∃j,j<=(jaA K v.x).length∧(∀i,i<j->K<=jgc (K+M) kss i)∧(j<(jaA K v.x).length->¬K<=jgc (K+M) kss j)∧(β0=true↔j=(jaA K v.x).length):=by
   have hdl:=HRM.out.1
   cases hb:β0
   ·have hn:¬∀j,j<d->K<=jgc (K+M) kss j:=λ q=>by have:=HB0.out.2 q;rw [hb] at this;cases this
    obtain⟨j,q1,q2,q3⟩:=first_not18 d hn;exact⟨j,by omega,q2,λ _=>q3,λ q=>(by cases q),λ q=>by omega⟩
   ·exact⟨_,Nat.le_refl _,λ i hi=>HB0.out.1 hb i (by omega),λ q=>absurd q (Nat.lt_irrefl _),λ _=>rfl,λ _=>rfl⟩
  have hgot:=jox (e:=e) (sl:=N) (kss:=kss) (by have:=G0.out;omega) (by omega) (by have:=G0.out;omega) (by have:=G0.out;omega) PL7.out ID7.out hPc (by have:=HRM.out.2;omega) (Nat.le_refl N) HSH.out AP7.out.inn (λ q g b h1 h2 h3=>by
   rw [AP7.out.out q (by omega)] at h3
   cases h3) hj hall hno
  have hok:∀x∈acc.map RvF.x,ok18 x:=λ x hx=>by
   obtain⟨y,hy,rfl⟩:=List.mem_map.1 hx;exact AP7.out.ok y hy
  have hrep:repF ((acc.map RvF.x).flatMap (jaA K) ++(jaA K v.x).take j)=if β0=true then(acc.map RvF.x ++ [v.x],u+d) else(acc.map RvF.x,u):=by
   by_cases hb:β0=true
   ·have hjl:=hjd.1 hb
    have hok2:∀x∈acc.map RvF.x ++ [v.x],ok18 x:=λ x hx=>by
     rcases List.mem_append.1 hx with h|h
     ·exact hok x h
     ·rw [List.mem_singleton] at h
      rw [h];exact⟨HVF.out.1,HTK.out.1,λ c hc=>by
       obtain⟨z,hz,rfl⟩:=List.mem_map.1 hc;exact HVF.out.2 z hz⟩
    have h1:=jes (k:=K) (by have:=G0.out;omega) (by have:=G0.out;omega) _ hok2;rw [List.flatMap_append,List.flatMap_cons,List.flatMap_nil,List.append_nil] at h1;rw [if_pos hb,List.take_of_length_le (by omega),h1,List.length_append,hPc,<-HRM.out.1]
   ·have hjl:j<(jaA K v.x).length:=Nat.lt_of_le_of_ne hj (λ q=>hb (hjd.2 q))
    rw [if_neg hb,jiG (by have:=G0.out;omega) (by have:=G0.out;omega) _ hok v.x hjl,hPc]
  have hin11:=RN10.out.fr hnx11.1 OF10.out;have RN11:=qH hin11;have LO11:=qH hlo11;have G11:=qH (show Geo13 w11 w.heap.size (K:Int) (M:Int) (N:Int) from hnx11.1.row_some G10.out NG10.out);have Q11:=qH (show ReB w11 (w.heap.size+1) v.st v.A v.cs.length v.c from hnx11.1.row_some Q10.out NQ10.out);have HREP:=qH hrep;have hr1:=LK.replay 0 N e LO11.out.lc.ac (by have:=G0.out;omega) (by have:=G0.out;omega) (by omega) (by have:=G0.out;omega) HE.out hgot;have a2:=G11.out.c2;clear hm11 hlo11 hnx11 hPc hj hall hno hjd hgot hok hrep hin11;go_wp2_with fail;refine hr1.mono ?_;clear hr1;rintro e' w12 ⟨A12,c12,vs,rfl,hrc12,hvx,hb12⟩;have LO12:=qH (LO11.out.later DK LK hb12);have RN12:=qH (RN11.out.later hb12);have Q12:=qH (Q11.out.later hb12);have RC12:=qH hrc12;rw [HREP.out] at hvx ⊢;have HVX:=qH hvx;have OK12:=qH (show ∀y∈acc,y.Ok w12 from λ y hy=>(OK7.out y hy).below LO12.out.lc.bel)
  have V12:=qH (HV.out.below LO12.out.lc.bel);clear hrc12 hvx hb12 a2
  cases β0
  ·have hvx:=HVX.out
   rw [if_neg (by decide)] at hvx;rw [if_neg (by decide)];have hvq:vs.length=q:=by
    have:=congrArg List.length hvx;simp only [List.length_map] at this;rw [this,AL7.out]
   have hsame:Calls Tryz.prog 31 #[.slice A12 vs.length c12, .slice IA q ic] w12 (jdB w12):=by
    have hin:Rcs w12 IA vs.length ic acc:=by rw [hvq];exact Rcs.of_rn RN12.out AL7.out OK12.out
    have:=jgC A12 vs.length c12 vs IA ic acc w12 RC12.out hin hvx.symm
    rwa [hvq] at this ⊢
   clear hvx hvq;go_wp2_with fail;refine hsame.mono ?_;clear hsame;rintro e' w13 ⟨rfl,hb13⟩;have B13:=qH (LO12.out.lc.bel.trans (hb13.mono LO12.out.lc.bel.size));clear hb13;go_wp2_with fail;refine(HLG w13 (HN.out.keep B13.out)).mono ?_;rintro e' w14 ⟨rfl,hb14⟩;go_wp2_with fail;go_ret;exact⟨rfl,B13.out.trans (hb14.mono B13.out.size)⟩
  ·have hvx:=HVX.out
   rw [if_pos rfl] at hvx;rw [if_pos rfl];have hlen:vs.length=q+1:=by
    have:=congrArg List.length hvx;simp only [List.length_map,List.length_append,List.length_singleton] at this;rw [this,AL7.out]
   have hql:q<=8:=by
    have h1:=jkF (long:=44*K-7) (acc.map RvF.x);rw [List.length_map,AL7.out] at h1;have h2:=AP7.out.ul;have e:(acc.map RvF.x).flatMap (jaA K)=((acc.map RvF.x).map jbk).flatMap (cutF (44*K-7)):=by
     rw [List.flatMap_map (f:=jbk)];rfl
    rw [e] at h2;have h3:=HRM.out.2;have h4:=G0.out;omega
   obtain⟨ib,hb0,hb1,hb2,hb3⟩:=info_parts jeu;have Ib0:=qH hb0;have Ib1:=qH hb1;have Ib2:=qH hb2;have Ib3:=qH hb3;have QN:=qH hql;have RC:=qH (show Rcs w12 A12 (q+1) c12 vs from hlen▸RC12.out);have VX:=qH (show (acc ++ [v]).map RvF.x=vs.map RvF.x from by rw [List.map_append];exact hvx.symm);have WI:=qH (show IntKind.i64.wrap ((u:Int) +(d:Int))=(u:Int) +(d:Int) from by have h1:=HRM.out;have h2:=G0.out;rw [IntKind.wrap_i64];omega);have RNA:=qH (show ∀b,Bk IA b->¬w12.heap.size<=b from λ b hb=>by have:=RN12.out.lt hb;omega);have LQ:=qH (show ¬w12.heap.size<=w.heap.size+1 from by have:=block_lt Q12.out;omega);have ONE:=qH (show ∀x∈acc.flatMap RvF.vals,x.oneCell' =true from λ x hx=>by
    obtain⟨y,_,hy⟩:=List.mem_flatMap.1 hx;exact jea y x hy)
   have BL:=qH LO12.out.lc.bel;rw [hlen];clear hvx hlen hql hb0 hb1 hb2 hb3 HVX RC12 HREP HRM AP7 PL7 ID7 OF7 LO10 LO11 LO12 RN10 RN11 Q10 Q11 G10 G11 HK10 HG HB0 HD HTK HSH HXL HCAT LOW PW6 HE HVF OF10 NG10 NQ10;go_wp2_with fail;refine wp_region_held_drew (S:=λ w' =>Fr (λ k=>w12.heap.size<=k) w12 w') (by kernel_rfl) (Fr.drew (Fr.refl _ _)) (λ hHeld=> ?_);clear hHeld;have hHeld:Fr (λ k=>w12.heap.size<=k) w12 w12.drew:=Fr.drew (Fr.refl _ _);have hz_0:w12.heap.size<=w12.drew.heap.size:=Nat.le_refl _;obtain⟨v_W0,hw⟩:∃v_W0,v_W0=w12.drew:=⟨_,rfl⟩;rw [<-hw] at hHeld hz_0 ⊢;clear hw;refine tA 0 (some 135) rfl hHeld ?_;refine tA 2 (some 137) rfl hHeld ?_;refine tA 4 (some 139) (v:=(.agg v.vals.toArray)) rfl hHeld ?_ (λ wq hSw=>by
    exact jap rfl rfl (show ReB wq (w.heap.size+1) v.st v.A v.cs.length v.c from hSw.row_some Q12.out LQ.out))
   refine wpAnyH_ready (rs:= [1,5]) (by kernel_rfl) (by simp) ?_;refine AllReadyH.cons (o:=⟨some 136,_,_,_,_,_⟩) rfl (λ K hK=> ?_) (AllReadyH.cons (o:=⟨some 140,_,_,_,_,_⟩) rfl (λ K hK=> ?_) (AllReadyH.nil))
   focus
    refine jez (o:=⟨some 136,_,_,_,_,_⟩) 59 42 rfl ib Tryz.underlying59 Ib0.out ?_;obtain⟨b1,hb1⟩:∃b,b=v_W0.heap.size:=⟨_,rfl⟩;have hbN:Below v_W0.heap.size v_W0 (v_W0.alloc (.cells #[] 42)):=(Below.refl _ _).alloc (Nat.le_refl _) _;have hgl:=block_lt (heap_alloc_new v_W0 (.cells #[] 42));have hx:=jeA v_W0 42
    show K (Act.put _ _ (.slice (some ⟨v_W0.heap.size,0,none⟩) _ _)) _
    obtain⟨v_W1,hw⟩:∃x,x=v_W0.alloc (.cells #[] 42):=⟨_,rfl⟩;rw [<-hw] at hbN hx hgl ⊢;rw [<-hb1] at hx hgl ⊢;have hfN:Fr (λ k=>w12.heap.size<=k) v_W0 v_W1:=Fr.of_below hbN;have R1:=qH hx;have GE1:=qH (show w12.heap.size<=b1 from by rw [hb1];exact hHeld.size);clear hx hgl hw hb1 hbN;have hHeld:=hHeld.trans hfN;have hz_3:=hfN.size;refine hK.out _ _ hHeld λ _=> ?_
    clear hK K hfN
    try simp only [Act.put,sA,sB,sC]
   rotate_left
   focus
    refine wp_buildSlice (o:=⟨some 140,_,_,_,_,_⟩) 59 42 1 #[(0, .tmp 139)] rfl v.vals.toArray ib (.agg #[.int .u64 0, .slice none 0 0]) Tryz.underlying59 Ib0.out Ib1.out (by rw [Ib2.out];decide) (by rw [Ib2.out];decide) (by rw [Ib2.out];exact jiB _ _ rfl) ?_;obtain⟨b5,hb5⟩:∃b,b=v_W0.heap.size:=⟨_,rfl⟩;have hbN:Below v_W0.heap.size v_W0 (v_W0.alloc (.cells v.vals.toArray 42)):=(Below.refl _ _).alloc (Nat.le_refl _) _;have hgl:=block_lt (heap_alloc_new v_W0 (.cells v.vals.toArray 42));have hx:=Sl.made v_W0 v.vals.toArray 42 2 1 rfl (by decide)
    show K (Act.put _ _ (.slice (some ⟨v_W0.heap.size,0,none⟩) _ _)) _
    obtain⟨v_W1,hw⟩:∃x,x=v_W0.alloc (.cells v.vals.toArray 42):=⟨_,rfl⟩;rw [<-hw] at hbN hx hgl ⊢;rw [<-hb5] at hx hgl ⊢;have hfN:Fr (λ k=>w12.heap.size<=k) v_W0 v_W1:=Fr.of_below hbN;have SL5:=qH hx;have G5:=qH hgl;clear hx hgl hw hb5 hbN;have hHeld:=hHeld.trans hfN;have hz_5:=hfN.size;refine hK.out _ _ hHeld λ _=> ?_
    clear hK K hfN
    try simp only [Act.put,sA,sB,sC]
   rotate_left
   all_goals first
    |
     refine wpAnyH_ready (rs:= [3,5]) (by kernel_rfl) (by simp) ?_;refine AllReadyH.cons (o:=⟨some 138,_,_,_,_,_⟩) rfl (λ K hK=> ?_) (AllReadyH.cons (o:=⟨some 140,_,_,_,_,_⟩) rfl (λ K hK=> ?_) (AllReadyH.nil))
     focus
      refine jbc (o:=⟨some 138,_,_,_,_,_⟩) (.tmp 136) (.tmp 137) 59 59 rfl ib (.agg #[.int .u64 0, .slice none 0 0]) 32 Tryz.underlying59 Ib0.out Ib1.out Ib2.out Ib3.out rfl (by decide) rfl R1.out (.slice IA q ic) q (acc.flatMap RvF.vals) rfl ((RN12.out.fr hHeld RNA.out).sl.src Tryz.underlying59 (by decide) ONE.out) (by have:=QN.out;unfold maxLen;omega) (by have:=QN.out;omega) ?_;intro A3 c3 v_W2 hrn3 hf3 ho3;simp only [Nat.zero_add,List.nil_append] at hrn3 ⊢;have hA3:∀x,Bk A3 x->x=b1∨x=v_W1.heap.size:=λ x hx=>by
       obtain⟨o,hx⟩:=hx
       rcases ho3 with e|e<;>(rw [e] at hx;injection hx with hx;injection hx with hx _;omega)
      have hfN:Fr (λ k=>w12.heap.size<=k) v_W1 v_W2:=hf3.mono (λ k h=>by
       obtain⟨o,h⟩:=h;injection h with h
       injection h with h _
       have:=GE1.out
       show _<=k
       omega)
      have GE3:=qH (show ∀x,Bk A3 x->w12.heap.size<=x from λ x hx=>by have h1:=GE1.out;have h2:=hHeld.size;rcases hA3 x hx with h|h<;>omega);have R3:=qH hrn3;clear hrn3 hf3 ho3 hA3 R1;have hHeld:=hHeld.trans hfN;have hz_7:=hfN.size;refine hK.out _ _ hHeld λ _=> ?_
      clear hK K hfN
      try simp only [Act.put,sA,sB,sC]
     rotate_left
     focus
      refine wp_buildSlice (o:=⟨some 140,_,_,_,_,_⟩) 59 42 1 #[(0, .tmp 139)] rfl v.vals.toArray ib (.agg #[.int .u64 0, .slice none 0 0]) Tryz.underlying59 Ib0.out Ib1.out (by rw [Ib2.out];decide) (by rw [Ib2.out];decide) (by rw [Ib2.out];exact jiB _ _ rfl) ?_;obtain⟨b5,hb5⟩:∃b,b=v_W1.heap.size:=⟨_,rfl⟩;have hbN:Below v_W1.heap.size v_W1 (v_W1.alloc (.cells v.vals.toArray 42)):=(Below.refl _ _).alloc (Nat.le_refl _) _;have hgl:=block_lt (heap_alloc_new v_W1 (.cells v.vals.toArray 42));have hx:=Sl.made v_W1 v.vals.toArray 42 2 1 rfl (by decide)
      show K (Act.put _ _ (.slice (some ⟨v_W1.heap.size,0,none⟩) _ _)) _
      obtain⟨v_W2,hw⟩:∃x,x=v_W1.alloc (.cells v.vals.toArray 42):=⟨_,rfl⟩;rw [<-hw] at hbN hx hgl ⊢;rw [<-hb5] at hx hgl ⊢;have hfN:Fr (λ k=>w12.heap.size<=k) v_W1 v_W2:=Fr.of_below hbN;have SL5:=qH hx;have G5:=qH hgl;have NE:=qH (show ¬b5=b1 from by have:=R1.out.lt ⟨0,rfl⟩;omega);have R1:=qH (R1.out.later hbN);clear hx hgl hw hb5 hbN;have hHeld:=hHeld.trans hfN;have hz_9:=hfN.size;refine hK.out _ _ hHeld λ _=> ?_
      clear hK K hfN
      try simp only [Act.put,sA,sB,sC]
     rotate_left
    |
     refine rW 1 (some 136) rfl λ K hK=> ?_
     refine jez (o:=⟨some 136,_,_,_,_,_⟩) 59 42 rfl ib Tryz.underlying59 Ib0.out ?_;obtain⟨b1,hb1⟩:∃b,b=v_W1.heap.size:=⟨_,rfl⟩;have hbN:Below v_W1.heap.size v_W1 (v_W1.alloc (.cells #[] 42)):=(Below.refl _ _).alloc (Nat.le_refl _) _;have hgl:=block_lt (heap_alloc_new v_W1 (.cells #[] 42));have hx:=jeA v_W1 42
     show K (Act.put _ _ (.slice (some ⟨v_W1.heap.size,0,none⟩) _ _)) _
     obtain⟨v_W2,hw⟩:∃x,x=v_W1.alloc (.cells #[] 42):=⟨_,rfl⟩;rw [<-hw] at hbN hx hgl ⊢;rw [<-hb1] at hx hgl ⊢;have hfN:Fr (λ k=>w12.heap.size<=k) v_W1 v_W2:=Fr.of_below hbN;have R1:=qH hx;have GE1:=qH (show w12.heap.size<=b1 from by rw [hb1];exact hHeld.size);have NE:=qH (show ¬b5=b1 from by have:=G5.out;omega);have G5:=qH (Nat.lt_of_lt_of_le G5.out hbN.size);have SL5:=qH (SL5.out.below hbN (Nat.le_refl _));clear hx hgl hw hb1 hbN;have hHeld:=hHeld.trans hfN;have hz_11:=hfN.size;refine hK.out _ _ hHeld λ _=> ?_
     clear hK K hfN
     try simp only [Act.put,sA,sB,sC]
   all_goals first
    |
     refine rW 5 (some 140) rfl λ K hK=> ?_
     refine wp_buildSlice (o:=⟨some 140,_,_,_,_,_⟩) 59 42 1 #[(0, .tmp 139)] rfl v.vals.toArray ib (.agg #[.int .u64 0, .slice none 0 0]) Tryz.underlying59 Ib0.out Ib1.out (by rw [Ib2.out];decide) (by rw [Ib2.out];decide) (by rw [Ib2.out];exact jiB _ _ rfl) ?_;obtain⟨b5,hb5⟩:∃b,b=v_W2.heap.size:=⟨_,rfl⟩;have hbN:Below v_W2.heap.size v_W2 (v_W2.alloc (.cells v.vals.toArray 42)):=(Below.refl _ _).alloc (Nat.le_refl _) _;have hgl:=block_lt (heap_alloc_new v_W2 (.cells v.vals.toArray 42));have hx:=Sl.made v_W2 v.vals.toArray 42 2 1 rfl (by decide)
     show K (Act.put _ _ (.slice (some ⟨v_W2.heap.size,0,none⟩) _ _)) _
     obtain⟨v_W3,hw⟩:∃x,x=v_W2.alloc (.cells v.vals.toArray 42):=⟨_,rfl⟩;rw [<-hw] at hbN hx hgl ⊢;rw [<-hb5] at hx hgl ⊢;have hfN:Fr (λ k=>w12.heap.size<=k) v_W2 v_W3:=Fr.of_below hbN;have SL5:=qH hx;have G5:=qH hgl;have NE3:=qH (show ∀x,Bk A3 x->¬x=b5 from λ x hx e=>by have:=R3.out.lt hx;omega);have R3:=qH (R3.out.later hbN);clear hx hgl hw hb5 hbN;have hHeld:=hHeld.trans hfN;have hz_13:=hfN.size;refine hK.out _ _ hHeld λ _=> ?_
     clear hK K hfN
     try simp only [Act.put,sA,sB,sC]
    |
     refine rW 3 (some 138) rfl λ K hK=> ?_
     refine jbc (o:=⟨some 138,_,_,_,_,_⟩) (.tmp 136) (.tmp 137) 59 59 rfl ib (.agg #[.int .u64 0, .slice none 0 0]) 32 Tryz.underlying59 Ib0.out Ib1.out Ib2.out Ib3.out rfl (by decide) rfl R1.out (.slice IA q ic) q (acc.flatMap RvF.vals) rfl ((RN12.out.fr hHeld RNA.out).sl.src Tryz.underlying59 (by decide) ONE.out) (by have:=QN.out;unfold maxLen;omega) (by have:=QN.out;omega) ?_;intro A3 c3 v_W3 hrn3 hf3 ho3;simp only [Nat.zero_add,List.nil_append] at hrn3 ⊢;have hA3:∀x,Bk A3 x->x=b1∨x=v_W2.heap.size:=λ x hx=>by
      obtain⟨o,hx⟩:=hx
      rcases ho3 with e|e<;>(rw [e] at hx;injection hx with hx;injection hx with hx _;omega)
     have hfN:Fr (λ k=>w12.heap.size<=k) v_W2 v_W3:=hf3.mono (λ k h=>by
      obtain⟨o,h⟩:=h;injection h with h
      injection h with h _
      have:=GE1.out
      show _<=k
      omega)
     have GE3:=qH (show ∀x,Bk A3 x->w12.heap.size<=x from λ x hx=>by have h1:=GE1.out;have h2:=hHeld.size;rcases hA3 x hx with h|h<;>omega);have R3:=qH hrn3;have NE3:=qH (show ∀x,Bk A3 x->¬x=b5 from λ x hx e=>by have h1:=NE.out;have h2:=G5.out;rcases hA3 x hx with h|h<;>omega);have SL5:=qH (SL5.out.fr hf3 (λ b o _ e h=>by
      injection e with e
      injection e with e _
      obtain⟨o2,h⟩:=h;injection h with h
      injection h with h _
      have:=NE.out;omega))
     clear hrn3 hf3 ho3 hA3 R1;have hHeld:=hHeld.trans hfN;have hz_15:=hfN.size;refine hK.out _ _ hHeld λ _=> ?_
     clear hK K hfN
     try simp only [Act.put,sA,sB,sC]
   all_goals
    refine rW 6 (some 141) rfl λ K hK=> ?_
    refine jbc (o:=⟨some 141,_,_,_,_,_⟩) (.tmp 138) (.tmp 140) 59 59 rfl ib (.agg #[.int .u64 0, .slice none 0 0]) 32 Tryz.underlying59 Ib0.out Ib1.out Ib2.out Ib3.out rfl (by decide) rfl R3.out (.slice (some ⟨b5,0,none⟩) 1 1) 1 v.vals rfl (SL5.out.src Tryz.underlying59 (by decide) (jea v)) (by have:=QN.out;unfold maxLen;omega) (by have:=QN.out;omega) ?_;intro A6 c6 v_W4 hrn6 hf6 ho6;have hfN:Fr (λ k=>w12.heap.size<=k) v_W3 v_W4:=hf6.mono (λ k h=>GE3.out k h);have R6:=qH (show Rn v_W4 A6 42 2 (q+1) c6 ((acc ++ [v]).flatMap RvF.vals) from by rw [List.flatMap_append,List.flatMap_singleton];exact hrn6);clear hrn6 hf6 ho6 SL5 R3;have hHeld:=hHeld.trans hfN;have hz_17:=hfN.size;refine hK.out _ _ hHeld λ _=> ?_
    clear hK K hfN
    try simp only [Act.put,sA,sB,sC]
   all_goals
    refine rW 7 (some 142) rfl λ K hK=> ?_
    go_simp;have hh:=(hHeld.below (Nat.le_refl _) (λ b hb=>hb));refine(jgC A12 (q+1) c12 vs A6 c6 (acc ++ [v]) v_W4 (RC.out.below hh) (Rcs.of_rn R6.out (by rw [List.length_append,AL7.out];rfl) (λ y hy=>(List.mem_append.1 hy).elim (λ h=>(OK12.out y h).below hh) (λ h=>by rw [List.mem_singleton.1 h];exact V12.out.below hh))) VX.out).mono ?_;rintro e' v_W5 ⟨rfl,hb⟩;have hfN:Fr (λ k=>w12.heap.size<=k) v_W4 v_W5:=Fr.of_below hb;clear hb hh;go_wp2_with fail;have hHeld:=hHeld.trans hfN;have hz_19:=hfN.size;refine hK.out _ _ hHeld λ _=> ?_
    clear hK K hfN
    try simp only [Act.put,sA,sB,sC]
    refine tA 8 (some 143) rfl hHeld ?_;refine tA 9 (some 144) rfl hHeld ?_;refine tA 10 (some 145) rfl hHeld ?_;refine tA 11 (some 146) rfl hHeld ?_;refine tH 12 (some 147) (v:=(.int .i64 ((u:Int) +(d:Int)))) rfl (Or.inl ⟨by rfl,by
     intro wq hSw;have hwi:=WI.out;go_simp
     first|done|rw [hwi]|simp only [hwi]⟩) hHeld ?_
    try simp only [Act.put,sA,sB,sC]
    refine tA 13 (some 148) rfl hHeld ?_;refine tA 14 (some 149) rfl hHeld ?_;refine tA 15 (some 150) rfl hHeld ?_
   all_goals
    refine rW 16 (some 151) rfl λ K hK=> ?_
    go_simp;refine(HLG v_W5 (HN.out.keep (BL.out.trans ((hHeld.below (Nat.le_refl _) (λ b hb=>hb)).mono BL.out.size)))).mono ?_;rintro e' v_W6 ⟨rfl,hb⟩;have hfN:Fr (λ k=>w12.heap.size<=k) v_W5 v_W6:=Fr.of_below hb;clear hb;go_wp2_with fail;have hHeld:=hHeld.trans hfN;have hz_21:=hfN.size;refine hK.out _ _ hHeld λ _=> ?_
    clear hK K hfN
    try simp only [Act.put,sA,sB,sC]
    refine tA 17 (some 152) rfl hHeld ?_;refine tA 18 (some 10) rfl hHeld ?_
   all_goals
    refine tD ?_;have hh:=BL.out.trans ((hHeld.below (Nat.le_refl _) (λ b hb=>hb)).mono BL.out.size);go_wp2_with fail;go_ret;exact⟨rfl,hh⟩
 clear HLG HN HV OK7 HVF HE NG10 NQ10 LK DK PL7 ID7 AP7 AL7 OF7 PW6 HTK Q10 RN10 OF10 LO10 HD
 case' first=>
  go_wp2_with fail
 go_loopw [18,19] (λ wv iv wr=>∃(i:Nat) (β:Bool),wv= .bool β∧iv= .int .i64 (i:Int)∧i<=d∧(β=true↔∀j,j<i->K<=jgc (K+M) kss j)∧wr=w10) (λ _ iv _=>d-(intOf iv).toNat)
 case atStart=>exact⟨0,true,rfl,rfl,by omega,⟨λ _ j hj=>absurd hj (Nat.not_lt_zero j),λ _=>rfl⟩,by simp⟩
 case round=>
  obtain⟨i,β,rfl,rfl,hi,hβ,hw⟩:=hrel;obtain rfl:w10=wr:=hw.symm;have HB:=qH hβ;clear hβ
  by_cases hid:i<d
  ·have hii:(i:Int)<(d:Int):=by omega
   have HI1:=qH hid;have g0:=G10.out.c0;have g1:=G10.out.c1;go_wp2_with fail;go_loopw [20,21] (λ nv dv wr=>∃(c t:Nat),nv= .int .i64 (c:Int)∧dv= .int .i64 (t:Int)∧t<=K+M∧c=cntG t (λ d=>(kss.getD d []).getD i false)∧c<=t∧wr=w10) (λ _ dv _=>K+M-(intOf dv).toNat)
   case atStart=>exact⟨0,0,rfl,rfl,by omega,rfl,by omega,by simp⟩
   case round=>
    obtain⟨c,t,rfl,rfl,ht,hc,hct,hw⟩:=hrel;obtain rfl:w10=wr:=hw.symm;have HC:=qH hc;have GK:=G0.out;clear hc
    by_cases htk:t<K+M
    ·have htt:(t:Int)<(K:Int) +(M:Int):=by omega
     have hwr:wrap64 ((K:Int) +(M:Int))=(K:Int) +(M:Int):=by unfold wrap64;omega
     have hnx:=jiF (λ d=>(kss.getD d []).getD i false) t;rw [<-HC.out] at hnx
     by_cases htn:t<n2
     ·have htni:(t:Int)<(n2:Int):=by omega
      obtain⟨bk,ok,hA2,_,hrow⟩:=HK10.out.at_ (by omega);obtain⟨r,hr⟩:∃r,kss[t]? =some r:=⟨_,List.getElem?_eq_getElem (by rw [<-HN2.out];exact htn)⟩;obtain⟨Ar,cr,hcr,hsr,_⟩:=hrow t r hr;have hgr:kss.getD t []=r:=by rw [List.getD_eq_getElem?_getD,hr];rfl
      rw [hgr] at hnx;obtain⟨rl,hrl⟩:∃n,n=r.length:=⟨_,rfl⟩;rw [<-hrl] at hcr hsr;have HRL:=qH hrl;subst hA2;clear hr hgr hrow hrl
      by_cases hir:i<rl
      ·have hiri:(i:Int)<(rl:Int):=by omega
       obtain⟨x,hx⟩:∃x,r[i]? =some x:=⟨_,List.getElem?_eq_getElem (by rw [<-HRL.out];exact hir)⟩;obtain⟨be,oe,hAr,hce⟩:=hsr.at_ hir;have hcx:=hce i (.bool x) (by simp [jbs,hx]);have hgx:r.getD i false=x:=by rw [List.getD_eq_getElem?_getD,hx];rfl
       rw [hgx] at hnx;have HNX:=qH hnx;subst hAr;clear hx hgx hce hnx hsr
       cases x
       ·go_wp2_with fail
        go_roundw
        case rel=>exact⟨c,t+1,rfl,by go_num,by omega,by have:=HNX.out;simpa using this.symm,by omega,by simp⟩
        case measure=>simp [intOf];omega
       ·go_wp2_with fail
        go_roundw
        case rel=>exact⟨c+1,t+1,by go_num,by go_num,by omega,by have:=HNX.out;simpa using this.symm,by omega,by simp⟩
        case measure=>simp [intOf];omega
      ·have hiri:¬(i:Int)<(rl:Int):=by omega
       have hgx:r.getD i false=false:=by rw [List.getD_eq_getElem?_getD,List.getElem?_eq_none (by have:=HRL.out;omega)];rfl
       rw [hgx] at hnx;have HNX:=qH hnx;clear hgx hnx hsr;go_wp2_with fail;go_roundw
       case rel=>exact⟨c,t+1,rfl,by go_num,by omega,by have:=HNX.out;simpa using this.symm,by omega,by simp⟩
       case measure=>simp [intOf];omega
     ·have htni:¬(t:Int)<(n2:Int):=by omega
      have hgr:kss.getD t []= []:=by rw [List.getD_eq_getElem?_getD,List.getElem?_eq_none (by rw [<-HN2.out];omega)];rfl
      rw [hgr] at hnx;have HNX:=qH hnx;clear hgr hnx;go_wp2_with fail;go_roundw
      case rel=>exact⟨c,t+1,rfl,by go_num,by omega,by have:=HNX.out;simpa using this.symm,by omega,by simp⟩
      case measure=>simp [intOf];omega
    ·obtain rfl:t=K+M:=by omega
     have htt:¬((K:Int) +(M:Int))<(K:Int) +(M:Int):=by omega
     have hwr:wrap64 ((K:Int) +(M:Int))=(K:Int) +(M:Int):=by unfold wrap64;omega
     have hkc:c=jgc (K+M) kss i:=HC.out;have hall:∀γ:Bool,(γ=true↔(β=true∧K<=c))->(γ=true↔∀j,j<i+1->K<=jgc (K+M) kss j):=λ γ hγ=>by
      rw [hγ,HB.out,hkc]
      constructor
      ·rintro⟨h1,h2⟩ j hj
       rcases Nat.lt_or_ge j i with h3|h3
       ·exact h1 j h3
       ·rw [show j=i from by omega];exact h2
      ·intro h1
       exact⟨λ j hj=>h1 j (by omega),h1 i (by omega)⟩
     have HALL:=qH hall;clear hall hkc
     by_cases hKc:K<=c
     ·have hKi:(K:Int)<=(c:Int):=by omega
      cases β
      ·go_wp2_with fail
       go_roundw
       case rel=>exact⟨i+1,false,rfl,by go_num,HI1.out,HALL.out false (by simp),by simp⟩
       case measure=>have:=HI1.out;simp [intOf];omega
      ·go_wp2_with fail
       go_roundw
       case rel=>exact⟨i+1,true,rfl,by go_num,HI1.out,HALL.out true (by simp [hKc]),by simp⟩
       case measure=>have:=HI1.out;simp [intOf];omega
     ·have hKi:¬(K:Int)<=(c:Int):=by omega
      cases β
      ·go_wp2_with fail
       go_roundw
       case rel=>exact⟨i+1,false,rfl,by go_num,HI1.out,HALL.out false (by simp),by simp⟩
       case measure=>have:=HI1.out;simp [intOf];omega
      ·go_wp2_with fail
       go_roundw
       case rel=>exact⟨i+1,false,rfl,by go_num,HI1.out,HALL.out false (by simp [hKc]),by simp⟩
       case measure=>have:=HI1.out;simp [intOf];omega
  ·obtain rfl:d=i:=by omega
   go_wp2_with fail;go_meet;have hbb:β=β0:=Bool.eq_iff_iff.2 (HB.out.trans HB0.out.symm);exact⟨by rw [hbb],rfl⟩
end
end Go.Proofs.YtmhejbihdghhaaaGreatDoor

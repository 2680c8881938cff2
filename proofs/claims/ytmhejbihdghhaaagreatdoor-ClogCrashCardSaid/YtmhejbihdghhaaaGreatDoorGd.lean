/-
  Contract of package matrix's reduce
-/
import Derived.Test.YtmhejbihdghhaaaGreatDoorGc
import Derived.BigRegion
import Derived.Test.YtmhejbihdghhaaaGreatDoorGa
import Derived.Deep.DeepCutAuto
import Derived.Outline
namespace Go.Proofs.YtmhejbihdghhaaaGreatDoor
set_option linter.unusedVariables false
open Go.RowKit Go.Proofs
open Go.RowKit Go.Proofs
open Go.RowKit Go.Proofs
open Go.RowKit Go.Proofs
open Go.RowKit Go.Proofs
open Go.RowKit Go.Proofs
open Go.RowKit Go.Proofs
open Go.RowKit Go.Proofs
set_option maxRecDepth 20000
set_option maxHeartbeats 6400000
section
abbrev Tg (T g:Nat):Nat->Prop:=λ k=>k=T∨k=g
theorem jkQ (F T g n W cols:Nat)(hn:n<=255)(hW:W<=510)(hcols:cols<=W)(A:Mx)(w:World)(hf:Fld1 w F T)(hr:RowsAt w g n W (Tg T g) A)(hgT:g≠T)(hgF:g≠F):
  Calls Tryz.prog 288 #[.pointer (some ⟨F,0,none⟩), .slice (some ⟨g,0,none⟩) n n, .int .i64 (cols:Int)] w
   λ e w' =>∃(L:Nat) (M:Mx) (ld:Nat->Nat),e= .returned (.int .i64 (L:Int))∧Led n W cols A M L ld∧RowsAt w' g n W (Tg T g) M∧Fld1 w' F T∧Fr (Tg T g) w w':=by
 have Hf:=qH hf;clear hf;have Hr:=qH hr;clear hr;go_enter Tryz.func288,Tryz.ntmps288;go_wp2_with fail;go_loopw [7,15] (λ v i wr=>∃(c L:Nat) (M:Mx) (ld:Nat->Nat),c<=cols∧i= .int .i64 (c:Int)∧v= .int .i64 (L:Int)∧Led n W c A M L ld∧RowsAt wr g n W (Tg T g) M∧Fld1 wr F T∧Fr (Tg T g) w wr) (λ _ i _=>cols-(intOf i).toNat)
 case atStart=>exact⟨0,0,A,id,by omega,rfl,rfl,Led.start n W A,Hr.out,Hf.out,Fr.refl _ _⟩
 case round=>
  obtain⟨c,L,M,ld,hc,rfl,rfl,hled,hrow,hfl,hfr⟩:=hrel;have hLn:=hled.le;have hgl:=hrow.lt;have hTl:=hfl.fld.ltT;have hFl:=hfl.fld.ltF;have Hled:=qH hled;clear hled;have Hrow:=qH hrow;clear hrow;have Hfl:=qH hfl;clear hfl;have Hfr:=qH hfr;clear hfr
  by_cases hlt:c<cols
  . -- the captured column lies in a block of its own
   have hb1:Below wr.heap.size wr (wr.alloc (.cells #[.int .i64 (c:Int)] 3)):=(Below.refl _ _).alloc (Nat.le_refl _) _;have hcol:(wr.alloc (.cells #[.int .i64 (c:Int)] 3)).cell? ⟨wr.heap.size,0,none⟩=some (.int .i64 (c:Int)):=by simp
   by_cases hLn2:L<n
   ·have hne:¬n=L:=by omega
    go_wp2_with fail;have hh:=jmy g n W L (n-L) (n-L) (Tg T g) M wr.heap.size c (by omega) (by omega) (by omega) _ (Hrow.out.later hb1) hcol;refine hh.mono ?_;clear hh;rintro e w1 ⟨rfl,hcase⟩
    rcases hcase with ⟨rfl,hz⟩|⟨d,rfl,hd,hx⟩
    ·have Hz:=qH hz;clear hz
     go_wp2_with fail;go_roundw
     case rel=>exact⟨c+1,L,M,ld,by omega,by go_num,rfl,Hled.out.skip Hz.out,Hrow.out.later hb1,Hfl.out.later hb1,Hfr.out.trans (Fr.of_below hb1)⟩
     case measure=>simp [intOf];omega
    ·obtain⟨p,hp⟩:∃p,p=L+d:=⟨_,rfl⟩
     rw [<-hp] at hd hx;have hdp:d=p-L:=by omega
     have hpi:(L:Int) +(d:Int)=(p:Int):=by omega
     have hpL:L<=p:=by omega
     have hR1:=Hrow.out.later hb1;have hf1:=Hfl.out.later hb1;have hr1:Fr (Tg T g) w (wr.alloc (.cells #[.int .i64 (c:Int)] 3)):=Hfr.out.trans (Fr.of_below hb1);obtain⟨w1,hw1⟩:∃w1,w1=wr.alloc (.cells #[.int .i64 (c:Int)] 3):=⟨_,rfl⟩;have hs1:w1.heap.size=wr.heap.size+1:=by rw [hw1];simp
     rw [<-hw1] at hR1 hf1 hr1 hcol ⊢;clear hw1 hb1;obtain⟨A1,c1,k1,s1,o1⟩:=hR1.cell (i:=L) hLn2;obtain⟨A2,c2,k2,s2,o2⟩:=hR1.cell (i:=p) hd;have z1:=hR1.free L;have z2:=hR1.free p;have Hx:=qH hx;clear hx;have Hd:=qH hd;clear hdp hp;have S1:=qH s1;clear s1;have S2:=qH s2;clear s2;have O1:=qH o1;clear o1;have O2:=qH o2;clear o2;have HR1:=qH hR1;clear hR1;have Hf1:=qH hf1;clear hf1;have Hr1:=qH hr1;clear hr1;obtain⟨v9,hzz⟩:=cell?_setCell_some (w:=w1) (p:=⟨g,L,none⟩) (x:= .slice A2 W c2) (q:=⟨g,p,none⟩) k2;go_wp2_with fail;go_region;have hR2:RowsAt ((w1.setCell ⟨g,L,none⟩ (.slice A2 W c2)).setCell ⟨g,p,none⟩ (.slice A1 W c1)).drew g n W (Tg T g) (swp M L p):=by
      have a1:=HR1.out.set (.inr rfl) hLn2 S2.out O2.out;have a2:=a1.set (.inr rfl) Hd.out (A:=A1) (c:=c1) (f:=M L) (S1.out.fr (S:=λ k=>k=g) (Fr.setCell (S:=λ k=>k=g) (Fr.refl _ _) (.inr rfl) _) (λ b o hW hA hk=>O1.out b o hW hA (.inr hk))) O1.out;exact a2.drewN 1
     have hf2:Fld1 ((w1.setCell ⟨g,L,none⟩ (.slice A2 W c2)).setCell ⟨g,p,none⟩ (.slice A1 W c1)).drew F T:=Hf1.out.fr (S:=λ k=>k=g) ((Fr.setCell (S:=λ k=>k=g) (Fr.setCell (S:=λ k=>k=g) (Fr.refl _ _) (.inr rfl) _) (.inr rfl) _).drew) (λ e=>hgF e.symm) (λ e=>hgT e.symm);have hr2:Fr (Tg T g) w ((w1.setCell ⟨g,L,none⟩ (.slice A2 W c2)).setCell ⟨g,p,none⟩ (.slice A1 W c1)).drew:=((Hr1.out.setCell (.inr (.inr rfl)) _).setCell (.inr (.inr rfl)) _).drew;have hcol2:((w1.setCell ⟨g,L,none⟩ (.slice A2 W c2)).setCell ⟨g,p,none⟩ (.slice A1 W c1)).drew.cell? ⟨wr.heap.size,0,none⟩=some (.int .i64 (c:Int)):=by
      have hq:Fr (λ k=>k=g) w1 ((w1.setCell ⟨g,L,none⟩ (.slice A2 W c2)).setCell ⟨g,p,none⟩ (.slice A1 W c1)).drew:=((Fr.setCell (S:=λ k=>k=g) (Fr.setCell (S:=λ k=>k=g) (Fr.refl _ _) (.inr rfl) _) (.inr rfl) _).drew);exact hq.cell_some hcol (by simp;omega)
     have hs2:((w1.setCell ⟨g,L,none⟩ (.slice A2 W c2)).setCell ⟨g,p,none⟩ (.slice A1 W c1)).drew.heap.size=wr.heap.size+1:=by simp [hs1]
     obtain⟨w2,hw2⟩:∃w2,w2=((w1.setCell ⟨g,L,none⟩ (.slice A2 W c2)).setCell ⟨g,p,none⟩ (.slice A1 W c1)).drew:=⟨_,rfl⟩;rw [<-hw2] at hR2 hf2 hr2 hcol2 hs2 ⊢;clear hw2 hzz k1 k2 z1 z2 hcol hs1 S1 S2 O1 O2 HR1 Hf1 Hr1 v9 w1;obtain⟨A3,c3,k3,s3,o3⟩:=hR2.cell (i:=L) hLn2;have e3:swp M L p L=M p:=by
      by_cases hh:p=L
      ·rw [hh,swp,jgj]
      ·rw [swp,jcT _ _ (λ e=>hh e.symm),jgj]
     rw [e3] at s3;have z3:=hR2.free L;obtain⟨b3,o3',rfl,hx3a⟩:=s3.at_ (k:=c) (by omega);have hx3:=hx3a c _ (by rw [jaE _ c (by rw [jag];omega)]);clear hx3a;rw [show (rowL W (M p))[c]'(by rw [jag];omega)=M p c from by simp [rowL],bv] at hx3;have hlim:=s3.lim;unfold maxLen at hlim;have S3:=qH s3;clear s3;have O3:=qH o3;clear o3;have HR2:=qH hR2;clear hR2;have Hf2:=qH hf2;clear hf2;have Hr2:=qH hr2;clear hr2;obtain⟨x,hxx⟩:∃x,x=M p c:=⟨_,rfl⟩;rw [<-hxx] at hx3;have Hx0:=qH (show x≠0 from by rw [hxx];exact Hx.out);have Hxx:=qH hxx;clear hxx;go_wp2_with fail;go_quiet (first|(go_at_call 127;exact Calls.quiet_of (jj7 F T x Hx0.out _ (Hf2.out.drewN _))));have k4:(w2.drewN nq).cell? ⟨g,L,none⟩=some (.slice (some ⟨b3,o3',none⟩) W c3):=k3;have hs4:(w2.drewN nq).heap.size=wr.heap.size+1:=hs2;have z4:(w2.drewN nq).frozen? ⟨g,L,none⟩=false:=z3
     have hcol4:(w2.drewN nq).cell? ⟨wr.heap.size,0,none⟩=some (.int .i64 (c:Int)):=hcol2;have HR4:=qH (HR2.out.drewN nq);have Hf4:=qH (Hf2.out.drewN nq);have Hr4:=qH (Hr2.out.drewN nq);have S4:=qH (S3.out.drewN nq);obtain⟨w4,hw4⟩:∃w4,w4=w2.drewN nq:=⟨_,rfl⟩;rw [<-hw4] at k4 hs4 z4 hcol4 HR4 Hf4 Hr4 S4 ⊢;clear hw4 hx3 k3 z3 hcol2 hs2 S3 HR2 Hf2 Hr2 w2;go_wp2_with fail;have hh:=jmn F T (ginv x) (some ⟨b3,o3',none⟩) W c3 (rowL W (M p)) w4 Hf4.out.fld S4.out (λ b o hn hA hk=>O3.out b o hn hA (.inl hk)) (by omega);refine hh.mono ?_;clear hh;rintro e w5 ⟨hf5,A5,n5,c5,rfl,s5,r5,m5⟩;rw [joT] at s5 m5;have hn5:n5=W:=by have:=s5.len;rw [jaa,jag] at this;omega
     subst hn5;have hfT:Fr (λ k=>k=T) w4 w5:=r5;have HR5:=qH (HR4.out.fr r5 hgT (λ b hb=> .inl hb));have k5:=hfT.cell_some k4 hgT;have hs5:=r5.size;have z5:=HR5.out.free L;have hcol5:=hfT.cell_some hcol4 (by simp;omega);have Hr5:=qH (Hr4.out.trans (r5.mono λ k hk=> .inl hk));have Hf5:=qH hf5;clear hf5;have O5:∀b o,0<n5->A5=some ⟨b,o,none⟩->¬Tg T g b:=λ b o hn hA hk=>by
      obtain⟨g5,cur,hA',hB,_⟩:=m5 hn;rw [hA] at hA';injection hA' with hA'
      injection hA' with hA' _
      rcases hk with hk|hk<;>omega
     have HO5:=qH O5;clear O5;have HS5:=qH s5;clear s5 m5 r5 hfT k4 z4 hcol4 HR4 Hf4 Hr4 S4 O3;go_wp2_with fail;have e6:upd (swp M L p) L (λ k=>gm (ginv x) (M p k))=scl (swp M L p) L (ginv x):=by rw [scl,e3]
     have HR6:=HR5.out.set (.inr rfl) hLn2 HS5.out HO5.out;rw [e6] at HR6;have hq6:Fr (λ k=>k=g) w5 (w5.setCell ⟨g,L,none⟩ (.slice A5 n5 c5)):=Fr.setCell (S:=λ k=>k=g) (Fr.refl _ _) (.inr rfl) _;have hf6:Fld1 (w5.setCell ⟨g,L,none⟩ (.slice A5 n5 c5)) F T:=Hf5.out.fr hq6 (λ e=>hgF e.symm) (λ e=>hgT e.symm);have hr6:Fr (Tg T g) w (w5.setCell ⟨g,L,none⟩ (.slice A5 n5 c5)):=Hr5.out.trans (hq6.mono λ k hk=> .inr hk);have hcol6:=hq6.cell_some hcol5 (by simp;omega);have hs6:wr.heap.size<(w5.setCell ⟨g,L,none⟩ (.slice A5 n5 c5)).heap.size:=by simp;omega
     obtain⟨w6,hw6⟩:∃w6,w6=w5.setCell ⟨g,L,none⟩ (.slice A5 n5 c5):=⟨_,rfl⟩;rw [<-hw6] at HR6 hf6 hr6 hcol6 hs6 ⊢;clear hw6 hq6 k5 hs5 z5 hcol5 hs4 HR5 Hf5 Hr5 HO5 HS5 e6;obtain⟨M2,hM2⟩:∃M2,M2=scl (swp M L p) L (ginv x):=⟨_,rfl⟩;rw [<-hM2] at HR6;have HM2:=qH hM2;clear hM2;go_wp2_with fail;go_loopw [67] (λ i wi=>∃j:Nat,j<=n∧i= .int .i64 (j:Int)∧RowsAt wi g n n5 (Tg T g) (fo M2 L c j)∧Fld1 wi F T∧Fr (Tg T g) w wi∧wi.cell? ⟨wr.heap.size,0,none⟩=some (.int .i64 (c:Int))∧wr.heap.size<wi.heap.size) (λ i _=>n-(intOf i).toNat)
     case atStart=>exact⟨0,by omega,rfl,by rw [jqN];exact HR6,hf6,hr6,hcol6,hs6⟩
     case round=>
      obtain⟨j,hj,rfl,hRj,hfj,hrj,hcolj,hsj⟩:=hrel;clear HR6 hf6 hr6 hcol6 hs6;have HRj:=qH hRj;clear hRj;have Hfj:=qH hfj;clear hfj;have Hrj:=qH hrj;clear hrj
      by_cases hjn:j<n
      ·obtain⟨Aj,cj,kj,sj,oj⟩:=HRj.out.cell (i:=j) hjn
       rw [jj4 _ _ _ _ _ (.inl (Nat.le_refl _))] at sj;have Sj:=qH sj;clear sj;have Oj:=qH oj;clear oj
       by_cases hjL:j=L
       ·have hd1:(((j:Nat):Int) !=(L:Int))=false:=by simp [hjL]
        have HjL:=qH hjL;clear hjL;go_wp2_with fail;go_roundw
        case rel=>exact⟨j+1,by omega,by go_num,by rw [jms _ _ _ _ (.inl HjL.out)];exact HRj.out,Hfj.out,Hrj.out,hcolj,hsj⟩
        case measure=>simp [intOf];omega
       ·have hd1:(((j:Nat):Int) !=(L:Int))=true:=by simp;omega
        obtain⟨bj,oj',rfl,hxja⟩:=Sj.out.at_ (k:=c) (by omega);have hxj:=hxja c _ (by rw [jaE _ c (by rw [jag];omega)]);clear hxja;rw [show (rowL n5 (M2 j))[c]'(by rw [jag];omega)=M2 j c from by simp [rowL],bv] at hxj;have hlj:=Sj.out.lim;unfold maxLen at hlj;obtain⟨y,hyy⟩:∃y,y=M2 j c:=⟨_,rfl⟩;rw [<-hyy] at hxj;have Hyy:=qH hyy;clear hyy
        by_cases hy0:y=0
        ·have hd2:((y.toNat:Int) !=0)=false:=by rw [hy0];rfl
         have Hy0:=qH hy0;clear hy0;go_wp2_with fail;go_roundw
         case rel=>exact⟨j+1,by omega,by go_num,by rw [jms _ _ _ _ (.inr (by rw [<-Hyy.out];exact Hy0.out))];exact HRj.out,Hfj.out,Hrj.out,hcolj,hsj⟩
         case measure=>simp [intOf];omega
        ·have hd2:((y.toNat:Int) !=0)=true:=by rw [jmx];simpa using hy0
         obtain⟨Al,cl,kl,sl,ol⟩:=HRj.out.cell (i:=L) hLn2;rw [jj4 _ _ _ _ _ (.inr rfl)] at sl;have zj:=HRj.out.free j;have Hfd:=qH (Hfj.out.fld.later (w':=wr.drew) (Below.drew (Below.refl _ _)));have Sjd:=qH Sj.out.drew;have Sld:=qH sl.drew;clear sl;have Ol:=qH ol;clear ol;clear hy0;go_wp2_with fail;go_region_with (go_at_call 202;have hh:=joP F T y Al n5 cl (rowL n5 (M2 L)) (some ⟨bj,oj',none⟩) n5 cj (rowL n5 (M2 j)) wr.drew Hfd.out Sld.out (λ b o hn hA hk=>Ol.out b o hn hA (.inl hk)) Sjd.out (λ b o hn hA hk=>Oj.out b o hn hA (.inl hk)) (by omega);refine hh.mono ?_;clear hh;rintro e w7 ⟨hf7,A7,n7,c7,rfl,s7,r7,m7⟩;have k7:=(show Fr (λ k=>k=T) wr.drew w7 from r7).cell_some (show wr.drew.cell? ⟨g,j,none⟩=some (.slice (some ⟨bj,oj',none⟩) n5 cj) from kj) hgT;have z7:=(HRj.out.drewN 1 |>.fr r7 hgT (λ b hb=> .inl hb)).free j)
         all_goals
          rw [jj9] at s7 m7;have hn7:n7=n5:=by have:=s7.len;rw [jaa,jag] at this;omega
          subst hn7;have hs7:=r7.size;have hs7':wr.drew.heap.size=wr.heap.size:=rfl;have O7:∀b o,0<n7->A7=some ⟨b,o,none⟩->¬Tg T g b:=λ b o hn hA hk=>by
           obtain⟨g7,cur,hA',hB,_⟩:=m7 hn;rw [hA] at hA';injection hA' with hA'
           injection hA' with hA' _
           have:=HRj.out.lt;have:=Hfj.out.fld.ltT
           rcases hk with hk|hk<;>omega
          have hRn:=(HRj.out.drewN 1 |>.fr r7 hgT (λ b hb=> .inl hb)).set (.inr rfl) hjn s7 O7;have en:upd (fo M2 L c j) j (λ k=>M2 j k ^^^ gm y (M2 L k))=fo M2 L c (j+1):=by
           rw [jqO,Hyy.out];simp only [ne_eq,hjL,not_false_eq_true,if_true]
          rw [en] at hRn;have hq7:Fr (λ k=>k=g) w7 (w7.setCell ⟨g,j,none⟩ (.slice A7 n7 c7)):=Fr.setCell (S:=λ k=>k=g) (Fr.refl _ _) (.inr rfl) _;have hr7:=(Hrj.out.drew.trans (r7.mono λ k hk=> .inl hk)).trans (hq7.mono λ k hk=> .inr hk);have hc7:=hq7.cell_some ((show Fr (λ k=>k=T) wr.drew w7 from r7).cell_some (show wr.drew.cell? _=_ from hcolj) (by simp;omega)) (by simp;omega);have hf7':=hf7.fr hq7 (λ e=>hgF e.symm) (λ e=>hgT e.symm);have Hend:=qH (And.intro hRn (And.intro hf7' (And.intro hr7 hc7)));clear hRn hf7' hr7 hc7 hq7 O7 s7 m7 hf7 k7 z7;go_wp2_with fail;go_roundw
          case rel=>exact⟨j+1,by omega,by go_num,Hend.out.1,Hend.out.2.1,Hend.out.2.2.1,Hend.out.2.2.2,by simp;omega⟩
          case measure=>simp [intOf];omega
      ·obtain rfl:j=n:=by omega
       go_wp2_with fail;go_roundw
       case rel=>exact⟨c+1,L+1,stp j M L c p (ginv (M p c)),_,by omega,by go_num,by go_num,Hled.out.next hpL hd Hx.out,by have:=HRj.out;rw [HM2.out,Hxx.out] at this;exact this,Hfj.out,Hrj.out⟩
       case measure=>simp [intOf];omega
   ·obtain rfl:L=n:=by omega
    go_wp2_with fail;refine(jkP _ _ _ _).mono ?_;rintro e w1 ⟨rfl,rfl⟩;go_wp2_with fail;go_roundw
    case rel=>exact⟨c+1,L,M,ld,by omega,by go_num,rfl,Hled.out.skip (λ i h1 h2=>absurd h1 (by omega)),Hrow.out.later hb1,Hfl.out.later hb1,Hfr.out.trans (Fr.of_below hb1)⟩
    case measure=>simp [intOf];omega
  ·obtain rfl:c=cols:=by omega
   go_wp2_with fail;go_ret;exact⟨L,M,ld,rfl,Hled.out,Hrow.out,Hfl.out,Hfr.out⟩
end
section
theorem Fr.andNew {S S':Nat->Prop}{a b c:World}(h:Fr S a b)(k:Fr S' b c)(hs:∀i,i<a.heap.size->S' i->S i):Fr S a c:=
 ⟨k.os.trans h.os,k.tape.trans h.tape,k.output.trans h.output,Nat.le_trans h.size k.size,λ i hi hn=>(k.block i (Nat.lt_of_lt_of_le hi h.size) λ hk=>hn (hs i hi hk)).trans (h.block i hi hn)⟩
structure MxAt (w:World)(T:Nat)(A:Option Addr)(N cp:Nat)(l:List UInt8):Prop where
 sl:Sl w 1 A N cp (cells l)
 off:Off T A N
theorem MxAt.fr {w w':World}{T N cp:Nat}{A:Option Addr}{l:List UInt8}(h:MxAt w T A N cp l)(hf:Fr (Ft T) w w'):MxAt w' T A N cp l:=⟨h.sl.off hf h.off,h.off⟩
theorem MxAt.later {w w':World}{T N cp:Nat}{A:Option Addr}{l:List UInt8}(h:MxAt w T A N cp l)(hb:Below w.heap.size w w'):MxAt w' T A N cp l:=⟨h.sl.below hb (Nat.le_refl _),h.off⟩
end
section
theorem joU (A:Option Addr)(W cp:Nat)(f:Nat->UInt8)(b c:Nat)(hc:c<W)(w:World)(h:Sl w 1 A W cp (cells (rowL W f)))(hb:w.cell? ⟨b,0,none⟩=some (.int .i64 (c:Int))):
  Calls Tryz.prog 307 #[.slice A W cp, .pointer (some ⟨b,0,none⟩)] w λ e w' =>e= .returned (.int .u8 ((f c).toNat:Int))∧w' =w:=by
 have hcp:=h.lim;unfold maxLen at hcp;obtain⟨b1,o1,rfl,hcell⟩:=h.at_ hc;have hx:=hcell c _ (by rw [jaE _ c (by rw [jag];exact hc)]);have hg:(rowL W f)[c]'(by rw [jag];exact hc)=f c:=by simp [rowL]
 rw [hg,bv] at hx;clear hcell h hg;go_enter Tryz.func307,Tryz.ntmps307;go_wp2_with fail;go_ret;exact⟨rfl,rfl⟩
def rowN (R k:Nat)(f:Nat->UInt8):List UInt8:=rowL R λ i=>if i<k then f i else 0
theorem jmz (R:Nat)(f:Nat->UInt8):rowN R 0 f=List.replicate R 0:=by
 apply List.ext_getElem
 ·simp [rowN,rowL]
 ·intro i h1 h2
  simp [rowN,rowL]
theorem jmA (R k:Nat)(f:Nat->UInt8):(rowN R k f).set k (f k)=rowN R (k+1) f:=by
 apply List.ext_getElem
 ·simp [rowN,rowL]
 ·intro i h1 h2
  rw [List.getElem_set]
  by_cases he:k=i
  ·subst he
   simp [rowN,rowL]
  ·have:(i<k+1)=(i<k):=by apply propext;omega
   simp [rowN,rowL,he,this]
theorem jka (R:Nat)(f:Nat->UInt8):rowN R R f=rowL R f:=jbn λ i hi=>if_pos hi
theorem jiX (R C:Nat)(A:Option Addr)(N cp:Nat)(l:List UInt8)(h1:1<=R)(h2:R<=255)(h3:1<=C)(h4:C<=255)(hN:N=R*C)(bc c:Nat)(hc:c<C)(w:World)(h:Sl w 1 A N cp (cells l))(hbc:w.cell? ⟨bc,0,none⟩=some (.int .i64 (c:Int))):
  Calls Tryz.prog 306 #[.agg #[.int .i64 (R:Int), .int .i64 (C:Int), .slice A N cp], .func (.func 307) #[] #[.pointer (some ⟨bc,0,none⟩)]] w
   λ e w' =>e= .returned (.slice (some ⟨w.heap.size+1,0,none⟩) R R)∧Below w.heap.size w w' ∧Sl w' 1 (some ⟨w.heap.size+1,0,none⟩) R R (cells (rowL R λ i=>mx C l i c)):=by
 have hn:=h.lim;have hcp:=h.cap;have htp:=h.top;unfold maxLen at hn htp;have hl:=h.len;rw [jaa,Nat.mul_one] at hl;have hRC:R*C<=255*255:=Nat.mul_le_mul h2 h4;have hmk:=jb9 (R:Int) R rfl (by omega);have Hs:=qH h;clear h;have Hl:=qH (hl.trans hN);clear hl;have HN:=qH hN;rw [<-hN] at hRC;clear hN;go_enter Tryz.func306,Tryz.ntmps306;go_wp2_with fail;go_loopw [14] (λ i wr=>∃(k:Nat),k<=R∧i= .int .i64 (k:Int)∧Below w.heap.size w wr∧w.heap.size+2<=wr.heap.size∧
   wr.heap[w.heap.size]? =some (boxM (R:Int) (C:Int) A N cp)∧Mine wr (w.heap.size+1) 5 (some ⟨w.heap.size+1,0,none⟩) R (cells (rowN R k λ i=>mx C l i c))) (λ i _=>R-(intOf i).toNat)
 case atStart=>exact⟨0,by omega,rfl,((Below.refl _ _).alloc (Nat.le_refl _) _).alloc (by simp) _,by simp,(Below.heap_alloc _ _ _ (by simp)).trans (heap_alloc_new w _),by
  have:=Mine.noughts (w.alloc (.cells #[.int .i64 (R:Int), .int .i64 (C:Int), .slice A N cp] 338)) R;rw [jmz]
  simpa using this⟩
 case round=>
  obtain⟨k,hk,rfl,hb,hsz,hr0,hm⟩:=hrel;have c1:=jcK hr0;have c2:=jci hr0;have Hr0:=qH hr0;clear hr0
  by_cases hlt:k<R
  ·obtain⟨g1,hg1,_,k1,f1⟩:=hm.at_ (u:=0) hlt (by rw [rowN,jbZ _ _ _ hlt];simp)
   injection hg1 with hg1
   injection hg1 with hg1 _
   subst hg1;have Hm:=qH hm;clear hm;obtain⟨q,hq⟩:∃q,q=k*C:=⟨_,rfl⟩;have hq2:q+C<=N:=by
    have:(k+1)*C<=R*C:=Nat.mul_le_mul_right C hlt;rw [Nat.add_mul,Nat.one_mul] at this;have:=HN.out;omega
   have hqi:(k:Int)*(C:Int)=(q:Int):=by rw [hq];simp
   have hqj:((k:Int)+1)*(C:Int)=((q+C:Nat):Int):=by rw [Int.add_mul,hqi];simp
   have hqC:q+C-q=C:=by omega
   have hs:=(Hs.out.below hb (Nat.le_refl _)).sub1 q (q+C) (q+C-q) (by omega) hq2 (by omega) (by unfold maxLen;omega);rw [hqC,hq,jmw Hl.out hlt,<-hq] at hs;have HS:=qH hs;clear hs;have hcb:=(hb.cell (p:=⟨bc,0,none⟩) (World.block_lt_of_cell? w _ hbc)).trans hbc;have Hq:=qH hq;clear hq;go_wp2_with fail;go_quiet (fail);go_wp2_with fail;have hh:=joU (A.map (·.add q)) C C (mx C l k) bc c hc (wr.drewN nq) (HS.out.drewN nq) hcb;refine hh.mono ?_;clear hh;rintro e w2 ⟨rfl,rfl⟩;go_wp2_with fail;go_roundw
   case rel=>exact⟨k+1,by omega,by go_num,(below_drewN hb nq).setCell (by simp) _,by simp;omega,(Below.heap_setCell _ _ _ _ (by simp)).trans Hr0.out,by rw [<-jmA];exact(Hm.out.later (below_drewN (Below.refl _ _) nq)).set hlt _⟩
   case measure=>simp [intOf];omega
  ·obtain rfl:k=R:=by omega
   have Hm:=qH hm;clear hm;go_wp2_with fail;go_ret;have:=Hm.out.sl (c:=k) (by rw [jka,jag]) (Nat.le_refl _) (by unfold maxLen;omega);rw [jka] at this;exact⟨rfl,hb,this⟩
theorem jbG (R C:Nat)(A:Option Addr)(N cp:Nat)(l:List UInt8)(h1:1<=R)(h2:R<=255)(h3:1<=C)(h4:C<=255)(hN:N=R*C)(w:World)(h:Sl w 1 A N cp (cells l)):
  Calls Tryz.prog 290 #[.agg #[.int .i64 (R:Int), .int .i64 (C:Int), .slice A N cp]] w
   λ e w' =>∃g,e= .returned (.slice (some ⟨g,0,none⟩) C C)∧w.heap.size<=g∧Below w.heap.size w w' ∧∀S,(∀b,w.heap.size<=b->b≠g->¬S b)->RowsAt w' g C R S (λ j i=>mx C l i j):=by
 have hmk:=jbE (C:Int) C rfl (by omega);have Hs:=qH h;clear h;have HN:=qH hN;clear hN;go_enter Tryz.func290,Tryz.ntmps290;go_wp2_with fail;go_loopw [10] (λ i wr=>∃(k:Nat) (cur:Array Value),k<=C∧i= .int .i64 (k:Int)∧Below w.heap.size w wr∧w.heap.size+2<=wr.heap.size∧
   wr.heap[w.heap.size]? =some (boxM (R:Int) (C:Int) A N cp)∧wr.heap[w.heap.size+1]? =some (.cells cur 105 (0,0))∧cur.size=C∧
   ∀j,j<k->∃b,w.heap.size+2<=b∧cur[j]? =some (.slice (some ⟨b,0,none⟩) R R)∧Sl wr 1 (some ⟨b,0,none⟩) R R (cells (rowL R λ i=>mx C l i j))) (λ i _=>C-(intOf i).toNat)
 case atStart=>exact⟨0,_,by omega,rfl,((Below.refl _ _).alloc (Nat.le_refl _) _).alloc (by simp) _,by simp,(Below.heap_alloc _ _ _ (by simp)).trans (heap_alloc_new w _),(by have:=heap_alloc_new (w.alloc (.cells #[.int .i64 (R:Int), .int .i64 (C:Int), .slice A N cp] 338)) (.cells (madeCells #[.slice none 0 0] C) 105);simpa using this),by rw [size_madeCells],λ j hj=>absurd hj (by omega)⟩
 case round=>
  obtain⟨k,cur,hk,rfl,hb,hsz,hr0,hr1,hcs,hcur⟩:=hrel;have Hcur:=qH hcur;clear hcur;have Hcs:=qH hcs;clear hcs
  by_cases hlt:k<C
  . -- the captured column in a block of its own
   have hb1:Below wr.heap.size wr (wr.alloc (.cells #[.int .i64 (k:Int)] 3)):=(Below.refl _ _).alloc (Nat.le_refl _) _;have hcol:(wr.alloc (.cells #[.int .i64 (k:Int)] 3)).cell? ⟨wr.heap.size,0,none⟩=some (.int .i64 (k:Int)):=by simp
   have hx0:=(hb1.block _ (block_lt hr0)).trans hr0;have hx1:=(hb1.block _ (block_lt hr1)).trans hr1;have hsl:=(Hs.out.below hb (Nat.le_refl _)).below hb1 (Nat.le_refl _);obtain⟨w1,hw1⟩:∃w1,w1=wr.alloc (.cells #[.int .i64 (k:Int)] 3):=⟨_,rfl⟩;have hs1:w1.heap.size=wr.heap.size+1:=by rw [hw1];simp
   go_wp2_with fail;rw [<-hw1] at hb1 hcol hx0 hx1 hsl ⊢;clear hw1 hr0 hr1;have c0:=jdn hx0;have c1:=jcK hx0;have c2:=jci hx0;have f1:w1.frozen? ⟨w.heap.size+1,k,none⟩=false:=frozen_of_row _ _ _ _ _ hx1;have e1:∃v,w1.cell? ⟨w.heap.size+1,k,none⟩=some v:=by
    rw [cell_of_row _ _ _ _ _ _ hx1];exact⟨_,Array.getElem?_eq_getElem (by rw [Hcs.out];exact hlt)⟩
   obtain⟨v0,e1⟩:=e1;have Hx0:=qH hx0;clear hx0;have Hx1:=qH hx1;clear hx1;have Hsl:=qH hsl.drew;clear hsl;go_region_with (go_at_call 306;have hh:=jiX R C A N cp l h1 h2 h3 h4 HN.out wr.heap.size k hlt w1.drew Hsl.out hcol;refine hh.mono ?_;clear hh;rintro e w3 ⟨rfl,hb3,hs3⟩;have k3:=(hb3.cell (p:=⟨wr.heap.size,0,none⟩) (by show wr.heap.size<w1.heap.size;omega)).trans hcol;have e3:=(hb3.cell (p:=⟨w.heap.size+1,k,none⟩) (by show w.heap.size+1<w1.heap.size;omega)).trans e1;have f3:=(hb3.frozen (p:=⟨w.heap.size+1,k,none⟩) (by show w.heap.size+1<w1.heap.size;omega)).trans f1)
   all_goals
    have hz:w1.drew.heap.size+1=wr.heap.size+1+1:=by show w1.heap.size+1=_;omega
    have hbA:Below wr.heap.size wr w3:=(Below.drew hb1).trans (hb3.mono (by show wr.heap.size<=w1.heap.size;omega));have x0:w3.heap[w.heap.size]? =some (boxM (R:Int) (C:Int) A N cp):=(hb3.block _ (by show w.heap.size<w1.heap.size;omega)).trans Hx0.out;have x1:w3.heap[w.heap.size+1]? =some (.cells cur 105 (0,0)):=(hb3.block _ (by show w.heap.size+1<w1.heap.size;omega)).trans Hx1.out;rw [hz] at hs3;have Hs3:=qH hs3;clear hs3;have HbA:=qH hbA;clear hbA hb3;have hss:=HbA.out.size;have X0:=qH x0;clear x0;have X1:=qH x1;clear x1;clear k3 e3 f3 e1 f1 c0 c1 c2;go_wp2_with fail;go_roundw
    case rel=>
     have hfg:Fr (λ b=>b=w.heap.size+1) w3 (w3.setCell ⟨w.heap.size+1,k,none⟩ (.slice (some ⟨wr.heap.size+1+1,0,none⟩) R R)):=Fr.setCell (S:=λ b=>b=w.heap.size+1) (Fr.refl _ _) (.inr rfl) _;refine⟨k+1,cur.setIfInBounds k (.slice (some ⟨wr.heap.size+1+1,0,none⟩) R R),by omega,by go_num,(hb.trans (HbA.out.mono (by omega))).setCell (by simp) _,by simp;omega,(Below.heap_setCell _ _ _ _ (by simp)).trans X0.out,heap_setCell_same _ _ _ _ _ _ X1.out,by rw [Array.size_setIfInBounds];exact Hcs.out,λ j hj=> ?_⟩
     by_cases he:j=k
     ·subst he
      refine⟨wr.heap.size+1+1,by omega,by rw [Array.getElem?_setIfInBounds];simp [Hcs.out,hlt], ?_⟩;exact Hs3.out.fr hfg λ b o _ hA hb=>by
       injection hA with hA
       injection hA with hA _
       omega
     ·obtain⟨b,hb2,hc2,hs2⟩:=Hcur.out j (by omega)
      refine⟨b,hb2,by rw [Array.getElem?_setIfInBounds,if_neg (λ e=>he e.symm)];exact hc2, ?_⟩;exact(hs2.below HbA.out (Nat.le_refl _)).fr hfg λ b' o _ hA hb=>by
       injection hA with hA
       injection hA with hA _
       omega
    case measure=>simp [intOf];omega
  ·obtain rfl:k=C:=by omega
   have Hr1:=qH hr1;clear hr1;go_wp2_with fail;go_ret;refine⟨w.heap.size+1,rfl,by omega,hb,λ S hS=>⟨cur,Hr1.out,Hcs.out,λ i hi=> ?_⟩⟩;obtain⟨b,hb2,hc2,hs2⟩:=Hcur.out i hi;refine⟨_,_,hc2,hs2,λ b' o _ hA=> ?_⟩;injection hA with hA
   injection hA with hA _
   exact hS b' (by omega) (by omega)
end
section
def NoMx (x:Int):Value:= .tuple #[.agg #[.int .i64 0, .int .i64 0, .slice none 0 0], .int .i64 x]
def box0:Obj:= .cells #[.int .i64 0, .int .i64 0, .slice none 0 0] 338
theorem jfh {w:World}{g:Nat}(h:w.heap[g]? =some box0):w.cell? ⟨g,0,none⟩=some (.int .i64 0):=by rw [cell_of_row _ _ _ _ _ _ h];rfl
theorem jfi {w:World}{g:Nat}(h:w.heap[g]? =some box0):w.cell? ⟨g,1,none⟩=some (.int .i64 0):=by rw [cell_of_row _ _ _ _ _ _ h];rfl
theorem jfj {w:World}{g:Nat}(h:w.heap[g]? =some box0):w.cell? ⟨g,2,none⟩=some (.slice none 0 0):=by rw [cell_of_row _ _ _ _ _ _ h];rfl
theorem jaq {w:World}{g:Nat}(h:w.heap[g]? =some box0)(i:Nat):w.frozen? ⟨g,i,none⟩=false:=frozen_of_row _ _ _ _ _ h
theorem jaQ (w:World)(o o':Obj):((w.alloc o).alloc o').heap[w.heap.size+1]? =some o':=by
 have:=heap_alloc_new (w.alloc o) o'
 simpa using this
theorem jbJ (w:World)(o o':Obj):((w.alloc o).alloc o').heap[w.heap.size]? =some o:=(Below.heap_alloc _ _ _ (by simp)).trans (heap_alloc_new w _)
theorem jcz {w:World}{g:Nat}{r c:Int}{A:Option Addr}{n cp:Nat}(h:w.heap[g]? =some box0):
  (((w.setCell ⟨g,0,none⟩ (.int .i64 r)).setCell ⟨g,1,none⟩ (.int .i64 c)).setCell ⟨g,2,none⟩ (.slice A n cp)).heap[g]? =some (boxM r c A n cp):=by
 have e0:=heap_setCell_same w g 0 _ _ (.int .i64 r) h;have e1:=heap_setCell_same _ g 1 _ _ (.int .i64 c) e0;have e2:=heap_setCell_same _ g 2 _ _ (.slice A n cp) e1;exact e2
theorem jcV (w:World)(g:Nat)(r c:Int)(A:Option Addr)(n cp:Nat):
  Fr (λ k=>k=g) w (((w.setCell ⟨g,0,none⟩ (.int .i64 r)).setCell ⟨g,1,none⟩ (.int .i64 c)).setCell ⟨g,2,none⟩ (.slice A n cp)):=
 Fr.setCell (S:=λ k=>k=g) (Fr.setCell (S:=λ k=>k=g) (Fr.setCell (S:=λ k=>k=g) (Fr.refl _ _) (.inr rfl) _) (.inr rfl) _) (.inr rfl) _
theorem Grow.frG {w w':World}{B k c g:Nat}{A:Option Addr}{l:List UInt8}(h:Grow w B A k c l)(hf:Fr (λ k=>k=g) w w')(hg:g<B):Grow w' B A k c l:=by
 have hrow:0<k->w'.ownsRow B 5 1 (.slice A k c) k (cells l):=λ h0=>by
  obtain⟨hl,hv⟩:=h.row h0;refine⟨hl, ?_⟩
  rcases hv with hv|⟨g',cap,cur,hv,hb,hh,r⟩
  ·exact .inl hv
  ·exact .inr ⟨g',cap,cur,hv,hb,hf.row_some hh (by omega),r⟩
 refine⟨⟨?_, ?_⟩,hrow⟩
 ·refine h.own.sl.fr hf λ b o hn hA hb=> ?_
  obtain⟨_,hv⟩:=h.row hn
  rcases hv with ⟨_,hv0⟩|⟨g',cap,cur,hv,hb',_⟩
  ·omega
  ·injection hv with hv
   rw [hA] at hv;injection hv with hv
   injection hv with hv _
   omega
 ·rcases h.own.own with h1|⟨hl,hv⟩
  ·exact .inl h1
  ·rcases hv with hv|⟨g',cap,cur,hv,hb,hh,r⟩
   ·exact .inr ⟨hl, .inl hv⟩
   ·exact .inr ⟨hl, .inr ⟨g',cap,cur,hv,hb,hf.row_some hh (by omega),r⟩⟩
end
section
theorem RowsAt.wid {w:World}{g n W:Nat}{S:Nat->Prop}{M:Mx}(h:RowsAt w g n W S M)(S':Nat->Prop)(hS:∀b,b<w.heap.size->S' b->S b):RowsAt w g n W S' M:=by
 obtain⟨cur,hg,hn,hr⟩:=h.row;refine⟨cur,hg,hn,λ i hi=> ?_⟩;obtain⟨A,c,h1,h2,h3⟩:=hr i hi;exact⟨A,c,h1,h2,λ b o hW hA hb=>h3 b o hW hA (hS b (h2.lt (by decide) hW hA) hb)⟩
def mulW (w:World)(f:Value)(r c:Int)(A:Option Addr)(n cp:Nat)(r' c':Int)(A':Option Addr)(n' cp':Nat):World:=
 (((w.alloc (.cells #[f] 91)).alloc (.cells #[.int .i64 r, .int .i64 c, .slice A n cp] 338)).alloc (.cells #[.int .i64 r', .int .i64 c', .slice A' n' cp'] 338)).alloc (.cells #[.int .i64 0, .int .i64 0, .slice none 0 0] 338)
section
variable (w:World)(f:Value)(r c:Int)(A:Option Addr)(n cp:Nat)(r' c':Int)(A':Option Addr)(n' cp':Nat)
theorem jmB:(mulW w f r c A n cp r' c' A' n' cp').heap.size=w.heap.size+4:=by simp [mulW]
theorem jgl:Below w.heap.size w (mulW w f r c A n cp r' c' A' n' cp'):=((((Below.refl _ _).alloc (Nat.le_refl _) _).alloc (by simp) _).alloc (by simp;omega) _).alloc (by simp;omega) _
theorem mulW_0:(mulW w f r c A n cp r' c' A' n' cp').heap[w.heap.size]? =some (.cells #[f] 91 (0,0)):=
 (Below.heap_alloc _ _ _ (by first|(simp;done)|(simp;omega))).trans ((Below.heap_alloc _ _ _ (by first|(simp;done)|(simp;omega))).trans (jbJ w _ _))
theorem mulW_1:(mulW w f r c A n cp r' c' A' n' cp').heap[w.heap.size+1]? =some (boxM r c A n cp):=
 (Below.heap_alloc _ _ _ (by first|(simp;done)|(simp;omega))).trans ((Below.heap_alloc _ _ _ (by first|(simp;done)|(simp;omega))).trans (jaQ w _ _))
theorem mulW_2:(mulW w f r c A n cp r' c' A' n' cp').heap[w.heap.size+2]? =some (boxM r' c' A' n' cp'):=by
 refine(Below.heap_alloc _ _ _ (by simp)).trans ?_;have:=jaQ (w.alloc (.cells #[f] 91)) (.cells #[.int .i64 r, .int .i64 c, .slice A n cp] 338) (boxM r' c' A' n' cp')
 rwa [show (w.alloc (.cells #[f] 91)).heap.size+1=w.heap.size+2 from by simp] at this
theorem mulW_3:(mulW w f r c A n cp r' c' A' n' cp').heap[w.heap.size+3]? =some box0:=by
 have:=jaQ ((w.alloc (.cells #[f] 91)).alloc (.cells #[.int .i64 r, .int .i64 c, .slice A n cp] 338)) (boxM r' c' A' n' cp') box0
 rwa [show ((w.alloc (.cells #[f] 91)).alloc (.cells #[.int .i64 r, .int .i64 c, .slice A n cp] 338)).heap.size+1=w.heap.size+3 from by simp] at this
end
structure MulAt (w0 w:World)(F T:Nat)(r c:Int)(A:Option Addr)(n cp:Nat)(r' c':Int)(A':Option Addr)(n' cp':Nat):Prop where
 fr:Fr (Ft T) w0 w
 fld:Fld1 w F T
 size:w0.heap.size+4<=w.heap.size
 b0:w.heap[w0.heap.size]? =some (.cells #[.pointer (some ⟨F,0,none⟩)] 91 (0,0))
 b1:w.heap[w0.heap.size+1]? =some (boxM r c A n cp)
 b2:w.heap[w0.heap.size+2]? =some (boxM r' c' A' n' cp')
 b3:w.heap[w0.heap.size+3]? =some box0
theorem MulAt.later {w0 w w':World}{F T:Nat}{r c:Int}{A:Option Addr}{n cp:Nat}{r' c':Int}{A':Option Addr}{n' cp':Nat}(h:MulAt w0 w F T r c A n cp r' c' A' n' cp')(hb:Below w.heap.size w w'):MulAt w0 w' F T r c A n cp r' c' A' n' cp':=
 ⟨h.fr.trans (Fr.of_below hb),h.fld.later hb,Nat.le_trans h.size hb.size,(hb.block _ (block_lt h.b0)).trans h.b0,(hb.block _ (block_lt h.b1)).trans h.b1,(hb.block _ (block_lt h.b2)).trans h.b2,(hb.block _ (block_lt h.b3)).trans h.b3⟩
theorem MulAt.start {w w1:World}{F T:Nat}{r c:Int}{A:Option Addr}{n cp:Nat}{r' c':Int}{A':Option Addr}{n' cp':Nat}(hT:T<w.heap.size)(hf:Fld1 w1 F T)(hr:Fr (Ft T) (mulW w (.pointer (some ⟨F,0,none⟩)) r c A n cp r' c' A' n' cp') w1):
  MulAt w w1 F T r c A n cp r' c' A' n' cp':=
 ⟨(Fr.of_below (jgl w _ r c A n cp r' c' A' n' cp')).trans hr,hf,by have:=hr.size;rw [jmB] at this;exact this,
  hr.row_some (mulW_0 w _ r c A n cp r' c' A' n' cp') (by show ¬_=T;omega),hr.row_some (mulW_1 w _ r c A n cp r' c' A' n' cp') (by show ¬_=T;omega),
  hr.row_some (mulW_2 w _ r c A n cp r' c' A' n' cp') (by show ¬_=T;omega),hr.row_some (mulW_3 w _ r c A n cp r' c' A' n' cp') (by show ¬_=T;omega)⟩
theorem joV (D:Nat)(f g:Nat->UInt8):dotS (rowL D f) (rowL D g)=xs D (λ j=>gm (f j) (g j)):=by
 rw [dotS,jag,jag,Nat.min_self];exact jaz D λ j hj=>by rw [jdH D f j hj,jdH D g j hj]
theorem jiY:∀args w,(callFunc 291 args).run Tryz.prog w= .ok (.enter 291 args) w:=enters_of Tryz.func291 (by kernel_rfl) rfl
theorem joW (F T bf bl br gl gr R D C:Nat)(S S':Nat->Prop)(X Y:Mx)(hR:R<=255)(hC:C<=255)(i j:Nat)(hi:i<R)(hj:j<C)(w:World)(hf:Fld1 w F T)(hl:RowsAt w gl R D S X)(hr:RowsAt w gr C D S' Y)
  (kf:w.cell? ⟨bf,0,none⟩=some (.pointer (some ⟨F,0,none⟩)))(kl:w.cell? ⟨bl,0,none⟩=some (.slice (some ⟨gl,0,none⟩) R R))(kr:w.cell? ⟨br,0,none⟩=some (.slice (some ⟨gr,0,none⟩) C C)):
  Calls Tryz.prog 291 #[.int .i64 (i:Int), .int .i64 (j:Int), .pointer (some ⟨bf,0,none⟩), .pointer (some ⟨bl,0,none⟩), .pointer (some ⟨br,0,none⟩)] w
   λ e w' =>e= .returned (.int .u8 ((xs D λ k=>gm (X i k) (Y j k)).toNat:Int))∧∃k,w' =w.drewN k:=by
 obtain⟨A1,c1,k1,s1,_⟩:=hl.cell hi;obtain⟨A2,c2,k2,s2,_⟩:=hr.cell hj;have Hf:=qH hf;clear hf;have S1:=qH s1;clear s1;have S2:=qH s2;clear s2;clear hl hr;go_enter Tryz.func291,Tryz.ntmps291;go_wp2_with fail;go_quiet (first|(go_at_call 292;exact Calls.quiet_of (joS F T A1 D c1 (rowL D (X i)) A2 D c2 (rowL D (Y j)) _ (Hf.out.drewN _) (S1.out.drewN _) (S2.out.drewN _))));rw [joV];go_wp2_with fail;go_ret;exact⟨rfl,_,rfl⟩
end
section
theorem jqT (F T R D C:Nat)(Aa:Option Addr)(Na ca:Nat)(la:List UInt8)(Ab:Option Addr)(Nb cb:Nat)(lb:List UInt8)(hR1:1<=R)(hR2:R<=255)(hD1:1<=D)(hD2:D<=255)(hC1:1<=C)(hC2:C<=255)(hNa:Na=R*D)(hNb:Nb=D*C)
  (w:World)(h:Fld w F T)(hma:MxAt w T Aa Na ca la)(hmb:MxAt w T Ab Nb cb lb):
  Calls Tryz.prog 280 #[.pointer (some ⟨F,0,none⟩), .agg #[.int .i64 (R:Int), .int .i64 (D:Int), .slice Aa Na ca], .agg #[.int .i64 (D:Int), .int .i64 (C:Int), .slice Ab Nb cb]] w
   λ e w' =>jqR R C (tabL R C (mm D (mx D la) (mx C lb))) w e w' ∧Fld1 w' F T∧Fr (Ft T) w w':=by
 have hT:=h.ltT;have hF:=h.ltF;have hhM:=jfe F T (mulW w (.pointer (some ⟨F,0,none⟩)) (R:Int) (D:Int) Aa Na ca (D:Int) (C:Int) Ab Nb cb) (h.later (jgl w _ _ _ _ _ _ _ _ _ _ _));have hla:=hma.sl.lim;have hlb:=hmb.sl.lim;have H1:=qH (show jeD (R:Int) (D:Int) Na=true from decide_eq_true ⟨by omega,by omega,by omega,by omega,by rw [hNa];simp⟩);have H2:=qH (show jeD (D:Int) (C:Int) Nb=true from decide_eq_true ⟨by omega,by omega,by omega,by omega,by rw [hNb];simp⟩);have HNa:=qH hNa;clear hNa;have HNb:=qH hNb;clear hNb;have Hma:=qH hma;clear hma;have Hmb:=qH hmb;clear hmb;go_enter Tryz.func280,Tryz.ntmps280;go_wp2_with fail;refine hhM.mono ?_;clear hhM;rintro e w1 ⟨rfl,hf1,r1⟩;have I1:=qH (MulAt.start hT hf1 r1);clear hf1 r1;have a0:=jdn I1.out.b1;have a1:=jcK I1.out.b1;have a2:=jci I1.out.b1;go_wp2_with fail
 refine(jfb (R:Int) (D:Int) Aa Na ca hla _).mono ?_;rintro e w2 ⟨rfl,hb2⟩;rw [H1.out];have I2:=qH (I1.out.later hb2);clear hb2 a0 a1 a2;have b0:=jdn I2.out.b2;have b1:=jcK I2.out.b2;have b2:=jci I2.out.b2;go_wp2_with fail;refine(jfb (D:Int) (C:Int) Ab Nb cb hlb _).mono ?_;rintro e w4 ⟨rfl,hb3⟩;rw [H2.out];have I4:=qH (I2.out.later hb3);clear hb3 b0 b1 b2;have a0:=jdn I4.out.b1;have a1:=jcK I4.out.b1;have a2:=jci I4.out.b1;have b0:=jdn I4.out.b2;have b1:=jcK I4.out.b2;have b2:=jci I4.out.b2;have hs4:=I4.out.size;have HSa:=qH (Hma.out.fr I4.out.fr).sl;have HSb:=qH (Hmb.out.fr I4.out.fr).sl;clear h;go_upto_region 5 with (fail)
 go_cut [8,9] (λ v8 v9 wx=>∃g8 g9 gl gr:Nat,v8= .pointer (some ⟨g8,0,none⟩)∧v9= .pointer (some ⟨g9,0,none⟩)∧Below w4.heap.size w4 wx∧(w4.heap.size<=g8∧w4.heap.size<=g9)∧
   wx.heap[g8]? =some (.cells #[.slice (some ⟨gl,0,none⟩) R R] 101 (0,0))∧wx.heap[g9]? =some (.cells #[.slice (some ⟨gr,0,none⟩) C C] 101 (0,0))∧
   RowsAt wx gl R D (λ _=>False) (mx D la)∧RowsAt wx gr C D (λ _=>False) (λ j i=>mx C lb i j))
 case first=>
  refine wp_region_held_drew (S:=λ w' =>Below w4.heap.size w4 w') (by kernel_rfl) (Below.drew (Below.refl _ _)) (λ hHeld=> ?_);clear hHeld;have hHeld:Below w4.heap.size w4 w4.drew:=Below.drew (Below.refl _ _);have hz_0:w4.heap.size<=w4.drew.heap.size∧w4.drew.heap.size<=w4.heap.size:=⟨Nat.le_refl _,Nat.le_refl _⟩;obtain⟨v_W0,hw⟩:∃v_W0,v_W0=w4.drew:=⟨_,rfl⟩;rw [<-hw] at hHeld hz_0 ⊢;clear hw;refine tA 0 (some 30) rfl hHeld ?_ (λ wq hSw=>by
   have q0:=(hSw.cell (World.block_lt_of_cell? w4 _ a0)).trans a0;have q1:=(hSw.cell (World.block_lt_of_cell? w4 _ a1)).trans a1;have q2:=(hSw.cell (World.block_lt_of_cell? w4 _ a2)).trans a2;go_simp<;>with_reducible rfl)
  refine tA 2 (some 32) rfl hHeld ?_ (λ wq hSw=>by
   have q0:=(hSw.cell (World.block_lt_of_cell? w4 _ b0)).trans b0;have q1:=(hSw.cell (World.block_lt_of_cell? w4 _ b1)).trans b1;have q2:=(hSw.cell (World.block_lt_of_cell? w4 _ b2)).trans b2;go_simp<;>with_reducible rfl)
  refine wpAnyH_ready (rs:= [1,4,5]) (by kernel_rfl) (by simp) ?_;refine AllReadyH.cons (o:=⟨some 31,_,_,_,_,_⟩) rfl (λ K hK=> ?_) (AllReadyH.cons (o:=⟨some 8,_,_,_,_,_⟩) rfl (λ K hK=> ?_) (AllReadyH.cons (o:=⟨some 9,_,_,_,_,_⟩) rfl (λ K hK=> ?_) (AllReadyH.nil)))
  focus
   go_simp;have hh:=ja9 R D Aa Na ca la hR1 hR2 hD1 hD2 HNa.out v_W0 (HSa.out.below hHeld (Nat.le_refl _));refine hh.mono ?_;clear hh;rintro e v_W1 ⟨gl,rfl,hgl,hbN,hrow⟩;have rl_L1:=qH ((hrow (λ _=>False) (λ b o hn hA hk=>by have hk:False:=hk;have:=HSa.out.lt (by decide) hn hA;omega)).at_);clear hrow;have hgl2:=rl_L1.out.lt;go_wp2_with fail;have hHeld:=hHeld.trans (hbN.mono hHeld.size);have hfN:Fr (λ _=>False) v_W0 v_W1:=Fr.of_below hbN;have hz_3:=hbN.size;clear hbN;refine hK.out _ _ hHeld λ _=> ?_
   clear hK K hfN
   try simp only [Act.put,sA,sB,sC]
  rotate_left
  focus
   go_simp;obtain⟨g_t8,hg⟩:∃g,g=v_W0.heap.size:=⟨_,rfl⟩;have hbN:Below v_W0.heap.size v_W0 (v_W0.alloc (.cells #[.slice none 0 0] 101)):=(Below.refl _ _).alloc (Nat.le_refl _) _;have hx:=heap_alloc_new v_W0 (.cells #[.slice none 0 0] 101);have hz_5:v_W0.heap.size+1<=(v_W0.alloc (.cells #[.slice none 0 0] 101)).heap.size∧(v_W0.alloc (.cells #[.slice none 0 0] 101)).heap.size<=v_W0.heap.size+1:=by simp
   obtain⟨v_W1,hw⟩:∃v_W1,v_W1=v_W0.alloc (.cells #[.slice none 0 0] 101):=⟨_,rfl⟩;rw [<-hw] at hbN hx hz_5 ⊢;clear hw;rw [<-hg] at hx ⊢;have hHeld:=hHeld.trans (hbN.mono hHeld.size);have hfN:Fr (λ _=>False) v_W0 v_W1:=Fr.of_below hbN;have blt8_L1:=qH hx;clear hx;have hz_7:g_t8<=v_W0.heap.size∧v_W0.heap.size<=g_t8:=by omega
   clear hg hbN;refine hK.out _ _ hHeld λ _=> ?_
   clear hK K hfN
   try simp only [Act.put,sA,sB,sC]
  rotate_left
  focus
   go_simp;obtain⟨g_t9,hg⟩:∃g,g=v_W0.heap.size:=⟨_,rfl⟩;have hbN:Below v_W0.heap.size v_W0 (v_W0.alloc (.cells #[.slice none 0 0] 101)):=(Below.refl _ _).alloc (Nat.le_refl _) _;have hx:=heap_alloc_new v_W0 (.cells #[.slice none 0 0] 101);have hz_9:v_W0.heap.size+1<=(v_W0.alloc (.cells #[.slice none 0 0] 101)).heap.size∧(v_W0.alloc (.cells #[.slice none 0 0] 101)).heap.size<=v_W0.heap.size+1:=by simp
   obtain⟨v_W1,hw⟩:∃v_W1,v_W1=v_W0.alloc (.cells #[.slice none 0 0] 101):=⟨_,rfl⟩;rw [<-hw] at hbN hx hz_9 ⊢;clear hw;rw [<-hg] at hx ⊢;have hHeld:=hHeld.trans (hbN.mono hHeld.size);have hfN:Fr (λ _=>False) v_W0 v_W1:=Fr.of_below hbN;have blt9_L1:=qH hx;clear hx;have hz_11:g_t9<=v_W0.heap.size∧v_W0.heap.size<=g_t9:=by omega
   clear hg hbN;refine hK.out _ _ hHeld λ _=> ?_
   clear hK K hfN
   try simp only [Act.put,sA,sB,sC]
  rotate_left
  all_goals first
   |
    refine wpAnyH_ready (rs:= [3,4,5]) (by kernel_rfl) (by simp) ?_;refine AllReadyH.cons (o:=⟨some 33,_,_,_,_,_⟩) rfl (λ K hK=> ?_) (AllReadyH.cons (o:=⟨some 8,_,_,_,_,_⟩) rfl (λ K hK=> ?_) (AllReadyH.cons (o:=⟨some 9,_,_,_,_,_⟩) rfl (λ K hK=> ?_) (AllReadyH.nil)))
    focus
     go_simp;have hh:=jbG D C Ab Nb cb lb hD1 hD2 hC1 hC2 HNb.out v_W1 (HSb.out.below hHeld (Nat.le_refl _));refine hh.mono ?_;clear hh;rintro e v_W2 ⟨gr,rfl,hgr,hbN,hrow⟩;have rr_L2:=qH (hrow (λ _=>False) (λ b hlt _ hk=>by have hk:False:=hk;omega));clear hrow;have hgr2:=rr_L2.out.lt;go_wp2_with fail;have hHeld:=hHeld.trans (hbN.mono hHeld.size);have hfN:Fr (λ _=>False) v_W1 v_W2:=Fr.of_below hbN;have hz_13:=hbN.size;have rl_L2:=qH (rl_L1.out.fr hfN (λ h=>h) (λ _ h=>h.elim));clear rl_L1;clear hbN;refine hK.out _ _ hHeld λ _=> ?_
     clear hK K hfN
     try simp only [Act.put,sA,sB,sC]
    rotate_left
    focus
     go_simp;obtain⟨g_t8,hg⟩:∃g,g=v_W1.heap.size:=⟨_,rfl⟩;have hbN:Below v_W1.heap.size v_W1 (v_W1.alloc (.cells #[.slice none 0 0] 101)):=(Below.refl _ _).alloc (Nat.le_refl _) _;have hx:=heap_alloc_new v_W1 (.cells #[.slice none 0 0] 101);have hz_16:v_W1.heap.size+1<=(v_W1.alloc (.cells #[.slice none 0 0] 101)).heap.size∧(v_W1.alloc (.cells #[.slice none 0 0] 101)).heap.size<=v_W1.heap.size+1:=by simp
     obtain⟨v_W2,hw⟩:∃v_W2,v_W2=v_W1.alloc (.cells #[.slice none 0 0] 101):=⟨_,rfl⟩;rw [<-hw] at hbN hx hz_16 ⊢;clear hw;rw [<-hg] at hx ⊢;have hHeld:=hHeld.trans (hbN.mono hHeld.size);have hfN:Fr (λ _=>False) v_W1 v_W2:=Fr.of_below hbN;have rl_17:=qH (rl_L1.out.wid (λ k=>k=g_t8) (λ b hlt hk=>by have hk:b=g_t8:=hk;show False;omega));clear rl_L1;have rl_L2:=qH (rl_17.out.fr hfN (λ h=>h) (λ _ h=>h.elim));clear rl_17;have blt8_L2:=qH hx;clear hx;have hz_20:g_t8<=v_W1.heap.size∧v_W1.heap.size<=g_t8:=by omega
     clear hg hbN;refine hK.out _ _ hHeld λ _=> ?_
     clear hK K hfN
     try simp only [Act.put,sA,sB,sC]
    rotate_left
    focus
     go_simp;obtain⟨g_t9,hg⟩:∃g,g=v_W1.heap.size:=⟨_,rfl⟩;have hbN:Below v_W1.heap.size v_W1 (v_W1.alloc (.cells #[.slice none 0 0] 101)):=(Below.refl _ _).alloc (Nat.le_refl _) _;have hx:=heap_alloc_new v_W1 (.cells #[.slice none 0 0] 101);have hz_22:v_W1.heap.size+1<=(v_W1.alloc (.cells #[.slice none 0 0] 101)).heap.size∧(v_W1.alloc (.cells #[.slice none 0 0] 101)).heap.size<=v_W1.heap.size+1:=by simp
     obtain⟨v_W2,hw⟩:∃v_W2,v_W2=v_W1.alloc (.cells #[.slice none 0 0] 101):=⟨_,rfl⟩;rw [<-hw] at hbN hx hz_22 ⊢;clear hw;rw [<-hg] at hx ⊢;have hHeld:=hHeld.trans (hbN.mono hHeld.size);have hfN:Fr (λ _=>False) v_W1 v_W2:=Fr.of_below hbN;have rl_23:=qH (rl_L1.out.wid (λ k=>k=g_t9) (λ b hlt hk=>by have hk:b=g_t9:=hk;show False;omega));clear rl_L1;have rl_L2:=qH (rl_23.out.fr hfN (λ h=>h) (λ _ h=>h.elim));clear rl_23;have blt9_L2:=qH hx;clear hx;have hz_26:g_t9<=v_W1.heap.size∧v_W1.heap.size<=g_t9:=by omega
     clear hg hbN;refine hK.out _ _ hHeld λ _=> ?_
     clear hK K hfN
     try simp only [Act.put,sA,sB,sC]
    rotate_left
   |
    refine wpAnyH_ready (rs:= [1,5]) (by kernel_rfl) (by simp) ?_;refine AllReadyH.cons (o:=⟨some 31,_,_,_,_,_⟩) rfl (λ K hK=> ?_) (AllReadyH.cons (o:=⟨some 9,_,_,_,_,_⟩) rfl (λ K hK=> ?_) (AllReadyH.nil))
    focus
     go_simp;have hh:=ja9 R D Aa Na ca la hR1 hR2 hD1 hD2 HNa.out v_W1 (HSa.out.below hHeld (Nat.le_refl _));refine hh.mono ?_;clear hh;rintro e v_W2 ⟨gl,rfl,hgl,hbN,hrow⟩;have rl_L2:=qH ((hrow (λ k=>k=g_t8) (λ b o hn hA hk=>by have hk:b=g_t8:=hk;have:=HSa.out.lt (by decide) hn hA;omega)).at_);clear hrow;have hgl2:=rl_L2.out.lt;go_wp2_with fail;have hHeld:=hHeld.trans (hbN.mono hHeld.size);have hfN:Fr (λ _=>False) v_W1 v_W2:=Fr.of_below hbN;have hz_28:=hbN.size;have blt8_L2:=qH (hfN.row_some blt8_L1.out id);clear blt8_L1;clear hbN;refine hK.out _ _ hHeld λ _=> ?_
     clear hK K hfN
     try simp only [Act.put,sA,sB,sC]
    rotate_left
    focus
     go_simp;obtain⟨g_t9,hg⟩:∃g,g=v_W1.heap.size:=⟨_,rfl⟩;have hbN:Below v_W1.heap.size v_W1 (v_W1.alloc (.cells #[.slice none 0 0] 101)):=(Below.refl _ _).alloc (Nat.le_refl _) _;have hx:=heap_alloc_new v_W1 (.cells #[.slice none 0 0] 101);have hz_31:v_W1.heap.size+1<=(v_W1.alloc (.cells #[.slice none 0 0] 101)).heap.size∧(v_W1.alloc (.cells #[.slice none 0 0] 101)).heap.size<=v_W1.heap.size+1:=by simp
     obtain⟨v_W2,hw⟩:∃v_W2,v_W2=v_W1.alloc (.cells #[.slice none 0 0] 101):=⟨_,rfl⟩;rw [<-hw] at hbN hx hz_31 ⊢;clear hw;rw [<-hg] at hx ⊢;have hHeld:=hHeld.trans (hbN.mono hHeld.size);have hfN:Fr (λ _=>False) v_W1 v_W2:=Fr.of_below hbN;have blt8_L2:=qH (hfN.row_some blt8_L1.out id);clear blt8_L1;have blt9_L2:=qH hx;clear hx;have hz_34:g_t9<=v_W1.heap.size∧v_W1.heap.size<=g_t9:=by omega
     clear hg hbN;refine hK.out _ _ hHeld λ _=> ?_
     clear hK K hfN
     try simp only [Act.put,sA,sB,sC]
    rotate_left
   |
    refine wpAnyH_ready (rs:= [1,4]) (by kernel_rfl) (by simp) ?_;refine AllReadyH.cons (o:=⟨some 31,_,_,_,_,_⟩) rfl (λ K hK=> ?_) (AllReadyH.cons (o:=⟨some 8,_,_,_,_,_⟩) rfl (λ K hK=> ?_) (AllReadyH.nil))
    focus
     go_simp;have hh:=ja9 R D Aa Na ca la hR1 hR2 hD1 hD2 HNa.out v_W1 (HSa.out.below hHeld (Nat.le_refl _));refine hh.mono ?_;clear hh;rintro e v_W2 ⟨gl,rfl,hgl,hbN,hrow⟩;have rl_L2:=qH ((hrow (λ k=>k=g_t9) (λ b o hn hA hk=>by have hk:b=g_t9:=hk;have:=HSa.out.lt (by decide) hn hA;omega)).at_);clear hrow;have hgl2:=rl_L2.out.lt;go_wp2_with fail;have hHeld:=hHeld.trans (hbN.mono hHeld.size);have hfN:Fr (λ _=>False) v_W1 v_W2:=Fr.of_below hbN;have hz_36:=hbN.size;have blt9_L2:=qH (hfN.row_some blt9_L1.out id);clear blt9_L1;clear hbN;refine hK.out _ _ hHeld λ _=> ?_
     clear hK K hfN
     try simp only [Act.put,sA,sB,sC]
    rotate_left
    focus
     go_simp;obtain⟨g_t8,hg⟩:∃g,g=v_W1.heap.size:=⟨_,rfl⟩;have hbN:Below v_W1.heap.size v_W1 (v_W1.alloc (.cells #[.slice none 0 0] 101)):=(Below.refl _ _).alloc (Nat.le_refl _) _;have hx:=heap_alloc_new v_W1 (.cells #[.slice none 0 0] 101);have hz_39:v_W1.heap.size+1<=(v_W1.alloc (.cells #[.slice none 0 0] 101)).heap.size∧(v_W1.alloc (.cells #[.slice none 0 0] 101)).heap.size<=v_W1.heap.size+1:=by simp
     obtain⟨v_W2,hw⟩:∃v_W2,v_W2=v_W1.alloc (.cells #[.slice none 0 0] 101):=⟨_,rfl⟩;rw [<-hw] at hbN hx hz_39 ⊢;clear hw;rw [<-hg] at hx ⊢;have hHeld:=hHeld.trans (hbN.mono hHeld.size);have hfN:Fr (λ _=>False) v_W1 v_W2:=Fr.of_below hbN;have blt9_L2:=qH (hfN.row_some blt9_L1.out id);clear blt9_L1;have blt8_L2:=qH hx;clear hx;have hz_42:g_t8<=v_W1.heap.size∧v_W1.heap.size<=g_t8:=by omega
     clear hg hbN;refine hK.out _ _ hHeld λ _=> ?_
     clear hK K hfN
     try simp only [Act.put,sA,sB,sC]
    rotate_left
  all_goals first
   |
    refine wpAnyH_ready (rs:= [4,5]) (by kernel_rfl) (by simp) ?_;refine AllReadyH.cons (o:=⟨some 8,_,_,_,_,_⟩) rfl (λ K hK=> ?_) (AllReadyH.cons (o:=⟨some 9,_,_,_,_,_⟩) rfl (λ K hK=> ?_) (AllReadyH.nil))
    focus
     go_simp;obtain⟨g_t8,hg⟩:∃g,g=v_W2.heap.size:=⟨_,rfl⟩;have hbN:Below v_W2.heap.size v_W2 (v_W2.alloc (.cells #[.slice none 0 0] 101)):=(Below.refl _ _).alloc (Nat.le_refl _) _;have hx:=heap_alloc_new v_W2 (.cells #[.slice none 0 0] 101);have hz_44:v_W2.heap.size+1<=(v_W2.alloc (.cells #[.slice none 0 0] 101)).heap.size∧(v_W2.alloc (.cells #[.slice none 0 0] 101)).heap.size<=v_W2.heap.size+1:=by simp
     obtain⟨v_W3,hw⟩:∃v_W3,v_W3=v_W2.alloc (.cells #[.slice none 0 0] 101):=⟨_,rfl⟩;rw [<-hw] at hbN hx hz_44 ⊢;clear hw;rw [<-hg] at hx ⊢;have hHeld:=hHeld.trans (hbN.mono hHeld.size);have hfN:Fr (λ _=>False) v_W2 v_W3:=Fr.of_below hbN;have rl_45:=qH (rl_L2.out.wid (λ k=>k=g_t8) (λ b hlt hk=>by have hk:b=g_t8:=hk;show False;omega));clear rl_L2;have rr_46:=qH (rr_L2.out.wid (λ k=>k=g_t8) (λ b hlt hk=>by have hk:b=g_t8:=hk;show False;omega));clear rr_L2;have rl_L3:=qH (rl_45.out.fr hfN (λ h=>h) (λ _ h=>h.elim));clear rl_45;have rr_L3:=qH (rr_46.out.fr hfN (λ h=>h) (λ _ h=>h.elim));clear rr_46;have blt8_L3:=qH hx;clear hx;have hz_50:g_t8<=v_W2.heap.size∧v_W2.heap.size<=g_t8:=by omega
     clear hg hbN;refine hK.out _ _ hHeld λ _=> ?_
     clear hK K hfN
     try simp only [Act.put,sA,sB,sC]
    rotate_left
    focus
     go_simp;obtain⟨g_t9,hg⟩:∃g,g=v_W2.heap.size:=⟨_,rfl⟩;have hbN:Below v_W2.heap.size v_W2 (v_W2.alloc (.cells #[.slice none 0 0] 101)):=(Below.refl _ _).alloc (Nat.le_refl _) _;have hx:=heap_alloc_new v_W2 (.cells #[.slice none 0 0] 101);have hz_52:v_W2.heap.size+1<=(v_W2.alloc (.cells #[.slice none 0 0] 101)).heap.size∧(v_W2.alloc (.cells #[.slice none 0 0] 101)).heap.size<=v_W2.heap.size+1:=by simp
     obtain⟨v_W3,hw⟩:∃v_W3,v_W3=v_W2.alloc (.cells #[.slice none 0 0] 101):=⟨_,rfl⟩;rw [<-hw] at hbN hx hz_52 ⊢;clear hw;rw [<-hg] at hx ⊢;have hHeld:=hHeld.trans (hbN.mono hHeld.size);have hfN:Fr (λ _=>False) v_W2 v_W3:=Fr.of_below hbN;have rl_53:=qH (rl_L2.out.wid (λ k=>k=g_t9) (λ b hlt hk=>by have hk:b=g_t9:=hk;show False;omega));clear rl_L2;have rr_54:=qH (rr_L2.out.wid (λ k=>k=g_t9) (λ b hlt hk=>by have hk:b=g_t9:=hk;show False;omega));clear rr_L2;have rl_L3:=qH (rl_53.out.fr hfN (λ h=>h) (λ _ h=>h.elim));clear rl_53;have rr_L3:=qH (rr_54.out.fr hfN (λ h=>h) (λ _ h=>h.elim));clear rr_54;have blt9_L3:=qH hx;clear hx;have hz_58:g_t9<=v_W2.heap.size∧v_W2.heap.size<=g_t9:=by omega
     clear hg hbN;refine hK.out _ _ hHeld λ _=> ?_
     clear hK K hfN
     try simp only [Act.put,sA,sB,sC]
    rotate_left
   |
    refine wpAnyH_ready (rs:= [3,5]) (by kernel_rfl) (by simp) ?_;refine AllReadyH.cons (o:=⟨some 33,_,_,_,_,_⟩) rfl (λ K hK=> ?_) (AllReadyH.cons (o:=⟨some 9,_,_,_,_,_⟩) rfl (λ K hK=> ?_) (AllReadyH.nil))
    focus
     go_simp;have hh:=jbG D C Ab Nb cb lb hD1 hD2 hC1 hC2 HNb.out v_W2 (HSb.out.below hHeld (Nat.le_refl _));refine hh.mono ?_;clear hh;rintro e v_W3 ⟨gr,rfl,hgr,hbN,hrow⟩;have rr_L3:=qH (hrow (λ k=>k=g_t8) (λ b hlt _ hk=>by have hk:b=g_t8:=hk;omega));clear hrow;have hgr2:=rr_L3.out.lt;go_wp2_with fail;have hHeld:=hHeld.trans (hbN.mono hHeld.size);have hfN:Fr (λ _=>False) v_W2 v_W3:=Fr.of_below hbN;have hz_60:=hbN.size;have rl_L3:=qH (rl_L2.out.fr hfN (λ h=>h) (λ _ h=>h.elim));clear rl_L2;have blt8_L3:=qH (hfN.row_some blt8_L2.out id);clear blt8_L2;clear hbN;refine hK.out _ _ hHeld λ _=> ?_
     clear hK K hfN
     try simp only [Act.put,sA,sB,sC]
    rotate_left
    focus
     go_simp;obtain⟨g_t9,hg⟩:∃g,g=v_W2.heap.size:=⟨_,rfl⟩;have hbN:Below v_W2.heap.size v_W2 (v_W2.alloc (.cells #[.slice none 0 0] 101)):=(Below.refl _ _).alloc (Nat.le_refl _) _;have hx:=heap_alloc_new v_W2 (.cells #[.slice none 0 0] 101);have hz_64:v_W2.heap.size+1<=(v_W2.alloc (.cells #[.slice none 0 0] 101)).heap.size∧(v_W2.alloc (.cells #[.slice none 0 0] 101)).heap.size<=v_W2.heap.size+1:=by simp
     obtain⟨v_W3,hw⟩:∃v_W3,v_W3=v_W2.alloc (.cells #[.slice none 0 0] 101):=⟨_,rfl⟩;rw [<-hw] at hbN hx hz_64 ⊢;clear hw;rw [<-hg] at hx ⊢;have hHeld:=hHeld.trans (hbN.mono hHeld.size);have hfN:Fr (λ _=>False) v_W2 v_W3:=Fr.of_below hbN;have rl_65:=qH (rl_L2.out.wid (λ k=>k=g_t8∨k=g_t9) (λ b hlt hk=>by have hk:b=g_t8∨b=g_t9:=hk;show b=g_t8;omega));clear rl_L2;have rl_L3:=qH (rl_65.out.fr hfN (λ h=>h) (λ _ h=>h.elim));clear rl_65;have blt8_L3:=qH (hfN.row_some blt8_L2.out id);clear blt8_L2;have blt9_L3:=qH hx;clear hx;have hz_69:g_t9<=v_W2.heap.size∧v_W2.heap.size<=g_t9:=by omega
     clear hg hbN;refine hK.out _ _ hHeld λ _=> ?_
     clear hK K hfN
     try simp only [Act.put,sA,sB,sC]
    rotate_left
   |
    refine wpAnyH_ready (rs:= [3,4]) (by kernel_rfl) (by simp) ?_;refine AllReadyH.cons (o:=⟨some 33,_,_,_,_,_⟩) rfl (λ K hK=> ?_) (AllReadyH.cons (o:=⟨some 8,_,_,_,_,_⟩) rfl (λ K hK=> ?_) (AllReadyH.nil))
    focus
     go_simp;have hh:=jbG D C Ab Nb cb lb hD1 hD2 hC1 hC2 HNb.out v_W2 (HSb.out.below hHeld (Nat.le_refl _));refine hh.mono ?_;clear hh;rintro e v_W3 ⟨gr,rfl,hgr,hbN,hrow⟩;have rr_L3:=qH (hrow (λ k=>k=g_t9) (λ b hlt _ hk=>by have hk:b=g_t9:=hk;omega));clear hrow;have hgr2:=rr_L3.out.lt;go_wp2_with fail;have hHeld:=hHeld.trans (hbN.mono hHeld.size);have hfN:Fr (λ _=>False) v_W2 v_W3:=Fr.of_below hbN;have hz_71:=hbN.size;have rl_L3:=qH (rl_L2.out.fr hfN (λ h=>h) (λ _ h=>h.elim));clear rl_L2;have blt9_L3:=qH (hfN.row_some blt9_L2.out id);clear blt9_L2;clear hbN;refine hK.out _ _ hHeld λ _=> ?_
     clear hK K hfN
     try simp only [Act.put,sA,sB,sC]
    rotate_left
    focus
     go_simp;obtain⟨g_t8,hg⟩:∃g,g=v_W2.heap.size:=⟨_,rfl⟩;have hbN:Below v_W2.heap.size v_W2 (v_W2.alloc (.cells #[.slice none 0 0] 101)):=(Below.refl _ _).alloc (Nat.le_refl _) _;have hx:=heap_alloc_new v_W2 (.cells #[.slice none 0 0] 101);have hz_75:v_W2.heap.size+1<=(v_W2.alloc (.cells #[.slice none 0 0] 101)).heap.size∧(v_W2.alloc (.cells #[.slice none 0 0] 101)).heap.size<=v_W2.heap.size+1:=by simp
     obtain⟨v_W3,hw⟩:∃v_W3,v_W3=v_W2.alloc (.cells #[.slice none 0 0] 101):=⟨_,rfl⟩;rw [<-hw] at hbN hx hz_75 ⊢;clear hw;rw [<-hg] at hx ⊢;have hHeld:=hHeld.trans (hbN.mono hHeld.size);have hfN:Fr (λ _=>False) v_W2 v_W3:=Fr.of_below hbN;have rl_76:=qH (rl_L2.out.wid (λ k=>k=g_t8∨k=g_t9) (λ b hlt hk=>by have hk:b=g_t8∨b=g_t9:=hk;show b=g_t9;omega));clear rl_L2;have rl_L3:=qH (rl_76.out.fr hfN (λ h=>h) (λ _ h=>h.elim));clear rl_76;have blt9_L3:=qH (hfN.row_some blt9_L2.out id);clear blt9_L2;have blt8_L3:=qH hx;clear hx;have hz_80:g_t8<=v_W2.heap.size∧v_W2.heap.size<=g_t8:=by omega
     clear hg hbN;refine hK.out _ _ hHeld λ _=> ?_
     clear hK K hfN
     try simp only [Act.put,sA,sB,sC]
    rotate_left
   |
    refine rW 1 (some 31) rfl λ K hK=> ?_
    go_simp;have hh:=ja9 R D Aa Na ca la hR1 hR2 hD1 hD2 HNa.out v_W2 (HSa.out.below hHeld (Nat.le_refl _));refine hh.mono ?_;clear hh;rintro e v_W3 ⟨gl,rfl,hgl,hbN,hrow⟩;have rl_L3:=qH ((hrow (λ k=>k=g_t8∨k=g_t9) (λ b o hn hA hk=>by have hk:b=g_t8∨b=g_t9:=hk;have:=HSa.out.lt (by decide) hn hA;omega)).at_);clear hrow;have hgl2:=rl_L3.out.lt;go_wp2_with fail;have hHeld:=hHeld.trans (hbN.mono hHeld.size);have hfN:Fr (λ _=>False) v_W2 v_W3:=Fr.of_below hbN;have hz_82:=hbN.size;have blt8_L3:=qH (hfN.row_some blt8_L2.out id);clear blt8_L2;have blt9_L3:=qH (hfN.row_some blt9_L2.out id);clear blt9_L2;clear hbN;refine hK.out _ _ hHeld λ _=> ?_
    clear hK K hfN
    try simp only [Act.put,sA,sB,sC]
  all_goals first
   |
    refine rW 5 (some 9) rfl λ K hK=> ?_
    go_simp;obtain⟨g_t9,hg⟩:∃g,g=v_W3.heap.size:=⟨_,rfl⟩;have hbN:Below v_W3.heap.size v_W3 (v_W3.alloc (.cells #[.slice none 0 0] 101)):=(Below.refl _ _).alloc (Nat.le_refl _) _;have hx:=heap_alloc_new v_W3 (.cells #[.slice none 0 0] 101);have hz_86:v_W3.heap.size+1<=(v_W3.alloc (.cells #[.slice none 0 0] 101)).heap.size∧(v_W3.alloc (.cells #[.slice none 0 0] 101)).heap.size<=v_W3.heap.size+1:=by simp
    obtain⟨v_W4,hw⟩:∃v_W4,v_W4=v_W3.alloc (.cells #[.slice none 0 0] 101):=⟨_,rfl⟩;rw [<-hw] at hbN hx hz_86 ⊢;clear hw;rw [<-hg] at hx ⊢;have hHeld:=hHeld.trans (hbN.mono hHeld.size);have hfN:Fr (λ _=>False) v_W3 v_W4:=Fr.of_below hbN;have rl_87:=qH (rl_L3.out.wid (λ k=>k=g_t8∨k=g_t9) (λ b hlt hk=>by have hk:b=g_t8∨b=g_t9:=hk;show b=g_t8;omega));clear rl_L3;have rr_88:=qH (rr_L3.out.wid (λ k=>k=g_t8∨k=g_t9) (λ b hlt hk=>by have hk:b=g_t8∨b=g_t9:=hk;show b=g_t8;omega));clear rr_L3;have rl_L4:=qH (rl_87.out.fr hfN (λ h=>h) (λ _ h=>h.elim));clear rl_87;have rr_L4:=qH (rr_88.out.fr hfN (λ h=>h) (λ _ h=>h.elim));clear rr_88;have blt8_L4:=qH (hfN.row_some blt8_L3.out id);clear blt8_L3;have blt9_L4:=qH hx;clear hx;have hz_93:g_t9<=v_W3.heap.size∧v_W3.heap.size<=g_t9:=by omega
    clear hg hbN;refine hK.out _ _ hHeld λ _=> ?_
    clear hK K hfN
    try simp only [Act.put,sA,sB,sC]
   |
    refine rW 4 (some 8) rfl λ K hK=> ?_
    go_simp;obtain⟨g_t8,hg⟩:∃g,g=v_W3.heap.size:=⟨_,rfl⟩;have hbN:Below v_W3.heap.size v_W3 (v_W3.alloc (.cells #[.slice none 0 0] 101)):=(Below.refl _ _).alloc (Nat.le_refl _) _;have hx:=heap_alloc_new v_W3 (.cells #[.slice none 0 0] 101);have hz_95:v_W3.heap.size+1<=(v_W3.alloc (.cells #[.slice none 0 0] 101)).heap.size∧(v_W3.alloc (.cells #[.slice none 0 0] 101)).heap.size<=v_W3.heap.size+1:=by simp
    obtain⟨v_W4,hw⟩:∃v_W4,v_W4=v_W3.alloc (.cells #[.slice none 0 0] 101):=⟨_,rfl⟩;rw [<-hw] at hbN hx hz_95 ⊢;clear hw;rw [<-hg] at hx ⊢;have hHeld:=hHeld.trans (hbN.mono hHeld.size);have hfN:Fr (λ _=>False) v_W3 v_W4:=Fr.of_below hbN;have rl_96:=qH (rl_L3.out.wid (λ k=>k=g_t8∨k=g_t9) (λ b hlt hk=>by have hk:b=g_t8∨b=g_t9:=hk;show b=g_t9;omega));clear rl_L3;have rr_97:=qH (rr_L3.out.wid (λ k=>k=g_t8∨k=g_t9) (λ b hlt hk=>by have hk:b=g_t8∨b=g_t9:=hk;show b=g_t9;omega));clear rr_L3;have rl_L4:=qH (rl_96.out.fr hfN (λ h=>h) (λ _ h=>h.elim));clear rl_96;have rr_L4:=qH (rr_97.out.fr hfN (λ h=>h) (λ _ h=>h.elim));clear rr_97;have blt9_L4:=qH (hfN.row_some blt9_L3.out id);clear blt9_L3;have blt8_L4:=qH hx;clear hx;have hz_102:g_t8<=v_W3.heap.size∧v_W3.heap.size<=g_t8:=by omega
    clear hg hbN;refine hK.out _ _ hHeld λ _=> ?_
    clear hK K hfN
    try simp only [Act.put,sA,sB,sC]
   |
    refine rW 3 (some 33) rfl λ K hK=> ?_
    go_simp;have hh:=jbG D C Ab Nb cb lb hD1 hD2 hC1 hC2 HNb.out v_W3 (HSb.out.below hHeld (Nat.le_refl _));refine hh.mono ?_;clear hh;rintro e v_W4 ⟨gr,rfl,hgr,hbN,hrow⟩;have rr_L4:=qH (hrow (λ k=>k=g_t8∨k=g_t9) (λ b hlt _ hk=>by have hk:b=g_t8∨b=g_t9:=hk;omega));clear hrow;have hgr2:=rr_L4.out.lt;go_wp2_with fail;have hHeld:=hHeld.trans (hbN.mono hHeld.size);have hfN:Fr (λ _=>False) v_W3 v_W4:=Fr.of_below hbN;have hz_104:=hbN.size;have rl_L4:=qH (rl_L3.out.fr hfN (λ h=>h) (λ _ h=>h.elim));clear rl_L3;have blt8_L4:=qH (hfN.row_some blt8_L3.out id);clear blt8_L3;have blt9_L4:=qH (hfN.row_some blt9_L3.out id);clear blt9_L3;clear hbN;refine hK.out _ _ hHeld λ _=> ?_
    clear hK K hfN
    try simp only [Act.put,sA,sB,sC]
  all_goals
   refine rW 6 none rfl λ K hK=> ?_
   have q0:v_W4.cell? ⟨g_t8,0,none⟩=some (.slice none 0 0):=by rw [cell_of_row _ _ _ _ _ _ blt8_L4.out];rfl
   have q1:v_W4.frozen? ⟨g_t8,0,none⟩=false:=frozen_of_row _ _ _ _ _ blt8_L4.out;go_simp;have hx:=heap_setCell_same v_W4 (g_t8) 0 _ _ (.slice (some ⟨gl,0,none⟩) R R) blt8_L4.out;have hfN:Fr (λ k=>k=g_t8) v_W4 (v_W4.setCell ⟨g_t8,0,none⟩ (.slice (some ⟨gl,0,none⟩) R R)):=Fr.setCell (S:=λ k=>k=g_t8) (Fr.refl _ _) (.inr rfl) _;have hHeld:=hHeld.setCell (p:=⟨g_t8,0,none⟩) (by show _<=g_t8;omega) (.slice (some ⟨gl,0,none⟩) R R);have hz_109:v_W4.heap.size<=(v_W4.setCell ⟨g_t8,0,none⟩ (.slice (some ⟨gl,0,none⟩) R R)).heap.size∧(v_W4.setCell ⟨g_t8,0,none⟩ (.slice (some ⟨gl,0,none⟩) R R)).heap.size<=v_W4.heap.size:=by simp
   obtain⟨v_W5,hw⟩:∃v_W5,v_W5=v_W4.setCell ⟨g_t8,0,none⟩ (.slice (some ⟨gl,0,none⟩) R R):=⟨_,rfl⟩;rw [<-hw] at hHeld hx hfN hz_109 ⊢;clear hw q0 q1;have rl_L5:=qH (rl_L4.out.fr hfN (λ h=>by have h:gl=g_t8:=h;omega) (λ b hb=>by have hb:b=g_t8:=hb;show b=g_t8∨b=g_t9;omega));clear rl_L4;have rr_L5:=qH (rr_L4.out.fr hfN (λ h=>by have h:gr=g_t8:=h;omega) (λ b hb=>by have hb:b=g_t8:=hb;show b=g_t8∨b=g_t9;omega));clear rr_L4;have blt9_L5:=qH (hfN.row_some blt9_L4.out (λ h=>by have h:g_t9=g_t8:=h;omega));clear blt9_L4;clear blt8_L4;have blt8_L5:=qH hx;clear hx;refine hK.out _ _ hHeld λ _=> ?_
   clear hK K hfN
   try simp only [Act.put,sA,sB,sC]
  all_goals
   refine rW 7 none rfl λ K hK=> ?_
   have q0:v_W5.cell? ⟨g_t9,0,none⟩=some (.slice none 0 0):=by rw [cell_of_row _ _ _ _ _ _ blt9_L5.out];rfl
   have q1:v_W5.frozen? ⟨g_t9,0,none⟩=false:=frozen_of_row _ _ _ _ _ blt9_L5.out;go_simp;have hx:=heap_setCell_same v_W5 (g_t9) 0 _ _ (.slice (some ⟨gr,0,none⟩) C C) blt9_L5.out;have hfN:Fr (λ k=>k=g_t9) v_W5 (v_W5.setCell ⟨g_t9,0,none⟩ (.slice (some ⟨gr,0,none⟩) C C)):=Fr.setCell (S:=λ k=>k=g_t9) (Fr.refl _ _) (.inr rfl) _;have hHeld:=hHeld.setCell (p:=⟨g_t9,0,none⟩) (by show _<=g_t9;omega) (.slice (some ⟨gr,0,none⟩) C C);have hz_117:v_W5.heap.size<=(v_W5.setCell ⟨g_t9,0,none⟩ (.slice (some ⟨gr,0,none⟩) C C)).heap.size∧(v_W5.setCell ⟨g_t9,0,none⟩ (.slice (some ⟨gr,0,none⟩) C C)).heap.size<=v_W5.heap.size:=by simp
   obtain⟨v_W6,hw⟩:∃v_W6,v_W6=v_W5.setCell ⟨g_t9,0,none⟩ (.slice (some ⟨gr,0,none⟩) C C):=⟨_,rfl⟩;rw [<-hw] at hHeld hx hfN hz_117 ⊢;clear hw q0 q1;have rl_L6:=qH (rl_L5.out.fr hfN (λ h=>by have h:gl=g_t9:=h;omega) (λ b hb=>by have hb:b=g_t9:=hb;show b=g_t8∨b=g_t9;omega));clear rl_L5;have rr_L6:=qH (rr_L5.out.fr hfN (λ h=>by have h:gr=g_t9:=h;omega) (λ b hb=>by have hb:b=g_t9:=hb;show b=g_t8∨b=g_t9;omega));clear rr_L5;have blt8_L6:=qH (hfN.row_some blt8_L5.out (λ h=>by have h:g_t8=g_t9:=h;omega));clear blt8_L5;clear blt9_L5;have blt9_L6:=qH hx;clear hx;refine hK.out _ _ hHeld λ _=> ?_
   clear hK K hfN
   try simp only [Act.put,sA,sB,sC]
  all_goals
   refine tD ?_;go_wp2_with fail;go_meet
   case rel=>exact⟨g_t8,g_t9,gl,gr,rfl,rfl,hHeld,⟨by omega,by omega⟩,blt8_L6.out,blt9_L6.out,rl_L6.out.wid (λ _=>False) (λ _ _ h=>h.elim),rr_L6.out.wid (λ _=>False) (λ _ _ h=>h.elim)⟩
 case rest=>
  obtain⟨g8,g9,gl,gr,rfl,rfl,hb5,⟨hg8,hg9⟩,x8,x9,rl,rr⟩:=hcut;have I5:=qH (I4.out.later hb5);clear a0 a1 a2 b0 b1 b2;have a0:=jdn I5.out.b1;have b1:=jcK I5.out.b2;have hht:jmv 291 #[.pointer (some ⟨w.heap.size,0,none⟩), .pointer (some ⟨g8,0,none⟩), .pointer (some ⟨g9,0,none⟩)] R C (mm D (mx D la) (mx C lb)) wc:=λ W i j hi hj hb=>by
   have hh:=joW F T w.heap.size g8 g9 gl gr R D C _ _ (mx D la) (λ j i=>mx C lb i j) hR2 hC2 i j hi hj W (I5.out.fld.later hb) (rl.later hb) (rr.later hb)
    ((hb.cell (World.block_lt_of_cell? wc _ (cell_of_one I5.out.b0))).trans (cell_of_one I5.out.b0)) ((hb.cell (World.block_lt_of_cell? wc _ (cell_of_one x8))).trans (cell_of_one x8)) ((hb.cell (World.block_lt_of_cell? wc _ (cell_of_one x9))).trans (cell_of_one x9))
   exact hh.mono λ e w' ⟨he,k,hk⟩=>⟨he,hk▸below_drewN (Below.refl _ _) k⟩
  have hhB:=jcU R C hR2 hC2 _ jiY _ _ _ hht;clear hht;have Hrl:=qH rl;clear rl;have Hrr:=qH rr;clear rr;go_wp2_with fail;refine hhB.mono ?_;clear hhB;rintro e w6 ⟨v,rfl,⟨A6,c6,rfl,hg6⟩,hb6⟩;have I6:=qH (I5.out.later hb6);have HG6:=qH hg6;clear hg6;have x0:=jfh I6.out.b3;have x1:=jfi I6.out.b3;have x2:=jfj I6.out.b3;have y0:=jaq I6.out.b3 0;have y1:=jaq I6.out.b3 1;have y2:=jaq I6.out.b3 2;have hs5:=I5.out.size;go_wp2_with fail;refine bodyPost_ret (jal Tryz.results280 _ _ (w.heap.size+3) 338 _ (0,0) _ rfl (jcz I6.out.b3) Tryz.underlying338 rfl jbm) rfl ?_;have hq:=jcV w6 (w.heap.size+3) (R:Int) (C:Int) A6 (R*C) c6;exact⟨⟨A6,c6,rfl,(HG6.out.frG hq (by omega)).lower (by omega)⟩,I6.out.fld.fr hq (by show ¬F=_;omega) (by show ¬T=_;omega),I6.out.fr.andNew hq (λ i hi hk=>by have hk:i=_:=hk;omega)⟩
end
section
theorem jfk {P:Program}{ops:Array Oper}{o:Oper}{a:Act}{w:World}{K:Act->World->Prop}{Q:Exit->Act->World->Prop}{E:Prop}{B n c size:Nat}{e:TypeId}{A:Option Addr}{xs:List Value}(hgd:o.guard=none)(s x:Operand)(t tx:TypeId)
  (ho:o.op= .call {callee:= .builtin .append,args:= #[s,x],argTypes:= #[t,tx]})
  (i:TypeInfo)(z:Value)(bytes:Nat)(ht:P.underlying t=some (.slice e))(hi:P.info? e=some i)(hz:i.zero=some z)
  (hsize:i.size=size)(hby:i.bytes=bytes)(hzs:z.cells.size=size)(hsz:0<size)(hv:a.eval s= .slice A n c)(h:Own w B e size A n c xs)(hB:B<=w.heap.size)
  (m:Nat)(ys:List Value)(xv:Value)(hx:a.eval x=xv)(hs:Src P size tx xv m ys w)(h63:n+m<=maxLen)(hbytes:(n+m)*bytes<=140737488355328)
  (hk:∀A' c' w',Own w' B e size A' (n+m) c' (xs++ys)->Below B w w' ->(0<m->w'.ownsRow B e size (.slice A' (n+m) c') (n+m) (xs++ys))->K (a.put o.dst (.slice A' (n+m) c')) w'):
  if Region.wanted o (yielded ops a.tmps)=true then Oper.wp P o a w K Q else E:=by
 have hw:Region.wanted o (yielded ops a.tmps)=true:=by simp [Region.wanted,hgd]
 rw [if_pos hw];exact jb8 s x t tx ho i z bytes ht hi hz hsize hby hzs hsz hv h hB m ys xv hx hs h63 hbytes hk
theorem jgO {ops:Array Oper}{o:Oper}{a:Act}{w:World}{K:Act->World->Prop}{Q:Exit->Act->World->Prop}{E:Prop}{B n c:Nat}{A:Option Addr}{xs:List Value}(hgd:o.guard=none)(s x:Operand)
  (ho:o.op= .call {callee:= .builtin .append,args:= #[s,x],argTypes:= #[105,105]})
  (hv:a.eval s= .slice A n c)(h:Own w B 5 1 A n c xs)(hB:B<=w.heap.size)
  (A2:Option Addr)(m c2:Nat)(ys:List UInt8)(hx:a.eval x= .slice A2 m c2)(hs:Sl w 1 A2 m c2 (cells ys))(h47:n+m<=140737488355328)
  (hk:∀A' c' w',Own w' B 5 1 A' (n+m) c' (xs++cells ys)->Below B w w' ->(0<m->w'.ownsRow B 5 1 (.slice A' (n+m) c') (n+m) (xs++cells ys))->K (a.put o.dst (.slice A' (n+m) c')) w'):
  if Region.wanted o (yielded ops a.tmps)=true then Oper.wp Tryz.prog o a w K Q else E:=by
 obtain⟨i0,hi,hz0,hz1,hz2⟩:=info_parts jbf;exact jfk hgd s x _ _ ho i0 (.int .u8 0) 1 Tryz.underlying105 hi hz0 hz1 hz2 rfl (by decide) hv h hB m (cells ys) _ hx (hs.src Tryz.underlying105 (by decide) (cells_one ys)) (by unfold maxLen;omega) (by omega) hk
theorem jbN {w:World}{B n c:Nat}{e:TypeId}{A:Option Addr}{xs:List Value}(h:w.ownsRow B e 1 (.slice A n c) n xs){b o:Nat}(hn:0<n)(hA:A=some ⟨b,o,none⟩):B<=b:=by
 obtain⟨_,hv⟩:=h
 rcases hv with ⟨_,h0⟩|⟨g,cap,cur,hv,hb,_⟩
 ·omega
 ·injection hv with hv
  rw [hA] at hv;injection hv with hv
  injection hv with hv _
  omega
structure Half (w:World)(g n k:Nat)(S:Nat->Prop)(m:Mx):Prop where
 row:∃cur,w.heap[g]? =some (.cells cur 105 (0,0))∧cur.size=n∧
  (∀i,i<k->i<n->∃A c,cur[i]? =some (.slice A (n+n) c)∧Sl w 1 A (n+n) c (cells (rowL (n+n) (aug n m i)))∧∀b o,0<n+n->A=some ⟨b,o,none⟩->¬S b)∧
  (∀i,k<=i->i<n->∃A,cur[i]? =some (.slice A n n)∧Sl w 1 A n n (cells (rowL n (m i)))∧∀b o,0<n->A=some ⟨b,o,none⟩->¬S b)
section
variable {w w':World}{g n k:Nat}{S S':Nat->Prop}{m:Mx}
theorem Half.start (h:RowsF w g n n S m):Half w g n 0 S m:=by
 obtain⟨cur,hg,hn,hr⟩:=h.row;exact⟨cur,hg,hn,λ i hi=>absurd hi (by omega),λ i _ hi=>hr i hi⟩
theorem Half.done (h:Half w g n n S m):RowsAt w g n (n+n) S (aug n m):=by
 obtain⟨cur,hg,hn,h1,_⟩:=h.row;exact⟨cur,hg,hn,λ i hi=>h1 i hi hi⟩
theorem Half.free (h:Half w g n k S m)(i:Nat):w.frozen? ⟨g,i,none⟩=false:=by
 obtain⟨cur,hg,_⟩:=h.row;exact frozen_of_row _ _ _ _ _ hg
theorem Half.lt (h:Half w g n k S m):g<w.heap.size:=by
 obtain⟨cur,hg,_⟩:=h.row;exact block_lt hg
theorem Half.cell (h:Half w g n k S m){i:Nat}(hk:k<=i)(hi:i<n):∃A,w.cell? ⟨g,i,none⟩=some (.slice A n n)∧Sl w 1 A n n (cells (rowL n (m i))):=by
 obtain⟨cur,hg,hn,_,hr⟩:=h.row;obtain⟨A,h1,h2,h3⟩:=hr i hk hi;exact⟨A,by rw [cell_of_row _ _ _ _ _ _ hg];exact h1,h2⟩
theorem Half.fr (h:Half w g n k S m)(hf:Fr S' w w')(hg':¬S' g)(hs:∀b,S' b->S b):Half w' g n k S m:=by
 obtain⟨cur,hg,hn,h1,h2⟩:=h.row;refine⟨cur,hf.row_some hg hg',hn,λ i hk hi=> ?_,λ i hk hi=> ?_⟩
 ·obtain⟨A,c,a1,a2,a3⟩:=h1 i hk hi
  exact⟨A,c,a1,a2.fr hf λ b o hW hA hb=>a3 b o hW hA (hs b hb),a3⟩
 ·obtain⟨A,a1,a2,a3⟩:=h2 i hk hi
  exact⟨A,a1,a2.fr hf λ b o hW hA hb=>a3 b o hW hA (hs b hb),a3⟩
theorem Half.later (h:Half w g n k S m)(hb:Below w.heap.size w w'):Half w' g n k S m:=h.fr (S':=λ _=>False) (Fr.of_below hb) id (λ _ h=>h.elim)
theorem Half.set (h:Half w g n k S m)(hS:S g)(hk:k<n){A:Option Addr}{c:Nat}(hs:Sl w 1 A (n+n) c (cells (rowL (n+n) (aug n m k))))(hA:∀b o,0<n+n->A=some ⟨b,o,none⟩->¬S b):
  Half (w.setCell ⟨g,k,none⟩ (.slice A (n+n) c)) g n (k+1) S m:=by
 obtain⟨cur,hg,hn,h1,h2⟩:=h.row;have hf:Fr (λ k=>k=g) w (w.setCell ⟨g,k,none⟩ (.slice A (n+n) c)):=Fr.setCell (S:=λ k=>k=g) (Fr.refl _ _) (.inr rfl) _;refine⟨_,heap_setCell_same w g k cur _ _ hg,by rw [Array.size_setIfInBounds];exact hn,λ i hi hin=> ?_,λ i hi hin=> ?_⟩
 ·by_cases he:i=k
  ·subst he
   exact⟨A,c,by rw [Array.getElem?_setIfInBounds];simp [hn,hk],hs.fr hf λ b o hW hb hk=>hA b o hW hb (hk▸hS),hA⟩
  ·obtain⟨A',c',a1,a2,a3⟩:=h1 i (by omega) hin
   exact⟨A',c',by rw [Array.getElem?_setIfInBounds,if_neg (λ e=>he e.symm)];exact a1,a2.fr hf λ b o hW hb hk=>a3 b o hW hb (hk▸hS),a3⟩
 ·obtain⟨A',a1,a2,a3⟩:=h2 i (by omega) hin
  exact⟨A',by rw [Array.getElem?_setIfInBounds,if_neg (by omega)];exact a1,a2.fr hf λ b o hW hb hk=>a3 b o hW hb (hk▸hS),a3⟩
end
theorem joX (n:Nat)(m:Mx)(i:Nat):rowL n (m i)++rowL n (one i)=rowL (n+n) (aug n m i):=jfg n n (m i) (one i)
theorem jiZ:∀args w,(callFunc 289 args).run Tryz.prog w= .ok (.enter 289 args) w:=enters_of Tryz.func289 (by kernel_rfl) rfl
theorem joY (g7 g6 ga n:Nat)(S:Nat->Prop)(M:Mx)(hn:n<=255)(i j:Nat)(hi:i<n)(hj:j<n)(w:World)(hr:RowsAt w ga n (n+n) S M)
  (k7:w.cell? ⟨g7,0,none⟩=some (.slice (some ⟨ga,0,none⟩) n n))(k6:w.cell? ⟨g6,0,none⟩=some (.int .i64 (n:Int))):
  Calls Tryz.prog 289 #[.int .i64 (i:Int), .int .i64 (j:Int), .pointer (some ⟨g7,0,none⟩), .pointer (some ⟨g6,0,none⟩)] w
   λ e w' =>e= .returned (.int .u8 ((M i (n+j)).toNat:Int))∧∃k,w' =w.drewN k:=by
 obtain⟨A,c,k1,s1,_⟩:=hr.cell hi;have hlim:=s1.lim;unfold maxLen at hlim;obtain⟨b,o,rfl,hc⟩:=s1.at_ (k:=n+j) (by omega);have hx:=hc (n+j) _ (jaE _ _ (by rw [jag];omega));rw [show (rowL (n+n) (M i))[n+j]'(by rw [jag];omega)=M i (n+j) from by simp [rowL],bv] at hx;clear hc s1 hr;go_enter Tryz.func289,Tryz.ntmps289;go_wp2_with fail;go_quiet (fail);go_wp2_with fail;go_ret;exact⟨rfl,_,rfl⟩
end
section
theorem RowsF.mono {w:World}{g n W:Nat}{S S':Nat->Prop}{M:Mx}(h:RowsF w g n W S M)(hS:∀b,S' b->S b):RowsF w g n W S' M:=by
 obtain⟨cur,hg,hn,hr⟩:=h.row;refine⟨cur,hg,hn,λ i hi=> ?_⟩;obtain⟨A,h1,h2,h3⟩:=hr i hi;exact⟨A,h1,h2,λ b o hW hA hb=>h3 b o hW hA (hS b hb)⟩
def invW (w:World)(r c:Int)(A:Option Addr)(n cp:Nat):World:=
 (w.alloc (.cells #[.int .i64 r, .int .i64 c, .slice A n cp] 338)).alloc (.cells #[.int .i64 0, .int .i64 0, .slice none 0 0] 338)
theorem jgm (w:World)(r c:Int)(A:Option Addr)(n cp:Nat):Below w.heap.size w (invW w r c A n cp):=((Below.refl _ _).alloc (Nat.le_refl _) _).alloc (by simp) _
structure InvAt (w0 w:World)(F T:Nat)(r c:Int)(A:Option Addr)(n cp:Nat):Prop where
 fr:Fr (Ft T) w0 w
 fld:Fld1 w F T
 size:w0.heap.size+2<=w.heap.size
 b0:w.heap[w0.heap.size]? =some (boxM r c A n cp)
 b1:w.heap[w0.heap.size+1]? =some box0
theorem InvAt.later {w0 w w':World}{F T:Nat}{r c:Int}{A:Option Addr}{n cp:Nat}(h:InvAt w0 w F T r c A n cp)(hb:Below w.heap.size w w'):InvAt w0 w' F T r c A n cp:=
 ⟨h.fr.trans (Fr.of_below hb),h.fld.later hb,Nat.le_trans h.size hb.size,(hb.block _ (block_lt h.b0)).trans h.b0,(hb.block _ (block_lt h.b1)).trans h.b1⟩
theorem InvAt.start {w w1:World}{F T:Nat}{r c:Int}{A:Option Addr}{n cp:Nat}(hT:T<w.heap.size)(hf:Fld1 w1 F T)(hr:Fr (Ft T) (invW w r c A n cp) w1):InvAt w w1 F T r c A n cp:=
 ⟨(Fr.of_below (jgm w r c A n cp)).trans hr,hf,by have:=hr.size;simp [invW] at this;omega,hr.row_some (jbJ w _ _) (by show ¬_=T;omega),hr.row_some (jaQ w _ _) (by show ¬_=T;omega)⟩
theorem InvAt.frNew {w0 w w':World}{F T:Nat}{r c:Int}{A:Option Addr}{n cp:Nat}{S:Nat->Prop}(h:InvAt w0 w F T r c A n cp)(hT:T<w0.heap.size)(hF:F<w0.heap.size)(hf:Fr S w w')(hS:∀b,b<w0.heap.size+2->¬S b):InvAt w0 w' F T r c A n cp:=
 ⟨h.fr.andNew hf (λ i hi hk=>absurd hk (hS i (by omega))),h.fld.fr hf (hS F (by omega)) (hS T (by omega)),Nat.le_trans h.size hf.size,hf.row_some h.b0 (hS _ (by omega)),hf.row_some h.b1 (hS _ (by omega))⟩
theorem jkR (F T n:Nat)(A:Option Addr)(N cp:Nat)(l:List UInt8)(h1:1<=n)(h2:n<=255)(hN:N=n*n)(w:World)(h:Fld w F T)(hm:MxAt w T A N cp l):
  Calls Tryz.prog 277 #[.pointer (some ⟨F,0,none⟩), .agg #[.int .i64 (n:Int), .int .i64 (n:Int), .slice A N cp]] w
   λ e w' =>((∃L,L<n∧Rk n n (mx n l) L∧e= .returned (NoMx 40))∨(∃X:Mx,Alike n n (mm n X (mx n l)) one∧jqR n n (tabL n n X) w e w'))∧Fld1 w' F T∧Fr (Ft T) w w':=by
 have hT:=h.ltT;have hF:=h.ltF;have hhM:=jfe F T (invW w (n:Int) (n:Int) A N cp) (h.later (jgm w _ _ A N cp));have hla:=hm.sl.lim;have H1:=qH (show jeD (n:Int) (n:Int) N=true from decide_eq_true ⟨by omega,by omega,by omega,by omega,by rw [hN];simp⟩);have HN:=qH hN;clear hN;have Hm:=qH hm;clear hm;go_enter Tryz.func277,Tryz.ntmps277;go_wp2_with fail;refine hhM.mono ?_;clear hhM;rintro e w1 ⟨rfl,hf1,r1⟩;have I1:=qH (InvAt.start hT hf1 r1);clear hf1 r1;have a0:=jdn I1.out.b0;have a1:=jcK I1.out.b0;have a2:=jci I1.out.b0;go_wp2_with fail;refine(jfb (n:Int) (n:Int) A N cp hla _).mono ?_;rintro e w2 ⟨rfl,hb2⟩;rw [H1.out];have I2:=qH (I1.out.later hb2);clear hb2 a0 a1 a2;have a0:=jdn I2.out.b0;have a1:=jcK I2.out.b0;have a2:=jci I2.out.b0;have hs2:=I2.out.size;clear h;go_upto_region 6 with (fail)
 have hb4:Below w2.heap.size w2 (w2.alloc (.cells #[.int .i64 (n:Int)] 3)):=(Below.refl _ _).alloc (Nat.le_refl _) _;have hn0:=heap_alloc_new w2 (.cells #[.int .i64 (n:Int)] 3);have I4:=qH (I2.out.later hb4);have hs4:w2.heap.size+1<=(w2.alloc (.cells #[.int .i64 (n:Int)] 3)).heap.size:=by simp
 have HSa:=qH (Hm.out.fr I4.out.fr).sl;obtain⟨w4,hw4⟩:∃w4,w4=w2.alloc (.cells #[.int .i64 (n:Int)] 3):=⟨_,rfl⟩;rw [<-hw4] at hn0 I4 hs4 HSa ⊢;clear hw4 a0 a1 a2 hb4;have a0:=jdn I4.out.b0;have a1:=jcK I4.out.b0;have a2:=jci I4.out.b0;have n0:=cell_of_one hn0;go_cut [7,8] (λ v7 v8 wx=>∃g7 ga gb:Nat,v7= .pointer (some ⟨g7,0,none⟩)∧v8= .slice (some ⟨gb,0,none⟩) n n∧Below w4.heap.size w4 wx∧(w4.heap.size<=g7∧w4.heap.size<=ga∧w4.heap.size<=gb∧g7≠ga∧gb≠ga)∧
   wx.heap[g7]? =some (.cells #[.slice (some ⟨ga,0,none⟩) n n] 101 (0,0))∧(∀S,(∀b o,0<N->A=some ⟨b,o,none⟩->¬S b)->RowsF wx ga n n S (mx n l))∧RowsAt wx gb n n (λ b=>b<w4.heap.size∨b=ga) one)
 case first=>
  refine wp_region_held_drew (S:=λ w' =>Below w4.heap.size w4 w') (by kernel_rfl) (Below.drew (Below.refl _ _)) (λ hHeld=> ?_);clear hHeld;have hHeld:Below w4.heap.size w4 w4.drew:=Below.drew (Below.refl _ _);have hz_0:w4.heap.size<=w4.drew.heap.size∧w4.drew.heap.size<=w4.heap.size:=⟨Nat.le_refl _,Nat.le_refl _⟩;obtain⟨v_W0,hw⟩:∃v_W0,v_W0=w4.drew:=⟨_,rfl⟩;rw [<-hw] at hHeld hz_0 ⊢;clear hw;refine tA 0 (some 27) rfl hHeld ?_ (λ wq hSw=>by
   have q0:=(hSw.cell (World.block_lt_of_cell? w4 _ a0)).trans a0;have q1:=(hSw.cell (World.block_lt_of_cell? w4 _ a1)).trans a1;have q2:=(hSw.cell (World.block_lt_of_cell? w4 _ a2)).trans a2;go_simp<;>with_reducible rfl)
  refine tA 2 (some 29) rfl hHeld ?_ (λ wq hSw=>by
   have q0:=(hSw.cell (World.block_lt_of_cell? w4 _ n0)).trans n0;go_simp<;>with_reducible rfl)
  refine tA 3 (some 30) rfl hHeld ?_ (λ wq hSw=>by
   have q0:=(hSw.cell (World.block_lt_of_cell? w4 _ n0)).trans n0;go_simp<;>with_reducible rfl)
  refine wpAnyH_ready (rs:= [1,6]) (by kernel_rfl) (by simp) ?_;refine AllReadyH.cons (o:=⟨some 28,_,_,_,_,_⟩) rfl (λ K hK=> ?_) (AllReadyH.cons (o:=⟨some 7,_,_,_,_,_⟩) rfl (λ K hK=> ?_) (AllReadyH.nil))
  focus
   go_simp;have hh:=ja9 n n A N cp l h1 h2 h1 h2 HN.out v_W0 (HSa.out.below hHeld (Nat.le_refl _));refine hh.mono ?_;clear hh;rintro e v_W1 ⟨ga,rfl,hga,hbN,hrow⟩;have ra_L1:=qH hrow;clear hrow;have hga2:=(ra_L1.out (λ _=>False) (λ _ _ _ _ h=>h)).at_.lt;go_wp2_with fail;have hHeld:=hHeld.trans (hbN.mono hHeld.size);have hfN:Fr (λ _=>False) v_W0 v_W1:=Fr.of_below hbN;have hz_3:=hbN.size;clear hbN;refine hK.out _ _ hHeld λ _=> ?_
   clear hK K hfN
   try simp only [Act.put,sA,sB,sC]
  rotate_left
  focus
   go_simp;obtain⟨g_t7,hg⟩:∃g,g=v_W0.heap.size:=⟨_,rfl⟩;have hbN:Below v_W0.heap.size v_W0 (v_W0.alloc (.cells #[.slice none 0 0] 101)):=(Below.refl _ _).alloc (Nat.le_refl _) _;have hx:=heap_alloc_new v_W0 (.cells #[.slice none 0 0] 101);have hz_5:v_W0.heap.size+1<=(v_W0.alloc (.cells #[.slice none 0 0] 101)).heap.size∧(v_W0.alloc (.cells #[.slice none 0 0] 101)).heap.size<=v_W0.heap.size+1:=by simp
   obtain⟨v_W1,hw⟩:∃v_W1,v_W1=v_W0.alloc (.cells #[.slice none 0 0] 101):=⟨_,rfl⟩;rw [<-hw] at hbN hx hz_5 ⊢;clear hw;rw [<-hg] at hx ⊢;have hHeld:=hHeld.trans (hbN.mono hHeld.size);have hfN:Fr (λ _=>False) v_W0 v_W1:=Fr.of_below hbN;have blt7_L1:=qH hx;clear hx;have hz_7:g_t7<=v_W0.heap.size∧v_W0.heap.size<=g_t7:=by omega
   clear hg hbN;refine hK.out _ _ hHeld λ _=> ?_
   clear hK K hfN
   try simp only [Act.put,sA,sB,sC]
  rotate_left
  all_goals first
   |
    refine wpAnyH_ready (rs:= [4,6]) (by kernel_rfl) (by simp) ?_;refine AllReadyH.cons (o:=⟨some 31,_,_,_,_,_⟩) rfl (λ K hK=> ?_) (AllReadyH.cons (o:=⟨some 7,_,_,_,_,_⟩) rfl (λ K hK=> ?_) (AllReadyH.nil))
    focus
     go_simp;have hh:=jcU n n h2 h2 _ jff #[] one v_W1 (jgk n _);refine hh.mono ?_;clear hh;rintro e v_W2 ⟨v,rfl,⟨Au,cu,rfl,hgu⟩,hbN⟩;have gu_L2:=qH hgu;have hub:=qH (λ b o (hn:0<n*n) (hA:Au=some ⟨b,o,none⟩)=>And.intro (jbN (gu_L2.out.row hn) hn hA) (gu_L2.out.own.sl.lt (by decide) hn hA));clear hgu;go_wp2_with fail;have hHeld:=hHeld.trans (hbN.mono hHeld.size);have hfN:Fr (λ _=>False) v_W1 v_W2:=Fr.of_below hbN;have hz_9:=hbN.size;have ra_L2:=qH (λ (S:Nat->Prop) hS=>(ra_L1.out S hS).fr hfN (λ h=>h) (λ _ h=>h.elim));clear ra_L1;clear hbN;refine hK.out _ _ hHeld λ _=> ?_
     clear hK K hfN
     try simp only [Act.put,sA,sB,sC]
    rotate_left
    focus
     go_simp;obtain⟨g_t7,hg⟩:∃g,g=v_W1.heap.size:=⟨_,rfl⟩;have hbN:Below v_W1.heap.size v_W1 (v_W1.alloc (.cells #[.slice none 0 0] 101)):=(Below.refl _ _).alloc (Nat.le_refl _) _;have hx:=heap_alloc_new v_W1 (.cells #[.slice none 0 0] 101);have hz_12:v_W1.heap.size+1<=(v_W1.alloc (.cells #[.slice none 0 0] 101)).heap.size∧(v_W1.alloc (.cells #[.slice none 0 0] 101)).heap.size<=v_W1.heap.size+1:=by simp
     obtain⟨v_W2,hw⟩:∃v_W2,v_W2=v_W1.alloc (.cells #[.slice none 0 0] 101):=⟨_,rfl⟩;rw [<-hw] at hbN hx hz_12 ⊢;clear hw;rw [<-hg] at hx ⊢;have hHeld:=hHeld.trans (hbN.mono hHeld.size);have hfN:Fr (λ _=>False) v_W1 v_W2:=Fr.of_below hbN;have ra_L2:=qH (λ (S:Nat->Prop) hS=>(ra_L1.out S hS).fr hfN (λ h=>h) (λ _ h=>h.elim));clear ra_L1;have blt7_L2:=qH hx;clear hx;have hz_15:g_t7<=v_W1.heap.size∧v_W1.heap.size<=g_t7:=by omega
     clear hg hbN;refine hK.out _ _ hHeld λ _=> ?_
     clear hK K hfN
     try simp only [Act.put,sA,sB,sC]
    rotate_left
   |
    refine rW 1 (some 28) rfl λ K hK=> ?_
    go_simp;have hh:=ja9 n n A N cp l h1 h2 h1 h2 HN.out v_W1 (HSa.out.below hHeld (Nat.le_refl _));refine hh.mono ?_;clear hh;rintro e v_W2 ⟨ga,rfl,hga,hbN,hrow⟩;have ra_L2:=qH hrow;clear hrow;have hga2:=(ra_L2.out (λ _=>False) (λ _ _ _ _ h=>h)).at_.lt;go_wp2_with fail;have hHeld:=hHeld.trans (hbN.mono hHeld.size);have hfN:Fr (λ _=>False) v_W1 v_W2:=Fr.of_below hbN;have hz_17:=hbN.size;have blt7_L2:=qH (hfN.row_some blt7_L1.out id);clear blt7_L1;clear hbN;refine hK.out _ _ hHeld λ _=> ?_
    clear hK K hfN
    try simp only [Act.put,sA,sB,sC]
  all_goals first
   |
    refine wpAnyH_ready (rs:= [5,6]) (by kernel_rfl) (by simp) ?_;refine AllReadyH.cons (o:=⟨some 32,_,_,_,_,_⟩) rfl (λ K hK=> ?_) (AllReadyH.cons (o:=⟨some 7,_,_,_,_,_⟩) rfl (λ K hK=> ?_) (AllReadyH.nil))
    focus
     go_simp;have hh:=ja9 n n Au (n*n) cu (tabL n n one) h1 h2 h1 h2 rfl v_W2 gu_L2.out.own.sl;refine hh.mono ?_;clear hh;rintro e v_W3 ⟨gb,rfl,hgb,hbN,hrow⟩;have ru_L3:=qH (RowsAt.congr (hrow (λ b=>(b<w4.heap.size∨b=ga)) (λ b o hn hA hk=>by
      have hk:(b<w4.heap.size∨b=ga):=hk;have hb:=hub.out b o hn hA;omega)).at_ (λ i hi k hk=>jgN one hi hk))
     clear hrow;have hgb2:=ru_L3.out.lt;go_wp2_with fail;have hHeld:=hHeld.trans (hbN.mono hHeld.size);have hfN:Fr (λ _=>False) v_W2 v_W3:=Fr.of_below hbN;have hz_21:=hbN.size;have ra_L3:=qH (λ (S:Nat->Prop) hS=>(ra_L2.out S hS).fr hfN (λ h=>h) (λ _ h=>h.elim));clear ra_L2;have gu_L3:=qH (gu_L2.out.below hbN);clear gu_L2;clear hbN;refine hK.out _ _ hHeld λ _=> ?_
     clear hK K hfN
     try simp only [Act.put,sA,sB,sC]
    rotate_left
    focus
     go_simp;obtain⟨g_t7,hg⟩:∃g,g=v_W2.heap.size:=⟨_,rfl⟩;have hbN:Below v_W2.heap.size v_W2 (v_W2.alloc (.cells #[.slice none 0 0] 101)):=(Below.refl _ _).alloc (Nat.le_refl _) _;have hx:=heap_alloc_new v_W2 (.cells #[.slice none 0 0] 101);have hz_25:v_W2.heap.size+1<=(v_W2.alloc (.cells #[.slice none 0 0] 101)).heap.size∧(v_W2.alloc (.cells #[.slice none 0 0] 101)).heap.size<=v_W2.heap.size+1:=by simp
     obtain⟨v_W3,hw⟩:∃v_W3,v_W3=v_W2.alloc (.cells #[.slice none 0 0] 101):=⟨_,rfl⟩;rw [<-hw] at hbN hx hz_25 ⊢;clear hw;rw [<-hg] at hx ⊢;have hHeld:=hHeld.trans (hbN.mono hHeld.size);have hfN:Fr (λ _=>False) v_W2 v_W3:=Fr.of_below hbN;have ra_L3:=qH (λ (S:Nat->Prop) hS=>(ra_L2.out S hS).fr hfN (λ h=>h) (λ _ h=>h.elim));clear ra_L2;have gu_L3:=qH (gu_L2.out.below hbN);clear gu_L2;have blt7_L3:=qH hx;clear hx;have hz_29:g_t7<=v_W2.heap.size∧v_W2.heap.size<=g_t7:=by omega
     clear hg hbN;refine hK.out _ _ hHeld λ _=> ?_
     clear hK K hfN
     try simp only [Act.put,sA,sB,sC]
    rotate_left
   |
    refine rW 4 (some 31) rfl λ K hK=> ?_
    go_simp;have hh:=jcU n n h2 h2 _ jff #[] one v_W2 (jgk n _);refine hh.mono ?_;clear hh;rintro e v_W3 ⟨v,rfl,⟨Au,cu,rfl,hgu⟩,hbN⟩;have gu_L3:=qH hgu;have hub:=qH (λ b o (hn:0<n*n) (hA:Au=some ⟨b,o,none⟩)=>And.intro (jbN (gu_L3.out.row hn) hn hA) (gu_L3.out.own.sl.lt (by decide) hn hA));clear hgu;go_wp2_with fail;have hHeld:=hHeld.trans (hbN.mono hHeld.size);have hfN:Fr (λ _=>False) v_W2 v_W3:=Fr.of_below hbN;have hz_31:=hbN.size;have ra_L3:=qH (λ (S:Nat->Prop) hS=>(ra_L2.out S hS).fr hfN (λ h=>h) (λ _ h=>h.elim));clear ra_L2;have blt7_L3:=qH (hfN.row_some blt7_L2.out id);clear blt7_L2;clear hbN;refine hK.out _ _ hHeld λ _=> ?_
    clear hK K hfN
    try simp only [Act.put,sA,sB,sC]
  all_goals first
   |
    refine rW 6 (some 7) rfl λ K hK=> ?_
    go_simp;obtain⟨g_t7,hg⟩:∃g,g=v_W3.heap.size:=⟨_,rfl⟩;have ru_37:=qH (ru_L3.out.wid (λ b=>(b<w4.heap.size∨b=ga)∨b=g_t7) (λ b hlt hk=>hk.elim id (λ hk=>by have hk:b=g_t7:=hk;omega)));clear ru_L3;have hbN:Below v_W3.heap.size v_W3 (v_W3.alloc (.cells #[.slice none 0 0] 101)):=(Below.refl _ _).alloc (Nat.le_refl _) _;have hx:=heap_alloc_new v_W3 (.cells #[.slice none 0 0] 101);have hz_36:v_W3.heap.size+1<=(v_W3.alloc (.cells #[.slice none 0 0] 101)).heap.size∧(v_W3.alloc (.cells #[.slice none 0 0] 101)).heap.size<=v_W3.heap.size+1:=by simp
    obtain⟨v_W4,hw⟩:∃v_W4,v_W4=v_W3.alloc (.cells #[.slice none 0 0] 101):=⟨_,rfl⟩;rw [<-hw] at hbN hx hz_36 ⊢;clear hw;rw [<-hg] at hx ⊢;have hHeld:=hHeld.trans (hbN.mono hHeld.size);have hfN:Fr (λ _=>False) v_W3 v_W4:=Fr.of_below hbN;have ra_L4:=qH (λ (S:Nat->Prop) hS=>(ra_L3.out S hS).fr hfN (λ h=>h) (λ _ h=>h.elim));clear ra_L3;have gu_L4:=qH (gu_L3.out.below hbN);clear gu_L3;have ru_L4:=qH (ru_37.out.fr hfN (λ h=>h) (λ _ h=>h.elim));clear ru_37;have blt7_L4:=qH hx;clear hx;have hz_42:g_t7<=v_W3.heap.size∧v_W3.heap.size<=g_t7:=by omega
    clear hg hbN;refine hK.out _ _ hHeld λ _=> ?_
    clear hK K hfN
    try simp only [Act.put,sA,sB,sC]
   |
    refine rW 5 (some 32) rfl λ K hK=> ?_
    go_simp;have hh:=ja9 n n Au (n*n) cu (tabL n n one) h1 h2 h1 h2 rfl v_W3 gu_L3.out.own.sl;refine hh.mono ?_;clear hh;rintro e v_W4 ⟨gb,rfl,hgb,hbN,hrow⟩;have ru_L4:=qH (RowsAt.congr (hrow (λ b=>(b<w4.heap.size∨b=ga)∨b=g_t7) (λ b o hn hA hk=>by
     have hk:(b<w4.heap.size∨b=ga)∨b=g_t7:=hk;have hb:=hub.out b o hn hA;omega)).at_ (λ i hi k hk=>jgN one hi hk))
    clear hrow;have hgb2:=ru_L4.out.lt;go_wp2_with fail;have hHeld:=hHeld.trans (hbN.mono hHeld.size);have hfN:Fr (λ _=>False) v_W3 v_W4:=Fr.of_below hbN;have hz_44:=hbN.size;have ra_L4:=qH (λ (S:Nat->Prop) hS=>(ra_L3.out S hS).fr hfN (λ h=>h) (λ _ h=>h.elim));clear ra_L3;have gu_L4:=qH (gu_L3.out.below hbN);clear gu_L3;have blt7_L4:=qH (hfN.row_some blt7_L3.out id);clear blt7_L3;clear hbN;refine hK.out _ _ hHeld λ _=> ?_
    clear hK K hfN
    try simp only [Act.put,sA,sB,sC]
  all_goals
   refine rW 7 none rfl λ K hK=> ?_
   have q0:v_W4.cell? ⟨g_t7,0,none⟩=some (.slice none 0 0):=by rw [cell_of_row _ _ _ _ _ _ blt7_L4.out];rfl
   have q1:v_W4.frozen? ⟨g_t7,0,none⟩=false:=frozen_of_row _ _ _ _ _ blt7_L4.out;go_simp;have hx:=heap_setCell_same v_W4 (g_t7) 0 _ _ (.slice (some ⟨ga,0,none⟩) n n) blt7_L4.out;have hfN:Fr (λ k=>k=g_t7) v_W4 (v_W4.setCell ⟨g_t7,0,none⟩ (.slice (some ⟨ga,0,none⟩) n n)):=Fr.setCell (S:=λ k=>k=g_t7) (Fr.refl _ _) (.inr rfl) _;have hHeld:=hHeld.setCell (p:=⟨g_t7,0,none⟩) (by show _<=g_t7;omega) (.slice (some ⟨ga,0,none⟩) n n);have hz_50:v_W4.heap.size<=(v_W4.setCell ⟨g_t7,0,none⟩ (.slice (some ⟨ga,0,none⟩) n n)).heap.size∧(v_W4.setCell ⟨g_t7,0,none⟩ (.slice (some ⟨ga,0,none⟩) n n)).heap.size<=v_W4.heap.size:=by simp
   obtain⟨v_W5,hw⟩:∃v_W5,v_W5=v_W4.setCell ⟨g_t7,0,none⟩ (.slice (some ⟨ga,0,none⟩) n n):=⟨_,rfl⟩;rw [<-hw] at hHeld hx hfN hz_50 ⊢;clear hw q0 q1;have ra_L5:=qH (λ (S:Nat->Prop) (hS:∀b o,0<N->A=some ⟨b,o,none⟩->¬S b)=>(ra_L4.out (λ k=>S k∨k=g_t7) (λ b o hn hA hk=>hk.elim (hS b o hn hA) (λ hk=>by have:=HSa.out.lt (by decide) hn hA;omega))).fr hfN (λ h=>by have h:ga=g_t7:=h;omega) (λ b hb=> .inr hb));clear ra_L4;clear gu_L4;have ru_L5:=qH (ru_L4.out.fr hfN (λ h=>by have h:gb=g_t7:=h;omega) (λ b hb=> .inr hb));clear ru_L4;clear blt7_L4;have blt7_L5:=qH hx;clear hx;refine hK.out _ _ hHeld λ _=> ?_
   clear hK K hfN
   try simp only [Act.put,sA,sB,sC]
   refine tA 8 (some 8) rfl hHeld ?_
  all_goals
   refine tD ?_;go_wp2_with fail;go_meet
   case rel=>exact⟨g_t7,ga,gb,rfl,rfl,hHeld,⟨by omega,by omega,by omega,by omega,by omega⟩,blt7_L5.out,(λ S hS=>(ra_L5.out S hS).mono (λ _ h=>by first|exact h|exact .inl h)),ru_L5.out.wid _ (λ _ _ h=> .inl h)⟩
 case rest=>
  obtain⟨g7,ga,gb,rfl,rfl,hb5,⟨hg7,hga,hgb,hne1,hne2⟩,x7,hra,hru⟩:=hcut;have I5:=qH (I4.out.later hb5);have xn:=(hb5.block _ (block_lt hn0)).trans hn0;have Hh:=qH (Half.start (hra (Tg T ga) (λ b o hn hA hk=>by
   have:=HSa.out.lt (by decide) hn hA;have:=Hm.out.off b o hn hA
   rcases hk with hk|hk<;>omega)))
  have Hru:=qH hru;clear a0 a1 a2 n0 hra hru;have k7:=cell_of_one x7;go_wp2_with fail;go_loopw [35] (λ i wr=>∃k:Nat,k<=n∧i= .int .i64 (k:Int)∧Half wr ga n k (Tg T ga) (mx n l)∧RowsAt wr gb n n (λ b=>b<w4.heap.size∨b=ga) one∧wr.heap[g7]? =some (.cells #[.slice (some ⟨ga,0,none⟩) n n] 101 (0,0))∧
    wr.heap[w2.heap.size]? =some (.cells #[.int .i64 (n:Int)] 3 (0,0))∧InvAt w wr F T (n:Int) (n:Int) A N cp) (λ i _=>n-(intOf i).toNat)
  case atStart=>exact⟨0,by omega,rfl,Hh.out,Hru.out,x7,xn,I5.out⟩
  case round=>
   clear k7 Hh Hru x7 xn;obtain⟨k,hk,rfl,hh,hru,x7,xn,hi⟩:=hrel;have k7:=cell_of_one x7;have kn:=cell_of_one xn;have hgl:=hh.lt;have hs7:=block_lt x7;have hss:=hi.size;have X7:=qH x7;clear x7;have Xn:=qH xn;clear xn;have Hi:=qH hi;clear hi
   by_cases hlt:k<n
   ·obtain⟨A1,ka,s1⟩:=hh.cell (Nat.le_refl _) hlt
    obtain⟨A2,c2,kb,s2,_⟩:=hru.cell hlt;have fa:=hh.free k;have SAd:=qH s1.drew;have SBd:=qH s2.drew;have hgad:ga<wr.drew.heap.size:=hgl;have Hh:=qH hh;clear hh;have Hru:=qH hru;clear hru;clear s1 s2;go_wp2_with fail;refine wp_region_held_drew (S:=λ w' =>Fr (λ k=>k=ga) wr.drew w') (by kernel_rfl) (Fr.refl _ _) (λ hHeld=> ?_);clear hHeld;refine tL 0 (some 38) (v:= ?vh0) rfl ?yh0 (Fr.refl _ _) ?rh0
    case yh0=>
     intro wq hSw
     (try dsimp only at hSw)
     have q:=hSw.cell_some k7 (by show ¬g7=ga;omega);go_simp<;>with_reducible rfl
    try simp only [Act.put,sA,sB,sC]
    refine tA 1 (some 39) rfl (Fr.refl _ _) ?_;refine tL 2 (some 40) (v:= ?vh2) rfl ?yh2 (Fr.refl _ _) ?rh2
    case yh2=>
     intro wq hSw
     (try dsimp only at hSw)
     have q:=hSw.cell_some k7 (by show ¬g7=ga;omega);go_simp<;>with_reducible rfl
    try simp only [Act.put,sA,sB,sC]
    refine tA 3 (some 41) rfl (Fr.refl _ _) ?_;refine tA 4 (some 42) rfl (Fr.refl _ _) ?_;refine tA 6 (some 44) rfl (Fr.refl _ _) ?_;refine tA 7 (some 45) rfl (Fr.refl _ _) ?_;refine tA 8 (some 46) rfl (Fr.refl _ _) ?_;refine tL 9 (some 47) (v:= ?vh9) rfl ?yh9 (Fr.refl _ _) ?rh9
    case yh9=>
     intro wq hSw
     (try dsimp only at hSw)
     have q:=hSw.cell_some kb (by show ¬gb=ga;omega);go_simp<;>with_reducible rfl
    try simp only [Act.put,sA,sB,sC]
    refine rW 5 (some 43) rfl λ K hK=> ?_
    go_simp;refine hK.out _ _ (Fr.refl _ _) (λ hHeld=> ?_);clear hK K hHeld
    try simp only [Act.put,sA,sB,sC]
    refine rW 10 (some 48) rfl λ K hK=> ?_
    refine jgO (B:=wr.drew.heap.size) rfl (.tmp 43) (.tmp 47) rfl rfl (Own.full SAd.out) (Nat.le_refl _) A2 n c2 (rowL n (one k)) rfl SBd.out (by omega) ?_;intro A3 c3 w3 ho3 hb3 hrow3;rw [<-jai,joX] at ho3 hrow3;have hfr:Fr (λ k=>k=ga) wr.drew w3:=Fr.of_below hb3;have S3:=qH ho3.sl;have hnew:=λ b o hn hA=>jbN (b:=b) (o:=o) (hrow3 h1) hn hA
    have hsz3:=hb3.size;have z3:=(hb3.frozen (p:=⟨ga,k,none⟩) hgad).trans fa;have k3:=(hb3.cell (p:=⟨ga,k,none⟩) hgad).trans ka;have Hb3:=qH hb3;clear ho3 hrow3 hb3;refine hK.out _ _ hfr (λ hHeld=> ?_);clear hK K hHeld
    try simp only [Act.put,sA,sB,sC]
    refine jac (S':=λ w' =>Fr (λ k=>k=ga) w3 w') (λ w' h=>hfr.trans h) ?_;clear hfr;refine tA 11 (some 49) rfl (Fr.refl _ _) ?_;refine rW 12 none rfl λ K hK=> ?_
    go_simp;have hfr:Fr (λ k=>k=ga) w3 (w3.setCell ⟨ga,k,none⟩ (.slice A3 (n+n) c3)):=Fr.setCell (S:=λ k=>k=ga) (Fr.refl _ _) (.inr rfl) _;refine hK.out _ _ hfr (λ hHeld=> ?_);clear hK K hHeld
    try simp only [Act.put]
    refine jac (S':=λ w' =>Fr (λ k=>k=ga) (w3.setCell ⟨ga,k,none⟩ (.slice A3 (n+n) c3)) w') (λ w' h=>hfr.trans h) ?_;clear hfr;refine tD ?_;have hwd:Below wr.heap.size wr w3:=(Below.drew (Below.refl _ _)).trans Hb3.out;have hwz:wr.drew.heap.size=wr.heap.size:=rfl;have hh3:=(Hh.out.later hwd).set (.inr rfl) hlt S3.out (λ b o hn hA hk=>by
     have:=hnew b o (by omega) hA;have:=Hi.out.fld.fld.ltT
     rcases hk with hk|hk<;>omega)
    have hq:Fr (λ k=>k=ga) w3 (w3.setCell ⟨ga,k,none⟩ (.slice A3 (n+n) c3)):=Fr.setCell (S:=λ k=>k=ga) (Fr.refl _ _) (.inr rfl) _;have hru3:=(Hru.out.later hwd).fr hq (by show ¬gb=ga;exact hne2) (λ b hb=> .inr hb);have hx7:=hq.row_some ((hwd.block _ hs7).trans X7.out) (by show ¬g7=ga;exact hne1);have hxn:=hq.row_some ((hwd.block _ (block_lt Xn.out)).trans Xn.out) (by show ¬w2.heap.size=ga;omega);have hi3:=(Hi.out.later hwd).frNew hT hF hq (λ b hb hk=>by have hk:b=ga:=hk;omega);have Hend:=qH (And.intro hh3 (And.intro hru3 (And.intro hx7 (And.intro hxn hi3))));clear hh3 hru3 hx7 hxn hi3 hq hwd S3 Hb3 z3 k3 fa ka kb k7 kn;go_wp2_with fail;go_roundw
    case rel=>exact⟨k+1,by omega,by go_num,Hend.out.1,Hend.out.2.1,Hend.out.2.2.1,Hend.out.2.2.2.1,Hend.out.2.2.2.2⟩
    case measure=>simp [intOf];omega
   ·obtain rfl:k=n:=by omega
    have hR:=hh.done;have HR:=qH (hR.drewN 1);have Hfd:=qH (Hi.out.fld.drewN 1);clear hh hru hR;go_wp2_with fail;go_region_with (go_at_call 288;have hh:=jkQ F T ga k (k+k) k h2 (by omega) (by omega) (aug k (mx k l)) wr.drew Hfd.out HR.out (by omega) (by omega);refine hh.mono ?_;clear hh;rintro e w5 ⟨L,M,ld,rfl,hled,hrow5,hf5,hr5⟩;have kn5:=hr5.cell_some (show wr.drew.cell? ⟨w2.heap.size,0,none⟩=_ from kn) (by rintro(h|h)<;>simp at h<;>omega))
    all_goals
     have hw5:=hr5.size;have hwz:wr.drew.heap.size=wr.heap.size:=rfl;have hi5:InvAt w w5 F T (k:Int) (k:Int) A N cp:=⟨(Hi.out.fr.drew).andNew hr5 (λ i hi hk=>by
       rcases hk with hk|hk
       ·exact hk
       ·omega),hf5,by omega,hr5.row_some (show wr.drew.heap[_]? =_ from Hi.out.b0) (by rintro(h|h)<;>omega),hr5.row_some (show wr.drew.heap[_]? =_ from Hi.out.b1) (by rintro(h|h)<;>omega)⟩
     have hx7:=hr5.row_some (show wr.drew.heap[_]? =_ from X7.out) (by
      have:=Hi.out.fld.fld.ltT;rintro(h|h)<;>omega)
     have hxn:=hr5.row_some (show wr.drew.heap[_]? =_ from Xn.out) (by rintro(h|h)<;>omega);have Hx7:=qH hx7;clear hx7;have Hxn:=qH hxn;clear hxn kn5;have Hi5:=qH hi5;clear hi5;have Hrow5:=qH hrow5;clear hrow5;have Hled:=qH hled;clear hled;have Hf5:=qH hf5;clear hf5;have Hr5:=qH hr5;clear hr5 k7 kn
     by_cases hLk:L<k
     ·have hd:decide ((L:Int)<(k:Int))=true:=by simp;omega
      have x0:=jfh Hi5.out.b1;have x1:=jfi Hi5.out.b1;have x2:=jfj Hi5.out.b1;have y0:=jaq Hi5.out.b1 0;have y1:=jaq Hi5.out.b1 1;have y2:=jaq Hi5.out.b1 2;go_wp2_with fail;refine bodyPost_ret (jal Tryz.results277 _ _ (w.heap.size+1) 338 _ (0,0) _ rfl (jcz Hi5.out.b1) Tryz.underlying338 rfl jbm) rfl ?_;have hq:=jcV w5 (w.heap.size+1) 0 0 none 0 0;exact⟨.inl ⟨L,hLk,Hled.out.rk_aug,rfl⟩,Hi5.out.fld.fr hq (by show ¬F=_;omega) (by show ¬T=_;omega),Hi5.out.fr.andNew hq (λ i hi hk=>by have hk:i=_:=hk;omega)⟩
     ·obtain rfl:L=k:=by have:=Hled.out.le;omega
      have hd:decide ((L:Int)<(L:Int))=false:=by simp
      have c6:=cell_of_one Hxn.out;have hht:jmv 289 #[.pointer (some ⟨g7,0,none⟩), .pointer (some ⟨w2.heap.size,0,none⟩)] L L (λ i j=>M i (L+j)) w5:=λ W i j hi hj hb=>by
       have hh:=joY g7 w2.heap.size ga L _ M h2 i j hi hj W (Hrow5.out.later hb)
        ((hb.cell (World.block_lt_of_cell? w5 _ (cell_of_one Hx7.out))).trans (cell_of_one Hx7.out)) ((hb.cell (World.block_lt_of_cell? w5 _ (cell_of_one Hxn.out))).trans (cell_of_one Hxn.out))
       exact hh.mono λ e w' ⟨he,k,hk⟩=>⟨he,hk▸below_drewN (Below.refl _ _) k⟩
      have hhB:=jcU L L h2 h2 _ jiZ _ _ _ hht;clear hht;go_wp2_with fail;refine hhB.mono ?_;clear hhB;rintro e w6 ⟨v,rfl,⟨A6,c6',rfl,hg6⟩,hb6⟩;have I6:=qH (Hi5.out.later hb6);have HG6:=qH hg6;clear hg6 c6;have x0:=jfh I6.out.b1;have x1:=jfi I6.out.b1;have x2:=jfj I6.out.b1;have y0:=jaq I6.out.b1 0;have y1:=jaq I6.out.b1 1;have y2:=jaq I6.out.b1 2;go_wp2_with fail;refine bodyPost_ret (jal Tryz.results277 _ _ (w.heap.size+1) 338 _ (0,0) _ rfl (jcz I6.out.b1) Tryz.underlying338 rfl jbm) rfl ?_;have hq:=jcV w6 (w.heap.size+1) (L:Int) (L:Int) A6 (L*L) c6';exact⟨.inr ⟨_,Hled.out.inverse,A6,c6',rfl,(HG6.out.frG hq (by omega)).lower (by omega)⟩,I6.out.fld.fr hq (by show ¬F=_;omega) (by show ¬T=_;omega),I6.out.fr.andNew hq (λ i hi hk=>by have hk:i=_:=hk;omega)⟩
end
end Go.Proofs.YtmhejbihdghhaaaGreatDoor

/-
  Contracts of package decode's there, level, has, made
-/
import Derived.Test.YtmhejbihdghhaaaGreatDoorQcan
import Derived.Test.YtmhejbihdghhaaaGreatDoorHa
import Derived.BigQuiet
import Derived.Test.YtmhejbihdghhaaaGreatDoorGa
import Derived.Laws.EntriesVeiled
namespace Go.Proofs.YtmhejbihdghhaaaGreatDoor
set_option linter.unusedVariables false
open Go.RowKit Go.Proofs
open Go.RowKit Go.Proofs Go.Maps
open Go.RowKit Go.Proofs
open Go.RowKit Go.Proofs
open Go.RowKit Go.Proofs
open Go.RowKit Go.Proofs
open Go.RowKit Go.Proofs
open Go.RowKit Go.Proofs
set_option maxRecDepth 20000
set_option maxHeartbeats 3200000
section
theorem jcj (A:Option Addr)(n c:Nat)(rs:List (List UInt8))(w:World)(h:Gr w A n c rs)(hn:n<=1048576):
  Calls Tryz.prog 246 #[.slice A n c] w λ e w' =>(∃A' q c',e= .returned (.slice A' q c')∧Sl w' 1 A' q c' (jay (jae rs n)))∧Below w.heap.size w w':=by
 have H:=qH h;clear h;go_enter Tryz.func246,Tryz.ntmps246;go_wp2_with fail;go_loopw [3,8] (λ v i wr=>∃(j q:Nat) (A':Option Addr) (c':Nat),j<=n∧q<=j∧i= .int .i64 (j:Int)∧v= .slice A' q c' ∧Own wr w.heap.size 3 1 A' q c' (jay (jae rs j))∧Below w.heap.size w wr) (λ _ i _=>n-(intOf i).toNat)
 case atStart=>exact⟨0,0,none,0,by omega,by omega,rfl,rfl,(Own.full (Sl.nil w 1 0 (by decide)):Own w w.heap.size 3 1 none 0 0 []),Below.refl _ _⟩
 case round=>
  obtain⟨j,q,A',c',hj,hq,rfl,rfl,hO,hb⟩:=hrel;have HO:=qH hO;clear hO;have Hb:=qH hb;have hszr:=hb.size;clear hb
  by_cases hlt:j<n
  ·obtain⟨b,o,rfl,hc⟩:=(H.out.later Hb.out).at_ (by omega)
   obtain⟨A1,c1,hc1,hs1⟩:=hc j _ (H.out.get hlt);have hnext:=jfl rs j;obtain⟨L1,hL1⟩:∃L,L=(rs.getD j []).length:=⟨_,rfl⟩;rw [<-hL1] at hc1 hs1 hnext;have hm1:=hs1.lim;unfold maxLen at hm1;clear hc hs1 hL1
   by_cases hpos:0<L1
   ·rw [if_pos hpos] at hnext
    have Hnext:=qH hnext;clear hnext;have hpi:(0:Int)<(L1:Int):=by omega
    have hwin:w.heap.size<=(wr.alloc (.cells #[.int .i64 (j:Int)] 3)).heap.size:=by simp;omega
    go_wp2_with (at_builtin;refine jcS (B:=w.heap.size) rfl (.tmp 16) (.tmp 18) rfl rfl (HO.out.alloc _) hwin (some ⟨wr.heap.size,0,none⟩) 1 1 [j] rfl (Sl.oneN _ _ _ _ rfl) ?pb ?pc)
    case pb=>omega
    intro A2 c2 w2 ho2 hb2 _;rw [<-jdC,<-Hnext.out] at ho2;have Ho2:=qH ho2;clear ho2;have Hb2:=qH ((Hb.out.alloc hszr _).trans hb2);clear hb2;go_wp2_with fail;go_roundw
    case rel=>exact⟨j+1,q+1,A2,c2,by omega,by omega,by go_num,rfl,Ho2.out,Hb2.out⟩
    case measure=>simp [intOf];omega
   ·rw [if_neg hpos] at hnext
    have Hnext:=qH hnext;clear hnext;have hpi:¬((0:Int)<(L1:Int)):=by omega
    go_wp2_with fail;go_roundw
    case rel=>exact⟨j+1,q,A',c',by omega,by omega,by go_num,rfl,by rw [Hnext.out];exact HO.out,Hb.out⟩
    case measure=>simp [intOf];omega
  ·obtain rfl:j=n:=by omega
   go_wp2_with fail;go_ret;exact⟨⟨A',q,c',rfl,HO.out.sl⟩,Hb.out⟩
def offB (rs:List (List UInt8))(t:List Nat)(x:Nat):Bool:=decide ((rs.getD x []).length≠(rs.getD (t.getD 0 0) []).length)
theorem ji1 (b1 b2:Nat)(A:Option Addr)(n c:Nat)(rs:List (List UInt8))(B:Option Addr)(q d:Nat)(t:List Nat)(x:Nat)(w:World)(hg:Gr w A n c rs)(hs:Sl w 1 B q d (jay t))(k1:w.cell? ⟨b1,0,none⟩=some (.slice A n c))(k2:w.cell? ⟨b2,0,none⟩=some (.slice B q d))
  (hx:x<n)(hq:0<q)(ht0:t.getD 0 0<n):
  Calls Tryz.prog 268 #[.int .i64 (x:Int), .pointer (some ⟨b1,0,none⟩), .pointer (some ⟨b2,0,none⟩)] w λ e w' =>e= .returned (.bool (offB rs t x))∧∃k,w' =w.drewN k:=by
 have htl:t.length=q:=by
  have:=hs.len;rw [jar] at this;omega
 obtain⟨b,o,rfl,hc⟩:=hg.at_ (by omega);obtain⟨A1,c1,hc1,hs1⟩:=hc _ _ (hg.get hx);obtain⟨A0,c0,hc0,hs0⟩:=hc _ _ (hg.get ht0);obtain⟨gb,go,rfl,hcn⟩:=hs.at_ hq;have n0:=hcn 0 _ (jch t 0 (by omega));rw [show t[0]'(by omega)=t.getD 0 0 from by simp [show 0<t.length by omega],Nat.add_zero] at n0;obtain⟨L1,hL1⟩:∃L,L=(rs.getD x []).length:=⟨_,rfl⟩;obtain⟨L0,hL0⟩:∃L,L=(rs.getD (t.getD 0 0) []).length:=⟨_,rfl⟩;have hoff:offB rs t x=decide (L1≠L0):=by rw [offB,hL1,hL0]
 rw [<-hL1] at hc1 hs1;rw [<-hL0] at hc0 hs0;rw [hoff];obtain⟨x0,hx0⟩:∃x,x=t.getD 0 0:=⟨_,rfl⟩;rw [<-hx0] at hc0 n0 ht0;have hm1:=hs1.lim;have hm0:=hs0.lim;unfold maxLen at hm1 hm0;have hlim:=hg.lim;have hlq:=hs.lim;unfold maxLen at hlim hlq;have hq0:(0:Int)<(q:Int):=by omega
 have hx1i:(x:Int)<(n:Int):=by omega
 have hx0i:(x0:Int)<(n:Int):=by omega
 clear hc hs1 hs0 hcn hx0 hL1 hL0 hoff hg hs htl
 by_cases heq:L1=L0
 ·have hzz:(((L1:Int) !=(L0:Int)))=false:=by simp [heq]
  have Heq:=qH heq;clear heq;go_enter Tryz.func268,Tryz.ntmps268;go_wp2_with fail;go_quiet (fail);go_wp2_with fail;go_ret;exact⟨by rw [decide_eq_false (by simp [Heq.out])];rfl,nq,rfl⟩
 ·have hzz:(((L1:Int) !=(L0:Int)))=true:=by simp;omega
  have Heq:=qH heq;clear heq;go_enter Tryz.func268,Tryz.ntmps268;go_wp2_with fail;go_quiet (fail);go_wp2_with fail;go_ret;exact⟨by rw [decide_eq_true Heq.out];rfl,nq,rfl⟩
theorem jkZ (b1 b2:Nat)(A:Option Addr)(n c:Nat)(rs:List (List UInt8))(B:Option Addr)(q d:Nat)(t:List Nat)(w:World)(hg:Gr w A n c rs)(hs:Sl w 1 B q d (jay t))(k1:w.cell? ⟨b1,0,none⟩=some (.slice A n c))(k2:w.cell? ⟨b2,0,none⟩=some (.slice B q d))
  (ht:∀a,a<q->t.getD a 0<n):
  Calls Tryz.prog 260 #[.slice B q d, .func (.func 268) #[] #[.pointer (some ⟨b1,0,none⟩), .pointer (some ⟨b2,0,none⟩)]] w
   λ e w' =>Below w.heap.size w w' ∧((e= .returned (.int .i64 (-1))∧∀a,a<q->offB rs t (t.getD a 0)=false)∨∃d:Nat,e= .returned (.int .i64 (d:Int))∧d<q∧offB rs t (t.getD d 0)=true):=by
 have hn:=hs.lim;unfold maxLen at hn;have htl:t.length=q:=by
  have:=hs.len;rw [jar] at this;omega
 have hk1:=World.block_lt_of_cell? w _ k1;have hk2:=World.block_lt_of_cell? w _ k2;have Hg:=qH hg;clear hg;have Hs:=qH hs;clear hs;have K1:=qH k1;clear k1;have K2:=qH k2;clear k2;have Hk1:=qH hk1;clear hk1;have Hk2:=qH hk2;clear hk2;have Ht:=qH ht;clear ht;have Htl:=qH htl;clear htl;go_enter Tryz.func260,Tryz.ntmps260;go_wp2_with fail;go_loopw [8] (λ i wr=>∃k:Nat,k<=q∧i= .int .i64 (k:Int)∧Below w.heap.size w wr∧∀j,j<k->offB rs t (t.getD j 0)=false) (λ i _=>q-(intOf i).toNat)
 case atStart=>exact⟨0,by omega,rfl,Below.refl _ _,λ j hj=>absurd hj (by omega)⟩
 case round=>
  obtain⟨k,hk,rfl,hb,hz⟩:=hrel;have Hz:=qH hz;clear hz;have Hb:=qH hb;clear hb
  by_cases hlt:k<q
  ·have hkl:k<t.length:=by rw [Htl.out];exact hlt
   have hs':=Hs.out.below Hb.out (Nat.le_refl _);have hh:=ji1 b1 b2 A n c rs B q d t (t.getD k 0) wr (Hg.out.later Hb.out) hs' ((Hb.out.cell Hk1.out).trans K1.out) ((Hb.out.cell Hk2.out).trans K2.out) (Ht.out k hlt) (by omega) (Ht.out 0 (by omega));obtain⟨x,hx⟩:∃x,x=offB rs t (t.getD k 0):=⟨_,rfl⟩;rw [<-hx] at hh;obtain⟨b1',o1,rfl,hc⟩:=hs'.at_ hlt;have hcell:=hc k _ (jch t k hkl);rw [show t[k]=t.getD k 0 from by simp [hkl]] at hcell;clear hc hs';obtain⟨z,hzz⟩:∃z,z=t.getD k 0:=⟨_,rfl⟩;rw [<-hzz] at hcell hh;have Hzz:=qH hzz;clear hzz;have Hx:=qH hx;clear hx
   cases x
   ·go_wp2_with fail
    refine hh.mono ?_;clear hh;rintro e w' ⟨rfl,kd,hw'⟩;have Hb':=qH (show Below w.heap.size w w' from by rw [hw'];exact below_drewN Hb.out kd);clear hw';go_wp2_with fail;go_roundw
    case rel=>exact⟨k+1,by omega,by go_num,Hb'.out,λ j hjk=>by
     by_cases he:j=k
     ·subst he;rw [<-Hx.out]
     ·exact Hz.out j (by omega)⟩
    case measure=>simp [intOf];omega
   ·go_wp2_with fail
    refine hh.mono ?_;clear hh;rintro e w' ⟨rfl,kd,hw'⟩;have Hb':=qH (show Below w.heap.size w w' from by rw [hw'];exact below_drewN Hb.out kd);clear hw';go_wp2_with fail;go_ret;exact⟨Hb'.out, .inr ⟨k,rfl,hlt,by rw [<-Hx.out]⟩⟩
  ·obtain rfl:k=q:=by omega
   go_wp2_with fail;go_ret;exact⟨Hb.out, .inl ⟨rfl,Hz.out⟩⟩
theorem jgP (b1 b2:Nat)(A:Option Addr)(n c:Nat)(rs:List (List UInt8))(B:Option Addr)(q d:Nat)(t:List Nat)(w:World)(hg:Gr w A n c rs)(hs:Sl w 1 B q d (jay t))(k1:w.cell? ⟨b1,0,none⟩=some (.slice A n c))(k2:w.cell? ⟨b2,0,none⟩=some (.slice B q d))
  (ht:∀a,a<q->t.getD a 0<n):
  Calls Tryz.prog 230 #[.slice B q d, .func (.func 268) #[] #[.pointer (some ⟨b1,0,none⟩), .pointer (some ⟨b2,0,none⟩)]] w
   λ e w' =>Below w.heap.size w w' ∧((e= .returned (.bool false)∧∀a,a<q->offB rs t (t.getD a 0)=false)∨(e= .returned (.bool true)∧∃a,a<q∧offB rs t (t.getD a 0)=true)):=by
 have hh:=jkZ b1 b2 A n c rs B q d t w hg hs k1 k2 ht;clear hg hs k1 k2 ht;go_enter Tryz.func230,Tryz.ntmps230;go_wp2_with fail;refine hh.mono ?_;clear hh;rintro e w' ⟨hb,⟨rfl,ha⟩|⟨d,rfl,hd,ha⟩⟩
 ·have Ha:=qH ha;clear ha
  go_wp2_with fail;go_ret;exact⟨hb, .inl ⟨rfl,Ha.out⟩⟩
 ·have Ha:=qH ha;clear ha
  go_wp2_with fail;go_ret;exact⟨hb, .inr ⟨rfl,d,hd,Ha.out⟩⟩
theorem jeg (A:Option Addr)(n c:Nat)(rs:List (List UInt8))(B:Option Addr)(q d:Nat)(w:World)(hg:Gr w A n c rs)(hs:Sl w 1 B q d (jay (jae rs n))):
  Calls Tryz.prog 247 #[.slice A n c, .slice B q d] w λ e w' =>e= .returned (.bool (jd3 rs))∧Below w.heap.size w w':=by
 have hlen:=hg.len;have htl:(jae rs n).length=q:=by
  have:=hs.len;rw [jar] at this;omega
 have hb0:Below w.heap.size w ((w.alloc (.cells #[.slice A n c] 101)).alloc (.cells #[.slice B q d] 71)):=((Below.refl _ _).alloc (Nat.le_refl _) _).alloc (by simp) _;have hx1:=jbJ w (.cells #[.slice A n c] 101) (.cells #[.slice B q d] 71);have hx2:=jaQ w (.cells #[.slice A n c] 101) (.cells #[.slice B q d] 71);have hh:=jgP w.heap.size (w.heap.size+1) A n c rs B q d (jae rs n) _ (hg.later hb0) (hs.below hb0 (Nat.le_refl _)) (cell_of_one hx1) (cell_of_one hx2) (λ a ha=>jc5 (by omega));have c2:=cell_of_one hx2;obtain⟨t,ht⟩:∃t,t=jae rs n:=⟨_,rfl⟩;rw [<-ht] at hh htl;have Ht:=qH ht;clear ht;have Hlen:=qH hlen;clear hlen;have Htl:=qH htl;clear htl;have Hb0:=qH hb0;clear hb0 hx1 hx2 hg hs;go_enter Tryz.func247,Tryz.ntmps247;go_wp2_with fail;refine hh.mono ?_;clear hh;rintro e w' ⟨hb,⟨rfl,ha⟩|⟨rfl,a,haq,ha⟩⟩
 ·have hl:jd3 rs=true:=decide_eq_true λ a h=>by
   rw [Hlen.out,<-Ht.out] at h ⊢;have:=ha a (by rw [<-Htl.out];exact h);rw [offB,decide_eq_false_iff_not,Decidable.not_not] at this;exact this
  have Hl:=qH hl;clear ha hl;go_wp2_with fail;go_ret;exact⟨by rw [Hl.out];rfl,Hb0.out.trans (hb.mono Hb0.out.size)⟩
 ·have hl:jd3 rs=false:=decide_eq_false λ h=>by
   have h1:=h a (by rw [Hlen.out,<-Ht.out,Htl.out];exact haq);rw [Hlen.out,<-Ht.out] at h1;rw [offB] at ha;exact(of_decide_eq_true ha) h1
  have Hl:=qH hl;clear ha hl haq;go_wp2_with fail;go_ret;exact⟨by rw [Hl.out];rfl,Hb0.out.trans (hb.mono Hb0.out.size)⟩
theorem jdO (C k m F T:Nat)(w:World)(h:Cod w C k m F T):
  Calls Tryz.prog 245 #[.pointer (some ⟨C,0,none⟩)] w λ e w' =>e= .returned (.bool true)∧w' =w:=by
 go_enter Tryz.func245,Tryz.ntmps245;go_wp2_with fail;refine(jdK C k m F T _ h).mono ?_;rintro e w1 ⟨rfl,rfl⟩;go_wp2_with fail;go_ret;exact⟨rfl,rfl⟩
end
section
end
section
def facM (k:Nat)(t:List Nat):Mx:=λ a j=>facB k (t.getD a 0) j
theorem jpb (R D:Nat)(f:Nat->Nat->UInt8):tabL R D f ++(List.range D).map (f R)=tabL (R+1) D f:=by
 unfold tabL;rw [Nat.add_mul,Nat.one_mul,List.range_add,List.map_append]
 congr 1
 rw [List.map_map]
 apply List.map_congr_left
 intro j hj;have h:=jgM (i:=R) (List.mem_range.1 hj)
 show f R j=f ((R*D+j) / D) ((R*D+j) % D)
 rw [h.1,h.2]
theorem jdp (C k m F T:Nat)(B:Option Addr)(q d:Nat)(t:List Nat)(w:World)(h:Cod w C k m F T)(hs:Sl w 1 B q d (jay t))(ht:∀a,a<q->t.getD a 0<k+m)(hq:q<=255):
  Calls Tryz.prog 278 #[.pointer (some ⟨C,0,none⟩), .slice B q d] w λ e w' =>(∃A c,e= .returned (.agg #[.int .i64 (q:Int), .int .i64 (k:Int), .slice A (q*k) c])∧Grow w' w.heap.size A (q*k) c (tabL q k (facM k t)))∧Below w.heap.size w w':=by
 have h3:=h.n255;have hk1:=h.k1;have hqk:q*k<=255*255:=Nat.mul_le_mul hq (by omega);have htl:t.length=q:=by
  have:=hs.len;rw [jar] at this;omega
 have H:=qH h;clear h;have Hs:=qH hs;clear hs;have Ht:=qH ht;clear ht;have Htl:=qH htl;clear htl;have Hqk:=qH hqk;clear hqk;go_enter Tryz.func278,Tryz.ntmps278;go_wp2_with fail;go_loopw [5,10] (λ v i wr=>∃(r p:Nat) (A:Option Addr) (c:Nat),r<=q∧p=r*k∧i= .int .i64 (r:Int)∧v= .slice A p c∧Below w.heap.size w wr∧w.heap.size+1<=wr.heap.size∧
   wr.heap[w.heap.size]? =some (.cells #[.int .i64 0, .int .i64 0, .slice none 0 0] 338 (0,0))∧Grow wr (w.heap.size+1) A p c (tabL r k (facM k t))) (λ _ i _=>q-(intOf i).toNat)
 case atStart=>
  exact⟨0,0,none,0,by omega,by simp,rfl,rfl,(Below.refl _ _).alloc (Nat.le_refl _) _,by simp,heap_alloc_new w _,by simpa [tabL] using Grow.nil (w.alloc (.cells #[.int .i64 0, .int .i64 0, .slice none 0 0] 338)) (w.heap.size+1)⟩
 case round=>
  obtain⟨r,p,A,c,hr,hp,rfl,rfl,hb,hsz,hr0,ho⟩:=hrel;have Hp:=qH hp;clear hp;have Ho:=qH ho;clear ho;have Hr0:=qH hr0;clear hr0;have Hb:=qH hb;clear hb
  by_cases hlt:r<q
  ·have hrl:r<t.length:=by rw [Htl.out];exact hlt
   obtain⟨b1,o1,rfl,hc⟩:=(Hs.out.below Hb.out (Nat.le_refl _)).at_ hlt;have hcell:=hc r _ (jch t r hrl);rw [show t[r]=t.getD r 0 from by simp [hrl]] at hcell;clear hc;have hx3:=Ht.out r hlt;have hrow:(List.range k).map (facM k t r)=rowC k (t.getD r 0):=rfl;obtain⟨x,hx⟩:∃x,x=t.getD r 0:=⟨_,rfl⟩;rw [<-hx] at hcell hx3 hrow;have hh:=jmM C k m F T (x:Int) x rfl hx3 wr (H.out.later Hb.out);have Hrow:=qH hrow;clear hrow hx;go_wp2_with fail;refine hh.mono ?_;clear hh;rintro e w2 ⟨Ac,nc,cc,rfl,hsc,hb2⟩;have hnc:nc=k:=by
    have:=hsc.len;rw [jaa,jcB] at this;omega
   subst hnc;have hs2:=hb2.size;have Hb2:=qH hb2;have Hsc:=qH hsc;clear hsc hb2;have hpk:p+nc<=65025:=by
    have h1:(r+1)*nc<=q*nc:=Nat.mul_le_mul_right _ hlt;rw [Nat.add_mul,Nat.one_mul] at h1;have:=Hp.out;have:=Hqk.out;omega
   go_wp2_with (at_builtin;refine jaG (B:=w.heap.size+1) rfl (.tmp 14) (.tmp 17) rfl rfl (Ho.out.below Hb2.out).own ?pa Ac nc cc (rowC nc x) rfl Hsc.out ?pb ?pc)
   case pa=>omega
   case pb=>omega
   intro A3 c3 w4 ho4 hb4 hrow4;have hbw:Below (w.heap.size+1) wr w4:=(Hb2.out.mono hsz).trans hb4;have hr4:=(hbw.block w.heap.size (by omega)).trans Hr0.out;have G4:Grow w4 (w.heap.size+1) A3 (p+nc) c3 (tabL (r+1) nc (facM nc t)):=by
    rw [<-jpb,Hrow.out];exact⟨by rw [jai];exact ho4,λ h=>by rw [jai];exact hrow4 (by omega)⟩
   have HG:=qH G4;have H4:=qH hr4;have Hbw:=qH (Hb.out.trans (hbw.mono (by omega)));have hs4:=hbw.size;clear G4 ho4 hrow4 hr4 hbw hb4;go_wp2_with fail;go_roundw
   case rel=>exact⟨r+1,p+nc,A3,c3,by omega,by rw [Nat.add_mul,Nat.one_mul,Hp.out],by go_num,rfl,Hbw.out,by omega,H4.out,HG.out⟩
   case measure=>simp [intOf];omega
  ·obtain rfl:r=q:=by omega
   have hk:=jeE C k m F T wr (H.out.later Hb.out);go_wp2_with fail;refine hk.mono ?_;clear hk;rintro e w2 ⟨rfl,rfl⟩;have r0:w2.cell? ⟨w.heap.size,0,none⟩=some (.int .i64 0):=by rw [cell_of_row _ _ _ _ _ _ Hr0.out];rfl
   have r1:w2.cell? ⟨w.heap.size,1,none⟩=some (.int .i64 0):=by rw [cell_of_row _ _ _ _ _ _ Hr0.out];rfl
   have r2:w2.cell? ⟨w.heap.size,2,none⟩=some (.slice none 0 0):=by rw [cell_of_row _ _ _ _ _ _ Hr0.out];rfl
   have y0:w2.frozen? ⟨w.heap.size,0,none⟩=false:=frozen_of_row _ _ _ _ _ Hr0.out;have y1:w2.frozen? ⟨w.heap.size,1,none⟩=false:=frozen_of_row _ _ _ _ _ Hr0.out;have y2:w2.frozen? ⟨w.heap.size,2,none⟩=false:=frozen_of_row _ _ _ _ _ Hr0.out;go_wp2_with fail;have e0:=heap_setCell_same w2 w.heap.size 0 _ _ (.int .i64 (r:Int)) Hr0.out;have e1:=heap_setCell_same _ w.heap.size 1 _ _ (.int .i64 (k:Int)) e0;have e2:=heap_setCell_same _ w.heap.size 2 _ _ (.slice A p c) e1;refine bodyPost_ret (results_cell_row Tryz.results278 _ _ w.heap.size 338 _ (0,0) _ rfl e2 Tryz.underlying338 rfl jbm) rfl ?_;have hs:=((Ho.out.set (p:=⟨w.heap.size,0,none⟩) (by simp) (.int .i64 (r:Int))).set (p:=⟨w.heap.size,1,none⟩) (by simp) (.int .i64 (k:Int))).set (p:=⟨w.heap.size,2,none⟩) (by simp) (.slice A p c);rw [<-Hp.out]
   exact⟨⟨A,c,rfl,hs.lower (by omega)⟩,((Hb.out.setCell (Nat.le_refl _) _).setCell (Nat.le_refl _) _).setCell (Nat.le_refl _) _⟩
end
section
theorem jdd {w:World}{B n c:Nat}{A:Option Addr}{l:List UInt8}(h:Grow w B A n c l)(hn:0<n){b o:Nat}(hA:A=some ⟨b,o,none⟩):B<=b:=jbN (h.row hn) hn hA
theorem jmO {w:World}{g n:Nat}{t:TypeId}(hg:w.heap[g]? =some (.cells #[.int .i64 (n:Int)] t (0,0))):Sl w 1 (some ⟨g,0,none⟩) 1 1 (jay [n]):=
 ⟨rfl,Nat.le_refl _,by decide,λ j u hu=>⟨g,0,rfl,by rw [cell_of_row _ _ _ _ _ _ hg,Nat.zero_add];simpa [jay] using hu⟩⟩
theorem one_lt {x n:Nat}(hx:x<n):∀a,a<1->([x]:List Nat).getD a 0<n:=λ a ha=>by
 obtain rfl:a=0:=by omega
 exact hx
theorem jkd {k m:Nat}{t:List Nat}(h3:k+m<=255)(ht:∀a,a<k->t.getD a 0<k+m)(hd:∀i,i<k->∀j,j<i->t.getD i 0≠t.getD j 0):∃X:Mx,Alike k k (mm k X (facM k t)) one:=
 let ⟨X,h,_⟩:=jjy (k:=k) (l:=λ a=>t.getD a 0) (by omega) (λ a ha=>by have:=ht a ha;omega) hd
 ⟨X,h⟩
theorem jhI (k:Nat)(f:Mx):Alike k k (mx k (tabL k k f)) f:=λ i hi j hj=>jgN f hi hj
theorem jhJ {n:Nat}{X M M':Mx}(e:Alike n n M M'):Alike n n (mm n X M) (mm n X M'):=λ i hi j hj=>jaz n λ k hk=>by rw [e k hk j hj]
theorem jqe (C k m F T:Nat)(A:Option Addr)(c:Nat)(t:List Nat)(w:World)(h:Cod w C k m F T)(hs:Sl w 1 A (k*k) c (cells (tabL k k (facM k t))))(hoff:Off T A (k*k))(ht:∀a,a<k->t.getD a 0<k+m)(hd:∀i,i<k->∀j,j<i->t.getD i 0≠t.getD j 0):
  Calls Tryz.prog 277 #[.pointer (some ⟨F,0,none⟩), .agg #[.int .i64 (k:Int), .int .i64 (k:Int), .slice A (k*k) c]] w
   λ e w' =>∃(X:Mx) (A':Option Addr) (c':Nat),Alike k k (mm k X (facM k t)) one∧e= .returned (.tuple #[.agg #[.int .i64 (k:Int), .int .i64 (k:Int), .slice A' (k*k) c'], .int .i64 0])∧Sl w' 1 A' (k*k) c' (cells (tabL k k X))∧(∀b o,A' =some ⟨b,o,none⟩->w.heap.size<=b∧b<w'.heap.size)∧Below w.heap.size w w':=by
 have h1:=h.k1;have h3:=h.n255;have hkk:0<k*k:=Nat.mul_pos (by omega) (by omega);refine(jkR F T k A (k*k) c (tabL k k (facM k t)) (by omega) (by omega) rfl w h.fld.fld ⟨hs,hoff⟩).mono ?_;rintro e w' ⟨hr,hf1,hfr⟩;have hb:=Fr.madeAll h.fld hf1 hfr
 rcases hr with ⟨L,hL,hrk,_⟩|⟨X,hX,A',c',rfl,hG⟩
 ·obtain⟨X,hX⟩:=jkd h3 ht hd
  have:=(jgJ (A:=X) (λ i hi j hj=>(jhJ (jhI k (facM k t)) i hi j hj).trans (hX i hi j hj))).unique hrk;omega
 ·exact⟨X,A',c',λ i hi j hj=>(jhJ (λ i hi j hj=>(jhI k (facM k t) i hi j hj).symm) i hi j hj).trans (hX i hi j hj),rfl,hG.own.sl,λ b o e=>⟨jdd hG hkk e,hG.own.sl.lt (by decide) hkk e⟩,hb⟩
def jeh (k:Nat)(X:Mx)(x:Nat):List UInt8:=rowL k λ b=>xs k λ j=>gm (facB k x j) (X j b)
theorem jcW (k:Nat)(X:Mx)(x:Nat):(jeh k X x).length=k:=jag _ _
theorem tab1 (k:Nat)(f:Nat->Nat->UInt8):tabL 1 k f=rowL k (f 0):=by
 apply List.ext_getElem
 ·rw [jcy,jag,Nat.one_mul]
 ·intro i h1 h2
  rw [jag] at h2;have e1:=jj3 1 k f i (by omega);have e2:=jbZ k (f 0) i h2;rw [List.getElem?_eq_getElem h1,Nat.div_eq_of_lt h2,Nat.mod_eq_of_lt h2,<-e2,List.getElem?_eq_getElem (by rw [jag];exact h2)] at e1;exact Option.some.inj e1
theorem jfs (C k m F T:Nat)(B:Option Addr)(d x:Nat)(w:World)(h:Cod w C k m F T)(hs:Sl w 1 B 1 d (jay [x]))(hx:x<k+m):
  Calls Tryz.prog 278 #[.pointer (some ⟨C,0,none⟩), .slice B 1 d] w λ e w' =>(∃A c,e= .returned (.agg #[.int .i64 1, .int .i64 (k:Int), .slice A k c])∧Grow w' w.heap.size A k c (rowC k x))∧Below w.heap.size w w':=by
 have hh:=jdp C k m F T B 1 d [x] w h hs (one_lt hx) (by omega);rw [tab1,Nat.one_mul] at hh;exact hh
theorem jqf (C k m F T:Nat)(A:Option Addr)(c x:Nat)(A5:Option Addr)(c5:Nat)(X:Mx)(w:World)(h:Cod w C k m F T)(hs:Sl w 1 A k c (cells (rowC k x)))(hoff:Off T A k)(hs5:Sl w 1 A5 (k*k) c5 (cells (tabL k k X)))(hoff5:Off T A5 (k*k)):
  Calls Tryz.prog 280 #[.pointer (some ⟨F,0,none⟩), .agg #[.int .i64 1, .int .i64 (k:Int), .slice A k c], .agg #[.int .i64 (k:Int), .int .i64 (k:Int), .slice A5 (k*k) c5]] w
   λ e w' =>∃(A':Option Addr) (c':Nat),e= .returned (.tuple #[.agg #[.int .i64 1, .int .i64 (k:Int), .slice A' k c'], .int .i64 0])∧Sl w' 1 A' k c' (cells (jeh k X x))∧(∀b o,A' =some ⟨b,o,none⟩->w.heap.size<=b∧b<w'.heap.size)∧Below w.heap.size w w':=by
 have h1:=h.k1;have h3:=h.n255;refine(jqT F T 1 k k A k c (rowC k x) A5 (k*k) c5 (tabL k k X) (by omega) (by omega) (by omega) (by omega) (by omega) (by omega) (by omega) rfl w h.fld.fld ⟨hs,hoff⟩ ⟨hs5,hoff5⟩).mono ?_;rintro e w' ⟨⟨A',c',rfl,hG⟩,hf1,hfr⟩;have hb:=Fr.madeAll h.fld hf1 hfr;have e:tabL 1 k (mm k (mx k (rowC k x)) (mx k (tabL k k X)))=jeh k X x:=by
  rw [tab1]
  apply jbn
  intro b hb
  apply jaz
  intro j hj;rw [jgN _ hj hb,mx,Nat.zero_mul,Nat.zero_add,jfo k x j hj]
 rw [e,Nat.one_mul] at hG;exact⟨A',c',by rw [Nat.one_mul];rfl,hG.own.sl,λ b o e=>⟨jdd hG (by omega) e,hG.own.sl.lt (by decide) (by omega) e⟩,hb⟩
structure Pln (w:World)(B C k T g2 g5:Nat)(t:List Nat)(X:Mx):Prop where
 inv:Alike k k (mm k X (facM k t)) one
 ex:∃(A:Option Addr) (c:Nat),w.heap[g2]? =some (.cells #[.pointer (some ⟨C,0,none⟩)] 31 (0,0))∧w.heap[g5]? =some (.cells #[.int .i64 (k:Int), .int .i64 (k:Int), .slice A (k*k) c] 338 (0,0))∧Sl w 1 A (k*k) c (cells (tabL k k X))∧∀b o,A=some ⟨b,o,none⟩->B<=b
 hT:T<B
 h2:B<=g2
 h5:B<=g5
theorem Pln.fr {S:Nat->Prop}{w w':World}{B C k T g2 g5:Nat}{t:List Nat}{X:Mx}(h:Pln w B C k T g2 g5 t X)(hf:Fr S w w')(hS:∀b,S b->b<B):Pln w' B C k T g2 g5 t X:=by
 obtain⟨A,c,h1,h2,h3,h4⟩:=h.ex;have h2':=h.h2;have h5':=h.h5;exact⟨h.inv,⟨A,c,hf.row_some h1 (λ hk=>by have:=hS _ hk;omega),hf.row_some h2 (λ hk=>by have:=hS _ hk;omega),h3.fr hf (λ b o _ e hk=>by have:=hS _ hk;have:=h4 b o e;omega),h4⟩,h.hT,h.h2,h.h5⟩
theorem Pln.later {w w':World}{B C k T g2 g5:Nat}{t:List Nat}{X:Mx}(h:Pln w B C k T g2 g5 t X)(hb:Below w.heap.size w w'):Pln w' B C k T g2 g5 t X:=h.fr (S:=λ _=>False) (Fr.of_below hb) (λ _ h=>h.elim)
theorem ji2 (C k m F T:Nat)(B:Option Addr)(d:Nat)(t:List Nat)(w:World)(h:Cod w C k m F T)(hs:Sl w 1 B k d (jay t))(ht:∀a,a<k->t.getD a 0<k+m)(hd:∀i,i<k->∀j,j<i->t.getD i 0≠t.getD j 0):
  Calls Tryz.prog 269 #[.pointer (some ⟨C,0,none⟩), .slice B k d] w
   λ e w' =>∃(g2 g5:Nat) (X:Mx),e= .returned (.func (.func 279) #[] #[.pointer (some ⟨g2,0,none⟩), .pointer (some ⟨g5,0,none⟩)])∧Pln w' w.heap.size C k T g2 g5 t X∧Below w.heap.size w w':=by
 have h1:=h.k1;have h3:=h.n255;have hT:=h.fld.fld.ltT;have hkk:0<k*k:=Nat.mul_pos (by omega) (by omega);have hb0:Below w.heap.size w (w.alloc (.cells #[.pointer (some ⟨C,0,none⟩)] 31)):=(Below.refl _ _).alloc (Nat.le_refl _) _;have hg2:=heap_alloc_new w (.cells #[.pointer (some ⟨C,0,none⟩)] 31);have k2:=cell_of_one hg2;have H2:=qH (h.later hb0);have Hs2:=qH (hs.below hb0 (Nat.le_refl _));have Ht:=qH ht;have Hd:=qH hd;have Hkk:=qH hkk;clear h hs ht hd;go_enter Tryz.func269,Tryz.ntmps269;go_upto_region 1 with (fail)
 have hsz2:=hb0.size;obtain⟨w2,hw2⟩:∃x,x=w.alloc (.cells #[.pointer (some ⟨C,0,none⟩)] 31):=⟨_,rfl⟩;obtain⟨g2,hgd⟩:∃x,x=w.heap.size:=⟨_,rfl⟩;rw [<-hw2] at hb0 hg2 k2 H2 Hs2 hsz2 ⊢;rw [<-hgd] at hg2 k2 ⊢;have Hgd:=qH hgd;have Hb2:=qH hb0;have Hg2:=qH hg2;have K2:=qH k2;have hTs:T<w2.heap.size:=by omega
 clear hw2 hb0 hg2 k2 hgd;refine wp_region_held_drew (S:=λ w' =>Below w2.heap.size w2 w') (by kernel_rfl) (Below.drew (Below.refl _ _)) (λ hHeld=> ?_);clear hHeld;have hHeld:Below w2.heap.size w2 w2.drew:=Below.drew (Below.refl _ _);have hz_0:w2.heap.size<=w2.drew.heap.size∧w2.drew.heap.size<=w2.heap.size:=⟨Nat.le_refl _,Nat.le_refl _⟩;obtain⟨v_W0,hw⟩:∃v_W0,v_W0=w2.drew:=⟨_,rfl⟩;rw [<-hw] at hHeld hz_0 ⊢;clear hw;refine tA 0 (some 8) rfl hHeld ?_ (λ wq hSw=>by
  have q0:=(hSw.cell (World.block_lt_of_cell? w2 _ K2.out)).trans K2.out;go_simp<;>with_reducible rfl)
 refine tA 2 (some 10) rfl hHeld ?_ (λ wq hSw=>by
  have q0:=(hSw.cell (World.block_lt_of_cell? w2 _ K2.out)).trans K2.out;go_simp<;>with_reducible rfl)
 refine tA 3 (some 11) rfl hHeld ?_;refine wpAnyH_ready (rs:= [1,9]) (by kernel_rfl) (by simp) ?_;refine AllReadyH.cons (o:=⟨some 9,_,_,_,_,_⟩) rfl (λ K hK=> ?_) (AllReadyH.cons (o:=⟨some 5,_,_,_,_,_⟩) rfl (λ K hK=> ?_) (AllReadyH.nil))
 focus
  go_simp;have hh:=jdK C k m F T v_W0 (H2.out.later hHeld);refine hh.mono ?_;clear hh;rintro e wn ⟨rfl,hwn⟩;rw [hwn];clear hwn wn;have hfN:Fr (λ _=>False) v_W0 v_W0:=Fr.refl _ _;have hH2:=hHeld;go_wp2_with fail;have hHeld:=hH2;clear hH2;have hz_3:=hfN.size;refine hK.out _ _ hHeld λ _=> ?_
  clear hK K hfN
  try simp only [Act.put,sA,sB,sC]
 rotate_left
 focus
  go_simp;obtain⟨g_box,hg⟩:∃g,g=v_W0.heap.size:=⟨_,rfl⟩;have hbN:Below v_W0.heap.size v_W0 (v_W0.alloc (.cells #[.int .i64 0, .int .i64 0, .slice none 0 0] 338)):=(Below.refl _ _).alloc (Nat.le_refl _) _;have hx:=heap_alloc_new v_W0 (.cells #[.int .i64 0, .int .i64 0, .slice none 0 0] 338);have hz_5:v_W0.heap.size+1<=(v_W0.alloc (.cells #[.int .i64 0, .int .i64 0, .slice none 0 0] 338)).heap.size∧(v_W0.alloc (.cells #[.int .i64 0, .int .i64 0, .slice none 0 0] 338)).heap.size<=v_W0.heap.size+1:=by simp
  obtain⟨v_W1,hw⟩:∃v_W1,v_W1=v_W0.alloc (.cells #[.int .i64 0, .int .i64 0, .slice none 0 0] 338):=⟨_,rfl⟩;rw [<-hw] at hbN hx hz_5 ⊢;clear hw;rw [<-hg] at hx ⊢;have hHeld:=hHeld.trans (hbN.mono hHeld.size);have hfN:Fr (λ _=>False) v_W0 v_W1:=Fr.of_below hbN;clear hbN;have blbox_L1:=qH hx;clear hx;have hz_7:g_box<=v_W0.heap.size∧v_W0.heap.size<=g_box:=by omega
  clear hg;refine hK.out _ _ hHeld λ _=> ?_
  clear hK K hfN
  try simp only [Act.put,sA,sB,sC]
 rotate_left
 all_goals first
  |
   refine wpAnyH_ready (rs:= [4,9]) (by kernel_rfl) (by simp) ?_;refine AllReadyH.cons (o:=⟨some 12,_,_,_,_,_⟩) rfl (λ K hK=> ?_) (AllReadyH.cons (o:=⟨some 5,_,_,_,_,_⟩) rfl (λ K hK=> ?_) (AllReadyH.nil))
   focus
    go_simp;have hh:=jdp C k m F T B k d t v_W0 (H2.out.later hHeld) (Hs2.out.below hHeld (Nat.le_refl _)) Ht.out (by omega);refine hh.mono ?_;clear hh;rintro e v_W1 ⟨⟨A2,c2,rfl,hG⟩,hbN⟩;have hA2:∀b o,A2=some ⟨b,o,none⟩->v_W0.heap.size<=b:=λ b o e=>jdd hG (hkk) e
    have fac_L2:=qH hG.own.sl;clear hG;have hfN:Fr (λ _=>False) v_W0 v_W1:=Fr.of_below hbN;have hH2:=hHeld.trans (hbN.mono hHeld.size);clear hbN;go_wp2_with fail;have hHeld:=hH2;clear hH2;have hz_11:=hfN.size;refine hK.out _ _ hHeld λ _=> ?_
    clear hK K hfN
    try simp only [Act.put,sA,sB,sC]
   rotate_left
   focus
    go_simp;obtain⟨g_box,hg⟩:∃g,g=v_W0.heap.size:=⟨_,rfl⟩;have hbN:Below v_W0.heap.size v_W0 (v_W0.alloc (.cells #[.int .i64 0, .int .i64 0, .slice none 0 0] 338)):=(Below.refl _ _).alloc (Nat.le_refl _) _;have hx:=heap_alloc_new v_W0 (.cells #[.int .i64 0, .int .i64 0, .slice none 0 0] 338);have hz_13:v_W0.heap.size+1<=(v_W0.alloc (.cells #[.int .i64 0, .int .i64 0, .slice none 0 0] 338)).heap.size∧(v_W0.alloc (.cells #[.int .i64 0, .int .i64 0, .slice none 0 0] 338)).heap.size<=v_W0.heap.size+1:=by simp
    obtain⟨v_W1,hw⟩:∃v_W1,v_W1=v_W0.alloc (.cells #[.int .i64 0, .int .i64 0, .slice none 0 0] 338):=⟨_,rfl⟩;rw [<-hw] at hbN hx hz_13 ⊢;clear hw;rw [<-hg] at hx ⊢;have hHeld:=hHeld.trans (hbN.mono hHeld.size);have hfN:Fr (λ _=>False) v_W0 v_W1:=Fr.of_below hbN;clear hbN;have blbox_L2:=qH hx;clear hx;have hz_15:g_box<=v_W0.heap.size∧v_W0.heap.size<=g_box:=by omega
    clear hg;refine hK.out _ _ hHeld λ _=> ?_
    clear hK K hfN
    try simp only [Act.put,sA,sB,sC]
   rotate_left
  |
   refine rW 1 (some 9) rfl λ K hK=> ?_
   go_simp;have hh:=jdK C k m F T v_W1 (H2.out.later hHeld);refine hh.mono ?_;clear hh;rintro e wn ⟨rfl,hwn⟩;rw [hwn];clear hwn wn;have hfN:Fr (λ _=>False) v_W1 v_W1:=Fr.refl _ _;have hH2:=hHeld;go_wp2_with fail;have hHeld:=hH2;clear hH2;have hz_17:=hfN.size;have blbox_L2:=qH (hfN.row_some blbox_L1.out id);clear blbox_L1;refine hK.out _ _ hHeld λ _=> ?_
   clear hK K hfN
   try simp only [Act.put,sA,sB,sC]
 all_goals first
  |
   refine wpAnyH_ready (rs:= [5,9]) (by kernel_rfl) (by simp) ?_;refine AllReadyH.cons (o:=⟨some 13,_,_,_,_,_⟩) rfl (λ K hK=> ?_) (AllReadyH.cons (o:=⟨some 5,_,_,_,_,_⟩) rfl (λ K hK=> ?_) (AllReadyH.nil))
   focus
    go_simp;have hh:=jqe C k m F T A2 c2 t v_W1 (H2.out.later hHeld) fac_L2.out (λ b o hn e=>by have:=hA2 b o e;have:=hHeld.size;omega) Ht.out Hd.out;refine hh.mono ?_;clear hh;rintro e v_W2 ⟨X,A6,c6,hx6,rfl,hs6,hA6,hbN⟩;have Hx6:=qH hx6;clear hx6;have res_L3:=qH hs6;clear hs6;have hfN:Fr (λ _=>False) v_W1 v_W2:=Fr.of_below hbN;have hH2:=hHeld.trans (hbN.mono hHeld.size);clear hbN;go_wp2_with fail;have hHeld:=hH2;clear hH2;have hz_22:=hfN.size;have fac_L3:=qH (fac_L2.out.fr hfN (λ _ _ _ _ h=>h));clear fac_L2;refine hK.out _ _ hHeld λ _=> ?_
    clear hK K hfN
    try simp only [Act.put,sA,sB,sC]
    refine tA 6 (some 7) rfl hHeld ?_;refine tA 7 (some 14) rfl hHeld ?_;refine tA 8 (some 15) rfl hHeld ?_
   rotate_left
   focus
    go_simp;obtain⟨g_box,hg⟩:∃g,g=v_W1.heap.size:=⟨_,rfl⟩;have hbN:Below v_W1.heap.size v_W1 (v_W1.alloc (.cells #[.int .i64 0, .int .i64 0, .slice none 0 0] 338)):=(Below.refl _ _).alloc (Nat.le_refl _) _;have hx:=heap_alloc_new v_W1 (.cells #[.int .i64 0, .int .i64 0, .slice none 0 0] 338);have hz_25:v_W1.heap.size+1<=(v_W1.alloc (.cells #[.int .i64 0, .int .i64 0, .slice none 0 0] 338)).heap.size∧(v_W1.alloc (.cells #[.int .i64 0, .int .i64 0, .slice none 0 0] 338)).heap.size<=v_W1.heap.size+1:=by simp
    obtain⟨v_W2,hw⟩:∃v_W2,v_W2=v_W1.alloc (.cells #[.int .i64 0, .int .i64 0, .slice none 0 0] 338):=⟨_,rfl⟩;rw [<-hw] at hbN hx hz_25 ⊢;clear hw;rw [<-hg] at hx ⊢;have hHeld:=hHeld.trans (hbN.mono hHeld.size);have hfN:Fr (λ _=>False) v_W1 v_W2:=Fr.of_below hbN;clear hbN;have fac_L3:=qH (fac_L2.out.fr hfN (λ _ _ _ _ h=>h));clear fac_L2;have blbox_L3:=qH hx;clear hx;have hz_28:g_box<=v_W1.heap.size∧v_W1.heap.size<=g_box:=by omega
    clear hg;refine hK.out _ _ hHeld λ _=> ?_
    clear hK K hfN
    try simp only [Act.put,sA,sB,sC]
   rotate_left
  |
   refine rW 4 (some 12) rfl λ K hK=> ?_
   go_simp;have hh:=jdp C k m F T B k d t v_W1 (H2.out.later hHeld) (Hs2.out.below hHeld (Nat.le_refl _)) Ht.out (by omega);refine hh.mono ?_;clear hh;rintro e v_W2 ⟨⟨A2,c2,rfl,hG⟩,hbN⟩;have hA2:∀b o,A2=some ⟨b,o,none⟩->v_W1.heap.size<=b:=λ b o e=>jdd hG (hkk) e
   have fac_L3:=qH hG.own.sl;clear hG;have hfN:Fr (λ _=>False) v_W1 v_W2:=Fr.of_below hbN;have hH2:=hHeld.trans (hbN.mono hHeld.size);clear hbN;go_wp2_with fail;have hHeld:=hH2;clear hH2;have hz_32:=hfN.size;have blbox_L3:=qH (hfN.row_some blbox_L2.out id);clear blbox_L2;refine hK.out _ _ hHeld λ _=> ?_
   clear hK K hfN
   try simp only [Act.put,sA,sB,sC]
 all_goals first
  |
   refine rW 9 (some 5) rfl λ K hK=> ?_
   go_simp;obtain⟨g_box,hg⟩:∃g,g=v_W2.heap.size:=⟨_,rfl⟩;have hbN:Below v_W2.heap.size v_W2 (v_W2.alloc (.cells #[.int .i64 0, .int .i64 0, .slice none 0 0] 338)):=(Below.refl _ _).alloc (Nat.le_refl _) _;have hx:=heap_alloc_new v_W2 (.cells #[.int .i64 0, .int .i64 0, .slice none 0 0] 338);have hz_35:v_W2.heap.size+1<=(v_W2.alloc (.cells #[.int .i64 0, .int .i64 0, .slice none 0 0] 338)).heap.size∧(v_W2.alloc (.cells #[.int .i64 0, .int .i64 0, .slice none 0 0] 338)).heap.size<=v_W2.heap.size+1:=by simp
   obtain⟨v_W3,hw⟩:∃v_W3,v_W3=v_W2.alloc (.cells #[.int .i64 0, .int .i64 0, .slice none 0 0] 338):=⟨_,rfl⟩;rw [<-hw] at hbN hx hz_35 ⊢;clear hw;rw [<-hg] at hx ⊢;have hHeld:=hHeld.trans (hbN.mono hHeld.size);have hfN:Fr (λ _=>False) v_W2 v_W3:=Fr.of_below hbN;clear hbN;have fac_L4:=qH (fac_L3.out.fr hfN (λ _ _ _ _ h=>h));clear fac_L3;have res_L4:=qH (res_L3.out.fr hfN (λ _ _ _ _ h=>h));clear res_L3;have blbox_L4:=qH hx;clear hx;have hz_39:g_box<=v_W2.heap.size∧v_W2.heap.size<=g_box:=by omega
   clear hg;refine hK.out _ _ hHeld λ _=> ?_
   clear hK K hfN
   try simp only [Act.put,sA,sB,sC]
  |
   refine rW 5 (some 13) rfl λ K hK=> ?_
   go_simp;have hh:=jqe C k m F T A2 c2 t v_W2 (H2.out.later hHeld) fac_L3.out (λ b o hn e=>by have:=hA2 b o e;have:=hHeld.size;omega) Ht.out Hd.out;refine hh.mono ?_;clear hh;rintro e v_W3 ⟨X,A6,c6,hx6,rfl,hs6,hA6,hbN⟩;have Hx6:=qH hx6;clear hx6;have res_L4:=qH hs6;clear hs6;have hfN:Fr (λ _=>False) v_W2 v_W3:=Fr.of_below hbN;have hH2:=hHeld.trans (hbN.mono hHeld.size);clear hbN;go_wp2_with fail;have hHeld:=hH2;clear hH2;have hz_43:=hfN.size;have fac_L4:=qH (fac_L3.out.fr hfN (λ _ _ _ _ h=>h));clear fac_L3;have blbox_L4:=qH (hfN.row_some blbox_L3.out id);clear blbox_L3;refine hK.out _ _ hHeld λ _=> ?_
   clear hK K hfN
   try simp only [Act.put,sA,sB,sC]
   refine tA 6 (some 7) rfl hHeld ?_;refine tA 7 (some 14) rfl hHeld ?_;refine tA 8 (some 15) rfl hHeld ?_
 all_goals
  refine rW 10 none rfl λ K hK=> ?_
  have q0:=jfh blbox_L4.out;have q1:=jfi blbox_L4.out;have q2:=jfj blbox_L4.out;have u0:=jaq blbox_L4.out 0;have u1:=jaq blbox_L4.out 1;have u2:=jaq blbox_L4.out 2;go_simp;have hx:=jcz (r:=(k:Int)) (c:=(k:Int)) (A:=A6) (n:=(k*k)) (cp:=c6) blbox_L4.out;have hfN:=jcV v_W3 (g_box) (k:Int) (k:Int) A6 (k*k) c6;have hHeld:=hHeld.trans (hfN.below hHeld.size (λ k hk=>by have hk:k=g_box:=hk;omega) |>λ q=>q);have hz_47:v_W3.heap.size<=(((v_W3.setCell ⟨g_box,0,none⟩ (.int .i64 (k:Int))).setCell ⟨g_box,1,none⟩ (.int .i64 (k:Int))).setCell ⟨g_box,2,none⟩ (.slice A6 (k*k) c6)).heap.size∧(((v_W3.setCell ⟨g_box,0,none⟩ (.int .i64 (k:Int))).setCell ⟨g_box,1,none⟩ (.int .i64 (k:Int))).setCell ⟨g_box,2,none⟩ (.slice A6 (k*k) c6)).heap.size<=v_W3.heap.size:=by simp
  obtain⟨v_W4,hw⟩:∃v_W4,v_W4=(((v_W3.setCell ⟨g_box,0,none⟩ (.int .i64 (k:Int))).setCell ⟨g_box,1,none⟩ (.int .i64 (k:Int))).setCell ⟨g_box,2,none⟩ (.slice A6 (k*k) c6)):=⟨_,rfl⟩;rw [<-hw] at hHeld hx hfN hz_47 ⊢;clear hw q0 q1 q2 u0 u1 u2;have fac_L5:=qH (trivial);clear fac_L4;have res_L5:=qH (res_L4.out.fr hfN (λ b o hn hA hk=>by have hk:b=g_box:=hk;have:=hA6 b o hA;omega));clear res_L4;clear blbox_L4;have blbox_L5:=qH hx;clear hx;refine hK.out _ _ hHeld λ _=> ?_
  clear hK K hfN
  try simp only [Act.put,sA,sB,sC]
  refine tA 11 (some 6) rfl hHeld ?_
 all_goals
  refine tD ?_;go_wp2_with fail;go_ret;have hx6:=Hx6.out;have hgd:=Hgd.out;exact⟨_,_,X,rfl,⟨hx6,⟨A6,c6,(hHeld.block _ (block_lt Hg2.out)).trans Hg2.out,blbox_L5.out,res_L5.out,λ b o e=>by have:=hA6 b o e;omega⟩,by omega,by omega,by omega⟩,Hb2.out.trans (hHeld.mono hsz2)⟩
theorem ji3 (B C k m F T g2 g5 x:Nat)(t:List Nat)(X:Mx)(w:World)(h:Cod w C k m F T)(hp:Pln w B C k T g2 g5 t X)(hx:x<k+m):
  Calls Tryz.prog 279 #[.int .i64 (x:Int), .pointer (some ⟨g2,0,none⟩), .pointer (some ⟨g5,0,none⟩)] w λ e w' =>∃A c,e= .returned (.slice A k c)∧Sl w' 1 A k c (cells (jeh k X x))∧Below w.heap.size w w':=by
 have h1:=h.k1;have hk1:0<k:=by omega
 have hT:=h.fld.fld.ltT;obtain⟨A5,c5,hg2,hg5,hs5,hof⟩:=hp.ex;have hTB:=hp.hT;have hoff5:Off T A5 (k*k):=λ b o _ e=>by have:=hof b o e;omega
 have k2:=cell_of_one hg2;have H2:=qH h;have Hg5:=qH hg5;have Hs5:=qH hs5;have Hoff5:=qH hoff5;have K2:=qH k2;clear h hp hg2 hg5 hs5 hoff5 k2 hof hTB;go_enter Tryz.func279,Tryz.ntmps279;go_upto_region 1 with (fail)
 refine wp_region_held_drew (S:=λ w' =>Below w.heap.size w w') (by kernel_rfl) (Below.drew (Below.refl _ _)) (λ hHeld=> ?_);clear hHeld;have hHeld:Below w.heap.size w w.drew:=Below.drew (Below.refl _ _);have hz_0:w.heap.size<=w.drew.heap.size∧w.drew.heap.size<=w.heap.size:=⟨Nat.le_refl _,Nat.le_refl _⟩;obtain⟨v_W0,hw⟩:∃v_W0,v_W0=w.drew:=⟨_,rfl⟩;rw [<-hw] at hHeld hz_0 ⊢;clear hw;refine tA 0 (some 8) rfl hHeld ?_ (λ wq hSw=>by
  have q0:=(hSw.cell (World.block_lt_of_cell? w _ K2.out)).trans K2.out;go_simp<;>with_reducible rfl)
 refine tA 2 (some 10) rfl hHeld ?_ (λ wq hSw=>by
  have q0:=(hSw.cell (World.block_lt_of_cell? w _ K2.out)).trans K2.out;go_simp<;>with_reducible rfl)
 refine tA 3 (some 11) rfl hHeld ?_;refine wpAnyH_take (i:=6) (oi:=⟨some 14,_,_,_,_,_⟩) rfl (by kernel_rfl) (by kernel_rfl) (by kernel_rfl) (λ _ _ _ h=>h) (Or.inl ⟨by rfl,by
  intro wq hSw
  (try dsimp only at hSw)
  have hx:=(hSw.block _ (block_lt Hg5.out)).trans Hg5.out;have q0:=jdn hx;have q1:=jcK hx;have q2:=jci hx;clear hx;go_simp<;>with_reducible rfl⟩) hHeld ?_
 try simp only [Act.put,sA,sB,sC]
 refine wpAnyH_ready (rs:= [1,4,11]) (by kernel_rfl) (by simp) ?_;refine AllReadyH.cons (o:=⟨some 9,_,_,_,_,_⟩) rfl (λ K hK=> ?_) (AllReadyH.cons (o:=⟨some 12,_,_,_,_,_⟩) rfl (λ K hK=> ?_) (AllReadyH.cons (o:=⟨some 5,_,_,_,_,_⟩) rfl (λ K hK=> ?_) (AllReadyH.nil)))
 focus
  go_simp;have hh:=jdK C k m F T v_W0 (H2.out.later hHeld);refine hh.mono ?_;clear hh;rintro e wn ⟨rfl,hwn⟩;rw [hwn];clear hwn wn;have hfN:Fr (λ _=>False) v_W0 v_W0:=Fr.refl _ _;have hH2:=hHeld;go_wp2_with fail;have hHeld:=hH2;clear hH2;have hz_503:=hfN.size;refine hK.out _ _ hHeld λ _=> ?_
  clear hK K hfN
  try simp only [Act.put,sA,sB,sC]
 rotate_left
 focus
  go_simp;obtain⟨g_xs,hg⟩:∃g,g=v_W0.heap.size:=⟨_,rfl⟩;have hbN:Below v_W0.heap.size v_W0 (v_W0.alloc (.cells #[.int .i64 (x:Int)] 3)):=(Below.refl _ _).alloc (Nat.le_refl _) _;have hx:=heap_alloc_new v_W0 (.cells #[.int .i64 (x:Int)] 3);have hz_505:v_W0.heap.size+1<=(v_W0.alloc (.cells #[.int .i64 (x:Int)] 3)).heap.size∧(v_W0.alloc (.cells #[.int .i64 (x:Int)] 3)).heap.size<=v_W0.heap.size+1:=by simp
  obtain⟨v_W1,hw⟩:∃v_W1,v_W1=v_W0.alloc (.cells #[.int .i64 (x:Int)] 3):=⟨_,rfl⟩;rw [<-hw] at hbN hx hz_505 ⊢;clear hw;rw [<-hg] at hx ⊢;have hHeld:=hHeld.trans (hbN.mono hHeld.size);have hfN:Fr (λ _=>False) v_W0 v_W1:=Fr.of_below hbN;clear hbN;have blxs_L1:=qH hx;clear hx;have hz_507:g_xs<=v_W0.heap.size∧v_W0.heap.size<=g_xs:=by omega
  clear hg;refine hK.out _ _ hHeld λ _=> ?_
  clear hK K hfN
  try simp only [Act.put,sA,sB,sC]
 rotate_left
 focus
  go_simp;obtain⟨g_box,hg⟩:∃g,g=v_W0.heap.size:=⟨_,rfl⟩;have hbN:Below v_W0.heap.size v_W0 (v_W0.alloc (.cells #[.int .i64 0, .int .i64 0, .slice none 0 0] 338)):=(Below.refl _ _).alloc (Nat.le_refl _) _;have hx:=heap_alloc_new v_W0 (.cells #[.int .i64 0, .int .i64 0, .slice none 0 0] 338);have hz_509:v_W0.heap.size+1<=(v_W0.alloc (.cells #[.int .i64 0, .int .i64 0, .slice none 0 0] 338)).heap.size∧(v_W0.alloc (.cells #[.int .i64 0, .int .i64 0, .slice none 0 0] 338)).heap.size<=v_W0.heap.size+1:=by simp
  obtain⟨v_W1,hw⟩:∃v_W1,v_W1=v_W0.alloc (.cells #[.int .i64 0, .int .i64 0, .slice none 0 0] 338):=⟨_,rfl⟩;rw [<-hw] at hbN hx hz_509 ⊢;clear hw;rw [<-hg] at hx ⊢;have hHeld:=hHeld.trans (hbN.mono hHeld.size);have hfN:Fr (λ _=>False) v_W0 v_W1:=Fr.of_below hbN;clear hbN;have blbox_L1:=qH hx;clear hx;have hz_511:g_box<=v_W0.heap.size∧v_W0.heap.size<=g_box:=by omega
  clear hg;refine hK.out _ _ hHeld λ _=> ?_
  clear hK K hfN
  try simp only [Act.put,sA,sB,sC]
 rotate_left
 all_goals first
  |
   refine wpAnyH_ready (rs:= [4,11]) (by kernel_rfl) (by simp) ?_;refine AllReadyH.cons (o:=⟨some 12,_,_,_,_,_⟩) rfl (λ K hK=> ?_) (AllReadyH.cons (o:=⟨some 5,_,_,_,_,_⟩) rfl (λ K hK=> ?_) (AllReadyH.nil))
   focus
    go_simp;obtain⟨g_xs,hg⟩:∃g,g=v_W0.heap.size:=⟨_,rfl⟩;have hbN:Below v_W0.heap.size v_W0 (v_W0.alloc (.cells #[.int .i64 (x:Int)] 3)):=(Below.refl _ _).alloc (Nat.le_refl _) _;have hx:=heap_alloc_new v_W0 (.cells #[.int .i64 (x:Int)] 3);have hz_513:v_W0.heap.size+1<=(v_W0.alloc (.cells #[.int .i64 (x:Int)] 3)).heap.size∧(v_W0.alloc (.cells #[.int .i64 (x:Int)] 3)).heap.size<=v_W0.heap.size+1:=by simp
    obtain⟨v_W1,hw⟩:∃v_W1,v_W1=v_W0.alloc (.cells #[.int .i64 (x:Int)] 3):=⟨_,rfl⟩;rw [<-hw] at hbN hx hz_513 ⊢;clear hw;rw [<-hg] at hx ⊢;have hHeld:=hHeld.trans (hbN.mono hHeld.size);have hfN:Fr (λ _=>False) v_W0 v_W1:=Fr.of_below hbN;clear hbN;have blxs_L2:=qH hx;clear hx;have hz_515:g_xs<=v_W0.heap.size∧v_W0.heap.size<=g_xs:=by omega
    clear hg;refine hK.out _ _ hHeld λ _=> ?_
    clear hK K hfN
    try simp only [Act.put,sA,sB,sC]
   rotate_left
   focus
    go_simp;obtain⟨g_box,hg⟩:∃g,g=v_W0.heap.size:=⟨_,rfl⟩;have hbN:Below v_W0.heap.size v_W0 (v_W0.alloc (.cells #[.int .i64 0, .int .i64 0, .slice none 0 0] 338)):=(Below.refl _ _).alloc (Nat.le_refl _) _;have hx:=heap_alloc_new v_W0 (.cells #[.int .i64 0, .int .i64 0, .slice none 0 0] 338);have hz_517:v_W0.heap.size+1<=(v_W0.alloc (.cells #[.int .i64 0, .int .i64 0, .slice none 0 0] 338)).heap.size∧(v_W0.alloc (.cells #[.int .i64 0, .int .i64 0, .slice none 0 0] 338)).heap.size<=v_W0.heap.size+1:=by simp
    obtain⟨v_W1,hw⟩:∃v_W1,v_W1=v_W0.alloc (.cells #[.int .i64 0, .int .i64 0, .slice none 0 0] 338):=⟨_,rfl⟩;rw [<-hw] at hbN hx hz_517 ⊢;clear hw;rw [<-hg] at hx ⊢;have hHeld:=hHeld.trans (hbN.mono hHeld.size);have hfN:Fr (λ _=>False) v_W0 v_W1:=Fr.of_below hbN;clear hbN;have blbox_L2:=qH hx;clear hx;have hz_519:g_box<=v_W0.heap.size∧v_W0.heap.size<=g_box:=by omega
    clear hg;refine hK.out _ _ hHeld λ _=> ?_
    clear hK K hfN
    try simp only [Act.put,sA,sB,sC]
   rotate_left
  |
   refine wpAnyH_ready (rs:= [1,11]) (by kernel_rfl) (by simp) ?_;refine AllReadyH.cons (o:=⟨some 9,_,_,_,_,_⟩) rfl (λ K hK=> ?_) (AllReadyH.cons (o:=⟨some 5,_,_,_,_,_⟩) rfl (λ K hK=> ?_) (AllReadyH.nil))
   focus
    go_simp;have hh:=jdK C k m F T v_W1 (H2.out.later hHeld);refine hh.mono ?_;clear hh;rintro e wn ⟨rfl,hwn⟩;rw [hwn];clear hwn wn;have hfN:Fr (λ _=>False) v_W1 v_W1:=Fr.refl _ _;have hH2:=hHeld;go_wp2_with fail;have hHeld:=hH2;clear hH2;have hz_521:=hfN.size;have blxs_L2:=qH (hfN.row_some blxs_L1.out id);clear blxs_L1;refine hK.out _ _ hHeld λ _=> ?_
    clear hK K hfN
    try simp only [Act.put,sA,sB,sC]
   rotate_left
   focus
    go_simp;obtain⟨g_box,hg⟩:∃g,g=v_W1.heap.size:=⟨_,rfl⟩;have hbN:Below v_W1.heap.size v_W1 (v_W1.alloc (.cells #[.int .i64 0, .int .i64 0, .slice none 0 0] 338)):=(Below.refl _ _).alloc (Nat.le_refl _) _;have hx:=heap_alloc_new v_W1 (.cells #[.int .i64 0, .int .i64 0, .slice none 0 0] 338);have hz_524:v_W1.heap.size+1<=(v_W1.alloc (.cells #[.int .i64 0, .int .i64 0, .slice none 0 0] 338)).heap.size∧(v_W1.alloc (.cells #[.int .i64 0, .int .i64 0, .slice none 0 0] 338)).heap.size<=v_W1.heap.size+1:=by simp
    obtain⟨v_W2,hw⟩:∃v_W2,v_W2=v_W1.alloc (.cells #[.int .i64 0, .int .i64 0, .slice none 0 0] 338):=⟨_,rfl⟩;rw [<-hw] at hbN hx hz_524 ⊢;clear hw;rw [<-hg] at hx ⊢;have hHeld:=hHeld.trans (hbN.mono hHeld.size);have hfN:Fr (λ _=>False) v_W1 v_W2:=Fr.of_below hbN;clear hbN;have blxs_L2:=qH (hfN.row_some blxs_L1.out id);clear blxs_L1;have blbox_L2:=qH hx;clear hx;have hz_527:g_box<=v_W1.heap.size∧v_W1.heap.size<=g_box:=by omega
    clear hg;refine hK.out _ _ hHeld λ _=> ?_
    clear hK K hfN
    try simp only [Act.put,sA,sB,sC]
   rotate_left
  |
   refine wpAnyH_ready (rs:= [1,4]) (by kernel_rfl) (by simp) ?_;refine AllReadyH.cons (o:=⟨some 9,_,_,_,_,_⟩) rfl (λ K hK=> ?_) (AllReadyH.cons (o:=⟨some 12,_,_,_,_,_⟩) rfl (λ K hK=> ?_) (AllReadyH.nil))
   focus
    go_simp;have hh:=jdK C k m F T v_W1 (H2.out.later hHeld);refine hh.mono ?_;clear hh;rintro e wn ⟨rfl,hwn⟩;rw [hwn];clear hwn wn;have hfN:Fr (λ _=>False) v_W1 v_W1:=Fr.refl _ _;have hH2:=hHeld;go_wp2_with fail;have hHeld:=hH2;clear hH2;have hz_529:=hfN.size;have blbox_L2:=qH (hfN.row_some blbox_L1.out id);clear blbox_L1;refine hK.out _ _ hHeld λ _=> ?_
    clear hK K hfN
    try simp only [Act.put,sA,sB,sC]
   rotate_left
   focus
    go_simp;obtain⟨g_xs,hg⟩:∃g,g=v_W1.heap.size:=⟨_,rfl⟩;have hbN:Below v_W1.heap.size v_W1 (v_W1.alloc (.cells #[.int .i64 (x:Int)] 3)):=(Below.refl _ _).alloc (Nat.le_refl _) _;have hx:=heap_alloc_new v_W1 (.cells #[.int .i64 (x:Int)] 3);have hz_532:v_W1.heap.size+1<=(v_W1.alloc (.cells #[.int .i64 (x:Int)] 3)).heap.size∧(v_W1.alloc (.cells #[.int .i64 (x:Int)] 3)).heap.size<=v_W1.heap.size+1:=by simp
    obtain⟨v_W2,hw⟩:∃v_W2,v_W2=v_W1.alloc (.cells #[.int .i64 (x:Int)] 3):=⟨_,rfl⟩;rw [<-hw] at hbN hx hz_532 ⊢;clear hw;rw [<-hg] at hx ⊢;have hHeld:=hHeld.trans (hbN.mono hHeld.size);have hfN:Fr (λ _=>False) v_W1 v_W2:=Fr.of_below hbN;clear hbN;have blbox_L2:=qH (hfN.row_some blbox_L1.out id);clear blbox_L1;have blxs_L2:=qH hx;clear hx;have hz_535:g_xs<=v_W1.heap.size∧v_W1.heap.size<=g_xs:=by omega
    clear hg;refine hK.out _ _ hHeld λ _=> ?_
    clear hK K hfN
    try simp only [Act.put,sA,sB,sC]
   rotate_left
 all_goals first
  |
   refine wpAnyH_ready (rs:= [5,11]) (by kernel_rfl) (by simp) ?_;refine AllReadyH.cons (o:=⟨some 13,_,_,_,_,_⟩) rfl (λ K hK=> ?_) (AllReadyH.cons (o:=⟨some 5,_,_,_,_,_⟩) rfl (λ K hK=> ?_) (AllReadyH.nil))
   focus
    go_simp;have hh:=jfs C k m F T (some ⟨g_xs,0,none⟩) 1 x v_W1 (H2.out.later hHeld) (jmO blxs_L2.out) hx;refine hh.mono ?_;clear hh;rintro e v_W2 ⟨⟨A2,c2,rfl,hG⟩,hbN⟩;have hA2:∀b o,A2=some ⟨b,o,none⟩->v_W1.heap.size<=b:=λ b o e=>jdd hG (hk1) e
    have fac_L3:=qH hG.own.sl;clear hG;have hfN:Fr (λ _=>False) v_W1 v_W2:=Fr.of_below hbN;have hH2:=hHeld.trans (hbN.mono hHeld.size);clear hbN;go_wp2_with fail;have hHeld:=hH2;clear hH2;have hz_539:=hfN.size;have blxs_L3:=qH (hfN.row_some blxs_L2.out id);clear blxs_L2;refine hK.out _ _ hHeld λ _=> ?_
    clear hK K hfN
    try simp only [Act.put,sA,sB,sC]
   rotate_left
   focus
    go_simp;obtain⟨g_box,hg⟩:∃g,g=v_W1.heap.size:=⟨_,rfl⟩;have hbN:Below v_W1.heap.size v_W1 (v_W1.alloc (.cells #[.int .i64 0, .int .i64 0, .slice none 0 0] 338)):=(Below.refl _ _).alloc (Nat.le_refl _) _;have hx:=heap_alloc_new v_W1 (.cells #[.int .i64 0, .int .i64 0, .slice none 0 0] 338);have hz_542:v_W1.heap.size+1<=(v_W1.alloc (.cells #[.int .i64 0, .int .i64 0, .slice none 0 0] 338)).heap.size∧(v_W1.alloc (.cells #[.int .i64 0, .int .i64 0, .slice none 0 0] 338)).heap.size<=v_W1.heap.size+1:=by simp
    obtain⟨v_W2,hw⟩:∃v_W2,v_W2=v_W1.alloc (.cells #[.int .i64 0, .int .i64 0, .slice none 0 0] 338):=⟨_,rfl⟩;rw [<-hw] at hbN hx hz_542 ⊢;clear hw;rw [<-hg] at hx ⊢;have hHeld:=hHeld.trans (hbN.mono hHeld.size);have hfN:Fr (λ _=>False) v_W1 v_W2:=Fr.of_below hbN;clear hbN;have blxs_L3:=qH (hfN.row_some blxs_L2.out id);clear blxs_L2;have blbox_L3:=qH hx;clear hx;have hz_545:g_box<=v_W1.heap.size∧v_W1.heap.size<=g_box:=by omega
    clear hg;refine hK.out _ _ hHeld λ _=> ?_
    clear hK K hfN
    try simp only [Act.put,sA,sB,sC]
   rotate_left
  |
   refine rW 4 (some 12) rfl λ K hK=> ?_
   go_simp;obtain⟨g_xs,hg⟩:∃g,g=v_W1.heap.size:=⟨_,rfl⟩;have hbN:Below v_W1.heap.size v_W1 (v_W1.alloc (.cells #[.int .i64 (x:Int)] 3)):=(Below.refl _ _).alloc (Nat.le_refl _) _;have hx:=heap_alloc_new v_W1 (.cells #[.int .i64 (x:Int)] 3);have hz_547:v_W1.heap.size+1<=(v_W1.alloc (.cells #[.int .i64 (x:Int)] 3)).heap.size∧(v_W1.alloc (.cells #[.int .i64 (x:Int)] 3)).heap.size<=v_W1.heap.size+1:=by simp
   obtain⟨v_W2,hw⟩:∃v_W2,v_W2=v_W1.alloc (.cells #[.int .i64 (x:Int)] 3):=⟨_,rfl⟩;rw [<-hw] at hbN hx hz_547 ⊢;clear hw;rw [<-hg] at hx ⊢;have hHeld:=hHeld.trans (hbN.mono hHeld.size);have hfN:Fr (λ _=>False) v_W1 v_W2:=Fr.of_below hbN;clear hbN;have blbox_L3:=qH (hfN.row_some blbox_L2.out id);clear blbox_L2;have blxs_L3:=qH hx;clear hx;have hz_550:g_xs<=v_W1.heap.size∧v_W1.heap.size<=g_xs:=by omega
   clear hg;refine hK.out _ _ hHeld λ _=> ?_
   clear hK K hfN
   try simp only [Act.put,sA,sB,sC]
  |
   refine rW 1 (some 9) rfl λ K hK=> ?_
   go_simp;have hh:=jdK C k m F T v_W2 (H2.out.later hHeld);refine hh.mono ?_;clear hh;rintro e wn ⟨rfl,hwn⟩;rw [hwn];clear hwn wn;have hfN:Fr (λ _=>False) v_W2 v_W2:=Fr.refl _ _;have hH2:=hHeld;go_wp2_with fail;have hHeld:=hH2;clear hH2;have hz_552:=hfN.size;have blxs_L3:=qH (hfN.row_some blxs_L2.out id);clear blxs_L2;have blbox_L3:=qH (hfN.row_some blbox_L2.out id);clear blbox_L2;refine hK.out _ _ hHeld λ _=> ?_
   clear hK K hfN
   try simp only [Act.put,sA,sB,sC]
 all_goals first
  |
   refine wpAnyH_ready (rs:= [7,11]) (by kernel_rfl) (by simp) ?_;refine AllReadyH.cons (o:=⟨some 15,_,_,_,_,_⟩) rfl (λ K hK=> ?_) (AllReadyH.cons (o:=⟨some 5,_,_,_,_,_⟩) rfl (λ K hK=> ?_) (AllReadyH.nil))
   focus
    go_simp;have hh:=jqf C k m F T A2 c2 x A5 c5 X v_W2 (H2.out.later hHeld) fac_L3.out (λ b o hn e=>by have:=hA2 b o e;have:=hHeld.size;omega) (Hs5.out.below hHeld (Nat.le_refl _)) Hoff5.out;refine hh.mono ?_;clear hh;rintro e v_W3 ⟨A6,c6,rfl,hs6,hA6,hbN⟩;have res_L4:=qH hs6;clear hs6;have hfN:Fr (λ _=>False) v_W2 v_W3:=Fr.of_below hbN;have hH2:=hHeld.trans (hbN.mono hHeld.size);clear hbN;go_wp2_with fail;have hHeld:=hH2;clear hH2;have hz_558:=hfN.size;have blxs_L4:=qH (hfN.row_some blxs_L3.out id);clear blxs_L3;have fac_L4:=qH (fac_L3.out.fr hfN (λ _ _ _ _ h=>h));clear fac_L3;refine hK.out _ _ hHeld λ _=> ?_
    clear hK K hfN
    try simp only [Act.put,sA,sB,sC]
    refine tA 8 (some 7) rfl hHeld ?_;refine tA 9 (some 16) rfl hHeld ?_;refine tA 10 (some 17) rfl hHeld ?_
   rotate_left
   focus
    go_simp;obtain⟨g_box,hg⟩:∃g,g=v_W2.heap.size:=⟨_,rfl⟩;have hbN:Below v_W2.heap.size v_W2 (v_W2.alloc (.cells #[.int .i64 0, .int .i64 0, .slice none 0 0] 338)):=(Below.refl _ _).alloc (Nat.le_refl _) _;have hx:=heap_alloc_new v_W2 (.cells #[.int .i64 0, .int .i64 0, .slice none 0 0] 338);have hz_562:v_W2.heap.size+1<=(v_W2.alloc (.cells #[.int .i64 0, .int .i64 0, .slice none 0 0] 338)).heap.size∧(v_W2.alloc (.cells #[.int .i64 0, .int .i64 0, .slice none 0 0] 338)).heap.size<=v_W2.heap.size+1:=by simp
    obtain⟨v_W3,hw⟩:∃v_W3,v_W3=v_W2.alloc (.cells #[.int .i64 0, .int .i64 0, .slice none 0 0] 338):=⟨_,rfl⟩;rw [<-hw] at hbN hx hz_562 ⊢;clear hw;rw [<-hg] at hx ⊢;have hHeld:=hHeld.trans (hbN.mono hHeld.size);have hfN:Fr (λ _=>False) v_W2 v_W3:=Fr.of_below hbN;clear hbN;have blxs_L4:=qH (hfN.row_some blxs_L3.out id);clear blxs_L3;have fac_L4:=qH (fac_L3.out.fr hfN (λ _ _ _ _ h=>h));clear fac_L3;have blbox_L4:=qH hx;clear hx;have hz_566:g_box<=v_W2.heap.size∧v_W2.heap.size<=g_box:=by omega
    clear hg;refine hK.out _ _ hHeld λ _=> ?_
    clear hK K hfN
    try simp only [Act.put,sA,sB,sC]
   rotate_left
  |
   refine rW 5 (some 13) rfl λ K hK=> ?_
   go_simp;have hh:=jfs C k m F T (some ⟨g_xs,0,none⟩) 1 x v_W2 (H2.out.later hHeld) (jmO blxs_L3.out) hx;refine hh.mono ?_;clear hh;rintro e v_W3 ⟨⟨A2,c2,rfl,hG⟩,hbN⟩;have hA2:∀b o,A2=some ⟨b,o,none⟩->v_W2.heap.size<=b:=λ b o e=>jdd hG (hk1) e
   have fac_L4:=qH hG.own.sl;clear hG;have hfN:Fr (λ _=>False) v_W2 v_W3:=Fr.of_below hbN;have hH2:=hHeld.trans (hbN.mono hHeld.size);clear hbN;go_wp2_with fail;have hHeld:=hH2;clear hH2;have hz_570:=hfN.size;have blxs_L4:=qH (hfN.row_some blxs_L3.out id);clear blxs_L3;have blbox_L4:=qH (hfN.row_some blbox_L3.out id);clear blbox_L3;refine hK.out _ _ hHeld λ _=> ?_
   clear hK K hfN
   try simp only [Act.put,sA,sB,sC]
 all_goals first
  |
   refine rW 11 (some 5) rfl λ K hK=> ?_
   go_simp;obtain⟨g_box,hg⟩:∃g,g=v_W3.heap.size:=⟨_,rfl⟩;have hbN:Below v_W3.heap.size v_W3 (v_W3.alloc (.cells #[.int .i64 0, .int .i64 0, .slice none 0 0] 338)):=(Below.refl _ _).alloc (Nat.le_refl _) _;have hx:=heap_alloc_new v_W3 (.cells #[.int .i64 0, .int .i64 0, .slice none 0 0] 338);have hz_574:v_W3.heap.size+1<=(v_W3.alloc (.cells #[.int .i64 0, .int .i64 0, .slice none 0 0] 338)).heap.size∧(v_W3.alloc (.cells #[.int .i64 0, .int .i64 0, .slice none 0 0] 338)).heap.size<=v_W3.heap.size+1:=by simp
   obtain⟨v_W4,hw⟩:∃v_W4,v_W4=v_W3.alloc (.cells #[.int .i64 0, .int .i64 0, .slice none 0 0] 338):=⟨_,rfl⟩;rw [<-hw] at hbN hx hz_574 ⊢;clear hw;rw [<-hg] at hx ⊢;have hHeld:=hHeld.trans (hbN.mono hHeld.size);have hfN:Fr (λ _=>False) v_W3 v_W4:=Fr.of_below hbN;clear hbN;have blxs_L5:=qH (hfN.row_some blxs_L4.out id);clear blxs_L4;have fac_L5:=qH (fac_L4.out.fr hfN (λ _ _ _ _ h=>h));clear fac_L4;have res_L5:=qH (res_L4.out.fr hfN (λ _ _ _ _ h=>h));clear res_L4;have blbox_L5:=qH hx;clear hx;have hz_579:g_box<=v_W3.heap.size∧v_W3.heap.size<=g_box:=by omega
   clear hg;refine hK.out _ _ hHeld λ _=> ?_
   clear hK K hfN
   try simp only [Act.put,sA,sB,sC]
  |
   refine rW 7 (some 15) rfl λ K hK=> ?_
   go_simp;have hh:=jqf C k m F T A2 c2 x A5 c5 X v_W3 (H2.out.later hHeld) fac_L4.out (λ b o hn e=>by have:=hA2 b o e;have:=hHeld.size;omega) (Hs5.out.below hHeld (Nat.le_refl _)) Hoff5.out;refine hh.mono ?_;clear hh;rintro e v_W4 ⟨A6,c6,rfl,hs6,hA6,hbN⟩;have res_L5:=qH hs6;clear hs6;have hfN:Fr (λ _=>False) v_W3 v_W4:=Fr.of_below hbN;have hH2:=hHeld.trans (hbN.mono hHeld.size);clear hbN;go_wp2_with fail;have hHeld:=hH2;clear hH2;have hz_583:=hfN.size;have blxs_L5:=qH (hfN.row_some blxs_L4.out id);clear blxs_L4;have fac_L5:=qH (fac_L4.out.fr hfN (λ _ _ _ _ h=>h));clear fac_L4;have blbox_L5:=qH (hfN.row_some blbox_L4.out id);clear blbox_L4;refine hK.out _ _ hHeld λ _=> ?_
   clear hK K hfN
   try simp only [Act.put,sA,sB,sC]
   refine tA 8 (some 7) rfl hHeld ?_;refine tA 9 (some 16) rfl hHeld ?_;refine tA 10 (some 17) rfl hHeld ?_
 all_goals
  refine rW 12 none rfl λ K hK=> ?_
  have q0:=jfh blbox_L5.out;have q1:=jfi blbox_L5.out;have q2:=jfj blbox_L5.out;have u0:=jaq blbox_L5.out 0;have u1:=jaq blbox_L5.out 1;have u2:=jaq blbox_L5.out 2;go_simp;have hx:=jcz (r:=1) (c:=(k:Int)) (A:=A6) (n:=k) (cp:=c6) blbox_L5.out;have hfN:=jcV v_W4 (g_box) 1 (k:Int) A6 k c6;have hHeld:=hHeld.trans (hfN.below hHeld.size (λ k hk=>by have hk:k=g_box:=hk;omega) |>λ q=>q);have hz_588:v_W4.heap.size<=(((v_W4.setCell ⟨g_box,0,none⟩ (.int .i64 1)).setCell ⟨g_box,1,none⟩ (.int .i64 (k:Int))).setCell ⟨g_box,2,none⟩ (.slice A6 k c6)).heap.size∧(((v_W4.setCell ⟨g_box,0,none⟩ (.int .i64 1)).setCell ⟨g_box,1,none⟩ (.int .i64 (k:Int))).setCell ⟨g_box,2,none⟩ (.slice A6 k c6)).heap.size<=v_W4.heap.size:=by simp
  obtain⟨v_W5,hw⟩:∃v_W5,v_W5=(((v_W4.setCell ⟨g_box,0,none⟩ (.int .i64 1)).setCell ⟨g_box,1,none⟩ (.int .i64 (k:Int))).setCell ⟨g_box,2,none⟩ (.slice A6 k c6)):=⟨_,rfl⟩;rw [<-hw] at hHeld hx hfN hz_588 ⊢;clear hw q0 q1 q2 u0 u1 u2;have blxs_L6:=qH (hfN.row_some blxs_L5.out (λ h=>by have h:g_xs=g_box:=h;omega));clear blxs_L5;have fac_L6:=qH (trivial);clear fac_L5;have res_L6:=qH (res_L5.out.fr hfN (λ b o hn hA hk=>by have hk:b=g_box:=hk;have:=hA6 b o hA;omega));clear res_L5;clear blbox_L5;have blbox_L6:=qH hx;clear hx;refine hK.out _ _ hHeld λ _=> ?_
  clear hK K hfN
  try simp only [Act.put,sA,sB,sC]
  refine tA 13 (some 6) rfl hHeld ?_
 all_goals
  refine tD ?_;have q2:=jci blbox_L6.out;go_wp2_with fail;go_ret;exact⟨A6,c6,rfl,res_L6.out,hHeld⟩
end
section
def pick (rs:List (List UInt8))(t:List Nat):List (List UInt8):=t.map λ i=>rs.getD i []
theorem jft (rs:List (List UInt8))(t:List Nat)(a:Nat)(h:a<t.length):(pick rs t).getD a []=rs.getD (t.getD a 0) []:=by simp [pick,h]
def ji4 (k:Nat)(X:Mx)(rs:List (List UInt8))(t:List Nat)(W x:Nat):List UInt8:=sumR W (jeh k X x) (pick rs t) k
structure Mkr (w:World)(Bd C k m F T b3 b4 b5 b7 g2 g5 W n:Nat)(rs:List (List UInt8))(t:List Nat)(X:Mx):Prop where
 cod:Cod w C k m F T
 pln:Pln w Bd C k T g2 g5 t X
 c3:w.cell? ⟨b3,0,none⟩=some (.pointer (some ⟨C,0,none⟩))
 c7:w.cell? ⟨b7,0,none⟩=some (.func (.func 279) #[] #[.pointer (some ⟨g2,0,none⟩), .pointer (some ⟨g5,0,none⟩)])
 ex:∃(A:Option Addr) (c:Nat) (B:Option Addr) (d:Nat),w.cell? ⟨b4,0,none⟩=some (.slice A n c)∧w.cell? ⟨b5,0,none⟩=some (.slice B k d)∧Gr w A n c rs∧Sl w 1 B k d (jay t)
 lt:∀a,a<k->t.getD a 0<n
 wid:∀a,a<k->(rs.getD (t.getD a 0) []).length=W
 small:W<=1048576
theorem Mkr.later {w w':World}{Bd C k m F T b3 b4 b5 b7 g2 g5 W n:Nat}{rs:List (List UInt8)}{t:List Nat}{X:Mx}(h:Mkr w Bd C k m F T b3 b4 b5 b7 g2 g5 W n rs t X)(hb:Below w.heap.size w w'):Mkr w' Bd C k m F T b3 b4 b5 b7 g2 g5 W n rs t X:=by
 obtain⟨A,c,B,d,h1,h2,h3,h4⟩:=h.ex;have cl:∀{p:Addr} {v:Value},w.cell? p=some v->w'.cell? p=some v:=λ h=>(hb.cell (World.block_lt_of_cell? w _ h)).trans h
 exact⟨h.cod.later hb,h.pln.later hb,cl h.c3,cl h.c7,⟨A,c,B,d,cl h1,cl h2,h3.later hb,h4.below hb (Nat.le_refl _)⟩,h.lt,h.wid,h.small⟩
theorem jf3:∀args w,(callFunc 279 args).run Tryz.prog w= .ok (.enter 279 args) w:=enters_of Tryz.func279 (by kernel_rfl) rfl
theorem jmP (Bd C k m F T b3 b4 b5 b7 g2 g5 W n x:Nat)(rs:List (List UInt8))(t:List Nat)(X:Mx)(w:World)(h:Mkr w Bd C k m F T b3 b4 b5 b7 g2 g5 W n rs t X)(hx:x<k+m):
  Calls Tryz.prog 270 #[.int .i64 (x:Int), .pointer (some ⟨b4,0,none⟩), .pointer (some ⟨b5,0,none⟩), .pointer (some ⟨b7,0,none⟩), .pointer (some ⟨b3,0,none⟩)] w (jcw w.heap.size w (ji4 k X rs t W x)):=by
 have h1:=h.cod.k1;have h3:=h.cod.n255;have hsm:=h.small;obtain⟨A,c,B,d,k4,k5,hg,hs⟩:=h.ex;have htl:t.length=k:=by
  have:=hs.len;rw [jar] at this;omega
 have hlim:=hg.lim;unfold maxLen at hlim;obtain⟨b,o,rfl,hc⟩:=hg.at_ (by have:=h.lt 0 (by omega);omega);obtain⟨A0,c0,r0,_⟩:=hc _ _ (hg.get (h.lt 0 (by omega)));rw [h.wid 0 (by omega)] at r0;obtain⟨gb,go,rfl,hcn⟩:=hs.at_ (show 0<k by omega);have n0:=hcn 0 _ (jch t 0 (by omega));rw [show t[0]'(by omega)=t.getD 0 0 from by simp [show 0<t.length by omega],Nat.add_zero] at n0;have hx0:=h.lt 0 (by omega);obtain⟨x0,hx0d⟩:∃x,x=t.getD 0 0:=⟨_,rfl⟩;rw [<-hx0d] at n0 r0 hx0;have hx0i:(x0:Int)<(n:Int):=by omega
 have hk0:(0:Int)<(k:Int):=by omega
 have hk0n:0<k:=by omega
 have K4:=qH k4;have K5:=qH k5;have N0:=qH n0;have R0:=qH r0;have H:=qH h;have Hg:=qH hg;have Hs:=qH hs;have Htl:=qH htl;clear hx0d hc hcn k4 k5 n0 r0 h hg hs htl;go_enter Tryz.func270,Tryz.ntmps270;go_upto_region 1 with (fail)
 refine wp_region_held_drew (S:=λ w' =>Fr (λ _=>False) w w') (by kernel_rfl) (Fr.drew (Fr.refl _ _)) (λ hHeld=> ?_);clear hHeld;have hHeld:Fr (λ _=>False) w w.drew:=Fr.drew (Fr.refl _ _);have hz_0:w.heap.size<=w.drew.heap.size:=Nat.le_refl _;obtain⟨v_1,hw⟩:∃v_1,v_1=w.drew:=⟨_,rfl⟩;rw [<-hw] at hHeld hz_0 ⊢;clear hw;refine tL 0 (some 10) (v:= ?vg0_2) rfl ?yg0_2 hHeld ?rg0_2
 case yg0_2=>
  intro wq hSw
  (try dsimp only at hSw)
  have qK4:=hSw.cell_some K4.out (λ h=>h);go_simp<;>with_reducible rfl
 try simp only [Act.put,sA,sB,sC]
 refine tL 1 (some 11) (v:= ?vg1_3) rfl ?yg1_3 hHeld ?rg1_3
 case yg1_3=>
  intro wq hSw
  (try dsimp only at hSw)
  have qK5:=hSw.cell_some K5.out (λ h=>h);go_simp<;>with_reducible rfl
 try simp only [Act.put,sA,sB,sC]
 refine tA 2 (some 12) rfl hHeld ?_;refine tL 3 (some 13) (v:= ?vg3_5) rfl ?yg3_5 hHeld ?rg3_5
 case yg3_5=>
  intro wq hSw
  (try dsimp only at hSw)
  have qN0:=hSw.cell_some N0.out (λ h=>h);go_simp<;>with_reducible rfl
 try simp only [Act.put,sA,sB,sC]
 refine tA 4 (some 14) rfl hHeld ?_;refine tL 5 (some 15) (v:= ?vg5_7) rfl ?yg5_7 hHeld ?rg5_7
 case yg5_7=>
  intro wq hSw
  (try dsimp only at hSw)
  have qR0:=hSw.cell_some R0.out (λ h=>h);go_simp<;>with_reducible rfl
 try simp only [Act.put,sA,sB,sC]
 refine tA 6 (some 16) rfl hHeld ?_;refine rW 7 (some 17) rfl λ K hK=> ?_
 have hmk:=jb9 (W:Int) W rfl (by omega) v_1;go_simp;have hfN:Fr (λ _=>False) v_1 (v_1.alloc (.cells (madeCells #[.int .u8 0] W) 5)):=Fr.of_below ((Below.refl _ _).alloc (Nat.le_refl _) _);have hmine:=Mine.noughts v_1 W;have hsl:=Sl.noughts v_1 W (by unfold maxLen;omega);obtain⟨v_9,hw⟩:∃x,x=v_1.alloc (.cells (madeCells #[.int .u8 0] W) 5):=⟨_,rfl⟩;rw [<-hw] at hfN hmine hsl ⊢;clear hw hmk;have Hmine:=qH (hmine.lower (B':=w.heap.size) (by have:=hHeld.size;omega));have Hsl:=qH hsl;clear hmine hsl;have hHeld:=hHeld.trans hfN;have hz_10:=hfN.size;refine hK.out _ _ hHeld λ _=> ?_
 clear hK K hfN
 try simp only [Act.put,sA,sB,sC]
 refine tA 8 (some 7) rfl hHeld ?_;refine tD ?_;have hb1:=hHeld.belowAll (λ _ h=>h.elim);have Hb1:=qH hb1;obtain⟨w1,hw1⟩:∃x,x=v_9:=⟨_,rfl⟩;rw [<-hw1] at Hb1 Hmine Hsl ⊢;clear hw1 hb1 hHeld;have H1:=qH (H.out.later Hb1.out);have c7:=H1.out.c7;have e63:=jf3;have hs1:=Hb1.out.size;have hh:=ji3 Bd C k m F T g2 g5 x t X w1 H1.out.cod H1.out.pln hx;go_wp2_with fail;refine hh.mono ?_;clear hh;rintro e w2 ⟨Ap,cp,rfl,hsp,hb2⟩;have Hb2:=qH (Hb1.out.trans (hb2.mono hs1));have Hmine2:=qH (Hmine.out.later hb2);have Hsl2:=qH (Hsl.out.below hb2 (Nat.le_refl _));have Hsp:=qH hsp;have hs2:=Hb2.out.size;clear hb2 hsp c7 e63;go_wp2_with fail
 go_loopw [7,22] (λ v i wr=>∃(j:Nat) (A':Option Addr) (c':Nat),j<=k∧i= .int .i64 (j:Int)∧v= .slice A' W c' ∧Sl wr 1 A' W c' (cells (sumR W (jeh k X x) (pick rs t) j))∧Mine wr w.heap.size 5 A' W (cells (sumR W (jeh k X x) (pick rs t) j))∧Below w2.heap.size w2 wr) (λ _ i _=>k-(intOf i).toNat)
 case atStart=>exact⟨0,_,_,by omega,rfl,rfl,by rw [jdM];exact Hsl2.out,by rw [jdM];exact Hmine2.out,Below.refl _ _⟩
 case round=>
  obtain⟨j,A',c',hj,rfl,rfl,hss,hm,hb⟩:=hrel;have Hb:=qH (Hb2.out.trans (hb.mono hs2));have hbk:=hb;have Hm:=qH hm
  by_cases hlt:j<k
  ·have hr:=H.out.later Hb.out
   have hji:(j:Int)<(k:Int):=by omega
   obtain⟨bp,op,rfl,hcp⟩:=(Hsp.out.below hb (Nat.le_refl _)).at_ hlt;have hcell:=hcp j _ (jaE _ j (by rw [jcW];exact hlt));rw [show (jeh k X x)[j]'(by rw [jcW];exact hlt)=(jeh k X x).getD j 0 from by simp [jcW,hlt],bv] at hcell;obtain⟨y,hy⟩:∃y,y=(jeh k X x).getD j 0:=⟨_,rfl⟩;rw [<-hy] at hcell;obtain⟨b',o',e',hcr⟩:=(Hg.out.later Hb.out).at_ (by have:=H.out.lt 0 (by omega);omega);injection e' with e'
   injection e' with e1 e2
   subst e1;subst e2;obtain⟨Ar,cr,q0,sr⟩:=hcr _ _ (Hg.out.get (H.out.lt j hlt));rw [H.out.wid j hlt] at q0 sr;obtain⟨gb',go',e',hcn⟩:=(Hs.out.below Hb.out (Nat.le_refl _)).at_ hlt;injection e' with e'
   injection e' with e1 e2
   subst e1;subst e2;have m0:=hcn j _ (jch t j (by rw [Htl.out];exact hlt));rw [show t[j]'(by rw [Htl.out];exact hlt)=t.getD j 0 from by simp [show j<t.length by rw [Htl.out];exact hlt]] at m0;have hxj:=H.out.lt j hlt;have hnext:=jhD W (jeh k X x) (pick rs t) j (by rw [jft _ _ _ (by rw [Htl.out];exact hlt)];exact H.out.wid j hlt);rw [<-hy,jft _ _ _ (by rw [Htl.out];exact hlt)] at hnext;obtain⟨xj,hxjd⟩:∃x,x=t.getD j 0:=⟨_,rfl⟩;rw [<-hxjd] at m0 q0 sr hxj hnext;obtain⟨r,hrd⟩:∃r,r=rs.getD xj []:=⟨_,rfl⟩;rw [<-hrd] at sr hnext;obtain⟨sumj,hsumj⟩:∃s,s=sumR W (jeh k X x) (pick rs t) j:=⟨_,rfl⟩;rw [<-hsumj] at hss hnext;have hxji:(xj:Int)<(n:Int):=by omega
   have L3:=qH hr.c3;have L4:=qH ((Hb.out.cell (World.block_lt_of_cell? w _ K4.out)).trans K4.out);have L5:=qH ((Hb.out.cell (World.block_lt_of_cell? w _ K5.out)).trans K5.out);have M0:=qH m0;have Q0:=qH q0;have Hr:=qH hr;have Hsr:=qH sr;have Hnext:=qH hnext;have Hs0:=Hs;have Hs:=qH hss;have Hbk:=qH hbk;clear hr hcp hy hcr hcn m0 q0 sr hxjd hrd hsumj hss hm hb hbk hnext;have hszr:=Hb.out.size;go_upto_region 5 with (fail)
   clear hcell;refine wp_region_held_drew (S:=λ w' =>Fr (λ _=>False) wr w') (by kernel_rfl) (Fr.drew (Fr.refl _ _)) (λ hHeld=> ?_);clear hHeld;have hHeld:Fr (λ _=>False) wr wr.drew:=Fr.drew (Fr.refl _ _);have hz_0:wr.heap.size<=wr.drew.heap.size:=Nat.le_refl _;obtain⟨v_501,hw⟩:∃v_501,v_501=wr.drew:=⟨_,rfl⟩;rw [<-hw] at hHeld hz_0 ⊢;clear hw;refine tL 0 (some 27) (v:= ?vg0_502) rfl ?yg0_502 hHeld ?rg0_502
   case yg0_502=>
    intro wq hSw
    (try dsimp only at hSw)
    have qL3:=hSw.cell_some L3.out (λ h=>h);go_simp<;>with_reducible rfl
   try simp only [Act.put,sA,sB,sC]
   refine tA 2 (some 29) rfl hHeld ?_;refine tL 3 (some 30) (v:= ?vg3_504) rfl ?yg3_504 hHeld ?rg3_504
   case yg3_504=>
    intro wq hSw
    (try dsimp only at hSw)
    have qL4:=hSw.cell_some L4.out (λ h=>h);go_simp<;>with_reducible rfl
   try simp only [Act.put,sA,sB,sC]
   refine tL 4 (some 31) (v:= ?vg4_505) rfl ?yg4_505 hHeld ?rg4_505
   case yg4_505=>
    intro wq hSw
    (try dsimp only at hSw)
    have qL5:=hSw.cell_some L5.out (λ h=>h);go_simp<;>with_reducible rfl
   try simp only [Act.put,sA,sB,sC]
   refine tA 5 (some 32) rfl hHeld ?_;refine tA 6 (some 33) rfl hHeld ?_;refine tL 7 (some 34) (v:= ?vg7_508) rfl ?yg7_508 hHeld ?rg7_508
   case yg7_508=>
    intro wq hSw
    (try dsimp only at hSw)
    have qM0:=hSw.cell_some M0.out (λ h=>h);go_simp<;>with_reducible rfl
   try simp only [Act.put,sA,sB,sC]
   refine tA 8 (some 35) rfl hHeld ?_;refine tL 9 (some 36) (v:= ?vg9_510) rfl ?yg9_510 hHeld ?rg9_510
   case yg9_510=>
    intro wq hSw
    (try dsimp only at hSw)
    have qQ0:=hSw.cell_some Q0.out (λ h=>h);go_simp<;>with_reducible rfl
   try simp only [Act.put,sA,sB,sC]
   refine tA 10 (some 37) rfl hHeld ?_;refine rW 1 (some 28) rfl λ K hK=> ?_
   go_simp;have hh:=jdK C k m F T v_501 (Hr.out.cod.later (hHeld.belowAll (λ _ h=>h.elim)));refine hh.mono ?_;clear hh;rintro e wn ⟨rfl,hwn⟩;rw [hwn];clear hwn wn;have hfN:Fr (λ _=>False) v_501 v_501:=Fr.refl _ _;go_wp2_with fail;have hHeld:=hHeld.trans hfN;have hz_512:=hfN.size;refine hK.out _ _ hHeld λ _=> ?_
   clear hK K hfN
   try simp only [Act.put,sA,sB,sC]
   refine rW 11 (some 38) rfl λ K hK=> ?_
   go_simp;have hbh:=hHeld.belowAll (λ _ h=>h.elim);have hh:=jhB F T y Ar W cr r A' W c' sumj v_501 (Hr.out.cod.later hbh).fld (Hsr.out.below hbh (Nat.le_refl _)) (Hs.out.below hbh (Nat.le_refl _)) (by omega);clear hbh;refine hh.mono ?_;clear hh;rintro e v_513 ⟨Af,nf,cf,rfl,hsf,hbN,hmf⟩;have Hsf:=qH hsf;have Hmf:=qH (hmf.lower (B':=w.heap.size) (by have:=hHeld.size;omega));have hfN:Fr (λ _=>False) v_501 v_513:=Fr.of_below hbN;clear hbN hsf hmf;go_wp2_with fail;have hHeld:=hHeld.trans hfN;have hz_514:=hfN.size;refine hK.out _ _ hHeld λ _=> ?_
   clear hK K hfN
   try simp only [Act.put,sA,sB,sC]
   refine tA 12 (some 7) rfl hHeld ?_;refine tD ?_;have Hbf:=qH (hHeld.belowAll (λ _ h=>h.elim));obtain⟨wf,hwf⟩:∃x,x=v_513:=⟨_,rfl⟩;rw [<-hwf] at Hbf Hsf Hmf ⊢;clear hwf hHeld;have hnf:nf=W:=by
    have:=Hsf.out.len;rw [jaa,Hnext.out,jcA] at this;omega
   subst hnf;go_wp2_with fail;go_roundw
   case rel=>exact⟨j+1,Af,cf,by omega,by go_num,rfl,by rw [<-Hnext.out];exact Hsf.out,by rw [<-Hnext.out];exact Hmf.out,Hbk.out.trans (Hbf.out.mono Hbk.out.size)⟩
   case measure=>simp [intOf];omega
  ·obtain rfl:j=k:=by omega
   have Hs:=qH hss;clear hss hm hb hbk;go_wp2_with fail;go_ret;exact⟨A',W,c',rfl,Hs.out,Hb.out,Hm.out⟩
structure MkrB (w0 w:World)(Bd C k m F T b3 b4 b5 b7 g2 g5 W n:Nat)(rs:List (List UInt8))(t:List Nat)(X:Mx):Prop where
 cod:Cod w0 C k m F T
 bel:Below w0.heap.size w0 w
 le:w0.heap.size<=Bd
 pln:Pln w Bd C k T g2 g5 t X
 c3:w.heap[b3]? =some (.cells #[.pointer (some ⟨C,0,none⟩)] 31 (0,0))
 c7:w.heap[b7]? =some (.cells #[.func (.func 279) #[] #[.pointer (some ⟨g2,0,none⟩), .pointer (some ⟨g5,0,none⟩)]] 184 (0,0))
 ex:∃(A:Option Addr) (c:Nat) (B:Option Addr) (d:Nat),w.heap[b4]? =some (.cells #[.slice A n c] 101 (0,0))∧w.heap[b5]? =some (.cells #[.slice B k d] 71 (0,0))∧Gr w0 A n c rs∧Sl w0 1 B k d (jay t)
 h3:Bd<=b3
 h4:Bd<=b4
 h5:Bd<=b5
 h7:Bd<=b7
 lt:∀a,a<k->t.getD a 0<n
 wid:∀a,a<k->(rs.getD (t.getD a 0) []).length=W
 small:W<=1048576
section
variable {w0 w w':World}{Bd C k m F T b3 b4 b5 b7 g2 g5 W n:Nat}{rs:List (List UInt8)}{t:List Nat}{X:Mx}
theorem MkrB.mkr (h:MkrB w0 w Bd C k m F T b3 b4 b5 b7 g2 g5 W n rs t X):Mkr w Bd C k m F T b3 b4 b5 b7 g2 g5 W n rs t X:=by
 obtain⟨A,c,B,d,h1,h2,h3,h4⟩:=h.ex;exact⟨h.cod.later h.bel,h.pln,cell_of_one h.c3,cell_of_one h.c7,⟨A,c,B,d,cell_of_one h1,cell_of_one h2,h3.later h.bel,h4.below h.bel (Nat.le_refl _)⟩,h.lt,h.wid,h.small⟩
theorem MkrB.fr {S:Nat->Prop}(h:MkrB w0 w Bd C k m F T b3 b4 b5 b7 g2 g5 W n rs t X)(hf:Fr S w w')(hS:∀b,S b->w0.heap.size<=b∧b<Bd):MkrB w0 w' Bd C k m F T b3 b4 b5 b7 g2 g5 W n rs t X:=by
 obtain⟨A,c,B,d,e1,e2,e3,e4⟩:=h.ex;have h3:=h.h3;have h4:=h.h4;have h5:=h.h5;have h7:=h.h7;exact⟨h.cod,h.bel.trans (hf.below h.bel.size (λ b hb=>(hS b hb).1)),h.le,h.pln.fr hf (λ b hb=>(hS b hb).2),hf.row_some h.c3 (λ hk=>by have:=hS _ hk;omega),hf.row_some h.c7 (λ hk=>by have:=hS _ hk;omega),
  ⟨A,c,B,d,hf.row_some e1 (λ hk=>by have:=hS _ hk;omega),hf.row_some e2 (λ hk=>by have:=hS _ hk;omega),e3,e4⟩,h.h3,h.h4,h.h5,h.h7,h.lt,h.wid,h.small⟩
end
theorem jmQ (C k m F T W n:Nat)(A:Option Addr)(c:Nat)(rs:List (List UInt8))(B:Option Addr)(d:Nat)(t:List Nat)(w0 w:World)(h:Cod w0 C k m F T)(hg:Gr w0 A n c rs)(hs:Sl w0 1 B k d (jay t))(hb:Below w0.heap.size w0 w)(hn:n=k+m)(hlt:∀a,a<k->t.getD a 0<n)(hd:∀i,i<k->∀j,j<i->t.getD i 0≠t.getD j 0)
  (hw:∀a,a<k->(rs.getD (t.getD a 0) []).length=W)(hW:W<=1048576):
  Calls Tryz.prog 250 #[.pointer (some ⟨C,0,none⟩), .slice A n c, .slice B k d] w
   λ e w' =>∃(b3 b4 b5 b7 g2 g5:Nat) (X:Mx),e= .returned (.func (.func 270) #[] #[.pointer (some ⟨b4,0,none⟩), .pointer (some ⟨b5,0,none⟩), .pointer (some ⟨b7,0,none⟩), .pointer (some ⟨b3,0,none⟩)])∧MkrB w0 w' w.heap.size C k m F T b3 b4 b5 b7 g2 g5 W n rs t X∧Below w.heap.size w w':=by
 have hb3:Below w.heap.size w (((w.alloc (.cells #[.pointer (some ⟨C,0,none⟩)] 31)).alloc (.cells #[.slice A n c] 101)).alloc (.cells #[.slice B k d] 71)):=(((Below.refl _ _).alloc (Nat.le_refl _) _).alloc (by simp) _).alloc (by simp;omega) _;have x3:(((w.alloc (.cells #[.pointer (some ⟨C,0,none⟩)] 31)).alloc (.cells #[.slice A n c] 101)).alloc (.cells #[.slice B k d] 71)).heap[w.heap.size]? =_:=(Below.heap_alloc _ _ _ (by simp;omega)).trans (jbJ w _ _);have x4:(((w.alloc (.cells #[.pointer (some ⟨C,0,none⟩)] 31)).alloc (.cells #[.slice A n c] 101)).alloc (.cells #[.slice B k d] 71)).heap[w.heap.size+1]? =_:=(Below.heap_alloc _ _ _ (by simp)).trans (jaQ w _ _);have x5:=heap_alloc_new ((w.alloc (.cells #[.pointer (some ⟨C,0,none⟩)] 31)).alloc (.cells #[.slice A n c] 101)) (.cells #[.slice B k d] 71)
 rw [show ((w.alloc (.cells #[.pointer (some ⟨C,0,none⟩)] 31)).alloc (.cells #[.slice A n c] 101)).heap.size=w.heap.size+2 from by simp] at x5;have k3:=cell_of_one x3;have k5:=cell_of_one x5;have hsz:=hb3.size;have hh:=ji2 C k m F T B d t _ ((h.later hb).later hb3) ((hs.below hb (Nat.le_refl _)).below hb3 (Nat.le_refl _)) (λ a ha=>by have:=hlt a ha;omega) hd;have H:=qH h;have Hg:=qH hg;have Hs:=qH hs;have Hb:=qH hb;have Hlt:=qH hlt;have Hw:=qH hw;have Hb3:=qH hb3;have X3:=qH x3;have X4:=qH x4;have X5:=qH x5;clear h hg hs hb hlt hw hb3 x3 x4 x5 hd hn;go_enter Tryz.func250,Tryz.ntmps250;go_wp2_with fail;refine hh.mono ?_;clear hh;rintro e w2 ⟨g2,g5,X,rfl,hP,hb2⟩;clear k3 k5;have hz1:(((w.alloc (.cells #[.pointer (some ⟨C,0,none⟩)] 31)).alloc (.cells #[.slice A n c] 101)).alloc (.cells #[.slice B k d] 71)).heap.size=w.heap.size+3:=by simp
 obtain⟨w1,hw1⟩:∃x,x=((w.alloc (.cells #[.pointer (some ⟨C,0,none⟩)] 31)).alloc (.cells #[.slice A n c] 101)).alloc (.cells #[.slice B k d] 71):=⟨_,rfl⟩;rw [<-hw1] at hsz Hb3 X3 X4 X5 hP hb2 hz1;clear hw1;have hs2:=hb2.size;have HP:=qH hP;have Hb2:=qH hb2;clear hP hb2;go_wp2_with fail;go_ret;obtain⟨fv,hfv⟩:∃x,x=Value.func (.func 279) #[] #[.pointer (some ⟨g2,0,none⟩), .pointer (some ⟨g5,0,none⟩)]:=⟨_,rfl⟩;have y7:=heap_alloc_new w2 (.cells #[fv] 184);have hf:Fr (λ _=>False) w2 (w2.alloc (.cells #[fv] 184)):=Fr.alloc (Fr.refl _ _) _;have hb2':=Hb2.out;have hbf:Below w.heap.size w (w2.alloc (.cells #[fv] 184)):=(Hb3.out.trans (hb2'.mono hsz)).alloc (by omega) _;rw [hfv] at y7 hf hbf;have hP:=HP.out.fr hf (λ _ h=>h.elim);have cl:∀{p:Nat} {o:Obj},w1.heap[p]? =some o->w2.heap[p]? =some o:=λ h=>(hb2'.block _ (block_lt h)).trans h
 refine⟨w.heap.size,w.heap.size+1,w.heap.size+2,w2.heap.size,g2,g5,X,rfl,⟨H.out,Hb.out.trans (hbf.mono Hb.out.size),Hb.out.size, ?_,hf.row_some (cl X3.out) id,y7,⟨A,c,B,d,hf.row_some (cl X4.out) id,hf.row_some (cl X5.out) id,Hg.out,Hs.out⟩,by omega,by omega,by omega,by omega,Hlt.out,Hw.out,hW⟩,hbf⟩;obtain⟨A5,c5,p1,p2,p3,p4⟩:=hP.ex;have:=hP.hT;have:=hP.h2;have:=hP.h5;have hTw:=H.out.fld.fld.ltT;have:=Hb.out.size;exact⟨hP.inv,⟨A5,c5,p1,p2,p3,λ b o e=>by have:=p4 b o e;omega⟩,by omega,by omega,by omega⟩
end
section
theorem jk0 (A:Option Addr)(n c:Nat)(rs:List (List UInt8))(w:World)(hg:Gr w A n c rs)(hW:∀r∈rs,r.length<=1048576)(hn:n<=1048576):
  Calls Tryz.prog 248 #[.slice A n c] w λ e w' =>∃(g:Nat) (cur:Array Value),e= .returned (.slice (some ⟨g,0,none⟩) n n)∧Enc w g n cur rs w' ∧g<w'.heap.size:=by
 have hmk:=jbE (n:Int) n rfl hn;have Hg:=qH hg;clear hg;have HW:=qH hW;clear hW;go_enter Tryz.func248,Tryz.ntmps248;go_wp2_with fail;clear hmk;go_loopw [11] (λ i wr=>∃(k:Nat) (cur:Array Value),k<=n∧i= .int .i64 (k:Int)∧Enc w w.heap.size n cur (rs.take k) wr) (λ i _=>n-(intOf i).toNat)
 case atStart=>exact⟨0,_,by omega,rfl,(Below.refl _ _).alloc (Nat.le_refl _) _,Fil.made w n,Nat.le_refl _⟩
 case round=>
  obtain⟨j,cur,hj,rfl,hE⟩:=hrel;have E:=qH hE;clear hE
  by_cases hlt:j<n
  ·obtain⟨b,o,rfl,hc⟩:=(Hg.out.later E.out.bel).at_ (by omega)
   obtain⟨Ar,cr,hcr,hsr⟩:=hc j _ (Hg.out.get hlt);have hWj:(rs.getD j []).length<=1048576:=HW.out _ (List.mem_of_getElem? (Hg.out.get hlt));have hjl:j<rs.length:=by rw [Hg.out.len];exact hlt
   have hnext:rs.take j ++ [rs.getD j []]=rs.take (j+1):=by
    rw [<-List.take_append_getElem hjl];simp [hjl]
   obtain⟨r,hr⟩:∃r,r=rs.getD j []:=⟨_,rfl⟩;rw [<-hr] at hcr hsr hWj hnext;have Hnext:=qH hnext;clear hr hc hnext;have hcl:=jhE Ar r.length cr r wr hsr hWj;clear hsr;go_wp2_with fail;refine hcl.mono ?_;clear hcl;rintro e w3 ⟨Ac,nc,cc,rfl,hsc,hb3,hmc⟩;have hnc:nc=r.length:=by
    have:=hsc.len;rw [jaa] at this;omega
   subst hnc;have E3:=qH (E.out.later hb3);have hgl:w.heap.size<wr.heap.size:=block_lt E.out.fil.row;have Hsc:=qH hsc;have hA:∀b o,0<r.length->Ac=some ⟨b,o,none⟩->b≠w.heap.size:=λ b o hn e=>by
    obtain⟨g',cur',e',hg',_⟩:=hmc hn;rw [e] at e';injection e' with e';injection e' with e' _
    omega
   have HA:=qH hA;obtain⟨v0,hv0⟩:=E3.out.fil.has hlt;have hfz:=E3.out.fil.free j;clear hsc hmc hb3 hcr hA E;go_wp2_with fail;have hf:=Fr.setCell (S:=λ k=>k=w.heap.size) (Fr.refl _ w3) (p:=⟨w.heap.size,j,none⟩) (.inr rfl) (.slice Ac r.length cc);have hst:=E3.out.store (k:=j) (by rw [List.length_take];omega) hlt hf (heap_setCell_same _ w.heap.size j _ _ (.slice Ac r.length cc) E3.out.fil.row) Hsc.out HA.out;rw [Hnext.out] at hst;have Hst:=qH hst;clear hf hst hv0 hfz;go_roundw
   case rel=>exact⟨j+1,_,by omega,by go_num,Hst.out⟩
   case measure=>simp [intOf];omega
  ·obtain rfl:j=n:=by omega
   go_wp2_with fail;go_ret;have:=E.out;rw [List.take_of_length_le (by rw [Hg.out.len];exact Nat.le_refl _)] at this;exact⟨_,cur,rfl,this,block_lt this.fil.row⟩
def jdq (rs:List (List UInt8))(mk:Nat->List UInt8)(j:Nat):List (List UInt8):=(List.range rs.length).map λ i=>if i<j∧(rs.getD i []).length=0 then mk i else rs.getD i []
theorem jaH (rs:List (List UInt8))(mk:Nat->List UInt8)(j:Nat):(jdq rs mk j).length=rs.length:=by simp [jdq]
theorem jbv (rs:List (List UInt8))(mk:Nat->List UInt8)(j i:Nat)(h:i<rs.length):(jdq rs mk j)[i]? =some (if i<j∧(rs.getD i []).length=0 then mk i else rs.getD i []):=by simp [jdq,h]
theorem jk1 (rs:List (List UInt8))(mk:Nat->List UInt8):jdq rs mk 0=rs:=by
 apply List.ext_getElem?
 intro i
 by_cases h:i<rs.length
 ·rw [jbv _ _ _ _ h,if_neg (by omega)]
  simp [h]
 ·rw [List.getElem?_eq_none (by rw [jaH];omega),List.getElem?_eq_none (by omega)]
theorem jk2 (rs:List (List UInt8))(mk:Nat->List UInt8)(j:Nat)(h:(rs.getD j []).length≠0):jdq rs mk (j+1)=jdq rs mk j:=by
 apply List.ext_getElem?
 intro i
 by_cases hi:i<rs.length
 ·rw [jbv _ _ _ _ hi,jbv _ _ _ _ hi]
  by_cases hij:i=j
  ·subst hij
   rw [if_neg (λ h' =>h h'.2),if_neg (λ h' =>h h'.2)]
  ·have:(i<j+1)=(i<j):=by apply propext;omega
   simp only [this]
 ·rw [List.getElem?_eq_none (by rw [jaH];omega),List.getElem?_eq_none (by rw [jaH];omega)]
theorem jk3 (rs:List (List UInt8))(mk:Nat->List UInt8)(j:Nat)(h:(rs.getD j []).length=0):(jdq rs mk j).set j (mk j)=jdq rs mk (j+1):=by
 apply List.ext_getElem?
 intro i
 by_cases hi:i<rs.length
 ·rw [List.getElem?_set,jbv _ _ _ _ hi,jbv _ _ _ _ hi]
  by_cases hij:j=i
  ·subst hij
   rw [if_pos rfl,if_pos (by rw [jaH];exact hi),if_pos ⟨by omega,h⟩]
  ·have:(i<j+1)=(i<j):=by apply propext;omega
   rw [if_neg hij];simp only [this]
 ·rw [List.getElem?_eq_none (by rw [List.length_set,jaH];omega),List.getElem?_eq_none (by rw [jaH];omega)]
theorem jk4 (rs:List (List UInt8))(mk:Nat->List UInt8)(h:∀i,i<rs.length->(rs.getD i []).length≠0)(j:Nat):jdq rs mk j=rs:=by
 apply List.ext_getElem?
 intro i
 by_cases hi:i<rs.length
 ·rw [jbv _ _ _ _ hi,if_neg (λ h' =>h i hi h'.2)]
  simp [hi]
 ·rw [List.getElem?_eq_none (by rw [jaH];omega),List.getElem?_eq_none (by omega)]
theorem jmR (g n gf:Nat)(cur:Array Value)(rs:List (List UInt8))(caps:Array Value)(mk:Nat->List UInt8)(w:World)(h:Fil w g n cur rs)(hl:rs.length=n)(hn:n<=1048576)
  (eg:∀args w,(callFunc gf args).run Tryz.prog w= .ok (.enter gf args) w)(ha:∀(W:World) (x:Nat),x<n->Fr (λ k=>k=g) w W->Calls Tryz.prog gf (#[.int .i64 (x:Int)] ++ caps) W (jcw W.heap.size W (mk x))):
  Calls Tryz.prog 249 #[.slice (some ⟨g,0,none⟩) n n, .func (.func gf) #[] caps] w λ e w' =>e= .returned (.tuple #[])∧Fr (λ k=>k=g) w w' ∧∃cur',Fil w' g n cur' (jdq rs mk n):=by
 have hgl:=block_lt h.row;have H:=qH h;clear h;have Ha:=qH ha;clear ha;have Hl:=qH hl;clear hl;go_enter Tryz.func249,Tryz.ntmps249;go_wp2_with fail;go_loopw [8] (λ i wr=>∃(k:Nat) (cur:Array Value),k<=n∧i= .int .i64 (k:Int)∧Fil wr g n cur (jdq rs mk k)∧Fr (λ k=>k=g) w wr) (λ i _=>n-(intOf i).toNat)
 case atStart=>exact⟨0,cur,by omega,rfl,by rw [jk1];exact H.out,Fr.refl _ _⟩
 case round=>
  obtain⟨j,cu,hj,rfl,hF,hfr⟩:=hrel;have F:=qH hF;clear hF;have Hfr:=qH hfr;have hszr:=hfr.size;clear hfr
  by_cases hlt:j<n
  ·have hget:=jbv rs mk j j (by rw [Hl.out];exact hlt)
   rw [if_neg (by omega)] at hget;obtain⟨Ar,cr,h1,h2,h3⟩:=F.out.rows j _ hget;have hcell:wr.cell? ⟨g,j,none⟩=some (.slice Ar (rs.getD j []).length cr):=by rw [cell_of_row _ _ _ _ _ _ F.out.row];exact h1
   obtain⟨L,hL⟩:∃L,L=(rs.getD j []).length:=⟨_,rfl⟩;rw [<-hL] at hcell;have HL:=qH hL;have hlim:=h2.lim;rw [<-hL] at hlim;unfold maxLen at hlim;clear h1 h2 h3 hget hL
   by_cases hz:L=0
   ·have hzi:((L:Int)==0)=true:=by simp [hz]
    have hnext:=jk3 rs mk j (by rw [<-HL.out];exact hz);have Hnext:=qH hnext;have hh:=Ha.out wr j hlt Hfr.out;clear hnext hz;go_wp2_with fail;refine hh.mono ?_;clear hh;rintro e w3 ⟨Ac,nc,cc,rfl,hsc,hb3,hmc⟩;obtain⟨r,hr⟩:∃r,r=mk j:=⟨_,rfl⟩;have hnc:nc=r.length:=by
     have:=hsc.len;rw [jaa] at this;rw [hr];omega
    rw [<-hr] at hsc hmc Hnext;subst hnc;have F3:=qH (F.out.later hb3);have Hfr3:=qH (Hfr.out.trans (Fr.of_below hb3));have Hsc:=qH hsc;have hA:∀b o,0<r.length->Ac=some ⟨b,o,none⟩->b≠g:=λ b o hn e=>by
     obtain⟨g',cur',e',hg',_⟩:=hmc hn;rw [e] at e';injection e' with e';injection e' with e' _
     omega
    have HA:=qH hA;obtain⟨v0,hv0⟩:=F3.out.has hlt;have hfz:=F3.out.free j;clear hsc hmc hb3 hA hr hcell;go_wp2_with fail;have hf:=Fr.setCell (S:=λ k=>k=g) (Fr.refl _ w3) (p:=⟨g,j,none⟩) (.inr rfl) (.slice Ac r.length cc);have hst:=F3.out.put hf hlt (heap_setCell_same _ g j _ _ (.slice Ac r.length cc) F3.out.row) (Hsc.out.fr hf (λ b o hn e hb=>HA.out b o hn e hb)) HA.out;rw [Hnext.out] at hst;have Hst:=qH hst;have Hff:=qH (Hfr3.out.trans hf);clear hf hst hv0 hfz;go_roundw
    case rel=>exact⟨j+1,_,by omega,by go_num,Hst.out,Hff.out⟩
    case measure=>simp [intOf];omega
   ·have hzi:((L:Int)==0)=false:=by simp;omega
    have hnext:=jk2 rs mk j (by rw [<-HL.out];exact hz);have Hnext:=qH hnext;clear hnext hz;go_wp2_with fail;go_roundw
    case rel=>exact⟨j+1,cu,by omega,by go_num,by rw [Hnext.out];exact F.out,Hfr.out⟩
    case measure=>simp [intOf];omega
  ·obtain rfl:j=n:=by omega
   go_wp2_with fail;go_end0;exact⟨rfl,Hfr.out,cu,F.out⟩
end
section
theorem ja3 {l:List Nat}{k a:Nat}(h:a<k):(l.take k).getD a 0=l.getD a 0:=by
 rw [List.getD_eq_getElem?_getD,List.getElem?_take,if_pos h,List.getD_eq_getElem?_getD]
theorem jgQ (rs:List (List UInt8))(j:Nat):(jae rs j).Pairwise (· < ·):=List.Pairwise.filter _ List.pairwise_lt_range
theorem jdr (rs:List (List UInt8))(j:Nat){a b:Nat}(h:a<b)(hb:b<(jae rs j).length):(jae rs j).getD a 0<(jae rs j).getD b 0:=by
 have:=List.pairwise_iff_getElem.1 (jgQ rs j) a b (by omega) hb h
 simpa [show a<(jae rs j).length by omega,hb] using this
theorem jk5 {rs:List (List UInt8)}{j a:Nat}(h:a<(jae rs j).length):0<(rs.getD ((jae rs j).getD a 0) []).length:=by
 have hm:(jae rs j)[a]∈(List.range j).filter (λ i=>decide (0<(rs.getD i []).length)):=List.getElem_mem h;rw [List.mem_filter] at hm;rw [show (jae rs j).getD a 0=(jae rs j)[a] from by simp [h]];exact of_decide_eq_true hm.2
theorem jmS {rs:List (List UInt8)}{j i:Nat}(h:j<=(jae rs j).length)(hi:i<j):(rs.getD i []).length≠0:=by
 intro h0;have e:(jae rs j).length=(List.range j).length:=by
  have:=jfm rs j;rw [List.length_range];omega
 have:=(List.length_filter_eq_length_iff.1 e) i (List.mem_range.2 hi);rw [h0] at this;exact absurd this (by decide)
theorem Gr.take {w:World}{A:Option Addr}{n c cnt:Nat}{rs:List (List UInt8)}(h:Gr w A n c rs)(hc:cnt<=n):Gr w A cnt c (rs.take cnt):=by
 obtain⟨vs,hs,hr⟩:=h.ex;have hl:=hs.len;have hcap:=hs.cap;refine⟨⟨vs.take cnt,⟨by rw [List.length_take];omega,by omega,hs.top,λ j u hu=> ?_⟩,λ i r hi=> ?_⟩,by rw [List.length_take,h.len];omega⟩
 ·rw [List.getElem?_take] at hu
  split at hu
  ·exact hs.cell j u hu
  ·cases hu
 ·rw [List.getElem?_take] at hi
  split at hi
  ·rename_i hlt
   obtain⟨A',c',h1,h2⟩:=hr i r hi;exact⟨A',c',by rw [List.getElem?_take,if_pos hlt];exact h1,h2⟩
  ·cases hi
theorem jpc {w:World}{A:Option Addr}{q c k:Nat}{t:List Nat}(h:Sl w 1 A q c (jay t))(hk:k<=q):Sl w 1 A k c (jay (t.take k)):=by
 have hl:=h.len;rw [jar] at hl;have hcap:=h.cap;refine⟨by rw [jar,List.length_take];omega,by omega,h.top,λ j u hu=> ?_⟩;have e:jay (t.take k)=(jay t).take k:=by simp [jay,List.map_take]
 rw [e,List.getElem?_take] at hu
 split at hu
 ·exact h.cell j u hu
 ·cases hu
theorem ji5 (C k m F T cnt:Nat)(A:Option Addr)(n c:Nat)(rs:List (List UInt8))(w:World)(h:Cod w C k m F T)(hg:Gr w A n c rs)(hW:∀r∈rs,r.length<=1048576)(hn:n<=1048576)(hcnt:cnt<=k+m):
  Calls Tryz.prog 213 #[.pointer (some ⟨C,0,none⟩), .slice A n c, .int .i64 (cnt:Int)] w λ e w' =>
   ((jaT k m rs≠0∧e= .returned (.tuple #[.slice none 0 0, .int .i64 (jaT k m rs)]))∨
    (jaT k m rs=0∧∃(A':Option Addr) (c':Nat) (X:Mx),Alike k k (mm k X (facM k ((jae rs n).take k))) one∧e= .returned (.tuple #[.slice A' cnt c', .int .i64 0])∧
     Gr w' A' cnt c' (jdq (rs.take cnt) (ji4 k X rs ((jae rs n).take k) (rs.getD ((jae rs n).getD 0 0) []).length) cnt)))∧Below w.heap.size w w':=by
 have h1:=h.k1;have h3:=h.n255;have hlen:=hg.len;obtain⟨q,hq⟩:∃q,q=(jae rs n).length:=⟨_,rfl⟩;have hqn:q<=n:=by rw [hq];exact jfm _ _
 have H:=qH h;clear h;have Hg:=qH hg;clear hg;have HW:=qH hW;clear hW;have Hlen:=qH hlen;clear hlen;have Hq:=qH hq;clear hq
 by_cases hnk:n=k+m
 ·have hz:((n:Int) !=(k:Int) +(m:Int))=false:=by simp;omega
  have hni:(n:Int)=(k:Int) +(m:Int):=by omega
  have Hnk:=qH hnk;have hcn:cnt<=n:=by omega
  clear hnk hni
  by_cases hlv:jd3 rs=true
  ·have Hlv:=qH hlv
   by_cases hqk:q<k
   ·have hr:jaT k m rs=60:=by rw [jaT,if_neg (by rw [Hlen.out,Hnk.out];simp),if_neg (by rw [Hlv.out];decide),Hlen.out,<-Hq.out,if_pos hqk]
    have Hr:=qH hr;have hqki:(q:Int)<(k:Int):=by omega
    clear hr hlv;go_enter Tryz.func213,Tryz.ntmps213;go_wp2_with fail;refine(jdO C k m F T _ H.out).mono ?_;rintro e w0 ⟨rfl,rfl⟩;go_wp2_with fail;have hh:=jcj A n c rs w0 Hg.out (by omega);refine hh.mono ?_;clear hh;rintro e w1 ⟨⟨B,q',d,rfl,hs1⟩,hb1⟩;obtain rfl:q' =q:=by
     have:=hs1.len;rw [jar] at this;rw [Hq.out];omega
    have Hs1:=qH hs1;have Hb1:=qH hb1;have hz1:=hb1.size;clear hs1 hb1;go_wp2_with fail;refine(jhz C k m F T _ (H.out.later Hb1.out)).mono ?_;rintro e w2 ⟨rfl,hb2⟩;have Hs2:=qH (Hs1.out.below hb2 (Nat.le_refl _));have Hb2:=qH (Hb1.out.trans (hb2.mono hz1));have hz2:=Hb2.out.size;clear hb2;go_wp2_with fail;have hh:=jeg A n c rs B q' d w2 (Hg.out.later Hb2.out) Hs2.out;rw [Hlv.out] at hh;refine hh.mono ?_;clear hh;rintro e w3 ⟨rfl,hb3⟩;have Hs3:=qH (Hs2.out.below hb3 (Nat.le_refl _));have Hb3:=qH (Hb2.out.trans (hb3.mono hz2));have hz3:=Hb3.out.size;clear hb3;go_wp2_with fail;refine(jeE C k m F T _ (H.out.later Hb3.out)).mono ?_;rintro e w4 ⟨rfl,rfl⟩;go_wp2_with fail;go_ret2;exact⟨.inl ⟨by rw [Hr.out];decide,by rw [Hr.out];rfl⟩,Hb3.out⟩
   ·have hr:jaT k m rs=0:=by rw [jaT,if_neg (by rw [Hlen.out,Hnk.out];simp),if_neg (by rw [Hlv.out];decide),Hlen.out,<-Hq.out,if_neg hqk]
    have Hr:=qH hr;have hqki:¬((q:Int)<(k:Int)):=by omega
    have hkq:k<=q:=by omega
    have hkqi:(k:Int)<=(q:Int):=by omega
    have hcni:(cnt:Int)<=(n:Int):=by omega
    have hgc:=Hg.out.capLe;obtain⟨W,hWd⟩:∃W,W=(rs.getD ((jae rs n).getD 0 0) []).length:=⟨_,rfl⟩;have hW1:W<=1048576:=by
     rw [hWd];have:=Hg.out.get (i:=(jae rs n).getD 0 0) (jc5 (by rw [<-Hq.out];omega));exact HW.out _ (List.mem_of_getElem? this)
    have hwid:∀a,a<q->(rs.getD ((jae rs n).getD a 0) []).length=W:=λ a ha=>by
     have:=(of_decide_eq_true Hlv.out) a (by rw [Hlen.out,<-Hq.out];exact ha);rw [Hlen.out] at this;rw [this,hWd]
    rw [<-hWd];have Hwid:=qH hwid;clear hr hlv hqk hWd hwid;unfold maxLen at hgc;go_enter Tryz.func213,Tryz.ntmps213;go_wp2_with fail;refine(jdO C k m F T _ H.out).mono ?_;rintro e w0 ⟨rfl,rfl⟩;go_wp2_with fail;have hh:=jcj A n c rs w0 Hg.out (by omega);refine hh.mono ?_;clear hh;rintro e w1 ⟨⟨B,q',d,rfl,hs1⟩,hb1⟩;obtain rfl:q' =q:=by
     have:=hs1.len;rw [jar] at this;rw [Hq.out];omega
    have Hs1:=qH hs1;have Hb1:=qH hb1;have hz1:=hb1.size;clear hs1 hb1;go_wp2_with fail;refine(jhz C k m F T _ (H.out.later Hb1.out)).mono ?_;rintro e w2 ⟨rfl,hb2⟩;have Hs2:=qH (Hs1.out.below hb2 (Nat.le_refl _));have Hb2:=qH (Hb1.out.trans (hb2.mono hz1));have hz2:=Hb2.out.size;clear hb2;go_wp2_with fail;have hh:=jeg A n c rs B q' d w2 (Hg.out.later Hb2.out) Hs2.out;rw [Hlv.out] at hh;refine hh.mono ?_;clear hh;rintro e w3 ⟨rfl,hb3⟩;have Hs3:=qH (Hs2.out.below hb3 (Nat.le_refl _));have Hb3:=qH (Hb2.out.trans (hb3.mono hz2));have hz3:=Hb3.out.size;clear hb3;go_wp2_with fail;have hqd:=Hs3.out.cap;have hdt:=Hs3.out.top;unfold maxLen at hdt;have hkd:k<=d:=by omega
    have hkdi:(k:Int)<=(d:Int):=by omega
    have hcc:cnt<=c:=by omega
    have hcci:(cnt:Int)<=(c:Int):=by omega
    refine(jeE C k m F T _ (H.out.later Hb3.out)).mono ?_;rintro e w4 ⟨rfl,rfl⟩;go_wp2_with fail;have hgs:Gr w4 A cnt c (rs.take cnt):=(Hg.out.later Hb3.out).take hcn;have hh:=jk0 A cnt c (rs.take cnt) w4 hgs (λ r hr=>HW.out r (List.mem_of_mem_take hr)) (by omega);clear hgs;refine hh.mono ?_;clear hh;rintro e w5 ⟨g,cur,rfl,hE,hg5⟩;have E:=qH hE;have hz5:=hE.bel.size;have hgn:=hE.new;have hrl:(rs.take cnt).length=cnt:=by rw [List.length_take,Hlen.out];omega
    have Hrl:=qH hrl;have hgr:=hE.fil.gr hrl (by unfold maxLen;omega);have hh:=jcj (some ⟨g,0,none⟩) cnt cnt (rs.take cnt) w5 hgr (by omega);clear hE hgr hrl;go_wp2_with fail;refine hh.mono ?_;clear hh;rintro e w6 ⟨⟨B6,q6,d6,rfl,hs6⟩,hb6⟩;have hq6:(jae (rs.take cnt) cnt).length=q6:=by
     have:=hs6.len;rw [jar] at this;omega
    have Hq6:=qH hq6;have hq6l:q6<=cnt:=by rw [<-hq6];exact jfm _ _
    have E6:=qH (E.out.later hb6);have hz6:=hb6.size;clear hs6 hb6 hq6
    by_cases hall:q6<cnt
    ·have halli:(q6:Int)<(cnt:Int):=by omega
     go_wp2_with fail;refine(jeE C k m F T _ ((H.out.later Hb3.out).later E6.out.bel)).mono ?_;rintro e w7 ⟨rfl,rfl⟩;go_wp2_with fail;have hsk:Sl w4 1 B k d (jay ((jae rs n).take k)):=jpc Hs3.out (by omega);have hh:=jmQ C k m F T W n A c rs B d ((jae rs n).take k) w4 w7 (H.out.later Hb3.out) (Hg.out.later Hb3.out) hsk E6.out.bel Hnk.out (λ a ha=>by rw [ja3 ha];exact jc5 (by rw [<-Hq.out];omega)) (λ i hi j hj=>by
      rw [ja3 hi,ja3 (by omega)];have:=jdr rs n hj (show i<(jae rs n).length by rw [<-Hq.out];omega);omega) (λ a ha=>by rw [ja3 ha];exact Hwid.out a (by omega)) hW1
     refine hh.mono ?_;clear hh hsk;rintro e w8 ⟨b3,b4,b5,b7,g2,g5,X,rfl,hM,hb8⟩;have hX:=hM.pln.inv;have hf8:=E6.out.fil.later hb8;have hh:=jmR g cnt 270 cur (rs.take cnt) #[.pointer (some ⟨b4,0,none⟩), .pointer (some ⟨b5,0,none⟩), .pointer (some ⟨b7,0,none⟩), .pointer (some ⟨b3,0,none⟩)] (ji4 k X rs ((jae rs n).take k) W) w8 hf8 Hrl.out (by omega) (enters_of Tryz.func270 (by kernel_rfl) rfl)
      (λ Wd x hx hfr=>jmP w7.heap.size C k m F T b3 b4 b5 b7 g2 g5 W n x rs _ X Wd ((hM.fr hfr (λ b hb=>by have hb:b=g:=hb;omega)).mkr) (by omega))
     have HX:=qH hX;have Hb8:=qH (E6.out.bel.trans (hb8.mono E6.out.bel.size));have hz8:=Hb8.out.size;clear hX hf8 hM hb8;go_wp2_with fail;refine hh.mono ?_;clear hh;rintro e w9 ⟨rfl,hf9,cur9,hF9⟩;have Hb9:=qH (Hb3.out.trans ((Hb8.out.trans (hf9.below hz8 (λ b hb=>by have hb:b=g:=hb;omega))).mono hz3));have F9:=qH hF9;clear hf9 hF9;go_wp2_with fail;go_ret2;exact⟨.inr ⟨Hr.out,_,_,X,HX.out,rfl,F9.out.gr (by rw [jaH];exact Hrl.out) (by unfold maxLen;omega)⟩,Hb9.out⟩
    ·have halli:¬((q6:Int)<(cnt:Int)):=by omega
     have HallN:=qH hall;clear hall;go_wp2_with fail;go_ret2;obtain⟨X,hX⟩:=jkd (t:=(jae rs n).take k) h3 (λ a ha=>by rw [ja3 ha];have:=jc5 (rs:=rs) (j:=n) (a:=a) (by rw [<-Hq.out];omega);have:=Hnk.out;omega) (λ i hi j hj=>by
      rw [ja3 hi,ja3 (by omega)];have:=jdr rs n hj (show i<(jae rs n).length by rw [<-Hq.out];omega);omega)
     refine⟨.inr ⟨Hr.out,_,_,X,hX,rfl, ?_⟩,Hb3.out.trans (E6.out.bel.mono hz3)⟩;rw [jk4 _ _ (λ i hi=> ?_)]
     ·exact E6.out.fil.gr Hrl.out (by unfold maxLen;omega)
     ·exact jmS (by rw [Hrl.out,Hq6.out];have:=HallN.out;omega) hi
  ·have hlv:jd3 rs=false:=by simpa using hlv
   have Hlv:=qH hlv;have hr:jaT k m rs=2:=by rw [jaT,if_neg (by rw [Hlen.out,Hnk.out];simp),if_pos Hlv.out]
   have Hr:=qH hr;clear hr hlv;go_enter Tryz.func213,Tryz.ntmps213;go_wp2_with fail;refine(jdO C k m F T _ H.out).mono ?_;rintro e w0 ⟨rfl,rfl⟩;go_wp2_with fail;have hh:=jcj A n c rs w0 Hg.out (by omega);refine hh.mono ?_;clear hh;rintro e w1 ⟨⟨B,q',d,rfl,hs1⟩,hb1⟩;obtain rfl:q' =q:=by
    have:=hs1.len;rw [jar] at this;rw [Hq.out];omega
   have Hs1:=qH hs1;have Hb1:=qH hb1;have hz1:=hb1.size;clear hs1 hb1;go_wp2_with fail;refine(jhz C k m F T _ (H.out.later Hb1.out)).mono ?_;rintro e w2 ⟨rfl,hb2⟩;have Hs2:=qH (Hs1.out.below hb2 (Nat.le_refl _));have Hb2:=qH (Hb1.out.trans (hb2.mono hz1));have hz2:=Hb2.out.size;clear hb2;go_wp2_with fail;have hh:=jeg A n c rs B q' d w2 (Hg.out.later Hb2.out) Hs2.out;rw [Hlv.out] at hh;refine hh.mono ?_;clear hh;rintro e w3 ⟨rfl,hb3⟩;have Hs3:=qH (Hs2.out.below hb3 (Nat.le_refl _));have Hb3:=qH (Hb2.out.trans (hb3.mono hz2));have hz3:=Hb3.out.size;clear hb3;go_wp2_with fail;go_ret2;exact⟨.inl ⟨by rw [Hr.out];decide,by rw [Hr.out];rfl⟩,Hb3.out⟩
 ·have hz:((n:Int) !=(k:Int) +(m:Int))=true:=by simp;omega
  have hr:jaT k m rs=2:=by rw [jaT,if_pos (by rw [Hlen.out];exact hnk)]
  have Hr:=qH hr;clear hr hnk;go_enter Tryz.func213,Tryz.ntmps213;go_wp2_with fail;refine(jdO C k m F T _ H.out).mono ?_;rintro e w0 ⟨rfl,rfl⟩;go_wp2_with fail;have hh:=jcj A n c rs w0 Hg.out (by omega);refine hh.mono ?_;clear hh;rintro e w1 ⟨⟨B,q',d,rfl,hs1⟩,hb1⟩;obtain rfl:q' =q:=by
   have:=hs1.len;rw [jar] at this;rw [Hq.out];omega
  have Hs1:=qH hs1;have Hb1:=qH hb1;have hz1:=hb1.size;clear hs1 hb1;go_wp2_with fail;refine(jhz C k m F T _ (H.out.later Hb1.out)).mono ?_;rintro e w2 ⟨rfl,hb2⟩;have Hs2:=qH (Hs1.out.below hb2 (Nat.le_refl _));have Hb2:=qH (Hb1.out.trans (hb2.mono hz1));have hz2:=Hb2.out.size;clear hb2;go_wp2_with fail;go_ret2;exact⟨.inl ⟨by rw [Hr.out];decide,by rw [Hr.out];rfl⟩,Hb2.out⟩
end
section
theorem jmT (C k m F T:Nat)(A:Option Addr)(n c:Nat)(rs:List (List UInt8))(w:World)(h:Cod w C k m F T)(hg:Gr w A n c rs)(hW:∀r∈rs,r.length<=1048576)(hn:n<=1048576):
  Calls Tryz.prog 154 #[.pointer (some ⟨C,0,none⟩), .slice A n c] w λ e w' =>
   ((jaT k m rs≠0∧e= .returned (.tuple #[.slice none 0 0, .int .i64 (jaT k m rs)]))∨
    (jaT k m rs=0∧∃(A':Option Addr) (c':Nat) (X:Mx),Alike k k (mm k X (facM k ((jae rs n).take k))) one∧e= .returned (.tuple #[.slice A' k c', .int .i64 0])∧
     Gr w' A' k c' (jdq (rs.take k) (ji4 k X rs ((jae rs n).take k) (rs.getD ((jae rs n).getD 0 0) []).length) k)))∧Below w.heap.size w w':=by
 have h3:=h.n255;have Hg:=qH hg;clear hg;have HW:=qH hW;clear hW;have H:=qH h;clear h;go_enter Tryz.func154,Tryz.ntmps154;go_wp2_with fail;refine(jeE C k m F T _ H.out).mono ?_;rintro e w1 ⟨rfl,rfl⟩;have Hb1:=qH (Below.refl w1.heap.size w1);go_wp2_with fail;have hh:=ji5 C k m F T k A n c rs w1 H.out Hg.out HW.out hn (by omega);refine hh.mono ?_;clear hh;rintro e w2 ⟨hr,hb2⟩;have Hb2:=qH (Hb1.out.trans (hb2.mono Hb1.out.size));clear hb2
 rcases hr with ⟨hx,rfl⟩|⟨hx,A',c',X,hX,rfl,hG⟩
 ·have Hx:=qH hx;clear hx
  go_wp2_with fail;go_ret2;exact⟨.inl ⟨Hx.out,rfl⟩,Hb2.out⟩
 ·have Hx:=qH hx;clear hx
  have HX:=qH hX;clear hX;have HG:=qH hG;clear hG;go_wp2_with fail;go_ret2;exact⟨.inr ⟨Hx.out,A',c',X,HX.out,rfl,HG.out⟩,Hb2.out⟩
end
end Go.Proofs.YtmhejbihdghhaaaGreatDoor

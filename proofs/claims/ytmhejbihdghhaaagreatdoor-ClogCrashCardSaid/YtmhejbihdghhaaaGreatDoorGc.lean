/-
  Contracts of the document's answers of layer 4: Right, Same, At, Row, first
-/
import Derived.Test.YtmhejbihdghhaaaGreatDoorGa
import Derived.Deep.WholeRow
import Derived.Deep.QuietTactic
import Derived.BigQuiet
import Derived.Test.YtmhejbihdghhaaaGreatDoorGb
import Derived.Shelf.Abstract
import Derived.Deep.LoopGhost
namespace Go.Proofs.YtmhejbihdghhaaaGreatDoor
set_option linter.unusedVariables false
open Go.RowKit
open Go.RowKit
open Go.RowKit
open Go.RowKit
open Go.RowKit
open Go.RowKit
open Go.RowKit Go.Proofs
open Go.RowKit
open Go.RowKit
open Go.RowKit Go.Proofs
set_option maxRecDepth 20000
set_option maxHeartbeats 1600000
section
def jeD (r c:Int)(n:Nat):Bool:=decide (1<=r∧r<=255∧1<=c∧c<=255∧(n:Int)=r*c)
theorem jqM {r c:Int}(h1:1<=r)(h2:r<=255)(h3:1<=c)(h4:c<=255):0<=r*c∧r*c<=65025:=by
 refine⟨Int.mul_nonneg (by omega) (by omega), ?_⟩;have a:r*c<=255*c:=Int.mul_le_mul_of_nonneg_right h2 (by omega);omega
theorem jmo {r c:Int}{n:Nat}(h1:1<=r)(h2:r<=255)(h3:1<=c)(h4:c<=255):((n:Int)==wrap64 (r*c))=jeD r c n:=by
 have h:=jqM h1 h2 h3 h4;have hw:wrap64 (r*c)=r*c:=by unfold wrap64;omega
 rw [hw,jeD]
 by_cases hn:(n:Int)=r*c<;>simp [h1,h2,h3,h4,hn]
theorem jgi {r c:Int}{n:Nat}(h:r<1∨255<r∨c<1∨255<c):false=jeD r c n:=by
 rw [jeD,eq_comm,decide_eq_false_iff_not];omega
theorem jmp {i j R C:Nat}(hi:i<R)(hj:j<C):i*C+j<R*C:=by
 have h:(i+1)*C<=R*C:=Nat.mul_le_mul_right C hi;rw [Nat.add_mul,Nat.one_mul] at h;omega
end
section
end
section
def tabL (R D:Nat)(f:Nat->Nat->UInt8):List UInt8:=(List.range (R*D)).map λ p=>f (p / D) (p % D)
theorem jcy (R D:Nat)(f:Nat->Nat->UInt8):(tabL R D f).length=R*D:=by simp [tabL]
theorem jj3 (R D:Nat)(f:Nat->Nat->UInt8)(p:Nat)(h:p<R*D):(tabL R D f)[p]? =some (f (p / D) (p % D)):=by simp [tabL,h]
theorem jgM {i k D:Nat}(hk:k<D):(i*D+k) / D=i∧(i*D+k) % D=k:=by
 have hD:0<D:=by omega
 constructor
 ·rw [Nat.mul_comm,Nat.mul_add_div hD,Nat.div_eq_of_lt hk,Nat.add_zero]
 ·rw [Nat.mul_comm,Nat.mul_add_mod,Nat.mod_eq_of_lt hk]
theorem jmq (R D:Nat)(f:Nat->Nat->UInt8)(p:Nat)(h:p<R*D):(tabL R D f).take p ++ [f (p / D) (p % D)]=(tabL R D f).take (p+1):=by
 have h1:p<(tabL R D f).length:=by rw [jcy];exact h
 rw [<-List.take_append_getElem h1]
 congr 2
 simp [tabL]
def mx (D:Nat)(l:List UInt8):Mx:=λ i k=>l.getD (i*D+k) 0
theorem jgN {R D:Nat}(f:Nat->Nat->UInt8){i k:Nat}(hi:i<R)(hk:k<D):mx D (tabL R D f) i k=f i k:=by
 have h:=jmp hi hk;have h2:=jgM (i:=i) hk;rw [mx,List.getD_eq_getElem?_getD,jj3 _ _ _ _ h,Option.getD_some,h2.1,h2.2]
structure Grow (w:World)(B:Nat)(A:Option Addr)(k c:Nat)(l:List UInt8):Prop where
 own:Own w B 5 1 A k c (cells l)
 row:0<k->w.ownsRow B 5 1 (.slice A k c) k (cells l)
theorem Grow.nil (w:World)(B:Nat):Grow w B none 0 0 []:=⟨Own.full (Sl.nil _ 1 0 (by decide)),λ h=>absurd h (by omega)⟩
theorem Grow.below {w w':World}{B k c:Nat}{A:Option Addr}{l:List UInt8}(h:Grow w B A k c l)(hb:Below w.heap.size w w'):Grow w' B A k c l:=⟨h.own.below hb,λ h0=>ownsRow_below (h.row h0) hb⟩
theorem Grow.set {w:World}{B k c:Nat}{A:Option Addr}{l:List UInt8}(h:Grow w B A k c l){p:Addr}(hp:p.block<B)(v:Value):Grow (w.setCell p v) B A k c l:=by
 have hrow:0<k->(w.setCell p v).ownsRow B 5 1 (.slice A k c) k (cells l):=λ h0=>by
  obtain⟨hl,hv⟩:=h.row h0;refine⟨hl, ?_⟩
  rcases hv with hv|⟨g,cap,cur,hv,hg,hh,r⟩
  ·exact .inl hv
  ·exact .inr ⟨g,cap,cur,hv,hg,by rw [Below.heap_setCell _ _ _ _ (by omega)];exact hh,r⟩
 refine⟨⟨⟨h.own.sl.len,h.own.sl.cap,h.own.sl.top,λ j u hu=> ?_⟩, ?_⟩,hrow⟩
 ·have h0:0<k:=by
   rcases Nat.eq_zero_or_pos k with h0|h0
   ·have:=h.own.sl.len
    rw [h0,Nat.zero_mul] at this;rw [List.eq_nil_of_length_eq_zero this] at hu
    cases hu
   ·exact h0
  obtain⟨b,o,e,hc⟩:=h.own.sl.cell j u hu;refine⟨b,o,e, ?_⟩;obtain⟨_,hv⟩:=h.row h0
  rcases hv with ⟨_,hv0⟩|⟨g,cap,cur,hv,hg,_⟩
  ·omega
  ·injection hv with hA
   rw [e] at hA;injection hA with hA
   injection hA with hA _
   rw [World.cell?_setCell_other _ _ _ _ (by rintro rfl;simp at hp;omega)];exact hc
 ·rcases Nat.eq_zero_or_pos k with h0|h0
  ·rcases h.own.own with h1|h1
   ·exact .inl h1
   ·obtain⟨hl,hv⟩:=h1
    rcases hv with hv|⟨g,cap,cur,hv,hg,hh,r⟩
    ·exact .inr ⟨hl, .inl hv⟩
    ·exact .inr ⟨hl, .inr ⟨g,cap,cur,hv,hg,by rw [Below.heap_setCell _ _ _ _ (by omega)];exact hh,r⟩⟩
  ·exact .inr (hrow h0)
theorem jbm:(Tryz.prog.info? 338).map (·.size)=some 3:=by kernel_rfl
end
section
theorem jqd {f:Nat->UInt8}{L:Nat}:∀n,L<=n->(∀i,L<=i->i<n->f i=0)->xs n f=xs L f
 |0,h,_=>by rw [show L=0 from by omega]
 |n+1,h,hz=>by
  by_cases he:L=n+1
  ·rw [he]
  ·rw [xs,jqd n (by omega) (λ i h1 h2=>hz i h1 (by omega)),hz n (by omega) (by omega),ux0]
def Comb (n W:Nat)(M' M:Mx):Prop:=∃E:Mx,Alike n W M' (mm n E M)
theorem Comb.refl (n W:Nat)(M:Mx):Comb n W M M:=⟨one,λ i hi j _=>(jcx n M i j hi).symm⟩
theorem Comb.trans {n W:Nat}{A B C:Mx}(h:Comb n W A B)(k:Comb n W B C):Comb n W A C:=by
 obtain⟨E,hE⟩:=h;obtain⟨F,hF⟩:=k;refine⟨mm n E F,λ i hi j hj=> ?_⟩;rw [hE i hi j hj,jdb (r:=n) (c:=W) (λ _ _ _ _=>rfl) hF i hi j hj,jda]
theorem joQ {n a b:Nat}(ha:a<n)(hb:b<n)(x y:UInt8)(f:Nat->UInt8):xs n (λ j=>gm ((if j=a then x else 0) ^^^ (if j=b then y else 0)) (f j))=gm x (f a) ^^^ gm y (f b):=by
 have e:(λ j=>gm ((if j=a then x else 0) ^^^ (if j=b then y else 0)) (f j))=λ j=>gm (if j=a then x else 0) (f j) ^^^ gm (if j=b then y else 0) (f j):=by
  funext j
  rw [jjY]
 rw [e,jjZ,jcf a n ha (λ j _ hj=>by rw [if_neg hj,ja1]),jcf b n hb (λ j _ hj=>by rw [if_neg hj,ja1]),if_pos rfl,if_pos rfl]
theorem jmr {n W:Nat}{M' M:Mx}(h:∀i,i<n->∃a b,a<n∧b<n∧∃x y,∀k,k<W->M' i k=gm x (M a k) ^^^ gm y (M b k)):Comb n W M' M:=by
 have h':∀i,∃e:Nat->UInt8,i<n->∀k,k<W->M' i k=xs n (λ j=>gm (e j) (M j k)):=by
  intro i
  by_cases hi:i<n
  ·obtain⟨a,b,ha,hb,x,y,hk⟩:=h i hi
   exact⟨λ j=>(if j=a then x else 0) ^^^ (if j=b then y else 0),λ _ k hW=>by rw [hk k hW,joQ ha hb x y (λ j=>M j k)]⟩
  ·exact⟨λ _=>0,λ hh=>absurd hh hi⟩
 exact⟨λ i j=>(h' i).choose j,λ i hi k hk=>(h' i).choose_spec hi k hk⟩
def upd (M:Mx)(i:Nat)(f:Nat->UInt8):Mx:=λ k=>if k=i then f else M k
theorem jgj (M:Mx)(i:Nat)(f:Nat->UInt8):upd M i f i=f:=if_pos rfl
theorem jcT (M:Mx){i k:Nat}(f:Nat->UInt8)(h:k≠i):upd M i f k=M k:=if_neg h
def swp (M:Mx)(L p:Nat):Mx:=upd (upd M L (M p)) p (M L)
def scl (M:Mx)(L:Nat)(s:UInt8):Mx:=upd M L λ k=>gm s (M L k)
def fo (M:Mx)(L c j:Nat):Mx:=λ i k=>if i<j∧i≠L then M i k ^^^ gm (M i c) (M L k) else M i k
theorem jqN (M:Mx)(L c:Nat):fo M L c 0=M:=by funext i k;simp [fo]
theorem jqO (M:Mx)(L c j:Nat):fo M L c (j+1)=upd (fo M L c j) j (λ k=>if j≠L then M j k ^^^ gm (M j c) (M L k) else M j k):=by
 funext i k
 unfold upd
 by_cases hi:i=j
 ·subst hi
  by_cases hL:i=L<;>simp [fo,hL]
 ·have:(i<j+1)=(i<j):=by apply propext;omega
  rw [if_neg hi];simp only [fo,this]
theorem jms (M:Mx)(L c j:Nat)(h:j=L∨M j c=0):fo M L c (j+1)=fo M L c j:=by
 funext i k
 by_cases hi:i=j
 ·subst hi
  rcases h with h|h
  ·simp [fo,h]
  ·simp [fo,h,ja1]
 ·have:(i<j+1)=(i<j):=by apply propext;omega
  simp only [fo,this]
theorem jj4 (M:Mx)(L c j i:Nat)(h:j<=i∨i=L):fo M L c j i=M i:=by
 funext k
 unfold fo;rw [if_neg (by omega)]
def stp (n:Nat)(M:Mx)(L c p:Nat)(s:UInt8):Mx:=fo (scl (swp M L p) L s) L c n
theorem jiR (n:Nat)(M:Mx)(L c p:Nat)(s:UInt8)(k:Nat):stp n M L c p s L k=gm s (M p k):=by
 rw [stp,jj4 _ _ _ _ _ (.inr rfl),scl,jgj]
 by_cases h:p=L
 ·subst h;rw [swp,jgj]
 ·rw [swp,jcT _ _ (λ e=>h e.symm),jgj]
theorem jkO (n:Nat)(M:Mx)(L c p:Nat)(s:UInt8)(i k:Nat)(hi:i<n)(hL:i≠L):
  stp n M L c p s i k=M (if i=p then L else i) k ^^^ gm (gm (M (if i=p then L else i) c) s) (M p k):=by
 have hrow:scl (swp M L p) L s i=M (if i=p then L else i):=by
  rw [scl,jcT _ _ hL,swp]
  by_cases h:i=p
  ·rw [if_pos h,h,jgj]
  ·rw [if_neg h,jcT _ _ h,jcT _ _ hL]
 have hlead:scl (swp M L p) L s L k=gm s (M p k):=by
  have:=jiR n M L c p s k
  rwa [stp,jj4 _ _ _ _ _ (.inr rfl)] at this
 rw [stp];unfold fo;rw [if_pos ⟨hi,hL⟩,hrow,hlead,jav]
structure Led (n W c:Nat)(A M:Mx)(L:Nat)(ld:Nat->Nat):Prop where
 to:Comb n W M A
 back:Comb n W A M
 le:L<=n
 lead:∀a,a<L->ld a<c∧∀i,i<n->M i (ld a)=if i=a then 1 else 0
 rise:∀a b,a<b->b<L->ld a<ld b
 none:∀i,L<=i->i<n->∀k,k<c->M i k=0
theorem Led.start (n W:Nat)(A:Mx):Led n W 0 A A 0 id:=
 ⟨Comb.refl _ _ _,Comb.refl _ _ _,by omega,λ a h=>absurd h (by omega),λ a b _ h=>absurd h (by omega),λ i _ _ k h=>absurd h (by omega)⟩
theorem Led.skip {n W c L:Nat}{A M:Mx}{ld:Nat->Nat}(h:Led n W c A M L ld)(hz:∀i,L<=i->i<n->M i c=0):Led n W (c+1) A M L ld:=
 ⟨h.to,h.back,h.le,λ a ha=>⟨by have:=(h.lead a ha).1;omega,(h.lead a ha).2⟩,h.rise,λ i h1 h2 k hk=>by
  by_cases he:k=c
  ·rw [he];exact hz i h1 h2
  ·exact h.none i h1 h2 k (by omega)⟩
theorem Led.next {n W c L p:Nat}{A M:Mx}{ld:Nat->Nat}(h:Led n W c A M L ld)(hp:L<=p)(hpn:p<n)(hx:M p c≠0):
  Led n W (c+1) A (stp n M L c p (ginv (M p c))) (L+1) (λ a=>if a=L then c else ld a):=by
 have hgs:gm (ginv (M p c)) (M p c)=1:=jiK _ hx;have hsg:gm (M p c) (ginv (M p c))=1:=jee _ hx
 generalize hs:ginv (M p c)=s at *
 have hLn:L<n:=by omega
 have hσ:∀i,i<n->(if i=p then L else i)<n:=λ i hi=>by split<;>omega
 refine⟨Comb.trans (jmr λ i hi=> ?_) h.to,h.back.trans (jmr λ j hj=> ?_),hLn,λ a ha=> ?_,λ a b hab hb=> ?_,λ i h1 h2 k hk=> ?_⟩
 ·by_cases hL:i=L
  ·subst hL
   exact⟨p,p,hpn,hpn,s,0,λ k _=>by rw [jiR,ja1,ux0]⟩
  ·exact⟨_,p,hσ i hi,hpn,1,_,λ k _=>by rw [jkO n M L c p s i k hi hL,jbY]⟩
 ·by_cases hjp:j=p
  ·subst hjp
   exact⟨L,L,hLn,hLn,M j c,0,λ k _=>by rw [jiR,<-jav,hsg,jbY,ja1,ux0]⟩
  ·by_cases hjL:j=L
   ·subst hjL
    refine⟨p,j,hpn,hj,1,M j c,λ k _=> ?_⟩;rw [jkO n M j c p s p k hpn (λ e=>hjp e.symm),jiR,if_pos rfl,jbY,jav,je5]
   ·refine⟨j,L,hj,hLn,1,M j c,λ k _=> ?_⟩
    rw [jkO n M L c p s j k hj hjL,jiR,if_neg hjp,jbY,jav,je5]
 ·by_cases haL:a=L
  ·subst haL
   simp only [if_pos];refine⟨by omega,λ i hi=> ?_⟩
   by_cases hi2:i=a
   ·rw [if_pos hi2,hi2,jiR,hgs]
   ·rw [if_neg hi2,jkO n M a c p s i c hi hi2,jav,hgs,jdm,uxx]
  ·simp only [if_neg haL]
   have ha2:a<L:=by omega
   obtain⟨h1,h2⟩:=h.lead a ha2;have hp0:M p (ld a)=0:=by rw [h2 p hpn,if_neg (by omega)]
   refine⟨by omega,λ i hi=> ?_⟩
   by_cases hi2:i=L
   ·rw [hi2,jiR,hp0,jaD,if_neg (by omega)]
   ·rw [jkO n M L c p s i _ hi hi2,hp0,jaD,ux0,h2 _ (hσ i hi)]
    by_cases hip:i=p
    ·rw [if_pos hip,if_neg (by omega),if_neg (by omega)]
    ·rw [if_neg hip]
 ·by_cases hbL:b=L
  ·subst hbL
   simp only [if_pos];rw [if_neg (by omega)];exact(h.lead a (by omega)).1
  ·simp only [if_neg hbL]
   rw [if_neg (by omega)];exact h.rise a b hab (by omega)
 ·have hiL:i≠L:=by omega
  rw [jkO n M L c p s i k h2 hiL]
  by_cases hkc:k=c
  ·subst hkc
   rw [jav,hgs,jdm,uxx]
  ·rw [h.none p hp hpn k (by omega),jaD,ux0]
   refine h.none _ ?_ (hσ i h2) k (by omega)
   split<;>omega
theorem Led.rk {n W c L:Nat}{A M:Mx}{ld:Nat->Nat}(h:Led n W c A M L ld)(hc:c<=W):Rk n c A L:=by
 refine⟨?_,λ k' hk hf=> ?_⟩
 ·obtain⟨H,hH⟩:=h.back
  refine⟨H,M,λ i hi j hj=> ?_⟩;rw [hH i hi j (by omega)];exact jqd n h.le (λ l h1 h2=>by rw [h.none l h1 h2 j hj,jaD])
 ·obtain⟨G,hG⟩:=h.to
  have hf2:Fac n c k' M:=(hf.left (r:=n) (D:=G)).congr λ i hi j hj=>(hG i hi j (by omega)).symm
  obtain⟨C,R,hCR⟩:=hf2;refine jgK (k:=L) (c:=c) (K:=M) (ld:=ld) (λ a ha=>(h.lead a ha).1) (λ a ha=> ?_) (λ a b ha hb=> ?_) k' hk ⟨C,R,λ i hi j hj=>hCR i (Nat.lt_of_lt_of_le hi h.le) j hj⟩
  ·rw [(h.lead a ha).2 a (by have:=h.le;omega),if_pos rfl]
   decide
  ·rw [(h.lead b (by omega)).2 a (by have:=h.le;omega),if_neg (by omega)]
def aug (n:Nat)(m:Mx):Mx:=λ i k=>if k<n then m i k else one i (k-n)
theorem Led.rk_aug {n L:Nat}{m M:Mx}{ld:Nat->Nat}(h:Led n (n+n) n (aug n m) M L ld):Rk n n m L:=by
 have hr:=h.rk (by omega);have e:Alike n n (aug n m) m:=λ i _ j hj=>by rw [aug,if_pos hj]
 exact⟨hr.fac.congr e,λ k' hk hf=>hr.least k' hk (hf.congr λ i hi j hj=>(e i hi j hj).symm)⟩
theorem jqP {n:Nat}{ld:Nat->Nat}(hl:∀a,a<n->ld a<n)(hr:∀a b,a<b->b<n->ld a<ld b):∀a,a<n->ld a=a:=by
 have up:∀a,a<n->a<=ld a:=by
  intro a
  induction a with
  |zero=>intro _;omega
  |succ a ih=>
   intro ha;have:=ih (by omega);have:=hr a (a+1) (by omega) ha;omega
 have down:∀d a,a+d+1=n->ld a<=a:=by
  intro d
  induction d with
  |zero=>intro a ha;have:=hl a (by omega);omega
  |succ d ih=>
   intro a ha;have h1:=ih (a+1) (by omega);have h2:=hr a (a+1) (by omega) (by omega);omega
 intro a ha;have h1:=up a ha;have h2:=down (n-1-a) a (by omega);omega
theorem Led.inverse {n:Nat}{m M:Mx}{ld:Nat->Nat}(h:Led n (n+n) n (aug n m) M n ld):Alike n n (mm n (λ i j=>M i (n+j)) m) one:=by
 have hid:=jqP (λ a ha=>(h.lead a ha).1) h.rise;obtain⟨G,hG⟩:=h.to;have hX:Alike n n (λ i j=>M i (n+j)) G:=λ i hi j hj=>by
  show M i (n+j)=G i j
  rw [hG i hi (n+j) (by omega),mm,jcf j n hj (λ l _ hl=>by rw [aug,if_neg (by omega),one,if_neg (by omega),jaD]),aug,if_neg (by omega),one,if_pos (by omega),jdm]
 intro i hi j hj;rw [jdb (r:=n) (c:=n) (B':=m) hX (λ _ _ _ _=>rfl) i hi j hj];have h1:=(h.lead j hj).2 i hi;rw [hid j hj] at h1;rw [one,<-h1,hG i hi j (by omega)];exact jaz n λ k _=>by rw [aug,if_pos hj]
end
section
def jqQ (n:Int):Bool:=decide (1<=n∧n<=255)
theorem jmt {n:Int}(h:1<=n∧n<=255):jqQ n=true:=decide_eq_true h
theorem jiS {n:Int}(h:¬(1<=n∧n<=255)):jqQ n=false:=decide_eq_false h
def jiT (i n:Int):Bool:=decide (0<=i∧i<n)
theorem jhx {i n:Int}(h:0<=i∧i<n):jiT i n=true:=decide_eq_true h
theorem jfa {i n:Int}(h:¬(0<=i∧i<n)):jiT i n=false:=decide_eq_false h
theorem jj5 (n:Int)(w:World):Calls Tryz.prog 262 #[.int .i64 n] w λ e w' =>e= .returned (.bool (jqQ n))∧w' =w:=by
 by_cases h1:1<=n
 ·by_cases h2:n<=255
  ·go_enter Tryz.func262,Tryz.ntmps262
   go_wp2_with fail;go_ret;exact⟨by rw [jmt (by omega)];rfl,rfl⟩
  ·go_enter Tryz.func262,Tryz.ntmps262
   go_wp2_with fail;go_ret;exact⟨by rw [jiS (by omega)];rfl,rfl⟩
 ·go_enter Tryz.func262,Tryz.ntmps262
  go_wp2_with fail;go_ret;exact⟨by rw [jiS (by omega)];rfl,rfl⟩
theorem jdG (n:Int)(h1:1<=n)(h2:n<=255)(w:World):Calls Tryz.prog 262 #[.int .i64 n] w λ e w' =>e= .returned (.bool true)∧w' =w:=
 (jj5 n w).mono λ e w' ⟨h,k⟩=>⟨by rw [h,jmt ⟨h1,h2⟩],k⟩
theorem jmu (n:Int)(h:n<1∨255<n)(w:World):Calls Tryz.prog 262 #[.int .i64 n] w λ e w' =>e= .returned (.bool false)∧w' =w:=
 (jj5 n w).mono λ e w' ⟨h',k⟩=>⟨by rw [h',jiS (by omega)],k⟩
theorem joR (i j:Nat)(w:World):Calls Tryz.prog 287 #[.int .i64 (i:Int), .int .i64 (j:Int)] w λ e w' =>e= .returned (.int .u8 ((one i j).toNat:Int))∧w' =w:=by
 by_cases h:i=j
 ·subst h
  go_enter Tryz.func287,Tryz.ntmps287;go_wp2_with fail;go_ret;exact⟨by rw [one,if_pos rfl];rfl,rfl⟩
 ·have hq:(((i:Nat):Int)==(j:Int))=false:=by simp;omega
  go_enter Tryz.func287,Tryz.ntmps287;go_wp2_with fail;go_ret;exact⟨by rw [one,if_neg h];rfl,rfl⟩
theorem jfb (r c:Int)(A:Option Addr)(n cp:Nat)(hn:n<=maxLen)(w:World):
  Calls Tryz.prog 285 #[.agg #[.int .i64 r, .int .i64 c, .slice A n cp]] w λ e w' =>e= .returned (.bool (jeD r c n))∧Below w.heap.size w w':=by
 unfold maxLen at hn
 by_cases h1:1<=r∧r<=255
 ·obtain⟨h1,h2⟩:=h1
  by_cases h3:1<=c∧c<=255
  ·obtain⟨h3,h4⟩:=h3
   go_enter Tryz.func285,Tryz.ntmps285;go_wp2_with fail;refine(jdG r h1 h2 _).mono ?_;rintro e w1 ⟨rfl,rfl⟩;go_wp2_with fail;refine(jdG c h3 h4 _).mono ?_;rintro e w1 ⟨rfl,rfl⟩;go_wp2_with fail;go_ret;refine⟨?_,(Below.refl _ _).alloc (Nat.le_refl _) _⟩;rw [<-jmo h1 h2 h3 h4]
   rfl
  ·go_enter Tryz.func285,Tryz.ntmps285
   go_wp2_with fail;refine(jdG r h1 h2 _).mono ?_;rintro e w1 ⟨rfl,rfl⟩;go_wp2_with fail;refine(jmu c (by omega) _).mono ?_;rintro e w1 ⟨rfl,rfl⟩;go_wp2_with fail;go_ret;refine⟨?_,(Below.refl _ _).alloc (Nat.le_refl _) _⟩;rw [<-jgi (by omega)]
   rfl
 ·go_enter Tryz.func285,Tryz.ntmps285
  go_wp2_with fail;refine(jmu r (by omega) _).mono ?_;rintro e w1 ⟨rfl,rfl⟩;go_wp2_with fail;go_ret;refine⟨?_,(Below.refl _ _).alloc (Nat.le_refl _) _⟩;rw [<-jgi (by omega)]
  rfl
end
section
theorem jfc (F T:Nat)(w:World)(h:Fld1 w F T):
  Calls Tryz.prog 185 #[.pointer (some ⟨F,0,none⟩)] w λ e w' =>e= .returned (.pointer (some ⟨T,0,none⟩))∧∃k,w' =w.drewN k:=by
 have hmf:∀(fn:Fn) (first cap:Array Value) (w:World),(Instr.makeFunc fn first cap).run Tryz.prog w= .ok (.func fn first cap) w:=λ _ _ _ _=>rfl
 have hnot:∀(x:Bool) (w:World),(Op.unary .not (.bool x)).run Tryz.prog w= .ok (.bool (!x)) w:=λ _ _=>rfl
 have hdo:∀k,Calls Tryz.prog 227 #[.pointer (some ⟨T,0,none⟩), .func (.func 228) #[.pointer (some ⟨T,0,none⟩)] #[]] (w.drewN k) λ e w' =>e= .returned (.tuple #[])∧w' =w.drewN k:=by
  intro k;have H:=qH (show Tabs (w.drewN k) T 1 0 pwF exF from h.tabs)
  generalize hv:w.drewN k=v at H
  have Hv:=qH hv;clear hv;clear h;go_enter Tryz.func227,Tryz.ntmps227;go_wp2_with (go_at_call 258;refine(jdD ⟨T,0,none⟩ 1 _ H.out.cell0).mono ?_;rintro e w' ⟨rfl,rfl⟩);go_wp2_with fail;go_end0;exact⟨rfl,rfl⟩
 have hc:=h.cell;have Hdo:=qH hdo;clear hdo;clear h;go_enter Tryz.func185,Tryz.ntmps185;go_wp2_with fail;go_region_with (go_at_call 227;refine(Hdo.out 1).mono ?_;rintro e w1 ⟨rfl,rfl⟩)
 all_goals
  go_wp2_with fail;go_ret;exact⟨rfl,1,rfl⟩
theorem jfd (w:World)(a b:Nat):(w.drewN a).drewN b=w.drewN (a+b):=World.drewN_drewN w a b
theorem jj6 (F T:Nat)(u v:UInt8)(h0:v≠0)(w:World)(h:Fld1 w F T):
  Calls Tryz.prog 127 #[.pointer (some ⟨F,0,none⟩), .int .u8 (u.toNat:Int), .int .u8 (v.toNat:Int)] w λ e w' =>e= .returned (.tuple #[.int .u8 ((gd u v).toNat:Int), .int .i64 0])∧∃k,w' =w.drewN k:=by
 have hv:=v.toNat_lt;have h0':v.toNat≠0:=λ e=>h0 (UInt8.toNat_inj.1 e)
 have e1:((v.toNat:Int)==0)=false:=by simp;omega
 have H:=qH h;clear h;have H0:=qH h0;clear h0;go_enter Tryz.func127,Tryz.ntmps127;go_wp2_with fail;refine(jfc F T _ H.out).mono ?_;rintro e w1 ⟨rfl,k1,rfl⟩;go_wp2_with fail;refine(jgg T v (-1) (by decide) (by decide) _ (H.out.drewN k1).tabs H0.out).mono ?_;rintro e w2 ⟨rfl,k2,rfl⟩;rw [jqc v];go_wp2_with fail;have hh:=jbM T u (ginv v) ((w.drewN k1).drewN k2) ((H.out.drewN k1).drewN k2).tabs;rw [jfd] at hh;refine hh.mono ?_;clear hh;rintro e w3 ⟨rfl,k3,rfl⟩;go_wp2_with fail;go_ret2;exact⟨rfl,(k1+k2)+k3,by first|rfl|rw [jfd]⟩
theorem jj7 (F T:Nat)(v:UInt8)(h0:v≠0)(w:World)(h:Fld1 w F T):
  Calls Tryz.prog 127 #[.pointer (some ⟨F,0,none⟩), .int .u8 1, .int .u8 (v.toNat:Int)] w λ e w' =>e= .returned (.tuple #[.int .u8 ((ginv v).toNat:Int), .int .i64 0])∧∃k,w' =w.drewN k:=by
 have hh:=jj6 F T 1 v h0 w h
 rwa [show gd 1 v=ginv v from jbY _] at hh
theorem joS (F T:Nat)(A:Option Addr)(n cp:Nat)(a:List UInt8)(A2:Option Addr)(m cq:Nat)(b:List UInt8)(w:World)(h:Fld1 w F T)(ha:Sl w 1 A n cp (cells a))(hb:Sl w 1 A2 m cq (cells b)):
  Calls Tryz.prog 292 #[.pointer (some ⟨F,0,none⟩), .slice A n cp, .slice A2 m cq] w λ e w' =>e= .returned (.int .u8 ((dotS a b).toNat:Int))∧∃k,w' =w.drewN k:=by
 have hal:=ha.len;have hbl:=hb.len;rw [jaa,Nat.mul_one] at hal hbl;have hn:=ha.lim;have hm:=hb.lim;unfold maxLen at hn hm;have Ha:=qH ha;clear ha;have Hb:=qH hb;clear hb;have Hal:=qH hal;clear hal;have Hbl:=qH hbl;clear hbl
 rcases Nat.lt_or_ge m n with hq|hq
 all_goals
  go_enter Tryz.func292,Tryz.ntmps292;go_wp2_with fail;refine(jfc F T _ h).mono ?_;rintro e w1' ⟨rfl,k1,rfl⟩;have H1:=qH (h.drewN k1);have Hqa:=qH (show Sl (w.drewN k1) 1 A n cp (cells a) from Ha.out.drewN k1);have Hqb:=qH (show Sl (w.drewN k1) 1 A2 m cq (cells b) from Hb.out.drewN k1);obtain⟨w1,hw1⟩:∃w1,w1=w.drewN k1:=⟨_,rfl⟩;rw [<-hw1] at H1 Hqa Hqb ⊢;have Hw1:=qH hw1;clear hw1;go_wp2_with fail;go_loopw [8,19] (λ v i wr=>∃(j:Nat) (y:UInt8),y=xs j (λ i=>gm (a.getD i 0) (b.getD i 0))∧j<=min n m∧i= .int .i64 (j:Int)∧v= .int .u8 (y.toNat:Int)∧∃k,wr=w1.drewN k) (λ _ i _=>min n m-(intOf i).toNat)
  case atStart=>exact⟨0,0,rfl,by omega,rfl,rfl,0,rfl⟩
  case round=>
   obtain⟨j,y,hy,hj,rfl,rfl,hwr⟩:=hrel;have hfw:Fld1 wr F T:=by obtain⟨k,rfl⟩:=hwr;exact H1.out.drewN k
   have hcw:∀p,wr.cell? p=w1.cell? p:=by obtain⟨k,rfl⟩:=hwr;exact λ p=>rfl
   have Hfw:=qH hfw;clear hfw;have Hwr:=qH hwr;clear hwr;have Hcw:=qH hcw;clear hcw;have Hy:=qH hy;clear hy
   by_cases hlt:j<min n m
   ·have hja:j<a.length:=by rw [Hal.out];omega
    have hjb:j<b.length:=by rw [Hbl.out];omega
    have hjn:j<n:=by omega
    have hjm:j<m:=by omega
    obtain⟨b1,o1,rfl,hc1⟩:=Hqa.out.at_ hjn;obtain⟨b2,o2,rfl,hc2⟩:=Hqb.out.at_ hjm;have hcell1:=(Hcw.out _).trans (hc1 j _ (jaE a j hja));have hcell2:=(Hcw.out _).trans (hc2 j _ (jaE b j hjb));have Hc1:=qH hc1;clear hc1;have Hc2:=qH hc2;clear hc2;rw [bv] at hcell1 hcell2;obtain⟨u,hu⟩:∃u,u=a[j]:=⟨_,rfl⟩;obtain⟨v,hv⟩:∃v,v=b[j]:=⟨_,rfl⟩;rw [<-hu] at hcell1;rw [<-hv] at hcell2;have Hu:=qH hu;clear hu;have Hv:=qH hv;clear hv;go_wp2_with fail;go_quiet (first|(go_at_call 186;exact Calls.quiet_of (jbM T u v _ (Hfw.out.drewN _).tabs)));go_wp2_with fail;go_roundw
    case rel=>
     refine⟨j+1,y ^^^ gm u v, ?_,by omega,by go_num,by rw [joB], ?_⟩
     ·rw [xs,<-Hy.out,Hu.out,Hv.out]
      simp [List.getD_eq_getElem?_getD,hja,hjb]
     ·obtain⟨k,hk⟩:=Hwr.out
      exact⟨k+nq,by rw [hk,World.drewN_drewN]⟩
    case measure=>simp [intOf];omega
   ·obtain rfl:j=min n m:=by omega
    go_wp2_with fail;go_ret;refine⟨ret_b (by rw [Hy.out,dotS,Hal.out,Hbl.out]), ?_⟩;obtain⟨k,hk⟩:=Hwr.out;exact⟨k1+k,by rw [hk,Hw1.out,jfd]⟩
theorem gm_11:gm 1 1=1:=jdm 1
theorem jfe (F T:Nat)(w:World)(h:Fld w F T):
  Calls Tryz.prog 261 #[.pointer (some ⟨F,0,none⟩)] w (joN F T w (.bool true)):=by
 have hh:=jqJ F T 1 1 w h;rw [gm_11] at hh;clear h;go_enter Tryz.func261,Tryz.ntmps261;go_wp2_with fail;refine hh.mono ?_;clear hh;rintro e w1 ⟨rfl,h1,hf1⟩;go_wp2_with fail;go_ret;exact⟨rfl,h1,hf1⟩
end
section
def jmv (g:Nat)(caps:Array Value)(R C:Nat)(f:Nat->Nat->UInt8)(w:World):Prop:=
 ∀(W:World) (i j:Nat),i<R->j<C->Below w.heap.size w W->Calls Tryz.prog g (#[.int .i64 (i:Int), .int .i64 (j:Int)] ++ caps) W λ e w' =>e= .returned (.int .u8 ((f i j).toNat:Int))∧Below W.heap.size W w'
def RetMx (R C:Nat)(l:List UInt8)(w:World)(v:Value)(w':World):Prop:=∃A c,v= .agg #[.int .i64 (R:Int), .int .i64 (C:Int), .slice A (R*C) c]∧Grow w' w.heap.size A (R*C) c l
theorem jj8 (z:Int)(k:Nat)(hz:z=(k:Int))(hk:k<=1073741824)(w:World):
  (Instr.makeSlice 105 (.int .i64 0) (.int .i64 z)).run Tryz.prog w= .ok (.slice (some ⟨w.heap.size,0,none⟩) 0 k) (w.alloc (.cells (madeCells #[.int .u8 0] k) 5)):=by
 obtain⟨i0,hi,hz0,hz1,hz2⟩:=info_parts jbf;subst hz;have h:=run_make (P:=Tryz.prog) w 105 5 i0 (.int .u8 0) Tryz.underlying105 hi hz0 .i64 .i64 (0:Int) (k:Int) (by omega) (by omega) (by rw [hz2];omega) (by omega);rw [hz1,Nat.mul_one,Int.toNat_natCast] at h;exact h
theorem Grow.made0 (w:World)(k:Nat)(hk:k<=maxLen):Grow (w.alloc (.cells (madeCells #[.int .u8 0] k) 5)) w.heap.size (some ⟨w.heap.size,0,none⟩) 0 k []:=by
 refine⟨⟨Sl.empty _ 1 _ k hk, .inr ⟨by simp [cells], .inr ⟨w.heap.size,k,_,rfl,Nat.le_refl _,heap_alloc_new w _,Nat.zero_le _,hk, ?_,by simp [cells]⟩⟩⟩,λ h=>absurd h (by omega)⟩;rw [size_madeCells,Nat.mul_one]
theorem Grow.lower {w:World}{B B' k c:Nat}{A:Option Addr}{l:List UInt8}(h:Grow w B A k c l)(hB:B' <=B):Grow w B' A k c l:=⟨h.own.lower hB,λ h0=>(h.row h0).mono hB⟩
theorem jcU (R C:Nat)(hR:R<=255)(hC:C<=255)(g:Nat)(eg:∀args w,(callFunc g args).run Tryz.prog w= .ok (.enter g args) w)(caps:Array Value)(f:Nat->Nat->UInt8)(w:World)(ht:jmv g caps R C f w):
  Calls Tryz.prog 264 #[.int .i64 (R:Int), .int .i64 (C:Int), .func (.func g) #[] caps] w λ e w' =>∃v,e= .returned v∧RetMx R C (tabL R C f) w v w' ∧Below w.heap.size w w':=by
 have hRC:R*C<=255*255:=Nat.mul_le_mul hR hC;obtain⟨K,hK⟩:∃K,K=R*C:=⟨_,rfl⟩;have hKi:(R:Int)*(C:Int)=(K:Int):=by rw [hK];simp
 rw [<-hK] at hRC;have hmk:=jj8 (K:Int) K rfl (by omega);have HK:=qH hK;clear hK;have Ht:=qH ht;clear ht;go_enter Tryz.func264,Tryz.ntmps264;go_wp2_with fail;go_loopw [7,15] (λ v i wr=>∃(r:Nat) (A:Option Addr) (c:Nat),r<=R∧i= .int .i64 (r:Int)∧v= .slice A (r*C) c∧Below w.heap.size w wr∧w.heap.size+1<=wr.heap.size∧
   wr.heap[w.heap.size]? =some (.cells #[.int .i64 0, .int .i64 0, .slice none 0 0] 338 (0,0))∧Grow wr (w.heap.size+1) A (r*C) c ((tabL R C f).take (r*C))) (λ _ i _=>R-(intOf i).toNat)
 case atStart=>
  have hg:=Grow.made0 (w.alloc (.cells #[.int .i64 0, .int .i64 0, .slice none 0 0] 338)) K (by unfold maxLen;omega);exact⟨0,some ⟨w.heap.size+1,0,none⟩,K,by omega,rfl,by simp,((Below.refl _ _).alloc (Nat.le_refl _) _).alloc (by simp) _,by simp,(Below.heap_alloc _ _ _ (by simp)).trans (heap_alloc_new w _),by simpa using hg⟩
 case round=>
  obtain⟨r,A,c,hr,rfl,rfl,hb,hsz,hr0,ho⟩:=hrel;have Ho:=qH ho;clear ho;have Hr0:=qH hr0;clear hr0
  by_cases hlt:r<R
  ·go_wp2_with fail
   go_loopw [7,19] (λ v j wi=>∃(k:Nat) (A:Option Addr) (c:Nat),k<=C∧j= .int .i64 (k:Int)∧v= .slice A (r*C+k) c∧Below w.heap.size w wi∧w.heap.size+1<=wi.heap.size∧
     wi.heap[w.heap.size]? =some (.cells #[.int .i64 0, .int .i64 0, .slice none 0 0] 338 (0,0))∧Grow wi (w.heap.size+1) A (r*C+k) c ((tabL R C f).take (r*C+k))) (λ _ j _=>C-(intOf j).toNat)
   case atStart=>exact⟨0,A,c,by omega,rfl,rfl,hb,hsz,Hr0.out,Ho.out⟩
   case round=>
    obtain⟨k,A2,c2,hk,rfl,rfl,hb2,hsz2,hr2,ho2⟩:=hrel;have Ho2:=qH ho2;clear ho2;have Hr2:=qH hr2;clear hr2
    by_cases hkt:k<C
    ·go_wp2_with fail
     have hh:=Ht.out wr r k hlt hkt hb2;refine hh.mono ?_;clear hh;rintro e w3 ⟨rfl,hb3⟩;have hidx:r*C+k<K:=by rw [HK.out];exact jmp hlt hkt
     have hx:=jmq R C f (r*C+k) (by rw [<-HK.out];exact hidx);rw [(jgM (i:=r) hkt).1,(jgM (i:=r) hkt).2] at hx;have Hx:=qH hx;clear hx;have hbw0:Below wr.heap.size wr (w3.alloc (.cells #[.int .u8 ((f r k).toNat:Int)] 5)):=hb3.alloc hb3.size _;have hs3:=hb3.size;obtain⟨q,hq⟩:∃q,q=r*C+k:=⟨_,rfl⟩;rw [<-hq] at hidx;have Hidx:=qH hidx;go_wp2_with (at_builtin;refine jaG (B:=w.heap.size+1) rfl (.tmp 22) (.tmp 27) rfl rfl (Ho2.out.below hbw0).own ?pa (some ⟨w3.heap.size,0,none⟩) 1 1 [f r k] rfl (Sl.one _ _ _ _ rfl) ?pb ?pc)
     case pa=>simp;omega
     case pb=>rw [<-hq];omega
     intro A3 c3 w4 ho4 hb4 hrow4;have hbw:Below (w.heap.size+1) wr w4:=(hbw0.mono hsz2).trans hb4;have hr4:=(hbw.block w.heap.size (by omega)).trans Hr2.out;have G4:Grow w4 (w.heap.size+1) A3 (r*C +(k+1)) c3 ((tabL R C f).take (r*C +(k+1))):=by
      rw [<-Nat.add_assoc,<-Hx.out];exact⟨by rw [jai];exact ho4,λ _=>by rw [jai];exact hrow4⟩
     have HG:=qH G4;clear G4 ho4 hrow4;have H4:=qH hr4;clear hr4;go_wp2_with fail;go_roundw
     case rel=>exact⟨k+1,A3,c3,by omega,by go_num,rfl,hb2.trans (hbw.mono (by omega)),by have:=hbw.size;omega,H4.out,HG.out⟩
     case measure=>simp [intOf];omega
    ·obtain rfl:k=C:=by omega
     go_wp2_with fail;go_roundw
     case rel=>exact⟨r+1,A2,c2,by omega,by go_num,by rw [Nat.add_mul,Nat.one_mul],hb2,hsz2,Hr2.out,by rw [Nat.add_mul,Nat.one_mul];exact Ho2.out⟩
     case measure=>simp [intOf];omega
  ·obtain rfl:r=R:=by omega
   have r0:wr.cell? ⟨w.heap.size,0,none⟩=some (.int .i64 0):=by rw [cell_of_row _ _ _ _ _ _ Hr0.out];rfl
   have r1:wr.cell? ⟨w.heap.size,1,none⟩=some (.int .i64 0):=by rw [cell_of_row _ _ _ _ _ _ Hr0.out];rfl
   have r2:wr.cell? ⟨w.heap.size,2,none⟩=some (.slice none 0 0):=by rw [cell_of_row _ _ _ _ _ _ Hr0.out];rfl
   have y0:wr.frozen? ⟨w.heap.size,0,none⟩=false:=frozen_of_row _ _ _ _ _ Hr0.out;have y1:wr.frozen? ⟨w.heap.size,1,none⟩=false:=frozen_of_row _ _ _ _ _ Hr0.out;have y2:wr.frozen? ⟨w.heap.size,2,none⟩=false:=frozen_of_row _ _ _ _ _ Hr0.out;go_wp2_with fail;have e0:=heap_setCell_same wr w.heap.size 0 _ _ (.int .i64 (r:Int)) Hr0.out;have e1:=heap_setCell_same _ w.heap.size 1 _ _ (.int .i64 (C:Int)) e0;have e2:=heap_setCell_same _ w.heap.size 2 _ _ (.slice A (r*C) c) e1;refine bodyPost_ret (results_cell_row Tryz.results264 _ _ w.heap.size 338 _ (0,0) _ rfl e2 Tryz.underlying338 rfl jbm) rfl ?_;have hs:=((Ho.out.set (p:=⟨w.heap.size,0,none⟩) (by simp) (.int .i64 (r:Int))).set (p:=⟨w.heap.size,1,none⟩) (by simp) (.int .i64 (C:Int))).set (p:=⟨w.heap.size,2,none⟩) (by simp) (.slice A (r*C) c);rw [List.take_of_length_le (by rw [jcy];exact Nat.le_refl _)] at hs
   exact⟨_,rfl,⟨A,c,rfl,hs.lower (by omega)⟩,((hb.setCell (Nat.le_refl _) _).setCell (Nat.le_refl _) _).setCell (Nat.le_refl _) _⟩
end
section
theorem jff:∀args w,(callFunc 287 args).run Tryz.prog w= .ok (.enter 287 args) w:=enters_of Tryz.func287 (by kernel_rfl) rfl
theorem jgk (N:Nat)(w:World):jmv 287 #[] N N one w:=λ W i j _ _ _=>(joR i j W).mono λ e w' ⟨h,k⟩=>⟨h,by rw [k];exact Below.refl _ _⟩
def jqR (R C:Nat)(l:List UInt8)(w:World)(e:Ending)(w':World):Prop:=∃A c,e= .returned (.tuple #[.agg #[.int .i64 (R:Int), .int .i64 (C:Int), .slice A (R*C) c], .int .i64 0])∧Grow w' w.heap.size A (R*C) c l
end
section
def rowL (W:Nat)(f:Nat->UInt8):List UInt8:=(List.range W).map f
theorem jag (W:Nat)(f:Nat->UInt8):(rowL W f).length=W:=by simp [rowL]
theorem jbZ (W:Nat)(f:Nat->UInt8)(k:Nat)(h:k<W):(rowL W f)[k]? =some (f k):=by simp [rowL,h]
theorem jdH (W:Nat)(f:Nat->UInt8)(k:Nat)(h:k<W):(rowL W f).getD k 0=f k:=by rw [List.getD_eq_getElem?_getD,jbZ W f k h,Option.getD_some]
theorem jbn {W:Nat}{f g:Nat->UInt8}(h:∀k,k<W->f k=g k):rowL W f=rowL W g:=List.map_congr_left λ k hk=>h k (by simpa using hk)
theorem jqS {W:Nat}{l:List UInt8}(h:l.length=W):rowL W (λ k=>l.getD k 0)=l:=by
 apply List.ext_getElem
 ·rw [jag,h]
 ·intro k h1 h2
  simp [rowL,h2]
theorem joT (W:Nat)(c:UInt8)(f:Nat->UInt8):(rowL W f).map (gm c)=rowL W (λ k=>gm c (f k)):=by simp [rowL]
theorem jj9 (W:Nat)(c:UInt8)(r l:Nat->UInt8):fld c (rowL W r) (rowL W l)=rowL W (λ k=>l k ^^^ gm c (r k)):=by
 apply List.ext_getElem
 ·simp [rowL,fld]
 ·intro k h1 h2
  have h3:k<W:=by rw [jag] at h2;exact h2
  simp [rowL,fld,h3]
theorem jfg (V W:Nat)(f g:Nat->UInt8):rowL V f++rowL W g=rowL (V+W) (λ k=>if k<V then f k else g (k-V)):=by
 apply List.ext_getElem
 ·simp [rowL]
 ·intro k h1 h2
  rw [List.getElem_append]
  by_cases h3:k<V
  ·simp [rowL,h3]
  ·simp [rowL,h3]
theorem jmw {R C:Nat}{l:List UInt8}(h:l.length=R*C){i:Nat}(hi:i<R):(l.drop (i*C)).take C=rowL C (mx C l i):=by
 apply List.ext_getElem
 ·rw [jag,List.length_take,List.length_drop,h]
  have:=Nat.mul_le_mul_right C hi;rw [Nat.succ_mul] at this;omega
 ·intro k h1 h2
  rw [jag] at h2;have:=jmp hi h2;simp [rowL,mx,h,this]
structure RowsAt (w:World)(g n W:Nat)(S:Nat->Prop)(M:Mx):Prop where
 row:∃cur,w.heap[g]? =some (.cells cur 105 (0,0))∧cur.size=n∧∀i,i<n->∃A c,cur[i]? =some (.slice A W c)∧Sl w 1 A W c (cells (rowL W (M i)))∧∀b o,0<W->A=some ⟨b,o,none⟩->¬S b
section
variable {w w':World}{g n W:Nat}{S S':Nat->Prop}{M M':Mx}
theorem RowsAt.lt (h:RowsAt w g n W S M):g<w.heap.size:=by
 obtain⟨cur,hg,_⟩:=h.row;exact block_lt hg
theorem RowsAt.free (h:RowsAt w g n W S M)(i:Nat):w.frozen? ⟨g,i,none⟩=false:=by
 obtain⟨cur,hg,_⟩:=h.row;exact frozen_of_row _ _ _ _ _ hg
theorem RowsAt.cell (h:RowsAt w g n W S M){i:Nat}(hi:i<n):∃A c,w.cell? ⟨g,i,none⟩=some (.slice A W c)∧Sl w 1 A W c (cells (rowL W (M i)))∧∀b o,0<W->A=some ⟨b,o,none⟩->¬S b:=by
 obtain⟨cur,hg,hn,hr⟩:=h.row;obtain⟨A,c,h1,h2,h3⟩:=hr i hi;exact⟨A,c,by rw [cell_of_row _ _ _ _ _ _ hg];exact h1,h2,h3⟩
theorem RowsAt.fr (h:RowsAt w g n W S M)(hf:Fr S' w w')(hg':¬S' g)(hs:∀b,S' b->S b):RowsAt w' g n W S M:=by
 obtain⟨cur,hg,hn,hr⟩:=h.row;refine⟨cur,hf.row_some hg hg',hn,λ i hi=> ?_⟩;obtain⟨A,c,h1,h2,h3⟩:=hr i hi;exact⟨A,c,h1,h2.fr hf λ b o hW hA hb=>h3 b o hW hA (hs b hb),h3⟩
theorem RowsAt.later (h:RowsAt w g n W S M)(hb:Below w.heap.size w w'):RowsAt w' g n W S M:=h.fr (S':=λ _=>False) (Fr.of_below hb) id (λ _ h=>h.elim)
theorem RowsAt.drewN (h:RowsAt w g n W S M)(k:Nat):RowsAt (w.drewN k) g n W S M:=h.later (below_drewN (Below.refl _ _) k)
theorem RowsAt.congr (h:RowsAt w g n W S M)(e:∀i,i<n->∀k,k<W->M i k=M' i k):RowsAt w g n W S M':=by
 obtain⟨cur,hg,hn,hr⟩:=h.row;refine⟨cur,hg,hn,λ i hi=> ?_⟩;obtain⟨A,c,h1,h2,h3⟩:=hr i hi;exact⟨A,c,h1,by rw [<-jbn (e i hi)];exact h2,h3⟩
theorem RowsAt.set (h:RowsAt w g n W S M)(hS:S g){i:Nat}(hi:i<n){A:Option Addr}{c:Nat}{f:Nat->UInt8}(hs:Sl w 1 A W c (cells (rowL W f)))(hA:∀b o,0<W->A=some ⟨b,o,none⟩->¬S b):
  RowsAt (w.setCell ⟨g,i,none⟩ (.slice A W c)) g n W S (upd M i f):=by
 obtain⟨cur,hg,hn,hr⟩:=h.row;have hf:Fr (λ k=>k=g) w (w.setCell ⟨g,i,none⟩ (.slice A W c)):=Fr.setCell (S:=λ k=>k=g) (Fr.refl _ _) (.inr rfl) _;refine⟨_,heap_setCell_same w g i cur _ _ hg,by rw [Array.size_setIfInBounds];exact hn,λ k hk=> ?_⟩
 by_cases he:k=i
 ·subst he
  refine⟨A,c,by rw [Array.getElem?_setIfInBounds];simp [hn,hk], ?_,hA⟩;rw [upd,if_pos rfl];exact hs.fr hf λ b o hW hb hk=>hA b o hW hb (hk▸hS)
 ·obtain⟨A',c',h1,h2,h3⟩:=hr k hk
  refine⟨A',c',by rw [Array.getElem?_setIfInBounds,if_neg (λ e=>he e.symm)];exact h1, ?_,h3⟩;rw [upd,if_neg he];exact h2.fr hf λ b o hW hb hk=>h3 b o hW hb (hk▸hS)
end
structure RowsF (w:World)(g n W:Nat)(S:Nat->Prop)(M:Mx):Prop where
 row:∃cur,w.heap[g]? =some (.cells cur 105 (0,0))∧cur.size=n∧∀i,i<n->∃A,cur[i]? =some (.slice A W W)∧Sl w 1 A W W (cells (rowL W (M i)))∧∀b o,0<W->A=some ⟨b,o,none⟩->¬S b
theorem RowsF.at_ {w:World}{g n W:Nat}{S:Nat->Prop}{M:Mx}(h:RowsF w g n W S M):RowsAt w g n W S M:=by
 obtain⟨cur,hg,hn,hr⟩:=h.row;refine⟨cur,hg,hn,λ i hi=> ?_⟩;obtain⟨A,h1,h2,h3⟩:=hr i hi;exact⟨A,W,h1,h2,h3⟩
theorem RowsF.fr {w w':World}{g n W:Nat}{S S':Nat->Prop}{M:Mx}(h:RowsF w g n W S M)(hf:Fr S' w w')(hg':¬S' g)(hs:∀b,S' b->S b):RowsF w' g n W S M:=by
 obtain⟨cur,hg,hn,hr⟩:=h.row;refine⟨cur,hf.row_some hg hg',hn,λ i hi=> ?_⟩;obtain⟨A,h1,h2,h3⟩:=hr i hi;exact⟨A,h1,h2.fr hf λ b o hW hA hb=>h3 b o hW hA (hs b hb),h3⟩
def boxM (r c:Int)(A:Option Addr)(n cp:Nat):Obj:= .cells #[.int .i64 r, .int .i64 c, .slice A n cp] 338
theorem jdn {w:World}{g:Nat}{r c:Int}{A:Option Addr}{n cp:Nat}(h:w.heap[g]? =some (boxM r c A n cp)):w.cell? ⟨g,0,none⟩=some (.int .i64 r):=by rw [cell_of_row _ _ _ _ _ _ h];rfl
theorem jcK {w:World}{g:Nat}{r c:Int}{A:Option Addr}{n cp:Nat}(h:w.heap[g]? =some (boxM r c A n cp)):w.cell? ⟨g,1,none⟩=some (.int .i64 c):=by rw [cell_of_row _ _ _ _ _ _ h];rfl
theorem jci {w:World}{g:Nat}{r c:Int}{A:Option Addr}{n cp:Nat}(h:w.heap[g]? =some (boxM r c A n cp)):w.cell? ⟨g,2,none⟩=some (.slice A n cp):=by rw [cell_of_row _ _ _ _ _ _ h];rfl
theorem jiU (v:Value)(w:World):Calls Tryz.prog 302 #[v] w λ e w' =>e= .returned v∧w' =w:=by
 go_enter Tryz.func302,Tryz.ntmps302;go_wp2_with fail;go_ret;exact⟨rfl,rfl⟩
theorem jiV (R C:Nat)(A:Option Addr)(N cp:Nat)(l:List UInt8)(h1:1<=R)(h2:R<=255)(h3:1<=C)(h4:C<=255)(hN:N=R*C)(w:World)(h:Sl w 1 A N cp (cells l)):
  Calls Tryz.prog 301 #[.agg #[.int .i64 (R:Int), .int .i64 (C:Int), .slice A N cp], .func (.func 302) #[] #[]] w
   λ e w' =>e= .returned (.slice (some ⟨w.heap.size+1,0,none⟩) R R)∧Below w.heap.size w w' ∧∀S,(∀b o,0<N->A=some ⟨b,o,none⟩->¬S b)->RowsF w' (w.heap.size+1) R C S (mx C l):=by
 have hn:=h.lim;have hcp:=h.cap;have htp:=h.top;unfold maxLen at hn htp;have hl:=h.len;rw [jaa,Nat.mul_one] at hl;have hRC:R*C<=255*255:=Nat.mul_le_mul h2 h4;have hmk:=jbE (R:Int) R rfl (by omega);have Hs:=qH h;clear h;have Hl:=qH (hl.trans hN);clear hl;have HN:=qH hN;rw [<-hN] at hRC;clear hN;go_enter Tryz.func301,Tryz.ntmps301;go_wp2_with fail;go_loopw [14] (λ i wr=>∃(k:Nat) (cur:Array Value),k<=R∧i= .int .i64 (k:Int)∧Below w.heap.size w wr∧w.heap.size+2<=wr.heap.size∧
   wr.heap[w.heap.size]? =some (boxM (R:Int) (C:Int) A N cp)∧wr.heap[w.heap.size+1]? =some (.cells cur 105 (0,0))∧cur.size=R∧
   ∀j,j<k->cur[j]? =some (.slice (A.map (·.add (j*C))) C C)) (λ i _=>R-(intOf i).toNat)
 case atStart=>exact⟨0,_,by omega,rfl,((Below.refl _ _).alloc (Nat.le_refl _) _).alloc (by simp) _,by simp,(Below.heap_alloc _ _ _ (by simp)).trans (heap_alloc_new w _),(by have:=heap_alloc_new (w.alloc (.cells #[.int .i64 (R:Int), .int .i64 (C:Int), .slice A N cp] 338)) (.cells (madeCells #[.slice none 0 0] R) 105);simpa using this),by rw [size_madeCells],λ j hj=>absurd hj (by omega)⟩
 case round=>
  obtain⟨k,cur,hk,rfl,hb,hsz,hr0,hr1,hcs,hcur⟩:=hrel;have c1:=jcK hr0;have c2:=jci hr0;have Hr0:=qH hr0;clear hr0;have Hcur:=qH hcur;clear hcur;have Hcs:=qH hcs;clear hcs
  by_cases hlt:k<R
  ·have f1:wr.frozen? ⟨w.heap.size+1,k,none⟩=false:=frozen_of_row _ _ _ _ _ hr1
   have e1:∃v,wr.cell? ⟨w.heap.size+1,k,none⟩=some v:=by
    rw [cell_of_row _ _ _ _ _ _ hr1];exact⟨_,Array.getElem?_eq_getElem (by rw [Hcs.out];exact hlt)⟩
   obtain⟨v0,e1⟩:=e1;have Hr1:=qH hr1;clear hr1;obtain⟨q,hq⟩:∃q,q=k*C:=⟨_,rfl⟩;have hq2:q+C<=N:=by
    have:(k+1)*C<=R*C:=Nat.mul_le_mul_right C hlt;rw [Nat.add_mul,Nat.one_mul] at this;have:=HN.out;omega
   have hqi:(k:Int)*(C:Int)=(q:Int):=by rw [hq];simp
   have hqj:((k:Int)+1)*(C:Int)=((q+C:Nat):Int):=by rw [Int.add_mul,hqi];simp
   have hqC:q+C-q=C:=by omega
   have Hq:=qH hq;clear hq;go_wp2_with fail;go_quiet (fail);go_wp2_with fail;refine(jiU _ _).mono ?_;rintro e w2 ⟨rfl,rfl⟩;go_wp2_with fail;go_roundw
   case rel=>
    refine⟨k+1,cur.setIfInBounds k (.slice (A.map (·.add (k*C))) C C),by omega,by go_num,(below_drewN hb nq).setCell (by simp) _,by simp;omega,(Below.heap_setCell _ _ _ _ (by simp)).trans Hr0.out, ?_,by rw [Array.size_setIfInBounds];exact Hcs.out,λ j hj=> ?_⟩
    ·have:=heap_setCell_same (wr.drewN nq) (w.heap.size+1) k cur _ (.slice (A.map (·.add q)) (q+C-q) (q+C-q)) Hr1.out
     rw [hqC,Hq.out] at this;rw [Hq.out];exact this
    ·rw [Array.getElem?_setIfInBounds]
     by_cases he:k=j
     ·subst he
      simp [Hcs.out,hlt]
     ·rw [if_neg he]
      exact Hcur.out j (by omega)
   case measure=>simp [intOf];omega
  ·obtain rfl:k=R:=by omega
   go_wp2_with fail;go_ret;refine⟨rfl,hb,λ S hS=>⟨cur,hr1,Hcs.out,λ i hi=>⟨_,Hcur.out i hi, ?_,λ b o _ hA hb=> ?_⟩⟩⟩
   ·have hi2:=Nat.mul_le_mul_right C hi
    rw [Nat.succ_mul] at hi2;have hs:=(Hs.out.below hb (Nat.le_refl _)).sub1 (i*C) (i*C+C) C (by omega) (by rw [HN.out];exact hi2) (by omega) (by unfold maxLen;omega);rw [show i*C+C-i*C=C from by omega,jmw Hl.out hi] at hs;exact hs
   ·rcases A with _|⟨b',o',s'⟩
    ·cases hA
    ·rw [Option.map_some] at hA
     have hN0:0<N:=by rw [HN.out];exact Nat.mul_pos h1 h3
     obtain⟨b2,o2,e2,_⟩:=Hs.out.at_ hN0;injection e2 with e2
     injection e2 with e2 e3 e4
     subst e2;subst e3;subst e4;rw [Addr.add_lit] at hA;injection hA with hA
     injection hA with hA _
     exact hS b' o' hN0 rfl (hA▸hb)
end
section
theorem ja9 (R C:Nat)(A:Option Addr)(N cp:Nat)(l:List UInt8)(h1:1<=R)(h2:R<=255)(h3:1<=C)(h4:C<=255)(hN:N=R*C)(w:World)(h:Sl w 1 A N cp (cells l)):
  Calls Tryz.prog 286 #[.agg #[.int .i64 (R:Int), .int .i64 (C:Int), .slice A N cp]] w
   λ e w' =>∃g,e= .returned (.slice (some ⟨g,0,none⟩) R R)∧w.heap.size<=g∧Below w.heap.size w w' ∧∀S,(∀b o,0<N->A=some ⟨b,o,none⟩->¬S b)->RowsF w' g R C S (mx C l):=by
 have Hs:=qH h;clear h;have HN:=qH hN;clear hN;go_enter Tryz.func286,Tryz.ntmps286;go_wp2_with fail;have hh:=jiV R C A N cp l h1 h2 h3 h4 HN.out (w.alloc (.cells #[.int .i64 (R:Int), .int .i64 (C:Int), .slice A N cp] 338)) (Hs.out.alloc _);refine hh.mono ?_;clear hh;rintro e w2 ⟨rfl,hb,hr⟩;have hbb:Below w.heap.size w w2:=((Below.refl _ _).alloc (Nat.le_refl _) _).trans (hb.mono (by simp));have Hr:=qH hr;clear hr hb;go_wp2_with fail;go_ret;exact⟨w.heap.size+1+1,rfl,by omega,hbb,by have:=Hr.out;simpa using this⟩
end
section
theorem jmx (x:UInt8):((x.toNat:Int) !=0)=(x !=0):=by
 by_cases h:x=0
 ·subst h;rfl
 ·have:x.toNat≠0:=λ e=>h (UInt8.toNat_inj.1 e)
  have h1:((x.toNat:Int) !=0)=true:=by simp;omega
  have h2:(x !=0)=true:=by simpa using h
  rw [h1,h2]
theorem jiW (A:Option Addr)(W cp:Nat)(f:Nat->UInt8)(b c:Nat)(hc:c<W)(w:World)(h:Sl w 1 A W cp (cells (rowL W f)))(hb:w.cell? ⟨b,0,none⟩=some (.int .i64 (c:Int))):
  Calls Tryz.prog 304 #[.slice A W cp, .pointer (some ⟨b,0,none⟩)] w λ e w' =>e= .returned (.bool (f c !=0))∧w' =w:=by
 have hcp:=h.lim;unfold maxLen at hcp;obtain⟨b1,o1,rfl,hcell⟩:=h.at_ hc;have hx:=hcell c _ (by rw [jaE _ c (by rw [jag];exact hc)]);have hg:(rowL W f)[c]'(by rw [jag];exact hc)=f c:=by simp [rowL]
 rw [hg,bv] at hx;clear hcell h hg;obtain⟨x,hx0⟩:∃x,x=f c:=⟨_,rfl⟩;rw [<-hx0] at hx ⊢;clear hx0;go_enter Tryz.func304,Tryz.ntmps304;go_wp2_with fail;go_ret;exact⟨by rw [<-jmx];rfl,rfl⟩
theorem jkP (A:Option Addr)(cp:Nat)(v:Value)(w:World):
  Calls Tryz.prog 303 #[.slice A 0 cp,v] w λ e w' =>e= .returned (.int .i64 (-1))∧w' =w:=by
 go_enter Tryz.func303,Tryz.ntmps303;go_wp2_with fail;go_loopw [8] (λ i wr=>i= .int .i64 0∧wr=w) (λ i _=>0)
 case atStart=>exact⟨rfl,rfl⟩
 case round=>
  obtain⟨rfl,rfl⟩:=hrel;go_wp2_with fail;go_ret;exact⟨rfl,rfl⟩
theorem jmy (g n W L m cp:Nat)(S:Nat->Prop)(M:Mx)(b c:Nat)(hc:c<W)(hn:n<=1048576)(hm:L+m=n)(w:World)(h:RowsAt w g n W S M)(hb:w.cell? ⟨b,0,none⟩=some (.int .i64 (c:Int))):
  Calls Tryz.prog 303 #[.slice (some ⟨g,L,none⟩) m cp, .func (.func 304) #[] #[.pointer (some ⟨b,0,none⟩)]] w
   λ e w' =>w' =w∧((e= .returned (.int .i64 (-1))∧∀i,L<=i->i<n->M i c=0)∨∃d:Nat,e= .returned (.int .i64 (d:Int))∧L+d<n∧M (L+d) c≠0):=by
 have H:=qH h;clear h;go_enter Tryz.func303,Tryz.ntmps303;go_wp2_with fail;go_loopw [8] (λ i wr=>∃k:Nat,k<=m∧i= .int .i64 (k:Int)∧wr=w∧∀j,j<k->M (L+j) c=0) (λ i _=>m-(intOf i).toNat)
 case atStart=>exact⟨0,by omega,rfl,rfl,λ j hj=>absurd hj (by omega)⟩
 case round=>
  obtain⟨k,hk,rfl,rfl,hz⟩:=hrel;have Hz:=qH hz;clear hz
  by_cases hlt:k<m
  ·obtain⟨A,ca,hcell,hs,_⟩:=H.out.cell (i:=L+k) (by omega)
   have hh:=jiW A W ca (M (L+k)) b c hc _ hs hb;clear hs
   by_cases hx:M (L+k) c=0
   ·rw [hx] at hh
    have Hx:=qH hx;clear hx;go_wp2_with fail;refine hh.mono ?_;clear hh;rintro e w' ⟨rfl,rfl⟩;go_wp2_with fail;go_roundw
    case rel=>exact⟨k+1,by omega,by go_num,trivial,λ j hj=>by
     by_cases he:j=k
     ·rw [he];exact Hx.out
     ·exact Hz.out j (by omega)⟩
    case measure=>simp [intOf];omega
   ·have e1:(M (L+k) c !=0)=true:=by simpa using hx
    rw [e1] at hh;have Hx:=qH hx;clear hx e1;go_wp2_with fail;refine hh.mono ?_;clear hh;rintro e w' ⟨rfl,rfl⟩;go_wp2_with fail;go_ret;exact⟨rfl, .inr ⟨k,rfl,by omega,Hx.out⟩⟩
  ·obtain rfl:k=m:=by omega
   go_wp2_with fail;go_ret;exact⟨rfl, .inl ⟨rfl,λ i h1 h2=>by
    have:=Hz.out (i-L) (by omega)
    rwa [show L +(i-L)=i from by omega] at this⟩⟩
end
end Go.Proofs.YtmhejbihdghhaaaGreatDoor

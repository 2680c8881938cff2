/-
  Plain mathematics of numbers as bytes: bytes the lowest first ('le', 'leVal')
-/
import Derived.Laws.BitsAllLaws
import Derived.Laws.Shifts
import Derived.Test.YtmhejbihdghhaaaGreatDoorProg
import Derived.Test.YtmhejbihdghhaaaGreatDoorGa
import Derived.Deep.QuietTactic
import Derived.BigQuiet
import Derived.Lib.LaidTab
import Derived.Deep.WholeRow
import Derived.Deep.RegionHeld3
import Derived.Lib.SlBytesConst
import Derived.Test.YtmhejbihdghhaaaGreatDoorRows
import Derived.LaidMore
import Derived.ProofKit
import Derived.OpenShut
import Derived.ChangeOld
import Derived.Deep.Matrix
import Derived.Deep.Grids
import Derived.Lib.SmallJoins
import Derived.Deep.MidRow
namespace Go.Proofs.YtmhejbihdghhaaaGreatDoor
set_option linter.unusedVariables false
section
open Go.RowKit
open Go.RowKit
open Go.RowKit
open Go.RowKit
set_option maxHeartbeats 400000
section
def le:Nat->Nat->List UInt8
 |0,_=> []
 |k+1,x=>le k x ++ [UInt8.ofNat (x / 256 ^ k)]
theorem jak:∀k x,(le k x).length=k
 |0,_=>rfl
 |k+1,x=>by simp [le,jak k x]
def jat:List UInt8->Nat
 | []=>0
 |u::r=>u.toNat+256*jat r
theorem jb3:∀p q,jat (p++q)=jat p+256 ^ p.length*jat q
 | [],q=>by simp [jat]
 |u::r,q=>by
  simp only [List.cons_append,jat,jb3 r q,List.length_cons,Nat.pow_succ];rw [Nat.mul_add,<-Nat.mul_assoc,Nat.mul_comm 256 (256 ^ r.length)];omega
theorem jb4:∀p,jat p<256 ^ p.length
 | []=>by simp [jat]
 |u::r=>by
  have h:=jb4 r;have hu:=u.toNat_lt;simp only [jat,List.length_cons,Nat.pow_succ];omega
theorem jb5:∀k x,jat (le k x)=x % 256 ^ k
 |0,x=>by simp [le,jat,Nat.mod_one]
 |k+1,x=>by
  rw [le,jb3,jb5 k x,jak,Nat.pow_succ,Nat.mod_mul];simp [jat,UInt8.toNat_ofNat']
theorem jgu (x k:Nat):(x:Int) / 2 ^ (8*k) % 256=((UInt8.ofNat (x / 256 ^ k)).toNat:Int):=by
 rw [UInt8.toNat_ofNat',show (256:Nat)=2 ^ 8 from rfl,<-Nat.pow_mul];simp
theorem jri (p:List UInt8)(u:UInt8)(k:Nat)(hk:p.length=k)(h8:k<8):
  bits .or .u64 ((jat p:Nat):Int) (IntKind.u64.wrap (IntKind.u64.wrap (u.toNat:Int)*2 ^ (8*k)))=((jat (p ++ [u]):Nat):Int):=by
 have hp:=jb4 p;have hu:=u.toNat_lt;rw [hk] at hp;have e1:IntKind.u64.wrap (u.toNat:Int)=(u.toNat:Int):=by rw [IntKind.wrap_u64];omega
 have hb:u.toNat*2 ^ (8*k)<18446744073709551616:=by
  have:2 ^ (8*k)<=2 ^ 56:=Nat.pow_le_pow_right (by omega) (by omega)
  calc u.toNat*2 ^ (8*k)<=u.toNat*2 ^ 56:=Nat.mul_le_mul_left _ this
   _<18446744073709551616:=by omega
 have e2:IntKind.u64.wrap ((u.toNat:Int)*2 ^ (8*k))=((u.toNat*2 ^ (8*k):Nat):Int):=by
  have:(u.toNat:Int)*2 ^ (8*k)=((u.toNat*2 ^ (8*k):Nat):Int):=by simp
  rw [this,IntKind.wrap_u64];omega
 have hp2:jat p<2 ^ (8*k):=by rw [Nat.pow_mul];exact hp
 have hl:jat p<18446744073709551616:=by
  have:2 ^ (8*k)<=2 ^ 56:=Nat.pow_le_pow_right (by omega) (by omega);omega
 rw [e1,e2,u64_or_nat _ _ hl hb,Nat.or_comm,Nat.mul_comm,<-Nat.two_pow_add_eq_or_of_lt hp2,jb3,hk];simp only [jat,Nat.mul_zero,Nat.add_zero];rw [show (256:Nat) ^ k=2 ^ (8*k) from by rw [Nat.pow_mul]];omega
theorem jg0 {α:Type}(l:List α)(a k:Nat)(u:α)(h:l[a+k]? =some u):(l.drop a).take (k+1)=(l.drop a).take k ++ [u]:=by
 rw [List.take_add_one,List.getElem?_drop,h]
 rfl
theorem jf6 {α:Type}(l:List α)(a k n:Nat)(h:l.length=n)(hk:a+k<=n):((l.drop a).take k).length=k:=by
 rw [List.length_take,List.length_drop];omega
def vdec (i acc:Nat):List UInt8->Nat × Nat × Nat
 | []=>(0,0,5)
 |u::r=>if (i=9∧1<u.toNat)∨(0<i∧u.toNat=0) then(0,0,3) else if u.toNat<128 then(acc+u.toNat % 128*2 ^ (7*i),i+1,0) else vdec (i+1) (acc+u.toNat % 128*2 ^ (7*i)) r
def varR (l:List UInt8)(at_:Int):Nat × Nat × Nat:=
 if 0<=at_∧at_<=l.length then
  if (vdec 0 0 (l.drop at_.toNat)).2.2=0 then((vdec 0 0 (l.drop at_.toNat)).1,at_.toNat +(vdec 0 0 (l.drop at_.toNat)).2.1,0) else(0,0,(vdec 0 0 (l.drop at_.toNat)).2.2)
 else(0,0,2)
theorem jpy (l:List UInt8)(at_:Int)(h:¬(0<=at_∧at_<=l.length)):varR l at_=(0,0,2):=by rw [varR,if_neg h]
theorem jfF (l:List UInt8)(a:Nat)(h:a<=l.length)(n p e:Nat)(hd:vdec 0 0 (l.drop a)=(n,p,e)):varR l (a:Int)=if e=0 then(n,a+p,0) else(0,0,e):=by
 rw [varR,if_pos ⟨by omega,by omega⟩,Int.toNat_natCast,hd]
theorem jkk (acc u i:Nat)(ha:acc<2 ^ (7*i))(hu:u<128)(h9:i<9∨i=9∧u<=1):
  bits .or .u64 (acc:Int) (IntKind.u64.wrap ((u:Int)*2 ^ (7*i)))=((acc+u*2 ^ (7*i):Nat):Int)∧acc+u*2 ^ (7*i)<2 ^ (7*(i+1))∧acc+u*2 ^ (7*i)<2 ^ 64:=by
 have hs:2 ^ (7*(i+1))=128*2 ^ (7*i):=by rw [Nat.mul_add,Nat.pow_add];omega
 have hm:(u+1)*2 ^ (7*i)<=128*2 ^ (7*i):=Nat.mul_le_mul_right _ (by omega);rw [Nat.add_mul,Nat.one_mul] at hm;have hb:acc+u*2 ^ (7*i)<2 ^ 64:=by
  rcases h9 with h9|⟨rfl,h1⟩
  ·have:2 ^ (7*(i+1))<=2 ^ 63:=Nat.pow_le_pow_right (by omega) (by omega)
   omega
  ·have:u*2 ^ (7*9)<=1*2 ^ (7*9):=Nat.mul_le_mul_right _ h1
   omega
 refine⟨?_,by omega,hb⟩;have e2:IntKind.u64.wrap ((u:Int)*2 ^ (7*i))=((u*2 ^ (7*i):Nat):Int):=by
  have:(u:Int)*2 ^ (7*i)=((u*2 ^ (7*i):Nat):Int):=by simp
  rw [this,IntKind.wrap_u64];omega
 rw [e2,u64_or_nat _ _ (by omega) (by omega),Nat.or_comm,Nat.mul_comm,<-Nat.two_pow_add_eq_or_of_lt ha];omega
theorem jh4 (acc x i:Nat)(ha:acc<2 ^ (7*i))(h9:i<9∨i=9∧x % 128<=1):
  bits .or .u64 (acc:Int) (IntKind.u64.wrap ((x:Int) % 128*2 ^ (7*i)))=((acc+x % 128*2 ^ (7*i):Nat):Int)∧acc+x % 128*2 ^ (7*i)<2 ^ (7*(i+1))∧acc+x % 128*2 ^ (7*i)<2 ^ 64:=by
 rw [show ((x:Int) % 128)=((x % 128:Nat):Int) from by omega];exact jkk acc (x % 128) i ha (by omega) h9
def venc:Nat->Nat->List UInt8
 |0,n=> [UInt8.ofNat n]
 |f+1,n=>if n<128 then [UInt8.ofNat n] else UInt8.ofNat (n % 128+128)::venc f (n / 128)
theorem jej (f n:Nat)(h:n<128):venc f n= [UInt8.ofNat n]:=by
 cases f
 ·rfl
 ·rw [venc,if_pos h]
theorem jfG (f n:Nat)(h:¬n<128):venc (f+1) n=UInt8.ofNat (n % 128+128)::venc f (n / 128):=by rw [venc,if_neg h]
theorem jan:∀f n,(venc f n).length<=f+1
 |0,_=>by simp [venc]
 |f+1,n=>by
  rw [venc]
  split
  ·simp
  ·simp only [List.length_cons]
   have:=jan f (n / 128);omega
end
section
theorem jc3 (n:Int)(h1:1<=n)(h2:n<=8)(w:World):Calls Tryz.prog 234 #[.int .i64 n] w λ e w' =>e= .returned (.bool true)∧w=w':=by
 go_enter Tryz.func234,Tryz.ntmps234;go_wp2;go_ret;exact⟨rfl,rfl⟩
theorem jpz (n:Int)(h:¬(1<=n∧n<=8))(w:World):Calls Tryz.prog 234 #[.int .i64 n] w λ e w' =>e= .returned (.bool false)∧w=w':=by
 by_cases h1:1<=n
 ·have h2:¬(n<=8):=λ h2=>h ⟨h1,h2⟩
  clear h;go_enter Tryz.func234,Tryz.ntmps234;go_wp2;go_ret;exact⟨rfl,rfl⟩
 ·clear h
  go_enter Tryz.func234,Tryz.ntmps234;go_wp2;go_ret;exact⟨rfl,rfl⟩
theorem jcp (A:Option Addr)(n c:Nat)(at_:Int)(hn:n<=maxLen)(h0:0<=at_)(h1:at_<=n)(w:World):
  Calls Tryz.prog 216 #[.slice A n c, .int .i64 at_] w λ e w' =>e= .returned (.bool true)∧w=w':=by
 unfold maxLen at hn;go_enter Tryz.func216,Tryz.ntmps216;go_wp2;go_ret;exact⟨rfl,rfl⟩
theorem jh5 (A:Option Addr)(n c:Nat)(at_:Int)(hn:n<=maxLen)(h:¬(0<=at_∧at_<=n))(w:World):
  Calls Tryz.prog 216 #[.slice A n c, .int .i64 at_] w λ e w' =>e= .returned (.bool false)∧w=w':=by
 unfold maxLen at hn
 by_cases h0:0<=at_
 ·have h1:¬(at_<=n):=λ h1=>h ⟨h0,h1⟩
  clear h;go_enter Tryz.func216,Tryz.ntmps216;go_wp2;go_ret;exact⟨rfl,rfl⟩
 ·clear h
  go_enter Tryz.func216,Tryz.ntmps216;go_wp2;go_ret;exact⟨rfl,rfl⟩
theorem jc4 (A:Option Addr)(n c:Nat)(h:n<=c)(hc:c<=maxLen)(w:World):
  Calls Tryz.prog 189 #[.slice A n c] w λ e w' =>e= .returned (.slice A n n)∧w=w':=by
 unfold maxLen at hc;go_enter Tryz.func189,Tryz.ntmps189;go_wp2;go_ret;exact⟨rfl,rfl⟩
end
section
theorem jfH (A:Option Addr)(n c:Nat)(l:List UInt8)(m:Nat)(x:Nat)(w:World)(h:Sl w 1 A n c (cells l))(h47:n<=140737488355320)(hm1:1<=m)(hm8:m<=8)(hx:x<2 ^ 64):
  Calls Tryz.prog 195 #[.slice A n c, .int .i64 (m:Int), .int .u64 (x:Int)] w (jdA w.heap.size w (l++le m x)):=by
 go_enter Tryz.func195,Tryz.ntmps195;go_wp2_with fail;refine(jc3 (m:Int) (by omega) (by omega) _).mono ?_;rintro e w' ⟨rfl,rfl⟩;go_wp2_with fail;refine(jc4 A n c h.cap h.top _).mono ?_;rintro e w' ⟨rfl,rfl⟩;go_wp2_with fail;go_loopw [7,18] (λ v i wr=>∃(k:Nat) (A':Option Addr) (n' c':Nat),k<=m∧i= .int .i64 (k:Int)∧v= .slice A' n' c' ∧Own wr w.heap.size 5 1 A' n' c' (cells (l++le k x))∧Below w.heap.size w wr) (λ _ i _=>m-(intOf i).toNat)
 case atStart=>exact⟨0,A,n,n,by omega,rfl,rfl,by simpa [le] using Own.full (h.recap (Nat.le_refl _) h.lim),Below.refl _ _⟩
 case round=>
  obtain⟨k,A',n',c',hk,rfl,rfl,ho,hb⟩:=hrel
  by_cases hlt:k<m
  ·have hb8:=jgu x k
   have hlen:=ho.sl.len;rw [jaa,List.length_append,jak] at hlen;have hl:=h.len;rw [jaa] at hl;have Hb:=qH hb8;clear hb8;have Hl:=qH hlen;clear hlen;have Hl2:=qH hl;clear hl;go_wp2_with (at_builtin;refine jbg (B:=w.heap.size) rfl (.tmp 21) (.tmp 27) rfl rfl (ho.alloc _) ?c1 (some ⟨wr.heap.size,0,none⟩) 1 1 [UInt8.ofNat (x / 256 ^ k)] rfl (Sl.one _ _ _ _ Hb.out) ?c3 ?c4)
   case c1=>have:=hb.size;simp;omega
   case c3=>have:=Hl.out;have:=Hl2.out;omega
   intro A2 c2 w2 ho2 hb2;go_wp2_with fail;go_roundw
   case rel=>exact⟨k+1,A2,n'+1,c2,by omega,by go_num,rfl,by simpa [le,jai,List.append_assoc] using ho2,(hb.alloc hb.size _).trans hb2⟩
   case measure=>simp [intOf];omega
  ·go_wp2_with fail
   refine(jc4 A' n' c' ho.sl.cap ho.sl.top _).mono ?_;rintro e w' ⟨rfl,rfl⟩;go_wp2_with fail;go_ret;obtain rfl:k=m:=by omega
   exact⟨A',n',n',rfl,ho.sl.recap (Nat.le_refl _) ho.sl.lim,hb⟩
end
section
theorem jnE (A:Option Addr)(n c:Nat)(at_ m:Int)(w:World)(hm:¬(1<=m∧m<=8)):
  Calls Tryz.prog 196 #[.slice A n c, .int .i64 at_, .int .i64 m] w λ e w' =>e= .returned (.tuple #[.int .u64 0, .int .i64 2])∧w=w':=by
 go_enter Tryz.func196,Tryz.ntmps196;go_wp2_with fail;refine(jpz m hm _).mono ?_;rintro e w' ⟨rfl,rfl⟩;go_wp2_with fail;go_ret2;exact⟨rfl,rfl⟩
theorem jnF (A:Option Addr)(n c:Nat)(at_ m:Int)(w:World)(hn:n<=maxLen)(h1:1<=m)(h8:m<=8)(ha:¬(0<=at_∧at_<=n)):
  Calls Tryz.prog 196 #[.slice A n c, .int .i64 at_, .int .i64 m] w λ e w' =>e= .returned (.tuple #[.int .u64 0, .int .i64 2])∧w=w':=by
 have Ha:=qH ha;clear ha;go_enter Tryz.func196,Tryz.ntmps196;go_wp2_with fail;refine(jc3 m h1 h8 _).mono ?_;rintro e w' ⟨rfl,rfl⟩;go_wp2_with fail;refine(jh5 A n c at_ hn Ha.out _).mono ?_;rintro e w' ⟨rfl,rfl⟩;go_wp2_with fail;go_ret2;exact⟨rfl,rfl⟩
theorem jnG (A:Option Addr)(n c:Nat)(a:Nat)(m:Int)(w:World)(hn:n<=maxLen)(h1:1<=m)(h8:m<=8)(ha:a<=n)(hs:(n:Int)-a<m):
  Calls Tryz.prog 196 #[.slice A n c, .int .i64 (a:Int), .int .i64 m] w λ e w' =>e= .returned (.tuple #[.int .u64 0, .int .i64 5])∧w=w':=by
 have hn':=hn;unfold maxLen at hn';go_enter Tryz.func196,Tryz.ntmps196;go_wp2_with fail;refine(jc3 m h1 h8 _).mono ?_;rintro e w' ⟨rfl,rfl⟩;go_wp2_with fail;refine(jcp A n c a hn (by omega) (by omega) _).mono ?_;rintro e w' ⟨rfl,rfl⟩;go_wp2_with fail;go_ret2;exact⟨rfl,rfl⟩
theorem jqm (A:Option Addr)(n c:Nat)(l:List UInt8)(a m:Nat)(w:World)(h:Sl w 1 A n c (cells l))(h1:1<=m)(h8:m<=8)(ha:a+m<=n):
  Calls Tryz.prog 196 #[.slice A n c, .int .i64 (a:Int), .int .i64 (m:Int)] w λ e w' =>e= .returned (.tuple #[.int .u64 (jat ((l.drop a).take m):Nat), .int .i64 0])∧w=w':=by
 have hn:=h.lim;have hn':=hn;unfold maxLen at hn';go_enter Tryz.func196,Tryz.ntmps196;go_wp2_with fail;refine(jc3 (m:Int) (by omega) (by omega) _).mono ?_;rintro e w' ⟨rfl,rfl⟩;go_wp2_with fail;refine(jcp A n c (a:Int) hn (by omega) (by omega) _).mono ?_;rintro e w' ⟨rfl,rfl⟩;have hs:¬((n:Int)-a<m):=by omega
 go_wp2_with fail;obtain⟨b,o,rfl,hc⟩:=h.at_ (k:=0) (by omega);go_loop [8,26] (λ v i=>∃k:Nat,k<=m∧i= .int .i64 (k:Int)∧v= .int .u64 (jat ((l.drop a).take k):Nat)) (λ _ i=>m-(intOf i).toNat)
 case atStart=>exact⟨0,by omega,rfl,rfl⟩
 case round=>
  obtain⟨k,hk,rfl,rfl⟩:=hrel
  by_cases hlt:k<m
  ·obtain⟨u,hu⟩:∃u,l[a+k]? =some u:=⟨_,List.getElem?_eq_getElem (by have:=h.len;rw [jaa] at this;omega)⟩
   have hcell:w.cell? ⟨b,o +(a+k),none⟩=some (.int .u8 (u.toNat:Int)):=hc _ _ (by simp [cells,hu,bv]);have Hu:=qH hu;clear hu;go_wp2_with fail;go_round
   case rel=>exact⟨k+1,by omega,by go_num,by rw [jri _ u k (jf6 l a k n (by have:=h.len;rw [jaa] at this;omega) (by omega)) (by omega),jg0 l a k u Hu.out]⟩
   case measure=>simp [intOf];omega
  ·go_wp2_with fail
   go_ret2;obtain rfl:k=m:=by omega
   exact⟨rfl,rfl⟩
end
section
end
end
section
open Go.RowKit
open Go.RowKit
open Go.RowKit
open Go.RowKit
open Go.RowKit
open Go.RowKit
open Go.RowKit
set_option maxRecDepth 20000
set_option maxHeartbeats 400000
section
abbrev W32:=BitVec 32
def Lin (f:W32->W32):Prop:=∀a b,f (a ^^^ b)=f a ^^^ f b
theorem Lin.zero {f:W32->W32}(hf:Lin f):f 0=0:=by
 have h:=hf 0 0;rw [BitVec.xor_self,BitVec.xor_self] at h;exact h
theorem x0 (a:W32):a ^^^ 0=a:=BitVec.xor_zero
theorem xor4 (a b c d:W32):(a ^^^ b) ^^^ (c ^^^ d)=(a ^^^ c) ^^^ (b ^^^ d):=by
 rw [BitVec.xor_assoc,BitVec.xor_assoc,<-BitVec.xor_assoc b c d,BitVec.xor_comm b c,BitVec.xor_assoc c b d]
def tog (m:Nat->W32):Nat->W32->W32
 |0,_=>0
 |k+1,w=>tog m k w ^^^ (if w.getLsbD k then m k else 0)
theorem jh6 {m m':Nat->W32}(w:W32):∀k,(∀i,i<k->m i=m' i)->tog m k w=tog m' k w
 |0,_=>rfl
 |k+1,h=>by rw [tog,tog,jh6 w k (λ i hi=>h i (by omega)),h k (by omega)]
theorem jnH {f:W32->W32}(hf:Lin f)(m:Nat->W32)(w:W32):∀k,f (tog m k w)=tog (λ i=>f (m i)) k w
 |0=>hf.zero
 |k+1=>by
  rw [tog,tog,hf,jnH hf m w k]
  congr 1
  split
  ·rfl
  ·exact hf.zero
theorem jnI (m:Nat->W32):∀k,Lin (tog m k)
 |0=>λ a b=>by simp [tog]
 |k+1=>λ a b=>by
  rw [tog,tog,tog,jnI m k a b,xor4,BitVec.getLsbD_xor]
  congr 1
  cases a.getLsbD k<;>cases b.getLsbD k<;>simp
def unit (i:Nat):W32:=(1:W32)<<<i
theorem jpA (i j:Nat):(unit i).getLsbD j=(decide (j<32) && decide (j=i)):=by
 unfold unit;rw [BitVec.getLsbD_shiftLeft];simp only [BitVec.ofNat_eq_ofNat,BitVec.getLsbD_one]
 by_cases h:j<32<;>by_cases h2:j<i<;>by_cases h3:j=i<;>simp_all<;>omega
theorem jeJ (w:W32)(j:Nat):∀k,k<=32->(tog unit k w).getLsbD j=(decide (j<k) && w.getLsbD j)
 |0,_=>by simp [tog]
 |k+1,hk=>by
  rw [tog,BitVec.getLsbD_xor,jeJ w j k (by omega)]
  by_cases hw:w.getLsbD k
  ·rw [if_pos hw,jpA]
   by_cases h1:j=k
   ·subst h1
    simp [hw];omega
   ·have:decide (j<k+1)=decide (j<k):=by simp;omega
    simp [h1,this]
  ·rw [if_neg hw]
   by_cases h1:j=k
   ·subst h1
    simp [hw]
   ·have:decide (j<k+1)=decide (j<k):=by simp;omega
    simp [this]
theorem jpB (w:W32):tog unit 32 w=w:=by
 apply BitVec.eq_of_getLsbD_eq
 intro i hi;rw [jeJ w i 32 (Nat.le_refl _)];simp [hi]
theorem jnJ {f:W32->W32}(hf:Lin f)(w:W32):tog (λ i=>f (unit i)) 32 w=f w:=by
 rw [<-jnH hf,jpB]
theorem jrj {f g:W32->W32}(hf:Lin f)(hg:Lin g)(h:∀i,i<32->f (unit i)=g (unit i))(w:W32):f w=g w:=by
 rw [<-jnJ hf,<-jnJ hg];exact jh6 w 32 h
def rep (f:W32->W32):Nat->W32->W32
 |0,w=>w
 |k+1,w=>rep f k (f w)
theorem jnK {f:W32->W32}(hf:Lin f):∀k,Lin (rep f k)
 |0=>λ _ _=>rfl
 |k+1=>λ a b=>by rw [rep,rep,rep,hf,jnK hf k]
def poly:W32:=0x82f63b78#32
def st (c:W32):W32:=(c>>>1) ^^^ (if c.getLsbD 0 then poly else 0)
theorem st_lin:Lin st:=λ a b=>by
 unfold st;rw [BitVec.ushiftRight_xor_distrib,xor4,BitVec.getLsbD_xor]
 congr 1
 cases a.getLsbD 0<;>cases b.getLsbD 0<;>simp
def b8 (c:W32):W32:=rep st 8 c
theorem b8_lin:Lin b8:=jnK st_lin 8
def bw (u:UInt8):W32:=BitVec.ofNat 32 u.toNat
theorem jpC (u:UInt8):(bw u).toNat=u.toNat:=by
 simp [bw]
def reg (c:W32)(l:List UInt8):W32:=l.foldl (λ r x=>b8 (r ^^^ bw x)) c
theorem jlx (c:W32)(l k:List UInt8):reg c (l++k)=reg (reg c l) k:=List.foldl_append
theorem jpD (c:W32)(l:List UInt8)(u:UInt8):reg c (l ++ [u])=b8 (reg c l ^^^ bw u):=by rw [jlx];rfl
def more (s:W32)(l:List UInt8):W32:= ~~~reg (~~~s) l
end
section
def nt:List Int:= [4067132163,3778769143,3348797215,2329499855,274646895,549293790,1098587580,2197175160,1,2,4,8,16,32,64,128,256,512,1024,2048,4096,8192,16384,32768,65536,131072,262144,524288,1048576,2097152,4194304,8388608]
def ntw (i:Nat):W32:=BitVec.ofNat 32 (nt.getD i 0).toNat
theorem nt_ntw:∀i,i<32->nt.getD i 0=((ntw i).toNat:Int):=by decide +kernel
theorem jpE (c:W32):(c>>>8) ^^^ tog ntw 8 c=b8 c:=by
 refine jrj (f:=λ c=>(c>>>8) ^^^ tog ntw 8 c) (λ a b=> ?_) b8_lin (by decide +kernel) c
 show ((a ^^^ b)>>>8) ^^^ tog ntw 8 (a ^^^ b)=_
 rw [jnI ntw 8 a b,BitVec.ushiftRight_xor_distrib,xor4]
/-! The walk's words. -/
theorem jcq (a:W32):a.toNat<4294967296:=a.isLt
theorem jrk (a b:W32):bits .xor .u32 (a.toNat:Int) (b.toNat:Int)=((a ^^^ b).toNat:Int):=by
 rw [u32_xor_nat _ _ (jcq a) (jcq b),BitVec.toNat_xor]
theorem shr_w (a:W32)(k:Nat):(a.toNat:Int) / 2 ^ k=((a>>>k).toNat:Int):=by
 rw [BitVec.toNat_ushiftRight,Nat.shiftRight_eq_div_pow];simp
theorem jrl (a:W32)(k:Nat):(a.toNat>>>k) &&& 1=(if a.getLsbD k then 1 else 0):=by
 rw [BitVec.getLsbD,Nat.testBit,Nat.and_comm];have:=Nat.and_one_is_mod (a.toNat>>>k);rw [Nat.and_comm] at this
 rcases Nat.mod_two_eq_zero_or_one (a.toNat>>>k) with h|h<;>simp_all
theorem pick_w (m a:W32)(k:Nat):bits .and .u32 (m.toNat:Int) (IntKind.u32.wrap (-(bits .and .u32 ((a>>>k).toNat:Int) 1)))=((if a.getLsbD k then m else 0:W32).toNat:Int):=by
 have h1:bits .and .u32 ((a>>>k).toNat:Int) 1=((if a.getLsbD k then 1 else 0:Nat):Int):=by
  have:=u32_and_nat (a>>>k).toNat 1 (jcq _) (by omega);rw [show ((1:Nat):Int)=1 from rfl] at this;rw [this,BitVec.toNat_ushiftRight,jrl]
 rw [h1]
 cases a.getLsbD k
 ·have:=u32_and_nat m.toNat 0 (jcq _) (by omega)
  simpa [IntKind.wrap_u32'] using this
 ·have:=u32_and_nat m.toNat 4294967295 (jcq _) (by omega)
  have e:m.toNat &&& 4294967295=m.toNat:=by
   rw [show (4294967295:Nat)=2 ^ 32-1 from rfl,Nat.and_two_pow_sub_one_eq_mod,Nat.mod_eq_of_lt m.isLt]
  rw [e] at this
  simpa [IntKind.wrap_u32'] using this
theorem fold_w (y m a:W32)(k:Nat):bits .xor .u32 (y.toNat:Int) (bits .and .u32 (m.toNat:Int) (-bits .and .u32 ((a.toNat:Int) / 2 ^ k) 1 % 4294967296))=((y ^^^ (if a.getLsbD k then m else 0)).toNat:Int):=by
 rw [shr_w,<-IntKind.wrap_u32',pick_w,jrk]
theorem byte_w (y:W32)(u:UInt8):bits .xor .u32 (y.toNat:Int) ((u.toNat:Int) % 4294967296)=((y ^^^ bw u).toNat:Int):=by
 have e:((u.toNat:Int) % 4294967296)=((bw u).toNat:Int):=by
  have:=u.toNat_lt;rw [jpC];omega
 rw [e,jrk]
theorem max_w (a:W32):bits .xor .u32 IntKind.u32.max (a.toNat:Int)=((~~~a).toNat:Int):=by
 have e:(IntKind.u32.max:Int)=((BitVec.allOnes 32).toNat:Int):=by decide +kernel
 rw [e,jrk,BitVec.xor_comm,BitVec.xor_allOnes]
/-! The document's loop: a byte's bits, one by one. -/
end
section
theorem jfI : Tryz.prog.globalNamed "ciborium/crc.nought" = some 0 := by kernel_rfl
theorem ret_w {a b:W32}(h:a=b):Ending.returned (.int .u32 (a.toNat:Int))= .returned (.int .u32 (b.toNat:Int)):=by rw [h]
theorem below_drewN {B:Nat}{a w:World}(h:Below B a w)(n:Nat):Below B a (w.drewN n):=⟨h.os,h.tape,h.output,h.size,h.block⟩
def Nt (w : World) : Prop := w.var? Tryz.prog "ciborium/crc.nought" = some (nt.map fun z => Value.int .u32 z).toArray
theorem Nt.cell {w:World}(h:Nt w)(i:Nat)(hi:i<32):w.cell? ⟨0,i,none⟩=some (.int .u32 ((ntw i).toNat:Int)):=by
 have:=Lib.TabIs.cell (k:= .u32) h jfI i hi
 rwa [nt_ntw i hi] at this
theorem Nt.block {w:World}(h:Nt w):∃t fr,w.heap[0]? =some (.cells (nt.map λ z=>Value.int .u32 z).toArray t fr):=by
 unfold Nt World.var? at h;rw [jfI] at h;simp only [Option.bind_some] at h
 split at h
 ·rename_i cs t fr hc
  injection h with h
  subst h;exact⟨t,fr,hc⟩
 ·cases h
theorem Nt.keep {w w':World}(h:Nt w)(hb:Below w.heap.size w w'):Nt w':=by
 unfold Nt World.var? at *;rw [jfI] at *;simp only [Option.bind_some] at *;have h0:0<w.heap.size:=by
  rcases Nat.lt_or_ge 0 w.heap.size with h' |h'
  ·exact h'
  ·rw [Array.getElem?_eq_none h'] at h
   cases h
 rw [hb.block _ h0];exact h
theorem jf7 (c:W32)(w:World)(h:Nt w):
  Calls Tryz.prog 271 #[.int .u32 (c.toNat:Int)] w λ e w' =>e= .returned (.int .u32 ((b8 c).toNat:Int))∧Below w.heap.size w w':=by
 have H:=qH h;clear h;go_enter Tryz.func271,Tryz.ntmps271;go_wp2_with fail;go_loopw [3,7] (λ v i wr=>∃(k:Nat) (y:W32),y=((c>>>8) ^^^ tog ntw k c)∧k<=8∧i= .int .i64 (k:Int)∧v= .int .u32 (y.toNat:Int)∧Below w.heap.size w wr) (λ _ i _=>8-(intOf i).toNat)
 case atStart=>exact⟨0,_,rfl,by omega,rfl,by rw [tog,x0,<-shr_w];go_num,Below.refl _ _⟩
 case round=>
  obtain⟨k,y,hy,hk,rfl,rfl,hb⟩:=hrel;have Hy:=qH hy;clear hy
  by_cases hlt:k<8
  ·have hcell:=(H.out.keep hb).cell k (by omega)
   go_wp2_with fail;go_quiet (fail);go_wp2_with fail;go_roundw
   case rel=>exact⟨k+1,y ^^^ (if c.getLsbD k then ntw k else 0),by rw [Hy.out,tog,BitVec.xor_assoc],by omega,by go_num,by rw [fold_w],below_drewN hb _⟩
   case measure=>simp [intOf];omega
  ·go_wp2_with fail
   go_ret;obtain rfl:k=8:=by omega
   exact⟨ret_w (by rw [Hy.out,jpE]),hb⟩
theorem jg1 (z:Int)(c:W32)(hz:z=(c.toNat:Int))(w:World)(h:Nt w):
  Calls Tryz.prog 271 #[.int .u32 z] w λ e w' =>e= .returned (.int .u32 ((b8 c).toNat:Int))∧Below w.heap.size w w':=by
 subst hz;exact jf7 c w h
theorem jjp (A:Option Addr)(n cp:Nat)(l:List UInt8)(c:W32)(w:World)(hs:Sl w 1 A n cp (cells l))(h:Nt w):
  Calls Tryz.prog 251 #[.int .u32 (c.toNat:Int), .slice A n cp] w λ e w' =>e= .returned (.int .u32 ((reg c l).toNat:Int))∧Below w.heap.size w w':=by
 have hn:=hs.lim;unfold maxLen at hn;have hl:=hs.len;rw [jaa,Nat.mul_one] at hl;have H:=qH h;clear h;have Hs:=qH hs;clear hs;have Hl:=qH hl;clear hl;go_enter Tryz.func251,Tryz.ntmps251;go_wp2_with fail;go_loopw [0,6,9] (λ v u i wr=>∃(k:Nat) (y:W32),y=reg c (l.take k)∧k<=n∧i= .int .i64 (k:Int)∧v= .int .u32 (y.toNat:Int)∧Below w.heap.size w wr) (λ _ _ i _=>n-(intOf i).toNat)
 case atStart=>exact⟨0,c,rfl,by omega,rfl,rfl,Below.refl _ _⟩
 case round=>
  obtain⟨k,y,hy,hk,rfl,rfl,hb⟩:=hrel;have Hy:=qH hy;clear hy
  by_cases hlt:k<n
  ·obtain⟨b,o,rfl,hc⟩:=(Hs.out.below hb (Nat.le_refl _)).at_ hlt
   have hkl:k<l.length:=by rw [Hl.out];exact hlt
   have hcell:=hc k _ (jaE l k hkl);have Hc:=qH hc;clear hc;obtain⟨u,hu⟩:∃u,u=l[k]:=⟨_,rfl⟩;rw [bv,<-hu] at hcell;have Hu:=qH hu;clear hu;go_wp2_with fail;refine(jg1 _ (y ^^^ bw u) (byte_w y u) _ (H.out.keep hb)).mono ?_;rintro e w1 ⟨rfl,hb1⟩;have hbb:=hb.trans (hb1.mono hb.size);go_wp2_with fail;go_roundw
   case rel=>exact⟨k+1,_,by rw [<-List.take_append_getElem hkl,jpD,<-Hy.out,<-Hu.out],by omega,by go_num,rfl,hbb⟩
   case measure=>simp [intOf];omega
  ·go_wp2_with fail
   go_ret;exact⟨ret_w (by rw [Hy.out,List.take_of_length_le (by rw [Hl.out];omega)]),hb⟩
end
section
end
section
section
variable {W wr w1:World}{F:Nat->W32}{k:Nat}
end
end
section
end
section
theorem ret_z {z:Int}{b:W32}(h:z=(b.toNat:Int)):Ending.returned (.int .u32 z)= .returned (.int .u32 (b.toNat:Int)):=by rw [h]
theorem jly (A:Option Addr)(n cp:Nat)(l:List UInt8)(z:Int)(c:W32)(hz:z=(c.toNat:Int))(w:World)(hs:Sl w 1 A n cp (cells l))(h:Nt w):
  Calls Tryz.prog 251 #[.int .u32 z, .slice A n cp] w λ e w' =>e= .returned (.int .u32 ((reg c l).toNat:Int))∧Below w.heap.size w w':=by
 subst hz;exact jjp A n cp l c w hs h
theorem jdX (A:Option Addr)(n cp:Nat)(l:List UInt8)(c:W32)(w:World)(hs:Sl w 1 A n cp (cells l))(h:Nt w):
  Calls Tryz.prog 214 #[.int .u32 (c.toNat:Int), .slice A n cp] w λ e w' =>e= .returned (.int .u32 ((more c l).toNat:Int))∧Below w.heap.size w w':=by
 have Hs:=qH hs;clear hs;have H:=qH h;clear h;go_enter Tryz.func214,Tryz.ntmps214;go_wp2_with fail;refine(jly A n cp l _ (~~~c) (max_w c) _ Hs.out H.out).mono ?_;rintro e w1 ⟨rfl,hb1⟩;go_wp2_with fail;go_ret;exact⟨ret_z (max_w _),hb1⟩
theorem jjq (A:Option Addr)(n cp:Nat)(l:List UInt8)(w:World)(hs:Sl w 1 A n cp (cells l))(h:Nt w):
  Calls Tryz.prog 207 #[.slice A n cp] w λ e w' =>e= .returned (.int .u32 ((more 0 l).toNat:Int))∧Below w.heap.size w w':=by
 have Hs:=qH hs;clear hs;have H:=qH h;clear h;go_enter Tryz.func207,Tryz.ntmps207;go_wp2_with fail;refine(jdX A n cp l 0 _ Hs.out H.out).mono ?_;rintro e w1 ⟨rfl,hb1⟩;go_wp2_with fail;go_ret;exact⟨rfl,hb1⟩
end
section
end
section
end
section
/-! Bit by bit. -/
end
section
end
end
section
open Go.RowKit
theorem jjr:(Tryz.prog.globals[0]?).map (·.type)=some 369:=by kernel_rfl
theorem jnL:Tryz.prog.cellsOf 57=1:=by kernel_rfl
theorem jnM:Tryz.prog.cellsOf 369=32:=by kernel_rfl
theorem jlz {w : World} {rest : List (String × DataW Unit)} (h : laidMet Tryz.prog (("ciborium/crc.nought", Rows.laid_ciborium_crc_nought) :: rest) w) : Nt w :=
 Lib.tabIs_of_head (k:= .u32) (zs:=nt) jfI jjr Tryz.underlying369 Tryz.underlying57 jnL jnM h
theorem nt_of_laidH {w : World} (h : laidMetH Tryz.prog [("ciborium/crc.nought", Rows.laid_ciborium_crc_nought)] w) : Nt w := by
 rw [MakeChecks.laidMetH_plain _ _ _ (by kernel_rfl)] at h;exact jlz h
end
section
open Go.ChangeShapes Go.WideShapes Go.ChangeAt Go.RowKit Go.Proofs Go.Deep
theorem jpF {w:World}{a:Addr}{n c:Nat}{B:Nat->Bool}(hl:n<=c)(hm:c<=maxLen)(hcell:∀i,i<c->w.cell? (a.add i)=some (.bool (B i))):
  Sl w 1 (some a) ((List.range n).map B).length c (jbs ((List.range n).map B)):=by
 refine⟨by simp [jbs],by simpa using hl,hm,λ j u hu=> ?_⟩;have hj:j<n:=by
  rcases Nat.lt_or_ge j n with h' |h'
  ·exact h'
  ·rw [List.getElem?_eq_none (by simpa [jbs] using h')] at hu;cases hu
 obtain⟨b,o,spot⟩:=a;have hspot:spot=none:=by simpa [Addr.add] using World.cell?_spot (hcell 0 (by omega))
 subst hspot;refine⟨b,o,rfl, ?_⟩;have h1:=hcell j (by omega);rw [Go.WideShapes.add_plain] at h1;rw [h1]
 simpa [jbs,hj] using hu
section
variable {H:Type}{enc:TypeId × Value->H}{w:World}{base:Nat}{held:Bool}{fuel:Nat}
end
end
section
open Go.ChangeShapes Go.WideShapes Go.ChangeAt Go.RowKit Go.Proofs Go.Deep
set_option maxRecDepth 100000
theorem jnN:Tryz.prog.cellsOf 23=3:=by kernel_rfl
section
variable {H:Type}{enc:TypeId × Value->H}{w:World}{base:Nat}{held:Bool}{fuel:Nat}
theorem arg_geo {v:Value}{d:DataW H}{p:List MemPlace}{r:Reach}{b0:Nat}(hv:Value.okWide Tryz.prog w r b0 23 v)(h:DataW.Trod enc Tryz.prog w base (λ _=>true) held 23 v d p):
  ∃k m s:Int,v= .agg #[.int .i64 k, .int .i64 m, .int .i64 s]∧(-9223372036854775808<=k∧k<9223372036854775808)∧(-9223372036854775808<=m∧m<9223372036854775808)∧(-9223372036854775808<=s∧s<9223372036854775808):=by
 obtain⟨c0,c1,c2,y0,y1,y2,m,rfl,rfl,rfl,hy0,hy1,hy2⟩:=Go.Joins.open_agg3 Tryz.underlying23 (by kernel_rfl) jnN hv h;obtain⟨x,e0,_,wx⟩:=DataW.trod_int Tryz.underlying3 hy0;obtain⟨y,e1,_,wy⟩:=DataW.trod_int Tryz.underlying3 hy1;obtain⟨z,e2,_,wz⟩:=DataW.trod_int Tryz.underlying3 hy2;injection e0 with e0
 injection e1 with e1
 injection e2 with e2
 subst e0 e1 e2;exact⟨x,y,z,rfl,by have:=bounds_i64 wx;omega,by have:=bounds_i64 wy;omega,by have:=bounds_i64 wz;omega⟩
theorem arg_u64d {v:Value}{d:DataW H}{p:List MemPlace}{r:Reach}{b0:Nat}(hv:Value.okWide Tryz.prog w r b0 24 v)(h:DataW.Trod enc Tryz.prog w base (λ _=>true) held 24 v d p):
  ∃x:Nat,v= .int .u64 (x:Int)∧x<18446744073709551616:=by
 obtain⟨z,rfl,rfl,rfl,w0⟩:=open_int Tryz.underlying24 hv h;have:=bounds_u64 w0;exact⟨z.toNat,by congr 1;omega,by omega⟩
end
end
section
open Go.RowKit Go.Proofs
open Go.RowKit Go.Proofs
open Go.RowKit Go.Proofs
open Go.RowKit Go.Proofs
open Go.RowKit Go.Proofs
section
def full (c:UInt8):List UInt8:=List.replicate 64 c
structure Dv where
 st:List (List UInt8)
 rot:List Bool
 wait:List (Nat × List UInt8)
 gone:Bool
namespace Dv
def new (n:Nat):Dv:=⟨List.replicate n (full 0),List.replicate n false, [],false⟩
def n (x:Dv):Nat:=x.rot.length
def put (x:Dv)(p:Nat × List UInt8):Dv:=⟨x.st.set p.1 p.2,x.rot.set p.1 false,x.wait,x.gone⟩
def puts (x:Dv)(l:List (Nat × List UInt8)):Dv:=l.foldl put x
def quiet (x:Dv):Dv:=⟨x.st,x.rot, [],x.gone⟩
def flush (x:Dv):Dv:=(x.puts x.wait).quiet
def kept {α:Type}:List α->List Bool->List α
 |a::l,b::ks=>if b=true then a::kept l ks else kept l ks
 |_,_=> []
def crash (x:Dv)(keep:List Bool):Dv:=(x.puts (kept x.wait keep)).quiet
def lastW:List (Nat × List UInt8)->Nat->Option (List UInt8)
 | [],_=>none
 |p::l,i=>match lastW l i with
  |some b=>some b
  |none=>if p.1=i then some p.2 else none
def look (x:Dv)(i:Nat):List UInt8:=(lastW x.wait i).getD (x.st.getD i [])
def spoil (b:List UInt8)(off mask:Nat):List UInt8:=(List.range b.length).map λ j=>if off<=j∧j<off+4 then b.getD j 0 ^^^ UInt8.ofNat (mask>>>(8*(j-off))) else b.getD j 0
def rotAt (x:Dv)(i off mask:Nat):Dv:=⟨x.st.set i (spoil (x.st.getD i []) off mask),x.rot.set i true,x.wait,x.gone⟩
def fail (x:Dv):Dv:=⟨[],List.replicate x.n false, [],true⟩
def replace (x:Dv):Dv:=new x.n
def has (x:Dv)(z:Int):Prop:=0<=z∧z<(x.n:Int)
instance (x:Dv) (z:Int):Decidable (x.has z):=inferInstanceAs (Decidable (_∧_))
def readX (x:Dv)(z:Int):Int:=if x.gone=true then 90 else if x.has z then 0 else 2
def readL (x:Dv)(z:Int):List UInt8:=if x.gone=true then [] else if x.has z then x.look z.toNat else []
def writeX (x:Dv)(z:Int)(l:List UInt8):Int:=if x.gone=true then 90 else if x.has z∧l.length=64 then 0 else 2
def write (x:Dv)(z:Int)(l:List UInt8):Dv:=if x.gone=true then x else if x.has z∧l.length=64 then⟨x.st,x.rot,x.wait ++ [(z.toNat,l)],x.gone⟩ else x
def flushX (x:Dv):Int:=if x.gone=true then 90 else 0
def flush1 (x:Dv):Dv:=if x.gone=true then x else x.flush
def rotX (x:Dv)(z off mask:Int):Int:=if x.gone=true then 90 else if ¬(x.has z∧0<=off∧off<=60∧mask≠0) then 2 else if x.rot.getD z.toNat false=true then 91 else 0
def rot1 (x:Dv)(z off mask:Int):Dv:=if x.rotX z off mask=0 then x.rotAt z.toNat off.toNat mask.toNat else x
structure Ok (x:Dv):Prop where
 wait:∀p∈x.wait,p.1<x.n∧p.2.length=64
 live:x.gone=false->x.st.length=x.n∧∀i,i<x.n->(x.st.getD i []).length=64
 dead:x.gone=true->x.wait= []
section
variable {x:Dv}
theorem new_n (k:Nat):(new k).n=k:=by simp [n,new]
theorem put_n (p:Nat × List UInt8):(x.put p).n=x.n:=by simp [n,put]
theorem jnO:∀(l:List (Nat × List UInt8)) (x:Dv),(x.puts l).n=x.n
 | [],_=>rfl
 |p::l,x=>(jnO l (x.put p)).trans (put_n p)
theorem jfJ:∀(l:List (Nat × List UInt8)) (x:Dv),(x.puts l).gone=x.gone
 | [],_=>rfl
 |p::l,x=>(jfJ l (x.put p)).trans rfl
theorem flush_n:x.flush.n=x.n:=jnO x.wait x
theorem flush_gone:x.flush.gone=x.gone:=jfJ x.wait x
theorem crash_n (ks:List Bool):(x.crash ks).n=x.n:=jnO _ x
theorem crash_gone (ks:List Bool):(x.crash ks).gone=x.gone:=jfJ _ x
theorem jjs:∀(l:List (Nat × List UInt8)) (x:Dv) (i:Nat),i<x.st.length->(x.puts l).st.getD i []=(lastW l i).getD (x.st.getD i [])
 | [],_,_,_=>rfl
 |p::l,x,i,hi=>by
  have hl:i<(x.put p).st.length:=by simpa [put] using hi
  show ((x.put p).puts l).st.getD i []=_
  rw [jjs l (x.put p) i hl]
  show _=(match lastW l i with|some b=>some b|none=>if p.1=i then some p.2 else none).getD (x.st.getD i [])
  cases hq:lastW l i with
  |some b=>rfl
  |none=>
   show (x.put p).st.getD i []=(if p.1=i then some p.2 else none).getD (x.st.getD i [])
   by_cases he:p.1=i
   ·rw [if_pos he,<-he]
    rw [<-he] at hi;simp [put,hi]
   ·rw [if_neg he]
    simp [put,he]
theorem jlA (l:List (Nat × List UInt8))(p:Nat × List UInt8)(i:Nat):lastW (l ++ [p]) i=if p.1=i then some p.2 else lastW l i:=by
 induction l with
 |nil=>rfl
 |cons q l ih=>
  show (match lastW (l ++ [p]) i with|some b=>some b|none=>if q.1=i then some q.2 else none)=if p.1=i then some p.2 else(match lastW l i with|some b=>some b|none=>if q.1=i then some q.2 else none)
  rw [ih]
  by_cases he:p.1=i
  ·rw [if_pos he,if_pos he]
  ·rw [if_neg he,if_neg he]
theorem jg2 {α:Type}:∀{l:List α} {ks:List Bool} {a:α},a∈kept l ks->a∈l
 |b::l,k::ks,a,h=>by
  have h:a∈(if k=true then b::kept l ks else kept l ks):=h
  split at h
  ·rcases List.mem_cons.1 h with h|h
   ·rw [h];exact List.mem_cons_self
   ·exact List.mem_cons_of_mem _ (jg2 h)
  ·exact List.mem_cons_of_mem _ (jg2 h)
 | [],ks,a,h=>by cases ks<;>cases h
 |_::_, [],a,h=>by cases h
theorem look_write {z:Int}{l:List UInt8}(hg:x.gone=false)(hz:x.has z)(hl:l.length=64)(i:Nat):(x.write z l).look i=if z.toNat=i then l else x.look i:=by
 rw [write,if_neg (by rw [hg];decide),if_pos ⟨hz,hl⟩,look,look]
 show (lastW (x.wait ++ [(z.toNat,l)]) i).getD (x.st.getD i [])=_
 rw [jlA]
 by_cases he:z.toNat=i
 ·rw [if_pos he,if_pos he];rfl
 ·rw [if_neg he,if_neg he]
theorem write_yes {z:Int}{l:List UInt8}(hg:x.gone=false)(hz:x.has z)(hl:l.length=64):x.write z l=⟨x.st,x.rot,x.wait ++ [(z.toNat,l)],x.gone⟩:=by rw [write,if_neg (by rw [hg];decide),if_pos ⟨hz,hl⟩]
theorem writeX_yes {z:Int}{l:List UInt8}(hg:x.gone=false)(hz:x.has z)(hl:l.length=64):x.writeX z l=0:=by rw [writeX,if_neg (by rw [hg];decide),if_pos ⟨hz,hl⟩]
theorem readX_yes {z:Int}(hg:x.gone=false)(hz:x.has z):x.readX z=0:=by rw [readX,if_neg (by rw [hg];decide),if_pos hz]
theorem readL_yes {z:Int}(hg:x.gone=false)(hz:x.has z):x.readL z=x.look z.toNat:=by rw [readL,if_neg (by rw [hg];decide),if_pos hz]
theorem flush_look (ho:Ok x)(hg:x.gone=false){i:Nat}(hi:i<x.n):x.flush.look i=x.look i:=jjs x.wait x i (by rw [(ho.live hg).1];exact hi)
theorem crash_look (ho:Ok x)(hg:x.gone=false)(ks:List Bool){i:Nat}(hi:i<x.n):(x.crash ks).look i=(lastW (kept x.wait ks) i).getD (x.st.getD i []):=jjs _ x i (by rw [(ho.live hg).1];exact hi)
theorem new_ok (k:Nat):Ok (new k):=⟨(λ p hp=>by cases hp),λ _=>⟨by simp [n,new],λ i hi=>by
 rw [new_n] at hi;simp [new,hi,full]⟩,(λ h=>by cases h)⟩
theorem new_look {k i:Nat}(h:i<k):(new k).look i=full 0:=by
 show ((new k).st.getD i [])=_
 simp [new,h]
theorem Ok.write (ho:Ok x)(z:Int)(l:List UInt8):Ok (x.write z l):=by
 unfold Dv.write
 split
 ·exact ho
 ·rename_i hg
  split
  ·rename_i h
   refine⟨λ p hp=> ?_,ho.live,λ h=>absurd h hg⟩
   rcases List.mem_append.1 hp with hp|hp
   ·exact ho.wait p hp
   ·have hp:p=(z.toNat,l):=by simpa using hp
    rw [hp];have h1:=h.1;unfold has at h1;exact⟨by show z.toNat<x.n;omega,h.2⟩
  ·exact ho
theorem Ok.put (ho:Ok x){p:Nat × List UInt8}(hp:p.1<x.n∧p.2.length=64):Ok (x.put p):=by
 refine⟨λ q hq=>by rw [put_n];exact ho.wait q hq,λ hg=> ?_,ho.dead⟩;have h:=ho.live hg;rw [put_n];refine⟨by simp [Dv.put];exact h.1,λ i hi=> ?_⟩
 by_cases he:p.1=i
 ·rw [<-he]
  have:p.1<x.st.length:=by rw [h.1];exact hp.1
  simp [Dv.put,this];exact hp.2
 ·have:=h.2 i hi
  simpa [Dv.put,he] using this
theorem Ok.puts:∀(l:List (Nat × List UInt8)) {x:Dv},Ok x->(∀p∈l,p.1<x.n∧p.2.length=64)->Ok (x.puts l)
 | [],_,ho,_=>ho
 |p::l,x,ho,h=>Ok.puts l (x:=x.put p) (ho.put (h p List.mem_cons_self)) λ q hq=>by rw [put_n];exact h q (List.mem_cons_of_mem _ hq)
theorem Ok.quiet (ho:Ok x):Ok x.quiet:=⟨(λ p hp=>by cases hp),ho.live,λ _=>rfl⟩
theorem Ok.flush (ho:Ok x):Ok x.flush:=(Ok.puts x.wait ho ho.wait).quiet
theorem Ok.crash (ho:Ok x)(ks:List Bool):Ok (x.crash ks):=(Ok.puts _ ho λ p hp=>ho.wait p (jg2 hp)).quiet
theorem Ok.fail (x:Dv):Ok x.fail:=⟨(λ p hp=>by cases hp),(λ h=>by cases h),λ _=>rfl⟩
end
end Dv
end
section
def MutD (Rep:World->(Nat->Prop)->Nat->Dv->Prop)(S:Nat->Prop)(D:Nat)(x:Dv)(w w':World):Prop:=∃S',Rep w' S' D x∧Fr S w w' ∧∀b,S' b->S b∨w.heap.size<=b
def NewB (w:World)(A:Option Addr)(n c:Nat)(l:List UInt8)(w':World):Prop:=Sl w' 1 A n c (cells l)∧Below w.heap.size w w' ∧∀b o,0<n->A=some ⟨b,o,none⟩->w.heap.size<=b
structure DrvK (Rep:World->(Nat->Prop)->Nat->Dv->Prop):Prop where
 fr:∀{w w':World} {S T:Nat->Prop} {D:Nat} {x:Dv},Rep w S D x->Fr T w w' ->(∀b,S b->¬T b)->Rep w' S D x
 old:∀{w:World} {S:Nat->Prop} {D:Nat} {x:Dv},Rep w S D x->∀b,S b->b<w.heap.size
 ok:∀{w:World} {S:Nat->Prop} {D:Nat} {x:Dv},Rep w S D x->x.Ok
 new_yes:∀(n:Nat) (w:World),1<=n->n<=600->Calls Tryz.prog 80 #[.int .i64 (n:Int)] w λ e w' =>∃D S,e= .returned (.pointer (some ⟨D,0,none⟩))∧Rep w' S D (Dv.new n)∧Below w.heap.size w w' ∧∀b,S b->w.heap.size<=b
 new_no:∀(z:Int) (w:World), -9223372036854775808<=z->z<9223372036854775808->¬(1<=z∧z<=600)->Calls Tryz.prog 80 #[.int .i64 z] w λ e w' =>e= .returned (.pointer none)∧Below w.heap.size w w'
 sectors:∀{w:World} {S:Nat->Prop} {D:Nat} {x:Dv},Rep w S D x->Calls Tryz.prog 129 #[.pointer (some ⟨D,0,none⟩)] w λ e w' =>e= .returned (.int .i64 (x.n:Int))∧Below w.heap.size w w'
 read:∀{w:World} {S:Nat->Prop} {D:Nat} {x:Dv} (z:Int), -9223372036854775808<=z->z<9223372036854775808->x.wait.length<=100000->Rep w S D x->Calls Tryz.prog 243 #[.pointer (some ⟨D,0,none⟩), .int .i64 z] w λ e w' =>∃A n c,e= .returned (.tuple #[.slice A n c, .int .i64 (x.readX z)])∧NewB w A n c (x.readL z) w'
 write:∀{w:World} {S:Nat->Prop} {D:Nat} {x:Dv} (z:Int) (A:Option Addr) (n c:Nat) (l:List UInt8), -9223372036854775808<=z->z<9223372036854775808->x.wait.length<=100000->Rep w S D x->Sl w 1 A n c (cells l)->Calls Tryz.prog 204 #[.pointer (some ⟨D,0,none⟩), .int .i64 z, .slice A n c] w λ e w' =>e= .returned (.int .i64 (x.writeX z l))∧MutD Rep S D (x.write z l) w w'
 flush:∀{w:World} {S:Nat->Prop} {D:Nat} {x:Dv},x.wait.length<=100000->Rep w S D x->Calls Tryz.prog 58 #[.pointer (some ⟨D,0,none⟩)] w λ e w' =>e= .returned (.int .i64 x.flushX)∧MutD Rep S D x.flush1 w w'
 crash:∀{w:World} {S:Nat->Prop} {D:Nat} {x:Dv} (A:Option Addr) (n c:Nat) (ks:List Bool),x.wait.length<=100000->Rep w S D x->Sl w 1 A n c (jbs ks)->(∀b o,0<n->A=some ⟨b,o,none⟩->¬S b)->Calls Tryz.prog 61 #[.pointer (some ⟨D,0,none⟩), .slice A n c] w λ e w' =>e= .returned (.tuple #[])∧MutD Rep S D (x.crash ks) w w'
 fail:∀{w:World} {S:Nat->Prop} {D:Nat} {x:Dv},Rep w S D x->Calls Tryz.prog 64 #[.pointer (some ⟨D,0,none⟩)] w λ e w' =>e= .returned (.tuple #[])∧MutD Rep S D x.fail w w'
 replace:∀{w:World} {S:Nat->Prop} {D:Nat} {x:Dv},Rep w S D x->Calls Tryz.prog 67 #[.pointer (some ⟨D,0,none⟩)] w λ e w' =>e= .returned (.tuple #[])∧MutD Rep S D x.replace w w'
 rot:∀{w:World} {S:Nat->Prop} {D:Nat} {x:Dv} (z off:Int) (mask:Nat), -9223372036854775808<=z->z<9223372036854775808-> -9223372036854775808<=off->off<9223372036854775808->mask<4294967296->Rep w S D x->Calls Tryz.prog 70 #[.pointer (some ⟨D,0,none⟩), .int .i64 z, .int .i64 off, .int .u32 (mask:Int)] w λ e w' =>e= .returned (.int .i64 (x.rotX z off (mask:Int)))∧MutD Rep S D (x.rot1 z off (mask:Int)) w w'
 copy:∀{w:World} {S:Nat->Prop} {D:Nat} {x:Dv},x.wait.length<=100000->Rep w S D x->Calls Tryz.prog 79 #[.pointer (some ⟨D,0,none⟩)] w λ e w' =>∃D' S',e= .returned (.pointer (some ⟨D',0,none⟩))∧Rep w' S' D' x∧Below w.heap.size w w' ∧∀b,S' b->w.heap.size<=b
section
variable {Rep:World->(Nat->Prop)->Nat->Dv->Prop}{w0 w w':World}{X:Nat->Prop}{D:Nat}{x y:Dv}
end
end
section
namespace Dv
variable {n p o m i:Nat}{c:UInt8}
end Dv
theorem byte_at (c:UInt8)(m j:Nat):bits .xor .u8 (c.toNat:Int) ((m:Int) / 2 ^ (8*j) % 256)=((c ^^^ UInt8.ofNat (m>>>(8*j))).toNat:Int):=by
 rw [<-joB,UInt8.toNat_ofNat',Nat.shiftRight_eq_div_pow];simp
end
section
theorem jkl {P:Program}{ops:Array Oper}{Q:Exit->Act->World->Prop}{d:Nat}{op:Op}{ty:TypeId}{pos:String}{af:Array Edge}{gd:Option (Tmp × Bool)}{rest:List Oper}{a:Act}{w:World}(h:wpList P ops Q (⟨some d,op,ty,pos,af,gd⟩::rest) a w):wpList P ops Q (⟨some d,op,ty,pos,af,gd⟩::rest) a w:=h
theorem jek {P:Program}{ops:Array Oper}{Q:Exit->Act->World->Prop}{t:TypeId}{x y:Operand}{ty:TypeId}{pos:String}{af:Array Edge}{gd:Option (Tmp × Bool)}{rest:List Oper}{a:Act}{w:World}(h:wpList P ops Q (⟨none, .store t x y,ty,pos,af,gd⟩::rest) a w):wpList P ops Q (⟨none, .store t x y,ty,pos,af,gd⟩::rest) a w:=h
structure Rw (w:World)(b:Nat)(T:TypeId)(k n cap:Nat)(xs:List Value):Prop where
 ex:∃cur,w.heap[b]? =some (.cells cur T (0,0))∧cur.size=cap*k∧cur.toList.take (n*k)=xs
 le:n<=cap
 top:cap<=maxLen
section
variable {w w':World}{b:Nat}{T:TypeId}{k n cap:Nat}{xs:List Value}
theorem Rw.lt (h:Rw w b T k n cap xs):b<w.heap.size:=by
 obtain⟨cur,hb,_⟩:=h.ex;exact block_lt hb
theorem Rw.len (h:Rw w b T k n cap xs):xs.length=n*k:=by
 obtain⟨cur,_,hs,rfl⟩:=h.ex;rw [List.length_take,Array.length_toList,hs];exact Nat.min_eq_left (Nat.mul_le_mul_right _ h.le)
theorem Rw.fr {S:Nat->Prop}(h:Rw w b T k n cap xs)(hf:Fr S w w')(hb:¬S b):Rw w' b T k n cap xs:=by
 obtain⟨cur,h1,h2,h3⟩:=h.ex;exact⟨⟨cur,hf.row_some h1 hb,h2,h3⟩,h.le,h.top⟩
theorem Rw.later (h:Rw w b T k n cap xs)(hb:Below w.heap.size w w'):Rw w' b T k n cap xs:=h.fr (Fr.of_below hb:Fr (λ _=>False) _ _) (λ h=>h)
theorem Rw.cell (h:Rw w b T k n cap xs){j:Nat}{v:Value}(hj:xs[j]? =some v):w.cell? ⟨b,j,none⟩=some v:=by
 obtain⟨cur,h1,h2,h3⟩:=h.ex;rw [cell_of_row _ _ _ _ _ _ h1];have hl:=(List.getElem?_eq_some_iff.1 hj).1;rw [h.len] at hl;rw [<-h3,List.getElem?_take_of_lt hl] at hj
 simpa using hj
theorem Rw.free (h:Rw w b T k n cap xs)(j:Nat):w.frozen? ⟨b,j,none⟩=false:=by
 obtain⟨cur,h1,h2,h3⟩:=h.ex;exact frozen_of_row _ _ _ _ _ h1
theorem Rw.sl (h:Rw w b T k n cap xs):Sl w k (some ⟨b,0,none⟩) n cap xs:=⟨h.len,h.le,h.top,λ j u hu=>⟨b,0,rfl,by rw [Nat.zero_add];exact h.cell hu⟩⟩
theorem Rw.range (h:Rw w b T k n cap xs){o:Nat}{cs:List Value}(hc:∀j,j<cs.length->xs[o+j]? =cs[j]?):w.rangeAt b o cs:=λ j v hv=>h.cell (by rw [hc j (List.getElem?_eq_some_iff.1 hv).1];exact hv)
theorem Rw.there (h:Rw w b T k n cap xs){o m:Nat}(hm:o+m<=n*k):w.there b o m:=λ j hj=>⟨by
 have hl:o+j<xs.length:=by rw [h.len];omega
 rw [h.cell (List.getElem?_eq_getElem hl)];rfl,h.free _⟩
theorem Rw.new (w:World)(cs:Array Value)(T:TypeId)(k n:Nat)(hs:cs.size=n*k)(hn:n<=maxLen):Rw (w.alloc (.cells cs T)) w.heap.size T k n n cs.toList:=by
 refine⟨⟨cs,heap_alloc_new w _,hs, ?_⟩,Nat.le_refl _,hn⟩;rw [<-hs,<-Array.length_toList,List.take_length]
theorem jpG {α:Type}(c vs:List α)(o m:Nat)(h:o+vs.length<=m)(hm:m<=c.length):(c.take o++vs++c.drop (o+vs.length)).take m=(c.take m).take o++vs ++(c.take m).drop (o+vs.length):=by
 apply List.ext_getElem?
 intro i;simp only [List.getElem?_take,List.getElem?_append,List.length_append,List.length_take,List.getElem?_drop];have e1:min o c.length=o:=by omega
 have e2:min o (min m c.length)=o:=by omega
 rw [e1,e2]
 by_cases h1:i<o+vs.length
 ·have:i<m:=by omega
  by_cases h2:i<o
  ·simp [h1,h2,this]
  ·simp [h1,h2,this]
 ·by_cases h2:i<m
  ·have:o+vs.length +(i-(o+vs.length))<m:=by omega
   simp [h1,h2,this]
  ·have:¬o+vs.length +(i-(o+vs.length))<m:=by omega
   simp [h1,h2,this]
theorem Rw.store (h:Rw w b T k n cap xs){o:Nat}{vs:List Value}(hm:o+vs.length<=n*k)(h1:∀v∈vs,v.oneCell' =true):Rw (w.setCells b o vs) b T k n cap (xs.take o++vs++xs.drop (o+vs.length)):=by
 obtain⟨cur,hb,hs,rfl⟩:=h.ex;have hnc:n*k<=cap*k:=Nat.mul_le_mul_right _ h.le;rw [ja8 (P:=default) hb (by omega) h1];refine⟨⟨_,setRow_heap w b cur _ T _ hb, ?_, ?_⟩,h.le,h.top⟩
 ·simp
  omega
 ·show (cur.toList.take o++vs++cur.toList.drop (o+vs.length)).take (n*k)=_
  exact jpG _ _ _ _ hm (by simp;omega)
end
theorem Fr.setCells {S:Nat->Prop}:∀(vs:List Value) {a w:World} {b o:Nat},Fr S a w->S b->Fr S a (w.setCells b o vs)
 | [],_,_,_,_,h,_=>h
 |v::vs,_,_,b,o,h,hb=>Fr.setCells vs (h.setCell (p:=⟨b,o,none⟩) (.inr hb) v) hb
/-! Rows of k cells, one behind the other. -/
section
variable {α β:Type}{f:α->List β}{k:Nat}
theorem jeU (h:∀a,(f a).length=k):∀l:List α,(l.flatMap f).length=l.length*k
 | []=>by simp
 |a::l=>by rw [List.flatMap_cons,List.length_append,h,jeU h l,List.length_cons,Nat.add_mul];omega
theorem flat_get (h:∀a,(f a).length=k):∀{l:List α} {i:Nat} {a:α},l[i]? =some a->∀j,j<k->(l.flatMap f)[i*k+j]? =(f a)[j]?
 |a::l,0,b,hb,j,hj=>by
  have hb:a=b:=by simpa using hb
  subst hb;rw [List.flatMap_cons,Nat.zero_mul,Nat.zero_add,List.getElem?_append_left (by rw [h];exact hj)]
 |a::l,i+1,b,hb,j,hj=>by
  have hb:l[i]? =some b:=by simpa using hb
  have e:(i+1)*k+j=i*k+j+k:=by rw [Nat.add_mul];omega
  rw [List.flatMap_cons,e,List.getElem?_append_right (by rw [h];omega),h,Nat.add_sub_cancel];exact flat_get h hb j hj
theorem jg3 (h:∀a,(f a).length=k):∀(l:List α) (i:Nat) (a:α),i<l.length->(l.flatMap f).take (i*k)++f a ++(l.flatMap f).drop (i*k+k)=(l.set i a).flatMap f
 | [],_,_,hi=>absurd hi (Nat.not_lt_zero _)
 |b::l,0,a,_=>by
  have:=h b;simp [List.flatMap_cons,this]
 |b::l,i+1,a,hi=>by
  have e1:(i+1)*k=k+i*k:=by rw [Nat.add_mul];omega
  have hb:=h b;rw [List.set_cons_succ,List.flatMap_cons,List.flatMap_cons,<-jg3 h l i a (by simpa using hi),e1];rw [List.take_append,List.drop_append,hb,show k+i*k-k=i*k from by omega,show k+i*k+k-k=i*k+k from by omega];rw [List.take_of_length_le (by omega),List.drop_of_length_le (by omega)];simp
end
def pad9 (b:List UInt8):List UInt8:=(List.range 64).map λ j=>b.getD j 0
theorem jaN (b:List UInt8):(pad9 b).length=64:=by simp [pad9]
theorem jel {b:List UInt8}(h:b.length=64):pad9 b=b:=by
 apply List.ext_getElem?
 intro i
 by_cases hi:i<64
 ·have:i<b.length:=by omega
  simp [pad9,hi,this]
 ·rw [List.getElem?_eq_none (by rw [jaN];omega),List.getElem?_eq_none (by omega)]
theorem jpH (b:List UInt8){j:Nat}(h:j<64):(pad9 b)[j]? =some (b.getD j 0):=by simp [pad9,h]
def sec9 (d:List UInt8 × Bool):List Value:=cells (pad9 d.1) ++ [.bool d.2]
def wrc9 (p:Nat × List UInt8):List Value:= .int .i64 (p.1:Int)::cells (pad9 p.2)
theorem jaY (d:List UInt8 × Bool):(sec9 d).length=65:=by rw [sec9,List.length_append,jaa,jaN];rfl
theorem jaR (p:Nat × List UInt8):(wrc9 p).length=65:=by rw [wrc9,List.length_cons,jaa,jaN]
theorem jg4 (d:List UInt8 × Bool):∀v∈sec9 d,v.oneCell' =true:=by
 intro v hv
 rcases List.mem_append.1 hv with h|h
 ·exact cells_one _ v h
 ·have:v= .bool d.2:=by simpa using h
  rw [this];rfl
theorem jdY (p:Nat × List UInt8):∀v∈wrc9 p,v.oneCell' =true:=by
 intro v hv
 rcases List.mem_cons.1 hv with h|h
 ·rw [h];rfl
 ·exact cells_one _ v h
theorem jkm {α:Type}{f:α->List Value}(h:∀a,∀v∈f a,v.oneCell' =true)(l:List α):∀v∈l.flatMap f,v.oneCell' =true:=by
 intro v hv;obtain⟨a,_,ha⟩:=List.mem_flatMap.1 hv;exact h a v ha
section
variable {w:World}{b:Nat}{T:TypeId}{n cap i:Nat}
theorem Rw.sec_text {ds:List (List UInt8 × Bool)}{d:List UInt8 × Bool}(h:Rw w b T 65 n cap (ds.flatMap sec9))(hd:ds[i]? =some d):w.rangeAt b (i*65) (cells (pad9 d.1)):=by
 refine h.range λ j hj=> ?_
 rw [jaa,jaN] at hj;rw [flat_get jaY hd j (by omega),sec9,List.getElem?_append_left (by rw [jaa,jaN];exact hj)]
theorem Rw.sec_bad {ds:List (List UInt8 × Bool)}{d:List UInt8 × Bool}(h:Rw w b T 65 n cap (ds.flatMap sec9))(hd:ds[i]? =some d):w.cell? ⟨b,i*65+64,none⟩=some (.bool d.2):=by
 refine h.cell ?_;rw [flat_get jaY hd 64 (by omega),sec9,List.getElem?_append_right (by rw [jaa,jaN];exact Nat.le_refl _),jaa,jaN]
 rfl
theorem Rw.sec_byte {ds:List (List UInt8 × Bool)}{d:List UInt8 × Bool}(h:Rw w b T 65 n cap (ds.flatMap sec9))(hd:ds[i]? =some d){j:Nat}(hj:j<64):w.cell? ⟨b,i*65+j,none⟩=some (bv (d.1.getD j 0)):=by
 refine h.cell ?_;rw [flat_get jaY hd j (by omega),sec9,List.getElem?_append_left (by rw [jaa,jaN];exact hj),cells,List.getElem?_map,jpH _ hj]
 rfl
theorem Rw.wr_text {ps:List (Nat × List UInt8)}{p:Nat × List UInt8}(h:Rw w b T 65 n cap (ps.flatMap wrc9))(hp:ps[i]? =some p):w.rangeAt b (i*65+1) (cells (pad9 p.2)):=by
 refine h.range λ j hj=> ?_
 rw [jaa,jaN] at hj;rw [show i*65+1+j=i*65 +(j+1) from by omega,flat_get jaR hp (j+1) (by omega),wrc9,List.getElem?_cons_succ]
theorem Rw.wr_all {ps:List (Nat × List UInt8)}{p:Nat × List UInt8}(h:Rw w b T 65 n cap (ps.flatMap wrc9))(hp:ps[i]? =some p):w.rangeAt b (i*65) (wrc9 p):=by
 refine h.range λ j hj=> ?_
 rw [jaR] at hj;exact flat_get jaR hp j hj
theorem Rw.sec_put {ds:List (List UInt8 × Bool)}(h:Rw w b T 65 n cap (ds.flatMap sec9))(hi:i<n)(d:List UInt8 × Bool):Rw (w.setCells b (i*65) (sec9 d)) b T 65 n cap ((ds.set i d).flatMap sec9):=by
 have hl:ds.length=n:=by have:=h.len;rw [jeU jaY] at this;omega
 have:=h.store (o:=i*65) (vs:=sec9 d) (by rw [jaY];omega) (jg4 d);rw [jaY,jg3 jaY ds i d (by omega)] at this;exact this
end
end
section
def Rn (w:World)(A:Option Addr)(T:TypeId)(k n c:Nat)(xs:List Value):Prop:=(n=0∧A=none∧c=0∧xs= [])∨∃b,A=some ⟨b,0,none⟩∧Rw w b T k n c xs
def Bk (A:Option Addr):Nat->Prop:=λ b=>∃o,A=some ⟨b,o,none⟩
def Bk7 (D:Nat)(A:Option Addr):Nat->Prop:=λ b=>b=D∨Bk A b
section
variable {w w':World}{A:Option Addr}{T:TypeId}{size n c:Nat}{xs:List Value}
theorem Rn.sl (h:Rn w A T size n c xs):Sl w size A n c xs:=by
 rcases h with ⟨rfl,rfl,rfl,rfl⟩|⟨b,rfl,hr⟩
 ·exact Sl.nil w size 0 (by decide)
 ·exact hr.sl
theorem Rn.fr {S:Nat->Prop}(h:Rn w A T size n c xs)(hf:Fr S w w')(hA:∀b,Bk A b->¬S b):Rn w' A T size n c xs:=by
 rcases h with q|⟨b,rfl,hr⟩
 ·exact .inl q
 ·exact .inr ⟨b,rfl,hr.fr hf (hA b ⟨0,rfl⟩)⟩
theorem Rn.later (h:Rn w A T size n c xs)(hb:Below w.heap.size w w'):Rn w' A T size n c xs:=h.fr (Fr.of_below hb:Fr (λ _=>False) _ _) (λ _ _ h=>h)
theorem Rn.lt (h:Rn w A T size n c xs){b:Nat}(hb:Bk A b):b<w.heap.size:=by
 obtain⟨o,ho⟩:=hb
 rcases h with ⟨_,hA,_⟩|⟨g,hA,hr⟩
 ·rw [hA] at ho;cases ho
 ·rw [hA] at ho
  injection ho with ho
  injection ho with ho _
  rw [<-ho];exact hr.lt
theorem jdZ {P:Program}(t tx ty:TypeId)(i:TypeInfo)(z:Value)(bytes:Nat)(ht:P.underlying t=some (.slice T))(hi:P.info? T=some i)(hz:i.zero=some z)
  (hsize:i.size=size)(hby:i.bytes=bytes)(hzs:z.cells.size=size)(hsz:0<size)(h:Rn w A T size n c xs)
  (x:Value)(m:Nat)(ys:List Value)(hs:Src P size tx x m ys w)(hm:0<m)(h63:n+m<=maxLen)(hbytes:(n+m)*bytes<=140737488355328):
  ∃b c' w',(Builtin.append_ #[t,tx] ty #[.slice A n c,x]).run P w= .ok (.slice (some ⟨b,0,none⟩) (n+m) c') w' ∧Rw w' b T size (n+m) c' (xs++ys)∧Fr (Bk A) w w' ∧(A=some ⟨b,0,none⟩∨b=w.heap.size):=by
 subst hsize;subst hby;have hcap:n<=c:=h.sl.cap
 by_cases hroom:n+m<=c
 ·obtain⟨g,rfl,hr⟩:∃b,A=some ⟨b,0,none⟩∧Rw w b T i.size n c xs:=by
   rcases h with ⟨_,_,h0,_⟩|h
   ·omega
   ·exact h
  obtain⟨cur,hg,hcs,htake⟩:=hr.ex;have hl:=hr.len;have hfit:n*i.size+ys.length<=cur.size:=by rw [hs.newsLen,hcs,<-Nat.add_mul];exact Nat.mul_le_mul_right _ hroom
  have hrun:=run_append_room_src (P:=P) w t tx ty T i ht hi g 0 n c x m ys hs hroom (λ j hj=>by simp [World.cell?,hg];omega) (λ j hj=>by simp [World.frozen?,hg]);rw [Nat.zero_add,ja8 P hg hfit hs.one] at hrun;have hlen:(xs++ys).length=(n+m)*i.size:=by rw [List.length_append,hl,hs.newsLen,Nat.add_mul]
  refine⟨g,c,_,hrun,⟨⟨_,setRow_heap w g cur _ T _ hg, ?_, ?_⟩,hroom,hr.top⟩,⟨rfl,rfl,rfl,by simp,λ k hk hnk=>setRow_other w g k _ (λ e=>hnk ⟨0,by rw [e]⟩)⟩, .inl rfl⟩
  ·simp only [List.size_toArray,List.length_append,List.length_take,List.length_drop,Array.length_toList]
   omega
  ·rw [htake,<-hlen]
   exact List.take_left
 ·have hc:c<n+m:=by omega
  have hsl:=h.sl;have hrun:=run_append_grow_src (P:=P) w t tx ty T i z ht hi hz A n c xs (hsl.drew.firstCells) x m ys hs hc (by unfold maxLen at h63;omega) (growslice_fits hc hbytes);have hge:=grownCap_ge w (n+m) c T;have hcm:grownCap w (n+m) c T<=maxLen:=grownCap_le_maxLen w (n+m) c T h63;have hlen:(xs++ys).length=(n+m)*i.size:=by rw [List.length_append,hsl.len,hs.newsLen,Nat.add_mul]
  refine⟨w.heap.size,_,_,hrun,⟨⟨_,heap_alloc_new w.drew _, ?_, ?_⟩,hge,hcm⟩,((Fr.refl _ _).drew).alloc _, .inr rfl⟩
  ·simp only [Array.size_append,List.size_toArray,size_zeroCells,hzs,hlen,<-Nat.add_mul]
   congr 1
   omega
  ·simp only [Array.toList_append]
   rw [<-hlen];exact List.take_left
theorem jb6 {P:Program}{o:Oper}{a:Act}{K:Act->World->Prop}{Q:Exit->Act->World->Prop}(s x:Operand)(t tx:TypeId)
  (ho:o.op= .call {callee:= .builtin .append,args:= #[s,x],argTypes:= #[t,tx]})
  (i:TypeInfo)(z:Value)(bytes:Nat)(ht:P.underlying t=some (.slice T))(hi:P.info? T=some i)(hz:i.zero=some z)
  (hsize:i.size=size)(hby:i.bytes=bytes)(hzs:z.cells.size=size)(hsz:0<size)(hv:a.eval s= .slice A n c)(h:Rn w A T size n c xs)
  (xv:Value)(m:Nat)(ys:List Value)(hx:a.eval x=xv)(hs:Src P size tx xv m ys w)(hm:0<m)(h63:n+m<=maxLen)(hbytes:(n+m)*bytes<=140737488355328)
  (hk:∀b c' w',Rw w' b T size (n+m) c' (xs++ys)->Fr (Bk A) w w' ->(A=some ⟨b,0,none⟩∨b=w.heap.size)->K (a.put o.dst (.slice (some ⟨b,0,none⟩) (n+m) c')) w'):o.wp P a w K Q:=by
 obtain⟨b,c',w',hr,h2,h3,h4⟩:=jdZ (P:=P) t tx o.type i z bytes ht hi hz hsize hby hzs hsz h xv m ys hs hm h63 hbytes;unfold Oper.wp execOp;simp only [ho,resolve,invoke,builtin,Sem.run_bind,Sem.run_pure,Result.andThen_ok,List.map_toArray,List.map_cons,List.map_nil,hv,hx,hr];exact hk b c' w' h2 h3 h4
theorem jcM {P:Program}{ops:Array Oper}{rest:List Oper}{o:Oper}{a:Act}{Q:Exit->Act->World->Prop}(hgd:o.guard=none)(s x:Operand)(t tx:TypeId)
  (ho:o.op= .call {callee:= .builtin .append,args:= #[s,x],argTypes:= #[t,tx]})
  (i:TypeInfo)(z:Value)(bytes:Nat)(ht:P.underlying t=some (.slice T))(hi:P.info? T=some i)(hz:i.zero=some z)
  (hsize:i.size=size)(hby:i.bytes=bytes)(hzs:z.cells.size=size)(hsz:0<size)(hv:a.eval s= .slice A n c)(h:Rn w A T size n c xs)
  (xv:Value)(m:Nat)(ys:List Value)(hx:a.eval x=xv)(hs:Src P size tx xv m ys w)(hm:0<m)(h63:n+m<=maxLen)(hbytes:(n+m)*bytes<=140737488355328)
  (hk:∀b c' w',Rw w' b T size (n+m) c' (xs++ys)->Fr (Bk A) w w' ->(A=some ⟨b,0,none⟩∨b=w.heap.size)->wpList P ops Q rest (a.put o.dst (.slice (some ⟨b,0,none⟩) (n+m) c')) w'):wpList P ops Q (o::rest) a w:=
 wpList_plain hgd λ _ hK=>jb6 s x t tx ho i z bytes ht hi hz hsize hby hzs hsz hv h xv m ys hx hs hm h63 hbytes λ b c' w' h2 h3 h4=>hK _ _ (hk b c' w' h2 h3 h4)
theorem jeO {P:Program}{ops:Array Oper}{rest:List Oper}{o:Oper}{a:Act}{Q:Exit->Act->World->Prop}(hgd:o.guard=none)(s x:Operand)(t tx:TypeId)
  (ho:o.op= .call {callee:= .builtin .append,args:= #[s,x],argTypes:= #[t,tx]})
  (i:TypeInfo)(ht:P.underlying t=some (.slice T))(hi:P.info? T=some i)(hsize:i.size=size)(hv:a.eval s= .slice A n c)(hc:n<=c)
  (xv:Value)(hx:a.eval x=xv)(hs:Src P size tx xv 0 [] w)
  (hk:wpList P ops Q rest (a.put o.dst (.slice A n c)) w):wpList P ops Q (o::rest) a w:=by
 subst hsize;have hr:=run_append_nothing (P:=P) w t tx o.type T i ht hi A n c hc xv hs;refine wpList_plain hgd λ _ hK=> ?_
 unfold Oper.wp execOp;simp only [ho,resolve,invoke,builtin,Sem.run_bind,Sem.run_pure,Result.andThen_ok,List.map_toArray,List.map_cons,List.map_nil,hv,hx,hr];exact hK _ _ hk
theorem jg5 {P:Program}(t tx ty:TypeId)(i:TypeInfo)(z:Value)(bytes:Nat)(ht:P.underlying t=some (.slice T))(hi:P.info? T=some i)(hz:i.zero=some z)
  (hsize:i.size=size)(hby:i.bytes=bytes)(hzs:z.cells.size=size)(hsz:0<size)(h:Rn w A T size n c xs)
  (x:Value)(m:Nat)(ys:List Value)(hs:Src P size tx x m ys w)(h63:n+m<=maxLen)(hbytes:(n+m)*bytes<=140737488355328):
  ∃A' c' w',(Builtin.append_ #[t,tx] ty #[.slice A n c,x]).run P w= .ok (.slice A' (n+m) c') w' ∧Rn w' A' T size (n+m) c' (xs++ys)∧Fr (Bk A) w w' ∧(A' =A∨A' =some ⟨w.heap.size,0,none⟩):=by
 by_cases hm:m=0
 ·subst hm
  have hy:ys= []:=List.eq_nil_of_length_eq_zero (by have:=hs.newsLen;omega);subst hy;subst hsize;have hcap:n<=c:=h.sl.cap;exact⟨A,c,w,run_append_nothing w t tx ty T i ht hi A n c hcap x hs,by simpa using h,Fr.refl _ _, .inl rfl⟩
 ·obtain⟨b,c',w',h1,h2,h3,h4⟩:=jdZ (P:=P) t tx ty i z bytes ht hi hz hsize hby hzs hsz h x m ys hs (by omega) h63 hbytes
  exact⟨_,c',w',h1, .inr ⟨b,rfl,h2⟩,h3,h4.imp (λ e=>e.symm) (λ e=>by rw [e])⟩
theorem jbc {P:Program}{o:Oper}{a:Act}{K:Act->World->Prop}{Q:Exit->Act->World->Prop}(s x:Operand)(t tx:TypeId)
  (ho:o.op= .call {callee:= .builtin .append,args:= #[s,x],argTypes:= #[t,tx]})
  (i:TypeInfo)(z:Value)(bytes:Nat)(ht:P.underlying t=some (.slice T))(hi:P.info? T=some i)(hz:i.zero=some z)
  (hsize:i.size=size)(hby:i.bytes=bytes)(hzs:z.cells.size=size)(hsz:0<size)(hv:a.eval s= .slice A n c)(h:Rn w A T size n c xs)
  (xv:Value)(m:Nat)(ys:List Value)(hx:a.eval x=xv)(hs:Src P size tx xv m ys w)(h63:n+m<=maxLen)(hbytes:(n+m)*bytes<=140737488355328)
  (hk:∀A' c' w',Rn w' A' T size (n+m) c' (xs++ys)->Fr (Bk A) w w' ->(A' =A∨A' =some ⟨w.heap.size,0,none⟩)->K (a.put o.dst (.slice A' (n+m) c')) w'):o.wp P a w K Q:=by
 obtain⟨A',c',w',hr,h2,h3,h4⟩:=jg5 (P:=P) t tx o.type i z bytes ht hi hz hsize hby hzs hsz h xv m ys hs h63 hbytes;unfold Oper.wp execOp;simp only [ho,resolve,invoke,builtin,Sem.run_bind,Sem.run_pure,Result.andThen_ok,List.map_toArray,List.map_cons,List.map_nil,hv,hx,hr];exact hk A' c' w' h2 h3 h4
theorem jbA {P:Program}{ops:Array Oper}{rest:List Oper}{o:Oper}{a:Act}{Q:Exit->Act->World->Prop}(hgd:o.guard=none)(s x:Operand)(t tx:TypeId)
  (ho:o.op= .call {callee:= .builtin .append,args:= #[s,x],argTypes:= #[t,tx]})
  (i:TypeInfo)(z:Value)(bytes:Nat)(ht:P.underlying t=some (.slice T))(hi:P.info? T=some i)(hz:i.zero=some z)
  (hsize:i.size=size)(hby:i.bytes=bytes)(hzs:z.cells.size=size)(hsz:0<size)(hv:a.eval s= .slice A n c)(h:Rn w A T size n c xs)
  (xv:Value)(m:Nat)(ys:List Value)(hx:a.eval x=xv)(hs:Src P size tx xv m ys w)(h63:n+m<=maxLen)(hbytes:(n+m)*bytes<=140737488355328)
  (hk:∀A' c' w',Rn w' A' T size (n+m) c' (xs++ys)->Fr (Bk A) w w' ->(A' =A∨A' =some ⟨w.heap.size,0,none⟩)->wpList P ops Q rest (a.put o.dst (.slice A' (n+m) c')) w'):wpList P ops Q (o::rest) a w:=
 wpList_plain hgd λ _ hK=>jbc s x t tx ho i z bytes ht hi hz hsize hby hzs hsz hv h xv m ys hx hs h63 hbytes λ A' c' w' h2 h3 h4=>hK _ _ (hk A' c' w' h2 h3 h4)
end
end
end
end Go.Proofs.YtmhejbihdghhaaaGreatDoor
